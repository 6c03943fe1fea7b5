// Package words takes a text apart into its words (P3).
package words

import "derive/api"

// Kind tells what a word is.
type Kind int

// The kinds of words. None is what stands where there is no word.
const (
	None     Kind = 0
	Name     Kind = 1
	Variable Kind = 2
	Number   Kind = 3
	Open     Kind = 4 // (
	Close    Kind = 5 // )
	Comma    Kind = 6 // ,
	Stop     Kind = 7 // .
	Not      Kind = 8 // !
	If       Kind = 9 // :-
)

// Word is a word as it is written.
type Word struct {
	Kind Kind
	Text string
}

// Split gives the words of a text. It is false if a byte is no blank and in no word, or if a word is too long.
func Split(s string) ([]Word, bool) {
	var list []Word
	i := 0
	for i < len(s) {
		if isBlank(s[i]) {
			i++
			continue
		}
		w := wordAt(s, i)
		if w.Kind == None || len(w.Text) > api.MaxName {
			return nil, false
		}
		list = append(list, w)
		i += len(w.Text)
	}
	return list, true
}

func wordAt(s string, start int) Word {
	first := byteAt(s, start)
	second := byteAt(s, start+1)
	kind := kindOf(first, second)
	end := endOf(s, start, kind)
	if start < 0 || end > len(s) || start >= end {
		return Word{}
	}
	// A copy, since a part of s would keep the caller's text.
	return Word{Kind: kind, Text: string([]byte(s[start:end]))}
}

func kindOf(first, second byte) Kind {
	if isSmall(first) {
		return Name
	}
	if isCapital(first) {
		return Variable
	}
	if isDigit(first) {
		return Number
	}
	if first == ':' && second == '-' {
		return If
	}
	return signOf(first)
}

func signOf(c byte) Kind {
	switch c {
	case '(':
		return Open
	case ')':
		return Close
	case ',':
		return Comma
	case '.':
		return Stop
	case '!':
		return Not
	}
	return None
}

func endOf(s string, start int, kind Kind) int {
	switch kind {
	case None:
		return start
	case If:
		return start + 2
	case Name, Variable:
		return endOfLettersAndDigits(s, start)
	case Number:
		return endOfDigits(s, start)
	}
	return start + 1
}

func endOfLettersAndDigits(s string, start int) int {
	end := start
	for end < len(s) && isLetterOrDigit(s[end]) {
		end++
	}
	return end
}

func endOfDigits(s string, start int) int {
	end := start
	for end < len(s) && isDigit(s[end]) {
		end++
	}
	return end
}

// byteAt is 0, which is no blank and in no word, where the text has no byte.
func byteAt(s string, i int) byte {
	if i < 0 || i >= len(s) {
		return 0
	}
	return s[i]
}

func isBlank(c byte) bool { return c == ' ' || c == '\n' }

func isSmall(c byte) bool { return c >= 'a' && c <= 'z' }

func isCapital(c byte) bool { return c >= 'A' && c <= 'Z' }

func isDigit(c byte) bool { return c >= '0' && c <= '9' }

func isLetterOrDigit(c byte) bool { return isSmall(c) || isCapital(c) || isDigit(c) }
