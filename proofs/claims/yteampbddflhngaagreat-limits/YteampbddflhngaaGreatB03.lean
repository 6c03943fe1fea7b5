import Derived.Test.YteampbddflhngaaGreatB02

namespace Go.Proofs.YteampbddflhngaaGreat
set_option maxRecDepth 100000
set_option maxHeartbeats 1000000
open Go.RowKit
variable {lo : Nat}
def AtomPost (o : Option (PLit × List Tok)) (w : World) (r : Nat) (wv : Value) (l : List Tok) (e : Ending) (w' : World) : Prop :=
 But r w w' /\ match o with
  | none => e = .returned (.tuple #[.agg #[.bool false, .string ByteArray.empty, .slice none 0 0], .bool false])
  | some (a, r2) => ∃ va, e = .returned (.tuple #[.agg #[.bool a.neg, .string a.pred, va], .bool true]) /\ SIn w.heap.size w' va a.args /\ Rd w' r wv l r2
theorem atom_no (w : World) (r : Nat) (wv : Value) (l rest : List Tok) (h : Rd w r wv l rest) (hl : l.length <= 500) (h1 : (hdK rest == 1) = false) :
  Calls Tryz.prog 142 #[.pointer (some ⟨r, 0, none⟩)] w fun e w' => AtomPost none w r wv l e w' := by
 have hlt := h.lt
 have hne : w.heap.size ≠ r := by omega
 go_enter Tryz.func142, Tryz.ntmps142
 go_wp2_with (first | (go_at_call 179; refine (peek_any _ r wv l rest (by exact h.below (by repeat' (first | with_reducible (first | exact Below.refl _ _ | assumption | refine bdrewN ?_ _ | refine Below.alloc ?_ ?_ _ | refine Below.drew ?_ | refine Below.setCell ?_ ?_ _) | go_size))) hl).mono ?_; rintro e w1 ⟨rfl, hb1⟩; have hB1 := bnext ((Below.refl _ _).alloc (Nat.le_refl _) _) hb1 (Nat.le_refl _); have hx1 := (Box.new w _ _).below hb1; have hr1 := h.below hB1) | (go_at_call 143; refine (take_any _ r wv l rest 1 (by exact hr1.below (by repeat' (first | with_reducible (first | exact Below.refl _ _ | assumption | refine bdrewN ?_ _ | refine Below.alloc ?_ ?_ _ | refine Below.drew ?_ | refine Below.setCell ?_ ?_ _) | go_size))) hl (by decide)).mono ?_; rintro e w2 ⟨rfl, hrd2, hbut2⟩; have hx2 := (hx1.below ((Below.refl _ _).alloc (Nat.le_refl _) _)).but hbut2 hne; obtain ⟨hc2, hf2⟩ := hx2.rules))
 have hB := (But.of hB1).trans (((But.refl r w1).alloc _).trans hbut2)
 exact bodyPost_ret (v := .tuple #[.agg #[.bool false, .string ByteArray.empty, .slice none 0 0], .bool false]) (by simp [results, Tryz.results142, go_sem, hc2]; rfl) rfl ⟨(by repeat' (first | (with_reducible exact But.refl _ _) | (with_reducible assumption) | (with_reducible refine But.drewN ?_ _) | (with_reducible refine But.alloc ?_ _) | (with_reducible refine But.drew ?_) | (with_reducible refine But.setCell ?_ _ _) | (with_reducible refine But.setNew ?_ ?_ _) | go_size)), rfl⟩
theorem atom_bare (w : World) (r : Nat) (wv : Value) (l rest : List Tok) (h : Rd w r wv l rest) (hl : l.length <= 500) (h1 : hdK rest = 1) (h4 : hdK rest.tail ≠ 4) :
  Calls Tryz.prog 142 #[.pointer (some ⟨r, 0, none⟩)] w fun e w' => AtomPost (some (⟨false, (rest.headD (0, ByteArray.empty)).2, []⟩, rest.tail)) w r wv l e w' := by
 have hlt := h.lt
 have hne : w.heap.size ≠ r := by omega
 generalize ht : (rest.headD (0, ByteArray.empty)).2 = t
 have HT : Hid ((rest.headD (0, ByteArray.empty)).2 = t) := ht
 clear ht
 have H1 : Hid (hdK rest = 1) := h1
 have HPK : Hid (∀ W, Rd W r wv l rest -> Calls Tryz.prog 179 #[.pointer (some ⟨r, 0, none⟩)] W fun e w' => e = .returned (.agg #[.int .i64 1, .string t]) /\ Below W.heap.size W w') := fun W hW => by
  have := peek_any W r wv l rest hW hl
  rw [h1, Hid.out HT] at this
  exact this
 have H4 : Hid (hdK rest.tail ≠ 4) := h4
 clear h1 h4 HT
 go_enter Tryz.func142, Tryz.ntmps142
 go_wp2_with (first | (go_at_call 179; refine (Hid.out HPK _ (by exact h.below (by repeat' (first | with_reducible (first | exact Below.refl _ _ | assumption | refine bdrewN ?_ _ | refine Below.alloc ?_ ?_ _ | refine Below.drew ?_ | refine Below.setCell ?_ ?_ _) | go_size)))).mono ?_; rintro e w1 ⟨rfl, hb1⟩; have hB1 := bnext ((Below.refl _ _).alloc (Nat.le_refl _) _) hb1 (Nat.le_refl _); have hx1 := (Box.new w _ _).below hb1; have hz1 := hx1.lt; have hr1 := h.below hB1; have hlt1 : r < w1.heap.size := (by omega); have hne1 : w1.heap.size ≠ r := (by omega)) | (go_at_call 143; have hq := hr2; refine (take_no _ r wv l rest.tail 4 hq hl (by decide) H4).mono ?_; rintro e w3 ⟨rfl, hr3, hbut3⟩; have hx3 := hx2.but hbut3 hne; have hy3 := hy2.but hbut3 hne1; clear hc2 hf2 hd2 he2; obtain ⟨hc3, hf3⟩ := hx3.rules; obtain ⟨hd3, he3⟩ := hy3.rules; have hz3 := hx3.lt; have hzy3 := hy3.lt; have hlt3 := hr3.lt; have hB3 := hB2.trans hbut3; clear hq) | (go_at_call 143; have hq := hr1; refine (take_yes _ r wv l rest 1 (by exact hq.below (by repeat' (first | with_reducible (first | exact Below.refl _ _ | assumption | refine bdrewN ?_ _ | refine Below.alloc ?_ ?_ _ | refine Below.drew ?_ | refine Below.setCell ?_ ?_ _) | go_size))) hl (by decide) H1).mono ?_; rintro e w2 ⟨rfl, hr2, hbut2⟩; have hx2 := (hx1.below ((Below.refl _ _).alloc (Nat.le_refl _) _)).but hbut2 hne; have hy2 := (Box.new w1 _ _).but hbut2 hne1; obtain ⟨hc2, hf2⟩ := hx2.rules; obtain ⟨hd2, he2⟩ := hy2.rules; have hz2 := hx2.lt; have hzy2 := hy2.lt; have hlt2 := hr2.lt; have hB2 := (But.of hB1).trans (((But.refl r w1).alloc _).trans hbut2); clear hq))
 exact bodyPost_ret (v := .tuple #[.agg #[.bool false, .string t, .slice none 0 0], .bool true]) (by simp [results, Tryz.results142, go_sem, hc3]) rfl ⟨(by repeat' (first | (with_reducible exact But.refl _ _) | (with_reducible assumption) | (with_reducible refine But.drewN ?_ _) | (with_reducible refine But.alloc ?_ _) | (with_reducible refine But.drew ?_) | (with_reducible refine But.setCell ?_ _ _) | (with_reducible refine But.setNew ?_ ?_ _) | go_size)), _, rfl, SIn.nil _, h.keep hr3 (by repeat' (first | with_reducible (first | exact Below.refl _ _ | assumption | refine bdrewN ?_ _ | refine Below.alloc ?_ ?_ _ | refine Below.drew ?_ | refine Below.setCell ?_ ?_ _) | go_size))⟩
theorem atom_open (w : World) (r : Nat) (wv : Value) (l rest : List Tok) (h : Rd w r wv l rest) (hl : l.length <= 500) (h1 : hdK rest = 1) (h4 : hdK rest.tail = 4) (h5 : pTerms rest.tail.tail = none) :
  Calls Tryz.prog 142 #[.pointer (some ⟨r, 0, none⟩)] w fun e w' => AtomPost none w r wv l e w' := by
 have hlt := h.lt
 have hne : w.heap.size ≠ r := by omega
 obtain ⟨t, HT⟩ : ∃ t, Hid ((rest.headD (0, ByteArray.empty)).2 = t) := ⟨_, rfl⟩
 have H1 : Hid (hdK rest = 1) := h1
 have HPK : Hid (∀ W, Rd W r wv l rest -> Calls Tryz.prog 179 #[.pointer (some ⟨r, 0, none⟩)] W fun e w' => e = .returned (.agg #[.int .i64 1, .string t]) /\ Below W.heap.size W w') := fun W hW => by
  have := peek_any W r wv l rest hW hl
  rw [h1, Hid.out HT] at this
  exact this
 have H4 : Hid (hdK rest.tail = 4) := h4
 have H5 : Hid (pTerms rest.tail.tail = none) := h5
 clear h1 h4 h5 HT
 go_enter Tryz.func142, Tryz.ntmps142
 go_wp2_with (first | (go_at_call 179; refine (Hid.out HPK _ (by exact h.below (by repeat' (first | with_reducible (first | exact Below.refl _ _ | assumption | refine bdrewN ?_ _ | refine Below.alloc ?_ ?_ _ | refine Below.drew ?_ | refine Below.setCell ?_ ?_ _) | go_size)))).mono ?_; rintro e w1 ⟨rfl, hb1⟩; have hB1 := bnext ((Below.refl _ _).alloc (Nat.le_refl _) _) hb1 (Nat.le_refl _); have hx1 := (Box.new w _ _).below hb1; have hz1 := hx1.lt; have hr1 := h.below hB1; have hlt1 : r < w1.heap.size := (by omega); have hne1 : w1.heap.size ≠ r := (by omega)) | (go_at_call 180; refine (terms_no _ r wv l rest.tail.tail hr3 hl H5).mono ?_; rintro e w4 ⟨rfl, hbut4⟩; have hx4 := hx3.but hbut4 hne; have hy4 := hy3.but hbut4 hne1; clear hc3 hf3 hd3 he3; obtain ⟨hc4, hf4⟩ := hx4.rules; obtain ⟨hd4, he4⟩ := hy4.rules; have hz4 := hx4.lt; have hzy4 := hy4.lt; have hB4 := hB3.trans hbut4) | (go_at_call 143; have hq := hr2; refine (take_yes _ r wv l rest.tail 4 hq hl (by decide) H4).mono ?_; rintro e w3 ⟨rfl, hr3, hbut3⟩; have hx3 := hx2.but hbut3 hne; have hy3 := hy2.but hbut3 hne1; clear hc2 hf2 hd2 he2; obtain ⟨hc3, hf3⟩ := hx3.rules; obtain ⟨hd3, he3⟩ := hy3.rules; have hz3 := hx3.lt; have hzy3 := hy3.lt; have hlt3 := hr3.lt; have hB3 := hB2.trans hbut3; clear hq) | (go_at_call 143; have hq := hr1; refine (take_yes _ r wv l rest 1 (by exact hq.below (by repeat' (first | with_reducible (first | exact Below.refl _ _ | assumption | refine bdrewN ?_ _ | refine Below.alloc ?_ ?_ _ | refine Below.drew ?_ | refine Below.setCell ?_ ?_ _) | go_size))) hl (by decide) H1).mono ?_; rintro e w2 ⟨rfl, hr2, hbut2⟩; have hx2 := (hx1.below ((Below.refl _ _).alloc (Nat.le_refl _) _)).but hbut2 hne; have hy2 := (Box.new w1 _ _).but hbut2 hne1; obtain ⟨hc2, hf2⟩ := hx2.rules; obtain ⟨hd2, he2⟩ := hy2.rules; have hz2 := hx2.lt; have hzy2 := hy2.lt; have hlt2 := hr2.lt; have hB2 := (But.of hB1).trans (((But.refl r w1).alloc _).trans hbut2); clear hq))
 exact bodyPost_ret (v := .tuple #[.agg #[.bool false, .string ByteArray.empty, .slice none 0 0], .bool false]) (by simp [results, Tryz.results142, go_sem, hc4]; rfl) rfl ⟨(by repeat' (first | (with_reducible exact But.refl _ _) | (with_reducible assumption) | (with_reducible refine But.drewN ?_ _) | (with_reducible refine But.alloc ?_ _) | (with_reducible refine But.drew ?_) | (with_reducible refine But.setCell ?_ _ _) | (with_reducible refine But.setNew ?_ ?_ _) | go_size)), rfl⟩
theorem atom_unshut (w : World) (r : Nat) (wv : Value) (l rest r2 : List Tok) (ts : List ByteArray) (h : Rd w r wv l rest) (hl : l.length <= 500) (h1 : hdK rest = 1) (h4 : hdK rest.tail = 4) (h5 : pTerms rest.tail.tail = some (ts, r2)) (h6 : hdK r2 ≠ 5) :
  Calls Tryz.prog 142 #[.pointer (some ⟨r, 0, none⟩)] w fun e w' => AtomPost none w r wv l e w' := by
 have hlt := h.lt
 have hne : w.heap.size ≠ r := by omega
 obtain ⟨t, HT⟩ : ∃ t, Hid ((rest.headD (0, ByteArray.empty)).2 = t) := ⟨_, rfl⟩
 have H1 : Hid (hdK rest = 1) := h1
 have HPK : Hid (∀ W, Rd W r wv l rest -> Calls Tryz.prog 179 #[.pointer (some ⟨r, 0, none⟩)] W fun e w' => e = .returned (.agg #[.int .i64 1, .string t]) /\ Below W.heap.size W w') := fun W hW => by
  have := peek_any W r wv l rest hW hl
  rw [h1, Hid.out HT] at this
  exact this
 have H4 : Hid (hdK rest.tail = 4) := h4
 have H5 : Hid (pTerms rest.tail.tail = some (ts, r2)) := h5
 have H6 : Hid (hdK r2 ≠ 5) := h6
 clear h1 h4 h5 h6 HT
 go_enter Tryz.func142, Tryz.ntmps142
 go_wp2_with (first | (go_at_call 179; refine (Hid.out HPK _ (by exact h.below (by repeat' (first | with_reducible (first | exact Below.refl _ _ | assumption | refine bdrewN ?_ _ | refine Below.alloc ?_ ?_ _ | refine Below.drew ?_ | refine Below.setCell ?_ ?_ _) | go_size)))).mono ?_; rintro e w1 ⟨rfl, hb1⟩; have hB1 := bnext ((Below.refl _ _).alloc (Nat.le_refl _) _) hb1 (Nat.le_refl _); have hx1 := (Box.new w _ _).below hb1; have hz1 := hx1.lt; have hr1 := h.below hB1; have hlt1 : r < w1.heap.size := (by omega); have hne1 : w1.heap.size ≠ r := (by omega)) | (go_at_call 180; refine (terms_yes _ r wv l rest.tail.tail r2 ts hr3 hl H5).mono ?_; rintro e w4 ⟨va, rfl, hsin, hr4, hbut4⟩; obtain ⟨ao, cp, rfl⟩ := hsin.shape; have hx4 := hx3.but hbut4 hne; have hy4 := hy3.but hbut4 hne1; clear hc3 hf3 hd3 he3; obtain ⟨hc4, hf4⟩ := hx4.rules; obtain ⟨hd4, he4⟩ := hy4.rules; have hz4 := hx4.lt; have hzy4 := hy4.lt; have hlt4 := hr4.lt; have hB4 := hB3.trans hbut4) | (go_at_call 143; have hq := hr4; refine (take_no _ r wv l r2 5 hq hl (by decide) H6).mono ?_; rintro e w5 ⟨rfl, hr5, hbut5⟩; have hx5 := hx4.but hbut5 hne; have hy5 := hy4.but hbut5 hne1; clear hc4 hf4 hd4 he4; obtain ⟨hc5, hf5⟩ := hx5.rules; obtain ⟨hd5, he5⟩ := hy5.rules; have hz5 := hx5.lt; have hzy5 := hy5.lt; have hlt5 := hr5.lt; have hB5 := hB4.trans hbut5; clear hq) | (go_at_call 143; have hq := hr2; refine (take_yes _ r wv l rest.tail 4 hq hl (by decide) H4).mono ?_; rintro e w3 ⟨rfl, hr3, hbut3⟩; have hx3 := hx2.but hbut3 hne; have hy3 := hy2.but hbut3 hne1; clear hc2 hf2 hd2 he2; obtain ⟨hc3, hf3⟩ := hx3.rules; obtain ⟨hd3, he3⟩ := hy3.rules; have hz3 := hx3.lt; have hzy3 := hy3.lt; have hlt3 := hr3.lt; have hB3 := hB2.trans hbut3; clear hq) | (go_at_call 143; have hq := hr1; refine (take_yes _ r wv l rest 1 (by exact hq.below (by repeat' (first | with_reducible (first | exact Below.refl _ _ | assumption | refine bdrewN ?_ _ | refine Below.alloc ?_ ?_ _ | refine Below.drew ?_ | refine Below.setCell ?_ ?_ _) | go_size))) hl (by decide) H1).mono ?_; rintro e w2 ⟨rfl, hr2, hbut2⟩; have hx2 := (hx1.below ((Below.refl _ _).alloc (Nat.le_refl _) _)).but hbut2 hne; have hy2 := (Box.new w1 _ _).but hbut2 hne1; obtain ⟨hc2, hf2⟩ := hx2.rules; obtain ⟨hd2, he2⟩ := hy2.rules; have hz2 := hx2.lt; have hzy2 := hy2.lt; have hlt2 := hr2.lt; have hB2 := (But.of hB1).trans (((But.refl r w1).alloc _).trans hbut2); clear hq))
 exact bodyPost_ret (v := .tuple #[.agg #[.bool false, .string ByteArray.empty, .slice none 0 0], .bool false]) (by simp [results, Tryz.results142, go_sem, hc5]; rfl) rfl ⟨(by repeat' (first | (with_reducible exact But.refl _ _) | (with_reducible assumption) | (with_reducible refine But.drewN ?_ _) | (with_reducible refine But.alloc ?_ _) | (with_reducible refine But.drew ?_) | (with_reducible refine But.setCell ?_ _ _) | (with_reducible refine But.setNew ?_ ?_ _) | go_size)), rfl⟩
theorem atom_terms (w : World) (r : Nat) (wv : Value) (l rest r2 : List Tok) (ts : List ByteArray) (h : Rd w r wv l rest) (hl : l.length <= 500) (h1 : hdK rest = 1) (h4 : hdK rest.tail = 4) (h5 : pTerms rest.tail.tail = some (ts, r2)) (h6 : hdK r2 = 5) :
  Calls Tryz.prog 142 #[.pointer (some ⟨r, 0, none⟩)] w fun e w' => AtomPost (some (⟨false, (rest.headD (0, ByteArray.empty)).2, ts⟩, r2.tail)) w r wv l e w' := by
 have hlt := h.lt
 have hne : w.heap.size ≠ r := by omega
 generalize ht : (rest.headD (0, ByteArray.empty)).2 = t
 have HT : Hid ((rest.headD (0, ByteArray.empty)).2 = t) := ht
 clear ht
 have H1 : Hid (hdK rest = 1) := h1
 have HPK : Hid (∀ W, Rd W r wv l rest -> Calls Tryz.prog 179 #[.pointer (some ⟨r, 0, none⟩)] W fun e w' => e = .returned (.agg #[.int .i64 1, .string t]) /\ Below W.heap.size W w') := fun W hW => by
  have := peek_any W r wv l rest hW hl
  rw [h1, Hid.out HT] at this
  exact this
 have H4 : Hid (hdK rest.tail = 4) := h4
 have H5 : Hid (pTerms rest.tail.tail = some (ts, r2)) := h5
 have H6 : Hid (hdK r2 = 5) := h6
 clear h1 h4 h5 h6 HT
 go_enter Tryz.func142, Tryz.ntmps142
 go_wp2_with (first | (go_at_call 179; refine (Hid.out HPK _ (by exact h.below (by repeat' (first | with_reducible (first | exact Below.refl _ _ | assumption | refine bdrewN ?_ _ | refine Below.alloc ?_ ?_ _ | refine Below.drew ?_ | refine Below.setCell ?_ ?_ _) | go_size)))).mono ?_; rintro e w1 ⟨rfl, hb1⟩; have hB1 := bnext ((Below.refl _ _).alloc (Nat.le_refl _) _) hb1 (Nat.le_refl _); have hx1 := (Box.new w _ _).below hb1; have hz1 := hx1.lt; have hr1 := h.below hB1; have hlt1 : r < w1.heap.size := (by omega); have hne1 : w1.heap.size ≠ r := (by omega)) | (go_at_call 180; refine (terms_yes _ r wv l rest.tail.tail r2 ts hr3 hl H5).mono ?_; rintro e w4 ⟨va, rfl, hsin, hr4, hbut4⟩; obtain ⟨ao, cp, rfl⟩ := hsin.shape; have hx4 := hx3.but hbut4 hne; have hy4 := hy3.but hbut4 hne1; clear hc3 hf3 hd3 he3; obtain ⟨hc4, hf4⟩ := hx4.rules; obtain ⟨hd4, he4⟩ := hy4.rules; have hz4 := hx4.lt; have hzy4 := hy4.lt; have hlt4 := hr4.lt; have hB4 := hB3.trans hbut4) | (go_at_call 143; have hq := hr4; refine (take_yes _ r wv l r2 5 hq hl (by decide) H6).mono ?_; rintro e w5 ⟨rfl, hr5, hbut5⟩; have hx5 := hx4.but hbut5 hne; have hy5 := hy4.but hbut5 hne1; clear hc4 hf4 hd4 he4; obtain ⟨hc5, hf5⟩ := hx5.rules; obtain ⟨hd5, he5⟩ := hy5.rules; have hz5 := hx5.lt; have hzy5 := hy5.lt; have hlt5 := hr5.lt; have hB5 := hB4.trans hbut5; clear hq) | (go_at_call 143; have hq := hr2; refine (take_yes _ r wv l rest.tail 4 hq hl (by decide) H4).mono ?_; rintro e w3 ⟨rfl, hr3, hbut3⟩; have hx3 := hx2.but hbut3 hne; have hy3 := hy2.but hbut3 hne1; clear hc2 hf2 hd2 he2; obtain ⟨hc3, hf3⟩ := hx3.rules; obtain ⟨hd3, he3⟩ := hy3.rules; have hz3 := hx3.lt; have hzy3 := hy3.lt; have hlt3 := hr3.lt; have hB3 := hB2.trans hbut3; clear hq) | (go_at_call 143; have hq := hr1; refine (take_yes _ r wv l rest 1 (by exact hq.below (by repeat' (first | with_reducible (first | exact Below.refl _ _ | assumption | refine bdrewN ?_ _ | refine Below.alloc ?_ ?_ _ | refine Below.drew ?_ | refine Below.setCell ?_ ?_ _) | go_size))) hl (by decide) H1).mono ?_; rintro e w2 ⟨rfl, hr2, hbut2⟩; have hx2 := (hx1.below ((Below.refl _ _).alloc (Nat.le_refl _) _)).but hbut2 hne; have hy2 := (Box.new w1 _ _).but hbut2 hne1; obtain ⟨hc2, hf2⟩ := hx2.rules; obtain ⟨hd2, he2⟩ := hy2.rules; have hz2 := hx2.lt; have hzy2 := hy2.lt; have hlt2 := hr2.lt; have hB2 := (But.of hB1).trans (((But.refl r w1).alloc _).trans hbut2); clear hq))
 obtain ⟨c4, f4, hcl⟩ := hr4.cell
 have hs5 := hsin.but hbut5 hcl (by decide)
 exact bodyPost_ret (v := .tuple #[.agg #[.bool false, .string t, .slice ao ts.length cp], .bool true]) (by simp [results, Tryz.results142, go_sem, hc5]) rfl ⟨(by repeat' (first | (with_reducible exact But.refl _ _) | (with_reducible assumption) | (with_reducible refine But.drewN ?_ _) | (with_reducible refine But.alloc ?_ _) | (with_reducible refine But.drew ?_) | (with_reducible refine But.setCell ?_ _ _) | (with_reducible refine But.setNew ?_ ?_ _) | go_size)), _, rfl, (hs5.low hB3.size).but (r := w.heap.size) (by repeat' (first | (with_reducible exact But.refl _ _) | (with_reducible assumption) | (with_reducible refine But.drewN ?_ _) | (with_reducible refine But.alloc ?_ _) | (with_reducible refine But.drew ?_) | (with_reducible refine But.setCell ?_ _ _) | (with_reducible refine But.setNew ?_ ?_ _) | go_size)) hx5 (by decide), h.keep hr5 (by repeat' (first | with_reducible (first | exact Below.refl _ _ | assumption | refine bdrewN ?_ _ | refine Below.alloc ?_ ?_ _ | refine Below.drew ?_ | refine Below.setCell ?_ ?_ _) | go_size))⟩
theorem atom_any (w : World) (r : Nat) (wv : Value) (l rest : List Tok) (h : Rd w r wv l rest) (hl : l.length <= 500) :
  Calls Tryz.prog 142 #[.pointer (some ⟨r, 0, none⟩)] w fun e w' => AtomPost (pAtom rest) w r wv l e w' := by
 unfold pAtom
 split
 · rename_i h1
  split
  · rename_i h4
   split
   · rename_i h5; exact atom_open w r wv l rest h hl h1 h4 h5
   · rename_i ts r2 h5
    split
    · rename_i h6; exact atom_terms w r wv l rest r2 ts h hl h1 h4 h5 h6
    · rename_i h6; exact atom_unshut w r wv l rest r2 ts h hl h1 h4 h5 h6
  · rename_i h4; exact atom_bare w r wv l rest h hl h1 h4
 · rename_i h1; exact atom_no w r wv l rest h hl (by simpa using h1)
end Go.Proofs.YteampbddflhngaaGreat

namespace Go.Proofs.YteampbddflhngaaGreat
set_option maxRecDepth 100000
set_option maxHeartbeats 1000000
open Go.RowKit
variable {lo : Nat}
theorem atom_none (w : World) (r : Nat) (wv : Value) (l rest : List Tok) (h : Rd w r wv l rest) (hl : l.length <= 500) (hp : pAtom rest = none) :
  Calls Tryz.prog 142 #[.pointer (some ⟨r, 0, none⟩)] w fun e w' => e = .returned (.tuple #[.agg #[.bool false, .string ByteArray.empty, .slice none 0 0], .bool false]) /\ But r w w' := by
 refine (atom_any w r wv l rest h hl).mono ?_
 rintro e w' ⟨h1, h2⟩
 rw [hp] at h2
 exact ⟨h2, h1⟩
theorem atom_some (w : World) (r : Nat) (wv : Value) (l rest r2 : List Tok) (a : PLit) (h : Rd w r wv l rest) (hl : l.length <= 500) (hp : pAtom rest = some (a, r2)) :
  Calls Tryz.prog 142 #[.pointer (some ⟨r, 0, none⟩)] w fun e w' => ∃ va, e = .returned (.tuple #[.agg #[.bool a.neg, .string a.pred, va], .bool true]) /\ SIn w.heap.size w' va a.args /\ Rd w' r wv l r2 /\ But r w w' := by
 refine (atom_any w r wv l rest h hl).mono ?_
 rintro e w' ⟨h1, h2⟩
 rw [hp] at h2
 obtain ⟨v, a, b, c⟩ := h2
 exact ⟨v, a, b, c, h1⟩
theorem literal_no (b : Bool) (w : World) (r : Nat) (wv : Value) (l rest rest1 : List Tok) (h : Rd w r wv l rest) (hl : l.length <= 500)
  (htk : ∀ W, Rd W r wv l rest -> Calls Tryz.prog 143 #[.pointer (some ⟨r, 0, none⟩), .int .i64 8] W fun e w' => e = .returned (.bool b) /\ Rd w' r wv l rest1 /\ But r W w') (ha : pAtom rest1 = none) :
  Calls Tryz.prog 181 #[.pointer (some ⟨r, 0, none⟩)] w fun e w' => AtomPost none w r wv l e w' := by
 have hlt := h.lt
 have hne : w.heap.size ≠ r := by omega
 have HTK : Hid (∀ W, Rd W r wv l rest -> Calls Tryz.prog 143 #[.pointer (some ⟨r, 0, none⟩), .int .i64 8] W fun e w' => e = .returned (.bool b) /\ Rd w' r wv l rest1 /\ But r W w') := htk
 clear htk
 have HA : Hid (pAtom rest1 = none) := ha
 clear ha
 go_enter Tryz.func181, Tryz.ntmps181
 go_wp2_with (first | (go_at_call 143; refine (Hid.out HTK _ (by exact h.below (by repeat' (first | with_reducible (first | exact Below.refl _ _ | assumption | refine bdrewN ?_ _ | refine Below.alloc ?_ ?_ _ | refine Below.drew ?_ | refine Below.setCell ?_ ?_ _) | go_size)))).mono ?_; rintro e w1 ⟨rfl, hr1, hbut1⟩; have hx1 := (Box.new w _ _).but hbut1 hne; have hz1 := hx1.lt; have hlt1 := hr1.lt; have hB1 := ((But.refl r w).alloc _).trans hbut1) | (go_at_call 142; refine (atom_none _ r wv l rest1 hr1 hl HA).mono ?_; rintro e w2 ⟨rfl, hbut2⟩; have hx2 := hx1.but hbut2 hne; obtain ⟨hc2, hf2⟩ := hx2.rules; have hz2 := hx2.lt; have hB2 := hB1.trans hbut2))
 exact bodyPost_ret (v := .tuple #[.agg #[.bool false, .string ByteArray.empty, .slice none 0 0], .bool false]) (by simp [results, Tryz.results181, go_sem, hc2, hz2]; rfl) rfl ⟨(by repeat' (first | (with_reducible exact But.refl _ _) | (with_reducible assumption) | (with_reducible refine But.drewN ?_ _) | (with_reducible refine But.alloc ?_ _) | (with_reducible refine But.drew ?_) | (with_reducible refine But.setCell ?_ _ _) | (with_reducible refine But.setNew ?_ ?_ _) | go_size)), rfl⟩
theorem literal_yes (b : Bool) (w : World) (r : Nat) (wv : Value) (l rest rest1 r2 : List Tok) (a : PLit) (h : Rd w r wv l rest) (hl : l.length <= 500)
  (htk : ∀ W, Rd W r wv l rest -> Calls Tryz.prog 143 #[.pointer (some ⟨r, 0, none⟩), .int .i64 8] W fun e w' => e = .returned (.bool b) /\ Rd w' r wv l rest1 /\ But r W w') (ha : pAtom rest1 = some (a, r2)) :
  Calls Tryz.prog 181 #[.pointer (some ⟨r, 0, none⟩)] w fun e w' => AtomPost (some ({ a with neg := b }, r2)) w r wv l e w' := by
 have hlt := h.lt
 have hne : w.heap.size ≠ r := by omega
 have HTK : Hid (∀ W, Rd W r wv l rest -> Calls Tryz.prog 143 #[.pointer (some ⟨r, 0, none⟩), .int .i64 8] W fun e w' => e = .returned (.bool b) /\ Rd w' r wv l rest1 /\ But r W w') := htk
 clear htk
 have HA : Hid (pAtom rest1 = some (a, r2)) := ha
 clear ha
 go_enter Tryz.func181, Tryz.ntmps181
 go_wp2_with (first | (go_at_call 143; refine (Hid.out HTK _ (by exact h.below (by repeat' (first | with_reducible (first | exact Below.refl _ _ | assumption | refine bdrewN ?_ _ | refine Below.alloc ?_ ?_ _ | refine Below.drew ?_ | refine Below.setCell ?_ ?_ _) | go_size)))).mono ?_; rintro e w1 ⟨rfl, hr1, hbut1⟩; have hx1 := (Box.new w _ _).but hbut1 hne; have hz1 := hx1.lt; have hlt1 := hr1.lt; have hB1 := ((But.refl r w).alloc _).trans hbut1) | (go_at_call 142; refine (atom_some _ r wv l rest1 r2 a hr1 hl HA).mono ?_; rintro e w2 ⟨va, rfl, hsin, hr2, hbut2⟩; obtain ⟨ao, cp, rfl⟩ := hsin.shape; have hx2 := hx1.but hbut2 hne; obtain ⟨hc2, hf2⟩ := hx2.rules; have hz2 := hx2.lt; have hB2 := hB1.trans hbut2))
 exact bodyPost_ret (v := .tuple #[.agg #[.bool b, .string a.pred, .slice ao a.args.length cp], .bool true]) (by simp [results, Tryz.results181, go_sem, hc2, hz2]) rfl ⟨(by repeat' (first | (with_reducible exact But.refl _ _) | (with_reducible assumption) | (with_reducible refine But.drewN ?_ _) | (with_reducible refine But.alloc ?_ _) | (with_reducible refine But.drew ?_) | (with_reducible refine But.setCell ?_ _ _) | (with_reducible refine But.setNew ?_ ?_ _) | go_size)), _, rfl, (hsin.low hB1.size).but (r := w.heap.size) (by repeat' (first | (with_reducible exact But.refl _ _) | (with_reducible assumption) | (with_reducible refine But.drewN ?_ _) | (with_reducible refine But.alloc ?_ _) | (with_reducible refine But.drew ?_) | (with_reducible refine But.setCell ?_ _ _) | (with_reducible refine But.setNew ?_ ?_ _) | go_size)) hx2 (by decide), h.keep hr2 (by repeat' (first | with_reducible (first | exact Below.refl _ _ | assumption | refine bdrewN ?_ _ | refine Below.alloc ?_ ?_ _ | refine Below.drew ?_ | refine Below.setCell ?_ ?_ _) | go_size))⟩
theorem pAtom_neg {rest r2 : List Tok} {a : PLit} (h : pAtom rest = some (a, r2)) : a.neg = false := by
 unfold pAtom at h
 (repeat' split at h) <;> first | (cases h; done) | (simp at h; obtain ⟨rfl, _⟩ := h; rfl)
theorem literal_any (w : World) (r : Nat) (wv : Value) (l rest : List Tok) (h : Rd w r wv l rest) (hl : l.length <= 500) :
  Calls Tryz.prog 181 #[.pointer (some ⟨r, 0, none⟩)] w fun e w' => AtomPost (pLit rest) w r wv l e w' := by
 unfold pLit
 split
 · rename_i h8
  cases ha : pAtom rest.tail with
  | none => exact literal_no true w r wv l rest rest.tail h hl (fun W hW => take_yes W r wv l rest 8 hW hl (by decide) h8) ha
  | some z => obtain ⟨a, r2⟩ := z; exact literal_yes true w r wv l rest rest.tail r2 a h hl (fun W hW => take_yes W r wv l rest 8 hW hl (by decide) h8) ha
 · rename_i h8
  cases ha : pAtom rest with
  | none => exact literal_no false w r wv l rest rest h hl (fun W hW => take_no W r wv l rest 8 hW hl (by decide) h8) ha
  | some z =>
   obtain ⟨a, r2⟩ := z
   have := literal_yes false w r wv l rest rest r2 a h hl (fun W hW => take_no W r wv l rest 8 hW hl (by decide) h8) ha
   rwa [show ({ a with neg := false } : PLit) = a by rw [← pAtom_neg ha]] at this
end Go.Proofs.YteampbddflhngaaGreat
