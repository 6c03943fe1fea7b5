import Derived.Test.YteampbddflhngaaGreatP01
import Derived.Deep.QuietTactic
import Derived.BigQuiet
import Derived.Deep.LoopGhost

/- Pure functions for parsing (package clauses), and the shape of what it makes in memory. -/
namespace Go.Proofs.YteampbddflhngaaGreat
open Go.RowKit
variable {lo : Nat}

abbrev Tok := Int × ByteArray
structure PLit where
  neg : Bool
  pred : ByteArray
  args : List ByteArray
structure PClause where
  head : PLit
  body : List PLit

def isT (k : Int) : Bool := k == 1 || k == 3 || k == 2
def hdK : List Tok → Int
  | [] => 0
  | x :: _ => x.1
def pTerms : List Tok → Option (List ByteArray × List Tok)
  | [] => none
  | [x] => if isT x.1 then some ([x.2], []) else none
  | x :: y :: r => if isT x.1 then (if y.1 = 6 then (pTerms r).map fun z => (x.2 :: z.1, z.2) else some ([x.2], y :: r)) else none
theorem pTerms_no {k : Int} {t : ByteArray} {r : List Tok} (h : isT k = false) : pTerms ((k, t) :: r) = none := by cases r <;> simp [pTerms, h]
theorem pTerms_stop {k : Int} {t : ByteArray} {r : List Tok} (h : isT k = true) (h6 : hdK r ≠ 6) : pTerms ((k, t) :: r) = some ([t], r) := by
  cases r with
  | nil => simp [pTerms, h]
  | cons y r => simp only [hdK] at h6; simp [pTerms, h, h6]
theorem pTerms_more {k : Int} {t : ByteArray} {r : List Tok} (h : isT k = true) (h6 : hdK r = 6) : pTerms ((k, t) :: r) = (pTerms r.tail).map fun z => (t :: z.1, z.2) := by
  cases r with
  | nil => simp [hdK] at h6
  | cons y r => simp only [hdK] at h6; simp [pTerms, h, h6]
def pAtom (r : List Tok) : Option (PLit × List Tok) :=
  if hdK r = 1 then
    if hdK r.tail = 4 then
      match pTerms r.tail.tail with
      | none => none
      | some (ts, r2) => if hdK r2 = 5 then some (⟨false, (r.headD (0, ByteArray.empty)).2, ts⟩, r2.tail) else none
    else some (⟨false, (r.headD (0, ByteArray.empty)).2, []⟩, r.tail)
  else none
def pLit (r : List Tok) : Option (PLit × List Tok) :=
  if hdK r = 8 then (pAtom r.tail).map fun z => ({ z.1 with neg := true }, z.2) else pAtom r

/-- Blocks other than r are as they were. -/
structure But (r : Nat) (w w' : World) : Prop where
  os : w'.os = w.os
  tape : w'.tape = w.tape
  output : w'.output = w.output
  size : w.heap.size ≤ w'.heap.size
  block : ∀ k, k < w.heap.size → k ≠ r → w'.heap[k]? = w.heap[k]?
theorem But.refl (r : Nat) (w : World) : But r w w := ⟨rfl, rfl, rfl, Nat.le_refl _, fun _ _ _ => rfl⟩
theorem But.trans {r : Nat} {a b c : World} (h : But r a b) (k : But r b c) : But r a c :=
  ⟨k.os.trans h.os, k.tape.trans h.tape, k.output.trans h.output, Nat.le_trans h.size k.size, fun i hi hr => (k.block i (Nat.lt_of_lt_of_le hi h.size) hr).trans (h.block i hi hr)⟩
theorem But.of {r : Nat} {w w' : World} (h : Below w.heap.size w w') : But r w w' := ⟨h.os, h.tape, h.output, h.size, fun k hk _ => h.block k hk⟩
theorem But.below {r B : Nat} {w w' : World} (h : But r w w') (hr : B ≤ r) (hB : B ≤ w.heap.size) : Below B w w' := ⟨h.os, h.tape, h.output, h.size, fun k hk => h.block k (by omega) (by omega)⟩
theorem But.setCell {r : Nat} {a w : World} (h : But r a w) (o : Nat) (u : Value) : But r a (w.setCell ⟨r, o, none⟩ u) :=
  h.trans ⟨rfl, rfl, rfl, by simp [World.setCell], fun _ _ hr => Below.heap_setCell _ _ _ _ hr⟩
theorem But.drew {r : Nat} {a w : World} (h : But r a w) : But r a w.drew := ⟨h.os, h.tape, h.output, h.size, h.block⟩
theorem But.drewN {r : Nat} {a w : World} (h : But r a w) (n : Nat) : But r a (w.drewN n) := h.trans (But.of (bdrewN (Below.refl _ _) n))
theorem But.alloc {r : Nat} {a w : World} (h : But r a w) (o : Obj) : But r a (w.alloc o) := h.trans (But.of ((Below.refl _ _).alloc (Nat.le_refl _) o))
/-- A store into a block that is new since. -/
theorem But.setNew {r : Nat} {a w : World} (h : But r a w) {p : Addr} (hp : a.heap.size ≤ p.block) (u : Value) : But r a (w.setCell p u) :=
  ⟨h.os, h.tape, h.output, by simp [World.setCell]; exact h.size, fun k hk hr => (Below.heap_setCell _ _ _ _ (by omega)).trans (h.block k hk hr)⟩

theorem own_but {r : Nat} {w w' : World} {base : Nat} {e : TypeId} {size : Nat} {v : Value} {n : Nat} {xs : List Value} (h : w.ownsRow base e size v n xs) (hb : But r w w')
    {c : Array Value} {T : TypeId} {f : Nat × Nat} (hr : w.heap[r]? = some (.cells c T f)) (hT : T ≠ e) : w'.ownsRow base e size v n xs := by
  obtain ⟨h1, h2⟩ := h
  refine ⟨h1, ?_⟩
  rcases h2 with h2 | ⟨g, cap, cur, hv, hg, hh, rr⟩
  · exact Or.inl h2
  · refine Or.inr ⟨g, cap, cur, hv, hg, ?_, rr⟩
    rw [hb.block g (Array.getElem?_eq_some_iff.1 hh).1 (fun hgr => by subst hgr; rw [hh] at hr; simp at hr; exact hT hr.2.1.symm)]; exact hh

/-- What is owned, to be read. -/
theorem own_view {w : World} {base : Nat} {e : TypeId} {size : Nat} {v : Value} {n : Nat} {xs : List Value} (h : w.ownsRow base e size v n xs) : ∃ ao cap, v = .slice ao n cap := by
  obtain ⟨_, ⟨hv, hn⟩ | ⟨g, cap, cur, hv, _⟩⟩ := h
  · exact ⟨none, 0, by rw [hv, hn]⟩
  · exact ⟨_, cap, hv⟩
theorem own_cells {w : World} {base : Nat} {e : TypeId} {size : Nat} {v : Value} {n : Nat} {xs : List Value} (h : w.ownsRow base e size v n xs) (hn : 0 < n) :
    ∃ g cap, v = .slice (some ⟨g, 0, none⟩) n cap ∧ base ≤ g ∧ g < w.heap.size ∧ ∀ j u, xs[j]? = some u → w.cell? ⟨g, j, none⟩ = some u := by
  obtain ⟨hl, ⟨hv, h0⟩ | ⟨g, cap, cur, hv, hg, hh, hc1, hc2, hc3, hx⟩⟩ := h
  · omega
  · refine ⟨g, cap, hv, hg, (Array.getElem?_eq_some_iff.1 hh).1, fun j u hj => ?_⟩
    unfold World.cell?
    rw [hh]
    simp
    rw [← hx, List.getElem?_take] at hj
    split at hj
    · simpa using hj
    · simp at hj

/-- A block of the call's own, as it stands. -/
def Box (w : World) (b : Nat) (c : Array Value) (T : TypeId) : Prop := w.heap[b]? = some (.cells c T (0, 0))
theorem Box.lt {w : World} {b : Nat} {c : Array Value} {T : TypeId} (h : Box w b c T) : b < w.heap.size := (Array.getElem?_eq_some_iff.1 h).1
theorem Box.new (w : World) (c : Array Value) (T : TypeId) : Box (w.alloc (.cells c T)) w.heap.size c T := by unfold Box; show (w.heap.push _)[w.heap.size]? = _; simp
theorem Box.below {w w' : World} {b : Nat} {c : Array Value} {T : TypeId} (h : Box w b c T) (hb : Below w.heap.size w w') : Box w' b c T := by have := h.lt; unfold Box at *; rw [hb.block b this]; exact h
theorem Box.but {r : Nat} {w w' : World} {b : Nat} {c : Array Value} {T : TypeId} (h : Box w b c T) (hb : But r w w') (hne : b ≠ r) : Box w' b c T := by have := h.lt; unfold Box at *; rw [hb.block b this hne]; exact h
theorem Box.rules {w : World} {b : Nat} {c : Array Value} {T : TypeId} (h : Box w b c T) : (∀ o, w.cell? ⟨b, o, none⟩ = c[o]?) ∧ (∀ o, w.frozen? ⟨b, o, none⟩ = false) := by
  unfold Box at h
  exact ⟨fun o => by unfold World.cell?; rw [h]; simp, fun o => by unfold World.frozen?; rw [h]; simp⟩

/-- A list of texts in memory. -/
def SIn (lo : Nat) (w : World) (v : Value) (l : List ByteArray) : Prop := w.ownsRow lo 9 1 v l.length (l.map Value.string)
theorem own_low {w : World} {a b : Nat} {e : TypeId} {size : Nat} {v : Value} {n : Nat} {xs : List Value} (h : w.ownsRow b e size v n xs) (hab : a ≤ b) : w.ownsRow a e size v n xs := by
  obtain ⟨h1, h2⟩ := h
  refine ⟨h1, ?_⟩
  rcases h2 with h2 | ⟨g, cap, cur, hv, hg, rr⟩
  · exact Or.inl h2
  · exact Or.inr ⟨g, cap, cur, hv, by omega, rr⟩
theorem SIn.low {a b : Nat} {w : World} {v : Value} {l : List ByteArray} (h : SIn b w v l) (hab : a ≤ b) : SIn a w v l := own_low h hab
theorem SIn.nil (w : World) : SIn lo w (.slice none 0 0) [] := World.ownsRow_nil _ _ _ _
theorem SIn.shape {w : World} {v : Value} {l : List ByteArray} (h : SIn lo w v l) : ∃ ao cap, v = .slice ao l.length cap := own_view h
theorem SIn.below {w w' : World} {v : Value} {l : List ByteArray} (h : SIn lo w v l) (hb : Below w.heap.size w w') : SIn lo w' v l := owns_below h hb
theorem SIn.but {r : Nat} {w w' : World} {v : Value} {l : List ByteArray} (h : SIn lo w v l) (hb : But r w w') {c : Array Value} {T : TypeId} {f : Nat × Nat} (hr : w.heap[r]? = some (.cells c T f)) (hT : T ≠ 9) : SIn lo w' v l := by
  exact own_but h hb hr hT

/-- The reader: its box at block r, the words l, of which 'rest' are still to come. -/
structure Rd (w : World) (r : Nat) (wv : Value) (l rest : List Tok) : Prop where
  box : ∃ p : Nat, p ≤ l.length ∧ rest = l.drop p ∧ w.heap[r]? = some (.cells #[wv, .int .i64 p] 185 (0, 0))
  words : ∃ base, w.ownsRow base 182 2 wv l.length (wcells l)
theorem Rd.cell {w : World} {r : Nat} {wv : Value} {l rest : List Tok} (h : Rd w r wv l rest) : ∃ c f, w.heap[r]? = some (.cells c 185 f) := by
  obtain ⟨p, _, _, hh⟩ := h.box; exact ⟨_, _, hh⟩
theorem Rd.lt {w : World} {r : Nat} {wv : Value} {l rest : List Tok} (h : Rd w r wv l rest) : r < w.heap.size := by
  obtain ⟨p, _, _, hh⟩ := h.box; exact (Array.getElem?_eq_some_iff.1 hh).1
theorem Rd.below {w w' : World} {r : Nat} {wv : Value} {l rest : List Tok} (h : Rd w r wv l rest) (hb : Below w.heap.size w w') : Rd w' r wv l rest := by
  have hlt := h.lt
  obtain ⟨⟨p, h1, h2, h3⟩, b, h4⟩ := h
  exact ⟨⟨p, h1, h2, by rw [hb.block r hlt]; exact h3⟩, b, owns_below h4 hb⟩

theorem wcells_length (l : List Tok) : (wcells l).length = l.length * 2 := by
  induction l with
  | nil => rfl
  | cons x l ih => simp [wcells] at ih ⊢; omega
theorem wcells_at (l : List Tok) (p : Nat) (k : Int) (t : ByteArray) (r : List Tok) (h : (k, t) :: r = l.drop p) : (wcells l)[p * 2]? = some (.int .i64 k) ∧ (wcells l)[p * 2 + 1]? = some (.string t) := by
  induction l generalizing p with
  | nil => simp at h
  | cons x l ih =>
    cases p with
    | zero => simp at h; obtain ⟨rfl, _⟩ := h; simp [wcells]
    | succ p =>
      have := ih p (by simpa using h)
      simp only [wcells, List.flatMap_cons] at this ⊢
      rw [show (p + 1) * 2 = p * 2 + 1 + 1 from by omega]
      simpa using this

/-- The reader's box, its two cells, and the word that comes. -/
theorem Rd.view {w : World} {r : Nat} {wv : Value} {l rest : List Tok} (h : Rd w r wv l rest) : ∃ (p : Nat) (ao : Option Addr) (cap : Nat), p ≤ l.length ∧ rest = l.drop p ∧ wv = .slice ao l.length cap ∧
    w.heap[r]? = some (.cells #[wv, .int .i64 p] 185 (0, 0)) ∧ w.cell? ⟨r, 0, none⟩ = some wv ∧ w.cell? ⟨r, 1, none⟩ = some (.int .i64 p) ∧ (∀ o, w.frozen? ⟨r, o, none⟩ = false) ∧
    (∀ k t r', rest = (k, t) :: r' → ∃ g, ao = some ⟨g, 0, none⟩ ∧ g < w.heap.size ∧ p < l.length ∧ w.cell? ⟨g, p * 2, none⟩ = some (.int .i64 k) ∧ w.cell? ⟨g, p * 2 + 1, none⟩ = some (.string t)) := by
  obtain ⟨⟨p, h1, h2, h3⟩, b, h4⟩ := h
  obtain ⟨ao, cap, hv⟩ := own_view h4
  refine ⟨p, ao, cap, h1, h2, hv, h3, by unfold World.cell?; rw [h3]; simp, by unfold World.cell?; rw [h3]; simp, fun o => by unfold World.frozen?; rw [h3]; simp, ?_⟩
  intro k t r' hr
  have hp : p < l.length := by
    rcases Nat.lt_or_ge p l.length with h | h
    · exact h
    · rw [List.drop_eq_nil_of_le h] at h2; rw [h2] at hr; cases hr
  obtain ⟨g, cap', hv', _, hg, hc⟩ := own_cells h4 (by omega)
  rw [hv] at hv'
  simp at hv'
  obtain ⟨w1, w2⟩ := wcells_at l p k t r' (by rw [← hr, h2])
  exact ⟨g, hv'.1, hg, hp, hc _ _ w1, hc _ _ w2⟩

/-- The reader over memory that grows: what was there when the call began (its box, its words) is kept. -/
theorem Rd.keep {w wO w2 : World} {r : Nat} {wv : Value} {l rest0 rest : List Tok} (h0 : Rd w r wv l rest0) (h : Rd wO r wv l rest) (hb : Below w.heap.size wO w2) : Rd w2 r wv l rest := by
  have hlt := h0.lt
  obtain ⟨_, b0, _, hw0⟩ := h0
  obtain ⟨⟨p, h1, h2, h3⟩, b, hl, hw⟩ := h
  refine ⟨⟨p, h1, h2, by rw [hb.block r hlt]; exact h3⟩, b, hl, ?_⟩
  rcases hw with hw | ⟨g, cap, cur, hv, hg, hh, rr⟩
  · exact Or.inl hw
  · refine Or.inr ⟨g, cap, cur, hv, hg, ?_, rr⟩
    rcases hw0 with ⟨hv0, _⟩ | ⟨g0, cap0, cur0, hv0, _, hh0, _⟩
    · rw [hv0] at hv; cases hv
    · rw [hv0] at hv; simp at hv; obtain ⟨rfl, rfl⟩ := hv
      rw [hb.block g0 (Array.getElem?_eq_some_iff.1 hh0).1]; exact hh
theorem But.onto {r : Nat} {a b c : World} (h : But r a b) (k : Below a.heap.size b c) : But r a c :=
  ⟨k.os.trans h.os, k.tape.trans h.tape, k.output.trans h.output, Nat.le_trans h.size k.size, fun i hi hr => (k.block i hi).trans (h.block i hi hr)⟩

/-- The reader one word on. -/
theorem Rd.next {w : World} {r : Nat} {wv : Value} {l rest : List Tok} {p : Nat} (h3 : w.heap[r]? = some (.cells #[wv, .int .i64 p] 185 (0, 0))) (hp : p < l.length) (h2 : rest = l.drop p)
    (hw : ∃ base, w.ownsRow base 182 2 wv l.length (wcells l)) : Rd (w.setCell ⟨r, 1, none⟩ (.int .i64 ((p : Int) + 1))) r wv l rest.tail := by
  refine ⟨⟨p + 1, hp, by rw [h2, List.tail_drop], ?_⟩, ?_⟩
  · simp [World.setCell, Array.getElem?_modify, h3]
  · obtain ⟨b, hb⟩ := hw
    exact ⟨b, own_but hb ((But.refl r w).setCell 1 _) h3 (by decide)⟩

end Go.Proofs.YteampbddflhngaaGreat

/- Walks: the reader's small methods. -/
namespace Go.Proofs.YteampbddflhngaaGreat
open Go.RowKit

set_option maxHeartbeats 400000 in
theorem isTerm_any (k : Int) (w : World) :
    Calls Tryz.prog 199 #[.int .i64 k] w fun e w' => e = .returned (.bool (isT k)) ∧ w' = w := by
  go_enter Tryz.func199, Tryz.ntmps199
  go_wp2
  all_goals go_ret
  all_goals go_light
  all_goals exact ⟨by simp_all [isT], rfl⟩

set_option maxHeartbeats 1000000 in
theorem peek_any (w : World) (r : Nat) (wv : Value) (l rest : List Tok) (h : Rd w r wv l rest) (_ : l.length ≤ 500) :
    Calls Tryz.prog 179 #[.pointer (some ⟨r, 0, none⟩)] w fun e w' => e = .returned (.agg #[.int .i64 (hdK rest), .string (rest.headD (0, ByteArray.empty)).2]) ∧ Below w.heap.size w w' := by
  have hlt := h.lt
  obtain ⟨p, ao, cap, hp, hr, rfl, hblk, hc0, hc1, hfz, hx⟩ := h.view
  clear h
  cases rest with
  | nil =>
    have hpl : p = l.length := by
      have := congrArg List.length hr; simp at this; omega
    clear hr hx
    subst hpl
    go_enter Tryz.func179, Tryz.ntmps179
    go_wp2
    go_quiet (fail)
    go_wp2
    go_returns
    exact ⟨rfl, (by repeat' (first | (with_reducible exact Below.refl _ _) | (with_reducible assumption) | (with_reducible refine bdrewN ?_ _) | (with_reducible refine Below.alloc ?_ ?_ _) | (with_reducible refine Below.drew ?_) | (with_reducible refine Below.setCell ?_ ?_ _) | go_size))⟩
  | cons x r' =>
    obtain ⟨k, t⟩ := x
    obtain ⟨g, rfl, hg, hpl, hg0, hg1⟩ := hx k t r' rfl
    clear hx hr
    go_enter Tryz.func179, Tryz.ntmps179
    go_wp2
    go_quiet (fail)
    go_wp2
    go_region
    all_goals go_wp2
    all_goals exact bodyPost_ret (v := .agg #[.int .i64 k, .string t]) (by simp [results, Tryz.results179, go_sem]) rfl ⟨rfl, (by repeat' (first | (with_reducible exact Below.refl _ _) | (with_reducible assumption) | (with_reducible refine bdrewN ?_ _) | (with_reducible refine Below.alloc ?_ ?_ _) | (with_reducible refine Below.drew ?_) | (with_reducible refine Below.setCell ?_ ?_ _) | go_size))⟩

set_option maxHeartbeats 1000000 in
theorem take_any (w : World) (r : Nat) (wv : Value) (l rest : List Tok) (k : Int) (h : Rd w r wv l rest) (hl : l.length ≤ 500) (hk : k ≠ 0) :
    Calls Tryz.prog 143 #[.pointer (some ⟨r, 0, none⟩), .int .i64 k] w fun e w' => e = .returned (.bool (hdK rest == k)) ∧ Rd w' r wv l (if hdK rest = k then rest.tail else rest) ∧ But r w w' := by
  have hpk := peek_any w r wv l rest h hl
  by_cases hh : hdK rest = k
  · obtain ⟨p, ao, cap, hp, hr, hwv, hblk, hc0, hc1, hfz, hx⟩ := h.view
    have hw := h.words
    have hlt := h.lt
    cases rest with
    | nil => exact absurd hh.symm hk
    | cons x r' =>
      obtain ⟨k', t⟩ := x
      obtain ⟨g, _, hg, hpl, hg0, hg1⟩ := hx k' t r' rfl
      have HR : Hid ((k', t) :: r' = l.drop p) := hr
      simp only [hdK] at hh hpk ⊢
      subst hh
      simp only [if_true, beq_self_eq_true, List.tail_cons]
      clear hx h hg0 hg1 hc0 hwv hk hr
      go_enter Tryz.func143, Tryz.ntmps143
      go_wp2_with (first | (go_at_call 179; (refine hpk.mono ?_; rintro e w1 ⟨rfl, hb1⟩; clear hpk; have hz := hb1.size; have hlt1 : r < w1.heap.size := (by omega); have hd1 := (hb1.cell (p := ⟨r, 1, none⟩) hlt).trans hc1; have hf1 := (hb1.frozen (p := ⟨r, 1, none⟩) hlt).trans (hfz 1))))
      go_ret
      refine ⟨rfl, ?_, ?_⟩
      · obtain ⟨bs, hw⟩ := hw
        exact (Rd.next (w := w1) (rest := (k', t) :: r') ((hb1.block r hlt).trans hblk) hpl HR ⟨bs, owns_below hw hb1⟩).below ((Below.refl _ _).alloc (Nat.le_refl _) _)
      · have hB := But.of (r := r) hb1
        exact (by repeat' (first | (with_reducible exact But.refl _ _) | (with_reducible assumption) | (with_reducible refine But.drewN ?_ _) | (with_reducible refine But.alloc ?_ _) | (with_reducible refine But.drew ?_) | (with_reducible refine But.setCell ?_ _ _) | (with_reducible refine But.setNew ?_ ?_ _) | go_size))
  · rw [if_neg hh]
    have hbq : (hdK rest == k) = false := by simpa using hh
    rw [hbq]
    clear hh
    generalize hdK rest = kd at *
    go_enter Tryz.func143, Tryz.ntmps143
    go_wp2_with (first | (go_at_call 179; refine hpk.mono ?_; rintro e w1 ⟨rfl, hb1⟩; clear hpk))
    go_ret
    exact ⟨rfl, h.below (hb1.alloc hb1.size _), But.of (hb1.alloc hb1.size _)⟩
theorem take_yes (w : World) (r : Nat) (wv : Value) (l rest : List Tok) (k : Int) (h : Rd w r wv l rest) (hl : l.length ≤ 500) (hk : k ≠ 0) (hh : hdK rest = k) :
    Calls Tryz.prog 143 #[.pointer (some ⟨r, 0, none⟩), .int .i64 k] w fun e w' => e = .returned (.bool true) ∧ Rd w' r wv l rest.tail ∧ But r w w' := by
  have := take_any w r wv l rest k h hl hk
  rw [if_pos hh, hh, beq_self_eq_true] at this
  exact this
theorem take_no (w : World) (r : Nat) (wv : Value) (l rest : List Tok) (k : Int) (h : Rd w r wv l rest) (hl : l.length ≤ 500) (hk : k ≠ 0) (hh : hdK rest ≠ k) :
    Calls Tryz.prog 143 #[.pointer (some ⟨r, 0, none⟩), .int .i64 k] w fun e w' => e = .returned (.bool false) ∧ Rd w' r wv l rest ∧ But r w w' := by
  have := take_any w r wv l rest k h hl hk
  rw [if_neg hh, show (hdK rest == k) = false by simpa using hh] at this
  exact this
end Go.Proofs.YteampbddflhngaaGreat

/- Walks: reader.terms. -/
namespace Go.Proofs.YteampbddflhngaaGreat
open Go.RowKit
variable {lo : Nat}

theorem Tryz.infoString : (Tryz.prog.info? 9).map (fun i => (i.zero, i.size, i.bytes)) = some (some (.string ByteArray.empty), 1, 16) := by kernel_rfl

def TermsPost (w : World) (r : Nat) (wv : Value) (l rest : List Tok) (e : Ending) (w' : World) : Prop :=
  But r w w' ∧ match pTerms rest with
    | none => e = .returned (.tuple #[.slice none 0 0, .bool false])
    | some (ts, r2) => ∃ v, e = .returned (.tuple #[v, .bool true]) ∧ SIn w.heap.size w' v ts ∧ Rd w' r wv l r2
theorem termsPost_none {w w' : World} {r : Nat} {wv : Value} {l rest : List Tok} (h : Hid (pTerms rest = none)) (hb : But r w w') : TermsPost w r wv l rest (.returned (.tuple #[.slice none 0 0, .bool false])) w' := by
  have h' : pTerms rest = none := h
  unfold TermsPost; rw [h']; exact ⟨hb, rfl⟩
theorem termsPost_some {w w' : World} {r : Nat} {wv v : Value} {l rest r2 : List Tok} {ts : List ByteArray} (h : Hid (pTerms rest = some (ts, r2))) (hb : But r w w') (hs : SIn w.heap.size w' v ts) (hr : Rd w' r wv l r2) :
    TermsPost w r wv l rest (.returned (.tuple #[v, .bool true])) w' := by
  have h' : pTerms rest = some (ts, r2) := h
  unfold TermsPost; rw [h']; exact ⟨hb, v, rfl, hs, hr⟩
theorem map_snoc2 {α β : Type} (o : Option (List α × β)) (acc : List α) (x : α) : ((o.map fun z => (x :: z.1, z.2)).map fun z => (acc ++ z.1, z.2)) = o.map fun z => ((acc ++ [x]) ++ z.1, z.2) := by cases o <;> simp

set_option maxRecDepth 100000 in
set_option maxHeartbeats 1000000 in
theorem terms_any (w : World) (r : Nat) (wv : Value) (l rest : List Tok) (h : Rd w r wv l rest) (hl : l.length ≤ 500) :
    Calls Tryz.prog 180 #[.pointer (some ⟨r, 0, none⟩)] w fun e w' => TermsPost w r wv l rest e w' := by
  obtain ⟨i0, hi, hz0, hz1, hz2⟩ := info_parts Tryz.infoString
  have hlt := h.lt
  go_enter Tryz.func180, Tryz.ntmps180
  go_wp2
  go_loopg [4, 5] (rest.length) (fun n v t wr => ∃ (acc : List ByteArray) (rst : List Tok) (more : Bool), t = .bool more ∧ rst.length ≤ n ∧ rst.length + acc.length ≤ rest.length ∧
      wr.ownsRow w.heap.size 9 1 v acc.length (acc.map Value.string) ∧ Rd wr r wv l rst ∧ But r w wr ∧
      Hid (more = true → pTerms rest = (pTerms rst).map fun z => (acc ++ z.1, z.2)) ∧ Hid (more = false → pTerms rest = some (acc, rst)))
  case atStart => exact ⟨[], rest, true, rfl, Nat.le_refl _, by simp, World.ownsRow_nil _ _ _ _, h, But.refl _ _, (fun _ => by simp), (fun h => by cases h)⟩
  case round =>
    obtain ⟨acc, rst, more, rfl, hn, hra, hown, hrd, hbut, H1, H2⟩ := hrel
    have hrl : rest.length ≤ l.length := by
      obtain ⟨p, _, hp, _⟩ := h.box; rw [hp]; simp
    have hws := hbut.size
    have hltr := hrd.lt
    cases more with
    | false =>
      have H3 : Hid (pTerms rest = some (acc, rst)) := H2 rfl
      clear H1 H2
      go_wp2
      go_ret2
      exact termsPost_some H3 hbut hown hrd
    | true =>
      have hpk := peek_any wr r wv l rst hrd hl
      cases rst with
      | nil =>
        have H3 : Hid (pTerms rest = none) := by rw [Hid.out H1 rfl]; simp [pTerms, Hid]
        clear H1 H2
        have hT : isT 0 = false := rfl
        simp only [hdK] at hpk
        go_wp2_with (first | (go_at_call 179; refine hpk.mono ?_; rintro e w1 ⟨rfl, hb1⟩; clear hpk; have hz := hb1.size) | (go_at_call 199; refine (isTerm_any _ _).mono ?_; rintro e w' ⟨rfl, rfl⟩))
        go_ret2
        have hB := hbut.trans (But.of hb1)
        exact termsPost_none H3 (by repeat' (first | (with_reducible exact But.refl _ _) | (with_reducible assumption) | (with_reducible refine But.drewN ?_ _) | (with_reducible refine But.alloc ?_ _) | (with_reducible refine But.drew ?_) | (with_reducible refine But.setCell ?_ _ _) | (with_reducible refine But.setNew ?_ ?_ _) | go_size))
      | cons x r1 =>
        obtain ⟨k, t⟩ := x
        simp only [hdK, List.headD_cons] at hpk
        cases hT : isT k with
        | false =>
          have H3 : Hid (pTerms rest = none) := by rw [Hid.out H1 rfl, pTerms_no hT]; simp [Hid]
          clear H1 H2
          go_wp2_with (first | (go_at_call 179; refine hpk.mono ?_; rintro e w1 ⟨rfl, hb1⟩; clear hpk; have hz := hb1.size) | (go_at_call 199; refine (isTerm_any _ _).mono ?_; rintro e w' ⟨rfl, rfl⟩))
          go_ret2
          have hB := hbut.trans (But.of hb1)
          exact termsPost_none H3 (by repeat' (first | (with_reducible exact But.refl _ _) | (with_reducible assumption) | (with_reducible refine But.drewN ?_ _) | (with_reducible refine But.alloc ?_ _) | (with_reducible refine But.drew ?_) | (with_reducible refine But.setCell ?_ _ _) | (with_reducible refine But.setNew ?_ ?_ _) | go_size))
        | true =>
          obtain ⟨p, ao, cap, hp, hr, hwv, hblk, hc0, hc1, hfz, hx⟩ := hrd.view
          obtain ⟨g, _, hg, hpl, hg0, hg1⟩ := hx k t r1 rfl
          have HR : Hid ((k, t) :: r1 = l.drop p) := hr
          have HW : Hid (wv = .slice ao l.length cap) := hwv
          clear hx hr hg0 hg1 hc0 hwv
          go_wp2_with (first | (go_at_call 179; refine hpk.mono ?_; rintro e w1 ⟨rfl, hb1⟩; clear hpk; have hz := hb1.size; have hlt1 : r < w1.heap.size := (by omega); have hd1 := (hb1.cell (p := ⟨r, 1, none⟩) hltr).trans hc1; have hf1 := (hb1.frozen (p := ⟨r, 1, none⟩) hltr).trans (hfz 1); have hbA := hb1; have hrdO := Rd.next (w := w1) (rest := (k, t) :: r1) ((hb1.block r hltr).trans hblk) hpl HR ⟨_, owns_below hrd.words.choose_spec hb1⟩; have hoO := own_but (owns_below hown hb1) ((But.refl r w1).setCell 1 (.int .i64 ((p : Int) + 1))) ((hb1.block r hltr).trans hblk) (by decide); have hbO := (hbut.trans (But.of hb1)).setCell 1 (.int .i64 ((p : Int) + 1)); have hzO : (w1.setCell ⟨r, 1, none⟩ (.int .i64 ((p : Int) + 1))).heap.size = w1.heap.size := (by simp); clear hbA) | (go_at_call 199; refine (isTerm_any _ _).mono ?_; rintro e w' ⟨rfl, rfl⟩) | (at_builtin; refine wpList_push (w1.setCell ⟨r, 1, none⟩ (.int .i64 ((p : Int) + 1))) _ _ _ rfl (.tmp 21) (.tmp 24) 30 rfl w.heap.size 9 i0 _ 1 16 Tryz.underlying30 hi hz0 hz1 hz2 rfl (by decide) _ _ _ rfl hoO ((Below.refl _ _).alloc (Nat.le_refl _) _) _ _ rfl (by simp) rfl (by simp [Value.oneCell']) (by simp at hra; omega) (by omega) (by omega) ?_; intro v' w2 ho2 hB2 hc2 hf2 hk2 hz2'; clear hc2 hf2 hk2; have hrd2 := Rd.keep h hrdO hB2; have hbut2 := hbO.onto hB2; have htk := take_any w2 r wv l r1 6 hrd2 hl (by decide)) | (go_at_call 143; refine htk.mono ?_; rintro e w3 ⟨rfl, hrd3, hbut3⟩; clear htk))
          obtain ⟨c3, f3, hcell⟩ := hrd2.cell
          have ho3 := own_but ho2 hbut3 hcell (by decide)
          have hP := Hid.out H1 trivial
          simp only [List.length_cons] at hn hra
          have htl : (if hdK r1 = 6 then r1.tail else r1).length ≤ r1.length := by split <;> simp
          go_roundg r1.length
          case measure => omega
          case rel =>
            refine ⟨acc ++ [t], (if hdK r1 = 6 then r1.tail else r1), (hdK r1 == 6), rfl, htl, by simp; omega, by simpa using ho3, hrd3, hbut2.trans hbut3, ?_, ?_⟩
            · intro h6
              have h6' : hdK r1 = 6 := by simpa using h6
              rw [if_pos h6', hP, pTerms_more hT h6', map_snoc2]
            · intro h6
              have h6' : hdK r1 ≠ 6 := by simpa using h6
              rw [if_neg h6', hP, pTerms_stop hT h6']; simp

theorem terms_no (w : World) (r : Nat) (wv : Value) (l rest : List Tok) (h : Rd w r wv l rest) (hl : l.length ≤ 500) (hp : pTerms rest = none) :
    Calls Tryz.prog 180 #[.pointer (some ⟨r, 0, none⟩)] w fun e w' => e = .returned (.tuple #[.slice none 0 0, .bool false]) ∧ But r w w' := by
  refine (terms_any w r wv l rest h hl).mono ?_
  rintro e w' ⟨h1, h2⟩
  rw [hp] at h2
  exact ⟨h2, h1⟩
theorem terms_yes (w : World) (r : Nat) (wv : Value) (l rest r2 : List Tok) (ts : List ByteArray) (h : Rd w r wv l rest) (hl : l.length ≤ 500) (hp : pTerms rest = some (ts, r2)) :
    Calls Tryz.prog 180 #[.pointer (some ⟨r, 0, none⟩)] w fun e w' => ∃ v, e = .returned (.tuple #[v, .bool true]) ∧ SIn w.heap.size w' v ts ∧ Rd w' r wv l r2 ∧ But r w w' := by
  refine (terms_any w r wv l rest h hl).mono ?_
  rintro e w' ⟨h1, h2⟩
  rw [hp] at h2
  obtain ⟨v, a, b, c⟩ := h2
  exact ⟨v, a, b, c, h1⟩

end Go.Proofs.YteampbddflhngaaGreat

/- Walks: reader.atom, reader.literal. -/
namespace Go.Proofs.YteampbddflhngaaGreat
open Go.RowKit
variable {lo : Nat}

def zLit : Value := .agg #[.bool false, .string ByteArray.empty, .slice none 0 0]
def AtomPost (o : Option (PLit × List Tok)) (w : World) (r : Nat) (wv : Value) (l : List Tok) (e : Ending) (w' : World) : Prop :=
  But r w w' ∧ match o with
    | none => e = .returned (.tuple #[.agg #[.bool false, .string ByteArray.empty, .slice none 0 0], .bool false])
    | some (a, r2) => ∃ va, e = .returned (.tuple #[.agg #[.bool a.neg, .string a.pred, va], .bool true]) ∧ SIn w.heap.size w' va a.args ∧ Rd w' r wv l r2

set_option maxRecDepth 100000 in
set_option maxHeartbeats 1000000 in
theorem atom_no (w : World) (r : Nat) (wv : Value) (l rest : List Tok) (h : Rd w r wv l rest) (hl : l.length ≤ 500) (h1 : (hdK rest == 1) = false) :
    Calls Tryz.prog 142 #[.pointer (some ⟨r, 0, none⟩)] w fun e w' => AtomPost none w r wv l e w' := by
  have hlt := h.lt
  have hne : w.heap.size ≠ r := by omega
  go_enter Tryz.func142, Tryz.ntmps142
  go_wp2_with (first | (go_at_call 179; refine (peek_any _ r wv l rest (by exact h.below (by repeat' (first | (with_reducible exact Below.refl _ _) | (with_reducible assumption) | (with_reducible refine bdrewN ?_ _) | (with_reducible refine Below.alloc ?_ ?_ _) | (with_reducible refine Below.drew ?_) | (with_reducible refine Below.setCell ?_ ?_ _) | go_size))) hl).mono ?_; rintro e w1 ⟨rfl, hb1⟩; have hB1 := bnext ((Below.refl _ _).alloc (Nat.le_refl _) _) hb1 (Nat.le_refl _); have hx1 := (Box.new w _ _).below hb1; have hr1 := h.below hB1) | (go_at_call 143; refine (take_any _ r wv l rest 1 (by exact hr1.below (by repeat' (first | (with_reducible exact Below.refl _ _) | (with_reducible assumption) | (with_reducible refine bdrewN ?_ _) | (with_reducible refine Below.alloc ?_ ?_ _) | (with_reducible refine Below.drew ?_) | (with_reducible refine Below.setCell ?_ ?_ _) | go_size))) hl (by decide)).mono ?_; rintro e w2 ⟨rfl, hrd2, hbut2⟩; have hx2 := (hx1.below ((Below.refl _ _).alloc (Nat.le_refl _) _)).but hbut2 hne; obtain ⟨hc2, hf2⟩ := hx2.rules))
  have hB := (But.of hB1).trans (((But.refl r w1).alloc _).trans hbut2)
  exact bodyPost_ret (v := .tuple #[.agg #[.bool false, .string ByteArray.empty, .slice none 0 0], .bool false]) (by simp [results, Tryz.results142, go_sem, hc2]; rfl) rfl ⟨(by repeat' (first | (with_reducible exact But.refl _ _) | (with_reducible assumption) | (with_reducible refine But.drewN ?_ _) | (with_reducible refine But.alloc ?_ _) | (with_reducible refine But.drew ?_) | (with_reducible refine But.setCell ?_ _ _) | (with_reducible refine But.setNew ?_ ?_ _) | go_size)), rfl⟩

set_option maxRecDepth 100000 in
set_option maxHeartbeats 1000000 in
theorem atom_bare (w : World) (r : Nat) (wv : Value) (l rest : List Tok) (h : Rd w r wv l rest) (hl : l.length ≤ 500) (h1 : hdK rest = 1) (h4 : hdK rest.tail ≠ 4) :
    Calls Tryz.prog 142 #[.pointer (some ⟨r, 0, none⟩)] w fun e w' => AtomPost (some (⟨false, (rest.headD (0, ByteArray.empty)).2, []⟩, rest.tail)) w r wv l e w' := by
  have hlt := h.lt
  have hne : w.heap.size ≠ r := by omega
  generalize ht : (rest.headD (0, ByteArray.empty)).2 = t
  have HT : Hid ((rest.headD (0, ByteArray.empty)).2 = t) := ht
  clear ht
  have H1 : Hid (hdK rest = 1) := h1
  have HPK : Hid (∀ W, Rd W r wv l rest → Calls Tryz.prog 179 #[.pointer (some ⟨r, 0, none⟩)] W fun e w' => e = .returned (.agg #[.int .i64 1, .string t]) ∧ Below W.heap.size W w') := fun W hW => by
    have := peek_any W r wv l rest hW hl
    rw [h1, Hid.out HT] at this
    exact this
  have H4 : Hid (hdK rest.tail ≠ 4) := h4
  clear h1 h4 HT
  go_enter Tryz.func142, Tryz.ntmps142
  go_wp2_with (first | (go_at_call 179; refine (Hid.out HPK _ (by exact h.below (by repeat' (first | (with_reducible exact Below.refl _ _) | (with_reducible assumption) | (with_reducible refine bdrewN ?_ _) | (with_reducible refine Below.alloc ?_ ?_ _) | (with_reducible refine Below.drew ?_) | (with_reducible refine Below.setCell ?_ ?_ _) | go_size)))).mono ?_; rintro e w1 ⟨rfl, hb1⟩; have hB1 := bnext ((Below.refl _ _).alloc (Nat.le_refl _) _) hb1 (Nat.le_refl _); have hx1 := (Box.new w _ _).below hb1; have hz1 := hx1.lt; have hr1 := h.below hB1; have hlt1 : r < w1.heap.size := (by omega); have hne1 : w1.heap.size ≠ r := (by omega)) | (go_at_call 143; have hq := hr2; refine (take_no _ r wv l rest.tail 4 hq hl (by decide) H4).mono ?_; rintro e w3 ⟨rfl, hr3, hbut3⟩; have hx3 := hx2.but hbut3 hne; have hy3 := hy2.but hbut3 hne1; clear hc2 hf2 hd2 he2; obtain ⟨hc3, hf3⟩ := hx3.rules; obtain ⟨hd3, he3⟩ := hy3.rules; have hz3 := hx3.lt; have hzy3 := hy3.lt; have hlt3 := hr3.lt; have hB3 := hB2.trans hbut3; clear hq) | (go_at_call 143; have hq := hr1; refine (take_yes _ r wv l rest 1 (by exact hq.below (by repeat' (first | (with_reducible exact Below.refl _ _) | (with_reducible assumption) | (with_reducible refine bdrewN ?_ _) | (with_reducible refine Below.alloc ?_ ?_ _) | (with_reducible refine Below.drew ?_) | (with_reducible refine Below.setCell ?_ ?_ _) | go_size))) hl (by decide) H1).mono ?_; rintro e w2 ⟨rfl, hr2, hbut2⟩; have hx2 := (hx1.below ((Below.refl _ _).alloc (Nat.le_refl _) _)).but hbut2 hne; have hy2 := (Box.new w1 _ _).but hbut2 hne1; obtain ⟨hc2, hf2⟩ := hx2.rules; obtain ⟨hd2, he2⟩ := hy2.rules; have hz2 := hx2.lt; have hzy2 := hy2.lt; have hlt2 := hr2.lt; have hB2 := (But.of hB1).trans (((But.refl r w1).alloc _).trans hbut2); clear hq))
  exact bodyPost_ret (v := .tuple #[.agg #[.bool false, .string t, .slice none 0 0], .bool true]) (by simp [results, Tryz.results142, go_sem, hc3]) rfl ⟨(by repeat' (first | (with_reducible exact But.refl _ _) | (with_reducible assumption) | (with_reducible refine But.drewN ?_ _) | (with_reducible refine But.alloc ?_ _) | (with_reducible refine But.drew ?_) | (with_reducible refine But.setCell ?_ _ _) | (with_reducible refine But.setNew ?_ ?_ _) | go_size)), _, rfl, SIn.nil _, h.keep hr3 (by repeat' (first | (with_reducible exact Below.refl _ _) | (with_reducible assumption) | (with_reducible refine bdrewN ?_ _) | (with_reducible refine Below.alloc ?_ ?_ _) | (with_reducible refine Below.drew ?_) | (with_reducible refine Below.setCell ?_ ?_ _) | go_size))⟩

set_option maxRecDepth 100000 in
set_option maxHeartbeats 1000000 in
theorem atom_open (w : World) (r : Nat) (wv : Value) (l rest : List Tok) (h : Rd w r wv l rest) (hl : l.length ≤ 500) (h1 : hdK rest = 1) (h4 : hdK rest.tail = 4) (h5 : pTerms rest.tail.tail = none) :
    Calls Tryz.prog 142 #[.pointer (some ⟨r, 0, none⟩)] w fun e w' => AtomPost none w r wv l e w' := by
  have hlt := h.lt
  have hne : w.heap.size ≠ r := by omega
  obtain ⟨t, HT⟩ : ∃ t, Hid ((rest.headD (0, ByteArray.empty)).2 = t) := ⟨_, rfl⟩
  have H1 : Hid (hdK rest = 1) := h1
  have HPK : Hid (∀ W, Rd W r wv l rest → Calls Tryz.prog 179 #[.pointer (some ⟨r, 0, none⟩)] W fun e w' => e = .returned (.agg #[.int .i64 1, .string t]) ∧ Below W.heap.size W w') := fun W hW => by
    have := peek_any W r wv l rest hW hl
    rw [h1, Hid.out HT] at this
    exact this
  have H4 : Hid (hdK rest.tail = 4) := h4
  have H5 : Hid (pTerms rest.tail.tail = none) := h5
  clear h1 h4 h5 HT
  go_enter Tryz.func142, Tryz.ntmps142
  go_wp2_with (first | (go_at_call 179; refine (Hid.out HPK _ (by exact h.below (by repeat' (first | (with_reducible exact Below.refl _ _) | (with_reducible assumption) | (with_reducible refine bdrewN ?_ _) | (with_reducible refine Below.alloc ?_ ?_ _) | (with_reducible refine Below.drew ?_) | (with_reducible refine Below.setCell ?_ ?_ _) | go_size)))).mono ?_; rintro e w1 ⟨rfl, hb1⟩; have hB1 := bnext ((Below.refl _ _).alloc (Nat.le_refl _) _) hb1 (Nat.le_refl _); have hx1 := (Box.new w _ _).below hb1; have hz1 := hx1.lt; have hr1 := h.below hB1; have hlt1 : r < w1.heap.size := (by omega); have hne1 : w1.heap.size ≠ r := (by omega)) | (go_at_call 180; refine (terms_no _ r wv l rest.tail.tail hr3 hl H5).mono ?_; rintro e w4 ⟨rfl, hbut4⟩; have hx4 := hx3.but hbut4 hne; have hy4 := hy3.but hbut4 hne1; clear hc3 hf3 hd3 he3; obtain ⟨hc4, hf4⟩ := hx4.rules; obtain ⟨hd4, he4⟩ := hy4.rules; have hz4 := hx4.lt; have hzy4 := hy4.lt; have hB4 := hB3.trans hbut4) | (go_at_call 143; have hq := hr2; refine (take_yes _ r wv l rest.tail 4 hq hl (by decide) H4).mono ?_; rintro e w3 ⟨rfl, hr3, hbut3⟩; have hx3 := hx2.but hbut3 hne; have hy3 := hy2.but hbut3 hne1; clear hc2 hf2 hd2 he2; obtain ⟨hc3, hf3⟩ := hx3.rules; obtain ⟨hd3, he3⟩ := hy3.rules; have hz3 := hx3.lt; have hzy3 := hy3.lt; have hlt3 := hr3.lt; have hB3 := hB2.trans hbut3; clear hq) | (go_at_call 143; have hq := hr1; refine (take_yes _ r wv l rest 1 (by exact hq.below (by repeat' (first | (with_reducible exact Below.refl _ _) | (with_reducible assumption) | (with_reducible refine bdrewN ?_ _) | (with_reducible refine Below.alloc ?_ ?_ _) | (with_reducible refine Below.drew ?_) | (with_reducible refine Below.setCell ?_ ?_ _) | go_size))) hl (by decide) H1).mono ?_; rintro e w2 ⟨rfl, hr2, hbut2⟩; have hx2 := (hx1.below ((Below.refl _ _).alloc (Nat.le_refl _) _)).but hbut2 hne; have hy2 := (Box.new w1 _ _).but hbut2 hne1; obtain ⟨hc2, hf2⟩ := hx2.rules; obtain ⟨hd2, he2⟩ := hy2.rules; have hz2 := hx2.lt; have hzy2 := hy2.lt; have hlt2 := hr2.lt; have hB2 := (But.of hB1).trans (((But.refl r w1).alloc _).trans hbut2); clear hq))
  exact bodyPost_ret (v := .tuple #[.agg #[.bool false, .string ByteArray.empty, .slice none 0 0], .bool false]) (by simp [results, Tryz.results142, go_sem, hc4]; rfl) rfl ⟨(by repeat' (first | (with_reducible exact But.refl _ _) | (with_reducible assumption) | (with_reducible refine But.drewN ?_ _) | (with_reducible refine But.alloc ?_ _) | (with_reducible refine But.drew ?_) | (with_reducible refine But.setCell ?_ _ _) | (with_reducible refine But.setNew ?_ ?_ _) | go_size)), rfl⟩

set_option maxRecDepth 100000 in
set_option maxHeartbeats 1000000 in
theorem atom_unshut (w : World) (r : Nat) (wv : Value) (l rest r2 : List Tok) (ts : List ByteArray) (h : Rd w r wv l rest) (hl : l.length ≤ 500) (h1 : hdK rest = 1) (h4 : hdK rest.tail = 4) (h5 : pTerms rest.tail.tail = some (ts, r2)) (h6 : hdK r2 ≠ 5) :
    Calls Tryz.prog 142 #[.pointer (some ⟨r, 0, none⟩)] w fun e w' => AtomPost none w r wv l e w' := by
  have hlt := h.lt
  have hne : w.heap.size ≠ r := by omega
  obtain ⟨t, HT⟩ : ∃ t, Hid ((rest.headD (0, ByteArray.empty)).2 = t) := ⟨_, rfl⟩
  have H1 : Hid (hdK rest = 1) := h1
  have HPK : Hid (∀ W, Rd W r wv l rest → Calls Tryz.prog 179 #[.pointer (some ⟨r, 0, none⟩)] W fun e w' => e = .returned (.agg #[.int .i64 1, .string t]) ∧ Below W.heap.size W w') := fun W hW => by
    have := peek_any W r wv l rest hW hl
    rw [h1, Hid.out HT] at this
    exact this
  have H4 : Hid (hdK rest.tail = 4) := h4
  have H5 : Hid (pTerms rest.tail.tail = some (ts, r2)) := h5
  have H6 : Hid (hdK r2 ≠ 5) := h6
  clear h1 h4 h5 h6 HT
  go_enter Tryz.func142, Tryz.ntmps142
  go_wp2_with (first | (go_at_call 179; refine (Hid.out HPK _ (by exact h.below (by repeat' (first | (with_reducible exact Below.refl _ _) | (with_reducible assumption) | (with_reducible refine bdrewN ?_ _) | (with_reducible refine Below.alloc ?_ ?_ _) | (with_reducible refine Below.drew ?_) | (with_reducible refine Below.setCell ?_ ?_ _) | go_size)))).mono ?_; rintro e w1 ⟨rfl, hb1⟩; have hB1 := bnext ((Below.refl _ _).alloc (Nat.le_refl _) _) hb1 (Nat.le_refl _); have hx1 := (Box.new w _ _).below hb1; have hz1 := hx1.lt; have hr1 := h.below hB1; have hlt1 : r < w1.heap.size := (by omega); have hne1 : w1.heap.size ≠ r := (by omega)) | (go_at_call 180; refine (terms_yes _ r wv l rest.tail.tail r2 ts hr3 hl H5).mono ?_; rintro e w4 ⟨va, rfl, hsin, hr4, hbut4⟩; obtain ⟨ao, cp, rfl⟩ := hsin.shape; have hx4 := hx3.but hbut4 hne; have hy4 := hy3.but hbut4 hne1; clear hc3 hf3 hd3 he3; obtain ⟨hc4, hf4⟩ := hx4.rules; obtain ⟨hd4, he4⟩ := hy4.rules; have hz4 := hx4.lt; have hzy4 := hy4.lt; have hlt4 := hr4.lt; have hB4 := hB3.trans hbut4) | (go_at_call 143; have hq := hr4; refine (take_no _ r wv l r2 5 hq hl (by decide) H6).mono ?_; rintro e w5 ⟨rfl, hr5, hbut5⟩; have hx5 := hx4.but hbut5 hne; have hy5 := hy4.but hbut5 hne1; clear hc4 hf4 hd4 he4; obtain ⟨hc5, hf5⟩ := hx5.rules; obtain ⟨hd5, he5⟩ := hy5.rules; have hz5 := hx5.lt; have hzy5 := hy5.lt; have hlt5 := hr5.lt; have hB5 := hB4.trans hbut5; clear hq) | (go_at_call 143; have hq := hr2; refine (take_yes _ r wv l rest.tail 4 hq hl (by decide) H4).mono ?_; rintro e w3 ⟨rfl, hr3, hbut3⟩; have hx3 := hx2.but hbut3 hne; have hy3 := hy2.but hbut3 hne1; clear hc2 hf2 hd2 he2; obtain ⟨hc3, hf3⟩ := hx3.rules; obtain ⟨hd3, he3⟩ := hy3.rules; have hz3 := hx3.lt; have hzy3 := hy3.lt; have hlt3 := hr3.lt; have hB3 := hB2.trans hbut3; clear hq) | (go_at_call 143; have hq := hr1; refine (take_yes _ r wv l rest 1 (by exact hq.below (by repeat' (first | (with_reducible exact Below.refl _ _) | (with_reducible assumption) | (with_reducible refine bdrewN ?_ _) | (with_reducible refine Below.alloc ?_ ?_ _) | (with_reducible refine Below.drew ?_) | (with_reducible refine Below.setCell ?_ ?_ _) | go_size))) hl (by decide) H1).mono ?_; rintro e w2 ⟨rfl, hr2, hbut2⟩; have hx2 := (hx1.below ((Below.refl _ _).alloc (Nat.le_refl _) _)).but hbut2 hne; have hy2 := (Box.new w1 _ _).but hbut2 hne1; obtain ⟨hc2, hf2⟩ := hx2.rules; obtain ⟨hd2, he2⟩ := hy2.rules; have hz2 := hx2.lt; have hzy2 := hy2.lt; have hlt2 := hr2.lt; have hB2 := (But.of hB1).trans (((But.refl r w1).alloc _).trans hbut2); clear hq))
  exact bodyPost_ret (v := .tuple #[.agg #[.bool false, .string ByteArray.empty, .slice none 0 0], .bool false]) (by simp [results, Tryz.results142, go_sem, hc5]; rfl) rfl ⟨(by repeat' (first | (with_reducible exact But.refl _ _) | (with_reducible assumption) | (with_reducible refine But.drewN ?_ _) | (with_reducible refine But.alloc ?_ _) | (with_reducible refine But.drew ?_) | (with_reducible refine But.setCell ?_ _ _) | (with_reducible refine But.setNew ?_ ?_ _) | go_size)), rfl⟩

set_option maxRecDepth 100000 in
set_option maxHeartbeats 1000000 in
theorem atom_terms (w : World) (r : Nat) (wv : Value) (l rest r2 : List Tok) (ts : List ByteArray) (h : Rd w r wv l rest) (hl : l.length ≤ 500) (h1 : hdK rest = 1) (h4 : hdK rest.tail = 4) (h5 : pTerms rest.tail.tail = some (ts, r2)) (h6 : hdK r2 = 5) :
    Calls Tryz.prog 142 #[.pointer (some ⟨r, 0, none⟩)] w fun e w' => AtomPost (some (⟨false, (rest.headD (0, ByteArray.empty)).2, ts⟩, r2.tail)) w r wv l e w' := by
  have hlt := h.lt
  have hne : w.heap.size ≠ r := by omega
  generalize ht : (rest.headD (0, ByteArray.empty)).2 = t
  have HT : Hid ((rest.headD (0, ByteArray.empty)).2 = t) := ht
  clear ht
  have H1 : Hid (hdK rest = 1) := h1
  have HPK : Hid (∀ W, Rd W r wv l rest → Calls Tryz.prog 179 #[.pointer (some ⟨r, 0, none⟩)] W fun e w' => e = .returned (.agg #[.int .i64 1, .string t]) ∧ Below W.heap.size W w') := fun W hW => by
    have := peek_any W r wv l rest hW hl
    rw [h1, Hid.out HT] at this
    exact this
  have H4 : Hid (hdK rest.tail = 4) := h4
  have H5 : Hid (pTerms rest.tail.tail = some (ts, r2)) := h5
  have H6 : Hid (hdK r2 = 5) := h6
  clear h1 h4 h5 h6 HT
  go_enter Tryz.func142, Tryz.ntmps142
  go_wp2_with (first | (go_at_call 179; refine (Hid.out HPK _ (by exact h.below (by repeat' (first | (with_reducible exact Below.refl _ _) | (with_reducible assumption) | (with_reducible refine bdrewN ?_ _) | (with_reducible refine Below.alloc ?_ ?_ _) | (with_reducible refine Below.drew ?_) | (with_reducible refine Below.setCell ?_ ?_ _) | go_size)))).mono ?_; rintro e w1 ⟨rfl, hb1⟩; have hB1 := bnext ((Below.refl _ _).alloc (Nat.le_refl _) _) hb1 (Nat.le_refl _); have hx1 := (Box.new w _ _).below hb1; have hz1 := hx1.lt; have hr1 := h.below hB1; have hlt1 : r < w1.heap.size := (by omega); have hne1 : w1.heap.size ≠ r := (by omega)) | (go_at_call 180; refine (terms_yes _ r wv l rest.tail.tail r2 ts hr3 hl H5).mono ?_; rintro e w4 ⟨va, rfl, hsin, hr4, hbut4⟩; obtain ⟨ao, cp, rfl⟩ := hsin.shape; have hx4 := hx3.but hbut4 hne; have hy4 := hy3.but hbut4 hne1; clear hc3 hf3 hd3 he3; obtain ⟨hc4, hf4⟩ := hx4.rules; obtain ⟨hd4, he4⟩ := hy4.rules; have hz4 := hx4.lt; have hzy4 := hy4.lt; have hlt4 := hr4.lt; have hB4 := hB3.trans hbut4) | (go_at_call 143; have hq := hr4; refine (take_yes _ r wv l r2 5 hq hl (by decide) H6).mono ?_; rintro e w5 ⟨rfl, hr5, hbut5⟩; have hx5 := hx4.but hbut5 hne; have hy5 := hy4.but hbut5 hne1; clear hc4 hf4 hd4 he4; obtain ⟨hc5, hf5⟩ := hx5.rules; obtain ⟨hd5, he5⟩ := hy5.rules; have hz5 := hx5.lt; have hzy5 := hy5.lt; have hlt5 := hr5.lt; have hB5 := hB4.trans hbut5; clear hq) | (go_at_call 143; have hq := hr2; refine (take_yes _ r wv l rest.tail 4 hq hl (by decide) H4).mono ?_; rintro e w3 ⟨rfl, hr3, hbut3⟩; have hx3 := hx2.but hbut3 hne; have hy3 := hy2.but hbut3 hne1; clear hc2 hf2 hd2 he2; obtain ⟨hc3, hf3⟩ := hx3.rules; obtain ⟨hd3, he3⟩ := hy3.rules; have hz3 := hx3.lt; have hzy3 := hy3.lt; have hlt3 := hr3.lt; have hB3 := hB2.trans hbut3; clear hq) | (go_at_call 143; have hq := hr1; refine (take_yes _ r wv l rest 1 (by exact hq.below (by repeat' (first | (with_reducible exact Below.refl _ _) | (with_reducible assumption) | (with_reducible refine bdrewN ?_ _) | (with_reducible refine Below.alloc ?_ ?_ _) | (with_reducible refine Below.drew ?_) | (with_reducible refine Below.setCell ?_ ?_ _) | go_size))) hl (by decide) H1).mono ?_; rintro e w2 ⟨rfl, hr2, hbut2⟩; have hx2 := (hx1.below ((Below.refl _ _).alloc (Nat.le_refl _) _)).but hbut2 hne; have hy2 := (Box.new w1 _ _).but hbut2 hne1; obtain ⟨hc2, hf2⟩ := hx2.rules; obtain ⟨hd2, he2⟩ := hy2.rules; have hz2 := hx2.lt; have hzy2 := hy2.lt; have hlt2 := hr2.lt; have hB2 := (But.of hB1).trans (((But.refl r w1).alloc _).trans hbut2); clear hq))
  obtain ⟨c4, f4, hcl⟩ := hr4.cell
  have hs5 := hsin.but hbut5 hcl (by decide)
  exact bodyPost_ret (v := .tuple #[.agg #[.bool false, .string t, .slice ao ts.length cp], .bool true]) (by simp [results, Tryz.results142, go_sem, hc5]) rfl ⟨(by repeat' (first | (with_reducible exact But.refl _ _) | (with_reducible assumption) | (with_reducible refine But.drewN ?_ _) | (with_reducible refine But.alloc ?_ _) | (with_reducible refine But.drew ?_) | (with_reducible refine But.setCell ?_ _ _) | (with_reducible refine But.setNew ?_ ?_ _) | go_size)), _, rfl, (hs5.low hB3.size).but (r := w.heap.size) (by repeat' (first | (with_reducible exact But.refl _ _) | (with_reducible assumption) | (with_reducible refine But.drewN ?_ _) | (with_reducible refine But.alloc ?_ _) | (with_reducible refine But.drew ?_) | (with_reducible refine But.setCell ?_ _ _) | (with_reducible refine But.setNew ?_ ?_ _) | go_size)) hx5 (by decide), h.keep hr5 (by repeat' (first | (with_reducible exact Below.refl _ _) | (with_reducible assumption) | (with_reducible refine bdrewN ?_ _) | (with_reducible refine Below.alloc ?_ ?_ _) | (with_reducible refine Below.drew ?_) | (with_reducible refine Below.setCell ?_ ?_ _) | go_size))⟩

theorem atom_any (w : World) (r : Nat) (wv : Value) (l rest : List Tok) (h : Rd w r wv l rest) (hl : l.length ≤ 500) :
    Calls Tryz.prog 142 #[.pointer (some ⟨r, 0, none⟩)] w fun e w' => AtomPost (pAtom rest) w r wv l e w' := by
  unfold pAtom
  split
  · rename_i h1
    split
    · rename_i h4
      split
      · rename_i h5; exact atom_open w r wv l rest h hl h1 h4 h5
      · rename_i ts r2 h5
        split
        · rename_i h6; exact atom_terms w r wv l rest r2 ts h hl h1 h4 h5 h6
        · rename_i h6; exact atom_unshut w r wv l rest r2 ts h hl h1 h4 h5 h6
    · rename_i h4; exact atom_bare w r wv l rest h hl h1 h4
  · rename_i h1; exact atom_no w r wv l rest h hl (by simpa using h1)
end Go.Proofs.YteampbddflhngaaGreat

/- Walks: reader.literal. -/
namespace Go.Proofs.YteampbddflhngaaGreat
open Go.RowKit
variable {lo : Nat}

theorem atom_none (w : World) (r : Nat) (wv : Value) (l rest : List Tok) (h : Rd w r wv l rest) (hl : l.length ≤ 500) (hp : pAtom rest = none) :
    Calls Tryz.prog 142 #[.pointer (some ⟨r, 0, none⟩)] w fun e w' => e = .returned (.tuple #[.agg #[.bool false, .string ByteArray.empty, .slice none 0 0], .bool false]) ∧ But r w w' := by
  refine (atom_any w r wv l rest h hl).mono ?_
  rintro e w' ⟨h1, h2⟩
  rw [hp] at h2
  exact ⟨h2, h1⟩
theorem atom_some (w : World) (r : Nat) (wv : Value) (l rest r2 : List Tok) (a : PLit) (h : Rd w r wv l rest) (hl : l.length ≤ 500) (hp : pAtom rest = some (a, r2)) :
    Calls Tryz.prog 142 #[.pointer (some ⟨r, 0, none⟩)] w fun e w' => ∃ va, e = .returned (.tuple #[.agg #[.bool a.neg, .string a.pred, va], .bool true]) ∧ SIn w.heap.size w' va a.args ∧ Rd w' r wv l r2 ∧ But r w w' := by
  refine (atom_any w r wv l rest h hl).mono ?_
  rintro e w' ⟨h1, h2⟩
  rw [hp] at h2
  obtain ⟨v, a, b, c⟩ := h2
  exact ⟨v, a, b, c, h1⟩

set_option maxRecDepth 100000 in
set_option maxHeartbeats 1000000 in
theorem literal_no (b : Bool) (w : World) (r : Nat) (wv : Value) (l rest rest1 : List Tok) (h : Rd w r wv l rest) (hl : l.length ≤ 500)
    (htk : ∀ W, Rd W r wv l rest → Calls Tryz.prog 143 #[.pointer (some ⟨r, 0, none⟩), .int .i64 8] W fun e w' => e = .returned (.bool b) ∧ Rd w' r wv l rest1 ∧ But r W w') (ha : pAtom rest1 = none) :
    Calls Tryz.prog 181 #[.pointer (some ⟨r, 0, none⟩)] w fun e w' => AtomPost none w r wv l e w' := by
  have hlt := h.lt
  have hne : w.heap.size ≠ r := by omega
  have HTK : Hid (∀ W, Rd W r wv l rest → Calls Tryz.prog 143 #[.pointer (some ⟨r, 0, none⟩), .int .i64 8] W fun e w' => e = .returned (.bool b) ∧ Rd w' r wv l rest1 ∧ But r W w') := htk
  clear htk
  have HA : Hid (pAtom rest1 = none) := ha
  clear ha
  go_enter Tryz.func181, Tryz.ntmps181
  go_wp2_with (first | (go_at_call 143; refine (Hid.out HTK _ (by exact h.below (by repeat' (first | (with_reducible exact Below.refl _ _) | (with_reducible assumption) | (with_reducible refine bdrewN ?_ _) | (with_reducible refine Below.alloc ?_ ?_ _) | (with_reducible refine Below.drew ?_) | (with_reducible refine Below.setCell ?_ ?_ _) | go_size)))).mono ?_; rintro e w1 ⟨rfl, hr1, hbut1⟩; have hx1 := (Box.new w _ _).but hbut1 hne; have hz1 := hx1.lt; have hlt1 := hr1.lt; have hB1 := ((But.refl r w).alloc _).trans hbut1) | (go_at_call 142; refine (atom_none _ r wv l rest1 hr1 hl HA).mono ?_; rintro e w2 ⟨rfl, hbut2⟩; have hx2 := hx1.but hbut2 hne; obtain ⟨hc2, hf2⟩ := hx2.rules; have hz2 := hx2.lt; have hB2 := hB1.trans hbut2))
  exact bodyPost_ret (v := .tuple #[.agg #[.bool false, .string ByteArray.empty, .slice none 0 0], .bool false]) (by simp [results, Tryz.results181, go_sem, hc2, hz2]; rfl) rfl ⟨(by repeat' (first | (with_reducible exact But.refl _ _) | (with_reducible assumption) | (with_reducible refine But.drewN ?_ _) | (with_reducible refine But.alloc ?_ _) | (with_reducible refine But.drew ?_) | (with_reducible refine But.setCell ?_ _ _) | (with_reducible refine But.setNew ?_ ?_ _) | go_size)), rfl⟩

set_option maxRecDepth 100000 in
set_option maxHeartbeats 1000000 in
theorem literal_yes (b : Bool) (w : World) (r : Nat) (wv : Value) (l rest rest1 r2 : List Tok) (a : PLit) (h : Rd w r wv l rest) (hl : l.length ≤ 500)
    (htk : ∀ W, Rd W r wv l rest → Calls Tryz.prog 143 #[.pointer (some ⟨r, 0, none⟩), .int .i64 8] W fun e w' => e = .returned (.bool b) ∧ Rd w' r wv l rest1 ∧ But r W w') (ha : pAtom rest1 = some (a, r2)) :
    Calls Tryz.prog 181 #[.pointer (some ⟨r, 0, none⟩)] w fun e w' => AtomPost (some ({ a with neg := b }, r2)) w r wv l e w' := by
  have hlt := h.lt
  have hne : w.heap.size ≠ r := by omega
  have HTK : Hid (∀ W, Rd W r wv l rest → Calls Tryz.prog 143 #[.pointer (some ⟨r, 0, none⟩), .int .i64 8] W fun e w' => e = .returned (.bool b) ∧ Rd w' r wv l rest1 ∧ But r W w') := htk
  clear htk
  have HA : Hid (pAtom rest1 = some (a, r2)) := ha
  clear ha
  go_enter Tryz.func181, Tryz.ntmps181
  go_wp2_with (first | (go_at_call 143; refine (Hid.out HTK _ (by exact h.below (by repeat' (first | (with_reducible exact Below.refl _ _) | (with_reducible assumption) | (with_reducible refine bdrewN ?_ _) | (with_reducible refine Below.alloc ?_ ?_ _) | (with_reducible refine Below.drew ?_) | (with_reducible refine Below.setCell ?_ ?_ _) | go_size)))).mono ?_; rintro e w1 ⟨rfl, hr1, hbut1⟩; have hx1 := (Box.new w _ _).but hbut1 hne; have hz1 := hx1.lt; have hlt1 := hr1.lt; have hB1 := ((But.refl r w).alloc _).trans hbut1) | (go_at_call 142; refine (atom_some _ r wv l rest1 r2 a hr1 hl HA).mono ?_; rintro e w2 ⟨va, rfl, hsin, hr2, hbut2⟩; obtain ⟨ao, cp, rfl⟩ := hsin.shape; have hx2 := hx1.but hbut2 hne; obtain ⟨hc2, hf2⟩ := hx2.rules; have hz2 := hx2.lt; have hB2 := hB1.trans hbut2))
  exact bodyPost_ret (v := .tuple #[.agg #[.bool b, .string a.pred, .slice ao a.args.length cp], .bool true]) (by simp [results, Tryz.results181, go_sem, hc2, hz2]) rfl ⟨(by repeat' (first | (with_reducible exact But.refl _ _) | (with_reducible assumption) | (with_reducible refine But.drewN ?_ _) | (with_reducible refine But.alloc ?_ _) | (with_reducible refine But.drew ?_) | (with_reducible refine But.setCell ?_ _ _) | (with_reducible refine But.setNew ?_ ?_ _) | go_size)), _, rfl, (hsin.low hB1.size).but (r := w.heap.size) (by repeat' (first | (with_reducible exact But.refl _ _) | (with_reducible assumption) | (with_reducible refine But.drewN ?_ _) | (with_reducible refine But.alloc ?_ _) | (with_reducible refine But.drew ?_) | (with_reducible refine But.setCell ?_ _ _) | (with_reducible refine But.setNew ?_ ?_ _) | go_size)) hx2 (by decide), h.keep hr2 (by repeat' (first | (with_reducible exact Below.refl _ _) | (with_reducible assumption) | (with_reducible refine bdrewN ?_ _) | (with_reducible refine Below.alloc ?_ ?_ _) | (with_reducible refine Below.drew ?_) | (with_reducible refine Below.setCell ?_ ?_ _) | go_size))⟩

theorem pAtom_neg {rest r2 : List Tok} {a : PLit} (h : pAtom rest = some (a, r2)) : a.neg = false := by
  unfold pAtom at h
  (repeat' split at h) <;> first | (cases h; done) | (simp at h; obtain ⟨rfl, _⟩ := h; rfl)

theorem literal_any (w : World) (r : Nat) (wv : Value) (l rest : List Tok) (h : Rd w r wv l rest) (hl : l.length ≤ 500) :
    Calls Tryz.prog 181 #[.pointer (some ⟨r, 0, none⟩)] w fun e w' => AtomPost (pLit rest) w r wv l e w' := by
  unfold pLit
  split
  · rename_i h8
    cases ha : pAtom rest.tail with
    | none => exact literal_no true w r wv l rest rest.tail h hl (fun W hW => take_yes W r wv l rest 8 hW hl (by decide) h8) ha
    | some z => obtain ⟨a, r2⟩ := z; exact literal_yes true w r wv l rest rest.tail r2 a h hl (fun W hW => take_yes W r wv l rest 8 hW hl (by decide) h8) ha
  · rename_i h8
    cases ha : pAtom rest with
    | none => exact literal_no false w r wv l rest rest h hl (fun W hW => take_no W r wv l rest 8 hW hl (by decide) h8) ha
    | some z =>
      obtain ⟨a, r2⟩ := z
      have := literal_yes false w r wv l rest rest r2 a h hl (fun W hW => take_no W r wv l rest 8 hW hl (by decide) h8) ha
      rwa [show ({ a with neg := false } : PLit) = a by rw [← pAtom_neg ha]] at this
end Go.Proofs.YteampbddflhngaaGreat

/- Walks: reader.body. -/
namespace Go.Proofs.YteampbddflhngaaGreat
open Go.RowKit
variable {lo : Nat}

/-- What is owned besides, where something of another type is appended to. -/
theorem own_push {wO w2 : World} {b b2 : Nat} {e e2 : TypeId} {s s2 : Nat} {v v2 : Value} {n n2 : Nat} {xs xs2 : List Value} (hv : wO.ownsRow b e s v n xs) (hne : e ≠ e2) (h : wO.ownsRow b2 e2 s2 v2 n2 xs2)
    (hk : ∀ k, k < wO.heap.size → some k ≠ v.ownBlock → w2.heap[k]? = wO.heap[k]?) : w2.ownsRow b2 e2 s2 v2 n2 xs2 := by
  obtain ⟨h1, h2⟩ := h
  refine ⟨h1, ?_⟩
  rcases h2 with h2 | ⟨g, cap, cur, hv2, hg, hh, rr⟩
  · exact Or.inl h2
  · refine Or.inr ⟨g, cap, cur, hv2, hg, ?_, rr⟩
    rw [hk g (Array.getElem?_eq_some_iff.1 hh).1 ?_]
    · exact hh
    · intro he
      obtain ⟨_, ⟨hv0, _⟩ | ⟨g', cap', cur', hv', _, hh', _⟩⟩ := hv
      · subst hv0; cases he
      · subst hv'; simp only [Value.ownBlock, Option.some.injEq] at he; subst he; rw [hh] at hh'; simp at hh'; exact hne hh'.2.symm

/-- The cells of literals. -/
def LitCells (lo : Nat) (w : World) : List PLit → List Value → Prop
  | [], xs => xs = []
  | a :: ls, xs => ∃ va r, xs = .bool a.neg :: .string a.pred :: va :: r ∧ SIn lo w va a.args ∧ LitCells lo w ls r
theorem LitCells.snoc {w : World} {a : PLit} {va : Value} (hs : SIn lo w va a.args) : ∀ {ls : List PLit} {xs : List Value}, LitCells lo w ls xs → LitCells lo w (ls ++ [a]) (xs ++ [.bool a.neg, .string a.pred, va])
  | [], _, h => by simp only [LitCells] at h; subst h; exact ⟨va, [], rfl, hs, rfl⟩
  | _ :: ls, _, h => by obtain ⟨v, r, rfl, h1, h2⟩ := h; exact ⟨v, r ++ [.bool a.neg, .string a.pred, va], rfl, h1, LitCells.snoc hs h2⟩
theorem LitCells.mono {w w' : World} (hm : ∀ va l, SIn lo w va l → SIn lo w' va l) : ∀ {ls : List PLit} {xs : List Value}, LitCells lo w ls xs → LitCells lo w' ls xs
  | [], _, h => h
  | _ :: ls, _, h => by obtain ⟨v, r, rfl, h1, h2⟩ := h; exact ⟨v, r, rfl, hm _ _ h1, LitCells.mono hm h2⟩
theorem LitCells.len {w : World} : ∀ {ls : List PLit} {xs : List Value}, LitCells lo w ls xs → xs.length = ls.length * 3
  | [], _, h => by simp only [LitCells] at h; subst h; rfl
  | _ :: ls, _, h => by obtain ⟨v, r, rfl, h1, h2⟩ := h; have := LitCells.len h2; simp; omega
theorem LitCells.at {w : World} : ∀ {ls : List PLit} {xs : List Value} (i : Nat) (a : PLit), LitCells lo w ls xs → ls[i]? = some a → ∃ va, xs[i * 3]? = some (.bool a.neg) ∧ xs[i * 3 + 1]? = some (.string a.pred) ∧ xs[i * 3 + 2]? = some va ∧ SIn lo w va a.args
  | [], _, i, a, _, hi => by simp at hi
  | _ :: ls, _, 0, a, h, hi => by obtain ⟨v, r, rfl, h1, h2⟩ := h; simp at hi; subst hi; exact ⟨v, rfl, rfl, rfl, h1⟩
  | _ :: ls, _, i + 1, a, h, hi => by
    obtain ⟨v, r, rfl, h1, h2⟩ := h
    obtain ⟨va, a1, a2, a3, a4⟩ := LitCells.at i a h2 (by simpa using hi)
    refine ⟨va, ?_, ?_, ?_, a4⟩
    · rw [show (i + 1) * 3 = i * 3 + 1 + 1 + 1 from by omega]; simpa using a1
    · rw [show (i + 1) * 3 + 1 = i * 3 + 1 + 1 + 1 + 1 from by omega]; simpa using a2
    · rw [show (i + 1) * 3 + 2 = i * 3 + 2 + 1 + 1 + 1 from by omega]; simpa using a3

/-- A list of literals in memory. -/
def LIn (lo : Nat) (w : World) (v : Value) (ls : List PLit) : Prop := ∃ xs, w.ownsRow lo 90 3 v ls.length xs ∧ LitCells lo w ls xs
theorem LitCells.low {a b : Nat} {w : World} (hab : a ≤ b) : ∀ {ls : List PLit} {xs : List Value}, LitCells b w ls xs → LitCells a w ls xs
  | [], _, h => h
  | _ :: ls, _, h => by obtain ⟨v, r, rfl, h1, h2⟩ := h; exact ⟨v, r, rfl, h1.low hab, LitCells.low hab h2⟩
theorem LIn.low {a b : Nat} {w : World} {v : Value} {l : List PLit} (h : LIn b w v l) (hab : a ≤ b) : LIn a w v l := by obtain ⟨xs, h, hc⟩ := h; exact ⟨xs, own_low h hab, hc.low hab⟩
theorem LIn.nil (w : World) : LIn lo w (.slice none 0 0) [] := ⟨[], World.ownsRow_nil _ _ _ _, rfl⟩
theorem LIn.shape {w : World} {v : Value} {l : List PLit} (h : LIn lo w v l) : ∃ ao cap, v = .slice ao l.length cap := by obtain ⟨xs, h, _⟩ := h; exact own_view h
theorem LIn.below {w w' : World} {v : Value} {l : List PLit} (h : LIn lo w v l) (hb : Below w.heap.size w w') : LIn lo w' v l := by
  obtain ⟨xs, h, hc⟩ := h; exact ⟨xs, owns_below h hb, hc.mono fun _ _ k => k.below hb⟩
theorem LIn.but {r : Nat} {w w' : World} {v : Value} {l : List PLit} (h : LIn lo w v l) (hb : But r w w') {c : Array Value} {T : TypeId} {f : Nat × Nat} (hr : w.heap[r]? = some (.cells c T f)) (hT : T ≠ 9) (hT2 : T ≠ 90) : LIn lo w' v l := by
  obtain ⟨xs, h, hc⟩ := h; exact ⟨xs, own_but h hb hr hT2, hc.mono fun _ _ k => k.but hb hr hT⟩

def pBody : Nat → List Tok → Option (List PLit × List Tok)
  | 0, _ => none
  | n + 1, r => match pLit r with
    | none => none
    | some (a, r2) => if hdK r2 = 6 then (pBody n r2.tail).map fun z => (a :: z.1, z.2) else some ([a], r2)
theorem pBody_no {n : Nat} {r : List Tok} (h : pLit r = none) : pBody (n + 1) r = none := by simp [pBody, h]
theorem pBody_more {n : Nat} {r r2 : List Tok} {a : PLit} (h : pLit r = some (a, r2)) (h6 : hdK r2 = 6) : pBody (n + 1) r = (pBody n r2.tail).map fun z => (a :: z.1, z.2) := by simp [pBody, h, h6]
theorem pBody_stop {n : Nat} {r r2 : List Tok} {a : PLit} (h : pLit r = some (a, r2)) (h6 : hdK r2 ≠ 6) : pBody (n + 1) r = some ([a], r2) := by simp [pBody, h, h6]

theorem pTerms_len : ∀ (r : List Tok) {ts : List ByteArray} {r2 : List Tok}, pTerms r = some (ts, r2) → r2.length < r.length
  | [], _, _, h => by simp [pTerms] at h
  | [x], ts, r2, h => by
    simp only [pTerms] at h
    split at h <;> simp at h
    obtain ⟨_, rfl⟩ := h; simp
  | x :: y :: r, ts, r2, h => by
    simp only [pTerms] at h
    split at h
    · split at h
      · cases hq : pTerms r with
        | none => rw [hq] at h; simp at h
        | some z =>
          obtain ⟨ts', r'⟩ := z
          rw [hq] at h; simp at h
          have := pTerms_len r hq
          obtain ⟨_, rfl⟩ := h; simp; omega
      · simp at h; obtain ⟨_, rfl⟩ := h; simp
    · simp at h
theorem pAtom_len {r r2 : List Tok} {a : PLit} (h : pAtom r = some (a, r2)) : r2.length < r.length := by
  cases r with
  | nil => simp [pAtom, hdK] at h
  | cons x r =>
    unfold pAtom at h
    split at h
    · split at h
      · split at h
        · simp at h
        · rename_i ts r3 hq
          have := pTerms_len _ hq
          split at h <;> simp at h
          obtain ⟨_, rfl⟩ := h; simp at this ⊢; omega
      · simp at h; obtain ⟨_, rfl⟩ := h; simp
    · simp at h
theorem pLit_len {r r2 : List Tok} {a : PLit} (h : pLit r = some (a, r2)) : r2.length < r.length := by
  unfold pLit at h
  split at h
  · cases hq : pAtom r.tail with
    | none => rw [hq] at h; simp at h
    | some z =>
      obtain ⟨a', r'⟩ := z
      rw [hq] at h; simp at h
      have := pAtom_len hq
      obtain ⟨_, rfl⟩ := h; simp at this; omega
  · exact pAtom_len h

theorem lit_none (w : World) (r : Nat) (wv : Value) (l rest : List Tok) (h : Rd w r wv l rest) (hl : l.length ≤ 500) (hp : pLit rest = none) :
    Calls Tryz.prog 181 #[.pointer (some ⟨r, 0, none⟩)] w fun e w' => e = .returned (.tuple #[.agg #[.bool false, .string ByteArray.empty, .slice none 0 0], .bool false]) ∧ But r w w' := by
  refine (literal_any w r wv l rest h hl).mono ?_
  rintro e w' ⟨h1, h2⟩
  rw [hp] at h2
  exact ⟨h2, h1⟩
theorem lit_some (w : World) (r : Nat) (wv : Value) (l rest r2 : List Tok) (a : PLit) (h : Rd w r wv l rest) (hl : l.length ≤ 500) (hp : pLit rest = some (a, r2)) :
    Calls Tryz.prog 181 #[.pointer (some ⟨r, 0, none⟩)] w fun e w' => ∃ va, e = .returned (.tuple #[.agg #[.bool a.neg, .string a.pred, va], .bool true]) ∧ SIn w.heap.size w' va a.args ∧ Rd w' r wv l r2 ∧ But r w w' := by
  refine (literal_any w r wv l rest h hl).mono ?_
  rintro e w' ⟨h1, h2⟩
  rw [hp] at h2
  obtain ⟨v, a, b, c⟩ := h2
  exact ⟨v, a, b, c, h1⟩

theorem Tryz.infoLit : (Tryz.prog.info? 90).map (fun i => (i.zero, i.size, i.bytes)) = some (some (.agg #[.bool false, .string ByteArray.empty, .slice none 0 0]), 3, 48) := by kernel_rfl

def BodyPost (o : Option (List PLit × List Tok)) (w : World) (r : Nat) (wv : Value) (l : List Tok) (e : Ending) (w' : World) : Prop :=
  But r w w' ∧ match o with
    | none => e = .returned (.tuple #[.slice none 0 0, .bool false])
    | some (ls, r2) => ∃ v, e = .returned (.tuple #[v, .bool true]) ∧ LIn w.heap.size w' v ls ∧ Rd w' r wv l r2
theorem bodyPost_no {o : Option (List PLit × List Tok)} {w w' : World} {r : Nat} {wv : Value} {l : List Tok} (h : Hid (o = none)) (hb : But r w w') : BodyPost o w r wv l (.returned (.tuple #[.slice none 0 0, .bool false])) w' := by
  have h' : o = none := h
  subst h'; exact ⟨hb, rfl⟩
theorem bodyPost_yes {o : Option (List PLit × List Tok)} {w w' : World} {r : Nat} {wv v : Value} {l r2 : List Tok} {ls : List PLit} (h : Hid (o = some (ls, r2))) (hb : But r w w') (hs : LIn w.heap.size w' v ls) (hr : Rd w' r wv l r2) :
    BodyPost o w r wv l (.returned (.tuple #[v, .bool true])) w' := by
  have h' : o = some (ls, r2) := h
  subst h'; exact ⟨hb, v, rfl, hs, hr⟩

set_option maxRecDepth 100000 in
set_option maxHeartbeats 1000000 in
theorem body_any (w : World) (r : Nat) (wv : Value) (l rest : List Tok) (h : Rd w r wv l rest) (hl : l.length ≤ 500) (n0 : Nat) (hn0 : rest.length < n0) :
    Calls Tryz.prog 144 #[.pointer (some ⟨r, 0, none⟩)] w fun e w' => BodyPost (pBody n0 rest) w r wv l e w' := by
  obtain ⟨i0, hi, hz0, hzs, hzb⟩ := info_parts Tryz.infoLit
  have hlt := h.lt
  go_enter Tryz.func144, Tryz.ntmps144
  go_wp2
  go_loopg [4, 5] (rest.length) (fun n v t wr => ∃ (acc : List PLit) (rst : List Tok) (more : Bool) (m : Nat) (xs : List Value), t = .bool more ∧ rst.length ≤ n ∧ rst.length < m ∧ rst.length + acc.length ≤ rest.length ∧
      wr.ownsRow w.heap.size 90 3 v acc.length xs ∧ LitCells w.heap.size wr acc xs ∧ Rd wr r wv l rst ∧ But r w wr ∧
      Hid (more = true → pBody n0 rest = (pBody m rst).map fun z => (acc ++ z.1, z.2)) ∧ Hid (more = false → pBody n0 rest = some (acc, rst)))
  case atStart => exact ⟨[], rest, true, n0, [], rfl, Nat.le_refl _, hn0, by simp, World.ownsRow_nil _ _ _ _, rfl, h, But.refl _ _, (fun _ => by simp), (fun h => by cases h)⟩
  case round =>
    obtain ⟨acc, rst, more, m, xs, rfl, hn, hm, hra, hown, hlc, hrd, hbut, H1, H2⟩ := hrel
    have hrl : rest.length ≤ l.length := by
      obtain ⟨p, _, hp, _⟩ := h.box; rw [hp]; simp
    have hws := hbut.size
    obtain ⟨c0, f0, hcell⟩ := hrd.cell
    cases more with
    | false =>
      have H3 : Hid (pBody n0 rest = some (acc, rst)) := H2 rfl
      clear H1 H2
      go_wp2
      go_ret2
      exact bodyPost_yes H3 hbut ⟨_, hown, hlc⟩ hrd
    | true =>
      obtain ⟨m, rfl⟩ : ∃ m', m = m' + 1 := ⟨m - 1, by omega⟩
      have HC : Hid (wr.heap[r]? = some (.cells c0 185 f0)) := hcell
      cases hL : pLit rst with
      | none =>
        have H3 : Hid (pBody n0 rest = none) := by rw [Hid.out H1 rfl, pBody_no hL]; simp [Hid]
        have HL : Hid (pLit rst = none) := hL
        clear H1 H2 hL
        go_wp2_with (first | (go_at_call 181; refine (lit_none _ r wv l rst hrd hl HL).mono ?_; rintro e w1 ⟨rfl, hbut1⟩; have hB1 := hbut.trans hbut1; have hz1 := hB1.size))
        go_ret2
        exact bodyPost_no H3 (by repeat' (first | (with_reducible exact But.refl _ _) | (with_reducible assumption) | (with_reducible refine But.drewN ?_ _) | (with_reducible refine But.alloc ?_ _) | (with_reducible refine But.drew ?_) | (with_reducible refine But.setCell ?_ _ _) | (with_reducible refine But.setNew ?_ ?_ _) | go_size))
      | some z =>
        obtain ⟨a, r2⟩ := z
        have HL : Hid (pLit rst = some (a, r2)) := hL
        have hll := pLit_len hL
        have H3 : Hid (pBody n0 rest = (pBody (m + 1) rst).map fun z => (acc ++ z.1, z.2)) := H1 rfl
        clear H1 H2 hL
        go_wp2_with (first | (go_at_call 181; refine (lit_some _ r wv l rst r2 a hrd hl HL).mono ?_; rintro e w1 ⟨va, rfl, hsin, hr1, hbut1⟩; obtain ⟨ao, cp, rfl⟩ := hsin.shape; have hB1 := hbut.trans hbut1; have hz1 := hB1.size; have ho1 := own_but hown hbut1 hcell (by decide); have hlc1 := hlc.mono fun _ _ k => k.but hbut1 hcell (by decide)) | (at_builtin; refine wpList_push w1 _ _ _ rfl (.tmp 16) (.tmp 18) 91 rfl w.heap.size 90 i0 _ 3 48 Tryz.underlying91 hi hz0 hzs hzb rfl (by decide) _ _ _ rfl ho1 ((Below.refl _ _).alloc (Nat.le_refl _) _) _ _ rfl (by simp) rfl (by simp [Value.oneCell']) (by omega) (by omega) (by omega) ?_; intro v' w2 ho2 hB2 hc2 hf2 hk2 hz2'; clear hc2 hf2; have hrd2 := Rd.keep h hr1 hB2; have hbut2 := hB1.onto hB2; have hs2 : SIn w.heap.size w2 (Value.slice ao a.args.length cp) a.args := own_low (own_push ho1 (by decide) hsin hk2) hws; have hlc2 := hlc1.mono fun _ _ k => own_push ho1 (by decide) k hk2; have htk := take_any w2 r wv l r2 6 hrd2 hl (by decide)) | (go_at_call 143; refine htk.mono ?_; rintro e w3 ⟨rfl, hrd3, hbut3⟩; clear htk))
        obtain ⟨c3, f3, hcell3⟩ := hrd2.cell
        have ho3 := own_but ho2 hbut3 hcell3 (by decide)
        have hs3 := hs2.but hbut3 hcell3 (by decide)
        have hlc3 := hlc2.mono fun _ _ k => k.but hbut3 hcell3 (by decide)
        have htl : (if hdK r2 = 6 then r2.tail else r2).length ≤ r2.length := by split <;> simp
        have hll2 : pLit rst = some (a, r2) := HL
        go_roundg r2.length
        case measure => omega
        case rel =>
          refine ⟨acc ++ [a], (if hdK r2 = 6 then r2.tail else r2), (hdK r2 == 6), m, _, rfl, htl, by omega, by simp; omega, by rw [List.length_append]; exact ho3, hlc3.snoc hs3, hrd3, hbut2.trans hbut3, ?_, ?_⟩
          · intro h6
            have h6' : hdK r2 = 6 := by simpa using h6
            rw [if_pos h6', Hid.out H3, pBody_more hll2 h6', map_snoc2]
          · intro h6
            have h6' : hdK r2 ≠ 6 := by simpa using h6
            rw [if_neg h6', Hid.out H3, pBody_stop hll2 h6']; simp

end Go.Proofs.YteampbddflhngaaGreat

/- Walks: reader.clause. -/
namespace Go.Proofs.YteampbddflhngaaGreat
open Go.RowKit
variable {lo : Nat}

def pClause (n : Nat) (r : List Tok) : Option (PClause × List Tok) :=
  match pAtom r with
  | none => none
  | some (a, r2) =>
    if hdK r2 = 9 then
      match pBody n r2.tail with
      | none => none
      | some (b, r3) => if hdK r3 = 7 then some (⟨a, b⟩, r3.tail) else none
    else if hdK r2 = 7 then some (⟨a, []⟩, r2.tail) else none

theorem body_no (w : World) (r : Nat) (wv : Value) (l rest : List Tok) (h : Rd w r wv l rest) (hl : l.length ≤ 500) (n0 : Nat) (hn0 : rest.length < n0) (hp : pBody n0 rest = none) :
    Calls Tryz.prog 144 #[.pointer (some ⟨r, 0, none⟩)] w fun e w' => e = .returned (.tuple #[.slice none 0 0, .bool false]) ∧ But r w w' := by
  refine (body_any w r wv l rest h hl n0 hn0).mono ?_
  rintro e w' ⟨h1, h2⟩
  rw [hp] at h2
  exact ⟨h2, h1⟩
theorem body_yes (w : World) (r : Nat) (wv : Value) (l rest r2 : List Tok) (b : List PLit) (h : Rd w r wv l rest) (hl : l.length ≤ 500) (n0 : Nat) (hn0 : rest.length < n0) (hp : pBody n0 rest = some (b, r2)) :
    Calls Tryz.prog 144 #[.pointer (some ⟨r, 0, none⟩)] w fun e w' => ∃ v, e = .returned (.tuple #[v, .bool true]) ∧ LIn w.heap.size w' v b ∧ Rd w' r wv l r2 ∧ But r w w' := by
  refine (body_any w r wv l rest h hl n0 hn0).mono ?_
  rintro e w' ⟨h1, h2⟩
  rw [hp] at h2
  obtain ⟨v, a, b, c⟩ := h2
  exact ⟨v, a, b, c, h1⟩

def ClausePost (o : Option (PClause × List Tok)) (w : World) (r : Nat) (wv : Value) (l : List Tok) (e : Ending) (w' : World) : Prop :=
  But r w w' ∧ match o with
    | none => e = .returned (.tuple #[.agg #[.bool false, .string ByteArray.empty, .slice none 0 0, .slice none 0 0], .bool false])
    | some (c, r2) => ∃ va vb, e = .returned (.tuple #[.agg #[.bool c.head.neg, .string c.head.pred, va, vb], .bool true]) ∧ SIn w.heap.size w' va c.head.args ∧ LIn w.heap.size w' vb c.body ∧ Rd w' r wv l r2

set_option maxRecDepth 100000 in
set_option maxHeartbeats 1000000 in
theorem clause_a (w : World) (r : Nat) (wv : Value) (l rest : List Tok) (h : Rd w r wv l rest) (hl : l.length ≤ 500) (ha : pAtom rest = none) :
    Calls Tryz.prog 100 #[.pointer (some ⟨r, 0, none⟩)] w fun e w' => ClausePost none w r wv l e w' := by
  have hlt := h.lt
  have hne : w.heap.size ≠ r := by omega
  have HA : Hid (pAtom rest = none) := ha
  clear ha
  go_enter Tryz.func100, Tryz.ntmps100
  go_wp2_with (first | (go_at_call 142; refine (atom_none _ r wv l rest (by exact h.below (by repeat' (first | (with_reducible exact Below.refl _ _) | (with_reducible assumption) | (with_reducible refine bdrewN ?_ _) | (with_reducible refine Below.alloc ?_ ?_ _) | (with_reducible refine Below.drew ?_) | (with_reducible refine Below.setCell ?_ ?_ _) | go_size))) hl HA).mono ?_; rintro e w1 ⟨rfl, hbut1⟩; have hx1 := (Box.new w _ _).but hbut1 hne; obtain ⟨hc1, hf1⟩ := hx1.rules; have hz1 := hx1.lt; have hB1 := ((But.refl r w).alloc _).trans hbut1))
  exact bodyPost_ret (v := .tuple #[.agg #[.bool false, .string ByteArray.empty, .slice none 0 0, .slice none 0 0], .bool false]) (by simp [results, Tryz.results100, go_sem, hc1, hz1]; rfl) rfl ⟨(by repeat' (first | (with_reducible exact But.refl _ _) | (with_reducible assumption) | (with_reducible refine But.drewN ?_ _) | (with_reducible refine But.alloc ?_ _) | (with_reducible refine But.drew ?_) | (with_reducible refine But.setCell ?_ _ _) | (with_reducible refine But.setNew ?_ ?_ _) | go_size)), rfl⟩

set_option maxRecDepth 100000 in
set_option maxHeartbeats 1000000 in
theorem clause_b (w : World) (r : Nat) (wv : Value) (l rest : List Tok) (h : Rd w r wv l rest) (hl : l.length ≤ 500) (r1 : List Tok) (a : PLit) (ha : pAtom rest = some (a, r1)) (h9 : hdK r1 ≠ 9) (h7 : hdK r1 ≠ 7) :
    Calls Tryz.prog 100 #[.pointer (some ⟨r, 0, none⟩)] w fun e w' => ClausePost none w r wv l e w' := by
  have hlt := h.lt
  have hne : w.heap.size ≠ r := by omega
  have HA : Hid (pAtom rest = some (a, r1)) := ha
  have H9 : Hid (hdK r1 ≠ 9) := h9
  have H7 : Hid (hdK r1 ≠ 7) := h7
  clear ha h9 h7
  go_enter Tryz.func100, Tryz.ntmps100
  go_wp2_with (first | (go_at_call 142; refine (atom_some _ r wv l rest r1 a (by exact h.below (by repeat' (first | (with_reducible exact Below.refl _ _) | (with_reducible assumption) | (with_reducible refine bdrewN ?_ _) | (with_reducible refine Below.alloc ?_ ?_ _) | (with_reducible refine Below.drew ?_) | (with_reducible refine Below.setCell ?_ ?_ _) | go_size))) hl HA).mono ?_; rintro e w1 ⟨va, rfl, hs1, hr1, hbut1⟩; obtain ⟨ao, cp, rfl⟩ := hs1.shape; have hx1 := (Box.new w _ _).but hbut1 hne; have hz1 := hx1.lt; have hlt1 := hr1.lt; have hne1 : w1.heap.size ≠ r := (by omega); have hB1 := ((But.refl r w).alloc _).trans hbut1) | (go_at_call 143; have hq := hr2; refine (take_no _ r wv l r1 7 hq hl (by decide) H7).mono ?_; rintro e w3 ⟨rfl, hr3, hbut3⟩; obtain ⟨c7, f7, hcell7⟩ := hq.cell; have hs3 := hs2.but hbut3 hcell7 (by decide); have hx3 := hx2.but hbut3 hne; have hy3 := hy2.but hbut3 hne1; clear hc2 hf2 hd2 he2; obtain ⟨hc3, hf3⟩ := hx3.rules; obtain ⟨hd3, he3⟩ := hy3.rules; have hz3 := hx3.lt; have hzy3 := hy3.lt; have hlt3 := hr3.lt; have hB3 := hB2.trans hbut3; clear hq hcell7) | (go_at_call 143; have hq := hr1; refine (take_no _ r wv l r1 9 (by exact hq.below (by repeat' (first | (with_reducible exact Below.refl _ _) | (with_reducible assumption) | (with_reducible refine bdrewN ?_ _) | (with_reducible refine Below.alloc ?_ ?_ _) | (with_reducible refine Below.drew ?_) | (with_reducible refine Below.setCell ?_ ?_ _) | go_size))) hl (by decide) H9).mono ?_; rintro e w2 ⟨rfl, hr2, hbut2⟩; have hq1 := (But.refl r w1).alloc (Obj.cells #[.bool a.neg, .string a.pred, .slice ao a.args.length cp] 90); obtain ⟨c1, f1, hcell1⟩ := hr1.cell; have hs2 := hs1.but (hq1.trans hbut2) hcell1 (by decide); have hx2 := (hx1.below ((Below.refl _ _).alloc (Nat.le_refl _) _)).but hbut2 hne; have hy2 := (Box.new w1 _ _).but hbut2 hne1; obtain ⟨hc2, hf2⟩ := hx2.rules; obtain ⟨hd2, he2⟩ := hy2.rules; have hz2 := hx2.lt; have hzy2 := hy2.lt; have hlt2 := hr2.lt; have hB2 := hB1.trans (hq1.trans hbut2); clear hq hq1 hcell1))
  exact bodyPost_ret (v := .tuple #[.agg #[.bool false, .string ByteArray.empty, .slice none 0 0, .slice none 0 0], .bool false]) (by simp [results, Tryz.results100, go_sem, hc3]; rfl) rfl ⟨(by repeat' (first | (with_reducible exact But.refl _ _) | (with_reducible assumption) | (with_reducible refine But.drewN ?_ _) | (with_reducible refine But.alloc ?_ _) | (with_reducible refine But.drew ?_) | (with_reducible refine But.setCell ?_ _ _) | (with_reducible refine But.setNew ?_ ?_ _) | go_size)), rfl⟩

set_option maxRecDepth 100000 in
set_option maxHeartbeats 1000000 in
theorem clause_c (w : World) (r : Nat) (wv : Value) (l rest : List Tok) (h : Rd w r wv l rest) (hl : l.length ≤ 500) (r1 : List Tok) (a : PLit) (ha : pAtom rest = some (a, r1)) (h9 : hdK r1 ≠ 9) (h7 : hdK r1 = 7) :
    Calls Tryz.prog 100 #[.pointer (some ⟨r, 0, none⟩)] w fun e w' => ClausePost (some (⟨a, []⟩, r1.tail)) w r wv l e w' := by
  have hlt := h.lt
  have hne : w.heap.size ≠ r := by omega
  have HA : Hid (pAtom rest = some (a, r1)) := ha
  have H9 : Hid (hdK r1 ≠ 9) := h9
  have H7 : Hid (hdK r1 = 7) := h7
  clear ha h9 h7
  go_enter Tryz.func100, Tryz.ntmps100
  go_wp2_with (first | (go_at_call 142; refine (atom_some _ r wv l rest r1 a (by exact h.below (by repeat' (first | (with_reducible exact Below.refl _ _) | (with_reducible assumption) | (with_reducible refine bdrewN ?_ _) | (with_reducible refine Below.alloc ?_ ?_ _) | (with_reducible refine Below.drew ?_) | (with_reducible refine Below.setCell ?_ ?_ _) | go_size))) hl HA).mono ?_; rintro e w1 ⟨va, rfl, hs1, hr1, hbut1⟩; obtain ⟨ao, cp, rfl⟩ := hs1.shape; have hx1 := (Box.new w _ _).but hbut1 hne; have hz1 := hx1.lt; have hlt1 := hr1.lt; have hne1 : w1.heap.size ≠ r := (by omega); have hB1 := ((But.refl r w).alloc _).trans hbut1) | (go_at_call 143; have hq := hr2; refine (take_yes _ r wv l r1 7 hq hl (by decide) H7).mono ?_; rintro e w3 ⟨rfl, hr3, hbut3⟩; obtain ⟨c7, f7, hcell7⟩ := hq.cell; have hs3 := hs2.but hbut3 hcell7 (by decide); have hx3 := hx2.but hbut3 hne; have hy3 := hy2.but hbut3 hne1; clear hc2 hf2 hd2 he2; obtain ⟨hc3, hf3⟩ := hx3.rules; obtain ⟨hd3, he3⟩ := hy3.rules; have hz3 := hx3.lt; have hzy3 := hy3.lt; have hlt3 := hr3.lt; have hB3 := hB2.trans hbut3; clear hq hcell7) | (go_at_call 143; have hq := hr1; refine (take_no _ r wv l r1 9 (by exact hq.below (by repeat' (first | (with_reducible exact Below.refl _ _) | (with_reducible assumption) | (with_reducible refine bdrewN ?_ _) | (with_reducible refine Below.alloc ?_ ?_ _) | (with_reducible refine Below.drew ?_) | (with_reducible refine Below.setCell ?_ ?_ _) | go_size))) hl (by decide) H9).mono ?_; rintro e w2 ⟨rfl, hr2, hbut2⟩; have hq1 := (But.refl r w1).alloc (Obj.cells #[.bool a.neg, .string a.pred, .slice ao a.args.length cp] 90); obtain ⟨c1, f1, hcell1⟩ := hr1.cell; have hs2 := hs1.but (hq1.trans hbut2) hcell1 (by decide); have hx2 := (hx1.below ((Below.refl _ _).alloc (Nat.le_refl _) _)).but hbut2 hne; have hy2 := (Box.new w1 _ _).but hbut2 hne1; obtain ⟨hc2, hf2⟩ := hx2.rules; obtain ⟨hd2, he2⟩ := hy2.rules; have hz2 := hx2.lt; have hzy2 := hy2.lt; have hlt2 := hr2.lt; have hB2 := hB1.trans (hq1.trans hbut2); clear hq hq1 hcell1))
  exact bodyPost_ret (v := .tuple #[.agg #[.bool a.neg, .string a.pred, .slice ao a.args.length cp, .slice none 0 0], .bool true]) (by simp [results, Tryz.results100, go_sem, hc3]) rfl ⟨(by repeat' (first | (with_reducible exact But.refl _ _) | (with_reducible assumption) | (with_reducible refine But.drewN ?_ _) | (with_reducible refine But.alloc ?_ _) | (with_reducible refine But.drew ?_) | (with_reducible refine But.setCell ?_ _ _) | (with_reducible refine But.setNew ?_ ?_ _) | go_size)), _, _, rfl, (hs3.low (by first | (simp; done) | omega)).but (r := w.heap.size) (by repeat' (first | (with_reducible exact But.refl _ _) | (with_reducible assumption) | (with_reducible refine But.drewN ?_ _) | (with_reducible refine But.alloc ?_ _) | (with_reducible refine But.drew ?_) | (with_reducible refine But.setCell ?_ _ _) | (with_reducible refine But.setNew ?_ ?_ _) | go_size)) hx3 (by decide), LIn.nil _, h.keep hr3 (by repeat' (first | (with_reducible exact Below.refl _ _) | (with_reducible assumption) | (with_reducible refine bdrewN ?_ _) | (with_reducible refine Below.alloc ?_ ?_ _) | (with_reducible refine Below.drew ?_) | (with_reducible refine Below.setCell ?_ ?_ _) | go_size))⟩

set_option maxRecDepth 100000 in
set_option maxHeartbeats 1000000 in
theorem clause_d (w : World) (r : Nat) (wv : Value) (l rest : List Tok) (h : Rd w r wv l rest) (hl : l.length ≤ 500) (r1 : List Tok) (a : PLit) (n0 : Nat) (ha : pAtom rest = some (a, r1)) (h9 : hdK r1 = 9) (hn : r1.tail.length < n0) (hb : pBody n0 r1.tail = none) :
    Calls Tryz.prog 100 #[.pointer (some ⟨r, 0, none⟩)] w fun e w' => ClausePost none w r wv l e w' := by
  have hlt := h.lt
  have hne : w.heap.size ≠ r := by omega
  have HA : Hid (pAtom rest = some (a, r1)) := ha
  have H9 : Hid (hdK r1 = 9) := h9
  have HN : Hid (r1.tail.length < n0) := hn
  have HB : Hid (pBody n0 r1.tail = none) := hb
  clear ha h9 hn hb
  go_enter Tryz.func100, Tryz.ntmps100
  go_wp2_with (first | (go_at_call 142; refine (atom_some _ r wv l rest r1 a (by exact h.below (by repeat' (first | (with_reducible exact Below.refl _ _) | (with_reducible assumption) | (with_reducible refine bdrewN ?_ _) | (with_reducible refine Below.alloc ?_ ?_ _) | (with_reducible refine Below.drew ?_) | (with_reducible refine Below.setCell ?_ ?_ _) | go_size))) hl HA).mono ?_; rintro e w1 ⟨va, rfl, hs1, hr1, hbut1⟩; obtain ⟨ao, cp, rfl⟩ := hs1.shape; have hx1 := (Box.new w _ _).but hbut1 hne; have hz1 := hx1.lt; have hlt1 := hr1.lt; have hne1 : w1.heap.size ≠ r := (by omega); have hB1 := ((But.refl r w).alloc _).trans hbut1) | (go_at_call 144; refine (body_no _ r wv l r1.tail hr2 hl n0 HN HB).mono ?_; rintro e w3 ⟨rfl, hbut3⟩; have hx3 := hx2.but hbut3 hne; have hy3 := hy2.but hbut3 hne1; clear hc2 hf2 hd2 he2; obtain ⟨hc3, hf3⟩ := hx3.rules; obtain ⟨hd3, he3⟩ := hy3.rules; have hz3 := hx3.lt; have hzy3 := hy3.lt; have hB3 := hB2.trans hbut3) | (go_at_call 143; have hq := hr1; refine (take_yes _ r wv l r1 9 (by exact hq.below (by repeat' (first | (with_reducible exact Below.refl _ _) | (with_reducible assumption) | (with_reducible refine bdrewN ?_ _) | (with_reducible refine Below.alloc ?_ ?_ _) | (with_reducible refine Below.drew ?_) | (with_reducible refine Below.setCell ?_ ?_ _) | go_size))) hl (by decide) H9).mono ?_; rintro e w2 ⟨rfl, hr2, hbut2⟩; have hq1 := (But.refl r w1).alloc (Obj.cells #[.bool a.neg, .string a.pred, .slice ao a.args.length cp] 90); obtain ⟨c1, f1, hcell1⟩ := hr1.cell; have hs2 := hs1.but (hq1.trans hbut2) hcell1 (by decide); have hx2 := (hx1.below ((Below.refl _ _).alloc (Nat.le_refl _) _)).but hbut2 hne; have hy2 := (Box.new w1 _ _).but hbut2 hne1; obtain ⟨hc2, hf2⟩ := hx2.rules; obtain ⟨hd2, he2⟩ := hy2.rules; have hz2 := hx2.lt; have hzy2 := hy2.lt; have hlt2 := hr2.lt; have hB2 := hB1.trans (hq1.trans hbut2); clear hq hq1 hcell1))
  exact bodyPost_ret (v := .tuple #[.agg #[.bool false, .string ByteArray.empty, .slice none 0 0, .slice none 0 0], .bool false]) (by simp [results, Tryz.results100, go_sem, hc3]; rfl) rfl ⟨(by repeat' (first | (with_reducible exact But.refl _ _) | (with_reducible assumption) | (with_reducible refine But.drewN ?_ _) | (with_reducible refine But.alloc ?_ _) | (with_reducible refine But.drew ?_) | (with_reducible refine But.setCell ?_ _ _) | (with_reducible refine But.setNew ?_ ?_ _) | go_size)), rfl⟩

set_option maxRecDepth 100000 in
set_option maxHeartbeats 1000000 in
theorem clause_e (w : World) (r : Nat) (wv : Value) (l rest : List Tok) (h : Rd w r wv l rest) (hl : l.length ≤ 500) (r1 r2 : List Tok) (a : PLit) (b : List PLit) (n0 : Nat) (ha : pAtom rest = some (a, r1)) (h9 : hdK r1 = 9) (hn : r1.tail.length < n0) (hb : pBody n0 r1.tail = some (b, r2)) (h7 : hdK r2 ≠ 7) :
    Calls Tryz.prog 100 #[.pointer (some ⟨r, 0, none⟩)] w fun e w' => ClausePost none w r wv l e w' := by
  have hlt := h.lt
  have hne : w.heap.size ≠ r := by omega
  have HA : Hid (pAtom rest = some (a, r1)) := ha
  have H9 : Hid (hdK r1 = 9) := h9
  have HN : Hid (r1.tail.length < n0) := hn
  have HB : Hid (pBody n0 r1.tail = some (b, r2)) := hb
  have H7 : Hid (hdK r2 ≠ 7) := h7
  clear ha h9 hn hb h7
  go_enter Tryz.func100, Tryz.ntmps100
  go_wp2_with (first | (go_at_call 142; refine (atom_some _ r wv l rest r1 a (by exact h.below (by repeat' (first | (with_reducible exact Below.refl _ _) | (with_reducible assumption) | (with_reducible refine bdrewN ?_ _) | (with_reducible refine Below.alloc ?_ ?_ _) | (with_reducible refine Below.drew ?_) | (with_reducible refine Below.setCell ?_ ?_ _) | go_size))) hl HA).mono ?_; rintro e w1 ⟨va, rfl, hs1, hr1, hbut1⟩; obtain ⟨ao, cp, rfl⟩ := hs1.shape; have hx1 := (Box.new w _ _).but hbut1 hne; have hz1 := hx1.lt; have hlt1 := hr1.lt; have hne1 : w1.heap.size ≠ r := (by omega); have hB1 := ((But.refl r w).alloc _).trans hbut1) | (go_at_call 144; refine (body_yes _ r wv l r1.tail r2 b hr2 hl n0 HN HB).mono ?_; rintro e w3 ⟨vb, rfl, hl3, hr3, hbut3⟩; obtain ⟨aob, cpb, rfl⟩ := hl3.shape; obtain ⟨c3, f3, hcell3⟩ := hr2.cell; have hs3 := hs2.but hbut3 hcell3 (by decide); have hx3 := hx2.but hbut3 hne; have hy3 := hy2.but hbut3 hne1; clear hc2 hf2 hd2 he2; obtain ⟨hc3, hf3⟩ := hx3.rules; obtain ⟨hd3, he3⟩ := hy3.rules; have hz3 := hx3.lt; have hzy3 := hy3.lt; have hlt3 := hr3.lt; have hB3 := hB2.trans hbut3; clear hcell3) | (go_at_call 143; have hq := hr3; refine (take_no _ r wv l r2 7 hq hl (by decide) H7).mono ?_; rintro e w4 ⟨rfl, hr4, hbut4⟩; obtain ⟨c7, f7, hcell7⟩ := hq.cell; have hs4 := hs3.but hbut4 hcell7 (by decide); have hx4 := hx3.but hbut4 hne; have hy4 := hy3.but hbut4 hne1; clear hc3 hf3 hd3 he3; obtain ⟨hc4, hf4⟩ := hx4.rules; obtain ⟨hd4, he4⟩ := hy4.rules; have hz4 := hx4.lt; have hzy4 := hy4.lt; have hlt4 := hr4.lt; have hB4 := hB3.trans hbut4; clear hq hcell7) | (go_at_call 143; have hq := hr1; refine (take_yes _ r wv l r1 9 (by exact hq.below (by repeat' (first | (with_reducible exact Below.refl _ _) | (with_reducible assumption) | (with_reducible refine bdrewN ?_ _) | (with_reducible refine Below.alloc ?_ ?_ _) | (with_reducible refine Below.drew ?_) | (with_reducible refine Below.setCell ?_ ?_ _) | go_size))) hl (by decide) H9).mono ?_; rintro e w2 ⟨rfl, hr2, hbut2⟩; have hq1 := (But.refl r w1).alloc (Obj.cells #[.bool a.neg, .string a.pred, .slice ao a.args.length cp] 90); obtain ⟨c1, f1, hcell1⟩ := hr1.cell; have hs2 := hs1.but (hq1.trans hbut2) hcell1 (by decide); have hx2 := (hx1.below ((Below.refl _ _).alloc (Nat.le_refl _) _)).but hbut2 hne; have hy2 := (Box.new w1 _ _).but hbut2 hne1; obtain ⟨hc2, hf2⟩ := hx2.rules; obtain ⟨hd2, he2⟩ := hy2.rules; have hz2 := hx2.lt; have hzy2 := hy2.lt; have hlt2 := hr2.lt; have hB2 := hB1.trans (hq1.trans hbut2); clear hq hq1 hcell1))
  exact bodyPost_ret (v := .tuple #[.agg #[.bool false, .string ByteArray.empty, .slice none 0 0, .slice none 0 0], .bool false]) (by simp [results, Tryz.results100, go_sem, hc4]; rfl) rfl ⟨(by repeat' (first | (with_reducible exact But.refl _ _) | (with_reducible assumption) | (with_reducible refine But.drewN ?_ _) | (with_reducible refine But.alloc ?_ _) | (with_reducible refine But.drew ?_) | (with_reducible refine But.setCell ?_ _ _) | (with_reducible refine But.setNew ?_ ?_ _) | go_size)), rfl⟩

set_option maxRecDepth 100000 in
set_option maxHeartbeats 1000000 in
theorem clause_f (w : World) (r : Nat) (wv : Value) (l rest : List Tok) (h : Rd w r wv l rest) (hl : l.length ≤ 500) (r1 r2 : List Tok) (a : PLit) (b : List PLit) (n0 : Nat) (ha : pAtom rest = some (a, r1)) (h9 : hdK r1 = 9) (hn : r1.tail.length < n0) (hb : pBody n0 r1.tail = some (b, r2)) (h7 : hdK r2 = 7) :
    Calls Tryz.prog 100 #[.pointer (some ⟨r, 0, none⟩)] w fun e w' => ClausePost (some (⟨a, b⟩, r2.tail)) w r wv l e w' := by
  have hlt := h.lt
  have hne : w.heap.size ≠ r := by omega
  have HA : Hid (pAtom rest = some (a, r1)) := ha
  have H9 : Hid (hdK r1 = 9) := h9
  have HN : Hid (r1.tail.length < n0) := hn
  have HB : Hid (pBody n0 r1.tail = some (b, r2)) := hb
  have H7 : Hid (hdK r2 = 7) := h7
  clear ha h9 hn hb h7
  go_enter Tryz.func100, Tryz.ntmps100
  go_wp2_with (first | (go_at_call 142; refine (atom_some _ r wv l rest r1 a (by exact h.below (by repeat' (first | (with_reducible exact Below.refl _ _) | (with_reducible assumption) | (with_reducible refine bdrewN ?_ _) | (with_reducible refine Below.alloc ?_ ?_ _) | (with_reducible refine Below.drew ?_) | (with_reducible refine Below.setCell ?_ ?_ _) | go_size))) hl HA).mono ?_; rintro e w1 ⟨va, rfl, hs1, hr1, hbut1⟩; obtain ⟨ao, cp, rfl⟩ := hs1.shape; have hx1 := (Box.new w _ _).but hbut1 hne; have hz1 := hx1.lt; have hlt1 := hr1.lt; have hne1 : w1.heap.size ≠ r := (by omega); have hB1 := ((But.refl r w).alloc _).trans hbut1) | (go_at_call 144; refine (body_yes _ r wv l r1.tail r2 b hr2 hl n0 HN HB).mono ?_; rintro e w3 ⟨vb, rfl, hl3, hr3, hbut3⟩; obtain ⟨aob, cpb, rfl⟩ := hl3.shape; obtain ⟨c3, f3, hcell3⟩ := hr2.cell; have hs3 := hs2.but hbut3 hcell3 (by decide); have hx3 := hx2.but hbut3 hne; have hy3 := hy2.but hbut3 hne1; clear hc2 hf2 hd2 he2; obtain ⟨hc3, hf3⟩ := hx3.rules; obtain ⟨hd3, he3⟩ := hy3.rules; have hz3 := hx3.lt; have hzy3 := hy3.lt; have hlt3 := hr3.lt; have hB3 := hB2.trans hbut3; clear hcell3) | (go_at_call 143; have hq := hr3; refine (take_yes _ r wv l r2 7 hq hl (by decide) H7).mono ?_; rintro e w4 ⟨rfl, hr4, hbut4⟩; obtain ⟨c7, f7, hcell7⟩ := hq.cell; have hs4 := hs3.but hbut4 hcell7 (by decide); have hl4 := hl3.but hbut4 hcell7 (by decide) (by decide); have hx4 := hx3.but hbut4 hne; have hy4 := hy3.but hbut4 hne1; clear hc3 hf3 hd3 he3; obtain ⟨hc4, hf4⟩ := hx4.rules; obtain ⟨hd4, he4⟩ := hy4.rules; have hz4 := hx4.lt; have hzy4 := hy4.lt; have hlt4 := hr4.lt; have hB4 := hB3.trans hbut4; clear hq hcell7) | (go_at_call 143; have hq := hr1; refine (take_yes _ r wv l r1 9 (by exact hq.below (by repeat' (first | (with_reducible exact Below.refl _ _) | (with_reducible assumption) | (with_reducible refine bdrewN ?_ _) | (with_reducible refine Below.alloc ?_ ?_ _) | (with_reducible refine Below.drew ?_) | (with_reducible refine Below.setCell ?_ ?_ _) | go_size))) hl (by decide) H9).mono ?_; rintro e w2 ⟨rfl, hr2, hbut2⟩; have hq1 := (But.refl r w1).alloc (Obj.cells #[.bool a.neg, .string a.pred, .slice ao a.args.length cp] 90); obtain ⟨c1, f1, hcell1⟩ := hr1.cell; have hs2 := hs1.but (hq1.trans hbut2) hcell1 (by decide); have hx2 := (hx1.below ((Below.refl _ _).alloc (Nat.le_refl _) _)).but hbut2 hne; have hy2 := (Box.new w1 _ _).but hbut2 hne1; obtain ⟨hc2, hf2⟩ := hx2.rules; obtain ⟨hd2, he2⟩ := hy2.rules; have hz2 := hx2.lt; have hzy2 := hy2.lt; have hlt2 := hr2.lt; have hB2 := hB1.trans (hq1.trans hbut2); clear hq hq1 hcell1))
  exact bodyPost_ret (v := .tuple #[.agg #[.bool a.neg, .string a.pred, .slice ao a.args.length cp, .slice aob b.length cpb], .bool true]) (by simp [results, Tryz.results100, go_sem, hc4]) rfl ⟨(by repeat' (first | (with_reducible exact But.refl _ _) | (with_reducible assumption) | (with_reducible refine But.drewN ?_ _) | (with_reducible refine But.alloc ?_ _) | (with_reducible refine But.drew ?_) | (with_reducible refine But.setCell ?_ _ _) | (with_reducible refine But.setNew ?_ ?_ _) | go_size)), _, _, rfl, (hs4.low (by first | (simp; done) | omega)).but (r := w.heap.size) (by repeat' (first | (with_reducible exact But.refl _ _) | (with_reducible assumption) | (with_reducible refine But.drewN ?_ _) | (with_reducible refine But.alloc ?_ _) | (with_reducible refine But.drew ?_) | (with_reducible refine But.setCell ?_ _ _) | (with_reducible refine But.setNew ?_ ?_ _) | go_size)) hx4 (by decide), (hl4.low (by first | (simp; done) | omega)).but (r := w.heap.size) (by repeat' (first | (with_reducible exact But.refl _ _) | (with_reducible assumption) | (with_reducible refine But.drewN ?_ _) | (with_reducible refine But.alloc ?_ _) | (with_reducible refine But.drew ?_) | (with_reducible refine But.setCell ?_ _ _) | (with_reducible refine But.setNew ?_ ?_ _) | go_size)) hx4 (by decide) (by decide), h.keep hr4 (by repeat' (first | (with_reducible exact Below.refl _ _) | (with_reducible assumption) | (with_reducible refine bdrewN ?_ _) | (with_reducible refine Below.alloc ?_ ?_ _) | (with_reducible refine Below.drew ?_) | (with_reducible refine Below.setCell ?_ ?_ _) | go_size))⟩

theorem clause_any (w : World) (r : Nat) (wv : Value) (l rest : List Tok) (h : Rd w r wv l rest) (hl : l.length ≤ 500) (n0 : Nat) (hn0 : rest.length ≤ n0) :
    Calls Tryz.prog 100 #[.pointer (some ⟨r, 0, none⟩)] w fun e w' => ClausePost (pClause n0 rest) w r wv l e w' := by
  unfold pClause
  split
  · rename_i ha; exact clause_a w r wv l rest h hl ha
  · rename_i a r1 ha
    have hlen := pAtom_len ha
    split
    · rename_i h9
      have hn : r1.tail.length < n0 := by simp; omega
      split
      · rename_i hb; exact clause_d w r wv l rest h hl r1 a n0 ha h9 hn hb
      · rename_i b r2 hb
        split
        · rename_i h7; exact clause_f w r wv l rest h hl r1 r2 a b n0 ha h9 hn hb h7
        · rename_i h7; exact clause_e w r wv l rest h hl r1 r2 a b n0 ha h9 hn hb h7
    · rename_i h9
      split
      · rename_i h7; exact clause_c w r wv l rest h hl r1 a ha h9 h7
      · rename_i h7; exact clause_b w r wv l rest h hl r1 a ha h9 h7
end Go.Proofs.YteampbddflhngaaGreat

/- Walks: clauses.Parse. -/
namespace Go.Proofs.YteampbddflhngaaGreat
open Go.RowKit
variable {lo : Nat}

/-- The cells of clauses. -/
def ClCells (lo : Nat) (w : World) : List PClause → List Value → Prop
  | [], xs => xs = []
  | c :: cs, xs => ∃ va vb r, xs = .bool c.head.neg :: .string c.head.pred :: va :: vb :: r ∧ SIn lo w va c.head.args ∧ LIn lo w vb c.body ∧ ClCells lo w cs r
theorem ClCells.snoc {w : World} {c : PClause} {va vb : Value} (hs : SIn lo w va c.head.args) (hb : LIn lo w vb c.body) : ∀ {ls : List PClause} {xs : List Value}, ClCells lo w ls xs → ClCells lo w (ls ++ [c]) (xs ++ [.bool c.head.neg, .string c.head.pred, va, vb])
  | [], _, h => by simp only [ClCells] at h; subst h; exact ⟨va, vb, [], rfl, hs, hb, rfl⟩
  | _ :: ls, _, h => by obtain ⟨v, v2, r, rfl, h1, h2, h3⟩ := h; exact ⟨v, v2, r ++ [.bool c.head.neg, .string c.head.pred, va, vb], rfl, h1, h2, ClCells.snoc hs hb h3⟩
theorem ClCells.mono {w w' : World} (hm : ∀ va l, SIn lo w va l → SIn lo w' va l) (hm2 : ∀ va l, LIn lo w va l → LIn lo w' va l) : ∀ {ls : List PClause} {xs : List Value}, ClCells lo w ls xs → ClCells lo w' ls xs
  | [], _, h => h
  | _ :: ls, _, h => by obtain ⟨v, v2, r, rfl, h1, h2, h3⟩ := h; exact ⟨v, v2, r, rfl, hm _ _ h1, hm2 _ _ h2, ClCells.mono hm hm2 h3⟩
theorem ClCells.at {w : World} : ∀ {ls : List PClause} {xs : List Value} (i : Nat) (c : PClause), ClCells lo w ls xs → ls[i]? = some c →
    ∃ va vb, xs[i * 4]? = some (.bool c.head.neg) ∧ xs[i * 4 + 1]? = some (.string c.head.pred) ∧ xs[i * 4 + 2]? = some va ∧ xs[i * 4 + 3]? = some vb ∧ SIn lo w va c.head.args ∧ LIn lo w vb c.body
  | [], _, i, a, _, hi => by simp at hi
  | _ :: ls, _, 0, a, h, hi => by obtain ⟨v, v2, r, rfl, h1, h2, h3⟩ := h; simp at hi; subst hi; exact ⟨v, v2, rfl, rfl, rfl, rfl, h1, h2⟩
  | _ :: ls, _, i + 1, a, h, hi => by
    obtain ⟨v, v2, r, rfl, h1, h2, h3⟩ := h
    obtain ⟨va, vb, a1, a2, a3, a4, a5⟩ := ClCells.at i a h3 (by simpa using hi)
    refine ⟨va, vb, ?_, ?_, ?_, ?_, a5⟩
    · rw [show (i + 1) * 4 = i * 4 + 1 + 1 + 1 + 1 from by omega]; simpa using a1
    · rw [show (i + 1) * 4 + 1 = i * 4 + 1 + 1 + 1 + 1 + 1 from by omega]; simpa using a2
    · rw [show (i + 1) * 4 + 2 = i * 4 + 2 + 1 + 1 + 1 + 1 from by omega]; simpa using a3
    · rw [show (i + 1) * 4 + 3 = i * 4 + 3 + 1 + 1 + 1 + 1 from by omega]; simpa using a4
/-- A list of clauses in memory, of either package's type. -/
def CIn (lo : Nat) (T : TypeId) (w : World) (v : Value) (ls : List PClause) : Prop := ∃ xs, w.ownsRow lo T 4 v ls.length xs ∧ ClCells lo w ls xs
theorem ClCells.low {a b : Nat} {w : World} (hab : a ≤ b) : ∀ {ls : List PClause} {xs : List Value}, ClCells b w ls xs → ClCells a w ls xs
  | [], _, h => h
  | _ :: ls, _, h => by obtain ⟨v, v2, r, rfl, h1, h2, h3⟩ := h; exact ⟨v, v2, r, rfl, h1.low hab, h2.low hab, ClCells.low hab h3⟩
theorem CIn.low {a b : Nat} {T : TypeId} {w : World} {v : Value} {l : List PClause} (h : CIn b T w v l) (hab : a ≤ b) : CIn a T w v l := by obtain ⟨xs, h, hc⟩ := h; exact ⟨xs, own_low h hab, hc.low hab⟩
theorem CIn.shape {T : TypeId} {w : World} {v : Value} {l : List PClause} (h : CIn lo T w v l) : ∃ ao cap, v = .slice ao l.length cap := by obtain ⟨xs, h, _⟩ := h; exact own_view h
theorem CIn.below {T : TypeId} {w w' : World} {v : Value} {l : List PClause} (h : CIn lo T w v l) (hb : Below w.heap.size w w') : CIn lo T w' v l := by
  obtain ⟨xs, h, hc⟩ := h; exact ⟨xs, owns_below h hb, hc.mono (fun _ _ k => k.below hb) (fun _ _ k => k.below hb)⟩
theorem LIn.push {wO w2 : World} {b : Nat} {e : TypeId} {s : Nat} {v v2 : Value} {n : Nat} {xs : List Value} {ls : List PLit} (hv : wO.ownsRow b e s v n xs) (hne : e ≠ 90) (hne2 : e ≠ 9) (h : LIn lo wO v2 ls)
    (hk : ∀ k, k < wO.heap.size → some k ≠ v.ownBlock → w2.heap[k]? = wO.heap[k]?) : LIn lo w2 v2 ls := by
  obtain ⟨xs2, h1, h2⟩ := h
  exact ⟨xs2, own_push hv hne h1 hk, h2.mono fun _ _ k => own_push hv hne2 k hk⟩

def pProg (n0 : Nat) : Nat → List Tok → Option (List PClause)
  | _, [] => some []
  | 0, _ :: _ => none
  | m + 1, x :: r => match pClause n0 (x :: r) with
    | none => none
    | some (c, r2) => (pProg n0 m r2).map (c :: ·)
theorem pProg_no {n0 m : Nat} {r : List Tok} (hr : r ≠ []) (h : pClause n0 r = none) : pProg n0 (m + 1) r = none := by
  cases r with
  | nil => exact absurd rfl hr
  | cons x r => simp [pProg, h]
theorem pProg_yes {n0 m : Nat} {r r2 : List Tok} {c : PClause} (hr : r ≠ []) (h : pClause n0 r = some (c, r2)) : pProg n0 (m + 1) r = (pProg n0 m r2).map (c :: ·) := by
  cases r with
  | nil => exact absurd rfl hr
  | cons x r => simp [pProg, h]
theorem pBody_len {n : Nat} : ∀ {r r2 : List Tok} {b : List PLit}, pBody n r = some (b, r2) → r2.length < r.length := by
  induction n with
  | zero => intro r r2 b h; simp [pBody] at h
  | succ n ih =>
    intro r r2 b h
    cases hl : pLit r with
    | none => rw [pBody_no hl] at h; cases h
    | some z =>
      obtain ⟨a, r3⟩ := z
      have := pLit_len hl
      by_cases h6 : hdK r3 = 6
      · rw [pBody_more hl h6] at h
        cases hq : pBody n r3.tail with
        | none => rw [hq] at h; simp at h
        | some z =>
          rw [hq] at h; simp at h
          have := ih hq
          obtain ⟨_, rfl⟩ := h; simp at this; omega
      · rw [pBody_stop hl h6] at h; simp at h; obtain ⟨_, rfl⟩ := h; omega
theorem pClause_len {n : Nat} {r r2 : List Tok} {c : PClause} (h : pClause n r = some (c, r2)) : r2.length < r.length := by
  unfold pClause at h
  split at h
  · cases h
  · rename_i a r1 ha
    have := pAtom_len ha
    split at h
    · split at h
      · cases h
      · rename_i b r3 hb
        have := pBody_len hb
        split at h <;> simp at h
        obtain ⟨_, rfl⟩ := h; simp at this ⊢; omega
    · split at h <;> simp at h
      obtain ⟨_, rfl⟩ := h; simp; omega

theorem clause_no (w : World) (r : Nat) (wv : Value) (l rest : List Tok) (h : Rd w r wv l rest) (hl : l.length ≤ 500) (n0 : Nat) (hn0 : rest.length ≤ n0) (hp : pClause n0 rest = none) :
    Calls Tryz.prog 100 #[.pointer (some ⟨r, 0, none⟩)] w fun e w' => e = .returned (.tuple #[.agg #[.bool false, .string ByteArray.empty, .slice none 0 0, .slice none 0 0], .bool false]) ∧ But r w w' := by
  refine (clause_any w r wv l rest h hl n0 hn0).mono ?_
  rintro e w' ⟨h1, h2⟩
  rw [hp] at h2
  exact ⟨h2, h1⟩
theorem clause_yes (w : World) (r : Nat) (wv : Value) (l rest r2 : List Tok) (c : PClause) (h : Rd w r wv l rest) (hl : l.length ≤ 500) (n0 : Nat) (hn0 : rest.length ≤ n0) (hp : pClause n0 rest = some (c, r2)) :
    Calls Tryz.prog 100 #[.pointer (some ⟨r, 0, none⟩)] w fun e w' => ∃ va vb, e = .returned (.tuple #[.agg #[.bool c.head.neg, .string c.head.pred, va, vb], .bool true]) ∧ SIn w.heap.size w' va c.head.args ∧ LIn w.heap.size w' vb c.body ∧ Rd w' r wv l r2 ∧ But r w w' := by
  refine (clause_any w r wv l rest h hl n0 hn0).mono ?_
  rintro e w' ⟨h1, h2⟩
  rw [hp] at h2
  obtain ⟨v, v2, a, b, c, d⟩ := h2
  exact ⟨v, v2, a, b, c, d, h1⟩

theorem Tryz.infoClause : (Tryz.prog.info? 171).map (fun i => (i.zero, i.size, i.bytes)) = some (some (.agg #[.bool false, .string ByteArray.empty, .slice none 0 0, .slice none 0 0]), 4, 72) := by kernel_rfl

def ParsePost (o : Option (List PClause)) (w : World) (e : Ending) (w' : World) : Prop :=
  Below w.heap.size w w' ∧ match o with
    | none => e = .returned (.tuple #[.slice none 0 0, .bool false])
    | some cs => ∃ v, e = .returned (.tuple #[v, .bool true]) ∧ CIn w.heap.size 171 w' v cs
theorem parsePost_no {o : Option (List PClause)} {w w' : World} (h : Hid (o = none)) (hb : Below w.heap.size w w') : ParsePost o w (.returned (.tuple #[.slice none 0 0, .bool false])) w' := by
  have h' : o = none := h
  subst h'; exact ⟨hb, rfl⟩
theorem parsePost_yes {o : Option (List PClause)} {w w' : World} {v : Value} {cs : List PClause} (h : Hid (o = some cs)) (hb : Below w.heap.size w w') (hs : CIn w.heap.size 171 w' v cs) : ParsePost o w (.returned (.tuple #[v, .bool true])) w' := by
  have h' : o = some cs := h
  subst h'; exact ⟨hb, v, rfl, hs⟩

set_option maxRecDepth 100000 in
set_option maxHeartbeats 1000000 in
theorem parse_any (w : World) (wv : Value) (l : List Tok) (base : Nat) (hw : w.ownsRow base 182 2 wv l.length (wcells l)) (hl : l.length ≤ 500) :
    Calls Tryz.prog 60 #[wv] w fun e w' => ParsePost (pProg l.length l.length l) w e w' := by
  obtain ⟨i0, hi, hz0, hzs, hzb⟩ := info_parts Tryz.infoClause
  obtain ⟨ao, cap, rfl⟩ := own_view hw
  have h0 : Rd (w.alloc (.cells #[.slice ao l.length cap, .int .i64 0] 185)) w.heap.size (.slice ao l.length cap) l l :=
    ⟨⟨0, Nat.zero_le _, rfl, Box.new _ _ _⟩, base, owns_below hw ((Below.refl _ _).alloc (Nat.le_refl _) _)⟩
  clear hw
  go_enter Tryz.func60, Tryz.ntmps60
  go_wp2
  go_loopg [5] (l.length) (fun n v wr => ∃ (acc : List PClause) (rst : List Tok) (m : Nat) (xs : List Value), rst.length ≤ n ∧ rst.length ≤ m ∧ rst.length + acc.length ≤ l.length ∧
      wr.ownsRow (w.heap.size + 1) 171 4 v acc.length xs ∧ ClCells w.heap.size wr acc xs ∧ Rd wr w.heap.size (.slice ao l.length cap) l rst ∧ But w.heap.size (w.alloc (.cells #[.slice ao l.length cap, .int .i64 0] 185)) wr ∧
      Hid (pProg l.length l.length l = (pProg l.length m rst).map (acc ++ ·)))
  case atStart => exact ⟨[], l, l.length, [], Nat.le_refl _, Nat.le_refl _, by simp, World.ownsRow_nil _ _ _ _, rfl, h0, But.refl _ _, (by simp [Hid])⟩
  case round =>
    obtain ⟨acc, rst, m, xs, hn, hm, hra, hown, hlc, hrd, hbut, H1⟩ := hrel
    have hwr : w.heap.size ≤ wr.heap.size := by have := hbut.size; simp at this; omega
    obtain ⟨c0, f0, hcell⟩ := hrd.cell
    have HCELL : Hid (wr.heap[w.heap.size]? = some (.cells c0 185 f0)) := hcell
    obtain ⟨p, ao', cap', hp, hr, hwv, hblk, hc0, hc1, hfz, hx⟩ := hrd.view
    clear hwv hx hblk
    cases rst with
    | nil =>
      have hpl : p = l.length := by
        have := congrArg List.length hr; simp at this; omega
      have H3 : Hid (pProg l.length l.length l = some acc) := by rw [Hid.out H1]; cases m <;> simp [pProg, Hid]
      have hbel : Below w.heap.size w wr := ((Below.refl _ _).alloc (Nat.le_refl _) _).trans (hbut.below (Nat.le_refl _) (by simp))
      subst hpl
      clear hr H1 hcell
      go_wp2
      go_ret2
      exact parsePost_yes H3 hbel ⟨_, own_low hown (by omega), hlc⟩
    | cons x r0 =>
      have hpl : p < l.length := by
        rcases Nat.lt_or_ge p l.length with h | h
        · exact h
        · rw [List.drop_eq_nil_of_le h] at hr; cases hr
      clear hr
      have hne : x :: r0 ≠ [] := by simp
      obtain ⟨m, rfl⟩ : ∃ m', m = m' + 1 := ⟨m - 1, by simp at hm; omega⟩
      generalize x :: r0 = rst at *
      have HN : Hid (rst.length ≤ l.length) := by unfold Hid; omega
      cases hC : pClause l.length rst with
      | none =>
        have HC : Hid (pClause l.length rst = none) := hC
        have H3 : Hid (pProg l.length l.length l = none) := by rw [Hid.out H1, pProg_no hne hC]; simp [Hid]
        clear hC hne H1
        go_wp2_with (first | (go_at_call 100; refine (clause_no _ w.heap.size _ l rst hrd hl l.length HN HC).mono ?_; rintro e w1 ⟨rfl, hbut1⟩; have hB1 := hbut.trans hbut1; have hz1 := hB1.size; have hbel1 : Below w.heap.size w w1 := ((Below.refl _ _).alloc (Nat.le_refl _) _).trans (hB1.below (Nat.le_refl _) (by simp))))
        go_ret2
        have hzb1 := hbel1.size
        exact parsePost_no H3 (by repeat' (first | (with_reducible exact Below.refl _ _) | (with_reducible assumption) | (with_reducible refine bdrewN ?_ _) | (with_reducible refine Below.alloc ?_ ?_ _) | (with_reducible refine Below.drew ?_) | (with_reducible refine Below.setCell ?_ ?_ _) | go_size))
      | some z =>
        obtain ⟨c, r2⟩ := z
        have HC : Hid (pClause l.length rst = some (c, r2)) := hC
        have hll := pClause_len hC
        have H3 : Hid (pProg l.length l.length l = (pProg l.length m r2).map ((acc ++ [c]) ++ ·)) := by rw [Hid.out H1, pProg_yes hne hC, map_snoc]; rfl
        clear hC hne H1
        go_wp2_with (first | (go_at_call 100; refine (clause_yes _ w.heap.size _ l rst r2 c hrd hl l.length HN HC).mono ?_; rintro e w1 ⟨va, vb, rfl, hs1, hl1, hr1, hbut1⟩; obtain ⟨aoa, cpa, rfl⟩ := hs1.shape; obtain ⟨aob, cpb, rfl⟩ := hl1.shape; have hB1 := hbut.trans hbut1; have hz1 := hB1.size; have hzz : w.heap.size + 1 ≤ w1.heap.size := (by simpa using hz1); have ho1 := own_but hown hbut1 hcell (by decide); have hlc1 := hlc.mono (fun _ _ k => k.but hbut1 hcell (by decide)) (fun _ _ k => k.but hbut1 hcell (by decide) (by decide))) | (at_builtin; refine wpList_push w1 _ _ _ rfl (.tmp 22) (.tmp 24) 121 rfl (w.heap.size + 1) 171 i0 _ 4 72 Tryz.underlying121 hi hz0 hzs hzb rfl (by decide) _ _ _ rfl ho1 ((Below.refl _ _).alloc (Nat.le_refl _) _) _ _ rfl (by simp) rfl (by simp [Value.oneCell']) (by omega) (by omega) hzz ?_; intro v' w2 ho2 hB2 hc2 hf2 hk2 hz2'; clear hc2 hf2; have hrd2 := Rd.keep h0 hr1 (by simpa using hB2); have hbut2 := hB1.onto (by simpa using hB2); have hs2 : SIn w.heap.size w2 (Value.slice aoa c.head.args.length cpa) c.head.args := own_low (own_push ho1 (by decide) hs1 hk2) hwr; have hl2 := (hl1.push ho1 (by decide) (by decide) hk2).low hwr; have hlc2 := hlc1.mono (fun _ _ k => own_push ho1 (by decide) k hk2) (fun _ _ k => k.push ho1 (by decide) (by decide) hk2)))
        go_roundg r2.length
        case measure => omega
        case rel => exact ⟨acc ++ [c], r2, m, _, Nat.le_refl _, by omega, by simp; omega, by rw [List.length_append]; exact ho2, hlc2.snoc hs2 hl2, hrd2, hbut2, H3⟩

end Go.Proofs.YteampbddflhngaaGreat
