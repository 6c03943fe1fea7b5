import Derived.Test.YteampbddflhngaaGreatP03
import Derived.Deep.RegionLaw

/- Walks: preds.Table.place. -/
namespace Go.Proofs.YteampbddflhngaaGreat
open Go.RowKit

structure PEnt where
  name : ByteArray
  arity : Nat
  stratum : Nat
def ltB (a b : ByteArray) : Bool := Op.bytesLess a.toList b.toList
def placeB : List PEnt → ByteArray → Nat
  | [], _ => 0
  | e :: r, n => if ltB e.name n then placeB r n + 1 else 0
theorem placeB_le : ∀ (t : List PEnt) (n : ByteArray), placeB t n ≤ t.length
  | [], _ => Nat.le_refl _
  | e :: r, n => by have := placeB_le r n; unfold placeB; split <;> simp <;> omega
theorem placeB_drop : ∀ (t : List PEnt) (n : ByteArray) (k : Nat), (∀ j (hj : j < t.length), j < k → ltB t[j].name n = true) → k ≤ t.length → placeB t n = k + placeB (t.drop k) n
  | [], n, k, _, hk => by simp at hk; subst hk; simp
  | e :: r, n, 0, _, _ => by simp
  | e :: r, n, k + 1, h, hk => by
    have h0 := h 0 (by simp) (by omega)
    simp at h0
    have := placeB_drop r n k (fun j hj hjk => by have := h (j + 1) (by simpa using hj) (by omega); simpa using this) (by simpa using hk)
    simp [placeB, h0]; omega
theorem placeB_stop (t : List PEnt) (n : ByteArray) (k : Nat) (h : ∀ j (hj : j < t.length), j < k → ltB t[j].name n = true) (hk : k < t.length) (hn : ltB t[k].name n = false) : placeB t n = k := by
  rw [placeB_drop t n k h (by omega), List.drop_eq_getElem_cons hk, placeB, hn]; rfl
theorem placeB_end (t : List PEnt) (n : ByteArray) (h : ∀ j (hj : j < t.length), ltB t[j].name n = true) : placeB t n = t.length := by
  rw [placeB_drop t n t.length (fun j hj _ => h j hj) (Nat.le_refl _)]; simp [placeB]

def pcells (t : List PEnt) : List Value := t.flatMap fun e => [.string e.name, .int .i64 (e.arity : Int), .int .i64 (e.stratum : Int)]
theorem pcells_len (t : List PEnt) : (pcells t).length = t.length * 3 := by
  induction t with
  | nil => rfl
  | cons a t ih => simp [pcells] at ih ⊢; omega
theorem pcells_at : ∀ (t : List PEnt) (k : Nat) (hk : k < t.length), (pcells t)[k * 3]? = some (.string t[k].name) ∧ (pcells t)[k * 3 + 1]? = some (.int .i64 (t[k].arity : Int)) ∧ (pcells t)[k * 3 + 2]? = some (.int .i64 (t[k].stratum : Int))
  | [], k, hk => by simp at hk
  | e :: r, 0, _ => by simp [pcells]
  | e :: r, k + 1, hk => by
    have := pcells_at r k (by simpa using hk)
    simp only [pcells, List.flatMap_cons] at this ⊢
    rw [show (k + 1) * 3 = k * 3 + 1 + 1 + 1 from by omega, show k * 3 + 1 + 1 + 1 + 1 = k * 3 + 1 + 1 + 1 + 1 from rfl, show k * 3 + 1 + 1 + 1 + 2 = k * 3 + 2 + 1 + 1 + 1 from by omega]
    simpa using this

/-- The table's object. -/
def TA (B : Nat) (w : World) (tb : Nat) (t : List PEnt) : Prop := ∃ pv, Box w tb #[pv] 127 ∧ w.ownsRow B 221 3 pv t.length (pcells t)
theorem TA.below {B : Nat} {w w' : World} {tb : Nat} {t : List PEnt} (h : TA B w tb t) (hb : Below w.heap.size w w') : TA B w' tb t := by
  obtain ⟨nv, h1, h2⟩ := h; exact ⟨nv, h1.below hb, owns_below h2 hb⟩
theorem TA.view {B : Nat} {w : World} {tb : Nat} {t : List PEnt} (h : TA B w tb t) : ∃ ao cap, Box w tb #[.slice ao t.length cap] 127 ∧ w.ownsRow B 221 3 (.slice ao t.length cap) t.length (pcells t) := by
  obtain ⟨nv, h1, h2⟩ := h
  obtain ⟨ao, cap, rfl⟩ := own_view h2
  exact ⟨ao, cap, h1, h2⟩
theorem ent_cell {B : Nat} {w : World} {ao : Option Addr} {n cap : Nat} {t : List PEnt} (h : w.ownsRow B 221 3 (.slice ao n cap) t.length (pcells t)) (k : Nat) (hk : k < t.length) : ∃ g, ao = some ⟨g, 0, none⟩ ∧ g < w.heap.size ∧ B ≤ g ∧
    w.cell? ⟨g, k * 3, none⟩ = some (.string t[k].name) ∧ w.cell? ⟨g, k * 3 + 1, none⟩ = some (.int .i64 (t[k].arity : Int)) ∧ w.cell? ⟨g, k * 3 + 2, none⟩ = some (.int .i64 (t[k].stratum : Int)) := by
  obtain ⟨g, cap', hv, hB, hg, hcl⟩ := own_cells h (by omega)
  simp at hv
  obtain ⟨a1, a2, a3⟩ := pcells_at t k hk
  exact ⟨g, hv.1, hg, hB, hcl _ _ a1, hcl _ _ a2, hcl _ _ a3⟩

set_option maxRecDepth 100000 in
set_option maxHeartbeats 1000000 in
theorem place_any (B : Nat) (w : World) (tb : Nat) (t : List PEnt) (n : ByteArray) (h : TA B w tb t) (hl : t.length ≤ 1000) :
    Calls Tryz.prog 126 #[.pointer (some ⟨tb, 0, none⟩), .string n] w fun e w' => e = .returned (.int .i64 (placeB t n)) ∧ w' = w := by
  obtain ⟨ao, cap, hbx, hown⟩ := h.view
  obtain ⟨hc, hf⟩ := hbx.rules
  clear h
  go_enter Tryz.func126, Tryz.ntmps126
  go_wp2
  go_loop [5] (fun i => ∃ k : Nat, k ≤ t.length ∧ i = .int .i64 k ∧ Hid (∀ j (hj : j < t.length), j < k → ltB t[j].name n = true)) (fun i => t.length - (intOf i).toNat)
  case atStart => exact ⟨0, Nat.zero_le _, rfl, fun j hj h => by omega⟩
  case round =>
    obtain ⟨k, hk, rfl, H⟩ := hrel
    by_cases hlt : k < t.length
    · obtain ⟨g, rfl, hg, _, hd0, _, _⟩ := ent_cell hown k hlt
      cases hL : ltB t[k].name n with
      | true =>
        have H2 : Hid (∀ j (hj : j < t.length), j < k + 1 → ltB t[j].name n = true) := fun j hj h => by
          rcases Nat.lt_or_ge j k with h' | h'
          · exact H.out j hj h'
          · obtain rfl : j = k := by omega
            exact hL
        unfold ltB at hL
        generalize t[k].name = x at *
        clear H
        go_wp2
        go_round
        case rel => exact ⟨k + 1, by omega, by go_num, H2⟩
        case measure => simp [intOf]; omega
      | false =>
        have H2 : Hid (placeB t n = k) := placeB_stop t n k H.out hlt hL
        unfold ltB at hL
        generalize t[k].name = x at *
        clear H
        go_wp2
        go_ret
        exact ⟨by rw [H2.out]; rfl, rfl⟩
    · have H2 : Hid (placeB t n = k) := by
        have := placeB_end t n (fun j hj => H.out j hj (by omega)); unfold Hid; omega
      clear H
      go_wp2
      go_ret
      exact ⟨by rw [H2.out]; rfl, rfl⟩
end Go.Proofs.YteampbddflhngaaGreat

/- Walks: preds.Table.Stratum, preds.Table.raise. -/
namespace Go.Proofs.YteampbddflhngaaGreat
open Go.RowKit

theorem own_free {w : World} {base : Nat} {e : TypeId} {size : Nat} {g n cap : Nat} {m : Nat} {xs : List Value} (h : w.ownsRow base e size (.slice (some ⟨g, 0, none⟩) n cap) m xs) (o : Nat) : w.frozen? ⟨g, o, none⟩ = false := by
  obtain ⟨_, ⟨hv, _⟩ | ⟨g', cap', cur, hv, _, hh, _⟩⟩ := h
  · cases hv
  · simp at hv; obtain ⟨rfl, _⟩ := hv; unfold World.frozen?; rw [hh]; simp
theorem own_set {w : World} {base : Nat} {e : TypeId} {size : Nat} {g n cap : Nat} {m : Nat} {xs : List Value} (h : w.ownsRow base e size (.slice (some ⟨g, 0, none⟩) n cap) m xs) (j : Nat) (_ : j < xs.length) (u : Value) :
    (w.setCell ⟨g, j, none⟩ u).ownsRow base e size (.slice (some ⟨g, 0, none⟩) n cap) m (xs.set j u) := by
  obtain ⟨hl, ⟨hv, _⟩ | ⟨g', cap', cur, hv, hg, hh, h1, h2, h3, h4⟩⟩ := h
  · cases hv
  · simp at hv; obtain ⟨rfl, rfl, rfl⟩ := hv
    refine ⟨by simpa using hl, Or.inr ⟨g, cap, cur.setIfInBounds j u, rfl, hg, ?_, h1, h2, by simpa using h3, ?_⟩⟩
    · simp [World.setCell, Array.getElem?_modify, hh]
    · rw [← h4]
      rw [Array.toList_setIfInBounds, List.take_set]
def entAt (t : List PEnt) (n : ByteArray) : Option PEnt := match t[placeB t n]? with
  | none => none
  | some e => if e.name = n then some e else none
theorem entAt_some {t : List PEnt} {n : ByteArray} {e : PEnt} (h : entAt t n = some e) : ∃ hk : placeB t n < t.length, t[placeB t n] = e ∧ e.name = n := by
  unfold entAt at h
  split at h
  · cases h
  · rename_i e' he
    split at h <;> simp at h
    subst h
    obtain ⟨hk, he⟩ := List.getElem?_eq_some_iff.1 he
    exact ⟨hk, he, by assumption⟩
theorem entAt_none {t : List PEnt} {n : ByteArray} (h : entAt t n = none) : ¬ placeB t n < t.length ∨ ∃ hk : placeB t n < t.length, t[placeB t n].name ≠ n := by
  unfold entAt at h
  split at h
  · rename_i he; left; rw [List.getElem?_eq_none_iff] at he; omega
  · rename_i e he
    split at h <;> simp at h
    obtain ⟨hk, he⟩ := List.getElem?_eq_some_iff.1 he
    right; exact ⟨hk, by rw [he]; assumption⟩

set_option maxRecDepth 100000 in
set_option maxHeartbeats 1000000 in
theorem tfind_no (B : Nat) (w : World) (tb : Nat) (t : List PEnt) (n : ByteArray) (h : TA B w tb t) (hl : t.length ≤ 1000) (hn : entAt t n = none) :
    Calls Tryz.prog 77 #[.pointer (some ⟨tb, 0, none⟩), .string n] w fun e w' => e = .returned (.tuple #[.int .i64 0, .bool false]) ∧ w' = w := by
  have hpl := place_any B w tb t n h hl
  obtain ⟨ao, cap, hbx, hown⟩ := h.view
  obtain ⟨hc, hf⟩ := hbx.rules
  have HPL : Hid (Calls Tryz.prog 126 #[.pointer (some ⟨tb, 0, none⟩), .string n] w fun e w' => e = .returned (.int .i64 (placeB t n)) ∧ w' = w) := hpl
  have hle := placeB_le t n
  clear h hpl
  rcases entAt_none hn with hk | ⟨hk, hne⟩
  · clear hn
    generalize placeB t n = k at *
    go_enter Tryz.func77, Tryz.ntmps77
    go_wp2_with (first | (go_at_call 126; refine HPL.out.mono ?_; rintro e w' ⟨rfl, rfl⟩; clear HPL))
    go_ret2
    exact ⟨rfl, rfl⟩
  · obtain ⟨g, rfl, hg, _, hd0, _, _⟩ := ent_cell hown _ hk
    have he := seq_false hne
    clear hn hne
    generalize t[placeB t n].name = x at *
    generalize placeB t n = k at *
    go_enter Tryz.func77, Tryz.ntmps77
    go_wp2_with (first | (go_at_call 126; refine HPL.out.mono ?_; rintro e w' ⟨rfl, rfl⟩; clear HPL))
    go_ret2
    exact ⟨rfl, rfl⟩

set_option maxRecDepth 100000 in
set_option maxHeartbeats 1000000 in
theorem tfind_yes (B : Nat) (w : World) (tb : Nat) (t : List PEnt) (n : ByteArray) (e0 : PEnt) (h : TA B w tb t) (hl : t.length ≤ 1000) (hn : entAt t n = some e0) :
    Calls Tryz.prog 77 #[.pointer (some ⟨tb, 0, none⟩), .string n] w fun e w' => e = .returned (.tuple #[.int .i64 (placeB t n), .bool true]) ∧ w' = w := by
  have hpl := place_any B w tb t n h hl
  obtain ⟨ao, cap, hbx, hown⟩ := h.view
  obtain ⟨hc, hf⟩ := hbx.rules
  have HPL : Hid (Calls Tryz.prog 126 #[.pointer (some ⟨tb, 0, none⟩), .string n] w fun e w' => e = .returned (.int .i64 (placeB t n)) ∧ w' = w) := hpl
  have hle := placeB_le t n
  clear h hpl
  obtain ⟨hk, hee, hnn⟩ := entAt_some hn
  obtain ⟨g, rfl, hg, _, hd0, _, hd2⟩ := ent_cell hown _ hk
  rw [hee] at hd0 hd2
  have he := seq_true hnn
  clear hn hnn hee
  generalize e0.name = x at *
  generalize placeB t n = k at *
  go_enter Tryz.func77, Tryz.ntmps77
  go_wp2_with (first | (go_at_call 126; refine HPL.out.mono ?_; rintro e w' ⟨rfl, rfl⟩; clear HPL))
  go_ret2
  exact ⟨rfl, rfl⟩


set_option maxRecDepth 100000 in
set_option maxHeartbeats 1000000 in
theorem tstratum_no (B : Nat) (w : World) (tb : Nat) (t : List PEnt) (n : ByteArray) (h : TA B w tb t) (hl : t.length ≤ 1000) (hn : entAt t n = none) :
    Calls Tryz.prog 159 #[.pointer (some ⟨tb, 0, none⟩), .string n] w fun e w' => e = .returned (.tuple #[.int .i64 0, .bool false]) ∧ w' = w := by
  have HF : Hid (Calls Tryz.prog 77 #[.pointer (some ⟨tb, 0, none⟩), .string n] w fun e w' => e = .returned (.tuple #[.int .i64 0, .bool false]) ∧ w' = w) := tfind_no B w tb t n h hl hn
  clear h hn hl
  go_enter Tryz.func159, Tryz.ntmps159
  go_wp2_with (first | (go_at_call 77; refine HF.out.mono ?_; rintro e w' ⟨rfl, rfl⟩; clear HF))
  go_ret2
  exact ⟨rfl, rfl⟩

set_option maxRecDepth 100000 in
set_option maxHeartbeats 1000000 in
theorem tstratum_yes (B : Nat) (w : World) (tb : Nat) (t : List PEnt) (n : ByteArray) (e0 : PEnt) (h : TA B w tb t) (hl : t.length ≤ 1000) (hn : entAt t n = some e0) :
    Calls Tryz.prog 159 #[.pointer (some ⟨tb, 0, none⟩), .string n] w fun e w' => e = .returned (.tuple #[.int .i64 e0.stratum, .bool true]) ∧ w' = w := by
  have HF : Hid (Calls Tryz.prog 77 #[.pointer (some ⟨tb, 0, none⟩), .string n] w fun e w' => e = .returned (.tuple #[.int .i64 (placeB t n), .bool true]) ∧ w' = w) := tfind_yes B w tb t n e0 h hl hn
  obtain ⟨ao, cap, hbx, hown⟩ := h.view
  obtain ⟨hc, hf⟩ := hbx.rules
  obtain ⟨hk, hee, hnn⟩ := entAt_some hn
  obtain ⟨g, rfl, hg, _, hd0, _, hd2⟩ := ent_cell hown _ hk
  rw [hee] at hd2
  clear hn hnn hee h hd0
  generalize placeB t n = k at *
  go_enter Tryz.func159, Tryz.ntmps159
  go_wp2_with (first | (go_at_call 77; refine HF.out.mono ?_; rintro e w' ⟨rfl, rfl⟩; clear HF))
  go_ret2
  exact ⟨rfl, rfl⟩

theorem pcells_set : ∀ (t : List PEnt) (k : Nat) (e : PEnt) (hk : k < t.length), t[k].name = e.name → t[k].arity = e.arity → (pcells t).set (k * 3 + 2) (.int .i64 (e.stratum : Int)) = pcells (t.set k e)
  | [], k, _, hk, _, _ => by simp at hk
  | a :: r, 0, e, _, h1, h2 => by simp at h1 h2; simp [pcells, h1, h2]
  | a :: r, k + 1, e, hk, h1, h2 => by
    have := pcells_set r k e (by simpa using hk) (by simpa using h1) (by simpa using h2)
    simp only [pcells, List.flatMap_cons, List.set_cons_succ] at this ⊢
    rw [show (k + 1) * 3 + 2 = k * 3 + 2 + 1 + 1 + 1 from by omega]
    simpa using this
/-- 'raise': the table behind it, and whether it was raised. -/
def raiseB (t : List PEnt) (n : ByteArray) (s : Nat) : List PEnt × Bool := match entAt t n with
  | none => (t, false)
  | some e => if s ≤ e.stratum then (t, false) else (t.set (placeB t n) { e with stratum := s }, true)
theorem raiseB_len (t : List PEnt) (n : ByteArray) (s : Nat) : (raiseB t n s).1.length = t.length := by
  unfold raiseB; split
  · rfl
  · split <;> simp

set_option maxRecDepth 100000 in
set_option maxHeartbeats 1000000 in
theorem raise_any (B : Nat) (w : World) (tb : Nat) (t : List PEnt) (n : ByteArray) (s : Nat) (h : TA B w tb t) (hl : t.length ≤ 1000) (_ : s ≤ 3000000) :
    Calls Tryz.prog 151 #[.pointer (some ⟨tb, 0, none⟩), .string n, .int .i64 s] w fun e w' => e = .returned (.bool (raiseB t n s).2) ∧ TA B w' tb (raiseB t n s).1 ∧ Below B w w' := by
  obtain ⟨ao, cap, hbx, hown⟩ := h.view
  obtain ⟨hc, hf⟩ := hbx.rules
  have hle := placeB_le t n
  have HT : Hid (TA B w tb t) := h
  cases hn : entAt t n with
  | none =>
    have HR : Hid (raiseB t n s = (t, false)) := by unfold Hid raiseB; rw [hn]
    have HF : Hid (Calls Tryz.prog 77 #[.pointer (some ⟨tb, 0, none⟩), .string n] w fun e w' => e = .returned (.tuple #[.int .i64 0, .bool false]) ∧ w' = w) := tfind_no B w tb t n h hl hn
    rw [HR.out]
    clear hn HR h
    go_enter Tryz.func151, Tryz.ntmps151
    go_wp2_with (first | (go_at_call 77; refine HF.out.mono ?_; rintro e w' ⟨rfl, rfl⟩; clear HF))
    go_ret
    exact ⟨rfl, HT, Below.refl _ _⟩
  | some e0 =>
    have HF : Hid (Calls Tryz.prog 77 #[.pointer (some ⟨tb, 0, none⟩), .string n] w fun e w' => e = .returned (.tuple #[.int .i64 (placeB t n), .bool true]) ∧ w' = w) := tfind_yes B w tb t n e0 h hl hn
    obtain ⟨hk, hee, hnn⟩ := entAt_some hn
    obtain ⟨g, rfl, hg, hBg, hd0, _, hd2⟩ := ent_cell hown _ hk
    have hfz := own_free hown
    by_cases hse : s ≤ e0.stratum
    · have HR : Hid (raiseB t n s = (t, false)) := by unfold Hid raiseB; rw [hn]; simp [hse]
      rw [HR.out]
      rw [hee] at hd0 hd2
      clear hn hnn HR hee h hd0
      generalize placeB t n = k at *
      go_enter Tryz.func151, Tryz.ntmps151
      go_wp2_with (first | (go_at_call 77; refine HF.out.mono ?_; rintro e w' ⟨rfl, rfl⟩; clear HF))
      go_ret
      exact ⟨rfl, HT, Below.refl _ _⟩
    · have HR : Hid (raiseB t n s = (t.set (placeB t n) { e0 with stratum := s }, true)) := by unfold Hid raiseB; rw [hn]; simp [hse]
      rw [HR.out]
      have hset := own_set hown (placeB t n * 3 + 2) (by rw [pcells_len]; omega) (.int .i64 (s : Int))
      rw [pcells_set t (placeB t n) { e0 with stratum := s } hk (by rw [hee]) (by rw [hee])] at hset
      have hneg : tb ≠ g := by
        intro hgg; subst hgg
        obtain ⟨_, ⟨hv, _⟩ | ⟨g', cap', cur, hv, _, hh, _⟩⟩ := hown
        · cases hv
        · simp at hv; obtain ⟨rfl, _⟩ := hv; unfold Box at hbx; rw [hh] at hbx; simp at hbx
      have hbx2 := hbx.set_ne hneg (placeB t n * 3 + 2) (.int .i64 (s : Int))
      have HFT : Hid (TA B (w.setCell ⟨g, placeB t n * 3 + 2, none⟩ (.int .i64 (s : Int))) tb (t.set (placeB t n) { e0 with stratum := s })) := ⟨_, hbx2, by simpa using hset⟩
      have hse' : e0.stratum < s := by omega
      rw [hee] at hd0 hd2
      clear hn hnn HR hee hset hbx2 hse h hd0
      generalize t.set (placeB t n) { e0 with stratum := s } = t2 at *
      generalize placeB t n = k at *
      go_enter Tryz.func151, Tryz.ntmps151
      go_wp2_with (first | (go_at_call 77; refine HF.out.mono ?_; rintro e w' ⟨rfl, rfl⟩; clear HF))
      go_ret
      exact ⟨rfl, HFT, (Below.refl _ _).setCell hBg _⟩
end Go.Proofs.YteampbddflhngaaGreat

/- Walks: leastOfHead, raiseHeads, Stratify. -/
namespace Go.Proofs.YteampbddflhngaaGreat
open Go.RowKit
variable {lo : Nat}

def litS (t : List PEnt) (l : PLit) : Nat := match entAt t l.pred with
  | none => 0
  | some e => if l.neg then e.stratum + 1 else e.stratum
def leastS (t : List PEnt) (n : Nat) (l : PLit) : Nat := if n < litS t l then litS t l else n
def leastB (t : List PEnt) (c : PClause) : Nat := c.body.foldl (leastS t) 0
theorem litS_le {t : List PEnt} {M : Nat} (h : ∀ e ∈ t, e.stratum ≤ M) (l : PLit) : litS t l ≤ M + 1 := by
  unfold litS
  split
  · omega
  · rename_i e he
    obtain ⟨hk, hee, _⟩ := entAt_some he
    have := h e (by rw [← hee]; exact List.getElem_mem hk)
    split <;> omega
theorem leastS_le {t : List PEnt} {M : Nat} (h : ∀ e ∈ t, e.stratum ≤ M) : ∀ (ls : List PLit) (n : Nat), n ≤ M + 1 → ls.foldl (leastS t) n ≤ M + 1
  | [], n, hn => hn
  | l :: ls, n, hn => by
    refine leastS_le h ls _ ?_
    unfold leastS; have := litS_le h l; split <;> omega

set_option maxRecDepth 100000 in
set_option maxHeartbeats 1000000 in
theorem least_any (B M : Nat) (w : World) (tb : Nat) (t : List PEnt) (c : PClause) (va vb : Value) (h : TA B w tb t) (hl : t.length ≤ 1000) (hM : ∀ e ∈ t, e.stratum ≤ M) (hM2 : M ≤ 2000000) (hs : SIn lo w va c.head.args) (hb : LIn lo w vb c.body) (hl2 : c.body.length ≤ 1000) :
    Calls Tryz.prog 150 #[.pointer (some ⟨tb, 0, none⟩), .agg #[.bool c.head.neg, .string c.head.pred, va, vb]] w fun e w' => e = .returned (.int .i64 (leastB t c)) ∧ Below w.heap.size w w' := by
  obtain ⟨ao, cap, rfl⟩ := hs.shape
  obtain ⟨aob, capb, rfl⟩ := hb.shape
  have HM : Hid (∀ e ∈ t, e.stratum ≤ M) := hM
  clear hM
  go_enter Tryz.func150, Tryz.ntmps150
  go_wp2
  go_loopw [5, 13] (fun n i wr => ∃ k m : Nat, k ≤ c.body.length ∧ i = .int .i64 k ∧ n = .int .i64 m ∧ m ≤ M + 1 ∧ Below w.heap.size w wr ∧ Hid (m = (c.body.take k).foldl (leastS t) 0)) (fun _ i _ => c.body.length - (intOf i).toNat)
  case atStart => exact ⟨0, 0, Nat.zero_le _, rfl, rfl, Nat.zero_le _, (by repeat' (first | (with_reducible exact Below.refl _ _) | (with_reducible assumption) | (with_reducible refine bdrewN ?_ _) | (with_reducible refine Below.alloc ?_ ?_ _) | (with_reducible refine Below.drew ?_) | (with_reducible refine Below.setCell ?_ ?_ _) | go_size)), rfl⟩
  case round =>
    obtain ⟨k, m, hk, rfl, rfl, hm, hbk, H⟩ := hrel
    have hszk := hbk.size
    by_cases hlt : k < c.body.length
    · obtain ⟨g, ao2, cap2, rfl, hg, hc0, hc1, hc2, hsk⟩ := hb.cell k hlt
      have hd0 := (hbk.cell (p := ⟨g, k * 3, none⟩) hg).trans hc0
      have hd1 := (hbk.cell (p := ⟨g, k * 3 + 1, none⟩) hg).trans hc1
      have hd2 := (hbk.cell (p := ⟨g, k * 3 + 2, none⟩) hg).trans hc2
      have hgr : g < wr.heap.size := by omega
      have HS : Hid ((c.body.take (k + 1)).foldl (leastS t) 0 = leastS t m c.body[k]) := by rw [Hid, H.out, List.take_succ_eq_append_getElem hlt, List.foldl_append]; rfl
      have hta := h.below hbk
      clear hc0 hc1 hc2 hsk H
      generalize c.body[k] = a at *
      have hls := litS_le HM.out a
      cases hE : entAt t a.pred with
      | none =>
        have HL : Hid (litS t a = 0) := by unfold Hid litS; rw [hE]
        have HR : Hid ((c.body.take (k + 1)).foldl (leastS t) 0 = m) := by rw [Hid, HS.out, leastS, HL.out]; simp
        have HE : Hid (entAt t a.pred = none) := hE
        clear HS HL hE hls
        go_wp2_with (first | (go_at_call 159; refine (tstratum_no B _ tb t a.pred (by exact hta.below (by repeat' (first | (with_reducible exact Below.refl _ _) | (with_reducible assumption) | (with_reducible refine bdrewN ?_ _) | (with_reducible refine Below.alloc ?_ ?_ _) | (with_reducible refine Below.drew ?_) | (with_reducible refine Below.setCell ?_ ?_ _) | go_size))) hl HE).mono ?_; rintro e w1 ⟨rfl, rfl⟩))
        go_roundw
        case rel => exact ⟨k + 1, m, by omega, by go_num, rfl, hm, (by repeat' (first | (with_reducible exact Below.refl _ _) | (with_reducible assumption) | (with_reducible refine bdrewN ?_ _) | (with_reducible refine Below.alloc ?_ ?_ _) | (with_reducible refine Below.drew ?_) | (with_reducible refine Below.setCell ?_ ?_ _) | go_size)), HR.out.symm⟩
        case measure => simp [intOf]; omega
      | some e0 =>
        have HE : Hid (entAt t a.pred = some e0) := hE
        cases hN : a.neg with
        | true =>
          have hL : litS t a = e0.stratum + 1 := by unfold litS; rw [hE, hN]; rfl
          have HL : Hid (leastS t m a = if m < e0.stratum + 1 then e0.stratum + 1 else m) := by unfold Hid leastS; rw [hL]
          rw [hN] at hd0
          rw [hL] at hls
          clear hL hE hN
          by_cases hlt2 : m < e0.stratum + 1
          all_goals
            go_wp2_with (first | (go_at_call 159; refine (tstratum_yes B _ tb t a.pred e0 (by exact hta.below (by repeat' (first | (with_reducible exact Below.refl _ _) | (with_reducible assumption) | (with_reducible refine bdrewN ?_ _) | (with_reducible refine Below.alloc ?_ ?_ _) | (with_reducible refine Below.drew ?_) | (with_reducible refine Below.setCell ?_ ?_ _) | go_size))) hl HE).mono ?_; rintro e w1 ⟨rfl, rfl⟩))
            go_roundw
            case rel => first | exact ⟨k + 1, e0.stratum + 1, by omega, by go_num, by go_num, by omega, (by repeat' (first | (with_reducible exact Below.refl _ _) | (with_reducible assumption) | (with_reducible refine bdrewN ?_ _) | (with_reducible refine Below.alloc ?_ ?_ _) | (with_reducible refine Below.drew ?_) | (with_reducible refine Below.setCell ?_ ?_ _) | go_size)), by rw [Hid, HS.out, HL.out, if_pos hlt2]⟩ | exact ⟨k + 1, m, by omega, by go_num, rfl, hm, (by repeat' (first | (with_reducible exact Below.refl _ _) | (with_reducible assumption) | (with_reducible refine bdrewN ?_ _) | (with_reducible refine Below.alloc ?_ ?_ _) | (with_reducible refine Below.drew ?_) | (with_reducible refine Below.setCell ?_ ?_ _) | go_size)), by rw [Hid, HS.out, HL.out, if_neg hlt2]⟩
            case measure => simp [intOf]; omega
        | false =>
          have hL : litS t a = e0.stratum := by unfold litS; rw [hE, hN]; rfl
          have HL : Hid (leastS t m a = if m < e0.stratum then e0.stratum else m) := by unfold Hid leastS; rw [hL]
          rw [hN] at hd0
          rw [hL] at hls
          clear hL hE hN
          by_cases hlt2 : m < e0.stratum
          all_goals
            go_wp2_with (first | (go_at_call 159; refine (tstratum_yes B _ tb t a.pred e0 (by exact hta.below (by repeat' (first | (with_reducible exact Below.refl _ _) | (with_reducible assumption) | (with_reducible refine bdrewN ?_ _) | (with_reducible refine Below.alloc ?_ ?_ _) | (with_reducible refine Below.drew ?_) | (with_reducible refine Below.setCell ?_ ?_ _) | go_size))) hl HE).mono ?_; rintro e w1 ⟨rfl, rfl⟩))
            go_roundw
            case rel => first | exact ⟨k + 1, e0.stratum, by omega, by go_num, by go_num, by omega, (by repeat' (first | (with_reducible exact Below.refl _ _) | (with_reducible assumption) | (with_reducible refine bdrewN ?_ _) | (with_reducible refine Below.alloc ?_ ?_ _) | (with_reducible refine Below.drew ?_) | (with_reducible refine Below.setCell ?_ ?_ _) | go_size)), by rw [Hid, HS.out, HL.out, if_pos hlt2]⟩ | exact ⟨k + 1, m, by omega, by go_num, rfl, hm, (by repeat' (first | (with_reducible exact Below.refl _ _) | (with_reducible assumption) | (with_reducible refine bdrewN ?_ _) | (with_reducible refine Below.alloc ?_ ?_ _) | (with_reducible refine Below.drew ?_) | (with_reducible refine Below.setCell ?_ ?_ _) | go_size)), by rw [Hid, HS.out, HL.out, if_neg hlt2]⟩
            case measure => simp [intOf]; omega
    · have HR : Hid (m = leastB t c) := by rw [Hid, H.out, List.take_of_length_le (by omega)]; rfl
      clear H
      go_wp2
      go_ret
      exact ⟨by rw [← HR.out]; rfl, hbk⟩

def raiseC (x : List PEnt × Bool) (c : PClause) : List PEnt × Bool := ((raiseB x.1 c.head.pred (leastB x.1 c)).1, x.2 || (raiseB x.1 c.head.pred (leastB x.1 c)).2)
def raiseAll (t : List PEnt) (cs : List PClause) : List PEnt × Bool := cs.foldl raiseC (t, false)
theorem raiseB_bd {t : List PEnt} {n : ByteArray} {s M : Nat} (h : ∀ e ∈ t, e.stratum ≤ M) (hs : s ≤ M) : ∀ e ∈ (raiseB t n s).1, e.stratum ≤ M := by
  unfold raiseB
  split
  · exact h
  · split
    · exact h
    · intro e he
      rcases List.mem_or_eq_of_mem_set he with he | he
      · exact h e he
      · subst he; exact hs
theorem foldl_snoc_take {α β : Type} (f : β → α → β) (b : β) (l : List α) (k : Nat) (hk : k < l.length) : (l.take (k + 1)).foldl f b = f ((l.take k).foldl f b) l[k] := by rw [List.take_succ_eq_append_getElem hk, List.foldl_append]; rfl

set_option maxRecDepth 100000 in
set_option maxHeartbeats 1000000 in
theorem raiseHeads_any (B M : Nat) (w : World) (tb : Nat) (t : List PEnt) (v : Value) (cs : List PClause) (w0 : World) (hw0 : w0.heap.size = B) (hb0 : Below B w0 w) (hcs : CIn lo 171 w0 v cs) (hok : ∀ c ∈ cs, ClOK c) (_ : cs.length ≤ 1000)
    (h : TA B w tb t) (hl : t.length ≤ 1000) (hM : ∀ e ∈ t, e.stratum ≤ M) (hM2 : M + cs.length ≤ 1900000) :
    Calls Tryz.prog 104 #[.pointer (some ⟨tb, 0, none⟩), v] w fun e w' => e = .returned (.bool (raiseAll t cs).2) ∧ TA B w' tb (raiseAll t cs).1 ∧ Below B w w' ∧ (raiseAll t cs).1.length = t.length ∧ (∀ e ∈ (raiseAll t cs).1, e.stratum ≤ M + cs.length) := by
  obtain ⟨ao, cap, rfl⟩ := hcs.shape
  have HOK : Hid (∀ c ∈ cs, ClOK c) := hok
  have hsz0 := hb0.size
  clear hok
  go_enter Tryz.func104, Tryz.ntmps104
  go_wp2
  go_loopw [5, 11] (fun r i wr => ∃ k : Nat, k ≤ cs.length ∧ i = .int .i64 k ∧ r = .bool ((cs.take k).foldl raiseC (t, false)).2 ∧ Below B w wr ∧ TA B wr tb ((cs.take k).foldl raiseC (t, false)).1 ∧ ((cs.take k).foldl raiseC (t, false)).1.length = t.length ∧ Hid (∀ e ∈ ((cs.take k).foldl raiseC (t, false)).1, e.stratum ≤ M + k)) (fun _ i _ => cs.length - (intOf i).toNat)
  case atStart => exact ⟨0, Nat.zero_le _, rfl, rfl, Below.refl _ _, h, rfl, hM⟩
  case round =>
    obtain ⟨k, hk, rfl, rfl, hbk', htk, hlk, HM⟩ := hrel
    have hbk : Below w0.heap.size w0 wr := by rw [hw0]; exact hb0.trans hbk'
    have hszk := hbk'.size
    by_cases hlt : k < cs.length
    · have hsn := foldl_snoc_take raiseC (t, false) cs k hlt
      obtain ⟨g, ao2, cap2, ao3, cap3, rfl, hg, hc0, hc1, hc2, hc3, hsk, hllk⟩ := hcs.cell k hlt
      have hd0 := (hbk.cell (p := ⟨g, k * 4, none⟩) (by omega)).trans hc0
      have hd1 := (hbk.cell (p := ⟨g, k * 4 + 1, none⟩) (by omega)).trans hc1
      have hd2 := (hbk.cell (p := ⟨g, k * 4 + 2, none⟩) (by omega)).trans hc2
      have hd3 := (hbk.cell (p := ⟨g, k * 4 + 3, none⟩) (by omega)).trans hc3
      have hgr : g < wr.heap.size := by omega
      have hskr := hsk.below hbk
      have hlkr := hllk.below hbk
      obtain ⟨hk1, hk2⟩ := HOK.out _ (List.getElem_mem hlt)
      clear hc0 hc1 hc2 hc3 hsk hllk
      generalize cs[k] = a at *
      generalize (cs.take k).foldl raiseC (t, false) = x at *
      obtain ⟨tk, rk⟩ := x
      simp only at htk hlk HM ⊢
      have HS : Hid ((cs.take (k + 1)).foldl raiseC (t, false) = raiseC (tk, rk) a) := hsn
      clear hsn
      have hll : leastB tk a ≤ M + k + 1 := leastS_le HM.out a.body 0 (by omega)
      have hrl := raiseB_len tk a.head.pred (leastB tk a)
      have HB : Hid (∀ e ∈ (raiseB tk a.head.pred (leastB tk a)).1, e.stratum ≤ M + (k + 1)) := raiseB_bd (fun e he => by have := HM.out e he; omega) (by omega)
      cases hR : (raiseB tk a.head.pred (leastB tk a)).2 with
      | true =>
        have H1 : Hid (((cs.take (k + 1)).foldl raiseC (t, false)) = ((raiseB tk a.head.pred (leastB tk a)).1, true)) := by rw [Hid, HS.out, raiseC]; simp [hR]
        clear HS
        go_wp2_with (first | (go_at_call 150; refine (least_any B (M + k) _ tb tk a _ _ (by exact htk.below (by repeat' (first | (with_reducible exact Below.refl _ _) | (with_reducible assumption) | (with_reducible refine bdrewN ?_ _) | (with_reducible refine Below.alloc ?_ ?_ _) | (with_reducible refine Below.drew ?_) | (with_reducible refine Below.setCell ?_ ?_ _) | go_size))) (by omega) HM.out (by omega) (by exact hskr.below (by repeat' (first | (with_reducible exact Below.refl _ _) | (with_reducible assumption) | (with_reducible refine bdrewN ?_ _) | (with_reducible refine Below.alloc ?_ ?_ _) | (with_reducible refine Below.drew ?_) | (with_reducible refine Below.setCell ?_ ?_ _) | go_size))) (by exact hlkr.below (by repeat' (first | (with_reducible exact Below.refl _ _) | (with_reducible assumption) | (with_reducible refine bdrewN ?_ _) | (with_reducible refine Below.alloc ?_ ?_ _) | (with_reducible refine Below.drew ?_) | (with_reducible refine Below.setCell ?_ ?_ _) | go_size))) hk2).mono ?_; rintro e w1 ⟨rfl, hb1⟩; have hB1 := bnext ((Below.refl wr.heap.size wr).alloc (Nat.le_refl _) _) hb1 (Nat.le_refl _); have ht1 := htk.below hB1; have hz1 := hB1.size; have hbx1 := (Box.new wr _ _).below hb1; obtain ⟨hxc, hxf⟩ := hbx1.rules) | (go_at_call 151; refine (raise_any B _ tb tk a.head.pred (leastB tk a) ht1 (by omega) (by omega)).mono ?_; rintro e w2 ⟨rfl, ht2, hb2⟩))
        go_roundw
        case rel => exact ⟨k + 1, by omega, by go_num, by rw [H1.out], (hbk'.trans (hB1.mono (by omega))).trans hb2, by rw [H1.out]; exact ht2, by rw [H1.out]; simp only; omega, by rw [H1.out]; exact HB⟩
        case measure => simp [intOf]; omega
      | false =>
        have H1 : Hid (((cs.take (k + 1)).foldl raiseC (t, false)) = ((raiseB tk a.head.pred (leastB tk a)).1, rk)) := by rw [Hid, HS.out, raiseC]; simp [hR]
        clear HS
        go_wp2_with (first | (go_at_call 150; refine (least_any B (M + k) _ tb tk a _ _ (by exact htk.below (by repeat' (first | (with_reducible exact Below.refl _ _) | (with_reducible assumption) | (with_reducible refine bdrewN ?_ _) | (with_reducible refine Below.alloc ?_ ?_ _) | (with_reducible refine Below.drew ?_) | (with_reducible refine Below.setCell ?_ ?_ _) | go_size))) (by omega) HM.out (by omega) (by exact hskr.below (by repeat' (first | (with_reducible exact Below.refl _ _) | (with_reducible assumption) | (with_reducible refine bdrewN ?_ _) | (with_reducible refine Below.alloc ?_ ?_ _) | (with_reducible refine Below.drew ?_) | (with_reducible refine Below.setCell ?_ ?_ _) | go_size))) (by exact hlkr.below (by repeat' (first | (with_reducible exact Below.refl _ _) | (with_reducible assumption) | (with_reducible refine bdrewN ?_ _) | (with_reducible refine Below.alloc ?_ ?_ _) | (with_reducible refine Below.drew ?_) | (with_reducible refine Below.setCell ?_ ?_ _) | go_size))) hk2).mono ?_; rintro e w1 ⟨rfl, hb1⟩; have hB1 := bnext ((Below.refl wr.heap.size wr).alloc (Nat.le_refl _) _) hb1 (Nat.le_refl _); have ht1 := htk.below hB1; have hz1 := hB1.size; have hbx1 := (Box.new wr _ _).below hb1; obtain ⟨hxc, hxf⟩ := hbx1.rules) | (go_at_call 151; refine (raise_any B _ tb tk a.head.pred (leastB tk a) ht1 (by omega) (by omega)).mono ?_; rintro e w2 ⟨rfl, ht2, hb2⟩))
        go_roundw
        case rel => exact ⟨k + 1, by omega, by go_num, by rw [H1.out], (hbk'.trans (hB1.mono (by omega))).trans hb2, by rw [H1.out]; exact ht2, by rw [H1.out]; simp only; omega, by rw [H1.out]; exact HB⟩
        case measure => simp [intOf]; omega
    · have hE : cs.take k = cs := List.take_of_length_le (by omega)
      rw [hE] at htk hlk HM ⊢
      have hkl : k = cs.length := by omega
      have HM2 : Hid (∀ e ∈ (raiseAll t cs).1, e.stratum ≤ M + cs.length) := by rw [← hkl]; exact HM
      clear hE HM
      go_wp2
      go_ret
      exact ⟨rfl, htk, hbk', hlk, HM2⟩

def stratN : Nat → List PEnt → List PClause → List PEnt × Bool
  | 0, t, _ => (t, false)
  | m + 1, t, cs => if (raiseAll t cs).2 then stratN m (raiseAll t cs).1 cs else ((raiseAll t cs).1, true)

set_option maxRecDepth 100000 in
set_option maxHeartbeats 1000000 in
theorem stratify_any (B : Nat) (w : World) (tb : Nat) (t : List PEnt) (v : Value) (cs : List PClause) (w0 : World) (hw0 : w0.heap.size = B) (hb0 : Below B w0 w) (hcs : CIn lo 171 w0 v cs) (hok : ∀ c ∈ cs, ClOK c) (hl0 : cs.length ≤ 1000)
    (h : TA B w tb t) (hl : t.length ≤ 1000) (hM : ∀ e ∈ t, e.stratum ≤ 0) :
    Calls Tryz.prog 64 #[.pointer (some ⟨tb, 0, none⟩), v] w fun e w' => e = .returned (.bool (stratN (t.length + 1) t cs).2) ∧ TA B w' tb (stratN (t.length + 1) t cs).1 ∧ Below B w w' := by
  have HOK : Hid (∀ c ∈ cs, ClOK c) := hok
  have HW : Hid (w0.heap.size = B) := hw0
  clear hok hw0
  go_enter Tryz.func64, Tryz.ntmps64
  go_wp2
  go_loopw [5] (fun i wr => ∃ (p : Nat) (tk : List PEnt), p ≤ t.length + 1 ∧ i = .int .i64 p ∧ Below B w wr ∧ TA B wr tb tk ∧ tk.length = t.length ∧ Hid (∀ e ∈ tk, e.stratum ≤ p * cs.length) ∧ Hid (stratN (t.length + 1) t cs = stratN (t.length + 1 - p) tk cs)) (fun i _ => t.length + 1 - (intOf i).toNat)
  case atStart => exact ⟨0, t, Nat.zero_le _, rfl, Below.refl _ _, h, rfl, (by simpa [Hid] using hM), rfl⟩
  case round =>
    obtain ⟨p, tk, hp, rfl, hbk, htk, hlk, HM, H⟩ := hrel
    obtain ⟨ao, cap, hbx, hown⟩ := htk.view
    obtain ⟨hc, hf⟩ := hbx.rules
    rw [hlk] at hc hbx hown
    by_cases hlt : p ≤ t.length
    · have hmul : p * cs.length ≤ 1000 * 1000 := Nat.mul_le_mul (by omega) hl0
      have hra := raiseHeads_any B (p * cs.length) wr tb tk v cs w0 HW.out (hb0.trans hbk) hcs HOK.out hl0 htk (by omega) HM.out (by omega)
      have HRA : Hid (Calls Tryz.prog 104 #[.pointer (some ⟨tb, 0, none⟩), v] wr fun e w' => e = .returned (.bool (raiseAll tk cs).2) ∧ TA B w' tb (raiseAll tk cs).1 ∧ Below B wr w' ∧ (raiseAll tk cs).1.length = tk.length ∧ (∀ e ∈ (raiseAll tk cs).1, e.stratum ≤ p * cs.length + cs.length)) := hra
      have hs1 : t.length + 1 - p = (t.length - p) + 1 := by omega
      have HE : Hid (stratN (t.length + 1) t cs = if (raiseAll tk cs).2 then stratN (t.length - p) (raiseAll tk cs).1 cs else ((raiseAll tk cs).1, true)) := by rw [Hid, H.out, hs1]; rfl
      clear hra hs1 H
      have hpp : p * cs.length + cs.length = (p + 1) * cs.length := by rw [Nat.add_mul]; omega
      have HPP : Hid (p * cs.length + cs.length = (p + 1) * cs.length) := hpp
      clear hpp hmul HM
      cases hR : (raiseAll tk cs).2 with
      | true =>
        have H2 : Hid (stratN (t.length + 1) t cs = stratN (t.length + 1 - (p + 1)) (raiseAll tk cs).1 cs) := by rw [Hid, HE.out, hR]; simp
        clear HE
        rw [hR] at HRA
        clear hR
        generalize (raiseAll tk cs).1 = tn at *
        go_wp2_with (first | (go_at_call 104; refine HRA.out.mono ?_; rintro e w1 ⟨rfl, ht1, hb1, hl1, hm1⟩; clear HRA))
        go_roundw
        case rel => exact ⟨p + 1, tn, by omega, by go_num, hbk.trans hb1, ht1, by omega, by rw [HPP.out] at hm1; exact hm1, H2⟩
        case measure => simp [intOf]; omega
      | false =>
        have H2 : Hid (stratN (t.length + 1) t cs = ((raiseAll tk cs).1, true)) := by rw [Hid, HE.out, hR]; simp
        clear HE
        rw [hR] at HRA
        clear hR
        generalize (raiseAll tk cs).1 = tn at *
        go_wp2_with (first | (go_at_call 104; refine HRA.out.mono ?_; rintro e w1 ⟨rfl, ht1, hb1, hl1, hm1⟩; clear HRA))
        go_ret
        exact ⟨by rw [H2.out]; rfl, by rw [H2.out]; exact ht1, hbk.trans hb1⟩
    · have H2 : Hid (stratN (t.length + 1) t cs = (tk, false)) := by rw [Hid, H.out, show t.length + 1 - p = 0 by omega]; rfl
      clear H
      go_wp2
      go_ret
      exact ⟨by rw [H2.out]; rfl, by rw [H2.out]; exact htk, hbk⟩
end Go.Proofs.YteampbddflhngaaGreat

/- Walks: preds.Table.insert. -/
namespace Go.Proofs.YteampbddflhngaaGreat
open Go.RowKit

theorem Box.newAt (w : World) (b : Nat) (c : Array Value) (T : TypeId) (h : b = w.heap.size) : Box (w.alloc (.cells c T)) b c T := by subst h; exact Box.new w c T
theorem Box.drew {w : World} {b : Nat} {c : Array Value} {T : TypeId} (h : Box w b c T) : Box w.drew b c T := h

theorem own_ne_new {w : World} {base : Nat} {e : TypeId} {size : Nat} {v : Value} {n : Nat} {xs : List Value} (h : w.ownsRow base e size v n xs) {b : Nat} (hb : w.heap.size ≤ b) : some b ≠ v.ownBlock := by
  intro he
  obtain ⟨_, ⟨hv0, _⟩ | ⟨g', cap', cur', hv', _, hh', _⟩⟩ := h
  · subst hv0; cases he
  · subst hv'; simp only [Value.ownBlock, Option.some.injEq] at he; subst he
    have := (Array.getElem?_eq_some_iff.1 hh').1; omega
theorem own_ne_type {w : World} {base : Nat} {e T : TypeId} {size : Nat} {v : Value} {n : Nat} {xs : List Value} (h : w.ownsRow base e size v n xs) {b : Nat} {c : Array Value} (hb : Box w b c T) (hT : e ≠ T) : some b ≠ v.ownBlock := by
  intro he
  obtain ⟨_, ⟨hv0, _⟩ | ⟨g', cap', cur', hv', _, hh', _⟩⟩ := h
  · subst hv0; cases he
  · subst hv'; simp only [Value.ownBlock, Option.some.injEq] at he; subst he
    unfold Box at hb; rw [hb] at hh'; simp at hh'; exact hT hh'.2.symm
theorem Box.keep {wA w2 : World} {v : Value} {b : Nat} {c : Array Value} {T : TypeId} (h : Box wA b c T) (hne : some b ≠ v.ownBlock) (hk : ∀ k, k < wA.heap.size → some k ≠ v.ownBlock → w2.heap[k]? = wA.heap[k]?) : Box w2 b c T := by
  have hlt := h.lt
  unfold Box at *; rw [hk b hlt hne]; exact h
/-- A row of more cells than a box has is another block. -/
theorem own_ne_size {w : World} {base : Nat} {e T : TypeId} {size g n cap : Nat} {m : Nat} {xs : List Value} (h : w.ownsRow base e size (.slice (some ⟨g, 0, none⟩) n cap) m xs) {b : Nat} {c : Array Value} (hb : Box w b c T) (hlt : c.size < m * size) : b ≠ g := by
  intro hg
  subst hg
  obtain ⟨_, ⟨hv0, _⟩ | ⟨g', cap', cur', hv', _, hh', h1, h2, h3, _⟩⟩ := h
  · cases hv0
  · simp at hv'; obtain ⟨rfl, rfl, rfl⟩ := hv'
    unfold Box at hb; rw [hb] at hh'; simp at hh'; rw [← hh'.1] at h3
    have := Nat.mul_le_mul_right size h1; omega

section
variable {P : Program} {ops : Array Oper} {o : Oper} {a : Act} {K : Act → World → Prop} {Q : Exit → Act → World → Prop}
/-- 'l = append(l, x)' as one step of a region that draws its order: l the call's own as it stood in wO, x's cells in the box b. -/
theorem step_push {E : Prop} (wO wA : World) (l : List Value) (te : TypeId) (hg : o.guard = none) (s x : Operand) (t : TypeId)
    (ho : o.op = .call { callee := .builtin .append, args := #[s, x], argTypes := #[t, t] })
    (base : Nat) (e : TypeId) (i : TypeInfo) (z : Value) (size bytes : Nat) (ht : P.underlying t = some (.slice e)) (hi : P.info? e = some i) (hz : i.zero = some z)
    (hsize : i.size = size) (hby : i.bytes = bytes) (hzs : z.cells.size = size) (hsz : 0 < size)
    (v : Value) (n : Nat) (xs : List Value) (hs : a.eval s = v) (hown : wO.ownsRow base e size v n xs) (hbO : Below wO.heap.size wO wA)
    (b c : Nat) (hx : a.eval x = .slice (some ⟨b, 0, none⟩) 1 c) (hb : Box wA b l.toArray te) (hl : l.length = size) (h1 : ∀ u ∈ l, u.oneCell' = true)
    (hn : n ≤ 1048576) (hbytes : bytes ≤ 1000) (hbase : base ≤ wO.heap.size)
    (h : ∀ v' w', w'.ownsRow base e size v' (n + 1) (xs ++ l) → Below base wO w' → (∀ k, k < wA.heap.size → some k ≠ v.ownBlock → w'.heap[k]? = wA.heap[k]?) → wA.heap.size ≤ w'.heap.size → K (a.put o.dst v') w') :
    if Region.wanted o (yielded ops a.tmps) = true then Oper.wp P o a wA K Q else E := by
  have hw : Region.wanted o (yielded ops a.tmps) = true := by simp [Region.wanted, hg]
  rw [if_pos hw]
  have hown' := owns_below hown hbO
  have hlt : ∀ k, v.ownBlock = some k → base ≤ k ∧ k < wO.heap.size := by
    intro k hk
    obtain ⟨_, h2⟩ := hown
    rcases h2 with ⟨hv, _⟩ | ⟨g, cap, cur, hv, hg, hh, _⟩
    · subst hv; cases hk
    · subst hv; simp only [Value.ownBlock, Option.some.injEq] at hk; subst hk
      exact ⟨hg, (Array.getElem?_eq_some_iff.1 hh).1⟩
  have hsz0 := hbO.size
  refine wp_append_own _ s x t ho base e i z size bytes ht hi hz hsize hby hzs hsz v n xs hs hown' ⟨b, 0, none⟩ 1 c l hx (by omega) ?_ h1 ?_ ?_ ?_ ?_
  · intro j u hj
    rw [Addr.add_lit, Nat.zero_add, hb.rules.1]
    simpa using hj
  · unfold maxLen; omega
  · have : (n + 1) * bytes ≤ 1048577 * 1000 := Nat.mul_le_mul (by omega) hbytes
    omega
  · omega
  · intro v' w' h2 hgr _
    refine h v' w' h2 ⟨hgr.os.trans hbO.os, hgr.tape.trans hbO.tape, hgr.output.trans hbO.output, by have := hgr.size; omega, fun k hk => ?_⟩ hgr.block hgr.size
    rw [hgr.block k (by omega) (fun e => by have := hlt k e.symm; omega)]; exact hbO.block k (by omega)
end

def insAt (t : List PEnt) (x : PEnt) (k : Nat) : List PEnt := t.take k ++ x :: t.drop k
theorem insAt_len (t : List PEnt) (x : PEnt) (k : Nat) : (insAt t x k).length = t.length + 1 := by simp [insAt]; omega
theorem insAt_end (t : List PEnt) (x : PEnt) : insAt t x t.length = t ++ [x] := by simp [insAt]
theorem insAt_prev (t : List PEnt) (x : PEnt) (j : Nat) (hj : j < t.length) : ∃ h : j < (insAt t x (j + 1)).length, (insAt t x (j + 1))[j] = t[j] := by
  refine ⟨by rw [insAt_len]; omega, ?_⟩
  unfold insAt
  rw [List.getElem_append_left (by simp; omega)]; simp
theorem insAt_here (t : List PEnt) (x : PEnt) (j : Nat) (hj : j ≤ t.length) : ∃ h : j < (insAt t x j).length, (insAt t x j)[j] = x := by
  refine ⟨by rw [insAt_len]; omega, ?_⟩
  unfold insAt
  rw [List.getElem_append_right (by simp; omega)]; simp [hj]
theorem insAt_swap (t : List PEnt) (x : PEnt) (j : Nat) (hj : j < t.length) : ((insAt t x (j + 1)).set (j + 1) t[j]).set j x = insAt t x j := by
  unfold insAt
  have h1 : t.take (j + 1) = t.take j ++ [t[j]] := List.take_succ_eq_append_getElem hj
  have h2 : t.drop j = t[j] :: t.drop (j + 1) := List.drop_eq_getElem_cons hj
  have hl : (t.take j).length = j := by simp; omega
  rw [h1, h2, List.append_assoc, List.set_append_right _ _ (by omega), hl, List.set_append_right _ _ (by omega), hl]
  simp
theorem pcells_put : ∀ (t : List PEnt) (k : Nat) (e : PEnt), k < t.length → (((pcells t).set (k * 3) (.string e.name)).set (k * 3 + 1) (.int .i64 (e.arity : Int))).set (k * 3 + 2) (.int .i64 (e.stratum : Int)) = pcells (t.set k e)
  | [], k, _, hk => by simp at hk
  | a :: r, 0, e, _ => by simp [pcells]
  | a :: r, k + 1, e, hk => by
    have := pcells_put r k e (by simpa using hk)
    simp only [pcells, List.flatMap_cons, List.set_cons_succ] at this ⊢
    rw [show (k + 1) * 3 = k * 3 + 1 + 1 + 1 from by omega, show k * 3 + 1 + 1 + 1 + 2 = k * 3 + 2 + 1 + 1 + 1 from by omega]
    simpa using this
theorem own_put {w : World} {B g n cap m : Nat} {t : List PEnt} (h : w.ownsRow B 221 3 (.slice (some ⟨g, 0, none⟩) n cap) m (pcells t)) (k : Nat) (hk : k < t.length) (e : PEnt) :
    (((w.setCell ⟨g, k * 3, none⟩ (.string e.name)).setCell ⟨g, k * 3 + 1, none⟩ (.int .i64 (e.arity : Int))).setCell ⟨g, k * 3 + 2, none⟩ (.int .i64 (e.stratum : Int))).ownsRow B 221 3 (.slice (some ⟨g, 0, none⟩) n cap) m (pcells (t.set k e)) := by
  have hl := pcells_len t
  rw [← pcells_put t k e hk]
  exact own_set (own_set (own_set h _ (by omega) _) _ (by simp; omega) _) _ (by simp; omega) _
/-- Boxes other than tb and lists of predicates stand. -/
structure KeepP (tb : Nat) (w w' : World) : Prop where
  size : w.heap.size ≤ w'.heap.size
  box : ∀ b c T, b ≠ tb → T ≠ 221 → Box w b c T → Box w' b c T
theorem KeepP.refl (tb : Nat) (w : World) : KeepP tb w w := ⟨Nat.le_refl _, fun _ _ _ _ _ h => h⟩
theorem KeepP.trans {tb : Nat} {a b c : World} (h : KeepP tb a b) (k : KeepP tb b c) : KeepP tb a c := ⟨Nat.le_trans h.size k.size, fun x y z h1 h2 h3 => k.box x y z h1 h2 (h.box x y z h1 h2 h3)⟩
theorem KeepP.of {tb : Nat} {w w' : World} (h : Below w.heap.size w w') : KeepP tb w w' := ⟨h.size, fun _ _ _ _ _ k => k.below h⟩
theorem KeepP.drew {tb : Nat} {w w' : World} (h : KeepP tb w w') : KeepP tb w w'.drew := ⟨h.size, fun b c T h1 h2 h3 => (h.box b c T h1 h2 h3).drew⟩
theorem KeepP.setRow {tb : Nat} {w w' : World} (h : KeepP tb w w') {B g n cap m : Nat} {xs : List Value} (ho : w'.ownsRow B 221 3 (.slice (some ⟨g, 0, none⟩) n cap) m xs) (o : Nat) (u : Value) : KeepP tb w (w'.setCell ⟨g, o, none⟩ u) := by
  refine ⟨by simp [World.setCell]; exact h.size, fun b c T h1 h2 h3 => ?_⟩
  have hb := h.box b c T h1 h2 h3
  have := own_ne_type ho hb (Ne.symm h2)
  simp only [Value.ownBlock, ne_eq, Option.some.injEq] at this
  exact hb.set_ne this _ _
theorem keepP_put {tb : Nat} {w w' : World} (h : KeepP tb w w') {B g n cap m : Nat} {t : List PEnt} (ho : w'.ownsRow B 221 3 (.slice (some ⟨g, 0, none⟩) n cap) m (pcells t)) (k : Nat) (hk : k < t.length) (u1 u2 u3 : Value) :
    KeepP tb w (((w'.setCell ⟨g, k * 3, none⟩ u1).setCell ⟨g, k * 3 + 1, none⟩ u2).setCell ⟨g, k * 3 + 2, none⟩ u3) := by
  have hl := pcells_len t
  exact ((h.setRow ho _ _).setRow (own_set ho _ (by omega) _) _ _).setRow (own_set (own_set ho _ (by omega) _) _ (by simp; omega) _) _ _
theorem Tryz.infoPred : (Tryz.prog.info? 221).map (fun i => (i.zero, i.size, i.bytes)) = some (some (.agg #[.string ByteArray.empty, .int .i64 0, .int .i64 0]), 3, 32) := by kernel_rfl

set_option maxRecDepth 100000 in
set_option maxHeartbeats 1000000 in
theorem insert_any (B : Nat) (w : World) (tb : Nat) (t : List PEnt) (i : Nat) (x : PEnt) (h : TA B w tb t) (hl : t.length ≤ 1000) (hi : i ≤ t.length) (hB : B ≤ w.heap.size) (hBt : B ≤ tb) :
    Calls Tryz.prog 147 #[.pointer (some ⟨tb, 0, none⟩), .int .i64 i, .agg #[.string x.name, .int .i64 x.arity, .int .i64 x.stratum]] w fun e w' => e = .returned (.tuple #[]) ∧ TA B w' tb (t.take i ++ x :: t.drop i) ∧ Below B w w' ∧ KeepP tb w w' := by
  obtain ⟨i0, hi0, hz0, hzs, hzb⟩ := info_parts Tryz.infoPred
  obtain ⟨ao, cap, hbx, hown⟩ := h.view
  obtain ⟨hc, hf⟩ := hbx.rules
  have hlt := hbx.lt
  have hbAA : Below w.heap.size w (((w.alloc (.cells #[.string x.name, .int .i64 (x.arity : Int), .int .i64 (x.stratum : Int)] 221)).alloc (.cells #[.string x.name, .int .i64 (x.arity : Int), .int .i64 (x.stratum : Int)] 221)).drew) := (by repeat' (first | (with_reducible exact Below.refl _ _) | (with_reducible assumption) | (with_reducible refine bdrewN ?_ _) | (with_reducible refine Below.alloc ?_ ?_ _) | (with_reducible refine Below.drew ?_) | (with_reducible refine Below.setCell ?_ ?_ _) | go_size))
  go_enter Tryz.func147, Tryz.ntmps147
  go_wp2
  go_region_law (first | (refine step_push w _ [.string x.name, .int .i64 (x.arity : Int), .int .i64 (x.stratum : Int)] 221 rfl (.tmp 11) (.tmp 13) 125 rfl B 221 i0 _ 3 32 Tryz.underlying125 hi0 hz0 hzs hzb rfl (by decide) _ _ _ (by simp [Act.eval]) hown (by exact (by repeat' (first | (with_reducible exact Below.refl _ _) | (with_reducible assumption) | (with_reducible refine bdrewN ?_ _) | (with_reducible refine Below.alloc ?_ ?_ _) | (with_reducible refine Below.drew ?_) | (with_reducible refine Below.setCell ?_ ?_ _) | go_size))) (w.heap.size + 1) 1 (by simp [Act.eval]) (by exact Box.drew (Box.newAt _ _ _ _ (by simp))) rfl (by simp [Value.oneCell']) (by omega) (by omega) hB ?_; intro v' w2 ho2 hB2 hk2 hz2'; obtain ⟨ao2, cap2, rfl⟩ := own_view ho2; have hbx2 := (hbx.below hbAA).keep (own_ne_type hown hbx (by decide)) hk2; obtain ⟨hc2, hf2⟩ := hbx2.rules; have hxx2 := Box.keep (Box.drew ((Box.new w _ _).below ((Below.refl _ _).alloc (Nat.le_refl _) _))) (own_ne_new hown (Nat.le_refl _)) hk2))
  all_goals
    go_wp2
    go_loopw [6] (fun k wr => ∃ j : Nat, i ≤ j ∧ j ≤ t.length ∧ k = .int .i64 j ∧ Box wr tb #[.slice ao2 (t.length + 1) cap2] 127 ∧ wr.ownsRow B 221 3 (.slice ao2 (t.length + 1) cap2) (t.length + 1) (pcells (insAt t x j)) ∧ Box wr w.heap.size #[.string x.name, .int .i64 (x.arity : Int), .int .i64 (x.stratum : Int)] 221 ∧ Below B w wr ∧ KeepP tb w wr) (fun k _ => (intOf k).toNat)
    case atStart =>
      refine ⟨t.length, hi, Nat.le_refl _, rfl, hbx2.set 0 _, ?_, hxx2.set_ne (by omega) _ _, ?_, ?_⟩
      · rw [insAt_end]; have := own_but ho2 ((But.refl tb w2).setCell 0 (.slice ao2 (t.length + 1) cap2)) hbx2 (by decide); simpa [pcells] using this
      · exact hB2.setCell hBt _
      · exact ⟨by simp [World.setCell]; exact hB2.size, fun b c T h1 h2 h3 => ((h3.below hbAA).keep (own_ne_type hown h3 (Ne.symm h2)) hk2).set_ne h1 _ _⟩
    case round =>
      obtain ⟨j, hij, hjl, rfl, hbr, hor, hxr, hblr, hkpr⟩ := hrel
      obtain ⟨hcr, hfr⟩ := hbr.rules
      obtain ⟨hcx, hfx⟩ := hxr.rules
      by_cases hlt2 : i < j
      · obtain ⟨j, rfl⟩ : ∃ j', j = j' + 1 := ⟨j - 1, by omega⟩
        obtain ⟨hp1, hp2⟩ := insAt_prev t x j (by omega)
        obtain ⟨g, rfl, hg, hBg, hd0, hd1, hd2⟩ := ent_cell (t := insAt t x (j + 1)) (by rw [insAt_len]; exact hor) j hp1
        rw [hp2] at hd0 hd1 hd2
        have hfg := own_free hor
        have hne1 := own_ne_type hor hbr (by decide)
        have hne2 := own_ne_size hor hxr (by simp; omega)
        simp only [Value.ownBlock, ne_eq, Option.some.injEq] at hne1
        obtain ⟨hq1, hq2⟩ := insAt_here t x (j + 1) (by omega)
        obtain ⟨g', hgg, _, _, he0, he1, he2⟩ := ent_cell (t := insAt t x (j + 1)) (by rw [insAt_len]; exact hor) (j + 1) hq1
        simp at hgg
        subst hgg
        rw [hq2] at he0 he1 he2
        clear hp2 hq2
        go_wp2
        go_region
        go_wp2
        go_region
        go_wp2
        have hop := own_put (own_put hor (j + 1) (by rw [insAt_len]; omega) t[j]) j (by rw [List.length_set, insAt_len]; omega) x
        have hkp := keepP_put (keepP_put hkpr hor (j + 1) (by rw [insAt_len]; omega) (.string t[j].name) (.int .i64 (t[j].arity : Int)) (.int .i64 (t[j].stratum : Int))) (own_put hor (j + 1) (by rw [insAt_len]; omega) t[j]) j (by rw [List.length_set, insAt_len]; omega) (.string x.name) (.int .i64 (x.arity : Int)) (.int .i64 (x.stratum : Int))
        rw [insAt_swap t x j (by omega)] at hop
        go_roundw
        case rel => exact ⟨j, by omega, by omega, rfl, (((((((hbr.set_ne hne1 _ _).set_ne hne1 _ _).set_ne hne1 _ _).set_ne hne1 _ _).set_ne hne1 _ _).set_ne hne1 _ _).drew).drew, hop.drew.drew, (((((((hxr.set_ne hne2 _ _).set_ne hne2 _ _).set_ne hne2 _ _).set_ne hne2 _ _).set_ne hne2 _ _).set_ne hne2 _ _).drew).drew, (by repeat' (first | (with_reducible exact Below.refl _ _) | (with_reducible assumption) | (with_reducible refine bdrewN ?_ _) | (with_reducible refine Below.alloc ?_ ?_ _) | (with_reducible refine Below.drew ?_) | (with_reducible refine Below.setCell ?_ ?_ _) | go_size)), hkp.drew.drew⟩
        case measure => simp [intOf]
      · have hji : j = i := by omega
        subst hji
        go_wp2
        go_end0
        exact ⟨rfl, ⟨_, hbr, by rw [show (t.take j ++ x :: t.drop j).length = t.length + 1 from insAt_len t x j]; exact hor⟩, hblr, hkpr⟩
end Go.Proofs.YteampbddflhngaaGreat

/- Walks: preds.Table.add. -/
namespace Go.Proofs.YteampbddflhngaaGreat
open Go.RowKit

theorem nat_beq (a b : Nat) : ((a : Int) == (b : Int)) = decide (a = b) := by
  by_cases h : a = b
  · subst h; simp
  · rw [decide_eq_false h, beq_eq_false_iff_ne]; omega
theorem ret_bool {a b : Bool} (h : a = b) : Ending.returned (.bool a) = .returned (.bool b) := by rw [h]
def addT (t : List PEnt) (l : PLit) : Option (List PEnt) := match entAt t l.pred with
  | some e => if e.arity = l.args.length then some t else none
  | none => some (insAt t ⟨l.pred, l.args.length, 0⟩ (placeB t l.pred))

set_option maxRecDepth 100000 in
set_option maxHeartbeats 1000000 in
theorem tadd_has (B : Nat) (w : World) (tb : Nat) (t : List PEnt) (l : PLit) (aoa : Option Addr) (capa : Nat) (h : TA B w tb t) (hl : t.length ≤ 1000) (e0 : PEnt) (hn : entAt t l.pred = some e0) :
    Calls Tryz.prog 102 #[.pointer (some ⟨tb, 0, none⟩), .agg #[.bool l.neg, .string l.pred, .slice aoa l.args.length capa]] w fun e w' => e = .returned (.bool (decide (e0.arity = l.args.length))) ∧ Below w.heap.size w w' := by
  obtain ⟨ao, cap, hbx, hown⟩ := h.view
  have hlt := hbx.lt
  have hle := placeB_le t l.pred
  have hbA := (Below.refl w.heap.size w).alloc (Nat.le_refl _) (.cells #[.bool l.neg, .string l.pred, .slice aoa l.args.length capa] 90)
  have HPL : Hid (Calls Tryz.prog 126 #[.pointer (some ⟨tb, 0, none⟩), .string l.pred] (w.alloc (.cells #[.bool l.neg, .string l.pred, .slice aoa l.args.length capa] 90)) fun e w' => e = .returned (.int .i64 (placeB t l.pred)) ∧ w' = (w.alloc (.cells #[.bool l.neg, .string l.pred, .slice aoa l.args.length capa] 90))) := place_any B _ tb t l.pred (h.below hbA) hl
  obtain ⟨hc, hf⟩ := hbx.rules
  obtain ⟨hk, hee, hnn⟩ := entAt_some hn
  obtain ⟨g, rfl, hg, _, hd0, hd1, _⟩ := ent_cell hown _ hk
  rw [hee] at hd0 hd1
  have he := seq_true hnn
  clear hn hnn hee
  generalize e0.name = x at *
  generalize placeB t l.pred = k at *
  go_enter Tryz.func102, Tryz.ntmps102
  go_wp2_with (first | (go_at_call 126; refine HPL.out.mono ?_; rintro e w' ⟨rfl, rfl⟩; clear HPL))
  go_quiet (fail)
  go_wp2
  go_quiet (fail)
  go_wp2
  go_ret
  exact ⟨ret_bool (nat_beq _ _), (by repeat' (first | (with_reducible exact Below.refl _ _) | (with_reducible assumption) | (with_reducible refine bdrewN ?_ _) | (with_reducible refine Below.alloc ?_ ?_ _) | (with_reducible refine Below.drew ?_) | (with_reducible refine Below.setCell ?_ ?_ _) | go_size))⟩

set_option maxRecDepth 100000 in
set_option maxHeartbeats 1000000 in
theorem tadd_new (B : Nat) (w : World) (tb : Nat) (t : List PEnt) (l : PLit) (aoa : Option Addr) (capa : Nat) (h : TA B w tb t) (hl : t.length ≤ 1000) (hn : entAt t l.pred = none) (hB : B ≤ w.heap.size) (hBt : B ≤ tb) :
    Calls Tryz.prog 102 #[.pointer (some ⟨tb, 0, none⟩), .agg #[.bool l.neg, .string l.pred, .slice aoa l.args.length capa]] w fun e w' => e = .returned (.bool true) ∧ TA B w' tb (insAt t ⟨l.pred, l.args.length, 0⟩ (placeB t l.pred)) ∧ Below B w w' ∧ KeepP tb w w' := by
  obtain ⟨ao, cap, hbx, hown⟩ := h.view
  have hlt := hbx.lt
  have hle := placeB_le t l.pred
  have hbA := (Below.refl w.heap.size w).alloc (Nat.le_refl _) (.cells #[.bool l.neg, .string l.pred, .slice aoa l.args.length capa] 90)
  have HPL : Hid (Calls Tryz.prog 126 #[.pointer (some ⟨tb, 0, none⟩), .string l.pred] (w.alloc (.cells #[.bool l.neg, .string l.pred, .slice aoa l.args.length capa] 90)) fun e w' => e = .returned (.int .i64 (placeB t l.pred)) ∧ w' = (w.alloc (.cells #[.bool l.neg, .string l.pred, .slice aoa l.args.length capa] 90))) := place_any B _ tb t l.pred (h.below hbA) hl
  obtain ⟨hc, hf⟩ := hbx.rules
  have hta := h
  have HTA : Hid (TA B w tb t) := hta
  have HINS : Hid (insAt t ⟨l.pred, l.args.length, 0⟩ (placeB t l.pred) = t.take (placeB t l.pred) ++ ⟨l.pred, l.args.length, 0⟩ :: t.drop (placeB t l.pred)) := rfl
  rw [HINS.out]
  clear h hta HINS
  rcases entAt_none hn with hk | ⟨hk, hne⟩
  · clear hn
    generalize placeB t l.pred = k at *
    go_enter Tryz.func102, Tryz.ntmps102
    go_wp2_with (first | (go_at_call 126; refine HPL.out.mono ?_; rintro e w' ⟨rfl, rfl⟩; clear HPL))
    go_quiet (fail)
    go_wp2_with (first | (go_at_call 147; refine (insert_any B _ tb t k ⟨l.pred, l.args.length, 0⟩ (by exact HTA.out.below (by repeat' (first | (with_reducible exact Below.refl _ _) | (with_reducible assumption) | (with_reducible refine bdrewN ?_ _) | (with_reducible refine Below.alloc ?_ ?_ _) | (with_reducible refine Below.drew ?_) | (with_reducible refine Below.setCell ?_ ?_ _) | go_size))) hl hle (by exact Nat.le_trans hB (by simp)) hBt).mono ?_; rintro e w2 ⟨rfl, ht2, hb2, hkp2⟩))
    go_ret
    exact ⟨rfl, ht2, ((bdrewN (hbA.mono hB) _)).trans hb2, (KeepP.of (bdrewN hbA _)).trans hkp2⟩
  · obtain ⟨g, rfl, hg, _, hd0, hd1, _⟩ := ent_cell hown _ hk
    have he := seq_false hne
    clear hn hne
    generalize t[placeB t l.pred].name = x at *
    generalize placeB t l.pred = k at *
    go_enter Tryz.func102, Tryz.ntmps102
    go_wp2_with (first | (go_at_call 126; refine HPL.out.mono ?_; rintro e w' ⟨rfl, rfl⟩; clear HPL))
    go_quiet (fail)
    go_wp2_with (first | (go_at_call 147; refine (insert_any B _ tb t k ⟨l.pred, l.args.length, 0⟩ (by exact HTA.out.below (by repeat' (first | (with_reducible exact Below.refl _ _) | (with_reducible assumption) | (with_reducible refine bdrewN ?_ _) | (with_reducible refine Below.alloc ?_ ?_ _) | (with_reducible refine Below.drew ?_) | (with_reducible refine Below.setCell ?_ ?_ _) | go_size))) hl hle (by exact Nat.le_trans hB (by simp)) hBt).mono ?_; rintro e w2 ⟨rfl, ht2, hb2, hkp2⟩))
    go_ret
    exact ⟨rfl, ht2, ((bdrewN (hbA.mono hB) _)).trans hb2, (KeepP.of (bdrewN hbA _)).trans hkp2⟩
end Go.Proofs.YteampbddflhngaaGreat

/- Walks: preds.Collect. -/
namespace Go.Proofs.YteampbddflhngaaGreat
open Go.RowKit
variable {lo : Nat}

theorem addT_len {t t' : List PEnt} {l : PLit} (h : addT t l = some t') : t'.length ≤ t.length + 1 := by
  unfold addT at h
  split at h
  · split at h <;> simp at h; subst h; omega
  · simp at h; subst h; rw [insAt_len]; omega
theorem addT_zero {t t' : List PEnt} {l : PLit} (h : addT t l = some t') (hz : ∀ e ∈ t, e.stratum ≤ 0) : ∀ e ∈ t', e.stratum ≤ 0 := by
  unfold addT at h
  split at h
  · split at h <;> simp at h; subst h; exact hz
  · simp at h; subst h
    intro e he
    unfold insAt at he
    rcases List.mem_append.1 he with he | he
    · exact hz e (List.mem_of_mem_take he)
    · rcases List.mem_cons.1 he with he | he
      · subst he; exact Nat.le_refl _
      · exact hz e (List.mem_of_mem_drop he)
def addO (o : Option (List PEnt)) (l : PLit) : Option (List PEnt) := o.bind (addT · l)
def litsOf (c : PClause) : List PLit := c.head :: c.body
def collB (cs : List PClause) : Option (List PEnt) := (cs.flatMap litsOf).foldl addO (some [])
theorem addO_none (ls : List PLit) : ls.foldl addO none = none := by
  induction ls with
  | nil => rfl
  | cons a ls ih => exact ih
theorem addO_zero : ∀ (ls : List PLit) (t : List PEnt), (∀ e ∈ t, e.stratum ≤ 0) → ∀ t', ls.foldl addO (some t) = some t' → ∀ e ∈ t', e.stratum ≤ 0
  | [], t, hz, t', h => by simp at h; subst h; exact hz
  | l :: ls, t, hz, t', h => by
    simp only [List.foldl_cons] at h
    cases ha : addT t l with
    | none => rw [show addO (some t) l = none from ha, addO_none] at h; cases h
    | some t2 => rw [show addO (some t) l = some t2 from ha] at h; exact addO_zero ls t2 (addT_zero ha hz) t' h
theorem addO_len : ∀ (ls : List PLit) (t : List PEnt), ∀ t', ls.foldl addO (some t) = some t' → t'.length ≤ t.length + ls.length
  | [], t, t', h => by simp at h; subst h; simp
  | l :: ls, t, t', h => by
    simp only [List.foldl_cons] at h
    cases ha : addT t l with
    | none => rw [show addO (some t) l = none from ha, addO_none] at h; cases h
    | some t2 => rw [show addO (some t) l = some t2 from ha] at h; have := addO_len ls t2 t' h; have := addT_len ha; simp; omega

theorem tadd_no (B : Nat) (w : World) (tb : Nat) (t : List PEnt) (l : PLit) (aoa : Option Addr) (capa : Nat) (h : TA B w tb t) (hl : t.length ≤ 1000) (hn : addT t l = none) :
    Calls Tryz.prog 102 #[.pointer (some ⟨tb, 0, none⟩), .agg #[.bool l.neg, .string l.pred, .slice aoa l.args.length capa]] w fun e w' => e = .returned (.bool false) ∧ Below w.heap.size w w' := by
  unfold addT at hn
  split at hn
  · rename_i e0 he
    split at hn
    · cases hn
    · rename_i hne
      have := tadd_has B w tb t l aoa capa h hl e0 he
      rw [decide_eq_false hne] at this
      exact this
  · cases hn
theorem tadd_yes (B : Nat) (w : World) (tb : Nat) (t t2 : List PEnt) (l : PLit) (aoa : Option Addr) (capa : Nat) (h : TA B w tb t) (hl : t.length ≤ 1000) (hn : addT t l = some t2) (hB : B ≤ w.heap.size) (hBt : B ≤ tb) :
    Calls Tryz.prog 102 #[.pointer (some ⟨tb, 0, none⟩), .agg #[.bool l.neg, .string l.pred, .slice aoa l.args.length capa]] w fun e w' => e = .returned (.bool true) ∧ TA B w' tb t2 ∧ Below B w w' ∧ KeepP tb w w' := by
  unfold addT at hn
  split at hn
  · rename_i e0 he
    split at hn
    · rename_i heq
      simp at hn
      subst hn
      have := tadd_has B w tb t l aoa capa h hl e0 he
      rw [decide_eq_true heq] at this
      refine this.mono ?_
      rintro e w' ⟨rfl, hb⟩
      exact ⟨rfl, h.below hb, hb.mono hB, KeepP.of hb⟩
    · cases hn
  · rename_i he
    simp at hn
    subst hn
    exact tadd_new B w tb t l aoa capa h hl he hB hBt

def CollPost (o : Option (List PEnt)) (w : World) (e : Ending) (w' : World) : Prop :=
  Below w.heap.size w w' ∧ match o with
    | none => e = .returned (.tuple #[.agg #[.slice none 0 0], .bool false])
    | some t => ∃ pv, e = .returned (.tuple #[.agg #[pv], .bool true]) ∧ w'.ownsRow w.heap.size 221 3 pv t.length (pcells t)
theorem collPost_no {o : Option (List PEnt)} {w w' : World} (h : Hid (o = none)) (hb : Below w.heap.size w w') : CollPost o w (.returned (.tuple #[.agg #[.slice none 0 0], .bool false])) w' := by
  have h' : o = none := h
  subst h'; exact ⟨hb, rfl⟩
theorem collPost_yes {o : Option (List PEnt)} {w w' : World} {t : List PEnt} {pv : Value} (h : Hid (o = some t)) (hb : Below w.heap.size w w') (ho : w'.ownsRow w.heap.size 221 3 pv t.length (pcells t)) : CollPost o w (.returned (.tuple #[.agg #[pv], .bool true])) w' := by
  have h' : o = some t := h
  subst h'; exact ⟨hb, pv, rfl, ho⟩

set_option maxRecDepth 100000 in
set_option maxHeartbeats 1000000 in
theorem collect_any (w : World) (v : Value) (cs : List PClause) (hcs : CIn lo 171 w v cs) (hN : (cs.flatMap litsOf).length ≤ 1000) :
    Calls Tryz.prog 62 #[v] w fun e w' => CollPost (collB cs) w e w' := by
  obtain ⟨ao, cap, rfl⟩ := hcs.shape
  have hcl : cs.length ≤ 1000 := by
    have : cs.length ≤ (cs.flatMap litsOf).length := by
      clear hN hcs
      induction cs with
      | nil => simp
      | cons c cs ih => simp [litsOf] at ih ⊢; omega
    omega
  go_enter Tryz.func62, Tryz.ntmps62
  go_wp2
  go_loopw [11] (fun i wr => ∃ (k : Nat) (tk : List PEnt), k ≤ cs.length ∧ i = .int .i64 k ∧ Below w.heap.size w wr ∧ TA w.heap.size wr (w.heap.size + 1) tk ∧ Box wr w.heap.size #[.slice none 0 0] 127 ∧ tk.length + ((cs.drop k).flatMap litsOf).length ≤ 1000 ∧ Hid (collB cs = ((cs.drop k).flatMap litsOf).foldl addO (some tk))) (fun i _ => cs.length - (intOf i).toNat)
  case atStart =>
    have hb1 := (Below.refl w.heap.size w).alloc (Nat.le_refl _) (.cells #[.slice none 0 0] 127)
    exact ⟨0, [], Nat.zero_le _, rfl, (by repeat' (first | (with_reducible exact Below.refl _ _) | (with_reducible assumption) | (with_reducible refine bdrewN ?_ _) | (with_reducible refine Below.alloc ?_ ?_ _) | (with_reducible refine Below.drew ?_) | (with_reducible refine Below.setCell ?_ ?_ _) | go_size)), ⟨_, Box.newAt _ _ _ _ (by simp), World.ownsRow_nil _ _ _ _⟩, (Box.new w _ _).below ((Below.refl _ _).alloc (Nat.le_refl _) _), (by simpa using hN), rfl⟩
  case round =>
    obtain ⟨k, tk, hk, rfl, hbk, htk, hres, hnk, H⟩ := hrel
    have hszk := hbk.size
    have hres1 := hres.lt
    have htl : w.heap.size + 1 < wr.heap.size := by obtain ⟨_, hb, _⟩ := htk; exact hb.lt
    by_cases hlt : k < cs.length
    · have hdr := List.drop_eq_getElem_cons hlt
      obtain ⟨g, ao2, cap2, ao3, cap3, rfl, hg, hc0, hc1, hc2, hc3, hsk, hlk⟩ := hcs.cell k hlt
      have hd0 := (hbk.cell (p := ⟨g, k * 4, none⟩) hg).trans hc0
      have hd1 := (hbk.cell (p := ⟨g, k * 4 + 1, none⟩) hg).trans hc1
      have hd2 := (hbk.cell (p := ⟨g, k * 4 + 2, none⟩) hg).trans hc2
      have hd3 := (hbk.cell (p := ⟨g, k * 4 + 3, none⟩) hg).trans hc3
      have hgr : g < wr.heap.size := by omega
      clear hc0 hc1 hc2 hc3 hsk
      generalize cs[k] = c at *
      rw [hdr] at hnk
      have H1 : Hid (collB cs = (c.body ++ (cs.drop (k + 1)).flatMap litsOf).foldl addO (addO (some tk) c.head)) := by rw [Hid, H.out, hdr]; rfl
      simp only [List.flatMap_cons, litsOf, List.length_append, List.length_cons] at hnk
      generalize hR : (cs.drop (k + 1)).flatMap litsOf = rest at *
      have HR : Hid ((cs.drop (k + 1)).flatMap litsOf = rest) := hR
      clear hR H hdr
      cases hA : addT tk c.head with
      | none =>
        have HA : Hid (addT tk c.head = none) := hA
        have HF : Hid (collB cs = none) := by rw [Hid, H1.out, show addO (some tk) c.head = none from hA, addO_none]
        clear H1 hA
        go_wp2_with (first | (go_at_call 102; refine (tadd_no w.heap.size _ (w.heap.size + 1) tk c.head _ _ (by exact htk.below (by repeat' (first | (with_reducible exact Below.refl _ _) | (with_reducible assumption) | (with_reducible refine bdrewN ?_ _) | (with_reducible refine Below.alloc ?_ ?_ _) | (with_reducible refine Below.drew ?_) | (with_reducible refine Below.setCell ?_ ?_ _) | go_size))) (by omega) HA).mono ?_; rintro e w1 ⟨rfl, hb1⟩; have hB1 := bnext ((Below.refl wr.heap.size wr).alloc (Nat.le_refl _) _) hb1 (Nat.le_refl _); have hBB := bnext hbk hB1 (Nat.le_refl _); have hres2 := hres.below hB1; obtain ⟨hrc, hrf⟩ := hres2.rules; have hz2 := hres2.lt))
        exact bodyPost_ret (v := .tuple #[.agg #[.slice none 0 0], .bool false]) (by simp [results, Tryz.results62, go_sem, hrc]) rfl (collPost_no HF (by repeat' (first | (with_reducible exact Below.refl _ _) | (with_reducible assumption) | (with_reducible refine bdrewN ?_ _) | (with_reducible refine Below.alloc ?_ ?_ _) | (with_reducible refine Below.drew ?_) | (with_reducible refine Below.setCell ?_ ?_ _) | go_size)))
      | some t1 =>
        have HA : Hid (addT tk c.head = some t1) := hA
        have hl1 := addT_len hA
        have H2 : Hid (collB cs = (c.body ++ rest).foldl addO (some t1)) := by rw [Hid, H1.out, show addO (some tk) c.head = some t1 from hA]
        clear H1 hA
        go_wp2_with (first | (go_at_call 102; refine (tadd_yes w.heap.size _ (w.heap.size + 1) tk t1 c.head _ _ (by exact htk.below (by repeat' (first | (with_reducible exact Below.refl _ _) | (with_reducible assumption) | (with_reducible refine bdrewN ?_ _) | (with_reducible refine Below.alloc ?_ ?_ _) | (with_reducible refine Below.drew ?_) | (with_reducible refine Below.setCell ?_ ?_ _) | go_size))) (by omega) HA (by exact Nat.le_trans hszk (by simp)) (by omega)).mono ?_; rintro e w1 ⟨rfl, ht1, hb1, hkp1⟩; have hBB : Below w.heap.size w w1 := (hbk.alloc hszk _).trans hb1; have hres2 := hkp1.box _ _ _ (by omega) (by decide) (hres.below ((Below.refl _ _).alloc (Nat.le_refl _) _)); have hcb := hkp1.box _ _ _ (by omega) (by decide) (Box.new wr _ _); obtain ⟨hcc, hcf⟩ := hcb.rules; have hzc := hcb.lt; have hz2 := hres2.lt))
        go_loopw [23] (fun i wj => ∃ (j : Nat) (tj : List PEnt), j ≤ c.body.length ∧ i = .int .i64 j ∧ Below w.heap.size w wj ∧ TA w.heap.size wj (w.heap.size + 1) tj ∧ Box wj w.heap.size #[.slice none 0 0] 127 ∧ tj.length + (c.body.drop j).length + rest.length ≤ 1000 ∧ Hid (collB cs = (c.body.drop j ++ rest).foldl addO (some tj))) (fun i _ => c.body.length - (intOf i).toNat)
        case atStart => exact ⟨0, t1, Nat.zero_le _, rfl, hBB, ht1, hres2, (by simp; omega), H2⟩
        case round =>
          clear hcc hcf hcb hzc
          obtain ⟨j, tj, hj, rfl, hbj, htj, hresj, hnj, HJ⟩ := hrel
          have hszj := hbj.size
          have hresl := hresj.lt
          by_cases hjl : j < c.body.length
          · obtain ⟨gl, aol, capl, rfl, hgl, hl0, hl1', hl2', _⟩ := hlk.cell j hjl
            have he0 := (hbj.cell (p := ⟨gl, j * 3, none⟩) hgl).trans hl0
            have he1 := (hbj.cell (p := ⟨gl, j * 3 + 1, none⟩) hgl).trans hl1'
            have he2 := (hbj.cell (p := ⟨gl, j * 3 + 2, none⟩) hgl).trans hl2'
            have hgj : gl < wr.heap.size := by omega
            have hdj := List.drop_eq_getElem_cons hjl
            clear hl0 hl1' hl2'
            generalize c.body[j] = a at *
            rw [hdj] at hnj
            have HJ1 : Hid (collB cs = (c.body.drop (j + 1) ++ rest).foldl addO (addO (some tj) a)) := by rw [Hid, HJ.out, hdj]; rfl
            simp only [List.length_cons] at hnj
            clear hdj HJ
            cases hA : addT tj a with
            | none =>
              have HA : Hid (addT tj a = none) := hA
              have HF : Hid (collB cs = none) := by rw [Hid, HJ1.out, show addO (some tj) a = none from hA, addO_none]
              clear HJ1 hA
              go_wp2_with (first | (go_at_call 102; refine (tadd_no w.heap.size _ (w.heap.size + 1) tj a _ _ (by exact htj.below (by repeat' (first | (with_reducible exact Below.refl _ _) | (with_reducible assumption) | (with_reducible refine bdrewN ?_ _) | (with_reducible refine Below.alloc ?_ ?_ _) | (with_reducible refine Below.drew ?_) | (with_reducible refine Below.setCell ?_ ?_ _) | go_size))) (by omega) HA).mono ?_; rintro e w3 ⟨rfl, hb3⟩; have hB3 := bnext ((Below.refl wr.heap.size wr).alloc (Nat.le_refl _) _) hb3 (Nat.le_refl _); have hBB3 := bnext hbj hB3 (Nat.le_refl _); have hres3 := hresj.below hB3; obtain ⟨hrc, hrf⟩ := hres3.rules; have hz3 := hres3.lt))
              exact bodyPost_ret (v := .tuple #[.agg #[.slice none 0 0], .bool false]) (by simp [results, Tryz.results62, go_sem, hrc]) rfl (collPost_no HF (by repeat' (first | (with_reducible exact Below.refl _ _) | (with_reducible assumption) | (with_reducible refine bdrewN ?_ _) | (with_reducible refine Below.alloc ?_ ?_ _) | (with_reducible refine Below.drew ?_) | (with_reducible refine Below.setCell ?_ ?_ _) | go_size)))
            | some t2 =>
              have HA : Hid (addT tj a = some t2) := hA
              have hl2 := addT_len hA
              have HJ2 : Hid (collB cs = (c.body.drop (j + 1) ++ rest).foldl addO (some t2)) := by rw [Hid, HJ1.out, show addO (some tj) a = some t2 from hA]
              have htjl : w.heap.size + 1 < wr.heap.size := by obtain ⟨_, hb, _⟩ := htj; exact hb.lt
              clear HJ1 hA
              go_wp2_with (first | (go_at_call 102; refine (tadd_yes w.heap.size _ (w.heap.size + 1) tj t2 a _ _ (by exact htj.below (by repeat' (first | (with_reducible exact Below.refl _ _) | (with_reducible assumption) | (with_reducible refine bdrewN ?_ _) | (with_reducible refine Below.alloc ?_ ?_ _) | (with_reducible refine Below.drew ?_) | (with_reducible refine Below.setCell ?_ ?_ _) | go_size))) (by omega) HA (by exact Nat.le_trans hszj (by simp)) (by omega)).mono ?_; rintro e w3 ⟨rfl, ht3, hb3, hkp3⟩; have hBB3 : Below w.heap.size w w3 := (hbj.alloc hszj _).trans hb3; have hres3 := hkp3.box _ _ _ (by omega) (by decide) (hresj.below ((Below.refl _ _).alloc (Nat.le_refl _) _))))
              go_roundw
              case rel => exact ⟨j + 1, t2, by omega, by go_num, hBB3, ht3, hres3, by omega, HJ2⟩
              case measure => simp [intOf]; omega
          · have HE : Hid (collB cs = ((cs.drop (k + 1)).flatMap litsOf).foldl addO (some tj)) := by rw [Hid, HJ.out, List.drop_eq_nil_of_le (by omega), HR.out]; rfl
            have hnr : tj.length + rest.length ≤ 1000 := by omega
            clear HJ
            go_wp2
            go_roundw
            case rel => exact ⟨k + 1, tj, by omega, by go_num, hbj, htj, hresj, by rw [HR.out]; exact hnr, HE⟩
            case measure => simp [intOf]; omega
    · have HF : Hid (collB cs = some tk) := by rw [Hid, H.out, List.drop_eq_nil_of_le (by omega)]; rfl
      obtain ⟨aop, capp, hbx, hown⟩ := htk.view
      obtain ⟨hc, hf⟩ := hbx.rules
      obtain ⟨hrc, hrf⟩ := hres.rules
      have hbxl := hbx.lt
      clear H
      go_wp2
      have ho2 := own_but hown ((But.refl w.heap.size wr).setCell 0 (.slice aop tk.length capp)) hres (by decide)
      exact bodyPost_ret (v := .tuple #[.agg #[.slice aop tk.length capp], .bool true]) (by simp [results, Tryz.results62, go_sem, hrc]) rfl (collPost_yes HF (by repeat' (first | (with_reducible exact Below.refl _ _) | (with_reducible assumption) | (with_reducible refine bdrewN ?_ _) | (with_reducible refine Below.alloc ?_ ?_ _) | (with_reducible refine Below.drew ?_) | (with_reducible refine Below.setCell ?_ ?_ _) | go_size)) ho2)
end Go.Proofs.YteampbddflhngaaGreat

/- Walks: derive.Compile. -/
namespace Go.Proofs.YteampbddflhngaaGreat
open Go.RowKit
variable {lo : Nat}

def litW (l : PLit) : Nat := l.args.length + 1
def sumW (ls : List PLit) : Nat := ls.foldr (fun l n => litW l + n) 0
def clW (c : PClause) : Nat := litW c.head + sumW c.body
def prW (cs : List PClause) : Nat := cs.foldr (fun c n => clW c + n) 0
theorem pTerms_w : ∀ (r : List Tok) {ts : List ByteArray} {r2 : List Tok}, pTerms r = some (ts, r2) → ts.length + r2.length ≤ r.length
  | [], _, _, h => by simp [pTerms] at h
  | [x], ts, r2, h => by
    simp only [pTerms] at h
    split at h <;> simp at h
    obtain ⟨rfl, rfl⟩ := h; simp
  | x :: y :: r, ts, r2, h => by
    simp only [pTerms] at h
    split at h
    · split at h
      · cases hq : pTerms r with
        | none => rw [hq] at h; simp at h
        | some z =>
          obtain ⟨ts', r'⟩ := z
          rw [hq] at h; simp at h
          have := pTerms_w r hq
          obtain ⟨rfl, rfl⟩ := h; simp; omega
      · simp at h; obtain ⟨rfl, rfl⟩ := h; simp; omega
    · simp at h
theorem pAtom_w {r r2 : List Tok} {a : PLit} (h : pAtom r = some (a, r2)) : litW a + r2.length ≤ r.length := by
  cases r with
  | nil => simp [pAtom, hdK] at h
  | cons x r =>
    unfold pAtom at h
    split at h
    · split at h
      · split at h
        · simp at h
        · rename_i ts r3 hq
          have := pTerms_w _ hq
          split at h <;> simp at h
          obtain ⟨rfl, rfl⟩ := h; simp [litW] at this ⊢; omega
      · simp at h; obtain ⟨rfl, rfl⟩ := h; simp [litW]; omega
    · simp at h
theorem pLit_w {r r2 : List Tok} {a : PLit} (h : pLit r = some (a, r2)) : litW a + r2.length ≤ r.length := by
  unfold pLit at h
  split at h
  · cases hq : pAtom r.tail with
    | none => rw [hq] at h; simp at h
    | some z =>
      obtain ⟨a', r'⟩ := z
      rw [hq] at h; simp at h
      have := pAtom_w hq
      obtain ⟨rfl, rfl⟩ := h; simp [litW] at this ⊢; omega
  · exact pAtom_w h
theorem pBody_w {n : Nat} : ∀ {r r2 : List Tok} {b : List PLit}, pBody n r = some (b, r2) → sumW b + r2.length ≤ r.length := by
  induction n with
  | zero => intro r r2 b h; simp [pBody] at h
  | succ n ih =>
    intro r r2 b h
    cases hl : pLit r with
    | none => rw [pBody_no hl] at h; cases h
    | some z =>
      obtain ⟨a, r3⟩ := z
      have := pLit_w hl
      by_cases h6 : hdK r3 = 6
      · rw [pBody_more hl h6] at h
        cases hq : pBody n r3.tail with
        | none => rw [hq] at h; simp at h
        | some z =>
          obtain ⟨b', r'⟩ := z
          rw [hq] at h; simp at h
          have := ih hq
          obtain ⟨rfl, rfl⟩ := h; simp [sumW] at this ⊢; omega
      · rw [pBody_stop hl h6] at h; simp at h; obtain ⟨rfl, rfl⟩ := h; simp [sumW]; omega
theorem pClause_w {n : Nat} {r r2 : List Tok} {c : PClause} (h : pClause n r = some (c, r2)) : clW c + r2.length ≤ r.length := by
  unfold pClause at h
  split at h
  · cases h
  · rename_i a r1 ha
    have := pAtom_w ha
    split at h
    · split at h
      · cases h
      · rename_i b r3 hb
        have := pBody_w hb
        split at h <;> simp at h
        obtain ⟨rfl, rfl⟩ := h; simp [clW] at this ⊢; omega
    · split at h <;> simp at h
      obtain ⟨rfl, rfl⟩ := h; simp [clW, sumW]; omega
theorem pProg_w {n0 : Nat} : ∀ {m : Nat} {r : List Tok} {cs : List PClause}, pProg n0 m r = some cs → prW cs ≤ r.length
  | _, [], cs, h => by simp [pProg] at h; subst h; simp [prW]
  | 0, _ :: _, cs, h => by simp [pProg] at h
  | m + 1, x :: r, cs, h => by
    cases hc : pClause n0 (x :: r) with
    | none => rw [pProg_no (by simp) hc] at h; cases h
    | some z =>
      obtain ⟨c, r2⟩ := z
      rw [pProg_yes (by simp) hc] at h
      cases hq : pProg n0 m r2 with
      | none => rw [hq] at h; simp at h
      | some cs' =>
        rw [hq] at h; simp at h; subst h
        have h1 := pClause_w hc
        have h2 := pProg_w hq
        simp only [prW, List.foldr_cons, List.length_cons] at h1 h2 ⊢; omega
theorem sumW_args (ls : List PLit) : sumArgs ls + ls.length = sumW ls := by
  induction ls with
  | nil => rfl
  | cons a ls ih => simp [sumArgs, sumW, litW] at ih ⊢; omega
theorem prW_mem {cs : List PClause} {c : PClause} (h : c ∈ cs) : clW c ≤ prW cs := by
  induction cs with
  | nil => cases h
  | cons a cs ih =>
    rcases List.mem_cons.1 h with rfl | h
    · simp [prW]
    · have := ih h; simp [prW] at this ⊢; omega
theorem prW_lits (cs : List PClause) : (cs.flatMap litsOf).length ≤ prW cs := by
  induction cs with
  | nil => simp
  | cons a cs ih => have := sumW_args a.body; simp [prW, clW, litsOf, litW] at ih ⊢; omega
theorem prW_len (cs : List PClause) : cs.length ≤ prW cs := by
  induction cs with
  | nil => simp
  | cons a cs ih => simp [prW, clW, litW] at ih ⊢; omega
theorem prW_ok {cs : List PClause} (h : prW cs ≤ 1000) : ∀ c ∈ cs, ClOK c := fun c hc => by
  have h1 := prW_mem hc
  have h2 := sumW_args c.body
  unfold clW litW at h1
  exact ⟨by omega, by omega⟩

theorem splitN_len : ∀ (n : Nat) (s : ByteArray) (i : Nat) (l : List (Int × ByteArray)), splitN n s i = some l → l.length ≤ s.size - i
  | 0, _, _, l, h => by simp [splitN] at h; subst h; simp
  | n + 1, s, i, l, h => by
    unfold splitN at h
    split at h
    · rename_i hi
      split at h
      · have := splitN_len n s (i + 1) l h; omega
      · split at h
        · cases h
        · rename_i hk
          split at h
          · cases h
          · cases hq : splitN n s (endB s i (kindB (bAt s i) (bAt s (i + 1)))) with
            | none => rw [hq] at h; simp at h
            | some l' =>
              rw [hq] at h; simp at h; subst h
              have := splitN_len n s _ l' hq
              have := endB_gt s i _ hi rfl hk
              simp; omega
    · simp at h; subst h; simp
theorem splitB_len {s : ByteArray} {l : List Tok} (h : splitB s = some l) : l.length ≤ s.size := by have := splitN_len _ s 0 l h; omega
def compB (s : ByteArray) : Except Int (List PClause × List PEnt) :=
  if 500 < s.size then .error 1 else
  match splitB s with
  | none => .error 2
  | some l =>
    match pProg l.length l.length l with
    | none => .error 3
    | some cs =>
      if cs.any manyC then .error 4 else
      match collB cs with
      | none => .error 5
      | some t =>
        if cs.all safeC then
          if (stratN (t.length + 1) t cs).2 then .ok (cs, (stratN (t.length + 1) t cs).1) else .error 7
        else .error 6

def CompPost (o : Except Int (List PClause × List PEnt)) (w : World) (e : Ending) (w' : World) : Prop :=
  Below w.heap.size w w' ∧ match o with
    | .error n => e = .returned (.tuple #[.pointer none, .int .i64 n])
    | .ok (cs, t) => ∃ pb v pv, e = .returned (.tuple #[.pointer (some ⟨pb, 0, none⟩), .int .i64 0]) ∧ Box w' pb #[v, pv] 131 ∧ CIn w.heap.size 171 w' v cs ∧ w'.ownsRow w.heap.size 221 3 pv t.length (pcells t) ∧ w.heap.size ≤ pb

theorem split_no (s : ByteArray) (w : World) (hs : s.size ≤ 500) (h : splitB s = none) : Calls Tryz.prog 59 #[.string s] w fun e w' => e = .returned (.tuple #[.slice none 0 0, .bool false]) ∧ Below w.heap.size w w' := by
  refine (split_any s w hs).mono ?_
  rintro e w' ⟨h1, h2⟩
  rw [h] at h2
  exact ⟨h2, h1⟩
theorem split_yes (s : ByteArray) (w : World) (l : List Tok) (hs : s.size ≤ 500) (h : splitB s = some l) : Calls Tryz.prog 59 #[.string s] w fun e w' => ∃ v, e = .returned (.tuple #[v, .bool true]) ∧ w'.ownsRow w.heap.size 182 2 v l.length (wcells l) ∧ l.length ≤ 500 ∧ Below w.heap.size w w' := by
  refine (split_any s w hs).mono ?_
  rintro e w' ⟨h1, h2⟩
  rw [h] at h2
  obtain ⟨v, a, b, c⟩ := h2
  exact ⟨v, a, b, by omega, h1⟩
theorem parse_no (w : World) (wv : Value) (l : List Tok) (base : Nat) (hw : w.ownsRow base 182 2 wv l.length (wcells l)) (hl : l.length ≤ 500) (h : pProg l.length l.length l = none) :
    Calls Tryz.prog 60 #[wv] w fun e w' => e = .returned (.tuple #[.slice none 0 0, .bool false]) ∧ Below w.heap.size w w' := by
  refine (parse_any w wv l base hw hl).mono ?_
  rintro e w' ⟨h1, h2⟩
  rw [h] at h2
  exact ⟨h2, h1⟩
theorem parse_yes (w : World) (wv : Value) (l : List Tok) (base : Nat) (cs : List PClause) (hw : w.ownsRow base 182 2 wv l.length (wcells l)) (hl : l.length ≤ 500) (h : pProg l.length l.length l = some cs) :
    Calls Tryz.prog 60 #[wv] w fun e w' => ∃ v, e = .returned (.tuple #[v, .bool true]) ∧ CIn w.heap.size 171 w' v cs ∧ Below w.heap.size w w' := by
  refine (parse_any w wv l base hw hl).mono ?_
  rintro e w' ⟨h1, h2⟩
  rw [h] at h2
  obtain ⟨v, a, b⟩ := h2
  exact ⟨v, a, b, h1⟩
theorem collect_no (w : World) (v : Value) (cs : List PClause) (hcs : CIn lo 171 w v cs) (hN : (cs.flatMap litsOf).length ≤ 1000) (h : collB cs = none) :
    Calls Tryz.prog 62 #[v] w fun e w' => e = .returned (.tuple #[.agg #[.slice none 0 0], .bool false]) ∧ Below w.heap.size w w' := by
  refine (collect_any w v cs hcs hN).mono ?_
  rintro e w' ⟨h1, h2⟩
  rw [h] at h2
  exact ⟨h2, h1⟩
theorem collect_yes (w : World) (v : Value) (cs : List PClause) (t : List PEnt) (hcs : CIn lo 171 w v cs) (hN : (cs.flatMap litsOf).length ≤ 1000) (h : collB cs = some t) :
    Calls Tryz.prog 62 #[v] w fun e w' => ∃ pv, e = .returned (.tuple #[.agg #[pv], .bool true]) ∧ w'.ownsRow w.heap.size 221 3 pv t.length (pcells t) ∧ Below w.heap.size w w' := by
  refine (collect_any w v cs hcs hN).mono ?_
  rintro e w' ⟨h1, h2⟩
  rw [h] at h2
  obtain ⟨v, a, b⟩ := h2
  exact ⟨v, a, b, h1⟩

set_option maxRecDepth 100000 in
set_option maxHeartbeats 1000000 in
theorem compile_long (s : ByteArray) (w : World) (hs : 500 < s.size) (hs2 : s.size ≤ 9223372036854775807) :
    Calls Tryz.prog 32 #[.string s] w fun e w' => CompPost (.error 1) w e w' := by
  go_enter Tryz.func32, Tryz.ntmps32
  go_wp2
  go_ret2
  exact ⟨Below.refl _ _, rfl⟩

set_option maxRecDepth 100000 in
set_option maxHeartbeats 1000000 in
theorem compile_2 (s : ByteArray) (w : World) (hs : s.size ≤ 500) (hS : splitB s = none) :
    Calls Tryz.prog 32 #[.string s] w fun e w' => CompPost (.error 2) w e w' := by
  have HS : Hid (splitB s = none) := hS
  clear hS
  go_enter Tryz.func32, Tryz.ntmps32
  go_wp2_with (first | (go_at_call 59; refine (split_no s _ hs HS).mono ?_; rintro e w1 ⟨rfl, hb1⟩))
  go_ret2
  exact ⟨hb1, rfl⟩

set_option maxRecDepth 100000 in
set_option maxHeartbeats 1000000 in
theorem compile_3 (s : ByteArray) (w : World) (hs : s.size ≤ 500) (l : List Tok) (hS : splitB s = some l) (hP : pProg l.length l.length l = none) :
    Calls Tryz.prog 32 #[.string s] w fun e w' => CompPost (.error 3) w e w' := by
  have HS : Hid (splitB s = some l) := hS
  have HP : Hid (pProg l.length l.length l = none) := hP
  clear hS hP
  go_enter Tryz.func32, Tryz.ntmps32
  go_wp2_with (first | (go_at_call 59; refine (split_yes s _ l hs HS).mono ?_; rintro e w1 ⟨fv, rfl, hown, hll, hb1⟩; obtain ⟨aof, capf, rfl⟩ := own_view hown) | (go_at_call 60; refine (parse_no _ _ l _ hown hll HP).mono ?_; rintro e w2 ⟨rfl, hb2⟩; have hB2 := bnext hb1 hb2 (Nat.le_refl _)))
  go_ret2
  exact ⟨hB2, rfl⟩

set_option maxRecDepth 100000 in
set_option maxHeartbeats 1000000 in
theorem compile_4 (s : ByteArray) (w : World) (hs : s.size ≤ 500) (l : List Tok) (cs : List PClause) (hm : cs.any manyC = true) (hS : splitB s = some l) (hP : pProg l.length l.length l = some cs) (hok : ∀ c ∈ cs, ClOK c) (hlen : cs.length ≤ 1000) :
    Calls Tryz.prog 32 #[.string s] w fun e w' => CompPost (.error 4) w e w' := by
  have HS : Hid (splitB s = some l) := hS
  have HP : Hid (pProg l.length l.length l = some cs) := hP
  have HOK : Hid (∀ c ∈ cs, ClOK c) := hok
  have HLEN : Hid (cs.length ≤ 1000) := hlen
  clear hS hP hok hlen
  go_enter Tryz.func32, Tryz.ntmps32
  go_wp2_with (first | (go_at_call 59; refine (split_yes s _ l hs HS).mono ?_; rintro e w1 ⟨fv, rfl, hown, hll, hb1⟩; obtain ⟨aof, capf, rfl⟩ := own_view hown) | (go_at_call 60; refine (parse_yes _ _ l _ cs hown hll HP).mono ?_; rintro e w2 ⟨cv, rfl, hcin, hb2⟩; obtain ⟨aoc, capc, rfl⟩ := hcin.shape; have hB2 := bnext hb1 hb2 (Nat.le_refl _)) | (go_at_call 61; refine (many_any _ _ cs hcin HOK.out HLEN.out).mono ?_; rintro e w3 ⟨rfl, hb3⟩; have hB3 := bnext hB2 hb3 (Nat.le_refl _); have hcin3 := hcin.below hb3))
  go_ret2
  exact ⟨hB3, rfl⟩

set_option maxRecDepth 100000 in
set_option maxHeartbeats 1000000 in
theorem compile_5 (s : ByteArray) (w : World) (hs : s.size ≤ 500) (l : List Tok) (cs : List PClause) (hm : cs.any manyC = false) (hS : splitB s = some l) (hP : pProg l.length l.length l = some cs) (hok : ∀ c ∈ cs, ClOK c) (hlen : cs.length ≤ 1000) (hlits : (cs.flatMap litsOf).length ≤ 1000) (hC : collB cs = none) :
    Calls Tryz.prog 32 #[.string s] w fun e w' => CompPost (.error 5) w e w' := by
  have HS : Hid (splitB s = some l) := hS
  have HP : Hid (pProg l.length l.length l = some cs) := hP
  have HOK : Hid (∀ c ∈ cs, ClOK c) := hok
  have HLEN : Hid (cs.length ≤ 1000) := hlen
  have HLITS : Hid ((cs.flatMap litsOf).length ≤ 1000) := hlits
  have HC : Hid (collB cs = none) := hC
  clear hS hP hok hlen hlits hC
  go_enter Tryz.func32, Tryz.ntmps32
  go_wp2_with (first | (go_at_call 59; refine (split_yes s _ l hs HS).mono ?_; rintro e w1 ⟨fv, rfl, hown, hll, hb1⟩; obtain ⟨aof, capf, rfl⟩ := own_view hown) | (go_at_call 60; refine (parse_yes _ _ l _ cs hown hll HP).mono ?_; rintro e w2 ⟨cv, rfl, hcin, hb2⟩; obtain ⟨aoc, capc, rfl⟩ := hcin.shape; have hB2 := bnext hb1 hb2 (Nat.le_refl _)) | (go_at_call 61; refine (many_any _ _ cs hcin HOK.out HLEN.out).mono ?_; rintro e w3 ⟨rfl, hb3⟩; have hB3 := bnext hB2 hb3 (Nat.le_refl _); have hcin3 := hcin.below hb3) | (go_at_call 62; refine (collect_no _ _ cs hcin3 HLITS.out HC).mono ?_; rintro e w4 ⟨rfl, hb4⟩; have hB4 := bnext hB3 hb4 (Nat.le_refl _); have hz4 := hB4.size))
  go_ret2
  exact ⟨(by repeat' (first | (with_reducible exact Below.refl _ _) | (with_reducible assumption) | (with_reducible refine bdrewN ?_ _) | (with_reducible refine Below.alloc ?_ ?_ _) | (with_reducible refine Below.drew ?_) | (with_reducible refine Below.setCell ?_ ?_ _) | go_size)), rfl⟩

set_option maxRecDepth 100000 in
set_option maxHeartbeats 1000000 in
theorem compile_6 (s : ByteArray) (w : World) (hs : s.size ≤ 500) (l : List Tok) (cs : List PClause) (t : List PEnt) (hm : cs.any manyC = false) (hsf : cs.all safeC = false) (hS : splitB s = some l) (hP : pProg l.length l.length l = some cs) (hok : ∀ c ∈ cs, ClOK c) (hlen : cs.length ≤ 1000) (hlits : (cs.flatMap litsOf).length ≤ 1000) (hC : collB cs = some t) :
    Calls Tryz.prog 32 #[.string s] w fun e w' => CompPost (.error 6) w e w' := by
  have HS : Hid (splitB s = some l) := hS
  have HP : Hid (pProg l.length l.length l = some cs) := hP
  have HOK : Hid (∀ c ∈ cs, ClOK c) := hok
  have HLEN : Hid (cs.length ≤ 1000) := hlen
  have HLITS : Hid ((cs.flatMap litsOf).length ≤ 1000) := hlits
  have HC : Hid (collB cs = some t) := hC
  clear hS hP hok hlen hlits hC
  go_enter Tryz.func32, Tryz.ntmps32
  go_wp2_with (first | (go_at_call 59; refine (split_yes s _ l hs HS).mono ?_; rintro e w1 ⟨fv, rfl, hown, hll, hb1⟩; obtain ⟨aof, capf, rfl⟩ := own_view hown) | (go_at_call 60; refine (parse_yes _ _ l _ cs hown hll HP).mono ?_; rintro e w2 ⟨cv, rfl, hcin, hb2⟩; obtain ⟨aoc, capc, rfl⟩ := hcin.shape; have hB2 := bnext hb1 hb2 (Nat.le_refl _)) | (go_at_call 61; refine (many_any _ _ cs hcin HOK.out HLEN.out).mono ?_; rintro e w3 ⟨rfl, hb3⟩; have hB3 := bnext hB2 hb3 (Nat.le_refl _); have hcin3 := hcin.below hb3) | (go_at_call 62; refine (collect_yes _ _ cs t hcin3 HLITS.out HC).mono ?_; rintro e w4 ⟨pv, rfl, hpo, hb4⟩; obtain ⟨aop, capp, rfl⟩ := own_view hpo; have hB4 := bnext hB3 hb4 (Nat.le_refl _); have hz4 := hB4.size; have hcin4 := hcin3.below hb4) | (go_at_call 63; refine (safe_any _ _ cs (by exact hcin4.below (by repeat' (first | (with_reducible exact Below.refl _ _) | (with_reducible assumption) | (with_reducible refine bdrewN ?_ _) | (with_reducible refine Below.alloc ?_ ?_ _) | (with_reducible refine Below.drew ?_) | (with_reducible refine Below.setCell ?_ ?_ _) | go_size))) HOK.out HLEN.out).mono ?_; rintro e w5 ⟨rfl, hb5⟩; have hq5 := (Below.refl w4.heap.size w4).alloc (Nat.le_refl _) (.cells #[.slice aop t.length capp] 127); have hbb5 := bnext hq5 hb5 (Nat.le_refl _); have hB5 := bnext hB4 hbb5 (Nat.le_refl _)))
  go_ret2
  exact ⟨hB5, rfl⟩

set_option maxRecDepth 100000 in
set_option maxHeartbeats 1000000 in
theorem compile_7 (s : ByteArray) (w : World) (hs : s.size ≤ 500) (l : List Tok) (cs : List PClause) (t : List PEnt) (hm : cs.any manyC = false) (hsf : cs.all safeC = true) (hst : (stratN (t.length + 1) t cs).2 = false) (hS : splitB s = some l) (hP : pProg l.length l.length l = some cs) (hok : ∀ c ∈ cs, ClOK c) (hlen : cs.length ≤ 1000) (hlits : (cs.flatMap litsOf).length ≤ 1000) (hC : collB cs = some t) (htl : t.length ≤ 1000) (htz : ∀ e ∈ t, e.stratum ≤ 0) :
    Calls Tryz.prog 32 #[.string s] w fun e w' => CompPost (.error 7) w e w' := by
  have HS : Hid (splitB s = some l) := hS
  have HP : Hid (pProg l.length l.length l = some cs) := hP
  have HOK : Hid (∀ c ∈ cs, ClOK c) := hok
  have HLEN : Hid (cs.length ≤ 1000) := hlen
  have HLITS : Hid ((cs.flatMap litsOf).length ≤ 1000) := hlits
  have HC : Hid (collB cs = some t) := hC
  have HTL : Hid (t.length ≤ 1000) := htl
  have HTZ : Hid (∀ e ∈ t, e.stratum ≤ 0) := htz
  clear hS hP hok hlen hlits hC htl htz
  go_enter Tryz.func32, Tryz.ntmps32
  go_wp2_with (first | (go_at_call 59; refine (split_yes s _ l hs HS).mono ?_; rintro e w1 ⟨fv, rfl, hown, hll, hb1⟩; obtain ⟨aof, capf, rfl⟩ := own_view hown) | (go_at_call 60; refine (parse_yes _ _ l _ cs hown hll HP).mono ?_; rintro e w2 ⟨cv, rfl, hcin, hb2⟩; obtain ⟨aoc, capc, rfl⟩ := hcin.shape; have hB2 := bnext hb1 hb2 (Nat.le_refl _)) | (go_at_call 61; refine (many_any _ _ cs hcin HOK.out HLEN.out).mono ?_; rintro e w3 ⟨rfl, hb3⟩; have hB3 := bnext hB2 hb3 (Nat.le_refl _); have hcin3 := hcin.below hb3) | (go_at_call 62; refine (collect_yes _ _ cs t hcin3 HLITS.out HC).mono ?_; rintro e w4 ⟨pv, rfl, hpo, hb4⟩; obtain ⟨aop, capp, rfl⟩ := own_view hpo; have hB4 := bnext hB3 hb4 (Nat.le_refl _); have hz4 := hB4.size; have hcin4 := hcin3.below hb4) | (go_at_call 63; refine (safe_any _ _ cs (by exact hcin4.below (by repeat' (first | (with_reducible exact Below.refl _ _) | (with_reducible assumption) | (with_reducible refine bdrewN ?_ _) | (with_reducible refine Below.alloc ?_ ?_ _) | (with_reducible refine Below.drew ?_) | (with_reducible refine Below.setCell ?_ ?_ _) | go_size))) HOK.out HLEN.out).mono ?_; rintro e w5 ⟨rfl, hb5⟩; have hq5 := (Below.refl w4.heap.size w4).alloc (Nat.le_refl _) (.cells #[.slice aop t.length capp] 127); have hbb5 := bnext hq5 hb5 (Nat.le_refl _); have hB5 := bnext hB4 hbb5 (Nat.le_refl _)) | (go_at_call 64; refine (stratify_any w3.heap.size _ w4.heap.size t _ cs w3 rfl (bnext hb4 hbb5 (Nat.le_refl _)) hcin3 HOK.out HLEN.out ⟨_, (Box.new w4 _ _).below hb5, owns_below hpo hbb5⟩ HTL.out HTZ.out).mono ?_; rintro e w6 ⟨rfl, hta6, hb6⟩; obtain ⟨ao6, cap6, hbx6, hown6⟩ := hta6.view; obtain ⟨hc6, hf6⟩ := hbx6.rules; have hB6 : Below w.heap.size w w6 := hB5.trans (hb6.mono (Nat.le_trans hB3.size (Nat.le_refl _))); have hz6 := hbx6.lt))
  go_ret2
  exact ⟨hB6, rfl⟩

set_option maxRecDepth 100000 in
set_option maxHeartbeats 1000000 in
theorem compile_0 (s : ByteArray) (w : World) (hs : s.size ≤ 500) (l : List Tok) (cs : List PClause) (t : List PEnt) (hm : cs.any manyC = false) (hsf : cs.all safeC = true) (hst : (stratN (t.length + 1) t cs).2 = true) (hS : splitB s = some l) (hP : pProg l.length l.length l = some cs) (hok : ∀ c ∈ cs, ClOK c) (hlen : cs.length ≤ 1000) (hlits : (cs.flatMap litsOf).length ≤ 1000) (hC : collB cs = some t) (htl : t.length ≤ 1000) (htz : ∀ e ∈ t, e.stratum ≤ 0) :
    Calls Tryz.prog 32 #[.string s] w fun e w' => CompPost (.ok (cs, (stratN (t.length + 1) t cs).1)) w e w' := by
  have HS : Hid (splitB s = some l) := hS
  have HP : Hid (pProg l.length l.length l = some cs) := hP
  have HOK : Hid (∀ c ∈ cs, ClOK c) := hok
  have HLEN : Hid (cs.length ≤ 1000) := hlen
  have HLITS : Hid ((cs.flatMap litsOf).length ≤ 1000) := hlits
  have HC : Hid (collB cs = some t) := hC
  have HTL : Hid (t.length ≤ 1000) := htl
  have HTZ : Hid (∀ e ∈ t, e.stratum ≤ 0) := htz
  clear hS hP hok hlen hlits hC htl htz
  go_enter Tryz.func32, Tryz.ntmps32
  go_wp2_with (first | (go_at_call 59; refine (split_yes s _ l hs HS).mono ?_; rintro e w1 ⟨fv, rfl, hown, hll, hb1⟩; obtain ⟨aof, capf, rfl⟩ := own_view hown) | (go_at_call 60; refine (parse_yes _ _ l _ cs hown hll HP).mono ?_; rintro e w2 ⟨cv, rfl, hcin, hb2⟩; obtain ⟨aoc, capc, rfl⟩ := hcin.shape; have hB2 := bnext hb1 hb2 (Nat.le_refl _)) | (go_at_call 61; refine (many_any _ _ cs hcin HOK.out HLEN.out).mono ?_; rintro e w3 ⟨rfl, hb3⟩; have hB3 := bnext hB2 hb3 (Nat.le_refl _); have hcin3 := hcin.below hb3) | (go_at_call 62; refine (collect_yes _ _ cs t hcin3 HLITS.out HC).mono ?_; rintro e w4 ⟨pv, rfl, hpo, hb4⟩; obtain ⟨aop, capp, rfl⟩ := own_view hpo; have hB4 := bnext hB3 hb4 (Nat.le_refl _); have hz4 := hB4.size; have hcin4 := hcin3.below hb4) | (go_at_call 63; refine (safe_any _ _ cs (by exact hcin4.below (by repeat' (first | (with_reducible exact Below.refl _ _) | (with_reducible assumption) | (with_reducible refine bdrewN ?_ _) | (with_reducible refine Below.alloc ?_ ?_ _) | (with_reducible refine Below.drew ?_) | (with_reducible refine Below.setCell ?_ ?_ _) | go_size))) HOK.out HLEN.out).mono ?_; rintro e w5 ⟨rfl, hb5⟩; have hq5 := (Below.refl w4.heap.size w4).alloc (Nat.le_refl _) (.cells #[.slice aop t.length capp] 127); have hbb5 := bnext hq5 hb5 (Nat.le_refl _); have hB5 := bnext hB4 hbb5 (Nat.le_refl _)) | (go_at_call 64; refine (stratify_any w3.heap.size _ w4.heap.size t _ cs w3 rfl (bnext hb4 hbb5 (Nat.le_refl _)) hcin3 HOK.out HLEN.out ⟨_, (Box.new w4 _ _).below hb5, owns_below hpo hbb5⟩ HTL.out HTZ.out).mono ?_; rintro e w6 ⟨rfl, hta6, hb6⟩; obtain ⟨ao6, cap6, hbx6, hown6⟩ := hta6.view; obtain ⟨hc6, hf6⟩ := hbx6.rules; have hB6 : Below w.heap.size w w6 := hB5.trans (hb6.mono (Nat.le_trans hB3.size (Nat.le_refl _))); have hz6 := hbx6.lt))
  have hz66 := hB6.size
  have hcin6 := hcin3.below ((bnext hb4 hbb5 (Nat.le_refl _)).trans hb6)
  go_ret2
  exact ⟨(by repeat' (first | (with_reducible exact Below.refl _ _) | (with_reducible assumption) | (with_reducible refine bdrewN ?_ _) | (with_reducible refine Below.alloc ?_ ?_ _) | (with_reducible refine Below.drew ?_) | (with_reducible refine Below.setCell ?_ ?_ _) | go_size)), w6.heap.size, _, _, rfl, Box.new _ _ _, (hcin6.low hb1.size).below ((Below.refl _ _).alloc (Nat.le_refl _) _), own_low (owns_below hown6 ((Below.refl _ _).alloc (Nat.le_refl _) _)) hB3.size, hz66⟩

theorem compile_any (s : ByteArray) (w : World) (hs2 : s.size ≤ 9223372036854775807) :
    Calls Tryz.prog 32 #[.string s] w fun e w' => CompPost (compB s) w e w' := by
  unfold compB
  split
  · rename_i hs; exact compile_long s w hs hs2
  · rename_i hs
    have hs' : s.size ≤ 500 := by omega
    split
    · rename_i hS; exact compile_2 s w hs' hS
    · rename_i l hS
      split
      · rename_i hP; exact compile_3 s w hs' l hS hP
      · rename_i cs hP
        have hl : l.length ≤ 500 := by
          have := splitB_len hS; omega
        have hw := pProg_w hP
        have hok := prW_ok (cs := cs) (by omega)
        have hlen : cs.length ≤ 1000 := by have := prW_len cs; omega
        have hlits : (cs.flatMap litsOf).length ≤ 1000 := by have := prW_lits cs; omega
        split
        · rename_i hm; exact compile_4 s w hs' l cs hm hS hP hok hlen
        · rename_i hm
          have hm' : cs.any manyC = false := by simpa using hm
          split
          · rename_i hC; exact compile_5 s w hs' l cs hm' hS hP hok hlen hlits hC
          · rename_i t hC
            have htl : t.length ≤ 1000 := by have := addO_len _ _ _ hC; simp only [List.length_nil] at this; omega
            have htz : ∀ e ∈ t, e.stratum ≤ 0 := addO_zero _ [] (by simp) t hC
            split
            · rename_i hsf
              split
              · rename_i hst; exact compile_0 s w hs' l cs t hm' hsf hst hS hP hok hlen hlits hC htl htz
              · rename_i hst; exact compile_7 s w hs' l cs t hm' hsf (by simpa using hst) hS hP hok hlen hlits hC htl htz
            · rename_i hsf; exact compile_6 s w hs' l cs t hm' (by simpa using hsf) hS hP hok hlen hlits hC

end Go.Proofs.YteampbddflhngaaGreat
