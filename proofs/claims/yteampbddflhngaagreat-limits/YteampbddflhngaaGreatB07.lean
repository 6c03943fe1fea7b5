import Derived.Test.YteampbddflhngaaGreatB06

namespace Go.Proofs.YteampbddflhngaaGreat
set_option maxRecDepth 100000
set_option maxHeartbeats 1000000
open Go.RowKit
variable {lo : Nat}
theorem CIn.cell {T : TypeId} {w : World} {ao : Option Addr} {n cap : Nat} {cs : List PClause} (h : CIn lo T w (.slice ao n cap) cs) (k : Nat) (hk : k < cs.length) : ∃ g ao2 cap2 ao3 cap3, ao = some ⟨g, 0, none⟩ /\ g < w.heap.size ∧
  w.cell? ⟨g, k * 4, none⟩ = some (.bool cs[k].head.neg) /\ w.cell? ⟨g, k * 4 + 1, none⟩ = some (.string cs[k].head.pred) /\ w.cell? ⟨g, k * 4 + 2, none⟩ = some (.slice ao2 cs[k].head.args.length cap2) ∧
  w.cell? ⟨g, k * 4 + 3, none⟩ = some (.slice ao3 cs[k].body.length cap3) /\ SIn lo w (.slice ao2 cs[k].head.args.length cap2) cs[k].head.args /\ LIn lo w (.slice ao3 cs[k].body.length cap3) cs[k].body := by
 obtain ⟨xs, ho, hc⟩ := h
 obtain ⟨g, cap', hv, _, hg, hcl⟩ := own_cells ho (by omega)
 simp at hv
 obtain ⟨va, vb, a1, a2, a3, a4, a5, a6⟩ := hc.at k cs[k] (by simp [hk])
 obtain ⟨ao2, cap2, rfl⟩ := a5.shape
 obtain ⟨ao3, cap3, rfl⟩ := a6.shape
 exact ⟨g, ao2, cap2, ao3, cap3, hv.1, hg, hcl _ _ a1, hcl _ _ a2, hcl _ _ a3, hcl _ _ a4, a5, a6⟩
def ClOK (c : PClause) : Prop := c.head.args.length + sumArgs c.body <= 1000 /\ c.body.length <= 1000
theorem many_any (w : World) (v : Value) (cs : List PClause) (hcs : CIn lo 171 w v cs) (hok : ∀ c ∈ cs, ClOK c) (hl : cs.length <= 1000) :
  Calls Tryz.prog 61 #[v] w fun e w' => e = .returned (.bool (cs.any manyC)) /\ Below w.heap.size w w' := by
 obtain ⟨ao, cap, rfl⟩ := hcs.shape
 have HOK : Hid (∀ c ∈ cs, ClOK c) := hok
 clear hok
 go_enter Tryz.func61, Tryz.ntmps61
 go_wp2
 go_loopw [7] (fun i wr => ∃ k : Nat, k <= cs.length /\ i = .int .i64 k /\ Below w.heap.size w wr /\ Hid (cs.any manyC = (cs.drop k).any manyC)) (fun i _ => cs.length - (intOf i).toNat)
 case atStart => exact ⟨0, Nat.zero_le _, rfl, Below.refl _ _, rfl⟩
 case round =>
  obtain ⟨k, hk, rfl, hbk, H⟩ := hrel
  have hszk := hbk.size
  by_cases hlt : k < cs.length
  · have hdr := any_drop cs manyC k hlt
   obtain ⟨g, ao2, cap2, ao3, cap3, rfl, hg, hc0, hc1, hc2, hc3, hsk, hlk⟩ := hcs.cell k hlt
   have hd0 := (hbk.cell (p := ⟨g, k * 4, none⟩) hg).trans hc0
   have hd1 := (hbk.cell (p := ⟨g, k * 4 + 1, none⟩) hg).trans hc1
   have hd2 := (hbk.cell (p := ⟨g, k * 4 + 2, none⟩) hg).trans hc2
   have hd3 := (hbk.cell (p := ⟨g, k * 4 + 3, none⟩) hg).trans hc3
   have hgr : g < wr.heap.size := by omega
   have hskr := hsk.below hbk
   have hlkr := hlk.below hbk
   obtain ⟨hk1, hk2⟩ := HOK.out _ (List.getElem_mem hlt)
   clear hc0 hc1 hc2 hc3 hsk hlk
   generalize cs[k] = a at *
   have HD : Hid (cs.any manyC = (manyC a || (cs.drop (k + 1)).any manyC)) := by rw [Hid, H.out, hdr]
   clear hdr H
   cases hM : manyC a with
   | true =>
    have HR : Hid (cs.any manyC = true) := by rw [Hid, HD.out, hM]; rfl
    clear HD
    go_wp2_with (first | (go_at_call 101; refine (manyIn_any _ a _ _ (by exact hskr.below (by repeat' (first | with_reducible (first | exact Below.refl _ _ | assumption | refine bdrewN ?_ _ | refine Below.alloc ?_ ?_ _ | refine Below.drew ?_ | refine Below.setCell ?_ ?_ _) | go_size))) (by exact hlkr.below (by repeat' (first | with_reducible (first | exact Below.refl _ _ | assumption | refine bdrewN ?_ _ | refine Below.alloc ?_ ?_ _ | refine Below.drew ?_ | refine Below.setCell ?_ ?_ _) | go_size))) hk1 hk2).mono ?_; rintro e w1 ⟨rfl, hb1⟩; have hB1 := bnext ((Below.refl wr.heap.size wr).alloc (Nat.le_refl _) _) hb1 (Nat.le_refl _)))
    go_ret
    exact ⟨by rw [HR.out]; rfl, bnext hbk hB1 (Nat.le_refl _)⟩
   | false =>
    have HR : Hid (cs.any manyC = (cs.drop (k + 1)).any manyC) := by rw [Hid, HD.out, hM]; rfl
    clear HD
    go_wp2_with (first | (go_at_call 101; refine (manyIn_any _ a _ _ (by exact hskr.below (by repeat' (first | with_reducible (first | exact Below.refl _ _ | assumption | refine bdrewN ?_ _ | refine Below.alloc ?_ ?_ _ | refine Below.drew ?_ | refine Below.setCell ?_ ?_ _) | go_size))) (by exact hlkr.below (by repeat' (first | with_reducible (first | exact Below.refl _ _ | assumption | refine bdrewN ?_ _ | refine Below.alloc ?_ ?_ _ | refine Below.drew ?_ | refine Below.setCell ?_ ?_ _) | go_size))) hk1 hk2).mono ?_; rintro e w1 ⟨rfl, hb1⟩; have hB1 := bnext ((Below.refl wr.heap.size wr).alloc (Nat.le_refl _) _) hb1 (Nat.le_refl _)))
    go_roundw
    case rel => exact ⟨k + 1, by omega, by go_num, bnext hbk hB1 (Nat.le_refl _), HR⟩
    case measure => simp [intOf]; omega
  · have HR : Hid (cs.any manyC = false) := by rw [Hid, H.out, List.drop_eq_nil_of_le (by omega)]; rfl
   clear H
   go_wp2
   go_ret
   exact ⟨by rw [HR.out]; rfl, hbk⟩
theorem safe_any (w : World) (v : Value) (cs : List PClause) (hcs : CIn lo 171 w v cs) (hok : ∀ c ∈ cs, ClOK c) (hl : cs.length <= 1000) :
  Calls Tryz.prog 63 #[v] w fun e w' => e = .returned (.bool (cs.all safeC)) /\ Below w.heap.size w w' := by
 obtain ⟨ao, cap, rfl⟩ := hcs.shape
 have HOK : Hid (∀ c ∈ cs, ClOK c) := hok
 clear hok
 go_enter Tryz.func63, Tryz.ntmps63
 go_wp2
 go_loopw [7] (fun i wr => ∃ k : Nat, k <= cs.length /\ i = .int .i64 k /\ Below w.heap.size w wr /\ Hid (cs.all safeC = (cs.drop k).all safeC)) (fun i _ => cs.length - (intOf i).toNat)
 case atStart => exact ⟨0, Nat.zero_le _, rfl, Below.refl _ _, rfl⟩
 case round =>
  obtain ⟨k, hk, rfl, hbk, H⟩ := hrel
  have hszk := hbk.size
  by_cases hlt : k < cs.length
  · have hdr := all_drop cs safeC k hlt
   obtain ⟨g, ao2, cap2, ao3, cap3, rfl, hg, hc0, hc1, hc2, hc3, hsk, hlk⟩ := hcs.cell k hlt
   have hd0 := (hbk.cell (p := ⟨g, k * 4, none⟩) hg).trans hc0
   have hd1 := (hbk.cell (p := ⟨g, k * 4 + 1, none⟩) hg).trans hc1
   have hd2 := (hbk.cell (p := ⟨g, k * 4 + 2, none⟩) hg).trans hc2
   have hd3 := (hbk.cell (p := ⟨g, k * 4 + 3, none⟩) hg).trans hc3
   have hgr : g < wr.heap.size := by omega
   have hskr := hsk.below hbk
   have hlkr := hlk.below hbk
   obtain ⟨hk1, hk2⟩ := HOK.out _ (List.getElem_mem hlt)
   clear hc0 hc1 hc2 hc3 hsk hlk
   generalize cs[k] = a at *
   have HD : Hid (cs.all safeC = (safeC a && (cs.drop (k + 1)).all safeC)) := by rw [Hid, H.out, hdr]
   clear hdr H
   cases hM : safeC a with
   | false =>
    have HR : Hid (cs.all safeC = false) := by rw [Hid, HD.out, hM]; rfl
    clear HD
    go_wp2_with (first | (go_at_call 103; refine (safeIn_any _ a _ _ (by exact hskr.below (by repeat' (first | with_reducible (first | exact Below.refl _ _ | assumption | refine bdrewN ?_ _ | refine Below.alloc ?_ ?_ _ | refine Below.drew ?_ | refine Below.setCell ?_ ?_ _) | go_size))) (by exact hlkr.below (by repeat' (first | with_reducible (first | exact Below.refl _ _ | assumption | refine bdrewN ?_ _ | refine Below.alloc ?_ ?_ _ | refine Below.drew ?_ | refine Below.setCell ?_ ?_ _) | go_size))) hk1 hk2).mono ?_; rintro e w1 ⟨rfl, hb1⟩; have hB1 := bnext ((Below.refl wr.heap.size wr).alloc (Nat.le_refl _) _) hb1 (Nat.le_refl _)))
    go_ret
    exact ⟨by rw [HR.out]; rfl, bnext hbk hB1 (Nat.le_refl _)⟩
   | true =>
    have HR : Hid (cs.all safeC = (cs.drop (k + 1)).all safeC) := by rw [Hid, HD.out, hM]; rfl
    clear HD
    go_wp2_with (first | (go_at_call 103; refine (safeIn_any _ a _ _ (by exact hskr.below (by repeat' (first | with_reducible (first | exact Below.refl _ _ | assumption | refine bdrewN ?_ _ | refine Below.alloc ?_ ?_ _ | refine Below.drew ?_ | refine Below.setCell ?_ ?_ _) | go_size))) (by exact hlkr.below (by repeat' (first | with_reducible (first | exact Below.refl _ _ | assumption | refine bdrewN ?_ _ | refine Below.alloc ?_ ?_ _ | refine Below.drew ?_ | refine Below.setCell ?_ ?_ _) | go_size))) hk1 hk2).mono ?_; rintro e w1 ⟨rfl, hb1⟩; have hB1 := bnext ((Below.refl wr.heap.size wr).alloc (Nat.le_refl _) _) hb1 (Nat.le_refl _)))
    go_roundw
    case rel => exact ⟨k + 1, by omega, by go_num, bnext hbk hB1 (Nat.le_refl _), HR⟩
    case measure => simp [intOf]; omega
  · have HR : Hid (cs.all safeC = true) := by rw [Hid, H.out, List.drop_eq_nil_of_le (by omega)]; rfl
   clear H
   go_wp2
   go_ret
   exact ⟨by rw [HR.out]; rfl, hbk⟩
end Go.Proofs.YteampbddflhngaaGreat

namespace Go.Proofs.YteampbddflhngaaGreat
set_option maxRecDepth 100000
set_option maxHeartbeats 1000000
open Go.RowKit
structure PEnt where
 name : ByteArray
 arity : Nat
 stratum : Nat
def ltB (a b : ByteArray) : Bool := Op.bytesLess a.toList b.toList
def placeB : List PEnt -> ByteArray -> Nat
 | [], _ => 0
 | e :: r, n => if ltB e.name n then placeB r n + 1 else 0
theorem placeB_le : ∀ (t : List PEnt) (n : ByteArray), placeB t n <= t.length
 | [], _ => Nat.le_refl _
 | e :: r, n => by have := placeB_le r n; unfold placeB; split <;> simp <;> omega
theorem placeB_drop : ∀ (t : List PEnt) (n : ByteArray) (k : Nat), (∀ j (hj : j < t.length), j < k -> ltB t[j].name n = true) -> k <= t.length -> placeB t n = k + placeB (t.drop k) n
 | [], n, k, _, hk => by simp at hk; subst hk; simp
 | e :: r, n, 0, _, _ => by simp
 | e :: r, n, k + 1, h, hk => by
  have h0 := h 0 (by simp) (by omega)
  simp at h0
  have := placeB_drop r n k (fun j hj hjk => by have := h (j + 1) (by simpa using hj) (by omega); simpa using this) (by simpa using hk)
  simp [placeB, h0]; omega
theorem placeB_stop (t : List PEnt) (n : ByteArray) (k : Nat) (h : ∀ j (hj : j < t.length), j < k -> ltB t[j].name n = true) (hk : k < t.length) (hn : ltB t[k].name n = false) : placeB t n = k := by
 rw [placeB_drop t n k h (by omega), List.drop_eq_getElem_cons hk, placeB, hn]; rfl
theorem placeB_end (t : List PEnt) (n : ByteArray) (h : ∀ j (hj : j < t.length), ltB t[j].name n = true) : placeB t n = t.length := by
 rw [placeB_drop t n t.length (fun j hj _ => h j hj) (Nat.le_refl _)]; simp [placeB]
def pcells (t : List PEnt) : List Value := t.flatMap fun e => [.string e.name, .int .i64 (e.arity : Int), .int .i64 (e.stratum : Int)]
theorem pcells_len (t : List PEnt) : (pcells t).length = t.length * 3 := by
 induction t with
 | nil => rfl
 | cons a t ih => simp [pcells] at ih ⊢; omega
theorem pcells_at : ∀ (t : List PEnt) (k : Nat) (hk : k < t.length), (pcells t)[k * 3]? = some (.string t[k].name) /\ (pcells t)[k * 3 + 1]? = some (.int .i64 (t[k].arity : Int)) /\ (pcells t)[k * 3 + 2]? = some (.int .i64 (t[k].stratum : Int))
 | [], k, hk => by simp at hk
 | e :: r, 0, _ => by simp [pcells]
 | e :: r, k + 1, hk => by
  have := pcells_at r k (by simpa using hk)
  simp only [pcells, List.flatMap_cons] at this ⊢
  rw [show (k + 1) * 3 = k * 3 + 1 + 1 + 1 from by omega, show k * 3 + 1 + 1 + 1 + 1 = k * 3 + 1 + 1 + 1 + 1 from rfl, show k * 3 + 1 + 1 + 1 + 2 = k * 3 + 2 + 1 + 1 + 1 from by omega]
  simpa using this
def TA (B : Nat) (w : World) (tb : Nat) (t : List PEnt) : Prop := ∃ pv, Box w tb #[pv] 127 /\ w.ownsRow B 221 3 pv t.length (pcells t)
theorem TA.below {B : Nat} {w w' : World} {tb : Nat} {t : List PEnt} (h : TA B w tb t) (hb : Below w.heap.size w w') : TA B w' tb t := by
 obtain ⟨nv, h1, h2⟩ := h; exact ⟨nv, h1.below hb, owns_below h2 hb⟩
theorem TA.view {B : Nat} {w : World} {tb : Nat} {t : List PEnt} (h : TA B w tb t) : ∃ ao cap, Box w tb #[.slice ao t.length cap] 127 /\ w.ownsRow B 221 3 (.slice ao t.length cap) t.length (pcells t) := by
 obtain ⟨nv, h1, h2⟩ := h
 obtain ⟨ao, cap, rfl⟩ := own_view h2
 exact ⟨ao, cap, h1, h2⟩
theorem ent_cell {B : Nat} {w : World} {ao : Option Addr} {n cap : Nat} {t : List PEnt} (h : w.ownsRow B 221 3 (.slice ao n cap) t.length (pcells t)) (k : Nat) (hk : k < t.length) : ∃ g, ao = some ⟨g, 0, none⟩ /\ g < w.heap.size /\ B <= g ∧
  w.cell? ⟨g, k * 3, none⟩ = some (.string t[k].name) /\ w.cell? ⟨g, k * 3 + 1, none⟩ = some (.int .i64 (t[k].arity : Int)) /\ w.cell? ⟨g, k * 3 + 2, none⟩ = some (.int .i64 (t[k].stratum : Int)) := by
 obtain ⟨g, cap', hv, hB, hg, hcl⟩ := own_cells h (by omega)
 simp at hv
 obtain ⟨a1, a2, a3⟩ := pcells_at t k hk
 exact ⟨g, hv.1, hg, hB, hcl _ _ a1, hcl _ _ a2, hcl _ _ a3⟩
theorem place_any (B : Nat) (w : World) (tb : Nat) (t : List PEnt) (n : ByteArray) (h : TA B w tb t) (hl : t.length <= 1000) :
  Calls Tryz.prog 126 #[.pointer (some ⟨tb, 0, none⟩), .string n] w fun e w' => e = .returned (.int .i64 (placeB t n)) /\ w' = w := by
 obtain ⟨ao, cap, hbx, hown⟩ := h.view
 obtain ⟨hc, hf⟩ := hbx.rules
 clear h
 go_enter Tryz.func126, Tryz.ntmps126
 go_wp2
 go_loop [5] (fun i => ∃ k : Nat, k <= t.length /\ i = .int .i64 k /\ Hid (∀ j (hj : j < t.length), j < k -> ltB t[j].name n = true)) (fun i => t.length - (intOf i).toNat)
 case atStart => exact ⟨0, Nat.zero_le _, rfl, fun j hj h => by omega⟩
 case round =>
  obtain ⟨k, hk, rfl, H⟩ := hrel
  by_cases hlt : k < t.length
  · obtain ⟨g, rfl, hg, _, hd0, _, _⟩ := ent_cell hown k hlt
   cases hL : ltB t[k].name n with
   | true =>
    have H2 : Hid (∀ j (hj : j < t.length), j < k + 1 -> ltB t[j].name n = true) := fun j hj h => by
     rcases Nat.lt_or_ge j k with h' | h'
     · exact H.out j hj h'
     · obtain rfl : j = k := by omega
      exact hL
    unfold ltB at hL
    generalize t[k].name = x at *
    clear H
    go_wp2
    go_round
    case rel => exact ⟨k + 1, by omega, by go_num, H2⟩
    case measure => simp [intOf]; omega
   | false =>
    have H2 : Hid (placeB t n = k) := placeB_stop t n k H.out hlt hL
    unfold ltB at hL
    generalize t[k].name = x at *
    clear H
    go_wp2
    go_ret
    exact ⟨by rw [H2.out]; rfl, rfl⟩
  · have H2 : Hid (placeB t n = k) := by
    have := placeB_end t n (fun j hj => H.out j hj (by omega)); unfold Hid; omega
   clear H
   go_wp2
   go_ret
   exact ⟨by rw [H2.out]; rfl, rfl⟩
end Go.Proofs.YteampbddflhngaaGreat

namespace Go.Proofs.YteampbddflhngaaGreat
set_option maxRecDepth 100000
set_option maxHeartbeats 1000000
open Go.RowKit
theorem own_free {w : World} {base : Nat} {e : TypeId} {size : Nat} {g n cap : Nat} {m : Nat} {xs : List Value} (h : w.ownsRow base e size (.slice (some ⟨g, 0, none⟩) n cap) m xs) (o : Nat) : w.frozen? ⟨g, o, none⟩ = false := by
 obtain ⟨_, ⟨hv, _⟩ | ⟨g', cap', cur, hv, _, hh, _⟩⟩ := h
 · cases hv
 · simp at hv; obtain ⟨rfl, _⟩ := hv; unfold World.frozen?; rw [hh]; simp
theorem own_set {w : World} {base : Nat} {e : TypeId} {size : Nat} {g n cap : Nat} {m : Nat} {xs : List Value} (h : w.ownsRow base e size (.slice (some ⟨g, 0, none⟩) n cap) m xs) (j : Nat) (_ : j < xs.length) (u : Value) :
  (w.setCell ⟨g, j, none⟩ u).ownsRow base e size (.slice (some ⟨g, 0, none⟩) n cap) m (xs.set j u) := by
 obtain ⟨hl, ⟨hv, _⟩ | ⟨g', cap', cur, hv, hg, hh, h1, h2, h3, h4⟩⟩ := h
 · cases hv
 · simp at hv; obtain ⟨rfl, rfl, rfl⟩ := hv
  refine ⟨by simpa using hl, Or.inr ⟨g, cap, cur.setIfInBounds j u, rfl, hg, ?_, h1, h2, by simpa using h3, ?_⟩⟩
  · simp [World.setCell, Array.getElem?_modify, hh]
  · rw [← h4]
   rw [Array.toList_setIfInBounds, List.take_set]
def entAt (t : List PEnt) (n : ByteArray) : Option PEnt := match t[placeB t n]? with
 | none => none
 | some e => if e.name = n then some e else none
theorem entAt_some {t : List PEnt} {n : ByteArray} {e : PEnt} (h : entAt t n = some e) : ∃ hk : placeB t n < t.length, t[placeB t n] = e /\ e.name = n := by
 unfold entAt at h
 split at h
 · cases h
 · rename_i e' he
  split at h <;> simp at h
  subst h
  obtain ⟨hk, he⟩ := List.getElem?_eq_some_iff.1 he
  exact ⟨hk, he, by assumption⟩
theorem entAt_none {t : List PEnt} {n : ByteArray} (h : entAt t n = none) : ¬ placeB t n < t.length ∨ ∃ hk : placeB t n < t.length, t[placeB t n].name ≠ n := by
 unfold entAt at h
 split at h
 · rename_i he; left; rw [List.getElem?_eq_none_iff] at he; omega
 · rename_i e he
  split at h <;> simp at h
  obtain ⟨hk, he⟩ := List.getElem?_eq_some_iff.1 he
  right; exact ⟨hk, by rw [he]; assumption⟩
theorem tfind_no (B : Nat) (w : World) (tb : Nat) (t : List PEnt) (n : ByteArray) (h : TA B w tb t) (hl : t.length <= 1000) (hn : entAt t n = none) :
  Calls Tryz.prog 77 #[.pointer (some ⟨tb, 0, none⟩), .string n] w fun e w' => e = .returned (.tuple #[.int .i64 0, .bool false]) /\ w' = w := by
 have hpl := place_any B w tb t n h hl
 obtain ⟨ao, cap, hbx, hown⟩ := h.view
 obtain ⟨hc, hf⟩ := hbx.rules
 have HPL : Hid (Calls Tryz.prog 126 #[.pointer (some ⟨tb, 0, none⟩), .string n] w fun e w' => e = .returned (.int .i64 (placeB t n)) /\ w' = w) := hpl
 have hle := placeB_le t n
 clear h hpl
 rcases entAt_none hn with hk | ⟨hk, hne⟩
 · clear hn
  generalize placeB t n = k at *
  go_enter Tryz.func77, Tryz.ntmps77
  go_wp2_with (first | (go_at_call 126; refine HPL.out.mono ?_; rintro e w' ⟨rfl, rfl⟩; clear HPL))
  go_ret2
  exact ⟨rfl, rfl⟩
 · obtain ⟨g, rfl, hg, _, hd0, _, _⟩ := ent_cell hown _ hk
  have he := seq_false hne
  clear hn hne
  generalize t[placeB t n].name = x at *
  generalize placeB t n = k at *
  go_enter Tryz.func77, Tryz.ntmps77
  go_wp2_with (first | (go_at_call 126; refine HPL.out.mono ?_; rintro e w' ⟨rfl, rfl⟩; clear HPL))
  go_ret2
  exact ⟨rfl, rfl⟩
theorem tfind_yes (B : Nat) (w : World) (tb : Nat) (t : List PEnt) (n : ByteArray) (e0 : PEnt) (h : TA B w tb t) (hl : t.length <= 1000) (hn : entAt t n = some e0) :
  Calls Tryz.prog 77 #[.pointer (some ⟨tb, 0, none⟩), .string n] w fun e w' => e = .returned (.tuple #[.int .i64 (placeB t n), .bool true]) /\ w' = w := by
 have hpl := place_any B w tb t n h hl
 obtain ⟨ao, cap, hbx, hown⟩ := h.view
 obtain ⟨hc, hf⟩ := hbx.rules
 have HPL : Hid (Calls Tryz.prog 126 #[.pointer (some ⟨tb, 0, none⟩), .string n] w fun e w' => e = .returned (.int .i64 (placeB t n)) /\ w' = w) := hpl
 have hle := placeB_le t n
 clear h hpl
 obtain ⟨hk, hee, hnn⟩ := entAt_some hn
 obtain ⟨g, rfl, hg, _, hd0, _, hd2⟩ := ent_cell hown _ hk
 rw [hee] at hd0 hd2
 have he := seq_true hnn
 clear hn hnn hee
 generalize e0.name = x at *
 generalize placeB t n = k at *
 go_enter Tryz.func77, Tryz.ntmps77
 go_wp2_with (first | (go_at_call 126; refine HPL.out.mono ?_; rintro e w' ⟨rfl, rfl⟩; clear HPL))
 go_ret2
 exact ⟨rfl, rfl⟩
theorem tstratum_no (B : Nat) (w : World) (tb : Nat) (t : List PEnt) (n : ByteArray) (h : TA B w tb t) (hl : t.length <= 1000) (hn : entAt t n = none) :
  Calls Tryz.prog 159 #[.pointer (some ⟨tb, 0, none⟩), .string n] w fun e w' => e = .returned (.tuple #[.int .i64 0, .bool false]) /\ w' = w := by
 have HF : Hid (Calls Tryz.prog 77 #[.pointer (some ⟨tb, 0, none⟩), .string n] w fun e w' => e = .returned (.tuple #[.int .i64 0, .bool false]) /\ w' = w) := tfind_no B w tb t n h hl hn
 clear h hn hl
 go_enter Tryz.func159, Tryz.ntmps159
 go_wp2_with (first | (go_at_call 77; refine HF.out.mono ?_; rintro e w' ⟨rfl, rfl⟩; clear HF))
 go_ret2
 exact ⟨rfl, rfl⟩
theorem tstratum_yes (B : Nat) (w : World) (tb : Nat) (t : List PEnt) (n : ByteArray) (e0 : PEnt) (h : TA B w tb t) (hl : t.length <= 1000) (hn : entAt t n = some e0) :
  Calls Tryz.prog 159 #[.pointer (some ⟨tb, 0, none⟩), .string n] w fun e w' => e = .returned (.tuple #[.int .i64 e0.stratum, .bool true]) /\ w' = w := by
 have HF : Hid (Calls Tryz.prog 77 #[.pointer (some ⟨tb, 0, none⟩), .string n] w fun e w' => e = .returned (.tuple #[.int .i64 (placeB t n), .bool true]) /\ w' = w) := tfind_yes B w tb t n e0 h hl hn
 obtain ⟨ao, cap, hbx, hown⟩ := h.view
 obtain ⟨hc, hf⟩ := hbx.rules
 obtain ⟨hk, hee, hnn⟩ := entAt_some hn
 obtain ⟨g, rfl, hg, _, hd0, _, hd2⟩ := ent_cell hown _ hk
 rw [hee] at hd2
 clear hn hnn hee h hd0
 generalize placeB t n = k at *
 go_enter Tryz.func159, Tryz.ntmps159
 go_wp2_with (first | (go_at_call 77; refine HF.out.mono ?_; rintro e w' ⟨rfl, rfl⟩; clear HF))
 go_ret2
 exact ⟨rfl, rfl⟩
theorem pcells_set : ∀ (t : List PEnt) (k : Nat) (e : PEnt) (hk : k < t.length), t[k].name = e.name -> t[k].arity = e.arity -> (pcells t).set (k * 3 + 2) (.int .i64 (e.stratum : Int)) = pcells (t.set k e)
 | [], k, _, hk, _, _ => by simp at hk
 | a :: r, 0, e, _, h1, h2 => by simp at h1 h2; simp [pcells, h1, h2]
 | a :: r, k + 1, e, hk, h1, h2 => by
  have := pcells_set r k e (by simpa using hk) (by simpa using h1) (by simpa using h2)
  simp only [pcells, List.flatMap_cons, List.set_cons_succ] at this ⊢
  rw [show (k + 1) * 3 + 2 = k * 3 + 2 + 1 + 1 + 1 from by omega]
  simpa using this
def raiseB (t : List PEnt) (n : ByteArray) (s : Nat) : List PEnt × Bool := match entAt t n with
 | none => (t, false)
 | some e => if s <= e.stratum then (t, false) else (t.set (placeB t n) { e with stratum := s }, true)
theorem raiseB_len (t : List PEnt) (n : ByteArray) (s : Nat) : (raiseB t n s).1.length = t.length := by
 unfold raiseB; split
 · rfl
 · split <;> simp
theorem raise_any (B : Nat) (w : World) (tb : Nat) (t : List PEnt) (n : ByteArray) (s : Nat) (h : TA B w tb t) (hl : t.length <= 1000) (_ : s <= 3000000) :
  Calls Tryz.prog 151 #[.pointer (some ⟨tb, 0, none⟩), .string n, .int .i64 s] w fun e w' => e = .returned (.bool (raiseB t n s).2) /\ TA B w' tb (raiseB t n s).1 /\ Below B w w' := by
 obtain ⟨ao, cap, hbx, hown⟩ := h.view
 obtain ⟨hc, hf⟩ := hbx.rules
 have hle := placeB_le t n
 have HT : Hid (TA B w tb t) := h
 cases hn : entAt t n with
 | none =>
  have HR : Hid (raiseB t n s = (t, false)) := by unfold Hid raiseB; rw [hn]
  have HF : Hid (Calls Tryz.prog 77 #[.pointer (some ⟨tb, 0, none⟩), .string n] w fun e w' => e = .returned (.tuple #[.int .i64 0, .bool false]) /\ w' = w) := tfind_no B w tb t n h hl hn
  rw [HR.out]
  clear hn HR h
  go_enter Tryz.func151, Tryz.ntmps151
  go_wp2_with (first | (go_at_call 77; refine HF.out.mono ?_; rintro e w' ⟨rfl, rfl⟩; clear HF))
  go_ret
  exact ⟨rfl, HT, Below.refl _ _⟩
 | some e0 =>
  have HF : Hid (Calls Tryz.prog 77 #[.pointer (some ⟨tb, 0, none⟩), .string n] w fun e w' => e = .returned (.tuple #[.int .i64 (placeB t n), .bool true]) /\ w' = w) := tfind_yes B w tb t n e0 h hl hn
  obtain ⟨hk, hee, hnn⟩ := entAt_some hn
  obtain ⟨g, rfl, hg, hBg, hd0, _, hd2⟩ := ent_cell hown _ hk
  have hfz := own_free hown
  by_cases hse : s <= e0.stratum
  · have HR : Hid (raiseB t n s = (t, false)) := by unfold Hid raiseB; rw [hn]; simp [hse]
   rw [HR.out]
   rw [hee] at hd0 hd2
   clear hn hnn HR hee h hd0
   generalize placeB t n = k at *
   go_enter Tryz.func151, Tryz.ntmps151
   go_wp2_with (first | (go_at_call 77; refine HF.out.mono ?_; rintro e w' ⟨rfl, rfl⟩; clear HF))
   go_ret
   exact ⟨rfl, HT, Below.refl _ _⟩
  · have HR : Hid (raiseB t n s = (t.set (placeB t n) { e0 with stratum := s }, true)) := by unfold Hid raiseB; rw [hn]; simp [hse]
   rw [HR.out]
   have hset := own_set hown (placeB t n * 3 + 2) (by rw [pcells_len]; omega) (.int .i64 (s : Int))
   rw [pcells_set t (placeB t n) { e0 with stratum := s } hk (by rw [hee]) (by rw [hee])] at hset
   have hneg : tb ≠ g := by
    intro hgg; subst hgg
    obtain ⟨_, ⟨hv, _⟩ | ⟨g', cap', cur, hv, _, hh, _⟩⟩ := hown
    · cases hv
    · simp at hv; obtain ⟨rfl, _⟩ := hv; unfold Box at hbx; rw [hh] at hbx; simp at hbx
   have hbx2 := hbx.set_ne hneg (placeB t n * 3 + 2) (.int .i64 (s : Int))
   have HFT : Hid (TA B (w.setCell ⟨g, placeB t n * 3 + 2, none⟩ (.int .i64 (s : Int))) tb (t.set (placeB t n) { e0 with stratum := s })) := ⟨_, hbx2, by simpa using hset⟩
   have hse' : e0.stratum < s := by omega
   rw [hee] at hd0 hd2
   clear hn hnn HR hee hset hbx2 hse h hd0
   generalize t.set (placeB t n) { e0 with stratum := s } = t2 at *
   generalize placeB t n = k at *
   go_enter Tryz.func151, Tryz.ntmps151
   go_wp2_with (first | (go_at_call 77; refine HF.out.mono ?_; rintro e w' ⟨rfl, rfl⟩; clear HF))
   go_ret
   exact ⟨rfl, HFT, (Below.refl _ _).setCell hBg _⟩
end Go.Proofs.YteampbddflhngaaGreat
