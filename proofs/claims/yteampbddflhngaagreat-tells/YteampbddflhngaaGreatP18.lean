import Derived.Test.YteampbddflhngaaGreatP15
import Derived.Deep.RegionWith

/- Walks: clauses.copyLit, clauses.Clause.Lits. -/
namespace Go.Proofs.YteampbddflhngaaGreat
open Go.RowKit
variable {lo : Nat}

set_option maxRecDepth 100000 in
set_option maxHeartbeats 2000000 in
theorem copyLit_any (w : World) (l : PLit) (va : Value) (hs : SIn lo w va l.args) (hl : l.args.length ≤ 1000) :
    Calls Tryz.prog 133 #[.agg #[.bool l.neg, .string l.pred, va]] w fun e w' => ∃ g, w.heap.size ≤ g ∧ e = .returned (.agg #[.bool l.neg, .string l.pred, .slice (some ⟨g, 0, none⟩) l.args.length l.args.length]) ∧ SIn w.heap.size w' (.slice (some ⟨g, 0, none⟩) l.args.length l.args.length) l.args ∧ Below w.heap.size w w' := by
  obtain ⟨ao, cap, rfl⟩ := hs.shape
  have HC : Hid (∀ W, Below w.heap.size w W → Calls Tryz.prog 170 #[.slice ao l.args.length cap] W fun e w' => ∃ g, W.heap.size ≤ g ∧ e = .returned (.slice (some ⟨g, 0, none⟩) l.args.length l.args.length) ∧ SIn W.heap.size w' (.slice (some ⟨g, 0, none⟩) l.args.length l.args.length) l.args ∧ Below W.heap.size W w') := fun W hW => copyStrings_any W _ l.args (hs.below hW) hl
  clear hs
  go_enter Tryz.func133, Tryz.ntmps133
  go_wp2
  generalize hW0 : (w.alloc (.cells #[.bool l.neg, .string l.pred, .slice ao l.args.length cap] 90)).alloc (.cells #[.bool false, .string { data := #[] }, .slice none 0 0] 90) = w0
  have hA : Box w0 w.heap.size #[.bool l.neg, .string l.pred, .slice ao l.args.length cap] 90 := by rw [← hW0]; exact (Box.new w _ _).below ((Below.refl _ _).alloc (Nat.le_refl _) _)
  have hR : Box w0 (w.heap.size + 1) #[.bool false, .string { data := #[] }, .slice none 0 0] 90 := by rw [← hW0]; exact Box.newAt _ _ _ _ (by simp)
  have hB0 : Below w.heap.size w w0 := by rw [← hW0]; exact (by repeat' (first | (with_reducible exact Below.refl _ _) | (with_reducible assumption) | (with_reducible refine bdrewN ?_ _) | (with_reducible refine Below.alloc ?_ ?_ _) | (with_reducible refine Below.drew ?_) | (with_reducible refine Below.setCell ?_ ?_ _) | go_size))
  clear hW0
  obtain ⟨hAc, hAf⟩ := hA.rules
  obtain ⟨hRc, hRf⟩ := hR.rules
  have hAl := hA.lt
  have hRl := hR.lt
  go_region_with (go_at_call 170; refine (HC.out _ (by exact bdrewN hB0 1)).mono ?_; rintro e w1 ⟨g, hg, rfl, hs1, hb1⟩; have hA1 := (Box.drew hA).below hb1; have hR1 := (Box.drew hR).below hb1; obtain ⟨hA1c, hA1f⟩ := hA1.rules; obtain ⟨hR1c, hR1f⟩ := hR1.rules; have hA1l := hA1.lt; have hR1l := hR1.lt)
  all_goals
    go_wp2
    have hz1 := hb1.size
    have hB1 : Below w.heap.size w w1 := bnext (bdrewN hB0 1) hb1 (Nat.le_refl _)
    have hg1 : w0.heap.size ≤ g := hg
    have hz0 := hB0.size
    exact bodyPost_ret (v := .agg #[.bool l.neg, .string l.pred, .slice (some ⟨g, 0, none⟩) l.args.length l.args.length]) (by simp [results, Tryz.results133, go_sem, hR1c]) rfl ⟨g, by omega, rfl, (hs1.low (show w.heap.size ≤ w0.heap.size from hz0)).but (r := w.heap.size + 1) ((((But.refl _ _).setCell _ _).setCell _ _).setCell _ _) hR1 (by decide), (((hB1.setCell (by simp) _).setCell (by simp) _).setCell (by simp) _)⟩

def lcell (t : Value × Value × Value) : List Value := [t.1, t.2.1, t.2.2]
def flat3 (ys : List (Value × Value × Value)) : List Value := ys.flatMap lcell
theorem flat3_len (ys : List (Value × Value × Value)) : (flat3 ys).length = ys.length * 3 := by
  induction ys with
  | nil => rfl
  | cons a l ih => simp [flat3, lcell] at ih ⊢; omega
theorem flat3_set : ∀ (ys : List (Value × Value × Value)) (k : Nat) (_ : k < ys.length) (a b c : Value), (((flat3 ys).set (k * 3) a).set (k * 3 + 1) b).set (k * 3 + 2) c = flat3 (ys.set k (a, b, c))
  | [], k, hk, _, _, _ => by simp at hk
  | y :: r, 0, _, a, b, c => by simp [flat3, lcell]
  | y :: r, k + 1, hk, a, b, c => by
    have := flat3_set r k (by simpa using hk) a b c
    simp only [flat3, List.flatMap_cons, List.set_cons_succ, lcell] at this ⊢
    rw [show (k + 1) * 3 = k * 3 + 1 + 1 + 1 from by omega, show k * 3 + 1 + 1 + 1 + 1 = k * 3 + 1 + 1 + 1 + 1 from rfl, show k * 3 + 1 + 1 + 1 + 2 = k * 3 + 2 + 1 + 1 + 1 from by omega]
    simpa using this
theorem flat3_at : ∀ (ys : List (Value × Value × Value)) (k : Nat) (hk : k < ys.length), (flat3 ys)[k * 3]? = some ys[k].1 ∧ (flat3 ys)[k * 3 + 1]? = some ys[k].2.1 ∧ (flat3 ys)[k * 3 + 2]? = some ys[k].2.2
  | [], k, hk => by simp at hk
  | y :: r, 0, _ => by simp [flat3, lcell]
  | y :: r, k + 1, hk => by
    have := flat3_at r k (by simpa using hk)
    simp only [flat3, List.flatMap_cons, lcell] at this ⊢
    rw [show (k + 1) * 3 = k * 3 + 1 + 1 + 1 from by omega, show k * 3 + 1 + 1 + 1 + 1 = k * 3 + 1 + 1 + 1 + 1 from rfl, show k * 3 + 1 + 1 + 1 + 2 = k * 3 + 2 + 1 + 1 + 1 from by omega]
    simpa using this
theorem made3_at (z0 z1 z2 : Value) : ∀ (n i : Nat), i < n * 3 → (madeCells #[z0, z1, z2] (n * 3))[i]? = (flat3 (List.replicate n (z0, z1, z2)))[i]? := by
  intro n i hi
  obtain ⟨k, j, hj, rfl⟩ : ∃ k j, j < 3 ∧ i = k * 3 + j := ⟨i / 3, i % 3, Nat.mod_lt _ (by decide), by omega⟩
  have hk : k < n := by omega
  obtain ⟨h0, h1, h2⟩ := flat3_at (List.replicate n (z0, z1, z2)) k (by simpa using hk)
  simp only [List.getElem_replicate] at h0 h1 h2
  have hm : (k * 3 + j) % 3 = j := by omega
  simp only [madeCells, Array.getElem?_map, Array.getElem?_range]
  rw [if_pos hi]
  simp only [Option.map_some]
  have h3 : (#[z0, z1, z2] : Array Value).size = 3 := rfl
  rw [h3, hm]
  match j, hj with
  | 0, _ => rw [Nat.add_zero, h0]; rfl
  | 1, _ => rw [h1]; rfl
  | 2, _ => rw [h2]; rfl
theorem own_make3 (w : World) (n : Nat) (T : TypeId) (z0 z1 z2 : Value) (hn : n ≤ maxLen) : (w.alloc (.cells (madeCells #[z0, z1, z2] (n * 3)) T)).ownsRow w.heap.size T 3 (.slice (some ⟨w.heap.size, 0, none⟩) n n) n (flat3 (List.replicate n (z0, z1, z2))) := by
  refine ⟨by rw [flat3_len]; simp, Or.inr ⟨w.heap.size, n, madeCells #[z0, z1, z2] (n * 3), rfl, Nat.le_refl _, ?_, Nat.le_refl _, hn, by rw [size_madeCells], ?_⟩⟩
  · show (w.heap.push _)[w.heap.size]? = _
    simp
  · apply List.ext_getElem?
    intro i
    by_cases hi : i < n * 3
    · rw [List.getElem?_take, if_pos hi, Array.getElem?_toList, made3_at _ _ _ n i hi]
    · rw [List.getElem?_take, if_neg hi, List.getElem?_eq_none (by rw [flat3_len]; simp; omega)]

theorem own_set3 {w : World} {base : Nat} {e : TypeId} {g n cap m : Nat} {ys : List (Value × Value × Value)} (h : w.ownsRow base e 3 (.slice (some ⟨g, 0, none⟩) n cap) m (flat3 ys)) (k : Nat) (hk : k < ys.length) (a b c : Value) :
    (((w.setCell ⟨g, k * 3, none⟩ a).setCell ⟨g, k * 3 + 1, none⟩ b).setCell ⟨g, k * 3 + 2, none⟩ c).ownsRow base e 3 (.slice (some ⟨g, 0, none⟩) n cap) m (flat3 (ys.set k (a, b, c))) := by
  have hl := flat3_len ys
  have h1 := own_set h (k * 3) (by omega) a
  have h2 := own_set h1 (k * 3 + 1) (by simp; omega) b
  have h3 := own_set h2 (k * 3 + 2) (by simp; omega) c
  rw [flat3_set ys k hk] at h3
  exact h3
theorem own_cell3 {w : World} {base : Nat} {e : TypeId} {g n cap m : Nat} {ys : List (Value × Value × Value)} (h : w.ownsRow base e 3 (.slice (some ⟨g, 0, none⟩) n cap) m (flat3 ys)) (k : Nat) (hk : k < ys.length) :
    g < w.heap.size ∧ w.cell? ⟨g, k * 3, none⟩ = some ys[k].1 ∧ w.cell? ⟨g, k * 3 + 1, none⟩ = some ys[k].2.1 ∧ w.cell? ⟨g, k * 3 + 2, none⟩ = some ys[k].2.2 := by
  have hm : 0 < m := by have := h.1; rw [flat3_len] at this; omega
  obtain ⟨g', cap', hv, _, hg, hc⟩ := own_cells h hm
  simp at hv
  obtain ⟨rfl, _⟩ := hv
  obtain ⟨h0, h1, h2⟩ := flat3_at ys k hk
  exact ⟨hg, hc _ _ h0, hc _ _ h1, hc _ _ h2⟩
theorem own_block {w : World} {base : Nat} {e : TypeId} {size g n cap m : Nat} {xs : List Value} (h : w.ownsRow base e size (.slice (some ⟨g, 0, none⟩) n cap) m xs) : ∃ cur, w.heap[g]? = some (.cells cur e (0, 0)) := by
  obtain ⟨_, ⟨hv, _⟩ | ⟨g', cap', cur, hv, _, hh, _⟩⟩ := h
  · cases hv
  · simp at hv; obtain ⟨rfl, _⟩ := hv; exact ⟨cur, hh⟩
def lit3 (l : PLit) (g : Nat) : Value × Value × Value := (.bool l.neg, .string l.pred, .slice (some ⟨g, 0, none⟩) l.args.length l.args.length)
/-- Literals that were copied: of each its terms' block. -/
def Copies (lo : Nat) (w : World) (ls : List PLit) (gs : List Nat) : Prop := gs.length = ls.length ∧ gs.Pairwise (· < ·) ∧ ∀ k (h1 : k < ls.length) (h2 : k < gs.length), lo ≤ gs[k] ∧ SIn lo w (.slice (some ⟨gs[k], 0, none⟩) ls[k].args.length ls[k].args.length) ls[k].args
theorem Copies.nil (w : World) : Copies lo w [] [] := ⟨rfl, List.Pairwise.nil, fun k h1 => by simp at h1⟩
theorem Copies.mono {w w' : World} {ls : List PLit} {gs : List Nat} (h : Copies lo w ls gs) (hm : ∀ v l, SIn lo w v l → SIn lo w' v l) : Copies lo w' ls gs := ⟨h.1, h.2.1, fun k h1 h2 => ⟨(h.2.2 k h1 h2).1, hm _ _ (h.2.2 k h1 h2).2⟩⟩
theorem Copies.lt {w : World} {ls : List PLit} {gs : List Nat} (h : Copies lo w ls gs) : ∀ g ∈ gs, g < w.heap.size := by
  intro g hg
  obtain ⟨k, hk, rfl⟩ := List.getElem_of_mem hg
  obtain ⟨cur, hh⟩ := own_block (h.2.2 k (by have := h.1; omega) hk).2
  exact (Array.getElem?_eq_some_iff.1 hh).1
theorem Copies.snoc {w : World} {ls : List PLit} {gs : List Nat} {l : PLit} {g : Nat} (h : Copies lo w ls gs) (hlt : ∀ x ∈ gs, x < g) (hg : lo ≤ g) (hs : SIn lo w (.slice (some ⟨g, 0, none⟩) l.args.length l.args.length) l.args) : Copies lo w (ls ++ [l]) (gs ++ [g]) := by
  obtain ⟨h1, h2, h3⟩ := h
  refine ⟨by simp [h1], ?_, ?_⟩
  · rw [List.pairwise_append]
    exact ⟨h2, List.pairwise_singleton _ _, fun a ha b hb => by simp at hb; subst hb; exact hlt a ha⟩
  · intro k hk1 hk2
    simp at hk1
    by_cases hk : k < ls.length
    · have := h3 k hk (by omega)
      simpa [List.getElem_append, hk, h1] using this
    · obtain rfl : k = ls.length := by omega
      have e1 : (ls ++ [l])[ls.length] = l := by simp
      have e2 : (gs ++ [g])[ls.length] = g := by simp [← h1]
      rw [e1, e2]
      exact ⟨hg, hs⟩

theorem trip_set {ls : List PLit} {gs : List Nat} (h : gs.length = ls.length) (l : PLit) (g m : Nat) (z : Value × Value × Value) : (List.zipWith lit3 ls gs ++ List.replicate (m + 1) z).set ls.length (lit3 l g) = List.zipWith lit3 (ls ++ [l]) (gs ++ [g]) ++ List.replicate m z := by
  have hz : (List.zipWith lit3 ls gs).length = ls.length := by simp [h]
  rw [List.set_append_right _ _ (by omega), hz, Nat.sub_self, List.zipWith_append h.symm, List.append_assoc]
  rfl
theorem SIn.sets {g : Nat} {w : World} {v : Value} {l : List ByteArray} (h : SIn lo w v l) {base n cap m : Nat} {xs : List Value} (hr : w.ownsRow base 90 3 (.slice (some ⟨g, 0, none⟩) n cap) m xs) (i j k : Nat) (a b c : Value) : SIn lo (((w.setCell ⟨g, i, none⟩ a).setCell ⟨g, j, none⟩ b).setCell ⟨g, k, none⟩ c) v l := by
  obtain ⟨cur, hh⟩ := own_block hr
  exact h.but ((((But.refl g w).setCell _ _).setCell _ _).setCell _ _) hh (by decide)
end Go.Proofs.YteampbddflhngaaGreat

/- Walks: clauses.Clause.Lits. -/
namespace Go.Proofs.YteampbddflhngaaGreat
open Go.RowKit
variable {lo : Nat}

def zero3 : Value × Value × Value := (.bool false, .string ByteArray.empty, .slice none 0 0)
def LitsPost (c : PClause) (w : World) (e : Ending) (w' : World) : Prop := ∃ g gs, w.heap.size ≤ g ∧ e = .returned (.slice (some ⟨g, 0, none⟩) (1 + c.body.length) (1 + c.body.length)) ∧ w'.ownsRow w.heap.size 90 3 (.slice (some ⟨g, 0, none⟩) (1 + c.body.length) (1 + c.body.length)) (1 + c.body.length) (flat3 (List.zipWith lit3 (litsOf c) gs)) ∧ Copies w.heap.size w' (litsOf c) gs ∧ Below w.heap.size w w'

set_option maxRecDepth 100000 in
set_option maxHeartbeats 2000000 in
theorem lits_any (w : World) (c : PClause) (va vb : Value) (hs : SIn lo w va c.head.args) (hb : LIn lo w vb c.body) (hf : ClFine c) :
    Calls Tryz.prog 88 #[.agg #[.bool c.head.neg, .string c.head.pred, va, vb]] w fun e w' => LitsPost c w e w' := by
  obtain ⟨i0, hi, hz0, hzs, hzb⟩ := info_parts Tryz.infoLit
  obtain ⟨ao, cap, rfl⟩ := hs.shape
  obtain ⟨aob, capb, rfl⟩ := hb.shape
  obtain ⟨hf1, hf2⟩ := hf
  have hmk := fun W : World => run_make (P := Tryz.prog) (w := W) 91 90 i0 _ Tryz.underlying91 hi hz0 .i64 .i64 (1 + (c.body.length : Int)) (1 + (c.body.length : Int)) (by omega) (Int.le_refl _) (by rw [hzb]; omega) (by omega)
  rw [hzs] at hmk
  have HH : Hid (∀ W, Below w.heap.size w W → Calls Tryz.prog 133 #[.agg #[.bool c.head.neg, .string c.head.pred, .slice ao c.head.args.length cap]] W fun e w' => ∃ g, W.heap.size ≤ g ∧ e = .returned (.agg #[.bool c.head.neg, .string c.head.pred, .slice (some ⟨g, 0, none⟩) c.head.args.length c.head.args.length]) ∧ SIn W.heap.size w' (.slice (some ⟨g, 0, none⟩) c.head.args.length c.head.args.length) c.head.args ∧ Below W.heap.size W w') := fun W hW => copyLit_any W c.head _ (hs.below hW) (hf1 c.head (by simp [litsOf])).2.2.1
  go_enter Tryz.func88, Tryz.ntmps88
  go_wp2_with (first | (go_at_call 133; refine (HH.out _ (by exact (by repeat' (first | (with_reducible exact Below.refl _ _) | (with_reducible assumption) | (with_reducible refine bdrewN ?_ _) | (with_reducible refine Below.alloc ?_ ?_ _) | (with_reducible refine Below.drew ?_) | (with_reducible refine Below.setCell ?_ ?_ _) | go_size)))).mono ?_; rintro e w1 ⟨g, hg, rfl, hs1, hb1⟩; have hro1 := owns_below (own_make3 (w.alloc (.cells #[.bool c.head.neg, .string c.head.pred, .slice ao c.head.args.length cap, .slice aob c.body.length capb] 171)) (1 + c.body.length) 90 (.bool false) (.string ByteArray.empty) (.slice none 0 0) (by unfold maxLen; omega)) hb1; simp only [World.size_alloc] at hro1; obtain ⟨hl1, hq0, hq1, hq2⟩ := own_cell3 hro1 0 (by simp; omega); simp only [Nat.zero_mul, Nat.zero_add] at hq0 hq1 hq2; have hfz1 := own_free hro1; have hbx1 := ((Box.new w #[.bool c.head.neg, .string c.head.pred, .slice ao c.head.args.length cap, .slice aob c.body.length capb] 171).below ((Below.refl _ _).alloc (Nat.le_refl _) (.cells (madeCells #[.bool false, .string ByteArray.empty, .slice none 0 0] ((1 + c.body.length) * 3)) 90))).below hb1; obtain ⟨hbc1, hbf1⟩ := hbx1.rules; have hbl1 := hbx1.lt))
  have hB1 : Below w.heap.size w w1 := bnext (by repeat' (first | (with_reducible exact Below.refl _ _) | (with_reducible assumption) | (with_reducible refine bdrewN ?_ _) | (with_reducible refine Below.alloc ?_ ?_ _) | (with_reducible refine Below.drew ?_) | (with_reducible refine Below.setCell ?_ ?_ _) | go_size)) hb1 (Nat.le_refl _)
  have hz1 := hB1.size
  have hg1 : w.heap.size ≤ g := by simp only [World.size_alloc] at hg; omega
  have hs1' := hs1.low (show w.heap.size ≤ _ by simp only [World.size_alloc]; omega)
  have hro2 := own_set3 (own_low hro1 (show w.heap.size ≤ w.heap.size + 1 by omega)) 0 (by simp; omega) (.bool c.head.neg) (.string c.head.pred) (.slice (some ⟨g, 0, none⟩) c.head.args.length c.head.args.length)
  have hs2 := hs1'.sets hro1 0 1 2 (.bool c.head.neg) (.string c.head.pred) (.slice (some ⟨g, 0, none⟩) c.head.args.length c.head.args.length)
  have hB2 : Below w.heap.size w (((w1.setCell ⟨w.heap.size + 1, 0, none⟩ (.bool c.head.neg)).setCell ⟨w.heap.size + 1, 1, none⟩ (.string c.head.pred)).setCell ⟨w.heap.size + 1, 2, none⟩ (.slice (some ⟨g, 0, none⟩) c.head.args.length c.head.args.length)) := (((hB1.setCell (by simp) _).setCell (by simp) _).setCell (by simp) _)
  simp only [Nat.zero_mul, Nat.zero_add] at hro2
  generalize ((w1.setCell ⟨w.heap.size + 1, 0, none⟩ (.bool c.head.neg)).setCell ⟨w.heap.size + 1, 1, none⟩ (.string c.head.pred)).setCell ⟨w.heap.size + 1, 2, none⟩ (.slice (some ⟨g, 0, none⟩) c.head.args.length c.head.args.length) = w2 at *
  clear hq0 hq1 hq2 hfz1 hbc1 hbf1 hmk hro1 hbx1 hs1 hs1' hb1 hg
  have HF : Hid (∀ l ∈ litsOf c, LitFine l) := hf1
  clear hf1
  go_loopw [19] (fun i wr => ∃ (k : Nat) (gs : List Nat), k ≤ c.body.length ∧ i = .int .i64 k ∧ Below w.heap.size w wr ∧ wr.ownsRow w.heap.size 90 3 (.slice (some ⟨w.heap.size + 1, 0, none⟩) (1 + c.body.length) (1 + c.body.length)) (1 + c.body.length) (flat3 (List.zipWith lit3 (c.head :: c.body.take k) gs ++ List.replicate (c.body.length - k) zero3)) ∧ Copies w.heap.size wr (c.head :: c.body.take k) gs) (fun i _ => c.body.length - (intOf i).toNat)
  case atStart =>
    refine ⟨0, [g], Nat.zero_le _, rfl, hB2, ?_, ?_⟩
    · have e : (List.replicate (1 + c.body.length) (Value.bool false, Value.string ByteArray.empty, Value.slice none 0 0)).set 0 (.bool c.head.neg, .string c.head.pred, .slice (some ⟨g, 0, none⟩) c.head.args.length c.head.args.length) = List.zipWith lit3 (c.head :: c.body.take 0) [g] ++ List.replicate (c.body.length - 0) zero3 := by
        rw [Nat.add_comm 1, List.replicate_succ]; rfl
      rw [← e]; exact hro2
    · exact (Copies.nil _).snoc (ls := []) (gs := []) (by simp) hg1 hs2
  case round =>
    clear hro2 hs2
    obtain ⟨k, gs, hk, rfl, hbk, hrow, hcop⟩ := hrel
    have hszk := hbk.size
    by_cases hlt : k < c.body.length
    · obtain ⟨gl, aol, capl, rfl, hgl, hl0, hl1, hl2, hsl⟩ := hb.cell k hlt
      have he0 := (hbk.cell (p := ⟨gl, k * 3, none⟩) hgl).trans hl0
      have he1 := (hbk.cell (p := ⟨gl, k * 3 + 1, none⟩) hgl).trans hl1
      have he2 := (hbk.cell (p := ⟨gl, k * 3 + 2, none⟩) hgl).trans hl2
      have hgr : gl < wr.heap.size := by omega
      have hfl := HF.out c.body[k] (by simp [litsOf])
      have hslr := hsl.below hbk
      have HT : Hid (c.head :: c.body.take (k + 1) = (c.head :: c.body.take k) ++ [c.body[k]]) := by rw [Hid, List.take_succ_eq_append_getElem hlt]; rfl
      have hlen : (c.head :: c.body.take k).length = 1 + k := by rw [List.length_cons, List.length_take]; omega
      clear hl0 hl1 hl2 hsl
      generalize c.body[k] = a at *
      have HL : Hid (∀ W, Below wr.heap.size wr W → Calls Tryz.prog 133 #[.agg #[.bool a.neg, .string a.pred, .slice aol a.args.length capl]] W fun e w' => ∃ g, W.heap.size ≤ g ∧ e = .returned (.agg #[.bool a.neg, .string a.pred, .slice (some ⟨g, 0, none⟩) a.args.length a.args.length]) ∧ SIn W.heap.size w' (.slice (some ⟨g, 0, none⟩) a.args.length a.args.length) a.args ∧ Below W.heap.size W w') := fun W hW => copyLit_any W a _ (hslr.below hW) hfl.2.2.1
      clear hslr hfl
      have HG : Hid (gs.length = (c.head :: c.body.take k).length) := hcop.1
      obtain ⟨m, hm⟩ : ∃ m, c.body.length - k = m + 1 := ⟨c.body.length - k - 1, by omega⟩
      have hm2 : c.body.length - (k + 1) = m := by omega
      rw [hm] at hrow
      have HM2 : Hid (c.body.length - (k + 1) = m) := hm2
      clear hm hm2
      generalize c.head :: c.body.take k = pre at *
      have hyl : 1 + k < (List.zipWith lit3 pre gs ++ List.replicate (m + 1) zero3).length := by rw [List.length_append, List.length_zipWith, HG.out, List.length_replicate]; omega
      generalize hys : List.zipWith lit3 pre gs ++ List.replicate (m + 1) zero3 = ys at *
      have HYS : Hid (List.zipWith lit3 pre gs ++ List.replicate (m + 1) zero3 = ys) := hys
      clear hys
      go_wp2_with (first | (go_at_call 133; refine (HL.out _ (by exact (by repeat' (first | (with_reducible exact Below.refl _ _) | (with_reducible assumption) | (with_reducible refine bdrewN ?_ _) | (with_reducible refine Below.alloc ?_ ?_ _) | (with_reducible refine Below.drew ?_) | (with_reducible refine Below.setCell ?_ ?_ _) | go_size)))).mono ?_; rintro e w3 ⟨g3, hg3, rfl, hs3, hb3⟩; have hb3' := bnext ((Below.refl wr.heap.size wr).alloc (Nat.le_refl _) (.cells #[.bool a.neg, .string a.pred, .slice aol a.args.length capl] 90)) hb3 (Nat.le_refl _); have hrow3 := owns_below hrow hb3'; have hcop3 := hcop.mono (fun _ _ q => q.below hb3'); obtain ⟨hl3, hq0, hq1, hq2⟩ := own_cell3 hrow3 (1 + k) hyl; have hfz3 := own_free hrow3))
      have hset := own_set3 hrow3 (1 + k) hyl (.bool a.neg) (.string a.pred) (.slice (some ⟨g3, 0, none⟩) a.args.length a.args.length)
      have hys2 : ys.set (1 + k) (.bool a.neg, .string a.pred, .slice (some ⟨g3, 0, none⟩) a.args.length a.args.length) = List.zipWith lit3 (pre ++ [a]) (gs ++ [g3]) ++ List.replicate m zero3 := by rw [← HYS.out, ← hlen]; exact trip_set HG.out a g3 m zero3
      rw [hys2] at hset
      have hg3' : wr.heap.size ≤ g3 := by simp only [World.size_alloc] at hg3; omega
      have hcop4 := (hcop3.snoc (l := a) (g := g3) (fun x hx => by have := hcop.lt x hx; omega) (by omega) (hs3.low (by simp only [World.size_alloc]; omega))).mono (fun _ _ q => q.sets hrow3 ((1 + k) * 3) ((1 + k) * 3 + 1) ((1 + k) * 3 + 2) (.bool a.neg) (.string a.pred) (.slice (some ⟨g3, 0, none⟩) a.args.length a.args.length))
      have hB3 := bnext hbk hb3' (Nat.le_refl _)
      go_roundw
      case rel => exact ⟨k + 1, gs ++ [g3], by omega, by go_num, (((hB3.setCell (by simp) _).setCell (by simp) _).setCell (by simp) _), by rw [HT.out, HM2.out]; exact hset, by rw [HT.out]; exact hcop4⟩
      case measure => simp [intOf]; omega
    · have e1 : c.body.length - k = 0 := by omega
      have e2 : c.body.take k = c.body := List.take_of_length_le (by omega)
      rw [e1, e2, List.replicate_zero, List.append_nil] at hrow
      rw [e2] at hcop
      go_wp2
      go_ret
      exact ⟨w.heap.size + 1, gs, by omega, rfl, hrow, hcop, hbk⟩
end Go.Proofs.YteampbddflhngaaGreat

/- Walks: derive.Program.Clause. -/
namespace Go.Proofs.YteampbddflhngaaGreat
open Go.RowKit
variable {lo : Nat}

set_option maxRecDepth 100000 in
set_option maxHeartbeats 2000000 in
theorem prog_clause_no (w : World) (pb : Nat) (cs : List PClause) (t : List PEnt) (i : Int) (h : PProg lo w pb cs t) (hl : cs.length ≤ 1000) (hi : i < 0 ∨ (cs.length : Int) ≤ i) :
    Calls Tryz.prog 50 #[.pointer (some ⟨pb, 0, none⟩), .int .i64 i] w fun e w' => e = .returned (.tuple #[.slice none 0 0, .int .i64 11]) ∧ Below w.heap.size w w' := by
  obtain ⟨_, v, pv, h1, h2, _⟩ := h
  obtain ⟨ao, cap, rfl⟩ := h2.shape
  obtain ⟨hc, hf⟩ := h1.rules
  have hlt := h1.lt
  rcases hi with hi | hi
  · go_enter Tryz.func50, Tryz.ntmps50
    go_wp2
    go_ret2
    exact ⟨rfl, (by repeat' (first | (with_reducible exact Below.refl _ _) | (with_reducible assumption) | (with_reducible refine bdrewN ?_ _) | (with_reducible refine Below.alloc ?_ ?_ _) | (with_reducible refine Below.drew ?_) | (with_reducible refine Below.setCell ?_ ?_ _) | go_size))⟩
  · have hi0 : ¬ i < 0 := by omega
    go_enter Tryz.func50, Tryz.ntmps50
    go_wp2
    go_ret2
    exact ⟨rfl, (by repeat' (first | (with_reducible exact Below.refl _ _) | (with_reducible assumption) | (with_reducible refine bdrewN ?_ _) | (with_reducible refine Below.alloc ?_ ?_ _) | (with_reducible refine Below.drew ?_) | (with_reducible refine Below.setCell ?_ ?_ _) | go_size))⟩

set_option maxRecDepth 100000 in
set_option maxHeartbeats 2000000 in
theorem prog_clause_yes (w : World) (pb : Nat) (cs : List PClause) (t : List PEnt) (k : Nat) (h : PProg lo w pb cs t) (_hl : cs.length ≤ 1000) (hk : k < cs.length) (hf : ClFine cs[k]) :
    Calls Tryz.prog 50 #[.pointer (some ⟨pb, 0, none⟩), .int .i64 k] w fun e w' => ∃ g gs, w.heap.size ≤ g ∧ e = .returned (.tuple #[.slice (some ⟨g, 0, none⟩) (1 + cs[k].body.length) (1 + cs[k].body.length), .int .i64 0]) ∧ w'.ownsRow w.heap.size 90 3 (.slice (some ⟨g, 0, none⟩) (1 + cs[k].body.length) (1 + cs[k].body.length)) (1 + cs[k].body.length) (flat3 (List.zipWith lit3 (litsOf cs[k]) gs)) ∧ Copies w.heap.size w' (litsOf cs[k]) gs ∧ Below w.heap.size w w' := by
  obtain ⟨_, v, pv, h1, h2, _⟩ := h
  obtain ⟨ao, cap, rfl⟩ := h2.shape
  obtain ⟨hc, hfz⟩ := h1.rules
  have hlt := h1.lt
  obtain ⟨g, ao2, cap2, ao3, cap3, rfl, hg, hd0, hd1, hd2, hd3, hsk, hlk⟩ := h2.cell k hk
  generalize cs[k] = c at *
  have HP : Hid (∀ W, Below w.heap.size w W → Calls Tryz.prog 88 #[.agg #[.bool c.head.neg, .string c.head.pred, .slice ao2 c.head.args.length cap2, .slice ao3 c.body.length cap3]] W fun e w' => LitsPost c W e w') := fun W hW => lits_any W c _ _ (hsk.below hW) (hlk.below hW) hf
  go_enter Tryz.func50, Tryz.ntmps50
  go_wp2_with (first | (go_at_call 88; refine (HP.out _ (by exact (by repeat' (first | (with_reducible exact Below.refl _ _) | (with_reducible assumption) | (with_reducible refine bdrewN ?_ _) | (with_reducible refine Below.alloc ?_ ?_ _) | (with_reducible refine Below.drew ?_) | (with_reducible refine Below.setCell ?_ ?_ _) | go_size)))).mono ?_; rintro e w1 ⟨g1, gs, hg1, rfl, hr1, hc1, hb1⟩))
  go_ret2
  exact ⟨g1, gs, hg1, rfl, hr1, hc1, hb1⟩
end Go.Proofs.YteampbddflhngaaGreat
