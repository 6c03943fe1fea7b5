import Derived.Test.YteampbddflhngaaGreatP24

/- What World.clause keeps, pure. -/
namespace Go.Proofs.YteampbddflhngaaGreat
open Go.RowKit
variable {lo : Nat}

/-- The blocks of a pair of programs stand as they stood in s; none of the blocks ms lies among them. -/
structure Keep (lo : Nat) (s w : World) (ms : List Nat) : Prop where
  same : Same lo s w
  size : s.heap.size ≤ w.heap.size
  out : ∀ b ∈ ms, b < lo ∨ s.heap.size ≤ b
theorem Keep.save {s w w' : World} {ms ms' N : List Nat} (h : Keep lo s w ms) (hs : Save N w w') (hN : ∀ b ∈ N, b ∈ ms) (hm : ∀ b ∈ ms', b ∈ ms ∨ w.heap.size ≤ b) : Keep lo s w' ms' := by
  have h5 := h.size
  refine ⟨fun b hb1 hb2 => ?_, Nat.le_trans h.size hs.size, fun b hb => ?_⟩
  · rw [hs.block b (by omega) (fun hm => by have := h.out b (hN b hm); omega)]; exact h.same b hb1 hb2
  · rcases hm b hb with h1 | h1
    · exact h.out b h1
    · right; omega
theorem PairOK.keep {B : Nat} {w : World} {ms : List Nat} {p : PairP} (h : PairOK B w ms p) : ∃ lo s, PProg lo s p.1 p.2.2.1 p.2.2.2 ∧ RProg lo s p.2.1 p.2.2.1 p.2.2.2 ∧ TxtOK p.2.2.1 p.2.2.2 ∧ Keep lo s w ms := by
  obtain ⟨lo, s, _, h1, h2, h3, h4, h5, h6⟩ := h; exact ⟨lo, s, h1, h2, h3, h4, h5, h6⟩

/-- The caller writes into a block that is about to be its own. -/
theorem TWp.write {B : Nat} {w w' : World} {wb : Nat} {M : TM} {R : List Nat} {psv rowv lsv lwv litv : Value} {ys : List Value} (h : TWp B w wb M R psv rowv lsv lwv litv ys) {g0 : Nat} (hg : g0 ∈ R) {cur : Array Value} (hb : Box w g0 cur 90) (hl : ∀ x ∈ M.lits, x.1 ≠ g0) (hs : Save [g0] w w') : TWp B w' wb M R psv rowv lsv lwv litv ys := by
  have nb : ∀ {b1 : Nat} {e : TypeId} {s1 : Nat} {v : Value} {n1 : Nat} {xs : List Value}, w.ownsRow b1 e s1 v n1 xs → e ≠ 90 → ∀ b, v.ownBlock = some b → b ∉ [g0] := fun ho hT b hvb hm => own_ne_box ho hb hT hvb (by simpa using hm)
  refine ⟨h.low, h.box.save hs ?_, own_save h.ps hs (nb h.ps (by decide)), own_save h.row hs (nb h.row (by decide)), own_save h.ls hs (nb h.ls (by decide)), own_save h.lw hs (nb h.lw (by decide)), own_save h.lits hs (nb h.lits (by decide)), fun b hb2 => Nat.lt_of_lt_of_le (h.res b hb2) hs.size, h.sep, h.apart, fun x hx => ?_, fun i hi => ?_, fun p hp => (h.pairs p hp).save hs (by simp [hg]) (fun b hb => Or.inl hb)⟩
  · intro hm
    have h1 := h.box
    simp only [List.mem_singleton] at hm
    unfold Box at h1 hb
    rw [hm, hb] at h1
    simp at h1
  · obtain ⟨h1, h2, h3⟩ := h.lists x hx
    exact ⟨own_save h1 hs (nb h1 (by decide)), own_save h2 hs (nb h2 (by decide)), h3⟩
  · obtain ⟨hs2, h1, h2, h3⟩ := h.own i hi
    refine ⟨hs2, h1, h2, own_save h3 hs fun b hvb hm => ?_⟩
    have := hl _ (List.getElem_mem hi)
    simp only [sl, Value.ownBlock, Option.some.injEq] at hvb
    simp only [List.mem_singleton] at hm
    omega
/-- A list of literals of the caller's joins those that it has. -/
theorem TWp.addlit {B : Nat} {w W : World} {wb : Nat} {M : TM} {g0 : Nat} {psv rowv lsv lwv litv : Value} {ys : List Value} (h : TWp B w wb M [g0] psv rowv lsv lwv litv ys) {hs : List Nat} {n : Nat} (hn : hs.length = n) (hn2 : n ≤ 1000) (hrow : w.ownsRow B 90 3 (sl g0 n) n (flat3 (hs.map (mine3 M.lits.length))))
    (hs0 : Save litv.ownBlock.toList w W) {litv' : Value} (ho : W.ownsRow B 91 1 litv' (M.lits.length + 1) (litVs3 M.lits ++ [sl g0 n])) (hat : litv'.ownBlock = litv.ownBlock ∨ ∃ g, litv'.ownBlock = some g ∧ w.heap.size ≤ g) :
    TWp B (W.setCell ⟨wb, 13, none⟩ litv') wb { M with lits := M.lits ++ [(g0, n)] } [] psv rowv lsv lwv litv' ys := by
  have hlt := h.lt
  have hbW := h.box.save hs0 (own_ne_list h.lits h.box (by decide))
  have hsv : Save (wb :: litv.ownBlock.toList) w (W.setCell ⟨wb, 13, none⟩ litv') := (hs0.more (fun x hx => List.mem_cons_of_mem _ hx)).trans ((Save.set W wb 13 litv').more (by simp))
  have notN : ∀ {b1 : Nat} {e : TypeId} {s1 : Nat} {v : Value} {n1 : Nat} {xs : List Value}, w.ownsRow b1 e s1 v n1 xs → e ≠ 35 → e ≠ 91 → ∀ b, v.ownBlock = some b → b ∉ wb :: litv.ownBlock.toList := by
    intro b1 e s1 v n1 xs ho2 hT1 hT2 b hvb hm
    rcases List.mem_cons.1 hm with h1 | h1
    · exact own_ne_box ho2 h.box hT1 hvb h1
    · exact own_ne_own ho2 h.lits hT2 hvb (mem_own h1)
  have hmut : ∀ b, b ∈ mutsOf wb psv rowv lsv lwv litv' { M with lits := M.lits ++ [(g0, n)] } → b ∈ [g0] ++ mutsOf wb psv rowv lsv lwv litv M ∨ w.heap.size ≤ b := by
    intro b hb
    simp only [mutsOf, List.mem_cons, List.mem_append, List.map_append, List.map_cons, List.map_nil] at hb ⊢
    rcases hb with h1 | ((((((((h1 | h1) | h1) | h1) | h1) | h1) | h1) | h1))
    · simp [h1]
    · simp [h1]
    · simp [h1]
    · simp [h1]
    · simp [h1]
    · rcases hat with h3 | ⟨g, h3, h4⟩
      · rw [h3] at h1; simp [h1]
      · rw [h3] at h1; simp at h1; subst h1; exact Or.inr h4
    · simp [h1]
    · simp [h1]
    · rcases h1 with h1 | h1
      · simp [h1]
      · simp at h1; simp [h1]
  have hN : ∀ b ∈ wb :: litv.ownBlock.toList, b ∈ [g0] ++ mutsOf wb psv rowv lsv lwv litv M := by
    intro b hb
    simp only [List.mem_cons] at hb
    simp only [mutsOf, List.mem_cons, List.mem_append]
    rcases hb with h1 | h1 <;> simp [h1]
  refine ⟨h.low, ?_, own_save h.ps hsv (notN h.ps (by decide) (by decide)), own_save h.row hsv (notN h.row (by decide) (by decide)), own_save h.ls hsv (notN h.ls (by decide) (by decide)), own_save h.lw hsv (notN h.lw (by decide) (by decide)), ?_, by simp, h.sep, (List.nodup_cons.1 h.apart).2, ?_, ?_, ?_⟩
  · have hq := hbW.set 13 litv'; simpa using hq
  · have := own_but ho ((But.refl wb W).setCell 13 litv') hbW (by decide)
    simpa [litVs3] using this
  · intro x hx
    obtain ⟨h3, h4, h5⟩ := h.lists x hx
    exact ⟨own_save h3 hsv (notN h3 (by decide) (by decide)), own_save h4 hsv (notN h4 (by decide) (by decide)), h5⟩
  · intro i hi
    simp at hi
    by_cases hlt2 : i < M.lits.length
    · obtain ⟨hs2, h3, h4, h5⟩ := h.own i hlt2
      refine ⟨hs2, ?_⟩
      simp only [List.getElem_append_left hlt2]
      exact ⟨h3, h4, own_save h5 hsv (notN h5 (by decide) (by decide))⟩
    · obtain rfl : i = M.lits.length := by omega
      refine ⟨hs, ?_⟩
      simp only [List.getElem_concat_length]
      exact ⟨hn, hn2, own_save hrow hsv (notN hrow (by decide) (by decide))⟩
  · intro p hp
    exact (h.pairs p hp).save hsv hN (fun b hb => hmut b (by simpa using hb))
end Go.Proofs.YteampbddflhngaaGreat

/- derivelaw.World.clause: the loop's relation, pure but for texts. -/
namespace Go.Proofs.YteampbddflhngaaGreat
open Go.RowKit
variable {lo : Nat}

/-- What stands ahead of round k: some literals are the caller's own already, those ahead are as they came. -/
def ClRel (B : Nat) (w : World) (wb : Nat) (M : TM) (lo : Nat) (s : World) (psv rowv litv : Value) (ys : List Value) (ls : List PLit) (gs : List Nat) (g0 cb : Nat) (cc : Array Value) (k k1 : Nat) (wr : World) : Prop :=
  ∃ (hs : List Nat) (L : List RowP) (lsv lwv : Value), hs.length = k ∧ L.length = M.ls.length + k1 ∧ TWp B wr wb { M with ls := L } (gs.drop k1 ++ [g0]) psv rowv lsv lwv litv ys ∧
    wr.ownsRow B 90 3 (sl g0 ls.length) ls.length (flat3 (hs.map (mine3 M.lits.length) ++ List.zipWith lit3 (ls.drop k) (gs.drop k))) ∧
    (∀ j (h1 : j < ls.length) (h2 : j < gs.length), k1 ≤ j → SIn B wr (sl gs[j] ls[j].args.length) ls[j].args) ∧
    Keep lo s wr (gs.drop k1 ++ [g0] ++ mutsOf wb psv rowv lsv lwv litv { M with ls := L }) ∧ Box wr cb cc 93 ∧ Below B w wr

theorem box_ne_box {w : World} {b b2 : Nat} {c c2 : Array Value} {T T2 : TypeId} (h : Box w b c T) (h2 : Box w b2 c2 T2) (hT : T ≠ T2) : b ≠ b2 := by
  rintro rfl
  unfold Box at h h2
  rw [h] at h2
  simp at h2
  exact hT h2.2
theorem own_ne_boxM {w : World} {base : Nat} {e T : TypeId} {size : Nat} {v : Value} {n : Nat} {xs : List Value} (h : w.ownsRow base e size v n xs) {b : Nat} {c : Array Value} (hb : Box w b c T) (hT : e ≠ T) : b ∉ v.ownBlock.toList := own_ne_list h hb hT

theorem texts_cl {B : Nat} {w : World} {wb : Nat} {M : TM} {lo : Nat} {s : World} {psv rowv litv : Value} {ys : List Value} {ls : List PLit} {gs : List Nat} {g0 cb : Nat} {cc : Array Value} {k : Nat} {wr W2 : World} (h : ClRel B w wb M lo s psv rowv litv ys ls gs g0 cb cc k k wr) (hgl : gs.length = ls.length) (hk : k < ls.length) (hb : Below wr.heap.size wr W2) {vb : Value} {lo2 : Nat} (hv : SIn lo2 W2 vb ls[k].args) (hl : ls[k].args.length ≤ 1000) (hn : M.ls.length + k ≤ 9000000000) :
    Calls Tryz.prog 41 #[.pointer (some ⟨wb, 0, none⟩), sl gs[k] ls[k].args.length, vb] W2 fun e w' => e = .returned (.bool true) ∧ ClRel B w wb M lo s psv rowv litv ys ls gs g0 cb cc k (k + 1) w' ∧ (∀ b, wr.heap.size ≤ b → b < W2.heap.size → w'.heap[b]? = W2.heap[b]?) ∧ W2.heap.size ≤ w'.heap.size := by
  obtain ⟨hs, L, lsv, lwv, h1, h2, h3, h4, h5, h6, h7, h8⟩ := h
  have hkg : k < gs.length := by omega
  have hd : gs.drop k ++ [g0] = gs[k] :: (gs.drop (k + 1) ++ [g0]) := by rw [List.drop_eq_getElem_cons hkg]; rfl
  have h3' := h3.below hb
  rw [hd] at h3'
  have hBz := h3.size
  have h4' := owns_below h4 hb
  have h7' := h7.below hb
  refine (texts_tw B W2 wb _ gs[k] _ psv rowv lsv lwv litv ys ls[k].args vb h3' ((h5 k hk hkg (Nat.le_refl _)).below hb) hv hl (by simp only; omega)).mono fun e w' ⟨he, lsv', lwv', gc, ht, hsv, hgc, hmut⟩ => ?_
  have notN : ∀ {b1 : Nat} {e : TypeId} {s1 : Nat} {v : Value} {n1 : Nat} {xs : List Value}, W2.ownsRow b1 e s1 v n1 xs → e ≠ 35 → e ≠ 30 → ∀ b, v.ownBlock = some b → b ∉ wb :: (lsv.ownBlock.toList ++ lwv.ownBlock.toList) := by
    intro b1 e s1 v n1 xs ho hT1 hT2 b hvb hm
    rcases List.mem_cons.1 hm with h1 | h1
    · exact own_ne_box ho h3'.box hT1 hvb h1
    · rcases List.mem_append.1 h1 with h2 | h2
      · exact own_ne_own ho h3'.ls hT2 hvb (mem_own h2)
      · exact own_ne_own ho h3'.lw hT2 hvb (mem_own h2)
  have hN : ∀ b ∈ wb :: (lsv.ownBlock.toList ++ lwv.ownBlock.toList), b ∈ mutsOf wb psv rowv lsv lwv litv { M with ls := L } := by
    intro b hb2
    simp only [List.mem_cons, List.mem_append] at hb2
    simp only [mutsOf, List.mem_cons, List.mem_append]
    rcases hb2 with h1 | h1 | h1 <;> simp [h1]
  refine ⟨he, ⟨hs, L ++ [(gs[k], gc, ls[k].args)], lsv', lwv', h1, by simp [h2]; omega, ht, own_save h4' hsv (notN h4' (by decide) (by decide)), fun j hj1 hj2 hj3 => ?_, ?_, h7'.save hsv ?_, ?_⟩, fun b hb1 hb2 => hsv.block b hb2 fun hm => ?_, hsv.size⟩
  · have q := (h5 j hj1 hj2 (by omega)).below hb
    exact own_save q hsv (notN q (by decide) (by decide))
  · refine (h6.save (Save.of (M := []) hb) (by simp) (fun b hb => Or.inl hb)).save hsv (fun b hb2 => List.mem_append_right _ (hN b hb2)) (fun b hb2 => ?_)
    rcases hmut b hb2 with q | q
    · left; rw [hd]; simpa [List.append_assoc] using q
    · exact Or.inr q
  · intro hm
    rcases List.mem_cons.1 hm with h1 | h1
    · exact box_ne_box h7' h3'.box (by decide) h1
    · rcases List.mem_append.1 h1 with h2 | h2
      · exact own_ne_list h3'.ls h7' (by decide) h2
      · exact own_ne_list h3'.lw h7' (by decide) h2
  · refine (h8.trans (hb.mono hBz)).trans (hsv.below (fun x hx => ?_) (by have := hb.size; omega))
    rcases List.mem_cons.1 hx with q | q
    · subst q; exact h3.low
    · rcases List.mem_append.1 q with q | q
      · exact own_ge h3.ls (mem_own q)
      · exact own_ge h3.lw (mem_own q)
  · have q := h3.lt b (hN b hm)
    omega

/-- The literal is the caller's now. -/
theorem ClRel.next {B : Nat} {w : World} {wb : Nat} {M : TM} {lo : Nat} {s : World} {psv rowv litv : Value} {ys : List Value} {ls : List PLit} {gs : List Nat} {g0 cb : Nat} {cc : Array Value} {k : Nat} {W3 W4 : World} (h : ClRel B w wb M lo s psv rowv litv ys ls gs g0 cb cc k (k + 1) W3) (hgl : gs.length = ls.length) (hk : k < ls.length) (hg0 : ∀ x ∈ M.lits, x.1 ≠ g0) (blk : Obj)
    (hW : W4 = (((W3.setCell ⟨g0, k * 3, none⟩ (.bool false)).setCell ⟨g0, k * 3 + 1, none⟩ (.string bMine)).setCell ⟨g0, k * 3 + 2, none⟩ (sl W3.heap.size (M.lits.length + 1))).alloc blk) : ClRel B w wb M lo s psv rowv litv ys ls gs g0 cb cc (k + 1) (k + 1) W4 := by
  obtain ⟨hs, L, lsv, lwv, h1, h2, h3, h4, h5, h6, h7, h8⟩ := h
  have hkg : k < gs.length := by omega
  obtain ⟨cur, hbx⟩ := own_block h4
  have hbx' : Box W3 g0 cur 90 := hbx
  have hBz := h3.size
  have hset := own_set3 h4 k (by simp; omega) (.bool false) (.string bMine) (sl W3.heap.size (M.lits.length + 1))
  have hsv : Save [g0] W3 (((W3.setCell ⟨g0, k * 3, none⟩ (.bool false)).setCell ⟨g0, k * 3 + 1, none⟩ (.string bMine)).setCell ⟨g0, k * 3 + 2, none⟩ (sl W3.heap.size (M.lits.length + 1))) := ((Save.set _ _ _ _).trans (Save.set _ _ _ _)).trans (Save.set _ _ _ _)
  have hys : (hs.map (mine3 M.lits.length) ++ List.zipWith lit3 (ls.drop k) (gs.drop k)).set k (.bool false, .string bMine, sl W3.heap.size (M.lits.length + 1)) = (hs ++ [W3.heap.size]).map (mine3 M.lits.length) ++ List.zipWith lit3 (ls.drop (k + 1)) (gs.drop (k + 1)) := by
    have hl1 : (hs.map (mine3 M.lits.length)).length = k := by simp [h1]
    rw [List.set_append_right _ _ (by omega), hl1, Nat.sub_self, List.drop_eq_getElem_cons hk, List.drop_eq_getElem_cons hkg, List.map_append]
    simp only [List.zipWith_cons_cons, List.set_cons_zero, List.map_cons, List.map_nil, List.append_assoc, List.cons_append, List.nil_append, mine3]
  rw [hys] at hset
  generalize (((W3.setCell ⟨g0, k * 3, none⟩ (.bool false)).setCell ⟨g0, k * 3 + 1, none⟩ (.string bMine)).setCell ⟨g0, k * 3 + 2, none⟩ (sl W3.heap.size (M.lits.length + 1))) = W at *
  have hA : Below W.heap.size W W4 := by rw [hW]; exact (Below.refl _ _).alloc (Nat.le_refl _) _
  have nb : ∀ {b1 : Nat} {e : TypeId} {s1 : Nat} {v : Value} {n1 : Nat} {xs : List Value}, W3.ownsRow b1 e s1 v n1 xs → e ≠ 90 → ∀ b, v.ownBlock = some b → b ∉ [g0] := fun ho hT b hvb hm => own_ne_box ho hbx' hT hvb (by simpa using hm)
  refine ⟨hs ++ [W3.heap.size], L, lsv, lwv, by simp [h1], h2, (h3.write (by simp) hbx' hg0 hsv).below hA, owns_below hset hA, fun j hj1 hj2 hj3 => ?_, ?_, ?_, ?_⟩
  · have q := h5 j hj1 hj2 hj3
    exact SIn.below (own_save q hsv (nb q (by decide))) hA
  · exact (h6.save hsv (by simp) (fun b hb => Or.inl hb)).save (Save.of (M := []) hA) (by simp) (fun b hb => Or.inl hb)
  · exact (h7.save hsv (by simpa using box_ne_box h7 hbx' (by decide))).below hA
  · exact (h8.trans (hsv.below (by simpa using own_ge h4 rfl) hBz)).trans (hA.mono (by have := hsv.size; omega))
end Go.Proofs.YteampbddflhngaaGreat
