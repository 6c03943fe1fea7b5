import Derived.Test.YteampbddflhngaaGreatP21

/- derivelaw.World.written, looks, in the world of Tells. -/
namespace Go.Proofs.YteampbddflhngaaGreat
open Go.RowKit
variable {lo : Nat}

def VIn (lo : Nat) (T : TypeId) (w : World) (v : Value) (xs : List Value) : Prop := w.ownsRow lo T 1 v xs.length xs
theorem VIn.cell {T : TypeId} {w : World} {ao : Option Addr} {n cap : Nat} {xs : List Value} (h : VIn lo T w (.slice ao n cap) xs) (k : Nat) (hk : k < xs.length) : ∃ g, ao = some ⟨g, 0, none⟩ ∧ g < w.heap.size ∧ w.cell? ⟨g, k, none⟩ = some xs[k] := by
  obtain ⟨g, cap', hv, _, hg, hcl⟩ := own_cells h (by omega)
  simp at hv
  exact ⟨g, hv.1, hg, hcl k _ (by simp [hk])⟩

set_option maxRecDepth 100000 in
set_option maxHeartbeats 2000000 in
theorem written_tw (B : Nat) (w : World) (wb : Nat) (M : TM) (R : List Nat) (psv rowv lsv lwv litv : Value) (ys : List Value) (h : TWp B w wb M R psv rowv lsv lwv litv ys) (hn : M.lits.length ≤ 1048577) :
    Calls Tryz.prog 39 #[.pointer (some ⟨wb, 0, none⟩)] w fun e w' => e = .returned (.bool true) ∧ Below w.heap.size w w' := by
  have hbx := h.box
  have hli : VIn B 91 w litv (litVs3 M.lits) := by have := h.lits; simpa [VIn, litVs3] using this
  have hll : (litVs3 M.lits).length = M.lits.length := by simp [litVs3]
  obtain ⟨aoi, capi, hvi⟩ := own_view h.lits
  subst hvi
  have HOW : Hid (∀ i (h : i < M.lits.length), ∃ hs : List Nat, hs.length = M.lits[i].2 ∧ M.lits[i].2 ≤ 1000 ∧ w.ownsRow B 90 3 (sl M.lits[i].1 M.lits[i].2) M.lits[i].2 (flat3 (hs.map (mine3 i)))) := h.own
  have HVL : Hid (∀ i (h : i < M.lits.length), (litVs3 M.lits)[i]'(by simpa [litVs3] using h) = .slice (some ⟨M.lits[i].1, 0, none⟩) M.lits[i].2 M.lits[i].2) := fun i h => by simp [litVs3, sl]
  have hmn : (bMine.toList == [109, 105, 110, 101]) = true := by rw [bytes_toList]; rfl
  clear h
  go_enter Tryz.func39, Tryz.ntmps39
  obtain ⟨hc, hf⟩ := hbx.rules
  have hlt := hbx.lt
  go_wp2
  go_loop [3] (fun i => i = .int .i64 0) (fun _ => 0)
  case atStart => rfl
  case round =>
    subst hrel
    go_wp2
    go_loopw [5] (fun v5 wr => ∃ i : Nat, i ≤ M.lits.length ∧ v5 = .int .i64 i ∧ Below w.heap.size w wr) (fun v5 _ => M.lits.length - (intOf v5).toNat)
    case atStart => exact ⟨0, Nat.zero_le _, rfl, Below.refl _ _⟩
    case round =>
      clear hc hf
      obtain ⟨i, hi, rfl, hbi⟩ := hrel
      have hszi := hbi.size
      have hbxi := hbx.below hbi
      obtain ⟨hc, hf⟩ := hbxi.rules
      have hbl := hbxi.lt
      by_cases hil : i < M.lits.length
      · obtain ⟨gi, rfl, hgi, hci⟩ := hli.cell i (by rw [hll]; exact hil)
        rw [HVL.out i hil] at hci
        have hxi := (hbi.cell (p := ⟨gi, i, none⟩) hgi).trans hci
        have hgir : gi < wr.heap.size := by omega
        obtain ⟨hs, hs1, hs2, hs3⟩ := HOW.out i hil
        clear hci
        generalize M.lits[i].1 = g at *
        generalize M.lits[i].2 = n at *
        obtain ⟨w4, rfl⟩ : ∃ w4, w4 = wr := ⟨wr, rfl⟩
        go_wp2
        go_loopw [6] (fun v6 wr => ∃ k : Nat, k ≤ n ∧ v6 = .int .i64 k ∧ Below w4.heap.size w4 wr) (fun v6 _ => n - (intOf v6).toNat)
        case atStart => exact ⟨0, Nat.zero_le _, rfl, Below.refl _ _⟩
        case round =>
          clear hc hf
          obtain ⟨k, hk, rfl, hbk⟩ := hrel
          have hszk := hbk.size
          have hBk := bnext hbi hbk (Nat.le_refl _)
          have hbxk := hbxi.below hbk
          obtain ⟨hc, hf⟩ := hbxk.rules
          have hblk := hbxk.lt
          have hxik := (hbk.cell (p := ⟨gi, i, none⟩) hgir).trans hxi
          have hgik : gi < wr.heap.size := by omega
          by_cases hkl : k < n
          · obtain ⟨hgl, hq0, hq1, hq2⟩ := own_cell3 (owns_below hs3 hBk) k (by simp; omega)
            simp only [List.getElem_map, mine3, sl] at hq0 hq1 hq2
            generalize hs[k]'(by omega) = h1 at *
            go_wp2
            go_roundw
            case rel => exact ⟨k + 1, by omega, by go_num, hbk⟩
            case measure => simp [intOf]; omega
          · go_wp2
            go_roundw
            case rel => exact ⟨i + 1, by omega, by go_num, hBk⟩
            case measure => simp [intOf]; omega
      · go_wp2
        go_ret
        exact ⟨rfl, hbi⟩

set_option maxRecDepth 100000 in
set_option maxHeartbeats 2000000 in
theorem looks_tw (B : Nat) (w : World) (wb : Nat) (M : TM) (h : TW B w wb M) (hn : M.lits.length ≤ 1048577) (hn2 : M.ls.length ≤ 9000000000) :
    Calls Tryz.prog 58 #[.pointer (some ⟨wb, 0, none⟩)] w fun e w' => e = .returned (.bool true) ∧ Below w.heap.size w w' := by
  obtain ⟨psv, rowv, lsv, lwv, litv, ys, ht⟩ := h
  have hbx := ht.box
  have hls : VIn B 30 w lsv (lsCells M.ls) := by have := ht.ls; simpa [VIn, lsCells] using this
  have hlw : VIn B 30 w lwv (lwCells M.ls) := by have := ht.lw; simpa [VIn, lwCells] using this
  have hl1 : (lsCells M.ls).length = M.ls.length := by simp [lsCells]
  have hl2 : (lwCells M.ls).length = M.ls.length := by simp [lwCells]
  obtain ⟨ao1, cap1, hv1⟩ := own_view ht.ls
  obtain ⟨ao2, cap2, hv2⟩ := own_view ht.lw
  subst hv1
  subst hv2
  have HC1 : Hid (∀ i (h : i < M.ls.length), (lsCells M.ls)[i]'(by simpa [lsCells] using h) = .slice (some ⟨M.ls[i].1, 0, none⟩) M.ls[i].2.2.length M.ls[i].2.2.length) := fun i h => by simp [lsCells, sl]
  have HC2 : Hid (∀ i (h : i < M.ls.length), (lwCells M.ls)[i]'(by simpa [lwCells] using h) = .slice (some ⟨M.ls[i].2.1, 0, none⟩) M.ls[i].2.2.length M.ls[i].2.2.length) := fun i h => by simp [lwCells, sl]
  have HLI : Hid (∀ i (h : i < M.ls.length), SIn B w (.slice (some ⟨M.ls[i].1, 0, none⟩) M.ls[i].2.2.length M.ls[i].2.2.length) M.ls[i].2.2 ∧ SIn B w (.slice (some ⟨M.ls[i].2.1, 0, none⟩) M.ls[i].2.2.length M.ls[i].2.2.length) M.ls[i].2.2 ∧ M.ls[i].2.2.length ≤ 1000) := fun i h => ht.lists _ (List.getElem_mem h)
  have HWR : Hid (∀ W, Below w.heap.size w W → Calls Tryz.prog 39 #[.pointer (some ⟨wb, 0, none⟩)] W fun e w' => e = .returned (.bool true) ∧ Below W.heap.size W w') := fun W hW => written_tw B W wb M [] psv rowv _ _ litv ys (ht.below hW) hn
  clear ht
  go_enter Tryz.func58, Tryz.ntmps58
  obtain ⟨hc, hf⟩ := hbx.rules
  have hlt := hbx.lt
  go_wp2
  go_loop [3] (fun i => i = .int .i64 0) (fun _ => 0)
  case atStart => rfl
  case round =>
    subst hrel
    go_wp2
    go_loopw [5] (fun v5 wr => ∃ i : Nat, i ≤ M.ls.length ∧ v5 = .int .i64 i ∧ Below w.heap.size w wr) (fun v5 _ => M.ls.length - (intOf v5).toNat)
    case atStart => exact ⟨0, Nat.zero_le _, rfl, Below.refl _ _⟩
    case round =>
      clear hc hf
      obtain ⟨i, hi, rfl, hbi⟩ := hrel
      have hszi := hbi.size
      have hbxi := hbx.below hbi
      obtain ⟨hc, hf⟩ := hbxi.rules
      have hbl := hbxi.lt
      by_cases hil : i < M.ls.length
      · obtain ⟨g1, rfl, hg1, hc1⟩ := hls.cell i (by rw [hl1]; exact hil)
        obtain ⟨g2, rfl, hg2, hc2⟩ := hlw.cell i (by rw [hl2]; exact hil)
        rw [HC1.out i hil] at hc1
        rw [HC2.out i hil] at hc2
        have hx1 := (hbi.cell (p := ⟨g1, i, none⟩) hg1).trans hc1
        have hx2 := (hbi.cell (p := ⟨g2, i, none⟩) hg2).trans hc2
        have hg1r : g1 < wr.heap.size := by omega
        have hg2r : g2 < wr.heap.size := by omega
        obtain ⟨hs1, hs2, hs3⟩ := HLI.out i hil
        clear hc1 hc2
        generalize M.ls[i].1 = ga at *
        generalize M.ls[i].2.1 = gc at *
        generalize M.ls[i].2.2 = l at *
        have HST : Hid (∀ W, Below w.heap.size w W → Calls Tryz.prog 44 #[.slice (some ⟨ga, 0, none⟩) l.length l.length, .slice (some ⟨gc, 0, none⟩) l.length l.length] W fun e w' => e = .returned (.bool true) ∧ Below W.heap.size W w') := fun W hW => sameTexts_any W _ _ l (hs1.below hW) (hs2.below hW) (by omega)
        clear hs1 hs2
        go_wp2
        go_region_with (go_at_call 44; refine (HST.out _ (by exact bdrewN hbi 1)).mono ?_; rintro e w1 ⟨rfl, hb1⟩)
        all_goals
          go_wp2
          go_roundw
          case rel => exact ⟨i + 1, by omega, by go_num, bnext (bdrewN hbi 1) hb1 (Nat.le_refl _)⟩
          case measure => simp [intOf]; omega
      · go_wp2_with (first | (go_at_call 39; refine (HWR.out _ hbi).mono ?_; rintro e w1 ⟨rfl, hb1⟩))
        go_ret
        exact ⟨rfl, bnext hbi hb1 (Nat.le_refl _)⟩
end Go.Proofs.YteampbddflhngaaGreat

/- A caller's mark in a list that was handed out. -/
namespace Go.Proofs.YteampbddflhngaaGreat
open Go.RowKit
variable {lo : Nat}

theorem SIn.mark {w : World} {g : Nat} {l : List ByteArray} (h : SIn lo w (sl g l.length) l) (i : Nat) (hi : i < l.length) (s : ByteArray) : SIn lo (w.setCell ⟨g, i, none⟩ (.string s)) (sl g (l.set i s).length) (l.set i s) := by
  have := own_set h i (by simpa using hi) (.string s)
  unfold SIn sl at *
  rw [List.length_set, List.map_set]
  exact this
theorem SIn.stays {w : World} {g g2 i : Nat} {u : Value} {l : List ByteArray} (h : SIn lo w (sl g l.length) l) (hne : g ≠ g2) : SIn lo (w.setCell ⟨g2, i, none⟩ u) (sl g l.length) l :=
  own_save h (Save.set w g2 i u) (fun b hb hm => by simp [sl, Value.ownBlock] at hb; simp at hm; omega)
theorem nodup_parts {R : List Nat} {rowv : Value} {M : TM} (h : (strsOf R rowv M).Nodup) : (∀ b ∈ R ++ rowv.ownBlock.toList, ∀ x ∈ M.ls, b ≠ x.1 ∧ b ≠ x.2.1) ∧ (∀ x ∈ M.ls, ∀ y ∈ M.ls, x.1 ≠ y.2.1) ∧ (M.ls.map (·.1)).Nodup ∧ (M.ls.map (·.2.1)).Nodup := by
  unfold strsOf at h
  rw [← List.append_assoc, List.nodup_append] at h
  obtain ⟨_, hq, h4⟩ := h
  rw [List.nodup_append] at hq
  obtain ⟨h1, h2, h3⟩ := hq
  refine ⟨fun b hb x hx => ⟨h4 b hb _ (List.mem_append.2 (Or.inl (List.mem_map.2 ⟨x, hx, rfl⟩))), h4 b hb _ (List.mem_append.2 (Or.inr (List.mem_map.2 ⟨x, hx, rfl⟩)))⟩, fun x hx y hy => h3 _ (List.mem_map.2 ⟨x, hx, rfl⟩) _ (List.mem_map.2 ⟨y, hy, rfl⟩), h1, h2⟩
theorem nodup_at {α : Type} {f : α → Nat} {l : List α} (h : (l.map f).Nodup) {i j : Nat} (hi : i < l.length) (hj : j < l.length) (hne : i ≠ j) : f l[i] ≠ f l[j] := by
  intro e
  have := (List.getElem_inj (h₀ := by simpa using hi) (h₁ := by simpa using hj) h).1 (by simpa using e)
  exact hne this

theorem map_set_same {α β : Type} {f : α → β} {l : List α} {k : Nat} (hk : k < l.length) {x : α} (hf : f x = f l[k]) : (l.set k x).map f = l.map f := by
  rw [List.map_set, hf, show f l[k] = (l.map f)[k]'(by simpa using hk) by simp, List.set_getElem_self]

theorem TWp.mark {B : Nat} {w : World} {wb : Nat} {M : TM} {psv rowv lsv lwv litv : Value} {ys : List Value} (h : TWp B w wb M [] psv rowv lsv lwv litv ys) (k : Nat) (hk : k < M.ls.length) (i : Nat) (hi : i < M.ls[k].2.2.length) (s : ByteArray) :
    TWp B ((w.setCell ⟨M.ls[k].1, i, none⟩ (.string s)).setCell ⟨M.ls[k].2.1, i, none⟩ (.string s)) wb { M with ls := M.ls.set k (M.ls[k].1, M.ls[k].2.1, M.ls[k].2.2.set i s) } [] psv rowv lsv lwv litv ys := by
  obtain ⟨hx1, hx2, hx3⟩ := h.lists _ (List.getElem_mem hk)
  obtain ⟨hn1, hn2, hn3, hn4⟩ := nodup_parts h.apart
  have hmem := List.getElem_mem hk
  have hne := hn2 _ hmem _ hmem
  have hrow : ∀ b, rowv.ownBlock = some b → b ≠ M.ls[k].1 ∧ b ≠ M.ls[k].2.1 := fun b hb => hn1 b (by simp [hb]) _ hmem
  have hg1 : ∀ j (hj : j < M.ls.length), j ≠ k → M.ls[j].1 ≠ M.ls[k].1 := fun j hj hne2 => nodup_at (f := (·.1)) hn3 hj hk hne2
  have hg2 : ∀ j (hj : j < M.ls.length), j ≠ k → M.ls[j].2.1 ≠ M.ls[k].2.1 := fun j hj hne2 => nodup_at (f := (·.2.1)) hn4 hj hk hne2
  have hg3 : ∀ j (hj : j < M.ls.length), M.ls[j].1 ≠ M.ls[k].2.1 := fun j hj => hn2 _ (List.getElem_mem hj) _ hmem
  have hg4 : ∀ j (hj : j < M.ls.length), M.ls[j].2.1 ≠ M.ls[k].1 := fun j hj e => hn2 _ hmem _ (List.getElem_mem hj) e.symm
  have hset1 : (M.ls.set k (M.ls[k].1, M.ls[k].2.1, M.ls[k].2.2.set i s)).map (·.1) = M.ls.map (·.1) := map_set_same hk rfl
  have hset2 : (M.ls.set k (M.ls[k].1, M.ls[k].2.1, M.ls[k].2.2.set i s)).map (·.2.1) = M.ls.map (·.2.1) := map_set_same hk rfl
  have hset3 : lsCells (M.ls.set k (M.ls[k].1, M.ls[k].2.1, M.ls[k].2.2.set i s)) = lsCells M.ls := by
    unfold lsCells; exact map_set_same hk (by simp)
  have hset4 : lwCells (M.ls.set k (M.ls[k].1, M.ls[k].2.1, M.ls[k].2.2.set i s)) = lwCells M.ls := by
    unfold lwCells; exact map_set_same hk (by simp)
  generalize hga : M.ls[k].1 = ga at *
  generalize hgc : M.ls[k].2.1 = gc at *
  generalize hl : M.ls[k].2.2 = l at *
  have hsv : Save [ga, gc] w ((w.setCell ⟨ga, i, none⟩ (.string s)).setCell ⟨gc, i, none⟩ (.string s)) :=
    ((Save.set w ga i _).more (by simp)).trans ((Save.set _ gc i _).more (by simp))
  have notS : ∀ {b1 : Nat} {e : TypeId} {s1 : Nat} {v : Value} {n1 : Nat} {xs : List Value}, w.ownsRow b1 e s1 v n1 xs → e ≠ 9 → ∀ b, v.ownBlock = some b → b ∉ [ga, gc] := by
    intro b1 e s1 v n1 xs ho hT b hb hm
    simp only [List.mem_cons, List.not_mem_nil, or_false] at hm
    rcases hm with rfl | rfl
    · exact own_ne_own ho hx1 hT hb rfl
    · exact own_ne_own ho hx2 hT hb rfl
  have hwb : wb ∉ [ga, gc] := by
    intro hm
    simp only [List.mem_cons, List.not_mem_nil, or_false] at hm
    rcases hm with rfl | rfl
    · exact own_ne_box hx1 h.box (by decide) rfl rfl
    · exact own_ne_box hx2 h.box (by decide) rfl rfl
  refine ⟨h.low, h.box.save hsv hwb, own_save h.ps hsv (notS h.ps (by decide)), own_save h.row hsv (fun b hb hm => ?_), ?_, ?_, own_save h.lits hsv (notS h.lits (by decide)), by simp, h.sep, ?_, ?_, ?_, ?_⟩
  · obtain ⟨h1, h2⟩ := hrow b hb
    simp at hm; omega
  · show World.ownsRow _ _ _ _ _ (M.ls.set k _).length (lsCells (M.ls.set k _))
    rw [List.length_set, hset3]; exact own_save h.ls hsv (notS h.ls (by decide))
  · show World.ownsRow _ _ _ _ _ (M.ls.set k _).length (lwCells (M.ls.set k _))
    rw [List.length_set, hset4]; exact own_save h.lw hsv (notS h.lw (by decide))
  · show (strsOf [] rowv { M with ls := M.ls.set k _ }).Nodup
    unfold strsOf
    show ([] ++ (rowv.ownBlock.toList ++ ((M.ls.set k (ga, gc, l.set i s)).map (fun x : RowP => x.1) ++ (M.ls.set k (ga, gc, l.set i s)).map (fun x : RowP => x.2.1)))).Nodup
    rw [hset1, hset2]
    exact h.apart
  · intro x hx
    obtain ⟨j, hj, rfl⟩ := List.getElem_of_mem hx
    have hj' : j < M.ls.length := by simpa using hj
    by_cases hjk : j = k
    · subst hjk
      rw [List.getElem_set_self]
      refine ⟨(hx1.mark i hi s).stays hne, ?_, by simpa using hx3⟩
      exact (hx2.stays (Ne.symm hne)).mark i hi s
    · rw [List.getElem_set_ne (Ne.symm hjk)]
      obtain ⟨h1, h2, h3⟩ := h.lists _ (List.getElem_mem hj')
      exact ⟨(h1.stays (hg1 j hj' hjk)).stays (hg3 j hj'), (h2.stays (hg4 j hj')).stays (hg2 j hj' hjk), h3⟩
  · intro j hj
    obtain ⟨hs, h1, h2, h3⟩ := h.own j hj
    exact ⟨hs, h1, h2, own_save h3 hsv (notS h3 (by decide))⟩
  · intro p hp
    refine (h.pairs p hp).save hsv ?_ ?_
    · intro b hb
      simp only [List.mem_cons, List.not_mem_nil, or_false] at hb
      simp only [List.nil_append, mutsOf, List.mem_cons, List.mem_append, List.mem_map]
      rcases hb with rfl | rfl
      · exact Or.inr (Or.inl (Or.inl (Or.inr ⟨_, hmem, hga⟩)))
      · exact Or.inr (Or.inl (Or.inr ⟨_, hmem, hgc⟩))
    · intro b hb
      left
      simp only [List.nil_append, mutsOf] at hb ⊢
      rw [hset1, hset2] at hb
      exact hb
end Go.Proofs.YteampbddflhngaaGreat
