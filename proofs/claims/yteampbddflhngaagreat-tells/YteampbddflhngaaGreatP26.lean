import Derived.Test.YteampbddflhngaaGreatP25
import Derived.Deep.RegionHeld3

/- Walk: derivelaw.World.clause; asked: Clause. -/
namespace Go.Proofs.YteampbddflhngaaGreat
open Go.RowKit
variable {lo : Nat}

theorem ClRel.at {B : Nat} {w : World} {wb : Nat} {M : TM} {lo : Nat} {s : World} {psv rowv litv : Value} {ys : List Value} {ls : List PLit} {gs : List Nat} {g0 cb : Nat} {cc : Array Value} {k k1 : Nat} {wr : World} (h : ClRel B w wb M lo s psv rowv litv ys ls gs g0 cb cc k k1 wr) (hgl : gs.length = ls.length) (hk : k < ls.length) :
    g0 < wr.heap.size ∧ wr.cell? ⟨g0, k * 3, none⟩ = some (.bool ls[k].neg) ∧ wr.cell? ⟨g0, k * 3 + 1, none⟩ = some (.string ls[k].pred) ∧ wr.cell? ⟨g0, k * 3 + 2, none⟩ = some (.slice (some ⟨gs[k], 0, none⟩) ls[k].args.length ls[k].args.length) := by
  obtain ⟨hs, L, lsv, lwv, h1, h2, h3, h4, h5, h6, h7, h8⟩ := h
  have hkg : k < gs.length := by omega
  have e : (hs.map (mine3 M.lits.length) ++ List.zipWith lit3 (ls.drop k) (gs.drop k))[k]? = some (lit3 ls[k] gs[k]) := by
    have hl1 : (hs.map (mine3 M.lits.length)).length = k := by simp [h1]
    rw [List.getElem?_append_right (by omega), hl1, Nat.sub_self, List.drop_eq_getElem_cons hk, List.drop_eq_getElem_cons hkg]
    rfl
  obtain ⟨hlt, e2⟩ := List.getElem?_eq_some_iff.1 e
  have q := own_cell3 h4 k hlt
  rw [e2] at q
  exact q
theorem ClRel.parts {B : Nat} {w : World} {wb : Nat} {M : TM} {lo : Nat} {s : World} {psv rowv litv : Value} {ys : List Value} {ls : List PLit} {gs : List Nat} {g0 cb : Nat} {cc : Array Value} {k k1 : Nat} {wr : World} (h : ClRel B w wb M lo s psv rowv litv ys ls gs g0 cb cc k k1 wr) :
    Same lo s wr ∧ Box wr cb cc 93 ∧ (∃ lsv lwv, Box wr wb #[psv, .slice none 0 0, .slice none 0 0, .slice none 0 0, .int .i64 0, .int .i64 0, .int .i64 0, .slice none 0 0, .bool true, rowv, lsv, lwv, .slice none 0 0, litv] 35) ∧ (∃ cur, Box wr g0 cur 90) ∧ Below B w wr := by
  obtain ⟨hs, L, lsv, lwv, h1, h2, h3, h4, h5, h6, h7, h8⟩ := h
  exact ⟨h6.same, h7, ⟨_, _, h3.box⟩, own_block h4, h8⟩
theorem ClRel.below {B : Nat} {w : World} {wb : Nat} {M : TM} {lo : Nat} {s : World} {psv rowv litv : Value} {ys : List Value} {ls : List PLit} {gs : List Nat} {g0 cb : Nat} {cc : Array Value} {k k1 : Nat} {wr w' : World} (h : ClRel B w wb M lo s psv rowv litv ys ls gs g0 cb cc k k1 wr) (hb : Below wr.heap.size wr w') : ClRel B w wb M lo s psv rowv litv ys ls gs g0 cb cc k k1 w' := by
  obtain ⟨hs, L, lsv, lwv, h1, h2, h3, h4, h5, h6, h7, h8⟩ := h
  exact ⟨hs, L, lsv, lwv, h1, h2, h3.below hb, owns_below h4 hb, fun j a b c => (h5 j a b c).below hb, h6.save (Save.of (M := []) hb) (by simp) (fun b hb => Or.inl hb), h7.below hb, h8.trans (hb.mono h3.size)⟩
theorem Tryz.infoLits : (Tryz.prog.info? 91).map (fun i => (i.zero, i.size, i.bytes)) = some (some (.slice none 0 0), 1, 24) := by kernel_rfl

set_option maxRecDepth 100000 in
set_option maxHeartbeats 2000000 in
theorem wclause_no (B : Nat) (w : World) (wb : Nat) (M : TM) (p : PairP) (i : Int) (h : TW B w wb M) (hp : p ∈ M.ps) (hi : i < 0 ∨ (p.2.2.1.length : Int) ≤ i) (hn : M.lits.length ≤ 1048577) :
    Calls Tryz.prog 137 #[.pointer (some ⟨wb, 0, none⟩), .agg #[.pointer (some ⟨p.1, 0, none⟩), .pointer (some ⟨p.2.1, 0, none⟩)], .int .i64 i] w fun e w' => AskPost B w wb M e w' := by
  have hh := h
  obtain ⟨psv, rowv, lsv, lwv, litv, ys, ht⟩ := hh
  have hB := ht.size
  obtain ⟨lo, hP, hR, hT⟩ := (ht.pairs p hp).both
  obtain ⟨pb, mb, cs, t⟩ := p
  simp only at hP hR hT hi ⊢
  obtain ⟨_, cv, pv, kv, hbm, hcm, hsm, _⟩ := hR
  obtain ⟨ao, cap, rfl⟩ := hcm.shape
  have HPR : Hid (∀ W, Below w.heap.size w W → Calls Tryz.prog 50 #[.pointer (some ⟨pb, 0, none⟩), .int .i64 i] W fun e w' => e = .returned (.tuple #[.slice none 0 0, .int .i64 11]) ∧ Below W.heap.size W w') := fun W hW => prog_clause_no W pb cs t i (hP.below hW) hT.len hi
  have HWR : Hid (∀ W, Below w.heap.size w W → Calls Tryz.prog 39 #[.pointer (some ⟨wb, 0, none⟩)] W fun e w' => e = .returned (.bool true) ∧ Below W.heap.size W w') := fun W hW => written_tw B W wb M [] psv rowv lsv lwv litv ys (ht.below hW) hn
  have hcl := hT.len
  have hnil : ∀ W : World, (binOp .eql 91 (.slice none 0 0) (.slice none 0 0)).run Tryz.prog W = .ok (.bool true) W := fun W => by
    have := run_equal_slice_nil W 91 90 none 0 0 Tryz.underlying91
    simp [binOp, this]
  clear hP hT hsm hcm
  have KEY : Hid (∀ w1, Below w.heap.size w w1 → AskPost B w wb M (.returned (.bool true)) w1) := fun w1 hb => ⟨rfl, ⟨M, ⟨psv, rowv, lsv, lwv, litv, ys, ht.below hb⟩, Grow.refl M⟩, hb.mono hB⟩
  clear h ht
  rcases hi with hi | hi
  · go_enter Tryz.func137, Tryz.ntmps137
    go_wp2_with (first | (go_at_call 50; refine (HPR.out _ (by exact (by repeat' (first | (with_reducible exact Below.refl _ _) | (with_reducible assumption) | (with_reducible refine bdrewN ?_ _) | (with_reducible refine Below.alloc ?_ ?_ _) | (with_reducible refine Below.drew ?_) | (with_reducible refine Below.setCell ?_ ?_ _) | go_size)))).mono ?_; rintro e w1 ⟨rfl, hb1⟩; have hB1 : Below w.heap.size w w1 := bnext (by repeat' (first | (with_reducible exact Below.refl _ _) | (with_reducible assumption) | (with_reducible refine bdrewN ?_ _) | (with_reducible refine Below.alloc ?_ ?_ _) | (with_reducible refine Below.drew ?_) | (with_reducible refine Below.setCell ?_ ?_ _) | go_size)) hb1 (Nat.le_refl _)) | (go_at_call 39; refine (HWR.out _ hB1).mono ?_; rintro e w2 ⟨rfl, hb2⟩; have hB2 := bnext hB1 hb2 (Nat.le_refl _); have hpx := ((Box.new w #[.pointer (some ⟨pb, 0, none⟩), .pointer (some ⟨mb, 0, none⟩)] 40).below hb1).below hb2; obtain ⟨hpc, hpf⟩ := hpx.rules; have hpl := hpx.lt; have hmx := hbm.below hB2; obtain ⟨hmc, hmf⟩ := hmx.rules; have hml := hmx.lt))
    go_ret
    exact KEY.out _ hB2
  · have hi0 : ¬ i < 0 := by omega
    go_enter Tryz.func137, Tryz.ntmps137
    go_wp2_with (first | (go_at_call 50; refine (HPR.out _ (by exact (by repeat' (first | (with_reducible exact Below.refl _ _) | (with_reducible assumption) | (with_reducible refine bdrewN ?_ _) | (with_reducible refine Below.alloc ?_ ?_ _) | (with_reducible refine Below.drew ?_) | (with_reducible refine Below.setCell ?_ ?_ _) | go_size)))).mono ?_; rintro e w1 ⟨rfl, hb1⟩; have hB1 : Below w.heap.size w w1 := bnext (by repeat' (first | (with_reducible exact Below.refl _ _) | (with_reducible assumption) | (with_reducible refine bdrewN ?_ _) | (with_reducible refine Below.alloc ?_ ?_ _) | (with_reducible refine Below.drew ?_) | (with_reducible refine Below.setCell ?_ ?_ _) | go_size)) hb1 (Nat.le_refl _)) | (go_at_call 39; refine (HWR.out _ hB1).mono ?_; rintro e w2 ⟨rfl, hb2⟩; have hB2 := bnext hB1 hb2 (Nat.le_refl _); have hpx := ((Box.new w #[.pointer (some ⟨pb, 0, none⟩), .pointer (some ⟨mb, 0, none⟩)] 40).below hb1).below hb2; obtain ⟨hpc, hpf⟩ := hpx.rules; have hpl := hpx.lt; have hmx := hbm.below hB2; obtain ⟨hmc, hmf⟩ := hmx.rules; have hml := hmx.lt))
    go_ret
    exact KEY.out _ hB2

set_option maxRecDepth 100000 in
set_option maxHeartbeats 4000000 in
theorem wclause_yes (B : Nat) (w : World) (wb : Nat) (M : TM) (p : PairP) (k : Nat) (h : TW B w wb M) (hp : p ∈ M.ps) (hk : k < p.2.2.1.length) (hn : M.ls.length ≤ 8000000000) (hnl : M.lits.length ≤ 1048576) :
    Calls Tryz.prog 137 #[.pointer (some ⟨wb, 0, none⟩), .agg #[.pointer (some ⟨p.1, 0, none⟩), .pointer (some ⟨p.2.1, 0, none⟩)], .int .i64 k] w fun e w' => AskPost B w wb M e w' := by
  obtain ⟨i0, hi, hz0, hzs, hzb⟩ := info_parts Tryz.infoLits
  obtain ⟨iS, hiS, hzS, hsS, hbS⟩ := info_parts Tryz.infoString
  have hmk := fun W : World => run_make (P := Tryz.prog) (w := W) 30 9 iS _ Tryz.underlying30 hiS hzS .i64 .i64 ((M.lits.length : Int) + 1) ((M.lits.length : Int) + 1) (by omega) (Int.le_refl _) (by rw [hbS]; omega) (by omega)
  rw [hsS] at hmk
  obtain ⟨psv, rowv, lsv, lwv, litv, ys, ht⟩ := h
  have hB := ht.size
  have hlow := ht.low
  obtain ⟨lo, s, hP, hR, hT, hKp⟩ := (ht.pairs p hp).keep
  obtain ⟨pb, mb, cs, t⟩ := p
  simp only at hP hR hT hk ⊢
  have hPw := hP.same hKp.same
  obtain ⟨hmlo, cv, pv, kv, hbm, hcm, hsm, _⟩ := hR
  have hbmw := hbm.same hmlo hKp.same
  obtain ⟨ao, cap, rfl⟩ := hcm.shape
  obtain ⟨gm, ao2, cap2, ao3, cap3, rfl, hgm, hd0, hd1, hd2, hd3, hsk, hlk⟩ := hcm.cell k hk
  have hgmlo : lo ≤ gm := by obtain ⟨xs, ho, _⟩ := hcm; exact own_ge ho rfl
  have hgmw : gm < w.heap.size := Nat.lt_of_lt_of_le hgm hKp.size
  have hgw := hKp.same gm hgmlo hgm
  have hx0 : w.cell? ⟨gm, k * 4, none⟩ = _ := (World.cell?_of_block (w := s) hgw).trans hd0
  have hx1 : w.cell? ⟨gm, k * 4 + 1, none⟩ = _ := (World.cell?_of_block (w := s) hgw).trans hd1
  have hx2 : w.cell? ⟨gm, k * 4 + 2, none⟩ = _ := (World.cell?_of_block (w := s) hgw).trans hd2
  have hx3 : w.cell? ⟨gm, k * 4 + 3, none⟩ = _ := (World.cell?_of_block (w := s) hgw).trans hd3
  obtain ⟨hf1, hf2, hf3, hf4⟩ := hT.fine _ (List.getElem_mem hk)
  have hcl := hT.len
  have HCL : Hid (∀ W, Below w.heap.size w W → Calls Tryz.prog 50 #[.pointer (some ⟨pb, 0, none⟩), .int .i64 k] W fun e w' => ∃ g gs, W.heap.size ≤ g ∧ e = .returned (.tuple #[.slice (some ⟨g, 0, none⟩) (1 + cs[k].body.length) (1 + cs[k].body.length), .int .i64 0]) ∧ w'.ownsRow W.heap.size 90 3 (.slice (some ⟨g, 0, none⟩) (1 + cs[k].body.length) (1 + cs[k].body.length)) (1 + cs[k].body.length) (flat3 (List.zipWith lit3 (litsOf cs[k]) gs)) ∧ Copies W.heap.size w' (litsOf cs[k]) gs ∧ Below W.heap.size W w') := fun W hW => prog_clause_yes W pb cs t k (hPw.below hW) hT.len hk hf1
  have HWR : Hid (∀ W, Below w.heap.size w W → Calls Tryz.prog 39 #[.pointer (some ⟨wb, 0, none⟩)] W fun e w' => e = .returned (.bool true) ∧ Below W.heap.size W w') := fun W hW => written_tw B W wb M [] psv rowv lsv lwv litv ys (ht.below hW) (by omega)
  have HT : Hid (TWp B w wb M [] psv rowv lsv lwv litv ys) := ht
  have HK : Hid (Keep lo s w (mutsOf wb psv rowv lsv lwv litv M)) := hKp
  have HSK : Hid (SIn lo s (.slice ao2 cs[k].head.args.length cap2) cs[k].head.args) := hsk
  have HLK : Hid (LIn lo s (.slice ao3 cs[k].body.length cap3) cs[k].body) := hlk
  have HFI : Hid (∀ l ∈ litsOf cs[k], LitFine l) := hf1.1
  clear hP hPw hT hsm hcm hd0 hd1 hd2 hd3 hgw ht hKp hsk hlk hf1 hf2 hf4 hbm
  obtain ⟨aoi, capi, hvi⟩ := own_view HT.out.lits
  subst hvi
  generalize cs[k] = c at *
  go_enter Tryz.func137, Tryz.ntmps137
  go_wp2_with (first | (go_at_call 50; refine (HCL.out _ (by exact (by repeat' (first | (with_reducible exact Below.refl _ _) | (with_reducible assumption) | (with_reducible refine bdrewN ?_ _) | (with_reducible refine Below.alloc ?_ ?_ _) | (with_reducible refine Below.drew ?_) | (with_reducible refine Below.setCell ?_ ?_ _) | go_size)))).mono ?_; rintro e w1 ⟨g0, gs, hg0, rfl, hrow, hcop, hb1⟩; have hB1 : Below w.heap.size w w1 := bnext (by repeat' (first | (with_reducible exact Below.refl _ _) | (with_reducible assumption) | (with_reducible refine bdrewN ?_ _) | (with_reducible refine Below.alloc ?_ ?_ _) | (with_reducible refine Below.drew ?_) | (with_reducible refine Below.setCell ?_ ?_ _) | go_size)) hb1 (Nat.le_refl _)) | (go_at_call 39; refine (HWR.out _ hB1).mono ?_; rintro e w2 ⟨rfl, hb2⟩; have hB2 := bnext hB1 hb2 (Nat.le_refl _); have hpx := ((Box.new w #[.pointer (some ⟨pb, 0, none⟩), .pointer (some ⟨mb, 0, none⟩)] 40).below hb1).below hb2; obtain ⟨hpc, hpf⟩ := hpx.rules; have hpl := hpx.lt; have hmx := hbmw.below hB2; obtain ⟨hmc, hmf⟩ := hmx.rules; have hml := hmx.lt; have hy0 := (hB2.cell (p := ⟨gm, k * 4, none⟩) hgmw).trans hx0; have hy1 := (hB2.cell (p := ⟨gm, k * 4 + 1, none⟩) hgmw).trans hx1; have hy2 := (hB2.cell (p := ⟨gm, k * 4 + 2, none⟩) hgmw).trans hx2; have hy3 := (hB2.cell (p := ⟨gm, k * 4 + 3, none⟩) hgmw).trans hx3; have hz2 := hB2.size; have hgm2 : gm < w2.heap.size := (by omega)))
  have e1 : 1 + c.body.length = (litsOf c).length := by simp [litsOf]; omega
  rw [e1] at hrow ⊢
  have hls6 : (litsOf c).length ≤ 7 := by omega
  obtain ⟨ls, hls⟩ : ∃ ls, ls = litsOf c := ⟨_, rfl⟩
  rw [← hls] at hrow hcop hls6 ⊢
  have HLS : Hid (ls = c.head :: c.body) := hls
  have HFI2 : Hid (∀ l ∈ ls, LitFine l) := by rw [Hid, hls]; exact HFI.out
  clear hls e1 HCL HWR HFI hpc hpf hmc hmf hy0 hy1 hy2 hy3
  have hzW : w.heap.size ≤ (w.alloc (.cells #[.pointer (some ⟨pb, 0, none⟩), .pointer (some ⟨mb, 0, none⟩)] 40)).heap.size := by simp
  have hgl : gs.length = ls.length := hcop.1
  have hB3 : Below w.heap.size w (w2.alloc (.cells #[.bool c.head.neg, .string c.head.pred, .slice ao2 c.head.args.length cap2, .slice ao3 c.body.length cap3] 93)) := hB2.alloc hz2 _
  have hb23 : Below w1.heap.size w1 (w2.alloc (.cells #[.bool c.head.neg, .string c.head.pred, .slice ao2 c.head.args.length cap2, .slice ao3 c.body.length cap3] 93)) := hb2.alloc hb2.size _
  have hgM : ∀ x ∈ M.lits, x.1 ≠ g0 := fun x hx e => by
    have := HT.out.lt x.1 (by simp only [mutsOf, List.mem_cons, List.mem_append, List.mem_map]; exact Or.inr (Or.inr ⟨x, hx, rfl⟩))
    omega
  have HST : Hid (ClRel B w wb M lo s psv rowv (.slice aoi M.lits.length capi) ys ls gs g0 w2.heap.size #[.bool c.head.neg, .string c.head.pred, .slice ao2 c.head.args.length cap2, .slice ao3 c.body.length cap3] 0 0 (w2.alloc (.cells #[.bool c.head.neg, .string c.head.pred, .slice ao2 c.head.args.length cap2, .slice ao3 c.body.length cap3] 93))) := by
    have hz3 := hb23.size
    have hrl : g0 < w1.heap.size := own_lt hrow rfl
    have hgs : ∀ b ∈ gs, w.heap.size ≤ b ∧ b < w1.heap.size := fun b hb => by
      obtain ⟨j, hj, rfl⟩ := List.getElem_of_mem hb
      have := (hcop.2.2 j (by omega) hj).1
      exact ⟨by omega, hcop.lt _ hb⟩
    have hno : g0 ∉ gs := fun hm => by
      obtain ⟨j, hj, e⟩ := List.getElem_of_mem hm
      exact own_ne_own (hcop.2.2 j (by omega) hj).2 hrow (by decide) rfl (by rw [e]; rfl)
    refine ⟨[], M.ls, lsv, lwv, rfl, rfl, HT.out.reserve hB3 (R := gs ++ [g0]) ?_ ?_ ?_, ?_, ?_, ?_, Box.new _ _ _, hB3.mono hB⟩
    · intro b hb
      rcases List.mem_append.1 hb with h1 | h1
      · exact (hgs b h1).1
      · simp at h1; omega
    · intro b hb
      rcases List.mem_append.1 hb with h1 | h1
      · have := (hgs b h1).2; omega
      · simp at h1; omega
    · rw [List.nodup_append]
      refine ⟨hcop.2.1.imp Nat.ne_of_lt, by simp, fun a ha b hb e => ?_⟩
      simp at hb
      subst hb
      subst e
      exact hno ha
    · exact own_low (owns_below hrow hb23) (by omega)
    · intro j h1 h2 _
      exact ((hcop.2.2 j h1 h2).2.below hb23).low (by omega)
    · refine HK.out.save (Save.of (M := []) hB3) (by simp) (fun b hb => ?_)
      rcases List.mem_append.1 hb with h1 | h1
      · rcases List.mem_append.1 h1 with h2 | h2
        · exact Or.inr (hgs b h2).1
        · simp at h2; right; omega
      · exact Or.inl h1
  clear hrow hcop hb23 hg0 hB1 hb1 hb2 hmx hpx HK HT
  generalize w2.alloc (.cells #[.bool c.head.neg, .string c.head.pred, .slice ao2 c.head.args.length cap2, .slice ao3 c.body.length cap3] 93) = w3 at *
  generalize decide (cs.length ≤ k) = bb1
  generalize decide ((k : Int) < 0) = bb2
  clear hgm2 hz2 hpl hml hx0 hx1 hx2 hx3
  go_loopw [11] (fun v11 wr => ∃ i : Nat, i ≤ ls.length ∧ v11 = .int .i64 i ∧ Hid (ClRel B w wb M lo s psv rowv (.slice aoi M.lits.length capi) ys ls gs g0 w2.heap.size #[.bool c.head.neg, .string c.head.pred, .slice ao2 c.head.args.length cap2, .slice ao3 c.body.length cap3] i i wr)) (fun v11 _ => ls.length - (intOf v11).toNat)
  case atStart => exact ⟨0, Nat.zero_le _, rfl, HST⟩
  case round =>
    clear HST hB3
    obtain ⟨i, hi1, rfl, HR⟩ := hrel
    obtain ⟨hsame, hcb, ⟨lsv', lwv', hwb⟩, _, hBw⟩ := HR.out.parts
    obtain ⟨hcc, hcf⟩ := hcb.rules
    have hcl2 := hcb.lt
    obtain ⟨hwc, hwf⟩ := hwb.rules
    have hwl := hwb.lt
    by_cases hlt : i < ls.length
    · obtain ⟨hgl0, hq0, hq1, hq2⟩ := HR.out.at hgl hlt
      have HTX : Hid (∀ (W2 : World) (vb : Value) (lo2 : Nat), Below wr.heap.size wr W2 → SIn lo2 W2 vb ls[i].args → Calls Tryz.prog 41 #[.pointer (some ⟨wb, 0, none⟩), .slice (some ⟨gs[i], 0, none⟩) ls[i].args.length ls[i].args.length, vb] W2 fun e w' => e = .returned (.bool true) ∧ ClRel B w wb M lo s psv rowv (.slice aoi M.lits.length capi) ys ls gs g0 w2.heap.size #[.bool c.head.neg, .string c.head.pred, .slice ao2 c.head.args.length cap2, .slice ao3 c.body.length cap3] i (i + 1) w' ∧ (∀ b, wr.heap.size ≤ b → b < W2.heap.size → w'.heap[b]? = W2.heap[b]?) ∧ W2.heap.size ≤ w'.heap.size) := fun W2 vb lo2 h1 h2 => texts_cl HR.out hgl hlt h1 h2 (HFI2.out _ (List.getElem_mem hlt)).2.2.1 (by omega)
      have HAT : Hid (∀ W, ClRel B w wb M lo s psv rowv (.slice aoi M.lits.length capi) ys ls gs g0 w2.heap.size #[.bool c.head.neg, .string c.head.pred, .slice ao2 c.head.args.length cap2, .slice ao3 c.body.length cap3] i (i + 1) W → g0 < W.heap.size ∧ W.cell? ⟨g0, i * 3, none⟩ = some (.bool ls[i].neg) ∧ W.cell? ⟨g0, i * 3 + 1, none⟩ = some (.string ls[i].pred) ∧ W.cell? ⟨g0, i * 3 + 2, none⟩ = some (.slice (some ⟨gs[i], 0, none⟩) ls[i].args.length ls[i].args.length)) := fun W h => h.at hgl hlt
      have hse := seq_true (rfl : ls[i].pred = ls[i].pred)
      cases i with
      | zero =>
        have e0 : ls[0] = c.head := by simp [HLS.out]
        have hsk := HSK.out.same hsame
        rw [e0] at hq0 hq1 hq2 HTX HAT hse
        generalize gs[0] = gi at *
        simp only [Nat.zero_mul, Nat.zero_add] at hq0 hq1 hq2 HAT
        clear e0
        have hBm : Below wr.heap.size wr (wr.alloc (.cells #[.bool c.head.neg, .string c.head.pred, .slice ao2 c.head.args.length cap2] 90)) := (Below.refl _ _).alloc (Nat.le_refl _) _
        have hbxm := Box.new wr #[.bool c.head.neg, .string c.head.pred, .slice ao2 c.head.args.length cap2] 90
        go_wp2
        go_region_held3 (fun w' => w'.cell? ⟨g0, 2, none⟩ = some (.slice (some ⟨gi, 0, none⟩) c.head.args.length c.head.args.length) ∧ w'.cell? ⟨wr.heap.size, 2, none⟩ = some (.slice ao2 c.head.args.length cap2)) (go_keep) (first | (go_at_call 41; refine (HTX.out _ _ lo (by exact (by repeat' (first | (with_reducible exact Below.refl _ _) | (with_reducible assumption) | (with_reducible refine bdrewN ?_ _) | (with_reducible refine Below.alloc ?_ ?_ _) | (with_reducible refine Below.drew ?_) | (with_reducible refine Below.setCell ?_ ?_ _) | go_size))) (hsk.below (by exact (by repeat' (first | (with_reducible exact Below.refl _ _) | (with_reducible assumption) | (with_reducible refine bdrewN ?_ _) | (with_reducible refine Below.alloc ?_ ?_ _) | (with_reducible refine Below.drew ?_) | (with_reducible refine Below.setCell ?_ ?_ _) | go_size))))).mono ?_; rintro e w4 ⟨rfl, hcr, hkp, hz4⟩; obtain ⟨hg4, hr0, hr1, hr2⟩ := HAT.out _ hcr; have hm4 : Box w4 wr.heap.size #[.bool c.head.neg, .string c.head.pred, .slice ao2 c.head.args.length cap2] 90 := (hkp _ (Nat.le_refl _) (by simp)).trans hbxm; obtain ⟨hm4c, hm4f⟩ := hm4.rules; have hm4l := hm4.lt; have hm4x := hm4c 2; simp only [List.getElem?_toArray, List.getElem?_cons_succ, List.getElem?_cons_zero] at hm4x))
        go_wp2
        go_quiet (fail)
        have hcr5 := hcr.below (bdrewN (Below.refl _ _) nq)
        clear hr0 hr1 hr2 hm4 hm4c hm4f hm4l hm4x hkp hz4 hcr hg4 hq0 hq1 hq2 HTX hcc hcf hwc hwf hBm hbxm
        generalize w4.drewN nq = w5 at *
        obtain ⟨_, _, ⟨lsv5, lwv5, hwb5⟩, ⟨cur5, hg5⟩, _⟩ := hcr5.parts
        obtain ⟨hg5l, hr0, hr1, hr2⟩ := HAT.out _ hcr5
        obtain ⟨hwc5, hwf5⟩ := hwb5.rules
        have hwl5 := hwb5.lt
        have hgf5 := hg5.rules.2
        have hgw5 : g0 ≠ wb := box_ne_box hg5 hwb5 (by decide)
        have HNX : Hid (ClRel B w wb M lo s psv rowv (.slice aoi M.lits.length capi) ys ls gs g0 w2.heap.size #[.bool c.head.neg, .string c.head.pred, .slice ao2 c.head.args.length cap2, .slice ao3 c.body.length cap3] (0) (0 + 1) w5) := hcr5
        clear hcr5
        go_wp2
        go_roundw
        case rel => exact ⟨0 + 1, by omega, by go_num, HNX.out.next hgl hlt hgM _ rfl⟩
        case measure => simp [intOf]; omega
      | succ j =>
        have hjl : j < c.body.length := by rw [HLS.out] at hlt; simpa using hlt
        have e0 : ls[j + 1] = c.body[j] := by simp [HLS.out]
        obtain ⟨gb, aol, capl, hao3, hgb, hb0, hb1, hb2, hsk⟩ := (HLK.out.same hsame).cell j hjl
        subst hao3
        rw [e0] at hq0 hq1 hq2 HTX HAT hse
        clear e0
        have hjA : (0 : Int) ≤ (j : Int) + 1 := by omega
        have hjB : (j : Int) + 1 < (ls.length : Int) := by omega
        generalize c.body[j] = a at *
        generalize gs[j + 1] = gi at *
        have hBm : Below wr.heap.size wr (wr.alloc (.cells #[.bool a.neg, .string a.pred, .slice aol a.args.length capl] 90)) := (Below.refl _ _).alloc (Nat.le_refl _) _
        have hbxm := Box.new wr #[.bool a.neg, .string a.pred, .slice aol a.args.length capl] 90
        go_wp2
        go_region_held3 (fun w' => w'.cell? ⟨g0, (j + 1) * 3 + 2, none⟩ = some (.slice (some ⟨gi, 0, none⟩) a.args.length a.args.length) ∧ w'.cell? ⟨wr.heap.size, 2, none⟩ = some (.slice aol a.args.length capl)) (go_keep) (first | (go_at_call 41; refine (HTX.out _ _ lo (by exact (by repeat' (first | (with_reducible exact Below.refl _ _) | (with_reducible assumption) | (with_reducible refine bdrewN ?_ _) | (with_reducible refine Below.alloc ?_ ?_ _) | (with_reducible refine Below.drew ?_) | (with_reducible refine Below.setCell ?_ ?_ _) | go_size))) (hsk.below (by exact (by repeat' (first | (with_reducible exact Below.refl _ _) | (with_reducible assumption) | (with_reducible refine bdrewN ?_ _) | (with_reducible refine Below.alloc ?_ ?_ _) | (with_reducible refine Below.drew ?_) | (with_reducible refine Below.setCell ?_ ?_ _) | go_size))))).mono ?_; rintro e w4 ⟨rfl, hcr, hkp, hz4⟩; obtain ⟨hg4, hr0, hr1, hr2⟩ := HAT.out _ hcr; have hm4 : Box w4 wr.heap.size #[.bool a.neg, .string a.pred, .slice aol a.args.length capl] 90 := (hkp _ (Nat.le_refl _) (by simp)).trans hbxm; obtain ⟨hm4c, hm4f⟩ := hm4.rules; have hm4l := hm4.lt; have hm4x := hm4c 2; simp only [List.getElem?_toArray, List.getElem?_cons_succ, List.getElem?_cons_zero] at hm4x))
        go_wp2
        go_quiet (fail)
        have hcr5 := hcr.below (bdrewN (Below.refl _ _) nq)
        clear hr0 hr1 hr2 hm4 hm4c hm4f hm4l hm4x hkp hz4 hcr hg4 hq0 hq1 hq2 HTX hcc hcf hwc hwf hBm hbxm
        generalize w4.drewN nq = w5 at *
        obtain ⟨_, _, ⟨lsv5, lwv5, hwb5⟩, ⟨cur5, hg5⟩, _⟩ := hcr5.parts
        obtain ⟨hg5l, hr0, hr1, hr2⟩ := HAT.out _ hcr5
        obtain ⟨hwc5, hwf5⟩ := hwb5.rules
        have hwl5 := hwb5.lt
        have hgf5 := hg5.rules.2
        have hgw5 : g0 ≠ wb := box_ne_box hg5 hwb5 (by decide)
        have HNX : Hid (ClRel B w wb M lo s psv rowv (.slice aoi M.lits.length capi) ys ls gs g0 w2.heap.size #[.bool c.head.neg, .string c.head.pred, .slice ao2 c.head.args.length cap2, ((.slice (some ⟨gb, 0, none⟩) c.body.length cap3))] (j + 1) (j + 1 + 1) w5) := hcr5
        clear hcr5
        go_wp2
        go_roundw
        case rel => exact ⟨j + 1 + 1, by omega, by go_num, HNX.out.next hgl hlt hgM _ rfl⟩
        case measure => simp [intOf]; omega
    · obtain rfl : i = ls.length := by omega
      clear HSK HLK hmk hcc hcf
      have HR2 : Hid (ClRel B w wb M lo s psv rowv (.slice aoi M.lits.length capi) ys ls gs g0 w2.heap.size #[.bool c.head.neg, .string c.head.pred, .slice ao2 c.head.args.length cap2, .slice ao3 c.body.length cap3] ls.length ls.length wr) := HR
      obtain ⟨hs, L, lsv6, lwv6, h1, h2, h3, h4, h5, h6, h7, h8⟩ := HR.out
      rw [List.drop_of_length_le (by omega), List.nil_append] at h3
      rw [List.drop_of_length_le (Nat.le_refl _), List.zipWith_nil_left, List.append_nil] at h4
      have hlits := h3.lits
      have H3 : Hid (TWp B wr wb { M with ls := L } [g0] psv rowv lsv6 lwv6 (.slice aoi M.lits.length capi) ys) := h3
      have H4 : Hid (wr.ownsRow B 90 3 (sl g0 ls.length) ls.length (flat3 (hs.map (mine3 M.lits.length)))) := h4
      have hBz := h3.size
      have hwbx := h3.box
      clear h3 h4 h5 h6 h7 HR HR2 hcb hwb hwc hwf
      obtain ⟨hwc, hwf⟩ := hwbx.rules
      simp only at hlits
      go_wp2_with (first | (at_builtin; refine wpList_push2 _ _ [.slice (some ⟨g0, 0, none⟩) ls.length ls.length] _ rfl (.tmp 131) (.tmp 133) 33 rfl B 91 i0 _ 1 24 Tryz.underlying33 hi hz0 hzs hzb rfl (by decide) (.slice aoi M.lits.length capi) M.lits.length (litVs3 M.lits) rfl hlits (Below.refl _ _) _ _ rfl (by simp) rfl (by simp [Value.oneCell']) (by omega) (by omega) (by omega) ?_; intro v' w7 ho7 hS7 hat7; obtain ⟨ao7, cap7, rfl⟩ := own_view ho7; have hbx7 := hwbx.save hS7 (own_ne_list hlits hwbx (by decide)); obtain ⟨hc7, hf7⟩ := hbx7.rules; have hlt7 := hbx7.lt))
      go_ret
      refine ⟨rfl, ⟨_, ⟨_, _, _, _, _, _, H3.out.addlit h1 (by omega) H4.out hS7 ho7 hat7⟩, ⟨by simp, by simp, by simp only; omega, by simp⟩⟩, (h8.trans (hS7.below (fun x hx => own_ge hlits (mem_own hx)) hBz)).setCell hlow _⟩

theorem asked_14 (B : Nat) (w : World) (wb : Nat) (M : TM) (p : PairP) (a b c : Int) (s : ByteArray) (h : TW B w wb M) (hp : p ∈ M.ps) (hn : M.ls.length ≤ 8000000000) (hnl : M.lits.length ≤ 1048576) :
    Calls Tryz.prog 96 #[.pointer (some ⟨wb, 0, none⟩), .agg #[.pointer (some ⟨p.1, 0, none⟩), .pointer (some ⟨p.2.1, 0, none⟩)], .agg #[.int .i64 14, .int .i64 a, .int .i64 b, .int .i64 c, .string s]] w fun e w' => AskPost B w wb M e w' := by
  obtain ⟨psv, rowv, lsv, lwv, litv, ys, ht⟩ := h
  have hB := ht.size
  have HV : Hid (∀ W, Below w.heap.size w W → Calls Tryz.prog 137 #[.pointer (some ⟨wb, 0, none⟩), .agg #[.pointer (some ⟨p.1, 0, none⟩), .pointer (some ⟨p.2.1, 0, none⟩)], .int .i64 b] W fun e w' => AskPost B W wb M e w') := fun W hW => by
    have hW' : TW B W wb M := ⟨psv, rowv, lsv, lwv, litv, ys, ht.below hW⟩
    by_cases hi : b < 0 ∨ (p.2.2.1.length : Int) ≤ b
    · exact wclause_no B W wb M p b hW' hp hi (by omega)
    · obtain ⟨k, rfl⟩ : ∃ k : Nat, b = k := ⟨b.toNat, by omega⟩
      exact wclause_yes B W wb M p k hW' hp (by omega) hn hnl
  clear ht
  go_enter Tryz.func96, Tryz.ntmps96
  go_wp2_with (first | (go_at_call 137; refine (HV.out _ (by exact (by repeat' (first | (with_reducible exact Below.refl _ _) | (with_reducible assumption) | (with_reducible refine bdrewN ?_ _) | (with_reducible refine Below.alloc ?_ ?_ _) | (with_reducible refine Below.drew ?_) | (with_reducible refine Below.setCell ?_ ?_ _) | go_size)))).mono ?_; rintro e w1 ⟨rfl, hm1, hb1⟩))
  go_ret
  exact ⟨rfl, hm1, (Below.mono (w := w) (by repeat' (first | (with_reducible exact Below.refl _ _) | (with_reducible assumption) | (with_reducible refine bdrewN ?_ _) | (with_reducible refine Below.alloc ?_ ?_ _) | (with_reducible refine Below.drew ?_) | (with_reducible refine Below.setCell ?_ ?_ _) | go_size)) hB).trans hb1⟩
end Go.Proofs.YteampbddflhngaaGreat
