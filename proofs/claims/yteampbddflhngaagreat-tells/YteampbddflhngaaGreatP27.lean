import Derived.Test.YteampbddflhngaaGreatP24
import Derived.Deep.RegionHeld3

/- derivelaw.World.step in the world of Tells: what is asked of a program. -/
namespace Go.Proofs.YteampbddflhngaaGreat
open Go.RowKit
variable {lo : Nat}

theorem AskPost.kept {B : Nat} {w w1 : World} {wb : Nat} {M : TM} (h : TW B w wb M) (hb : Below w.heap.size w w1) : AskPost B w wb M (.returned (.bool true)) w1 := by
  obtain ⟨psv, rowv, lsv, lwv, litv, ys, ht⟩ := h
  exact ⟨rfl, ⟨M, ⟨psv, rowv, lsv, lwv, litv, ys, ht.below hb⟩, Grow.refl M⟩, hb.mono ht.size⟩
theorem TW.below {B : Nat} {w w' : World} {wb : Nat} {M : TM} (h : TW B w wb M) (hb : Below w.heap.size w w') : TW B w' wb M := by
  obtain ⟨psv, rowv, lsv, lwv, litv, ys, ht⟩ := h
  exact ⟨psv, rowv, lsv, lwv, litv, ys, ht.below hb⟩

set_option maxRecDepth 100000 in
set_option maxHeartbeats 4000000 in
theorem step_ask (B : Nat) (w : World) (wb : Nat) (M : TM) (k a b c : Int) (s : ByteArray) (hk : k = 12 ∨ k = 13 ∨ k = 14 ∨ k = 15 ∨ k = 16) (h : TW B w wb M) (ha : -9223372036854775808 ≤ a ∧ a ≤ 9223372036854775807) (hn : M.ps.length ≤ 1048576) (hA : AskAt B wb M k a b c s) :
    Calls Tryz.prog 57 #[.pointer (some ⟨wb, 0, none⟩), .agg #[.int .i64 k, .int .i64 a, .int .i64 b, .int .i64 c, .string s]] w fun e w' => AskPost B w wb M e w' := by
  have HTW : Hid (TW B w wb M) := h
  obtain ⟨psv, rowv, lsv, lwv, litv, ys, ht⟩ := h
  have hB := ht.size
  have hbx := ht.box
  have hps := ht.ps
  obtain ⟨aop, capp, rfl⟩ := own_view hps
  have HA : Hid (AskAt B wb M k a b c s) := hA
  have HOW : Hid (∀ W : World, Calls Tryz.prog 94 #[.pointer (some ⟨wb, 0, none⟩), .agg #[.int .i64 k, .int .i64 a, .int .i64 b, .int .i64 c, .string s]] W fun e w' => e = .returned (.bool false) ∧ Below W.heap.size W w') := fun W => owner_f W wb k a b c s (by omega)
  clear ht hA
  by_cases h0 : M.ps.length = 0
  · generalize M.ps.length = n at *
    subst h0
    rcases hk with rfl | rfl | rfl | rfl | rfl
    all_goals
      go_enter Tryz.func57, Tryz.ntmps57
      go_wp2_with (first | (go_at_call 94; refine (HOW.out _).mono ?_; rintro e w1 ⟨rfl, hb1⟩; have hob := (Box.new w #[.int .i64 _, .int .i64 a, .int .i64 b, .int .i64 c, .string s] 67).below hb1; obtain ⟨hoc, hof⟩ := hob.rules; have hol := hob.lt; have hB1 : Below w.heap.size w w1 := bnext (by repeat' (first | (with_reducible exact Below.refl _ _) | (with_reducible assumption) | (with_reducible refine bdrewN ?_ _) | (with_reducible refine Below.alloc ?_ ?_ _) | (with_reducible refine Below.drew ?_) | (with_reducible refine Below.setCell ?_ ?_ _) | go_size)) hb1 (Nat.le_refl _); have hbx1 := hbx.below hB1; obtain ⟨hc1, hf1⟩ := hbx1.rules; have hl1 := hbx1.lt))
      go_ret
      exact AskPost.kept HTW.out hB1
  · have hpos : (0 : Int) < (M.ps.length : Int) := by omega
    obtain ⟨k0, hk0⟩ : ∃ k0, k0 = pickN a M.ps.length := ⟨_, rfl⟩
    have hkl : k0 < M.ps.length := by rw [hk0]; exact pickN_lt a (by omega)
    have HPK : Hid (∀ W : World, Calls Tryz.prog 95 #[.int .i64 a, .int .i64 M.ps.length] W fun e w' => e = .returned (.int .i64 (k0 : Int)) ∧ w' = W) := fun W => by rw [hk0]; exact pickN_any W a M.ps.length (by omega) (by omega) ha
    clear hk0 h0
    obtain ⟨gp, capp', hv, _, hgp, hcl⟩ := own_cells hps (by omega)
    simp only [Value.slice.injEq] at hv
    obtain ⟨rfl, _, rfl⟩ := hv
    obtain ⟨hp0, hp1⟩ := psCells_at M.ps k0 hkl
    have hcp0 := hcl _ _ hp0
    have hcp1 := hcl _ _ hp1
    have HAS : Hid (∀ W, Below w.heap.size w W → Calls Tryz.prog 96 #[.pointer (some ⟨wb, 0, none⟩), .agg #[.pointer (some ⟨M.ps[k0].1, 0, none⟩), .pointer (some ⟨M.ps[k0].2.1, 0, none⟩)], .agg #[.int .i64 k, .int .i64 a, .int .i64 b, .int .i64 c, .string s]] W fun e w' => AskPost B W wb M e w') := fun W hW => HA.out W _ (HTW.out.below hW) (List.getElem_mem hkl)
    clear hp0 hp1 HA
    generalize M.ps[k0].1 = q1 at *
    generalize M.ps[k0].2.1 = q2 at *
    generalize hnn : M.ps.length = n at *
    clear hnn
    rcases hk with rfl | rfl | rfl | rfl | rfl
    all_goals
      go_enter Tryz.func57, Tryz.ntmps57
      go_wp2_with (first | (go_at_call 94; refine (HOW.out _).mono ?_; rintro e w1 ⟨rfl, hb1⟩; have hob := (Box.new w #[.int .i64 _, .int .i64 a, .int .i64 b, .int .i64 c, .string s] 67).below hb1; obtain ⟨hoc, hof⟩ := hob.rules; have hol := hob.lt; have hB1 : Below w.heap.size w w1 := bnext (by repeat' (first | (with_reducible exact Below.refl _ _) | (with_reducible assumption) | (with_reducible refine bdrewN ?_ _) | (with_reducible refine Below.alloc ?_ ?_ _) | (with_reducible refine Below.drew ?_) | (with_reducible refine Below.setCell ?_ ?_ _) | go_size)) hb1 (Nat.le_refl _); have hbx1 := hbx.below hB1; obtain ⟨hc1, hf1⟩ := hbx1.rules; have hl1 := hbx1.lt; have hx0 := (hB1.cell (p := ⟨gp, k0 * 2, none⟩) hgp).trans hcp0; have hx1 := (hB1.cell (p := ⟨gp, k0 * 2 + 1, none⟩) hgp).trans hcp1; have hz1 := hB1.size; have hgp1 : gp < w1.heap.size := (by omega)))
      go_region_held3 (fun w' => w'.cell? ⟨wb, 0, none⟩ = some (.slice (some ⟨gp, 0, none⟩) n capp) ∧ w'.cell? ⟨w.heap.size, 1, none⟩ = some (.int .i64 a) ∧ w'.cell? ⟨gp, k0 * 2, none⟩ = some (.pointer (some ⟨q1, 0, none⟩)) ∧ w'.cell? ⟨gp, k0 * 2 + 1, none⟩ = some (.pointer (some ⟨q2, 0, none⟩))) (go_keep) (first | (go_at_call 95; refine (HPK.out _).mono ?_; rintro e w' ⟨rfl, hww⟩; obtain rfl := hww.symm))
      all_goals
        go_wp2_with (first | (go_at_call 96; refine (HAS.out _ (by exact (by repeat' (first | (with_reducible exact Below.refl _ _) | (with_reducible assumption) | (with_reducible refine bdrewN ?_ _) | (with_reducible refine Below.alloc ?_ ?_ _) | (with_reducible refine Below.drew ?_) | (with_reducible refine Below.setCell ?_ ?_ _) | go_size)))).mono ?_; rintro e w3 ⟨rfl, hm3, hb3⟩))
        go_ret
        exact ⟨rfl, hm3, (Below.mono (w := w) (by repeat' (first | (with_reducible exact Below.refl _ _) | (with_reducible assumption) | (with_reducible refine bdrewN ?_ _) | (with_reducible refine Below.alloc ?_ ?_ _) | (with_reducible refine Below.drew ?_) | (with_reducible refine Below.setCell ?_ ?_ _) | go_size)) hB).trans hb3⟩
end Go.Proofs.YteampbddflhngaaGreat
