import Derived.Test.YteampbddflhngaaGreatP10

/- Walks: deriveref.Program.wrong. -/
namespace Go.Proofs.YteampbddflhngaaGreat
open Go.RowKit
variable {lo : Nat}

def manyH (c : PClause) : Bool := decide (6 < c.body.length) || decide (5 < (allVs c).length)
def longL (l : PLit) : Bool := decide (3 < l.args.length)
def manyR (c : PClause) : Bool := manyH c || (litsOf c).any longL
def safeR (c : PClause) : Bool := (allVs c).all fun v => memB v (plainVs c)
def arityR (cs : List PClause) (c : PClause) : Bool := (litsOf c).any (otherB cs)
def wrongB (cs : List PClause) : Int := if cs.any manyR then 4 else if cs.any (arityR cs) then 5 else if cs.all safeR then 0 else 6
theorem any_take {α : Type} (l : List α) (p : α → Bool) (k : Nat) (hk : k < l.length) : (l.take (k + 1)).any p = ((l.take k).any p || p l[k]) := by rw [List.take_succ_eq_append_getElem hk, List.any_append]; simp
theorem all_take {α : Type} (l : List α) (p : α → Bool) (k : Nat) (hk : k < l.length) : (l.take (k + 1)).all p = ((l.take k).all p && p l[k]) := by rw [List.take_succ_eq_append_getElem hk, List.all_append]; simp

set_option maxRecDepth 100000 in
set_option maxHeartbeats 4000000 in
theorem rwrong_any (w : World) (pb : Nat) (cv v1 v2 : Value) (cs : List PClause) (hp : Box w pb #[cv, v1, v2] 45) (hcs : CIn lo 93 w cv cs) (hok : ∀ c ∈ cs, ClOK c ∧ c.body.length ≤ 999 ∧ sumArgs (litsOf c) ≤ 1000 ∧ ∀ l ∈ litsOf c, ∀ t ∈ l.args, 0 < t.size) (hl : cs.length ≤ 1000) :
    Calls Tryz.prog 67 #[.pointer (some ⟨pb, 0, none⟩)] w fun e w' => e = .returned (.int .i64 (wrongB cs)) ∧ Below w.heap.size w w' := by
  obtain ⟨ao, cap, rfl⟩ := hcs.shape
  have HOKK : Hid (∀ c ∈ cs, ClOK c ∧ c.body.length ≤ 999 ∧ sumArgs (litsOf c) ≤ 1000 ∧ ∀ l ∈ litsOf c, ∀ t ∈ l.args, 0 < t.size) := hok
  have HOK : Hid (∀ c ∈ cs, ClOK c) := fun c hc => (hok c hc).1
  clear hok
  go_enter Tryz.func67, Tryz.ntmps67
  go_wp2
  go_loopw [3, 4, 5, 6] (fun v3 v4 v5 v6 wr => ∃ (k : Nat) (m a s : Bool), k ≤ cs.length ∧ v6 = .int .i64 k ∧ v3 = .bool m ∧ v4 = .bool a ∧ v5 = .bool s ∧ Below w.heap.size w wr ∧ Box wr pb #[.slice ao cs.length cap, v1, v2] 45 ∧ Hid (m = (cs.take k).any manyR) ∧ Hid (a = (cs.take k).any (arityR cs)) ∧ Hid (s = (cs.take k).all safeR)) (fun _ _ _ i _ => cs.length - (intOf i).toNat)
  case atStart => exact ⟨0, false, false, true, Nat.zero_le _, rfl, rfl, rfl, rfl, Below.refl _ _, hp, rfl, rfl, rfl⟩
  case round =>
    obtain ⟨k, m, a, s, hk, rfl, rfl, rfl, rfl, hbk, hpx, HM, HA, HS⟩ := hrel
    obtain ⟨hpc, hpf⟩ := hpx.rules
    have hszk := hbk.size
    by_cases hlt : k < cs.length
    · obtain ⟨g, ao2, cap2, ao3, cap3, rfl, hat⟩ := hcs.at k hlt
      obtain ⟨⟨hk1, hk2⟩, hk3, hk4, hk5⟩ := HOKK.out _ (List.getElem_mem hlt)
      have HKM : Hid ((cs.take (k + 1)).any manyR = ((cs.take k).any manyR || manyR cs[k])) := any_take cs manyR k hlt
      have HKA : Hid ((cs.take (k + 1)).any (arityR cs) = ((cs.take k).any (arityR cs) || arityR cs cs[k])) := any_take cs (arityR cs) k hlt
      have HKS : Hid ((cs.take (k + 1)).all safeR = ((cs.take k).all safeR && safeR cs[k])) := all_take cs safeR k hlt
      generalize cs[k] = c at *
      have HSUM : Hid (sumArgs (litsOf c) ≤ 1000) := hk4
      have HZC : Hid (∀ l ∈ litsOf c, ∀ t ∈ l.args, 0 < t.size) := hk5
      have hpl : (plainVs c).length ≤ 1000 := by have := plainV_len c.body []; unfold plainVs; simp at this; omega
      have hal : (allVs c).length ≤ 1000 := by have h1 := litVs_len c.body (addVs [] c.head.args); have h2 := addVs_len c.head.args []; unfold allVs; simp at h2; omega
      have hll : (litsOf c).length ≤ 1000 := by simp [litsOf]; omega
      clear hk4 hk5
      cases m with
      | true =>
        have HM1 : Hid ((true || manyH c) = true) := by simp [Hid]
        go_wp2_with (first | (go_at_call 108; have hq := hB1; refine (rvars_any _ true g (k * 4) c _ _ _ _ (by exact hat.below hq) (by omega) HSUM.out HZC.out).mono ?_; rintro e w2 ⟨vpv, rfl, hsp, hb2⟩; rw [refV_plain] at hsp; obtain ⟨aop, capp, rfl⟩ := hsp.shape; have hB2 := bnext hB1 hb2 (Nat.le_refl _); have hsa2 := hsa.below hb2; have hat2 := hat.below hB2; have hc3 := hat2.c3; have hglt := hat2.lt; have hz2 := hB2.size; have hpx2 := (hpx.below hb1).below hb2; clear hq) | (go_at_call 108; have hq := hbk; refine (rvars_any _ false g (k * 4) c _ _ _ _ (by exact hat.below hq) (by omega) HSUM.out HZC.out).mono ?_; rintro e w1 ⟨vav, rfl, hsa, hb1⟩; rw [refV_all] at hsa; obtain ⟨aoa, capa, rfl⟩ := hsa.shape; have hB1 := bnext hbk hb1 (Nat.le_refl _); clear hbk hq))
        go_loopw [5, 10] (fun v5 v10 wj => ∃ (j : Nat) (s2 : Bool), j ≤ (allVs c).length ∧ v10 = .int .i64 j ∧ v5 = .bool s2 ∧ Below w2.heap.size w2 wj ∧ Hid (s2 = (s && ((allVs c).take j).all fun v => memB v (plainVs c)))) (fun _ i _ => (allVs c).length - (intOf i).toNat)
        case atStart => exact ⟨0, s, Nat.zero_le _, rfl, rfl, Below.refl _ _, (by simp [Hid])⟩
        case round =>
          obtain ⟨j, s2, hj, rfl, rfl, hbj, HS2⟩ := hrel
          have hszj := hbj.size
          by_cases hjl : j < (allVs c).length
          · obtain ⟨ga, rfl, hga, hca⟩ := hsa2.cell j hjl
            have hxa := (hbj.cell (p := ⟨ga, j, none⟩) hga).trans hca
            have hgaj : ga < wr.heap.size := by omega
            have hta := all_take (allVs c) (fun v => memB v (plainVs c)) j hjl
            clear hca
            generalize (allVs c)[j] = x1 at *
            have HS3 : Hid ((s && ((allVs c).take (j + 1)).all fun v => memB v (plainVs c)) = (s2 && memB x1 (plainVs c))) := by rw [Hid, hta, HS2.out, Bool.and_assoc]
            clear hta HS2
            cases s2 with
            | true =>
              go_wp2_with (first | (go_at_call 109; refine (rhas_any _ _ (plainVs c) x1 (by exact hsp.below hbj) (by omega)).mono ?_; rintro e w' ⟨rfl, hww⟩; obtain rfl := hww.symm))
              go_roundw
              case rel => exact ⟨j + 1, memB x1 (plainVs c), by omega, by go_num, rfl, hbj, (by rw [Hid, HS3.out]; rfl)⟩
              case measure => simp [intOf]; omega
            | false =>
              go_wp2_with (first | (go_at_call 109; refine (rhas_any _ _ (plainVs c) x1 (by exact hsp.below hbj) (by omega)).mono ?_; rintro e w' ⟨rfl, hww⟩; obtain rfl := hww.symm))
              go_roundw
              case rel => exact ⟨j + 1, false, by omega, by go_num, rfl, hbj, (by rw [Hid, HS3.out]; rfl)⟩
              case measure => simp [intOf]; omega
          · have hje : (allVs c).take j = allVs c := List.take_of_length_le (by omega)
            have HS4 : Hid (s2 = (cs.take (k + 1)).all safeR) := by rw [Hid, HS2.out, hje, HKS.out, HS.out]; rfl
            clear HS2
            go_wp2_with (first | (go_at_call 68; refine (rall_any _ g (k * 4) c _ _ _ _ (by exact hat2.below hbj) (by omega)).mono ?_; rintro e w3 ⟨lv, rfl, hlin, hb3⟩; obtain ⟨aol, capl, rfl⟩ := hlin.shape; have hB3 := bnext hB2 (bnext hbj hb3 (Nat.le_refl _)) (Nat.le_refl _); have hpx3 := (hpx2.below hbj).below hb3))
            go_loopw [3, 4, 13] (fun v3 v4 v13 wq => ∃ (q : Nat) (m2 a2 : Bool), q ≤ (litsOf c).length ∧ v13 = .int .i64 q ∧ v3 = .bool m2 ∧ v4 = .bool a2 ∧ Below w3.heap.size w3 wq ∧ Hid (m2 = (true || ((litsOf c).take q).any longL)) ∧ Hid (a2 = (a || ((litsOf c).take q).any (otherB cs)))) (fun _ _ i _ => (litsOf c).length - (intOf i).toNat)
            case atStart => exact ⟨0, true, a, Nat.zero_le _, rfl, (by first | rfl | (simp; omega) | (simp; done)), rfl, Below.refl _ _, (by simp [Hid]), (by simp [Hid])⟩
            case round =>
              obtain ⟨q, m2, a2, hq, rfl, rfl, rfl, hbq, HM2, HA2⟩ := hrel
              have hszq := hbq.size
              by_cases hql : q < (litsOf c).length
              · obtain ⟨gl, aoq, capq, rfl, hgl, hq0, hq1, hq2, hsk⟩ := hlin.cell q hql
                have he0 := (hbq.cell (p := ⟨gl, q * 3, none⟩) hgl).trans hq0
                have he1 := (hbq.cell (p := ⟨gl, q * 3 + 1, none⟩) hgl).trans hq1
                have he2 := (hbq.cell (p := ⟨gl, q * 3 + 2, none⟩) hgl).trans hq2
                have hgq : gl < wr.heap.size := by omega
                have hta := any_take (litsOf c) longL q hql
                have htb := any_take (litsOf c) (otherB cs) q hql
                clear hq0 hq1 hq2
                generalize (litsOf c)[q] = a1 at *
                have HM3 : Hid ((true || ((litsOf c).take (q + 1)).any longL) = (m2 || longL a1)) := by rw [Hid, hta, HM2.out, Bool.or_assoc]
                have HA3 : Hid ((a || ((litsOf c).take (q + 1)).any (otherB cs)) = (a2 || otherB cs a1)) := by rw [Hid, htb, HA2.out, Bool.or_assoc]
                clear hta htb HM2 HA2
                cases m2 with
                | true =>
                  cases a2 with
                  | true =>
                    go_wp2_with (first | (go_at_call 110; refine (rother_any _ pb _ _ _ cs a1 _ (by exact hpx3.below hbq) (by exact hcs.below (bnext hB3 hbq (Nat.le_refl _))) HOK.out hl (by exact hsk.below hbq)).mono ?_; rintro e w5 ⟨rfl, hb5⟩))
                    go_roundw
                    case rel => exact ⟨q + 1, true, true, by omega, by go_num, (by first | rfl | (simp; omega) | (simp; done)), rfl, bnext hbq hb5 (Nat.le_refl _), (by rw [Hid, HM3.out]; rfl), (by rw [Hid, HA3.out]; rfl)⟩
                    case measure => simp [intOf]; omega
                  | false =>
                    go_wp2_with (first | (go_at_call 110; refine (rother_any _ pb _ _ _ cs a1 _ (by exact hpx3.below hbq) (by exact hcs.below (bnext hB3 hbq (Nat.le_refl _))) HOK.out hl (by exact hsk.below hbq)).mono ?_; rintro e w5 ⟨rfl, hb5⟩))
                    go_roundw
                    case rel => exact ⟨q + 1, true, otherB cs a1, by omega, by go_num, (by first | rfl | (simp; omega) | (simp; done)), rfl, bnext hbq hb5 (Nat.le_refl _), (by rw [Hid, HM3.out]; rfl), (by rw [Hid, HA3.out]; rfl)⟩
                    case measure => simp [intOf]; omega
                | false =>
                  by_cases h3 : 3 < a1.args.length
                  · have hlg : longL a1 = true := by simp [longL, h3]
                    cases a2 with
                    | true =>
                      go_wp2_with (first | (go_at_call 110; refine (rother_any _ pb _ _ _ cs a1 _ (by exact hpx3.below hbq) (by exact hcs.below (bnext hB3 hbq (Nat.le_refl _))) HOK.out hl (by exact hsk.below hbq)).mono ?_; rintro e w5 ⟨rfl, hb5⟩))
                      go_roundw
                      case rel => exact ⟨q + 1, true, true, by omega, by go_num, (by first | rfl | (simp; omega) | (simp; done)), rfl, bnext hbq hb5 (Nat.le_refl _), (by rw [Hid, HM3.out, hlg]; rfl), (by rw [Hid, HA3.out]; rfl)⟩
                      case measure => simp [intOf]; omega
                    | false =>
                      go_wp2_with (first | (go_at_call 110; refine (rother_any _ pb _ _ _ cs a1 _ (by exact hpx3.below hbq) (by exact hcs.below (bnext hB3 hbq (Nat.le_refl _))) HOK.out hl (by exact hsk.below hbq)).mono ?_; rintro e w5 ⟨rfl, hb5⟩))
                      go_roundw
                      case rel => exact ⟨q + 1, true, otherB cs a1, by omega, by go_num, (by first | rfl | (simp; omega) | (simp; done)), rfl, bnext hbq hb5 (Nat.le_refl _), (by rw [Hid, HM3.out, hlg]; rfl), (by rw [Hid, HA3.out]; rfl)⟩
                      case measure => simp [intOf]; omega
                  · have hlg : longL a1 = false := by simp [longL]; omega
                    cases a2 with
                    | true =>
                      go_wp2_with (first | (go_at_call 110; refine (rother_any _ pb _ _ _ cs a1 _ (by exact hpx3.below hbq) (by exact hcs.below (bnext hB3 hbq (Nat.le_refl _))) HOK.out hl (by exact hsk.below hbq)).mono ?_; rintro e w5 ⟨rfl, hb5⟩))
                      go_roundw
                      case rel => exact ⟨q + 1, false, true, by omega, by go_num, (by first | rfl | (simp; omega) | (simp; done)), rfl, bnext hbq hb5 (Nat.le_refl _), (by rw [Hid, HM3.out, hlg]; rfl), (by rw [Hid, HA3.out]; rfl)⟩
                      case measure => simp [intOf]; omega
                    | false =>
                      go_wp2_with (first | (go_at_call 110; refine (rother_any _ pb _ _ _ cs a1 _ (by exact hpx3.below hbq) (by exact hcs.below (bnext hB3 hbq (Nat.le_refl _))) HOK.out hl (by exact hsk.below hbq)).mono ?_; rintro e w5 ⟨rfl, hb5⟩))
                      go_roundw
                      case rel => exact ⟨q + 1, false, otherB cs a1, by omega, by go_num, (by first | rfl | (simp; omega) | (simp; done)), rfl, bnext hbq hb5 (Nat.le_refl _), (by rw [Hid, HM3.out, hlg]; rfl), (by rw [Hid, HA3.out]; rfl)⟩
                      case measure => simp [intOf]; omega
              · have hqe : (litsOf c).take q = litsOf c := List.take_of_length_le (by omega)
                have HM4 : Hid (m2 = (cs.take (k + 1)).any manyR) := by rw [Hid, HM2.out, hqe, HKM.out, ← HM1.out]; simp only [manyR]; rw [HM.out, Bool.or_assoc]
                have HA4 : Hid (a2 = (cs.take (k + 1)).any (arityR cs)) := by rw [Hid, HA2.out, hqe, HKA.out, HA.out]; rfl
                clear HM2 HA2
                go_wp2
                go_roundw
                case rel => exact ⟨k + 1, m2, a2, s2, by omega, by go_num, rfl, rfl, rfl, bnext hB3 hbq (Nat.le_refl _), hpx3.below hbq, HM4, HA4, HS4⟩
                case measure => simp [intOf]; omega
      | false =>
        by_cases h6 : 6 < c.body.length
        · have HM1 : Hid ((false || manyH c) = true) := by simp [Hid, manyH, h6]
          go_wp2_with (first | (go_at_call 108; have hq := hB1; refine (rvars_any _ true g (k * 4) c _ _ _ _ (by exact hat.below hq) (by omega) HSUM.out HZC.out).mono ?_; rintro e w2 ⟨vpv, rfl, hsp, hb2⟩; rw [refV_plain] at hsp; obtain ⟨aop, capp, rfl⟩ := hsp.shape; have hB2 := bnext hB1 hb2 (Nat.le_refl _); have hsa2 := hsa.below hb2; have hat2 := hat.below hB2; have hc3 := hat2.c3; have hglt := hat2.lt; have hz2 := hB2.size; have hpx2 := (hpx.below hb1).below hb2; clear hq) | (go_at_call 108; have hq := hbk; refine (rvars_any _ false g (k * 4) c _ _ _ _ (by exact hat.below hq) (by omega) HSUM.out HZC.out).mono ?_; rintro e w1 ⟨vav, rfl, hsa, hb1⟩; rw [refV_all] at hsa; obtain ⟨aoa, capa, rfl⟩ := hsa.shape; have hB1 := bnext hbk hb1 (Nat.le_refl _); clear hbk hq))
          go_loopw [5, 10] (fun v5 v10 wj => ∃ (j : Nat) (s2 : Bool), j ≤ (allVs c).length ∧ v10 = .int .i64 j ∧ v5 = .bool s2 ∧ Below w2.heap.size w2 wj ∧ Hid (s2 = (s && ((allVs c).take j).all fun v => memB v (plainVs c)))) (fun _ i _ => (allVs c).length - (intOf i).toNat)
          case atStart => exact ⟨0, s, Nat.zero_le _, rfl, rfl, Below.refl _ _, (by simp [Hid])⟩
          case round =>
            obtain ⟨j, s2, hj, rfl, rfl, hbj, HS2⟩ := hrel
            have hszj := hbj.size
            by_cases hjl : j < (allVs c).length
            · obtain ⟨ga, rfl, hga, hca⟩ := hsa2.cell j hjl
              have hxa := (hbj.cell (p := ⟨ga, j, none⟩) hga).trans hca
              have hgaj : ga < wr.heap.size := by omega
              have hta := all_take (allVs c) (fun v => memB v (plainVs c)) j hjl
              clear hca
              generalize (allVs c)[j] = x1 at *
              have HS3 : Hid ((s && ((allVs c).take (j + 1)).all fun v => memB v (plainVs c)) = (s2 && memB x1 (plainVs c))) := by rw [Hid, hta, HS2.out, Bool.and_assoc]
              clear hta HS2
              cases s2 with
              | true =>
                go_wp2_with (first | (go_at_call 109; refine (rhas_any _ _ (plainVs c) x1 (by exact hsp.below hbj) (by omega)).mono ?_; rintro e w' ⟨rfl, hww⟩; obtain rfl := hww.symm))
                go_roundw
                case rel => exact ⟨j + 1, memB x1 (plainVs c), by omega, by go_num, rfl, hbj, (by rw [Hid, HS3.out]; rfl)⟩
                case measure => simp [intOf]; omega
              | false =>
                go_wp2_with (first | (go_at_call 109; refine (rhas_any _ _ (plainVs c) x1 (by exact hsp.below hbj) (by omega)).mono ?_; rintro e w' ⟨rfl, hww⟩; obtain rfl := hww.symm))
                go_roundw
                case rel => exact ⟨j + 1, false, by omega, by go_num, rfl, hbj, (by rw [Hid, HS3.out]; rfl)⟩
                case measure => simp [intOf]; omega
            · have hje : (allVs c).take j = allVs c := List.take_of_length_le (by omega)
              have HS4 : Hid (s2 = (cs.take (k + 1)).all safeR) := by rw [Hid, HS2.out, hje, HKS.out, HS.out]; rfl
              clear HS2
              go_wp2_with (first | (go_at_call 68; refine (rall_any _ g (k * 4) c _ _ _ _ (by exact hat2.below hbj) (by omega)).mono ?_; rintro e w3 ⟨lv, rfl, hlin, hb3⟩; obtain ⟨aol, capl, rfl⟩ := hlin.shape; have hB3 := bnext hB2 (bnext hbj hb3 (Nat.le_refl _)) (Nat.le_refl _); have hpx3 := (hpx2.below hbj).below hb3))
              go_loopw [3, 4, 13] (fun v3 v4 v13 wq => ∃ (q : Nat) (m2 a2 : Bool), q ≤ (litsOf c).length ∧ v13 = .int .i64 q ∧ v3 = .bool m2 ∧ v4 = .bool a2 ∧ Below w3.heap.size w3 wq ∧ Hid (m2 = (true || ((litsOf c).take q).any longL)) ∧ Hid (a2 = (a || ((litsOf c).take q).any (otherB cs)))) (fun _ _ i _ => (litsOf c).length - (intOf i).toNat)
              case atStart => exact ⟨0, true, a, Nat.zero_le _, rfl, (by first | rfl | (simp; omega) | (simp; done)), rfl, Below.refl _ _, (by simp [Hid]), (by simp [Hid])⟩
              case round =>
                obtain ⟨q, m2, a2, hq, rfl, rfl, rfl, hbq, HM2, HA2⟩ := hrel
                have hszq := hbq.size
                by_cases hql : q < (litsOf c).length
                · obtain ⟨gl, aoq, capq, rfl, hgl, hq0, hq1, hq2, hsk⟩ := hlin.cell q hql
                  have he0 := (hbq.cell (p := ⟨gl, q * 3, none⟩) hgl).trans hq0
                  have he1 := (hbq.cell (p := ⟨gl, q * 3 + 1, none⟩) hgl).trans hq1
                  have he2 := (hbq.cell (p := ⟨gl, q * 3 + 2, none⟩) hgl).trans hq2
                  have hgq : gl < wr.heap.size := by omega
                  have hta := any_take (litsOf c) longL q hql
                  have htb := any_take (litsOf c) (otherB cs) q hql
                  clear hq0 hq1 hq2
                  generalize (litsOf c)[q] = a1 at *
                  have HM3 : Hid ((true || ((litsOf c).take (q + 1)).any longL) = (m2 || longL a1)) := by rw [Hid, hta, HM2.out, Bool.or_assoc]
                  have HA3 : Hid ((a || ((litsOf c).take (q + 1)).any (otherB cs)) = (a2 || otherB cs a1)) := by rw [Hid, htb, HA2.out, Bool.or_assoc]
                  clear hta htb HM2 HA2
                  cases m2 with
                  | true =>
                    cases a2 with
                    | true =>
                      go_wp2_with (first | (go_at_call 110; refine (rother_any _ pb _ _ _ cs a1 _ (by exact hpx3.below hbq) (by exact hcs.below (bnext hB3 hbq (Nat.le_refl _))) HOK.out hl (by exact hsk.below hbq)).mono ?_; rintro e w5 ⟨rfl, hb5⟩))
                      go_roundw
                      case rel => exact ⟨q + 1, true, true, by omega, by go_num, (by first | rfl | (simp; omega) | (simp; done)), rfl, bnext hbq hb5 (Nat.le_refl _), (by rw [Hid, HM3.out]; rfl), (by rw [Hid, HA3.out]; rfl)⟩
                      case measure => simp [intOf]; omega
                    | false =>
                      go_wp2_with (first | (go_at_call 110; refine (rother_any _ pb _ _ _ cs a1 _ (by exact hpx3.below hbq) (by exact hcs.below (bnext hB3 hbq (Nat.le_refl _))) HOK.out hl (by exact hsk.below hbq)).mono ?_; rintro e w5 ⟨rfl, hb5⟩))
                      go_roundw
                      case rel => exact ⟨q + 1, true, otherB cs a1, by omega, by go_num, (by first | rfl | (simp; omega) | (simp; done)), rfl, bnext hbq hb5 (Nat.le_refl _), (by rw [Hid, HM3.out]; rfl), (by rw [Hid, HA3.out]; rfl)⟩
                      case measure => simp [intOf]; omega
                  | false =>
                    by_cases h3 : 3 < a1.args.length
                    · have hlg : longL a1 = true := by simp [longL, h3]
                      cases a2 with
                      | true =>
                        go_wp2_with (first | (go_at_call 110; refine (rother_any _ pb _ _ _ cs a1 _ (by exact hpx3.below hbq) (by exact hcs.below (bnext hB3 hbq (Nat.le_refl _))) HOK.out hl (by exact hsk.below hbq)).mono ?_; rintro e w5 ⟨rfl, hb5⟩))
                        go_roundw
                        case rel => exact ⟨q + 1, true, true, by omega, by go_num, (by first | rfl | (simp; omega) | (simp; done)), rfl, bnext hbq hb5 (Nat.le_refl _), (by rw [Hid, HM3.out, hlg]; rfl), (by rw [Hid, HA3.out]; rfl)⟩
                        case measure => simp [intOf]; omega
                      | false =>
                        go_wp2_with (first | (go_at_call 110; refine (rother_any _ pb _ _ _ cs a1 _ (by exact hpx3.below hbq) (by exact hcs.below (bnext hB3 hbq (Nat.le_refl _))) HOK.out hl (by exact hsk.below hbq)).mono ?_; rintro e w5 ⟨rfl, hb5⟩))
                        go_roundw
                        case rel => exact ⟨q + 1, true, otherB cs a1, by omega, by go_num, (by first | rfl | (simp; omega) | (simp; done)), rfl, bnext hbq hb5 (Nat.le_refl _), (by rw [Hid, HM3.out, hlg]; rfl), (by rw [Hid, HA3.out]; rfl)⟩
                        case measure => simp [intOf]; omega
                    · have hlg : longL a1 = false := by simp [longL]; omega
                      cases a2 with
                      | true =>
                        go_wp2_with (first | (go_at_call 110; refine (rother_any _ pb _ _ _ cs a1 _ (by exact hpx3.below hbq) (by exact hcs.below (bnext hB3 hbq (Nat.le_refl _))) HOK.out hl (by exact hsk.below hbq)).mono ?_; rintro e w5 ⟨rfl, hb5⟩))
                        go_roundw
                        case rel => exact ⟨q + 1, false, true, by omega, by go_num, (by first | rfl | (simp; omega) | (simp; done)), rfl, bnext hbq hb5 (Nat.le_refl _), (by rw [Hid, HM3.out, hlg]; rfl), (by rw [Hid, HA3.out]; rfl)⟩
                        case measure => simp [intOf]; omega
                      | false =>
                        go_wp2_with (first | (go_at_call 110; refine (rother_any _ pb _ _ _ cs a1 _ (by exact hpx3.below hbq) (by exact hcs.below (bnext hB3 hbq (Nat.le_refl _))) HOK.out hl (by exact hsk.below hbq)).mono ?_; rintro e w5 ⟨rfl, hb5⟩))
                        go_roundw
                        case rel => exact ⟨q + 1, false, otherB cs a1, by omega, by go_num, (by first | rfl | (simp; omega) | (simp; done)), rfl, bnext hbq hb5 (Nat.le_refl _), (by rw [Hid, HM3.out, hlg]; rfl), (by rw [Hid, HA3.out]; rfl)⟩
                        case measure => simp [intOf]; omega
                · have hqe : (litsOf c).take q = litsOf c := List.take_of_length_le (by omega)
                  have HM4 : Hid (m2 = (cs.take (k + 1)).any manyR) := by rw [Hid, HM2.out, hqe, HKM.out, ← HM1.out]; simp only [manyR]; rw [HM.out, Bool.or_assoc]
                  have HA4 : Hid (a2 = (cs.take (k + 1)).any (arityR cs)) := by rw [Hid, HA2.out, hqe, HKA.out, HA.out]; rfl
                  clear HM2 HA2
                  go_wp2
                  go_roundw
                  case rel => exact ⟨k + 1, m2, a2, s2, by omega, by go_num, rfl, rfl, rfl, bnext hB3 hbq (Nat.le_refl _), hpx3.below hbq, HM4, HA4, HS4⟩
                  case measure => simp [intOf]; omega
        · by_cases h5 : 5 < (allVs c).length
          · have HM1 : Hid ((false || manyH c) = true) := by simp [Hid, manyH, h5]
            go_wp2_with (first | (go_at_call 108; have hq := hB1; refine (rvars_any _ true g (k * 4) c _ _ _ _ (by exact hat.below hq) (by omega) HSUM.out HZC.out).mono ?_; rintro e w2 ⟨vpv, rfl, hsp, hb2⟩; rw [refV_plain] at hsp; obtain ⟨aop, capp, rfl⟩ := hsp.shape; have hB2 := bnext hB1 hb2 (Nat.le_refl _); have hsa2 := hsa.below hb2; have hat2 := hat.below hB2; have hc3 := hat2.c3; have hglt := hat2.lt; have hz2 := hB2.size; have hpx2 := (hpx.below hb1).below hb2; clear hq) | (go_at_call 108; have hq := hbk; refine (rvars_any _ false g (k * 4) c _ _ _ _ (by exact hat.below hq) (by omega) HSUM.out HZC.out).mono ?_; rintro e w1 ⟨vav, rfl, hsa, hb1⟩; rw [refV_all] at hsa; obtain ⟨aoa, capa, rfl⟩ := hsa.shape; have hB1 := bnext hbk hb1 (Nat.le_refl _); clear hbk hq))
            go_loopw [5, 10] (fun v5 v10 wj => ∃ (j : Nat) (s2 : Bool), j ≤ (allVs c).length ∧ v10 = .int .i64 j ∧ v5 = .bool s2 ∧ Below w2.heap.size w2 wj ∧ Hid (s2 = (s && ((allVs c).take j).all fun v => memB v (plainVs c)))) (fun _ i _ => (allVs c).length - (intOf i).toNat)
            case atStart => exact ⟨0, s, Nat.zero_le _, rfl, rfl, Below.refl _ _, (by simp [Hid])⟩
            case round =>
              obtain ⟨j, s2, hj, rfl, rfl, hbj, HS2⟩ := hrel
              have hszj := hbj.size
              by_cases hjl : j < (allVs c).length
              · obtain ⟨ga, rfl, hga, hca⟩ := hsa2.cell j hjl
                have hxa := (hbj.cell (p := ⟨ga, j, none⟩) hga).trans hca
                have hgaj : ga < wr.heap.size := by omega
                have hta := all_take (allVs c) (fun v => memB v (plainVs c)) j hjl
                clear hca
                generalize (allVs c)[j] = x1 at *
                have HS3 : Hid ((s && ((allVs c).take (j + 1)).all fun v => memB v (plainVs c)) = (s2 && memB x1 (plainVs c))) := by rw [Hid, hta, HS2.out, Bool.and_assoc]
                clear hta HS2
                cases s2 with
                | true =>
                  go_wp2_with (first | (go_at_call 109; refine (rhas_any _ _ (plainVs c) x1 (by exact hsp.below hbj) (by omega)).mono ?_; rintro e w' ⟨rfl, hww⟩; obtain rfl := hww.symm))
                  go_roundw
                  case rel => exact ⟨j + 1, memB x1 (plainVs c), by omega, by go_num, rfl, hbj, (by rw [Hid, HS3.out]; rfl)⟩
                  case measure => simp [intOf]; omega
                | false =>
                  go_wp2_with (first | (go_at_call 109; refine (rhas_any _ _ (plainVs c) x1 (by exact hsp.below hbj) (by omega)).mono ?_; rintro e w' ⟨rfl, hww⟩; obtain rfl := hww.symm))
                  go_roundw
                  case rel => exact ⟨j + 1, false, by omega, by go_num, rfl, hbj, (by rw [Hid, HS3.out]; rfl)⟩
                  case measure => simp [intOf]; omega
              · have hje : (allVs c).take j = allVs c := List.take_of_length_le (by omega)
                have HS4 : Hid (s2 = (cs.take (k + 1)).all safeR) := by rw [Hid, HS2.out, hje, HKS.out, HS.out]; rfl
                clear HS2
                go_wp2_with (first | (go_at_call 68; refine (rall_any _ g (k * 4) c _ _ _ _ (by exact hat2.below hbj) (by omega)).mono ?_; rintro e w3 ⟨lv, rfl, hlin, hb3⟩; obtain ⟨aol, capl, rfl⟩ := hlin.shape; have hB3 := bnext hB2 (bnext hbj hb3 (Nat.le_refl _)) (Nat.le_refl _); have hpx3 := (hpx2.below hbj).below hb3))
                go_loopw [3, 4, 13] (fun v3 v4 v13 wq => ∃ (q : Nat) (m2 a2 : Bool), q ≤ (litsOf c).length ∧ v13 = .int .i64 q ∧ v3 = .bool m2 ∧ v4 = .bool a2 ∧ Below w3.heap.size w3 wq ∧ Hid (m2 = (true || ((litsOf c).take q).any longL)) ∧ Hid (a2 = (a || ((litsOf c).take q).any (otherB cs)))) (fun _ _ i _ => (litsOf c).length - (intOf i).toNat)
                case atStart => exact ⟨0, true, a, Nat.zero_le _, rfl, (by first | rfl | (simp; omega) | (simp; done)), rfl, Below.refl _ _, (by simp [Hid]), (by simp [Hid])⟩
                case round =>
                  obtain ⟨q, m2, a2, hq, rfl, rfl, rfl, hbq, HM2, HA2⟩ := hrel
                  have hszq := hbq.size
                  by_cases hql : q < (litsOf c).length
                  · obtain ⟨gl, aoq, capq, rfl, hgl, hq0, hq1, hq2, hsk⟩ := hlin.cell q hql
                    have he0 := (hbq.cell (p := ⟨gl, q * 3, none⟩) hgl).trans hq0
                    have he1 := (hbq.cell (p := ⟨gl, q * 3 + 1, none⟩) hgl).trans hq1
                    have he2 := (hbq.cell (p := ⟨gl, q * 3 + 2, none⟩) hgl).trans hq2
                    have hgq : gl < wr.heap.size := by omega
                    have hta := any_take (litsOf c) longL q hql
                    have htb := any_take (litsOf c) (otherB cs) q hql
                    clear hq0 hq1 hq2
                    generalize (litsOf c)[q] = a1 at *
                    have HM3 : Hid ((true || ((litsOf c).take (q + 1)).any longL) = (m2 || longL a1)) := by rw [Hid, hta, HM2.out, Bool.or_assoc]
                    have HA3 : Hid ((a || ((litsOf c).take (q + 1)).any (otherB cs)) = (a2 || otherB cs a1)) := by rw [Hid, htb, HA2.out, Bool.or_assoc]
                    clear hta htb HM2 HA2
                    cases m2 with
                    | true =>
                      cases a2 with
                      | true =>
                        go_wp2_with (first | (go_at_call 110; refine (rother_any _ pb _ _ _ cs a1 _ (by exact hpx3.below hbq) (by exact hcs.below (bnext hB3 hbq (Nat.le_refl _))) HOK.out hl (by exact hsk.below hbq)).mono ?_; rintro e w5 ⟨rfl, hb5⟩))
                        go_roundw
                        case rel => exact ⟨q + 1, true, true, by omega, by go_num, (by first | rfl | (simp; omega) | (simp; done)), rfl, bnext hbq hb5 (Nat.le_refl _), (by rw [Hid, HM3.out]; rfl), (by rw [Hid, HA3.out]; rfl)⟩
                        case measure => simp [intOf]; omega
                      | false =>
                        go_wp2_with (first | (go_at_call 110; refine (rother_any _ pb _ _ _ cs a1 _ (by exact hpx3.below hbq) (by exact hcs.below (bnext hB3 hbq (Nat.le_refl _))) HOK.out hl (by exact hsk.below hbq)).mono ?_; rintro e w5 ⟨rfl, hb5⟩))
                        go_roundw
                        case rel => exact ⟨q + 1, true, otherB cs a1, by omega, by go_num, (by first | rfl | (simp; omega) | (simp; done)), rfl, bnext hbq hb5 (Nat.le_refl _), (by rw [Hid, HM3.out]; rfl), (by rw [Hid, HA3.out]; rfl)⟩
                        case measure => simp [intOf]; omega
                    | false =>
                      by_cases h3 : 3 < a1.args.length
                      · have hlg : longL a1 = true := by simp [longL, h3]
                        cases a2 with
                        | true =>
                          go_wp2_with (first | (go_at_call 110; refine (rother_any _ pb _ _ _ cs a1 _ (by exact hpx3.below hbq) (by exact hcs.below (bnext hB3 hbq (Nat.le_refl _))) HOK.out hl (by exact hsk.below hbq)).mono ?_; rintro e w5 ⟨rfl, hb5⟩))
                          go_roundw
                          case rel => exact ⟨q + 1, true, true, by omega, by go_num, (by first | rfl | (simp; omega) | (simp; done)), rfl, bnext hbq hb5 (Nat.le_refl _), (by rw [Hid, HM3.out, hlg]; rfl), (by rw [Hid, HA3.out]; rfl)⟩
                          case measure => simp [intOf]; omega
                        | false =>
                          go_wp2_with (first | (go_at_call 110; refine (rother_any _ pb _ _ _ cs a1 _ (by exact hpx3.below hbq) (by exact hcs.below (bnext hB3 hbq (Nat.le_refl _))) HOK.out hl (by exact hsk.below hbq)).mono ?_; rintro e w5 ⟨rfl, hb5⟩))
                          go_roundw
                          case rel => exact ⟨q + 1, true, otherB cs a1, by omega, by go_num, (by first | rfl | (simp; omega) | (simp; done)), rfl, bnext hbq hb5 (Nat.le_refl _), (by rw [Hid, HM3.out, hlg]; rfl), (by rw [Hid, HA3.out]; rfl)⟩
                          case measure => simp [intOf]; omega
                      · have hlg : longL a1 = false := by simp [longL]; omega
                        cases a2 with
                        | true =>
                          go_wp2_with (first | (go_at_call 110; refine (rother_any _ pb _ _ _ cs a1 _ (by exact hpx3.below hbq) (by exact hcs.below (bnext hB3 hbq (Nat.le_refl _))) HOK.out hl (by exact hsk.below hbq)).mono ?_; rintro e w5 ⟨rfl, hb5⟩))
                          go_roundw
                          case rel => exact ⟨q + 1, false, true, by omega, by go_num, (by first | rfl | (simp; omega) | (simp; done)), rfl, bnext hbq hb5 (Nat.le_refl _), (by rw [Hid, HM3.out, hlg]; rfl), (by rw [Hid, HA3.out]; rfl)⟩
                          case measure => simp [intOf]; omega
                        | false =>
                          go_wp2_with (first | (go_at_call 110; refine (rother_any _ pb _ _ _ cs a1 _ (by exact hpx3.below hbq) (by exact hcs.below (bnext hB3 hbq (Nat.le_refl _))) HOK.out hl (by exact hsk.below hbq)).mono ?_; rintro e w5 ⟨rfl, hb5⟩))
                          go_roundw
                          case rel => exact ⟨q + 1, false, otherB cs a1, by omega, by go_num, (by first | rfl | (simp; omega) | (simp; done)), rfl, bnext hbq hb5 (Nat.le_refl _), (by rw [Hid, HM3.out, hlg]; rfl), (by rw [Hid, HA3.out]; rfl)⟩
                          case measure => simp [intOf]; omega
                  · have hqe : (litsOf c).take q = litsOf c := List.take_of_length_le (by omega)
                    have HM4 : Hid (m2 = (cs.take (k + 1)).any manyR) := by rw [Hid, HM2.out, hqe, HKM.out, ← HM1.out]; simp only [manyR]; rw [HM.out, Bool.or_assoc]
                    have HA4 : Hid (a2 = (cs.take (k + 1)).any (arityR cs)) := by rw [Hid, HA2.out, hqe, HKA.out, HA.out]; rfl
                    clear HM2 HA2
                    go_wp2
                    go_roundw
                    case rel => exact ⟨k + 1, m2, a2, s2, by omega, by go_num, rfl, rfl, rfl, bnext hB3 hbq (Nat.le_refl _), hpx3.below hbq, HM4, HA4, HS4⟩
                    case measure => simp [intOf]; omega
          · have HM1 : Hid ((false || manyH c) = false) := by simp [Hid, manyH]; omega
            go_wp2_with (first | (go_at_call 108; have hq := hB1; refine (rvars_any _ true g (k * 4) c _ _ _ _ (by exact hat.below hq) (by omega) HSUM.out HZC.out).mono ?_; rintro e w2 ⟨vpv, rfl, hsp, hb2⟩; rw [refV_plain] at hsp; obtain ⟨aop, capp, rfl⟩ := hsp.shape; have hB2 := bnext hB1 hb2 (Nat.le_refl _); have hsa2 := hsa.below hb2; have hat2 := hat.below hB2; have hc3 := hat2.c3; have hglt := hat2.lt; have hz2 := hB2.size; have hpx2 := (hpx.below hb1).below hb2; clear hq) | (go_at_call 108; have hq := hbk; refine (rvars_any _ false g (k * 4) c _ _ _ _ (by exact hat.below hq) (by omega) HSUM.out HZC.out).mono ?_; rintro e w1 ⟨vav, rfl, hsa, hb1⟩; rw [refV_all] at hsa; obtain ⟨aoa, capa, rfl⟩ := hsa.shape; have hB1 := bnext hbk hb1 (Nat.le_refl _); clear hbk hq))
            go_loopw [5, 10] (fun v5 v10 wj => ∃ (j : Nat) (s2 : Bool), j ≤ (allVs c).length ∧ v10 = .int .i64 j ∧ v5 = .bool s2 ∧ Below w2.heap.size w2 wj ∧ Hid (s2 = (s && ((allVs c).take j).all fun v => memB v (plainVs c)))) (fun _ i _ => (allVs c).length - (intOf i).toNat)
            case atStart => exact ⟨0, s, Nat.zero_le _, rfl, rfl, Below.refl _ _, (by simp [Hid])⟩
            case round =>
              obtain ⟨j, s2, hj, rfl, rfl, hbj, HS2⟩ := hrel
              have hszj := hbj.size
              by_cases hjl : j < (allVs c).length
              · obtain ⟨ga, rfl, hga, hca⟩ := hsa2.cell j hjl
                have hxa := (hbj.cell (p := ⟨ga, j, none⟩) hga).trans hca
                have hgaj : ga < wr.heap.size := by omega
                have hta := all_take (allVs c) (fun v => memB v (plainVs c)) j hjl
                clear hca
                generalize (allVs c)[j] = x1 at *
                have HS3 : Hid ((s && ((allVs c).take (j + 1)).all fun v => memB v (plainVs c)) = (s2 && memB x1 (plainVs c))) := by rw [Hid, hta, HS2.out, Bool.and_assoc]
                clear hta HS2
                cases s2 with
                | true =>
                  go_wp2_with (first | (go_at_call 109; refine (rhas_any _ _ (plainVs c) x1 (by exact hsp.below hbj) (by omega)).mono ?_; rintro e w' ⟨rfl, hww⟩; obtain rfl := hww.symm))
                  go_roundw
                  case rel => exact ⟨j + 1, memB x1 (plainVs c), by omega, by go_num, rfl, hbj, (by rw [Hid, HS3.out]; rfl)⟩
                  case measure => simp [intOf]; omega
                | false =>
                  go_wp2_with (first | (go_at_call 109; refine (rhas_any _ _ (plainVs c) x1 (by exact hsp.below hbj) (by omega)).mono ?_; rintro e w' ⟨rfl, hww⟩; obtain rfl := hww.symm))
                  go_roundw
                  case rel => exact ⟨j + 1, false, by omega, by go_num, rfl, hbj, (by rw [Hid, HS3.out]; rfl)⟩
                  case measure => simp [intOf]; omega
              · have hje : (allVs c).take j = allVs c := List.take_of_length_le (by omega)
                have HS4 : Hid (s2 = (cs.take (k + 1)).all safeR) := by rw [Hid, HS2.out, hje, HKS.out, HS.out]; rfl
                clear HS2
                go_wp2_with (first | (go_at_call 68; refine (rall_any _ g (k * 4) c _ _ _ _ (by exact hat2.below hbj) (by omega)).mono ?_; rintro e w3 ⟨lv, rfl, hlin, hb3⟩; obtain ⟨aol, capl, rfl⟩ := hlin.shape; have hB3 := bnext hB2 (bnext hbj hb3 (Nat.le_refl _)) (Nat.le_refl _); have hpx3 := (hpx2.below hbj).below hb3))
                go_loopw [3, 4, 13] (fun v3 v4 v13 wq => ∃ (q : Nat) (m2 a2 : Bool), q ≤ (litsOf c).length ∧ v13 = .int .i64 q ∧ v3 = .bool m2 ∧ v4 = .bool a2 ∧ Below w3.heap.size w3 wq ∧ Hid (m2 = (false || ((litsOf c).take q).any longL)) ∧ Hid (a2 = (a || ((litsOf c).take q).any (otherB cs)))) (fun _ _ i _ => (litsOf c).length - (intOf i).toNat)
                case atStart => exact ⟨0, false, a, Nat.zero_le _, rfl, (by first | rfl | (simp; omega) | (simp; done)), rfl, Below.refl _ _, (by simp [Hid]), (by simp [Hid])⟩
                case round =>
                  obtain ⟨q, m2, a2, hq, rfl, rfl, rfl, hbq, HM2, HA2⟩ := hrel
                  have hszq := hbq.size
                  by_cases hql : q < (litsOf c).length
                  · obtain ⟨gl, aoq, capq, rfl, hgl, hq0, hq1, hq2, hsk⟩ := hlin.cell q hql
                    have he0 := (hbq.cell (p := ⟨gl, q * 3, none⟩) hgl).trans hq0
                    have he1 := (hbq.cell (p := ⟨gl, q * 3 + 1, none⟩) hgl).trans hq1
                    have he2 := (hbq.cell (p := ⟨gl, q * 3 + 2, none⟩) hgl).trans hq2
                    have hgq : gl < wr.heap.size := by omega
                    have hta := any_take (litsOf c) longL q hql
                    have htb := any_take (litsOf c) (otherB cs) q hql
                    clear hq0 hq1 hq2
                    generalize (litsOf c)[q] = a1 at *
                    have HM3 : Hid ((false || ((litsOf c).take (q + 1)).any longL) = (m2 || longL a1)) := by rw [Hid, hta, HM2.out, Bool.or_assoc]
                    have HA3 : Hid ((a || ((litsOf c).take (q + 1)).any (otherB cs)) = (a2 || otherB cs a1)) := by rw [Hid, htb, HA2.out, Bool.or_assoc]
                    clear hta htb HM2 HA2
                    cases m2 with
                    | true =>
                      cases a2 with
                      | true =>
                        go_wp2_with (first | (go_at_call 110; refine (rother_any _ pb _ _ _ cs a1 _ (by exact hpx3.below hbq) (by exact hcs.below (bnext hB3 hbq (Nat.le_refl _))) HOK.out hl (by exact hsk.below hbq)).mono ?_; rintro e w5 ⟨rfl, hb5⟩))
                        go_roundw
                        case rel => exact ⟨q + 1, true, true, by omega, by go_num, (by first | rfl | (simp; omega) | (simp; done)), rfl, bnext hbq hb5 (Nat.le_refl _), (by rw [Hid, HM3.out]; rfl), (by rw [Hid, HA3.out]; rfl)⟩
                        case measure => simp [intOf]; omega
                      | false =>
                        go_wp2_with (first | (go_at_call 110; refine (rother_any _ pb _ _ _ cs a1 _ (by exact hpx3.below hbq) (by exact hcs.below (bnext hB3 hbq (Nat.le_refl _))) HOK.out hl (by exact hsk.below hbq)).mono ?_; rintro e w5 ⟨rfl, hb5⟩))
                        go_roundw
                        case rel => exact ⟨q + 1, true, otherB cs a1, by omega, by go_num, (by first | rfl | (simp; omega) | (simp; done)), rfl, bnext hbq hb5 (Nat.le_refl _), (by rw [Hid, HM3.out]; rfl), (by rw [Hid, HA3.out]; rfl)⟩
                        case measure => simp [intOf]; omega
                    | false =>
                      by_cases h3 : 3 < a1.args.length
                      · have hlg : longL a1 = true := by simp [longL, h3]
                        cases a2 with
                        | true =>
                          go_wp2_with (first | (go_at_call 110; refine (rother_any _ pb _ _ _ cs a1 _ (by exact hpx3.below hbq) (by exact hcs.below (bnext hB3 hbq (Nat.le_refl _))) HOK.out hl (by exact hsk.below hbq)).mono ?_; rintro e w5 ⟨rfl, hb5⟩))
                          go_roundw
                          case rel => exact ⟨q + 1, true, true, by omega, by go_num, (by first | rfl | (simp; omega) | (simp; done)), rfl, bnext hbq hb5 (Nat.le_refl _), (by rw [Hid, HM3.out, hlg]; rfl), (by rw [Hid, HA3.out]; rfl)⟩
                          case measure => simp [intOf]; omega
                        | false =>
                          go_wp2_with (first | (go_at_call 110; refine (rother_any _ pb _ _ _ cs a1 _ (by exact hpx3.below hbq) (by exact hcs.below (bnext hB3 hbq (Nat.le_refl _))) HOK.out hl (by exact hsk.below hbq)).mono ?_; rintro e w5 ⟨rfl, hb5⟩))
                          go_roundw
                          case rel => exact ⟨q + 1, true, otherB cs a1, by omega, by go_num, (by first | rfl | (simp; omega) | (simp; done)), rfl, bnext hbq hb5 (Nat.le_refl _), (by rw [Hid, HM3.out, hlg]; rfl), (by rw [Hid, HA3.out]; rfl)⟩
                          case measure => simp [intOf]; omega
                      · have hlg : longL a1 = false := by simp [longL]; omega
                        cases a2 with
                        | true =>
                          go_wp2_with (first | (go_at_call 110; refine (rother_any _ pb _ _ _ cs a1 _ (by exact hpx3.below hbq) (by exact hcs.below (bnext hB3 hbq (Nat.le_refl _))) HOK.out hl (by exact hsk.below hbq)).mono ?_; rintro e w5 ⟨rfl, hb5⟩))
                          go_roundw
                          case rel => exact ⟨q + 1, false, true, by omega, by go_num, (by first | rfl | (simp; omega) | (simp; done)), rfl, bnext hbq hb5 (Nat.le_refl _), (by rw [Hid, HM3.out, hlg]; rfl), (by rw [Hid, HA3.out]; rfl)⟩
                          case measure => simp [intOf]; omega
                        | false =>
                          go_wp2_with (first | (go_at_call 110; refine (rother_any _ pb _ _ _ cs a1 _ (by exact hpx3.below hbq) (by exact hcs.below (bnext hB3 hbq (Nat.le_refl _))) HOK.out hl (by exact hsk.below hbq)).mono ?_; rintro e w5 ⟨rfl, hb5⟩))
                          go_roundw
                          case rel => exact ⟨q + 1, false, otherB cs a1, by omega, by go_num, (by first | rfl | (simp; omega) | (simp; done)), rfl, bnext hbq hb5 (Nat.le_refl _), (by rw [Hid, HM3.out, hlg]; rfl), (by rw [Hid, HA3.out]; rfl)⟩
                          case measure => simp [intOf]; omega
                  · have hqe : (litsOf c).take q = litsOf c := List.take_of_length_le (by omega)
                    have HM4 : Hid (m2 = (cs.take (k + 1)).any manyR) := by rw [Hid, HM2.out, hqe, HKM.out, ← HM1.out]; simp only [manyR]; rw [HM.out, Bool.or_assoc]
                    have HA4 : Hid (a2 = (cs.take (k + 1)).any (arityR cs)) := by rw [Hid, HA2.out, hqe, HKA.out, HA.out]; rfl
                    clear HM2 HA2
                    go_wp2
                    go_roundw
                    case rel => exact ⟨k + 1, m2, a2, s2, by omega, by go_num, rfl, rfl, rfl, bnext hB3 hbq (Nat.le_refl _), hpx3.below hbq, HM4, HA4, HS4⟩
                    case measure => simp [intOf]; omega
    · have hke : cs.take k = cs := List.take_of_length_le (by omega)
      rw [hke] at HM HA HS
      have HW : Hid (wrongB cs = if m then 4 else if a then 5 else if s then 0 else 6) := by unfold Hid wrongB; rw [← HM.out, ← HA.out, ← HS.out]
      clear HM HA HS hke
      cases m
      all_goals cases a
      all_goals cases s
      all_goals
        go_wp2
        go_ret
        exact ⟨by rw [HW.out]; rfl, hbk⟩
end Go.Proofs.YteampbddflhngaaGreat
