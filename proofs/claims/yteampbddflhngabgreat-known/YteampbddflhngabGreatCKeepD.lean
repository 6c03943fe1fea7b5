import Derived.Test.YteampbddflhngabGreatCKeepC

/- Walks: derivekeep.gold, Known. -/
namespace Go.Proofs.YteampbddflhngabGreat
open Go.RowKit

set_option maxRecDepth 100000 in
set_option maxHeartbeats 4000000 in
theorem gold_any (w : World) (a : Int) (ha : -9223372036854775808 ≤ a ∧ a ≤ 9223372036854775807) (hsz : ∀ k, k < 27 → (lotT k).1.size ≤ 500) (hall : ∀ k, k < 27 → goldB (lotT k).1 (lotT k).2.1 (lotT k).2.2 = true) :
    Calls Tryz.prog 13 #[.int .i64 a] w fun e w' => e = .returned (.bool true) ∧ Below w.heap.size w w' := by
  have hlt := pickK_lt a (show 0 < 27 by omega)
  have HPK : Hid (∀ W, Calls Tryz.prog 14 #[.int .i64 a, .int .i64 27] W fun e w' => e = .returned (.int .i64 (pickK a 27 : Nat)) ∧ w' = W) := fun W => kpick_any W a 27 (by omega) (by omega) ha
  generalize pickK a 27 = k at *
  have hG := hall k hlt
  have HSZ : Hid ((lotT k).1.size ≤ 9223372036854775807) := show (lotT k).1.size ≤ 9223372036854775807 by have := hsz k hlt; omega
  obtain ⟨lc0, lc1, lc2⟩ := lot_cell k hlt
  have hki : (k : Int) < 27 := by omega
  have HLO : Hid (∀ W, Calls Tryz.prog 27 #[] W fun e w' => e = .returned (.slice (some ⟨W.heap.size, 0, none⟩) 27 27) ∧ w'.cell? ⟨W.heap.size, k * 3, none⟩ = some (.string (lotT k).1) ∧ w'.cell? ⟨W.heap.size, k * 3 + 1, none⟩ = some (.string (lotT k).2.1) ∧ w'.cell? ⟨W.heap.size, k * 3 + 2, none⟩ = some (.int .i64 ((lotT k).2.2 : Nat)) ∧ W.heap.size < w'.heap.size ∧ Hid (Below W.heap.size W w')) := fun W => by
    refine (lot_any W).mono ?_
    rintro e w' ⟨h1, h2, h3⟩
    exact ⟨h1, (h2.rules.1 _).trans lc0, (h2.rules.1 _).trans lc1, (h2.rules.1 _).trans lc2, h2.lt, h3⟩
  clear lc0 lc1 lc2 hall hsz
  generalize (lotT k).1 = tx at *
  generalize (lotT k).2.1 = wt at *
  generalize (lotT k).2.2 = en at *
  unfold goldB at hG
  go_enter Tryz.func13, Tryz.ntmps13
  go_upto_region 3 with (first | (go_at_call 27; refine (HLO.out _).mono ?_; rintro e w1 ⟨rfl, c0, c1, c2, hl1, HB1⟩) | (go_at_call 14; refine (HPK.out _).mono ?_; rintro e w2 ⟨rfl, hww⟩; obtain rfl := hww.symm))
  have hB2 : Below w.heap.size w (w1.alloc (.cells #[.string tx, .string wt, .int .i64 (en : Nat)] 58)) := bnext HB1.out (by repeat' (first | (with_reducible exact Below.refl _ _) | (with_reducible assumption) | (with_reducible refine bdrewN ?_ _) | (with_reducible refine Below.alloc ?_ ?_ _) | (with_reducible refine Below.drew ?_) | (with_reducible refine Below.setCell ?_ ?_ _) | go_size)) (Nat.le_refl _)
  have hxb := Box.new w1 #[.string tx, .string wt, .int .i64 (en : Nat)] 58
  clear c0 c1 c2 HLO HPK
  generalize w1.alloc (.cells #[.string tx, .string wt, .int .i64 (en : Nat)] 58) = W2 at *
  generalize w1.heap.size = xb at *
  have HXB : Hid (Box W2 xb #[.string tx, .string wt, .int .i64 (en : Nat)] 58) := hxb
  have x0 : W2.cell? ⟨xb, 0, none⟩ = some (.string tx) := by rw [hxb.rules.1]; rfl
  have xl := hxb.lt
  clear hxb hl1 HB1
  cases hc : compB tx with
  | error n =>
    rw [hc] at hG
    simp only [Bool.and_eq_true, decide_eq_true_eq] at hG
    obtain ⟨rfl, hn0⟩ := hG
    have HCO : Hid (Calls Tryz.prog 19 #[.string tx] W2 fun e w' => e = .returned (.tuple #[.pointer none, .int .i64 (en : Int)]) ∧ w'.cell? ⟨xb, 2, none⟩ = some (.int .i64 (en : Nat)) ∧ xb < w'.heap.size ∧ Hid (Below W2.heap.size W2 w')) := by
      have hsz : tx.size ≤ 9223372036854775807 := HSZ.out
      refine (compile_any tx W2 hsz).mono ?_
      rintro e w' ⟨hb, h2⟩
      rw [hc] at h2
      exact ⟨h2, by rw [(HXB.out.below hb).rules.1]; rfl, (HXB.out.below hb).lt, hb⟩
    clear hc
    go_wp2_with (first | (go_at_call 19; refine HCO.out.mono ?_; rintro e w3 ⟨rfl, c2, hl3, HB3⟩))
    go_ret
    exact ⟨rfl, bnext hB2 HB3.out (Nat.le_refl _)⟩
  | ok x =>
    obtain ⟨cs, t⟩ := x
    rw [hc] at hG
    simp only [Bool.and_eq_true] at hG
    obtain ⟨hk, hG⟩ := hG
    split at hG
    · rename_i R hrun
      split at hG
      · rename_i ls e0 hls
        simp only [Bool.and_eq_true, decide_eq_true_eq, List.all_eq_true] at hG
        obtain ⟨rfl, hwant, hfew, heach⟩ := hG
        have hok := okB_ok hk
        have HCO : Hid (Calls Tryz.prog 19 #[.string tx] W2 fun e w' => ∃ pb, e = .returned (.tuple #[.pointer (some ⟨pb, 0, none⟩), .int .i64 0]) ∧ Hid (PProg W2.heap.size w' pb cs t) ∧ Hid (Below W2.heap.size W2 w')) := by
          have hsz : tx.size ≤ 9223372036854775807 := HSZ.out
          refine (compile_any tx W2 hsz).mono ?_
          rintro e w' ⟨hb, h2⟩
          rw [hc] at h2
          obtain ⟨pb, v, pv, h3, h4, h5, h6, h7⟩ := h2
          exact ⟨pb, h3, ⟨h7, v, pv, h4, h5, h6⟩, hb⟩
        have HRU : Hid (∀ W lp pb, PProg lp W pb cs t → lp ≤ W.heap.size → Calls Tryz.prog 24 #[.pointer (some ⟨pb, 0, none⟩), .slice none 0 0, .int .i64 4096, .int .i64 4096] W fun e w' => ∃ rb pv nv rv tbs, e = .returned (.tuple #[.pointer (some ⟨rb, 0, none⟩), .int .i64 0]) ∧ Hid (ResO W.heap.size lp w' rb t (collectC cs) R pv nv rv tbs) ∧ Hid (Below W.heap.size W w')) := fun W lp pb hp hl => by
          refine (prun_any W pb cs t (.slice none 0 0) none 4096 4096 400 (some R) hp rfl hok rfl (by omega) (by omega) hl hrun).mono ?_
          rintro e w' ⟨rb, pv, nv, rv, tbs, _, h1, h2, h3⟩
          exact ⟨rb, pv, nv, rv, tbs, h1, h2, h3⟩
        have HRS : Hid (∀ W lo lp rb pv nv rv tbs, Below W2.heap.size W2 W → ResO lo lp W rb t (collectC cs) R pv nv rv tbs → Calls Tryz.prog 28 #[.pointer (some ⟨rb, 0, none⟩), .string ⟨#[112]⟩] W fun e w' => ∃ ao cap, e = .returned (.tuple #[.slice ao ls.length cap, .int .i64 (e0 : Nat)]) ∧ Hid (StrsAt w' (.slice ao ls.length cap) ls) ∧ w'.cell? ⟨xb, 1, none⟩ = some (.string wt) ∧ w'.cell? ⟨xb, 2, none⟩ = some (.int .i64 (e0 : Nat)) ∧ xb < w'.heap.size ∧ Hid (Below W2.heap.size W2 w')) := fun W lo lp rb pv nv rv tbs hb0 h => by
          refine (rowsK_any W rb t (collectC cs) R pv nv rv tbs bP h 400 ls e0 hls).mono ?_
          rintro e w' ⟨v, h1, h2, h3⟩
          have hb := bnext hb0 h3 (Nat.le_refl _)
          obtain ⟨ao, cap, rfl, h5⟩ := h2
          exact ⟨ao, cap, h1, ⟨ao, cap, rfl, h5⟩, by rw [(HXB.out.below hb).rules.1]; rfl, by rw [(HXB.out.below hb).rules.1]; rfl, (HXB.out.below hb).lt, hb⟩
        have HW : Hid (sK ls ls.length = wt) := hwant
        have HE : Hid (∀ l ∈ ls, l.length ≤ 1000 ∧ ∀ t ∈ l, t.size ≤ 1000) := heach
        clear hk hok hls hrun hc hwant heach
        go_wp2_with (first | (go_at_call 19; refine HCO.out.mono ?_; rintro e w3 ⟨pb, rfl, HP3, HB3⟩) | (go_at_call 24; refine (HRU.out _ _ _ HP3.out HB3.out.size).mono ?_; rintro e w4 ⟨rb, pv, nv, rv, tbs, rfl, HR4, HB4⟩) | (go_at_call 28; refine (HRS.out _ _ _ _ _ _ _ _ (bnext HB3.out HB4.out (Nat.le_refl _)) HR4.out).mono ?_; rintro e w5 ⟨ao, cap, rfl, HS5, y1, y2, yl, HB5⟩))
        have HFIN : Hid (Below w.heap.size w w5) := bnext hB2 HB5.out (Nat.le_refl _)
        clear HCO HRU HRS HP3 HB3 HR4 HB4 HB5 hB2 x0 xl HXB
        go_loopw [9, 10, 11, 12] (fun v9 v10 _ _ wr => ∃ m : Nat, m ≤ ls.length ∧ v10 = .int .i64 m ∧ v9 = .string (sK ls m) ∧ Hid (wr = w5)) (fun _ i _ _ _ => ls.length - (intOf i).toNat)
        case atStart => exact ⟨0, Nat.zero_le _, rfl, rfl, rfl⟩
        case round =>
          obtain ⟨m, hm, rfl, rfl, HWR⟩ := hrel
          obtain rfl := HWR.out.symm
          by_cases hml : m < ls.length
          · obtain ⟨ao', cap', hv, hcells⟩ := HS5.out
            simp only [Value.slice.injEq] at hv
            obtain ⟨rfl, _, rfl⟩ := hv
            obtain ⟨g, gi, rfl, hg, hcg, hgi, hcj⟩ := hcells m hml
            have hmi : (m : Int) < (ls.length : Int) := by omega
            have HSK : Hid (sK ls (m + 1) = sK ls m ++ ⟨#[40]⟩ ++ tK ls[m] ls[m].length ++ ⟨#[41, 59]⟩) := show sK ls (m + 1) = _ by
              show sK ls m ++ ⟨#[40]⟩ ++ tK (ls.getD m []) (ls.getD m []).length ++ ⟨#[41, 59]⟩ = _
              rw [show ls.getD m [] = ls[m] by simp [List.getD, hml]]
            obtain ⟨hrl, hts⟩ := HE.out ls[m] (List.getElem_mem hml)
            have HTS : Hid (∀ t ∈ ls[m], t.size ≤ 1000) := hts
            have hss : (sK ls m).size ≤ 1001003000 := by
              have h1 := sK_size HE.out m
              have : m * 1001003 ≤ 1000 * 1001003 := Nat.mul_le_mul_right _ (by omega)
              omega
            have HCJ : Hid (∀ j (h2 : j < ls[m].length), w5.cell? ⟨gi, j, none⟩ = some (.string ls[m][j])) := hcj
            clear hcells hcj hts
            generalize ls[m] = row at *
            generalize sK ls m = sm at *
            go_wp2
            go_loopw [11, 12] (fun v11 v12 wr => ∃ j : Nat, j ≤ row.length ∧ v12 = .int .i64 j ∧ v11 = .string (tK row j) ∧ Hid (wr = w5)) (fun _ i _ => row.length - (intOf i).toNat)
            case atStart => exact ⟨0, Nat.zero_le _, rfl, rfl, rfl⟩
            case round =>
              obtain ⟨j, hj, rfl, rfl, HWR2⟩ := hrel
              obtain rfl := HWR2.out.symm
              have htj : (tK row j).size ≤ 1001000 := by
                have h1 := tK_size HTS.out j
                have : j * 1001 ≤ 1000 * 1001 := Nat.mul_le_mul_right _ (by omega)
                omega
              by_cases hjl : j < row.length
              · have hjc := HCJ.out j hjl
                have hji : (j : Int) < (row.length : Int) := by omega
                have HTK : Hid (tK row (j + 1) = (if j > 0 then tK row j ++ ⟨#[44]⟩ else tK row j) ++ row[j]) := show tK row (j + 1) = _ by
                  show (if j > 0 then tK row j ++ ⟨#[44]⟩ else tK row j) ++ row.getD j ByteArray.empty = _
                  rw [show row.getD j ByteArray.empty = row[j] by simp [List.getD, hjl]]
                have hts1 := HTS.out row[j] (List.getElem_mem hjl)
                generalize row[j] = tj at *
                by_cases hj0 : j > 0
                · rw [if_pos hj0] at HTK
                  have hj0i : (0 : Int) < (j : Int) := by omega
                  generalize tK row j = tc at *
                  go_wp2
                  exact ⟨⟨j + 1, by omega, by go_num, by rw [HTK.out], by trivial⟩, by simp [intOf]; omega⟩
                · rw [if_neg hj0] at HTK
                  have hj0i : ¬ (0 : Int) < (j : Int) := by omega
                  generalize tK row j = tc at *
                  go_wp2
                  exact ⟨⟨j + 1, by omega, by go_num, by rw [HTK.out], by trivial⟩, by simp [intOf]; omega⟩
              · obtain rfl : j = row.length := by omega
                generalize tK row row.length = tc at *
                go_wp2
                exact ⟨⟨m + 1, by omega, by go_num, by rw [HSK.out], by trivial⟩, by simp [intOf]; omega⟩
          · obtain rfl : m = ls.length := by omega
            rw [HW.out]
            go_wp2
            go_ret
            exact ⟨rfl, HFIN.out⟩
      · cases hG
    · cases hG

set_option maxRecDepth 100000 in
set_option maxHeartbeats 4000000 in
theorem known_any (w : World) (a : Int) (ha : -9223372036854775808 ≤ a ∧ a ≤ 9223372036854775807) (hsz : ∀ k, k < 27 → (lotT k).1.size ≤ 500) (hall : ∀ k, k < 27 → goldB (lotT k).1 (lotT k).2.1 (lotT k).2.2 = true) :
    Calls Tryz.prog 5 #[.int .i64 a] w fun e w' => e = .returned (.bool true) ∧ Below w.heap.size w w' := by
  have HGO : Hid (∀ W, Calls Tryz.prog 13 #[.int .i64 a] W fun e w' => e = .returned (.bool true) ∧ Below W.heap.size W w') := fun W => gold_any W a ha hsz hall
  go_enter Tryz.func5, Tryz.ntmps5
  go_wp2_with (first | (go_at_call 13; refine (HGO.out _).mono ?_; rintro e w2 ⟨rfl, hb2⟩))
  go_ret
  exact ⟨rfl, hb2⟩
end Go.Proofs.YteampbddflhngabGreat
