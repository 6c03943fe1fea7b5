import Derived.Test.YteampbddflhngabGreatB48
import Derived.Test.YteampbddflhngabGreatB43

/- Walks: derivekeep.worst, Triangles. -/
namespace Go.Proofs.YteampbddflhngabGreat
open Go.RowKit

/-- The edges of the star. -/
def starN : Nat → ByteArray
  | 0 => ByteArray.empty
  | k + 1 => starN k ++ ⟨#[101, 40, 48, 48, 44]⟩ ++ dig2 (k + 1) ++ ⟨#[41, 46, 101, 40]⟩ ++ dig2 (k + 1) ++ ⟨#[44, 48, 48, 41, 46]⟩
def starT (n : Nat) : ByteArray := starN (n - 1) ++ ⟨#[101, 40, 48, 49, 44, 48, 50, 41, 46, 116, 40, 88, 44, 89, 44, 90, 41, 58, 45, 101, 40, 88, 44, 89, 41, 44, 101, 40, 89, 44, 90, 41, 44, 101, 40, 90, 44, 88, 41, 46]⟩
def bT : ByteArray := ⟨#[116]⟩
theorem starN_size : ∀ k, (starN k).size = 18 * k
  | 0 => rfl
  | k + 1 => by
    unfold starN
    simp only [ByteArray.size_append, starN_size k, dig2_size]
    have h1 : (⟨#[101, 40, 48, 48, 44]⟩ : ByteArray).size = 5 := rfl
    have h2 : (⟨#[41, 46, 101, 40]⟩ : ByteArray).size = 4 := rfl
    have h3 : (⟨#[44, 48, 48, 41, 46]⟩ : ByteArray).size = 5 := rfl
    rw [h1, h2, h3]; omega
/-- What Triangles asks, of the pure run. -/
def triB (n : Nat) : Bool := match ranB 400 (starT n) with
  | none => false
  | some (_, t, R) => match rowsB 400 t R bT with
    | none => false
    | some rs => decide (rs.length = 3) && (decide ((n : Int) ≤ R.moves) && decide (R.moves ≤ 20 * n))

set_option maxRecDepth 100000 in
set_option maxHeartbeats 4000000 in
theorem worst_any (w : World) (n : Nat) (hn : 3 ≤ n) (hn2 : n ≤ 99) (ht : triB n = true) :
    Calls Tryz.prog 17 #[.int .i64 n] w fun e w' => e = .returned (.bool true) ∧ Below w.heap.size w w' := by
  unfold triB at ht
  cases hr : ranB 400 (starT n) with
  | none => rw [hr] at ht; cases ht
  | some x =>
    obtain ⟨cs, t, R⟩ := x
    rw [hr] at ht
    simp only at ht
    cases hs : rowsB 400 t R bT with
    | none => rw [hs] at ht; cases ht
    | some rs =>
      rw [hs] at ht
      simp only [Bool.and_eq_true, decide_eq_true_eq] at ht
      obtain ⟨h3, hm1, hm2⟩ := ht
      obtain ⟨hc, hk, hrun⟩ := ranB_some hr
      obtain ⟨he, har, hf, hrs⟩ := rowsB_some hs
      have HDG : Hid (∀ W (k : Nat), k < 100 → Calls Tryz.prog 29 #[.int .i64 k] W fun e w' => e = .returned (.string (dig2 k)) ∧ Below W.heap.size W w') := fun W k hk => digits_any W k hk
      have HSZ : Hid (starT n = starN (n - 1) ++ ⟨#[101, 40, 48, 49, 44, 48, 50, 41, 46, 116, 40, 88, 44, 89, 44, 90, 41, 58, 45, 101, 40, 88, 44, 89, 41, 44, 101, 40, 89, 44, 90, 41, 44, 101, 40, 90, 44, 88, 41, 46]⟩) := show starT n = _ from rfl
      have HSS : Hid ((starT n).size ≤ 500) := show (starT n).size ≤ 500 by
        unfold compB at hc
        by_cases q : 500 < (starT n).size
        · rw [if_pos q] at hc; cases hc
        · omega
      have HCO : Hid (∀ W, Calls Tryz.prog 19 #[.string (starN (n - 1) ++ ⟨#[101, 40, 48, 49, 44, 48, 50, 41, 46, 116, 40, 88, 44, 89, 44, 90, 41, 58, 45, 101, 40, 88, 44, 89, 41, 44, 101, 40, 89, 44, 90, 41, 44, 101, 40, 90, 44, 88, 41, 46]⟩)] W fun e w' => ∃ pb, e = .returned (.tuple #[.pointer (some ⟨pb, 0, none⟩), .int .i64 0]) ∧ Hid (PProg W.heap.size w' pb cs t) ∧ Below W.heap.size W w') := fun W => by
        refine (compile_any (starT n) W (by have := HSS.out; omega)).mono ?_
        rintro e w' ⟨hb, h2⟩
        rw [hc] at h2
        obtain ⟨pb, v, pv, h3, h4, h5, h6, h7⟩ := h2
        exact ⟨pb, h3, ⟨h7, v, pv, h4, h5, h6⟩, hb⟩
      have HRU : Hid (∀ W lp pb, PProg lp W pb cs t → lp ≤ W.heap.size → Calls Tryz.prog 24 #[.pointer (some ⟨pb, 0, none⟩), .slice none 0 0, .int .i64 4096, .int .i64 4096] W fun e w' => ∃ rb pv nv rv tbs, e = .returned (.tuple #[.pointer (some ⟨rb, 0, none⟩), .int .i64 0]) ∧ Hid (ResO W.heap.size lp w' rb t (collectC cs) R pv nv rv tbs) ∧ Below W.heap.size W w') := fun W lp pb hp hl => by
        refine (prun_any W pb cs t (.slice none 0 0) none 4096 4096 400 (some R) hp rfl hk rfl (by omega) (by omega) hl hrun).mono ?_
        rintro e w' ⟨rb, pv, nv, rv, tbs, _, h1, h2, h3⟩
        exact ⟨rb, pv, nv, rv, tbs, h1, h2, h3⟩
      have HRS : Hid (∀ W lo lp rb pv nv rv tbs, ResO lo lp W rb t (collectC cs) R pv nv rv tbs → Calls Tryz.prog 28 #[.pointer (some ⟨rb, 0, none⟩), .string ⟨#[116]⟩] W fun e w' => ∃ g, e = .returned (.tuple #[.slice (some ⟨g, 0, none⟩) 3 3, .int .i64 0]) ∧ Below W.heap.size W w') := fun W lo lp rb pv nv rv tbs h => by
        refine (rrows_any W rb t (collectC cs) R pv nv rv tbs bT h he hf 400 rs hrs har).mono ?_
        rintro e w' ⟨g, gs, _, h1, _, _, h2⟩
        rw [h3] at h1
        exact ⟨g, h1, h2⟩
      have HCT : Hid (∀ W lo lp rb pv nv rv tbs, ResO lo lp W rb t (collectC cs) R pv nv rv tbs → Calls Tryz.prog 36 #[.pointer (some ⟨rb, 0, none⟩)] W fun e w' => e = .returned (.tuple #[.int .i64 (R.count : Nat), .int .i64 (R.rounds : Nat), .int .i64 R.moves]) ∧ ∃ m, w' = W.drewN m) := fun W lo lp rb pv nv rv tbs h => counts_any W rb pv nv rv R h.box
      clear hs hr hk hrun he hf hrs har hc h3
      generalize R.moves = mv at *
      generalize R.count = ct at *
      generalize R.rounds = rd at *
      clear HSZ HSS
      clear rs
      go_enter Tryz.func17, Tryz.ntmps17
      go_upto_region 3 with fail
      go_loopw [3, 4] (fun v3 v4 wr => ∃ k : Nat, 1 ≤ k ∧ k ≤ n ∧ v4 = .int .i64 k ∧ v3 = .string (starN (k - 1)) ∧ Below w.heap.size w wr) (fun _ i _ => n - (intOf i).toNat)
      case atStart => exact ⟨1, by omega, by omega, rfl, rfl, Below.refl _ _⟩
      case round =>
        obtain ⟨k, hk1, hk2, rfl, rfl, hbk⟩ := hrel
        have hsz : (starN (k - 1)).size ≤ 2000 := by rw [starN_size]; omega
        by_cases hlt : k < n
        · have HST : Hid (starN k = starN (k - 1) ++ ⟨#[101, 40, 48, 48, 44]⟩ ++ dig2 k ++ ⟨#[41, 46, 101, 40]⟩ ++ dig2 k ++ ⟨#[44, 48, 48, 41, 46]⟩) := show starN k = _ by
            obtain ⟨j, rfl⟩ : ∃ j, k = j + 1 := ⟨k - 1, by omega⟩
            rfl
          have hd2 := dig2_size k
          have hk3 : k < 100 := by omega
          generalize starN (k - 1) = sk at *
          go_wp2_with (first | (go_at_call 29; refine (HDG.out _ k hk3).mono ?_; rintro e w1 ⟨rfl, hb1⟩))
          exact ⟨⟨k + 1, by omega, by omega, by go_num, by rw [show k + 1 - 1 = k by omega, HST.out], bnext hbk hb1 (Nat.le_refl _)⟩, by simp [intOf]; omega⟩
        · obtain rfl : k = n := by omega
          have hHL : Hid (w.heap.size ≤ wr.heap.size) := hbk.size
          generalize starN (k - 1) = sk at *
          go_wp2_with (first | (go_at_call 19; refine (HCO.out _).mono ?_; rintro e w1 ⟨pb, rfl, HP1, hb1⟩) | (go_at_call 24; refine (HRU.out _ _ _ HP1.out hb1.size).mono ?_; rintro e w2 ⟨rb, pv, nv, rv, tbs, rfl, HR2, hb2⟩) | (go_at_call 28; refine (HRS.out _ _ _ _ _ _ _ _ HR2.out).mono ?_; rintro e w3 ⟨g, rfl, hb3⟩) | (go_at_call 36; refine (HCT.out _ _ _ _ _ _ _ _ (HR2.out.below hb3)).mono ?_; rintro e w4 ⟨rfl, hm4⟩))
          obtain ⟨m4, rfl⟩ := hm4
          go_ret
          exact ⟨rfl, bdrewN (bnext (bnext (bnext hbk hb1 (Nat.le_refl _)) hb2 (Nat.le_refl _)) hb3 (Nat.le_refl _)) _⟩

set_option maxRecDepth 100000 in
set_option maxHeartbeats 4000000 in
theorem triangles_any (w : World) (a : Int) (ha : -9223372036854775808 ≤ a ∧ a ≤ 9223372036854775807) (ht : ∀ n, 3 ≤ n → n ≤ 23 → triB n = true) :
    Calls Tryz.prog 8 #[.int .i64 a] w fun e w' => e = .returned (.bool true) ∧ Below w.heap.size w w' := by
  have hlt := pickK_lt a (show 0 < 21 by omega)
  have HPK : Hid (∀ W, Calls Tryz.prog 14 #[.int .i64 a, .int .i64 21] W fun e w' => e = .returned (.int .i64 (pickK a 21 : Nat)) ∧ w' = W) := fun W => kpick_any W a 21 (by omega) (by omega) ha
  generalize pickK a 21 = k at *
  have HWO : Hid (∀ W, Calls Tryz.prog 17 #[.int .i64 (3 + (k : Int))] W fun e w' => e = .returned (.bool true) ∧ Below W.heap.size W w') := fun W => by
    have q := worst_any W (3 + k) (by omega) (by omega) (ht _ (by omega) (by omega))
    rw [show ((3 + k : Nat) : Int) = 3 + (k : Int) by omega] at q
    exact q
  go_enter Tryz.func8, Tryz.ntmps8
  go_wp2_with (first | (go_at_call 14; refine (HPK.out _).mono ?_; rintro e w1 ⟨rfl, hww⟩; obtain rfl := hww.symm) | (go_at_call 17; refine (HWO.out _).mono ?_; rintro e w2 ⟨rfl, hb2⟩))
  go_ret
  exact ⟨rfl, hb2⟩
end Go.Proofs.YteampbddflhngabGreat
