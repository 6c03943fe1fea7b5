import Derived.Test.YteampbddflhngaaGreatP03

/- Walks: deriveref.within, first, isName, isTerm, isVar. -/
namespace Go.Proofs.YteampbddflhngaaGreat
open Go.RowKit

def inB (c : Int) (s : ByteArray) : Bool := s.data.toList.any fun b => (b.toNat : Int) == c
set_option maxRecDepth 100000 in
set_option maxHeartbeats 1000000 in
theorem within_any (c : Int) (s : ByteArray) (w : World) (hs : s.size ≤ 1000) :
    Calls Tryz.prog 105 #[.int .u8 c, .string s] w fun e w' => e = .returned (.bool (inB c s)) ∧ w' = w := by
  go_enter Tryz.func105, Tryz.ntmps105
  go_wp2
  go_loop [5] (fun i => ∃ k : Nat, k ≤ s.size ∧ i = .int .i64 k ∧ Hid (inB c s = (s.data.toList.drop k).any fun b => (b.toNat : Int) == c)) (fun i => s.size - (intOf i).toNat)
  case atStart => exact ⟨0, Nat.zero_le _, rfl, rfl⟩
  case round =>
    obtain ⟨k, hk, rfl, H⟩ := hrel
    by_cases hlt : k < s.size
    · have hdl : k < s.data.toList.length := by rw [Array.length_toList]; exact hlt
      have hdr := any_drop s.data.toList (fun b => (b.toNat : Int) == c) k hdl
      have hxk : s.data.toList[k] = s[k] := rfl
      rw [hxk] at hdr
      have HD : Hid (inB c s = (((s[k].toNat : Int) == c) || (s.data.toList.drop (k + 1)).any fun b => (b.toNat : Int) == c)) := by rw [Hid, H.out, hdr]
      clear hdr hxk H
      cases hE : ((s[k].toNat : Int) == c) with
      | true =>
        have HR : Hid (inB c s = true) := by rw [Hid, HD.out, hE]; rfl
        clear HD
        go_wp2
        go_ret
        exact ⟨by rw [HR.out]; rfl, rfl⟩
      | false =>
        have HR : Hid (inB c s = (s.data.toList.drop (k + 1)).any fun b => (b.toNat : Int) == c) := by rw [Hid, HD.out, hE]; rfl
        clear HD
        go_wp2
        go_round
        case rel => exact ⟨k + 1, by omega, by go_num, HR⟩
        case measure => simp [intOf]; omega
    · have HR : Hid (inB c s = false) := by rw [Hid, H.out, List.drop_eq_nil_of_le (by rw [Array.length_toList]; show s.size ≤ k; omega)]; rfl
      clear H
      go_wp2
      go_ret
      exact ⟨by rw [HR.out]; rfl, rfl⟩
theorem inB_dec (p : Int → Bool) (s : ByteArray) (h : (List.range 256).all (fun n => inB (n : Int) s == p (n : Int)) = true) (c : Int) (h0 : 0 ≤ c) (h1 : c < 256) : inB c s = p c := by
  obtain ⟨n, rfl⟩ := Int.eq_ofNat_of_zero_le h0
  have := List.all_eq_true.1 h n (by simp; omega)
  simpa using this
def bSg (c : Int) : Bool := c == 40 || c == 41 || c == 44 || c == 46 || c == 33
def bLet (c : Int) : Bool := bSmall c || bCap c
theorem inB_blank (c : Int) (h0 : 0 ≤ c) (h1 : c < 256) : inB c { data := #[32, 10] } = bBlank c := inB_dec bBlank _ (by decide +kernel) c h0 h1
theorem inB_digit (c : Int) (h0 : 0 ≤ c) (h1 : c < 256) : inB c { data := #[48, 49, 50, 51, 52, 53, 54, 55, 56, 57] } = bDig c := inB_dec bDig _ (by decide +kernel) c h0 h1
theorem inB_small (c : Int) (h0 : 0 ≤ c) (h1 : c < 256) : inB c { data := #[97, 98, 99, 100, 101, 102, 103, 104, 105, 106, 107, 108, 109, 110, 111, 112, 113, 114, 115, 116, 117, 118, 119, 120, 121, 122] } = bSmall c := inB_dec bSmall _ (by decide +kernel) c h0 h1
theorem inB_great (c : Int) (h0 : 0 ≤ c) (h1 : c < 256) : inB c { data := #[65, 66, 67, 68, 69, 70, 71, 72, 73, 74, 75, 76, 77, 78, 79, 80, 81, 82, 83, 84, 85, 86, 87, 88, 89, 90] } = bCap c := inB_dec bCap _ (by decide +kernel) c h0 h1
theorem inB_let (c : Int) (h0 : 0 ≤ c) (h1 : c < 256) : inB c { data := #[97, 98, 99, 100, 101, 102, 103, 104, 105, 106, 107, 108, 109, 110, 111, 112, 113, 114, 115, 116, 117, 118, 119, 120, 121, 122, 65, 66, 67, 68, 69, 70, 71, 72, 73, 74, 75, 76, 77, 78, 79, 80, 81, 82, 83, 84, 85, 86, 87, 88, 89, 90] } = bLet c := inB_dec bLet _ (by decide +kernel) c h0 h1
theorem inB_ld (c : Int) (h0 : 0 ≤ c) (h1 : c < 256) : inB c { data := #[97, 98, 99, 100, 101, 102, 103, 104, 105, 106, 107, 108, 109, 110, 111, 112, 113, 114, 115, 116, 117, 118, 119, 120, 121, 122, 65, 66, 67, 68, 69, 70, 71, 72, 73, 74, 75, 76, 77, 78, 79, 80, 81, 82, 83, 84, 85, 86, 87, 88, 89, 90, 48, 49, 50, 51, 52, 53, 54, 55, 56, 57] } = bLD c := inB_dec bLD _ (by decide +kernel) c h0 h1
theorem inB_sign (c : Int) (h0 : 0 ≤ c) (h1 : c < 256) : inB c { data := #[40, 41, 44, 46, 33] } = bSg c := inB_dec bSg _ (by decide +kernel) c h0 h1
theorem within_blank (c : Int) (w : World) (h0 : 0 ≤ c) (h1 : c < 256) : Calls Tryz.prog 105 #[.int .u8 c, .string { data := #[32, 10] }] w fun e w' => e = .returned (.bool (bBlank c)) ∧ w' = w := by
  have := within_any c { data := #[32, 10] } w (by decide)
  rw [inB_blank c h0 h1] at this
  exact this
theorem within_digit (c : Int) (w : World) (h0 : 0 ≤ c) (h1 : c < 256) : Calls Tryz.prog 105 #[.int .u8 c, .string { data := #[48, 49, 50, 51, 52, 53, 54, 55, 56, 57] }] w fun e w' => e = .returned (.bool (bDig c)) ∧ w' = w := by
  have := within_any c { data := #[48, 49, 50, 51, 52, 53, 54, 55, 56, 57] } w (by decide)
  rw [inB_digit c h0 h1] at this
  exact this
theorem within_small (c : Int) (w : World) (h0 : 0 ≤ c) (h1 : c < 256) : Calls Tryz.prog 105 #[.int .u8 c, .string { data := #[97, 98, 99, 100, 101, 102, 103, 104, 105, 106, 107, 108, 109, 110, 111, 112, 113, 114, 115, 116, 117, 118, 119, 120, 121, 122] }] w fun e w' => e = .returned (.bool (bSmall c)) ∧ w' = w := by
  have := within_any c { data := #[97, 98, 99, 100, 101, 102, 103, 104, 105, 106, 107, 108, 109, 110, 111, 112, 113, 114, 115, 116, 117, 118, 119, 120, 121, 122] } w (by decide)
  rw [inB_small c h0 h1] at this
  exact this
theorem within_great (c : Int) (w : World) (h0 : 0 ≤ c) (h1 : c < 256) : Calls Tryz.prog 105 #[.int .u8 c, .string { data := #[65, 66, 67, 68, 69, 70, 71, 72, 73, 74, 75, 76, 77, 78, 79, 80, 81, 82, 83, 84, 85, 86, 87, 88, 89, 90] }] w fun e w' => e = .returned (.bool (bCap c)) ∧ w' = w := by
  have := within_any c { data := #[65, 66, 67, 68, 69, 70, 71, 72, 73, 74, 75, 76, 77, 78, 79, 80, 81, 82, 83, 84, 85, 86, 87, 88, 89, 90] } w (by decide)
  rw [inB_great c h0 h1] at this
  exact this
theorem within_let (c : Int) (w : World) (h0 : 0 ≤ c) (h1 : c < 256) : Calls Tryz.prog 105 #[.int .u8 c, .string { data := #[97, 98, 99, 100, 101, 102, 103, 104, 105, 106, 107, 108, 109, 110, 111, 112, 113, 114, 115, 116, 117, 118, 119, 120, 121, 122, 65, 66, 67, 68, 69, 70, 71, 72, 73, 74, 75, 76, 77, 78, 79, 80, 81, 82, 83, 84, 85, 86, 87, 88, 89, 90] }] w fun e w' => e = .returned (.bool (bLet c)) ∧ w' = w := by
  have := within_any c { data := #[97, 98, 99, 100, 101, 102, 103, 104, 105, 106, 107, 108, 109, 110, 111, 112, 113, 114, 115, 116, 117, 118, 119, 120, 121, 122, 65, 66, 67, 68, 69, 70, 71, 72, 73, 74, 75, 76, 77, 78, 79, 80, 81, 82, 83, 84, 85, 86, 87, 88, 89, 90] } w (by decide)
  rw [inB_let c h0 h1] at this
  exact this
theorem within_ld (c : Int) (w : World) (h0 : 0 ≤ c) (h1 : c < 256) : Calls Tryz.prog 105 #[.int .u8 c, .string { data := #[97, 98, 99, 100, 101, 102, 103, 104, 105, 106, 107, 108, 109, 110, 111, 112, 113, 114, 115, 116, 117, 118, 119, 120, 121, 122, 65, 66, 67, 68, 69, 70, 71, 72, 73, 74, 75, 76, 77, 78, 79, 80, 81, 82, 83, 84, 85, 86, 87, 88, 89, 90, 48, 49, 50, 51, 52, 53, 54, 55, 56, 57] }] w fun e w' => e = .returned (.bool (bLD c)) ∧ w' = w := by
  have := within_any c { data := #[97, 98, 99, 100, 101, 102, 103, 104, 105, 106, 107, 108, 109, 110, 111, 112, 113, 114, 115, 116, 117, 118, 119, 120, 121, 122, 65, 66, 67, 68, 69, 70, 71, 72, 73, 74, 75, 76, 77, 78, 79, 80, 81, 82, 83, 84, 85, 86, 87, 88, 89, 90, 48, 49, 50, 51, 52, 53, 54, 55, 56, 57] } w (by decide)
  rw [inB_ld c h0 h1] at this
  exact this
theorem within_sign (c : Int) (w : World) (h0 : 0 ≤ c) (h1 : c < 256) : Calls Tryz.prog 105 #[.int .u8 c, .string { data := #[40, 41, 44, 46, 33] }] w fun e w' => e = .returned (.bool (bSg c)) ∧ w' = w := by
  have := within_any c { data := #[40, 41, 44, 46, 33] } w (by decide)
  rw [inB_sign c h0 h1] at this
  exact this

set_option maxRecDepth 100000 in
set_option maxHeartbeats 1000000 in
theorem risName_any (s : ByteArray) (w : World) (h : 0 < s.size) :
    Calls Tryz.prog 184 #[.string s] w fun e w' => e = .returned (.bool (bSmall (bAt s 0))) ∧ w' = w := by
  have hb := bAt_bd s 0
  rw [bAt_lt h] at hb ⊢
  go_enter Tryz.func184, Tryz.ntmps184
  go_wp2_with (first | (go_at_call 105; refine (within_small _ _ (by omega) (by omega)).mono ?_; rintro e w' ⟨rfl, rfl⟩))
  go_ret
  exact ⟨rfl, rfl⟩

set_option maxRecDepth 100000 in
set_option maxHeartbeats 1000000 in
theorem risVar_any (s : ByteArray) (w : World) (h : 0 < s.size) :
    Calls Tryz.prog 154 #[.string s] w fun e w' => e = .returned (.bool (bCap (bAt s 0))) ∧ w' = w := by
  have hb := bAt_bd s 0
  rw [bAt_lt h] at hb ⊢
  go_enter Tryz.func154, Tryz.ntmps154
  go_wp2_with (first | (go_at_call 105; refine (within_great _ _ (by omega) (by omega)).mono ?_; rintro e w' ⟨rfl, rfl⟩))
  go_ret
  exact ⟨rfl, rfl⟩

set_option maxRecDepth 100000 in
set_option maxHeartbeats 1000000 in
theorem risTerm_any (s : ByteArray) (w : World) (h : 0 < s.size) :
    Calls Tryz.prog 185 #[.string s] w fun e w' => e = .returned (.bool (bLD (bAt s 0))) ∧ w' = w := by
  have hb := bAt_bd s 0
  rw [bAt_lt h] at hb ⊢
  go_enter Tryz.func185, Tryz.ntmps185
  go_wp2_with (first | (go_at_call 105; refine (within_ld _ _ (by omega) (by omega)).mono ?_; rintro e w' ⟨rfl, rfl⟩))
  go_ret
  exact ⟨rfl, rfl⟩

end Go.Proofs.YteampbddflhngaaGreat

/- Walks: deriveref.first. -/
namespace Go.Proofs.YteampbddflhngaaGreat
open Go.RowKit

theorem ifTest (s : ByteArray) (h : 1 < s.size) : ((s.extract 0 2).toList == [58, 45]) = (decide (bAt s 0 = 58) && decide (bAt s 1 = 45)) := by
  rw [bytes_toList, bAt_lt (by omega : 0 < s.size), bAt_lt h]
  have h0 : s.data.toList.length = s.size := Array.length_toList
  have hd : (s.extract 0 2).data.toList = [s[0], s[1]] := by
    rw [ByteArray.data_extract, Array.toList_extract]
    obtain ⟨⟨l⟩⟩ := s
    match l, h with
    | a :: b :: r, _ => rfl
  rw [hd]
  have e : ∀ (x : UInt8) (n : UInt8), (x == n) = decide ((x.toNat : Int) = (n.toNat : Int)) := fun x n => by
    by_cases hx : x = n
    · subst hx; simp
    · rw [beq_eq_false_iff_ne.2 hx]; symm; rw [decide_eq_false_iff_not]; intro hh; exact hx (UInt8.toNat_inj.1 (by omega))
  simp only [List.cons_beq_cons, e, List.nil_beq_eq, List.isEmpty_nil, Bool.and_true]
  rfl
def firstB (s : ByteArray) : Nat := endB s 0 (kindB (bAt s 0) (bAt s 1))

set_option maxRecDepth 100000 in
set_option maxHeartbeats 1000000 in
theorem first_if (s : ByteArray) (w : World) (_ : s.size ≤ 500) (h1 : 1 < s.size) (h2 : bAt s 0 = 58) (h3 : bAt s 1 = 45) :
    Calls Tryz.prog 106 #[.string s] w fun e w' => e = .returned (.int .i64 (firstB s)) ∧ w' = w := by
  have HF : Hid (firstB s = 2) := by unfold Hid firstB; rw [h2, h3]; rfl
  have ht := ifTest s h1
  rw [h2, h3] at ht
  have ht2 : ((s.extract 0 2).toList == [58, 45]) = true := ht
  clear ht h2 h3
  go_enter Tryz.func106, Tryz.ntmps106
  go_wp2_with fail
  go_ret
  exact ⟨by rw [HF.out]; rfl, rfl⟩
/-- What it does behind the test for ':-'. -/
def NotIf (s : ByteArray) : Prop := ¬ 1 < s.size ∨ (1 < s.size ∧ ((s.extract 0 2).toList == [58, 45]) = false)
theorem notIf (s : ByteArray) (h : ¬ (bAt s 0 = 58 ∧ bAt s 1 = 45)) : NotIf s := by
  by_cases h1 : 1 < s.size
  · right; refine ⟨h1, ?_⟩; rw [ifTest s h1]; simp only [Bool.and_eq_false_iff, decide_eq_false_iff_not]; omega
  · left; exact h1

set_option maxRecDepth 100000 in
set_option maxHeartbeats 1000000 in
theorem first_sign (s : ByteArray) (w : World) (hs : s.size ≤ 500) (hp : 0 < s.size) (hn : NotIf s) (h : bSg (bAt s 0) = true) :
    Calls Tryz.prog 106 #[.string s] w fun e w' => e = .returned (.int .i64 (1)) ∧ w' = w := by
  have hb0 := bAt_bd s 0
  have hbe := bAt_lt hp
  rw [hbe] at hb0 h
  clear hbe
  rcases hn with hn | ⟨hn1, hn⟩
  all_goals
    go_enter Tryz.func106, Tryz.ntmps106
    go_wp2_with (first | (go_at_call 105; refine (within_sign _ _ (by omega) (by omega)).mono ?_; rintro e w' ⟨rfl, rfl⟩))
    go_ret
    exact ⟨rfl, rfl⟩

set_option maxRecDepth 100000 in
set_option maxHeartbeats 1000000 in
theorem first_digit (s : ByteArray) (w : World) (hs : s.size ≤ 500) (hp : 0 < s.size) (hn : NotIf s) (h : bSg (bAt s 0) = false) (hd : bDig (bAt s 0) = true) :
    Calls Tryz.prog 106 #[.string s] w fun e w' => e = .returned (.int .i64 (runEnd bDig s 0)) ∧ w' = w := by
  have hb0 := bAt_bd s 0
  have hbe := bAt_lt hp
  rw [hbe] at hb0 h hd
  clear hbe
  rcases hn with hn | ⟨hn1, hn⟩
  all_goals
    go_enter Tryz.func106, Tryz.ntmps106
    go_wp2_with (first | (go_at_call 105; with_reducible refine (within_sign _ _ (by omega) (by omega)).mono ?_; rintro e w' ⟨rfl, rfl⟩) | (go_at_call 105; with_reducible refine (within_digit _ _ (by omega) (by omega)).mono ?_; rintro e w' ⟨rfl, rfl⟩) | (go_at_call 105; with_reducible refine (within_let _ _ (by omega) (by omega)).mono ?_; rintro e w' ⟨rfl, rfl⟩) | (go_at_call 105; with_reducible refine (within_ld _ _ (by omega) (by omega)).mono ?_; rintro e w' ⟨rfl, rfl⟩))
    go_loop [3] (fun t => ∃ k : Nat, k ≤ s.size ∧ t = .int .i64 k ∧ Hid (runEnd bDig s 0 = runEnd bDig s k)) (fun t => s.size - (intOf t).toNat)
    case atStart => exact ⟨0, Nat.zero_le _, rfl, rfl⟩
    case round =>
      obtain ⟨k, hk, rfl, H⟩ := hrel
      by_cases hlt : k < s.size
      · have hbk := bAt_lt hlt
        have hbd := bAt_bd s k
        cases hpk : bDig (bAt s k) with
        | true =>
          have H2 : Hid (runEnd bDig s 0 = runEnd bDig s (k + 1)) := by rw [Hid.out H, runEnd_yes hlt hpk]; rfl
          rw [hbk] at hpk hbd
          clear hbk H
          go_wp2_with (first | (go_at_call 105; with_reducible refine (within_sign _ _ (by omega) (by omega)).mono ?_; rintro e w' ⟨rfl, rfl⟩) | (go_at_call 105; with_reducible refine (within_digit _ _ (by omega) (by omega)).mono ?_; rintro e w' ⟨rfl, rfl⟩) | (go_at_call 105; with_reducible refine (within_let _ _ (by omega) (by omega)).mono ?_; rintro e w' ⟨rfl, rfl⟩) | (go_at_call 105; with_reducible refine (within_ld _ _ (by omega) (by omega)).mono ?_; rintro e w' ⟨rfl, rfl⟩))
          go_round
          case rel => exact ⟨k + 1, by omega, by go_num, H2⟩
          case measure => simp [intOf]; omega
        | false =>
          have H2 : Hid (runEnd bDig s 0 = k) := by rw [Hid.out H, runEnd_no hpk]; rfl
          rw [hbk] at hpk hbd
          clear hbk H
          go_wp2_with (first | (go_at_call 105; with_reducible refine (within_sign _ _ (by omega) (by omega)).mono ?_; rintro e w' ⟨rfl, rfl⟩) | (go_at_call 105; with_reducible refine (within_digit _ _ (by omega) (by omega)).mono ?_; rintro e w' ⟨rfl, rfl⟩) | (go_at_call 105; with_reducible refine (within_let _ _ (by omega) (by omega)).mono ?_; rintro e w' ⟨rfl, rfl⟩) | (go_at_call 105; with_reducible refine (within_ld _ _ (by omega) (by omega)).mono ?_; rintro e w' ⟨rfl, rfl⟩))
          go_ret
          exact ⟨by rw [Hid.out H2]; rfl, rfl⟩
      · have H2 : Hid (runEnd bDig s 0 = k) := by rw [Hid.out H, runEnd_stop hlt]; rfl
        clear H
        go_wp2_with (first | (go_at_call 105; with_reducible refine (within_sign _ _ (by omega) (by omega)).mono ?_; rintro e w' ⟨rfl, rfl⟩) | (go_at_call 105; with_reducible refine (within_digit _ _ (by omega) (by omega)).mono ?_; rintro e w' ⟨rfl, rfl⟩) | (go_at_call 105; with_reducible refine (within_let _ _ (by omega) (by omega)).mono ?_; rintro e w' ⟨rfl, rfl⟩) | (go_at_call 105; with_reducible refine (within_ld _ _ (by omega) (by omega)).mono ?_; rintro e w' ⟨rfl, rfl⟩))
        go_ret
        exact ⟨by rw [Hid.out H2]; rfl, rfl⟩

set_option maxRecDepth 100000 in
set_option maxHeartbeats 1000000 in
theorem first_let (s : ByteArray) (w : World) (hs : s.size ≤ 500) (hp : 0 < s.size) (hn : NotIf s) (h : bSg (bAt s 0) = false) (hd : bDig (bAt s 0) = false) (hl : bLet (bAt s 0) = true) :
    Calls Tryz.prog 106 #[.string s] w fun e w' => e = .returned (.int .i64 (runEnd bLD s 0)) ∧ w' = w := by
  have hb0 := bAt_bd s 0
  have hbe := bAt_lt hp
  rw [hbe] at hb0 h hd hl
  clear hbe
  rcases hn with hn | ⟨hn1, hn⟩
  all_goals
    go_enter Tryz.func106, Tryz.ntmps106
    go_wp2_with (first | (go_at_call 105; with_reducible refine (within_sign _ _ (by omega) (by omega)).mono ?_; rintro e w' ⟨rfl, rfl⟩) | (go_at_call 105; with_reducible refine (within_digit _ _ (by omega) (by omega)).mono ?_; rintro e w' ⟨rfl, rfl⟩) | (go_at_call 105; with_reducible refine (within_let _ _ (by omega) (by omega)).mono ?_; rintro e w' ⟨rfl, rfl⟩) | (go_at_call 105; with_reducible refine (within_ld _ _ (by omega) (by omega)).mono ?_; rintro e w' ⟨rfl, rfl⟩))
    go_loop [3] (fun t => ∃ k : Nat, k ≤ s.size ∧ t = .int .i64 k ∧ Hid (runEnd bLD s 0 = runEnd bLD s k)) (fun t => s.size - (intOf t).toNat)
    case atStart => exact ⟨0, Nat.zero_le _, rfl, rfl⟩
    case round =>
      obtain ⟨k, hk, rfl, H⟩ := hrel
      by_cases hlt : k < s.size
      · have hbk := bAt_lt hlt
        have hbd := bAt_bd s k
        cases hpk : bLD (bAt s k) with
        | true =>
          have H2 : Hid (runEnd bLD s 0 = runEnd bLD s (k + 1)) := by rw [Hid.out H, runEnd_yes hlt hpk]; rfl
          rw [hbk] at hpk hbd
          clear hbk H
          go_wp2_with (first | (go_at_call 105; with_reducible refine (within_sign _ _ (by omega) (by omega)).mono ?_; rintro e w' ⟨rfl, rfl⟩) | (go_at_call 105; with_reducible refine (within_digit _ _ (by omega) (by omega)).mono ?_; rintro e w' ⟨rfl, rfl⟩) | (go_at_call 105; with_reducible refine (within_let _ _ (by omega) (by omega)).mono ?_; rintro e w' ⟨rfl, rfl⟩) | (go_at_call 105; with_reducible refine (within_ld _ _ (by omega) (by omega)).mono ?_; rintro e w' ⟨rfl, rfl⟩))
          go_round
          case rel => exact ⟨k + 1, by omega, by go_num, H2⟩
          case measure => simp [intOf]; omega
        | false =>
          have H2 : Hid (runEnd bLD s 0 = k) := by rw [Hid.out H, runEnd_no hpk]; rfl
          rw [hbk] at hpk hbd
          clear hbk H
          go_wp2_with (first | (go_at_call 105; with_reducible refine (within_sign _ _ (by omega) (by omega)).mono ?_; rintro e w' ⟨rfl, rfl⟩) | (go_at_call 105; with_reducible refine (within_digit _ _ (by omega) (by omega)).mono ?_; rintro e w' ⟨rfl, rfl⟩) | (go_at_call 105; with_reducible refine (within_let _ _ (by omega) (by omega)).mono ?_; rintro e w' ⟨rfl, rfl⟩) | (go_at_call 105; with_reducible refine (within_ld _ _ (by omega) (by omega)).mono ?_; rintro e w' ⟨rfl, rfl⟩))
          go_ret
          exact ⟨by rw [Hid.out H2]; rfl, rfl⟩
      · have H2 : Hid (runEnd bLD s 0 = k) := by rw [Hid.out H, runEnd_stop hlt]; rfl
        clear H
        go_wp2_with (first | (go_at_call 105; with_reducible refine (within_sign _ _ (by omega) (by omega)).mono ?_; rintro e w' ⟨rfl, rfl⟩) | (go_at_call 105; with_reducible refine (within_digit _ _ (by omega) (by omega)).mono ?_; rintro e w' ⟨rfl, rfl⟩) | (go_at_call 105; with_reducible refine (within_let _ _ (by omega) (by omega)).mono ?_; rintro e w' ⟨rfl, rfl⟩) | (go_at_call 105; with_reducible refine (within_ld _ _ (by omega) (by omega)).mono ?_; rintro e w' ⟨rfl, rfl⟩))
        go_ret
        exact ⟨by rw [Hid.out H2]; rfl, rfl⟩

set_option maxRecDepth 100000 in
set_option maxHeartbeats 1000000 in
theorem first_no (s : ByteArray) (w : World) (hs : s.size ≤ 500) (hp : 0 < s.size) (hn : NotIf s) (h : bSg (bAt s 0) = false) (hd : bDig (bAt s 0) = false) (hl : bLet (bAt s 0) = false) :
    Calls Tryz.prog 106 #[.string s] w fun e w' => e = .returned (.int .i64 (0)) ∧ w' = w := by
  have hb0 := bAt_bd s 0
  have hbe := bAt_lt hp
  rw [hbe] at hb0 h hd hl
  clear hbe
  rcases hn with hn | ⟨hn1, hn⟩
  all_goals
    go_enter Tryz.func106, Tryz.ntmps106
    go_wp2_with (first | (go_at_call 105; with_reducible refine (within_sign _ _ (by omega) (by omega)).mono ?_; rintro e w' ⟨rfl, rfl⟩) | (go_at_call 105; with_reducible refine (within_digit _ _ (by omega) (by omega)).mono ?_; rintro e w' ⟨rfl, rfl⟩) | (go_at_call 105; with_reducible refine (within_let _ _ (by omega) (by omega)).mono ?_; rintro e w' ⟨rfl, rfl⟩) | (go_at_call 105; with_reducible refine (within_ld _ _ (by omega) (by omega)).mono ?_; rintro e w' ⟨rfl, rfl⟩))
    go_ret
    exact ⟨rfl, rfl⟩

theorem first_any (s : ByteArray) (w : World) (hs : s.size ≤ 500) (hp : 0 < s.size) :
    Calls Tryz.prog 106 #[.string s] w fun e w' => e = .returned (.int .i64 (firstB s)) ∧ w' = w := by
  by_cases hif : bAt s 0 = 58 ∧ bAt s 1 = 45
  · refine first_if s w hs ?_ hif.1 hif.2
    false_or_by_contra; rename_i hn; rw [bAt_ge hn] at hif; omega
  · have hn := notIf s hif
    have hb := bAt_bd s 0
    cases h : bSg (bAt s 0) with
    | true =>
      have := first_sign s w hs hp hn h
      have e : firstB s = 1 := by
        unfold firstB kindB
        simp only [bSg, Bool.or_eq_true, beq_iff_eq] at h
        rcases h with (((h | h) | h) | h) | h <;> rw [h] <;> rfl
      rw [e]; exact this
    | false =>
      have hz : bSign (bAt s 0) = 0 := by
        simp only [bSg, Bool.or_eq_false_iff, beq_eq_false_iff_ne] at h
        unfold bSign; simp [h]
      cases hd : bDig (bAt s 0) with
      | true =>
        have := first_digit s w hs hp hn h hd
        have e : firstB s = runEnd bDig s 0 := by
          have h1 : bSmall (bAt s 0) = false := by simp [bDig, bSmall] at hd ⊢; omega
          have h2 : bCap (bAt s 0) = false := by simp [bDig, bCap] at hd ⊢; omega
          unfold firstB kindB; simp [h1, h2, hd, endB]
        rw [e]; exact this
      | false =>
        cases hl : bLet (bAt s 0) with
        | true =>
          have := first_let s w hs hp hn h hd hl
          have e : firstB s = runEnd bLD s 0 := by
            unfold firstB kindB
            simp only [bLet, Bool.or_eq_true] at hl
            cases h1 : bSmall (bAt s 0) with
            | true => simp [endB]
            | false => rw [h1] at hl; simp at hl; simp [hl, endB]
          rw [e]; exact this
        | false =>
          have := first_no s w hs hp hn h hd hl
          have e : firstB s = 0 := by
            simp only [bLet, Bool.or_eq_false_iff] at hl
            unfold firstB kindB; simp [hl.1, hl.2, hd, hif, hz, endB]
          rw [e]; exact this

end Go.Proofs.YteampbddflhngaaGreat

/- Walks: deriveref.Words. -/
namespace Go.Proofs.YteampbddflhngaaGreat
open Go.RowKit

def refW : Nat → ByteArray → Option (List ByteArray)
  | 0, _ => some []
  | n + 1, s => if s.size = 0 then some [] else if bBlank (bAt s 0) then refW n (s.extract 1 s.size) else if firstB s = 0 then none else if 6 < firstB s then none
    else (refW n (s.extract (firstB s) s.size)).map (s.extract 0 (firstB s) :: ·)
theorem refW_nil {n : Nat} {s : ByteArray} (h : s.size = 0) : refW n s = some [] := by cases n <;> simp [refW, h]
theorem refW_blank {n : Nat} {s : ByteArray} (h : 0 < s.size) (hb : bBlank (bAt s 0) = true) : refW (n + 1) s = refW n (s.extract 1 s.size) := by simp [refW, Nat.ne_of_gt h, hb]
theorem refW_no {n : Nat} {s : ByteArray} (h : 0 < s.size) (hb : bBlank (bAt s 0) = false) (hf : firstB s = 0 ∨ 6 < firstB s) : refW (n + 1) s = none := by
  simp only [refW, if_neg (Nat.ne_of_gt h), hb]; rcases hf with hf | hf
  · simp [hf]
  · simp [hf]
theorem refW_word {n : Nat} {s : ByteArray} (h : 0 < s.size) (hb : bBlank (bAt s 0) = false) (hf : firstB s ≠ 0) (hl : ¬ 6 < firstB s) : refW (n + 1) s = (refW n (s.extract (firstB s) s.size)).map (s.extract 0 (firstB s) :: ·) := by
  simp [refW, Nat.ne_of_gt h, hb, hf, hl]
theorem first_big {s : ByteArray} (h : 6 < firstB s) : bAt s 0 ≠ 58 ∧ bSg (bAt s 0) = false := by
  unfold firstB kindB at h
  refine ⟨fun h0 => ?_, ?_⟩
  · rw [h0] at h
    by_cases h1 : bAt s 1 = 45
    · rw [h1] at h; simp [bSmall, bCap, bDig, endB] at h
    · simp [bSmall, bCap, bDig, endB, h1, bSign] at h
  · false_or_by_contra
    rename_i hn
    simp only [Bool.not_eq_false, bSg, Bool.or_eq_true, beq_iff_eq] at hn
    rcases hn with (((hn | hn) | hn) | hn) | hn <;> (rw [hn] at h; simp [bSmall, bCap, bDig, endB, bSign] at h)
theorem firstB_le (s : ByteArray) (hp : 0 < s.size) : firstB s ≤ s.size := by
  unfold firstB
  by_cases h : kindB (bAt s 0) (bAt s 1) = 0
  · rw [h]; simp [endB]
  · exact (endB_gt s 0 _ hp rfl h).2

def WordsPost (o : Option (List ByteArray)) (w : World) (e : Ending) (w' : World) : Prop :=
  Below w.heap.size w w' ∧ match o with
    | none => e = .returned (.tuple #[.slice none 0 0, .bool false])
    | some l => ∃ v, e = .returned (.tuple #[v, .bool true]) ∧ w'.ownsRow w.heap.size 9 1 v l.length (l.map Value.string)
theorem wordsPost_no {o : Option (List ByteArray)} {w w' : World} (h : Hid (o = none)) (hb : Below w.heap.size w w') : WordsPost o w (.returned (.tuple #[.slice none 0 0, .bool false])) w' := by
  have h' : o = none := h
  subst h'; exact ⟨hb, rfl⟩
theorem wordsPost_yes {o : Option (List ByteArray)} {w w' : World} {l : List ByteArray} {v : Value} (h : Hid (o = some l)) (hb : Below w.heap.size w w') (ho : w'.ownsRow w.heap.size 9 1 v l.length (l.map Value.string)) : WordsPost o w (.returned (.tuple #[v, .bool true])) w' := by
  have h' : o = some l := h
  subst h'; exact ⟨hb, v, rfl, ho⟩

set_option maxRecDepth 100000 in
set_option maxHeartbeats 1000000 in
theorem rwords_any (s : ByteArray) (w : World) (hs : s.size ≤ 500) :
    Calls Tryz.prog 65 #[.string s] w fun e w' => WordsPost (refW s.size s) w e w' := by
  obtain ⟨i0, hi, hz0, hzs, hzb⟩ := info_parts Tryz.infoString
  go_enter Tryz.func65, Tryz.ntmps65
  go_wp2
  go_loopg [0, 4] (s.size) (fun n u v wr => ∃ (cur : ByteArray) (acc : List ByteArray) (m : Nat), u = .string cur ∧ cur.size ≤ n ∧ cur.size ≤ m ∧ acc.length + cur.size ≤ s.size ∧ Hid (refW s.size s = (refW m cur).map (acc ++ ·)) ∧
      wr.ownsRow w.heap.size 9 1 v acc.length (acc.map Value.string) ∧ Below w.heap.size w wr)
  case atStart => exact ⟨s, [], s.size, rfl, Nat.le_refl _, Nat.le_refl _, by simp, (by simp [Hid]), World.ownsRow_nil _ _ _ _, Below.refl _ _⟩
  case round =>
    obtain ⟨cur, acc, m, rfl, hn, hm, hacc, H, hown, hbk⟩ := hrel
    by_cases hp : 0 < cur.size
    · have hb0 := bAt_bd cur 0
      have hbe := bAt_lt hp
      have hne : (cur.toList == []) = false := by
        rw [bytes_toList, beq_eq_false_iff_ne]; intro h
        have : cur.data.toList.length = cur.size := Array.length_toList
        rw [h] at this; simp at this; omega
      obtain ⟨m, rfl⟩ : ∃ m', m = m' + 1 := ⟨m - 1, by omega⟩
      cases hB : bBlank (bAt cur 0) with
      | true =>
        have H2 : Hid (refW s.size s = (refW m (cur.extract 1 cur.size)).map (acc ++ ·)) := by rw [Hid, H.out, refW_blank hp hB]
        have hz : (cur.extract 1 cur.size).size = cur.size - 1 := by rw [ByteArray.size_extract]; omega
        rw [hbe] at hB hb0
        clear H hbe
        go_wp2_with (first | (go_at_call 105; with_reducible refine (within_blank _ _ (by omega) (by omega)).mono ?_; rintro e w' ⟨rfl, rfl⟩))
        go_roundg (cur.size - 1)
        case measure => omega
        case rel => exact ⟨_, acc, m, rfl, by omega, by omega, by omega, H2, hown, hbk⟩
      | false =>
        have HFI : Hid (∀ W, Calls Tryz.prog 106 #[.string cur] W fun e w' => e = .returned (.int .i64 (firstB cur)) ∧ w' = W) := fun W => first_any cur W (by omega) hp
        have hfl := firstB_le cur hp
        by_cases hf : firstB cur = 0 ∨ 6 < firstB cur
        · have H2 : Hid (refW s.size s = none) := by rw [Hid, H.out, refW_no hp hB hf]; rfl
          rcases hf with hf | hf
          · rw [hf] at HFI
            rw [hbe] at hB hb0
            clear H hbe hf hfl
            by_cases h58 : ((cur[0].toNat : Int) == 58) = true
            · go_wp2_with (first | (go_at_call 105; with_reducible refine (within_blank _ _ (by omega) (by omega)).mono ?_; rintro e w' ⟨rfl, rfl⟩) | (go_at_call 105; with_reducible refine (within_sign _ _ (by omega) (by omega)).mono ?_; rintro e w' ⟨rfl, rfl⟩) | (go_at_call 106; refine (HFI.out _).mono ?_; rintro e w' ⟨rfl, rfl⟩))
              go_ret2
              exact wordsPost_no H2 hbk
            · have h58' : ((cur[0].toNat : Int) == 58) = false := by simpa using h58
              clear h58
              go_wp2_with (first | (go_at_call 105; with_reducible refine (within_blank _ _ (by omega) (by omega)).mono ?_; rintro e w' ⟨rfl, rfl⟩) | (go_at_call 105; with_reducible refine (within_sign _ _ (by omega) (by omega)).mono ?_; rintro e w' ⟨rfl, rfl⟩) | (go_at_call 106; refine (HFI.out _).mono ?_; rintro e w' ⟨rfl, rfl⟩))
              go_ret2
              exact wordsPost_no H2 hbk
          · obtain ⟨h58, hsg⟩ := first_big hf
            rw [hbe] at hB hb0 h58 hsg
            have h58' : ((cur[0].toNat : Int) == 58) = false := by simpa using h58
            clear H hbe h58
            generalize firstB cur = fb at *
            have hfz : ((fb : Int) == 0) = false := by rw [beq_eq_false_iff_ne]; omega
            go_wp2_with (first | (go_at_call 105; with_reducible refine (within_blank _ _ (by omega) (by omega)).mono ?_; rintro e w' ⟨rfl, rfl⟩) | (go_at_call 105; with_reducible refine (within_sign _ _ (by omega) (by omega)).mono ?_; rintro e w' ⟨rfl, rfl⟩) | (go_at_call 106; refine (HFI.out _).mono ?_; rintro e w' ⟨rfl, rfl⟩))
            go_ret2
            exact wordsPost_no H2 hbk
        · have hf0 : firstB cur ≠ 0 := fun h => hf (Or.inl h)
          have hf6 : ¬ 6 < firstB cur := fun h => hf (Or.inr h)
          have H2 : Hid (refW s.size s = (refW m (cur.extract (firstB cur) cur.size)).map ((acc ++ [cur.extract 0 (firstB cur)]) ++ ·)) := by rw [Hid, H.out, refW_word hp hB hf0 hf6, map_snoc]
          rw [hbe] at hB hb0
          clear H hbe hf
          generalize firstB cur = fb at *
          have hfz : ((fb : Int) == 0) = false := by rw [beq_eq_false_iff_ne]; omega
          have hz : (cur.extract fb cur.size).size = cur.size - fb := by rw [ByteArray.size_extract]; omega
          by_cases h58 : ((cur[0].toNat : Int) == 58) = true
          · go_wp2_with (first | (go_at_call 105; with_reducible refine (within_blank _ _ (by omega) (by omega)).mono ?_; rintro e w' ⟨rfl, rfl⟩) | (go_at_call 105; with_reducible refine (within_sign _ _ (by omega) (by omega)).mono ?_; rintro e w' ⟨rfl, rfl⟩) | (go_at_call 106; refine (HFI.out _).mono ?_; rintro e w' ⟨rfl, rfl⟩) | (at_builtin; refine wpList_push _ _ _ _ rfl (.tmp 34) (.tmp 38) 30 rfl w.heap.size 9 i0 _ 1 16 Tryz.underlying30 hi hz0 hzs hzb rfl (by decide) _ _ _ rfl hown (Below.refl _ _) _ _ rfl (by simp) rfl (by simp [Value.oneCell']) (by omega) (by omega) hbk.size ?_; intro v' w2 ho2 hB2 hc2 hf2 hk2 hz2'; clear hc2 hf2))
            go_roundg (cur.size - 1)
            case measure => omega
            case rel => exact ⟨_, acc ++ [cur.extract 0 fb], m, rfl, by omega, by omega, by simp; omega, H2, by simpa using ho2, hbk.trans hB2⟩
          · have h58' : ((cur[0].toNat : Int) == 58) = false := by simpa using h58
            clear h58
            go_wp2_with (first | (go_at_call 105; with_reducible refine (within_blank _ _ (by omega) (by omega)).mono ?_; rintro e w' ⟨rfl, rfl⟩) | (go_at_call 105; with_reducible refine (within_sign _ _ (by omega) (by omega)).mono ?_; rintro e w' ⟨rfl, rfl⟩) | (go_at_call 106; refine (HFI.out _).mono ?_; rintro e w' ⟨rfl, rfl⟩) | (at_builtin; refine wpList_push _ _ _ _ rfl (.tmp 34) (.tmp 38) 30 rfl w.heap.size 9 i0 _ 1 16 Tryz.underlying30 hi hz0 hzs hzb rfl (by decide) _ _ _ rfl hown (Below.refl _ _) _ _ rfl (by simp) rfl (by simp [Value.oneCell']) (by omega) (by omega) hbk.size ?_; intro v' w2 ho2 hB2 hc2 hf2 hk2 hz2'; clear hc2 hf2))
            go_roundg (cur.size - 1)
            case measure => omega
            case rel => exact ⟨_, acc ++ [cur.extract 0 fb], m, rfl, by omega, by omega, by simp; omega, H2, by simpa using ho2, hbk.trans hB2⟩
    · have hz : cur.size = 0 := by omega
      have H2 : Hid (refW s.size s = some acc) := by rw [Hid, H.out, refW_nil hz]; simp
      have hne : (cur.toList == []) = true := by
        rw [bytes_toList, beq_iff_eq]; exact List.eq_nil_of_length_eq_zero (by rw [Array.length_toList]; exact hz)
      clear H
      go_wp2_with (first | (go_at_call 105; with_reducible refine (within_blank _ _ (by omega) (by omega)).mono ?_; rintro e w' ⟨rfl, rfl⟩) | (go_at_call 105; with_reducible refine (within_sign _ _ (by omega) (by omega)).mono ?_; rintro e w' ⟨rfl, rfl⟩) | (go_at_call 106; refine (HFI.out _).mono ?_; rintro e w' ⟨rfl, rfl⟩))
      go_ret2
      exact wordsPost_yes H2 hbk hown
end Go.Proofs.YteampbddflhngaaGreat

/- Lists of texts that are cut: '[]string' seen through a slice that may begin anywhere. -/
namespace Go.Proofs.YteampbddflhngaaGreat
open Go.RowKit

def SV (w : World) (v : Value) (l : List ByteArray) : Prop := ∃ ao cap, v = .slice ao l.length cap ∧ l.length ≤ cap ∧
  ((ao = none ∧ cap = 0) ∨ ∃ b o, ao = some ⟨b, o, none⟩ ∧ b < w.heap.size ∧ ∀ k (hk : k < l.length), w.cell? ⟨b, o + k, none⟩ = some (.string l[k]))
theorem SV.of {w : World} {v : Value} {l : List ByteArray} {base : Nat} (h : w.ownsRow base 9 1 v l.length (l.map Value.string)) : SV w v l := by
  have h0 := h
  obtain ⟨_, ⟨hv, hn⟩ | ⟨g, cap, cur, hv, _, hh, h1, _⟩⟩ := h
  · refine ⟨none, 0, ?_, by omega, Or.inl ⟨rfl, rfl⟩⟩; rw [hv, hn]
  · refine ⟨_, cap, hv, h1, Or.inr ⟨g, 0, rfl, (Array.getElem?_eq_some_iff.1 hh).1, fun k hk => ?_⟩⟩
    obtain ⟨g', cap', hv', _, _, hcl⟩ := own_cells h0 (by omega)
    rw [hv] at hv'; simp at hv'; obtain ⟨rfl, _⟩ := hv'
    rw [Nat.zero_add]; exact hcl k _ (by simp [hk])
theorem SV.shape {w : World} {v : Value} {l : List ByteArray} (h : SV w v l) : ∃ ao cap, v = .slice ao l.length cap := by obtain ⟨ao, cap, hv, _⟩ := h; exact ⟨ao, cap, hv⟩
theorem SV.below {w w' : World} {v : Value} {l : List ByteArray} (h : SV w v l) (hb : Below w.heap.size w w') : SV w' v l := by
  obtain ⟨ao, cap, hv, hc, h2⟩ := h
  refine ⟨ao, cap, hv, hc, ?_⟩
  rcases h2 with h2 | ⟨b, o, ha, hlt, hcl⟩
  · exact Or.inl h2
  · exact Or.inr ⟨b, o, ha, Nat.lt_of_lt_of_le hlt hb.size, fun k hk => (hb.cell (p := ⟨b, o + k, none⟩) hlt).trans (hcl k hk)⟩
theorem SV.cell {w : World} {ao : Option Addr} {n cap : Nat} {l : List ByteArray} (h : SV w (.slice ao n cap) l) (k : Nat) (hk : k < l.length) : ∃ b o, ao = some ⟨b, o, none⟩ ∧ b < w.heap.size ∧ w.cell? ⟨b, o + k, none⟩ = some (.string l[k]) := by
  obtain ⟨ao', cap', hv, hc, h2⟩ := h
  simp at hv
  obtain ⟨rfl, _, rfl⟩ := hv
  rcases h2 with ⟨_, h2⟩ | ⟨b, o, ha, hlt, hcl⟩
  · omega
  · exact ⟨b, o, ha, hlt, hcl k hk⟩
/-- All cells at once, where there is one. -/
theorem SV.cells {w : World} {ao : Option Addr} {n cap : Nat} {l : List ByteArray} (h : SV w (.slice ao n cap) l) (hl : 0 < l.length) : ∃ b o, ao = some ⟨b, o, none⟩ ∧ b < w.heap.size ∧ ∀ k (hk : k < l.length), w.cell? ⟨b, o + k, none⟩ = some (.string l[k]) := by
  obtain ⟨ao', cap', hv, hc, h2⟩ := h
  simp at hv
  obtain ⟨rfl, _, rfl⟩ := hv
  rcases h2 with ⟨_, h2⟩ | ⟨b, o, ha, hlt, hcl⟩
  · omega
  · exact ⟨b, o, ha, hlt, hcl⟩

section
variable {P : Program} {ops : Array Oper} {rest : List Oper} {o : Oper} {a : Act} {Q : Exit → Act → World → Prop}
/-- 'l[i:j]', 'l[i:]', 'l[:j]' of a []string. -/
theorem wpList_reslice (w w0 : World) (hg : o.guard = none) (x : Operand) (t e : TypeId) (lo hi : Option Operand) (hop : o.op = .slice t x lo hi none)
    (ht : P.underlying t = some (.slice e)) (inf : TypeInfo) (he : P.info? e = some inf) (hez : P.cellsOf e = 1) (v : Value) (l : List ByteArray) (hx : a.eval x = v) (hv : SV w0 v l)
    (i j : Nat) (hlo : lo.map a.eval = none ∧ i = 0 ∨ lo.map a.eval = some (.int .i64 (i : Int))) (hhi : hi.map a.eval = none ∧ j = l.length ∨ hi.map a.eval = some (.int .i64 (j : Int))) (hij : i ≤ j) (hj : j ≤ l.length) (n : Nat) (hn : j - i = n)
    (hK : ∀ ao cap, SV w0 (.slice ao n cap) ((l.drop i).take n) → wpList P ops Q rest (a.put o.dst (.slice ao n cap)) w) : wpList P ops Q (o :: rest) a w := by
  subst hn
  obtain ⟨ao, cap, rfl, hc, h2⟩ := hv
  have a1 : (j : Int) ≤ (cap : Int) := by omega
  have a2 : (i : Int) ≤ (j : Int) := by omega
  have hb : (Instr.sliceBounds true l.length cap (lo.map a.eval) (hi.map a.eval) none).run P w = .ok (i, j, cap) w := by
    rcases hlo with ⟨h1, rfl⟩ | h1 <;> rcases hhi with ⟨h3, rfl⟩ | h3 <;> rw [h1, h3] <;> simp [Instr.sliceBounds, run_sliceBound, a1, a2]
  refine wpList_plain hg fun K hK' => ?_
  unfold Oper.wp
  have hlen : ((l.drop i).take (j - i)).length = j - i := by simp; omega
  have hsz : (sizeOf e).run P w = .ok 1 w := by rw [← hez]; simp [sizeOf, typeInfo, Program.cellsOf, he]
  have hrun : (Instr.sliceAt t (.slice ao l.length cap) (lo.map a.eval) (hi.map a.eval) none).run P w = .ok (.slice (if cap = i then ao else ao.map (·.add (i * 1))) (j - i) (cap - i)) w := by
    simp [Instr.sliceAt, run_underlying ht, Instr.slice, hb, hsz]
  simp only [execOp, hop, hx, Option.map_none, hrun, Sem.run_bind, Result.andThen]
  simp
  refine hK' _ _ (hK _ _ ?_)
  refine ⟨_, _, by rw [hlen], by rw [hlen]; omega, ?_⟩
  rcases h2 with ⟨rfl, rfl⟩ | ⟨b, of, rfl, hlt, hcl⟩
  · left; exact ⟨by split <;> rfl, by omega⟩
  · right
    by_cases hci : cap = i
    · refine ⟨b, of, by rw [if_pos hci], hlt, fun k hk => ?_⟩
      rw [hlen] at hk; omega
    · refine ⟨b, of + i, ?_, hlt, fun k hk => ?_⟩
      · rw [if_neg hci]; simp [Addr.add_lit]
      · rw [hlen] at hk
        rw [Nat.add_assoc, hcl (i + k) (by omega)]
        simp
end
theorem Tryz.cellsString : Tryz.prog.cellsOf 9 = 1 := by kernel_rfl
end Go.Proofs.YteampbddflhngaaGreat

/- Walks: deriveref.literal. -/
namespace Go.Proofs.YteampbddflhngaaGreat
open Go.RowKit
variable {lo : Nat}

def gB (l : List ByteArray) (i : Nat) : ByteArray := l.getD i ByteArray.empty
theorem gB_lt {l : List ByteArray} {i : Nat} (h : i < l.length) : l[i] = gB l i := by simp [gB, h]
def rOk (l : List ByteArray) (i : Nat) : Bool := if i % 2 = 0 then bLD (bAt (gB l i) 0) else ((gB l i).toList == [44])
def rArgs (l : List ByteArray) : Nat → List ByteArray
  | 0 => []
  | i + 1 => rArgs l i ++ (if 2 ≤ i ∧ i % 2 = 0 then [gB l i] else [])
theorem rArgs_len (l : List ByteArray) : ∀ i, (rArgs l i).length ≤ i
  | 0 => Nat.le_refl _
  | i + 1 => by have := rArgs_len l i; unfold rArgs; split <;> simp <;> omega
/-- The words from place 2 on, up to place i, are terms with commas between. -/
def rOkTo (l : List ByteArray) : Nat → Bool
  | 0 => true
  | i + 1 => rOkTo l i && (decide (i < 2) || rOk l i)
theorem rOkTo_no {l : List ByteArray} {i : Nat} (h : rOkTo l i = false) : ∀ k, i ≤ k → rOkTo l k = false := by
  intro k hk
  induction k with
  | zero => have : i = 0 := by omega
            subst this; exact h
  | succ k ih =>
    rcases Nat.lt_or_ge k i with h1 | h1
    · have : i = k + 1 := by omega
      subst this; exact h
    · simp [rOkTo, ih h1]
def refLit1 (neg : Bool) (l : List ByteArray) : Option PLit :=
  if l.length = 0 then none else if bSmall (bAt (gB l 0) 0) = false then none else if l.length = 1 then some ⟨neg, gB l 0, []⟩
  else if l.length < 4 ∨ l.length % 2 = 1 ∨ ((gB l 1).toList == [40]) = false ∨ ((gB l (l.length - 1)).toList == [41]) = false then none
  else if rOkTo l (l.length - 1) then some ⟨neg, gB l 0, rArgs l (l.length - 1)⟩ else none
def bang (l : List ByteArray) (head : Bool) : Bool := decide (0 < l.length) && ((gB l 0).toList == [33]) && !head
def refLit (l : List ByteArray) (head : Bool) : Option PLit := if bang l head then refLit1 true l.tail else refLit1 false l

def RLitPost (o : Option PLit) (w : World) (e : Ending) (w' : World) : Prop :=
  Below w.heap.size w w' ∧ match o with
    | none => ∃ b p ao n cap, e = .returned (.tuple #[.agg #[.bool b, .string p, .slice ao n cap], .bool false])
    | some a => ∃ va, e = .returned (.tuple #[.agg #[.bool a.neg, .string a.pred, va], .bool true]) ∧ SIn w.heap.size w' va a.args

theorem nobang_cases {l : List ByteArray} {head : Bool} (hb : bang l head = false) : ¬ 0 < l.length ∨ (0 < l.length ∧ ((gB l 0).toList == [33]) = false) ∨ ((0 < l.length ∧ ((gB l 0).toList == [33]) = true) ∧ head = true) := by
  by_cases h0 : 0 < l.length
  · right
    simp only [bang, decide_eq_true h0, Bool.true_and, Bool.and_eq_false_iff] at hb
    cases h : ((gB l 0).toList == [33]) with
    | false => exact Or.inl ⟨h0, rfl⟩
    | true => rw [h] at hb; simp at hb; exact Or.inr ⟨⟨h0, rfl⟩, hb⟩
  · exact Or.inl h0

end Go.Proofs.YteampbddflhngaaGreat

/- Plain functions of the document's answer: literals, a clause, clauses. -/
namespace Go.Proofs.YteampbddflhngaaGreat

/-- The literals of the words from place 'from' on: the loop of the document's answer at place i, at depth d. -/
def refLits (l : List ByteArray) : Nat → Nat → Int → Nat → Option (List PLit)
  | 0, _, _, _ => some []
  | n + 1, from_, d, i =>
    if i < l.length then
      if ((gB l i).toList == [40]) then refLits l n from_ (d + 1) (i + 1)
      else if ((gB l i).toList == [41]) then refLits l n from_ (d - 1) (i + 1)
      else if ((gB l i).toList == [44]) = false ∨ 0 < d then refLits l n from_ d (i + 1)
      else match refLit ((l.drop from_).take (i - from_)) false with
        | none => none
        | some a => (refLits l n (i + 1) d (i + 1)).map (a :: ·)
    else match refLit ((l.drop from_).take (i - from_)) false with
      | none => none
      | some a => some [a]
theorem s40 {x : ByteArray} (h : (x.toList == [40]) = true) : (x.toList == [41]) = false ∧ (x.toList == [44]) = false := by rw [beq_iff_eq] at h; rw [h]; exact ⟨rfl, rfl⟩
theorem s41 {x : ByteArray} (h : (x.toList == [41]) = true) : (x.toList == [40]) = false ∧ (x.toList == [44]) = false := by rw [beq_iff_eq] at h; rw [h]; exact ⟨rfl, rfl⟩
def ifAt : List ByteArray → Nat
  | [] => 0
  | x :: r => if (x.toList == [58, 45]) then 0 else ifAt r + 1
theorem ifAt_le : ∀ l, ifAt l ≤ l.length
  | [] => Nat.le_refl _
  | x :: r => by have := ifAt_le r; unfold ifAt; split <;> simp <;> omega
theorem ifAt_no {l : List ByteArray} {j : Nat} (hj : j < l.length) (h : ((gB l j).toList == [58, 45]) = false) : ifAt (l.drop j) = ifAt (l.drop (j + 1)) + 1 := by
  rw [List.drop_eq_getElem_cons hj, ifAt, gB_lt hj, h]; rfl
theorem ifAt_yes {l : List ByteArray} {j : Nat} (hj : j < l.length) (h : ((gB l j).toList == [58, 45]) = true) : ifAt (l.drop j) = 0 := by
  rw [List.drop_eq_getElem_cons hj, ifAt, gB_lt hj, h]; rfl
def refClause (l : List ByteArray) : Option PClause :=
  match refLit (l.take (ifAt l)) true with
  | none => none
  | some h => if ifAt l = l.length then some ⟨h, []⟩ else
    match refLits (l.drop (ifAt l + 1)) ((l.drop (ifAt l + 1)).length + 1) 0 0 0 with
    | none => none
    | some b => some ⟨h, b⟩
/-- The clauses: the loop of the document's answer at place i, the words of the clause beginning at 'from'. -/
def refCls (l : List ByteArray) : Nat → Nat → Nat → Option (List PClause)
  | 0, from_, _ => if from_ = l.length then some [] else none
  | n + 1, from_, i =>
    if ((gB l i).toList == [46]) then
      match refClause ((l.drop from_).take (i - from_)) with
      | none => none
      | some c => (refCls l n (i + 1) (i + 1)).map (c :: ·)
    else refCls l n from_ (i + 1)
def refProg (l : List ByteArray) : Option (List PClause) := refCls l l.length 0 0

end Go.Proofs.YteampbddflhngaaGreat
