import Derived.Test.YteampbddflhngaaGreatP05
import Derived.Test.YteampbddflhngaaGreatP04

/- Walks: deriveref.literal, the loop, no mark ahead. -/
namespace Go.Proofs.YteampbddflhngaaGreat
open Go.RowKit

theorem comma_not {x : ByteArray} (h : (x.toList == [44]) = true) : bLD (bAt x 0) = false := by
  rw [beq_iff_eq, bytes_toList] at h
  obtain ⟨⟨l⟩⟩ := x
  simp at h
  subst h
  rfl

set_option maxRecDepth 100000 in
set_option maxHeartbeats 2000000 in
theorem rlit_loop_n (w : World) (v : Value) (L : List ByteArray) (head : Bool) (hv2 : SV w v L) (hne : ∀ y ∈ L, 0 < y.size) (_hl : L.length ≤ 500) (hb : bang L head = false) (_hn : ¬ L.length = 0) (hs : bSmall (bAt (gB L 0) 0) = true) (_h1 : ¬ L.length = 1) (_h4 : ¬ L.length < 4) (_h2 : ¬ L.length % 2 = 1) (h40 : ((gB L 1).toList == [40]) = true) (h41 : ((gB L (L.length - 1)).toList == [41]) = true) :
    Calls Tryz.prog 152 #[v, .bool head] w fun e w' => RLitPost (refLit1 false L) w e w' := by
  obtain ⟨i0, hi, hz0', hzs, hzb⟩ := info_parts Tryz.infoString
  have hbang := nobang_cases hb
  obtain ⟨ao2, cap2, rfl⟩ := hv2.shape
  have hz0 : 0 < (gB L 0).size := by rw [← gB_lt (by omega : 0 < L.length)]; exact hne _ (List.getElem_mem _)
  obtain ⟨b, o, rfl, hblt, hcl⟩ := hv2.cells (by omega)
  have hx0 := hcl 0 (by omega)
  have hx1 := hcl 1 (by omega)
  have hxn := hcl (L.length - 1) (by omega)
  rw [gB_lt (by omega)] at hx0 hx1 hxn
  rw [Nat.add_zero] at hx0
  have HCL : Hid (∀ k (hk : k < L.length), w.cell? ⟨b, o + k, none⟩ = some (.string L[k])) := hcl
  clear hcl
  have hq0 : ((L.length : Int) == 0) = false := by rw [beq_eq_false_iff_ne]; omega
  have hq1 : ((L.length : Int) == 1) = false := by rw [beq_eq_false_iff_ne]; omega
  have hq2 : ((L.length : Int) % 2 == 1) = false := by rw [beq_eq_false_iff_ne]; omega
  rcases hbang with hbang | ⟨_, hbang⟩ | ⟨⟨_, hbang⟩, rfl⟩
  · omega
  all_goals
    go_enter Tryz.func152, Tryz.ntmps152
    go_wp2_with (first | (go_at_call 184; refine (risName_any _ _ hz0).mono ?_; rintro e w' ⟨rfl, rfl⟩))
    go_loopw [9] (fun i wr => ∃ (k : Nat) (av : Value), 2 ≤ k ∧ k ≤ L.length - 1 ∧ i = .int .i64 k ∧ Hid (rOkTo L k = true) ∧ Below w.heap.size w wr ∧ Box wr w.heap.size #[.bool false, .string ByteArray.empty, .slice none 0 0] 90 ∧ Box wr (w.heap.size + 1) #[.bool false, .string (gB L 0), av] 90 ∧ wr.ownsRow w.heap.size 9 1 av (rArgs L k).length ((rArgs L k).map Value.string)) (fun i _ => L.length - (intOf i).toNat)
    case atStart => exact ⟨2, _, Nat.le_refl _, by omega, rfl, by simp [Hid, rOkTo], (by repeat' (first | (with_reducible exact Below.refl _ _) | (with_reducible assumption) | (with_reducible refine bdrewN ?_ _) | (with_reducible refine Below.alloc ?_ ?_ _) | (with_reducible refine Below.drew ?_) | (with_reducible refine Below.setCell ?_ ?_ _) | go_size)), (Box.new w _ _).below ((Below.refl _ _).alloc (Nat.le_refl _) _), Box.newAt _ _ _ _ (by simp), World.ownsRow_nil _ _ _ _⟩
    case round =>
      obtain ⟨k, av, hk2, hk, rfl, H, hbk, hrb, hlb, hown⟩ := hrel
      obtain ⟨ao3, cap3, rfl⟩ := own_view hown
      obtain ⟨hlc, hlf⟩ := hlb.rules
      obtain ⟨hrc, hrf⟩ := hrb.rules
      have hszk := hbk.size
      have hlbl := hlb.lt
      have hral := rArgs_len L k
      by_cases hlt : k < L.length - 1
      · have hxk := (hbk.cell (p := ⟨b, o + k, none⟩) hblt).trans (HCL.out k (by omega))
        have hbr : b < wr.heap.size := by omega
        have hkl : k < L.length := by omega
        have hzk : 0 < L[k].size := hne _ (List.getElem_mem _)
        rw [gB_lt (by omega : k < L.length)] at hxk hzk
        have hA : rArgs L (k + 1) = rArgs L k ++ (if 2 ≤ k ∧ k % 2 = 0 then [gB L k] else []) := rfl
        have hO : rOkTo L (k + 1) = (rOkTo L k && (decide (k < 2) || rOk L k)) := rfl
        rw [H.out, decide_eq_false (by omega : ¬ k < 2), Bool.true_and, Bool.false_or] at hO
        have HF : Hid (rOk L k = false → rOkTo L (L.length - 1) = false) := fun h => rOkTo_no (i := k + 1) (by rw [hO, h]) _ (by omega)
        unfold rOk at hO HF
        by_cases hev : k % 2 = 0
        · rw [if_pos hev] at hO HF
          rw [if_pos ⟨hk2, hev⟩] at hA
          have hm0 : ((k : Int) % 2 == 0) = true := by rw [beq_iff_eq]; omega
          have hm1 : ((k : Int) % 2 == 1) = false := by rw [beq_eq_false_iff_ne]; omega
          have HA : Hid (rArgs L (k + 1) = rArgs L k ++ [gB L k]) := hA
          have HO : Hid (rOkTo L (k + 1) = bLD (bAt (gB L k) 0)) := hO
          clear hA hO hev
          cases hT : bLD (bAt (gB L k) 0) with
          | false =>
            have HN : Hid (refLit1 false L = none) := by unfold Hid refLit1; rw [if_neg (by omega), hs, if_neg (by simp), if_neg (by omega), if_neg (by rw [h40, h41]; simp; omega), HF.out hT]; simp
            clear HF HA HO
            generalize gB L k = x1 at *
            go_wp2_with (first | (go_at_call 185; refine (risTerm_any _ _ hzk).mono ?_; rintro e w' ⟨rfl, hww⟩; obtain rfl := hww.symm))
            rw [HN.out]
            exact bodyPost_ret (v := .tuple #[.agg #[.bool false, .string (gB L 0), .slice ao3 (rArgs L k).length cap3], .bool false]) (by simp [results, Tryz.results152, go_sem, hrc]; try rfl) rfl ⟨(by repeat' (first | (with_reducible exact Below.refl _ _) | (with_reducible assumption) | (with_reducible refine bdrewN ?_ _) | (with_reducible refine Below.alloc ?_ ?_ _) | (with_reducible refine Below.drew ?_) | (with_reducible refine Below.setCell ?_ ?_ _) | go_size)), _, _, _, _, _, rfl⟩
          | true =>
            rw [hT] at HO
            clear HF
            generalize gB L k = x1 at *
            generalize hrk : rArgs L k = ak at *
            clear hrk
            go_wp2_with (first | (go_at_call 185; refine (risTerm_any _ _ hzk).mono ?_; rintro e w' ⟨rfl, hww⟩; obtain rfl := hww.symm))
            go_region_law (first | (refine step_push wr _ [.string x1] 9 rfl (.tmp 103) (.tmp 108) 30 rfl w.heap.size 9 i0 _ 1 16 Tryz.underlying30 hi hz0' hzs hzb rfl (by decide) _ _ _ (by simp [Act.eval]) hown (by exact (by repeat' (first | (with_reducible exact Below.refl _ _) | (with_reducible assumption) | (with_reducible refine bdrewN ?_ _) | (with_reducible refine Below.alloc ?_ ?_ _) | (with_reducible refine Below.drew ?_) | (with_reducible refine Below.setCell ?_ ?_ _) | go_size))) wr.heap.size 1 (by simp [Act.eval]) (by exact Box.drew (Box.newAt _ _ _ _ rfl)) rfl (by simp [Value.oneCell']) (by omega) (by omega) hbk.size ?_; intro v' w2 ho2 hB2 hk2 hz2'; obtain ⟨ao4, cap4, rfl⟩ := own_view ho2; have hlb2 := Box.keep (Box.drew (hlb.below ((Below.refl _ _).alloc (Nat.le_refl _) _))) (own_ne_type hown hlb (by decide)) hk2; have hrb2 := Box.keep (Box.drew (hrb.below ((Below.refl _ _).alloc (Nat.le_refl _) _))) (own_ne_type hown hrb (by decide)) hk2; obtain ⟨hlc2, hlf2⟩ := hlb2.rules))
            all_goals
              go_wp2
              go_roundw
              case rel => exact ⟨k + 1, _, by omega, by omega, by go_num, HO, (hbk.trans hB2).setCell (by simp) _, hrb2.set_ne (by omega) _ _, hlb2.set 2 _, by rw [HA.out]; have := own_but ho2 ((But.refl (w.heap.size + 1) w2).setCell 2 (.slice ao4 (ak.length + 1) cap4)) hlb2 (by decide); simpa using this⟩
              case measure => simp [intOf]; omega
        · rw [if_neg hev] at hO HF
          rw [if_neg (by omega), List.append_nil] at hA
          have hm0 : ((k : Int) % 2 == 0) = false := by rw [beq_eq_false_iff_ne]; omega
          have hm1 : ((k : Int) % 2 == 1) = true := by rw [beq_iff_eq]; omega
          have HA : Hid (rArgs L (k + 1) = rArgs L k) := hA
          have HO : Hid (rOkTo L (k + 1) = ((gB L k).toList == [44])) := hO
          clear hA hO hev
          cases hT : ((gB L k).toList == [44]) with
          | false =>
            have HN : Hid (refLit1 false L = none) := by unfold Hid refLit1; rw [if_neg (by omega), hs, if_neg (by simp), if_neg (by omega), if_neg (by rw [h40, h41]; simp; omega), HF.out hT]; simp
            clear HF HA HO
            generalize gB L k = x1 at *
            go_wp2_with (first | (go_at_call 185; refine (risTerm_any _ _ hzk).mono ?_; rintro e w' ⟨rfl, hww⟩; obtain rfl := hww.symm))
            rw [HN.out]
            exact bodyPost_ret (v := .tuple #[.agg #[.bool false, .string (gB L 0), .slice ao3 (rArgs L k).length cap3], .bool false]) (by simp [results, Tryz.results152, go_sem, hrc]; try rfl) rfl ⟨(by repeat' (first | (with_reducible exact Below.refl _ _) | (with_reducible assumption) | (with_reducible refine bdrewN ?_ _) | (with_reducible refine Below.alloc ?_ ?_ _) | (with_reducible refine Below.drew ?_) | (with_reducible refine Below.setCell ?_ ?_ _) | go_size)), _, _, _, _, _, rfl⟩
          | true =>
            rw [hT] at HO
            have hnt : bLD (bAt (gB L k) 0) = false := comma_not hT
            clear HF
            generalize gB L k = x1 at *
            go_wp2_with (first | (go_at_call 185; refine (risTerm_any _ _ hzk).mono ?_; rintro e w' ⟨rfl, hww⟩; obtain rfl := hww.symm))
            go_roundw
            case rel => exact ⟨k + 1, _, by omega, by omega, by go_num, HO, hbk, hrb, hlb, by rw [HA.out]; exact hown⟩
            case measure => simp [intOf]; omega
      · have hkn : k = L.length - 1 := by omega
        have HN : Hid (refLit1 false L = some ⟨false, gB L 0, rArgs L k⟩) := by unfold Hid refLit1; rw [if_neg (by omega), hs, if_neg (by simp), if_neg (by omega), if_neg (by rw [h40, h41]; simp; omega), ← hkn, H.out]; simp
        clear H
        generalize rArgs L k = ak at *
        go_wp2
        rw [HN.out]
        exact bodyPost_ret (v := .tuple #[.agg #[.bool false, .string (gB L 0), .slice ao3 ak.length cap3], .bool true]) (by simp [results, Tryz.results152, go_sem, hrc]) rfl ⟨(by repeat' (first | (with_reducible exact Below.refl _ _) | (with_reducible assumption) | (with_reducible refine bdrewN ?_ _) | (with_reducible refine Below.alloc ?_ ?_ _) | (with_reducible refine Below.drew ?_) | (with_reducible refine Below.setCell ?_ ?_ _) | go_size)), _, rfl, own_but (r := w.heap.size) hown (by repeat' (first | (with_reducible exact But.refl _ _) | (with_reducible assumption) | (with_reducible refine But.drewN ?_ _) | (with_reducible refine But.alloc ?_ _) | (with_reducible refine But.drew ?_) | (with_reducible refine But.setCell ?_ _ _) | (with_reducible refine But.setNew ?_ ?_ _) | go_size)) hrb (by decide)⟩

end Go.Proofs.YteampbddflhngaaGreat
