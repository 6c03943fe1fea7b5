import Derived.Test.YteampbddflhngaaGreatP07
import Derived.Test.YteampbddflhngaaGreatP06
import Derived.Test.YteampbddflhngaaGreatP05

/- Walks: deriveref.literal, the loop, the mark ahead. -/
namespace Go.Proofs.YteampbddflhngaaGreat
open Go.RowKit

set_option maxRecDepth 100000 in
set_option maxHeartbeats 2000000 in
theorem rlit_loop_b (w : World) (v : Value) (x : ByteArray) (L : List ByteArray) (hv : SV w v (x :: L)) (hne : ∀ y ∈ L, 0 < y.size) (hx : (x.toList == [33]) = true) (_hl : L.length ≤ 500) (_hn : ¬ L.length = 0) (hs : bSmall (bAt (gB L 0) 0) = true) (_h1 : ¬ L.length = 1) (_h4 : ¬ L.length < 4) (_h2 : ¬ L.length % 2 = 1) (h40 : ((gB L 1).toList == [40]) = true) (h41 : ((gB L (L.length - 1)).toList == [41]) = true) :
    Calls Tryz.prog 152 #[v, .bool false] w fun e w' => RLitPost (refLit1 true L) w e w' := by
  obtain ⟨i0, hi, hz0', hzs, hzb⟩ := info_parts Tryz.infoString
  obtain ⟨ao1, cap1, rfl⟩ := hv.shape
  obtain ⟨b1, o1, rfl, hblt1, hcl1⟩ := hv.cells (by simp)
  have hxx := hcl1 0 (by simp)
  rw [Nat.add_zero, List.getElem_cons_zero] at hxx
  clear hcl1
  have hz0 : 0 < (gB L 0).size := by rw [← gB_lt (by omega : 0 < L.length)]; exact hne _ (List.getElem_mem _)
  have hq0 : ((L.length : Int) == 0) = false := by rw [beq_eq_false_iff_ne]; omega
  have hq1 : ((L.length : Int) == 1) = false := by rw [beq_eq_false_iff_ne]; omega
  have hq2 : ((L.length : Int) % 2 == 1) = false := by rw [beq_eq_false_iff_ne]; omega
  go_enter Tryz.func152, Tryz.ntmps152
  go_wp2_with (first | (refine wpList_reslice _ w rfl (.tmp 26) 30 9 (some (.const (.int .i64 1))) none rfl Tryz.underlying30 i0 hi Tryz.cellsString _ (x :: L) rfl hv 1 (L.length + 1) (Or.inr rfl) (Or.inl ⟨rfl, rfl⟩) (by omega) (by simp) L.length (by omega) ?_; intro ao2 cap2 hv2; simp only [List.drop_succ_cons, List.drop_zero, List.take_length] at hv2; obtain ⟨b, o, rfl, hblt, hcl⟩ := hv2.cells (by omega); have hx0 := hcl 0 (by omega); have hx1 := hcl 1 (by omega); have hxn := hcl (L.length - 1) (by omega); rw [gB_lt (by omega)] at hx0 hx1 hxn; rw [Nat.add_zero] at hx0; have HCL : Hid (∀ k (hk : k < L.length), w.cell? ⟨b, o + k, none⟩ = some (.string L[k])) := hcl; clear hcl) | (go_at_call 184; refine (risName_any _ _ hz0).mono ?_; rintro e w' ⟨rfl, rfl⟩))
  go_loopw [9] (fun i wr => ∃ (k : Nat) (av : Value), 2 ≤ k ∧ k ≤ L.length - 1 ∧ i = .int .i64 k ∧ Hid (rOkTo L k = true) ∧ Below w.heap.size w wr ∧ Box wr w.heap.size #[.bool false, .string ByteArray.empty, .slice none 0 0] 90 ∧ Box wr (w.heap.size + 1) #[.bool true, .string (gB L 0), av] 90 ∧ wr.ownsRow w.heap.size 9 1 av (rArgs L k).length ((rArgs L k).map Value.string)) (fun i _ => L.length - (intOf i).toNat)
  case atStart => exact ⟨2, _, Nat.le_refl _, by omega, rfl, by simp [Hid, rOkTo], (by repeat' (first | (with_reducible exact Below.refl _ _) | (with_reducible assumption) | (with_reducible refine bdrewN ?_ _) | (with_reducible refine Below.alloc ?_ ?_ _) | (with_reducible refine Below.drew ?_) | (with_reducible refine Below.setCell ?_ ?_ _) | go_size)), (Box.new w _ _).below ((Below.refl _ _).alloc (Nat.le_refl _) _), Box.newAt _ _ _ _ (by simp), World.ownsRow_nil _ _ _ _⟩
  case round =>
    obtain ⟨k, av, hk2, hk, rfl, H, hbk, hrb, hlb, hown⟩ := hrel
    obtain ⟨ao3, cap3, rfl⟩ := own_view hown
    obtain ⟨hlc, hlf⟩ := hlb.rules
    obtain ⟨hrc, hrf⟩ := hrb.rules
    have hszk := hbk.size
    have hlbl := hlb.lt
    have hral := rArgs_len L k
    by_cases hlt : k < L.length - 1
    · have hxk := (hbk.cell (p := ⟨b, o + k, none⟩) hblt).trans (HCL.out k (by omega))
      have hbr : b < wr.heap.size := by omega
      have hkl : k < L.length := by omega
      have hzk : 0 < L[k].size := hne _ (List.getElem_mem _)
      rw [gB_lt (by omega : k < L.length)] at hxk hzk
      have hA : rArgs L (k + 1) = rArgs L k ++ (if 2 ≤ k ∧ k % 2 = 0 then [gB L k] else []) := rfl
      have hO : rOkTo L (k + 1) = (rOkTo L k && (decide (k < 2) || rOk L k)) := rfl
      rw [H.out, decide_eq_false (by omega : ¬ k < 2), Bool.true_and, Bool.false_or] at hO
      have HF : Hid (rOk L k = false → rOkTo L (L.length - 1) = false) := fun h => rOkTo_no (i := k + 1) (by rw [hO, h]) _ (by omega)
      unfold rOk at hO HF
      by_cases hev : k % 2 = 0
      · rw [if_pos hev] at hO HF
        rw [if_pos ⟨hk2, hev⟩] at hA
        have hm0 : ((k : Int) % 2 == 0) = true := by rw [beq_iff_eq]; omega
        have hm1 : ((k : Int) % 2 == 1) = false := by rw [beq_eq_false_iff_ne]; omega
        have HA : Hid (rArgs L (k + 1) = rArgs L k ++ [gB L k]) := hA
        have HO : Hid (rOkTo L (k + 1) = bLD (bAt (gB L k) 0)) := hO
        clear hA hO hev
        cases hT : bLD (bAt (gB L k) 0) with
        | false =>
          have HN : Hid (refLit1 true L = none) := by unfold Hid refLit1; rw [if_neg (by omega), hs, if_neg (by simp), if_neg (by omega), if_neg (by rw [h40, h41]; simp; omega), HF.out hT]; simp
          clear HF HA HO
          generalize gB L k = x1 at *
          go_wp2_with (first | (go_at_call 185; refine (risTerm_any _ _ hzk).mono ?_; rintro e w' ⟨rfl, hww⟩; obtain rfl := hww.symm))
          rw [HN.out]
          exact bodyPost_ret (v := .tuple #[.agg #[.bool true, .string (gB L 0), .slice ao3 (rArgs L k).length cap3], .bool false]) (by simp [results, Tryz.results152, go_sem, hrc]; try rfl) rfl ⟨(by repeat' (first | (with_reducible exact Below.refl _ _) | (with_reducible assumption) | (with_reducible refine bdrewN ?_ _) | (with_reducible refine Below.alloc ?_ ?_ _) | (with_reducible refine Below.drew ?_) | (with_reducible refine Below.setCell ?_ ?_ _) | go_size)), _, _, _, _, _, rfl⟩
        | true =>
          rw [hT] at HO
          clear HF
          generalize gB L k = x1 at *
          generalize hrk : rArgs L k = ak at *
          clear hrk
          go_wp2_with (first | (go_at_call 185; refine (risTerm_any _ _ hzk).mono ?_; rintro e w' ⟨rfl, hww⟩; obtain rfl := hww.symm))
          go_region_law (first | (refine step_push wr _ [.string x1] 9 rfl (.tmp 103) (.tmp 108) 30 rfl w.heap.size 9 i0 _ 1 16 Tryz.underlying30 hi hz0' hzs hzb rfl (by decide) _ _ _ (by simp [Act.eval]) hown (by exact (by repeat' (first | (with_reducible exact Below.refl _ _) | (with_reducible assumption) | (with_reducible refine bdrewN ?_ _) | (with_reducible refine Below.alloc ?_ ?_ _) | (with_reducible refine Below.drew ?_) | (with_reducible refine Below.setCell ?_ ?_ _) | go_size))) wr.heap.size 1 (by simp [Act.eval]) (by exact Box.drew (Box.newAt _ _ _ _ rfl)) rfl (by simp [Value.oneCell']) (by omega) (by omega) hbk.size ?_; intro v' w2 ho2 hB2 hk2 hz2'; obtain ⟨ao4, cap4, rfl⟩ := own_view ho2; have hlb2 := Box.keep (Box.drew (hlb.below ((Below.refl _ _).alloc (Nat.le_refl _) _))) (own_ne_type hown hlb (by decide)) hk2; have hrb2 := Box.keep (Box.drew (hrb.below ((Below.refl _ _).alloc (Nat.le_refl _) _))) (own_ne_type hown hrb (by decide)) hk2; obtain ⟨hlc2, hlf2⟩ := hlb2.rules))
          all_goals
            go_wp2
            go_roundw
            case rel => exact ⟨k + 1, _, by omega, by omega, by go_num, HO, (hbk.trans hB2).setCell (by simp) _, hrb2.set_ne (by omega) _ _, hlb2.set 2 _, by rw [HA.out]; have := own_but ho2 ((But.refl (w.heap.size + 1) w2).setCell 2 (.slice ao4 (ak.length + 1) cap4)) hlb2 (by decide); simpa using this⟩
            case measure => simp [intOf]; omega
      · rw [if_neg hev] at hO HF
        rw [if_neg (by omega), List.append_nil] at hA
        have hm0 : ((k : Int) % 2 == 0) = false := by rw [beq_eq_false_iff_ne]; omega
        have hm1 : ((k : Int) % 2 == 1) = true := by rw [beq_iff_eq]; omega
        have HA : Hid (rArgs L (k + 1) = rArgs L k) := hA
        have HO : Hid (rOkTo L (k + 1) = ((gB L k).toList == [44])) := hO
        clear hA hO hev
        cases hT : ((gB L k).toList == [44]) with
        | false =>
          have HN : Hid (refLit1 true L = none) := by unfold Hid refLit1; rw [if_neg (by omega), hs, if_neg (by simp), if_neg (by omega), if_neg (by rw [h40, h41]; simp; omega), HF.out hT]; simp
          clear HF HA HO
          generalize gB L k = x1 at *
          go_wp2_with (first | (go_at_call 185; refine (risTerm_any _ _ hzk).mono ?_; rintro e w' ⟨rfl, hww⟩; obtain rfl := hww.symm))
          rw [HN.out]
          exact bodyPost_ret (v := .tuple #[.agg #[.bool true, .string (gB L 0), .slice ao3 (rArgs L k).length cap3], .bool false]) (by simp [results, Tryz.results152, go_sem, hrc]; try rfl) rfl ⟨(by repeat' (first | (with_reducible exact Below.refl _ _) | (with_reducible assumption) | (with_reducible refine bdrewN ?_ _) | (with_reducible refine Below.alloc ?_ ?_ _) | (with_reducible refine Below.drew ?_) | (with_reducible refine Below.setCell ?_ ?_ _) | go_size)), _, _, _, _, _, rfl⟩
        | true =>
          rw [hT] at HO
          have hnt : bLD (bAt (gB L k) 0) = false := comma_not hT
          clear HF
          generalize gB L k = x1 at *
          go_wp2_with (first | (go_at_call 185; refine (risTerm_any _ _ hzk).mono ?_; rintro e w' ⟨rfl, hww⟩; obtain rfl := hww.symm))
          go_roundw
          case rel => exact ⟨k + 1, _, by omega, by omega, by go_num, HO, hbk, hrb, hlb, by rw [HA.out]; exact hown⟩
          case measure => simp [intOf]; omega
    · have hkn : k = L.length - 1 := by omega
      have HN : Hid (refLit1 true L = some ⟨true, gB L 0, rArgs L k⟩) := by unfold Hid refLit1; rw [if_neg (by omega), hs, if_neg (by simp), if_neg (by omega), if_neg (by rw [h40, h41]; simp; omega), ← hkn, H.out]; simp
      clear H
      generalize rArgs L k = ak at *
      go_wp2
      rw [HN.out]
      exact bodyPost_ret (v := .tuple #[.agg #[.bool true, .string (gB L 0), .slice ao3 ak.length cap3], .bool true]) (by simp [results, Tryz.results152, go_sem, hrc]) rfl ⟨(by repeat' (first | (with_reducible exact Below.refl _ _) | (with_reducible assumption) | (with_reducible refine bdrewN ?_ _) | (with_reducible refine Below.alloc ?_ ?_ _) | (with_reducible refine Below.drew ?_) | (with_reducible refine Below.setCell ?_ ?_ _) | go_size)), _, rfl, own_but (r := w.heap.size) hown (by repeat' (first | (with_reducible exact But.refl _ _) | (with_reducible assumption) | (with_reducible refine But.drewN ?_ _) | (with_reducible refine But.alloc ?_ _) | (with_reducible refine But.drew ?_) | (with_reducible refine But.setCell ?_ _ _) | (with_reducible refine But.setNew ?_ ?_ _) | go_size)) hrb (by decide)⟩

end Go.Proofs.YteampbddflhngaaGreat

/- Walks: deriveref.literal, all ways; deriveref.literals. -/
namespace Go.Proofs.YteampbddflhngaaGreat
open Go.RowKit
variable {lo : Nat}

theorem rliteral_any (w : World) (v : Value) (l : List ByteArray) (head : Bool) (hv : SV w v l) (hne : ∀ y ∈ l, 0 < y.size) (hl : l.length ≤ 500) :
    Calls Tryz.prog 152 #[v, .bool head] w fun e w' => RLitPost (refLit l head) w e w' := by
  unfold refLit
  cases hb : bang l head with
  | false =>
    rw [if_neg (by simp)]
    by_cases h0 : l.length = 0
    · have : refLit1 false l = none := by unfold refLit1; rw [if_pos h0]
      rw [this]; exact rlit_empty_n w v l head hv hne hl hb h0
    · cases hs : bSmall (bAt (gB l 0) 0) with
      | false =>
        have : refLit1 false l = none := by unfold refLit1; rw [if_neg h0, if_pos hs]
        rw [this]; exact rlit_noname_n w v l head hv hne hl hb h0 hs
      | true =>
        by_cases h1 : l.length = 1
        · have : refLit1 false l = some ⟨false, gB l 0, []⟩ := by unfold refLit1; rw [if_neg h0, hs, if_neg (by simp), if_pos h1]
          rw [this]; exact rlit_one_n w v l head hv hne hl hb h0 hs h1
        · by_cases hbad : l.length < 4 ∨ l.length % 2 = 1 ∨ ((gB l 1).toList == [40]) = false ∨ ((gB l (l.length - 1)).toList == [41]) = false
          · have : refLit1 false l = none := by unfold refLit1; rw [if_neg h0, hs, if_neg (by simp), if_neg h1, if_pos hbad]
            rw [this]
            by_cases h4 : l.length < 4
            · exact rlit_short_n w v l head hv hne hl hb h0 hs h1 h4
            · by_cases h2 : l.length % 2 = 1
              · exact rlit_odd_n w v l head hv hne hl hb h0 hs h1 h4 h2
              · cases h40 : ((gB l 1).toList == [40]) with
                | false => exact rlit_noopen_n w v l head hv hne hl hb h0 hs h1 h4 h2 h40
                | true =>
                  cases h41 : ((gB l (l.length - 1)).toList == [41]) with
                  | false => exact rlit_noshut_n w v l head hv hne hl hb h0 hs h1 h4 h2 h40 h41
                  | true => rw [h40, h41] at hbad; simp at hbad; omega
          · simp only [not_or, Bool.not_eq_false] at hbad
            exact rlit_loop_n w v l head hv hne hl hb h0 hs h1 hbad.1 hbad.2.1 hbad.2.2.1 hbad.2.2.2
  | true =>
    rw [if_pos rfl]
    simp only [bang, Bool.and_eq_true, decide_eq_true_eq, Bool.not_eq_true'] at hb
    obtain ⟨⟨hp, hx⟩, rfl⟩ := hb
    cases l with
    | nil => simp at hp
    | cons x l =>
      have hx' : (x.toList == [33]) = true := hx
      have hne' : ∀ y ∈ l, 0 < y.size := fun y hy => hne y (List.mem_cons_of_mem _ hy)
      have hl' : l.length ≤ 500 := by simp at hl; omega
      rw [List.tail_cons]
      by_cases h0 : l.length = 0
      · have : refLit1 true l = none := by unfold refLit1; rw [if_pos h0]
        rw [this]; exact rlit_empty_b w v x l hv hne' hx' hl' h0
      · cases hs : bSmall (bAt (gB l 0) 0) with
        | false =>
          have : refLit1 true l = none := by unfold refLit1; rw [if_neg h0, if_pos hs]
          rw [this]; exact rlit_noname_b w v x l hv hne' hx' hl' h0 hs
        | true =>
          by_cases h1 : l.length = 1
          · have : refLit1 true l = some ⟨true, gB l 0, []⟩ := by unfold refLit1; rw [if_neg h0, hs, if_neg (by simp), if_pos h1]
            rw [this]; exact rlit_one_b w v x l hv hne' hx' hl' h0 hs h1
          · by_cases hbad : l.length < 4 ∨ l.length % 2 = 1 ∨ ((gB l 1).toList == [40]) = false ∨ ((gB l (l.length - 1)).toList == [41]) = false
            · have : refLit1 true l = none := by unfold refLit1; rw [if_neg h0, hs, if_neg (by simp), if_neg h1, if_pos hbad]
              rw [this]
              by_cases h4 : l.length < 4
              · exact rlit_short_b w v x l hv hne' hx' hl' h0 hs h1 h4
              · by_cases h2 : l.length % 2 = 1
                · exact rlit_odd_b w v x l hv hne' hx' hl' h0 hs h1 h4 h2
                · cases h40 : ((gB l 1).toList == [40]) with
                  | false => exact rlit_noopen_b w v x l hv hne' hx' hl' h0 hs h1 h4 h2 h40
                  | true =>
                    cases h41 : ((gB l (l.length - 1)).toList == [41]) with
                    | false => exact rlit_noshut_b w v x l hv hne' hx' hl' h0 hs h1 h4 h2 h40 h41
                    | true => rw [h40, h41] at hbad; simp at hbad; omega
            · simp only [not_or, Bool.not_eq_false] at hbad
              exact rlit_loop_b w v x l hv hne' hx' hl' h0 hs h1 hbad.1 hbad.2.1 hbad.2.2.1 hbad.2.2.2

theorem rliteral_no (w : World) (v : Value) (l : List ByteArray) (head : Bool) (hv : SV w v l) (hne : ∀ y ∈ l, 0 < y.size) (hl : l.length ≤ 500) (h : refLit l head = none) :
    Calls Tryz.prog 152 #[v, .bool head] w fun e w' => ∃ b p ao n cap, e = .returned (.tuple #[.agg #[.bool b, .string p, .slice ao n cap], .bool false]) ∧ Below w.heap.size w w' := by
  refine (rliteral_any w v l head hv hne hl).mono ?_
  rintro e w' ⟨h1, h2⟩
  rw [h] at h2
  obtain ⟨b, p, ao, n, cap, h3⟩ := h2
  exact ⟨b, p, ao, n, cap, h3, h1⟩
theorem rliteral_yes (w : World) (v : Value) (l : List ByteArray) (head : Bool) (a : PLit) (hv : SV w v l) (hne : ∀ y ∈ l, 0 < y.size) (hl : l.length ≤ 500) (h : refLit l head = some a) :
    Calls Tryz.prog 152 #[v, .bool head] w fun e w' => ∃ va, e = .returned (.tuple #[.agg #[.bool a.neg, .string a.pred, va], .bool true]) ∧ SIn w.heap.size w' va a.args ∧ Below w.heap.size w w' := by
  refine (rliteral_any w v l head hv hne hl).mono ?_
  rintro e w' ⟨h1, h2⟩
  rw [h] at h2
  obtain ⟨va, h3, h4⟩ := h2
  exact ⟨va, h3, h4, h1⟩

def RLitsPost (o : Option (List PLit)) (w : World) (e : Ending) (w' : World) : Prop :=
  Below w.heap.size w w' ∧ match o with
    | none => e = .returned (.tuple #[.slice none 0 0, .bool false])
    | some ls => ∃ v, e = .returned (.tuple #[v, .bool true]) ∧ LIn w.heap.size w' v ls
theorem rlitsPost_no {o : Option (List PLit)} {w w' : World} (h : Hid (o = none)) (hb : Below w.heap.size w w') : RLitsPost o w (.returned (.tuple #[.slice none 0 0, .bool false])) w' := by
  have h' : o = none := h
  subst h'; exact ⟨hb, rfl⟩
theorem rlitsPost_yes {o : Option (List PLit)} {w w' : World} {v : Value} {ls : List PLit} (h : Hid (o = some ls)) (hb : Below w.heap.size w w') (hs : LIn w.heap.size w' v ls) : RLitsPost o w (.returned (.tuple #[v, .bool true])) w' := by
  have h' : o = some ls := h
  subst h'; exact ⟨hb, v, rfl, hs⟩

set_option maxRecDepth 100000 in
set_option maxHeartbeats 2000000 in
theorem rliterals_any (w : World) (v : Value) (l : List ByteArray) (hv : SV w v l) (hne : ∀ y ∈ l, 0 < y.size) (hl : l.length ≤ 500) :
    Calls Tryz.prog 153 #[v] w fun e w' => RLitsPost (refLits l (l.length + 1) 0 0 0) w e w' := by
  obtain ⟨i0, hi, hz0, hzs, hzb⟩ := info_parts Tryz.infoLit
  obtain ⟨i1, hi1, _, _, _⟩ := info_parts Tryz.infoString
  obtain ⟨ao, cap, rfl⟩ := hv.shape
  go_enter Tryz.func153, Tryz.ntmps153
  go_wp2
  go_loopw [4, 5, 6, 7] (fun v4 v5 v6 v7 wr => ∃ (acc : List PLit) (fr k m : Nat) (d : Int) (xs : List Value), v5 = .int .i64 fr ∧ v6 = .int .i64 d ∧ v7 = .int .i64 k ∧ fr ≤ k ∧ k ≤ l.length + 1 ∧ m + k = l.length + 1 ∧ -500 ≤ d + (k : Int) ∧ d ≤ k ∧ -(k : Int) ≤ d ∧ acc.length ≤ k ∧ (k = l.length + 1 ∨ fr ≤ l.length) ∧
      Below w.heap.size w wr ∧ wr.ownsRow w.heap.size 90 3 v4 acc.length xs ∧ LitCells w.heap.size wr acc xs ∧ Hid (refLits l (l.length + 1) 0 0 0 = (refLits l m fr d k).map (acc ++ ·))) (fun _ _ _ i _ => l.length + 1 - (intOf i).toNat)
  case atStart => exact ⟨[], 0, 0, l.length + 1, 0, [], rfl, rfl, rfl, Nat.le_refl _, by omega, by omega, by omega, by omega, by omega, by simp, Or.inr (by omega), Below.refl _ _, World.ownsRow_nil _ _ _ _, rfl, (by simp [Hid])⟩
  case round =>
    obtain ⟨acc, fr, k, m, d, xs, rfl, rfl, rfl, hfk, hkl, hmk, hd0, hd1, hd2, hacc, hfl, hbk, hown, hlc, H⟩ := hrel
    have hszk := hbk.size
    by_cases hin : k ≤ l.length
    · obtain ⟨m, rfl⟩ : ∃ m', m = m' + 1 := ⟨m - 1, by omega⟩
      by_cases hlt : k < l.length
      · obtain ⟨b, o, rfl, hblt, hck⟩ := hv.cell k hlt
        have hxk := (hbk.cell (p := ⟨b, o + k, none⟩) hblt).trans hck
        have hbr : b < wr.heap.size := by omega
        rw [gB_lt hlt] at hxk
        clear hck
        have hstep : refLits l (m + 1) fr d k = (if ((gB l k).toList == [40]) then refLits l m fr (d + 1) (k + 1) else if ((gB l k).toList == [41]) then refLits l m fr (d - 1) (k + 1) else if ((gB l k).toList == [44]) = false ∨ 0 < d then refLits l m fr d (k + 1) else match refLit ((l.drop fr).take (k - fr)) false with | none => none | some a => (refLits l m (k + 1) d (k + 1)).map (a :: ·)) := by rw [refLits, if_pos hlt]; rfl
        cases h40 : ((gB l k).toList == [40]) with
        | true =>
          obtain ⟨h41, h44⟩ := s40 h40
          have H2 : Hid (refLits l (l.length + 1) 0 0 0 = (refLits l m fr (d + 1) (k + 1)).map (acc ++ ·)) := by rw [Hid, H.out, hstep, h40]; rfl
          clear H hstep
          generalize gB l k = x at *
          go_wp2
          go_roundw
          case rel => exact ⟨acc, fr, k + 1, m, d + 1, xs, rfl, rfl, by go_num, by omega, by omega, by omega, by omega, by omega, by omega, by omega, by omega, hbk, hown, hlc, H2⟩
          case measure => simp [intOf]; omega
        | false =>
          cases h41 : ((gB l k).toList == [41]) with
          | true =>
            obtain ⟨_, h44⟩ := s41 h41
            have H2 : Hid (refLits l (l.length + 1) 0 0 0 = (refLits l m fr (d - 1) (k + 1)).map (acc ++ ·)) := by rw [Hid, H.out, hstep, h40, h41]; rfl
            clear H hstep
            generalize gB l k = x at *
            go_wp2
            go_roundw
            case rel => exact ⟨acc, fr, k + 1, m, d - 1, xs, rfl, rfl, by go_num, by omega, by omega, by omega, by omega, by omega, by omega, by omega, by omega, hbk, hown, hlc, H2⟩
            case measure => simp [intOf]; omega
          | false =>
            cases h44 : ((gB l k).toList == [44]) with
            | false =>
              have H2 : Hid (refLits l (l.length + 1) 0 0 0 = (refLits l m fr d (k + 1)).map (acc ++ ·)) := by rw [Hid, H.out, hstep, h40, h41, h44]; simp
              clear H hstep
              generalize gB l k = x at *
              go_wp2
              go_roundw
              case rel => exact ⟨acc, fr, k + 1, m, d, xs, rfl, rfl, by go_num, by omega, by omega, by omega, by omega, by omega, by omega, by omega, by omega, hbk, hown, hlc, H2⟩
              case measure => simp [intOf]; omega
            | true =>
              by_cases hdp : 0 < d
              · have H2 : Hid (refLits l (l.length + 1) 0 0 0 = (refLits l m fr d (k + 1)).map (acc ++ ·)) := by rw [Hid, H.out, hstep, h40, h41, h44]; simp [hdp]
                clear H hstep
                generalize gB l k = x at *
                go_wp2
                go_roundw
                case rel => exact ⟨acc, fr, k + 1, m, d, xs, rfl, rfl, by go_num, by omega, by omega, by omega, by omega, by omega, by omega, by omega, by omega, hbk, hown, hlc, H2⟩
                case measure => simp [intOf]; omega
              · rw [h40, h41, h44, if_neg (by simp), if_neg (by simp), if_neg (by simp; omega)] at hstep
                generalize gB l k = x at *
                have HNE : Hid (∀ y ∈ (l.drop fr).take (k - fr), 0 < y.size) := fun y hy => hne y (List.mem_of_mem_drop (List.mem_of_mem_take hy))
                cases hL : refLit ((l.drop fr).take (k - fr)) false with
                | none =>
                  have HL : Hid (refLit ((l.drop fr).take (k - fr)) false = none) := hL
                  have HF : Hid (refLits l (l.length + 1) 0 0 0 = none) := by rw [Hid, H.out, hstep, hL]; rfl
                  clear H hstep hL
                  go_wp2_with (first | (refine wpList_reslice _ w rfl (.tmp 58) 30 9 (some (.tmp 59)) (some (.tmp 60)) rfl Tryz.underlying30 i1 hi1 Tryz.cellsString _ l rfl hv fr k (Or.inr rfl) (Or.inr rfl) (by omega) (by omega) (k - fr) rfl ?_; intro ao2 cap2 hv2) | (go_at_call 152; refine (rliteral_no _ _ ((l.drop fr).take (k - fr)) false (by exact hv2.below hbk) HNE.out (by simp; omega) HL).mono ?_; rintro e w1 ⟨b1, p1, ao1, n1, cap1, rfl, hb1⟩; have hB1 := bnext hbk hb1 (Nat.le_refl _); have hz1 := hB1.size))
                  go_ret2
                  exact rlitsPost_no HF (by repeat' (first | (with_reducible exact Below.refl _ _) | (with_reducible assumption) | (with_reducible refine bdrewN ?_ _) | (with_reducible refine Below.alloc ?_ ?_ _) | (with_reducible refine Below.drew ?_) | (with_reducible refine Below.setCell ?_ ?_ _) | go_size))
                | some a =>
                  have HL : Hid (refLit ((l.drop fr).take (k - fr)) false = some a) := hL
                  have H2 : Hid (refLits l (l.length + 1) 0 0 0 = (refLits l m (k + 1) d (k + 1)).map ((acc ++ [a]) ++ ·)) := by rw [Hid, H.out, hstep, hL]; simp only []; rw [map_snoc]
                  clear H hstep hL
                  go_wp2_with (first | (refine wpList_reslice _ w rfl (.tmp 58) 30 9 (some (.tmp 59)) (some (.tmp 60)) rfl Tryz.underlying30 i1 hi1 Tryz.cellsString _ l rfl hv fr k (Or.inr rfl) (Or.inr rfl) (by omega) (by omega) (k - fr) rfl ?_; intro ao2 cap2 hv2) | (go_at_call 152; refine (rliteral_yes _ _ ((l.drop fr).take (k - fr)) false a (by exact hv2.below hbk) HNE.out (by simp; omega) HL).mono ?_; rintro e w1 ⟨va, rfl, hsin, hb1⟩; obtain ⟨ao3, cap3, rfl⟩ := hsin.shape; have hB1 := bnext hbk hb1 (Nat.le_refl _); have hz1 := hB1.size; have ho1 := owns_below hown hb1; have hlc1 := hlc.mono fun _ _ q => q.below hb1) | (at_builtin; refine wpList_push w1 _ _ _ rfl (.tmp 67) (.tmp 69) 91 rfl w.heap.size 90 i0 _ 3 48 Tryz.underlying91 hi hz0 hzs hzb rfl (by decide) _ _ _ rfl ho1 ((Below.refl _ _).alloc (Nat.le_refl _) _) _ _ rfl (by simp) rfl (by simp [Value.oneCell']) (by omega) (by omega) hz1 ?_; intro v' w2 ho2 hB2 hc2 hf2 hk2 hz2'; clear hc2 hf2; have hs2 : SIn w.heap.size w2 (Value.slice ao3 a.args.length cap3) a.args := own_low (own_push ho1 (by decide) hsin hk2) hbk.size; have hlc2 := hlc1.mono fun _ _ q => own_push ho1 (by decide) q hk2))
                  go_roundw
                  case rel => exact ⟨acc ++ [a], k + 1, k + 1, m, d, _, by go_num, rfl, by go_num, Nat.le_refl _, by omega, by omega, by omega, by omega, by omega, by simp; omega, by omega, hB1.trans hB2, by rw [List.length_append]; exact ho2, hlc2.snoc hs2, H2⟩
                  case measure => simp [intOf]; omega
      · have hstep : refLits l (m + 1) fr d k = (match refLit ((l.drop fr).take (k - fr)) false with | none => none | some a => some [a]) := by rw [refLits, if_neg hlt]; rfl
        have hm0 : m = 0 := by omega
        have HNE : Hid (∀ y ∈ (l.drop fr).take (k - fr), 0 < y.size) := fun y hy => hne y (List.mem_of_mem_drop (List.mem_of_mem_take hy))
        cases hL : refLit ((l.drop fr).take (k - fr)) false with
        | none =>
          have HL : Hid (refLit ((l.drop fr).take (k - fr)) false = none) := hL
          have HF : Hid (refLits l (l.length + 1) 0 0 0 = none) := by rw [Hid, H.out, hstep, hL]; rfl
          clear H hstep hL
          go_wp2_with (first | (refine wpList_reslice _ w rfl (.tmp 58) 30 9 (some (.tmp 59)) (some (.tmp 60)) rfl Tryz.underlying30 i1 hi1 Tryz.cellsString _ l rfl hv fr k (Or.inr rfl) (Or.inr rfl) (by omega) (by omega) (k - fr) rfl ?_; intro ao2 cap2 hv2) | (go_at_call 152; refine (rliteral_no _ _ ((l.drop fr).take (k - fr)) false (by exact hv2.below hbk) HNE.out (by simp; omega) HL).mono ?_; rintro e w1 ⟨b1, p1, ao1, n1, cap1, rfl, hb1⟩; have hB1 := bnext hbk hb1 (Nat.le_refl _); have hz1 := hB1.size))
          go_ret2
          exact rlitsPost_no HF (by repeat' (first | (with_reducible exact Below.refl _ _) | (with_reducible assumption) | (with_reducible refine bdrewN ?_ _) | (with_reducible refine Below.alloc ?_ ?_ _) | (with_reducible refine Below.drew ?_) | (with_reducible refine Below.setCell ?_ ?_ _) | go_size))
        | some a =>
          have HL : Hid (refLit ((l.drop fr).take (k - fr)) false = some a) := hL
          have H2 : Hid (refLits l (l.length + 1) 0 0 0 = (refLits l m (k + 1) d (k + 1)).map ((acc ++ [a]) ++ ·)) := by rw [Hid, H.out, hstep, hL, hm0]; simp [refLits]
          clear H hstep hL
          go_wp2_with (first | (refine wpList_reslice _ w rfl (.tmp 58) 30 9 (some (.tmp 59)) (some (.tmp 60)) rfl Tryz.underlying30 i1 hi1 Tryz.cellsString _ l rfl hv fr k (Or.inr rfl) (Or.inr rfl) (by omega) (by omega) (k - fr) rfl ?_; intro ao2 cap2 hv2) | (go_at_call 152; refine (rliteral_yes _ _ ((l.drop fr).take (k - fr)) false a (by exact hv2.below hbk) HNE.out (by simp; omega) HL).mono ?_; rintro e w1 ⟨va, rfl, hsin, hb1⟩; obtain ⟨ao3, cap3, rfl⟩ := hsin.shape; have hB1 := bnext hbk hb1 (Nat.le_refl _); have hz1 := hB1.size; have ho1 := owns_below hown hb1; have hlc1 := hlc.mono fun _ _ q => q.below hb1) | (at_builtin; refine wpList_push w1 _ _ _ rfl (.tmp 67) (.tmp 69) 91 rfl w.heap.size 90 i0 _ 3 48 Tryz.underlying91 hi hz0 hzs hzb rfl (by decide) _ _ _ rfl ho1 ((Below.refl _ _).alloc (Nat.le_refl _) _) _ _ rfl (by simp) rfl (by simp [Value.oneCell']) (by omega) (by omega) hz1 ?_; intro v' w2 ho2 hB2 hc2 hf2 hk2 hz2'; clear hc2 hf2; have hs2 : SIn w.heap.size w2 (Value.slice ao3 a.args.length cap3) a.args := own_low (own_push ho1 (by decide) hsin hk2) hbk.size; have hlc2 := hlc1.mono fun _ _ q => own_push ho1 (by decide) q hk2))
          go_roundw
          case rel => exact ⟨acc ++ [a], k + 1, k + 1, m, d, _, by go_num, rfl, by go_num, Nat.le_refl _, by omega, by omega, by omega, by omega, by omega, by simp; omega, by omega, hB1.trans hB2, by rw [List.length_append]; exact ho2, hlc2.snoc hs2, H2⟩
          case measure => simp [intOf]; omega
    · have hm0 : m = 0 := by omega
      have HF : Hid (refLits l (l.length + 1) 0 0 0 = some acc) := by rw [Hid, H.out, hm0]; simp [refLits]
      clear H
      go_wp2
      go_ret2
      exact rlitsPost_yes HF hbk ⟨_, hown, hlc⟩
end Go.Proofs.YteampbddflhngaaGreat
