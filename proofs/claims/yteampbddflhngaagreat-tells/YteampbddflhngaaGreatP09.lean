import Derived.Test.YteampbddflhngaaGreatP08
import Derived.Deep.Cut

/- Walks: deriveref.clause. -/
namespace Go.Proofs.YteampbddflhngaaGreat
open Go.RowKit
variable {lo : Nat}

def RClPost (o : Option PClause) (w : World) (e : Ending) (w' : World) : Prop :=
  Below w.heap.size w w' ∧ match o with
    | none => ∃ b p ao n cap ao2 n2 cap2, e = .returned (.tuple #[.agg #[.bool b, .string p, .slice ao n cap, .slice ao2 n2 cap2], .bool false])
    | some c => ∃ va vb, e = .returned (.tuple #[.agg #[.bool c.head.neg, .string c.head.pred, va, vb], .bool true]) ∧ SIn w.heap.size w' va c.head.args ∧ LIn w.heap.size w' vb c.body
theorem rliterals_no (w : World) (v : Value) (l : List ByteArray) (hv : SV w v l) (hne : ∀ y ∈ l, 0 < y.size) (hl : l.length ≤ 500) (h : refLits l (l.length + 1) 0 0 0 = none) :
    Calls Tryz.prog 153 #[v] w fun e w' => e = .returned (.tuple #[.slice none 0 0, .bool false]) ∧ Below w.heap.size w w' := by
  refine (rliterals_any w v l hv hne hl).mono ?_
  rintro e w' ⟨h1, h2⟩
  rw [h] at h2
  exact ⟨h2, h1⟩
theorem rliterals_yes (w : World) (v : Value) (l : List ByteArray) (ls : List PLit) (hv : SV w v l) (hne : ∀ y ∈ l, 0 < y.size) (hl : l.length ≤ 500) (h : refLits l (l.length + 1) 0 0 0 = some ls) :
    Calls Tryz.prog 153 #[v] w fun e w' => ∃ v', e = .returned (.tuple #[v', .bool true]) ∧ LIn w.heap.size w' v' ls ∧ Below w.heap.size w w' := by
  refine (rliterals_any w v l hv hne hl).mono ?_
  rintro e w' ⟨h1, h2⟩
  rw [h] at h2
  obtain ⟨v', a, b⟩ := h2
  exact ⟨v', a, b, h1⟩

set_option maxRecDepth 100000 in
set_option maxHeartbeats 2000000 in
theorem rclause_any (w : World) (v : Value) (l : List ByteArray) (hv : SV w v l) (hne : ∀ y ∈ l, 0 < y.size) (hl : l.length ≤ 500) :
    Calls Tryz.prog 107 #[v] w fun e w' => RClPost (refClause l) w e w' := by
  obtain ⟨i1, hi1, _, _, _⟩ := info_parts Tryz.infoString
  obtain ⟨ao, cap, rfl⟩ := hv.shape
  have hW : Below w.heap.size w ((w.alloc (.cells #[.bool false, .string { data := #[] }, .slice none 0 0, .slice none 0 0] 93)).alloc (.cells #[.bool false, .string { data := #[] }, .slice none 0 0, .slice none 0 0] 93)) := (by repeat' (first | (with_reducible exact Below.refl _ _) | (with_reducible assumption) | (with_reducible refine bdrewN ?_ _) | (with_reducible refine Below.alloc ?_ ?_ _) | (with_reducible refine Below.drew ?_) | (with_reducible refine Below.setCell ?_ ?_ _) | go_size))
  have hr0 : Box ((w.alloc (.cells #[.bool false, .string { data := #[] }, .slice none 0 0, .slice none 0 0] 93)).alloc (.cells #[.bool false, .string { data := #[] }, .slice none 0 0, .slice none 0 0] 93)) w.heap.size #[.bool false, .string { data := #[] }, .slice none 0 0, .slice none 0 0] 93 := (Box.new w _ _).below ((Below.refl _ _).alloc (Nat.le_refl _) _)
  have hc0 : Box ((w.alloc (.cells #[.bool false, .string { data := #[] }, .slice none 0 0, .slice none 0 0] 93)).alloc (.cells #[.bool false, .string { data := #[] }, .slice none 0 0, .slice none 0 0] 93)) (w.heap.size + 1) #[.bool false, .string { data := #[] }, .slice none 0 0, .slice none 0 0] 93 := Box.newAt _ _ _ _ (by simp)
  go_enter Tryz.func107, Tryz.ntmps107
  go_wp2
  go_loop [5] (fun i => ∃ k : Nat, k ≤ l.length ∧ i = .int .i64 k ∧ Hid (ifAt l = k + ifAt (l.drop k))) (fun i => l.length - (intOf i).toNat)
  case atStart => exact ⟨0, Nat.zero_le _, rfl, by simp [Hid]⟩
  case round =>
    obtain ⟨k, hk, rfl, H⟩ := hrel
    by_cases hlt : k < l.length
    · obtain ⟨b, o, rfl, hblt, hck⟩ := hv.cell k hlt
      rw [gB_lt hlt] at hck
      cases hI : ((gB l k).toList == [58, 45]) with
      | false =>
        have H2 : Hid (ifAt l = (k + 1) + ifAt (l.drop (k + 1))) := by rw [Hid, H.out, ifAt_no hlt hI]; omega
        clear H
        generalize gB l k = x at *
        go_wp2
        go_round
        case rel => exact ⟨k + 1, by omega, by go_num, H2⟩
        case measure => simp [intOf]; omega
      | true =>
        have HK : Hid (ifAt l = k) := by rw [Hid, H.out, ifAt_yes hlt hI]; rfl
        clear H
        generalize gB l k = x at *
        have HNE : Hid (∀ y ∈ l.take k, 0 < y.size) := fun y hy => hne y (List.mem_of_mem_take hy)
        cases hL : refLit (l.take k) true with
        | none =>
          have HL : Hid (refLit (l.take k) true = none) := hL
          have HR : Hid (refClause l = none) := by unfold Hid refClause; rw [HK.out, hL]
          clear hL
          go_upto_region 7 with (first | (refine wpList_reslice _ w rfl (.tmp 24) 30 9 none (some (.tmp 25)) rfl Tryz.underlying30 i1 hi1 Tryz.cellsString _ l rfl hv 0 k (Or.inl ⟨rfl, rfl⟩) (Or.inr rfl) (by omega) (by omega) k rfl ?_; intro ao2 cap2 hv2; rw [List.drop_zero] at hv2) | (go_at_call 152; refine (rliteral_no _ _ (l.take k) true (by exact hv2.below hW) HNE.out (by simp; omega) HL).mono ?_; rintro e w1 ⟨b1, p1, ao1, n1, cap1, rfl, hb1⟩; have hr1 := hr0.below hb1; have hc1 := hc0.below hb1; obtain ⟨hrc1, hrf1⟩ := hr1.rules; obtain ⟨hcc1, hcf1⟩ := hc1.rules; have hz1 := hc1.lt; have hzr1 := hr1.lt; have hB1 : Below w.heap.size w w1 := bnext hW hb1 (Nat.le_refl _)))
          have hc2 : Box ((((w1.setCell ⟨w.heap.size + 1, 0, none⟩ (.bool b1)).setCell ⟨w.heap.size + 1, 1, none⟩ (.string p1)).setCell ⟨w.heap.size + 1, 2, none⟩ (.slice ao1 n1 cap1)).alloc (.cells #[.bool b1, .string p1, .slice ao1 n1 cap1] 90)) (w.heap.size + 1) #[.bool b1, .string p1, .slice ao1 n1 cap1, .slice none 0 0] 93 := (((hc1.set 0 _).set 1 _).set 2 _).below ((Below.refl _ _).alloc (Nat.le_refl _) _)
          have hr2 : Box ((((w1.setCell ⟨w.heap.size + 1, 0, none⟩ (.bool b1)).setCell ⟨w.heap.size + 1, 1, none⟩ (.string p1)).setCell ⟨w.heap.size + 1, 2, none⟩ (.slice ao1 n1 cap1)).alloc (.cells #[.bool b1, .string p1, .slice ao1 n1 cap1] 90)) w.heap.size #[.bool false, .string { data := #[] }, .slice none 0 0, .slice none 0 0] 93 := (((hr1.set_ne (by omega) _ _).set_ne (by omega) _ _).set_ne (by omega) _ _).below ((Below.refl _ _).alloc (Nat.le_refl _) _)
          have hB2 : Below w.heap.size w ((((w1.setCell ⟨w.heap.size + 1, 0, none⟩ (.bool b1)).setCell ⟨w.heap.size + 1, 1, none⟩ (.string p1)).setCell ⟨w.heap.size + 1, 2, none⟩ (.slice ao1 n1 cap1)).alloc (.cells #[.bool b1, .string p1, .slice ao1 n1 cap1] 90)) := by have hq := hB1.size; exact (by repeat' (first | (with_reducible exact Below.refl _ _) | (with_reducible assumption) | (with_reducible refine bdrewN ?_ _) | (with_reducible refine Below.alloc ?_ ?_ _) | (with_reducible refine Below.drew ?_) | (with_reducible refine Below.setCell ?_ ?_ _) | go_size))
          generalize ((((w1.setCell ⟨w.heap.size + 1, 0, none⟩ (.bool b1)).setCell ⟨w.heap.size + 1, 1, none⟩ (.string p1)).setCell ⟨w.heap.size + 1, 2, none⟩ (.slice ao1 n1 cap1)).alloc (.cells #[.bool b1, .string p1, .slice ao1 n1 cap1] 90)) = w2 at *
          clear hr1 hc1 hrc1 hrf1 hcc1 hcf1
          obtain ⟨hrc2, hrf2⟩ := hr2.rules
          obtain ⟨hcc2, hcf2⟩ := hc2.rules
          have hz2 := hc2.lt
          have hzr2 := hr2.lt
          go_wp2
          rw [HR.out]
          exact bodyPost_ret (v := .tuple #[.agg #[.bool b1, .string p1, .slice ao1 n1 cap1, .slice none 0 0], .bool false]) (by simp [results, Tryz.results107, go_sem, hrc2]) rfl ⟨(by repeat' (first | (with_reducible exact Below.refl _ _) | (with_reducible assumption) | (with_reducible refine bdrewN ?_ _) | (with_reducible refine Below.alloc ?_ ?_ _) | (with_reducible refine Below.drew ?_) | (with_reducible refine Below.setCell ?_ ?_ _) | go_size)), _, _, _, _, _, _, _, _, rfl⟩
        | some a =>
          have HL : Hid (refLit (l.take k) true = some a) := hL
          have HNE2 : Hid (∀ y ∈ l.drop (k + 1), 0 < y.size) := fun y hy => hne y (List.mem_of_mem_drop hy)
          have hke : ((k : Int) == (l.length : Int)) = false := by rw [beq_eq_false_iff_ne]; omega
          cases hLS : refLits (l.drop (k + 1)) ((l.drop (k + 1)).length + 1) 0 0 0 with
          | none =>
            have HLS : Hid (refLits (l.drop (k + 1)) ((l.drop (k + 1)).length + 1) 0 0 0 = none) := hLS
            have HR : Hid (refClause l = none) := by unfold Hid refClause; rw [HK.out, hL]; simp only []; rw [if_neg (by omega), hLS]
            clear hL hLS
            go_upto_region 7 with (first | (refine wpList_reslice _ w rfl (.tmp 24) 30 9 none (some (.tmp 25)) rfl Tryz.underlying30 i1 hi1 Tryz.cellsString _ l rfl hv 0 k (Or.inl ⟨rfl, rfl⟩) (Or.inr rfl) (by omega) (by omega) k rfl ?_; intro ao2 cap2 hv2; rw [List.drop_zero] at hv2) | (go_at_call 152; refine (rliteral_yes _ _ (l.take k) true a (by exact hv2.below hW) HNE.out (by simp; omega) HL).mono ?_; rintro e w1 ⟨va, rfl, hs1, hb1⟩; obtain ⟨ao1, cap1, rfl⟩ := hs1.shape; have hr1 := hr0.below hb1; have hc1 := hc0.below hb1; obtain ⟨hrc1, hrf1⟩ := hr1.rules; obtain ⟨hcc1, hcf1⟩ := hc1.rules; have hz1 := hc1.lt; have hzr1 := hr1.lt; have hB1 : Below w.heap.size w w1 := bnext hW hb1 (Nat.le_refl _)))
            have hc2 : Box ((((w1.setCell ⟨w.heap.size + 1, 0, none⟩ (.bool a.neg)).setCell ⟨w.heap.size + 1, 1, none⟩ (.string a.pred)).setCell ⟨w.heap.size + 1, 2, none⟩ (.slice ao1 a.args.length cap1)).alloc (.cells #[.bool a.neg, .string a.pred, .slice ao1 a.args.length cap1] 90)) (w.heap.size + 1) #[.bool a.neg, .string a.pred, .slice ao1 a.args.length cap1, .slice none 0 0] 93 := (((hc1.set 0 _).set 1 _).set 2 _).below ((Below.refl _ _).alloc (Nat.le_refl _) _)
            have hr2 : Box ((((w1.setCell ⟨w.heap.size + 1, 0, none⟩ (.bool a.neg)).setCell ⟨w.heap.size + 1, 1, none⟩ (.string a.pred)).setCell ⟨w.heap.size + 1, 2, none⟩ (.slice ao1 a.args.length cap1)).alloc (.cells #[.bool a.neg, .string a.pred, .slice ao1 a.args.length cap1] 90)) w.heap.size #[.bool false, .string { data := #[] }, .slice none 0 0, .slice none 0 0] 93 := (((hr1.set_ne (by omega) _ _).set_ne (by omega) _ _).set_ne (by omega) _ _).below ((Below.refl _ _).alloc (Nat.le_refl _) _)
            have hB2 : Below w.heap.size w ((((w1.setCell ⟨w.heap.size + 1, 0, none⟩ (.bool a.neg)).setCell ⟨w.heap.size + 1, 1, none⟩ (.string a.pred)).setCell ⟨w.heap.size + 1, 2, none⟩ (.slice ao1 a.args.length cap1)).alloc (.cells #[.bool a.neg, .string a.pred, .slice ao1 a.args.length cap1] 90)) := by have hq := hB1.size; exact (by repeat' (first | (with_reducible exact Below.refl _ _) | (with_reducible assumption) | (with_reducible refine bdrewN ?_ _) | (with_reducible refine Below.alloc ?_ ?_ _) | (with_reducible refine Below.drew ?_) | (with_reducible refine Below.setCell ?_ ?_ _) | go_size))
            have hsA : SIn w.heap.size ((((w1.setCell ⟨w.heap.size + 1, 0, none⟩ (.bool a.neg)).setCell ⟨w.heap.size + 1, 1, none⟩ (.string a.pred)).setCell ⟨w.heap.size + 1, 2, none⟩ (.slice ao1 a.args.length cap1)).alloc (.cells #[.bool a.neg, .string a.pred, .slice ao1 a.args.length cap1] 90)) (.slice ao1 a.args.length cap1) a.args := ((hs1.low (by simp only [World.size_alloc]; omega)).but (r := w.heap.size + 1) ((((But.refl _ _).setCell _ _).setCell _ _).setCell _ _) hc1 (by decide)).below ((Below.refl _ _).alloc (Nat.le_refl _) _)
            generalize ((((w1.setCell ⟨w.heap.size + 1, 0, none⟩ (.bool a.neg)).setCell ⟨w.heap.size + 1, 1, none⟩ (.string a.pred)).setCell ⟨w.heap.size + 1, 2, none⟩ (.slice ao1 a.args.length cap1)).alloc (.cells #[.bool a.neg, .string a.pred, .slice ao1 a.args.length cap1] 90)) = w2 at *
            clear hr1 hc1 hrc1 hrf1 hcc1 hcf1
            obtain ⟨hrc2, hrf2⟩ := hr2.rules
            obtain ⟨hcc2, hcf2⟩ := hc2.rules
            have hz2 := hc2.lt
            have hzr2 := hr2.lt
            go_wp2_with (first | (refine wpList_reslice _ w rfl (.tmp 43) 30 9 (some (.tmp 45)) none rfl Tryz.underlying30 i1 hi1 Tryz.cellsString _ l rfl hv (k + 1) l.length (Or.inr rfl) (Or.inl ⟨rfl, rfl⟩) (by omega) (by omega) (l.length - (k + 1)) rfl ?_; intro ao5 cap5 hv5; rw [List.take_of_length_le (by simp)] at hv5) | (go_at_call 153; refine (rliterals_no _ _ (l.drop (k + 1)) (by exact hv5.below hB2) HNE2.out (by simp; omega) HLS).mono ?_; rintro e w3 ⟨rfl, hb3⟩; have hr3 := hr2.below hb3; have hc3 := hc2.below hb3; obtain ⟨hrc3, hrf3⟩ := hr3.rules; obtain ⟨hcc3, hcf3⟩ := hc3.rules; have hz3 := hc3.lt; have hzr3 := hr3.lt; have hB3 := bnext hB2 hb3 (Nat.le_refl _); have hsz3 := hB3.size))
            rw [HR.out]
            exact bodyPost_ret (v := .tuple #[.agg #[.bool a.neg, .string a.pred, .slice ao1 a.args.length cap1, .slice none 0 0], .bool false]) (by simp [results, Tryz.results107, go_sem, hrc3]) rfl ⟨(by repeat' (first | (with_reducible exact Below.refl _ _) | (with_reducible assumption) | (with_reducible refine bdrewN ?_ _) | (with_reducible refine Below.alloc ?_ ?_ _) | (with_reducible refine Below.drew ?_) | (with_reducible refine Below.setCell ?_ ?_ _) | go_size)), _, _, _, _, _, _, _, _, rfl⟩
          | some bd =>
            have HLS : Hid (refLits (l.drop (k + 1)) ((l.drop (k + 1)).length + 1) 0 0 0 = some bd) := hLS
            have HR : Hid (refClause l = some ⟨a, bd⟩) := by unfold Hid refClause; rw [HK.out, hL]; simp only []; rw [if_neg (by omega), hLS]
            clear hL hLS
            go_upto_region 7 with (first | (refine wpList_reslice _ w rfl (.tmp 24) 30 9 none (some (.tmp 25)) rfl Tryz.underlying30 i1 hi1 Tryz.cellsString _ l rfl hv 0 k (Or.inl ⟨rfl, rfl⟩) (Or.inr rfl) (by omega) (by omega) k rfl ?_; intro ao2 cap2 hv2; rw [List.drop_zero] at hv2) | (go_at_call 152; refine (rliteral_yes _ _ (l.take k) true a (by exact hv2.below hW) HNE.out (by simp; omega) HL).mono ?_; rintro e w1 ⟨va, rfl, hs1, hb1⟩; obtain ⟨ao1, cap1, rfl⟩ := hs1.shape; have hr1 := hr0.below hb1; have hc1 := hc0.below hb1; obtain ⟨hrc1, hrf1⟩ := hr1.rules; obtain ⟨hcc1, hcf1⟩ := hc1.rules; have hz1 := hc1.lt; have hzr1 := hr1.lt; have hB1 : Below w.heap.size w w1 := bnext hW hb1 (Nat.le_refl _)))
            have hc2 : Box ((((w1.setCell ⟨w.heap.size + 1, 0, none⟩ (.bool a.neg)).setCell ⟨w.heap.size + 1, 1, none⟩ (.string a.pred)).setCell ⟨w.heap.size + 1, 2, none⟩ (.slice ao1 a.args.length cap1)).alloc (.cells #[.bool a.neg, .string a.pred, .slice ao1 a.args.length cap1] 90)) (w.heap.size + 1) #[.bool a.neg, .string a.pred, .slice ao1 a.args.length cap1, .slice none 0 0] 93 := (((hc1.set 0 _).set 1 _).set 2 _).below ((Below.refl _ _).alloc (Nat.le_refl _) _)
            have hr2 : Box ((((w1.setCell ⟨w.heap.size + 1, 0, none⟩ (.bool a.neg)).setCell ⟨w.heap.size + 1, 1, none⟩ (.string a.pred)).setCell ⟨w.heap.size + 1, 2, none⟩ (.slice ao1 a.args.length cap1)).alloc (.cells #[.bool a.neg, .string a.pred, .slice ao1 a.args.length cap1] 90)) w.heap.size #[.bool false, .string { data := #[] }, .slice none 0 0, .slice none 0 0] 93 := (((hr1.set_ne (by omega) _ _).set_ne (by omega) _ _).set_ne (by omega) _ _).below ((Below.refl _ _).alloc (Nat.le_refl _) _)
            have hB2 : Below w.heap.size w ((((w1.setCell ⟨w.heap.size + 1, 0, none⟩ (.bool a.neg)).setCell ⟨w.heap.size + 1, 1, none⟩ (.string a.pred)).setCell ⟨w.heap.size + 1, 2, none⟩ (.slice ao1 a.args.length cap1)).alloc (.cells #[.bool a.neg, .string a.pred, .slice ao1 a.args.length cap1] 90)) := by have hq := hB1.size; exact (by repeat' (first | (with_reducible exact Below.refl _ _) | (with_reducible assumption) | (with_reducible refine bdrewN ?_ _) | (with_reducible refine Below.alloc ?_ ?_ _) | (with_reducible refine Below.drew ?_) | (with_reducible refine Below.setCell ?_ ?_ _) | go_size))
            have hsA : SIn w.heap.size ((((w1.setCell ⟨w.heap.size + 1, 0, none⟩ (.bool a.neg)).setCell ⟨w.heap.size + 1, 1, none⟩ (.string a.pred)).setCell ⟨w.heap.size + 1, 2, none⟩ (.slice ao1 a.args.length cap1)).alloc (.cells #[.bool a.neg, .string a.pred, .slice ao1 a.args.length cap1] 90)) (.slice ao1 a.args.length cap1) a.args := ((hs1.low (by simp only [World.size_alloc]; omega)).but (r := w.heap.size + 1) ((((But.refl _ _).setCell _ _).setCell _ _).setCell _ _) hc1 (by decide)).below ((Below.refl _ _).alloc (Nat.le_refl _) _)
            generalize ((((w1.setCell ⟨w.heap.size + 1, 0, none⟩ (.bool a.neg)).setCell ⟨w.heap.size + 1, 1, none⟩ (.string a.pred)).setCell ⟨w.heap.size + 1, 2, none⟩ (.slice ao1 a.args.length cap1)).alloc (.cells #[.bool a.neg, .string a.pred, .slice ao1 a.args.length cap1] 90)) = w2 at *
            clear hr1 hc1 hrc1 hrf1 hcc1 hcf1
            obtain ⟨hrc2, hrf2⟩ := hr2.rules
            obtain ⟨hcc2, hcf2⟩ := hc2.rules
            have hz2 := hc2.lt
            have hzr2 := hr2.lt
            go_wp2_with (first | (refine wpList_reslice _ w rfl (.tmp 43) 30 9 (some (.tmp 45)) none rfl Tryz.underlying30 i1 hi1 Tryz.cellsString _ l rfl hv (k + 1) l.length (Or.inr rfl) (Or.inl ⟨rfl, rfl⟩) (by omega) (by omega) (l.length - (k + 1)) rfl ?_; intro ao5 cap5 hv5; rw [List.take_of_length_le (by simp)] at hv5) | (go_at_call 153; refine (rliterals_yes _ _ (l.drop (k + 1)) bd (by exact hv5.below hB2) HNE2.out (by simp; omega) HLS).mono ?_; rintro e w3 ⟨vb, rfl, hl3, hb3⟩; obtain ⟨ao6, cap6, rfl⟩ := hl3.shape; have hr3 := hr2.below hb3; have hc3 := hc2.below hb3; obtain ⟨hrc3, hrf3⟩ := hr3.rules; obtain ⟨hcc3, hcf3⟩ := hc3.rules; have hz3 := hc3.lt; have hzr3 := hr3.lt; have hB3 := bnext hB2 hb3 (Nat.le_refl _); have hsz3 := hB3.size))
            rw [HR.out]
            have hsB := hsA.below hb3
            exact bodyPost_ret (v := .tuple #[.agg #[.bool a.neg, .string a.pred, .slice ao1 a.args.length cap1, .slice ao6 bd.length cap6], .bool true]) (by simp [results, Tryz.results107, go_sem, hrc3]) rfl ⟨(by repeat' (first | (with_reducible exact Below.refl _ _) | (with_reducible assumption) | (with_reducible refine bdrewN ?_ _) | (with_reducible refine Below.alloc ?_ ?_ _) | (with_reducible refine Below.drew ?_) | (with_reducible refine Below.setCell ?_ ?_ _) | go_size)), _, _, rfl, (hsB.but (r := w.heap.size + 1) ((But.refl _ _).setCell _ _) hc3 (by decide)).but (r := w.heap.size) (by repeat' (first | (with_reducible exact But.refl _ _) | (with_reducible assumption) | (with_reducible refine But.drewN ?_ _) | (with_reducible refine But.alloc ?_ _) | (with_reducible refine But.drew ?_) | (with_reducible refine But.setCell ?_ _ _) | (with_reducible refine But.setNew ?_ ?_ _) | go_size)) (hr3.set_ne (by omega) _ _) (by decide), ((hl3.low (by omega)).but (r := w.heap.size + 1) ((But.refl _ _).setCell _ _) hc3 (by decide) (by decide)).but (r := w.heap.size) (by repeat' (first | (with_reducible exact But.refl _ _) | (with_reducible assumption) | (with_reducible refine But.drewN ?_ _) | (with_reducible refine But.alloc ?_ _) | (with_reducible refine But.drew ?_) | (with_reducible refine But.setCell ?_ _ _) | (with_reducible refine But.setNew ?_ ?_ _) | go_size)) (hr3.set_ne (by omega) _ _) (by decide) (by decide)⟩
    · have HK : Hid (ifAt l = k) := by rw [Hid, H.out, List.drop_eq_nil_of_le (by omega)]; rfl
      have HKE : Hid (k = l.length) := by unfold Hid; omega
      clear H
      have HNE : Hid (∀ y ∈ l.take k, 0 < y.size) := fun y hy => hne y (List.mem_of_mem_take hy)
      cases hL : refLit (l.take k) true with
      | none =>
        have HL : Hid (refLit (l.take k) true = none) := hL
        have HR : Hid (refClause l = none) := by unfold Hid refClause; rw [HK.out, hL]
        clear hL
        go_upto_region 7 with (first | (refine wpList_reslice _ w rfl (.tmp 24) 30 9 none (some (.tmp 25)) rfl Tryz.underlying30 i1 hi1 Tryz.cellsString _ l rfl hv 0 k (Or.inl ⟨rfl, rfl⟩) (Or.inr rfl) (by omega) (by omega) k rfl ?_; intro ao2 cap2 hv2; rw [List.drop_zero] at hv2) | (go_at_call 152; refine (rliteral_no _ _ (l.take k) true (by exact hv2.below hW) HNE.out (by simp; omega) HL).mono ?_; rintro e w1 ⟨b1, p1, ao1, n1, cap1, rfl, hb1⟩; have hr1 := hr0.below hb1; have hc1 := hc0.below hb1; obtain ⟨hrc1, hrf1⟩ := hr1.rules; obtain ⟨hcc1, hcf1⟩ := hc1.rules; have hz1 := hc1.lt; have hzr1 := hr1.lt; have hB1 : Below w.heap.size w w1 := bnext hW hb1 (Nat.le_refl _)))
        have hc2 : Box ((((w1.setCell ⟨w.heap.size + 1, 0, none⟩ (.bool b1)).setCell ⟨w.heap.size + 1, 1, none⟩ (.string p1)).setCell ⟨w.heap.size + 1, 2, none⟩ (.slice ao1 n1 cap1)).alloc (.cells #[.bool b1, .string p1, .slice ao1 n1 cap1] 90)) (w.heap.size + 1) #[.bool b1, .string p1, .slice ao1 n1 cap1, .slice none 0 0] 93 := (((hc1.set 0 _).set 1 _).set 2 _).below ((Below.refl _ _).alloc (Nat.le_refl _) _)
        have hr2 : Box ((((w1.setCell ⟨w.heap.size + 1, 0, none⟩ (.bool b1)).setCell ⟨w.heap.size + 1, 1, none⟩ (.string p1)).setCell ⟨w.heap.size + 1, 2, none⟩ (.slice ao1 n1 cap1)).alloc (.cells #[.bool b1, .string p1, .slice ao1 n1 cap1] 90)) w.heap.size #[.bool false, .string { data := #[] }, .slice none 0 0, .slice none 0 0] 93 := (((hr1.set_ne (by omega) _ _).set_ne (by omega) _ _).set_ne (by omega) _ _).below ((Below.refl _ _).alloc (Nat.le_refl _) _)
        have hB2 : Below w.heap.size w ((((w1.setCell ⟨w.heap.size + 1, 0, none⟩ (.bool b1)).setCell ⟨w.heap.size + 1, 1, none⟩ (.string p1)).setCell ⟨w.heap.size + 1, 2, none⟩ (.slice ao1 n1 cap1)).alloc (.cells #[.bool b1, .string p1, .slice ao1 n1 cap1] 90)) := by have hq := hB1.size; exact (by repeat' (first | (with_reducible exact Below.refl _ _) | (with_reducible assumption) | (with_reducible refine bdrewN ?_ _) | (with_reducible refine Below.alloc ?_ ?_ _) | (with_reducible refine Below.drew ?_) | (with_reducible refine Below.setCell ?_ ?_ _) | go_size))
        generalize ((((w1.setCell ⟨w.heap.size + 1, 0, none⟩ (.bool b1)).setCell ⟨w.heap.size + 1, 1, none⟩ (.string p1)).setCell ⟨w.heap.size + 1, 2, none⟩ (.slice ao1 n1 cap1)).alloc (.cells #[.bool b1, .string p1, .slice ao1 n1 cap1] 90)) = w2 at *
        clear hr1 hc1 hrc1 hrf1 hcc1 hcf1
        obtain ⟨hrc2, hrf2⟩ := hr2.rules
        obtain ⟨hcc2, hcf2⟩ := hc2.rules
        have hz2 := hc2.lt
        have hzr2 := hr2.lt
        go_wp2
        rw [HR.out]
        exact bodyPost_ret (v := .tuple #[.agg #[.bool b1, .string p1, .slice ao1 n1 cap1, .slice none 0 0], .bool false]) (by simp [results, Tryz.results107, go_sem, hrc2]) rfl ⟨(by repeat' (first | (with_reducible exact Below.refl _ _) | (with_reducible assumption) | (with_reducible refine bdrewN ?_ _) | (with_reducible refine Below.alloc ?_ ?_ _) | (with_reducible refine Below.drew ?_) | (with_reducible refine Below.setCell ?_ ?_ _) | go_size)), _, _, _, _, _, _, _, _, rfl⟩
      | some a =>
        have HL : Hid (refLit (l.take k) true = some a) := hL
        have HR : Hid (refClause l = some ⟨a, []⟩) := by unfold Hid refClause; rw [HK.out, hL]; simp only []; rw [if_pos HKE.out]
        have hke : ((k : Int) == (l.length : Int)) = true := by rw [beq_iff_eq]; have := HKE.out; omega
        clear hL
        go_upto_region 7 with (first | (refine wpList_reslice _ w rfl (.tmp 24) 30 9 none (some (.tmp 25)) rfl Tryz.underlying30 i1 hi1 Tryz.cellsString _ l rfl hv 0 k (Or.inl ⟨rfl, rfl⟩) (Or.inr rfl) (by omega) (by omega) k rfl ?_; intro ao2 cap2 hv2; rw [List.drop_zero] at hv2) | (go_at_call 152; refine (rliteral_yes _ _ (l.take k) true a (by exact hv2.below hW) HNE.out (by simp; omega) HL).mono ?_; rintro e w1 ⟨va, rfl, hs1, hb1⟩; obtain ⟨ao1, cap1, rfl⟩ := hs1.shape; have hr1 := hr0.below hb1; have hc1 := hc0.below hb1; obtain ⟨hrc1, hrf1⟩ := hr1.rules; obtain ⟨hcc1, hcf1⟩ := hc1.rules; have hz1 := hc1.lt; have hzr1 := hr1.lt; have hB1 : Below w.heap.size w w1 := bnext hW hb1 (Nat.le_refl _)))
        have hc2 : Box ((((w1.setCell ⟨w.heap.size + 1, 0, none⟩ (.bool a.neg)).setCell ⟨w.heap.size + 1, 1, none⟩ (.string a.pred)).setCell ⟨w.heap.size + 1, 2, none⟩ (.slice ao1 a.args.length cap1)).alloc (.cells #[.bool a.neg, .string a.pred, .slice ao1 a.args.length cap1] 90)) (w.heap.size + 1) #[.bool a.neg, .string a.pred, .slice ao1 a.args.length cap1, .slice none 0 0] 93 := (((hc1.set 0 _).set 1 _).set 2 _).below ((Below.refl _ _).alloc (Nat.le_refl _) _)
        have hr2 : Box ((((w1.setCell ⟨w.heap.size + 1, 0, none⟩ (.bool a.neg)).setCell ⟨w.heap.size + 1, 1, none⟩ (.string a.pred)).setCell ⟨w.heap.size + 1, 2, none⟩ (.slice ao1 a.args.length cap1)).alloc (.cells #[.bool a.neg, .string a.pred, .slice ao1 a.args.length cap1] 90)) w.heap.size #[.bool false, .string { data := #[] }, .slice none 0 0, .slice none 0 0] 93 := (((hr1.set_ne (by omega) _ _).set_ne (by omega) _ _).set_ne (by omega) _ _).below ((Below.refl _ _).alloc (Nat.le_refl _) _)
        have hB2 : Below w.heap.size w ((((w1.setCell ⟨w.heap.size + 1, 0, none⟩ (.bool a.neg)).setCell ⟨w.heap.size + 1, 1, none⟩ (.string a.pred)).setCell ⟨w.heap.size + 1, 2, none⟩ (.slice ao1 a.args.length cap1)).alloc (.cells #[.bool a.neg, .string a.pred, .slice ao1 a.args.length cap1] 90)) := by have hq := hB1.size; exact (by repeat' (first | (with_reducible exact Below.refl _ _) | (with_reducible assumption) | (with_reducible refine bdrewN ?_ _) | (with_reducible refine Below.alloc ?_ ?_ _) | (with_reducible refine Below.drew ?_) | (with_reducible refine Below.setCell ?_ ?_ _) | go_size))
        have hsA : SIn w.heap.size ((((w1.setCell ⟨w.heap.size + 1, 0, none⟩ (.bool a.neg)).setCell ⟨w.heap.size + 1, 1, none⟩ (.string a.pred)).setCell ⟨w.heap.size + 1, 2, none⟩ (.slice ao1 a.args.length cap1)).alloc (.cells #[.bool a.neg, .string a.pred, .slice ao1 a.args.length cap1] 90)) (.slice ao1 a.args.length cap1) a.args := ((hs1.low (by simp only [World.size_alloc]; omega)).but (r := w.heap.size + 1) ((((But.refl _ _).setCell _ _).setCell _ _).setCell _ _) hc1 (by decide)).below ((Below.refl _ _).alloc (Nat.le_refl _) _)
        generalize ((((w1.setCell ⟨w.heap.size + 1, 0, none⟩ (.bool a.neg)).setCell ⟨w.heap.size + 1, 1, none⟩ (.string a.pred)).setCell ⟨w.heap.size + 1, 2, none⟩ (.slice ao1 a.args.length cap1)).alloc (.cells #[.bool a.neg, .string a.pred, .slice ao1 a.args.length cap1] 90)) = w2 at *
        clear hr1 hc1 hrc1 hrf1 hcc1 hcf1
        obtain ⟨hrc2, hrf2⟩ := hr2.rules
        obtain ⟨hcc2, hcf2⟩ := hc2.rules
        have hz2 := hc2.lt
        have hzr2 := hr2.lt
        go_wp2
        rw [HR.out]
        exact bodyPost_ret (v := .tuple #[.agg #[.bool a.neg, .string a.pred, .slice ao1 a.args.length cap1, .slice none 0 0], .bool true]) (by simp [results, Tryz.results107, go_sem, hrc2]) rfl ⟨(by repeat' (first | (with_reducible exact Below.refl _ _) | (with_reducible assumption) | (with_reducible refine bdrewN ?_ _) | (with_reducible refine Below.alloc ?_ ?_ _) | (with_reducible refine Below.drew ?_) | (with_reducible refine Below.setCell ?_ ?_ _) | go_size)), _, _, rfl, hsA.but (r := w.heap.size) (by repeat' (first | (with_reducible exact But.refl _ _) | (with_reducible assumption) | (with_reducible refine But.drewN ?_ _) | (with_reducible refine But.alloc ?_ _) | (with_reducible refine But.drew ?_) | (with_reducible refine But.setCell ?_ _ _) | (with_reducible refine But.setNew ?_ ?_ _) | go_size)) hr2 (by decide), LIn.nil _⟩

end Go.Proofs.YteampbddflhngaaGreat

/- Walks: deriveref.Clauses. -/
namespace Go.Proofs.YteampbddflhngaaGreat
open Go.RowKit
variable {lo : Nat}

theorem rclause_no (w : World) (v : Value) (l : List ByteArray) (hv : SV w v l) (hne : ∀ y ∈ l, 0 < y.size) (hl : l.length ≤ 500) (h : refClause l = none) :
    Calls Tryz.prog 107 #[v] w fun e w' => ∃ b p ao n cap ao2 n2 cap2, e = .returned (.tuple #[.agg #[.bool b, .string p, .slice ao n cap, .slice ao2 n2 cap2], .bool false]) ∧ Below w.heap.size w w' := by
  refine (rclause_any w v l hv hne hl).mono ?_
  rintro e w' ⟨h1, h2⟩
  rw [h] at h2
  obtain ⟨b, p, ao, n, cap, ao2, n2, cap2, h3⟩ := h2
  exact ⟨b, p, ao, n, cap, ao2, n2, cap2, h3, h1⟩
theorem rclause_yes (w : World) (v : Value) (l : List ByteArray) (c : PClause) (hv : SV w v l) (hne : ∀ y ∈ l, 0 < y.size) (hl : l.length ≤ 500) (h : refClause l = some c) :
    Calls Tryz.prog 107 #[v] w fun e w' => ∃ va vb, e = .returned (.tuple #[.agg #[.bool c.head.neg, .string c.head.pred, va, vb], .bool true]) ∧ SIn w.heap.size w' va c.head.args ∧ LIn w.heap.size w' vb c.body ∧ Below w.heap.size w w' := by
  refine (rclause_any w v l hv hne hl).mono ?_
  rintro e w' ⟨h1, h2⟩
  rw [h] at h2
  obtain ⟨va, vb, a, b, c⟩ := h2
  exact ⟨va, vb, a, b, c, h1⟩
theorem Tryz.infoRClause : (Tryz.prog.info? 93).map (fun i => (i.zero, i.size, i.bytes)) = some (some (.agg #[.bool false, .string ByteArray.empty, .slice none 0 0, .slice none 0 0]), 4, 72) := by kernel_rfl
def RClsPost (o : Option (List PClause)) (w : World) (e : Ending) (w' : World) : Prop :=
  Below w.heap.size w w' ∧ match o with
    | none => ∃ ao n cap, e = .returned (.tuple #[.slice ao n cap, .bool false])
    | some cs => ∃ v, e = .returned (.tuple #[v, .bool true]) ∧ CIn w.heap.size 93 w' v cs
theorem rclsPost_no {o : Option (List PClause)} {w w' : World} {ao : Option Addr} {n cap : Nat} (h : Hid (o = none)) (hb : Below w.heap.size w w') : RClsPost o w (.returned (.tuple #[.slice ao n cap, .bool false])) w' := by
  have h' : o = none := h
  subst h'; exact ⟨hb, ao, n, cap, rfl⟩
theorem rclsPost_yes {o : Option (List PClause)} {w w' : World} {v : Value} {cs : List PClause} (h : Hid (o = some cs)) (hb : Below w.heap.size w w') (hs : CIn w.heap.size 93 w' v cs) : RClsPost o w (.returned (.tuple #[v, .bool true])) w' := by
  have h' : o = some cs := h
  subst h'; exact ⟨hb, v, rfl, hs⟩

set_option maxRecDepth 100000 in
set_option maxHeartbeats 2000000 in
theorem rclauses_any (w : World) (v : Value) (l : List ByteArray) (hv : SV w v l) (hne : ∀ y ∈ l, 0 < y.size) (hl : l.length ≤ 500) :
    Calls Tryz.prog 66 #[v] w fun e w' => RClsPost (refProg l) w e w' := by
  obtain ⟨i0, hi, hz0, hzs, hzb⟩ := info_parts Tryz.infoRClause
  obtain ⟨i1, hi1, _, _, _⟩ := info_parts Tryz.infoString
  obtain ⟨ao, cap, rfl⟩ := hv.shape
  go_enter Tryz.func66, Tryz.ntmps66
  go_wp2
  go_loopw [4, 5, 6] (fun v4 v5 v6 wr => ∃ (acc : List PClause) (fr k m : Nat) (xs : List Value), v5 = .int .i64 fr ∧ v6 = .int .i64 k ∧ fr ≤ k ∧ m + k = l.length ∧ acc.length ≤ k ∧ Below w.heap.size w wr ∧ wr.ownsRow w.heap.size 93 4 v4 acc.length xs ∧ ClCells w.heap.size wr acc xs ∧ Hid (refProg l = (refCls l m fr k).map (acc ++ ·))) (fun _ _ i _ => l.length - (intOf i).toNat)
  case atStart => exact ⟨[], 0, 0, l.length, [], rfl, rfl, Nat.le_refl _, rfl, by simp, Below.refl _ _, World.ownsRow_nil _ _ _ _, rfl, (by simp [Hid, refProg])⟩
  case round =>
    obtain ⟨acc, fr, k, m, xs, rfl, rfl, hfk, hmk, hacc, hbk, hown, hlc, H⟩ := hrel
    have hszk := hbk.size
    by_cases hlt : k < l.length
    · obtain ⟨m, rfl⟩ : ∃ m', m = m' + 1 := ⟨m - 1, by omega⟩
      obtain ⟨b, o, rfl, hblt, hck⟩ := hv.cell k hlt
      have hxk := (hbk.cell (p := ⟨b, o + k, none⟩) hblt).trans hck
      have hbr : b < wr.heap.size := by omega
      rw [gB_lt hlt] at hxk
      clear hck
      cases h46 : ((gB l k).toList == [46]) with
      | false =>
        have H2 : Hid (refProg l = (refCls l m fr (k + 1)).map (acc ++ ·)) := by rw [Hid, H.out, refCls, h46]; rfl
        clear H
        generalize gB l k = x at *
        go_wp2
        go_roundw
        case rel => exact ⟨acc, fr, k + 1, m, xs, rfl, by go_num, by omega, by omega, by omega, hbk, hown, hlc, H2⟩
        case measure => simp [intOf]; omega
      | true =>
        have HNE : Hid (∀ y ∈ (l.drop fr).take (k - fr), 0 < y.size) := fun y hy => hne y (List.mem_of_mem_drop (List.mem_of_mem_take hy))
        cases hL : refClause ((l.drop fr).take (k - fr)) with
        | none =>
          have HL : Hid (refClause ((l.drop fr).take (k - fr)) = none) := hL
          have HF : Hid (refProg l = none) := by rw [Hid, H.out, refCls, h46, if_pos rfl, hL]; rfl
          clear H hL
          generalize gB l k = x at *
          go_wp2_with (first | (refine wpList_reslice _ w rfl (.tmp 21) 30 9 (some (.tmp 22)) (some (.tmp 23)) rfl Tryz.underlying30 i1 hi1 Tryz.cellsString _ l rfl hv fr k (Or.inr rfl) (Or.inr rfl) (by omega) (by omega) (k - fr) rfl ?_; intro ao2 cap2 hv2) | (go_at_call 107; refine (rclause_no _ _ ((l.drop fr).take (k - fr)) (by exact hv2.below hbk) HNE.out (by simp; omega) HL).mono ?_; rintro e w1 ⟨b1, p1, ao1, n1, cap1, ao3, n3, cap3, rfl, hb1⟩; have hB1 := bnext hbk hb1 (Nat.le_refl _); have hz1 := hB1.size))
          go_ret2
          exact rclsPost_no HF (by repeat' (first | (with_reducible exact Below.refl _ _) | (with_reducible assumption) | (with_reducible refine bdrewN ?_ _) | (with_reducible refine Below.alloc ?_ ?_ _) | (with_reducible refine Below.drew ?_) | (with_reducible refine Below.setCell ?_ ?_ _) | go_size))
        | some c =>
          have HL : Hid (refClause ((l.drop fr).take (k - fr)) = some c) := hL
          have H2 : Hid (refProg l = (refCls l m (k + 1) (k + 1)).map ((acc ++ [c]) ++ ·)) := by rw [Hid, H.out, refCls, h46, if_pos rfl, hL]; simp only []; rw [map_snoc]
          clear H hL
          generalize gB l k = x at *
          go_wp2_with (first | (refine wpList_reslice _ w rfl (.tmp 21) 30 9 (some (.tmp 22)) (some (.tmp 23)) rfl Tryz.underlying30 i1 hi1 Tryz.cellsString _ l rfl hv fr k (Or.inr rfl) (Or.inr rfl) (by omega) (by omega) (k - fr) rfl ?_; intro ao2 cap2 hv2) | (go_at_call 107; refine (rclause_yes _ _ ((l.drop fr).take (k - fr)) c (by exact hv2.below hbk) HNE.out (by simp; omega) HL).mono ?_; rintro e w1 ⟨va, vb, rfl, hs1, hl1, hb1⟩; obtain ⟨ao3, cap3, rfl⟩ := hs1.shape; obtain ⟨ao4, cap4, rfl⟩ := hl1.shape; have hB1 := bnext hbk hb1 (Nat.le_refl _); have hz1 := hB1.size; have ho1 := owns_below hown hb1; have hlc1 := hlc.mono (fun _ _ q => q.below hb1) (fun _ _ q => q.below hb1)) | (at_builtin; refine wpList_push w1 _ _ _ rfl (.tmp 30) (.tmp 32) 43 rfl w.heap.size 93 i0 _ 4 72 Tryz.underlying43 hi hz0 hzs hzb rfl (by decide) _ _ _ rfl ho1 ((Below.refl _ _).alloc (Nat.le_refl _) _) _ _ rfl (by simp) rfl (by simp [Value.oneCell']) (by omega) (by omega) hz1 ?_; intro v' w2 ho2 hB2 hc2 hf2 hk2 hz2'; clear hc2 hf2; have hs2 : SIn w.heap.size w2 (Value.slice ao3 c.head.args.length cap3) c.head.args := own_low (own_push ho1 (by decide) hs1 hk2) hbk.size; have hl2 := (hl1.push ho1 (by decide) (by decide) hk2).low hbk.size; have hlc2 := hlc1.mono (fun _ _ q => own_push ho1 (by decide) q hk2) (fun _ _ q => q.push ho1 (by decide) (by decide) hk2)))
          go_roundw
          case rel => exact ⟨acc ++ [c], k + 1, k + 1, m, _, by go_num, by go_num, Nat.le_refl _, by omega, by simp; omega, hB1.trans hB2, by rw [List.length_append]; exact ho2, hlc2.snoc hs2 hl2, H2⟩
          case measure => simp [intOf]; omega
    · have hm0 : m = 0 := by omega
      obtain ⟨ao3, cap3, rfl⟩ := own_view hown
      by_cases hfe : fr = l.length
      · have HF : Hid (refProg l = some acc) := by rw [Hid, H.out, hm0, refCls, if_pos hfe]; simp
        have hbq : ((fr : Int) == (l.length : Int)) = true := by rw [beq_iff_eq]; omega
        clear H
        go_wp2
        go_ret2
        exact rclsPost_yes HF hbk ⟨_, hown, hlc⟩
      · have HF : Hid (refProg l = none) := by rw [Hid, H.out, hm0, refCls, if_neg hfe]; rfl
        have hbq : ((fr : Int) == (l.length : Int)) = false := by rw [beq_eq_false_iff_ne]; omega
        clear H
        go_wp2
        go_ret2
        exact rclsPost_no HF hbk
end Go.Proofs.YteampbddflhngaaGreat
