import Derived.Test.YteampbddflhngaaGreatP16
import Derived.Test.YteampbddflhngaaGreatP15
import Derived.Test.YteampbddflhngaaGreatP18

/- Walks: derivelaw.sameTexts, derivelaw.pick, derivelaw.said. -/
namespace Go.Proofs.YteampbddflhngaaGreat
open Go.RowKit
variable {lo : Nat}

set_option maxRecDepth 100000 in
set_option maxHeartbeats 2000000 in
theorem sameTexts_any (w : World) (va vb : Value) (l : List ByteArray) (ha : SIn lo w va l) {lo2 : Nat} (hb : SIn lo2 w vb l) (hl : l.length ≤ 281474976710656) :
    Calls Tryz.prog 44 #[va, vb] w fun e w' => e = .returned (.bool true) ∧ Below w.heap.size w w' := by
  obtain ⟨ao, cap, rfl⟩ := ha.shape
  obtain ⟨ao2, cap2, rfl⟩ := hb.shape
  go_enter Tryz.func44, Tryz.ntmps44
  go_wp2
  go_loopw [5] (fun i wr => ∃ k : Nat, k ≤ l.length ∧ i = .int .i64 k ∧ Below w.heap.size w wr) (fun i _ => l.length - (intOf i).toNat)
  case atStart => exact ⟨0, Nat.zero_le _, rfl, Below.refl _ _⟩
  case round =>
    obtain ⟨k, hk, rfl, hbk⟩ := hrel
    have hszk := hbk.size
    by_cases hlt : k < l.length
    · obtain ⟨g, rfl, hg, hck⟩ := ha.cell k hlt
      obtain ⟨g2, rfl, hg2, hck2⟩ := hb.cell k hlt
      have hxk := (hbk.cell (p := ⟨g, k, none⟩) hg).trans hck
      have hxk2 := (hbk.cell (p := ⟨g2, k, none⟩) hg2).trans hck2
      have hgr : g < wr.heap.size := by omega
      have hgr2 : g2 < wr.heap.size := by omega
      have he := seq_true (rfl : l[k] = l[k])
      clear hck hck2
      generalize l[k] = x at *
      go_wp2
      go_quiet (fail)
      go_wp2
      go_roundw
      case rel => exact ⟨k + 1, by omega, by go_num, bdrewN hbk _⟩
      case measure => simp [intOf]; omega
    · go_wp2
      go_ret
      exact ⟨rfl, hbk⟩

set_option maxRecDepth 100000 in
set_option maxHeartbeats 2000000 in
theorem pick_any (w : World) (c : Int) (n : Nat) (hn : 0 < n) (hn2 : n ≤ 281474976710656) (hc : -9223372036854775808 ≤ c ∧ c ≤ 9223372036854775807) :
    Calls Tryz.prog 95 #[.int .i64 c, .int .i64 n] w fun e w' => ∃ k : Nat, k < n ∧ e = .returned (.int .i64 k) ∧ w' = w := by
  obtain ⟨hc1, hc2⟩ := hc
  by_cases h0 : c < 0
  · have e : -(c + 1).tmod (n : Int) = (((-(c + 1)).toNat % n : Nat) : Int) := by
      rw [← Int.neg_tmod, Int.tmod_eq_emod_of_nonneg (by omega), Int.natCast_emod, Int.toNat_of_nonneg (by omega)]
    have HE : Hid (-(c + 1).tmod (n : Int) = (((-(c + 1)).toNat % n : Nat) : Int)) := e
    clear e
    go_enter Tryz.func95, Tryz.ntmps95
    go_wp2
    exact bodyPost_ret (v := .int .i64 (-(c + 1).tmod (n : Int))) (by simp [results, Tryz.results95, go_sem]) rfl ⟨_, Nat.mod_lt _ hn, by rw [HE.out], rfl⟩
  · have e : c % (n : Int) = ((c.toNat % n : Nat) : Int) := by rw [Int.natCast_emod, Int.toNat_of_nonneg (by omega)]
    have HE : Hid (c % (n : Int) = ((c.toNat % n : Nat) : Int)) := e
    clear e
    go_enter Tryz.func95, Tryz.ntmps95
    go_wp2
    exact bodyPost_ret (v := .int .i64 (c % (n : Int))) (by simp [results, Tryz.results95, go_sem]) rfl ⟨_, Nat.mod_lt _ hn, by rw [HE.out], rfl⟩

/-- Said: a literal's text again, as the law writes it. -/
theorem joinT_pos : ∀ {l : List ByteArray}, (∀ t ∈ l, 0 < t.size) → l ≠ [] → 0 < (joinT l).size
  | [], _, h => absurd rfl h
  | [t], h, _ => h t (by simp)
  | t :: u :: r, h, _ => by
    have := h t (by simp)
    show 0 < (t ++ bComma ++ joinT (u :: r)).size
    rw [ByteArray.size_append, ByteArray.size_append]; omega
theorem bne_empty {s : ByteArray} (h : 0 < s.size) : (s.toList == []) = false := by
  rw [bytes_toList, beq_eq_false_iff_ne]; intro h2
  have : s.data.toList.length = s.size := Array.length_toList
  rw [h2] at this; simp at this; omega

set_option maxRecDepth 100000 in
set_option maxHeartbeats 2000000 in
theorem said_any (w : World) (l : PLit) (va : Value) (hs : SIn lo w va l.args) (hf : LitFine l) :
    Calls Tryz.prog 46 #[.agg #[.bool l.neg, .string l.pred, va]] w fun e w' => e = .returned (.string (litT l)) ∧ Below w.heap.size w w' := by
  obtain ⟨ao, cap, rfl⟩ := hs.shape
  obtain ⟨h1, h2, h3, h4⟩ := hf
  have H4 : Hid (∀ t ∈ l.args, 0 < t.size ∧ t.size ≤ 6) := h4
  have hb1 : bBang.size = 1 := rfl
  clear h4
  cases hn : l.neg with
  | true =>
    have hps : predT l = bBang ++ l.pred := by unfold predT; rw [hn]; rfl
    have hpz : (bBang ++ l.pred).size ≤ 7 := by rw [← hps]; exact predT_size h1
    have HLT : Hid (litT l = if l.args.length = 0 then bBang ++ l.pred else bBang ++ l.pred ++ bOpen ++ joinT l.args ++ bShut) := by rw [Hid, ← hps]; rfl
    clear hps hn
    go_enter Tryz.func46, Tryz.ntmps46
    go_wp2
    go_loopw [4, 5] (fun v4 v5 wr => ∃ (k : Nat) (s : ByteArray), k ≤ l.args.length ∧ v5 = .int .i64 k ∧ v4 = .string s ∧ s.size ≤ 8 * k ∧ Hid (s = joinT (l.args.take k)) ∧ Below w.heap.size w wr ∧ Box wr w.heap.size #[.bool true, .string l.pred, .slice ao l.args.length cap] 90) (fun _ i _ => l.args.length - (intOf i).toNat)
    case atStart => exact ⟨0, _, Nat.zero_le _, rfl, rfl, Nat.le_refl _, rfl, (by repeat' (first | (with_reducible exact Below.refl _ _) | (with_reducible assumption) | (with_reducible refine bdrewN ?_ _) | (with_reducible refine Below.alloc ?_ ?_ _) | (with_reducible refine Below.drew ?_) | (with_reducible refine Below.setCell ?_ ?_ _) | go_size)), Box.new _ _ _⟩
    case round =>
      obtain ⟨k, s, hk, rfl, rfl, hsz, H, hbk, hbx⟩ := hrel
      have hszk := hbk.size
      obtain ⟨hc, hfz⟩ := hbx.rules
      have hbl := hbx.lt
      by_cases hlt : k < l.args.length
      · obtain ⟨g, rfl, hg, hck⟩ := hs.cell k hlt
        have hxk := (hbk.cell (p := ⟨g, k, none⟩) hg).trans hck
        have hgr : g < wr.heap.size := by omega
        have HJ := joinT_take hlt
        have hx6 := (H4.out _ (List.getElem_mem hlt)).2
        clear hck
        generalize l.args[k] = x at *
        by_cases h0 : k = 0
        · have hse : s = ByteArray.empty := by rw [H.out, h0]; rfl
          have HN : Hid (s ++ x = joinT (l.args.take (k + 1))) := by rw [Hid, HJ, if_pos h0, hse]; simp
          have hsl : (s.toList == []) = true := by rw [hse, bytes_toList]; rfl
          subst h0
          clear HJ H hse
          go_wp2
          go_roundw
          case rel => exact ⟨1, s ++ x, by omega, by go_num, rfl, (by rw [ByteArray.size_append]; omega), HN, (by repeat' (first | (with_reducible exact Below.refl _ _) | (with_reducible assumption) | (with_reducible refine bdrewN ?_ _) | (with_reducible refine Below.alloc ?_ ?_ _) | (with_reducible refine Below.drew ?_) | (with_reducible refine Below.setCell ?_ ?_ _) | go_size)), hbx⟩
          case measure => simp [intOf]; omega
        · have HN : Hid (s ++ bComma ++ x = joinT (l.args.take (k + 1))) := by rw [Hid, HJ, if_neg h0, H.out]
          have hsp : 0 < s.size := by
            rw [H.out]
            refine joinT_pos (fun t ht => (H4.out t (List.mem_of_mem_take ht)).1) ?_
            intro h; have := congrArg List.length h; rw [List.length_take, List.length_nil] at this; omega
          have hsl := bne_empty hsp
          have hc2 : bComma.size = 2 := rfl
          have hs2 : (s ++ bComma).size = s.size + 2 := by rw [ByteArray.size_append, hc2]
          clear HJ H
          go_wp2
          go_roundw
          case rel => exact ⟨k + 1, s ++ bComma ++ x, by omega, by go_num, rfl, (by rw [ByteArray.size_append]; omega), HN, (by repeat' (first | (with_reducible exact Below.refl _ _) | (with_reducible assumption) | (with_reducible refine bdrewN ?_ _) | (with_reducible refine Below.alloc ?_ ?_ _) | (with_reducible refine Below.drew ?_) | (with_reducible refine Below.setCell ?_ ?_ _) | go_size)), hbx⟩
          case measure => simp [intOf]; omega
      · have hse : s = joinT l.args := by rw [H.out, List.take_of_length_le (by omega)]
        by_cases h0 : l.args.length = 0
        · have hsl : (s.toList == []) = true := by
            have e : l.args = [] := List.eq_nil_of_length_eq_zero h0
            rw [hse, e, joinT, bytes_toList]; rfl
          have HR : Hid (litT l = bBang ++ l.pred) := by rw [Hid, HLT.out, if_pos h0]
          clear HLT H hse
          go_wp2
          go_ret
          exact ⟨by rw [HR.out]; rfl, hbk⟩
        · have hsp : 0 < s.size := by
            rw [hse]
            exact joinT_pos (fun t ht => (H4.out t ht).1) (fun e => h0 (by rw [e]; rfl))
          have hsl := bne_empty hsp
          have HR : Hid (litT l = bBang ++ l.pred ++ bOpen ++ s ++ bShut) := by rw [Hid, HLT.out, if_neg h0, hse]
          have hb2 : bOpen.size = 1 := rfl
          have hb3 : bShut.size = 1 := rfl
          have hq1 : (bBang ++ l.pred ++ bOpen).size ≤ 8 := by rw [ByteArray.size_append]; omega
          have hq2 : (bBang ++ l.pred ++ bOpen ++ s).size ≤ 8 + 8 * k := by rw [ByteArray.size_append]; omega
          clear HLT H hse
          go_wp2
          go_ret
          exact ⟨by rw [HR.out]; rfl, hbk⟩
  | false =>
    have hps : predT l = l.pred := by unfold predT; rw [hn]; rfl
    have hpz : (l.pred).size ≤ 7 := by rw [← hps]; exact predT_size h1
    have HLT : Hid (litT l = if l.args.length = 0 then l.pred else l.pred ++ bOpen ++ joinT l.args ++ bShut) := by rw [Hid, ← hps]; rfl
    clear hps hn
    go_enter Tryz.func46, Tryz.ntmps46
    go_wp2
    go_loopw [4, 5] (fun v4 v5 wr => ∃ (k : Nat) (s : ByteArray), k ≤ l.args.length ∧ v5 = .int .i64 k ∧ v4 = .string s ∧ s.size ≤ 8 * k ∧ Hid (s = joinT (l.args.take k)) ∧ Below w.heap.size w wr ∧ Box wr w.heap.size #[.bool false, .string l.pred, .slice ao l.args.length cap] 90) (fun _ i _ => l.args.length - (intOf i).toNat)
    case atStart => exact ⟨0, _, Nat.zero_le _, rfl, rfl, Nat.le_refl _, rfl, (by repeat' (first | (with_reducible exact Below.refl _ _) | (with_reducible assumption) | (with_reducible refine bdrewN ?_ _) | (with_reducible refine Below.alloc ?_ ?_ _) | (with_reducible refine Below.drew ?_) | (with_reducible refine Below.setCell ?_ ?_ _) | go_size)), Box.new _ _ _⟩
    case round =>
      obtain ⟨k, s, hk, rfl, rfl, hsz, H, hbk, hbx⟩ := hrel
      have hszk := hbk.size
      obtain ⟨hc, hfz⟩ := hbx.rules
      have hbl := hbx.lt
      by_cases hlt : k < l.args.length
      · obtain ⟨g, rfl, hg, hck⟩ := hs.cell k hlt
        have hxk := (hbk.cell (p := ⟨g, k, none⟩) hg).trans hck
        have hgr : g < wr.heap.size := by omega
        have HJ := joinT_take hlt
        have hx6 := (H4.out _ (List.getElem_mem hlt)).2
        clear hck
        generalize l.args[k] = x at *
        by_cases h0 : k = 0
        · have hse : s = ByteArray.empty := by rw [H.out, h0]; rfl
          have HN : Hid (s ++ x = joinT (l.args.take (k + 1))) := by rw [Hid, HJ, if_pos h0, hse]; simp
          have hsl : (s.toList == []) = true := by rw [hse, bytes_toList]; rfl
          subst h0
          clear HJ H hse
          go_wp2
          go_roundw
          case rel => exact ⟨1, s ++ x, by omega, by go_num, rfl, (by rw [ByteArray.size_append]; omega), HN, (by repeat' (first | (with_reducible exact Below.refl _ _) | (with_reducible assumption) | (with_reducible refine bdrewN ?_ _) | (with_reducible refine Below.alloc ?_ ?_ _) | (with_reducible refine Below.drew ?_) | (with_reducible refine Below.setCell ?_ ?_ _) | go_size)), hbx⟩
          case measure => simp [intOf]; omega
        · have HN : Hid (s ++ bComma ++ x = joinT (l.args.take (k + 1))) := by rw [Hid, HJ, if_neg h0, H.out]
          have hsp : 0 < s.size := by
            rw [H.out]
            refine joinT_pos (fun t ht => (H4.out t (List.mem_of_mem_take ht)).1) ?_
            intro h; have := congrArg List.length h; rw [List.length_take, List.length_nil] at this; omega
          have hsl := bne_empty hsp
          have hc2 : bComma.size = 2 := rfl
          have hs2 : (s ++ bComma).size = s.size + 2 := by rw [ByteArray.size_append, hc2]
          clear HJ H
          go_wp2
          go_roundw
          case rel => exact ⟨k + 1, s ++ bComma ++ x, by omega, by go_num, rfl, (by rw [ByteArray.size_append]; omega), HN, (by repeat' (first | (with_reducible exact Below.refl _ _) | (with_reducible assumption) | (with_reducible refine bdrewN ?_ _) | (with_reducible refine Below.alloc ?_ ?_ _) | (with_reducible refine Below.drew ?_) | (with_reducible refine Below.setCell ?_ ?_ _) | go_size)), hbx⟩
          case measure => simp [intOf]; omega
      · have hse : s = joinT l.args := by rw [H.out, List.take_of_length_le (by omega)]
        by_cases h0 : l.args.length = 0
        · have hsl : (s.toList == []) = true := by
            have e : l.args = [] := List.eq_nil_of_length_eq_zero h0
            rw [hse, e, joinT, bytes_toList]; rfl
          have HR : Hid (litT l = l.pred) := by rw [Hid, HLT.out, if_pos h0]
          clear HLT H hse
          go_wp2
          go_ret
          exact ⟨by rw [HR.out]; rfl, hbk⟩
        · have hsp : 0 < s.size := by
            rw [hse]
            exact joinT_pos (fun t ht => (H4.out t ht).1) (fun e => h0 (by rw [e]; rfl))
          have hsl := bne_empty hsp
          have HR : Hid (litT l = l.pred ++ bOpen ++ s ++ bShut) := by rw [Hid, HLT.out, if_neg h0, hse]
          have hb2 : bOpen.size = 1 := rfl
          have hb3 : bShut.size = 1 := rfl
          have hq1 : (l.pred ++ bOpen).size ≤ 8 := by rw [ByteArray.size_append]; omega
          have hq2 : (l.pred ++ bOpen ++ s).size ≤ 8 + 8 * k := by rw [ByteArray.size_append]; omega
          clear HLT H hse
          go_wp2
          go_ret
          exact ⟨by rw [HR.out]; rfl, hbk⟩
end Go.Proofs.YteampbddflhngaaGreat

/- Walks: derivelaw.printed. -/
namespace Go.Proofs.YteampbddflhngaaGreat
open Go.RowKit
variable {lo : Nat}

theorem litT_pos {l : PLit} (h : LitFine l) : 0 < (litT l).size := by
  obtain ⟨_, h2, _, _⟩ := h
  have hp : 0 < (predT l).size := by
    unfold predT; split
    · rw [ByteArray.size_append]; omega
    · exact h2
  unfold litT; split
  · exact hp
  · rw [ByteArray.size_append, ByteArray.size_append, ByteArray.size_append]; omega
def bDotLine : ByteArray := ⟨#[46, 10]⟩
theorem dotLine : bDot ++ bLine = bDotLine := by decide
theorem textT_step {cs : List PClause} {k : Nat} (hk : k < cs.length) : textT (cs.take (k + 1)) = textT (cs.take k) ++ litT cs[k].head ++ bodyT cs[k].body ++ bDotLine := by
  rw [textT_take hk, clT, ← dotLine]; simp only [ByteArray.append_assoc]
theorem RProg.below {w w' : World} {pb : Nat} {cs : List PClause} {t : List PEnt} (h : RProg lo w pb cs t) (hb : Below w.heap.size w w') : RProg lo w' pb cs t := by
  obtain ⟨h0, cv, pv, kv, h1, h2, h3, h4⟩ := h; exact ⟨h0, cv, pv, kv, h1.below hb, h2.below hb, h3.below hb, owns_below h4 hb⟩

set_option maxRecDepth 100000 in
set_option maxHeartbeats 4000000 in
theorem printed_any (w : World) (pb mb : Nat) (cs : List PClause) (t : List PEnt) (hp : PProg lo w pb cs t) {lo2 : Nat} (hm : RProg lo2 w mb cs t) (hl : cs.length ≤ 1000) (hf : ∀ c ∈ cs, ClFine c) :
    Calls Tryz.prog 22 #[.agg #[.pointer (some ⟨pb, 0, none⟩), .pointer (some ⟨mb, 0, none⟩)]] w fun e w' => e = .returned (.bool true) ∧ Below w.heap.size w w' := by
  have HP : Hid (PProg lo w pb cs t) := hp
  obtain ⟨_, cv, pv, kv, hbm, hcin, _, _⟩ := hm
  obtain ⟨ao, cap, rfl⟩ := hcin.shape
  have HF : Hid (∀ c ∈ cs, ClFine c) := hf
  clear hf hp
  go_enter Tryz.func22, Tryz.ntmps22
  go_wp2
  go_loopw [3, 4] (fun v3 v4 wr => ∃ (k : Nat) (s : ByteArray), k ≤ cs.length ∧ v4 = .int .i64 k ∧ v3 = .string s ∧ s.size ≤ 10000000 * k ∧ Hid (s = textT (cs.take k)) ∧ Below w.heap.size w wr ∧ Box wr w.heap.size #[.pointer (some ⟨pb, 0, none⟩), .pointer (some ⟨mb, 0, none⟩)] 40) (fun _ i _ => cs.length - (intOf i).toNat)
  case atStart => exact ⟨0, _, Nat.zero_le _, rfl, rfl, Nat.le_refl _, rfl, (by repeat' (first | (with_reducible exact Below.refl _ _) | (with_reducible assumption) | (with_reducible refine bdrewN ?_ _) | (with_reducible refine Below.alloc ?_ ?_ _) | (with_reducible refine Below.drew ?_) | (with_reducible refine Below.setCell ?_ ?_ _) | go_size)), Box.new _ _ _⟩
  case round =>
    obtain ⟨k, s, hk, rfl, rfl, hsz, H, hbk, hbx⟩ := hrel
    have hszk := hbk.size
    obtain ⟨hc, hfz⟩ := hbx.rules
    have hbl := hbx.lt
    have hbmr := hbm.below hbk
    obtain ⟨hmc, hmf⟩ := hbmr.rules
    have hml := hbmr.lt
    by_cases hlt : k < cs.length
    · obtain ⟨g, ao2, cap2, ao3, cap3, rfl, hg, hd0, hd1, hd2, hd3, hsk, hlk⟩ := hcin.cell k hlt
      have he0 := (hbk.cell (p := ⟨g, k * 4, none⟩) hg).trans hd0
      have he1 := (hbk.cell (p := ⟨g, k * 4 + 1, none⟩) hg).trans hd1
      have he2 := (hbk.cell (p := ⟨g, k * 4 + 2, none⟩) hg).trans hd2
      have he3 := (hbk.cell (p := ⟨g, k * 4 + 3, none⟩) hg).trans hd3
      have hgr : g < wr.heap.size := by omega
      have HJ := textT_step hlt
      have hfc := HF.out _ (List.getElem_mem hlt)
      have hskr := hsk.below hbk
      have hlkr := hlk.below hbk
      clear hd0 hd1 hd2 hd3 hsk hlk
      generalize cs[k] = c at *
      obtain ⟨hfl, hbl2⟩ := hfc
      have HFL : Hid (∀ l ∈ litsOf c, LitFine l) := hfl
      have hfh := hfl c.head (by simp [litsOf])
      have hhz := litT_size hfh
      have hhl := hfh.2.2.1
      have HH : Hid (∀ W, Below wr.heap.size wr W → Calls Tryz.prog 46 #[.agg #[.bool c.head.neg, .string c.head.pred, .slice ao2 c.head.args.length cap2]] W fun e w' => e = .returned (.string (litT c.head)) ∧ Below W.heap.size W w') := fun W hW => said_any W c.head _ (hskr.below hW) hfh
      clear hfl hfh hskr
      have HN : Hid (∀ b, b = bodyT c.body → s ++ litT c.head ++ b ++ bDotLine = textT (cs.take (k + 1))) := fun b hb => by rw [hb, HJ, H.out]
      clear HJ H
      generalize litT c.head = th at *
      obtain ⟨w4, rfl⟩ : ∃ w4, w4 = wr := ⟨wr, rfl⟩
      go_wp2_with (first | (go_at_call 46; refine (HH.out _ (by exact (by repeat' (first | (with_reducible exact Below.refl _ _) | (with_reducible assumption) | (with_reducible refine bdrewN ?_ _) | (with_reducible refine Below.alloc ?_ ?_ _) | (with_reducible refine Below.drew ?_) | (with_reducible refine Below.setCell ?_ ?_ _) | go_size)))).mono ?_; rintro e w5 ⟨rfl, hb5⟩; have hcb5 := (Box.new w4 #[.bool c.head.neg, .string c.head.pred, .slice ao2 c.head.args.length cap2, .slice ao3 c.body.length cap3] 93).below hb5; have hB5 := bnext ((Below.refl w4.heap.size w4).alloc (Nat.le_refl _) (.cells #[.bool c.head.neg, .string c.head.pred, .slice ao2 c.head.args.length cap2, .slice ao3 c.body.length cap3] 93)) hb5 (Nat.le_refl _)))
      go_loopw [7, 8] (fun v7 v8 wj => ∃ (j : Nat) (b : ByteArray), j ≤ c.body.length ∧ v8 = .int .i64 j ∧ v7 = .string b ∧ b.size ≤ 8011 * j ∧ Hid (b = joinT ((c.body.take j).map litT)) ∧ Below w4.heap.size w4 wj ∧ Box wj w4.heap.size #[.bool c.head.neg, .string c.head.pred, .slice ao2 c.head.args.length cap2, .slice ao3 c.body.length cap3] 93) (fun _ i _ => c.body.length - (intOf i).toNat)
      case atStart => exact ⟨0, _, Nat.zero_le _, rfl, rfl, Nat.le_refl _, rfl, hB5, hcb5⟩
      case round =>
        clear hc hfz hmc hmf
        obtain ⟨j, b, hj, rfl, rfl, hbz, HB, hbj, hcbj⟩ := hrel
        have hszj := hbj.size
        obtain ⟨hcc, hcf⟩ := hcbj.rules
        have hcl := hcbj.lt
        by_cases hjl : j < c.body.length
        · obtain ⟨gl, aol, capl, hvl, hgl, hl0, hl1, hl2, hsl⟩ := hlkr.cell j hjl
          subst hvl
          have hf0 := (hbj.cell (p := ⟨gl, j * 3, none⟩) hgl).trans hl0
          have hf1 := (hbj.cell (p := ⟨gl, j * 3 + 1, none⟩) hgl).trans hl1
          have hf2 := (hbj.cell (p := ⟨gl, j * 3 + 2, none⟩) hgl).trans hl2
          have hglr : gl < wr.heap.size := by omega
          have HJ2 := joinT_take (l := c.body.map litT) (k := j) (by simpa using hjl)
          rw [← List.map_take, ← List.map_take] at HJ2
          simp only [List.getElem_map] at HJ2
          have hfa := HFL.out c.body[j] (by simp [litsOf])
          have hslr := hsl.below hbj
          clear hl0 hl1 hl2 hsl
          generalize c.body[j] = a at *
          have haz := litT_size hfa
          have hal := hfa.2.2.1
          have HA : Hid (∀ W, Below wr.heap.size wr W → Calls Tryz.prog 46 #[.agg #[.bool a.neg, .string a.pred, .slice aol a.args.length capl]] W fun e w' => e = .returned (.string (litT a)) ∧ Below W.heap.size W w') := fun W hW => said_any W a _ (hslr.below hW) hfa
          clear hslr hfa
          generalize litT a = ta at *
          by_cases h0 : j = 0
          · have hbe : b = ByteArray.empty := by rw [HB.out, h0]; rfl
            have HN2 : Hid (b ++ ta = joinT ((c.body.take (j + 1)).map litT)) := by rw [Hid, HJ2, if_pos h0, hbe]; simp
            have hsl : (b.toList == []) = true := by rw [hbe, bytes_toList]; rfl
            subst h0
            clear HJ2 HB hbe
            go_wp2_with (first | (go_at_call 46; refine (HA.out _ (by exact (by repeat' (first | (with_reducible exact Below.refl _ _) | (with_reducible assumption) | (with_reducible refine bdrewN ?_ _) | (with_reducible refine Below.alloc ?_ ?_ _) | (with_reducible refine Below.drew ?_) | (with_reducible refine Below.setCell ?_ ?_ _) | go_size)))).mono ?_; rintro e w6 ⟨rfl, hb6⟩))
            go_roundw
            case rel => exact ⟨1, b ++ ta, by omega, by go_num, rfl, (by rw [ByteArray.size_append]; omega), HN2, bnext hbj hb6 (Nat.le_refl _), hcbj.below hb6⟩
            case measure => simp [intOf]; omega
          · have HN2 : Hid (b ++ bComma ++ ta = joinT ((c.body.take (j + 1)).map litT)) := by rw [Hid, HJ2, if_neg h0, HB.out]
            have hsp : 0 < b.size := by
              rw [HB.out]
              refine joinT_pos (fun t ht => ?_) ?_
              · obtain ⟨x, hx, rfl⟩ := List.mem_map.1 ht
                exact litT_pos (HFL.out x (by simp [litsOf, List.mem_of_mem_take hx]))
              · intro h; have := congrArg List.length h; rw [List.length_map, List.length_take, List.length_nil] at this; omega
            have hsl := bne_empty hsp
            have hc2 : bComma.size = 2 := rfl
            have hs2 : (b ++ bComma).size = b.size + 2 := by rw [ByteArray.size_append, hc2]
            clear HJ2 HB
            go_wp2_with (first | (go_at_call 46; refine (HA.out _ (by exact (by repeat' (first | (with_reducible exact Below.refl _ _) | (with_reducible assumption) | (with_reducible refine bdrewN ?_ _) | (with_reducible refine Below.alloc ?_ ?_ _) | (with_reducible refine Below.drew ?_) | (with_reducible refine Below.setCell ?_ ?_ _) | go_size)))).mono ?_; rintro e w6 ⟨rfl, hb6⟩))
            go_roundw
            case rel => exact ⟨j + 1, b ++ bComma ++ ta, by omega, by go_num, rfl, (by rw [ByteArray.size_append]; omega), HN2, bnext hbj hb6 (Nat.le_refl _), hcbj.below hb6⟩
            case measure => simp [intOf]; omega
        · have hbe : b = joinT (c.body.map litT) := by rw [HB.out, List.take_of_length_le (by omega)]
          have hd2 : bDotLine.size = 2 := rfl
          by_cases h0 : c.body.length = 0
          · have hsl : (b.toList == []) = true := by
              have e : c.body = [] := List.eq_nil_of_length_eq_zero h0
              rw [hbe, e, List.map_nil, joinT, bytes_toList]; rfl
            have HE : Hid (s ++ th ++ b ++ bDotLine = textT (cs.take (k + 1))) := HN.out b (by
              have e : c.body = [] := List.eq_nil_of_length_eq_zero h0
              rw [hbe, e]; rfl)
            have hq1 : (s ++ th).size = s.size + th.size := by rw [ByteArray.size_append]
            have hq2 : (s ++ th ++ b).size = s.size + th.size + b.size := by rw [ByteArray.size_append, hq1]
            clear hbe HB HN
            go_wp2
            go_roundw
            case rel => exact ⟨k + 1, s ++ th ++ b ++ bDotLine, by omega, by go_num, rfl, (by rw [ByteArray.size_append]; omega), HE, bnext hbk hbj (Nat.le_refl _), hbx.below hbj⟩
            case measure => simp [intOf]; omega
          · have hsp : 0 < b.size := by
              rw [hbe]
              refine joinT_pos (fun t ht => ?_) ?_
              · obtain ⟨x, hx, rfl⟩ := List.mem_map.1 ht
                exact litT_pos (HFL.out x (by simp [litsOf, hx]))
              · intro h; have := congrArg List.length h; rw [List.length_map, List.length_nil] at this; omega
            have hsl := bne_empty hsp
            have hba : bArrow.size = 4 := rfl
            have HE : Hid (s ++ th ++ (bArrow ++ b) ++ bDotLine = textT (cs.take (k + 1))) := HN.out (bArrow ++ b) (by unfold bodyT; rw [if_neg h0, hbe])
            have hq0 : (bArrow ++ b).size = 4 + b.size := by rw [ByteArray.size_append, hba]
            have hq1 : (s ++ th).size = s.size + th.size := by rw [ByteArray.size_append]
            have hq2 : (s ++ th ++ (bArrow ++ b)).size = s.size + th.size + 4 + b.size := by rw [ByteArray.size_append, hq1, hq0]; omega
            clear hbe HB HN
            go_wp2
            go_roundw
            case rel => exact ⟨k + 1, s ++ th ++ (bArrow ++ b) ++ bDotLine, by omega, by go_num, rfl, (by rw [ByteArray.size_append]; omega), HE, bnext hbk hbj (Nat.le_refl _), hbx.below hbj⟩
            case measure => simp [intOf]; omega
    · have hse : s = textT cs := by rw [H.out, List.take_of_length_le (by omega)]
      have he := seq_true (rfl : textT cs = textT cs)
      subst hse
      have HPT : Hid (Calls Tryz.prog 47 #[.pointer (some ⟨pb, 0, none⟩)] wr fun e w' => e = .returned (.string (textT cs)) ∧ Below wr.heap.size wr w') := prog_text wr pb cs t (HP.out.below hbk) hl HF.out
      have HPC : Hid (∀ W, Below wr.heap.size wr W → Calls Tryz.prog 48 #[.pointer (some ⟨pb, 0, none⟩)] W fun e w' => e = .returned (.int .i64 cs.length) ∧ w' = W) := fun W hW => prog_clauses W pb cs t ((HP.out.below hbk).below hW)
      clear H
      generalize textT cs = tt at *
      go_wp2_with (first | (go_at_call 47; refine HPT.out.mono ?_; rintro e w5 ⟨rfl, hb5⟩; have hbx5 := hbx.below hb5; obtain ⟨hc5, hf5⟩ := hbx5.rules; have hl5 := hbx5.lt; have hbm5 := hbmr.below hb5; obtain ⟨hmc5, hmf5⟩ := hbm5.rules; have hml5 := hbm5.lt) | (go_at_call 48; refine (HPC.out _ hb5).mono ?_; rintro e w6 ⟨rfl, hww⟩; obtain rfl := hww.symm))
      go_ret
      exact ⟨rfl, bnext hbk hb5 (Nat.le_refl _)⟩
end Go.Proofs.YteampbddflhngaaGreat
