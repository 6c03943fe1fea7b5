import Derived.Test.YteampbddflhngaaGreatP26
import Derived.Test.YteampbddflhngaaGreatP27
import Derived.Test.YteampbddflhngaaGreatP16
import Derived.Test.YteampbddflhngaaGreatP17

/- Walks: derivelaw.World.step, derivelaw.upTo, derivelaw.Tells. -/
namespace Go.Proofs.YteampbddflhngaaGreat
open Go.RowKit

theorem AskPost.from {B : Nat} {w w0 : World} {wb : Nat} {M : TM} {e : Ending} {w1 : World} (h : AskPost B w0 wb M e w1) (hb : Below B w w0) : AskPost B w wb M e w1 := ⟨h.1, h.2.1, hb.trans h.2.2⟩
theorem TW.size {B : Nat} {w : World} {wb : Nat} {M : TM} (h : TW B w wb M) : B ≤ w.heap.size := by obtain ⟨_, _, _, _, _, _, ht⟩ := h; exact ht.size

set_option maxRecDepth 100000 in
set_option maxHeartbeats 2000000 in
theorem step_9t (B : Nat) (w : World) (wb : Nat) (M : TM) (a b c : Int) (s : ByteArray) (h : TW B w wb M) (hnr : M.nr ≤ 1048575) :
    Calls Tryz.prog 57 #[.pointer (some ⟨wb, 0, none⟩), .agg #[.int .i64 9, .int .i64 a, .int .i64 b, .int .i64 c, .string s]] w fun e w' => AskPost B w wb M e w' := by
  have hB := h.size
  have HO : Hid (∀ W, Below w.heap.size w W → Calls Tryz.prog 94 #[.pointer (some ⟨wb, 0, none⟩), .agg #[.int .i64 9, .int .i64 a, .int .i64 b, .int .i64 c, .string s]] W fun e w' => AskPost B W wb M e w') := fun W hW => owner_9t B W wb M a b c s (h.below hW) hnr
  clear h
  go_enter Tryz.func57, Tryz.ntmps57
  go_wp2_with (first | (go_at_call 94; refine (HO.out _ (by exact (by repeat' (first | (with_reducible exact Below.refl _ _) | (with_reducible assumption) | (with_reducible refine bdrewN ?_ _) | (with_reducible refine Below.alloc ?_ ?_ _) | (with_reducible refine Below.drew ?_) | (with_reducible refine Below.setCell ?_ ?_ _) | go_size)))).mono ?_; rintro e w1 ⟨rfl, hm1, hb1⟩))
  go_ret
  exact ⟨rfl, hm1, (Below.mono (w := w) (by repeat' (first | (with_reducible exact Below.refl _ _) | (with_reducible assumption) | (with_reducible refine bdrewN ?_ _) | (with_reducible refine Below.alloc ?_ ?_ _) | (with_reducible refine Below.drew ?_) | (with_reducible refine Below.setCell ?_ ?_ _) | go_size)) hB).trans hb1⟩

set_option maxRecDepth 100000 in
set_option maxHeartbeats 2000000 in
theorem step_17t (B : Nat) (w : World) (wb : Nat) (M : TM) (a b c : Int) (s : ByteArray) (h : TW B w wb M) (hn : M.ls.length ≤ 9000000000) (ha : -9223372036854775808 ≤ a ∧ a ≤ 9223372036854775807) (hb : -9223372036854775808 ≤ b ∧ b ≤ 9223372036854775807) :
    Calls Tryz.prog 57 #[.pointer (some ⟨wb, 0, none⟩), .agg #[.int .i64 17, .int .i64 a, .int .i64 b, .int .i64 c, .string s]] w fun e w' => AskPost B w wb M e w' := by
  have hB := h.size
  have HO : Hid (∀ W, Below w.heap.size w W → Calls Tryz.prog 94 #[.pointer (some ⟨wb, 0, none⟩), .agg #[.int .i64 17, .int .i64 a, .int .i64 b, .int .i64 c, .string s]] W fun e w' => AskPost B W wb M e w') := fun W hW => owner_17t B W wb M a b c s (h.below hW) hn ha hb
  clear h
  go_enter Tryz.func57, Tryz.ntmps57
  go_wp2_with (first | (go_at_call 94; refine (HO.out _ (by exact (by repeat' (first | (with_reducible exact Below.refl _ _) | (with_reducible assumption) | (with_reducible refine bdrewN ?_ _) | (with_reducible refine Below.alloc ?_ ?_ _) | (with_reducible refine Below.drew ?_) | (with_reducible refine Below.setCell ?_ ?_ _) | go_size)))).mono ?_; rintro e w1 ⟨rfl, hm1, hb1⟩))
  go_ret
  exact ⟨rfl, hm1, (Below.mono (w := w) (by repeat' (first | (with_reducible exact Below.refl _ _) | (with_reducible assumption) | (with_reducible refine bdrewN ?_ _) | (with_reducible refine Below.alloc ?_ ?_ _) | (with_reducible refine Below.drew ?_) | (with_reducible refine Below.setCell ?_ ?_ _) | go_size)) hB).trans hb1⟩

set_option maxRecDepth 100000 in
set_option maxHeartbeats 2000000 in
theorem step_1t (B : Nat) (w : World) (wb : Nat) (M : TM) (a b c : Int) (s : ByteArray) (h : TW B w wb M) (hs : s.size ≤ 1048576) (hnp : M.ps.length ≤ 1048575) :
    Calls Tryz.prog 57 #[.pointer (some ⟨wb, 0, none⟩), .agg #[.int .i64 1, .int .i64 a, .int .i64 b, .int .i64 c, .string s]] w fun e w' => AskPost B w wb M e w' := by
  have hB := h.size
  have HO : Hid (∀ W, Calls Tryz.prog 94 #[.pointer (some ⟨wb, 0, none⟩), .agg #[.int .i64 1, .int .i64 a, .int .i64 b, .int .i64 c, .string s]] W fun e w' => e = .returned (.bool false) ∧ Below W.heap.size W w') := fun W => owner_f W wb 1 a b c s (by simp)
  have HC : Hid (∀ W, Below w.heap.size w W → Calls Tryz.prog 16 #[.pointer (some ⟨wb, 0, none⟩), .string s] W fun e w' => AskPost B W wb M e w') := fun W hW => compiled_tw B W wb M s (h.below hW) hs hnp
  clear h
  go_enter Tryz.func57, Tryz.ntmps57
  go_wp2_with (first | (go_at_call 94; refine (HO.out _).mono ?_; rintro e w1 ⟨rfl, hb1⟩; have hbx1 := (Box.new w #[.int .i64 1, .int .i64 a, .int .i64 b, .int .i64 c, .string s] 67).below hb1; obtain ⟨hc1, hf1⟩ := hbx1.rules; have hlt1 := hbx1.lt; have hB1 := bnext ((Below.refl w.heap.size w).alloc (Nat.le_refl _) (.cells #[.int .i64 1, .int .i64 a, .int .i64 b, .int .i64 c, .string s] 67)) hb1 (Nat.le_refl _)) | (go_at_call 16; refine (HC.out _ (by exact hB1)).mono ?_; rintro e w2 ⟨rfl, hm2, hb2⟩))
  go_ret
  exact ⟨rfl, hm2, (hB1.mono hB).trans hb2⟩

theorem step_tell (B : Nat) (w : World) (wb : Nat) (M : TM) (x : POp) (h : TW B w wb M) (hk : Kept [1, 12, 13, 14, 15, 16] x.kind) (hr : InR x) (hs : x.s.size ≤ 1048576) (hnp : M.ps.length ≤ 1048575) (hnr : M.nr ≤ 1048575) (hnl : M.ls.length ≤ 8000000000) (hni : M.lits.length ≤ 1048576) :
    Calls Tryz.prog 57 #[.pointer (some ⟨wb, 0, none⟩), .agg #[.int .i64 x.kind, .int .i64 x.a, .int .i64 x.b, .int .i64 x.c, .string x.s]] w fun e w' => AskPost B w wb M e w' := by
  obtain ⟨ha, hb, _⟩ := hr
  rcases hk with hk | hk | hk
  · rw [hk]; exact step_9t B w wb M _ _ _ _ h hnr
  · rw [hk]; exact step_17t B w wb M _ _ _ _ h (by omega) ha hb
  · simp only [List.mem_cons, List.not_mem_nil, or_false] at hk
    rcases hk with hk | hk | hk | hk | hk | hk <;> rw [hk]
    · exact step_1t B w wb M _ _ _ _ h hs hnp
    · exact step_ask B w wb M 12 _ _ _ _ (by simp) h ha (by omega) fun W p hW hp => asked_12 B W wb M p _ _ _ _ hW hp (by omega)
    · exact step_ask B w wb M 13 _ _ _ _ (by simp) h ha (by omega) fun W p hW hp => asked_13 B W wb M p _ _ _ _ hW hp
    · exact step_ask B w wb M 14 _ _ _ _ (by simp) h ha (by omega) fun W p hW hp => asked_14 B W wb M p _ _ _ _ hW hp hnl hni
    · exact step_ask B w wb M 15 _ _ _ _ (by simp) h ha (by omega) fun W p hW hp => asked_15 B W wb M p _ _ _ _ hW hp (by omega)
    · exact step_ask B w wb M 16 _ _ _ _ (by simp) h ha (by omega) fun W p hW hp => asked_16 B W wb M p _ _ _ _ hW hp

theorem TW.start (w : World) : TW w.heap.size (w.alloc (.cells #[.slice none 0 0, .slice none 0 0, .slice none 0 0, .slice none 0 0, .int .i64 0, .int .i64 0, .int .i64 0, .slice none 0 0, .bool true, .slice none 0 0, .slice none 0 0, .slice none 0 0, .slice none 0 0, .slice none 0 0] 35)) w.heap.size ⟨[], 0, [], []⟩ :=
  ⟨.slice none 0 0, .slice none 0 0, .slice none 0 0, .slice none 0 0, .slice none 0 0, [], Nat.le_refl _, Box.new _ _ _, World.ownsRow_nil _ _ _ _, World.ownsRow_nil _ _ _ _, World.ownsRow_nil _ _ _ _, World.ownsRow_nil _ _ _ _, World.ownsRow_nil _ _ _ _, (by simp), (fun b h => by cases h), (by simp [strsOf, Value.ownBlock]), (by simp), (by simp), (by simp)⟩

set_option maxRecDepth 100000 in
set_option maxHeartbeats 2000000 in
theorem upTo_tell (w : World) (v : Value) (l : List POp) (h : OIn w v l) (hk : ∀ x ∈ l, Kept [1, 12, 13, 14, 15, 16] x.kind ∧ InR x) (hl : l.length ≤ 1048576) (hs : ∀ x ∈ l, x.s.size ≤ 1048576) :
    Calls Tryz.prog 31 #[v] w fun e w' => e = .returned (.int .i64 (-1)) ∧ Below w.heap.size w w' := by
  obtain ⟨ao, cap, rfl⟩ := h.shape
  have HK : Hid (∀ x ∈ l, Kept [1, 12, 13, 14, 15, 16] x.kind ∧ InR x) := hk
  have HS : Hid (∀ x ∈ l, x.s.size ≤ 1048576) := hs
  clear hk hs
  go_enter Tryz.func31, Tryz.ntmps31
  go_wp2
  go_loopw [4] (fun v4 wr => ∃ (k : Nat) (M : TM), k ≤ l.length ∧ v4 = .int .i64 k ∧ M.ps.length ≤ k ∧ M.nr ≤ k ∧ M.ls.length ≤ 7 * k ∧ M.lits.length ≤ k ∧ Hid (TW w.heap.size wr w.heap.size M) ∧ Below w.heap.size w wr) (fun i _ => l.length - (intOf i).toNat)
  case atStart => exact ⟨0, ⟨[], 0, [], []⟩, Nat.zero_le _, rfl, Nat.le_refl _, Nat.le_refl _, by simp, Nat.le_refl _, TW.start w, (by repeat' (first | (with_reducible exact Below.refl _ _) | (with_reducible assumption) | (with_reducible refine bdrewN ?_ _) | (with_reducible refine Below.alloc ?_ ?_ _) | (with_reducible refine Below.drew ?_) | (with_reducible refine Below.setCell ?_ ?_ _) | go_size))⟩
  case round =>
    obtain ⟨k, M, hk, rfl, hnp, hnr, hnl, hni, HTW, hbk⟩ := hrel
    have hszk := hbk.size
    by_cases hlt : k < l.length
    · obtain ⟨b, o, rfl, hb, h0, h1, h2, h3, h4⟩ := h.cell k hlt
      have hx0 := (hbk.cell (p := ⟨b, o + k * 5, none⟩) hb).trans h0
      have hx1 := (hbk.cell (p := ⟨b, o + k * 5 + 1, none⟩) hb).trans h1
      have hx2 := (hbk.cell (p := ⟨b, o + k * 5 + 2, none⟩) hb).trans h2
      have hx3 := (hbk.cell (p := ⟨b, o + k * 5 + 3, none⟩) hb).trans h3
      have hx4 := (hbk.cell (p := ⟨b, o + k * 5 + 4, none⟩) hb).trans h4
      have hbr : b < wr.heap.size := by omega
      have HST : Hid (Calls Tryz.prog 57 #[.pointer (some ⟨w.heap.size, 0, none⟩), .agg #[.int .i64 l[k].kind, .int .i64 l[k].a, .int .i64 l[k].b, .int .i64 l[k].c, .string l[k].s]] wr fun e w' => AskPost w.heap.size wr w.heap.size M e w') := step_tell w.heap.size wr w.heap.size M l[k] HTW.out (HK.out _ (List.getElem_mem hlt)).1 (HK.out _ (List.getElem_mem hlt)).2 (HS.out _ (List.getElem_mem hlt)) (by omega) (by omega) (by omega) (by omega)
      clear h0 h1 h2 h3 h4
      generalize l[k] = x at *
      go_wp2_with (first | (go_at_call 57; refine HST.out.mono ?_; rintro e w1 ⟨rfl, ⟨M', htw1, hgr⟩, hb1⟩; have HTW1 : Hid (TW w.heap.size w1 w.heap.size M') := htw1; have hg1 := hgr.ps; have hg2 := hgr.nr; have hg3 := hgr.ls; have hg4 := hgr.lits; clear htw1 hgr) | (go_at_call 58; refine (looks_tw w.heap.size w1 w.heap.size M' HTW1.out (by omega) (by omega)).mono ?_; rintro e w2 ⟨rfl, hb2⟩))
      have hz1 : w.heap.size ≤ w1.heap.size := by have := hb1.size; omega
      have HTW2 : Hid (TW w.heap.size w2 w.heap.size M') := HTW1.out.below hb2
      have hB2 : Below w.heap.size w w2 := (hbk.trans hb1).trans (hb2.mono hz1)
      go_roundw
      case rel => exact ⟨k + 1, M', by omega, by go_num, by omega, by omega, by omega, by omega, HTW2, hB2⟩
      case measure => simp [intOf]; omega
    · go_wp2
      go_ret
      exact ⟨rfl, hbk⟩

set_option maxRecDepth 100000 in
set_option maxHeartbeats 2000000 in
theorem tells_any (w : World) (v : Value) (l : List POp) (h : OIn w v l) (hr : ∀ x ∈ l, InR x) :
    Calls Tryz.prog 4 #[v] w fun e w' => e = .returned (.bool true) ∧ Below w.heap.size w w' := by
  have HUP : Hid (UpTo l [1, 12, 13, 14, 15, 16]) := fun W v' l' h1 h2 h3 h4 => upTo_tell W v' l' h1 (fun x hx => ⟨(h2 x hx).2, hr x (h2 x hx).1⟩) h3 h4
  obtain ⟨ao, cap, rfl⟩ := h.shape
  go_enter Tryz.func4, Tryz.ntmps4
  go_wp2_with (first | (go_at_call 15; refine (plays_any _ _ l (by exact h.below (by repeat' (first | (with_reducible exact Below.refl _ _) | (with_reducible assumption) | (with_reducible refine bdrewN ?_ _) | (with_reducible refine Below.alloc ?_ ?_ _) | (with_reducible refine Below.drew ?_) | (with_reducible refine Below.setCell ?_ ?_ _) | go_size))) _ [1, 12, 13, 14, 15, 16] ⟨_, own_list _ [.int .i64 1, .int .i64 12, .int .i64 13, .int .i64 14, .int .i64 15, .int .i64 16] _ (by decide)⟩ (by decide) HUP.out).mono ?_; rintro e w1 ⟨rfl, hb1⟩))
  go_ret
  exact ⟨rfl, bnext ((Below.refl w.heap.size w).alloc (Nat.le_refl _) _) hb1 (Nat.le_refl _)⟩
end Go.Proofs.YteampbddflhngaaGreat
