import Derived.Test.YteampbddflhngaaGreatP19
import Derived.Laws.CopyOwn
import Derived.Maps.AppendAt

/- A longer append; what is kept where some blocks alone are written; derivelaw.World.texts. -/
namespace Go.Proofs.YteampbddflhngaaGreat
open Go.RowKit
variable {lo : Nat}

/-- Old blocks are as they were, but for some. -/
structure Save (M : List Nat) (w w' : World) : Prop where
  os : w'.os = w.os
  tape : w'.tape = w.tape
  output : w'.output = w.output
  size : w.heap.size ≤ w'.heap.size
  block : ∀ k, k < w.heap.size → k ∉ M → w'.heap[k]? = w.heap[k]?
theorem Save.refl (M : List Nat) (w : World) : Save M w w := ⟨rfl, rfl, rfl, Nat.le_refl _, fun _ _ _ => rfl⟩
theorem Save.of {M : List Nat} {w w' : World} (h : Below w.heap.size w w') : Save M w w' := ⟨h.os, h.tape, h.output, h.size, fun k hk _ => h.block k hk⟩
theorem Save.trans {M : List Nat} {a b c : World} (h : Save M a b) (k : Save M b c) : Save M a c :=
  ⟨k.os.trans h.os, k.tape.trans h.tape, k.output.trans h.output, Nat.le_trans h.size k.size, fun x hx hn => (k.block x (Nat.lt_of_lt_of_le hx h.size) hn).trans (h.block x hx hn)⟩
theorem Save.more {M N : List Nat} {w w' : World} (h : Save M w w') (hs : ∀ x ∈ M, x ∈ N) : Save N w w' := ⟨h.os, h.tape, h.output, h.size, fun k hk hn => h.block k hk fun hm => hn (hs k hm)⟩
/-- Blocks that are new since are free to be written. -/
theorem Save.newer {M N : List Nat} {a b c : World} (h : Save M a b) (k : Save N b c) (hn : ∀ x ∈ N, x ∈ M ∨ a.heap.size ≤ x) : Save M a c :=
  ⟨k.os.trans h.os, k.tape.trans h.tape, k.output.trans h.output, Nat.le_trans h.size k.size, fun x hx hm => (k.block x (Nat.lt_of_lt_of_le hx h.size) fun hxn => (hn x hxn).elim hm fun h2 => by omega).trans (h.block x hx hm)⟩
theorem Save.below {M : List Nat} {B : Nat} {w w' : World} (h : Save M w w') (hM : ∀ x ∈ M, B ≤ x) (hB : B ≤ w.heap.size) : Below B w w' :=
  ⟨h.os, h.tape, h.output, h.size, fun k hk => h.block k (by omega) fun hm => by have := hM k hm; omega⟩
theorem own_save {M : List Nat} {w w' : World} {base : Nat} {e : TypeId} {size : Nat} {v : Value} {n : Nat} {xs : List Value} (h : w.ownsRow base e size v n xs) (hs : Save M w w') (hn : ∀ b, v.ownBlock = some b → b ∉ M) : w'.ownsRow base e size v n xs := by
  obtain ⟨h1, h2⟩ := h
  refine ⟨h1, ?_⟩
  rcases h2 with h2 | ⟨g, cap, cur, hv, hg, hh, rr⟩
  · exact Or.inl h2
  · refine Or.inr ⟨g, cap, cur, hv, hg, ?_, rr⟩
    rw [hs.block g (Array.getElem?_eq_some_iff.1 hh).1 (hn g (by rw [hv]; rfl))]; exact hh
theorem Box.save {M : List Nat} {w w' : World} {b : Nat} {c : Array Value} {T : TypeId} (h : Box w b c T) (hs : Save M w w') (hn : b ∉ M) : Box w' b c T := by
  have := h.lt; unfold Box at *; rw [hs.block b this hn]; exact h

section
variable {P : Program} {ops : Array Oper} {rest : List Oper} {o : Oper} {a : Act} {Q : Exit → Act → World → Prop}
/-- 'l = append(l, x)', l owned (as it stood in wO; since then only new blocks), x one element whose cells lie in the new block: where the list lies behind it, and what it leaves alone. -/
theorem wpList_push2 (wO w0 : World) (l : List Value) (te : TypeId) (hg : o.guard = none) (s x : Operand) (t : TypeId)
    (ho : o.op = .call { callee := .builtin .append, args := #[s, x], argTypes := #[t, t] })
    (base : Nat) (e : TypeId) (i : TypeInfo) (z : Value) (size bytes : Nat) (ht : P.underlying t = some (.slice e)) (hi : P.info? e = some i) (hz : i.zero = some z)
    (hsize : i.size = size) (hby : i.bytes = bytes) (hzs : z.cells.size = size) (hsz : 0 < size)
    (v : Value) (n : Nat) (xs : List Value) (hs : a.eval s = v) (hown : wO.ownsRow base e size v n xs) (hbO : Below wO.heap.size wO w0)
    (b c : Nat) (hx : a.eval x = .slice (some ⟨b, 0, none⟩) 1 c) (hb : b = w0.heap.size) (hl : l.length = size) (h1 : ∀ u ∈ l, u.oneCell' = true)
    (hn : n ≤ 10000000000) (hbytes : bytes ≤ 1000) (hbase : base ≤ wO.heap.size)
    (h : ∀ v' w', w'.ownsRow base e size v' (n + 1) (xs ++ l) → Save v.ownBlock.toList wO w' → (v'.ownBlock = v.ownBlock ∨ ∃ g, v'.ownBlock = some g ∧ wO.heap.size ≤ g) → wpList P ops Q rest (a.put o.dst v') w') :
    wpList P ops Q (o :: rest) a (w0.alloc (.cells l.toArray te)) := by
  have hown' := owns_below hown hbO
  have hsz0 := hbO.size
  subst hb
  refine wpList_append_own_at _ hg s x t ho base e i z size bytes ht hi hz hsize hby hzs hsz v n xs hs (hown'.alloc _) ⟨w0.heap.size, 0, none⟩ 1 c l hx (by omega) ?_ h1 ?_ ?_ ?_ ?_
  · intro j u hj
    rw [Addr.add_lit, Nat.zero_add, World.cell?_alloc_mark]
    simpa using hj
  · unfold maxLen; omega
  · have : (n + 1) * bytes ≤ 10000000001 * 1000 := Nat.mul_le_mul (by omega) hbytes
    omega
  · simp; omega
  · intro v' w' h2 hgr _ hat
    refine h v' w' h2 ⟨hgr.os.trans hbO.os, hgr.tape.trans hbO.tape, hgr.output.trans hbO.output, ?_, fun k hk hm => ?_⟩ ?_
    · have := hgr.size; simp at this; omega
    · rw [hgr.block k (by simp; omega) (fun e => hm (by rw [← e]; simp))]
      rw [show (w0.alloc (.cells l.toArray te)).heap[k]? = w0.heap[k]? from Below.heap_alloc _ _ _ (by omega)]
      exact hbO.block k hk
    · rcases hat with h3 | h3
      · exact Or.inl h3
      · exact Or.inr ⟨_, h3, by simp; omega⟩
end

theorem own_lt {w : World} {base : Nat} {e : TypeId} {size : Nat} {v : Value} {n : Nat} {xs : List Value} (h : w.ownsRow base e size v n xs) {b : Nat} (hb : v.ownBlock = some b) : b < w.heap.size := by
  obtain ⟨_, ⟨hv, _⟩ | ⟨g, cap, cur, hv, _, hh, _⟩⟩ := h
  · subst hv; cases hb
  · subst hv; simp only [Value.ownBlock, Option.some.injEq] at hb; subst hb; exact (Array.getElem?_eq_some_iff.1 hh).1
theorem Save.set (w : World) (b o : Nat) (u : Value) : Save [b] w (w.setCell ⟨b, o, none⟩ u) :=
  ⟨rfl, rfl, rfl, by simp [World.setCell], fun k _ hn => Below.heap_setCell _ _ _ _ (by simp at hn; exact hn)⟩
theorem mem_own {v : Value} {b : Nat} (h : b ∈ v.ownBlock.toList) : v.ownBlock = some b := by simpa using h
theorem own_ne_list {w : World} {base : Nat} {e T : TypeId} {size : Nat} {v : Value} {n : Nat} {xs : List Value} (h : w.ownsRow base e size v n xs) {b : Nat} {c : Array Value} (hb : Box w b c T) (hT : e ≠ T) : b ∉ v.ownBlock.toList := by
  intro hm
  have := own_ne_type h hb hT
  exact this (by simpa [eq_comm] using hm)
theorem Tryz.infoTexts : (Tryz.prog.info? 30).map (fun i => (i.zero, i.size, i.bytes)) = some (some (.slice none 0 0), 1, 24) := by kernel_rfl
theorem Tryz.sizeStr : (Tryz.prog.info? 9).map (·.size) = some 1 := by kernel_rfl
theorem splice_all (cur cs : List Value) (h : cs.length = cur.length) : splice cur 0 cs = cs := by unfold splice; simp [h]
theorem sin_of_heap {w : World} {g : Nat} {l : List ByteArray} (h : w.heap[g]? = some (.cells (l.map Value.string).toArray 9 (0, 0))) (hg : lo ≤ g) (hl : l.length ≤ 1000) : SIn lo w (.slice (some ⟨g, 0, none⟩) l.length l.length) l :=
  ⟨by simp, Or.inr ⟨g, l.length, _, rfl, hg, h, Nat.le_refl _, by unfold maxLen; omega, by simp, by rw [Nat.mul_one]; exact List.take_of_length_le (by simp)⟩⟩
def TextsPost (B : Nat) (w : World) (wb : Nat) (c0 c1 c2 c3 c4 c5 c6 c7 c8 c9 lsv lwv c12 c13 : Value) (n : Nat) (xs ys : List Value) (g : Nat) (l : List ByteArray) (e : Ending) (w' : World) : Prop :=
  e = .returned (.bool true) ∧ ∃ lsv' lwv' gc, Box w' wb #[c0, c1, c2, c3, c4, c5, c6, c7, c8, c9, lsv', lwv', c12, c13] 35 ∧ w'.ownsRow B 30 1 lsv' (n + 1) (xs ++ [.slice (some ⟨g, 0, none⟩) l.length l.length]) ∧
    w'.ownsRow B 30 1 lwv' (n + 1) (ys ++ [.slice (some ⟨gc, 0, none⟩) l.length l.length]) ∧ w.heap.size ≤ gc ∧ SIn w.heap.size w' (.slice (some ⟨gc, 0, none⟩) l.length l.length) l ∧
    (lsv'.ownBlock = lsv.ownBlock ∨ ∃ b, lsv'.ownBlock = some b ∧ w.heap.size ≤ b) ∧ (lwv'.ownBlock = lwv.ownBlock ∨ ∃ b, lwv'.ownBlock = some b ∧ w.heap.size ≤ b) ∧
    (∀ b, lsv'.ownBlock = some b → lwv'.ownBlock ≠ some b) ∧ Save (wb :: (lsv.ownBlock.toList ++ lwv.ownBlock.toList)) w w'

set_option maxRecDepth 100000 in
set_option maxHeartbeats 4000000 in
theorem texts_any (B : Nat) (w : World) (wb : Nat) (c0 c1 c2 c3 c4 c5 c6 c7 c8 c9 lsv lwv c12 c13 : Value) (n : Nat) (xs ys : List Value) (g : Nat) (l : List ByteArray) (vb : Value)
    (hbx : Box w wb #[c0, c1, c2, c3, c4, c5, c6, c7, c8, c9, lsv, lwv, c12, c13] 35) (h1 : w.ownsRow B 30 1 lsv n xs) (h2 : w.ownsRow B 30 1 lwv n ys) (hB : B ≤ wb) (hdis : ∀ b, lsv.ownBlock = some b → lwv.ownBlock ≠ some b)
    (ha : SIn lo w (.slice (some ⟨g, 0, none⟩) l.length l.length) l) {lo2 : Nat} (hb : SIn lo2 w vb l) (hl : l.length ≤ 1000) (hn : n ≤ 9000000000) :
    Calls Tryz.prog 41 #[.pointer (some ⟨wb, 0, none⟩), .slice (some ⟨g, 0, none⟩) l.length l.length, vb] w fun e w' => TextsPost B w wb c0 c1 c2 c3 c4 c5 c6 c7 c8 c9 lsv lwv c12 c13 n xs ys g l e w' := by
  obtain ⟨i0, hi, hz0, hzs, hzb⟩ := info_parts Tryz.infoTexts
  obtain ⟨ao1, cap1, rfl⟩ := own_view h1
  obtain ⟨ao2, cap2, rfl⟩ := own_view h2
  obtain ⟨aob, capb, rfl⟩ := hb.shape
  have hwl := hbx.lt
  have HST : Hid (Calls Tryz.prog 44 #[.slice (some ⟨g, 0, none⟩) l.length l.length, .slice aob l.length capb] w fun e w' => e = .returned (.bool true) ∧ Below w.heap.size w w') := sameTexts_any w _ _ l ha hb (by omega)
  have hmk := run_make_row' (P := Tryz.prog) 30 9 (.string ByteArray.empty) 16 Tryz.underlying30 Tryz.infoString rfl .i64 .i64 l.length (by omega) (by omega)
  have HSRC : Hid (∀ W, Below w.heap.size w W → 0 < (l.map Value.string).length → ∃ ad, aob = some ad ∧ ∀ j v, (l.map Value.string)[j]? = some v → W.cell? (ad.add j) = some v) := fun W hW hp => by
    obtain ⟨gb, capb', hv, _, hgb, hcb⟩ := own_cells hb (by simpa using hp)
    simp at hv
    refine ⟨⟨gb, 0, none⟩, hv.1, fun j v hj => ?_⟩
    rw [Addr.add_lit, Nat.zero_add, hW.cell (p := ⟨gb, j, none⟩) hgb]
    exact hcb j v hj
  have hcl : (l.map Value.string).length = l.length := by simp
  have hc1 : ∀ v ∈ l.map Value.string, v.oneCell' = true := fun v hv => by obtain ⟨x, _, rfl⟩ := List.mem_map.1 hv; rfl
  have HC1 : Hid (∀ v ∈ l.map Value.string, v.oneCell' = true) := hc1
  clear hc1
  obtain ⟨cs, hcs⟩ : ∃ cs, cs = l.map Value.string := ⟨_, rfl⟩
  have HCS : Hid (cs = l.map Value.string) := hcs
  rw [← hcs] at HSRC hcl HC1
  clear hcs
  have HFIT : Hid (0 + cs.length ≤ (madeCells #[Value.string ByteArray.empty] l.length).toList.length) := by rw [Hid, hcl]; simp [size_madeCells]
  have HMIN : Hid (cs.length = Nat.min l.length l.length) := by rw [Hid, hcl]; simp
  go_enter Tryz.func41, Tryz.ntmps41
  go_wp2_with (first | (go_at_call 44; refine HST.out.mono ?_; rintro e w1 ⟨rfl, hb1⟩; clear HST) | (refine wpList_copy_splice rfl (.tmp 17) (.tmp 18) 30 30 rfl 9 Tryz.underlying30 Tryz.sizeStr _ _ _ _ _ _ rfl rfl w1.heap.size 0 (madeCells #[.string ByteArray.empty] l.length).toList 9 (by rw [Array.toArray_toList]; exact Box.new _ _ _) cs HMIN.out (fun hp => ⟨rfl, HSRC.out _ (by exact hb1.alloc hb1.size _) hp⟩) HFIT.out HC1.out w.heap.size w (by exact hb1.alloc hb1.size _) hb1.size ?_; intro w2 HG2 hB2; have hbx2 := hbx.below hB2; obtain ⟨hc2, hf2⟩ := hbx2.rules; have hwl2 := hbx2.lt; have ho12 := owns_below h1 hB2; have ho22 := owns_below h2 hB2; have hz2 := hB2.size) | (at_builtin; have hq := ho24; refine wpList_push2 (w3.setCell ⟨wb, 10, none⟩ (.slice ao3 (n + 1) cap3)) _ [.slice (some ⟨w1.heap.size, 0, none⟩) l.length l.length] _ rfl (.tmp 34) (.tmp 36) 31 rfl B 30 i0 _ 1 24 Tryz.underlying31 hi hz0 hzs hzb rfl (by decide) (.slice ao2 n cap2) n ys rfl hq (Below.refl _ _) _ _ rfl (by simp) rfl (by simp [Value.oneCell']) (by omega) (by omega) hB4 ?_; intro v5 w5 ho5 hS5 hat5; obtain ⟨ao5, cap5, rfl⟩ := own_view ho5; have hbx5 := hbx4.save hS5 (own_ne_list hq hbx4 (by decide)); obtain ⟨hc5, hf5⟩ := hbx5.rules; have hwl5 := hbx5.lt; clear hq) | (at_builtin; refine wpList_push2 w2 _ [.slice (some ⟨g, 0, none⟩) l.length l.length] _ rfl (.tmp 23) (.tmp 25) 31 rfl B 30 i0 _ 1 24 Tryz.underlying31 hi hz0 hzs hzb rfl (by decide) (.slice ao1 n cap1) n xs rfl ho12 (Below.refl _ _) _ _ rfl (by simp) rfl (by simp [Value.oneCell']) (by omega) (by omega) (by omega) ?_; intro v3 w3 ho3 hS3 hat3; obtain ⟨ao3, cap3, rfl⟩ := own_view ho3; have hbx3 := hbx2.save hS3 (own_ne_list ho12 hbx2 (by decide)); obtain ⟨hc3, hf3⟩ := hbx3.rules; have hwl3 := hbx3.lt; have ho23 := own_save ho22 hS3 (fun b hb hm => hdis b (mem_own hm) hb); have hbx4 : Box (w3.setCell ⟨wb, 10, none⟩ (.slice ao3 (n + 1) cap3)) wb #[c0, c1, c2, c3, c4, c5, c6, c7, c8, c9, .slice ao3 (n + 1) cap3, .slice ao2 n cap2, c12, c13] 35 := (by have hq := hbx3.set 10 (.slice ao3 (n + 1) cap3); simpa using hq); have ho24 := own_but ho23 ((But.refl wb w3).setCell 10 (.slice ao3 (n + 1) cap3)) hbx3 (by decide); have ho34 := own_but ho3 ((But.refl wb w3).setCell 10 (.slice ao3 (n + 1) cap3)) hbx3 (by decide); have hB4 : B ≤ (w3.setCell ⟨wb, 10, none⟩ (.slice ao3 (n + 1) cap3)).heap.size := (by rw [show (w3.setCell ⟨wb, 10, none⟩ (.slice ao3 (n + 1) cap3)).heap.size = w3.heap.size from (by simp [World.setCell])]; omega)))
  have hz1 := hb1.size
  have hz3 := hS3.size
  have hz4 : (w3.setCell ⟨wb, 10, none⟩ (.slice ao3 (n + 1) cap3)).heap.size = w3.heap.size := by simp [World.setCell]
  have hz5 := hS5.size
  rw [hz4] at hz5
  have hlt1 : ∀ b, (Value.slice ao1 n cap1).ownBlock = some b → b < w.heap.size := fun b hb => own_lt h1 hb
  have hlt2 : ∀ b, (Value.slice ao2 n cap2).ownBlock = some b → b < w.heap.size := fun b hb => own_lt h2 hb
  have hlt3 : ∀ b, (Value.slice ao3 (n + 1) cap3).ownBlock = some b → b < w3.heap.size := fun b hb => own_lt ho3 hb
  have hd32 : ∀ b, (Value.slice ao3 (n + 1) cap3).ownBlock = some b → (Value.slice ao2 n cap2).ownBlock ≠ some b := fun b hb h => by
    rcases hat3 with h3 | ⟨g3, h3, h4⟩
    · exact hdis b (h3 ▸ hb) h
    · rw [h3] at hb
      have := hlt2 b h
      simp at hb
      omega
  have hown5 := own_save ho34 hS5 (fun b hb hm => hd32 b hb (mem_own hm))
  have hgw : w1.heap.size ≠ wb := by omega
  have hgl2 : w1.heap.size < w2.heap.size := (Array.getElem?_eq_some_iff.1 HG2.out).1
  have hgc : (w5.setCell ⟨wb, 11, none⟩ (.slice ao5 (n + 1) cap5)).heap[w1.heap.size]? = w2.heap[w1.heap.size]? := by
    rw [(Save.set w5 wb 11 _).block _ (by omega) (by simpa using hgw), hS5.block _ (by rw [hz4]; omega) (fun hm => by have := hlt2 _ (mem_own hm); omega), (Save.set w3 wb 10 _).block _ (by omega) (by simpa using hgw), hS3.block _ hgl2 (fun hm => by have := hlt1 _ (mem_own hm); omega)]
  have hsin : SIn w.heap.size (w5.setCell ⟨wb, 11, none⟩ (.slice ao5 (n + 1) cap5)) (.slice (some ⟨w1.heap.size, 0, none⟩) l.length l.length) l := by
    refine sin_of_heap ?_ hz1 hl
    rw [hgc, HG2.out, splice_all _ _ (by rw [hcl]; simp [size_madeCells]), HCS.out]
  have hsv : Save (wb :: ((Value.slice ao1 n cap1).ownBlock.toList ++ (Value.slice ao2 n cap2).ownBlock.toList)) w (w5.setCell ⟨wb, 11, none⟩ (.slice ao5 (n + 1) cap5)) := by
    have e1 := (Save.of (M := wb :: ((Value.slice ao1 n cap1).ownBlock.toList ++ (Value.slice ao2 n cap2).ownBlock.toList)) hB2).newer hS3 (fun x hx => Or.inl (by simp [hx]))
    have e2 := e1.newer (Save.set w3 wb 10 (.slice ao3 (n + 1) cap3)) (fun x hx => Or.inl (by simp at hx; simp [hx]))
    have e3 := e2.newer hS5 (fun x hx => Or.inl (by simp [hx]))
    exact e3.newer (Save.set w5 wb 11 (.slice ao5 (n + 1) cap5)) (fun x hx => Or.inl (by simp at hx; simp [hx]))
  have hbx6 : Box (w5.setCell ⟨wb, 11, none⟩ (.slice ao5 (n + 1) cap5)) wb #[c0, c1, c2, c3, c4, c5, c6, c7, c8, c9, .slice ao3 (n + 1) cap3, .slice ao5 (n + 1) cap5, c12, c13] 35 := by have hq := hbx5.set 11 (.slice ao5 (n + 1) cap5); simpa using hq
  go_ret
  refine ⟨rfl, _, _, w1.heap.size, hbx6, own_but hown5 ((But.refl wb w5).setCell 11 _) hbx5 (by decide), own_but ho5 ((But.refl wb w5).setCell 11 _) hbx5 (by decide), hz1, hsin, ?_, ?_, ?_, hsv⟩
  · rcases hat3 with h3 | ⟨g3, h3, h4⟩
    · exact Or.inl h3
    · exact Or.inr ⟨g3, h3, by omega⟩
  · rcases hat5 with h3 | ⟨g3, h3, h4⟩
    · exact Or.inl h3
    · exact Or.inr ⟨g3, h3, by omega⟩
  · intro b hb h
    rcases hat5 with h3 | ⟨g3, h3, h4⟩
    · exact hd32 b hb (h3 ▸ h)
    · have := hlt3 b hb
      rw [h3] at h
      simp at h
      omega
end Go.Proofs.YteampbddflhngaaGreat

/- The world of a script that asks what programs tell: what it keeps. -/
namespace Go.Proofs.YteampbddflhngaaGreat
open Go.RowKit
variable {lo : Nat}

/-- The blocks of s from lo on are in w as they were. -/
def Same (lo : Nat) (s w : World) : Prop := ∀ b, lo ≤ b → b < s.heap.size → w.heap[b]? = s.heap[b]?
theorem own_same {s w : World} {e : TypeId} {size : Nat} {v : Value} {n : Nat} {xs : List Value} (h : s.ownsRow lo e size v n xs) (hs : Same lo s w) : w.ownsRow lo e size v n xs := by
  obtain ⟨h1, h2⟩ := h
  refine ⟨h1, ?_⟩
  rcases h2 with h2 | ⟨g, cap, cur, hv, hg, hh, rr⟩
  · exact Or.inl h2
  · refine Or.inr ⟨g, cap, cur, hv, hg, ?_, rr⟩
    rw [hs g hg (Array.getElem?_eq_some_iff.1 hh).1]; exact hh
theorem Box.same {s w : World} {b : Nat} {c : Array Value} {T : TypeId} (h : Box s b c T) (hb : lo ≤ b) (hs : Same lo s w) : Box w b c T := by
  have := h.lt; unfold Box at *; rw [hs b hb this]; exact h
theorem SIn.same {s w : World} {v : Value} {l : List ByteArray} (h : SIn lo s v l) (hs : Same lo s w) : SIn lo w v l := own_same h hs
theorem LIn.same {s w : World} {v : Value} {l : List PLit} (h : LIn lo s v l) (hs : Same lo s w) : LIn lo w v l := by
  obtain ⟨xs, h1, h2⟩ := h; exact ⟨xs, own_same h1 hs, h2.mono fun _ _ q => q.same hs⟩
theorem CIn.same {T : TypeId} {s w : World} {v : Value} {l : List PClause} (h : CIn lo T s v l) (hs : Same lo s w) : CIn lo T w v l := by
  obtain ⟨xs, h1, h2⟩ := h; exact ⟨xs, own_same h1 hs, h2.mono (fun _ _ q => q.same hs) (fun _ _ q => q.same hs)⟩
theorem PProg.same {s w : World} {pb : Nat} {cs : List PClause} {t : List PEnt} (h : PProg lo s pb cs t) (hs : Same lo s w) : PProg lo w pb cs t := by
  obtain ⟨h0, v, pv, h1, h2, h3⟩ := h; exact ⟨h0, v, pv, h1.same h0 hs, h2.same hs, own_same h3 hs⟩
theorem RProg.same {s w : World} {pb : Nat} {cs : List PClause} {t : List PEnt} (h : RProg lo s pb cs t) (hs : Same lo s w) : RProg lo w pb cs t := by
  obtain ⟨h0, cv, pv, kv, h1, h2, h3, h4⟩ := h; exact ⟨h0, cv, pv, kv, h1.same h0 hs, h2.same hs, h3.same hs, own_same h4 hs⟩
theorem PProg.low {a b : Nat} {w : World} {pb : Nat} {cs : List PClause} {t : List PEnt} (h : PProg b w pb cs t) (hab : a ≤ b) : PProg a w pb cs t := by
  obtain ⟨h0, v, pv, h1, h2, h3⟩ := h; exact ⟨by omega, v, pv, h1, h2.low hab, own_low h3 hab⟩
theorem RProg.low {a b : Nat} {w : World} {pb : Nat} {cs : List PClause} {t : List PEnt} (h : RProg b w pb cs t) (hab : a ≤ b) : RProg a w pb cs t := by
  obtain ⟨h0, cv, pv, kv, h1, h2, h3, h4⟩ := h; exact ⟨by omega, cv, pv, kv, h1, h2.low hab, h3.low hab, own_low h4 hab⟩

/-- What is known of a program's clauses and names. -/
structure TxtOK (cs : List PClause) (t : List PEnt) : Prop where
  len : cs.length ≤ 1000
  names : t.length ≤ 1000
  fine : ∀ c ∈ cs, ClFine c ∧ ClOK c ∧ c.body.length ≤ 6 ∧ sumArgs (litsOf c) ≤ 1000
  rise : Rising (namesT t)
/-- A pair of programs: the program's object, the document's, what they say. -/
abbrev PairP := Nat × Nat × List PClause × List PEnt
/-- A pair stands in w, and none of the blocks ms lies among its own. -/
def PairOK (B : Nat) (w : World) (ms : List Nat) (p : PairP) : Prop := ∃ (lo : Nat) (s : World), B ≤ lo ∧ PProg lo s p.1 p.2.2.1 p.2.2.2 ∧ RProg lo s p.2.1 p.2.2.1 p.2.2.2 ∧ TxtOK p.2.2.1 p.2.2.2 ∧ Same lo s w ∧ s.heap.size ≤ w.heap.size ∧ ∀ b ∈ ms, b < lo ∨ s.heap.size ≤ b
theorem PairOK.save {B : Nat} {w w' : World} {ms ms' N : List Nat} {p : PairP} (h : PairOK B w ms p) (hs : Save N w w') (hN : ∀ b ∈ N, b ∈ ms) (hm : ∀ b ∈ ms', b ∈ ms ∨ w.heap.size ≤ b) : PairOK B w' ms' p := by
  obtain ⟨lo, s, h0, h1, h2, h3, h4, h5, h6⟩ := h
  refine ⟨lo, s, h0, h1, h2, h3, fun b hb1 hb2 => ?_, Nat.le_trans h5 hs.size, fun b hb => ?_⟩
  · rw [hs.block b (by omega) (fun hm => by have := h6 b (hN b hm); omega)]; exact h4 b hb1 hb2
  · rcases hm b hb with h | h
    · exact h6 b h
    · right; omega
theorem PairOK.new {B lo : Nat} {w : World} {ms : List Nat} {pb mb : Nat} {cs : List PClause} {t : List PEnt} (hB : B ≤ lo) (h1 : PProg lo w pb cs t) (h2 : RProg lo w mb cs t) (h3 : TxtOK cs t) (hm : ∀ b ∈ ms, b < lo) : PairOK B w ms (pb, mb, cs, t) :=
  ⟨lo, w, hB, h1, h2, h3, fun _ _ _ => rfl, Nat.le_refl _, fun b hb => Or.inl (hm b hb)⟩
theorem PairOK.both {B : Nat} {w : World} {ms : List Nat} {p : PairP} (h : PairOK B w ms p) : ∃ lo, PProg lo w p.1 p.2.2.1 p.2.2.2 ∧ RProg lo w p.2.1 p.2.2.1 p.2.2.2 ∧ TxtOK p.2.2.1 p.2.2.2 := by
  obtain ⟨lo, s, _, h1, h2, h3, h4, _, _⟩ := h; exact ⟨lo, h1.same h4, h2.same h4, h3⟩

def psCells (ps : List PairP) : List Value := ps.flatMap fun p => [.pointer (some ⟨p.1, 0, none⟩), .pointer (some ⟨p.2.1, 0, none⟩)]
abbrev RowP := Nat × Nat × List ByteArray
def sl (g n : Nat) : Value := .slice (some ⟨g, 0, none⟩) n n
def lsCells (ls : List RowP) : List Value := ls.map fun x => sl x.1 x.2.2.length
def lwCells (ls : List RowP) : List Value := ls.map fun x => sl x.2.1 x.2.2.length
def litVs3 (ls : List (Nat × Nat)) : List Value := ls.map fun x => sl x.1 x.2
def bMine : ByteArray := ⟨#[109, 105, 110, 101]⟩
def mine3 (i h : Nat) : Value × Value × Value := (.bool false, .string bMine, sl h (i + 1))
/-- What a script has made so far. -/
structure TM where
  ps : List PairP
  nr : Nat
  ls : List RowP
  lits : List (Nat × Nat)
def mutsOf (wb : Nat) (psv rowv lsv lwv litv : Value) (M : TM) : List Nat :=
  wb :: (psv.ownBlock.toList ++ rowv.ownBlock.toList ++ lsv.ownBlock.toList ++ lwv.ownBlock.toList ++ litv.ownBlock.toList ++ M.ls.map (·.1) ++ M.ls.map (·.2.1) ++ M.lits.map (·.1))
/-- Blocks of texts: those that are about to be handed out, the register's, the lists' and their copies'. -/
def strsOf (R : List Nat) (rowv : Value) (M : TM) : List Nat := R ++ (rowv.ownBlock.toList ++ (M.ls.map (·.1) ++ M.ls.map (·.2.1)))
/-- The script's world, its parts told; R: blocks of lists that are about to be handed out. -/
structure TWp (B : Nat) (w : World) (wb : Nat) (M : TM) (R : List Nat) (psv rowv lsv lwv litv : Value) (ys : List Value) : Prop where
  low : B ≤ wb
  box : Box w wb #[psv, .slice none 0 0, .slice none 0 0, .slice none 0 0, .int .i64 0, .int .i64 0, .int .i64 0, .slice none 0 0, .bool true, rowv, lsv, lwv, .slice none 0 0, litv] 35
  ps : w.ownsRow B 40 2 psv M.ps.length (psCells M.ps)
  row : w.ownsRow B 9 1 rowv M.nr ys
  ls : w.ownsRow B 30 1 lsv M.ls.length (lsCells M.ls)
  lw : w.ownsRow B 30 1 lwv M.ls.length (lwCells M.ls)
  lits : w.ownsRow B 91 1 litv M.lits.length (litVs3 M.lits)
  res : ∀ b ∈ R, b < w.heap.size
  sep : ∀ b, lsv.ownBlock = some b → lwv.ownBlock ≠ some b
  apart : (strsOf R rowv M).Nodup
  lists : ∀ x ∈ M.ls, SIn B w (sl x.1 x.2.2.length) x.2.2 ∧ SIn B w (sl x.2.1 x.2.2.length) x.2.2 ∧ x.2.2.length ≤ 1000
  own : ∀ i (h : i < M.lits.length), ∃ hs : List Nat, hs.length = M.lits[i].2 ∧ M.lits[i].2 ≤ 1000 ∧ w.ownsRow B 90 3 (sl M.lits[i].1 M.lits[i].2) M.lits[i].2 (flat3 (hs.map (mine3 i)))
  pairs : ∀ p ∈ M.ps, PairOK B w (R ++ mutsOf wb psv rowv lsv lwv litv M) p
def TW (B : Nat) (w : World) (wb : Nat) (M : TM) : Prop := ∃ psv rowv lsv lwv litv ys, TWp B w wb M [] psv rowv lsv lwv litv ys
theorem TWp.lt {B : Nat} {w : World} {wb : Nat} {M : TM} {R : List Nat} {psv rowv lsv lwv litv : Value} {ys : List Value} (h : TWp B w wb M R psv rowv lsv lwv litv ys) : ∀ b ∈ mutsOf wb psv rowv lsv lwv litv M, b < w.heap.size := by
  intro b hb
  simp only [mutsOf, List.mem_cons, List.mem_append, List.mem_map] at hb
  rcases hb with rfl | ((((((((hb | hb) | hb) | hb) | hb) | ⟨x, hx, rfl⟩) | ⟨x, hx, rfl⟩) | ⟨x, hx, rfl⟩))
  · exact h.box.lt
  · exact own_lt h.ps (mem_own hb)
  · exact own_lt h.row (mem_own hb)
  · exact own_lt h.ls (mem_own hb)
  · exact own_lt h.lw (mem_own hb)
  · exact own_lt h.lits (mem_own hb)
  · exact own_lt (h.lists x hx).1 rfl
  · exact own_lt (h.lists x hx).2.1 rfl
  · obtain ⟨i, hi, rfl⟩ := List.getElem_of_mem hx
    obtain ⟨hs, _, _, ho⟩ := h.own i hi
    exact own_lt ho rfl
/-- Only new blocks: all stands. -/
theorem TWp.below {B : Nat} {w w' : World} {wb : Nat} {M : TM} {R : List Nat} {psv rowv lsv lwv litv : Value} {ys : List Value} (h : TWp B w wb M R psv rowv lsv lwv litv ys) (hb : Below w.heap.size w w') : TWp B w' wb M R psv rowv lsv lwv litv ys :=
  ⟨h.low, h.box.below hb, owns_below h.ps hb, owns_below h.row hb, owns_below h.ls hb, owns_below h.lw hb, owns_below h.lits hb, fun b hb2 => Nat.lt_of_lt_of_le (h.res b hb2) hb.size, h.sep, h.apart, fun x hx => ⟨(h.lists x hx).1.below hb, (h.lists x hx).2.1.below hb, (h.lists x hx).2.2⟩, fun i hi => by
    obtain ⟨hs, h1, h2, h3⟩ := h.own i hi; exact ⟨hs, h1, h2, owns_below h3 hb⟩, fun p hp => (h.pairs p hp).save (Save.of (M := []) hb) (by simp) (fun b hb => Or.inl hb)⟩
/-- Lists that a call has just made are set aside. -/
theorem TWp.reserve {B : Nat} {w w' : World} {wb : Nat} {M : TM} {psv rowv lsv lwv litv : Value} {ys : List Value} (h : TWp B w wb M [] psv rowv lsv lwv litv ys) (hb : Below w.heap.size w w') {R : List Nat} (hR : ∀ b ∈ R, w.heap.size ≤ b) (hR2 : ∀ b ∈ R, b < w'.heap.size) (hn : R.Nodup) : TWp B w' wb M R psv rowv lsv lwv litv ys := by
  have h2 := h.below hb
  refine ⟨h2.low, h2.box, h2.ps, h2.row, h2.ls, h2.lw, h2.lits, hR2, h2.sep, ?_, h2.lists, h2.own, fun p hp => ?_⟩
  · have h3 := h.apart
    unfold strsOf at h3 ⊢
    rw [List.nil_append] at h3
    rw [List.nodup_append]
    refine ⟨hn, h3, fun a ha b hb2 e => ?_⟩
    have h4 := hR a ha
    have h5 : b < w.heap.size := h.lt b (by
      simp only [List.mem_append, List.mem_map] at hb2
      simp only [mutsOf, List.mem_cons, List.mem_append, List.mem_map]
      rcases hb2 with hb2 | hb2 | hb2 <;> simp [hb2])
    omega
  · exact (h.pairs p hp).save (Save.of (M := []) hb) (by simp) (fun b hb2 => by
      rcases List.mem_append.1 hb2 with h3 | h3
      · exact Or.inr (hR b h3)
      · exact Or.inl (by simpa using h3))
theorem own_ne_own {w : World} {b1 b2 : Nat} {e1 e2 : TypeId} {s1 s2 : Nat} {v1 v2 : Value} {n1 n2 : Nat} {xs1 xs2 : List Value} (h1 : w.ownsRow b1 e1 s1 v1 n1 xs1) (h2 : w.ownsRow b2 e2 s2 v2 n2 xs2) (hT : e1 ≠ e2) {b : Nat} (hb : v1.ownBlock = some b) : v2.ownBlock ≠ some b := by
  intro hb2
  obtain ⟨_, ⟨hv, _⟩ | ⟨g, cap, cur, hv, _, hh, _⟩⟩ := h1
  · subst hv; cases hb
  · obtain ⟨_, ⟨hv2, _⟩ | ⟨g2, cap2, cur2, hv2, _, hh2, _⟩⟩ := h2
    · subst hv2; cases hb2
    · subst hv; subst hv2
      simp only [Value.ownBlock, Option.some.injEq] at hb hb2
      subst hb; subst hb2
      rw [hh] at hh2
      simp at hh2
      exact hT hh2.2
theorem own_ne_box {w : World} {b1 : Nat} {e T : TypeId} {s1 : Nat} {v1 : Value} {n1 : Nat} {xs1 : List Value} (h1 : w.ownsRow b1 e s1 v1 n1 xs1) {wb : Nat} {c : Array Value} (h2 : Box w wb c T) (hT : e ≠ T) {b : Nat} (hb : v1.ownBlock = some b) : b ≠ wb := by
  rintro rfl
  exact own_ne_type h1 h2 hT hb.symm
end Go.Proofs.YteampbddflhngaaGreat

/- A list joins those that were handed out. -/
namespace Go.Proofs.YteampbddflhngaaGreat
open Go.RowKit
variable {lo : Nat}

theorem texts_tw (B : Nat) (w : World) (wb : Nat) (M : TM) (g : Nat) (R : List Nat) (psv rowv lsv lwv litv : Value) (ys : List Value) (l : List ByteArray) (vb : Value)
    (h : TWp B w wb M (g :: R) psv rowv lsv lwv litv ys) (ha : SIn B w (sl g l.length) l) {lo2 : Nat} (hb : SIn lo2 w vb l) (hl : l.length ≤ 1000) (hn : M.ls.length ≤ 9000000000) :
    Calls Tryz.prog 41 #[.pointer (some ⟨wb, 0, none⟩), sl g l.length, vb] w fun e w' => e = .returned (.bool true) ∧ ∃ lsv' lwv' gc, TWp B w' wb { M with ls := M.ls ++ [(g, gc, l)] } R psv rowv lsv' lwv' litv ys ∧ Save (wb :: (lsv.ownBlock.toList ++ lwv.ownBlock.toList)) w w' ∧ w.heap.size ≤ gc ∧ ∀ b ∈ R ++ mutsOf wb psv rowv lsv' lwv' litv { M with ls := M.ls ++ [(g, gc, l)] }, b ∈ (g :: R) ++ mutsOf wb psv rowv lsv lwv litv M ∨ w.heap.size ≤ b := by
  have hBw : B ≤ w.heap.size := by have := h.low; have := h.box.lt; omega
  refine (texts_any B w wb _ _ _ _ _ _ _ _ _ _ lsv lwv _ _ M.ls.length _ _ g l vb h.box h.ls h.lw h.low h.sep ha hb hl hn).mono fun e w' ⟨he, lsv', lwv', gc, hbx, hls, hlw, hgc, hsin, hat1, hat2, hdis, hsv⟩ => ?_
  have hmut : ∀ b ∈ R ++ mutsOf wb psv rowv lsv' lwv' litv { M with ls := M.ls ++ [(g, gc, l)] }, b ∈ (g :: R) ++ mutsOf wb psv rowv lsv lwv litv M ∨ w.heap.size ≤ b := by
    intro b hb2
    simp only [mutsOf, List.mem_cons, List.mem_append, List.map_append, List.map_cons, List.map_nil] at hb2 ⊢
    rcases hb2 with h1 | h1 | ((((((((h1 | h1) | h1) | h1) | h1) | h1) | h1) | h1))
    · simp [h1]
    · simp [h1]
    · simp [h1]
    · simp [h1]
    · rcases hat1 with h2 | ⟨b2, h2, h3⟩
      · rw [h2] at h1; simp [h1]
      · rw [h2] at h1; simp at h1; subst h1; exact Or.inr h3
    · rcases hat2 with h2 | ⟨b2, h2, h3⟩
      · rw [h2] at h1; simp [h1]
      · rw [h2] at h1; simp at h1; subst h1; exact Or.inr h3
    · simp [h1]
    · rcases h1 with h1 | h1
      · simp [h1]
      · simp at h1; simp [h1]
    · rcases h1 with h1 | h1
      · simp [h1]
      · simp at h1; subst h1; exact Or.inr hgc
    · simp [h1]
  refine ⟨he, lsv', lwv', gc, ?_, hsv, hgc, hmut⟩
  have hz := hsv.size
  have notN : ∀ {b1 : Nat} {e : TypeId} {s1 : Nat} {v : Value} {n1 : Nat} {xs : List Value}, w.ownsRow b1 e s1 v n1 xs → e ≠ 35 → e ≠ 30 → ∀ b, v.ownBlock = some b → b ∉ wb :: (lsv.ownBlock.toList ++ lwv.ownBlock.toList) := by
    intro b1 e s1 v n1 xs ho hT1 hT2 b hvb hm
    rcases List.mem_cons.1 hm with h1 | h1
    · exact own_ne_box ho h.box hT1 hvb h1
    · rcases List.mem_append.1 h1 with h2 | h2
      · exact own_ne_own ho h.ls hT2 hvb (mem_own h2)
      · exact own_ne_own ho h.lw hT2 hvb (mem_own h2)
  have hlt := h.lt
  have hstr : ∀ b ∈ strsOf (g :: R) rowv M, b < w.heap.size := fun b hm => by
    unfold strsOf at hm
    rcases List.mem_append.1 hm with h1 | h1
    · exact h.res b h1
    · refine hlt b ?_
      simp only [List.mem_append, List.mem_map] at h1
      simp only [mutsOf, List.mem_cons, List.mem_append, List.mem_map]
      rcases h1 with h1 | h1 | h1 <;> simp [h1]
  refine ⟨h.low, hbx, own_save h.ps hsv (notN h.ps (by decide) (by decide)), own_save h.row hsv (notN h.row (by decide) (by decide)), ?_, ?_, own_save h.lits hsv (notN h.lits (by decide) (by decide)), fun b hb2 => Nat.lt_of_lt_of_le (h.res b (List.mem_cons_of_mem _ hb2)) hz, hdis, ?_, ?_, ?_, ?_⟩
  · simpa [lsCells, sl] using hls
  · simpa [lwCells, sl] using hlw
  · have hp : (strsOf R rowv { M with ls := M.ls ++ [(g, gc, l)] }).Perm (gc :: strsOf (g :: R) rowv M) := by
      rw [List.perm_iff_count]
      intro a
      simp only [strsOf, List.map_append, List.map_cons, List.map_nil, List.count_append, List.count_cons, List.count_nil, List.cons_append]
      omega
    rw [hp.nodup_iff, List.nodup_cons]
    exact ⟨fun hm => by have := hstr gc hm; omega, h.apart⟩
  · intro x hx
    rcases List.mem_append.1 hx with hx | hx
    · obtain ⟨h1, h2, h3⟩ := h.lists x hx
      exact ⟨own_save h1 hsv (notN h1 (by decide) (by decide)), own_save h2 hsv (notN h2 (by decide) (by decide)), h3⟩
    · simp at hx
      subst hx
      exact ⟨own_save ha hsv (notN ha (by decide) (by decide)), hsin.low hBw, hl⟩
  · intro i hi
    obtain ⟨hs, h1, h2, h3⟩ := h.own i hi
    exact ⟨hs, h1, h2, own_save h3 hsv (notN h3 (by decide) (by decide))⟩
  · intro p hp
    refine (h.pairs p hp).save hsv ?_ ?_
    · intro b hb2
      simp only [List.mem_cons, List.mem_append] at hb2
      simp only [mutsOf, List.mem_cons, List.mem_append]
      rcases hb2 with h1 | h1 | h1 <;> simp [h1]
    · exact hmut
end Go.Proofs.YteampbddflhngaaGreat
