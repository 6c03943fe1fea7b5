import Derived.Test.YteampbddflhngaaGreatP22

/- derivelaw.World.owner in the world of Tells. -/
namespace Go.Proofs.YteampbddflhngaaGreat
open Go.RowKit
variable {lo : Nat}

set_option maxRecDepth 100000 in
set_option maxHeartbeats 2000000 in
theorem owner_f (w : World) (wb : Nat) (k a b c : Int) (s : ByteArray) (hk : k = 1 ∨ k = 12 ∨ k = 13 ∨ k = 14 ∨ k = 15 ∨ k = 16) :
    Calls Tryz.prog 94 #[.pointer (some ⟨wb, 0, none⟩), .agg #[.int .i64 k, .int .i64 a, .int .i64 b, .int .i64 c, .string s]] w fun e w' => e = .returned (.bool false) ∧ Below w.heap.size w w' := by
  rcases hk with rfl | rfl | rfl | rfl | rfl | rfl
  all_goals
    go_enter Tryz.func94, Tryz.ntmps94
    go_wp2
    go_ret
    exact ⟨rfl, (by repeat' (first | (with_reducible exact Below.refl _ _) | (with_reducible assumption) | (with_reducible refine bdrewN ?_ _) | (with_reducible refine Below.alloc ?_ ?_ _) | (with_reducible refine Below.drew ?_) | (with_reducible refine Below.setCell ?_ ?_ _) | go_size))⟩

def pickN (c : Int) (n : Nat) : Nat := if c < 0 then (-(c + 1)).toNat % n else c.toNat % n
theorem pickN_lt (c : Int) {n : Nat} (hn : 0 < n) : pickN c n < n := by unfold pickN; split <;> exact Nat.mod_lt _ hn
set_option maxRecDepth 100000 in
set_option maxHeartbeats 2000000 in
theorem pickN_any (w : World) (c : Int) (n : Nat) (hn : 0 < n) (hn2 : n ≤ 281474976710656) (hc : -9223372036854775808 ≤ c ∧ c ≤ 9223372036854775807) :
    Calls Tryz.prog 95 #[.int .i64 c, .int .i64 n] w fun e w' => e = .returned (.int .i64 (pickN c n : Int)) ∧ w' = w := by
  obtain ⟨hc1, hc2⟩ := hc
  by_cases h0 : c < 0
  · have HE : Hid (-(c + 1).tmod (n : Int) = (pickN c n : Int)) := by
      unfold pickN; rw [Hid, if_pos h0, ← Int.neg_tmod, Int.tmod_eq_emod_of_nonneg (by omega), Int.natCast_emod, Int.toNat_of_nonneg (by omega)]
    go_enter Tryz.func95, Tryz.ntmps95
    go_wp2
    exact bodyPost_ret (v := .int .i64 (-(c + 1).tmod (n : Int))) (by simp [results, Tryz.results95, go_sem]) rfl ⟨by rw [HE.out], rfl⟩
  · have HE : Hid (c % (n : Int) = (pickN c n : Int)) := by unfold pickN; rw [Hid, if_neg h0, Int.natCast_emod, Int.toNat_of_nonneg (by omega)]
    go_enter Tryz.func95, Tryz.ntmps95
    go_wp2
    exact bodyPost_ret (v := .int .i64 (c % (n : Int))) (by simp [results, Tryz.results95, go_sem]) rfl ⟨by rw [HE.out], rfl⟩

set_option maxRecDepth 100000 in
set_option maxHeartbeats 2000000 in
theorem owner_17t (B : Nat) (w : World) (wb : Nat) (M : TM) (a b c : Int) (s : ByteArray) (h : TW B w wb M) (hn : M.ls.length ≤ 9000000000) (ha : -9223372036854775808 ≤ a ∧ a ≤ 9223372036854775807) (hb : -9223372036854775808 ≤ b ∧ b ≤ 9223372036854775807) :
    Calls Tryz.prog 94 #[.pointer (some ⟨wb, 0, none⟩), .agg #[.int .i64 17, .int .i64 a, .int .i64 b, .int .i64 c, .string s]] w fun e w' => AskPost B w wb M e w' := by
  obtain ⟨psv, rowv, lsv, lwv, litv, ys, ht⟩ := h
  have hB := ht.size
  have KEY : Hid (∀ w1, Below w.heap.size w w1 → AskPost B w wb M (.returned (.bool true)) w1) := fun w1 hb => ⟨rfl, ⟨M, ⟨psv, rowv, lsv, lwv, litv, ys, ht.below hb⟩, Grow.refl M⟩, hb.mono hB⟩
  have HT : Hid (TWp B w wb M [] psv rowv lsv lwv litv ys) := ht
  have hbx := ht.box
  have hls : VIn B 30 w lsv (lsCells M.ls) := by have := ht.ls; simpa [VIn, lsCells] using this
  have hlw : VIn B 30 w lwv (lwCells M.ls) := by have := ht.lw; simpa [VIn, lwCells] using this
  have hl1 : (lsCells M.ls).length = M.ls.length := by simp [lsCells]
  have hl2 : (lwCells M.ls).length = M.ls.length := by simp [lwCells]
  obtain ⟨ao1, cap1, hv1⟩ := own_view ht.ls
  obtain ⟨ao2, cap2, hv2⟩ := own_view ht.lw
  subst hv1
  subst hv2
  obtain ⟨hc, hf⟩ := hbx.rules
  have hlt := hbx.lt
  by_cases h0 : M.ls.length = 0
  · clear ht
    generalize M.ls.length = n at *
    subst h0
    go_enter Tryz.func94, Tryz.ntmps94
    go_wp2
    go_ret
    exact KEY.out _ (by repeat' (first | (with_reducible exact Below.refl _ _) | (with_reducible assumption) | (with_reducible refine bdrewN ?_ _) | (with_reducible refine Below.alloc ?_ ?_ _) | (with_reducible refine Below.drew ?_) | (with_reducible refine Below.setCell ?_ ?_ _) | go_size))
  · clear ht
    go_enter Tryz.func94, Tryz.ntmps94
    go_wp2
    go_quiet ((go_at_call 95; exact Calls.quiet_of_same (pickN_any _ a M.ls.length (by omega) (by omega) ha)))
    obtain ⟨k, hkk⟩ : ∃ k, k = pickN a M.ls.length := ⟨_, rfl⟩
    have hk : k < M.ls.length := by rw [hkk]; exact pickN_lt a (by omega)
    rw [← hkk]
    clear hkk hc hf
    have hB1 : Below w.heap.size w ((w.alloc (.cells #[.int .i64 17, .int .i64 a, .int .i64 b, .int .i64 c, .string s] 67)).drewN nq) := bdrewN ((Below.refl _ _).alloc (Nat.le_refl _) _) _
    have hob : Box ((w.alloc (.cells #[.int .i64 17, .int .i64 a, .int .i64 b, .int .i64 c, .string s] 67)).drewN nq) w.heap.size #[.int .i64 17, .int .i64 a, .int .i64 b, .int .i64 c, .string s] 67 := (Box.new w _ _).below (bdrewN (Below.refl _ _) _)
    generalize (w.alloc (.cells #[.int .i64 17, .int .i64 a, .int .i64 b, .int .i64 c, .string s] 67)).drewN nq = w1 at *
    have hbx1 := hbx.below hB1
    obtain ⟨hc, hf⟩ := hbx1.rules
    have hlt1 := hbx1.lt
    obtain ⟨hoc, hof⟩ := hob.rules
    have hol := hob.lt
    have HT1 : Hid (TWp B w1 wb M [] psv rowv (.slice ao1 M.ls.length cap1) (.slice ao2 M.ls.length cap2) litv ys) := HT.out.below hB1
    have hls1 : VIn B 30 w1 (.slice ao1 M.ls.length cap1) (lsCells M.ls) := owns_below hls hB1
    have hlw1 : VIn B 30 w1 (.slice ao2 M.ls.length cap2) (lwCells M.ls) := owns_below hlw hB1
    obtain ⟨g1, rfl, hg1, hc1⟩ := hls1.cell k (by rw [hl1]; exact hk)
    obtain ⟨g2, rfl, hg2, hc2⟩ := hlw1.cell k (by rw [hl2]; exact hk)
    have e1 : (lsCells M.ls)[k]'(by rw [hl1]; exact hk) = .slice (some ⟨M.ls[k].1, 0, none⟩) M.ls[k].2.2.length M.ls[k].2.2.length := by simp [lsCells, sl]
    have e2 : (lwCells M.ls)[k]'(by rw [hl2]; exact hk) = .slice (some ⟨M.ls[k].2.1, 0, none⟩) M.ls[k].2.2.length M.ls[k].2.2.length := by simp [lwCells, sl]
    rw [e1] at hc1
    rw [e2] at hc2
    obtain ⟨hs1, hs2, hs3⟩ := HT1.out.lists _ (List.getElem_mem hk)
    have HMK : Hid (∀ W, Below w1.heap.size w1 W → ∀ i, i < M.ls[k].2.2.length → ∃ M', TWp B ((W.setCell ⟨M.ls[k].1, i, none⟩ (.string s)).setCell ⟨M.ls[k].2.1, i, none⟩ (.string s)) wb M' [] psv rowv (.slice (some ⟨g1, 0, none⟩) M.ls.length cap1) (.slice (some ⟨g2, 0, none⟩) M.ls.length cap2) litv ys ∧ Grow M M') := fun W hW i hi => ⟨_, (HT1.out.below hW).mark k hk i hi s, ⟨by simp, by simp, by simp, by simp⟩⟩
    have hne : M.ls[k].1 ≠ M.ls[k].2.1 := (nodup_parts HT.out.apart).2.1 _ (List.getElem_mem hk) _ (List.getElem_mem hk)
    clear e1 e2
    generalize M.ls[k].1 = ga at *
    generalize M.ls[k].2.1 = gc at *
    generalize M.ls[k].2.2 = l at *
    have hgl1 := own_lt hs1 rfl
    have hgl2 := own_lt hs2 rfl
    have hgB1 := own_ge hs1 rfl
    have hgB2 := own_ge hs2 rfl
    by_cases hz : l.length = 0
    · have hz2 : ¬ (0 : Int) < (l.length : Int) := by omega
      go_wp2
      go_ret
      exact KEY.out _ hB1
    · have HPOS : Hid (0 < l.length) := by unfold Hid; omega
      have hpz : (0 : Int) < (l.length : Int) := by omega
      have HPK : Hid (∀ W : World, Calls Tryz.prog 95 #[.int .i64 b, .int .i64 l.length] W fun e w' => e = .returned (.int .i64 (pickN b l.length : Int)) ∧ w' = W) := fun W => pickN_any W b l.length HPOS.out (by omega) hb
      go_wp2
      go_quiet ((go_at_call 95; exact Calls.quiet_of_same (HPK.out _)))
      obtain ⟨i, hii⟩ : ∃ i, i = pickN b l.length := ⟨_, rfl⟩
      have hil : i < l.length := by rw [hii]; exact pickN_lt b HPOS.out
      rw [← hii]
      clear hii hc hf hoc hof
      have hB2 : Below w1.heap.size w1 (w1.drewN nq) := bdrewN (Below.refl _ _) _
      generalize w1.drewN nq = w2 at *
      have hz2 := hB2.size
      have hbx2 := hbx1.below hB2
      obtain ⟨hc, hf⟩ := hbx2.rules
      have hlt2 := hbx2.lt
      have hob2 := hob.below hB2
      obtain ⟨hoc, hof⟩ := hob2.rules
      have hol2 := hob2.lt
      have hx1 := (hB2.cell (p := ⟨g1, k, none⟩) hg1).trans hc1
      have hx2 := (hB2.cell (p := ⟨g2, k, none⟩) hg2).trans hc2
      have hg1' : g1 < w2.heap.size := by omega
      have hg2' : g2 < w2.heap.size := by omega
      obtain ⟨M', hM', hG⟩ := HMK.out w2 hB2 i hil
      have HM' : Hid (TWp B ((w2.setCell ⟨ga, i, none⟩ (.string s)).setCell ⟨gc, i, none⟩ (.string s)) wb M' [] psv rowv (.slice (some ⟨g1, 0, none⟩) M.ls.length cap1) (.slice (some ⟨g2, 0, none⟩) M.ls.length cap2) litv ys) := hM'
      have HG : Hid (Grow M M') := hG
      have hs1' := hs1.below hB2
      have hs2' := hs2.below hB2
      clear HMK hM' hG hc1 hc2
      obtain ⟨_, hga, hgla, hca⟩ := SIn.cell hs1' i hil
      obtain ⟨_, hgb, hglb, hcb⟩ := SIn.cell hs2' i hil
      simp at hga hgb
      subst hga
      subst hgb
      have hfa := own_free hs1'
      have hfb := own_free hs2'
      have hnw1 : ga ≠ wb := own_ne_box hs1' hbx2 (by decide) rfl
      have hnw2 : gc ≠ wb := own_ne_box hs2' hbx2 (by decide) rfl
      have hno1 : ga ≠ w.heap.size := own_ne_box hs1' hob2 (by decide) rfl
      have hni : ga ≠ g2 := fun e => own_ne_own hs1' (owns_below hlw1 hB2) (by decide) rfl (by rw [e]; rfl)
      generalize l[i] = x at *
      go_wp2
      have hsw : Save [ga] w2 (w2.setCell ⟨ga, i, none⟩ (.string s)) := Save.set w2 ga i _
      have hcB : (w2.setCell ⟨ga, i, none⟩ (.string s)).cell? ⟨gc, i, none⟩ = some (.string x) := by
        rw [World.cell?_of_block (w := w2) (hsw.block gc hglb (by simp; exact Ne.symm hne))]; exact hcb
      have hbB : Below B w (((w2.setCell ⟨ga, i, none⟩ (.string s)).setCell ⟨gc, i, none⟩ (.string s))) := (((hB1.mono hB).trans (hB2.mono (by have := hB1.size; omega))).setCell hgB1 _).setCell hgB2 _
      go_region
      go_wp2
      go_region
      go_wp2
      go_ret
      exact ⟨rfl, ⟨M', ⟨_, _, _, _, _, _, HM'.out.below (Below.refl _ _).drew.drew⟩, HG.out⟩, hbB.drew.drew⟩
end Go.Proofs.YteampbddflhngaaGreat

/- The register of terms in the world of Tells. -/
namespace Go.Proofs.YteampbddflhngaaGreat
open Go.RowKit
variable {lo : Nat}

theorem TWp.rerow {B : Nat} {w W : World} {wb : Nat} {M : TM} {psv rowv lsv lwv litv : Value} {ys : List Value} (h : TWp B w wb M [] psv rowv lsv lwv litv ys) (hs : Save rowv.ownBlock.toList w W) {v' : Value} {n' : Nat} {ys' : List Value} (ho : W.ownsRow B 9 1 v' n' ys')
    (hat : v'.ownBlock = rowv.ownBlock ∨ v'.ownBlock = none ∨ ∃ g, v'.ownBlock = some g ∧ w.heap.size ≤ g) : TWp B (W.setCell ⟨wb, 9, none⟩ v') wb { M with nr := n' } [] psv v' lsv lwv litv ys' := by
  obtain ⟨hn1, hn2, hn3, hn4⟩ := nodup_parts h.apart
  have hwl := h.box.lt
  have hbW : Box W wb #[psv, .slice none 0 0, .slice none 0 0, .slice none 0 0, .int .i64 0, .int .i64 0, .int .i64 0, .slice none 0 0, .bool true, rowv, lsv, lwv, .slice none 0 0, litv] 35 := h.box.save hs (own_ne_list h.row h.box (by decide))
  have hsv : Save (wb :: rowv.ownBlock.toList) w (W.setCell ⟨wb, 9, none⟩ v') := (hs.more (fun x hx => List.mem_cons_of_mem _ hx)).trans ((Save.set W wb 9 v').more (by simp))
  have notN : ∀ {b1 : Nat} {e : TypeId} {s1 : Nat} {v : Value} {n1 : Nat} {xs : List Value}, w.ownsRow b1 e s1 v n1 xs → e ≠ 35 → e ≠ 9 → ∀ b, v.ownBlock = some b → b ∉ wb :: rowv.ownBlock.toList := by
    intro b1 e s1 v n1 xs ho2 hT1 hT2 b hvb hm
    rcases List.mem_cons.1 hm with h1 | h1
    · exact own_ne_box ho2 h.box hT1 hvb h1
    · exact own_ne_own ho2 h.row hT2 hvb (mem_own h1)
  have notL : ∀ x ∈ M.ls, x.1 ∉ wb :: rowv.ownBlock.toList ∧ x.2.1 ∉ wb :: rowv.ownBlock.toList := by
    intro x hx
    obtain ⟨h1, h2, _⟩ := h.lists x hx
    constructor
    · intro hm
      rcases List.mem_cons.1 hm with h3 | h3
      · exact own_ne_box h1 h.box (by decide) rfl h3
      · exact (hn1 _ (by simpa using h3) x hx).1 rfl
    · intro hm
      rcases List.mem_cons.1 hm with h3 | h3
      · exact own_ne_box h2 h.box (by decide) rfl h3
      · exact (hn1 _ (by simpa using h3) x hx).2 rfl
  have hmut : ∀ b, b ∈ M.ls.map (·.1) ++ M.ls.map (·.2.1) → b < w.heap.size := fun b hb => h.lt b (by
    simp only [mutsOf, List.mem_cons, List.mem_append, List.mem_map]
    rcases List.mem_append.1 hb with h1 | h1
    · simp only [List.mem_map] at h1; simp [h1]
    · simp only [List.mem_map] at h1; simp [h1])
  refine ⟨h.low, ?_, own_save h.ps hsv (notN h.ps (by decide) (by decide)), own_but ho ((But.refl wb W).setCell 9 v') hbW (by decide), own_save h.ls hsv (notN h.ls (by decide) (by decide)), own_save h.lw hsv (notN h.lw (by decide) (by decide)), own_save h.lits hsv (notN h.lits (by decide) (by decide)), by simp, h.sep, ?_, ?_, ?_, ?_⟩
  · have hq := hbW.set 9 v'; simpa using hq
  · have hold := h.apart
    unfold strsOf at hold ⊢
    rw [List.nil_append] at hold ⊢
    rcases hat with h1 | h1 | ⟨g, h1, h2⟩
    · rw [h1]; exact hold
    · rw [h1]
      rw [List.nodup_append] at hold
      simpa using hold.2.1
    · rw [h1]
      rw [List.nodup_append] at hold
      show (g :: (M.ls.map (·.1) ++ M.ls.map (·.2.1))).Nodup
      rw [List.nodup_cons]
      exact ⟨fun hm => by have := hmut g hm; omega, hold.2.1⟩
  · intro x hx
    obtain ⟨h1, h2, h3⟩ := h.lists x hx
    refine ⟨own_save h1 hsv (fun b hb => ?_), own_save h2 hsv (fun b hb => ?_), h3⟩
    · simp only [sl, Value.ownBlock, Option.some.injEq] at hb; subst hb; exact (notL x hx).1
    · simp only [sl, Value.ownBlock, Option.some.injEq] at hb; subst hb; exact (notL x hx).2
  · intro i hi
    obtain ⟨hs2, h1, h2, h3⟩ := h.own i hi
    exact ⟨hs2, h1, h2, own_save h3 hsv (notN h3 (by decide) (by decide))⟩
  · intro p hp
    refine (h.pairs p hp).save hsv ?_ ?_
    · intro b hb
      simp only [List.mem_cons] at hb
      simp only [List.nil_append, mutsOf, List.mem_cons, List.mem_append]
      rcases hb with h1 | h1 <;> simp [h1]
    · intro b hb
      simp only [List.nil_append, mutsOf, List.mem_cons, List.mem_append] at hb ⊢
      rcases hb with h1 | ((((((((h1 | h1) | h1) | h1) | h1) | h1) | h1) | h1))
      · simp [h1]
      · simp [h1]
      · rcases hat with h2 | h2 | ⟨g, h2, h3⟩
        · rw [h2] at h1; simp [h1]
        · rw [h2] at h1; simp at h1
        · rw [h2] at h1; simp at h1; subst h1; exact Or.inr h3
      all_goals simp [h1]

section
variable {P : Program} {ops : Array Oper} {o : Oper} {a : Act} {K : Act → World → Prop} {Q : Exit → Act → World → Prop}
/-- As step_push, and where the list lies behind it. -/
theorem step_push2 {E : Prop} (wO wA : World) (l : List Value) (te : TypeId) (hg : o.guard = none) (s x : Operand) (t : TypeId)
    (ho : o.op = .call { callee := .builtin .append, args := #[s, x], argTypes := #[t, t] })
    (base : Nat) (e : TypeId) (i : TypeInfo) (z : Value) (size bytes : Nat) (ht : P.underlying t = some (.slice e)) (hi : P.info? e = some i) (hz : i.zero = some z)
    (hsize : i.size = size) (hby : i.bytes = bytes) (hzs : z.cells.size = size) (hsz : 0 < size)
    (v : Value) (n : Nat) (xs : List Value) (hs : a.eval s = v) (hown : wO.ownsRow base e size v n xs) (hbO : Below wO.heap.size wO wA)
    (b c : Nat) (hx : a.eval x = .slice (some ⟨b, 0, none⟩) 1 c) (hb : Box wA b l.toArray te) (hl : l.length = size) (h1 : ∀ u ∈ l, u.oneCell' = true)
    (hn : n ≤ 1048576) (hbytes : bytes ≤ 1000) (hbase : base ≤ wO.heap.size)
    (h : ∀ v' w', w'.ownsRow base e size v' (n + 1) (xs ++ l) → Save v.ownBlock.toList wO w' → (v'.ownBlock = v.ownBlock ∨ ∃ g, v'.ownBlock = some g ∧ wO.heap.size ≤ g) → (∀ k, k < wA.heap.size → some k ≠ v.ownBlock → w'.heap[k]? = wA.heap[k]?) → wA.heap.size ≤ w'.heap.size → K (a.put o.dst v') w') :
    if Region.wanted o (yielded ops a.tmps) = true then Oper.wp P o a wA K Q else E := by
  have hw : Region.wanted o (yielded ops a.tmps) = true := by simp [Region.wanted, hg]
  rw [if_pos hw]
  have hown' := owns_below hown hbO
  have hsz0 := hbO.size
  obtain ⟨v', w', hr, h2, hgr, _, hat⟩ := run_append_own_at (P := P) wA base t o.type e i z size bytes ht hi hz hsize hby hzs hsz v n xs hown' ⟨b, 0, none⟩ 1 c l (by omega) (by
    intro j u hj
    rw [Addr.add_lit, Nat.zero_add, hb.rules.1]
    simpa using hj) h1 (by unfold maxLen; omega) (by
    have : (n + 1) * bytes ≤ 1048577 * 1000 := Nat.mul_le_mul (by omega) hbytes
    omega) (by omega)
  unfold Oper.wp execOp
  simp only [ho, resolve, invoke, builtin, Sem.run_bind, Sem.run_pure, Result.andThen_ok, List.map_toArray, List.map_cons, List.map_nil, hs, hx, hr]
  refine h v' w' h2 ⟨hgr.os.trans hbO.os, hgr.tape.trans hbO.tape, hgr.output.trans hbO.output, by have := hgr.size; omega, fun k hk hm => ?_⟩ ?_ (fun k hk hne => hgr.block k hk hne) hgr.size
  · rw [hgr.block k (by omega) (fun e => hm (by rw [← e]; simp))]
    exact hbO.block k hk
  · rcases hat with h3 | h3
    · exact Or.inl h3
    · exact Or.inr ⟨_, h3, by omega⟩
end
end Go.Proofs.YteampbddflhngaaGreat

/- derivelaw.World.owner, kind 9, in the world of Tells. -/
namespace Go.Proofs.YteampbddflhngaaGreat
open Go.RowKit
variable {lo : Nat}

theorem AskPost.row {B : Nat} {w W : World} {wb : Nat} {M : TM} {e : Ending} (he : e = .returned (.bool true)) {n' : Nat} {psv rowv lsv lwv litv : Value} {ys : List Value} (h : TWp B W wb { M with nr := n' } [] psv rowv lsv lwv litv ys) (hn : n' ≤ M.nr + 1) (hb : Below B w W) : AskPost B w wb M e W :=
  ⟨he, ⟨_, ⟨psv, rowv, lsv, lwv, litv, ys, h⟩, ⟨by simp, hn, by simp, by simp⟩⟩, hb⟩

set_option maxRecDepth 100000 in
set_option maxHeartbeats 2000000 in
theorem owner_9t (B : Nat) (w : World) (wb : Nat) (M : TM) (a b c : Int) (s : ByteArray) (h : TW B w wb M) (hnr : M.nr ≤ 1048575) :
    Calls Tryz.prog 94 #[.pointer (some ⟨wb, 0, none⟩), .agg #[.int .i64 9, .int .i64 a, .int .i64 b, .int .i64 c, .string s]] w fun e w' => AskPost B w wb M e w' := by
  obtain ⟨i0, hi, hz0, hzs, hzb⟩ := info_parts Tryz.infoString
  obtain ⟨psv, rowv, lsv, lwv, litv, ys, ht⟩ := h
  have hBw := ht.size
  have hB := ht.low
  have hb := ht.box
  have hrow := ht.row
  have HT : Hid (TWp B w wb M [] psv rowv lsv lwv litv ys) := ht
  obtain ⟨aor, capr, rfl⟩ := own_view hrow
  clear ht
  obtain ⟨hc, hf⟩ := hb.rules
  have hlt := hb.lt
  cases hbit : (bits BinOp.and IntKind.i64 a 1 == 1) with
  | false =>
    go_enter Tryz.func94, Tryz.ntmps94
    go_wp2
    go_region_law (first | (refine step_push2 w _ [.string s] 9 rfl (.tmp 177) (.tmp 180) 30 rfl B 9 i0 _ 1 16 Tryz.underlying30 hi hz0 hzs hzb rfl (by decide) (.slice aor M.nr capr) M.nr ys (by simp [Act.eval]) hrow (by exact (by repeat' (first | (with_reducible exact Below.refl _ _) | (with_reducible assumption) | (with_reducible refine bdrewN ?_ _) | (with_reducible refine Below.alloc ?_ ?_ _) | (with_reducible refine Below.drew ?_) | (with_reducible refine Below.setCell ?_ ?_ _) | go_size))) (w.heap.size + 1) 1 (by simp [Act.eval]) (by exact Box.drew (Box.newAt _ _ _ _ (by simp))) rfl (by simp [Value.oneCell']) (by omega) (by omega) (by omega) ?_; intro v' w2 ho3 hS2 hat2 hk2 hz2'; obtain ⟨ao4, cap4, rfl⟩ := own_view ho3; have hb2 := hb.save hS2 (own_ne_list hrow hb (by decide)); obtain ⟨hc2, hf2⟩ := hb2.rules; have hl2 := hb2.lt))
    all_goals
      go_wp2
      go_ret
      exact AskPost.row rfl (HT.out.rerow hS2 ho3 (hat2.elim Or.inl fun q => Or.inr (Or.inr q))) (Nat.le_refl _) ((hS2.below (fun x hx => own_ge hrow (mem_own hx)) hBw).setCell hB _)
  | true =>
    have hb0 : Box (w.setCell ⟨wb, 9, none⟩ (.slice none 0 0)) wb #[psv, .slice none 0 0, .slice none 0 0, .slice none 0 0, .int .i64 0, .int .i64 0, .int .i64 0, .slice none 0 0, .bool true, .slice none 0 0, lsv, lwv, .slice none 0 0, litv] 35 := by have hq := hb.set 9 (.slice none 0 0); simpa using hq
    have HT0 : Hid (TWp B (w.setCell ⟨wb, 9, none⟩ (.slice none 0 0)) wb { M with nr := 0 } [] psv (.slice none 0 0) lsv lwv litv []) := HT.out.rerow (Save.refl _ w) (World.ownsRow_nil _ _ _ _) (Or.inr (Or.inl rfl))
    have hn0 : (w.setCell ⟨wb, 9, none⟩ (.slice none 0 0)).ownsRow B 9 1 (.slice none 0 0) 0 [] := World.ownsRow_nil _ _ _ _
    have hsz0 : (w.setCell ⟨wb, 9, none⟩ (.slice none 0 0)).heap.size = w.heap.size := by simp [World.setCell]
    have hB0 : Below B w (w.setCell ⟨wb, 9, none⟩ (.slice none 0 0)) := (Below.refl _ _).setCell hB _
    go_enter Tryz.func94, Tryz.ntmps94
    go_wp2
    generalize w.setCell ⟨wb, 9, none⟩ (.slice none 0 0) = w0 at *
    obtain ⟨hc0, hf0⟩ := hb0.rules
    have hlt0 := hb0.lt
    go_region_law (first | (refine step_push2 w0 _ [.string s] 9 rfl (.tmp 177) (.tmp 180) 30 rfl B 9 i0 _ 1 16 Tryz.underlying30 hi hz0 hzs hzb rfl (by decide) (.slice none 0 0) 0 [] (by simp [Act.eval]) hn0 (by exact (by repeat' (first | (with_reducible exact Below.refl _ _) | (with_reducible assumption) | (with_reducible refine bdrewN ?_ _) | (with_reducible refine Below.alloc ?_ ?_ _) | (with_reducible refine Below.drew ?_) | (with_reducible refine Below.setCell ?_ ?_ _) | go_size))) (w0.heap.size + 1) 1 (by simp [Act.eval, hsz0]) (by exact Box.drew (Box.newAt _ _ _ _ (by simp))) rfl (by simp [Value.oneCell']) (by omega) (by omega) (by omega) ?_; intro v' w2 ho3 hS2 hat2 hk2 hz2'; obtain ⟨ao4, cap4, rfl⟩ := own_view ho3; have hb2 := hb0.save hS2 (own_ne_list hn0 hb0 (by decide)); obtain ⟨hc2, hf2⟩ := hb2.rules; have hl2 := hb2.lt))
    all_goals
      go_wp2
      go_ret
      exact AskPost.row (n' := 0 + 1) rfl (HT0.out.rerow hS2 ho3 (hat2.elim Or.inl fun q => Or.inr (Or.inr q))) (by omega) ((hB0.trans (hS2.below (fun x hx => by simp [Value.ownBlock] at hx) (by omega))).setCell hB _)
end Go.Proofs.YteampbddflhngaaGreat
