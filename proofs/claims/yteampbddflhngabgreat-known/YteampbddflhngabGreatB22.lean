import Derived.Test.YteampbddflhngabGreatB21

/- Walks: join.Join.agree. -/
namespace Go.Proofs.YteampbddflhngabGreat
open Go.RowKit
variable {lo : Nat}

theorem holdCells_at : ∀ (hs : List (Nat × Nat)) (k : Nat) (hk : k < hs.length), (holdCells hs)[k * 2]? = some (.int .i64 (hs[k].1 : Nat)) ∧ (holdCells hs)[k * 2 + 1]? = some (.int .i64 (hs[k].2 : Nat))
  | [], k, hk => by simp at hk
  | p :: r, 0, _ => by simp [holdCells]
  | p :: r, k + 1, hk => by
    have := holdCells_at r k (by simpa using hk)
    simp only [holdCells, List.flatMap_cons] at this ⊢
    rw [show (k + 1) * 2 = k * 2 + 1 + 1 from by omega, show k * 2 + 1 + 1 + 1 = k * 2 + 1 + 1 + 1 from rfl]
    simpa using this
/-- A variable's holds. -/
theorem JIn.hold {w : World} {jb : Nat} {J : PJoin} {P : JParts} (h : JIn lo w jb J P) (p : Nat) (hp : p < 5) : ∃ ao cap, w.cell? ⟨jb, 5 + p, none⟩ = some (.slice ao (J.holds.getD p []).length cap) ∧ (J.holds.getD p []).length ≤ 1000 ∧ ∀ k (hk : k < (J.holds.getD p []).length), ∃ hb, ao = some ⟨hb, 0, none⟩ ∧ hb < w.heap.size ∧ hb ≠ jb ∧ w.cell? ⟨hb, k * 2, none⟩ = some (.int .i64 ((J.holds.getD p [])[k].1 : Nat)) ∧ w.cell? ⟨hb, k * 2 + 1, none⟩ = some (.int .i64 ((J.holds.getD p [])[k].2 : Nat)) := by
  have h1 : p < J.holds.length := by rw [h.hlen.2]; exact hp
  have h2 : p < P.hvs.length := by rw [h.hlen.1]; exact hp
  have e : J.holds.getD p [] = J.holds[p] := by simp [List.getD_eq_getElem?_getD, h1]
  rw [e]
  obtain ⟨ho, hl, _⟩ := h.holds p h1 h2
  obtain ⟨ao, cap, hv⟩ := own_view ho
  obtain ⟨hc, _⟩ := h.box.rules
  obtain ⟨f1, f2, f3⟩ := h.fives
  refine ⟨ao, cap, ?_, hl, fun k hk => ?_⟩
  · rw [← hv, hc]
    obtain ⟨a1, a2, a3, a4, a5, e1⟩ := five h.hlen.1
    simp only [e1] at h2 ⊢
    obtain rfl | rfl | rfl | rfl | rfl : p = 0 ∨ p = 1 ∨ p = 2 ∨ p = 3 ∨ p = 4 := by omega
    all_goals simp [jcells, e1]
  · obtain ⟨hb, cap', hv2, _, hbl, hcl⟩ := own_cells ho (by omega)
    have hv3 := hv.symm.trans hv2
    simp only [Value.slice.injEq] at hv3
    obtain ⟨c0, c1⟩ := holdCells_at J.holds[p] k hk
    exact ⟨hb, hv3.1, hbl, own_ne_box ho h.box (by decide) (by rw [hv2]; rfl), hcl _ _ c0, hcl _ _ c1⟩
theorem leapJ_keeps (J : PJoin) (h : Nat × Nat) (f : Nat) : (leapJ J h f).1.holds = J.holds := by unfold leapJ; split <;> rfl

set_option maxRecDepth 100000 in
set_option maxHeartbeats 4000000 in
theorem agree_any (w : World) (jb : Nat) (J : PJoin) (P : JParts) (p f n : Nat) (J' : PJoin) (r : Option Nat) (h : JIn lo w jb J P) (hr : agreeJ n J p f = some (J', r)) :
    Calls Tryz.prog 156 #[.pointer (some ⟨jb, 0, none⟩), .int .i64 p, .int .i64 f] w fun e w' => e = .returned (optV r) ∧ JIn lo w' jb J' P ∧ Save [jb] w w' := by
  have HJ : Hid (JIn lo w jb J P) := h
  unfold agreeJ at hr
  by_cases h5 : p ≥ 5
  · rw [if_pos (Or.inl h5)] at hr
    simp only [Option.some.injEq, Prod.mk.injEq] at hr
    obtain ⟨rfl, rfl⟩ := hr
    clear h
    go_enter Tryz.func156, Tryz.ntmps156
    go_wp2
    go_ret2
    exact ⟨rfl, HJ.out, Save.refl _ _⟩
  · obtain ⟨ao, cap, hcH, hlen, hcx⟩ := h.hold p (by omega)
    clear hcx
    obtain ⟨hjl, hjf, _⟩ := h.at
    by_cases h0 : (J.holds.getD p []).length = 0
    · rw [if_pos (Or.inr h0)] at hr
      simp only [Option.some.injEq, Prod.mk.injEq] at hr
      obtain ⟨rfl, rfl⟩ := hr
      clear h
      generalize (J.holds.getD p []).length = hn at *
      subst h0
      go_enter Tryz.func156, Tryz.ntmps156
      go_wp2
      go_ret2
      exact ⟨rfl, HJ.out, Save.refl _ _⟩
    · rw [if_neg (by omega)] at hr
      have HR : Hid (agreeN n J (J.holds.getD p []) f 0 0 = some (J', r)) := hr
      clear hr h
      have hpos : (J.holds.getD p []).length > 0 := by omega
      obtain ⟨hs, hhs⟩ : ∃ hs, hs = J.holds.getD p [] := ⟨_, rfl⟩
      rw [← hhs] at HR hcH hlen hpos
      have HHS : Hid (hs = J.holds.getD p []) := hhs
      clear hhs
      have hz0 : ((hs.length : Int) == 0) = false := beq_eq_false_iff_ne.2 (by omega)
      go_enter Tryz.func156, Tryz.ntmps156
      go_wp2
      go_loopg [8, 9, 10] n (fun k v8 v9 v10 wr => ∃ (Jk : PJoin) (at' same turn : Nat), v8 = .int .i64 at' ∧ v9 = .int .i64 same ∧ v10 = .int .i64 turn ∧ Hid (agreeN k Jk hs at' same turn = some (J', r)) ∧ Hid (JIn lo wr jb Jk P) ∧ Hid (Jk.holds = J.holds) ∧ Save [jb] w wr ∧ same ≤ hs.length ∧ turn < hs.length)
      case atStart => exact ⟨J, f, 0, 0, rfl, rfl, rfl, HR, HJ, rfl, Save.refl _ _, by omega, hpos⟩
      case round =>
        clear hcH
        obtain ⟨Jk, at', same, turn, rfl, rfl, rfl, HQ, HJK, HHK, hsv, hsm, htn⟩ := hrel
        have hjk := HJK.out
        obtain ⟨hjl2, hjf2, _⟩ := hjk.at
        obtain ⟨ao2, cap2, hcH, _, hcell⟩ := hjk.hold p (by omega)
        rw [HHK.out, ← HHS.out] at hcH hcell
        obtain ⟨hb, hao, hhb, hne, hx0, hx1⟩ := hcell turn htn
        subst hao
        clear hcell hjk
        cases gk with
        | zero => have q := HQ.out; simp [agreeN] at q
        | succ m =>
          have q := HQ.out
          unfold agreeN at q
          by_cases hsl : same < hs.length
          · rw [if_pos hsl] at q
            have eg : hs.getD turn (0, 0) = hs[turn] := by simp [List.getD_eq_getElem?_getD, htn]
            rw [eg] at q
            have HLP : Hid (Calls Tryz.prog 158 #[.pointer (some ⟨jb, 0, none⟩), .agg #[.int .i64 (hs[turn].1 : Nat), .int .i64 (hs[turn].2 : Nat)], .int .i64 at'] wr fun e w' => e = .returned (.tuple #[.int .i64 (((leapJ Jk hs[turn] at').2.getD 0 : Nat) : Int), .bool (leapJ Jk hs[turn] at').2.isSome]) ∧ JIn lo w' jb (leapJ Jk hs[turn] at').1 P ∧ Save [jb] wr w') := jleap_any wr jb Jk P hs[turn].1 hs[turn].2 at' HJK.out
            have hkp := leapJ_keeps Jk hs[turn] at'
            generalize hlj : leapJ Jk hs[turn] at' = lj at *
            clear hlj
            obtain ⟨J2, r2⟩ := lj
            generalize hs[turn] = hd at *
            simp only at q HLP hkp
            cases r2 with
            | none =>
              simp only [Option.some.injEq, Prod.mk.injEq] at q
              obtain ⟨e1, e2⟩ := q
              simp only [Option.getD_none, Option.isSome_none] at HLP
              have HE : Hid (J' = J2 ∧ r = none) := ⟨e1.symm, e2.symm⟩
              clear e1 e2
              go_wp2_with (first | (go_at_call 158; refine HLP.out.mono ?_; rintro e w2 ⟨rfl, hj2, hs2⟩; have HJ2 : Hid (JIn lo w2 jb J2 P) := hj2; clear hj2))
              go_ret2
              exact ⟨by rw [HE.out.2]; rfl, by rw [HE.out.1]; exact HJ2.out, hsv.trans hs2⟩
            | some v =>
              simp only [Option.getD_some, Option.isSome_some] at HLP
              have HQ2 : Hid (agreeN m J2 hs (if v > at' then v else at') ((if v > at' then 0 else same) + 1) (if turn + 1 ≥ hs.length then 0 else turn + 1) = some (J', r)) := q
              have HK2 : Hid (J2.holds = J.holds) := hkp.trans HHK.out
              have HHC : Hid (∀ W, JIn lo W jb J2 P → ∃ ao3 cap3, W.cell? ⟨jb, 5 + p, none⟩ = some (.slice ao3 hs.length cap3)) := fun W hW => by
                obtain ⟨ao3, cap3, q1, _⟩ := hW.hold p (by omega)
                rw [HK2.out, ← HHS.out] at q1
                exact ⟨ao3, cap3, q1⟩
              clear q hkp
              by_cases hv : v > at'
              · rw [if_pos hv, if_pos hv] at HQ2
                by_cases ht : turn + 1 ≥ hs.length
                · rw [if_pos ht] at HQ2
                  go_wp2_with (first | (go_at_call 158; refine HLP.out.mono ?_; rintro e w2 ⟨rfl, hj2, hs2⟩; have HJ2 : Hid (JIn lo w2 jb J2 P) := hj2; obtain ⟨ao3, cap3, hc3⟩ := HHC.out w2 hj2; obtain ⟨hjl3, hjf3, _⟩ := hj2.at; clear hj2))
                  go_roundg m
                  case measure => omega
                  case rel => exact ⟨J2, v, 1, 0, rfl, rfl, rfl, HQ2, HJ2, HK2, hsv.trans hs2, by omega, by omega⟩
                · rw [if_neg ht] at HQ2
                  go_wp2_with (first | (go_at_call 158; refine HLP.out.mono ?_; rintro e w2 ⟨rfl, hj2, hs2⟩; have HJ2 : Hid (JIn lo w2 jb J2 P) := hj2; obtain ⟨ao3, cap3, hc3⟩ := HHC.out w2 hj2; obtain ⟨hjl3, hjf3, _⟩ := hj2.at; clear hj2))
                  go_roundg m
                  case measure => omega
                  case rel => exact ⟨J2, v, 1, turn + 1, rfl, rfl, by go_num, HQ2, HJ2, HK2, hsv.trans hs2, by omega, by omega⟩
              · rw [if_neg hv, if_neg hv] at HQ2
                by_cases ht : turn + 1 ≥ hs.length
                · rw [if_pos ht] at HQ2
                  go_wp2_with (first | (go_at_call 158; refine HLP.out.mono ?_; rintro e w2 ⟨rfl, hj2, hs2⟩; have HJ2 : Hid (JIn lo w2 jb J2 P) := hj2; obtain ⟨ao3, cap3, hc3⟩ := HHC.out w2 hj2; obtain ⟨hjl3, hjf3, _⟩ := hj2.at; clear hj2))
                  go_roundg m
                  case measure => omega
                  case rel => exact ⟨J2, at', same + 1, 0, rfl, by go_num, rfl, HQ2, HJ2, HK2, hsv.trans hs2, by omega, by omega⟩
                · rw [if_neg ht] at HQ2
                  go_wp2_with (first | (go_at_call 158; refine HLP.out.mono ?_; rintro e w2 ⟨rfl, hj2, hs2⟩; have HJ2 : Hid (JIn lo w2 jb J2 P) := hj2; obtain ⟨ao3, cap3, hc3⟩ := HHC.out w2 hj2; obtain ⟨hjl3, hjf3, _⟩ := hj2.at; clear hj2))
                  go_roundg m
                  case measure => omega
                  case rel => exact ⟨J2, at', same + 1, turn + 1, rfl, by go_num, by go_num, HQ2, HJ2, HK2, hsv.trans hs2, by omega, by omega⟩
          · rw [if_neg hsl] at q
            simp only [Option.some.injEq, Prod.mk.injEq] at q
            obtain ⟨e1, e2⟩ := q
            have HE : Hid (J' = Jk ∧ r = some at') := ⟨e1.symm, e2.symm⟩
            clear e1 e2
            go_wp2
            go_ret2
            exact ⟨by rw [HE.out.2]; rfl, by rw [HE.out.1]; exact HJK.out, hsv⟩
end Go.Proofs.YteampbddflhngabGreat

/- Walks: join.Join.down. -/
namespace Go.Proofs.YteampbddflhngabGreat
open Go.RowKit
variable {lo : Nat}

theorem flat4_set2 : ∀ (ys : List V4) (k : Nat) (_ : k < ys.length) (u : Value), (flat4 ys).set (k * 4 + 2) u = flat4 (ys.modify k fun y => (y.1, y.2.1, u, y.2.2.2))
  | [], k, hk, _ => by simp at hk
  | y :: r, 0, _, u => by simp [flat4, cell4]
  | y :: r, k + 1, hk, u => by
    have := flat4_set2 r k (by simpa using hk) u
    simp only [flat4, List.flatMap_cons, cell4, List.modify_succ_cons] at this ⊢
    rw [show (k + 1) * 4 + 2 = k * 4 + 2 + 1 + 1 + 1 + 1 from by omega]
    simpa using this
theorem flat4_set3 : ∀ (ys : List V4) (k : Nat) (_ : k < ys.length) (u : Value), (flat4 ys).set (k * 4 + 3) u = flat4 (ys.modify k fun y => (y.1, y.2.1, y.2.2.1, u))
  | [], k, hk, _ => by simp at hk
  | y :: r, 0, _, u => by simp [flat4, cell4]
  | y :: r, k + 1, hk, u => by
    have := flat4_set3 r k (by simpa using hk) u
    simp only [flat4, List.flatMap_cons, cell4, List.modify_succ_cons] at this ⊢
    rw [show (k + 1) * 4 + 3 = k * 4 + 3 + 1 + 1 + 1 + 1 from by omega]
    simpa using this
/-- A side's node is written. -/
theorem JIn.setNode {w : World} {jb : Nat} {J : PJoin} {P : JParts} (h : JIn lo w jb J P) (s i n : Nat) (hs : s < J.sides.length) (hi : i = 1 ∨ i = 2) {sb cap : Nat} (hv : P.sv = .slice (some ⟨sb, 0, none⟩) J.sides.length cap) :
    JIn lo (w.setCell ⟨sb, s * 4 + 1 + i, none⟩ (.int .i64 (n : Nat))) jb { J with sides := J.sides.set s { J.sides[s] with nodes := J.sides[s].nodes.set i n } } P := by
  have hst := Save.set w sb (s * 4 + 1 + i) (.int .i64 (n : Nat))
  have hso := h.sides
  rw [hv] at hso
  have hk2 : s < P.tbs.length := by rw [h.slen]; exact hs
  have hn3 := h.nodes _ (List.getElem_mem hs)
  have nt : ∀ {b1 : Nat} {e : TypeId} {s1 : Nat} {v : Value} {n1 : Nat} {xs : List Value}, w.ownsRow b1 e s1 v n1 xs → e ≠ 243 → ∀ b, v.ownBlock = some b → b ∉ [sb] := fun ho hT b hvb hm => own_ne_own ho hso hT hvb (by simp at hm; rw [hm]; rfl)
  obtain ⟨cur, hbs⟩ := own_block hso
  have nn : ∀ {tb : Nat} {T : PTrie} {fp : List Nat}, TrieAt lo w tb T fp → TrieAt lo (w.setCell ⟨sb, s * 4 + 1 + i, none⟩ (.int .i64 (n : Nat))) tb T fp := fun ht => ht.save hst (fun b hb hm => by simp at hm; subst hm; exact ht.notin (show Box w _ cur 243 from hbs) (by decide) (by decide) (by decide) hb)
  refine ⟨h.low, h.box.save hst (by have := own_ne_box hso h.box (by decide) rfl; simpa using Ne.symm this), h.head.save hst (nt h.head.own (by decide)), ?_, by simpa using h.slen, fun k a b => ?_, fun x hx => ?_, own_save h.bars hst (nt h.bars (by decide)), h.blen, fun k a b => ⟨(h.btries k a b).1.save hst (nt (h.btries k a b).1.own (by decide)), nn (h.btries k a b).2⟩, h.hlen, fun p a b => ⟨own_save (h.holds p a b).1 hst (nt (h.holds p a b).1 (by decide)), (h.holds p a b).2⟩, h.fives, by simpa using h.few⟩
  · have hlen : (flat4 (List.zipWith side4 J.sides P.tbs)).length = J.sides.length * 4 := by rw [flat4_len]; simp [h.slen]
    have q := own_set hso (s * 4 + 1 + i) (by omega) (.int .i64 (n : Nat))
    rw [hv]
    have e : (flat4 (List.zipWith side4 J.sides P.tbs)).set (s * 4 + 1 + i) (.int .i64 (n : Nat)) = flat4 (List.zipWith side4 (J.sides.set s { J.sides[s] with nodes := J.sides[s].nodes.set i n }) P.tbs) := by
      have hz : s < (List.zipWith side4 J.sides P.tbs).length := by simp; omega
      rcases hi with rfl | rfl
      · rw [show s * 4 + 1 + 1 = s * 4 + 2 from by omega, flat4_set2 _ s hz]
        congr 1
        apply List.ext_getElem
        · simp
        · intro j h1 h2
          simp only [List.getElem_modify, List.getElem_zipWith, List.getElem_set]
          by_cases e : s = j
          · subst e
            simp [side4, List.getD_eq_getElem?_getD, hn3]
          · simp [e]
      · rw [show s * 4 + 1 + 2 = s * 4 + 3 from by omega, flat4_set3 _ s hz]
        congr 1
        apply List.ext_getElem
        · simp
        · intro j h1 h2
          simp only [List.getElem_modify, List.getElem_zipWith, List.getElem_set]
          by_cases e : s = j
          · subst e
            simp [side4, List.getD_eq_getElem?_getD, hn3]
          · simp [e]
    rw [e] at q
    simpa using q
  · simp only [List.length_set] at a
    simp only [List.getElem_set]
    split
    · rename_i e
      subst e
      exact nn (h.tries s hs b)
    · exact nn (h.tries k a b)
  · rcases List.mem_or_eq_of_mem_set hx with q | q
    · exact h.nodes x q
    · subst q; simp [hn3]

set_option maxRecDepth 100000 in
set_option maxHeartbeats 4000000 in
theorem jdown_any (w : World) (jb : Nat) (J : PJoin) (P : JParts) (s l v : Nat) (h : JIn lo w jb J P) (hlb : l ≤ 1000000) :
    Calls Tryz.prog 159 #[.pointer (some ⟨jb, 0, none⟩), .agg #[.int .i64 s, .int .i64 l], .int .i64 v] w fun e w' => e = .returned (.tuple #[]) ∧ JIn lo w' jb (downJ v J (s, l)) P ∧ Save P.sv.ownBlock.toList w w' := by
  have HST : Hid (∀ W, Below w.heap.size w W → Calls Tryz.prog 160 #[.pointer (some ⟨jb, 0, none⟩), .agg #[.int .i64 s, .int .i64 l]] W fun e w' => e = .returned (.bool (standsJ J (s, l))) ∧ Below W.heap.size W w') := fun W hW => stands_any W jb J P s l (h.below hW)
  have HJ : Hid (JIn lo w jb J P) := h
  cases hst : standsJ J (s, l) with
  | false =>
    have HE : Hid (downJ v J (s, l) = J) := by simp [Hid, downJ, hst]
    rw [hst] at HST
    clear hst h
    go_enter Tryz.func159, Tryz.ntmps159
    go_wp2_with (first | (go_at_call 160; refine (HST.out _ (by exact (by repeat' (first | (with_reducible exact Below.refl _ _) | (with_reducible assumption) | (with_reducible refine bdrewN ?_ _) | (with_reducible refine Below.alloc ?_ ?_ _) | (with_reducible refine Below.drew ?_) | (with_reducible refine Below.setCell ?_ ?_ _) | go_size)))).mono ?_; rintro e w1 ⟨rfl, hb1⟩; have hB1 : Below w.heap.size w w1 := bnext (by repeat' (first | (with_reducible exact Below.refl _ _) | (with_reducible assumption) | (with_reducible refine bdrewN ?_ _) | (with_reducible refine Below.alloc ?_ ?_ _) | (with_reducible refine Below.drew ?_) | (with_reducible refine Below.setCell ?_ ?_ _) | go_size)) hb1 (Nat.le_refl _)))
    (try simp only [Exit.inBlock, Exit.then]); refine bodyPost_ret (results_none rfl _ _ _) rfl ?_
    exact ⟨rfl, by rw [HE.out]; exact HJ.out.below hB1, Save.of hB1⟩
  | true =>
    have hsl : s < J.sides.length ∧ l < 3 := by simpa [standsJ] using hst
    obtain ⟨hs, hl⟩ := hsl
    by_cases hl2 : l + 1 ≥ 3
    · have HE : Hid (downJ v J (s, l) = J) := by simp [Hid, downJ, hl2]
      rw [hst] at HST
      clear hst h
      go_enter Tryz.func159, Tryz.ntmps159
      go_wp2_with (first | (go_at_call 160; refine (HST.out _ (by exact (by repeat' (first | (with_reducible exact Below.refl _ _) | (with_reducible assumption) | (with_reducible refine bdrewN ?_ _) | (with_reducible refine Below.alloc ?_ ?_ _) | (with_reducible refine Below.drew ?_) | (with_reducible refine Below.setCell ?_ ?_ _) | go_size)))).mono ?_; rintro e w1 ⟨rfl, hb1⟩; have hB1 : Below w.heap.size w w1 := bnext (by repeat' (first | (with_reducible exact Below.refl _ _) | (with_reducible assumption) | (with_reducible refine bdrewN ?_ _) | (with_reducible refine Below.alloc ?_ ?_ _) | (with_reducible refine Below.drew ?_) | (with_reducible refine Below.setCell ?_ ?_ _) | go_size)) hb1 (Nat.le_refl _); have hbx := (Box.new w #[.int .i64 s, .int .i64 l] 247).below hb1; obtain ⟨hhc, hhf⟩ := hbx.rules; have hhl := hbx.lt))
      (try simp only [Exit.inBlock, Exit.then]); refine bodyPost_ret (results_none rfl _ _ _) rfl ?_
      exact ⟨rfl, by rw [HE.out]; exact HJ.out.below hB1, Save.of hB1⟩
    · have HE : Hid (downJ v J (s, l) = { J with sides := J.sides.set s { J.sides[s] with nodes := J.sides[s].nodes.set (l + 1) ((downP J.sides[s].rows (J.sides[s].nodes.getD l 0) v).getD 0) } }) := by simp [Hid, downJ, hst, hl2, List.getD_eq_getElem?_getD, hs]
      rw [hst] at HST
      have hsI : (s : Int) < (J.sides.length : Int) := by omega
      have hlI : (l : Int) < 3 := by omega
      have hlI2 : (l : Int) + 1 < 3 := by omega
      obtain ⟨hjl0, _⟩ := h.at
      clear hst h
      go_enter Tryz.func159, Tryz.ntmps159
      go_wp2_with (first | (go_at_call 160; refine (HST.out _ (by exact (by repeat' (first | (with_reducible exact Below.refl _ _) | (with_reducible assumption) | (with_reducible refine bdrewN ?_ _) | (with_reducible refine Below.alloc ?_ ?_ _) | (with_reducible refine Below.drew ?_) | (with_reducible refine Below.setCell ?_ ?_ _) | go_size)))).mono ?_; rintro e w1 ⟨rfl, hb1⟩; have hB1 : Below w.heap.size w w1 := bnext (by repeat' (first | (with_reducible exact Below.refl _ _) | (with_reducible assumption) | (with_reducible refine bdrewN ?_ _) | (with_reducible refine Below.alloc ?_ ?_ _) | (with_reducible refine Below.drew ?_) | (with_reducible refine Below.setCell ?_ ?_ _) | go_size)) hb1 (Nat.le_refl _); have hbx := (Box.new w #[.int .i64 s, .int .i64 l] 247).below hb1; obtain ⟨hhc, hhf⟩ := hbx.rules; have hhl := hbx.lt))
      have HJ1 : Hid (JIn lo w1 jb J P) := HJ.out.below hB1
      have hj1 := HJ1.out
      obtain ⟨hjl2, hjf2, _, _, _, hd3, _⟩ := hj1.at
      obtain ⟨sb, cap, tb, fp, hsv, hsb, hne, hp0, hp1, htr, hsf⟩ := hj1.side s l hs hl
      rw [hsv] at hd3
      have HLP : Hid (∀ n, Calls Tryz.prog 82 #[.pointer (some ⟨tb, 0, none⟩), .int .i64 ((J.sides[s].nodes.getD l 0 : Nat) : Int), .int .i64 v] (w1.drewN n) fun e w' => e = .returned (.tuple #[.int .i64 (((downP J.sides[s].rows (J.sides[s].nodes.getD l 0) v).getD 0 : Nat) : Int), .bool (downP J.sides[s].rows (J.sides[s].nodes.getD l 0) v).isSome]) ∧ w' = w1.drewN n) := fun n => down_any _ tb _ fp _ v (htr.below (bdrewN (Below.refl _ _) n))
      have HNX : Hid (∀ W n, Below w1.heap.size w1 W → JIn lo (W.setCell ⟨sb, s * 4 + 1 + (l + 1), none⟩ (.int .i64 ((n : Nat) : Int))) jb { J with sides := J.sides.set s { J.sides[s] with nodes := J.sides[s].nodes.set (l + 1) n } } P) := fun W n hW => (HJ1.out.below hW).setNode s (l + 1) n hs (by omega) hsv
      have HSB : Hid (P.sv.ownBlock.toList = [sb]) := by rw [Hid, hsv]; rfl
      have hcell : ∃ u, w1.cell? ⟨sb, s * 4 + 1 + (l + 1), none⟩ = some u := by
        obtain ⟨sb', cap', tb', fp', hsv', _, _, _, q, _⟩ := HJ1.out.side s (l + 1) hs (by omega)
        rw [hsv] at hsv'
        simp only [Value.slice.injEq, Option.some.injEq, Addr.mk.injEq] at hsv'
        obtain ⟨⟨rfl, _⟩, _⟩ := hsv'
        exact ⟨_, q⟩
      obtain ⟨u, hcu⟩ := hcell
      clear htr hj1
      generalize (downP J.sides[s].rows (J.sides[s].nodes.getD l 0) v).getD 0 = dn at *
      generalize (downP J.sides[s].rows (J.sides[s].nodes.getD l 0) v).isSome = ds at *
      generalize J.sides[s].nodes.getD l 0 = nd at *
      go_quiet ((go_at_call 82; exact Calls.quiet_of_same (HLP.out _)))
      have hB2 : Below w1.heap.size w1 (w1.drewN nq) := bdrewN (Below.refl _ _) _
      clear hhc hhf hhl hjl2 hjf2 hsf HLP
      have hd3' := (hB2.cell (p := ⟨jb, 3, none⟩) (HJ1.out.box.lt)).trans hd3
      have hcu' := (hB2.cell (p := ⟨sb, s * 4 + 1 + (l + 1), none⟩) hsb).trans hcu
      have hbx2 := hbx.below hB2
      have HN2 := HNX.out _ dn hB2
      have hsf2 : ∀ o, (w1.drewN nq).frozen? ⟨sb, o, none⟩ = false := by
        obtain ⟨sb', cap', tb', fp', hsv', _, _, _, _, _, q⟩ := (HJ1.out.below hB2).side s l hs hl
        rw [hsv] at hsv'
        simp only [Value.slice.injEq, Option.some.injEq, Addr.mk.injEq] at hsv'
        obtain ⟨⟨rfl, _⟩, _⟩ := hsv'
        exact q
      have hS2 : Save [sb] w (w1.drewN nq) := Save.of (bnext hB1 hB2 (Nat.le_refl _))
      have hsb2 : sb < (w1.drewN nq).heap.size := Nat.lt_of_lt_of_le hsb hB2.size
      have hjl2 : jb < (w1.drewN nq).heap.size := Nat.lt_of_lt_of_le HJ1.out.box.lt hB2.size
      have hnh : sb ≠ w.heap.size := fun e => by
        have hso := HJ1.out.sides
        rw [hsv] at hso
        exact own_ne_box hso hbx (by decide) rfl e
      generalize w1.drewN nq = w2 at *
      have HN3 : Hid (JIn lo (w2.setCell ⟨sb, s * 4 + 1 + (l + 1), none⟩ (.int .i64 ((dn : Nat) : Int))) jb { J with sides := J.sides.set s { J.sides[s] with nodes := J.sides[s].nodes.set (l + 1) dn } } P) := HN2
      clear HN2 HNX hd3 hcu hp0 hp1 hbx HJ HST
      obtain ⟨hhc, hhf⟩ := hbx2.rules
      have hhl := hbx2.lt
      go_wp2
      go_region
      all_goals
        go_wp2
        go_end0
        exact ⟨rfl, by rw [HE.out]; exact HN3.out.below (Below.refl _ _).drew, by rw [HSB.out]; exact (hS2.trans (Save.set _ _ _ _)).newer (Save.of (M := []) (Below.refl _ _).drew) (by simp)⟩
end Go.Proofs.YteampbddflhngabGreat
