import Derived.Test.YteampbddflhngabGreatB45
import Derived.Test.YteampbddflhngabGreatB46
import Derived.Test.YteampbddflhngabGreatB47
import Derived.Test.YteampbddflhngabGreatB13
import Derived.Deep.RegionHeld3
import Derived.Deep.CutRange
import Derived.Test.YteampbddflhngabGreatB12

/- Walks: derive.Program.Run. -/
namespace Go.Proofs.YteampbddflhngabGreat
open Go.RowKit
variable {lo lp : Nat}

/-- What a run asks of a set of rules. -/
structure SetOK (S : PSet) : Prop where
  rules : RulesOK S.arities.length S.rules
  many : S.arities.length ≤ 1000
  small : ∀ a ∈ S.arities, a ≤ 100000000
  rows : ∀ f ∈ S.facts, f.row.length = 3
  facts : S.facts.length ≤ 1000000
  width : S.width ≤ 1000
/-- What a run asks of a program and orders. -/
structure RunOK (cs : List PClause) (t : List PEnt) (os : Option (List (Option (List Int)))) : Prop where
  len : cs.length ≤ 1000
  names : t.length ≤ 1000
  fine : ∀ c ∈ cs, ClOK c
  sums : ∀ c ∈ cs, c.head.args.length + sumArgs c.body ≤ 1000 ∧ c.body.length ≤ 900
  few : Few900 cs
  vals : (collectC cs).length ≤ 1000
  strat : ∀ n, stratumN t n ≤ 1000000
  ords : (os.getD []).length ≤ 2000000
  each : ∀ o ∈ os.getD [], (o.getD []).length ≤ 2000000
  ordok : ordersB cs os = true → ∀ o ∈ os.getD [], (o.getD []).length ≤ 1000
  set : ordersB cs os = true → SetOK (makeM t (collectC cs) os cs)
/-- A set lies in a variable. -/
def SetVar (w0 w : World) (S : PSet) (s : Value) : Prop := ∃ (fl sb : Nat) (a1 : Option Addr) (c1 : Nat) (a2 : Option Addr) (c2 : Nat) (a3 : Option Addr) (c3 : Nat) (ps : List (Value × Value × Value)), s = .pointer (some ⟨sb, 0, none⟩) ∧ w0.heap.size ≤ sb ∧ w0.heap.size ≤ fl ∧ fl ≤ w.heap.size ∧ Box w sb #[.int .i64 (S.width : Nat), .slice a1 S.arities.length c1, .slice a2 S.facts.length c2, .slice a3 S.rules.length c3] 99 ∧ Hid (SetIn fl w (.slice a1 S.arities.length c1) (.slice a2 S.facts.length c2) (.slice a3 S.rules.length c3) S ps) ∧ Hid (Below w0.heap.size w0 w)
theorem SetIn.saveT {w w' : World} {av fv rv : Value} {S : PSet} {ps : List (Value × Value × Value)} {T : TypeId} {M : List Nat} (h : SetIn lo w av fv rv S ps) (hs : Save M w w') (hM : OfT w T M) (h0 : 3 ≠ T) (h1 : 153 ≠ T) (hT : 208 ≠ T) (hT2 : 147 ≠ T) (hT3 : 150 ≠ T) : SetIn lo w' av fv rv S ps := ⟨own_saveT h.ari hs hM h0, own_saveT h.fac hs hM h1, h.rul.saveT hs hM hT hT2 hT3⟩
theorem SetIn.below {w w' : World} {av fv rv : Value} {S : PSet} {ps : List (Value × Value × Value)} (h : SetIn lo w av fv rv S ps) (hb : Below w.heap.size w w') : SetIn lo w' av fv rv S ps := ⟨owns_below h.ari hb, owns_below h.fac hb, h.rul.below hb⟩
theorem SetVar.one {w0 W w4 : World} {S : PSet} {a1 a2 a3 : Option Addr} {c1 c2 c3 : Nat} {ps : List (Value × Value × Value)} (hW : Below w0.heap.size w0 W) (hb : Below W.heap.size W w4) (h : SetIn W.heap.size w4 (.slice a1 S.arities.length c1) (.slice a2 S.facts.length c2) (.slice a3 S.rules.length c3) S ps) : SetVar w0 (w4.alloc (.cells #[.int .i64 (S.width : Nat), .slice a1 S.arities.length c1, .slice a2 S.facts.length c2, .slice a3 S.rules.length c3] 99)) S (.pointer (some ⟨w4.heap.size, 0, none⟩)) := by
  have hg : Below w4.heap.size w4 (w4.alloc (.cells #[.int .i64 (S.width : Nat), .slice a1 S.arities.length c1, .slice a2 S.facts.length c2, .slice a3 S.rules.length c3] 99)) := (Below.refl _ _).alloc (Nat.le_refl _) _
  have h1 := hW.size
  have h2 := hb.size
  have h3 := hg.size
  exact ⟨W.heap.size, w4.heap.size, a1, c1, a2, c2, a3, c3, ps, rfl, by omega, h1, by omega, Box.new _ _ _, h.below hg, bnext (bnext hW hb (Nat.le_refl _)) hg (Nat.le_refl _)⟩
theorem SetVar.two {w0 W w4 : World} {sb : Nat} {z0 z1 z2 z3 : Value} {S : PSet} {a1 a2 a3 : Option Addr} {c1 c2 c3 : Nat} {ps : List (Value × Value × Value)} (hsb : w0.heap.size ≤ sb) (hW : Below w0.heap.size w0 W) (hb : Below W.heap.size W w4) (hx : Box w4 sb #[z0, z1, z2, z3] 99) (h : SetIn W.heap.size w4 (.slice a1 S.arities.length c1) (.slice a2 S.facts.length c2) (.slice a3 S.rules.length c3) S ps) : SetVar w0 ((((w4.setCell ⟨sb, 0, none⟩ (.int .i64 (S.width : Nat))).setCell ⟨sb, 1, none⟩ (.slice a1 S.arities.length c1)).setCell ⟨sb, 2, none⟩ (.slice a2 S.facts.length c2)).setCell ⟨sb, 3, none⟩ (.slice a3 S.rules.length c3)) S (.pointer (some ⟨sb, 0, none⟩)) := by
  have h1 := hW.size
  have h2 := hb.size
  have b1 := hx.set 0 (.int .i64 (S.width : Nat))
  have b2 := b1.set 1 (.slice a1 S.arities.length c1)
  have b3 := b2.set 2 (.slice a2 S.facts.length c2)
  have b4 := b3.set 3 (.slice a3 S.rules.length c3)
  have s1 : SetIn W.heap.size ((((w4.setCell ⟨sb, 0, none⟩ (.int .i64 (S.width : Nat))).setCell ⟨sb, 1, none⟩ (.slice a1 S.arities.length c1)).setCell ⟨sb, 2, none⟩ (.slice a2 S.facts.length c2)).setCell ⟨sb, 3, none⟩ (.slice a3 S.rules.length c3)) (.slice a1 S.arities.length c1) (.slice a2 S.facts.length c2) (.slice a3 S.rules.length c3) S ps := (((h.saveT (Save.set _ _ _ (.int .i64 (S.width : Nat))) (OfT.box hx) (by decide) (by decide) (by decide) (by decide) (by decide)).saveT (Save.set _ _ _ (.slice a1 S.arities.length c1)) (OfT.box b1) (by decide) (by decide) (by decide) (by decide) (by decide)).saveT (Save.set _ _ _ (.slice a2 S.facts.length c2)) (OfT.box b2) (by decide) (by decide) (by decide) (by decide) (by decide)).saveT (Save.set _ _ _ (.slice a3 S.rules.length c3)) (OfT.box b3) (by decide) (by decide) (by decide) (by decide) (by decide)
  exact ⟨W.heap.size, sb, a1, c1, a2, c2, a3, c3, ps, rfl, hsb, h1, by simp; omega, by simpa using b4, s1, ((((bnext hW hb (Nat.le_refl _)).setCell hsb _).setCell hsb _).setCell hsb _).setCell hsb _⟩
theorem Mod.belowLo {ok : TypeId → Role → Prop} {w w' : World} {own own' : Nat → Role} (h : Mod lo ok w own w' own') (hl : lo ≤ w.heap.size) : Below lo w w' := by
  obtain ⟨_, M, h2, h3⟩ := h
  exact h2.below (fun b hb => (h3 b hb).1) hl
def RunRes (lp : Nat) (t : List PEnt) (ns : List ByteArray) (res : Option PRun) (w : World) (e : Ending) (w' : World) : Prop := match res with
  | none => e = .returned (.tuple #[.pointer none, .int .i64 10]) ∧ Below w.heap.size w w'
  | some R => ∃ rb pv nv rv tbs, w.heap.size ≤ rb ∧ e = .returned (.tuple #[.pointer (some ⟨rb, 0, none⟩), .int .i64 0]) ∧ ResO w.heap.size lp w' rb t ns R pv nv rv tbs ∧ Below w.heap.size w w'

set_option maxRecDepth 100000 in
set_option maxHeartbeats 4000000 in
theorem prun_arg (w : World) (pv ov : Value) (rows rounds : Int) (hr1 : -9223372036854775808 ≤ rows ∧ rows < 9223372036854775808) (hr2 : -9223372036854775808 ≤ rounds ∧ rounds < 9223372036854775808) (h : rows < 0 ∨ 1048576 < rows ∨ rounds < 0 ∨ 1048576 < rounds) :
    Calls Tryz.prog 24 #[pv, ov, .int .i64 rows, .int .i64 rounds] w fun e w' => e = .returned (.tuple #[.pointer none, .int .i64 8]) ∧ w' = w := by
  go_enter Tryz.func24, Tryz.ntmps24
  by_cases h1 : rows < 0
  · go_wp2
    go_ret2
    exact ⟨rfl, rfl⟩
  · by_cases h2 : 1048576 < rows
    · go_wp2
      go_ret2
      exact ⟨rfl, rfl⟩
    · by_cases h3 : rounds < 0
      · go_wp2
        go_ret2
        exact ⟨rfl, rfl⟩
      · have h4 : 1048576 < rounds := by omega
        go_wp2
        go_ret2
        exact ⟨rfl, rfl⟩

set_option maxRecDepth 100000 in
set_option maxHeartbeats 4000000 in
theorem prun_ord (w : World) (pb : Nat) (cs : List PClause) (t : List PEnt) (ov : Value) (os : Option (List (Option (List Int)))) (rows rounds : Nat) (hP : PProg lp w pb cs t) (ho : OrdsIn w ov os) (hk : RunOK cs t os) (hb : ordersB cs os = false) (h1 : rows ≤ 1048576) (h2 : rounds ≤ 1048576) :
    Calls Tryz.prog 24 #[.pointer (some ⟨pb, 0, none⟩), ov, .int .i64 rows, .int .i64 rounds] w fun e w' => e = .returned (.tuple #[.pointer none, .int .i64 9]) ∧ Below w.heap.size w w' := by
  obtain ⟨_, cv, pv, hbx, hci, _⟩ := hP
  have HOR : Hid (Calls Tryz.prog 45 #[cv, ov] w fun e w' => e = .returned (.bool (ordersB cs os)) ∧ Below w.heap.size w w') := orders_any w cv ov cs os hci hk.fine hk.len ho hk.ords hk.each
  rw [hb] at HOR
  obtain ⟨hc, hf⟩ := hbx.rules
  have hlt := hbx.lt
  clear hb
  go_enter Tryz.func24, Tryz.ntmps24
  go_wp2_with (first | (go_at_call 45; refine HOR.out.mono ?_; rintro e w1 ⟨rfl, hb1⟩))
  go_ret2
  exact ⟨rfl, hb1⟩

set_option maxRecDepth 100000 in
set_option maxHeartbeats 4000000 in
theorem prun_any (w : World) (pb : Nat) (cs : List PClause) (t : List PEnt) (ov : Value) (os : Option (List (Option (List Int)))) (rows rounds fuel : Nat) (res : Option PRun) (hP : PProg lp w pb cs t) (ho : OrdsIn w ov os) (hk : RunOK cs t os) (hb : ordersB cs os = true) (h1 : rows ≤ 1048576) (h2 : rounds ≤ 1048576) (hlp : lp ≤ w.heap.size) (hr : runP fuel (makeM t (collectC cs) os cs) rows rounds = some res) :
    Calls Tryz.prog 24 #[.pointer (some ⟨pb, 0, none⟩), ov, .int .i64 rows, .int .i64 rounds] w fun e w' => RunRes lp t (collectC cs) res w e w' := by
  have HP : Hid (PProg lp w pb cs t) := hP
  obtain ⟨_, cv, pv, hbx, hci, hpo⟩ := hP
  have HOR : Hid (Calls Tryz.prog 45 #[cv, ov] w fun e w' => e = .returned (.bool (ordersB cs os)) ∧ Below w.heap.size w w') := orders_any w cv ov cs os hci hk.fine hk.len ho hk.ords hk.each
  rw [hb] at HOR
  have HCO : Hid (∀ W, Below w.heap.size w W → Calls Tryz.prog 46 #[cv] W fun e w' => ∃ v', e = .returned (.agg #[v']) ∧ SIn W.heap.size w' v' (collectC cs) ∧ Below W.heap.size W w') := fun W hW => ccollect_any W cv cs (hci.below hW) hk.few
  have HMA : Hid (∀ W cb, Below w.heap.size w W → CTab lp W cb (collectC cs) → Calls Tryz.prog 47 #[cv, .pointer (some ⟨pb, 1, none⟩), .pointer (some ⟨cb, 0, none⟩), ov] W fun e w' => MakePost W (makeM t (collectC cs) os cs) e w') := fun W cb hW hC => make_any W pb 1 cb t (collectC cs) cs cv ov os ⟨pv, (hbx.below hW).lt, (hbx.below hW).rules.1 1, owns_below hpo hW⟩ hC hk.names hk.vals (hci.below hW) hk.sums hk.len (ho.below hW) hk.ords (hk.ordok hb) hk.strat
  have HSO : Hid (SetOK (makeM t (collectC cs) os cs)) := hk.set hb
  have HVL : Hid ((collectC cs).length ≤ 1000 ∧ t.length ≤ 1000) := ⟨hk.vals, hk.names⟩
  have HRU : Hid (runP fuel (makeM t (collectC cs) os cs) rows rounds = some res) := hr
  obtain ⟨hc, hf⟩ := hbx.rules
  have hlt := hbx.lt
  have d0 := hc 0
  have d1 := hc 1
  simp only [List.getElem?_toArray, List.getElem?_cons_zero, List.getElem?_cons_succ] at d0 d1
  clear hb hr hc hk hci ho
  generalize makeM t (collectC cs) os cs = S at *
  generalize collectC cs = ns at *
  have HBX : Hid (Box w pb #[cv, pv] 88) := hbx
  have HPO : Hid (w.ownsRow lp 138 3 pv t.length (pcells t)) := hpo
  clear hbx hpo
  go_enter Tryz.func24, Tryz.ntmps24
  go_upto_region 6 with (first | (go_at_call 45; refine HOR.out.mono ?_; rintro e w1 ⟨rfl, hb1⟩; have y0 := (hb1.cell (p := ⟨pb, 0, none⟩) hlt).trans d0; have yl : pb < w1.heap.size := Nat.lt_of_lt_of_le hlt hb1.size) | (go_at_call 46; refine (HCO.out _ hb1).mono ?_; rintro e w2 ⟨v2, rfl, HS2, hb2⟩; obtain ⟨ao2, cap2, rfl⟩ := HS2.shape))
  obtain ⟨W3, hW3⟩ : ∃ W3, W3 = w2.alloc (.cells #[.slice ao2 ns.length cap2] 94) := ⟨_, rfl⟩
  have hg3 : Below w2.heap.size w2 (w2.alloc (.cells #[.slice ao2 ns.length cap2] 94)) := (by repeat' (first | (with_reducible exact Below.refl _ _) | (with_reducible assumption) | (with_reducible refine bdrewN ?_ _) | (with_reducible refine Below.alloc ?_ ?_ _) | (with_reducible refine Below.drew ?_) | (with_reducible refine Below.setCell ?_ ?_ _) | go_size))
  have hcb := Box.new w2 #[.slice ao2 ns.length cap2] 94
  have hs3 := (HS2.below hg3).low (show w.heap.size ≤ w1.heap.size from hb1.size)
  have hB2 : Below w.heap.size w w2 := bnext hb1 hb2 (Nat.le_refl _)
  have hB3 : Below w.heap.size w (w2.alloc (.cells #[.slice ao2 ns.length cap2] 94)) := bnext hB2 hg3 (Nat.le_refl _)
  have hwc : w.heap.size ≤ w2.heap.size := hB2.size
  rw [← hW3] at hcb hs3 hB3
  rw [← hW3]
  generalize w2.heap.size = cb at *
  have HCB : Hid (Box W3 cb #[.slice ao2 ns.length cap2] 94) := hcb
  have HS3 : Hid (SIn w.heap.size W3 (.slice ao2 ns.length cap2) ns) := hs3
  have x0 := (hB3.cell (p := ⟨pb, 0, none⟩) hlt).trans d0
  have hcl := hcb.lt
  have xl : pb < W3.heap.size := Nat.lt_of_lt_of_le hlt hB3.size
  have HMA2 : Hid (∀ W, Below W3.heap.size W3 W → Calls Tryz.prog 47 #[cv, .pointer (some ⟨pb, 1, none⟩), .pointer (some ⟨cb, 0, none⟩), ov] W fun e w' => ∃ a1 c1 a2 c2 a3 c3 ps, e = .returned (.agg #[.int .i64 (S.width : Nat), .slice a1 S.arities.length c1, .slice a2 S.facts.length c2, .slice a3 S.rules.length c3]) ∧ Hid (SetIn W.heap.size w' (.slice a1 S.arities.length c1) (.slice a2 S.facts.length c2) (.slice a3 S.rules.length c3) S ps) ∧ Below W.heap.size W w' ∧ w'.cell? ⟨pb, 0, none⟩ = some cv) := fun W hb => by
    refine (HMA.out W cb (bnext hB3 hb (Nat.le_refl _)) ⟨Nat.le_trans hlp hwc, _, HCB.out.below hb, (HS3.out.below hb).low hlp⟩).mono ?_
    rintro e w' ⟨av, fv, rv, ps, h1, h2, h3⟩
    have hq := bnext hb h3 (Nat.le_refl _)
    obtain ⟨a1, c1, rfl⟩ := own_view h2.ari
    obtain ⟨a2, c2, rfl⟩ := own_view h2.fac
    obtain ⟨a3, c3, rfl⟩ := own_view h2.rul.own
    exact ⟨a1, c1, a2, c2, a3, c3, ps, h1, h2, h3, (hq.cell xl).trans x0⟩
  clear hW3 hcb hs3 hg3 HCO HOR HMA y0 yl HS2 hb2 hb1 hB2 w1 w2 d0
  go_cut [11] from 40 to 48 (fun s11 wx => SetVar W3 wx S s11)
  case first =>
    go_region_held3 (fun w' => w'.cell? ⟨pb, 0, none⟩ = some cv) (first | go_keep | (go_simp; done)) (first | (go_at_call 47; refine (HMA2.out _ (by exact (by repeat' (first | (with_reducible exact Below.refl _ _) | (with_reducible assumption) | (with_reducible refine bdrewN ?_ _) | (with_reducible refine Below.alloc ?_ ?_ _) | (with_reducible refine Below.drew ?_) | (with_reducible refine Below.setCell ?_ ?_ _) | go_size)))).mono ?_; rintro e w4 ⟨a1, c1, a2, c2, a3, c3, ps, rfl, HSI, hb4, z0⟩; (try (with_reducible refine Box.carry (Box.drew (Box.new W3 #[.int .i64 0, .slice none 0 0, .slice none 0 0, .slice none 0 0] 99)) hb4 ?_; intro hbz; obtain ⟨hbzc, hbzf⟩ := hbz.rules; have hbzl := hbz.lt))))
    all_goals
      go_wp2_with fail
      go_meet
      case rel => first | exact SetVar.one (W := W3.drew) (by repeat' (first | (with_reducible exact Below.refl _ _) | (with_reducible assumption) | (with_reducible refine bdrewN ?_ _) | (with_reducible refine Below.alloc ?_ ?_ _) | (with_reducible refine Below.drew ?_) | (with_reducible refine Below.setCell ?_ ?_ _) | go_size)) hb4 HSI.out | exact SetVar.two (Nat.le_refl _) (W := (W3.alloc (.cells #[.int .i64 0, .slice none 0 0, .slice none 0 0, .slice none 0 0] 99)).drew) (by repeat' (first | (with_reducible exact Below.refl _ _) | (with_reducible assumption) | (with_reducible refine bdrewN ?_ _) | (with_reducible refine Below.alloc ?_ ?_ _) | (with_reducible refine Below.drew ?_) | (with_reducible refine Below.setCell ?_ ?_ _) | go_size)) hb4 hbz HSI.out
  case rest =>
    clear HMA2 x0
    obtain ⟨fl, sb, a1, c1, a2, c2, a3, c3, ps, rfl, hsb, hfl, hfw, hbs, HSI, HB4⟩ := hcut
    have HRN : Hid (Calls Tryz.prog 48 #[.agg #[.int .i64 (S.width : Nat), .slice a1 S.arities.length c1, .slice a2 S.facts.length c2, .slice a3 S.rules.length c3], .int .i64 rows, .int .i64 rounds] wc fun e w' => RunPost fl wc own7 S.width rows rounds res e w') := run_any wc S ps _ _ _ rows rounds fuel res HSI.out hfw HSO.out.rules HSO.out.many HSO.out.small HSO.out.rows HSO.out.facts ⟨HSO.out.width, h1, h2⟩ HRU.out
    obtain ⟨hsc, hsf⟩ := hbs.rules
    have hsl := hbs.lt
    have hB4 : Below w.heap.size w wc := bnext hB3 HB4.out (Nat.le_refl _)
    have HCW : Hid (cb < W3.heap.size) := hcl
    have hwf : w.heap.size ≤ fl := Nat.le_trans hB3.size hfl
    clear HSI HSO HRU hcl xl
    cases res with
    | none =>
      have HRN2 : Hid (Calls Tryz.prog 48 #[.agg #[.int .i64 (S.width : Nat), .slice a1 S.arities.length c1, .slice a2 S.facts.length c2, .slice a3 S.rules.length c3], .int .i64 rows, .int .i64 rounds] wc fun e w' => e = .returned (.tuple #[.agg #[.slice none 0 0, .int .i64 0, .int .i64 0, .int .i64 0], .bool false]) ∧ Below fl wc w') := by
        refine HRN.out.mono ?_
        rintro e w' ⟨h1, own', h2⟩
        exact ⟨h1, h2.belowLo hfw⟩
      clear HRN
      go_wp2_with (first | (go_at_call 48; refine HRN2.out.mono ?_; rintro e w5 ⟨rfl, hb5⟩))
      go_ret2
      exact ⟨rfl, bnext (hB4.trans (hb5.mono hwf)) (by repeat' (first | (with_reducible exact Below.refl _ _) | (with_reducible assumption) | (with_reducible refine bdrewN ?_ _) | (with_reducible refine Below.alloc ?_ ?_ _) | (with_reducible refine Below.drew ?_) | (with_reducible refine Below.setCell ?_ ?_ _) | go_size)) (Nat.le_refl _)⟩
    | some R =>
      have HRN2 : Hid (Calls Tryz.prog 48 #[.agg #[.int .i64 (S.width : Nat), .slice a1 S.arities.length c1, .slice a2 S.facts.length c2, .slice a3 S.rules.length c3], .int .i64 rows, .int .i64 rounds] wc fun e w' => ∃ aor capr tbs, e = .returned (.tuple #[.agg #[.slice aor R.rows.length capr, .int .i64 (R.count : Nat), .int .i64 (R.rounds : Nat), .int .i64 R.moves], .bool true]) ∧ Hid (w'.ownsRow fl 113 1 (.slice aor R.rows.length capr) R.rows.length (pts tbs) ∧ tbs.length = R.rows.length ∧ (∀ p (_ : p < R.rows.length) (_ : p < tbs.length), ∃ fp, TrieAt fl w' tbs[p] R.rows[p] fp) ∧ R.rows.length ≤ 1000) ∧ Below fl wc w') := by
        refine HRN.out.mono ?_
        rintro e w' ⟨own', rb, Q, h1, h2, h3⟩
        obtain ⟨aor, capr, hrv⟩ := own_view h2.rows
        refine ⟨aor, capr, Q.tbs, by rw [h1, hrv], ⟨by rw [← hrv]; exact h2.rows, h2.tlen, fun p a b => ?_, h2.few.1⟩, h3.belowLo hfw⟩
        obtain ⟨fp, q, _⟩ := h2.tries p a b
        exact ⟨fp, q⟩
      clear HRN
      go_upto_region 10 with (first | (go_at_call 48; refine HRN2.out.mono ?_; rintro e w5 ⟨aor, capr, tbs, rfl, HRO, hb5⟩))
      have hB5 : Below w.heap.size w w5 := hB4.trans (hb5.mono hwf)
      have hB35 : Below W3.heap.size W3 w5 := HB4.out.trans (hb5.mono hfl)
      have hg6 : Below w5.heap.size w5 (w5.alloc (.cells #[.slice aor R.rows.length capr, .int .i64 (R.count : Nat), .int .i64 (R.rounds : Nat), .int .i64 R.moves] 105)) := (by repeat' (first | (with_reducible exact Below.refl _ _) | (with_reducible assumption) | (with_reducible refine bdrewN ?_ _) | (with_reducible refine Below.alloc ?_ ?_ _) | (with_reducible refine Below.drew ?_) | (with_reducible refine Below.setCell ?_ ?_ _) | go_size))
      have hb12 := Box.new w5 #[.slice aor R.rows.length capr, .int .i64 (R.count : Nat), .int .i64 (R.rounds : Nat), .int .i64 R.moves] 105
      have hcb6 := (HCB.out.below hB35).below hg6
      have HSS : Hid (SIn w.heap.size (w5.alloc (.cells #[.slice aor R.rows.length capr, .int .i64 (R.count : Nat), .int .i64 (R.rounds : Nat), .int .i64 R.moves] 105)) (.slice ao2 ns.length cap2) ns) := (HS3.out.below hB35).below hg6
      have hB6 : Below w.heap.size w (w5.alloc (.cells #[.slice aor R.rows.length capr, .int .i64 (R.count : Nat), .int .i64 (R.rounds : Nat), .int .i64 R.moves] 105)) := bnext hB5 hg6 (Nat.le_refl _)
      have HPR : Hid (World.ownsRow (w5.alloc (.cells #[.slice aor R.rows.length capr, .int .i64 (R.count : Nat), .int .i64 (R.rounds : Nat), .int .i64 R.moves] 105)) lp 138 3 pv t.length (pcells t)) := owns_below HPO.out hB6
      have HRW : Hid (World.ownsRow (w5.alloc (.cells #[.slice aor R.rows.length capr, .int .i64 (R.count : Nat), .int .i64 (R.rounds : Nat), .int .i64 R.moves] 105)) w.heap.size 113 1 (.slice aor R.rows.length capr) R.rows.length (pts tbs) ∧ tbs.length = R.rows.length ∧ (∀ p (_ : p < R.rows.length) (_ : p < tbs.length), ∃ fp, TrieAt w.heap.size (w5.alloc (.cells #[.slice aor R.rows.length capr, .int .i64 (R.count : Nat), .int .i64 (R.rounds : Nat), .int .i64 R.moves] 105)) tbs[p] R.rows[p] fp) ∧ R.rows.length ≤ 1000) := by
        obtain ⟨q1, q2, q3, q4⟩ := HRO.out
        refine ⟨own_low (owns_below q1 hg6) hwf, q2, fun p a b => ?_, q4⟩
        obtain ⟨fp, q⟩ := q3 p a b
        exact ⟨fp, (q.below hg6).low hwf⟩
      obtain ⟨aop, capp, hpv⟩ := own_view HPO.out
      subst hpv
      have y1 := (hB6.cell (p := ⟨pb, 1, none⟩) hlt).trans d1
      have yl : pb < (w5.alloc (.cells #[.slice aor R.rows.length capr, .int .i64 (R.count : Nat), .int .i64 (R.rounds : Nat), .int .i64 R.moves] 105)).heap.size := Nat.lt_of_lt_of_le hlt hB6.size
      have hlow6 := hB6.size
      clear hg6 hB35 hB5 HRO HRN2 hb5 hB4 HB4 HS3 HCB hbs hsc hsf hsl
      generalize w5.alloc (.cells #[.slice aor R.rows.length capr, .int .i64 (R.count : Nat), .int .i64 (R.rounds : Nat), .int .i64 R.moves] 105) = W6 at *
      generalize w5.heap.size = ob at *
      obtain ⟨oc, of⟩ := hb12.rules
      have ol := hb12.lt
      have o0 := oc 0
      have o1 := oc 1
      have o2 := oc 2
      have o3 := oc 3
      obtain ⟨bc, bf⟩ := hcb6.rules
      have bl := hcb6.lt
      have b0 := bc 0
      simp only [List.getElem?_toArray, List.getElem?_cons_zero, List.getElem?_cons_succ] at o0 o1 o2 o3 b0
      clear oc bc hb12 hcb6
      go_region
      have hg7 : Below W6.heap.size W6 (W6.alloc (.cells #[.slice aop t.length capp, .slice ao2 ns.length cap2, .slice aor R.rows.length capr, .int .i64 (R.count : Nat), .int .i64 (R.rounds : Nat), .int .i64 R.moves] 109)).drew := (by repeat' (first | (with_reducible exact Below.refl _ _) | (with_reducible assumption) | (with_reducible refine bdrewN ?_ _) | (with_reducible refine Below.alloc ?_ ?_ _) | (with_reducible refine Below.drew ?_) | (with_reducible refine Below.setCell ?_ ?_ _) | go_size))
      have HFIN : Hid (ResO w.heap.size lp (W6.alloc (.cells #[.slice aop t.length capp, .slice ao2 ns.length cap2, .slice aor R.rows.length capr, .int .i64 (R.count : Nat), .int .i64 (R.rounds : Nat), .int .i64 R.moves] 109)).drew W6.heap.size t ns R (.slice aop t.length capp) (.slice ao2 ns.length cap2) (.slice aor R.rows.length capr) tbs ∧ Below w.heap.size w (W6.alloc (.cells #[.slice aop t.length capp, .slice ao2 ns.length cap2, .slice aor R.rows.length capr, .int .i64 (R.count : Nat), .int .i64 (R.rounds : Nat), .int .i64 R.moves] 109)).drew) := by
        refine ⟨⟨hlow6, Box.drew (Box.new _ _ _), owns_below HPR.out hg7, HSS.out.below hg7, owns_below HRW.out.1 hg7, HRW.out.2.1, fun p a b => ?_, ⟨HVL.out.2, HVL.out.1, HRW.out.2.2.2⟩⟩, bnext hB6 hg7 (Nat.le_refl _)⟩
        obtain ⟨fp, q⟩ := HRW.out.2.2.1 p a b
        exact ⟨fp, q.below hg7⟩
      clear hg7 HPR HSS HRW o0 o1 o2 o3 b0
      go_wp2
      go_ret2
      exact ⟨W6.heap.size, _, _, _, tbs, hlow6, rfl, HFIN.out.1, HFIN.out.2⟩
end Go.Proofs.YteampbddflhngabGreat

/- Walks: derivekeep.pick, digits. -/
namespace Go.Proofs.YteampbddflhngabGreat
open Go.RowKit

def pickK (c : Int) (n : Nat) : Nat := if c < 0 then (-(c + 1)).toNat % n else c.toNat % n
theorem pickK_lt (c : Int) {n : Nat} (hn : 0 < n) : pickK c n < n := by unfold pickK; split <;> exact Nat.mod_lt _ hn

set_option maxRecDepth 100000 in
set_option maxHeartbeats 2000000 in
theorem kpick_any (w : World) (c : Int) (n : Nat) (hn : 0 < n) (hn2 : n ≤ 281474976710656) (hc : -9223372036854775808 ≤ c ∧ c ≤ 9223372036854775807) :
    Calls Tryz.prog 14 #[.int .i64 c, .int .i64 n] w fun e w' => e = .returned (.int .i64 (pickK c n : Nat)) ∧ w' = w := by
  obtain ⟨hc1, hc2⟩ := hc
  by_cases h0 : c < 0
  · have e : -(c + 1).tmod (n : Int) = ((pickK c n : Nat) : Int) := by
      unfold pickK
      rw [if_pos h0, ← Int.neg_tmod, Int.tmod_eq_emod_of_nonneg (by omega), Int.natCast_emod, Int.toNat_of_nonneg (by omega)]
    have HE : Hid (-(c + 1).tmod (n : Int) = ((pickK c n : Nat) : Int)) := e
    clear e
    generalize pickK c n = pk at *
    go_enter Tryz.func14, Tryz.ntmps14
    go_wp2
    exact bodyPost_ret (v := .int .i64 (-(c + 1).tmod (n : Int))) (by simp [results, Tryz.results14, go_sem]) rfl ⟨by rw [HE.out], rfl⟩
  · have e : c % (n : Int) = ((pickK c n : Nat) : Int) := by unfold pickK; rw [if_neg h0, Int.natCast_emod, Int.toNat_of_nonneg (by omega)]
    have HE : Hid (c % (n : Int) = ((pickK c n : Nat) : Int)) := e
    clear e
    generalize pickK c n = pk at *
    go_enter Tryz.func14, Tryz.ntmps14
    go_wp2
    exact bodyPost_ret (v := .int .i64 (c % (n : Int))) (by simp [results, Tryz.results14, go_sem]) rfl ⟨by rw [HE.out], rfl⟩

/-- Two digits. -/
def dig2 (n : Nat) : ByteArray := ⟨#[UInt8.ofNat (48 + n / 10), UInt8.ofNat (48 + n % 10)]⟩
theorem dig2_size (n : Nat) : (dig2 n).size = 2 := rfl

set_option maxRecDepth 100000 in
set_option maxHeartbeats 2000000 in
theorem digits_any (w : World) (n : Nat) (hn : n < 100) :
    Calls Tryz.prog 29 #[.int .i64 n] w fun e w' => e = .returned (.string (dig2 n)) ∧ Below w.heap.size w w' := by
  have e1 : (n : Int).tdiv 10 = ((n / 10 : Nat) : Int) := by rw [Int.tdiv_eq_ediv_of_nonneg (by omega)]; omega
  have e2 : (n : Int).tmod 10 = ((n % 10 : Nat) : Int) := by rw [Int.tmod_eq_emod_of_nonneg (by omega)]; omega
  have hx : n / 10 ≤ 9 := by omega
  have hy : n % 10 ≤ 9 := by omega
  have HD : Hid (dig2 n = ⟨#[UInt8.ofNat (48 + n / 10), UInt8.ofNat (48 + n % 10)]⟩) := show dig2 n = _ from rfl
  generalize dig2 n = s at *
  generalize n / 10 = x at *
  generalize n % 10 = y at *
  have HC : Hid (∀ j (hj : j < (⟨#[UInt8.ofNat (48 + x), UInt8.ofNat (48 + y)]⟩ : ByteArray).data.size), (w.alloc (.cells #[.int .u8 (48 + (x : Int)), .int .u8 (48 + (y : Int))] 5)).cell? ⟨w.heap.size, j, none⟩ = some (.int .u8 ((⟨#[UInt8.ofNat (48 + x), UInt8.ofNat (48 + y)]⟩ : ByteArray).data[j].toNat : Int))) := by
    intro j hj
    have hq := (Box.new w #[.int .u8 (48 + (x : Int)), .int .u8 (48 + (y : Int))] 5).rules.1 j
    rw [hq]
    have hj2 : j = 0 ∨ j = 1 := by simp at hj; omega
    rcases hj2 with rfl | rfl
    · have : (48 + x) % 256 = 48 + x := by omega
      simp [UInt8.toNat_ofNat', this]
    · have : (48 + y) % 256 = 48 + y := by omega
      simp [UInt8.toNat_ofNat', this]
  go_enter Tryz.func29, Tryz.ntmps29
  go_wp2_with (first | (refine wpList_string_of _ rfl (.tmp 11) 119 9 5 rfl Tryz.underlying119 Tryz.underlying5 Tryz.underlying9 ⟨#[UInt8.ofNat (48 + x), UInt8.ofNat (48 + y)]⟩ _ _ rfl ?_ ?_; (first | exact HC.out | fail)))
  go_ret
  exact ⟨by rw [HD.out]; simp [UInt8.ofNat_add], (by repeat' (first | (with_reducible exact Below.refl _ _) | (with_reducible assumption) | (with_reducible refine bdrewN ?_ _) | (with_reducible refine Below.alloc ?_ ?_ _) | (with_reducible refine Below.drew ?_) | (with_reducible refine Below.setCell ?_ ?_ _) | go_size))⟩
end Go.Proofs.YteampbddflhngabGreat

/- What a run asks of a program, as a test; runs without orders. -/
namespace Go.Proofs.YteampbddflhngabGreat
open Go.RowKit

def setB (S : PSet) : Bool :=
  S.rules.all (fun r => r.plain.all (fun l => decide (l.pred < S.arities.length)) && r.nots.all fun l => decide (l.pred < S.arities.length) && !decide (l.pred = r.head.pred)) &&
  (decide (S.arities.length ≤ 1000) && (S.arities.all (fun a => decide (a ≤ 1000)) && (S.facts.all (fun f => decide (f.row.length = 3)) && (decide (S.facts.length ≤ 1000000) && decide (S.width ≤ 1000)))))
theorem setB_ok {S : PSet} (h : setB S = true) : SetOK S := by
  simp only [setB, Bool.and_eq_true, List.all_eq_true, decide_eq_true_eq, Bool.not_eq_true', decide_eq_false_iff_not] at h
  obtain ⟨h1, h2, h3, h4, h5, h6⟩ := h
  exact ⟨fun r hr => ⟨fun l hl => (h1 r hr).1 l hl, fun l hl => (h1 r hr).2 l hl⟩, h2, fun a ha => by have := h3 a ha; omega, h4, h5, h6⟩
def okB (cs : List PClause) (t : List PEnt) : Bool :=
  decide (argsC cs ≤ 900) && (decide (cs.length ≤ 1000) && (decide (t.length ≤ 1000) && (cs.all (fun c => decide (c.head.args.length + sumArgs c.body ≤ 1000) && decide (c.body.length ≤ 900)) && (decide ((collectC cs).length ≤ 1000) && (t.all (fun e => decide (e.stratum ≤ 1000000)) && setB (makeM t (collectC cs) none cs))))))
theorem okB_ok {cs : List PClause} {t : List PEnt} (h : okB cs t = true) : RunOK cs t none := by
  simp only [okB, Bool.and_eq_true, List.all_eq_true, decide_eq_true_eq] at h
  obtain ⟨h1, h2, h3, h4, h5, h6, h7⟩ := h
  refine ⟨h2, h3, fun c hc => ⟨(h4 c hc).1, by have := (h4 c hc).2; omega⟩, h4, ⟨h1, h2, fun c hc => by have := (h4 c hc).2; omega⟩, h5, fun n => ?_, by simp, by simp, fun _ => by simp, fun _ => setB_ok h7⟩
  unfold stratumN
  split
  · rename_i e he
    obtain ⟨hk, h8, _⟩ := entAt_some he
    exact h6 e (h8 ▸ List.getElem_mem hk)
  · omega
/-- What a text says, run with limits of 4096. -/
def ranB (fuel : Nat) (s : ByteArray) : Option (List PClause × List PEnt × PRun) := match compB s with
  | .error _ => none
  | .ok (cs, t) => if okB cs t then match runP fuel (makeM t (collectC cs) none cs) 4096 4096 with
    | some (some R) => some (cs, t, R)
    | _ => none
    else none
theorem ranB_some {fuel : Nat} {s : ByteArray} {cs : List PClause} {t : List PEnt} {R : PRun} (h : ranB fuel s = some (cs, t, R)) : compB s = .ok (cs, t) ∧ RunOK cs t none ∧ runP fuel (makeM t (collectC cs) none cs) 4096 4096 = some (some R) := by
  unfold ranB at h
  split at h
  · cases h
  · rename_i cs' t' hc
    split at h
    · rename_i hk
      split at h
      · rename_i R' hr
        simp only [Option.some.injEq, Prod.mk.injEq] at h
        obtain ⟨rfl, rfl, rfl⟩ := h
        exact ⟨hc, okB_ok hk, hr⟩
      · cases h
    · cases h
/-- The rows of a predicate, as a list of rows of values. -/
def rowsB (fuel : Nat) (t : List PEnt) (R : PRun) (pred : ByteArray) : Option (List PRow) :=
  if (entAt t pred).isSome && decide (findN t pred < R.rows.length) && decide (arityN t (findN t pred) ≤ 1000) then rowsG fuel (R.rows.getD (findN t pred) PTrie.zero) else none
theorem rowsB_some {fuel : Nat} {t : List PEnt} {R : PRun} {pred : ByteArray} {rs : List PRow} (h : rowsB fuel t R pred = some rs) : (entAt t pred).isSome = true ∧ arityN t (findN t pred) ≤ 1000 ∧ ∃ hf : findN t pred < R.rows.length, rowsG fuel R.rows[findN t pred] = some rs := by
  unfold rowsB at h
  split at h
  · rename_i hc
    simp only [Bool.and_eq_true, decide_eq_true_eq] at hc
    refine ⟨hc.1.1, hc.2, hc.1.2, ?_⟩
    rw [show R.rows.getD (findN t pred) PTrie.zero = R.rows[findN t pred] by simp [List.getD, hc.1.2]] at h
    exact h
  · cases h
end Go.Proofs.YteampbddflhngabGreat
