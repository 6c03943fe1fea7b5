import Derived.Test.YteampbddflhngabGreatZ32
import Derived.Test.YteampbddflhngabGreatZ33
import Derived.Test.YteampbddflhngabGreatZ08
import Derived.Deep.RegionHeld3
import Derived.Deep.CutRange
import Derived.Test.YteampbddflhngabGreatZ16

namespace Go.Proofs.YteampbddflhngabGreat
set_option maxRecDepth 100000
set_option maxHeartbeats 4000000
open Go.RowKit
variable {lo lp:Nat}
structure z7w (S:zro):Prop where
 rules:zli S.arities.length S.rules
 many:S.arities.length<=1000
 small:∀ a∈S.arities,a<=100000000
 rows:∀ f∈S.facts,f.row.length=3
 facts:S.facts.length<=1000000
 width:S.width<=1000
structure z6s (cs:List zab) (t:List zar) (os:Option (List (Option (List Int)))):Prop where
 len:cs.length<=1000
 names:t.length<=1000
 fine:∀ c∈cs,zoq c
 sums:∀ c∈cs,c.head.args.length+zce c.body<=1000/\c.body.length<=900
 few:z6i cs
 vals:(zav cs).length<=1000
 strat:∀ n,zds t n<=1000000
 ords:(os.getD []).length<=2000000
 each:∀ o∈os.getD [],(o.getD []).length<=2000000
 ordok:zf9 cs os=true->∀ o∈os.getD [],(o.getD []).length<=1000
 set:zf9 cs os=true->z7w (zjl t (zav cs) os cs)
def zm8(w0 w:World)(S:zro)(s:Value):Prop:=∃(fl sb:Nat) (a1:Option Addr) (c1:Nat) (a2:Option Addr) (c2:Nat) (a3:Option Addr) (c3:Nat) (ps:List (Value × Value × Value)),s=.pointer (some ⟨sb,0,none⟩)/\w0.heap.size<=sb/\w0.heap.size<=fl/\fl<=w.heap.size/\Box w sb #[.int .i64 (S.width:Nat),.slice a1 S.arities.length c1,.slice a2 S.facts.length c2,.slice a3 S.rules.length c3] 99/\Hid (zkj fl w (.slice a1 S.arities.length c1) (.slice a2 S.facts.length c2) (.slice a3 S.rules.length c3) S ps)/\Hid (Below w0.heap.size w0 w)
theorem zkj.saveT{w w':World}{av fv rv:Value}{S:zro}{ps:List (Value × Value × Value)}{T:TypeId}{M:List Nat}(h:zkj lo w av fv rv S ps)(hs:zaq M w w')(hM:OfT w T M)(h0:3≠T)(h1:153≠T)(hT:208≠T)(hT2:147≠T)(hT3:150≠T):zkj lo w' av fv rv S ps:=⟨zak h.ari hs hM h0,zak h.fac hs hM h1,h.rul.saveT hs hM hT hT2 hT3⟩
theorem zkj.below{w w':World}{av fv rv:Value}{S:zro}{ps:List (Value × Value × Value)}(h:zkj lo w av fv rv S ps)(hb:Below w.heap.size w w'):zkj lo w' av fv rv S ps:=⟨zaa h.ari hb,zaa h.fac hb,h.rul.below hb⟩
theorem zm8.one{w0 W w4:World}{S:zro}{a1 a2 a3:Option Addr}{c1 c2 c3:Nat}{ps:List (Value × Value × Value)}(hW:Below w0.heap.size w0 W)(hb:Below W.heap.size W w4)(h:zkj W.heap.size w4 (.slice a1 S.arities.length c1) (.slice a2 S.facts.length c2) (.slice a3 S.rules.length c3) S ps):zm8 w0 (w4.alloc (.cells #[.int .i64 (S.width:Nat),.slice a1 S.arities.length c1,.slice a2 S.facts.length c2,.slice a3 S.rules.length c3] 99)) S (.pointer (some ⟨w4.heap.size,0,none⟩)):=by
 have hg:Below w4.heap.size w4 (w4.alloc (.cells #[.int .i64 (S.width:Nat),.slice a1 S.arities.length c1,.slice a2 S.facts.length c2,.slice a3 S.rules.length c3] 99)):=(Below.refl _ _).alloc (Nat.le_refl _) _
 have h1:=hW.size
 have h2:=hb.size
 have h3:=hg.size
 exact⟨W.heap.size,w4.heap.size,a1,c1,a2,c2,a3,c3,ps,rfl,by omega,h1,by omega,Box.new _ _ _,h.below hg,zae (zae hW hb (Nat.le_refl _)) hg (Nat.le_refl _)⟩
theorem zm8.two{w0 W w4:World}{sb:Nat}{z0 z1 z2 z3:Value}{S:zro}{a1 a2 a3:Option Addr}{c1 c2 c3:Nat}{ps:List (Value × Value × Value)}(hsb:w0.heap.size<=sb)(hW:Below w0.heap.size w0 W)(hb:Below W.heap.size W w4)(hx:Box w4 sb #[z0,z1,z2,z3] 99)(h:zkj W.heap.size w4 (.slice a1 S.arities.length c1) (.slice a2 S.facts.length c2) (.slice a3 S.rules.length c3) S ps):zm8 w0 ((((w4.setCell ⟨sb,0,none⟩ (.int .i64 (S.width:Nat))).setCell ⟨sb,1,none⟩ (.slice a1 S.arities.length c1)).setCell ⟨sb,2,none⟩ (.slice a2 S.facts.length c2)).setCell ⟨sb,3,none⟩ (.slice a3 S.rules.length c3)) S (.pointer (some ⟨sb,0,none⟩)):=by
 have h1:=hW.size
 have h2:=hb.size
 have b1:=hx.set 0 (.int .i64 (S.width:Nat))
 have b2:=b1.set 1 (.slice a1 S.arities.length c1)
 have b3:=b2.set 2 (.slice a2 S.facts.length c2)
 have b4:=b3.set 3 (.slice a3 S.rules.length c3)
 have s1:zkj W.heap.size ((((w4.setCell ⟨sb,0,none⟩ (.int .i64 (S.width:Nat))).setCell ⟨sb,1,none⟩ (.slice a1 S.arities.length c1)).setCell ⟨sb,2,none⟩ (.slice a2 S.facts.length c2)).setCell ⟨sb,3,none⟩ (.slice a3 S.rules.length c3)) (.slice a1 S.arities.length c1) (.slice a2 S.facts.length c2) (.slice a3 S.rules.length c3) S ps:=(((h.saveT (zaq.set _ _ _ (.int .i64 (S.width:Nat))) (OfT.box hx) (by decide) (by decide) (by decide) (by decide) (by decide)).saveT (zaq.set _ _ _ (.slice a1 S.arities.length c1)) (OfT.box b1) (by decide) (by decide) (by decide) (by decide) (by decide)).saveT (zaq.set _ _ _ (.slice a2 S.facts.length c2)) (OfT.box b2) (by decide) (by decide) (by decide) (by decide) (by decide)).saveT (zaq.set _ _ _ (.slice a3 S.rules.length c3)) (OfT.box b3) (by decide) (by decide) (by decide) (by decide) (by decide)
 exact⟨W.heap.size,sb,a1,c1,a2,c2,a3,c3,ps,rfl,hsb,h1,by simp;omega,by simpa using b4,s1,((((zae hW hb (Nat.le_refl _)).setCell hsb _).setCell hsb _).setCell hsb _).setCell hsb _⟩
theorem Mod.belowLo{ok:TypeId->zay->Prop}{w w':World}{own own':Nat->zay}(h:Mod lo ok w own w' own')(hl:lo<=w.heap.size):Below lo w w':=by
 obtain⟨_,M,h2,h3⟩:=h
 exact h2.below (fun b hb=>(h3 b hb).1) hl
def z7v(lp:Nat)(t:List zar)(ns:List ByteArray)(res:Option zbk)(w:World)(e:Ending)(w':World):Prop:=match res with
 |none=>e=.returned (.tuple #[.pointer none,.int .i64 10])/\Below w.heap.size w w'
 |some R=>∃ rb pv nv rv tbs,w.heap.size<=rb/\e=.returned (.tuple #[.pointer (some ⟨rb,0,none⟩),.int .i64 0])/\zwp w.heap.size lp w' rb t ns R pv nv rv tbs/\Below w.heap.size w w'
theorem z8k(w:World)(pb:Nat)(cs:List zab)(t:List zar)(ov:Value)(os:Option (List (Option (List Int))))(rows rounds:Nat)(hP:zou lp w pb cs t)(ho:zhj w ov os)(hk:z6s cs t os)(hb:zf9 cs os=false)(h1:rows<=1048576)(h2:rounds<=1048576) :
  Calls Tryz.prog 24 #[.pointer (some ⟨pb,0,none⟩),ov,.int .i64 rows,.int .i64 rounds] w fun e w'=>e=.returned (.tuple #[.pointer none,.int .i64 9])/\Below w.heap.size w w':=by
 obtain⟨_,cv,pv,hbx,hci,_⟩:=hP
 have HOR:Hid (Calls Tryz.prog 45 #[cv,ov] w fun e w'=>e=.returned (.bool (zf9 cs os))/\Below w.heap.size w w'):=zp0 w cv ov cs os hci hk.fine hk.len ho hk.ords hk.each
 rw[hb] at HOR
 obtain⟨hc,hf⟩:=hbx.rules
 have hlt:=hbx.lt
 clear hb
 go_enter Tryz.func24,Tryz.ntmps24
 go_wp2_with (first|(go_at_call 45;refine HOR.out.mono ?_;rintro e w1 ⟨rfl,hb1⟩))
 go_ret2
 exact⟨rfl,hb1⟩
theorem z5o(w:World)(pb:Nat)(cs:List zab)(t:List zar)(ov:Value)(os:Option (List (Option (List Int))))(rows rounds fuel:Nat)(res:Option zbk)(hP:zou lp w pb cs t)(ho:zhj w ov os)(hk:z6s cs t os)(hb:zf9 cs os=true)(h1:rows<=1048576)(h2:rounds<=1048576)(hlp:lp<=w.heap.size)(hr:z7r fuel (zjl t (zav cs) os cs) rows rounds=some res) :
  Calls Tryz.prog 24 #[.pointer (some ⟨pb,0,none⟩),ov,.int .i64 rows,.int .i64 rounds] w fun e w'=>z7v lp t (zav cs) res w e w':=by
 have HP:Hid (zou lp w pb cs t):=hP
 obtain⟨_,cv,pv,hbx,hci,hpo⟩:=hP
 have HOR:Hid (Calls Tryz.prog 45 #[cv,ov] w fun e w'=>e=.returned (.bool (zf9 cs os))/\Below w.heap.size w w'):=zp0 w cv ov cs os hci hk.fine hk.len ho hk.ords hk.each
 rw[hb] at HOR
 have HCO:Hid (∀ W,Below w.heap.size w W->Calls Tryz.prog 46 #[cv] W fun e w'=>∃ v',e=.returned (.agg #[v'])/\SIn W.heap.size w' v' (zav cs)/\Below W.heap.size W w'):=fun W hW=>zsa W cv cs (hci.below hW) hk.few
 have HMA:Hid (∀ W cb,Below w.heap.size w W->z3q lp W cb (zav cs)->Calls Tryz.prog 47 #[cv,.pointer (some ⟨pb,1,none⟩),.pointer (some ⟨cb,0,none⟩),ov] W fun e w'=>zwn W (zjl t (zav cs) os cs) e w'):=fun W cb hW hC=>z5d W pb 1 cb t (zav cs) cs cv ov os ⟨pv,(hbx.below hW).lt,(hbx.below hW).rules.1 1,zaa hpo hW⟩ hC hk.names hk.vals (hci.below hW) hk.sums hk.len (ho.below hW) hk.ords (hk.ordok hb) hk.strat
 have HSO:Hid (z7w (zjl t (zav cs) os cs)):=hk.set hb
 have HVL:Hid ((zav cs).length<=1000/\t.length<=1000):=⟨hk.vals,hk.names⟩
 have HRU:Hid (z7r fuel (zjl t (zav cs) os cs) rows rounds=some res):=hr
 obtain⟨hc,hf⟩:=hbx.rules
 have hlt:=hbx.lt
 have d0:=hc 0
 have d1:=hc 1
 simp only[List.getElem?_toArray,List.getElem?_cons_zero,List.getElem?_cons_succ] at d0 d1
 clear hb hr hc hk hci ho
 generalize zjl t (zav cs) os cs=S at *
 generalize zav cs=ns at *
 have HBX:Hid (Box w pb #[cv,pv] 88):=hbx
 have HPO:Hid (w.ownsRow lp 138 3 pv t.length (zcc t)):=hpo
 clear hbx hpo
 go_enter Tryz.func24,Tryz.ntmps24
 go_upto_region 6 with (first|(go_at_call 45;refine HOR.out.mono ?_;rintro e w1 ⟨rfl,hb1⟩;have y0:=(hb1.cell (p:=⟨pb,0,none⟩) hlt).trans d0;have yl:pb < w1.heap.size:=Nat.lt_of_lt_of_le hlt hb1.size)|(go_at_call 46;refine(HCO.out _ hb1).mono ?_;rintro e w2 ⟨v2,rfl,HS2,hb2⟩;obtain⟨ao2,cap2,rfl⟩:=HS2.shape))
 obtain⟨W3,hW3⟩:∃ W3,W3=w2.alloc (.cells #[.slice ao2 ns.length cap2] 94):=⟨_,rfl⟩
 have hg3:Below w2.heap.size w2 (w2.alloc (.cells #[.slice ao2 ns.length cap2] 94)):=(by go_grown)
 have hcb:=Box.new w2 #[.slice ao2 ns.length cap2] 94
 have hs3:=(HS2.below hg3).low (show w.heap.size<=w1.heap.size from hb1.size)
 have hB2:Below w.heap.size w w2:=zae hb1 hb2 (Nat.le_refl _)
 have hB3:Below w.heap.size w (w2.alloc (.cells #[.slice ao2 ns.length cap2] 94)):=zae hB2 hg3 (Nat.le_refl _)
 have hwc:w.heap.size<=w2.heap.size:=hB2.size
 rw[← hW3] at hcb hs3 hB3
 rw[← hW3]
 generalize w2.heap.size=cb at *
 have HCB:Hid (Box W3 cb #[.slice ao2 ns.length cap2] 94):=hcb
 have HS3:Hid (SIn w.heap.size W3 (.slice ao2 ns.length cap2) ns):=hs3
 have x0:=(hB3.cell (p:=⟨pb,0,none⟩) hlt).trans d0
 have hcl:=hcb.lt
 have xl:pb < W3.heap.size:=Nat.lt_of_lt_of_le hlt hB3.size
 have HMA2:Hid (∀ W,Below W3.heap.size W3 W->Calls Tryz.prog 47 #[cv,.pointer (some ⟨pb,1,none⟩),.pointer (some ⟨cb,0,none⟩),ov] W fun e w'=>∃ a1 c1 a2 c2 a3 c3 ps,e=.returned (.agg #[.int .i64 (S.width:Nat),.slice a1 S.arities.length c1,.slice a2 S.facts.length c2,.slice a3 S.rules.length c3])/\Hid (zkj W.heap.size w' (.slice a1 S.arities.length c1) (.slice a2 S.facts.length c2) (.slice a3 S.rules.length c3) S ps)/\Below W.heap.size W w'/\w'.cell? ⟨pb,0,none⟩=some cv):=fun W hb=>by
  refine(HMA.out W cb (zae hB3 hb (Nat.le_refl _)) ⟨Nat.le_trans hlp hwc,_,HCB.out.below hb,(HS3.out.below hb).low hlp⟩).mono ?_
  rintro e w' ⟨av,fv,rv,ps,h1,h2,h3⟩
  have hq:=zae hb h3 (Nat.le_refl _)
  obtain⟨a1,c1,rfl⟩:=zac h2.ari
  obtain⟨a2,c2,rfl⟩:=zac h2.fac
  obtain⟨a3,c3,rfl⟩:=zac h2.rul.own
  exact⟨a1,c1,a2,c2,a3,c3,ps,h1,h2,h3,(hq.cell xl).trans x0⟩
 clear hW3 hcb hs3 hg3 HCO HOR HMA y0 yl HS2 hb2 hb1 hB2 w1 w2 d0
 go_cut [11] from 40 to 48 (fun s11 wx=>zm8 W3 wx S s11)
 case first =>
  go_region_held3 (fun w'=>w'.cell? ⟨pb,0,none⟩=some cv) (first|go_keep|(go_simp;done)) (first|(go_at_call 47;refine(HMA2.out _ (by exact(by go_grown))).mono ?_;rintro e w4 ⟨a1,c1,a2,c2,a3,c3,ps,rfl,HSI,hb4,z0⟩;(try (with_reducible refine Box.carry (Box.drew (Box.new W3 #[.int .i64 0,.slice none 0 0,.slice none 0 0,.slice none 0 0] 99)) hb4 ?_;intro hbz;obtain⟨hbzc,hbzf⟩:=hbz.rules;have hbzl:=hbz.lt))))
  all_goals
   go_wp2_with fail
   go_meet
   case rel=>first|exact zm8.one (W:=W3.drew) (by go_grown) hb4 HSI.out|exact zm8.two (Nat.le_refl _) (W:=(W3.alloc (.cells #[.int .i64 0,.slice none 0 0,.slice none 0 0,.slice none 0 0] 99)).drew) (by go_grown) hb4 hbz HSI.out
 case rest =>
  clear HMA2 x0
  obtain⟨fl,sb,a1,c1,a2,c2,a3,c3,ps,rfl,hsb,hfl,hfw,hbs,HSI,HB4⟩:=hcut
  have HRN:Hid (Calls Tryz.prog 48 #[.agg #[.int .i64 (S.width:Nat),.slice a1 S.arities.length c1,.slice a2 S.facts.length c2,.slice a3 S.rules.length c3],.int .i64 rows,.int .i64 rounds] wc fun e w'=>zz8 fl wc zrr S.width rows rounds res e w'):=run_any wc S ps _ _ _ rows rounds fuel res HSI.out hfw HSO.out.rules HSO.out.many HSO.out.small HSO.out.rows HSO.out.facts ⟨HSO.out.width,h1,h2⟩ HRU.out
  obtain⟨hsc,hsf⟩:=hbs.rules
  have hsl:=hbs.lt
  have hB4:Below w.heap.size w wc:=zae hB3 HB4.out (Nat.le_refl _)
  have HCW:Hid (cb < W3.heap.size):=hcl
  have hwf:w.heap.size<=fl:=Nat.le_trans hB3.size hfl
  clear HSI HSO HRU hcl xl
  cases res with
  |none =>
   have HRN2:Hid (Calls Tryz.prog 48 #[.agg #[.int .i64 (S.width:Nat),.slice a1 S.arities.length c1,.slice a2 S.facts.length c2,.slice a3 S.rules.length c3],.int .i64 rows,.int .i64 rounds] wc fun e w'=>e=.returned (.tuple #[.agg #[.slice none 0 0,.int .i64 0,.int .i64 0,.int .i64 0],.bool false])/\Below fl wc w'):=by
    refine HRN.out.mono ?_
    rintro e w' ⟨h1,own',h2⟩
    exact⟨h1,h2.belowLo hfw⟩
   clear HRN
   go_wp2_with (first|(go_at_call 48;refine HRN2.out.mono ?_;rintro e w5 ⟨rfl,hb5⟩))
   go_ret2
   exact⟨rfl,zae (hB4.trans (hb5.mono hwf)) (by go_grown) (Nat.le_refl _)⟩
  |some R =>
   have HRN2:Hid (Calls Tryz.prog 48 #[.agg #[.int .i64 (S.width:Nat),.slice a1 S.arities.length c1,.slice a2 S.facts.length c2,.slice a3 S.rules.length c3],.int .i64 rows,.int .i64 rounds] wc fun e w'=>∃ aor capr tbs,e=.returned (.tuple #[.agg #[.slice aor R.rows.length capr,.int .i64 (R.count:Nat),.int .i64 (R.rounds:Nat),.int .i64 R.moves],.bool true])/\Hid (w'.ownsRow fl 113 1 (.slice aor R.rows.length capr) R.rows.length (pts tbs)/\tbs.length=R.rows.length/\(∀ p (_:p < R.rows.length) (_:p < tbs.length),∃ fp,zat fl w' tbs[p] R.rows[p] fp)/\R.rows.length<=1000)/\Below fl wc w'):=by
    refine HRN.out.mono ?_
    rintro e w' ⟨own',rb,Q,h1,h2,h3⟩
    obtain⟨aor,capr,hrv⟩:=zac h2.rows
    refine⟨aor,capr,Q.tbs,by rw[h1,hrv],⟨by rw[← hrv];exact h2.rows,h2.tlen,fun p a b=>?_,h2.few.1⟩,h3.belowLo hfw⟩
    obtain⟨fp,q,_⟩:=h2.tries p a b
    exact⟨fp,q⟩
   clear HRN
   go_upto_region 10 with (first|(go_at_call 48;refine HRN2.out.mono ?_;rintro e w5 ⟨aor,capr,tbs,rfl,HRO,hb5⟩))
   have hB5:Below w.heap.size w w5:=hB4.trans (hb5.mono hwf)
   have hB35:Below W3.heap.size W3 w5:=HB4.out.trans (hb5.mono hfl)
   have hg6:Below w5.heap.size w5 (w5.alloc (.cells #[.slice aor R.rows.length capr,.int .i64 (R.count:Nat),.int .i64 (R.rounds:Nat),.int .i64 R.moves] 105)):=(by go_grown)
   have hb12:=Box.new w5 #[.slice aor R.rows.length capr,.int .i64 (R.count:Nat),.int .i64 (R.rounds:Nat),.int .i64 R.moves] 105
   have hcb6:=(HCB.out.below hB35).below hg6
   have HSS:Hid (SIn w.heap.size (w5.alloc (.cells #[.slice aor R.rows.length capr,.int .i64 (R.count:Nat),.int .i64 (R.rounds:Nat),.int .i64 R.moves] 105)) (.slice ao2 ns.length cap2) ns):=(HS3.out.below hB35).below hg6
   have hB6:Below w.heap.size w (w5.alloc (.cells #[.slice aor R.rows.length capr,.int .i64 (R.count:Nat),.int .i64 (R.rounds:Nat),.int .i64 R.moves] 105)):=zae hB5 hg6 (Nat.le_refl _)
   have HPR:Hid (World.ownsRow (w5.alloc (.cells #[.slice aor R.rows.length capr,.int .i64 (R.count:Nat),.int .i64 (R.rounds:Nat),.int .i64 R.moves] 105)) lp 138 3 pv t.length (zcc t)):=zaa HPO.out hB6
   have HRW:Hid (World.ownsRow (w5.alloc (.cells #[.slice aor R.rows.length capr,.int .i64 (R.count:Nat),.int .i64 (R.rounds:Nat),.int .i64 R.moves] 105)) w.heap.size 113 1 (.slice aor R.rows.length capr) R.rows.length (pts tbs)/\tbs.length=R.rows.length/\(∀ p (_:p < R.rows.length) (_:p < tbs.length),∃ fp,zat w.heap.size (w5.alloc (.cells #[.slice aor R.rows.length capr,.int .i64 (R.count:Nat),.int .i64 (R.rounds:Nat),.int .i64 R.moves] 105)) tbs[p] R.rows[p] fp)/\R.rows.length<=1000):=by
    obtain⟨q1,q2,q3,q4⟩:=HRO.out
    refine⟨zbe (zaa q1 hg6) hwf,q2,fun p a b=>?_,q4⟩
    obtain⟨fp,q⟩:=q3 p a b
    exact⟨fp,(q.below hg6).low hwf⟩
   obtain⟨aop,capp,hpv⟩:=zac HPO.out
   subst hpv
   have y1:=(hB6.cell (p:=⟨pb,1,none⟩) hlt).trans d1
   have yl:pb < (w5.alloc (.cells #[.slice aor R.rows.length capr,.int .i64 (R.count:Nat),.int .i64 (R.rounds:Nat),.int .i64 R.moves] 105)).heap.size:=Nat.lt_of_lt_of_le hlt hB6.size
   have hlow6:=hB6.size
   clear hg6 hB35 hB5 HRO HRN2 hb5 hB4 HB4 HS3 HCB hbs hsc hsf hsl
   generalize w5.alloc (.cells #[.slice aor R.rows.length capr,.int .i64 (R.count:Nat),.int .i64 (R.rounds:Nat),.int .i64 R.moves] 105)=W6 at *
   generalize w5.heap.size=ob at *
   obtain⟨oc,of⟩:=hb12.rules
   have ol:=hb12.lt
   have o0:=oc 0
   have o1:=oc 1
   have o2:=oc 2
   have o3:=oc 3
   obtain⟨bc,bf⟩:=hcb6.rules
   have bl:=hcb6.lt
   have b0:=bc 0
   simp only[List.getElem?_toArray,List.getElem?_cons_zero,List.getElem?_cons_succ] at o0 o1 o2 o3 b0
   clear oc bc hb12 hcb6
   go_region
   have hg7:Below W6.heap.size W6 (W6.alloc (.cells #[.slice aop t.length capp,.slice ao2 ns.length cap2,.slice aor R.rows.length capr,.int .i64 (R.count:Nat),.int .i64 (R.rounds:Nat),.int .i64 R.moves] 109)).drew:=(by go_grown)
   have HFIN:Hid (zwp w.heap.size lp (W6.alloc (.cells #[.slice aop t.length capp,.slice ao2 ns.length cap2,.slice aor R.rows.length capr,.int .i64 (R.count:Nat),.int .i64 (R.rounds:Nat),.int .i64 R.moves] 109)).drew W6.heap.size t ns R (.slice aop t.length capp) (.slice ao2 ns.length cap2) (.slice aor R.rows.length capr) tbs/\Below w.heap.size w (W6.alloc (.cells #[.slice aop t.length capp,.slice ao2 ns.length cap2,.slice aor R.rows.length capr,.int .i64 (R.count:Nat),.int .i64 (R.rounds:Nat),.int .i64 R.moves] 109)).drew):=by
    refine⟨⟨hlow6,Box.drew (Box.new _ _ _),zaa HPR.out hg7,HSS.out.below hg7,zaa HRW.out.1 hg7,HRW.out.2.1,fun p a b=>?_,⟨HVL.out.2,HVL.out.1,HRW.out.2.2.2⟩⟩,zae hB6 hg7 (Nat.le_refl _)⟩
    obtain⟨fp,q⟩:=HRW.out.2.2.1 p a b
    exact⟨fp,q.below hg7⟩
   clear hg7 HPR HSS HRW o0 o1 o2 o3 b0
   go_wp2
   go_ret2
   exact⟨W6.heap.size,_,_,_,tbs,hlow6,rfl,HFIN.out.1,HFIN.out.2⟩
end Go.Proofs.YteampbddflhngabGreat
namespace Go.Proofs.YteampbddflhngabGreat
structure zg0 (w:Nat) (n:zhb):Prop where
 len:n.leap.length=w
 dlen:n.down.length=w
 ge:∀ i,i < w->i<=n.leap.getD i 0
 le:∀ i,i < w->n.leap.getD i 0<=w
 fix:∀ i,i < w->n.leap.getD i 0 < w->n.leap.getD (n.leap.getD i 0) 0=n.leap.getD i 0
 seg:∀ i j,i < w->i<=j->j < n.leap.getD i 0->n.leap.getD j 0=n.leap.getD i 0
theorem zal(l:List Nat)(i j v d:Nat):(l.set i v).getD j d=if i=j/\i < l.length then v else l.getD j d:=by
 simp only[List.getD_eq_getElem?_getD,List.getElem?_set]
 by_cases h:i=j
 ·subst h
  by_cases h2:i < l.length
  ·simp[h2]
  ·simp[h2]
 ·simp[h]
theorem znz(v:Nat):∀(n:Nat) (l:List Nat),(zgc v n l).length=l.length
 |0,l=>rfl
 |n+1,l=>by
  unfold zgc
  split
  ·rw[znz];simp
  ·rfl
open Classical in
theorem ztg(v:Nat):∀(n:Nat) (l:List Nat) (u:Nat),n<=l.length->(zgc v n l).getD u 0=if u < n/\∀ j,u<=j->j < n->l.getD j 0 > v then v else l.getD u 0
 |0,l,u,_=>by simp[zgc]
 |n+1,l,u,h=>by
  unfold zgc
  by_cases hg:l.getD n 0 > v
  ·rw[if_pos hg,ztg v n (l.set n v) u (by simp;omega)]
   by_cases hu:u < n
   ·by_cases ha:∀ j,u<=j->j < n->l.getD j 0 > v
    ·rw[if_pos ⟨hu,fun j h1 h2=>by rw[zal,if_neg (by omega)];exact ha j h1 h2⟩,if_pos ⟨by omega,fun j h1 h2=>by
      by_cases hj:j=n
      ·subst hj;exact hg
      ·exact ha j h1 (by omega)⟩]
    ·rw[if_neg (fun q=>ha fun j h1 h2=>by have:=q.2 j h1 h2;rwa [zal,if_neg (by omega)] at this),if_neg (fun q=>ha fun j h1 h2=>q.2 j h1 (by omega)),zal,if_neg (by omega)]
   ·rw[if_neg (fun q=>hu q.1),zal]
    by_cases hn:n=u
    ·subst hn
     rw[if_pos ⟨rfl,by omega⟩,if_pos ⟨by omega,fun j h1 h2=>by
      have:j=n:=by omega
      subst this;exact hg⟩]
    ·rw[if_neg (by omega),if_neg (by omega)]
  ·rw[if_neg hg]
   by_cases hu:u < n+1
   ·rw[if_neg (fun q=>hg (q.2 n (by omega) (by omega)))]
   ·rw[if_neg (fun q=>hu q.1)]
def z4r(w:Nat)(n:zhb)(v:Nat):Prop:=v < w/\n.leap.getD v 0=v
theorem zg0.none{w:Nat}{n:zhb}(h:zg0 w n){i:Nat}(hi:i < w)(hw:¬ n.leap.getD i 0 < w):∀ u,i<=u->¬ z4r w n u:=by
 intro u hu ⟨h1,h2⟩
 have:=h.seg i u hi hu (by omega)
 omega
theorem zg0.some{w:Nat}{n:zhb}(h:zg0 w n){i:Nat}(hi:i < w)(hw:n.leap.getD i 0 < w):i<=n.leap.getD i 0/\z4r w n (n.leap.getD i 0)/\∀ u,i<=u->u < n.leap.getD i 0->¬ z4r w n u:=by
 refine⟨h.ge i hi,⟨hw,h.fix i hi hw⟩,fun u h1 h2 ⟨h3,h4⟩=>?_⟩
 have:=h.seg i u hi h1 h2
 omega
theorem zg0.put{w:Nat}{n:zhb}(h:zg0 w n){v d:Nat}(hv:v < w)(hn:¬ z4r w n v):zg0 w (z3s n v d)/\(∀ u,z4r w (z3s n v d) u↔u=v∨z4r w n u)/\∀ u,(z3s n v d).down.getD u 0=if u=v then d else n.down.getD u 0:=by
 have hl:=h.len
 have hgt:n.leap.getD v 0 > v:=by
  have h1:=h.ge v hv
  rcases Nat.lt_or_eq_of_le h1 with q|q
  ·exact q
  ·exact absurd ⟨hv,q.symm⟩ hn
 have hat:∀ u,(zgc v (v+1) n.leap).getD u 0=if u<=v/\n.leap.getD u 0 > v then v else n.leap.getD u 0:=by
  intro u
  rw[ztg v (v+1) n.leap u (by omega)]
  by_cases hu:u<=v
  ·by_cases hq:n.leap.getD u 0 > v
   ·have key:∀ j,u<=j->j < v+1->n.leap.getD j 0 > v:=fun j h1 h2=>by
     have:=h.seg u j (by omega) h1 (by omega)
     omega
    rw[if_pos ⟨by omega,key⟩,if_pos ⟨hu,hq⟩]
   ·rw[if_neg (fun q=>hq (q.2 u (Nat.le_refl _) (by omega))),if_neg (fun q=>hq q.2)]
  ·rw[if_neg (fun q=>by omega),if_neg (fun q=>by omega)]
 have hp:∀ u,(z3s n v d).leap.getD u 0=if u<=v/\n.leap.getD u 0 > v then v else n.leap.getD u 0:=hat
 have hself:(z3s n v d).leap.getD v 0=v:=by rw[hp,if_pos ⟨Nat.le_refl _,hgt⟩]
 refine⟨⟨by simp[z3s,znz,hl],by simp[z3s,h.dlen],fun i hi=>?_,fun i hi=>?_,fun i hi hq=>?_,fun i j hi hij hj=>?_⟩,fun u=>?_,fun u=>?_⟩
 ·rw[hp];split
  ·omega
  ·exact h.ge i hi
 ·rw[hp];split
  ·omega
  ·exact h.le i hi
 ·by_cases hc:i<=v/\n.leap.getD i 0 > v
  ·rw[hp i,if_pos hc];exact hself
  ·rw[hp i,if_neg hc] at hq ⊢
   have h2:=h.fix i hi hq
   rw[hp]
   by_cases hc2:n.leap.getD i 0<=v/\n.leap.getD (n.leap.getD i 0) 0 > v
   ·omega
   ·rw[if_neg hc2];exact h2
 ·by_cases hc:i<=v/\n.leap.getD i 0 > v
  ·rw[hp i,if_pos hc] at hj ⊢
   have:=h.seg i j hi hij (by omega)
   rw[hp,if_pos ⟨by omega,by omega⟩]
  ·rw[hp i,if_neg hc] at hj ⊢
   have:=h.seg i j hi hij hj
   rw[hp,this]
   have:=h.ge i hi
   rw[if_neg (by omega)]
 ·unfold z4r
  rw[hp]
  by_cases hc:u<=v/\n.leap.getD u 0 > v
  ·rw[if_pos hc]
   constructor
   ·rintro⟨_,q⟩;exact Or.inl q.symm
   ·rintro(q|q)
    ·subst q;exact⟨hv,rfl⟩
    ·omega
  ·rw[if_neg hc]
   constructor
   ·intro q;exact Or.inr q
   ·rintro(q|q)
    ·subst q;exact absurd ⟨Nat.le_refl _,hgt⟩ hc
    ·exact q
 ·show(n.down.set v d).getD u 0=_
  rw[zal]
  by_cases hu:u=v
  ·subst hu;rw[if_pos ⟨rfl,by rw[h.dlen];exact hv⟩,if_pos rfl]
  ·rw[if_neg (by omega),if_neg hu]
theorem zi5(k d i:Nat)(hi:i < k)(x:Nat):(List.replicate k x).getD i d=x:=by simp[List.getD_eq_getElem?_getD,hi]
theorem zg0.new(w:Nat):zg0 w ⟨List.replicate w w,List.replicate w 0⟩/\∀ v,¬ z4r w ⟨List.replicate w w,List.replicate w 0⟩ v:=by
 refine⟨⟨by simp,by simp,fun i hi=>?_,fun i hi=>?_,fun i hi hq=>?_,fun i j hi hij hj=>?_⟩,fun v ⟨h1,h2⟩=>?_⟩ <;> simp only at *
 ·rw[zi5 _ _ _ hi];omega
 ·rw[zi5 _ _ _ hi];exact Nat.le_refl _
 ·rw[zi5 _ _ _ hi] at hq;omega
 ·rw[zi5 _ _ _ hi] at hj ⊢;rw[zi5 _ _ _ hj]
 ·rw[zi5 _ _ _ h1] at h2;omega
def zit(T:zad)(a:Nat):zhb:=T.nodes.getD a zhb.zero
def zgn(T:zad):Prop:=∀ a,a < T.nodes.length->zg0 T.width (zit T a)
theorem zgi(T:zad)(a v:Nat):zax T a v=if a < T.nodes.length/\v < T.width/\(zit T a).leap.getD v 0=v then some ((zit T a).down.getD v 0) else none:=by
 unfold zax zcm zit
 by_cases h1:a < T.nodes.length/\v < T.width
 ·rw[if_pos h1]
  dsimp only
  generalize (T.nodes.getD a zhb.zero).leap.getD v 0=x
  by_cases h2:x=v
  ·subst h2
   rw[if_neg (by omega:¬ x ≥ T.width)]
   simp[h1]
  ·by_cases h3:x ≥ T.width
   ·simp[h3,h2]
   ·simp[h3,h2]
 ·rw[if_neg h1,if_neg (fun q=>h1 ⟨q.1,q.2.1⟩)]
theorem zgr{T:zad}{a v b:Nat}(h:zax T a v=some b):a < T.nodes.length/\v < T.width:=by
 unfold zax zcm at h
 by_cases h1:a < T.nodes.length/\v < T.width
 ·exact h1
 ·rw[if_neg h1] at h;cases h
theorem zta{T:zad}(h:zgn T){a f v:Nat}(hl:zcm T a f=some v):f<=v/\v < T.width/\(zax T a v).isSome=true/\∀ u,f<=u->u < v->zax T a u=none:=by
 unfold zcm at hl
 split at hl
 ·rename_i h1
  simp only at hl
  split at hl
  ·cases hl
  ·rename_i h2
   simp only[Option.some.injEq] at hl
   have hn:=(h a h1.1).some h1.2 (by unfold zit;omega)
   unfold zit at hn
   rw[hl] at hn h2
   refine⟨hn.1,by omega,?_,fun u h3 h4=>?_⟩
   ·rw[zgi,if_pos ⟨h1.1,by omega,hn.2.1.2⟩];rfl
   ·rw[zgi,if_neg (fun q=>hn.2.2 u h3 h4 ⟨q.2.1,q.2.2⟩)]
 ·cases hl
theorem zs9{T:zad}(h:zgn T){a f:Nat}(hl:zcm T a f=none):∀ u,f<=u->zax T a u=none:=by
 intro u hu
 rw[zgi]
 refine if_neg fun q=>?_
 unfold zcm at hl
 rw[if_pos ⟨q.1,by omega⟩] at hl
 simp only at hl
 split at hl
 ·rename_i h2
  exact(h a q.1).none (show f < T.width by omega) (by unfold zit;omega) u hu ⟨q.2.1,q.2.2⟩
 ·cases hl
def goT(T:zad):Nat->zao->Option Nat
 |a,[]=>some a
 |a,v::r=>match zax T a v with
  |none=>none
  |some b=>goT T b r
theorem zfo(T:zad):∀(p q:zao) (a:Nat),goT T a (p++q)=(goT T a p).bind fun b=>goT T b q
 |[],q,a=>rfl
 |v::p,q,a=>by
  simp only[List.cons_append,goT]
  cases zax T a v with
  |none=>rfl
  |some b=>exact zfo T p q b
structure zer (T:zad) (pth:Nat->zao):Prop where
 dep:1<=T.depth/\T.depth<=3
 wid:1<=T.width
 pos:0 < T.nodes.length
 node:zgn T
 root:pth 0=[]
 lev:∀ a,a < T.nodes.length->(pth a).length < T.depth
 inj:∀ a b,a < T.nodes.length->b < T.nodes.length->pth a=pth b->a=b
 kid:∀ a v b,zax T a v=some b->(pth a).length+1 < T.depth->b < T.nodes.length/\pth b=pth a++[v]
 par:∀ b,b < T.nodes.length->b≠0->∃ a v,zax T a v=some b/\(pth a).length+1 < T.depth/\pth b=pth a++[v]
theorem z1a(l:List zhb)(i j:Nat)(v d:zhb):(l.set i v).getD j d=if i=j/\i < l.length then v else l.getD j d:=by
 simp only[List.getD_eq_getElem?_getD,List.getElem?_set]
 by_cases h:i=j
 ·subst h
  by_cases h2:i < l.length
  ·simp[h2]
  ·simp[h2]
 ·simp[h]
theorem zxe(T:zad)(a v d b:Nat)(ha:a < T.nodes.length)(hv:v < T.width):zit (ze3 T a v d) b=if b=a then z3s (zit T a) v d else zit T b:=by
 unfold ze3 zit
 rw[if_pos ⟨ha,hv⟩]
 simp only
 rw[z1a]
 by_cases h:b=a
 ·subst h;rw[if_pos ⟨rfl,ha⟩,if_pos rfl]
 ·rw[if_neg (fun q=>h q.1.symm),if_neg h]
theorem zhe(T:zad)(a v d:Nat):(ze3 T a v d).nodes.length=T.nodes.length:=by unfold ze3;split <;> simp
theorem zi1(T:zad)(a v d:Nat):(ze3 T a v d).width=T.width:=by unfold ze3;split <;> rfl
theorem zhp(T:zad)(a v d:Nat):(ze3 T a v d).depth=T.depth:=by unfold ze3;split <;> rfl
theorem zty(T:zad)(a v d:Nat):(ze3 T a v d).count=T.count:=by unfold ze3;split <;> rfl
theorem zxj{T:zad}(h:zgn T){a v d:Nat}(ha:a < T.nodes.length)(hv:v < T.width)(hn:zax T a v=none):zgn (ze3 T a v d)/\∀ b u,zax (ze3 T a v d) b u=if b=a/\u=v then some d else zax T b u:=by
 have hnh:¬ z4r T.width (zit T a) v:=fun q=>by rw[zgi,if_pos ⟨ha,hv,q.2⟩] at hn;cases hn
 obtain⟨p1,p2,p3⟩:=(h a ha).put (d:=d) hv hnh
 have hok:zgn (ze3 T a v d):=by
  intro b hb
  rw[zhe] at hb
  rw[zi1,zxe T a v d b ha hv]
  split
  ·exact p1
  ·exact h b hb
 refine⟨hok,fun b u=>?_⟩
 rw[zgi,zhe,zi1,zxe T a v d b ha hv,zgi]
 by_cases hb:b=a
 ·subst hb
  rw[if_pos rfl,p3]
  by_cases hu:u=v
  ·subst hu
   rw[if_pos rfl,if_pos ⟨ha,hv,((p2 u).2 (Or.inl rfl)).2⟩,if_pos ⟨rfl,rfl⟩]
  ·rw[if_neg hu,if_neg (fun q:b=b/\u=v=>hu q.2)]
   by_cases hq:b < T.nodes.length/\u < T.width/\(zit T b).leap.getD u 0=u
   ·rw[if_pos hq,if_pos ⟨hq.1,hq.2.1,((p2 u).2 (Or.inr hq.2)).2⟩]
   ·rw[if_neg hq]
    refine if_neg fun q=>hq ⟨q.1,?_⟩
    rcases(p2 u).1 q.2 with r|r
    ·exact absurd r hu
    ·exact r
 ·rw[if_neg hb,if_neg (fun q:b=a/\u=v=>hb q.1)]
theorem z1b{T:zad}(h:zgn T):zgn (zb7 T)/\∀ b u,zax (zb7 T) b u=zax T b u:=by
 have hnd:∀ b,zit (zb7 T) b=if b < T.nodes.length then zit T b else if b=T.nodes.length then⟨List.replicate T.width T.width,List.replicate T.width 0⟩ else zhb.zero:=by
  intro b
  unfold zit zb7
  simp only[List.getD_eq_getElem?_getD,List.getElem?_append]
  by_cases h1:b < T.nodes.length
  ·simp[h1]
  ·rw[if_neg h1,if_neg h1]
   by_cases h2:b=T.nodes.length
   ·subst h2;simp
   ·rw[if_neg h2]
    rw[List.getElem?_eq_none (by simp;omega)];rfl
 have hln:(zb7 T).nodes.length=T.nodes.length+1:=by simp[zb7]
 have hok:zgn (zb7 T):=by
  intro b hb
  rw[hln] at hb
  rw[hnd]
  by_cases h1:b < T.nodes.length
  ·rw[if_pos h1];exact h b h1
  ·rw[if_neg h1,if_pos (by omega)];exact(zg0.new T.width).1
 refine⟨hok,fun b u=>?_⟩
 rw[zgi,zgi,hnd,hln,show(zb7 T).width=T.width from rfl]
 by_cases h1:b < T.nodes.length
 ·rw[if_pos h1]
  by_cases hq:u < T.width/\(zit T b).leap.getD u 0=u
  ·rw[if_pos ⟨by omega,hq⟩,if_pos ⟨h1,hq⟩]
  ·rw[if_neg (fun q=>hq q.2),if_neg (fun q=>hq q.2)]
 ·rw[if_neg h1,if_neg (fun q:b < T.nodes.length/\_=>h1 q.1)]
  by_cases h2:b=T.nodes.length
  ·rw[if_pos h2]
   exact if_neg fun q=>(zg0.new T.width).2 u q.2
  ·exact if_neg fun q=>by omega
end Go.Proofs.YteampbddflhngabGreat
