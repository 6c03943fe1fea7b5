import Derived.Test.YteampbddflhngaaGreatW32
import Derived.Test.YteampbddflhngaaGreatW33
import Derived.Test.YteampbddflhngaaGreatW08
import Derived.Deep.RegionHeld3
import Derived.Deep.CutRange
import Derived.Test.YteampbddflhngaaGreatW16

namespace Go.Proofs.YteampbddflhngaaGreat
set_option maxRecDepth 100000
set_option maxHeartbeats 4000000
open Go.RowKit
variable {lo lp:Nat}
variable {a1 a2 a3:Option Addr}{ps:List (Value × Value × Value)}
structure z9d (S:zsb):Prop where
 rules:zlv S.qh.length S.rules
 many:S.qh.length<=1000
 small:∀ a∈S.qh,a<=100000000
 rows:∀ f∈S.facts,f.row.length=3
 facts:S.facts.length<=1000000
 qg:S.qg<=1000
structure z7w (cs:List zab) (t:List zar) (os:Option (List (Option (List Int)))):Prop where
 len:cs.length<=1000
 names:t.length<=1000
 fine:∀ c∈cs,zpb c
 sums:∀ c∈cs,c.head.args.length+zcd c.body<=1000/\c.body.length<=900
 few:z7k cs
 vals:(zaw cs).length<=1000
 jl:∀ n,zdv t n<=1000000
 ords:(os.getD []).length<=2000000
 each:∀ o∈os.getD [],(o.getD []).length<=2000000
 ordok:zge cs os=true->∀ o∈os.getD [],(o.getD []).length<=1000
 set:zge cs os=true->z9d (zjv t (zaw cs) os cs)
def zno(w0 w:World)(S:zsb)(s:Value):Prop:=∃(fl sb:Nat) (a1:Option Addr) (c1:Nat) (a2:Option Addr) (c2:Nat) (a3:Option Addr) (c3:Nat) (ps:List (Value × Value × Value)),s=.pointer (some ⟨sb,0,none⟩)/\w0.heap.size<=sb/\w0.heap.size<=fl/\fl<=w.heap.size/\Box w sb #[.int .i64 (S.qg:Nat),.slice a1 S.qh.length c1,.slice a2 S.facts.length c2,.slice a3 S.rules.length c3] 146/\Hid (zkt fl w (.slice a1 S.qh.length c1) (.slice a2 S.facts.length c2) (.slice a3 S.rules.length c3) S ps)/\Hid (Below w0.heap.size w0 w)
theorem zkt.saveT{w w':World}{av fv rv:Value}{S:zsb}{ps:List (Value × Value × Value)}{T:TypeId}{M:List Nat}(h:zkt lo w av fv rv S ps)(hs:zas M w w')(hM:OfT w T M)(h0:3≠T)(h1:210≠T)(hT:284≠T)(hT2:204≠T)(hT3:207≠T):zkt lo w' av fv rv S ps:=⟨zaj h.ari hs hM h0,zaj h.fac hs hM h1,h.rul.saveT hs hM hT hT2 hT3⟩
theorem zkt.below{w w':World}{av fv rv:Value}{S:zsb}{ps:List (Value × Value × Value)}(h:zkt lo w av fv rv S ps)(hb:Below w.heap.size w w'):zkt lo w' av fv rv S ps:=⟨zaa h.ari hb,zaa h.fac hb,h.rul.below hb⟩
theorem zno.one{w0 W w4:World}{S:zsb}{c1 c2 c3:Nat}(hW:Below w0.heap.size w0 W)(hb:Below W.heap.size W w4)(h:zkt W.heap.size w4 (.slice a1 S.qh.length c1) (.slice a2 S.facts.length c2) (.slice a3 S.rules.length c3) S ps):zno w0 (w4.alloc (.cells #[.int .i64 (S.qg:Nat),.slice a1 S.qh.length c1,.slice a2 S.facts.length c2,.slice a3 S.rules.length c3] 146)) S (.pointer (some ⟨w4.heap.size,0,none⟩)):=by
 have hg:Below w4.heap.size w4 (w4.alloc (.cells #[.int .i64 (S.qg:Nat),.slice a1 S.qh.length c1,.slice a2 S.facts.length c2,.slice a3 S.rules.length c3] 146)):=(Below.refl _ _).alloc (uaa _) _
 have h1:=hW.size
 have h2:=hb.size
 have h3:=hg.size
 exact⟨W.heap.size,w4.heap.size,a1,c1,a2,c2,a3,c3,ps,rfl,by omega,h1,by omega,Box.new _ _ _,h.below hg,zae (zae hW hb (uaa _)) hg (uaa _)⟩
theorem zno.two{w0 W w4:World}{sb:Nat}{z0 z1 z2 z3:Value}{S:zsb}{c1 c2 c3:Nat}(hsb:w0.heap.size<=sb)(hW:Below w0.heap.size w0 W)(hb:Below W.heap.size W w4)(hx:Box w4 sb #[z0,z1,z2,z3] 146)(h:zkt W.heap.size w4 (.slice a1 S.qh.length c1) (.slice a2 S.facts.length c2) (.slice a3 S.rules.length c3) S ps):zno w0 ((((w4.setCell ⟨sb,0,none⟩ (.int .i64 (S.qg:Nat))).setCell ⟨sb,1,none⟩ (.slice a1 S.qh.length c1)).setCell ⟨sb,2,none⟩ (.slice a2 S.facts.length c2)).setCell ⟨sb,3,none⟩ (.slice a3 S.rules.length c3)) S (.pointer (some ⟨sb,0,none⟩)):=by
 have h1:=hW.size
 have h2:=hb.size
 have b1:=hx.set 0 (.int .i64 (S.qg:Nat))
 have b2:=b1.set 1 (.slice a1 S.qh.length c1)
 have b3:=b2.set 2 (.slice a2 S.facts.length c2)
 have b4:=b3.set 3 (.slice a3 S.rules.length c3)
 have s1:zkt W.heap.size ((((w4.setCell ⟨sb,0,none⟩ (.int .i64 (S.qg:Nat))).setCell ⟨sb,1,none⟩ (.slice a1 S.qh.length c1)).setCell ⟨sb,2,none⟩ (.slice a2 S.facts.length c2)).setCell ⟨sb,3,none⟩ (.slice a3 S.rules.length c3)) (.slice a1 S.qh.length c1) (.slice a2 S.facts.length c2) (.slice a3 S.rules.length c3) S ps:=(((h.saveT (zas.set _ _ _ (.int .i64 (S.qg:Nat))) (OfT.box hx) (by decide) (by decide) (by decide) (by decide) (by decide)).saveT (zas.set _ _ _ (.slice a1 S.qh.length c1)) (OfT.box b1) (by decide) (by decide) (by decide) (by decide) (by decide)).saveT (zas.set _ _ _ (.slice a2 S.facts.length c2)) (OfT.box b2) (by decide) (by decide) (by decide) (by decide) (by decide)).saveT (zas.set _ _ _ (.slice a3 S.rules.length c3)) (OfT.box b3) (by decide) (by decide) (by decide) (by decide) (by decide)
 exact⟨W.heap.size,sb,a1,c1,a2,c2,a3,c3,ps,rfl,hsb,h1,by simp;omega,by simpa using b4,s1,((((zae hW hb (uaa _)).setCell hsb _).setCell hsb _).setCell hsb _).setCell hsb _⟩
theorem Mod.belowLo{ok:TypeId->zay->Prop}{w w':World}{own own':Nat->zay}(h:Mod lo ok w own w' own')(hl:lo<=w.heap.size):Below lo w w':=by
 obtain⟨_,M,h2,h3⟩:=h
 exact h2.below (fun b hb=>(h3 b hb).1) hl
def z9c(lp:Nat)(t:List zar)(ns:List ByteArray)(res:Option zbg)(w:World)(e:Ending)(w':World):Prop:=match res with
 |none=>e=.returned (.tuple #[.pointer none,.int .i64 10])/\Below w.heap.size w w'
 |some R=>∃ rb pv nv rv tbs,w.heap.size<=rb/\e=.returned (.tuple #[.pointer (some ⟨rb,0,none⟩),.int .i64 0])/\zva w.heap.size lp w' rb t ns R pv nv rv tbs/\Below w.heap.size w w'
theorem z9t(w:World)(pb:Nat)(cs:List zab)(t:List zar)(ov:Value)(os:Option (List (Option (List Int))))(rows qw:Nat)(hP:zkr lp w pb cs t)(ho:zhq w ov os)(hk:z7w cs t os)(hb:zge cs os=false)(h1:rows<=1048576)(h2:qw<=1048576) :
  Calls Tryz.prog 35 #[.pointer (some ⟨pb,0,none⟩),ov,.int .i64 rows,.int .i64 qw] w fun e w'=>e=.returned (.tuple #[.pointer none,.int .i64 9])/\Below w.heap.size w w':=by
 obtain⟨_,cv,pv,hbx,hci,_⟩:=hP
 have HOR:Hid (Calls Tryz.prog 71 #[cv,ov] w fun e w'=>e=.returned (.bool (zge cs os))/\Below w.heap.size w w'):=zqk w cv ov cs os hci hk.fine hk.len ho hk.ords hk.each
 rw[hb] at HOR
 obtain⟨hc,hf⟩:=hbx.rules
 have hlt:=hbx.lt
 clear hb
 go_enter Tryz.func35,Tryz.ntmps35
 go_wp2_with (first|(go_at_call 71;refine HOR.out.mono ?_;rintro e w1 ⟨rfl,hb1⟩))
 go_ret2
 exact⟨rfl,hb1⟩
theorem z6q(w:World)(pb:Nat)(cs:List zab)(t:List zar)(ov:Value)(os:Option (List (Option (List Int))))(rows qw fuel:Nat)(res:Option zbg)(hP:zkr lp w pb cs t)(ho:zhq w ov os)(hk:z7w cs t os)(hb:zge cs os=true)(h1:rows<=1048576)(h2:qw<=1048576)(hlp:lp<=w.heap.size)(hr:z8x fuel (zjv t (zaw cs) os cs) rows qw=some res) :
  Calls Tryz.prog 35 #[.pointer (some ⟨pb,0,none⟩),ov,.int .i64 rows,.int .i64 qw] w fun e w'=>z9c lp t (zaw cs) res w e w':=by
 have HP:Hid (zkr lp w pb cs t):=hP
 obtain⟨_,cv,pv,hbx,hci,hpo⟩:=hP
 have HOR:Hid (Calls Tryz.prog 71 #[cv,ov] w fun e w'=>e=.returned (.bool (zge cs os))/\Below w.heap.size w w'):=zqk w cv ov cs os hci hk.fine hk.len ho hk.ords hk.each
 rw[hb] at HOR
 have HCO:Hid (∀ W,Below w.heap.size w W->Calls Tryz.prog 72 #[cv] W fun e w'=>∃ v',e=.returned (.agg #[v'])/\SIn W.heap.size w' v' (zaw cs)/\Below W.heap.size W w'):=fun W hW=>zsx W cv cs (hci.below hW) hk.few
 have HMA:Hid (∀ W cb,Below w.heap.size w W->z4t lp W cb (zaw cs)->Calls Tryz.prog 73 #[cv,.pointer (some ⟨pb,1,none⟩),.pointer (some ⟨cb,0,none⟩),ov] W fun e w'=>zxb W (zjv t (zaw cs) os cs) e w'):=fun W cb hW hC=>z6f W pb 1 cb t (zaw cs) cs cv ov os ⟨pv,(hbx.below hW).lt,(hbx.below hW).rules.1 1,zaa hpo hW⟩ hC hk.names hk.vals (hci.below hW) hk.sums hk.len (ho.below hW) hk.ords (hk.ordok hb) hk.jl
 have HSO:Hid (z9d (zjv t (zaw cs) os cs)):=hk.set hb
 have HVL:Hid ((zaw cs).length<=1000/\t.length<=1000):=⟨hk.vals,hk.names⟩
 have HRU:Hid (z8x fuel (zjv t (zaw cs) os cs) rows qw=some res):=hr
 obtain⟨hc,hf⟩:=hbx.rules
 have hlt:=hbx.lt
 have d0:=hc 0
 have d1:=hc 1
 simp only[ubt,ubc,ubn] at d0 d1
 clear hb hr hc hk hci ho
 generalize zjv t (zaw cs) os cs=S at *
 generalize zaw cs=ns at *
 have HBX:Hid (Box w pb #[cv,pv] 131):=hbx
 have HPO:Hid (w.ownsRow lp 221 3 pv t.length (zcb t)):=hpo
 clear hbx hpo
 go_enter Tryz.func35,Tryz.ntmps35
 go_upto_region 6 with (first|(go_at_call 71;refine HOR.out.mono ?_;rintro e w1 ⟨rfl,hb1⟩;have y0:=(hb1.cell (p:=⟨pb,0,none⟩) hlt).trans d0;have yl:pb < w1.heap.size:=ual hlt hb1.size)|(go_at_call 72;refine(HCO.out _ hb1).mono ?_;rintro e w2 ⟨v2,rfl,HS2,hb2⟩;obtain⟨ao2,cap2,rfl⟩:=HS2.shape))
 obtain⟨W3,hW3⟩:∃ W3,W3=w2.alloc (.cells #[.slice ao2 ns.length cap2] 141):=⟨_,rfl⟩
 have hg3:Below w2.heap.size w2 (w2.alloc (.cells #[.slice ao2 ns.length cap2] 141)):=(by go_grown)
 have hcb:=Box.new w2 #[.slice ao2 ns.length cap2] 141
 have hs3:=(HS2.below hg3).low (show w.heap.size<=w1.heap.size from hb1.size)
 have hB2:Below w.heap.size w w2:=zae hb1 hb2 (uaa _)
 have hB3:Below w.heap.size w (w2.alloc (.cells #[.slice ao2 ns.length cap2] 141)):=zae hB2 hg3 (uaa _)
 have hwc:w.heap.size<=w2.heap.size:=hB2.size
 rw[← hW3] at hcb hs3 hB3
 rw[← hW3]
 generalize w2.heap.size=cb at *
 have HCB:Hid (Box W3 cb #[.slice ao2 ns.length cap2] 141):=hcb
 have HS3:Hid (SIn w.heap.size W3 (.slice ao2 ns.length cap2) ns):=hs3
 have x0:=(hB3.cell (p:=⟨pb,0,none⟩) hlt).trans d0
 have hcl:=hcb.lt
 have xl:pb < W3.heap.size:=ual hlt hB3.size
 have HMA2:Hid (∀ W,Below W3.heap.size W3 W->Calls Tryz.prog 73 #[cv,.pointer (some ⟨pb,1,none⟩),.pointer (some ⟨cb,0,none⟩),ov] W fun e w'=>∃ a1 c1 a2 c2 a3 c3 ps,e=.returned (.agg #[.int .i64 (S.qg:Nat),.slice a1 S.qh.length c1,.slice a2 S.facts.length c2,.slice a3 S.rules.length c3])/\Hid (zkt W.heap.size w' (.slice a1 S.qh.length c1) (.slice a2 S.facts.length c2) (.slice a3 S.rules.length c3) S ps)/\Below W.heap.size W w'/\w'.cell? ⟨pb,0,none⟩=some cv):=fun W hb=>by
  refine(HMA.out W cb (zae hB3 hb (uaa _)) ⟨uap hlp hwc,_,HCB.out.below hb,(HS3.out.below hb).low hlp⟩).mono ?_
  rintro e w' ⟨av,fv,rv,ps,h1,h2,h3⟩
  have hq:=zae hb h3 (uaa _)
  obtain⟨a1,c1,rfl⟩:=zac h2.ari
  obtain⟨a2,c2,rfl⟩:=zac h2.fac
  obtain⟨a3,c3,rfl⟩:=zac h2.rul.own
  exact⟨a1,c1,a2,c2,a3,c3,ps,h1,h2,h3,(hq.cell xl).trans x0⟩
 clear hW3 hcb hs3 hg3 HCO HOR HMA y0 yl HS2 hb2 hb1 hB2 w1 w2 d0
 go_cut [11] from 40 to 48 (fun s11 wx=>zno W3 wx S s11)
 case first =>
  go_region_held3 (fun w'=>w'.cell? ⟨pb,0,none⟩=some cv) (first|go_keep|(go_simp;done)) (first|(go_at_call 73;refine(HMA2.out _ (by exact(by go_grown))).mono ?_;rintro e w4 ⟨a1,c1,a2,c2,a3,c3,ps,rfl,HSI,hb4,z0⟩;(try (with_reducible refine Box.carry (Box.drew (Box.new W3 #[.int .i64 0,.slice none 0 0,.slice none 0 0,.slice none 0 0] 146)) hb4 ?_;intro hbz;obtain⟨hbzc,hbzf⟩:=hbz.rules;have hbzl:=hbz.lt))))
  all_goals
   go_wp2_with fail
   go_meet
   case rel=>first|exact zno.one (W:=W3.drew) (by go_grown) hb4 HSI.out|exact zno.two (uaa _) (W:=(W3.alloc (.cells #[.int .i64 0,.slice none 0 0,.slice none 0 0,.slice none 0 0] 146)).drew) (by go_grown) hb4 hbz HSI.out
 case rest =>
  clear HMA2 x0
  obtain⟨fl,sb,a1,c1,a2,c2,a3,c3,ps,rfl,hsb,hfl,hfw,hbs,HSI,HB4⟩:=hcut
  have HRN:Hid (Calls Tryz.prog 74 #[.agg #[.int .i64 (S.qg:Nat),.slice a1 S.qh.length c1,.slice a2 S.facts.length c2,.slice a3 S.rules.length c3],.int .i64 rows,.int .i64 qw] wc fun e w'=>z01 fl wc zse S.qg rows qw res e w'):=run_any wc S ps _ _ _ rows qw fuel res HSI.out hfw HSO.out.rules HSO.out.many HSO.out.small HSO.out.rows HSO.out.facts ⟨HSO.out.qg,h1,h2⟩ HRU.out
  obtain⟨hsc,hsf⟩:=hbs.rules
  have hsl:=hbs.lt
  have hB4:Below w.heap.size w wc:=zae hB3 HB4.out (uaa _)
  have HCW:Hid (cb < W3.heap.size):=hcl
  have hwf:w.heap.size<=fl:=uap hB3.size hfl
  clear HSI HSO HRU hcl xl
  cases res with
  |none =>
   have HRN2:Hid (Calls Tryz.prog 74 #[.agg #[.int .i64 (S.qg:Nat),.slice a1 S.qh.length c1,.slice a2 S.facts.length c2,.slice a3 S.rules.length c3],.int .i64 rows,.int .i64 qw] wc fun e w'=>e=.returned (.tuple #[.agg #[.slice none 0 0,.int .i64 0,.int .i64 0,.int .i64 0],.bool false])/\Below fl wc w'):=by
    refine HRN.out.mono ?_
    rintro e w' ⟨h1,own',h2⟩
    exact⟨h1,h2.belowLo hfw⟩
   clear HRN
   go_wp2_with (first|(go_at_call 74;refine HRN2.out.mono ?_;rintro e w5 ⟨rfl,hb5⟩))
   go_ret2
   exact⟨rfl,zae (hB4.trans (hb5.mono hwf)) (by go_grown) (uaa _)⟩
  |some R =>
   have HRN2:Hid (Calls Tryz.prog 74 #[.agg #[.int .i64 (S.qg:Nat),.slice a1 S.qh.length c1,.slice a2 S.facts.length c2,.slice a3 S.rules.length c3],.int .i64 rows,.int .i64 qw] wc fun e w'=>∃ aor capr tbs,e=.returned (.tuple #[.agg #[.slice aor R.rows.length capr,.int .i64 (R.count:Nat),.int .i64 (R.qw:Nat),.int .i64 R.jf],.bool true])/\Hid (w'.ownsRow fl 162 1 (.slice aor R.rows.length capr) R.rows.length (pts tbs)/\tbs.length=R.rows.length/\(∀ p (_:p < R.rows.length) (_:p < tbs.length),∃ fp,zat fl w' tbs[p] R.rows[p] fp)/\R.rows.length<=1000)/\Below fl wc w'):=by
    refine HRN.out.mono ?_
    rintro e w' ⟨own',rb,Q,h1,h2,h3⟩
    obtain⟨aor,capr,hrv⟩:=zac h2.rows
    refine⟨aor,capr,Q.tbs,by rw[h1,hrv],⟨by rw[← hrv];exact h2.rows,h2.tlen,fun p a b=>?_,h2.few.1⟩,h3.belowLo hfw⟩
    obtain⟨fp,q,_⟩:=h2.tries p a b
    exact⟨fp,q⟩
   clear HRN
   go_upto_region 10 with (first|(go_at_call 74;refine HRN2.out.mono ?_;rintro e w5 ⟨aor,capr,tbs,rfl,HRO,hb5⟩))
   have hB5:Below w.heap.size w w5:=hB4.trans (hb5.mono hwf)
   have hB35:Below W3.heap.size W3 w5:=HB4.out.trans (hb5.mono hfl)
   have hg6:Below w5.heap.size w5 (w5.alloc (.cells #[.slice aor R.rows.length capr,.int .i64 (R.count:Nat),.int .i64 (R.qw:Nat),.int .i64 R.jf] 152)):=(by go_grown)
   have hb12:=Box.new w5 #[.slice aor R.rows.length capr,.int .i64 (R.count:Nat),.int .i64 (R.qw:Nat),.int .i64 R.jf] 152
   have hcb6:=(HCB.out.below hB35).below hg6
   have HSS:Hid (SIn w.heap.size (w5.alloc (.cells #[.slice aor R.rows.length capr,.int .i64 (R.count:Nat),.int .i64 (R.qw:Nat),.int .i64 R.jf] 152)) (.slice ao2 ns.length cap2) ns):=(HS3.out.below hB35).below hg6
   have hB6:Below w.heap.size w (w5.alloc (.cells #[.slice aor R.rows.length capr,.int .i64 (R.count:Nat),.int .i64 (R.qw:Nat),.int .i64 R.jf] 152)):=zae hB5 hg6 (uaa _)
   have HPR:Hid (World.ownsRow (w5.alloc (.cells #[.slice aor R.rows.length capr,.int .i64 (R.count:Nat),.int .i64 (R.qw:Nat),.int .i64 R.jf] 152)) lp 221 3 pv t.length (zcb t)):=zaa HPO.out hB6
   have HRW:Hid (World.ownsRow (w5.alloc (.cells #[.slice aor R.rows.length capr,.int .i64 (R.count:Nat),.int .i64 (R.qw:Nat),.int .i64 R.jf] 152)) w.heap.size 162 1 (.slice aor R.rows.length capr) R.rows.length (pts tbs)/\tbs.length=R.rows.length/\(∀ p (_:p < R.rows.length) (_:p < tbs.length),∃ fp,zat w.heap.size (w5.alloc (.cells #[.slice aor R.rows.length capr,.int .i64 (R.count:Nat),.int .i64 (R.qw:Nat),.int .i64 R.jf] 152)) tbs[p] R.rows[p] fp)/\R.rows.length<=1000):=by
    obtain⟨q1,q2,q3,q4⟩:=HRO.out
    refine⟨zbf (zaa q1 hg6) hwf,q2,fun p a b=>?_,q4⟩
    obtain⟨fp,q⟩:=q3 p a b
    exact⟨fp,(q.below hg6).low hwf⟩
   obtain⟨aop,capp,hpv⟩:=zac HPO.out
   subst hpv
   have y1:=(hB6.cell (p:=⟨pb,1,none⟩) hlt).trans d1
   have yl:pb < (w5.alloc (.cells #[.slice aor R.rows.length capr,.int .i64 (R.count:Nat),.int .i64 (R.qw:Nat),.int .i64 R.jf] 152)).heap.size:=ual hlt hB6.size
   have hlow6:=hB6.size
   clear hg6 hB35 hB5 HRO HRN2 hb5 hB4 HB4 HS3 HCB hbs hsc hsf hsl
   generalize w5.alloc (.cells #[.slice aor R.rows.length capr,.int .i64 (R.count:Nat),.int .i64 (R.qw:Nat),.int .i64 R.jf] 152)=W6 at *
   generalize w5.heap.size=ob at *
   obtain⟨oc,of⟩:=hb12.rules
   have ol:=hb12.lt
   have o0:=oc 0
   have o1:=oc 1
   have o2:=oc 2
   have o3:=oc 3
   obtain⟨bc,bf⟩:=hcb6.rules
   have bl:=hcb6.lt
   have b0:=bc 0
   simp only[ubt,ubc,ubn] at o0 o1 o2 o3 b0
   clear oc bc hb12 hcb6
   go_region
   have hg7:Below W6.heap.size W6 (W6.alloc (.cells #[.slice aop t.length capp,.slice ao2 ns.length cap2,.slice aor R.rows.length capr,.int .i64 (R.count:Nat),.int .i64 (R.qw:Nat),.int .i64 R.jf] 156)).drew:=(by go_grown)
   have HFIN:Hid (zva w.heap.size lp (W6.alloc (.cells #[.slice aop t.length capp,.slice ao2 ns.length cap2,.slice aor R.rows.length capr,.int .i64 (R.count:Nat),.int .i64 (R.qw:Nat),.int .i64 R.jf] 156)).drew W6.heap.size t ns R (.slice aop t.length capp) (.slice ao2 ns.length cap2) (.slice aor R.rows.length capr) tbs/\Below w.heap.size w (W6.alloc (.cells #[.slice aop t.length capp,.slice ao2 ns.length cap2,.slice aor R.rows.length capr,.int .i64 (R.count:Nat),.int .i64 (R.qw:Nat),.int .i64 R.jf] 156)).drew):=by
    refine⟨⟨hlow6,Box.drew (Box.new _ _ _),zaa HPR.out hg7,HSS.out.below hg7,zaa HRW.out.1 hg7,HRW.out.2.1,fun p a b=>?_,⟨HVL.out.2,HVL.out.1,HRW.out.2.2.2⟩⟩,zae hB6 hg7 (uaa _)⟩
    obtain⟨fp,q⟩:=HRW.out.2.2.1 p a b
    exact⟨fp,q.below hg7⟩
   clear hg7 HPR HSS HRW o0 o1 o2 o3 b0
   go_wp2
   go_ret2
   exact⟨W6.heap.size,_,_,_,tbs,hlow6,rfl,HFIN.out.1,HFIN.out.2⟩
end Go.Proofs.YteampbddflhngaaGreat
namespace Go.Proofs.YteampbddflhngaaGreat
structure zg6 (w:Nat) (n:zhi):Prop where
 len:n.leap.length=w
 dlen:n.down.length=w
 ge:∀ i,i < w->i<=n.leap.getD i 0
 le:∀ i,i < w->n.leap.getD i 0<=w
 fix:∀ i,i < w->n.leap.getD i 0 < w->n.leap.getD (n.leap.getD i 0) 0=n.leap.getD i 0
 seg:∀ i j,i < w->i<=j->j < n.leap.getD i 0->n.leap.getD j 0=n.leap.getD i 0
theorem zam(l:List Nat)(i j v d:Nat):(l.set i v).getD j d=if i=j/\i < l.length then v else l.getD j d:=by
 simp only[uaf,udf]
 by_cases h:i=j
 ·subst h
  by_cases h2:i < l.length
  ·simp[h2]
  ·simp[h2]
 ·simp[h]
theorem zoi(v:Nat):∀(n:Nat) (l:List Nat),(zgh v n l).length=l.length
 |0,l=>rfl
 |n+1,l=>by
  unfold zgh
  split
  ·rw[zoi];simp
  ·rfl
open Classical in
theorem zt4(v:Nat):∀(n:Nat) (l:List Nat) (u:Nat),n<=l.length->(zgh v n l).getD u 0=if u < n/\∀ j,u<=j->j < n->l.getD j 0 > v then v else l.getD u 0
 |0,l,u,_=>by simp[zgh]
 |n+1,l,u,h=>by
  unfold zgh
  by_cases hg:l.getD n 0 > v
  ·rw[if_pos hg,zt4 v n (l.set n v) u (by simp;omega)]
   by_cases hu:u < n
   ·by_cases ha:∀ j,u<=j->j < n->l.getD j 0 > v
    ·rw[if_pos ⟨hu,fun j h1 h2=>by rw[zam,if_neg (by omega)];exact ha j h1 h2⟩,if_pos ⟨by omega,fun j h1 h2=>by
      by_cases hj:j=n
      ·subst hj;exact hg
      ·exact ha j h1 (by omega)⟩]
    ·rw[if_neg (fun q=>ha fun j h1 h2=>by have:=q.2 j h1 h2;rwa [zam,if_neg (by omega)] at this),if_neg (fun q=>ha fun j h1 h2=>q.2 j h1 (by omega)),zam,if_neg (by omega)]
   ·rw[if_neg (fun q=>hu q.1),zam]
    by_cases hn:n=u
    ·subst hn
     rw[if_pos ⟨rfl,by omega⟩,if_pos ⟨by omega,fun j h1 h2=>by
      have:j=n:=by omega
      subst this;exact hg⟩]
    ·rw[if_neg (by omega),if_neg (by omega)]
  ·rw[if_neg hg]
   by_cases hu:u < n+1
   ·rw[if_neg (fun q=>hg (q.2 n (by omega) (by omega)))]
   ·rw[if_neg (fun q=>hu q.1)]
def z5t(w:Nat)(n:zhi)(v:Nat):Prop:=v < w/\n.leap.getD v 0=v
theorem zg6.none{w:Nat}{n:zhi}(h:zg6 w n){i:Nat}(hi:i < w)(hw:¬ n.leap.getD i 0 < w):∀ u,i<=u->¬ z5t w n u:=by
 intro u hu ⟨h1,h2⟩
 have:=h.seg i u hi hu (by omega)
 omega
theorem zg6.some{w:Nat}{n:zhi}(h:zg6 w n){i:Nat}(hi:i < w)(hw:n.leap.getD i 0 < w):i<=n.leap.getD i 0/\z5t w n (n.leap.getD i 0)/\∀ u,i<=u->u < n.leap.getD i 0->¬ z5t w n u:=by
 refine⟨h.ge i hi,⟨hw,h.fix i hi hw⟩,fun u h1 h2 ⟨h3,h4⟩=>?_⟩
 have:=h.seg i u hi h1 h2
 omega
theorem zg6.put{w:Nat}{n:zhi}(h:zg6 w n){v d:Nat}(hv:v < w)(hn:¬ z5t w n v):zg6 w (z4v n v d)/\(∀ u,z5t w (z4v n v d) u↔u=v∨z5t w n u)/\∀ u,(z4v n v d).down.getD u 0=if u=v then d else n.down.getD u 0:=by
 have hl:=h.len
 have hgt:n.leap.getD v 0 > v:=by
  have h1:=h.ge v hv
  rcases Nat.lt_or_eq_of_le h1 with q|q
  ·exact q
  ·exact absurd ⟨hv,q.symm⟩ hn
 have hat:∀ u,(zgh v (v+1) n.leap).getD u 0=if u<=v/\n.leap.getD u 0 > v then v else n.leap.getD u 0:=by
  intro u
  rw[zt4 v (v+1) n.leap u (by omega)]
  by_cases hu:u<=v
  ·by_cases hq:n.leap.getD u 0 > v
   ·have key:∀ j,u<=j->j < v+1->n.leap.getD j 0 > v:=fun j h1 h2=>by
     have:=h.seg u j (by omega) h1 (by omega)
     omega
    rw[if_pos ⟨by omega,key⟩,if_pos ⟨hu,hq⟩]
   ·rw[if_neg (fun q=>hq (q.2 u (uaa _) (by omega))),if_neg (fun q=>hq q.2)]
  ·rw[if_neg (fun q=>by omega),if_neg (fun q=>by omega)]
 have hp:∀ u,(z4v n v d).leap.getD u 0=if u<=v/\n.leap.getD u 0 > v then v else n.leap.getD u 0:=hat
 have hself:(z4v n v d).leap.getD v 0=v:=by rw[hp,if_pos ⟨uaa _,hgt⟩]
 refine⟨⟨by simp[z4v,zoi,hl],by simp[z4v,h.dlen],fun i hi=>?_,fun i hi=>?_,fun i hi hq=>?_,fun i j hi hij hj=>?_⟩,fun u=>?_,fun u=>?_⟩
 ·rw[hp];split
  ·omega
  ·exact h.ge i hi
 ·rw[hp];split
  ·omega
  ·exact h.le i hi
 ·by_cases hc:i<=v/\n.leap.getD i 0 > v
  ·rw[hp i,if_pos hc];exact hself
  ·rw[hp i,if_neg hc] at hq ⊢
   have h2:=h.fix i hi hq
   rw[hp]
   by_cases hc2:n.leap.getD i 0<=v/\n.leap.getD (n.leap.getD i 0) 0 > v
   ·omega
   ·rw[if_neg hc2];exact h2
 ·by_cases hc:i<=v/\n.leap.getD i 0 > v
  ·rw[hp i,if_pos hc] at hj ⊢
   have:=h.seg i j hi hij (by omega)
   rw[hp,if_pos ⟨by omega,by omega⟩]
  ·rw[hp i,if_neg hc] at hj ⊢
   have:=h.seg i j hi hij hj
   rw[hp,this]
   have:=h.ge i hi
   rw[if_neg (by omega)]
 ·unfold z5t
  rw[hp]
  by_cases hc:u<=v/\n.leap.getD u 0 > v
  ·rw[if_pos hc]
   constructor
   ·rintro⟨_,q⟩;exact Or.inl q.symm
   ·rintro(q|q)
    ·subst q;exact⟨hv,rfl⟩
    ·omega
  ·rw[if_neg hc]
   constructor
   ·intro q;exact Or.inr q
   ·rintro(q|q)
    ·subst q;exact absurd ⟨uaa _,hgt⟩ hc
    ·exact q
 ·show(n.down.set v d).getD u 0=_
  rw[zam]
  by_cases hu:u=v
  ·subst hu;rw[if_pos ⟨rfl,by rw[h.dlen];exact hv⟩,if_pos rfl]
  ·rw[if_neg (by omega),if_neg hu]
theorem zje(k d i:Nat)(hi:i < k)(x:Nat):(List.replicate k x).getD i d=x:=by simp[List.getD_eq_getElem?_getD,hi]
theorem zg6.new(w:Nat):zg6 w ⟨List.replicate w w,List.replicate w 0⟩/\∀ v,¬ z5t w ⟨List.replicate w w,List.replicate w 0⟩ v:=by
 refine⟨⟨by simp,by simp,fun i hi=>?_,fun i hi=>?_,fun i hi hq=>?_,fun i j hi hij hj=>?_⟩,fun v ⟨h1,h2⟩=>?_⟩ <;> simp only at *
 ·rw[zje _ _ _ hi];omega
 ·rw[zje _ _ _ hi];exact uaa _
 ·rw[zje _ _ _ hi] at hq;omega
 ·rw[zje _ _ _ hi] at hj ⊢;rw[zje _ _ _ hj]
 ·rw[zje _ _ _ h1] at h2;omega
end Go.Proofs.YteampbddflhngaaGreat
namespace Go.Proofs.YteampbddflhngaaGreat
variable {T:zad}{a:Nat}
def zi1(T:zad)(a:Nat):zhi:=T.ql.getD a zhi.zero
def zgr(T:zad):Prop:=∀ a,a < T.ql.length->zg6 T.qg (zi1 T a)
theorem zgn(T:zad)(a v:Nat):zax T a v=if a < T.ql.length/\v < T.qg/\(zi1 T a).leap.getD v 0=v then some ((zi1 T a).down.getD v 0) else none:=by
 unfold zax zcn zi1
 by_cases h1:a < T.ql.length/\v < T.qg
 ·rw[if_pos h1]
  dsimp only
  generalize (T.ql.getD a zhi.zero).leap.getD v 0=x
  by_cases h2:x=v
  ·subst h2
   rw[if_neg (by omega:¬ x ≥ T.qg)]
   simp[h1]
  ·by_cases h3:x ≥ T.qg
   ·simp[h3,h2]
   ·simp[h3,h2]
 ·rw[if_neg h1,if_neg (fun q=>h1 ⟨q.1,q.2.1⟩)]
theorem zgw{v b:Nat}(h:zax T a v=some b):a < T.ql.length/\v < T.qg:=by
 unfold zax zcn at h
 by_cases h1:a < T.ql.length/\v < T.qg
 ·exact h1
 ·rw[if_neg h1] at h;cases h
theorem zty(h:zgr T){f v:Nat}(hl:zcn T a f=some v):f<=v/\v < T.qg/\(zax T a v).isSome=true/\∀ u,f<=u->u < v->zax T a u=none:=by
 unfold zcn at hl
 split at hl
 ·rename_i h1
  simp only at hl
  split at hl
  ·cases hl
  ·rename_i h2
   simp only[uab] at hl
   have hn:=(h a h1.1).some h1.2 (by unfold zi1;omega)
   unfold zi1 at hn
   rw[hl] at hn h2
   refine⟨hn.1,by omega,?_,fun u h3 h4=>?_⟩
   ·rw[zgn,if_pos ⟨h1.1,by omega,hn.2.1.2⟩];rfl
   ·rw[zgn,if_neg (fun q=>hn.2.2 u h3 h4 ⟨q.2.1,q.2.2⟩)]
 ·cases hl
theorem ztx(h:zgr T){f:Nat}(hl:zcn T a f=none):∀ u,f<=u->zax T a u=none:=by
 intro u hu
 rw[zgn]
 refine if_neg fun q=>?_
 unfold zcn at hl
 rw[if_pos ⟨q.1,by omega⟩] at hl
 simp only at hl
 split at hl
 ·rename_i h2
  exact(h a q.1).none (show f < T.qg by omega) (by unfold zi1;omega) u hu ⟨q.2.1,q.2.2⟩
 ·cases hl
def goT(T:zad):Nat->zao->Option Nat
 |a,[]=>some a
 |a,v::r=>match zax T a v with
  |none=>none
  |some b=>goT T b r
theorem zft(T:zad):∀(p q:zao) (a:Nat),goT T a (p++q)=(goT T a p).bind fun b=>goT T b q
 |[],q,a=>rfl
 |v::p,q,a=>by
  simp only[List.cons_append,goT]
  cases zax T a v with
  |none=>rfl
  |some b=>exact zft T p q b
structure zev (T:zad) (pth:Nat->zao):Prop where
 dep:1<=T.qp/\T.qp<=3
 wid:1<=T.qg
 pos:0 < T.ql.length
 node:zgr T
 root:pth 0=[]
 lev:∀ a,a < T.ql.length->(pth a).length < T.qp
 inj:∀ a b,a < T.ql.length->b < T.ql.length->pth a=pth b->a=b
 kid:∀ a v b,zax T a v=some b->(pth a).length+1 < T.qp->b < T.ql.length/\pth b=pth a++[v]
 par:∀ b,b < T.ql.length->b≠0->∃ a v,zax T a v=some b/\(pth a).length+1 < T.qp/\pth b=pth a++[v]
theorem z18(l:List zhi)(i j:Nat)(v d:zhi):(l.set i v).getD j d=if i=j/\i < l.length then v else l.getD j d:=by
 simp only[uaf,udf]
 by_cases h:i=j
 ·subst h
  by_cases h2:i < l.length
  ·simp[h2]
  ·simp[h2]
 ·simp[h]
theorem zx3(T:zad)(a v d b:Nat)(ha:a < T.ql.length)(hv:v < T.qg):zi1 (ze6 T a v d) b=if b=a then z4v (zi1 T a) v d else zi1 T b:=by
 unfold ze6 zi1
 rw[if_pos ⟨ha,hv⟩]
 simp only
 rw[z18]
 by_cases h:b=a
 ·subst h;rw[if_pos ⟨rfl,ha⟩,if_pos rfl]
 ·rw[if_neg (fun q=>h q.1.symm),if_neg h]
theorem zhl(T:zad)(a v d:Nat):(ze6 T a v d).ql.length=T.ql.length:=by unfold ze6;split <;> simp
theorem zi9(T:zad)(a v d:Nat):(ze6 T a v d).qg=T.qg:=by unfold ze6;split <;> rfl
theorem zhw(T:zad)(a v d:Nat):(ze6 T a v d).qp=T.qp:=by unfold ze6;split <;> rfl
theorem zum(T:zad)(a v d:Nat):(ze6 T a v d).count=T.count:=by unfold ze6;split <;> rfl
theorem zx9(h:zgr T){v d:Nat}(ha:a < T.ql.length)(hv:v < T.qg)(hn:zax T a v=none):zgr (ze6 T a v d)/\∀ b u,zax (ze6 T a v d) b u=if b=a/\u=v then some d else zax T b u:=by
 have hnh:¬ z5t T.qg (zi1 T a) v:=fun q=>by rw[zgn,if_pos ⟨ha,hv,q.2⟩] at hn;cases hn
 obtain⟨p1,p2,p3⟩:=(h a ha).put (d:=d) hv hnh
 have hok:zgr (ze6 T a v d):=by
  intro b hb
  rw[zhl] at hb
  rw[zi9,zx3 T a v d b ha hv]
  split
  ·exact p1
  ·exact h b hb
 refine⟨hok,fun b u=>?_⟩
 rw[zgn,zhl,zi9,zx3 T a v d b ha hv,zgn]
 by_cases hb:b=a
 ·subst hb
  rw[if_pos rfl,p3]
  by_cases hu:u=v
  ·subst hu
   rw[if_pos rfl,if_pos ⟨ha,hv,((p2 u).2 (Or.inl rfl)).2⟩,if_pos ⟨rfl,rfl⟩]
  ·rw[if_neg hu,if_neg (fun q:b=b/\u=v=>hu q.2)]
   by_cases hq:b < T.ql.length/\u < T.qg/\(zi1 T b).leap.getD u 0=u
   ·rw[if_pos hq,if_pos ⟨hq.1,hq.2.1,((p2 u).2 (Or.inr hq.2)).2⟩]
   ·rw[if_neg hq]
    refine if_neg fun q=>hq ⟨q.1,?_⟩
    rcases(p2 u).1 q.2 with r|r
    ·exact absurd r hu
    ·exact r
 ·rw[if_neg hb,if_neg (fun q:b=a/\u=v=>hb q.1)]
theorem z19(h:zgr T):zgr (zb8 T)/\∀ b u,zax (zb8 T) b u=zax T b u:=by
 have hnd:∀ b,zi1 (zb8 T) b=if b < T.ql.length then zi1 T b else if b=T.ql.length then⟨List.replicate T.qg T.qg,List.replicate T.qg 0⟩ else zhi.zero:=by
  intro b
  unfold zi1 zb8
  simp only[uaf,List.getElem?_append]
  by_cases h1:b < T.ql.length
  ·simp[h1]
  ·rw[if_neg h1,if_neg h1]
   by_cases h2:b=T.ql.length
   ·subst h2;simp
   ·rw[if_neg h2]
    rw[uav (by simp;omega)];rfl
 have hln:(zb8 T).ql.length=T.ql.length+1:=by simp[zb8]
 have hok:zgr (zb8 T):=by
  intro b hb
  rw[hln] at hb
  rw[hnd]
  by_cases h1:b < T.ql.length
  ·rw[if_pos h1];exact h b h1
  ·rw[if_neg h1,if_pos (by omega)];exact(zg6.new T.qg).1
 refine⟨hok,fun b u=>?_⟩
 rw[zgn,zgn,hnd,hln,show(zb8 T).qg=T.qg from rfl]
 by_cases h1:b < T.ql.length
 ·rw[if_pos h1]
  by_cases hq:u < T.qg/\(zi1 T b).leap.getD u 0=u
  ·rw[if_pos ⟨by omega,hq⟩,if_pos ⟨h1,hq⟩]
  ·rw[if_neg (fun q=>hq q.2),if_neg (fun q=>hq q.2)]
 ·rw[if_neg h1,if_neg (fun q:b < T.ql.length/\_=>h1 q.1)]
  by_cases h2:b=T.ql.length
  ·rw[if_pos h2]
   exact if_neg fun q=>(zg6.new T.qg).2 u q.2
  ·exact if_neg fun q=>by omega
end Go.Proofs.YteampbddflhngaaGreat
