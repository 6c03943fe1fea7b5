import Derived.Test.YteampbddflhngaaGreatW22
import Derived.Test.YteampbddflhngaaGreatW18
import Derived.Deep.RegionHeld3

namespace Go.Proofs.YteampbddflhngaaGreat
set_option maxRecDepth 100000
set_option maxHeartbeats 4000000
open Go.RowKit
variable {lo:Nat}
variable {w:World}{p:Nat}
structure WCc (c:Array Value) (o:Nat) (r:zah) (P:zba):Prop where
 c0:c[o]?=some (.int .i64 (r.qi:Nat))
 c1:c[o+1]?=some (.int .i64 (r.vars:Nat))
 c2:c[o+2]?=some (.int .i64 (r.head.pred:Nat))
 c3:c[o+3]?=some P.tv
 c4:c[o+4]?=some P.pv
 c5:c[o+5]?=some P.nv
 c6:c[o+6]?=some P.vv
 c7:c[o+7]?=some P.ntv
theorem WCc.at{gw o:Nat}{T:TypeId}{c:Array Value}{r:zah}{P:zba}(h:WCc c o r P)(hb:Box w gw c T):WC w gw o r P:=by
 obtain⟨hc,hf⟩:=hb.rules
 exact⟨hb.lt,hf,(hc _).trans h.c0,(hc _).trans h.c1,(hc _).trans h.c2,(hc _).trans h.c3,(hc _).trans h.c4,(hc _).trans h.c5,(hc _).trans h.c6,(hc _).trans h.c7⟩
theorem zd6.mod{ok:TypeId->zay->Prop}{w w':World}{own own':Nat->zay}{k wd:Nat}{W:zbk}{P:zba}(h:zd6 lo w own k wd W P)(m:Mod lo ok w own w' own')(h1:∀ ρ,¬ ok 284 ρ)(h2:∀ ρ,¬ ok 204 ρ)(h3:¬ ok 301 (k+1,0,9))(h4:∀ ρ,¬ ok 162 ρ)(h5:∀ i j t,¬ NoT t->¬ ok t (k+1,i,j)):zd6 lo w' own' k wd W P :=
 ⟨h.rule.mod m h1 h2,zon h.qj m fun b hb=>by rw[h.vrole b hb];exact h3,h.vlen,fun i a b=>(h.view i a b).mod m (h5 i) h1,fun b hb=>by rw[m.old b (zdq h.qj hb)];exact h.vrole b hb,zee h.qm m h4,h.nlen,h.few⟩
theorem zhb{t:TypeId}(h0:NoT t)(h:t∉[214,161,165,310,323]):∀ ρ,¬ zh7 p t ρ:=fun ρ q=>by
 rcases q with (q|q|q|q)|q
 ·exact q.1 h0
 ·subst q;exact h (by decide)
 ·subst q;exact h (by decide)
 ·rw[q.1] at h;exact h (by decide)
 ·rcases uag.1 q with rfl|q
  ·exact h (by decide)
  ·rcases uag.1 q with rfl|q
   ·exact h (by decide)
   ·cases q
theorem z8q{t:TypeId}{ρ:zay}(h0:¬ NoT t)(h:ρ≠(0,p,0)):¬ zh7 p t ρ:=fun q=>by
 rcases q with (q|q|q|q)|q
 ·exact h q.2
 ·subst q;exact h0 (by decide)
 ·subst q;exact h0 (by decide)
 ·rw[q.1] at h0;exact h0 (by decide)
 ·rcases uag.1 q with rfl|q
  ·exact h0 (by decide)
  ·rcases uag.1 q with rfl|q
   ·exact h0 (by decide)
   ·cases q
theorem zd6.all{w':World}{own own':Nat->zay}{k wd:Nat}{W:zbk}{P:zba}(h:zd6 lo w own k wd W P)(m:Mod lo (zh7 p) w own w' own'):zd6 lo w' own' k wd W P :=
 h.mod m (zhb (by decide) (by decide)) (zhb (by decide) (by decide)) (zhb (by decide) (by decide) _) (zhb (by decide) (by decide)) (fun _ _ _ ht=>z8q ht (by simp))
def zho(tbs:List Nat)(n:Nat)(r:zah)(nbs:List Nat):Prop:=∀ i (h1:i < r.qm.length) (h2:i < nbs.length),r.qm[i].pred≠r.head.pred/\r.qm[i].pred < n/\∃ h3:r.qm[i].pred < tbs.length,nbs[i]=tbs[r.qm[i].pred]
theorem zua(wd:Nat)(R:zbg)(r:zah):(zhk wd R r).length=r.qm.length:=by simp[zhk]
theorem zho.tries{w:World}{own:Nat->zay}{rb:Nat}{R:zbg}{wd mr mx:Nat}{Q:zcu}{r:zah}{nbs:List Nat}(h:zho Q.tbs R.rows.length r nbs)(hR:zdc lo w own rb R wd mr mx Q)(hl:nbs.length=r.qm.length):∀ i (h1:i < (zhk wd R r).length) (h2:i < nbs.length),∃ ρ,ρ≠(0,r.head.pred,0)/\zcw lo w own ρ nbs[i] (zhk wd R r)[i]:=by
 intro i h1 h2
 obtain⟨q1,q2,q3,q4⟩:=h i (by omega) h2
 refine⟨(0,r.qm[i].pred,0),by simp[q1],?_⟩
 have e:(zhk wd R r)[i]=R.rows[r.qm[i].pred]:=by
  simp only[zhk,uaw,zgf]
  rw[if_neg (by omega)]
  simp[q2]
 rw[e,q4]
 exact hR.tries _ q2 q3
theorem zri{mr:Nat}{R R':zbg}{row:zao}{b:Bool}(h:zyo mr R p row=some (R',b)):R'.rows.length=R.rows.length:=by
 obtain⟨_,_,_,_,_,hc⟩:=zns h
 rcases hc with ⟨_,rfl,_⟩|⟨_,rfl,_⟩ <;> simp
theorem zgs{mr p:Nat}:∀(n:Nat) (R R':zbg) (J:zav) (b:Bool),zdl mr p n R J=some (R',b)->R'.rows.length=R.rows.length
 |0,R,R',J,b,h=>by simp[zdl] at h
 |n+1,R,R',J,b,h=>by
  unfold zdl at h
  cases hn:zt9 n J with
  |none=>rw[hn] at h;cases h
  |some ar =>
   obtain⟨J2,bn⟩:=ar
   rw[hn] at h
   cases bn with
   |false =>
    simp only[uab,uak] at h
    rw[← h.1]
   |true =>
    dsimp only at h
    cases ha:zyo mr R p (zct J2.head J2.qx) with
    |none=>rw[ha] at h;cases h
    |some ar2 =>
     obtain⟨R3,b3⟩:=ar2
     rw[ha] at h
     cases b3 with
     |false =>
      simp only[uab,uak] at h
      rw[← h.1]
      exact zri ha
     |true=>exact(zgs n R3 R' J2 b h).trans (zri ha)
attribute [local go_sem] znv
theorem zhf.laid{J:zav}{PJ:zbx}(h:zhf lo w J PJ)(hl:lo<=w.heap.size):JIn lo (zwm (w.alloc (.cells (bj 0 0 0 none none 0 0 0 0).toArray 310)) w.heap.size (zca J PJ)) w.heap.size J PJ/\Below w.heap.size w (zwm (w.alloc (.cells (bj 0 0 0 none none 0 0 0 0).toArray 310)) w.heap.size (zca J PJ)):=by
 have hgr:Below w.heap.size w (w.alloc (.cells (bj 0 0 0 none none 0 0 0 0).toArray 310)):=(Below.refl _ _).alloc (uaa _) _
 have ht:=zf1 w 0 0 0 none none 0 0 0 0
 have hbx:=zji ht (zgp J PJ h.hlen.1 h.ji)
 have hs:=zi8 (w.alloc (.cells (bj 0 0 0 none none 0 0 0 0).toArray 310)) w.heap.size (zca J PJ)
 obtain⟨c0,hc0,_⟩:=ht
 exact⟨((h.below hgr).saveJ hs (OfT.box hc0)).join hl hbx,hgr.trans (hs.below (fun x hx=>by simp at hx;omega) (by simp))⟩
theorem zvl(w:World)(own:Nat->zay)(rb gw o k:Nat)(c:Array Value)(R R':zbg)(W:zbk)(P:zba)(wd mr mx:Nat)(Q:zcu)(n:Nat)(b:Bool)(h:zdc lo w own rb R wd mr mx Q)(hw:zd6 lo w own k wd W P)(hbx:Box w gw c 292)(hcc:WCc c o W.rule P)(hna:zho Q.tbs R.rows.length W.rule P.nbs)(hlo:lo<=w.heap.size)(hr:zit n wd mr true R W=some (R',b)) :
  Calls Tryz.prog 193 #[.pointer (some ⟨rb,0,none⟩),.pointer (some ⟨gw,o,none⟩),.bool true] w fun e w'=>zj3 lo w own rb W.rule.head.pred R' b wd mr mx Q e w':=by
 have hr2:zdl mr W.rule.head.pred n R (za3 W.rule (W.qj.map (·.all)) (zhk wd R W.rule))=some (R',b):=hr
 have HWH:Hid (Calls Tryz.prog 207 #[.pointer (some ⟨gw,o,none⟩)] w fun e w'=>zgl lo w own W.rule.head.pred (za3 W.rule (W.qj.map (·.all)) (zhk wd R W.rule)) e w'):=z4q w own k wd W.rule.head.pred gw o W P _ hw (hcc.at hbx) hlo (zua _ _ _) (hna.tries h hw.nlen)
 have HAL:Hid (∀ W0 jb PJ,Below w.heap.size w W0->JIn lo W0 jb (za3 W.rule (W.qj.map (·.all)) (zhk wd R W.rule)) PJ->zj5 own PJ W.rule.head.pred->Calls Tryz.prog 208 #[.pointer (some ⟨rb,0,none⟩),.int .i64 (W.rule.head.pred:Nat),.pointer (some ⟨jb,0,none⟩)] W0 fun e w'=>zj3 lo W0 own rb W.rule.head.pred R' b wd mr mx Q e w'):=fun W0 jb PJ hW0 hj hro=>zpr W0 own rb jb R R' _ PJ wd mr mx Q W.rule.head.pred n b (h.below hW0) hj hro (by have:=hW0.size;omega) hr2
 have hwc:=hcc.at hbx
 have HWC:Hid (WC w gw o W.rule P):=hwc
 have HLO:Hid (lo<=w.heap.size):=hlo
 clear hr hr2 hna hw h hcc hlo hwc
 generalize za3 W.rule (W.qj.map (·.all)) (zhk wd R W.rule)=J at *
 generalize hpe:W.rule.head.pred=p at *
 have HPE:Hid (W.rule.head.pred=p):=hpe
 clear hpe
 go_enter Tryz.func193,Tryz.ntmps193
 go_upto_region 3 with (first|(go_at_call 207;refine HWH.out.mono ?_;rintro e w2 ⟨PJ,rfl,hJM,hJR,hb2⟩;have hgr:Below w2.heap.size w2 (w2.alloc (.cells (bj 0 0 0 none none 0 0 0 0).toArray 310)):=(by go_grown);have hst:=zjn hJM (zf1 w2 0 0 0 none none 0 0 0 0);have hlen:=zgp J PJ hJM.hlen.1 hJM.ji;have HJM:Hid (zhf lo w2 J PJ):=hJM;have HJR:Hid (zj5 own PJ p):=hJR;clear hJM hJR;generalize hcs:zca J PJ=cs at *;have HCS:Hid (zca J PJ=cs):=hcs;clear hcs))
 have hlw:lo<=w2.heap.size:=uap HLO.out hb2.size
 have hlaid:=HJM.out.laid hlw
 rw[HCS.out] at hlaid
 obtain⟨hJI,hbl⟩:=hlaid
 generalize zwm (w2.alloc (.cells (bj 0 0 0 none none 0 0 0 0).toArray 310)) w2.heap.size cs=W3 at *
 have hBW:Below w.heap.size w W3:=hb2.trans (hbl.mono hb2.size)
 have HC2:W3.cell? ⟨gw,o+2,none⟩=some (.int .i64 (p:Nat)):=by rw[← HPE.out];exact(hBW.cell HWC.out.lt).trans HWC.out.c2
 have HAL2:=HAL.out W3 _ PJ hBW hJI HJR.out
 have HBW:Hid (Below w.heap.size w W3):=hBW
 clear hJI hbl hBW HJM HJR HCS hst hlen hgr hb2 hlw HAL HWH
 generalize w2.heap.size=jb at *
 go_wp2_with (first|(go_at_call 208;refine HAL2.mono ?_;rintro e w4 ⟨rfl,own',fvs',hro',hm⟩))
 go_ret
 exact⟨rfl,own',fvs',hro',(Mod.of own HBW.out).trans hm⟩
end Go.Proofs.YteampbddflhngaaGreat
namespace Go.Proofs.YteampbddflhngaaGreat
set_option maxRecDepth 100000
set_option maxHeartbeats 4000000
open Go.RowKit
variable {lo:Nat}
attribute [local go_sem] znv
theorem zys(w:World)(own:Nat->zay)(rb gw o k:Nat)(c:Array Value)(R R':zbg)(W:zbk)(P:zba)(wd mr mx:Nat)(Q:zcu)(n:Nat)(b:Bool)(h:zdc lo w own rb R wd mr mx Q)(hw:zd6 lo w own k wd W P)(hbx:Box w gw c 292)(hcc:WCc c o W.rule P)(hna:zho Q.tbs R.rows.length W.rule P.nbs)(hlo:lo<=w.heap.size)(hr:zit n wd mr false R W=some (R',b)) :
  Calls Tryz.prog 193 #[.pointer (some ⟨rb,0,none⟩),.pointer (some ⟨gw,o,none⟩),.bool false] w fun e w'=>zj3 lo w own rb W.rule.head.pred R' b wd mr mx Q e w':=by
 have HR2:Hid (zgt n wd mr W (W.qj.length - 0) 0 R=some (R',b)):=hr
 have HH:Hid (zdc lo w own rb R wd mr mx Q):=h
 have HWO:Hid (zd6 lo w own k wd W P):=hw
 have HBX:Hid (Box w gw c 292):=hbx
 have HCC:Hid (WCc c o W.rule P):=hcc
 have HNA:Hid (zho Q.tbs R.rows.length W.rule P.nbs):=hna
 have HLO:Hid (lo<=w.heap.size):=hlo
 have hfew:=hw.few
 obtain⟨aov,capv,hvv⟩:=zac hw.qj
 have HVV:Hid (P.vv=.slice aov W.qj.length capv):=hvv
 have hwc:=hcc.at hbx
 have hcl:=hwc.lt
 have hc6:=hwc.c6
 rw[hvv] at hc6
 clear hr h hw hbx hcc hna hlo hvv hwc
 go_enter Tryz.func193,Tryz.ntmps193
 go_upto_region 5 with fail
 go_loopw [27] (fun v27 wr=>∃ m:Nat,m<=W.qj.length/\v27=.int .i64 m/\∃ Rk ownk fvk,Hid (zdc lo wr ownk rb Rk wd mr mx ⟨Q.rv,Q.tbs,Q.fv,fvk⟩)/\Hid (Mod lo (zh7 W.rule.head.pred) w own wr ownk)/\Hid (Rk.rows.length=R.rows.length)/\Hid (zgt n wd mr W (W.qj.length - m) m Rk=some (R',b))) (fun i _=>W.qj.length - (intOf i).toNat)
 case atStart=>exact⟨0,uaj _,rfl,R,own,Q.fvs,HH,Mod.refl _ _,rfl,HR2⟩
 case round =>
  clear HR2
  obtain⟨m,hm,rfl,Rk,ownk,fvk,HRO,HMO,HRL,HAP⟩:=hrel
  have hszk:=HMO.out.size
  have hlok:lo<=wr.heap.size:=uap HLO.out hszk
  by_cases hlt:m < W.qj.length
  ·have HWK:Hid (zd6 lo wr ownk k wd W P):=HWO.out.all HMO.out
   have HBK:Hid (Box wr gw c 292):=HBX.out.mod HMO.out (zhb (by decide) (by decide) _)
   have hwk:=HWK.out
   have hm2:m < P.vps.length:=by rw[hwk.vlen];exact hlt
   obtain⟨gv,capv',hvv',hgv,q0,q1,q2,q3,q4,q5⟩:=hwk.viewAt m hlt hm2
   rw[HVV.out] at hvv'
   simp only[Value.slice.injEq] at hvv'
   have hgg:=hvv'.1
   clear hvv'
   subst hgg
   have hvm:=hwk.view m hlt hm2
   obtain⟨aoq,capq,hq⟩:=hvm.qf.shape
   rw[hq] at q1
   have hq2:=HAP.out
   rw[show W.qj.length - m=(W.qj.length - (m+1))+1 from by omega] at hq2
   unfold zgt at hq2
   rw[show W.qj.getD m ⟨⟨0,[]⟩,zad.zero,zad.zero,zad.zero⟩=W.qj[m] by simp[List.getD,hlt]] at hq2
   obtain⟨fpf,htf,_⟩:=hvm.qo
   have HCT:Hid (∀ W0,Below wr.heap.size wr W0->Calls Tryz.prog 209 #[.pointer (some ⟨P.vps[m].fb,0,none⟩)] W0 fun e w'=>e=.returned (.int .i64 (W.qj[m].qo.count:Nat))/\w'=W0):=fun W0 hb=>zq5 W0 _ _ fpf (htf.below hb)
   have hcwk:=(HCC.out.at HBK.out)
   have hgl:=hcwk.lt
   have hmkk:(m:Int) < (W.qj.length:Int):=by omega
   clear htf hvm hq hwk
   by_cases hct:W.qj[m].qo.count > 0
   ·rw[if_pos hct] at hq2
    cases ha:zdl mr W.rule.head.pred n Rk (za3 W.rule (partly W.qj m) (zhk wd Rk W.rule)) with
    |none=>rw[ha] at hq2;cases hq2
    |some ar =>
     obtain⟨R3,b3⟩:=ar
     rw[ha] at hq2
     have hlen3:=zgs _ _ _ _ _ ha
     have HL3:Hid (R3.rows.length=R.rows.length):=hlen3.trans HRL.out
     have HPA:Hid (∀ W0,Below wr.heap.size wr W0->Calls Tryz.prog 210 #[.pointer (some ⟨gw,o,none⟩),.int .i64 m] W0 fun e w'=>zgl lo W0 ownk W.rule.head.pred (za3 W.rule (partly W.qj m) (zhk wd Rk W.rule)) e w'):=fun W0 hb=>by
      have hm0:=Mod.of (lo:=lo) (ok:=zh7 W.rule.head.pred) ownk hb
      exact zz2 W0 ownk k wd W.rule.head.pred gw o m W P _ (HWK.out.all hm0) ((HCC.out.at HBK.out).below hb) (uap hlok hb.size) (by omega) (zua _ _ _) (zho.tries (by rw[HRL.out];exact HNA.out) (HRO.out.below hb) HWK.out.nlen)
     have HAL:Hid (∀ W0 jb PJ,Below wr.heap.size wr W0->JIn lo W0 jb (za3 W.rule (partly W.qj m) (zhk wd Rk W.rule)) PJ->zj5 ownk PJ W.rule.head.pred->Calls Tryz.prog 208 #[.pointer (some ⟨rb,0,none⟩),.int .i64 (W.rule.head.pred:Nat),.pointer (some ⟨jb,0,none⟩)] W0 fun e w'=>zj3 lo W0 ownk rb W.rule.head.pred R3 b3 wd mr mx ⟨Q.rv,Q.tbs,Q.fv,fvk⟩ e w'):=fun W0 jb PJ hW0 hj hro=>zpr W0 ownk rb jb Rk R3 _ PJ wd mr mx _ W.rule.head.pred n b3 (HRO.out.below hW0) hj hro (uap hlok hW0.size) ha
     have HC2:Hid (wr.cell? ⟨gw,o+2,none⟩=some (.int .i64 (W.rule.head.pred:Nat))):=hcwk.c2
     clear hcwk ha hlen3
     generalize za3 W.rule (partly W.qj m) (zhk wd Rk W.rule)=J at *
     have hc0:(0:Int) < (W.qj[m].qo.count:Nat):=by omega
     have HQ2:Hid ((match (some (R3,b3):Option (zbg × Bool)) with|none=>none|some (R,false)=>some (R,false)|some (R,true)=>zgt n wd mr W (W.qj.length - (m+1)) (m+1) R)=some (R',b)):=hq2
     clear hq2
     generalize W.qj[m].qo.count=ct at *
     generalize W.qj[m].lit.pred=vp at *
     generalize W.qj[m].lit.qf.length=vt at *
     generalize P.vps[m].bb=bbm at *
     generalize P.vps[m].fb=fbm at *
     generalize P.vps[m].ab=abm at *
     generalize hpe:W.rule.head.pred=p at *
     have HPE:Hid (W.rule.head.pred=p):=hpe
     clear hpe
     have hgrow:Below wr.heap.size wr (wr.alloc (.cells #[.int .i64 (vp:Nat),.slice aoq vt capq,.int .i64 (wd:Nat),.pointer (some ⟨bbm,0,none⟩),.pointer (some ⟨fbm,0,none⟩),.pointer (some ⟨abm,0,none⟩)] 301)):=(by go_grown)
     have HGR:Hid (Below wr.heap.size wr (wr.alloc (.cells #[.int .i64 (vp:Nat),.slice aoq vt capq,.int .i64 (wd:Nat),.pointer (some ⟨bbm,0,none⟩),.pointer (some ⟨fbm,0,none⟩),.pointer (some ⟨abm,0,none⟩)] 301))):=hgrow
     clear hgrow
     go_upto_region 9 with (first|(go_at_call 209;refine(HCT.out _ HGR.out).mono ?_;rintro e w2 ⟨rfl,hww⟩;obtain rfl:=hww.symm)|(go_at_call 210;refine(HPA.out _ HGR.out).mono ?_;rintro e w2 ⟨PJ,rfl,hJM,hJR,hb2⟩;have hB2:Below wr.heap.size wr w2:=zae HGR.out hb2 (uaa _);clear hb2;have hgr:Below w2.heap.size w2 (w2.alloc (.cells (bj 0 0 0 none none 0 0 0 0).toArray 310)):=(by go_grown);have hst:=zjn hJM (zf1 w2 0 0 0 none none 0 0 0 0);have hlen:=zgp J PJ hJM.hlen.1 hJM.ji;have HJM:Hid (zhf lo w2 J PJ):=hJM;have HJR:Hid (zj5 ownk PJ p):=hJR;clear hJM hJR;generalize hcs:zca J PJ=cs at *;have HCS:Hid (zca J PJ=cs):=hcs;clear hcs))
     have hlaid:=HJM.out.laid (uap hlok hB2.size)
     rw[HCS.out] at hlaid
     obtain⟨hJI,hbl⟩:=hlaid
     generalize zwm (w2.alloc (.cells (bj 0 0 0 none none 0 0 0 0).toArray 310)) w2.heap.size cs=W3 at *
     have hBW:Below wr.heap.size wr W3:=zae hB2 hbl (uaa _)
     have hd2:=(hBW.cell (p:=⟨gw,o+2,none⟩) hgl).trans HC2.out
     have HAL2:=HAL.out W3 _ PJ hBW hJI HJR.out
     have HBW:Hid (Below wr.heap.size wr W3):=hBW
     clear hJI hbl hBW HJM HJR HCS hst hlen hgr HAL HPA hB2
     generalize w2.heap.size=jb at *
     cases b3 with
     |false =>
      have HE:Hid (R3=R'/\false=b):=by have q:=HQ2.out;simp only[uab,uak] at q;exact q
      go_wp2_with (first|(go_at_call 208;refine HAL2.mono ?_;rintro e w4 ⟨rfl,own',fvs',hro',hm4⟩))
      go_ret
      exact⟨by rw[← HE.out.2];rfl,own',fvs',by rw[← HE.out.1];exact hro',by rw[HPE.out];exact HMO.out.trans ((Mod.of ownk HBW.out).trans hm4)⟩
     |true =>
      have HE:Hid (zgt n wd mr W (W.qj.length - (m+1)) (m+1) R3=some (R',b)):=HQ2.out
      clear HQ2
      go_wp2_with (first|(go_at_call 208;refine HAL2.mono ?_;rintro e w4 ⟨rfl,own',fvs',hro',hm4⟩))
      exact⟨⟨m+1,by omega,by go_num,R3,own',fvs',hro',HMO.out.trans ((Mod.of ownk HBW.out).trans hm4),HL3,HE⟩,by simp[intOf];omega⟩
   ·rw[if_neg hct] at hq2
    have HQ2:Hid (zgt n wd mr W (W.qj.length - (m+1)) (m+1) Rk=some (R',b)):=hq2
    clear hq2 hcwk
    have hc0:¬ (0:Int) < (W.qj[m].qo.count:Nat):=by omega
    generalize W.qj[m].qo.count=ct at *
    generalize W.qj[m].lit.pred=vp at *
    generalize W.qj[m].lit.qf.length=vt at *
    generalize P.vps[m].bb=bbm at *
    generalize P.vps[m].fb=fbm at *
    generalize P.vps[m].ab=abm at *
    have hgrow:Below wr.heap.size wr (wr.alloc (.cells #[.int .i64 (vp:Nat),.slice aoq vt capq,.int .i64 (wd:Nat),.pointer (some ⟨bbm,0,none⟩),.pointer (some ⟨fbm,0,none⟩),.pointer (some ⟨abm,0,none⟩)] 301)):=(by go_grown)
    have HGR:Hid (Below wr.heap.size wr (wr.alloc (.cells #[.int .i64 (vp:Nat),.slice aoq vt capq,.int .i64 (wd:Nat),.pointer (some ⟨bbm,0,none⟩),.pointer (some ⟨fbm,0,none⟩),.pointer (some ⟨abm,0,none⟩)] 301))):=hgrow
    clear hgrow
    go_wp2_with (first|(go_at_call 209;refine(HCT.out _ HGR.out).mono ?_;rintro e w2 ⟨rfl,hww⟩;obtain rfl:=hww.symm))
    exact⟨⟨m+1,by omega,by go_num,Rk,ownk,fvk,HRO.out.below HGR.out,HMO.out.trans (Mod.of ownk HGR.out),HRL,HQ2⟩,by simp[intOf];omega⟩
  ·obtain rfl:m=W.qj.length:=by omega
   have hq2:=HAP.out
   rw[ubs] at hq2
   simp only[zgt,uab,uak] at hq2
   have HE:Hid (Rk=R'/\true=b):=hq2
   clear hq2
   go_wp2
   go_ret
   exact⟨by rw[← HE.out.2];rfl,ownk,fvk,by rw[← HE.out.1];exact HRO.out,HMO.out⟩
theorem z06(w:World)(own:Nat->zay)(rb gw o k:Nat)(c:Array Value)(R R':zbg)(W:zbk)(P:zba)(wd mr mx:Nat)(Q:zcu)(n:Nat)(first b:Bool)(h:zdc lo w own rb R wd mr mx Q)(hw:zd6 lo w own k wd W P)(hbx:Box w gw c 292)(hcc:WCc c o W.rule P)(hna:zho Q.tbs R.rows.length W.rule P.nbs)(hlo:lo<=w.heap.size)(hr:zit n wd mr first R W=some (R',b)) :
  Calls Tryz.prog 193 #[.pointer (some ⟨rb,0,none⟩),.pointer (some ⟨gw,o,none⟩),.bool first] w fun e w'=>zj3 lo w own rb W.rule.head.pred R' b wd mr mx Q e w':=by
 cases first with
 |true=>exact zvl w own rb gw o k c R R' W P wd mr mx Q n b h hw hbx hcc hna hlo hr
 |false=>exact zys w own rb gw o k c R R' W P wd mr mx Q n b h hw hbx hcc hna hlo hr
end Go.Proofs.YteampbddflhngaaGreat
namespace Go.Proofs.YteampbddflhngaaGreat
set_option maxRecDepth 100000
set_option maxHeartbeats 4000000
open Go.RowKit
variable {lo:Nat}
variable {k wd cap:Nat}{c:Array Value}{w w':World}{own':Nat->zay}{xs:List Value}
def zi2(k:Nat):TypeId->zay->Prop:=fun t ρ=>(¬ NoT t/\∃ i j,ρ=(k+1,i,j))∨(t=301/\ρ=(k+1,0,9))
theorem z3i{i:Nat}{t:TypeId}{ρ:zay}(h:zgd k i (k+1,0,9) t ρ):zi2 k t ρ:=by
 rcases h with ⟨h1,j,h2⟩|h
 ·exact Or.inl ⟨h1,i,j,h2⟩
 ·exact Or.inr h
theorem zfj{t:TypeId}(h:NoT t)(h2:t≠301):∀ ρ,¬ zi2 k t ρ:=fun ρ q=>by
 rcases q with q|q
 ·exact q.1 h
 ·exact h2 q.1
theorem zfw{t:TypeId}{a b c:Nat}(h:a≠k+1):¬ zi2 k t (a,b,c):=fun q=>by
 rcases q with ⟨_,i,j,q⟩|⟨_,q⟩ <;> simp at q <;> omega
theorem zci{i:Nat}{ρg:zay}{t:TypeId}(h:NoT t)(h2:t≠301):∀ ρ,¬ zgd k i ρg t ρ:=fun ρ q=>by
 rcases q with q|q
 ·exact q.1 h
 ·exact h2 q.1
theorem zdc.work{own:Nat->zay}{rb:Nat}{R:zbg}{mr mx:Nat}{Q:zcu}(h:zdc lo w own rb R wd mr mx Q)(m:Mod lo (zi2 k) w own w' own'):zdc lo w' own' rb R wd mr mx Q :=
 h.mod m (zfj (by decide) (by decide)) (zfj (by decide) (by decide)) (zfj (by decide) (by decide)) (fun _=>zfw (by omega)) (fun _ _ _=>zfw (by omega))
theorem z9l{base:Nat}{e:TypeId}{size g n m:Nat}(h:w.ownsRow base e size (.slice (some ⟨g,0,none⟩) n cap) m xs)(hb:w'.heap[g]?=w.heap[g]?):w'.ownsRow base e size (.slice (some ⟨g,0,none⟩) n cap) m xs:=by
 obtain⟨h1,h2⟩:=h
 refine⟨h1,?_⟩
 rcases h2 with h2|⟨g',cap',cur,hv,hg,hh,rr⟩
 ·exact Or.inl h2
 ·refine Or.inr ⟨g',cap',cur,hv,hg,?_,rr⟩
  simp at hv
  rw[← hv.1,hb,hv.1];exact hh
theorem zz0{base:Nat}{e:TypeId}{size g n m:Nat}(h:w.ownsRow base e size (.slice (some ⟨g,0,none⟩) n cap) m xs)(hc:Box w g c e)(j:Nat)(hj:j < xs.length)(u:Value)(hb:Box w' g (c.setIfInBounds j u) e):w'.ownsRow base e size (.slice (some ⟨g,0,none⟩) n cap) m (xs.set j u):=by
 refine z9l (zb4 h j hj u) ?_
 unfold Box at hb hc
 rw[hb]
 simp[World.setCell,Array.getElem?_modify,hc]
theorem zu3(wd:Nat):∀(vs:List zcs) (ps:List zf6),ps.length=vs.length->(zg5 wd vs ps).length=6 * vs.length
 |[],[],_=>rfl
 |[],_::_,h=>by simp at h
 |_::_,[],h=>by simp at h
 |v::vs,p::ps,h=>by
  have:=zu3 wd vs ps (by simpa using h)
  simp only[zg5,ubz,ucu,uar] at this ⊢
  rw[this]
  simp[zc1]
  omega
theorem zu4(wd:Nat):∀(vs:List zcs) (ps:List zf6) (i:Nat) (_:i < vs.length) (h2:i < ps.length) (V:zcs) (fb:Nat),V.lit=(vs.getD i V).lit->zg5 wd (vs.set i V) (ps.set i ⟨ps[i].tv,ps[i].bb,fb,ps[i].ab⟩)=(zg5 wd vs ps).set (i * 6+4) (.pointer (some ⟨fb,0,none⟩))
 |[],_,i,h1,_,_,_,_=>by simp at h1
 |v::vs,[],i,_,h2,_,_,_=>by simp at h2
 |v::vs,p::ps,0,_,_,V,fb,h=>by
  simp at h
  simp[zg5,zc1,h,pt]
 |v::vs,p::ps,i+1,h1,h2,V,fb,h=>by
  have:=zu4 wd vs ps i (by simpa using h1) (by simpa using h2) V fb (by simpa using h)
  simp only[zg5,uc9,ubz,ucu,ub8] at this ⊢
  rw[this,List.set_append,if_neg (by simp[zc1];omega)]
  congr 2
  simp[zc1]
  omega
def zm2{α:Type}(vs' vs:List α)(m:Nat):List α:=vs'.take m++vs.drop m
theorem znd{α:Type}{vs' vs:List α}(h:vs'.length=vs.length)(m:Nat)(hm:m<=vs.length):(zm2 vs' vs m).length=vs.length:=by simp[zm2];omega
theorem z3a{α:Type}{vs' vs:List α}(h:vs'.length=vs.length)(m:Nat)(hm:m < vs.length)(hm2:m < (zm2 vs' vs m).length):(zm2 vs' vs m)[m]=vs[m]:=by
 simp only[zm2]
 rw[ucp (by simp;omega)]
 simp[show min m vs'.length=m by omega]
theorem zx1{α:Type}{vs' vs:List α}(h:vs'.length=vs.length)(m:Nat)(hm:m < vs.length)(hm':m < vs'.length):(zm2 vs' vs m).set m vs'[m]=zm2 vs' vs (m+1):=by
 have e1:vs.drop m=vs[m]::vs.drop (m+1):=uah hm
 have e2:vs'.take (m+1)=vs'.take m++[vs'[m]]:=by rw[uae hm']
 have e3:(vs'.take m).length=m:=by simp;omega
 show(vs'.take m++vs.drop m).set m vs'[m]=vs'.take (m+1)++vs.drop (m+1)
 rw[e1,e2,List.set_append,if_neg (by omega),e3,ubs,uda,uba]
 rfl
theorem zmg{f:Nat}{V V':zcs}{rows:List zao}(h:zif f wd V rows=some V'):V'.lit=V.lit:=by
 obtain⟨_,_,_,_,_,_,_,_,e⟩:=zox h
 rw[e]
theorem zqu{f wd:Nat}{fr:List (List zao)}:∀ {vs vs':List zcs},zhm f wd fr vs=some vs'->vs'.length=vs.length/\∀ i (h1:i < vs.length) (h2:i < vs'.length),if vs[i].lit.pred < fr.length then zif f wd vs[i] (fr.getD vs[i].lit.pred [])=some vs'[i] else vs'[i]=vs[i]
 |[],vs',h=>by
  simp[zhm] at h
  subst h
  exact⟨rfl,fun i h=>by simp at h⟩
 |V::vs,vs',h=>by
  unfold zhm at h
  split at h
  ·rename_i v vs2 hv hvs
   simp at h
   subst h
   obtain⟨q1,q2⟩:=zqu hvs
   refine⟨by simp[q1],fun i h1 h2=>?_⟩
   match i,h1,h2 with
   |0,_,_ =>
    simp only[ucw]
    by_cases e:V.lit.pred < fr.length
    ·rw[if_pos e] at hv ⊢;exact hv
    ·rw[if_neg e] at hv ⊢;simpa using hv.symm
   |i+1,h1,h2 =>
    simp only[ub8]
    exact q2 i (by simpa using h1) (by simpa using h2)
  ·cases h
theorem zd6.renewed{own:Nat->zay}{i g fb:Nat}{W:zbk}{P:zba}{V':zcs}(h:zd6 lo w own k wd W P)(h1:i < W.qj.length)(h2:i < P.vps.length)(hvv:P.vv=.slice (some ⟨g,0,none⟩) W.qj.length cap)(hc:Box w g c 301)(hl:V'.lit=W.qj[i].lit)(hv:zf7 lo w' own' k i V' ⟨P.vps[i].tv,P.vps[i].bb,fb,P.vps[i].ab⟩)(hb:Box w' g (c.setIfInBounds (i * 6+4) (.pointer (some ⟨fb,0,none⟩))) 301)(m:Mod lo (zgd k i (k+1,0,9)) w own w' own'):zd6 lo w' own' k wd ⟨W.rule,W.qj.set i V'⟩ { P with vps:=P.vps.set i ⟨P.vps[i].tv,P.vps[i].bb,fb,P.vps[i].ab⟩ }:=by
 refine⟨h.rule.mod m (zci (by decide) (by decide)) (zci (by decide) (by decide)),?_,by simp[h.vlen],fun j a b=>?_,fun b hb'=>(m.old b (zdq h.qj hb')).trans (h.vrole b hb'),zee h.qm m (zci (by decide) (by decide)),h.nlen,by simpa using h.few⟩
 ·have hq:=h.qj
  dsimp only
  rw[hvv] at hq ⊢
  rw[ucq]
  have e:=zu4 wd W.qj P.vps i h1 h2 V' fb (by simp[List.getD,h1,hl])
  have hlen:=zu3 wd W.qj P.vps h.vlen
  have q:=zz0 hq hc (i * 6+4) (by omega) (.pointer (some ⟨fb,0,none⟩)) hb
  rw[← e] at q
  exact q
 ·simp only[ucq] at a b
  simp only[ucb]
  by_cases e:i=j
  ·subst e
   rw[if_pos rfl,if_pos rfl]
   exact hv
  ·rw[if_neg e,if_neg e]
   refine(h.view j a b).mod m (fun q t ht hk=>?_) (zci (by decide) (by decide))
   rcases hk with ⟨_,j',hk⟩|⟨hk2,hk⟩
   ·simp at hk;omega
   ·subst hk2
    exact ht (by decide)
def zvf(lo:Nat)(w:World)(own:Nat->zay)(k wd:Nat)(W:zbk)(vs':List zcs)(P:zba)(e:Ending)(w':World):Prop:=e=.returned (.tuple #[])/\∃ own' vps',zd6 lo w' own' k wd ⟨W.rule,vs'⟩ ⟨P.tv,P.pv,P.nv,P.vv,P.ntv,vps',P.nbs⟩/\Mod lo (zi2 k) w own w' own'
theorem zr9(w:World)(own:Nat->zay)(rb gw o k:Nat)(c:Array Value)(R:zbg)(W:zbk)(vs':List zcs)(P:zba)(wd mr mx:Nat)(Q:zcu)(fuel:Nat)(h:zdc lo w own rb R wd mr mx Q)(hw:zd6 lo w own k wd W P)(hbx:Box w gw c 292)(hcc:WCc c o W.rule P)(hlo:lo<=w.heap.size)(hfr:∀ l∈R.qo,l.length<=1048577)(hr:zhm fuel wd R.qo W.qj=some vs') :
  Calls Tryz.prog 194 #[.pointer (some ⟨gw,o,none⟩),Q.fv] w fun e w'=>zvf lo w own k wd W vs' P e w':=by
 obtain⟨hvl,hva⟩:=zqu hr
 have HVL:Hid (vs'.length=W.qj.length):=hvl
 have HVA:Hid (∀ i (h1:i < W.qj.length) (h2:i < vs'.length),if W.qj[i].lit.pred < R.qo.length then zif fuel wd W.qj[i] (R.qo.getD W.qj[i].lit.pred [])=some vs'[i] else vs'[i]=W.qj[i]):=hva
 have HH:Hid (zdc lo w own rb R wd mr mx Q):=h
 have HWO:Hid (zd6 lo w own k wd W P):=hw
 have HBX:Hid (Box w gw c 292):=hbx
 have HCC:Hid (WCc c o W.rule P):=hcc
 have HLO:Hid (lo<=w.heap.size):=hlo
 have HFR:Hid (∀ l∈R.qo,l.length<=1048577):=hfr
 have hfew:=hw.few
 have hff:=h.few.2.1
 obtain⟨aov,capv,hvv⟩:=zac hw.qj
 have HVV:Hid (P.vv=.slice aov W.qj.length capv):=hvv
 obtain⟨aof,capf,hfv⟩:=zac h.qo
 have HFV:Hid (Q.fv=.slice aof R.qo.length capf):=hfv
 have hwc:=hcc.at hbx
 have hcl:=hwc.lt
 have hc6:=hwc.c6
 rw[hvv] at hc6
 rw[hfv]
 clear hr h hw hbx hcc hlo hvv hwc hvl hva hfr hfv
 go_enter Tryz.func194,Tryz.ntmps194
 go_upto_region 1 with fail
 go_loopw [11] (fun v11 wr=>∃ m:Nat,m<=W.qj.length/\v11=.int .i64 m/\∃ ownk vpk,Hid (zd6 lo wr ownk k wd ⟨W.rule,zm2 vs' W.qj m⟩ ⟨P.tv,P.pv,P.nv,P.vv,P.ntv,vpk,P.nbs⟩)/\Hid (Mod lo (zi2 k) w own wr ownk)) (fun i _=>W.qj.length - (intOf i).toNat)
 case atStart=>exact⟨0,uaj _,rfl,own,P.vps,HWO.out,Mod.refl _ _⟩
 case round =>
  obtain⟨m,hm,rfl,ownk,vpk,HWK,HMO⟩:=hrel
  have hszk:=HMO.out.size
  have hlok:lo<=wr.heap.size:=uap HLO.out hszk
  by_cases hlt:m < W.qj.length
  ·have hwk:=HWK.out
   have hml:m < (zm2 vs' W.qj m).length:=by rw[znd HVL.out m hm];exact hlt
   have hmv:m < vs'.length:=by rw[HVL.out];exact hlt
   have hma:=z3a HVL.out m hlt hml
   have hms:=zx1 HVL.out m hlt hmv
   have hm2:m < vpk.length:=by have:=hwk.vlen;dsimp only at this;omega
   obtain⟨gv,capv',hvv',hgv,q0,q1,q2,q3,q4,q5⟩:=hwk.viewAt m hml hm2
   dsimp only at hvv' q0 q1 q2 q3 q4 q5
   rw[HVV.out] at hvv'
   simp only[Value.slice.injEq] at hvv'
   have hgg:=hvv'.1
   clear hvv'
   subst hgg
   obtain⟨aoq,capq,hq⟩:=(hwk.view m hml hm2).qf.shape
   dsimp only at hq
   rw[hq] at q1
   rw[hma] at q0 q1
   have hmkk:(m:Int) < (W.qj.length:Int):=by omega
   have HBK:Hid (Box wr gw c 292):=HBX.out.mod HMO.out (zfj (by decide) (by decide) _)
   have hd6:wr.cell? ⟨gw,o+6,none⟩=some (.slice (some ⟨gv,0,none⟩) W.qj.length capv):=by rw[← HVV.out];exact(HCC.out.at HBK.out).c6
   have hgl:=HBK.out.lt
   have hvam:=HVA.out m hlt hmv
   have hnn:¬ (W.qj[m].lit.pred:Int) < 0:=by omega
   by_cases hpr:W.qj[m].lit.pred < R.qo.length
   ·rw[if_pos hpr] at hvam
    have HRO:Hid (zdc lo wr ownk rb R wd mr mx Q):=HH.out.work HMO.out
    have hro:=HRO.out
    have hpf:W.qj[m].lit.pred < Q.fvs.length:=by rw[hro.flen];exact hpr
    obtain⟨gf,capf',hfv',_,hgf,hcf⟩:=zal hro.qo (by omega)
    rw[HFV.out] at hfv'
    simp only[Value.slice.injEq] at hfv'
    have hgg:=hfv'.1
    clear hfv'
    subst hgg
    have hcfp:=hcf W.qj[m].lit.pred _ (uac hpf)
    have hrin:=(hro.jk _ hpr hpf).1
    obtain⟨aor,capr,hrv⟩:=zac hrin.1
    have hrl:R.qo[W.qj[m].lit.pred].length<=1048577:=HFR.out _ (uad _)
    rw[show R.qo.getD W.qj[m].lit.pred []=R.qo[W.qj[m].lit.pred] by simp[List.getD,hpr]] at hvam
    have HRN:Hid (∀ W0,Below wr.heap.size wr W0->Box W0 wr.heap.size #[.int .i64 (W.qj[m].lit.pred:Nat),.slice aoq W.qj[m].lit.qf.length capq,.int .i64 (wd:Nat),.pointer (some ⟨vpk[m].bb,0,none⟩),.pointer (some ⟨vpk[m].fb,0,none⟩),.pointer (some ⟨vpk[m].ab,0,none⟩)] 301->Calls Tryz.prog 206 #[.pointer (some ⟨gv,m * 6,none⟩),.slice aor R.qo[W.qj[m].lit.pred].length capr] W0 fun e w'=>e=.returned (.tuple #[])/\w'.cell? ⟨gw,o+6,none⟩=some (.slice (some ⟨gv,0,none⟩) W.qj.length capv)/\w'.cell? ⟨wr.heap.size,0,none⟩=some (.int .i64 (W.qj[m].lit.pred:Nat))/\w'.cell? ⟨gf,W.qj[m].lit.pred,none⟩=some (.slice aor R.qo[W.qj[m].lit.pred].length capr)/\Hid (∃ own' vpk',zd6 lo w' own' k wd ⟨W.rule,zm2 vs' W.qj (m+1)⟩ ⟨P.tv,P.pv,P.nv,P.vv,P.ntv,vpk',P.nbs⟩/\Mod lo (zi2 k) w own w' own')):=fun W0 hb hbt=>by
     have hM0:Mod lo (fun _ _=>False) wr ownk W0 (ext ownk wr.heap.size (0,0,5)):=Mod.extNew ownk (0,0,5) hb
     have hW0:=HWK.out.mod hM0 (fun _=>id) (fun _=>id) id (fun _=>id) (fun _ _ _ _=>id)
     have hbk0:=HBK.out.below hb
     have hv0:=hW0.qj
     dsimp only at hv0
     rw[HVV.out] at hv0
     obtain⟨cg,hcg⟩:=zef hv0 rfl
     have hrole:ext ownk wr.heap.size (0,0,5) gv=(k+1,0,9):=hW0.vrole gv (by dsimp only;rw[HVV.out];rfl)
     obtain⟨hcc0,_⟩:=hcg.rules
     obtain⟨cf,hcf0⟩:=zef (zaa hro.qo hb) (b:=gf) (by rw[HFV.out];rfl)
     have hvc:VC cg (m * 6) wd W.qj[m].lit.pred vpk[m].tv vpk[m].bb vpk[m].fb vpk[m].ab:=⟨(hcc0 _).symm.trans ((hb.cell hgv).trans q0),(hcc0 _).symm.trans ((hb.cell hgv).trans (by rw[q1,hq,hma])),(hcc0 _).symm.trans ((hb.cell hgv).trans q2),(hcc0 _).symm.trans ((hb.cell hgv).trans q3),(hcc0 _).symm.trans ((hb.cell hgv).trans q4),(hcc0 _).symm.trans ((hb.cell hgv).trans q5)⟩
     have hvw:=hW0.view m hml hm2
     dsimp only at hvw
     rw[hma] at hvw
     have q:=zoz W0 _ k m gv (m * 6) wd fuel cg W.qj[m] vs'[m] vpk[m] _ _ hcg hvc hvw (hrin.below' hb) (zeg hv0 rfl) (uap hlok hb.size) hro.small.1 hrl hvam
     rw[hrv] at q
     refine q.mono ?_
     rintro e w' ⟨rfl,fb',own',hv',hb',hm'⟩
     rw[hrole] at hm'
     have hr2:=hW0.renewed (W:=⟨W.rule,zm2 vs' W.qj m⟩) hml hm2 (cap:=capv) (by dsimp only;rw[HVV.out,znd HVL.out m hm]) hcg (by dsimp only;rw[hma];exact zmg hvam) hv' hb' hm'
     dsimp only at hr2
     rw[hms] at hr2
     have c1:=hbk0.mod hm' (zci (by decide) (by decide) _)
     have c2:=hbt.mod hm' (fun q=>by rcases q with ⟨q,_⟩|⟨_,q⟩;exact q (by decide);simp[ext] at q)
     have c3:=hcf0.mod hm' (zci (by decide) (by decide) _)
     refine⟨rfl,?_,?_,?_,own',_,hr2,(HMO.out.trans (hM0.more fun _ _ q=>q.elim)).trans (hm'.more fun _ _ q=>z3i q)⟩
     ·rw[← HVV.out];exact(HCC.out.at c1).c6
     ·rw[c2.rules.1];rfl
     ·rw[c3.rules.1,← hcf0.rules.1,hb.cell hgf,hcfp,hrv]
    rw[hrv] at hcfp
    have hrl2:R.qo[W.qj[m].lit.pred].length<=1048577:=hrl
    clear hrv hrin hcf hro hvam hq hwk hrl hma hms hml
    generalize R.qo[W.qj[m].lit.pred].length=rl at *
    have hpi:(W.qj[m].lit.pred:Int) < (R.qo.length:Int):=by omega
    generalize W.qj[m].lit.pred=vp at *
    generalize W.qj[m].lit.qf.length=vt at *
    generalize vpk[m].bb=bbm at *
    generalize vpk[m].fb=fbm at *
    generalize vpk[m].ab=abm at *
    go_upto_region 4 with fail
    have hgrow:Below wr.heap.size wr (wr.alloc (.cells #[.int .i64 (vp:Nat),.slice aoq vt capq,.int .i64 (wd:Nat),.pointer (some ⟨bbm,0,none⟩),.pointer (some ⟨fbm,0,none⟩),.pointer (some ⟨abm,0,none⟩)] 301)):=(by go_grown)
    have hbt:=Box.new wr #[.int .i64 (vp:Nat),.slice aoq vt capq,.int .i64 (wd:Nat),.pointer (some ⟨bbm,0,none⟩),.pointer (some ⟨fbm,0,none⟩),.pointer (some ⟨abm,0,none⟩)] 301
    generalize hW1:wr.alloc (.cells #[.int .i64 (vp:Nat),.slice aoq vt capq,.int .i64 (wd:Nat),.pointer (some ⟨bbm,0,none⟩),.pointer (some ⟨fbm,0,none⟩),.pointer (some ⟨abm,0,none⟩)] 301)=W1 at *
    clear hW1
    have x1:=(hgrow.cell (p:=⟨gw,o+6,none⟩) hgl).trans hd6
    have x2:=(hgrow.cell (p:=⟨gf,vp,none⟩) hgf).trans hcfp
    have x3:W1.cell? ⟨wr.heap.size,0,none⟩=some (.int .i64 (vp:Nat)):=by rw[hbt.rules.1];rfl
    clear hc6 hd6 hcfp q0 q1 q2 q3 q4 q5
    go_region_held3 (fun w'=>w'.cell? ⟨gw,o+6,none⟩=some (.slice (some ⟨gv,0,none⟩) W.qj.length capv)/\w'.cell? ⟨wr.heap.size,0,none⟩=some (.int .i64 (vp:Nat))/\w'.cell? ⟨gf,vp,none⟩=some (.slice aor rl capr)) (first|go_keep|(go_simp;done)) (first|(go_at_call 206;refine(HRN.out _ (by exact(zau hgrow 1)) (Box.drew hbt)).mono ?_;rintro e w2 ⟨rfl,y1,y2,y3,HX⟩))
    clear x1 x2 x3 y1 y2 y3 hbt hgrow HRN
    go_wp2
    obtain⟨own',vpk',z1,z2⟩:=HX.out
    exact⟨⟨m+1,by omega,by go_num,own',vpk',z1,z2⟩,by simp[intOf];omega⟩
   ·rw[if_neg hpr] at hvam
    have hmix:zm2 vs' W.qj (m+1)=zm2 vs' W.qj m:=by rw[← hms,hvam,← hma,udc]
    have HWK2:Hid (∀ W0,Below wr.heap.size wr W0->zd6 lo W0 ownk k wd ⟨W.rule,zm2 vs' W.qj (m+1)⟩ ⟨P.tv,P.pv,P.nv,P.vv,P.ntv,vpk,P.nbs⟩/\Mod lo (zi2 k) w own W0 ownk):=fun W0 hb=>by
     rw[hmix]
     exact⟨HWK.out.mod (Mod.of (ok:=fun _ _=>False) ownk hb) (fun _=>id) (fun _=>id) id (fun _=>id) (fun _ _ _ _=>id),HMO.out.trans (Mod.of ownk hb)⟩
    have hpi:¬ (W.qj[m].lit.pred:Int) < (R.qo.length:Int):=by omega
    clear hvam hq hwk hma hms hml hmix
    generalize W.qj[m].lit.pred=vp at *
    generalize W.qj[m].lit.qf.length=vt at *
    generalize vpk[m].bb=bbm at *
    generalize vpk[m].fb=fbm at *
    generalize vpk[m].ab=abm at *
    have hgrow:Below wr.heap.size wr (wr.alloc (.cells #[.int .i64 (vp:Nat),.slice aoq vt capq,.int .i64 (wd:Nat),.pointer (some ⟨bbm,0,none⟩),.pointer (some ⟨fbm,0,none⟩),.pointer (some ⟨abm,0,none⟩)] 301)):=(by go_grown)
    go_wp2
    obtain⟨z1,z2⟩:=HWK2.out _ hgrow
    exact⟨⟨m+1,by omega,by go_num,ownk,vpk,z1,z2⟩,by simp[intOf];omega⟩
  ·obtain rfl:m=W.qj.length:=by omega
   have hmix:zm2 vs' W.qj W.qj.length=vs':=by simp[zm2,← HVL.out]
   have HWK2:Hid (zd6 lo wr ownk k wd ⟨W.rule,vs'⟩ ⟨P.tv,P.pv,P.nv,P.vv,P.ntv,vpk,P.nbs⟩):=by rw[← hmix];exact HWK.out
   clear HWK hmix
   go_wp2
   (try simp only[Exit.inBlock,Exit.then])
   exact bodyPost_ret (results_none rfl _ _ _) rfl ⟨rfl,ownk,vpk,HWK2.out,HMO.out⟩
end Go.Proofs.YteampbddflhngaaGreat
