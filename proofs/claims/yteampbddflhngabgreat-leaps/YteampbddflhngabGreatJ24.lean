import Derived.Test.YteampbddflhngabGreatJ23

namespace Go.Proofs.YteampbddflhngabGreat
set_option maxRecDepth 100000
set_option maxHeartbeats 4000000
open Go.RowKit
variable {lo:Nat}
structure WCc (c:Array Value) (o:Nat) (r:zaf) (P:za6):Prop where
 c0:c[o]?=some (.int .i64 (r.stratum:Nat))
 c1:c[o+1]?=some (.int .i64 (r.vars:Nat))
 c2:c[o+2]?=some (.int .i64 (r.head.pred:Nat))
 c3:c[o+3]?=some P.tv
 c4:c[o+4]?=some P.pv
 c5:c[o+5]?=some P.nv
 c6:c[o+6]?=some P.vv
 c7:c[o+7]?=some P.ntv
theorem WCc.at{w:World}{gw o:Nat}{T:TypeId}{c:Array Value}{r:zaf}{P:za6}(h:WCc c o r P)(hb:Box w gw c T):WC w gw o r P:=by
 obtain⟨hc,hf⟩:=hb.rules
 exact⟨hb.lt,hf,(hc _).trans h.c0,(hc _).trans h.c1,(hc _).trans h.c2,(hc _).trans h.c3,(hc _).trans h.c4,(hc _).trans h.c5,(hc _).trans h.c6,(hc _).trans h.c7⟩
theorem zdy.mod{ok:TypeId->zay->Prop}{w w':World}{own own':Nat->zay}{k wd:Nat}{W:zbe}{P:za6}(h:zdy lo w own k wd W P)(m:Mod lo ok w own w' own')(h1:∀ ρ,¬ ok 208 ρ)(h2:∀ ρ,¬ ok 147 ρ)(h3:¬ ok 223 (k+1,0,9))(h4:∀ ρ,¬ ok 113 ρ)(h5:∀ i j t,¬ NoT t->¬ ok t (k+1,i,j)):zdy lo w' own' k wd W P :=
 ⟨h.rule.mod m h1 h2,znq h.views m fun b hb=>by rw[h.vrole b hb];exact h3,h.vlen,fun i a b=>(h.view i a b).mod m (h5 i) h1,fun b hb=>by rw[m.old b (zdk h.views hb)];exact h.vrole b hb,zd7 h.nots m h4,h.nlen,h.few⟩
theorem zg2{p:Nat}{t:TypeId}(h0:NoT t)(h:t∉[157,112,116,232,243]):∀ ρ,¬ zhz p t ρ:=fun ρ q=>by
 rcases q with (q|q|q|q)|q
 ·exact q.1 h0
 ·subst q;exact h (by decide)
 ·subst q;exact h (by decide)
 ·rw[q.1] at h;exact h (by decide)
 ·rcases List.mem_cons.1 q with rfl|q
  ·exact h (by decide)
  ·rcases List.mem_cons.1 q with rfl|q
   ·exact h (by decide)
   ·cases q
theorem z6l{p:Nat}{t:TypeId}{ρ:zay}(h0:¬ NoT t)(h:ρ≠(0,p,0)):¬ zhz p t ρ:=fun q=>by
 rcases q with (q|q|q|q)|q
 ·exact h q.2
 ·subst q;exact h0 (by decide)
 ·subst q;exact h0 (by decide)
 ·rw[q.1] at h0;exact h0 (by decide)
 ·rcases List.mem_cons.1 q with rfl|q
  ·exact h0 (by decide)
  ·rcases List.mem_cons.1 q with rfl|q
   ·exact h0 (by decide)
   ·cases q
theorem zdy.all{w w':World}{own own':Nat->zay}{k wd p:Nat}{W:zbe}{P:za6}(h:zdy lo w own k wd W P)(m:Mod lo (zhz p) w own w' own'):zdy lo w' own' k wd W P :=
 h.mod m (zg2 (by decide) (by decide)) (zg2 (by decide) (by decide)) (zg2 (by decide) (by decide) _) (zg2 (by decide) (by decide)) (fun _ _ _ ht=>z6l ht (by simp))
def zhg(tbs:List Nat)(n:Nat)(r:zaf)(nbs:List Nat):Prop:=∀ i (h1:i < r.nots.length) (h2:i < nbs.length),r.nots[i].pred≠r.head.pred/\r.nots[i].pred < n/\∃ h3:r.nots[i].pred < tbs.length,nbs[i]=tbs[r.nots[i].pred]
theorem zta(wd:Nat)(R:zbt)(r:zaf):(zhc wd R r).length=r.nots.length:=by simp[zhc]
theorem zhg.tries{w:World}{own:Nat->zay}{rb:Nat}{R:zbt}{wd mr mx:Nat}{Q:zcq}{r:zaf}{nbs:List Nat}(h:zhg Q.tbs R.rows.length r nbs)(hR:zc6 lo w own rb R wd mr mx Q)(hl:nbs.length=r.nots.length):∀ i (h1:i < (zhc wd R r).length) (h2:i < nbs.length),∃ ρ,ρ≠(0,r.head.pred,0)/\zcs lo w own ρ nbs[i] (zhc wd R r)[i]:=by
 intro i h1 h2
 obtain⟨q1,q2,q3,q4⟩:=h i (by omega) h2
 refine⟨(0,r.nots[i].pred,0),by simp[q1],?_⟩
 have e:(zhc wd R r)[i]=R.rows[r.nots[i].pred]:=by
  simp only[zhc,List.getElem_map,zf8]
  rw[if_neg (by omega)]
  simp[q2]
 rw[e,q4]
 exact hR.tries _ q2 q3
theorem zqi{mr:Nat}{R R':zbt}{p:Nat}{row:zaq}{b:Bool}(h:zxg mr R p row=some (R',b)):R'.rows.length=R.rows.length:=by
 obtain⟨_,_,_,_,_,hc⟩:=zmy h
 rcases hc with ⟨_,rfl,_⟩|⟨_,rfl,_⟩ <;> simp
theorem zgm{mr p:Nat}:∀(n:Nat) (R R':zbt) (J:zat) (b:Bool),zde mr p n R J=some (R',b)->R'.rows.length=R.rows.length
 |0,R,R',J,b,h=>by simp[zde] at h
 |n+1,R,R',J,b,h=>by
  unfold zde at h
  cases hn:zs9 n J with
  |none=>rw[hn] at h;cases h
  |some ar =>
   obtain⟨J2,bn⟩:=ar
   rw[hn] at h
   cases bn with
   |false =>
    simp only[Option.some.injEq,Prod.mk.injEq] at h
    rw[← h.1]
   |true =>
    dsimp only at h
    cases ha:zxg mr R p (zcp J2.head J2.values) with
    |none=>rw[ha] at h;cases h
    |some ar2 =>
     obtain⟨R3,b3⟩:=ar2
     rw[ha] at h
     cases b3 with
     |false =>
      simp only[Option.some.injEq,Prod.mk.injEq] at h
      rw[← h.1]
      exact zqi ha
     |true=>exact(zgm n R3 R' J2 b h).trans (zqi ha)
attribute [local go_sem] zm1
theorem zg7.laid{w:World}{J:zat}{PJ:zbo}(h:zg7 lo w J PJ)(hl:lo<=w.heap.size):JIn lo (zvk (w.alloc (.cells (bj 0 0 0 none none 0 0 0 0).toArray 232)) w.heap.size (zb6 J PJ)) w.heap.size J PJ/\Below w.heap.size w (zvk (w.alloc (.cells (bj 0 0 0 none none 0 0 0 0).toArray 232)) w.heap.size (zb6 J PJ)):=by
 have hgr:Below w.heap.size w (w.alloc (.cells (bj 0 0 0 none none 0 0 0 0).toArray 232)):=(Below.refl _ _).alloc (Nat.le_refl _) _
 have ht:=zfu w 0 0 0 none none 0 0 0 0
 have hbx:=zi4 ht (zgi J PJ h.hlen.1 h.fives)
 have hs:=ziv (w.alloc (.cells (bj 0 0 0 none none 0 0 0 0).toArray 232)) w.heap.size (zb6 J PJ)
 obtain⟨c0,hc0,_⟩:=ht
 exact⟨((h.below hgr).saveJ hs (OfT.box hc0)).join hl hbx,hgr.trans (hs.below (fun x hx=>by simp at hx;omega) (by simp))⟩
theorem zuj(w:World)(own:Nat->zay)(rb gw o k:Nat)(c:Array Value)(R R':zbt)(W:zbe)(P:za6)(wd mr mx:Nat)(Q:zcq)(n:Nat)(b:Bool)(h:zc6 lo w own rb R wd mr mx Q)(hw:zdy lo w own k wd W P)(hbx:Box w gw c 216)(hcc:WCc c o W.rule P)(hna:zhg Q.tbs R.rows.length W.rule P.nbs)(hlo:lo<=w.heap.size)(hr:zih n wd mr true R W=some (R',b)) :
  Calls Tryz.prog 126 #[.pointer (some ⟨rb,0,none⟩),.pointer (some ⟨gw,o,none⟩),.bool true] w fun e w'=>zjk lo w own rb W.rule.head.pred R' b wd mr mx Q e w':=by
 have hr2:zde mr W.rule.head.pred n R (za0 W.rule (W.views.map (·.all)) (zhc wd R W.rule))=some (R',b):=hr
 have HWH:Hid (Calls Tryz.prog 137 #[.pointer (some ⟨gw,o,none⟩)] w fun e w'=>zge lo w own W.rule.head.pred (za0 W.rule (W.views.map (·.all)) (zhc wd R W.rule)) e w'):=z2s w own k wd W.rule.head.pred gw o W P _ hw (hcc.at hbx) hlo (zta _ _ _) (hna.tries h hw.nlen)
 have HAL:Hid (∀ W0 jb PJ,Below w.heap.size w W0->JIn lo W0 jb (za0 W.rule (W.views.map (·.all)) (zhc wd R W.rule)) PJ->zjl own PJ W.rule.head.pred->Calls Tryz.prog 138 #[.pointer (some ⟨rb,0,none⟩),.int .i64 (W.rule.head.pred:Nat),.pointer (some ⟨jb,0,none⟩)] W0 fun e w'=>zjk lo W0 own rb W.rule.head.pred R' b wd mr mx Q e w'):=fun W0 jb PJ hW0 hj hro=>zot W0 own rb jb R R' _ PJ wd mr mx Q W.rule.head.pred n b (h.below hW0) hj hro (by have:=hW0.size;omega) hr2
 have hwc:=hcc.at hbx
 have HWC:Hid (WC w gw o W.rule P):=hwc
 have HLO:Hid (lo<=w.heap.size):=hlo
 clear hr hr2 hna hw h hcc hlo hwc
 generalize za0 W.rule (W.views.map (·.all)) (zhc wd R W.rule)=J at *
 generalize hpe:W.rule.head.pred=p at *
 have HPE:Hid (W.rule.head.pred=p):=hpe
 clear hpe
 go_enter Tryz.func126,Tryz.ntmps126
 go_upto_region 3 with (first|(go_at_call 137;refine HWH.out.mono ?_;rintro e w2 ⟨PJ,rfl,hJM,hJR,hb2⟩;have hgr:Below w2.heap.size w2 (w2.alloc (.cells (bj 0 0 0 none none 0 0 0 0).toArray 232)):=(by go_grown);have hst:=zi8 hJM (zfu w2 0 0 0 none none 0 0 0 0);have hlen:=zgi J PJ hJM.hlen.1 hJM.fives;have HJM:Hid (zg7 lo w2 J PJ):=hJM;have HJR:Hid (zjl own PJ p):=hJR;clear hJM hJR;generalize hcs:zb6 J PJ=cs at *;have HCS:Hid (zb6 J PJ=cs):=hcs;clear hcs))
 have hlw:lo<=w2.heap.size:=Nat.le_trans HLO.out hb2.size
 have hlaid:=HJM.out.laid hlw
 rw[HCS.out] at hlaid
 obtain⟨hJI,hbl⟩:=hlaid
 generalize zvk (w2.alloc (.cells (bj 0 0 0 none none 0 0 0 0).toArray 232)) w2.heap.size cs=W3 at *
 have hBW:Below w.heap.size w W3:=hb2.trans (hbl.mono hb2.size)
 have HC2:W3.cell? ⟨gw,o+2,none⟩=some (.int .i64 (p:Nat)):=by rw[← HPE.out];exact(hBW.cell HWC.out.lt).trans HWC.out.c2
 have HAL2:=HAL.out W3 _ PJ hBW hJI HJR.out
 have HBW:Hid (Below w.heap.size w W3):=hBW
 clear hJI hbl hBW HJM HJR HCS hst hlen hgr hb2 hlw HAL HWH
 generalize w2.heap.size=jb at *
 go_wp2_with (first|(go_at_call 138;refine HAL2.mono ?_;rintro e w4 ⟨rfl,own',fvs',hro',hm⟩))
 go_ret
 exact⟨rfl,own',fvs',hro',(Mod.of own HBW.out).trans hm⟩
attribute [local go_sem] zm1
theorem zxj(w:World)(own:Nat->zay)(rb gw o k:Nat)(c:Array Value)(R R':zbt)(W:zbe)(P:za6)(wd mr mx:Nat)(Q:zcq)(n:Nat)(b:Bool)(h:zc6 lo w own rb R wd mr mx Q)(hw:zdy lo w own k wd W P)(hbx:Box w gw c 216)(hcc:WCc c o W.rule P)(hna:zhg Q.tbs R.rows.length W.rule P.nbs)(hlo:lo<=w.heap.size)(hr:zih n wd mr false R W=some (R',b)) :
  Calls Tryz.prog 126 #[.pointer (some ⟨rb,0,none⟩),.pointer (some ⟨gw,o,none⟩),.bool false] w fun e w'=>zjk lo w own rb W.rule.head.pred R' b wd mr mx Q e w':=by
 have HR2:Hid (zgn n wd mr W (W.views.length - 0) 0 R=some (R',b)):=hr
 have HH:Hid (zc6 lo w own rb R wd mr mx Q):=h
 have HWO:Hid (zdy lo w own k wd W P):=hw
 have HBX:Hid (Box w gw c 216):=hbx
 have HCC:Hid (WCc c o W.rule P):=hcc
 have HNA:Hid (zhg Q.tbs R.rows.length W.rule P.nbs):=hna
 have HLO:Hid (lo<=w.heap.size):=hlo
 have hfew:=hw.few
 obtain⟨aov,capv,hvv⟩:=zab hw.views
 have HVV:Hid (P.vv=.slice aov W.views.length capv):=hvv
 have hwc:=hcc.at hbx
 have hcl:=hwc.lt
 have hc6:=hwc.c6
 rw[hvv] at hc6
 clear hr h hw hbx hcc hna hlo hvv hwc
 go_enter Tryz.func126,Tryz.ntmps126
 go_upto_region 5 with fail
 go_loopw [27] (fun v27 wr=>∃ m:Nat,m<=W.views.length/\v27=.int .i64 m/\∃ Rk ownk fvk,Hid (zc6 lo wr ownk rb Rk wd mr mx ⟨Q.rv,Q.tbs,Q.fv,fvk⟩)/\Hid (Mod lo (zhz W.rule.head.pred) w own wr ownk)/\Hid (Rk.rows.length=R.rows.length)/\Hid (zgn n wd mr W (W.views.length - m) m Rk=some (R',b))) (fun i _=>W.views.length - (intOf i).toNat)
 case atStart=>exact⟨0,Nat.zero_le _,rfl,R,own,Q.fvs,HH,Mod.refl _ _,rfl,HR2⟩
 case round =>
  clear HR2
  obtain⟨m,hm,rfl,Rk,ownk,fvk,HRO,HMO,HRL,HAP⟩:=hrel
  have hszk:=HMO.out.size
  have hlok:lo<=wr.heap.size:=Nat.le_trans HLO.out hszk
  by_cases hlt:m < W.views.length
  ·have HWK:Hid (zdy lo wr ownk k wd W P):=HWO.out.all HMO.out
   have HBK:Hid (Box wr gw c 216):=HBX.out.mod HMO.out (zg2 (by decide) (by decide) _)
   have hwk:=HWK.out
   have hm2:m < P.vps.length:=by rw[hwk.vlen];exact hlt
   obtain⟨gv,capv',hvv',hgv,q0,q1,q2,q3,q4,q5⟩:=hwk.viewAt m hlt hm2
   rw[HVV.out] at hvv'
   simp only[Value.slice.injEq] at hvv'
   have hgg:=hvv'.1
   clear hvv'
   subst hgg
   have hvm:=hwk.view m hlt hm2
   obtain⟨aoq,capq,hq⟩:=hvm.terms.shape
   rw[hq] at q1
   have hq2:=HAP.out
   rw[show W.views.length - m=(W.views.length - (m+1))+1 from by omega] at hq2
   unfold zgn at hq2
   rw[show W.views.getD m ⟨⟨0,[]⟩,zad.zero,zad.zero,zad.zero⟩=W.views[m] by simp[List.getD,hlt]] at hq2
   obtain⟨fpf,htf,_⟩:=hvm.fresh
   have HCT:Hid (∀ W0,Below wr.heap.size wr W0->Calls Tryz.prog 139 #[.pointer (some ⟨P.vps[m].fb,0,none⟩)] W0 fun e w'=>e=.returned (.int .i64 (W.views[m].fresh.count:Nat))/\w'=W0):=fun W0 hb=>zp7 W0 _ _ fpf (htf.below hb)
   have hcwk:=(HCC.out.at HBK.out)
   have hgl:=hcwk.lt
   have hmkk:(m:Int) < (W.views.length:Int):=by omega
   clear htf hvm hq hwk
   by_cases hct:W.views[m].fresh.count > 0
   ·rw[if_pos hct] at hq2
    cases ha:zde mr W.rule.head.pred n Rk (za0 W.rule (partly W.views m) (zhc wd Rk W.rule)) with
    |none=>rw[ha] at hq2;cases hq2
    |some ar =>
     obtain⟨R3,b3⟩:=ar
     rw[ha] at hq2
     have hlen3:=zgm _ _ _ _ _ ha
     have HL3:Hid (R3.rows.length=R.rows.length):=hlen3.trans HRL.out
     have HPA:Hid (∀ W0,Below wr.heap.size wr W0->Calls Tryz.prog 140 #[.pointer (some ⟨gw,o,none⟩),.int .i64 m] W0 fun e w'=>zge lo W0 ownk W.rule.head.pred (za0 W.rule (partly W.views m) (zhc wd Rk W.rule)) e w'):=fun W0 hb=>by
      have hm0:=Mod.of (lo:=lo) (ok:=zhz W.rule.head.pred) ownk hb
      exact zyr W0 ownk k wd W.rule.head.pred gw o m W P _ (HWK.out.all hm0) ((HCC.out.at HBK.out).below hb) (Nat.le_trans hlok hb.size) (by omega) (zta _ _ _) (zhg.tries (by rw[HRL.out];exact HNA.out) (HRO.out.below hb) HWK.out.nlen)
     have HAL:Hid (∀ W0 jb PJ,Below wr.heap.size wr W0->JIn lo W0 jb (za0 W.rule (partly W.views m) (zhc wd Rk W.rule)) PJ->zjl ownk PJ W.rule.head.pred->Calls Tryz.prog 138 #[.pointer (some ⟨rb,0,none⟩),.int .i64 (W.rule.head.pred:Nat),.pointer (some ⟨jb,0,none⟩)] W0 fun e w'=>zjk lo W0 ownk rb W.rule.head.pred R3 b3 wd mr mx ⟨Q.rv,Q.tbs,Q.fv,fvk⟩ e w'):=fun W0 jb PJ hW0 hj hro=>zot W0 ownk rb jb Rk R3 _ PJ wd mr mx _ W.rule.head.pred n b3 (HRO.out.below hW0) hj hro (Nat.le_trans hlok hW0.size) ha
     have HC2:Hid (wr.cell? ⟨gw,o+2,none⟩=some (.int .i64 (W.rule.head.pred:Nat))):=hcwk.c2
     clear hcwk ha hlen3
     generalize za0 W.rule (partly W.views m) (zhc wd Rk W.rule)=J at *
     have hc0:(0:Int) < (W.views[m].fresh.count:Nat):=by omega
     have HQ2:Hid ((match (some (R3,b3):Option (zbt × Bool)) with|none=>none|some (R,false)=>some (R,false)|some (R,true)=>zgn n wd mr W (W.views.length - (m+1)) (m+1) R)=some (R',b)):=hq2
     clear hq2
     generalize W.views[m].fresh.count=ct at *
     generalize W.views[m].lit.pred=vp at *
     generalize W.views[m].lit.terms.length=vt at *
     generalize P.vps[m].bb=bbm at *
     generalize P.vps[m].fb=fbm at *
     generalize P.vps[m].ab=abm at *
     generalize hpe:W.rule.head.pred=p at *
     have HPE:Hid (W.rule.head.pred=p):=hpe
     clear hpe
     have hgrow:Below wr.heap.size wr (wr.alloc (.cells #[.int .i64 (vp:Nat),.slice aoq vt capq,.int .i64 (wd:Nat),.pointer (some ⟨bbm,0,none⟩),.pointer (some ⟨fbm,0,none⟩),.pointer (some ⟨abm,0,none⟩)] 223)):=(by go_grown)
     have HGR:Hid (Below wr.heap.size wr (wr.alloc (.cells #[.int .i64 (vp:Nat),.slice aoq vt capq,.int .i64 (wd:Nat),.pointer (some ⟨bbm,0,none⟩),.pointer (some ⟨fbm,0,none⟩),.pointer (some ⟨abm,0,none⟩)] 223))):=hgrow
     clear hgrow
     go_upto_region 9 with (first|(go_at_call 139;refine(HCT.out _ HGR.out).mono ?_;rintro e w2 ⟨rfl,hww⟩;obtain rfl:=hww.symm)|(go_at_call 140;refine(HPA.out _ HGR.out).mono ?_;rintro e w2 ⟨PJ,rfl,hJM,hJR,hb2⟩;have hB2:Below wr.heap.size wr w2:=zae HGR.out hb2 (Nat.le_refl _);clear hb2;have hgr:Below w2.heap.size w2 (w2.alloc (.cells (bj 0 0 0 none none 0 0 0 0).toArray 232)):=(by go_grown);have hst:=zi8 hJM (zfu w2 0 0 0 none none 0 0 0 0);have hlen:=zgi J PJ hJM.hlen.1 hJM.fives;have HJM:Hid (zg7 lo w2 J PJ):=hJM;have HJR:Hid (zjl ownk PJ p):=hJR;clear hJM hJR;generalize hcs:zb6 J PJ=cs at *;have HCS:Hid (zb6 J PJ=cs):=hcs;clear hcs))
     have hlaid:=HJM.out.laid (Nat.le_trans hlok hB2.size)
     rw[HCS.out] at hlaid
     obtain⟨hJI,hbl⟩:=hlaid
     generalize zvk (w2.alloc (.cells (bj 0 0 0 none none 0 0 0 0).toArray 232)) w2.heap.size cs=W3 at *
     have hBW:Below wr.heap.size wr W3:=zae hB2 hbl (Nat.le_refl _)
     have hd2:=(hBW.cell (p:=⟨gw,o+2,none⟩) hgl).trans HC2.out
     have HAL2:=HAL.out W3 _ PJ hBW hJI HJR.out
     have HBW:Hid (Below wr.heap.size wr W3):=hBW
     clear hJI hbl hBW HJM HJR HCS hst hlen hgr HAL HPA hB2
     generalize w2.heap.size=jb at *
     cases b3 with
     |false =>
      have HE:Hid (R3=R'/\false=b):=by have q:=HQ2.out;simp only[Option.some.injEq,Prod.mk.injEq] at q;exact q
      go_wp2_with (first|(go_at_call 138;refine HAL2.mono ?_;rintro e w4 ⟨rfl,own',fvs',hro',hm4⟩))
      go_ret
      exact⟨by rw[← HE.out.2];rfl,own',fvs',by rw[← HE.out.1];exact hro',by rw[HPE.out];exact HMO.out.trans ((Mod.of ownk HBW.out).trans hm4)⟩
     |true =>
      have HE:Hid (zgn n wd mr W (W.views.length - (m+1)) (m+1) R3=some (R',b)):=HQ2.out
      clear HQ2
      go_wp2_with (first|(go_at_call 138;refine HAL2.mono ?_;rintro e w4 ⟨rfl,own',fvs',hro',hm4⟩))
      exact⟨⟨m+1,by omega,by go_num,R3,own',fvs',hro',HMO.out.trans ((Mod.of ownk HBW.out).trans hm4),HL3,HE⟩,by simp[intOf];omega⟩
   ·rw[if_neg hct] at hq2
    have HQ2:Hid (zgn n wd mr W (W.views.length - (m+1)) (m+1) Rk=some (R',b)):=hq2
    clear hq2 hcwk
    have hc0:¬ (0:Int) < (W.views[m].fresh.count:Nat):=by omega
    generalize W.views[m].fresh.count=ct at *
    generalize W.views[m].lit.pred=vp at *
    generalize W.views[m].lit.terms.length=vt at *
    generalize P.vps[m].bb=bbm at *
    generalize P.vps[m].fb=fbm at *
    generalize P.vps[m].ab=abm at *
    have hgrow:Below wr.heap.size wr (wr.alloc (.cells #[.int .i64 (vp:Nat),.slice aoq vt capq,.int .i64 (wd:Nat),.pointer (some ⟨bbm,0,none⟩),.pointer (some ⟨fbm,0,none⟩),.pointer (some ⟨abm,0,none⟩)] 223)):=(by go_grown)
    have HGR:Hid (Below wr.heap.size wr (wr.alloc (.cells #[.int .i64 (vp:Nat),.slice aoq vt capq,.int .i64 (wd:Nat),.pointer (some ⟨bbm,0,none⟩),.pointer (some ⟨fbm,0,none⟩),.pointer (some ⟨abm,0,none⟩)] 223))):=hgrow
    clear hgrow
    go_wp2_with (first|(go_at_call 139;refine(HCT.out _ HGR.out).mono ?_;rintro e w2 ⟨rfl,hww⟩;obtain rfl:=hww.symm))
    exact⟨⟨m+1,by omega,by go_num,Rk,ownk,fvk,HRO.out.below HGR.out,HMO.out.trans (Mod.of ownk HGR.out),HRL,HQ2⟩,by simp[intOf];omega⟩
  ·obtain rfl:m=W.views.length:=by omega
   have hq2:=HAP.out
   rw[Nat.sub_self] at hq2
   simp only[zgn,Option.some.injEq,Prod.mk.injEq] at hq2
   have HE:Hid (Rk=R'/\true=b):=hq2
   clear hq2
   go_wp2
   go_ret
   exact⟨by rw[← HE.out.2];rfl,ownk,fvk,by rw[← HE.out.1];exact HRO.out,HMO.out⟩
theorem zzt(w:World)(own:Nat->zay)(rb gw o k:Nat)(c:Array Value)(R R':zbt)(W:zbe)(P:za6)(wd mr mx:Nat)(Q:zcq)(n:Nat)(first b:Bool)(h:zc6 lo w own rb R wd mr mx Q)(hw:zdy lo w own k wd W P)(hbx:Box w gw c 216)(hcc:WCc c o W.rule P)(hna:zhg Q.tbs R.rows.length W.rule P.nbs)(hlo:lo<=w.heap.size)(hr:zih n wd mr first R W=some (R',b)) :
  Calls Tryz.prog 126 #[.pointer (some ⟨rb,0,none⟩),.pointer (some ⟨gw,o,none⟩),.bool first] w fun e w'=>zjk lo w own rb W.rule.head.pred R' b wd mr mx Q e w':=by
 cases first with
 |true=>exact zuj w own rb gw o k c R R' W P wd mr mx Q n b h hw hbx hcc hna hlo hr
 |false=>exact zxj w own rb gw o k c R R' W P wd mr mx Q n b h hw hbx hcc hna hlo hr
end Go.Proofs.YteampbddflhngabGreat
