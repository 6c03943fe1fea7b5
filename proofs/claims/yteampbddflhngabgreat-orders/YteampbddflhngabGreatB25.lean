import Derived.Test.YteampbddflhngabGreatB24

namespace Go.Proofs.YteampbddflhngabGreat
set_option maxRecDepth 100000
set_option maxHeartbeats 4000000
open Go.RowKit
variable {lo:Nat}
structure WCc (c:Array Value) (o:Nat) (r:zah) (P:zbc):Prop where
 c0:c[o]?=some (.int .i64 (r.stratum:Nat))
 c1:c[o+1]?=some (.int .i64 (r.vars:Nat))
 c2:c[o+2]?=some (.int .i64 (r.head.pred:Nat))
 c3:c[o+3]?=some P.tv
 c4:c[o+4]?=some P.pv
 c5:c[o+5]?=some P.nv
 c6:c[o+6]?=some P.vv
 c7:c[o+7]?=some P.ntv
theorem WCc.at{w:World}{gw o:Nat}{T:TypeId}{c:Array Value}{r:zah}{P:zbc}(h:WCc c o r P)(hb:Box w gw c T):WC w gw o r P:=by
 obtain⟨hc,hf⟩:=hb.rules
 exact⟨hb.lt,hf,(hc _).trans h.c0,(hc _).trans h.c1,(hc _).trans h.c2,(hc _).trans h.c3,(hc _).trans h.c4,(hc _).trans h.c5,(hc _).trans h.c6,(hc _).trans h.c7⟩
theorem zee.mod{ok:TypeId->zay->Prop}{w w':World}{own own':Nat->zay}{k wd:Nat}{W:zbl}{P:zbc}(h:zee lo w own k wd W P)(m:Mod lo ok w own w' own')(h1:∀ ρ,¬ ok 208 ρ)(h2:∀ ρ,¬ ok 147 ρ)(h3:¬ ok 223 (k+1,0,9))(h4:∀ ρ,¬ ok 113 ρ)(h5:∀ i j t,¬ NoT t->¬ ok t (k+1,i,j)):zee lo w' own' k wd W P :=
 ⟨h.rule.mod m h1 h2,zpo h.views m fun b hb=>by rw[h.vrole b hb];exact h3,h.vlen,fun i a b=>(h.view i a b).mod m (h5 i) h1,fun b hb=>by rw[m.old b (zdv h.views hb)];exact h.vrole b hb,zeg h.nots m h4,h.nlen,h.few⟩
theorem zhj{p:Nat}{t:TypeId}(h0:NoT t)(h:t∉[157,112,116,232,243]):∀ ρ,¬ ziq p t ρ:=fun ρ q=>by
 rcases q with (q|q|q|q)|q
 ·exact q.1 h0
 ·subst q;exact h (by decide)
 ·subst q;exact h (by decide)
 ·rw[q.1] at h;exact h (by decide)
 ·rcases List.mem_cons.1 q with rfl|q
  ·exact h (by decide)
  ·rcases List.mem_cons.1 q with rfl|q
   ·exact h (by decide)
   ·cases q
theorem yab{p:Nat}{t:TypeId}{ρ:zay}(h0:¬ NoT t)(h:ρ≠(0,p,0)):¬ ziq p t ρ:=fun q=>by
 rcases q with (q|q|q|q)|q
 ·exact h q.2
 ·subst q;exact h0 (by decide)
 ·subst q;exact h0 (by decide)
 ·rw[q.1] at h0;exact h0 (by decide)
 ·rcases List.mem_cons.1 q with rfl|q
  ·exact h0 (by decide)
  ·rcases List.mem_cons.1 q with rfl|q
   ·exact h0 (by decide)
   ·cases q
theorem zee.all{w w':World}{own own':Nat->zay}{k wd p:Nat}{W:zbl}{P:zbc}(h:zee lo w own k wd W P)(m:Mod lo (ziq p) w own w' own'):zee lo w' own' k wd W P :=
 h.mod m (zhj (by decide) (by decide)) (zhj (by decide) (by decide)) (zhj (by decide) (by decide) _) (zhj (by decide) (by decide)) (fun _ _ _ ht=>yab ht (by simp))
def zh3(tbs:List Nat)(n:Nat)(r:zah)(nbs:List Nat):Prop:=∀ i (h1:i < r.nots.length) (h2:i < nbs.length),r.nots[i].pred≠r.head.pred/\r.nots[i].pred < n/\∃ h3:r.nots[i].pred < tbs.length,nbs[i]=tbs[r.nots[i].pred]
theorem zs8(wd:Nat)(R:zbf)(r:zah):(zhr wd R r).length=r.nots.length:=by simp[zhr]
theorem zh3.tries{w:World}{own:Nat->zay}{rb:Nat}{R:zbf}{wd mr mx:Nat}{Q:zcy}{r:zah}{nbs:List Nat}(h:zh3 Q.tbs R.rows.length r nbs)(hR:zdh lo w own rb R wd mr mx Q)(hl:nbs.length=r.nots.length):∀ i (h1:i < (zhr wd R r).length) (h2:i < nbs.length),∃ ρ,ρ≠(0,r.head.pred,0)/\zc1 lo w own ρ nbs[i] (zhr wd R r)[i]:=by
 intro i h1 h2
 obtain⟨q1,q2,q3,q4⟩:=h i (by omega) h2
 refine⟨(0,r.nots[i].pred,0),by simp[q1],?_⟩
 have e:(zhr wd R r)[i]=R.rows[r.nots[i].pred]:=by
  simp only[zhr,List.getElem_map,zgm]
  rw[if_neg (by omega)]
  simp[q2]
 rw[e,q4]
 exact hR.tries _ q2 q3
theorem zsc{mr:Nat}{R R':zbf}{p:Nat}{row:zar}{b:Bool}(h:zzs mr R p row=some (R',b)):R'.rows.length=R.rows.length:=by
 obtain⟨_,_,_,_,_,hc⟩:=zpd h
 rcases hc with ⟨_,rfl,_⟩|⟨_,rfl,_⟩ <;> simp
theorem zgz{mr p:Nat}:∀(n:Nat) (R R':zbf) (J:zaw) (b:Bool),zdq mr p n R J=some (R',b)->R'.rows.length=R.rows.length
 |0,R,R',J,b,h=>by simp[zdq] at h
 |n+1,R,R',J,b,h=>by
  unfold zdq at h
  cases hn:ztx n J with
  |none=>rw[hn] at h;cases h
  |some ar =>
   obtain⟨J2,bn⟩:=ar
   rw[hn] at h
   cases bn with
   |false =>
    simp only[Option.some.injEq,Prod.mk.injEq] at h
    rw[← h.1]
   |true =>
    dsimp only at h
    cases ha:zzs mr R p (zcu J2.head J2.values) with
    |none=>rw[ha] at h;cases h
    |some ar2 =>
     obtain⟨R3,b3⟩:=ar2
     rw[ha] at h
     cases b3 with
     |false =>
      simp only[Option.some.injEq,Prod.mk.injEq] at h
      rw[← h.1]
      exact zsc ha
     |true=>exact(zgz n R3 R' J2 b h).trans (zsc ha)
attribute [local go_sem] zom
theorem zhx.laid{w:World}{J:zaw}{PJ:zbz}(h:zhx lo w J PJ)(hl:lo<=w.heap.size):JIn lo (zv9 (w.alloc (.cells (bj 0 0 0 none none 0 0 0 0).toArray 232)) w.heap.size (zcd J PJ)) w.heap.size J PJ/\Below w.heap.size w (zv9 (w.alloc (.cells (bj 0 0 0 none none 0 0 0 0).toArray 232)) w.heap.size (zcd J PJ)):=by
 have hgr:Below w.heap.size w (w.alloc (.cells (bj 0 0 0 none none 0 0 0 0).toArray 232)):=(Below.refl _ _).alloc (Nat.le_refl _) _
 have ht:=zf0 w 0 0 0 none none 0 0 0 0
 have hbx:=zj1 ht (zgy J PJ h.hlen.1 h.fives)
 have hs:=zi2 (w.alloc (.cells (bj 0 0 0 none none 0 0 0 0).toArray 232)) w.heap.size (zcd J PJ)
 obtain⟨c0,hc0,_⟩:=ht
 exact⟨((h.below hgr).saveJ hs (OfT.box hc0)).join hl hbx,hgr.trans (hs.below (fun x hx=>by simp at hx;omega) (by simp))⟩
theorem zxb(w:World)(own:Nat->zay)(rb gw o k:Nat)(c:Array Value)(R R':zbf)(W:zbl)(P:zbc)(wd mr mx:Nat)(Q:zcy)(n:Nat)(b:Bool)(h:zdh lo w own rb R wd mr mx Q)(hw:zee lo w own k wd W P)(hbx:Box w gw c 216)(hcc:WCc c o W.rule P)(hna:zh3 Q.tbs R.rows.length W.rule P.nbs)(hlo:lo<=w.heap.size)(hr:zjd n wd mr true R W=some (R',b)) :
  Calls Tryz.prog 126 #[.pointer (some ⟨rb,0,none⟩),.pointer (some ⟨gw,o,none⟩),.bool true] w fun e w'=>zkv lo w own rb W.rule.head.pred R' b wd mr mx Q e w':=by
 have hr2:zdq mr W.rule.head.pred n R (za4 W.rule (W.views.map (·.all)) (zhr wd R W.rule))=some (R',b):=hr
 have HWH:Hid (Calls Tryz.prog 137 #[.pointer (some ⟨gw,o,none⟩)] w fun e w'=>zgq lo w own W.rule.head.pred (za4 W.rule (W.views.map (·.all)) (zhr wd R W.rule)) e w'):=z3c w own k wd W.rule.head.pred gw o W P _ hw (hcc.at hbx) hlo (zs8 _ _ _) (hna.tries h hw.nlen)
 have HAL:Hid (∀ W0 jb PJ,Below w.heap.size w W0->JIn lo W0 jb (za4 W.rule (W.views.map (·.all)) (zhr wd R W.rule)) PJ->zk1 own PJ W.rule.head.pred->Calls Tryz.prog 138 #[.pointer (some ⟨rb,0,none⟩),.int .i64 (W.rule.head.pred:Nat),.pointer (some ⟨jb,0,none⟩)] W0 fun e w'=>zkv lo W0 own rb W.rule.head.pred R' b wd mr mx Q e w'):=fun W0 jb PJ hW0 hj hro=>zru W0 own rb jb R R' _ PJ wd mr mx Q W.rule.head.pred n b (h.below hW0) hj hro (by have:=hW0.size;omega) hr2
 have hwc:=hcc.at hbx
 have HWC:Hid (WC w gw o W.rule P):=hwc
 have HLO:Hid (lo<=w.heap.size):=hlo
 clear hr hr2 hna hw h hcc hlo hwc
 generalize za4 W.rule (W.views.map (·.all)) (zhr wd R W.rule)=J at *
 generalize hpe:W.rule.head.pred=p at *
 have HPE:Hid (W.rule.head.pred=p):=hpe
 clear hpe
 go_enter Tryz.func126,Tryz.ntmps126
 go_upto_region 3 with (first|(go_at_call 137;refine HWH.out.mono ?_;rintro e w2 ⟨PJ,rfl,hJM,hJR,hb2⟩;have hgr:Below w2.heap.size w2 (w2.alloc (.cells (bj 0 0 0 none none 0 0 0 0).toArray 232)):=(by repeat'(first|with_reducible(first|exact zR _ _|assumption|refine zN ?_ _|refine zA ?_ ?_ _|refine zD ?_|refine zS ?_ ?_ _)|go_size));have hst:=zjs hJM (zf0 w2 0 0 0 none none 0 0 0 0);have hlen:=zgy J PJ hJM.hlen.1 hJM.fives;have HJM:Hid (zhx lo w2 J PJ):=hJM;have HJR:Hid (zk1 own PJ p):=hJR;clear hJM hJR;generalize hcs:zcd J PJ=cs at *;have HCS:Hid (zcd J PJ=cs):=hcs;clear hcs))
 have hlw:lo<=w2.heap.size:=Nat.le_trans HLO.out hb2.size
 have hlaid:=HJM.out.laid hlw
 rw[HCS.out] at hlaid
 obtain⟨hJI,hbl⟩:=hlaid
 generalize zv9 (w2.alloc (.cells (bj 0 0 0 none none 0 0 0 0).toArray 232)) w2.heap.size cs=W3 at *
 have hBW:Below w.heap.size w W3:=hb2.trans (hbl.mono hb2.size)
 have HC2:W3.cell? ⟨gw,o+2,none⟩=some (.int .i64 (p:Nat)):=by rw[← HPE.out];exact(hBW.cell HWC.out.lt).trans HWC.out.c2
 have HAL2:=HAL.out W3 _ PJ hBW hJI HJR.out
 have HBW:Hid (Below w.heap.size w W3):=hBW
 clear hJI hbl hBW HJM HJR HCS hst hlen hgr hb2 hlw HAL HWH
 generalize w2.heap.size=jb at *
 go_wp2_with (first|(go_at_call 138;refine HAL2.mono ?_;rintro e w4 ⟨rfl,own',fvs',hro',hm⟩))
 go_ret
 exact⟨rfl,own',fvs',hro',(Mod.of own HBW.out).trans hm⟩
end Go.Proofs.YteampbddflhngabGreat

namespace Go.Proofs.YteampbddflhngabGreat
set_option maxRecDepth 100000
set_option maxHeartbeats 4000000
open Go.RowKit
variable {lo:Nat}
attribute [local go_sem] zom
theorem zz1(w:World)(own:Nat->zay)(rb gw o k:Nat)(c:Array Value)(R R':zbf)(W:zbl)(P:zbc)(wd mr mx:Nat)(Q:zcy)(n:Nat)(b:Bool)(h:zdh lo w own rb R wd mr mx Q)(hw:zee lo w own k wd W P)(hbx:Box w gw c 216)(hcc:WCc c o W.rule P)(hna:zh3 Q.tbs R.rows.length W.rule P.nbs)(hlo:lo<=w.heap.size)(hr:zjd n wd mr false R W=some (R',b)) :
  Calls Tryz.prog 126 #[.pointer (some ⟨rb,0,none⟩),.pointer (some ⟨gw,o,none⟩),.bool false] w fun e w'=>zkv lo w own rb W.rule.head.pred R' b wd mr mx Q e w':=by
 have HR2:Hid (zhd n wd mr W (W.views.length - 0) 0 R=some (R',b)):=hr
 have HH:Hid (zdh lo w own rb R wd mr mx Q):=h
 have HWO:Hid (zee lo w own k wd W P):=hw
 have HBX:Hid (Box w gw c 216):=hbx
 have HCC:Hid (WCc c o W.rule P):=hcc
 have HNA:Hid (zh3 Q.tbs R.rows.length W.rule P.nbs):=hna
 have HLO:Hid (lo<=w.heap.size):=hlo
 have hfew:=hw.few
 obtain⟨aov,capv,hvv⟩:=zac hw.views
 have HVV:Hid (P.vv=.slice aov W.views.length capv):=hvv
 have hwc:=hcc.at hbx
 have hcl:=hwc.lt
 have hc6:=hwc.c6
 rw[hvv] at hc6
 clear hr h hw hbx hcc hna hlo hvv hwc
 go_enter Tryz.func126,Tryz.ntmps126
 go_upto_region 5 with fail
 go_loopw [27] (fun v27 wr=>∃ m:Nat,m<=W.views.length/\v27=.int .i64 m/\∃ Rk ownk fvk,Hid (zdh lo wr ownk rb Rk wd mr mx ⟨Q.rv,Q.tbs,Q.fv,fvk⟩)/\Hid (Mod lo (ziq W.rule.head.pred) w own wr ownk)/\Hid (Rk.rows.length=R.rows.length)/\Hid (zhd n wd mr W (W.views.length - m) m Rk=some (R',b))) (fun i _=>W.views.length - (intOf i).toNat)
 case atStart=>exact⟨0,Nat.zero_le _,rfl,R,own,Q.fvs,HH,Mod.refl _ _,rfl,HR2⟩
 case round =>
  clear HR2
  obtain⟨m,hm,rfl,Rk,ownk,fvk,HRO,HMO,HRL,HAP⟩:=hrel
  have hszk:=HMO.out.size
  have hlok:lo<=wr.heap.size:=Nat.le_trans HLO.out hszk
  by_cases hlt:m < W.views.length
  ·have HWK:Hid (zee lo wr ownk k wd W P):=HWO.out.all HMO.out
   have HBK:Hid (Box wr gw c 216):=HBX.out.mod HMO.out (zhj (by decide) (by decide) _)
   have hwk:=HWK.out
   have hm2:m < P.vps.length:=by rw[hwk.vlen];exact hlt
   obtain⟨gv,capv',hvv',hgv,q0,q1,q2,q3,q4,q5⟩:=hwk.viewAt m hlt hm2
   rw[HVV.out] at hvv'
   simp only[Value.slice.injEq] at hvv'
   have hgg:=hvv'.1
   clear hvv'
   subst hgg
   have hvm:=hwk.view m hlt hm2
   obtain⟨aoq,capq,hq⟩:=hvm.terms.shape
   rw[hq] at q1
   have hq2:=HAP.out
   rw[show W.views.length - m=(W.views.length - (m+1))+1 from by omega] at hq2
   unfold zhd at hq2
   rw[show W.views.getD m ⟨⟨0,[]⟩,zae.zero,zae.zero,zae.zero⟩=W.views[m] by simp[List.getD,hlt]] at hq2
   obtain⟨fpf,htf,_⟩:=hvm.fresh
   have HCT:Hid (∀ W0,Below wr.heap.size wr W0->Calls Tryz.prog 139 #[.pointer (some ⟨P.vps[m].fb,0,none⟩)] W0 fun e w'=>e=.returned (.int .i64 (W.views[m].fresh.count:Nat))/\w'=W0):=fun W0 hb=>zqy W0 _ _ fpf (htf.below hb)
   have hcwk:=(HCC.out.at HBK.out)
   have hgl:=hcwk.lt
   have hmkk:(m:Int) < (W.views.length:Int):=by omega
   clear htf hvm hq hwk
   by_cases hct:W.views[m].fresh.count > 0
   ·rw[if_pos hct] at hq2
    cases ha:zdq mr W.rule.head.pred n Rk (za4 W.rule (partly W.views m) (zhr wd Rk W.rule)) with
    |none=>rw[ha] at hq2;cases hq2
    |some ar =>
     obtain⟨R3,b3⟩:=ar
     rw[ha] at hq2
     have hlen3:=zgz _ _ _ _ _ ha
     have HL3:Hid (R3.rows.length=R.rows.length):=hlen3.trans HRL.out
     have HPA:Hid (∀ W0,Below wr.heap.size wr W0->Calls Tryz.prog 140 #[.pointer (some ⟨gw,o,none⟩),.int .i64 m] W0 fun e w'=>zgq lo W0 ownk W.rule.head.pred (za4 W.rule (partly W.views m) (zhr wd Rk W.rule)) e w'):=fun W0 hb=>by
      have hm0:=Mod.of (lo:=lo) (ok:=ziq W.rule.head.pred) ownk hb
      exact z1o W0 ownk k wd W.rule.head.pred gw o m W P _ (HWK.out.all hm0) ((HCC.out.at HBK.out).below hb) (Nat.le_trans hlok hb.size) (by omega) (zs8 _ _ _) (zh3.tries (by rw[HRL.out];exact HNA.out) (HRO.out.below hb) HWK.out.nlen)
     have HAL:Hid (∀ W0 jb PJ,Below wr.heap.size wr W0->JIn lo W0 jb (za4 W.rule (partly W.views m) (zhr wd Rk W.rule)) PJ->zk1 ownk PJ W.rule.head.pred->Calls Tryz.prog 138 #[.pointer (some ⟨rb,0,none⟩),.int .i64 (W.rule.head.pred:Nat),.pointer (some ⟨jb,0,none⟩)] W0 fun e w'=>zkv lo W0 ownk rb W.rule.head.pred R3 b3 wd mr mx ⟨Q.rv,Q.tbs,Q.fv,fvk⟩ e w'):=fun W0 jb PJ hW0 hj hro=>zru W0 ownk rb jb Rk R3 _ PJ wd mr mx _ W.rule.head.pred n b3 (HRO.out.below hW0) hj hro (Nat.le_trans hlok hW0.size) ha
     have HC2:Hid (wr.cell? ⟨gw,o+2,none⟩=some (.int .i64 (W.rule.head.pred:Nat))):=hcwk.c2
     clear hcwk ha hlen3
     generalize za4 W.rule (partly W.views m) (zhr wd Rk W.rule)=J at *
     have hc0:(0:Int) < (W.views[m].fresh.count:Nat):=by omega
     have HQ2:Hid ((match (some (R3,b3):Option (zbf × Bool)) with|none=>none|some (R,false)=>some (R,false)|some (R,true)=>zhd n wd mr W (W.views.length - (m+1)) (m+1) R)=some (R',b)):=hq2
     clear hq2
     generalize W.views[m].fresh.count=ct at *
     generalize W.views[m].lit.pred=vp at *
     generalize W.views[m].lit.terms.length=vt at *
     generalize P.vps[m].bb=bbm at *
     generalize P.vps[m].fb=fbm at *
     generalize P.vps[m].ab=abm at *
     generalize hpe:W.rule.head.pred=p at *
     have HPE:Hid (W.rule.head.pred=p):=hpe
     clear hpe
     have hgrow:Below wr.heap.size wr (wr.alloc (.cells #[.int .i64 (vp:Nat),.slice aoq vt capq,.int .i64 (wd:Nat),.pointer (some ⟨bbm,0,none⟩),.pointer (some ⟨fbm,0,none⟩),.pointer (some ⟨abm,0,none⟩)] 223)):=(by repeat'(first|with_reducible(first|exact zR _ _|assumption|refine zN ?_ _|refine zA ?_ ?_ _|refine zD ?_|refine zS ?_ ?_ _)|go_size))
     have HGR:Hid (Below wr.heap.size wr (wr.alloc (.cells #[.int .i64 (vp:Nat),.slice aoq vt capq,.int .i64 (wd:Nat),.pointer (some ⟨bbm,0,none⟩),.pointer (some ⟨fbm,0,none⟩),.pointer (some ⟨abm,0,none⟩)] 223))):=hgrow
     clear hgrow
     go_upto_region 9 with (first|(go_at_call 139;refine(HCT.out _ HGR.out).mono ?_;rintro e w2 ⟨rfl,hww⟩;obtain rfl:=hww.symm)|(go_at_call 140;refine(HPA.out _ HGR.out).mono ?_;rintro e w2 ⟨PJ,rfl,hJM,hJR,hb2⟩;have hB2:Below wr.heap.size wr w2:=zad HGR.out hb2 (Nat.le_refl _);clear hb2;have hgr:Below w2.heap.size w2 (w2.alloc (.cells (bj 0 0 0 none none 0 0 0 0).toArray 232)):=(by repeat'(first|with_reducible(first|exact zR _ _|assumption|refine zN ?_ _|refine zA ?_ ?_ _|refine zD ?_|refine zS ?_ ?_ _)|go_size));have hst:=zjs hJM (zf0 w2 0 0 0 none none 0 0 0 0);have hlen:=zgy J PJ hJM.hlen.1 hJM.fives;have HJM:Hid (zhx lo w2 J PJ):=hJM;have HJR:Hid (zk1 ownk PJ p):=hJR;clear hJM hJR;generalize hcs:zcd J PJ=cs at *;have HCS:Hid (zcd J PJ=cs):=hcs;clear hcs))
     have hlaid:=HJM.out.laid (Nat.le_trans hlok hB2.size)
     rw[HCS.out] at hlaid
     obtain⟨hJI,hbl⟩:=hlaid
     generalize zv9 (w2.alloc (.cells (bj 0 0 0 none none 0 0 0 0).toArray 232)) w2.heap.size cs=W3 at *
     have hBW:Below wr.heap.size wr W3:=zad hB2 hbl (Nat.le_refl _)
     have hd2:=(hBW.cell (p:=⟨gw,o+2,none⟩) hgl).trans HC2.out
     have HAL2:=HAL.out W3 _ PJ hBW hJI HJR.out
     have HBW:Hid (Below wr.heap.size wr W3):=hBW
     clear hJI hbl hBW HJM HJR HCS hst hlen hgr HAL HPA hB2
     generalize w2.heap.size=jb at *
     cases b3 with
     |false =>
      have HE:Hid (R3=R'/\false=b):=by have q:=HQ2.out;simp only[Option.some.injEq,Prod.mk.injEq] at q;exact q
      go_wp2_with (first|(go_at_call 138;refine HAL2.mono ?_;rintro e w4 ⟨rfl,own',fvs',hro',hm4⟩))
      go_ret
      exact⟨by rw[← HE.out.2];rfl,own',fvs',by rw[← HE.out.1];exact hro',by rw[HPE.out];exact HMO.out.trans ((Mod.of ownk HBW.out).trans hm4)⟩
     |true =>
      have HE:Hid (zhd n wd mr W (W.views.length - (m+1)) (m+1) R3=some (R',b)):=HQ2.out
      clear HQ2
      go_wp2_with (first|(go_at_call 138;refine HAL2.mono ?_;rintro e w4 ⟨rfl,own',fvs',hro',hm4⟩))
      exact⟨⟨m+1,by omega,by go_num,R3,own',fvs',hro',HMO.out.trans ((Mod.of ownk HBW.out).trans hm4),HL3,HE⟩,by simp[intOf];omega⟩
   ·rw[if_neg hct] at hq2
    have HQ2:Hid (zhd n wd mr W (W.views.length - (m+1)) (m+1) Rk=some (R',b)):=hq2
    clear hq2 hcwk
    have hc0:¬ (0:Int) < (W.views[m].fresh.count:Nat):=by omega
    generalize W.views[m].fresh.count=ct at *
    generalize W.views[m].lit.pred=vp at *
    generalize W.views[m].lit.terms.length=vt at *
    generalize P.vps[m].bb=bbm at *
    generalize P.vps[m].fb=fbm at *
    generalize P.vps[m].ab=abm at *
    have hgrow:Below wr.heap.size wr (wr.alloc (.cells #[.int .i64 (vp:Nat),.slice aoq vt capq,.int .i64 (wd:Nat),.pointer (some ⟨bbm,0,none⟩),.pointer (some ⟨fbm,0,none⟩),.pointer (some ⟨abm,0,none⟩)] 223)):=(by repeat'(first|with_reducible(first|exact zR _ _|assumption|refine zN ?_ _|refine zA ?_ ?_ _|refine zD ?_|refine zS ?_ ?_ _)|go_size))
    have HGR:Hid (Below wr.heap.size wr (wr.alloc (.cells #[.int .i64 (vp:Nat),.slice aoq vt capq,.int .i64 (wd:Nat),.pointer (some ⟨bbm,0,none⟩),.pointer (some ⟨fbm,0,none⟩),.pointer (some ⟨abm,0,none⟩)] 223))):=hgrow
    clear hgrow
    go_wp2_with (first|(go_at_call 139;refine(HCT.out _ HGR.out).mono ?_;rintro e w2 ⟨rfl,hww⟩;obtain rfl:=hww.symm))
    exact⟨⟨m+1,by omega,by go_num,Rk,ownk,fvk,HRO.out.below HGR.out,HMO.out.trans (Mod.of ownk HGR.out),HRL,HQ2⟩,by simp[intOf];omega⟩
  ·obtain rfl:m=W.views.length:=by omega
   have hq2:=HAP.out
   rw[Nat.sub_self] at hq2
   simp only[zhd,Option.some.injEq,Prod.mk.injEq] at hq2
   have HE:Hid (Rk=R'/\true=b):=hq2
   clear hq2
   go_wp2
   go_ret
   exact⟨by rw[← HE.out.2];rfl,ownk,fvk,by rw[← HE.out.1];exact HRO.out,HMO.out⟩
theorem z6e(w:World)(own:Nat->zay)(rb gw o k:Nat)(c:Array Value)(R R':zbf)(W:zbl)(P:zbc)(wd mr mx:Nat)(Q:zcy)(n:Nat)(first b:Bool)(h:zdh lo w own rb R wd mr mx Q)(hw:zee lo w own k wd W P)(hbx:Box w gw c 216)(hcc:WCc c o W.rule P)(hna:zh3 Q.tbs R.rows.length W.rule P.nbs)(hlo:lo<=w.heap.size)(hr:zjd n wd mr first R W=some (R',b)) :
  Calls Tryz.prog 126 #[.pointer (some ⟨rb,0,none⟩),.pointer (some ⟨gw,o,none⟩),.bool first] w fun e w'=>zkv lo w own rb W.rule.head.pred R' b wd mr mx Q e w':=by
 cases first with
 |true=>exact zxb w own rb gw o k c R R' W P wd mr mx Q n b h hw hbx hcc hna hlo hr
 |false=>exact zz1 w own rb gw o k c R R' W P wd mr mx Q n b h hw hbx hcc hna hlo hr
end Go.Proofs.YteampbddflhngabGreat
