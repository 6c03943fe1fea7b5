import Derived.Test.YteampbddflhngaaGreatW14

namespace Go.Proofs.YteampbddflhngaaGreat
set_option maxRecDepth 100000
set_option maxHeartbeats 4000000
open Go.RowKit
variable {lo:Nat}
theorem zp6:∀(ys:List V4) (k:Nat) (_:k < ys.length) (u:Value),(zcj ys).set (k * 4+2) u=zcj (ys.modify k fun y=>(y.1,y.2.1,u,y.2.2.2))
 |[],k,hk,_=>by simp at hk
 |y::r,0,_,u=>by simp[zcj,znw]
 |y::r,k+1,hk,u=>by
  have:=zp6 r k (by simpa using hk) u
  simp only[zcj,ua5,znw,List.modify_succ_cons] at this ⊢
  rw[show(k+1) * 4+2=k * 4+2+1+1+1+1 from by omega]
  simpa using this
theorem zp7:∀(ys:List V4) (k:Nat) (_:k < ys.length) (u:Value),(zcj ys).set (k * 4+3) u=zcj (ys.modify k fun y=>(y.1,y.2.1,y.2.2.1,u))
 |[],k,hk,_=>by simp at hk
 |y::r,0,_,u=>by simp[zcj,znw]
 |y::r,k+1,hk,u=>by
  have:=zp7 r k (by simpa using hk) u
  simp only[zcj,ua5,znw,List.modify_succ_cons] at this ⊢
  rw[show(k+1) * 4+3=k * 4+3+1+1+1+1 from by omega]
  simpa using this
theorem JIn.setNode{w:World}{jb:Nat}{J:zav}{P:zbx}(h:JIn lo w jb J P)(s i n:Nat)(hs:s < J.qy.length)(hi:i=1∨i=2){sb cap:Nat}(hv:P.sv=.slice (some ⟨sb,0,none⟩) J.qy.length cap) :
  JIn lo (w.setCell ⟨sb,s * 4+1+i,none⟩ (.int .i64 (n:Nat))) jb { J with qy:=J.qy.set s { J.qy[s] with ql:=J.qy[s].ql.set i n } } P:=by
 have hst:=zas.set w sb (s * 4+1+i) (.int .i64 (n:Nat))
 have hso:=h.qy
 rw[hv] at hso
 have hk2:s < P.tbs.length:=by rw[h.slen];exact hs
 have hn3:=h.ql _ (uad hs)
 have nt:∀ {b1:Nat} {e:TypeId} {s1:Nat} {v:Value} {n1:Nat} {xs:List Value},w.ownsRow b1 e s1 v n1 xs->e≠323->∀ b,v.ownBlock=some b->b∉[sb]:=fun ho hT b hvb hm=>zjf ho hso hT hvb (by simp at hm;rw[hm];rfl)
 obtain⟨cur,hbs⟩:=zoo hso
 have nn:∀ {tb:Nat} {T:zad} {fp:List Nat},zat lo w tb T fp->zat lo (w.setCell ⟨sb,s * 4+1+i,none⟩ (.int .i64 (n:Nat))) tb T fp:=fun ht=>ht.save hst (fun b hb hm=>by simp at hm;subst hm;exact ht.notin (show Box w _ cur 323 from hbs) (by decide) (by decide) (by decide) hb)
 refine⟨h.low,h.box.save hst (by have:=zbr hso h.box (by decide) rfl;simpa using Ne.symm this),h.head.save hst (nt h.head.own (by decide)),?_,by simpa using h.slen,fun k a b=>?_,fun x hx=>?_,zbl h.bars hst (nt h.bars (by decide)),h.blen,fun k a b=>⟨(h.jh k a b).1.save hst (nt (h.jh k a b).1.own (by decide)),nn (h.jh k a b).2⟩,h.hlen,fun p a b=>⟨zbl (h.ja p a b).1 hst (nt (h.ja p a b).1 (by decide)),(h.ja p a b).2⟩,h.ji,by simpa using h.few⟩
 ·have hlen:(zcj (List.zipWith zm4 J.qy P.tbs)).length=J.qy.length * 4:=by rw[zk4];simp[h.slen]
  have q:=zb4 hso (s * 4+1+i) (by omega) (.int .i64 (n:Nat))
  rw[hv]
  have e:(zcj (List.zipWith zm4 J.qy P.tbs)).set (s * 4+1+i) (.int .i64 (n:Nat))=zcj (List.zipWith zm4 (J.qy.set s { J.qy[s] with ql:=J.qy[s].ql.set i n }) P.tbs):=by
   have hz:s < (List.zipWith zm4 J.qy P.tbs).length:=by simp;omega
   rcases hi with rfl|rfl
   ·rw[show s * 4+1+1=s * 4+2 from by omega,zp6 _ s hz]
    congr 1
    apply ubg
    ·simp
    ·intro j h1 h2
     simp only[List.getElem_modify,uc1,ucb]
     by_cases e:s=j
     ·subst e
      simp[zm4,List.getD_eq_getElem?_getD,hn3]
     ·simp[e]
   ·rw[show s * 4+1+2=s * 4+3 from by omega,zp7 _ s hz]
    congr 1
    apply ubg
    ·simp
    ·intro j h1 h2
     simp only[List.getElem_modify,uc1,ucb]
     by_cases e:s=j
     ·subst e
      simp[zm4,List.getD_eq_getElem?_getD,hn3]
     ·simp[e]
  rw[e] at q
  simpa using q
 ·simp only[ucq] at a
  simp only[ucb]
  split
  ·rename_i e
   subst e
   exact nn (h.tries s hs b)
  ·exact nn (h.tries k a b)
 ·rcases uco hx with q|q
  ·exact h.ql x q
  ·subst q;simp[hn3]
theorem ztm(w:World)(jb:Nat)(J:zav)(P:zbx)(s l v:Nat)(h:JIn lo w jb J P)(hlb:l<=1000000) :
  Calls Tryz.prog 230 #[.pointer (some ⟨jb,0,none⟩),.agg #[.int .i64 s,.int .i64 l],.int .i64 v] w fun e w'=>e=.returned (.tuple #[])/\JIn lo w' jb (zek v J (s,l)) P/\zas P.sv.ownBlock.toList w w':=by
 have HST:Hid (∀ W,Below w.heap.size w W->Calls Tryz.prog 231 #[.pointer (some ⟨jb,0,none⟩),.agg #[.int .i64 s,.int .i64 l]] W fun e w'=>e=.returned (.bool (zcr J (s,l)))/\Below W.heap.size W w'):=fun W hW=>zq3 W jb J P s l (h.below hW)
 have HJ:Hid (JIn lo w jb J P):=h
 cases hst:zcr J (s,l) with
 |false =>
  have HE:Hid (zek v J (s,l)=J):=by simp[Hid,zek,hst]
  rw[hst] at HST
  clear hst h
  go_enter Tryz.func230,Tryz.ntmps230
  go_wp2_with (first|(go_at_call 231;refine(HST.out _ (by exact(by go_grown))).mono ?_;rintro e w1 ⟨rfl,hb1⟩;have hB1:Below w.heap.size w w1:=zae (by go_grown) hb1 (uaa _)))
  (try simp only[Exit.inBlock,Exit.then]);refine bodyPost_ret (results_none rfl _ _ _) rfl ?_
  exact⟨rfl,by rw[HE.out];exact HJ.out.below hB1,zas.of hB1⟩
 |true =>
  have hsl:s < J.qy.length/\l < 3:=by simpa [zcr] using hst
  obtain⟨hs,hl⟩:=hsl
  by_cases hl2:l+1 ≥ 3
  ·have HE:Hid (zek v J (s,l)=J):=by simp[Hid,zek,hl2]
   rw[hst] at HST
   clear hst h
   go_enter Tryz.func230,Tryz.ntmps230
   go_wp2_with (first|(go_at_call 231;refine(HST.out _ (by exact(by go_grown))).mono ?_;rintro e w1 ⟨rfl,hb1⟩;have hB1:Below w.heap.size w w1:=zae (by go_grown) hb1 (uaa _);have hbx:=(Box.new w #[.int .i64 s,.int .i64 l] 327).below hb1;obtain⟨hhc,hhf⟩:=hbx.rules;have hhl:=hbx.lt))
   (try simp only[Exit.inBlock,Exit.then]);refine bodyPost_ret (results_none rfl _ _ _) rfl ?_
   exact⟨rfl,by rw[HE.out];exact HJ.out.below hB1,zas.of hB1⟩
  ·have HE:Hid (zek v J (s,l)={ J with qy:=J.qy.set s { J.qy[s] with ql:=J.qy[s].ql.set (l+1) ((zax J.qy[s].rows (J.qy[s].ql.getD l 0) v).getD 0) } }):=by simp[Hid,zek,hst,hl2,List.getD_eq_getElem?_getD,hs]
   rw[hst] at HST
   have hsI:(s:Int) < (J.qy.length:Int):=by omega
   have hlI:(l:Int) < 3:=by omega
   have hlI2:(l:Int)+1 < 3:=by omega
   obtain⟨hjl0,_⟩:=h.at
   clear hst h
   go_enter Tryz.func230,Tryz.ntmps230
   go_wp2_with (first|(go_at_call 231;refine(HST.out _ (by exact(by go_grown))).mono ?_;rintro e w1 ⟨rfl,hb1⟩;have hB1:Below w.heap.size w w1:=zae (by go_grown) hb1 (uaa _);have hbx:=(Box.new w #[.int .i64 s,.int .i64 l] 327).below hb1;obtain⟨hhc,hhf⟩:=hbx.rules;have hhl:=hbx.lt))
   have HJ1:Hid (JIn lo w1 jb J P):=HJ.out.below hB1
   have hj1:=HJ1.out
   obtain⟨hjl2,hjf2,_,_,_,hd3,_⟩:=hj1.at
   obtain⟨sb,cap,tb,fp,hsv,hsb,hne,hp0,hp1,htr,hsf⟩:=hj1.side s l hs hl
   rw[hsv] at hd3
   have HLP:Hid (∀ n,Calls Tryz.prog 130 #[.pointer (some ⟨tb,0,none⟩),.int .i64 ((J.qy[s].ql.getD l 0:Nat):Int),.int .i64 v] (w1.drewN n) fun e w'=>e=.returned (.tuple #[.int .i64 (((zax J.qy[s].rows (J.qy[s].ql.getD l 0) v).getD 0:Nat):Int),.bool (zax J.qy[s].rows (J.qy[s].ql.getD l 0) v).isSome])/\w'=w1.drewN n):=fun n=>zh2 _ tb _ fp _ v (htr.below (zau (Below.refl _ _) n))
   have HNX:Hid (∀ W n,Below w1.heap.size w1 W->JIn lo (W.setCell ⟨sb,s * 4+1+(l+1),none⟩ (.int .i64 ((n:Nat):Int))) jb { J with qy:=J.qy.set s { J.qy[s] with ql:=J.qy[s].ql.set (l+1) n } } P):=fun W n hW=>(HJ1.out.below hW).setNode s (l+1) n hs (by omega) hsv
   have HSB:Hid (P.sv.ownBlock.toList=[sb]):=by rw[Hid,hsv];rfl
   have hcell:∃ u,w1.cell? ⟨sb,s * 4+1+(l+1),none⟩=some u:=by
    obtain⟨sb',cap',tb',fp',hsv',_,_,_,q,_⟩:=HJ1.out.side s (l+1) hs (by omega)
    rw[hsv] at hsv'
    simp only[Value.slice.injEq,uab,Addr.mk.injEq] at hsv'
    obtain⟨⟨rfl,_⟩,_⟩:=hsv'
    exact⟨_,q⟩
   obtain⟨u,hcu⟩:=hcell
   clear htr hj1
   generalize (zax J.qy[s].rows (J.qy[s].ql.getD l 0) v).getD 0=dn at *
   generalize (zax J.qy[s].rows (J.qy[s].ql.getD l 0) v).isSome=ds at *
   generalize J.qy[s].ql.getD l 0=nd at *
   go_quiet ((go_at_call 130;exact Calls.quiet_of_same (HLP.out _)))
   have hB2:Below w1.heap.size w1 (w1.drewN nq):=zau (Below.refl _ _) _
   clear hhc hhf hhl hjl2 hjf2 hsf HLP
   have hd3':=(hB2.cell (p:=⟨jb,3,none⟩) (HJ1.out.box.lt)).trans hd3
   have hcu':=(hB2.cell (p:=⟨sb,s * 4+1+(l+1),none⟩) hsb).trans hcu
   have hbx2:=hbx.below hB2
   have HN2:=HNX.out _ dn hB2
   have hsf2:∀ o,(w1.drewN nq).frozen? ⟨sb,o,none⟩=false:=by
    obtain⟨sb',cap',tb',fp',hsv',_,_,_,_,_,q⟩:=(HJ1.out.below hB2).side s l hs hl
    rw[hsv] at hsv'
    simp only[Value.slice.injEq,uab,Addr.mk.injEq] at hsv'
    obtain⟨⟨rfl,_⟩,_⟩:=hsv'
    exact q
   have hS2:zas [sb] w (w1.drewN nq):=zas.of (zae hB1 hB2 (uaa _))
   have hsb2:sb < (w1.drewN nq).heap.size:=ual hsb hB2.size
   have hjl2:jb < (w1.drewN nq).heap.size:=ual HJ1.out.box.lt hB2.size
   have hnh:sb≠w.heap.size:=fun e=>by
    have hso:=HJ1.out.qy
    rw[hsv] at hso
    exact zbr hso hbx (by decide) rfl e
   generalize w1.drewN nq=w2 at *
   have HN3:Hid (JIn lo (w2.setCell ⟨sb,s * 4+1+(l+1),none⟩ (.int .i64 ((dn:Nat):Int))) jb { J with qy:=J.qy.set s { J.qy[s] with ql:=J.qy[s].ql.set (l+1) dn } } P):=HN2
   clear HN2 HNX hd3 hcu hp0 hp1 hbx HJ HST
   obtain⟨hhc,hhf⟩:=hbx2.rules
   have hhl:=hbx2.lt
   go_wp2
   go_region
   all_goals
    go_wp2
    go_end0
    exact⟨rfl,by rw[HE.out];exact HN3.out.below (Below.refl _ _).drew,by rw[HSB.out];exact(hS2.trans (zas.set _ _ _ _)).newer (zas.of (M:=[]) (Below.refl _ _).drew) (by simp)⟩
end Go.Proofs.YteampbddflhngaaGreat
namespace Go.Proofs.YteampbddflhngaaGreat
set_option maxRecDepth 100000
set_option maxHeartbeats 4000000
open Go.RowKit
variable {lo:Nat}
variable {w:World}{jb:Nat}{J:zav}{P:zbx}
theorem JIn.hold2(h:JIn lo w jb J P)(p:Nat)(hp:p < 5):∃ ao cap,P.hvs[p]?=some (.slice ao (J.ja.getD p []).length cap)/\w.cell? ⟨jb,5+p,none⟩=some (.slice ao (J.ja.getD p []).length cap)/\(J.ja.getD p []).length<=1000/\(∀ k (hk:k < (J.ja.getD p []).length),∃ hb,ao=some ⟨hb,0,none⟩/\hb < w.heap.size/\w.cell? ⟨hb,k * 2,none⟩=some (.int .i64 ((J.ja.getD p [])[k].1:Nat))/\w.cell? ⟨hb,k * 2+1,none⟩=some (.int .i64 ((J.ja.getD p [])[k].2:Nat))/\(J.ja.getD p [])[k].2<=1000000):=by
 have h1:p < J.ja.length:=by rw[h.hlen.2];exact hp
 have h2:p < P.hvs.length:=by rw[h.hlen.1];exact hp
 have e:J.ja.getD p []=J.ja[p]:=by simp[List.getD_eq_getElem?_getD,h1]
 rw[e]
 obtain⟨ho,hl,hsm⟩:=h.ja p h1 h2
 obtain⟨ao,cap,hv⟩:=zac ho
 obtain⟨hc,_⟩:=h.box.rules
 refine⟨ao,cap,by rw[uac h2,hv],?_,hl,fun k hk=>?_⟩
 ·rw[← hv,hc]
  obtain⟨a1,a2,a3,a4,a5,e1⟩:=five h.hlen.1
  simp only[e1] at h2 ⊢
  obtain rfl|rfl|rfl|rfl|rfl:p=0∨p=1∨p=2∨p=3∨p=4:=by omega
  all_goals simp[zca,e1]
 ·obtain⟨hb,cap',hv2,_,hbl,hcl⟩:=zal ho (by omega)
  have hv3:=hv.symm.trans hv2
  simp only[Value.slice.injEq] at hv3
  obtain⟨c0,c1⟩:=ziy J.ja[p] k hk
  exact⟨hb,hv3.1,hbl,hcl _ _ c0,hcl _ _ c1,(hsm _ (uad hk)).2⟩
def zmz(J:zav)(p v:Nat):zav:={ J with qx:=J.qx.set p v,«from»:=(if p+1 < 5 then(J.from.set p (v+1)).set (p+1) 0 else J.from.set p (v+1)) }
theorem z7d(J:zav)(p v:Nat)(hp:p < 5):zf0 J p v=(J.ja.getD p []).foldl (zek v) (zmz J p v):=by unfold zf0;rw[if_neg (by omega)];rfl
theorem JIn.setVal(h:JIn lo w jb J P)(p v:Nat)(hp:p+1 < 5):JIn lo (((w.setCell ⟨jb,16+p,none⟩ (.int .i64 (v:Nat))).setCell ⟨jb,21+p,none⟩ (.int .i64 ((v:Int)+1))).setCell ⟨jb,21+(p+1),none⟩ (.int .i64 0)) jb (zmz J p v) P:=by
 obtain⟨f1,f2,f3⟩:=h.ji
 refine h.rebox (((zas.set _ _ _ _).trans (zas.set _ _ _ _)).trans (zas.set _ _ _ _)) ?_ rfl rfl rfl rfl rfl (by simp[zmz,hp,f1,f2,f3])
 obtain⟨a1,a2,a3,a4,a5,e1⟩:=five h.hlen.1
 obtain⟨b1,b2,b3,b4,b5,e2⟩:=five f1
 obtain⟨c1,c2,c3,c4,c5,e3⟩:=five f2
 obtain⟨d1,d2,d3,d4,d5,e4⟩:=five f3
 have hq:=((h.box.set (16+p) (.int .i64 (v:Nat))).set (21+p) (.int .i64 ((v:Int)+1))).set (21+(p+1)) (.int .i64 0)
 obtain rfl|rfl|rfl|rfl:p=0∨p=1∨p=2∨p=3:=by omega
 all_goals simpa [zca,zmz,e1,e2,e3,e4,ivN] using hq
theorem JIn.setVal4(h:JIn lo w jb J P)(p v:Nat)(hp:p < 5)(h4:¬ p+1 < 5):JIn lo ((w.setCell ⟨jb,16+p,none⟩ (.int .i64 (v:Nat))).setCell ⟨jb,21+p,none⟩ (.int .i64 ((v:Int)+1))) jb (zmz J p v) P:=by
 obtain rfl:p=4:=by omega
 obtain⟨f1,f2,f3⟩:=h.ji
 refine h.rebox ((zas.set _ _ _ _).trans (zas.set _ _ _ _)) ?_ rfl rfl rfl rfl rfl (by simp[zmz,f1,f2,f3])
 obtain⟨a1,a2,a3,a4,a5,e1⟩:=five h.hlen.1
 obtain⟨b1,b2,b3,b4,b5,e2⟩:=five f1
 obtain⟨c1,c2,c3,c4,c5,e3⟩:=five f2
 obtain⟨d1,d2,d3,d4,d5,e4⟩:=five f3
 have hq:=(h.box.set (16+4) (.int .i64 (v:Nat))).set (21+4) (.int .i64 ((v:Int)+1))
 simpa [zca,zmz,e1,e2,e3,e4,ivN] using hq
theorem zvu(v:Nat)(J:zav)(h:Nat × Nat):(zek v J h).ja=J.ja:=by unfold zek;split <;> rfl
theorem zl3(v:Nat):∀(hs:List (Nat × Nat)) (J:zav),(hs.foldl (zek v) J).ja=J.ja
 |[],J=>rfl
 |h::r,J=>by rw[uax,zl3 v r,zvu]
theorem JIn.vals(h:JIn lo w jb J P)(p:Nat)(hp:p < 5):w.cell? ⟨jb,16+p,none⟩=some (.int .i64 (J.qx.getD p 0:Nat))/\w.cell? ⟨jb,21+p,none⟩=some (.int .i64 (J.from.getD p 0:Nat))/\w.cell? ⟨jb,10+p,none⟩=some (.int .i64 (J.jg.getD p 0)):=by
 obtain⟨hc,_⟩:=h.box.rules
 obtain⟨f1,f2,f3⟩:=h.ji
 obtain⟨a1,a2,a3,a4,a5,e1⟩:=five h.hlen.1
 obtain⟨b1,b2,b3,b4,b5,e2⟩:=five f1
 obtain⟨c1,c2,c3,c4,c5,e3⟩:=five f2
 obtain⟨d1,d2,d3,d4,d5,e4⟩:=five f3
 rw[hc,hc,hc]
 obtain rfl|rfl|rfl|rfl|rfl:p=0∨p=1∨p=2∨p=3∨p=4:=by omega
 all_goals simp[zca,e1,e2,e3,e4,ivN]
theorem z2k(w:World)(jb:Nat)(J:zav)(P:zbx)(p v:Nat)(h:JIn lo w jb J P)(hv:v<=1000000) :
  Calls Tryz.prog 228 #[.pointer (some ⟨jb,0,none⟩),.int .i64 p,.int .i64 v] w fun e w'=>e=.returned (.tuple #[])/\JIn lo w' jb (zf0 J p v) P/\zas (jb::P.sv.ownBlock.toList) w w':=by
 have HJ:Hid (JIn lo w jb J P):=h
 by_cases h5:p < 5
 ·have HE:Hid (zf0 J p v=(J.ja.getD p []).foldl (zek v) (zmz J p v)):=z7d J p v h5
  obtain⟨hjl,hjf,_⟩:=h.at
  obtain⟨hc1,hc2,_⟩:=h.vals p h5
  by_cases h4:p+1 < 5
  ·obtain⟨_,hc3,_⟩:=h.vals (p+1) h4
   have hp5:(p:Int) < 5:=by omega
   have hp6:(p:Int)+1 < 5:=by omega
   have hJ1:=h.setVal p v h4
   have hS1:zas [jb] w (((w.setCell ⟨jb,16+p,none⟩ (.int .i64 (v:Nat))).setCell ⟨jb,21+p,none⟩ (.int .i64 ((v:Int)+1))).setCell ⟨jb,21+(p+1),none⟩ (.int .i64 0)):=((zas.set _ _ _ _).trans (zas.set _ _ _ _)).trans (zas.set _ _ _ _)
   clear h
   go_enter Tryz.func228,Tryz.ntmps228
   go_upto_region 5 with fail
   clear hc1 hc2 hc3
   generalize (((w.setCell ⟨jb,16+p,none⟩ (.int .i64 (v:Nat))).setCell ⟨jb,21+p,none⟩ (.int .i64 ((v:Int)+1))).setCell ⟨jb,21+(p+1),none⟩ (.int .i64 0))=w1 at *
   have HJ1:Hid (JIn lo w1 jb (zmz J p v) P):=hJ1
   clear hJ1 hjl hjf
   obtain⟨ao,cap,hvv,hcH,hlen,_⟩:=HJ1.out.hold2 p (by omega)
   obtain⟨hjl1,hjf1,_⟩:=HJ1.out.at
   rw[show(zmz J p v).ja=J.ja from rfl] at hvv hcH hlen
   obtain⟨hs,hhs⟩:∃ hs,hs=J.ja.getD p []:=⟨_,rfl⟩
   rw[← hhs] at hvv hcH hlen HE
   have HHS:Hid (hs=J.ja.getD p []):=hhs
   have HVV:Hid (P.hvs[p]?=some (.slice ao hs.length cap)):=hvv
   clear hhs hvv
   go_wp2
   clear hcH hjl1 hjf1
   generalize decide ((p:Int) < 0)=bb1
   generalize decide ((5:Int)<=(p:Int))=bb2
   go_loopw [43] (fun v43 wr=>∃ k:Nat,k<=hs.length/\v43=.int .i64 k/\Hid (JIn lo wr jb ((hs.take k).foldl (zek v) (zmz J p v)) P)/\zas (jb::P.sv.ownBlock.toList) w wr) (fun i _=>hs.length - (intOf i).toNat)
   case atStart=>exact⟨0,uaj _,rfl,HJ1,hS1.more (by simp)⟩
   case round =>
    obtain⟨k,hk,rfl,HJK,hsv⟩:=hrel
    by_cases hlt:k < hs.length
    ·obtain⟨ao3,cap3,q1,_,_,q2⟩:=HJK.out.hold2 p (by omega)
     rw[zl3,show(zmz J p v).ja=J.ja from rfl,← HHS.out] at q1 q2
     rw[HVV.out] at q1
     simp only[uab,Value.slice.injEq] at q1
     obtain⟨rfl,_,rfl⟩:=q1
     obtain⟨hb,rfl,hhb,hx0,hx1,hx2⟩:=q2 k hlt
     have HS:Hid ((hs.take (k+1)).foldl (zek v) (zmz J p v)=zek v ((hs.take k).foldl (zek v) (zmz J p v)) hs[k]):=zdm hs (zek v) (zmz J p v) k hlt
     have HD:Hid (∀ W,Below wr.heap.size wr W->Calls Tryz.prog 230 #[.pointer (some ⟨jb,0,none⟩),.agg #[.int .i64 (hs[k].1:Nat),.int .i64 (hs[k].2:Nat)],.int .i64 v] W fun e w'=>e=.returned (.tuple #[])/\JIn lo w' jb (zek v ((hs.take k).foldl (zek v) (zmz J p v)) hs[k]) P/\zas P.sv.ownBlock.toList W w'):=fun W hW=>ztm W jb _ P hs[k].1 hs[k].2 v (HJK.out.below hW) hx2
     clear q2
     generalize (hs.take k).foldl (zek v) (zmz J p v)=Jk at *
     generalize hs[k]=hd at *
     go_wp2_with (first|(go_at_call 230;refine(HD.out _ (by exact(by go_grown))).mono ?_;rintro e w2 ⟨rfl,hj2,hs2⟩;have HJ2:Hid (JIn lo w2 jb (zek v Jk hd) P):=hj2;clear hj2;have hS3:zas P.sv.ownBlock.toList wr w2:=(zas.of (M:=P.sv.ownBlock.toList) (show Below wr.heap.size wr _ from(by go_grown))).trans hs2))
     go_roundw
     case rel=>exact⟨k+1,by omega,by go_num,by rw[HS.out];exact HJ2.out,hsv.trans (hS3.more (fun x hx=>uct _ hx))⟩
     case measure=>simp[intOf];omega
    ·obtain rfl:k=hs.length:=by omega
     rw[ubw] at HJK
     go_wp2
     go_end0
     exact⟨rfl,by rw[HE.out];exact HJK.out,hsv⟩
  ·have hp5:(p:Int) < 5:=by omega
   have hp6:¬ (p:Int)+1 < 5:=by omega
   have hJ1:=h.setVal4 p v h5 h4
   have hS1:zas [jb] w ((w.setCell ⟨jb,16+p,none⟩ (.int .i64 (v:Nat))).setCell ⟨jb,21+p,none⟩ (.int .i64 ((v:Int)+1))):=(zas.set _ _ _ _).trans (zas.set _ _ _ _)
   clear h
   go_enter Tryz.func228,Tryz.ntmps228
   go_upto_region 5 with fail
   clear hc1 hc2
   generalize ((w.setCell ⟨jb,16+p,none⟩ (.int .i64 (v:Nat))).setCell ⟨jb,21+p,none⟩ (.int .i64 ((v:Int)+1)))=w1 at *
   have HJ1:Hid (JIn lo w1 jb (zmz J p v) P):=hJ1
   clear hJ1 hjl hjf
   obtain⟨ao,cap,hvv,hcH,hlen,_⟩:=HJ1.out.hold2 p (by omega)
   obtain⟨hjl1,hjf1,_⟩:=HJ1.out.at
   rw[show(zmz J p v).ja=J.ja from rfl] at hvv hcH hlen
   obtain⟨hs,hhs⟩:∃ hs,hs=J.ja.getD p []:=⟨_,rfl⟩
   rw[← hhs] at hvv hcH hlen HE
   have HHS:Hid (hs=J.ja.getD p []):=hhs
   have HVV:Hid (P.hvs[p]?=some (.slice ao hs.length cap)):=hvv
   clear hhs hvv
   go_wp2
   clear hcH hjl1 hjf1
   generalize decide ((p:Int) < 0)=bb1
   generalize decide ((5:Int)<=(p:Int))=bb2
   go_loopw [43] (fun v43 wr=>∃ k:Nat,k<=hs.length/\v43=.int .i64 k/\Hid (JIn lo wr jb ((hs.take k).foldl (zek v) (zmz J p v)) P)/\zas (jb::P.sv.ownBlock.toList) w wr) (fun i _=>hs.length - (intOf i).toNat)
   case atStart=>exact⟨0,uaj _,rfl,HJ1,hS1.more (by simp)⟩
   case round =>
    obtain⟨k,hk,rfl,HJK,hsv⟩:=hrel
    by_cases hlt:k < hs.length
    ·obtain⟨ao3,cap3,q1,_,_,q2⟩:=HJK.out.hold2 p (by omega)
     rw[zl3,show(zmz J p v).ja=J.ja from rfl,← HHS.out] at q1 q2
     rw[HVV.out] at q1
     simp only[uab,Value.slice.injEq] at q1
     obtain⟨rfl,_,rfl⟩:=q1
     obtain⟨hb,rfl,hhb,hx0,hx1,hx2⟩:=q2 k hlt
     have HS:Hid ((hs.take (k+1)).foldl (zek v) (zmz J p v)=zek v ((hs.take k).foldl (zek v) (zmz J p v)) hs[k]):=zdm hs (zek v) (zmz J p v) k hlt
     have HD:Hid (∀ W,Below wr.heap.size wr W->Calls Tryz.prog 230 #[.pointer (some ⟨jb,0,none⟩),.agg #[.int .i64 (hs[k].1:Nat),.int .i64 (hs[k].2:Nat)],.int .i64 v] W fun e w'=>e=.returned (.tuple #[])/\JIn lo w' jb (zek v ((hs.take k).foldl (zek v) (zmz J p v)) hs[k]) P/\zas P.sv.ownBlock.toList W w'):=fun W hW=>ztm W jb _ P hs[k].1 hs[k].2 v (HJK.out.below hW) hx2
     clear q2
     generalize (hs.take k).foldl (zek v) (zmz J p v)=Jk at *
     generalize hs[k]=hd at *
     go_wp2_with (first|(go_at_call 230;refine(HD.out _ (by exact(by go_grown))).mono ?_;rintro e w2 ⟨rfl,hj2,hs2⟩;have HJ2:Hid (JIn lo w2 jb (zek v Jk hd) P):=hj2;clear hj2;have hS3:zas P.sv.ownBlock.toList wr w2:=(zas.of (M:=P.sv.ownBlock.toList) (show Below wr.heap.size wr _ from(by go_grown))).trans hs2))
     go_roundw
     case rel=>exact⟨k+1,by omega,by go_num,by rw[HS.out];exact HJ2.out,hsv.trans (hS3.more (fun x hx=>uct _ hx))⟩
     case measure=>simp[intOf];omega
    ·obtain rfl:k=hs.length:=by omega
     rw[ubw] at HJK
     go_wp2
     go_end0
     exact⟨rfl,by rw[HE.out];exact HJK.out,hsv⟩
 ·have HE:Hid (zf0 J p v=J):=by unfold zf0;rw[Hid,if_pos (by omega)]
  clear h
  go_enter Tryz.func228,Tryz.ntmps228
  go_wp2
  (try simp only[Exit.inBlock,Exit.then]);refine bodyPost_ret (results_none rfl _ _ _) rfl ?_
  exact⟨rfl,by rw[HE.out];exact HJ.out,zas.refl _ _⟩
end Go.Proofs.YteampbddflhngaaGreat
namespace Go.Proofs.YteampbddflhngaaGreat
set_option maxRecDepth 100000
set_option maxHeartbeats 4000000
open Go.RowKit
variable {lo:Nat}
theorem JIn.bar{w:World}{jb:Nat}{J:zav}{P:zbx}(h:JIn lo w jb J P)(k:Nat)(hk:k < J.bars.length) :
  ∃ gb cap ao2 cap2 tb fp,P.bv=.slice (some ⟨gb,0,none⟩) J.bars.length cap/\gb < w.heap.size/\w.cell? ⟨gb,k * 4,none⟩=some (.int .i64 (J.bars[k].lit.pred:Nat))/\w.cell? ⟨gb,k * 4+1,none⟩=some (.slice ao2 J.bars[k].lit.qf.length cap2)/\w.cell? ⟨gb,k * 4+2,none⟩=some (.int .i64 (J.bars[k].jd:Nat))/\w.cell? ⟨gb,k * 4+3,none⟩=some (.pointer (some ⟨tb,0,none⟩))/\zaq lo w (.slice ao2 J.bars[k].lit.qf.length cap2) J.bars[k].lit.qf/\zat lo w tb J.bars[k].rows fp:=by
 obtain⟨gb,cap,hv,_,hgb,hc⟩:=zal h.bars (by omega)
 have hk2:k < P.bps.length:=by rw[h.blen];exact hk
 obtain⟨c0,c1,c2,c3⟩:=zk3 (List.zipWith zyx J.bars P.bps) k (by simp;omega)
 simp only[uc1,zyx] at c0 c1 c2 c3
 obtain⟨t1,t2⟩:=h.jh k hk hk2
 obtain⟨ao2,cap2,e⟩:=t1.shape
 rw[e] at c1 t1
 exact⟨gb,cap,ao2,cap2,_,_,hv,hgb,hc _ _ c0,hc _ _ c1,hc _ _ c2,hc _ _ c3,t1,t2⟩
theorem z8w(l:zak)(vals:List Nat):zct l vals=[rowCell l vals 0,rowCell l vals 1,rowCell l vals 2]:=rfl
theorem zpv(w:World)(jb:Nat)(J:zav)(P:zbx)(kn:Nat)(h:JIn lo w jb J P) :
  Calls Tryz.prog 223 #[.pointer (some ⟨jb,0,none⟩),.int .i64 kn] w fun e w'=>e=.returned (.bool (zb3 J kn))/\Below w.heap.size w w':=by
 have HJ:Hid (JIn lo w jb J P):=h
 obtain⟨hjl,hjf,_,_,_,_,hc4,_⟩:=h.at
 obtain⟨aob,capb,hbv⟩:=zac h.bars
 rw[hbv] at hc4
 obtain⟨a,b,c,d,e,hvals⟩:=five h.ji.2.1
 have hfew:=h.few.2.1
 have HV:Hid (∀ W,JIn lo W jb J P->W.cell? ⟨jb,16,none⟩=some (.int .i64 (a:Nat))/\W.cell? ⟨jb,17,none⟩=some (.int .i64 (b:Nat))/\W.cell? ⟨jb,18,none⟩=some (.int .i64 (c:Nat))/\W.cell? ⟨jb,19,none⟩=some (.int .i64 (d:Nat))/\W.cell? ⟨jb,20,none⟩=some (.int .i64 (e:Nat))):=fun W hW=>by
  have q0:=(hW.vals 0 (by omega)).1
  have q1:=(hW.vals 1 (by omega)).1
  have q2:=(hW.vals 2 (by omega)).1
  have q3:=(hW.vals 3 (by omega)).1
  have q4:=(hW.vals 4 (by omega)).1
  rw[hvals] at q0 q1 q2 q3 q4
  exact⟨q0,q1,q2,q3,q4⟩
 have HE:Hid (zb3 J kn=J.bars.any (fun x=>x.jd == kn && (zdt x.rows [rowCell x.lit [a,b,c,d,e] 0,rowCell x.lit [a,b,c,d,e] 1,rowCell x.lit [a,b,c,d,e] 2]).isSome)):=by
  rw[Hid];unfold zb3;rw[hvals];rfl
 clear h
 go_enter Tryz.func223,Tryz.ntmps223
 go_wp2
 clear hc4 hjl hjf
 go_loopw [15] (fun v15 wr=>∃ k:Nat,k<=J.bars.length/\v15=.int .i64 k/\Hid ((J.bars.take k).any (fun x=>x.jd == kn && (zdt x.rows [rowCell x.lit [a,b,c,d,e] 0,rowCell x.lit [a,b,c,d,e] 1,rowCell x.lit [a,b,c,d,e] 2]).isSome)=false)/\Below w.heap.size w wr) (fun i _=>J.bars.length - (intOf i).toNat)
 case atStart=>exact⟨0,uaj _,rfl,rfl,Below.refl _ _⟩
 case round =>
  obtain⟨k,hk,rfl,HA,hbk⟩:=hrel
  have hszk:=hbk.size
  by_cases hlt:k < J.bars.length
  ·have hjk:=HJ.out.below hbk
   obtain⟨hjl,hjf,_⟩:=hjk.at
   obtain⟨hv0,hv1,hv2,hv3,hv4⟩:=HV.out wr hjk
   obtain⟨gb,cap,ao2,cap2,tb,fp,hbv2,hgb,hx0,hx1,hx2,hx3,hT,hTr⟩:=hjk.bar k hlt
   rw[hbv] at hbv2
   simp only[Value.slice.injEq] at hbv2
   obtain⟨rfl,_,rfl⟩:=hbv2
   have HS:Hid ((J.bars.take (k+1)).any (fun x=>x.jd == kn && (zdt x.rows [rowCell x.lit [a,b,c,d,e] 0,rowCell x.lit [a,b,c,d,e] 1,rowCell x.lit [a,b,c,d,e] 2]).isSome)=((J.bars.take k).any (fun x=>x.jd == kn && (zdt x.rows [rowCell x.lit [a,b,c,d,e] 0,rowCell x.lit [a,b,c,d,e] 1,rowCell x.lit [a,b,c,d,e] 2]).isSome) || (J.bars[k].jd == kn && (zdt J.bars[k].rows [rowCell J.bars[k].lit [a,b,c,d,e] 0,rowCell J.bars[k].lit [a,b,c,d,e] 1,rowCell J.bars[k].lit [a,b,c,d,e] 2]).isSome))):=any_take_succ J.bars _ k hlt
   have HTT:Hid ((J.bars[k].jd == kn && (zdt J.bars[k].rows [rowCell J.bars[k].lit [a,b,c,d,e] 0,rowCell J.bars[k].lit [a,b,c,d,e] 1,rowCell J.bars[k].lit [a,b,c,d,e] 2]).isSome)=true->zb3 J kn=true):=fun q=>by rw[HE.out];exact zsp J.bars _ k hlt q
   have HRW:Hid (∀ W,Below wr.heap.size wr W->Calls Tryz.prog 161 #[.agg #[.int .i64 (J.bars[k].lit.pred:Nat),.slice ao2 J.bars[k].lit.qf.length cap2],.agg #[.int .i64 (a:Nat),.int .i64 (b:Nat),.int .i64 (c:Nat),.int .i64 (d:Nat),.int .i64 (e:Nat)]] W fun r w'=>r=.returned (.agg #[.int .i64 ((rowCell J.bars[k].lit [a,b,c,d,e] 0:Nat):Int),.int .i64 ((rowCell J.bars[k].lit [a,b,c,d,e] 1:Nat):Int),.int .i64 ((rowCell J.bars[k].lit [a,b,c,d,e] 2:Nat):Int)])/\Below W.heap.size W w'):=fun W hW=>zwp W _ J.bars[k].lit.pred J.bars[k].lit.qf a b c d e (hT.below hW)
   have HMK:Hid (∀ W x y z,Below wr.heap.size wr W->Calls Tryz.prog 83 #[.pointer (some ⟨tb,0,none⟩),.agg #[.int .i64 ((x:Nat):Int),.int .i64 ((y:Nat):Int),.int .i64 ((z:Nat):Int)]] W fun r w'=>r=.returned (.tuple #[.int .i64 (((zdt J.bars[k].rows [x,y,z]).getD 0:Nat):Int),.bool (zdt J.bars[k].rows [x,y,z]).isSome])/\Below W.heap.size W w'):=fun W x y z hW=>zuy W tb _ fp x y z (hTr.below hW)
   clear hT hTr hjk
   generalize J.bars[k]=br at *
   generalize rowCell br.lit [a,b,c,d,e] 0=r0 at *
   generalize rowCell br.lit [a,b,c,d,e] 1=r1 at *
   generalize rowCell br.lit [a,b,c,d,e] 2=r2 at *
   by_cases hkn:br.jd=kn
   ·subst hkn
    have HM2:Hid (∀ W,Below wr.heap.size wr W->Calls Tryz.prog 83 #[.pointer (some ⟨tb,0,none⟩),.agg #[.int .i64 (r0:Nat),.int .i64 (r1:Nat),.int .i64 (r2:Nat)]] W fun r w'=>r=.returned (.tuple #[.int .i64 (((zdt br.rows [r0,r1,r2]).getD 0:Nat):Int),.bool (zdt br.rows [r0,r1,r2]).isSome])/\Below W.heap.size W w'):=fun W hW=>HMK.out W r0 r1 r2 hW
    clear HMK
    generalize (zdt br.rows [r0,r1,r2]).getD 0=mg at *
    generalize (zdt br.rows [r0,r1,r2]).isSome=ms at *
    have hkI:((br.jd:Int) == (br.jd:Int))=true:=beq_self_eq_true _
    have hbxN:=Box.new wr #[.int .i64 (br.lit.pred:Nat),.slice ao2 br.lit.qf.length cap2,.int .i64 (br.jd:Nat),.pointer (some ⟨tb,0,none⟩)] 325
    have hBA:Below wr.heap.size wr (wr.alloc (.cells #[.int .i64 (br.lit.pred:Nat),.slice ao2 br.lit.qf.length cap2,.int .i64 (br.jd:Nat),.pointer (some ⟨tb,0,none⟩)] 325)):=(Below.refl _ _).alloc (uaa _) _
    have hJA:=HJ.out.below (zae hbk hBA (uaa _))
    obtain⟨hjlA,hjfA,_⟩:=hJA.at
    obtain⟨hA0,hA1,hA2,hA3,hA4⟩:=HV.out _ hJA
    clear hJA
    go_wp2
    generalize wr.alloc (.cells #[.int .i64 (br.lit.pred:Nat),.slice ao2 br.lit.qf.length cap2,.int .i64 (br.jd:Nat),.pointer (some ⟨tb,0,none⟩)] 325)=wA at *
    clear hx0 hx1 hx2 hx3 hv0 hv1 hv2 hv3 hv4 hjl hjf
    obtain⟨hnc,hnf⟩:=hbxN.rules
    have hnl:=hbxN.lt
    have hzA:=hBA.size
    go_region_held3 (fun w'=>w'.cell? ⟨wr.heap.size,0,none⟩=some (.int .i64 (br.lit.pred:Nat))/\w'.cell? ⟨wr.heap.size,1,none⟩=some (.slice ao2 br.lit.qf.length cap2)/\w'.cell? ⟨jb,16,none⟩=some (.int .i64 (a:Nat))/\w'.cell? ⟨jb,17,none⟩=some (.int .i64 (b:Nat))/\w'.cell? ⟨jb,18,none⟩=some (.int .i64 (c:Nat))/\w'.cell? ⟨jb,19,none⟩=some (.int .i64 (d:Nat))/\w'.cell? ⟨jb,20,none⟩=some (.int .i64 (e:Nat))) (first|go_keep|(go_simp;done)) (first|(go_at_call 161;refine(HRW.out _ (by exact(by go_grown))).mono ?_;rintro r w2 ⟨rfl,hb2⟩;have hB2:Below wA.heap.size wA w2:=(zae (by go_grown) hb2 (uaa _));have hbx2:=hbxN.below hB2;obtain⟨hnc2,hnf2⟩:=hbx2.rules;have hnl2:=hbx2.lt;have hz2:=hB2.size;have hJ2:=HJ.out.below (zae (zae hbk hBA (uaa _)) hB2 (uaa _));obtain⟨hjl2,hjf2,_⟩:=hJ2.at;obtain⟨hE0,hE1,hE2,hE3,hE4⟩:=HV.out w2 hJ2;try (have hrz:=(show Box ((wA.alloc (.cells #[.int .i64 0,.int .i64 0,.int .i64 0] 165)).drew) wA.heap.size #[.int .i64 0,.int .i64 0,.int .i64 0] 165 from Box.drew (Box.new _ _ _)).below hb2;obtain⟨hrzc,hrzf⟩:=hrz.rules;have hrzl:=hrz.lt)))
    all_goals
     have hBW:Below wr.heap.size wr w2:=zae hBA hB2 (uaa _)
     clear hE0 hE1 hE2 hE3 hE4 hA0 hA1 hA2 hA3 hA4
     cases ms with
     |true =>
      have HT2:Hid (zb3 J br.jd=true):=HTT.out (by simp)
      go_wp2_with (first|(go_at_call 83;refine(HM2.out _ (by exact(by go_grown))).mono ?_;rintro r w3 ⟨rfl,hb3⟩;have hB3:Below wr.heap.size wr w3:=(zae (by go_grown) hb3 (uaa _))))
      go_ret
      exact⟨by rw[HT2.out];rfl,zae hbk hB3 (uaa _)⟩
     |false =>
      have HF:Hid ((J.bars.take (k+1)).any (fun x=>x.jd == br.jd && (zdt x.rows [rowCell x.lit [a,b,c,d,e] 0,rowCell x.lit [a,b,c,d,e] 1,rowCell x.lit [a,b,c,d,e] 2]).isSome)=false):=by rw[Hid,HS.out,HA.out];simp
      go_wp2_with (first|(go_at_call 83;refine(HM2.out _ (by exact(by go_grown))).mono ?_;rintro r w3 ⟨rfl,hb3⟩;have hB3:Below wr.heap.size wr w3:=(zae (by go_grown) hb3 (uaa _))))
      go_roundw
      case rel=>exact⟨k+1,by omega,by go_num,HF,zae hbk hB3 (uaa _)⟩
      case measure=>simp[intOf];omega
   ·have HF:Hid ((br.jd == kn && (zdt br.rows [r0,r1,r2]).isSome)=false):=by rw[Hid,beq_eq_false_iff_ne.2 hkn];rfl
    have hkI:((br.jd:Int) == (kn:Int))=false:=beq_eq_false_iff_ne.2 (by omega)
    go_wp2
    go_roundw
    case rel=>exact⟨k+1,by omega,by go_num,by rw[HS.out,HA.out,HF.out];rfl,hbk.alloc hszk _⟩
    case measure=>simp[intOf];omega
  ·have HF:Hid (zb3 J kn=false):=by
    rw[Hid,HE.out]
    have q:=HA.out
    rw[uam (by omega)] at q
    exact q
   go_wp2
   go_ret
   exact⟨by rw[HF.out];rfl,hbk⟩
end Go.Proofs.YteampbddflhngaaGreat
