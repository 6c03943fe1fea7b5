import Derived.Test.YteampbddflhngabGreatJ15

namespace Go.Proofs.YteampbddflhngabGreat
set_option maxRecDepth 100000
set_option maxHeartbeats 4000000
open Go.RowKit
variable {lo:Nat}
theorem zo8:∀(ys:List V4) (k:Nat) (_:k < ys.length) (u:Value),(zcg ys).set (k * 4+2) u=zcg (ys.modify k fun y=>(y.1,y.2.1,u,y.2.2.2))
 |[],k,hk,_=>by simp at hk
 |y::r,0,_,u=>by simp[zcg,zm2]
 |y::r,k+1,hk,u=>by
  have:=zo8 r k (by simpa using hk) u
  simp only[zcg,List.flatMap_cons,zm2,List.modify_succ_cons] at this ⊢
  rw[show(k+1) * 4+2=k * 4+2+1+1+1+1 from by omega]
  simpa using this
theorem zo9:∀(ys:List V4) (k:Nat) (_:k < ys.length) (u:Value),(zcg ys).set (k * 4+3) u=zcg (ys.modify k fun y=>(y.1,y.2.1,y.2.2.1,u))
 |[],k,hk,_=>by simp at hk
 |y::r,0,_,u=>by simp[zcg,zm2]
 |y::r,k+1,hk,u=>by
  have:=zo9 r k (by simpa using hk) u
  simp only[zcg,List.flatMap_cons,zm2,List.modify_succ_cons] at this ⊢
  rw[show(k+1) * 4+3=k * 4+3+1+1+1+1 from by omega]
  simpa using this
theorem JIn.setNode{w:World}{jb:Nat}{J:zat}{P:zbo}(h:JIn lo w jb J P)(s i n:Nat)(hs:s < J.sides.length)(hi:i=1∨i=2){sb cap:Nat}(hv:P.sv=.slice (some ⟨sb,0,none⟩) J.sides.length cap) :
  JIn lo (w.setCell ⟨sb,s * 4+1+i,none⟩ (.int .i64 (n:Nat))) jb { J with sides:=J.sides.set s { J.sides[s] with nodes:=J.sides[s].nodes.set i n } } P:=by
 have hst:=zao.set w sb (s * 4+1+i) (.int .i64 (n:Nat))
 have hso:=h.sides
 rw[hv] at hso
 have hk2:s < P.tbs.length:=by rw[h.slen];exact hs
 have hn3:=h.nodes _ (List.getElem_mem hs)
 have nt:∀ {b1:Nat} {e:TypeId} {s1:Nat} {v:Value} {n1:Nat} {xs:List Value},w.ownsRow b1 e s1 v n1 xs->e≠243->∀ b,v.ownBlock=some b->b∉[sb]:=fun ho hT b hvb hm=>zi1 ho hso hT hvb (by simp at hm;rw[hm];rfl)
 obtain⟨cur,hbs⟩:=ztc hso
 have nn:∀ {tb:Nat} {T:zad} {fp:List Nat},zar lo w tb T fp->zar lo (w.setCell ⟨sb,s * 4+1+i,none⟩ (.int .i64 (n:Nat))) tb T fp:=fun ht=>ht.save hst (fun b hb hm=>by simp at hm;subst hm;exact ht.notin (show Box w _ cur 243 from hbs) (by decide) (by decide) (by decide) hb)
 refine⟨h.low,h.box.save hst (by have:=zbk hso h.box (by decide) rfl;simpa using Ne.symm this),h.head.save hst (nt h.head.own (by decide)),?_,by simpa using h.slen,fun k a b=>?_,fun x hx=>?_,zbf h.bars hst (nt h.bars (by decide)),h.blen,fun k a b=>⟨(h.btries k a b).1.save hst (nt (h.btries k a b).1.own (by decide)),nn (h.btries k a b).2⟩,h.hlen,fun p a b=>⟨zbf (h.holds p a b).1 hst (nt (h.holds p a b).1 (by decide)),(h.holds p a b).2⟩,h.fives,by simpa using h.few⟩
 ·have hlen:(zcg (List.zipWith zmd J.sides P.tbs)).length=J.sides.length * 4:=by rw[zkl];simp[h.slen]
  have q:=zb7 hso (s * 4+1+i) (by omega) (.int .i64 (n:Nat))
  rw[hv]
  have e:(zcg (List.zipWith zmd J.sides P.tbs)).set (s * 4+1+i) (.int .i64 (n:Nat))=zcg (List.zipWith zmd (J.sides.set s { J.sides[s] with nodes:=J.sides[s].nodes.set i n }) P.tbs):=by
   have hz:s < (List.zipWith zmd J.sides P.tbs).length:=by simp;omega
   rcases hi with rfl|rfl
   ·rw[show s * 4+1+1=s * 4+2 from by omega,zo8 _ s hz]
    congr 1
    apply List.ext_getElem
    ·simp
    ·intro j h1 h2
     simp only[List.getElem_modify,List.getElem_zipWith,List.getElem_set]
     by_cases e:s=j
     ·subst e
      simp[zmd,List.getD_eq_getElem?_getD,hn3]
     ·simp[e]
   ·rw[show s * 4+1+2=s * 4+3 from by omega,zo9 _ s hz]
    congr 1
    apply List.ext_getElem
    ·simp
    ·intro j h1 h2
     simp only[List.getElem_modify,List.getElem_zipWith,List.getElem_set]
     by_cases e:s=j
     ·subst e
      simp[zmd,List.getD_eq_getElem?_getD,hn3]
     ·simp[e]
  rw[e] at q
  simpa using q
 ·simp only[List.length_set] at a
  simp only[List.getElem_set]
  split
  ·rename_i e
   subst e
   exact nn (h.tries s hs b)
  ·exact nn (h.tries k a b)
 ·rcases List.mem_or_eq_of_mem_set hx with q|q
  ·exact h.nodes x q
  ·subst q;simp[hn3]
theorem zsj(w:World)(jb:Nat)(J:zat)(P:zbo)(s l v:Nat)(h:JIn lo w jb J P)(hlb:l<=1000000) :
  Calls Tryz.prog 159 #[.pointer (some ⟨jb,0,none⟩),.agg #[.int .i64 s,.int .i64 l],.int .i64 v] w fun e w'=>e=.returned (.tuple #[])/\JIn lo w' jb (zeb v J (s,l)) P/\zao P.sv.ownBlock.toList w w':=by
 have HST:Hid (∀ W,Below w.heap.size w W->Calls Tryz.prog 160 #[.pointer (some ⟨jb,0,none⟩),.agg #[.int .i64 s,.int .i64 l]] W fun e w'=>e=.returned (.bool (zcn J (s,l)))/\Below W.heap.size W w'):=fun W hW=>zp5 W jb J P s l (h.below hW)
 have HJ:Hid (JIn lo w jb J P):=h
 cases hst:zcn J (s,l) with
 |false =>
  have HE:Hid (zeb v J (s,l)=J):=by simp[Hid,zeb,hst]
  rw[hst] at HST
  clear hst h
  go_enter Tryz.func159,Tryz.ntmps159
  go_wp2_with (first|(go_at_call 160;refine(HST.out _ (by exact(by go_grown))).mono ?_;rintro e w1 ⟨rfl,hb1⟩;have hB1:Below w.heap.size w w1:=zae (by go_grown) hb1 (Nat.le_refl _)))
  (try simp only[Exit.inBlock,Exit.then]);refine bodyPost_ret (results_none rfl _ _ _) rfl ?_
  exact⟨rfl,by rw[HE.out];exact HJ.out.below hB1,zao.of hB1⟩
 |true =>
  have hsl:s < J.sides.length/\l < 3:=by simpa [zcn] using hst
  obtain⟨hs,hl⟩:=hsl
  by_cases hl2:l+1 ≥ 3
  ·have HE:Hid (zeb v J (s,l)=J):=by simp[Hid,zeb,hl2]
   rw[hst] at HST
   clear hst h
   go_enter Tryz.func159,Tryz.ntmps159
   go_wp2_with (first|(go_at_call 160;refine(HST.out _ (by exact(by go_grown))).mono ?_;rintro e w1 ⟨rfl,hb1⟩;have hB1:Below w.heap.size w w1:=zae (by go_grown) hb1 (Nat.le_refl _);have hbx:=(Box.new w #[.int .i64 s,.int .i64 l] 247).below hb1;obtain⟨hhc,hhf⟩:=hbx.rules;have hhl:=hbx.lt))
   (try simp only[Exit.inBlock,Exit.then]);refine bodyPost_ret (results_none rfl _ _ _) rfl ?_
   exact⟨rfl,by rw[HE.out];exact HJ.out.below hB1,zao.of hB1⟩
  ·have HE:Hid (zeb v J (s,l)={ J with sides:=J.sides.set s { J.sides[s] with nodes:=J.sides[s].nodes.set (l+1) ((zaw J.sides[s].rows (J.sides[s].nodes.getD l 0) v).getD 0) } }):=by simp[Hid,zeb,hst,hl2,List.getD_eq_getElem?_getD,hs]
   rw[hst] at HST
   have hsI:(s:Int) < (J.sides.length:Int):=by omega
   have hlI:(l:Int) < 3:=by omega
   have hlI2:(l:Int)+1 < 3:=by omega
   obtain⟨hjl0,_⟩:=h.at
   clear hst h
   go_enter Tryz.func159,Tryz.ntmps159
   go_wp2_with (first|(go_at_call 160;refine(HST.out _ (by exact(by go_grown))).mono ?_;rintro e w1 ⟨rfl,hb1⟩;have hB1:Below w.heap.size w w1:=zae (by go_grown) hb1 (Nat.le_refl _);have hbx:=(Box.new w #[.int .i64 s,.int .i64 l] 247).below hb1;obtain⟨hhc,hhf⟩:=hbx.rules;have hhl:=hbx.lt))
   have HJ1:Hid (JIn lo w1 jb J P):=HJ.out.below hB1
   have hj1:=HJ1.out
   obtain⟨hjl2,hjf2,_,_,_,hd3,_⟩:=hj1.at
   obtain⟨sb,cap,tb,fp,hsv,hsb,hne,hp0,hp1,htr,hsf⟩:=hj1.side s l hs hl
   rw[hsv] at hd3
   have HLP:Hid (∀ n,Calls Tryz.prog 82 #[.pointer (some ⟨tb,0,none⟩),.int .i64 ((J.sides[s].nodes.getD l 0:Nat):Int),.int .i64 v] (w1.drewN n) fun e w'=>e=.returned (.tuple #[.int .i64 (((zaw J.sides[s].rows (J.sides[s].nodes.getD l 0) v).getD 0:Nat):Int),.bool (zaw J.sides[s].rows (J.sides[s].nodes.getD l 0) v).isSome])/\w'=w1.drewN n):=fun n=>zhv _ tb _ fp _ v (htr.below (zax (Below.refl _ _) n))
   have HNX:Hid (∀ W n,Below w1.heap.size w1 W->JIn lo (W.setCell ⟨sb,s * 4+1+(l+1),none⟩ (.int .i64 ((n:Nat):Int))) jb { J with sides:=J.sides.set s { J.sides[s] with nodes:=J.sides[s].nodes.set (l+1) n } } P):=fun W n hW=>(HJ1.out.below hW).setNode s (l+1) n hs (by omega) hsv
   have HSB:Hid (P.sv.ownBlock.toList=[sb]):=by rw[Hid,hsv];rfl
   have hcell:∃ u,w1.cell? ⟨sb,s * 4+1+(l+1),none⟩=some u:=by
    obtain⟨sb',cap',tb',fp',hsv',_,_,_,q,_⟩:=HJ1.out.side s (l+1) hs (by omega)
    rw[hsv] at hsv'
    simp only[Value.slice.injEq,Option.some.injEq,Addr.mk.injEq] at hsv'
    obtain⟨⟨rfl,_⟩,_⟩:=hsv'
    exact⟨_,q⟩
   obtain⟨u,hcu⟩:=hcell
   clear htr hj1
   generalize (zaw J.sides[s].rows (J.sides[s].nodes.getD l 0) v).getD 0=dn at *
   generalize (zaw J.sides[s].rows (J.sides[s].nodes.getD l 0) v).isSome=ds at *
   generalize J.sides[s].nodes.getD l 0=nd at *
   go_quiet ((go_at_call 82;exact Calls.quiet_of_same (HLP.out _)))
   have hB2:Below w1.heap.size w1 (w1.drewN nq):=zax (Below.refl _ _) _
   clear hhc hhf hhl hjl2 hjf2 hsf HLP
   have hd3':=(hB2.cell (p:=⟨jb,3,none⟩) (HJ1.out.box.lt)).trans hd3
   have hcu':=(hB2.cell (p:=⟨sb,s * 4+1+(l+1),none⟩) hsb).trans hcu
   have hbx2:=hbx.below hB2
   have HN2:=HNX.out _ dn hB2
   have hsf2:∀ o,(w1.drewN nq).frozen? ⟨sb,o,none⟩=false:=by
    obtain⟨sb',cap',tb',fp',hsv',_,_,_,_,_,q⟩:=(HJ1.out.below hB2).side s l hs hl
    rw[hsv] at hsv'
    simp only[Value.slice.injEq,Option.some.injEq,Addr.mk.injEq] at hsv'
    obtain⟨⟨rfl,_⟩,_⟩:=hsv'
    exact q
   have hS2:zao [sb] w (w1.drewN nq):=zao.of (zae hB1 hB2 (Nat.le_refl _))
   have hsb2:sb < (w1.drewN nq).heap.size:=Nat.lt_of_lt_of_le hsb hB2.size
   have hjl2:jb < (w1.drewN nq).heap.size:=Nat.lt_of_lt_of_le HJ1.out.box.lt hB2.size
   have hnh:sb≠w.heap.size:=fun e=>by
    have hso:=HJ1.out.sides
    rw[hsv] at hso
    exact zbk hso hbx (by decide) rfl e
   generalize w1.drewN nq=w2 at *
   have HN3:Hid (JIn lo (w2.setCell ⟨sb,s * 4+1+(l+1),none⟩ (.int .i64 ((dn:Nat):Int))) jb { J with sides:=J.sides.set s { J.sides[s] with nodes:=J.sides[s].nodes.set (l+1) dn } } P):=HN2
   clear HN2 HNX hd3 hcu hp0 hp1 hbx HJ HST
   obtain⟨hhc,hhf⟩:=hbx2.rules
   have hhl:=hbx2.lt
   go_wp2
   go_region
   all_goals
    go_wp2
    go_end0
    exact⟨rfl,by rw[HE.out];exact HN3.out.below (Below.refl _ _).drew,by rw[HSB.out];exact(hS2.trans (zao.set _ _ _ _)).newer (zao.of (M:=[]) (Below.refl _ _).drew) (by simp)⟩
theorem JIn.hold2{w:World}{jb:Nat}{J:zat}{P:zbo}(h:JIn lo w jb J P)(p:Nat)(hp:p < 5):∃ ao cap,P.hvs[p]?=some (.slice ao (J.holds.getD p []).length cap)/\w.cell? ⟨jb,5+p,none⟩=some (.slice ao (J.holds.getD p []).length cap)/\(J.holds.getD p []).length<=1000/\(∀ k (hk:k < (J.holds.getD p []).length),∃ hb,ao=some ⟨hb,0,none⟩/\hb < w.heap.size/\w.cell? ⟨hb,k * 2,none⟩=some (.int .i64 ((J.holds.getD p [])[k].1:Nat))/\w.cell? ⟨hb,k * 2+1,none⟩=some (.int .i64 ((J.holds.getD p [])[k].2:Nat))/\(J.holds.getD p [])[k].2<=1000000):=by
 have h1:p < J.holds.length:=by rw[h.hlen.2];exact hp
 have h2:p < P.hvs.length:=by rw[h.hlen.1];exact hp
 have e:J.holds.getD p []=J.holds[p]:=by simp[List.getD_eq_getElem?_getD,h1]
 rw[e]
 obtain⟨ho,hl,hsm⟩:=h.holds p h1 h2
 obtain⟨ao,cap,hv⟩:=zab ho
 obtain⟨hc,_⟩:=h.box.rules
 refine⟨ao,cap,by rw[List.getElem?_eq_getElem h2,hv],?_,hl,fun k hk=>?_⟩
 ·rw[← hv,hc]
  obtain⟨a1,a2,a3,a4,a5,e1⟩:=five h.hlen.1
  simp only[e1] at h2 ⊢
  obtain rfl|rfl|rfl|rfl|rfl:p=0∨p=1∨p=2∨p=3∨p=4:=by omega
  all_goals simp[zb6,e1]
 ·obtain⟨hb,cap',hv2,_,hbl,hcl⟩:=zas ho (by omega)
  have hv3:=hv.symm.trans hv2
  simp only[Value.slice.injEq] at hv3
  obtain⟨c0,c1⟩:=zil J.holds[p] k hk
  exact⟨hb,hv3.1,hbl,hcl _ _ c0,hcl _ _ c1,(hsm _ (List.getElem_mem hk)).2⟩
def zl8(J:zat)(p v:Nat):zat:={ J with values:=J.values.set p v,«from»:=(if p+1 < 5 then(J.from.set p (v+1)).set (p+1) 0 else J.from.set p (v+1)) }
theorem z5c(J:zat)(p v:Nat)(hp:p < 5):zft J p v=(J.holds.getD p []).foldl (zeb v) (zl8 J p v):=by unfold zft;rw[if_neg (by omega)];rfl
theorem JIn.setVal{w:World}{jb:Nat}{J:zat}{P:zbo}(h:JIn lo w jb J P)(p v:Nat)(hp:p+1 < 5):JIn lo (((w.setCell ⟨jb,16+p,none⟩ (.int .i64 (v:Nat))).setCell ⟨jb,21+p,none⟩ (.int .i64 ((v:Int)+1))).setCell ⟨jb,21+(p+1),none⟩ (.int .i64 0)) jb (zl8 J p v) P:=by
 obtain⟨f1,f2,f3⟩:=h.fives
 refine h.rebox (((zao.set _ _ _ _).trans (zao.set _ _ _ _)).trans (zao.set _ _ _ _)) ?_ rfl rfl rfl rfl rfl (by simp[zl8,hp,f1,f2,f3])
 obtain⟨a1,a2,a3,a4,a5,e1⟩:=five h.hlen.1
 obtain⟨b1,b2,b3,b4,b5,e2⟩:=five f1
 obtain⟨c1,c2,c3,c4,c5,e3⟩:=five f2
 obtain⟨d1,d2,d3,d4,d5,e4⟩:=five f3
 have hq:=((h.box.set (16+p) (.int .i64 (v:Nat))).set (21+p) (.int .i64 ((v:Int)+1))).set (21+(p+1)) (.int .i64 0)
 obtain rfl|rfl|rfl|rfl:p=0∨p=1∨p=2∨p=3:=by omega
 all_goals simpa [zb6,zl8,e1,e2,e3,e4,ivN] using hq
theorem JIn.setVal4{w:World}{jb:Nat}{J:zat}{P:zbo}(h:JIn lo w jb J P)(p v:Nat)(hp:p < 5)(h4:¬ p+1 < 5):JIn lo ((w.setCell ⟨jb,16+p,none⟩ (.int .i64 (v:Nat))).setCell ⟨jb,21+p,none⟩ (.int .i64 ((v:Int)+1))) jb (zl8 J p v) P:=by
 obtain rfl:p=4:=by omega
 obtain⟨f1,f2,f3⟩:=h.fives
 refine h.rebox ((zao.set _ _ _ _).trans (zao.set _ _ _ _)) ?_ rfl rfl rfl rfl rfl (by simp[zl8,f1,f2,f3])
 obtain⟨a1,a2,a3,a4,a5,e1⟩:=five h.hlen.1
 obtain⟨b1,b2,b3,b4,b5,e2⟩:=five f1
 obtain⟨c1,c2,c3,c4,c5,e3⟩:=five f2
 obtain⟨d1,d2,d3,d4,d5,e4⟩:=five f3
 have hq:=(h.box.set (16+4) (.int .i64 (v:Nat))).set (21+4) (.int .i64 ((v:Int)+1))
 simpa [zb6,zl8,e1,e2,e3,e4,ivN] using hq
theorem zus(v:Nat)(J:zat)(h:Nat × Nat):(zeb v J h).holds=J.holds:=by unfold zeb;split <;> rfl
theorem zlh(v:Nat):∀(hs:List (Nat × Nat)) (J:zat),(hs.foldl (zeb v) J).holds=J.holds
 |[],J=>rfl
 |h::r,J=>by rw[List.foldl_cons,zlh v r,zus]
theorem JIn.vals{w:World}{jb:Nat}{J:zat}{P:zbo}(h:JIn lo w jb J P)(p:Nat)(hp:p < 5):w.cell? ⟨jb,16+p,none⟩=some (.int .i64 (J.values.getD p 0:Nat))/\w.cell? ⟨jb,21+p,none⟩=some (.int .i64 (J.from.getD p 0:Nat))/\w.cell? ⟨jb,10+p,none⟩=some (.int .i64 (J.backs.getD p 0)):=by
 obtain⟨hc,_⟩:=h.box.rules
 obtain⟨f1,f2,f3⟩:=h.fives
 obtain⟨a1,a2,a3,a4,a5,e1⟩:=five h.hlen.1
 obtain⟨b1,b2,b3,b4,b5,e2⟩:=five f1
 obtain⟨c1,c2,c3,c4,c5,e3⟩:=five f2
 obtain⟨d1,d2,d3,d4,d5,e4⟩:=five f3
 rw[hc,hc,hc]
 obtain rfl|rfl|rfl|rfl|rfl:p=0∨p=1∨p=2∨p=3∨p=4:=by omega
 all_goals simp[zb6,e1,e2,e3,e4,ivN]
theorem z0z(w:World)(jb:Nat)(J:zat)(P:zbo)(p v:Nat)(h:JIn lo w jb J P)(hv:v<=1000000) :
  Calls Tryz.prog 157 #[.pointer (some ⟨jb,0,none⟩),.int .i64 p,.int .i64 v] w fun e w'=>e=.returned (.tuple #[])/\JIn lo w' jb (zft J p v) P/\zao (jb::P.sv.ownBlock.toList) w w':=by
 have HJ:Hid (JIn lo w jb J P):=h
 by_cases h5:p < 5
 ·have HE:Hid (zft J p v=(J.holds.getD p []).foldl (zeb v) (zl8 J p v)):=z5c J p v h5
  obtain⟨hjl,hjf,_⟩:=h.at
  obtain⟨hc1,hc2,_⟩:=h.vals p h5
  by_cases h4:p+1 < 5
  ·obtain⟨_,hc3,_⟩:=h.vals (p+1) h4
   have hp5:(p:Int) < 5:=by omega
   have hp6:(p:Int)+1 < 5:=by omega
   have hJ1:=h.setVal p v h4
   have hS1:zao [jb] w (((w.setCell ⟨jb,16+p,none⟩ (.int .i64 (v:Nat))).setCell ⟨jb,21+p,none⟩ (.int .i64 ((v:Int)+1))).setCell ⟨jb,21+(p+1),none⟩ (.int .i64 0)):=((zao.set _ _ _ _).trans (zao.set _ _ _ _)).trans (zao.set _ _ _ _)
   clear h
   go_enter Tryz.func157,Tryz.ntmps157
   go_upto_region 5 with fail
   clear hc1 hc2 hc3
   generalize (((w.setCell ⟨jb,16+p,none⟩ (.int .i64 (v:Nat))).setCell ⟨jb,21+p,none⟩ (.int .i64 ((v:Int)+1))).setCell ⟨jb,21+(p+1),none⟩ (.int .i64 0))=w1 at *
   have HJ1:Hid (JIn lo w1 jb (zl8 J p v) P):=hJ1
   clear hJ1 hjl hjf
   obtain⟨ao,cap,hvv,hcH,hlen,_⟩:=HJ1.out.hold2 p (by omega)
   obtain⟨hjl1,hjf1,_⟩:=HJ1.out.at
   rw[show(zl8 J p v).holds=J.holds from rfl] at hvv hcH hlen
   obtain⟨hs,hhs⟩:∃ hs,hs=J.holds.getD p []:=⟨_,rfl⟩
   rw[← hhs] at hvv hcH hlen HE
   have HHS:Hid (hs=J.holds.getD p []):=hhs
   have HVV:Hid (P.hvs[p]?=some (.slice ao hs.length cap)):=hvv
   clear hhs hvv
   go_wp2
   clear hcH hjl1 hjf1
   generalize decide ((p:Int) < 0)=bb1
   generalize decide ((5:Int)<=(p:Int))=bb2
   go_loopw [43] (fun v43 wr=>∃ k:Nat,k<=hs.length/\v43=.int .i64 k/\Hid (JIn lo wr jb ((hs.take k).foldl (zeb v) (zl8 J p v)) P)/\zao (jb::P.sv.ownBlock.toList) w wr) (fun i _=>hs.length - (intOf i).toNat)
   case atStart=>exact⟨0,Nat.zero_le _,rfl,HJ1,hS1.more (by simp)⟩
   case round =>
    obtain⟨k,hk,rfl,HJK,hsv⟩:=hrel
    by_cases hlt:k < hs.length
    ·obtain⟨ao3,cap3,q1,_,_,q2⟩:=HJK.out.hold2 p (by omega)
     rw[zlh,show(zl8 J p v).holds=J.holds from rfl,← HHS.out] at q1 q2
     rw[HVV.out] at q1
     simp only[Option.some.injEq,Value.slice.injEq] at q1
     obtain⟨rfl,_,rfl⟩:=q1
     obtain⟨hb,rfl,hhb,hx0,hx1,hx2⟩:=q2 k hlt
     have HS:Hid ((hs.take (k+1)).foldl (zeb v) (zl8 J p v)=zeb v ((hs.take k).foldl (zeb v) (zl8 J p v)) hs[k]):=zdf hs (zeb v) (zl8 J p v) k hlt
     have HD:Hid (∀ W,Below wr.heap.size wr W->Calls Tryz.prog 159 #[.pointer (some ⟨jb,0,none⟩),.agg #[.int .i64 (hs[k].1:Nat),.int .i64 (hs[k].2:Nat)],.int .i64 v] W fun e w'=>e=.returned (.tuple #[])/\JIn lo w' jb (zeb v ((hs.take k).foldl (zeb v) (zl8 J p v)) hs[k]) P/\zao P.sv.ownBlock.toList W w'):=fun W hW=>zsj W jb _ P hs[k].1 hs[k].2 v (HJK.out.below hW) hx2
     clear q2
     generalize (hs.take k).foldl (zeb v) (zl8 J p v)=Jk at *
     generalize hs[k]=hd at *
     go_wp2_with (first|(go_at_call 159;refine(HD.out _ (by exact(by go_grown))).mono ?_;rintro e w2 ⟨rfl,hj2,hs2⟩;have HJ2:Hid (JIn lo w2 jb (zeb v Jk hd) P):=hj2;clear hj2;have hS3:zao P.sv.ownBlock.toList wr w2:=(zao.of (M:=P.sv.ownBlock.toList) (show Below wr.heap.size wr _ from(by go_grown))).trans hs2))
     go_roundw
     case rel=>exact⟨k+1,by omega,by go_num,by rw[HS.out];exact HJ2.out,hsv.trans (hS3.more (fun x hx=>List.mem_cons_of_mem _ hx))⟩
     case measure=>simp[intOf];omega
    ·obtain rfl:k=hs.length:=by omega
     rw[List.take_length] at HJK
     go_wp2
     go_end0
     exact⟨rfl,by rw[HE.out];exact HJK.out,hsv⟩
  ·have hp5:(p:Int) < 5:=by omega
   have hp6:¬ (p:Int)+1 < 5:=by omega
   have hJ1:=h.setVal4 p v h5 h4
   have hS1:zao [jb] w ((w.setCell ⟨jb,16+p,none⟩ (.int .i64 (v:Nat))).setCell ⟨jb,21+p,none⟩ (.int .i64 ((v:Int)+1))):=(zao.set _ _ _ _).trans (zao.set _ _ _ _)
   clear h
   go_enter Tryz.func157,Tryz.ntmps157
   go_upto_region 5 with fail
   clear hc1 hc2
   generalize ((w.setCell ⟨jb,16+p,none⟩ (.int .i64 (v:Nat))).setCell ⟨jb,21+p,none⟩ (.int .i64 ((v:Int)+1)))=w1 at *
   have HJ1:Hid (JIn lo w1 jb (zl8 J p v) P):=hJ1
   clear hJ1 hjl hjf
   obtain⟨ao,cap,hvv,hcH,hlen,_⟩:=HJ1.out.hold2 p (by omega)
   obtain⟨hjl1,hjf1,_⟩:=HJ1.out.at
   rw[show(zl8 J p v).holds=J.holds from rfl] at hvv hcH hlen
   obtain⟨hs,hhs⟩:∃ hs,hs=J.holds.getD p []:=⟨_,rfl⟩
   rw[← hhs] at hvv hcH hlen HE
   have HHS:Hid (hs=J.holds.getD p []):=hhs
   have HVV:Hid (P.hvs[p]?=some (.slice ao hs.length cap)):=hvv
   clear hhs hvv
   go_wp2
   clear hcH hjl1 hjf1
   generalize decide ((p:Int) < 0)=bb1
   generalize decide ((5:Int)<=(p:Int))=bb2
   go_loopw [43] (fun v43 wr=>∃ k:Nat,k<=hs.length/\v43=.int .i64 k/\Hid (JIn lo wr jb ((hs.take k).foldl (zeb v) (zl8 J p v)) P)/\zao (jb::P.sv.ownBlock.toList) w wr) (fun i _=>hs.length - (intOf i).toNat)
   case atStart=>exact⟨0,Nat.zero_le _,rfl,HJ1,hS1.more (by simp)⟩
   case round =>
    obtain⟨k,hk,rfl,HJK,hsv⟩:=hrel
    by_cases hlt:k < hs.length
    ·obtain⟨ao3,cap3,q1,_,_,q2⟩:=HJK.out.hold2 p (by omega)
     rw[zlh,show(zl8 J p v).holds=J.holds from rfl,← HHS.out] at q1 q2
     rw[HVV.out] at q1
     simp only[Option.some.injEq,Value.slice.injEq] at q1
     obtain⟨rfl,_,rfl⟩:=q1
     obtain⟨hb,rfl,hhb,hx0,hx1,hx2⟩:=q2 k hlt
     have HS:Hid ((hs.take (k+1)).foldl (zeb v) (zl8 J p v)=zeb v ((hs.take k).foldl (zeb v) (zl8 J p v)) hs[k]):=zdf hs (zeb v) (zl8 J p v) k hlt
     have HD:Hid (∀ W,Below wr.heap.size wr W->Calls Tryz.prog 159 #[.pointer (some ⟨jb,0,none⟩),.agg #[.int .i64 (hs[k].1:Nat),.int .i64 (hs[k].2:Nat)],.int .i64 v] W fun e w'=>e=.returned (.tuple #[])/\JIn lo w' jb (zeb v ((hs.take k).foldl (zeb v) (zl8 J p v)) hs[k]) P/\zao P.sv.ownBlock.toList W w'):=fun W hW=>zsj W jb _ P hs[k].1 hs[k].2 v (HJK.out.below hW) hx2
     clear q2
     generalize (hs.take k).foldl (zeb v) (zl8 J p v)=Jk at *
     generalize hs[k]=hd at *
     go_wp2_with (first|(go_at_call 159;refine(HD.out _ (by exact(by go_grown))).mono ?_;rintro e w2 ⟨rfl,hj2,hs2⟩;have HJ2:Hid (JIn lo w2 jb (zeb v Jk hd) P):=hj2;clear hj2;have hS3:zao P.sv.ownBlock.toList wr w2:=(zao.of (M:=P.sv.ownBlock.toList) (show Below wr.heap.size wr _ from(by go_grown))).trans hs2))
     go_roundw
     case rel=>exact⟨k+1,by omega,by go_num,by rw[HS.out];exact HJ2.out,hsv.trans (hS3.more (fun x hx=>List.mem_cons_of_mem _ hx))⟩
     case measure=>simp[intOf];omega
    ·obtain rfl:k=hs.length:=by omega
     rw[List.take_length] at HJK
     go_wp2
     go_end0
     exact⟨rfl,by rw[HE.out];exact HJK.out,hsv⟩
 ·have HE:Hid (zft J p v=J):=by unfold zft;rw[Hid,if_pos (by omega)]
  clear h
  go_enter Tryz.func157,Tryz.ntmps157
  go_wp2
  (try simp only[Exit.inBlock,Exit.then]);refine bodyPost_ret (results_none rfl _ _ _) rfl ?_
  exact⟨rfl,by rw[HE.out];exact HJ.out,zao.refl _ _⟩
theorem JIn.bar{w:World}{jb:Nat}{J:zat}{P:zbo}(h:JIn lo w jb J P)(k:Nat)(hk:k < J.bars.length) :
  ∃ gb cap ao2 cap2 tb fp,P.bv=.slice (some ⟨gb,0,none⟩) J.bars.length cap/\gb < w.heap.size/\w.cell? ⟨gb,k * 4,none⟩=some (.int .i64 (J.bars[k].lit.pred:Nat))/\w.cell? ⟨gb,k * 4+1,none⟩=some (.slice ao2 J.bars[k].lit.terms.length cap2)/\w.cell? ⟨gb,k * 4+2,none⟩=some (.int .i64 (J.bars[k].known:Nat))/\w.cell? ⟨gb,k * 4+3,none⟩=some (.pointer (some ⟨tb,0,none⟩))/\zan lo w (.slice ao2 J.bars[k].lit.terms.length cap2) J.bars[k].lit.terms/\zar lo w tb J.bars[k].rows fp:=by
 obtain⟨gb,cap,hv,_,hgb,hc⟩:=zas h.bars (by omega)
 have hk2:k < P.bps.length:=by rw[h.blen];exact hk
 obtain⟨c0,c1,c2,c3⟩:=zkk (List.zipWith zxo J.bars P.bps) k (by simp;omega)
 simp only[List.getElem_zipWith,zxo] at c0 c1 c2 c3
 obtain⟨t1,t2⟩:=h.btries k hk hk2
 obtain⟨ao2,cap2,e⟩:=t1.shape
 rw[e] at c1 t1
 exact⟨gb,cap,ao2,cap2,_,_,hv,hgb,hc _ _ c0,hc _ _ c1,hc _ _ c2,hc _ _ c3,t1,t2⟩
theorem z6r(l:zai)(vals:List Nat):zcp l vals=[rowCell l vals 0,rowCell l vals 1,rowCell l vals 2]:=rfl
theorem zox(w:World)(jb:Nat)(J:zat)(P:zbo)(kn:Nat)(h:JIn lo w jb J P) :
  Calls Tryz.prog 152 #[.pointer (some ⟨jb,0,none⟩),.int .i64 kn] w fun e w'=>e=.returned (.bool (zbx J kn))/\Below w.heap.size w w':=by
 have HJ:Hid (JIn lo w jb J P):=h
 obtain⟨hjl,hjf,_,_,_,_,hc4,_⟩:=h.at
 obtain⟨aob,capb,hbv⟩:=zab h.bars
 rw[hbv] at hc4
 obtain⟨a,b,c,d,e,hvals⟩:=five h.fives.2.1
 have hfew:=h.few.2.1
 have HV:Hid (∀ W,JIn lo W jb J P->W.cell? ⟨jb,16,none⟩=some (.int .i64 (a:Nat))/\W.cell? ⟨jb,17,none⟩=some (.int .i64 (b:Nat))/\W.cell? ⟨jb,18,none⟩=some (.int .i64 (c:Nat))/\W.cell? ⟨jb,19,none⟩=some (.int .i64 (d:Nat))/\W.cell? ⟨jb,20,none⟩=some (.int .i64 (e:Nat))):=fun W hW=>by
  have q0:=(hW.vals 0 (by omega)).1
  have q1:=(hW.vals 1 (by omega)).1
  have q2:=(hW.vals 2 (by omega)).1
  have q3:=(hW.vals 3 (by omega)).1
  have q4:=(hW.vals 4 (by omega)).1
  rw[hvals] at q0 q1 q2 q3 q4
  exact⟨q0,q1,q2,q3,q4⟩
 have HE:Hid (zbx J kn=J.bars.any (fun x=>x.known == kn && (zes x.rows [rowCell x.lit [a,b,c,d,e] 0,rowCell x.lit [a,b,c,d,e] 1,rowCell x.lit [a,b,c,d,e] 2]).isSome)):=by
  rw[Hid];unfold zbx;rw[hvals];rfl
 clear h
 go_enter Tryz.func152,Tryz.ntmps152
 go_wp2
 clear hc4 hjl hjf
 go_loopw [15] (fun v15 wr=>∃ k:Nat,k<=J.bars.length/\v15=.int .i64 k/\Hid ((J.bars.take k).any (fun x=>x.known == kn && (zes x.rows [rowCell x.lit [a,b,c,d,e] 0,rowCell x.lit [a,b,c,d,e] 1,rowCell x.lit [a,b,c,d,e] 2]).isSome)=false)/\Below w.heap.size w wr) (fun i _=>J.bars.length - (intOf i).toNat)
 case atStart=>exact⟨0,Nat.zero_le _,rfl,rfl,Below.refl _ _⟩
 case round =>
  obtain⟨k,hk,rfl,HA,hbk⟩:=hrel
  have hszk:=hbk.size
  by_cases hlt:k < J.bars.length
  ·have hjk:=HJ.out.below hbk
   obtain⟨hjl,hjf,_⟩:=hjk.at
   obtain⟨hv0,hv1,hv2,hv3,hv4⟩:=HV.out wr hjk
   obtain⟨gb,cap,ao2,cap2,tb,fp,hbv2,hgb,hx0,hx1,hx2,hx3,hT,hTr⟩:=hjk.bar k hlt
   rw[hbv] at hbv2
   simp only[Value.slice.injEq] at hbv2
   obtain⟨rfl,_,rfl⟩:=hbv2
   have HS:Hid ((J.bars.take (k+1)).any (fun x=>x.known == kn && (zes x.rows [rowCell x.lit [a,b,c,d,e] 0,rowCell x.lit [a,b,c,d,e] 1,rowCell x.lit [a,b,c,d,e] 2]).isSome)=((J.bars.take k).any (fun x=>x.known == kn && (zes x.rows [rowCell x.lit [a,b,c,d,e] 0,rowCell x.lit [a,b,c,d,e] 1,rowCell x.lit [a,b,c,d,e] 2]).isSome) || (J.bars[k].known == kn && (zes J.bars[k].rows [rowCell J.bars[k].lit [a,b,c,d,e] 0,rowCell J.bars[k].lit [a,b,c,d,e] 1,rowCell J.bars[k].lit [a,b,c,d,e] 2]).isSome))):=any_take_succ J.bars _ k hlt
   have HTT:Hid ((J.bars[k].known == kn && (zes J.bars[k].rows [rowCell J.bars[k].lit [a,b,c,d,e] 0,rowCell J.bars[k].lit [a,b,c,d,e] 1,rowCell J.bars[k].lit [a,b,c,d,e] 2]).isSome)=true->zbx J kn=true):=fun q=>by rw[HE.out];exact zrp J.bars _ k hlt q
   have HRW:Hid (∀ W,Below wr.heap.size wr W->Calls Tryz.prog 102 #[.agg #[.int .i64 (J.bars[k].lit.pred:Nat),.slice ao2 J.bars[k].lit.terms.length cap2],.agg #[.int .i64 (a:Nat),.int .i64 (b:Nat),.int .i64 (c:Nat),.int .i64 (d:Nat),.int .i64 (e:Nat)]] W fun r w'=>r=.returned (.agg #[.int .i64 ((rowCell J.bars[k].lit [a,b,c,d,e] 0:Nat):Int),.int .i64 ((rowCell J.bars[k].lit [a,b,c,d,e] 1:Nat):Int),.int .i64 ((rowCell J.bars[k].lit [a,b,c,d,e] 2:Nat):Int)])/\Below W.heap.size W w'):=fun W hW=>zvn W _ J.bars[k].lit.pred J.bars[k].lit.terms a b c d e (hT.below hW)
   have HMK:Hid (∀ W x y z,Below wr.heap.size wr W->Calls Tryz.prog 55 #[.pointer (some ⟨tb,0,none⟩),.agg #[.int .i64 ((x:Nat):Int),.int .i64 ((y:Nat):Int),.int .i64 ((z:Nat):Int)]] W fun r w'=>r=.returned (.tuple #[.int .i64 (((zes J.bars[k].rows [x,y,z]).getD 0:Nat):Int),.bool (zes J.bars[k].rows [x,y,z]).isSome])/\Below W.heap.size W w'):=fun W x y z hW=>z2g W tb _ fp x y z (hTr.below hW)
   clear hT hTr hjk
   generalize J.bars[k]=br at *
   generalize rowCell br.lit [a,b,c,d,e] 0=r0 at *
   generalize rowCell br.lit [a,b,c,d,e] 1=r1 at *
   generalize rowCell br.lit [a,b,c,d,e] 2=r2 at *
   by_cases hkn:br.known=kn
   ·subst hkn
    have HM2:Hid (∀ W,Below wr.heap.size wr W->Calls Tryz.prog 55 #[.pointer (some ⟨tb,0,none⟩),.agg #[.int .i64 (r0:Nat),.int .i64 (r1:Nat),.int .i64 (r2:Nat)]] W fun r w'=>r=.returned (.tuple #[.int .i64 (((zes br.rows [r0,r1,r2]).getD 0:Nat):Int),.bool (zes br.rows [r0,r1,r2]).isSome])/\Below W.heap.size W w'):=fun W hW=>HMK.out W r0 r1 r2 hW
    clear HMK
    generalize (zes br.rows [r0,r1,r2]).getD 0=mg at *
    generalize (zes br.rows [r0,r1,r2]).isSome=ms at *
    have hkI:((br.known:Int) == (br.known:Int))=true:=beq_self_eq_true _
    have hbxN:=Box.new wr #[.int .i64 (br.lit.pred:Nat),.slice ao2 br.lit.terms.length cap2,.int .i64 (br.known:Nat),.pointer (some ⟨tb,0,none⟩)] 245
    have hBA:Below wr.heap.size wr (wr.alloc (.cells #[.int .i64 (br.lit.pred:Nat),.slice ao2 br.lit.terms.length cap2,.int .i64 (br.known:Nat),.pointer (some ⟨tb,0,none⟩)] 245)):=(Below.refl _ _).alloc (Nat.le_refl _) _
    have hJA:=HJ.out.below (zae hbk hBA (Nat.le_refl _))
    obtain⟨hjlA,hjfA,_⟩:=hJA.at
    obtain⟨hA0,hA1,hA2,hA3,hA4⟩:=HV.out _ hJA
    clear hJA
    go_wp2
    generalize wr.alloc (.cells #[.int .i64 (br.lit.pred:Nat),.slice ao2 br.lit.terms.length cap2,.int .i64 (br.known:Nat),.pointer (some ⟨tb,0,none⟩)] 245)=wA at *
    clear hx0 hx1 hx2 hx3 hv0 hv1 hv2 hv3 hv4 hjl hjf
    obtain⟨hnc,hnf⟩:=hbxN.rules
    have hnl:=hbxN.lt
    have hzA:=hBA.size
    go_region_held3 (fun w'=>w'.cell? ⟨wr.heap.size,0,none⟩=some (.int .i64 (br.lit.pred:Nat))/\w'.cell? ⟨wr.heap.size,1,none⟩=some (.slice ao2 br.lit.terms.length cap2)/\w'.cell? ⟨jb,16,none⟩=some (.int .i64 (a:Nat))/\w'.cell? ⟨jb,17,none⟩=some (.int .i64 (b:Nat))/\w'.cell? ⟨jb,18,none⟩=some (.int .i64 (c:Nat))/\w'.cell? ⟨jb,19,none⟩=some (.int .i64 (d:Nat))/\w'.cell? ⟨jb,20,none⟩=some (.int .i64 (e:Nat))) (first|go_keep|(go_simp;done)) (first|(go_at_call 102;refine(HRW.out _ (by exact(by go_grown))).mono ?_;rintro r w2 ⟨rfl,hb2⟩;have hB2:Below wA.heap.size wA w2:=(zae (by go_grown) hb2 (Nat.le_refl _));have hbx2:=hbxN.below hB2;obtain⟨hnc2,hnf2⟩:=hbx2.rules;have hnl2:=hbx2.lt;have hz2:=hB2.size;have hJ2:=HJ.out.below (zae (zae hbk hBA (Nat.le_refl _)) hB2 (Nat.le_refl _));obtain⟨hjl2,hjf2,_⟩:=hJ2.at;obtain⟨hE0,hE1,hE2,hE3,hE4⟩:=HV.out w2 hJ2;try (have hrz:=(show Box ((wA.alloc (.cells #[.int .i64 0,.int .i64 0,.int .i64 0] 116)).drew) wA.heap.size #[.int .i64 0,.int .i64 0,.int .i64 0] 116 from Box.drew (Box.new _ _ _)).below hb2;obtain⟨hrzc,hrzf⟩:=hrz.rules;have hrzl:=hrz.lt)))
    all_goals
     have hBW:Below wr.heap.size wr w2:=zae hBA hB2 (Nat.le_refl _)
     clear hE0 hE1 hE2 hE3 hE4 hA0 hA1 hA2 hA3 hA4
     cases ms with
     |true =>
      have HT2:Hid (zbx J br.known=true):=HTT.out (by simp)
      go_wp2_with (first|(go_at_call 55;refine(HM2.out _ (by exact(by go_grown))).mono ?_;rintro r w3 ⟨rfl,hb3⟩;have hB3:Below wr.heap.size wr w3:=(zae (by go_grown) hb3 (Nat.le_refl _))))
      go_ret
      exact⟨by rw[HT2.out];rfl,zae hbk hB3 (Nat.le_refl _)⟩
     |false =>
      have HF:Hid ((J.bars.take (k+1)).any (fun x=>x.known == br.known && (zes x.rows [rowCell x.lit [a,b,c,d,e] 0,rowCell x.lit [a,b,c,d,e] 1,rowCell x.lit [a,b,c,d,e] 2]).isSome)=false):=by rw[Hid,HS.out,HA.out];simp
      go_wp2_with (first|(go_at_call 55;refine(HM2.out _ (by exact(by go_grown))).mono ?_;rintro r w3 ⟨rfl,hb3⟩;have hB3:Below wr.heap.size wr w3:=(zae (by go_grown) hb3 (Nat.le_refl _))))
      go_roundw
      case rel=>exact⟨k+1,by omega,by go_num,HF,zae hbk hB3 (Nat.le_refl _)⟩
      case measure=>simp[intOf];omega
   ·have HF:Hid ((br.known == kn && (zes br.rows [r0,r1,r2]).isSome)=false):=by rw[Hid,beq_eq_false_iff_ne.2 hkn];rfl
    have hkI:((br.known:Int) == (kn:Int))=false:=beq_eq_false_iff_ne.2 (by omega)
    go_wp2
    go_roundw
    case rel=>exact⟨k+1,by omega,by go_num,by rw[HS.out,HA.out,HF.out];rfl,hbk.alloc hszk _⟩
    case measure=>simp[intOf];omega
  ·have HF:Hid (zbx J kn=false):=by
    rw[Hid,HE.out]
    have q:=HA.out
    rw[List.take_of_length_le (by omega)] at q
    exact q
   go_wp2
   go_ret
   exact⟨by rw[HF.out];rfl,hbk⟩
end Go.Proofs.YteampbddflhngabGreat
