import Derived.Test.YteampbddflhngabGreatY15

namespace Go.Proofs.YteampbddflhngabGreat
set_option maxRecDepth 100000
set_option maxHeartbeats 4000000
open Go.RowKit
variable {lo:Nat}
theorem JIn.hold2{w:World}{jb:Nat}{J:zav}{P:zbx}(h:JIn lo w jb J P)(p:Nat)(hp:p < 5):∃ ao cap,P.hvs[p]?=some (.slice ao (J.holds.getD p []).length cap)/\w.cell? ⟨jb,5+p,none⟩=some (.slice ao (J.holds.getD p []).length cap)/\(J.holds.getD p []).length<=1000/\(∀ k (hk:k < (J.holds.getD p []).length),∃ hb,ao=some ⟨hb,0,none⟩/\hb < w.heap.size/\w.cell? ⟨hb,k * 2,none⟩=some (.int .i64 ((J.holds.getD p [])[k].1:Nat))/\w.cell? ⟨hb,k * 2+1,none⟩=some (.int .i64 ((J.holds.getD p [])[k].2:Nat))/\(J.holds.getD p [])[k].2<=1000000):=by
 have h1:p < J.holds.length:=by rw[h.hlen.2];exact hp
 have h2:p < P.hvs.length:=by rw[h.hlen.1];exact hp
 have e:J.holds.getD p []=J.holds[p]:=by simp[List.getD_eq_getElem?_getD,h1]
 rw[e]
 obtain⟨ho,hl,hsm⟩:=h.holds p h1 h2
 obtain⟨ao,cap,hv⟩:=zac ho
 obtain⟨hc,_⟩:=h.box.rules
 refine⟨ao,cap,by rw[List.getElem?_eq_getElem h2,hv],?_,hl,fun k hk=>?_⟩
 ·rw[← hv,hc]
  obtain⟨a1,a2,a3,a4,a5,e1⟩:=five h.hlen.1
  simp only[e1] at h2 ⊢
  obtain rfl|rfl|rfl|rfl|rfl:p=0∨p=1∨p=2∨p=3∨p=4:=by omega
  all_goals simp[zcb,e1]
 ·obtain⟨hb,cap',hv2,_,hbl,hcl⟩:=zal ho (by omega)
  have hv3:=hv.symm.trans hv2
  simp only[Value.slice.injEq] at hv3
  obtain⟨c0,c1⟩:=ziy J.holds[p] k hk
  exact⟨hb,hv3.1,hbl,hcl _ _ c0,hcl _ _ c1,(hsm _ (List.getElem_mem hk)).2⟩
def zmz(J:zav)(p v:Nat):zav:={ J with values:=J.values.set p v,«from»:=(if p+1 < 5 then(J.from.set p (v+1)).set (p+1) 0 else J.from.set p (v+1)) }
theorem z7e(J:zav)(p v:Nat)(hp:p < 5):zf0 J p v=(J.holds.getD p []).foldl (zek v) (zmz J p v):=by unfold zf0;rw[if_neg (by omega)];rfl
theorem JIn.setVal{w:World}{jb:Nat}{J:zav}{P:zbx}(h:JIn lo w jb J P)(p v:Nat)(hp:p+1 < 5):JIn lo (((w.setCell ⟨jb,16+p,none⟩ (.int .i64 (v:Nat))).setCell ⟨jb,21+p,none⟩ (.int .i64 ((v:Int)+1))).setCell ⟨jb,21+(p+1),none⟩ (.int .i64 0)) jb (zmz J p v) P:=by
 obtain⟨f1,f2,f3⟩:=h.fives
 refine h.rebox (((zas.set _ _ _ _).trans (zas.set _ _ _ _)).trans (zas.set _ _ _ _)) ?_ rfl rfl rfl rfl rfl (by simp[zmz,hp,f1,f2,f3])
 obtain⟨a1,a2,a3,a4,a5,e1⟩:=five h.hlen.1
 obtain⟨b1,b2,b3,b4,b5,e2⟩:=five f1
 obtain⟨c1,c2,c3,c4,c5,e3⟩:=five f2
 obtain⟨d1,d2,d3,d4,d5,e4⟩:=five f3
 have hq:=((h.box.set (16+p) (.int .i64 (v:Nat))).set (21+p) (.int .i64 ((v:Int)+1))).set (21+(p+1)) (.int .i64 0)
 obtain rfl|rfl|rfl|rfl:p=0∨p=1∨p=2∨p=3:=by omega
 all_goals simpa [zcb,zmz,e1,e2,e3,e4,ivN] using hq
theorem JIn.setVal4{w:World}{jb:Nat}{J:zav}{P:zbx}(h:JIn lo w jb J P)(p v:Nat)(hp:p < 5)(h4:¬ p+1 < 5):JIn lo ((w.setCell ⟨jb,16+p,none⟩ (.int .i64 (v:Nat))).setCell ⟨jb,21+p,none⟩ (.int .i64 ((v:Int)+1))) jb (zmz J p v) P:=by
 obtain rfl:p=4:=by omega
 obtain⟨f1,f2,f3⟩:=h.fives
 refine h.rebox ((zas.set _ _ _ _).trans (zas.set _ _ _ _)) ?_ rfl rfl rfl rfl rfl (by simp[zmz,f1,f2,f3])
 obtain⟨a1,a2,a3,a4,a5,e1⟩:=five h.hlen.1
 obtain⟨b1,b2,b3,b4,b5,e2⟩:=five f1
 obtain⟨c1,c2,c3,c4,c5,e3⟩:=five f2
 obtain⟨d1,d2,d3,d4,d5,e4⟩:=five f3
 have hq:=(h.box.set (16+4) (.int .i64 (v:Nat))).set (21+4) (.int .i64 ((v:Int)+1))
 simpa [zcb,zmz,e1,e2,e3,e4,ivN] using hq
theorem zvv(v:Nat)(J:zav)(h:Nat × Nat):(zek v J h).holds=J.holds:=by unfold zek;split <;> rfl
theorem zl4(v:Nat):∀(hs:List (Nat × Nat)) (J:zav),(hs.foldl (zek v) J).holds=J.holds
 |[],J=>rfl
 |h::r,J=>by rw[List.foldl_cons,zl4 v r,zvv]
theorem JIn.vals{w:World}{jb:Nat}{J:zav}{P:zbx}(h:JIn lo w jb J P)(p:Nat)(hp:p < 5):w.cell? ⟨jb,16+p,none⟩=some (.int .i64 (J.values.getD p 0:Nat))/\w.cell? ⟨jb,21+p,none⟩=some (.int .i64 (J.from.getD p 0:Nat))/\w.cell? ⟨jb,10+p,none⟩=some (.int .i64 (J.backs.getD p 0)):=by
 obtain⟨hc,_⟩:=h.box.rules
 obtain⟨f1,f2,f3⟩:=h.fives
 obtain⟨a1,a2,a3,a4,a5,e1⟩:=five h.hlen.1
 obtain⟨b1,b2,b3,b4,b5,e2⟩:=five f1
 obtain⟨c1,c2,c3,c4,c5,e3⟩:=five f2
 obtain⟨d1,d2,d3,d4,d5,e4⟩:=five f3
 rw[hc,hc,hc]
 obtain rfl|rfl|rfl|rfl|rfl:p=0∨p=1∨p=2∨p=3∨p=4:=by omega
 all_goals simp[zcb,e1,e2,e3,e4,ivN]
theorem z2l(w:World)(jb:Nat)(J:zav)(P:zbx)(p v:Nat)(h:JIn lo w jb J P)(hv:v<=1000000) :
  Calls Tryz.prog 157 #[.pointer (some ⟨jb,0,none⟩),.int .i64 p,.int .i64 v] w fun e w'=>e=.returned (.tuple #[])/\JIn lo w' jb (zf0 J p v) P/\zas (jb::P.sv.ownBlock.toList) w w':=by
 have HJ:Hid (JIn lo w jb J P):=h
 by_cases h5:p < 5
 ·have HE:Hid (zf0 J p v=(J.holds.getD p []).foldl (zek v) (zmz J p v)):=z7e J p v h5
  obtain⟨hjl,hjf,_⟩:=h.at
  obtain⟨hc1,hc2,_⟩:=h.vals p h5
  by_cases h4:p+1 < 5
  ·obtain⟨_,hc3,_⟩:=h.vals (p+1) h4
   have hp5:(p:Int) < 5:=by omega
   have hp6:(p:Int)+1 < 5:=by omega
   have hJ1:=h.setVal p v h4
   have hS1:zas [jb] w (((w.setCell ⟨jb,16+p,none⟩ (.int .i64 (v:Nat))).setCell ⟨jb,21+p,none⟩ (.int .i64 ((v:Int)+1))).setCell ⟨jb,21+(p+1),none⟩ (.int .i64 0)):=((zas.set _ _ _ _).trans (zas.set _ _ _ _)).trans (zas.set _ _ _ _)
   clear h
   go_enter Tryz.func157,Tryz.ntmps157
   go_upto_region 5 with fail
   clear hc1 hc2 hc3
   generalize (((w.setCell ⟨jb,16+p,none⟩ (.int .i64 (v:Nat))).setCell ⟨jb,21+p,none⟩ (.int .i64 ((v:Int)+1))).setCell ⟨jb,21+(p+1),none⟩ (.int .i64 0))=w1 at *
   have HJ1:Hid (JIn lo w1 jb (zmz J p v) P):=hJ1
   clear hJ1 hjl hjf
   obtain⟨ao,cap,hvv,hcH,hlen,_⟩:=HJ1.out.hold2 p (by omega)
   obtain⟨hjl1,hjf1,_⟩:=HJ1.out.at
   rw[show(zmz J p v).holds=J.holds from rfl] at hvv hcH hlen
   obtain⟨hs,hhs⟩:∃ hs,hs=J.holds.getD p []:=⟨_,rfl⟩
   rw[← hhs] at hvv hcH hlen HE
   have HHS:Hid (hs=J.holds.getD p []):=hhs
   have HVV:Hid (P.hvs[p]?=some (.slice ao hs.length cap)):=hvv
   clear hhs hvv
   go_wp2
   clear hcH hjl1 hjf1
   generalize decide ((p:Int) < 0)=bb1
   generalize decide ((5:Int)<=(p:Int))=bb2
   go_loopw [43] (fun v43 wr=>∃ k:Nat,k<=hs.length/\v43=.int .i64 k/\Hid (JIn lo wr jb ((hs.take k).foldl (zek v) (zmz J p v)) P)/\zas (jb::P.sv.ownBlock.toList) w wr) (fun i _=>hs.length - (intOf i).toNat)
   case atStart=>exact⟨0,Nat.zero_le _,rfl,HJ1,hS1.more (by simp)⟩
   case round =>
    obtain⟨k,hk,rfl,HJK,hsv⟩:=hrel
    by_cases hlt:k < hs.length
    ·obtain⟨ao3,cap3,q1,_,_,q2⟩:=HJK.out.hold2 p (by omega)
     rw[zl4,show(zmz J p v).holds=J.holds from rfl,← HHS.out] at q1 q2
     rw[HVV.out] at q1
     simp only[Option.some.injEq,Value.slice.injEq] at q1
     obtain⟨rfl,_,rfl⟩:=q1
     obtain⟨hb,rfl,hhb,hx0,hx1,hx2⟩:=q2 k hlt
     have HS:Hid ((hs.take (k+1)).foldl (zek v) (zmz J p v)=zek v ((hs.take k).foldl (zek v) (zmz J p v)) hs[k]):=zdm hs (zek v) (zmz J p v) k hlt
     have HD:Hid (∀ W,Below wr.heap.size wr W->Calls Tryz.prog 159 #[.pointer (some ⟨jb,0,none⟩),.agg #[.int .i64 (hs[k].1:Nat),.int .i64 (hs[k].2:Nat)],.int .i64 v] W fun e w'=>e=.returned (.tuple #[])/\JIn lo w' jb (zek v ((hs.take k).foldl (zek v) (zmz J p v)) hs[k]) P/\zas P.sv.ownBlock.toList W w'):=fun W hW=>ztn W jb _ P hs[k].1 hs[k].2 v (HJK.out.below hW) hx2
     clear q2
     generalize (hs.take k).foldl (zek v) (zmz J p v)=Jk at *
     generalize hs[k]=hd at *
     go_wp2_with (first|(go_at_call 159;refine(HD.out _ (by exact(by go_grown))).mono ?_;rintro e w2 ⟨rfl,hj2,hs2⟩;have HJ2:Hid (JIn lo w2 jb (zek v Jk hd) P):=hj2;clear hj2;have hS3:zas P.sv.ownBlock.toList wr w2:=(zas.of (M:=P.sv.ownBlock.toList) (show Below wr.heap.size wr _ from(by go_grown))).trans hs2))
     go_roundw
     case rel=>exact⟨k+1,by omega,by go_num,by rw[HS.out];exact HJ2.out,hsv.trans (hS3.more (fun x hx=>List.mem_cons_of_mem _ hx))⟩
     case measure=>simp[intOf];omega
    ·obtain rfl:k=hs.length:=by omega
     rw[List.take_length] at HJK
     go_wp2
     go_end0
     exact⟨rfl,by rw[HE.out];exact HJK.out,hsv⟩
  ·have hp5:(p:Int) < 5:=by omega
   have hp6:¬ (p:Int)+1 < 5:=by omega
   have hJ1:=h.setVal4 p v h5 h4
   have hS1:zas [jb] w ((w.setCell ⟨jb,16+p,none⟩ (.int .i64 (v:Nat))).setCell ⟨jb,21+p,none⟩ (.int .i64 ((v:Int)+1))):=(zas.set _ _ _ _).trans (zas.set _ _ _ _)
   clear h
   go_enter Tryz.func157,Tryz.ntmps157
   go_upto_region 5 with fail
   clear hc1 hc2
   generalize ((w.setCell ⟨jb,16+p,none⟩ (.int .i64 (v:Nat))).setCell ⟨jb,21+p,none⟩ (.int .i64 ((v:Int)+1)))=w1 at *
   have HJ1:Hid (JIn lo w1 jb (zmz J p v) P):=hJ1
   clear hJ1 hjl hjf
   obtain⟨ao,cap,hvv,hcH,hlen,_⟩:=HJ1.out.hold2 p (by omega)
   obtain⟨hjl1,hjf1,_⟩:=HJ1.out.at
   rw[show(zmz J p v).holds=J.holds from rfl] at hvv hcH hlen
   obtain⟨hs,hhs⟩:∃ hs,hs=J.holds.getD p []:=⟨_,rfl⟩
   rw[← hhs] at hvv hcH hlen HE
   have HHS:Hid (hs=J.holds.getD p []):=hhs
   have HVV:Hid (P.hvs[p]?=some (.slice ao hs.length cap)):=hvv
   clear hhs hvv
   go_wp2
   clear hcH hjl1 hjf1
   generalize decide ((p:Int) < 0)=bb1
   generalize decide ((5:Int)<=(p:Int))=bb2
   go_loopw [43] (fun v43 wr=>∃ k:Nat,k<=hs.length/\v43=.int .i64 k/\Hid (JIn lo wr jb ((hs.take k).foldl (zek v) (zmz J p v)) P)/\zas (jb::P.sv.ownBlock.toList) w wr) (fun i _=>hs.length - (intOf i).toNat)
   case atStart=>exact⟨0,Nat.zero_le _,rfl,HJ1,hS1.more (by simp)⟩
   case round =>
    obtain⟨k,hk,rfl,HJK,hsv⟩:=hrel
    by_cases hlt:k < hs.length
    ·obtain⟨ao3,cap3,q1,_,_,q2⟩:=HJK.out.hold2 p (by omega)
     rw[zl4,show(zmz J p v).holds=J.holds from rfl,← HHS.out] at q1 q2
     rw[HVV.out] at q1
     simp only[Option.some.injEq,Value.slice.injEq] at q1
     obtain⟨rfl,_,rfl⟩:=q1
     obtain⟨hb,rfl,hhb,hx0,hx1,hx2⟩:=q2 k hlt
     have HS:Hid ((hs.take (k+1)).foldl (zek v) (zmz J p v)=zek v ((hs.take k).foldl (zek v) (zmz J p v)) hs[k]):=zdm hs (zek v) (zmz J p v) k hlt
     have HD:Hid (∀ W,Below wr.heap.size wr W->Calls Tryz.prog 159 #[.pointer (some ⟨jb,0,none⟩),.agg #[.int .i64 (hs[k].1:Nat),.int .i64 (hs[k].2:Nat)],.int .i64 v] W fun e w'=>e=.returned (.tuple #[])/\JIn lo w' jb (zek v ((hs.take k).foldl (zek v) (zmz J p v)) hs[k]) P/\zas P.sv.ownBlock.toList W w'):=fun W hW=>ztn W jb _ P hs[k].1 hs[k].2 v (HJK.out.below hW) hx2
     clear q2
     generalize (hs.take k).foldl (zek v) (zmz J p v)=Jk at *
     generalize hs[k]=hd at *
     go_wp2_with (first|(go_at_call 159;refine(HD.out _ (by exact(by go_grown))).mono ?_;rintro e w2 ⟨rfl,hj2,hs2⟩;have HJ2:Hid (JIn lo w2 jb (zek v Jk hd) P):=hj2;clear hj2;have hS3:zas P.sv.ownBlock.toList wr w2:=(zas.of (M:=P.sv.ownBlock.toList) (show Below wr.heap.size wr _ from(by go_grown))).trans hs2))
     go_roundw
     case rel=>exact⟨k+1,by omega,by go_num,by rw[HS.out];exact HJ2.out,hsv.trans (hS3.more (fun x hx=>List.mem_cons_of_mem _ hx))⟩
     case measure=>simp[intOf];omega
    ·obtain rfl:k=hs.length:=by omega
     rw[List.take_length] at HJK
     go_wp2
     go_end0
     exact⟨rfl,by rw[HE.out];exact HJK.out,hsv⟩
 ·have HE:Hid (zf0 J p v=J):=by unfold zf0;rw[Hid,if_pos (by omega)]
  clear h
  go_enter Tryz.func157,Tryz.ntmps157
  go_wp2
  (try simp only[Exit.inBlock,Exit.then]);refine bodyPost_ret (results_none rfl _ _ _) rfl ?_
  exact⟨rfl,by rw[HE.out];exact HJ.out,zas.refl _ _⟩
theorem JIn.bar{w:World}{jb:Nat}{J:zav}{P:zbx}(h:JIn lo w jb J P)(k:Nat)(hk:k < J.bars.length) :
  ∃ gb cap ao2 cap2 tb fp,P.bv=.slice (some ⟨gb,0,none⟩) J.bars.length cap/\gb < w.heap.size/\w.cell? ⟨gb,k * 4,none⟩=some (.int .i64 (J.bars[k].lit.pred:Nat))/\w.cell? ⟨gb,k * 4+1,none⟩=some (.slice ao2 J.bars[k].lit.terms.length cap2)/\w.cell? ⟨gb,k * 4+2,none⟩=some (.int .i64 (J.bars[k].known:Nat))/\w.cell? ⟨gb,k * 4+3,none⟩=some (.pointer (some ⟨tb,0,none⟩))/\zaq lo w (.slice ao2 J.bars[k].lit.terms.length cap2) J.bars[k].lit.terms/\zat lo w tb J.bars[k].rows fp:=by
 obtain⟨gb,cap,hv,_,hgb,hc⟩:=zal h.bars (by omega)
 have hk2:k < P.bps.length:=by rw[h.blen];exact hk
 obtain⟨c0,c1,c2,c3⟩:=zk4 (List.zipWith zyy J.bars P.bps) k (by simp;omega)
 simp only[List.getElem_zipWith,zyy] at c0 c1 c2 c3
 obtain⟨t1,t2⟩:=h.btries k hk hk2
 obtain⟨ao2,cap2,e⟩:=t1.shape
 rw[e] at c1 t1
 exact⟨gb,cap,ao2,cap2,_,_,hv,hgb,hc _ _ c0,hc _ _ c1,hc _ _ c2,hc _ _ c3,t1,t2⟩
theorem z8y(l:zak)(vals:List Nat):zcs l vals=[rowCell l vals 0,rowCell l vals 1,rowCell l vals 2]:=rfl
theorem zpv(w:World)(jb:Nat)(J:zav)(P:zbx)(kn:Nat)(h:JIn lo w jb J P) :
  Calls Tryz.prog 152 #[.pointer (some ⟨jb,0,none⟩),.int .i64 kn] w fun e w'=>e=.returned (.bool (zb3 J kn))/\Below w.heap.size w w':=by
 have HJ:Hid (JIn lo w jb J P):=h
 obtain⟨hjl,hjf,_,_,_,_,hc4,_⟩:=h.at
 obtain⟨aob,capb,hbv⟩:=zac h.bars
 rw[hbv] at hc4
 obtain⟨a,b,c,d,e,hvals⟩:=five h.fives.2.1
 have hfew:=h.few.2.1
 have HV:Hid (∀ W,JIn lo W jb J P->W.cell? ⟨jb,16,none⟩=some (.int .i64 (a:Nat))/\W.cell? ⟨jb,17,none⟩=some (.int .i64 (b:Nat))/\W.cell? ⟨jb,18,none⟩=some (.int .i64 (c:Nat))/\W.cell? ⟨jb,19,none⟩=some (.int .i64 (d:Nat))/\W.cell? ⟨jb,20,none⟩=some (.int .i64 (e:Nat))):=fun W hW=>by
  have q0:=(hW.vals 0 (by omega)).1
  have q1:=(hW.vals 1 (by omega)).1
  have q2:=(hW.vals 2 (by omega)).1
  have q3:=(hW.vals 3 (by omega)).1
  have q4:=(hW.vals 4 (by omega)).1
  rw[hvals] at q0 q1 q2 q3 q4
  exact⟨q0,q1,q2,q3,q4⟩
 have HE:Hid (zb3 J kn=J.bars.any (fun x=>x.known == kn && (zdt x.rows [rowCell x.lit [a,b,c,d,e] 0,rowCell x.lit [a,b,c,d,e] 1,rowCell x.lit [a,b,c,d,e] 2]).isSome)):=by
  rw[Hid];unfold zb3;rw[hvals];rfl
 clear h
 go_enter Tryz.func152,Tryz.ntmps152
 go_wp2
 clear hc4 hjl hjf
 go_loopw [15] (fun v15 wr=>∃ k:Nat,k<=J.bars.length/\v15=.int .i64 k/\Hid ((J.bars.take k).any (fun x=>x.known == kn && (zdt x.rows [rowCell x.lit [a,b,c,d,e] 0,rowCell x.lit [a,b,c,d,e] 1,rowCell x.lit [a,b,c,d,e] 2]).isSome)=false)/\Below w.heap.size w wr) (fun i _=>J.bars.length - (intOf i).toNat)
 case atStart=>exact⟨0,Nat.zero_le _,rfl,rfl,Below.refl _ _⟩
 case round =>
  obtain⟨k,hk,rfl,HA,hbk⟩:=hrel
  have hszk:=hbk.size
  by_cases hlt:k < J.bars.length
  ·have hjk:=HJ.out.below hbk
   obtain⟨hjl,hjf,_⟩:=hjk.at
   obtain⟨hv0,hv1,hv2,hv3,hv4⟩:=HV.out wr hjk
   obtain⟨gb,cap,ao2,cap2,tb,fp,hbv2,hgb,hx0,hx1,hx2,hx3,hT,hTr⟩:=hjk.bar k hlt
   rw[hbv] at hbv2
   simp only[Value.slice.injEq] at hbv2
   obtain⟨rfl,_,rfl⟩:=hbv2
   have HS:Hid ((J.bars.take (k+1)).any (fun x=>x.known == kn && (zdt x.rows [rowCell x.lit [a,b,c,d,e] 0,rowCell x.lit [a,b,c,d,e] 1,rowCell x.lit [a,b,c,d,e] 2]).isSome)=((J.bars.take k).any (fun x=>x.known == kn && (zdt x.rows [rowCell x.lit [a,b,c,d,e] 0,rowCell x.lit [a,b,c,d,e] 1,rowCell x.lit [a,b,c,d,e] 2]).isSome) || (J.bars[k].known == kn && (zdt J.bars[k].rows [rowCell J.bars[k].lit [a,b,c,d,e] 0,rowCell J.bars[k].lit [a,b,c,d,e] 1,rowCell J.bars[k].lit [a,b,c,d,e] 2]).isSome))):=any_take_succ J.bars _ k hlt
   have HTT:Hid ((J.bars[k].known == kn && (zdt J.bars[k].rows [rowCell J.bars[k].lit [a,b,c,d,e] 0,rowCell J.bars[k].lit [a,b,c,d,e] 1,rowCell J.bars[k].lit [a,b,c,d,e] 2]).isSome)=true->zb3 J kn=true):=fun q=>by rw[HE.out];exact zsq J.bars _ k hlt q
   have HRW:Hid (∀ W,Below wr.heap.size wr W->Calls Tryz.prog 102 #[.agg #[.int .i64 (J.bars[k].lit.pred:Nat),.slice ao2 J.bars[k].lit.terms.length cap2],.agg #[.int .i64 (a:Nat),.int .i64 (b:Nat),.int .i64 (c:Nat),.int .i64 (d:Nat),.int .i64 (e:Nat)]] W fun r w'=>r=.returned (.agg #[.int .i64 ((rowCell J.bars[k].lit [a,b,c,d,e] 0:Nat):Int),.int .i64 ((rowCell J.bars[k].lit [a,b,c,d,e] 1:Nat):Int),.int .i64 ((rowCell J.bars[k].lit [a,b,c,d,e] 2:Nat):Int)])/\Below W.heap.size W w'):=fun W hW=>zwq W _ J.bars[k].lit.pred J.bars[k].lit.terms a b c d e (hT.below hW)
   have HMK:Hid (∀ W x y z,Below wr.heap.size wr W->Calls Tryz.prog 55 #[.pointer (some ⟨tb,0,none⟩),.agg #[.int .i64 ((x:Nat):Int),.int .i64 ((y:Nat):Int),.int .i64 ((z:Nat):Int)]] W fun r w'=>r=.returned (.tuple #[.int .i64 (((zdt J.bars[k].rows [x,y,z]).getD 0:Nat):Int),.bool (zdt J.bars[k].rows [x,y,z]).isSome])/\Below W.heap.size W w'):=fun W x y z hW=>zuz W tb _ fp x y z (hTr.below hW)
   clear hT hTr hjk
   generalize J.bars[k]=br at *
   generalize rowCell br.lit [a,b,c,d,e] 0=r0 at *
   generalize rowCell br.lit [a,b,c,d,e] 1=r1 at *
   generalize rowCell br.lit [a,b,c,d,e] 2=r2 at *
   by_cases hkn:br.known=kn
   ·subst hkn
    have HM2:Hid (∀ W,Below wr.heap.size wr W->Calls Tryz.prog 55 #[.pointer (some ⟨tb,0,none⟩),.agg #[.int .i64 (r0:Nat),.int .i64 (r1:Nat),.int .i64 (r2:Nat)]] W fun r w'=>r=.returned (.tuple #[.int .i64 (((zdt br.rows [r0,r1,r2]).getD 0:Nat):Int),.bool (zdt br.rows [r0,r1,r2]).isSome])/\Below W.heap.size W w'):=fun W hW=>HMK.out W r0 r1 r2 hW
    clear HMK
    generalize (zdt br.rows [r0,r1,r2]).getD 0=mg at *
    generalize (zdt br.rows [r0,r1,r2]).isSome=ms at *
    have hkI:((br.known:Int) == (br.known:Int))=true:=beq_self_eq_true _
    have hbxN:=Box.new wr #[.int .i64 (br.lit.pred:Nat),.slice ao2 br.lit.terms.length cap2,.int .i64 (br.known:Nat),.pointer (some ⟨tb,0,none⟩)] 245
    have hBA:Below wr.heap.size wr (wr.alloc (.cells #[.int .i64 (br.lit.pred:Nat),.slice ao2 br.lit.terms.length cap2,.int .i64 (br.known:Nat),.pointer (some ⟨tb,0,none⟩)] 245)):=(Below.refl _ _).alloc (Nat.le_refl _) _
    have hJA:=HJ.out.below (zae hbk hBA (Nat.le_refl _))
    obtain⟨hjlA,hjfA,_⟩:=hJA.at
    obtain⟨hA0,hA1,hA2,hA3,hA4⟩:=HV.out _ hJA
    clear hJA
    go_wp2
    generalize wr.alloc (.cells #[.int .i64 (br.lit.pred:Nat),.slice ao2 br.lit.terms.length cap2,.int .i64 (br.known:Nat),.pointer (some ⟨tb,0,none⟩)] 245)=wA at *
    clear hx0 hx1 hx2 hx3 hv0 hv1 hv2 hv3 hv4 hjl hjf
    obtain⟨hnc,hnf⟩:=hbxN.rules
    have hnl:=hbxN.lt
    have hzA:=hBA.size
    go_region_held3 (fun w'=>w'.cell? ⟨wr.heap.size,0,none⟩=some (.int .i64 (br.lit.pred:Nat))/\w'.cell? ⟨wr.heap.size,1,none⟩=some (.slice ao2 br.lit.terms.length cap2)/\w'.cell? ⟨jb,16,none⟩=some (.int .i64 (a:Nat))/\w'.cell? ⟨jb,17,none⟩=some (.int .i64 (b:Nat))/\w'.cell? ⟨jb,18,none⟩=some (.int .i64 (c:Nat))/\w'.cell? ⟨jb,19,none⟩=some (.int .i64 (d:Nat))/\w'.cell? ⟨jb,20,none⟩=some (.int .i64 (e:Nat))) (first|go_keep|(go_simp;done)) (first|(go_at_call 102;refine(HRW.out _ (by exact(by go_grown))).mono ?_;rintro r w2 ⟨rfl,hb2⟩;have hB2:Below wA.heap.size wA w2:=(zae (by go_grown) hb2 (Nat.le_refl _));have hbx2:=hbxN.below hB2;obtain⟨hnc2,hnf2⟩:=hbx2.rules;have hnl2:=hbx2.lt;have hz2:=hB2.size;have hJ2:=HJ.out.below (zae (zae hbk hBA (Nat.le_refl _)) hB2 (Nat.le_refl _));obtain⟨hjl2,hjf2,_⟩:=hJ2.at;obtain⟨hE0,hE1,hE2,hE3,hE4⟩:=HV.out w2 hJ2;try (have hrz:=(show Box ((wA.alloc (.cells #[.int .i64 0,.int .i64 0,.int .i64 0] 116)).drew) wA.heap.size #[.int .i64 0,.int .i64 0,.int .i64 0] 116 from Box.drew (Box.new _ _ _)).below hb2;obtain⟨hrzc,hrzf⟩:=hrz.rules;have hrzl:=hrz.lt)))
    all_goals
     have hBW:Below wr.heap.size wr w2:=zae hBA hB2 (Nat.le_refl _)
     clear hE0 hE1 hE2 hE3 hE4 hA0 hA1 hA2 hA3 hA4
     cases ms with
     |true =>
      have HT2:Hid (zb3 J br.known=true):=HTT.out (by simp)
      go_wp2_with (first|(go_at_call 55;refine(HM2.out _ (by exact(by go_grown))).mono ?_;rintro r w3 ⟨rfl,hb3⟩;have hB3:Below wr.heap.size wr w3:=(zae (by go_grown) hb3 (Nat.le_refl _))))
      go_ret
      exact⟨by rw[HT2.out];rfl,zae hbk hB3 (Nat.le_refl _)⟩
     |false =>
      have HF:Hid ((J.bars.take (k+1)).any (fun x=>x.known == br.known && (zdt x.rows [rowCell x.lit [a,b,c,d,e] 0,rowCell x.lit [a,b,c,d,e] 1,rowCell x.lit [a,b,c,d,e] 2]).isSome)=false):=by rw[Hid,HS.out,HA.out];simp
      go_wp2_with (first|(go_at_call 55;refine(HM2.out _ (by exact(by go_grown))).mono ?_;rintro r w3 ⟨rfl,hb3⟩;have hB3:Below wr.heap.size wr w3:=(zae (by go_grown) hb3 (Nat.le_refl _))))
      go_roundw
      case rel=>exact⟨k+1,by omega,by go_num,HF,zae hbk hB3 (Nat.le_refl _)⟩
      case measure=>simp[intOf];omega
   ·have HF:Hid ((br.known == kn && (zdt br.rows [r0,r1,r2]).isSome)=false):=by rw[Hid,beq_eq_false_iff_ne.2 hkn];rfl
    have hkI:((br.known:Int) == (kn:Int))=false:=beq_eq_false_iff_ne.2 (by omega)
    go_wp2
    go_roundw
    case rel=>exact⟨k+1,by omega,by go_num,by rw[HS.out,HA.out,HF.out];rfl,hbk.alloc hszk _⟩
    case measure=>simp[intOf];omega
  ·have HF:Hid (zb3 J kn=false):=by
    rw[Hid,HE.out]
    have q:=HA.out
    rw[List.take_of_length_le (by omega)] at q
    exact q
   go_wp2
   go_ret
   exact⟨by rw[HF.out];rfl,hbk⟩
def Narrow(J:zav):Prop:=∀ s∈J.sides,s.rows.width<=1000
theorem JIn.narrow{w:World}{jb:Nat}{J:zav}{P:zbx}(h:JIn lo w jb J P):Narrow J:=by
 intro s hs
 obtain⟨k,hk,rfl⟩:=List.getElem_of_mem hs
 obtain⟨nv,ns,ht,_⟩:=h.tries k hk (by rw[h.slen];exact hk)
 exact ht.wide
theorem ztx{J:zav}(h:Narrow J)(hd:Nat × Nat)(f:Nat):Narrow (zhj J hd f).1/\∀ v,(zhj J hd f).2=some v->v<=1000/\f<=1000:=by
 unfold zhj
 split
 ·rename_i hst
  refine⟨h,fun v hv=>?_⟩
  have hsl:hd.1 < J.sides.length:=by simp[zcq] at hst;exact hst.1
  have e:J.sides.getD hd.1 zej.zero=J.sides[hd.1]:=by simp[List.getD_eq_getElem?_getD,hsl]
  simp only[e] at hv
  have hw:=h _ (List.getElem_mem hsl)
  have h1:=znb hv
  have h2:f < J.sides[hd.1].rows.width:=by
   unfold zcn at hv
   split at hv
   ·rename_i q;exact q.2
   ·cases hv
  omega
 ·exact⟨h,fun v hv=>by cases hv⟩
theorem zsn:∀(n:Nat) (J:zav) (hs:List (Nat × Nat)) (a same turn:Nat) (J':zav) (v:Nat),Narrow J->(same < hs.length∨a<=1000)->zid n J hs a same turn=some (J',some v)->v<=1000
 |0,_,_,_,_,_,_,_,_,_,h=>by simp[zid] at h
 |n+1,J,hs,a,same,turn,J',v,hN,hor,h=>by
  unfold zid at h
  by_cases hsl:same < hs.length
  ·rw[if_pos hsl] at h
   obtain⟨h1,h2⟩:=ztx hN (hs.getD turn (0,0)) a
   generalize zhj J (hs.getD turn (0,0)) a=lj at *
   obtain⟨J2,r2⟩:=lj
   cases r2 with
   |none=>simp at h
   |some u =>
    obtain⟨hu,ha⟩:=h2 u rfl
    refine zsn n J2 hs _ _ _ J' v h1 (Or.inr ?_) h
    split <;> omega
  ·rw[if_neg hsl] at h
   simp only[Option.some.injEq,Prod.mk.injEq] at h
   obtain⟨_,rfl⟩:=h
   omega
theorem z05{n:Nat}{J J':zav}{p f v:Nat}(hN:Narrow J)(h:zml n J p f=some (J',some v)):v<=1000:=by
 unfold zml at h
 by_cases hc:p ≥ 5∨(J.holds.getD p []).length=0
 ·rw[if_pos hc] at h;simp at h
 ·rw[if_neg hc] at h
  exact zsn n J _ f 0 0 J' v hN (Or.inl (by omega)) h
theorem z0j(w:World)(jb:Nat)(J:zav)(P:zbx)(n:Nat)(J':zav)(b:Bool)(h:JIn lo w jb J P)(hr:ze9 n J J.depth=some (J',b)) :
  Calls Tryz.prog 153 #[.pointer (some ⟨jb,0,none⟩)] w fun e w'=>e=.returned (.bool b)/\JIn lo w' jb J' P/\zas (jb::P.sv.ownBlock.toList) w w':=by
 have HJ:Hid (JIn lo w jb J P):=h
 have HR:Hid (ze9 n J J.depth=some (J',b)):=hr
 obtain⟨hjl,hjf,_,_,_,_,_,_,hc26,_⟩:=h.at
 clear h hr
 go_enter Tryz.func153,Tryz.ntmps153
 go_wp2
 clear hc26 hjl hjf
 go_loopg [3] n (fun k v3 wr=>∃(Jk:zav) (dk:Int),v3=.int .i64 dk/\Hid (ze9 k Jk dk=some (J',b))/\Hid (JIn lo wr jb Jk P)/\zas (jb::P.sv.ownBlock.toList) w wr)
 case atStart=>exact⟨J,J.depth,rfl,HR,HJ,zas.refl _ _⟩
 case round =>
  obtain⟨Jk,dk,rfl,HQ,HJK,hsv⟩:=hrel
  obtain⟨hjl,hjf,_,_,hc2,_⟩:=HJK.out.at
  have hvr:=HJK.out.few.2.2
  cases gk with
  |zero=>have q:=HQ.out;simp[ze9] at q
  |succ m =>
   have q:=HQ.out
   unfold ze9 at q
   by_cases hcond:0<=dk/\dk < Jk.vars/\dk < 5
   ·rw[if_pos hcond] at q
    obtain⟨d1,d2,d3⟩:=hcond
    obtain⟨p,rfl⟩:∃ p:Nat,dk=p:=⟨dk.toNat,by omega⟩
    have hp5:p < 5:=by omega
    simp only[Int.toNat_natCast] at q
    obtain⟨_,hcf,hcb⟩:=HJK.out.vals p hp5
    cases ha:zml m Jk p (Jk.from.getD p 0) with
    |none=>rw[ha] at q;cases q
    |some ar =>
     obtain⟨J2,r2⟩:=ar
     rw[ha] at q
     have HAG:Hid (Calls Tryz.prog 156 #[.pointer (some ⟨jb,0,none⟩),.int .i64 p,.int .i64 ((Jk.from.getD p 0:Nat):Int)] wr fun e w'=>e=.returned (.tuple #[.int .i64 ((r2.getD 0:Nat):Int),.bool r2.isSome])/\JIn lo w' jb J2 P/\zas [jb] wr w'):=z06 wr jb Jk P p _ m J2 r2 HJK.out ha
     cases r2 with
     |none =>
      simp only[Option.getD_none,Option.isSome_none] at HAG
      have HQ2:Hid (ze9 m J2 (J2.backs.getD p 0)=some (J',b)):=q
      clear q ha
      generalize Jk.from.getD p 0=fr at *
      go_wp2_with (first|(go_at_call 156;refine HAG.out.mono ?_;rintro e w2 ⟨rfl,hj2,hs2⟩;have HJ2:Hid (JIn lo w2 jb J2 P):=hj2;obtain⟨hjl2,hjf2,_⟩:=hj2.at;obtain⟨_,_,hcb2⟩:=hj2.vals p hp5;clear hj2))
      go_roundg m
      case measure=>omega
      case rel=>exact⟨J2,J2.backs.getD p 0,rfl,HQ2,HJ2,hsv.trans (hs2.more (by simp))⟩
     |some v =>
      have hv:=z05 HJK.out.narrow ha
      simp only[Option.getD_some,Option.isSome_some] at HAG
      have HQ2:Hid (ze9 m (zf0 J2 p v) (if zb3 (zf0 J2 p v) (p+1)=true then(p:Int) else(p:Int)+1)=some (J',b)):=q
      clear q ha
      have HTK:Hid (∀ W,JIn lo W jb J2 P->Calls Tryz.prog 157 #[.pointer (some ⟨jb,0,none⟩),.int .i64 p,.int .i64 v] W fun e w'=>e=.returned (.tuple #[])/\JIn lo w' jb (zf0 J2 p v) P/\zas (jb::P.sv.ownBlock.toList) W w'):=fun W hW=>z2l W jb J2 P p v hW (by omega)
      have HBR:Hid (∀ W,JIn lo W jb (zf0 J2 p v) P->Calls Tryz.prog 152 #[.pointer (some ⟨jb,0,none⟩),.int .i64 ((p:Int)+1)] W fun e w'=>e=.returned (.bool (zb3 (zf0 J2 p v) (p+1)))/\Below W.heap.size W w'):=fun W hW=>by
       have q:=zpv W jb _ P (p+1) hW
       rw[show((p+1:Nat):Int)=(p:Int)+1 from by omega] at q
       exact q
      generalize Jk.from.getD p 0=fr at *
      generalize zb3 (zf0 J2 p v) (p+1)=bb at *
      generalize zf0 J2 p v=J3 at *
      cases bb with
      |true =>
       rw[if_pos rfl] at HQ2
       go_wp2_with (first|(go_at_call 156;refine HAG.out.mono ?_;rintro e w2 ⟨rfl,hj2,hs2⟩;have HJ2:Hid (JIn lo w2 jb J2 P):=hj2;clear hj2)|(go_at_call 157;refine(HTK.out _ HJ2.out).mono ?_;rintro e w3 ⟨rfl,hj3,hs3⟩;have HJ3:Hid (JIn lo w3 jb J3 P):=hj3;clear hj3)|(go_at_call 152;refine(HBR.out _ HJ3.out).mono ?_;rintro e w4 ⟨rfl,hb4⟩))
       go_roundg m
       case measure=>omega
       case rel=>exact⟨J3,p,rfl,HQ2,HJ3.out.below hb4,((hsv.trans (hs2.more (by simp))).trans hs3).newer (zas.of (M:=[]) hb4) (by simp)⟩
      |false =>
       rw[if_neg (by simp)] at HQ2
       go_wp2_with (first|(go_at_call 156;refine HAG.out.mono ?_;rintro e w2 ⟨rfl,hj2,hs2⟩;have HJ2:Hid (JIn lo w2 jb J2 P):=hj2;clear hj2)|(go_at_call 157;refine(HTK.out _ HJ2.out).mono ?_;rintro e w3 ⟨rfl,hj3,hs3⟩;have HJ3:Hid (JIn lo w3 jb J3 P):=hj3;clear hj3)|(go_at_call 152;refine(HBR.out _ HJ3.out).mono ?_;rintro e w4 ⟨rfl,hb4⟩))
       go_roundg m
       case measure=>omega
       case rel=>exact⟨J3,(p:Int)+1,rfl,HQ2,HJ3.out.below hb4,((hsv.trans (hs2.more (by simp))).trans hs3).newer (zas.of (M:=[]) hb4) (by simp)⟩
   ·rw[if_neg hcond] at q
    simp only[Option.some.injEq,Prod.mk.injEq] at q
    obtain⟨e1,e2⟩:=q
    have HE:Hid (J'=Jk/\b=decide (dk ≥ Jk.vars)):=⟨e1.symm,e2.symm⟩
    clear e1 e2
    by_cases g1:0<=dk
    ·by_cases g2:dk < (Jk.vars:Int)
     ·have g3:¬ dk < 5:=by omega
      go_wp2
      go_ret
      exact⟨by rw[HE.out.2];first|(simp;done)|(simp;omega),by rw[HE.out.1];exact HJK.out,hsv⟩
     ·go_wp2
      go_ret
      exact⟨by rw[HE.out.2];first|(simp;done)|(simp;omega),by rw[HE.out.1];exact HJK.out,hsv⟩
    ·go_wp2
     go_ret
     exact⟨by rw[HE.out.2];first|(simp;done)|(simp;omega),by rw[HE.out.1];exact HJK.out,hsv⟩
theorem JIn.setDepth{w:World}{jb:Nat}{J:zav}{P:zbx}(h:JIn lo w jb J P)(m:Int):JIn lo (w.setCell ⟨jb,26,none⟩ (.int .i64 m)) jb { J with depth:=m } P:=by
 obtain⟨f1,f2,f3⟩:=h.fives
 refine h.rebox (zas.set _ _ _ _) ?_ rfl rfl rfl rfl rfl h.fives
 obtain⟨a1,a2,a3,a4,a5,e1⟩:=five h.hlen.1
 obtain⟨b1,b2,b3,b4,b5,e2⟩:=five f1
 obtain⟨c1,c2,c3,c4,c5,e3⟩:=five f2
 obtain⟨d1,d2,d3,d4,d5,e4⟩:=five f3
 have hq:=h.box.set 26 (.int .i64 m)
 simpa [zcb,e1,e2,e3,e4] using hq
theorem next_any(w:World)(jb:Nat)(J:zav)(P:zbx)(n:Nat)(J':zav)(b:Bool)(h:JIn lo w jb J P)(hr:zua n J=some (J',b)) :
  Calls Tryz.prog 144 #[.pointer (some ⟨jb,0,none⟩)] w fun e w'=>e=.returned (.bool b)/\JIn lo w' jb J' P/\zas (jb::P.sv.ownBlock.toList) w w':=by
 unfold zua at hr
 cases hs:ze9 n J J.depth with
 |none=>rw[hs] at hr;cases hr
 |some sr =>
  obtain⟨J2,b2⟩:=sr
  rw[hs] at hr
  simp only[Option.some.injEq,Prod.mk.injEq] at hr
  obtain⟨e1,rfl⟩:=hr
  have HSE:Hid (Calls Tryz.prog 153 #[.pointer (some ⟨jb,0,none⟩)] w fun e w'=>e=.returned (.bool b2)/\JIn lo w' jb J2 P/\zas (jb::P.sv.ownBlock.toList) w w'):=z0j w jb J P n J2 b2 h hs
  have HE:Hid (J'={ J2 with depth:=if b2=true then J2.last else -1 }):=e1.symm
  clear e1 h hs
  cases b2 with
  |false =>
   go_enter Tryz.func144,Tryz.ntmps144
   go_wp2_with (first|(go_at_call 153;refine HSE.out.mono ?_;rintro e w2 ⟨rfl,hj2,hs2⟩;have HJ2:Hid (JIn lo w2 jb J2 P):=hj2;obtain⟨hjl,hjf,_,_,_,_,_,hc15,hc26,_⟩:=hj2.at;clear hj2))
   go_ret
   exact⟨rfl,by rw[HE.out];exact HJ2.out.setDepth (-1),hs2.trans ((zas.set _ _ _ _).more (by simp))⟩
  |true =>
   go_enter Tryz.func144,Tryz.ntmps144
   go_wp2_with (first|(go_at_call 153;refine HSE.out.mono ?_;rintro e w2 ⟨rfl,hj2,hs2⟩;have HJ2:Hid (JIn lo w2 jb J2 P):=hj2;obtain⟨hjl,hjf,_,_,_,_,_,hc15,hc26,_⟩:=hj2.at;clear hj2))
   go_ret
   exact⟨rfl,by rw[HE.out];exact(HJ2.out.setDepth (-1)).setDepth J2.last,(hs2.trans ((zas.set _ _ _ _).more (by simp))).trans ((zas.set _ _ _ _).more (by simp))⟩
set_option maxHeartbeats 2000000
theorem z3c(w:World)(jb:Nat)(J:zav)(P:zbx)(h:JIn lo w jb J P) :
  Calls Tryz.prog 146 #[.pointer (some ⟨jb,0,none⟩)] w fun e w'=>e=.returned (.int .i64 J.moves)/\w'=w:=by
 obtain⟨hjl,hjf,_,_,_,_,_,_,_,hc27⟩:=h.at
 clear h
 go_enter Tryz.func146,Tryz.ntmps146
 go_wp2
 go_ret
 exact⟨rfl,rfl⟩
theorem z5v(w:World)(jb:Nat)(J:zav)(P:zbx)(h:JIn lo w jb J P) :
  Calls Tryz.prog 145 #[.pointer (some ⟨jb,0,none⟩)] w fun r w'=>r=.returned (.agg #[.int .i64 ((rowCell J.head J.values 0:Nat):Int),.int .i64 ((rowCell J.head J.values 1:Nat):Int),.int .i64 ((rowCell J.head J.values 2:Nat):Int)])/\Below w.heap.size w w':=by
 obtain⟨hjl,hjf,hc0,hc1,_⟩:=h.at
 obtain⟨a,b,c,d,e,hvals⟩:=five h.fives.2.1
 have q0:=(h.vals 0 (by omega)).1
 have q1:=(h.vals 1 (by omega)).1
 have q2:=(h.vals 2 (by omega)).1
 have q3:=(h.vals 3 (by omega)).1
 have q4:=(h.vals 4 (by omega)).1
 rw[hvals] at q0 q1 q2 q3 q4 ⊢
 obtain⟨aot,capt,htv⟩:=h.head.shape
 have hT:=h.head
 rw[htv] at hc1 hT
 have HRW:Hid (∀ W,Below w.heap.size w W->Calls Tryz.prog 102 #[.agg #[.int .i64 (J.head.pred:Nat),.slice aot J.head.terms.length capt],.agg #[.int .i64 (a:Nat),.int .i64 (b:Nat),.int .i64 (c:Nat),.int .i64 (d:Nat),.int .i64 (e:Nat)]] W fun r w'=>r=.returned (.agg #[.int .i64 ((rowCell J.head [a,b,c,d,e] 0:Nat):Int),.int .i64 ((rowCell J.head [a,b,c,d,e] 1:Nat):Int),.int .i64 ((rowCell J.head [a,b,c,d,e] 2:Nat):Int)])/\Below W.heap.size W w'):=fun W hW=>zwq W _ J.head.pred J.head.terms a b c d e (hT.below hW)
 simp only[Nat.reduceAdd,List.getD_cons_zero,List.getD_cons_succ] at q0 q1 q2 q3 q4
 clear h hT hvals htv
 generalize rowCell J.head [a,b,c,d,e] 0=r0 at *
 generalize rowCell J.head [a,b,c,d,e] 1=r1 at *
 generalize rowCell J.head [a,b,c,d,e] 2=r2 at *
 go_enter Tryz.func145,Tryz.ntmps145
 go_wp2
 go_region_with (go_at_call 102;refine(HRW.out _ (by exact(by go_grown))).mono ?_;rintro r w2 ⟨rfl,hb2⟩;have hB2:Below w.heap.size w w2:=(zae (by go_grown) hb2 (Nat.le_refl _));have hrb:=(Box.drew (Box.new w #[.int .i64 0,.int .i64 0,.int .i64 0] 116)).below hb2;obtain⟨hrc,hrf⟩:=hrb.rules;have hrl:=hrb.lt)
 all_goals
  go_wp2
  exact bodyPost_ret (v:=.agg #[.int .i64 (r0:Nat),.int .i64 (r1:Nat),.int .i64 (r2:Nat)]) (by simp[results,Tryz.results145,go_sem,hrc]) rfl ⟨rfl,((hB2.setCell (p:=⟨w.heap.size,0,none⟩) (by simp) _).setCell (p:=⟨w.heap.size,1,none⟩) (by simp) _).setCell (p:=⟨w.heap.size,2,none⟩) (by simp) _⟩
set_option maxHeartbeats 4000000
theorem Tryz.infoHold:(Tryz.prog.info? 247).map (fun i=>(i.zero,i.size,i.bytes))=some (some (.agg #[.int .i64 0,.int .i64 0]),2,16):=by kernel_rfl
def zk7(pl:Nat)(x:zak × Nat):Option (Nat × Nat):=(zbr x.1 pl).map fun lv=>(x.2,lv)
theorem zti(r:zah)(pl:Nat):zb2 r pl=r.plain.zipIdx.filterMap (zk7 pl):=rfl
theorem zzk(ls:List zak)(pl k:Nat)(hk:k < ls.length):(ls.take (k+1)).zipIdx.filterMap (zk7 pl)=(ls.take k).zipIdx.filterMap (zk7 pl)++((zbr ls[k] pl).map fun lv=>(k,lv)).toList:=by
 rw[List.take_succ_eq_append_getElem hk,List.zipIdx_append,List.filterMap_append]
 congr 1
 simp only[List.zipIdx_singleton,List.length_take,Nat.zero_add,List.filterMap_cons,List.filterMap_nil,zk7]
 rw[Nat.min_eq_left (by omega)]
 cases zbr ls[k] pl <;> rfl
theorem zpj(hs:List (Nat × Nat))(x:Nat × Nat):zcm (hs++[x])=zcm hs++[.int .i64 (x.1:Nat),.int .i64 (x.2:Nat)]:=by simp[zcm]
theorem zv4(w:World)(tv pv nv:Value)(r:zah)(pl:Nat)(h:zdp lo w tv pv nv r)(hp:pl<=1000000) :
  Calls Tryz.prog 150 #[zlp r tv pv nv,.int .i64 pl] w fun e w'=>∃ hv,e=.returned hv/\w'.ownsRow w.heap.size 247 2 hv (zb2 r pl).length (zcm (zb2 r pl))/\Below w.heap.size w w':=by
 obtain⟨i0,hi,hz0,hzs,hzb⟩:=info_parts Tryz.infoHold
 obtain⟨aop,capp,rfl⟩:=h.plain.shape
 have hpl:=h.plain.len
 have hP:=h.plain
 have HE:Hid (zb2 r pl=r.plain.zipIdx.filterMap (zk7 pl)):=rfl
 unfold zlp
 clear h
 generalize r.plain=ls at *
 go_enter Tryz.func150,Tryz.ntmps150
 go_wp2
 go_loopw [5,13] (fun v5 v13 wr=>∃ k:Nat,k<=ls.length/\v13=.int .i64 k/\wr.ownsRow w.heap.size 247 2 v5 ((ls.take k).zipIdx.filterMap (zk7 pl)).length (zcm ((ls.take k).zipIdx.filterMap (zk7 pl)))/\Below w.heap.size w wr) (fun _ i _=>ls.length - (intOf i).toNat)
 case atStart=>exact⟨0,Nat.zero_le _,rfl,World.ownsRow_nil _ _ _ _,(by go_grown)⟩
 case round =>
  obtain⟨k,hk,rfl,hown,hbk⟩:=hrel
  have hszk:=hbk.size
  have hcnt:((ls.take k).zipIdx.filterMap (zk7 pl)).length<=k:=by
   have:=List.length_filterMap_le (zk7 pl) (ls.take k).zipIdx
   simp at this
   omega
  by_cases hlt:k < ls.length
  ·obtain⟨g,ao2,cap2,hao,hg,h0,h1,hT⟩:=hP.cell k hlt
   subst hao
   have hx0:=(hbk.cell (p:=⟨g,k * 2,none⟩) hg).trans h0
   have hx1:=(hbk.cell (p:=⟨g,k * 2+1,none⟩) hg).trans h1
   have hgr:g < wr.heap.size:=by omega
   have HS:Hid ((ls.take (k+1)).zipIdx.filterMap (zk7 pl)=(ls.take k).zipIdx.filterMap (zk7 pl)++((zbr ls[k] pl).map fun lv=>(k,lv)).toList):=zzk ls pl k hlt
   have HLV:Hid (∀ W,Below w.heap.size w W->Calls Tryz.prog 120 #[.agg #[.int .i64 (ls[k].pred:Nat),.slice ao2 ls[k].terms.length cap2],.int .i64 pl] W fun e w'=>e=.returned (.tuple #[.int .i64 (((zbr ls[k] pl).getD 0:Nat):Int),.bool (zbr ls[k] pl).isSome])/\Below W.heap.size W w'):=fun W hW=>zt4 W _ ls[k].pred pl ls[k].terms (hT.below hW) hp
   clear h0 h1 hT
   generalize ls[k]=l at *
   generalize (ls.take k).zipIdx.filterMap (zk7 pl)=hs at *
   generalize zbr l pl=ol at *
   cases ol with
   |none =>
    simp only[Option.map_none,Option.toList_none,List.append_nil] at HS
    simp only[Option.getD_none,Option.isSome_none] at HLV
    go_wp2_with (first|(go_at_call 120;refine(HLV.out _ (by exact(by go_grown))).mono ?_;rintro e w2 ⟨rfl,hb2⟩;have hB2:Below wr.heap.size wr w2:=(zae (by go_grown) hb2 (Nat.le_refl _))))
    go_roundw
    case rel=>exact⟨k+1,by omega,by go_num,by rw[HS.out];exact zaa hown hB2,zae hbk hB2 (Nat.le_refl _)⟩
    case measure=>simp[intOf];omega
   |some lv =>
    simp only[Option.map_some,Option.toList_some] at HS
    simp only[Option.getD_some,Option.isSome_some] at HLV
    obtain⟨aoh,caph,rfl⟩:=zac hown
    go_wp2_with (first|(go_at_call 120;refine(HLV.out _ (by exact(by go_grown))).mono ?_;rintro e w2 ⟨rfl,hb2⟩;have hB2:Below wr.heap.size wr w2:=(zae (by go_grown) hb2 (Nat.le_refl _));have hown2:=zaa hown hB2;have hz2:=hB2.size)|(at_builtin;refine zcf w2 _ [.int .i64 (k:Nat),.int .i64 (lv:Nat)] _ rfl (.tmp 25) (.tmp 29) 229 rfl w.heap.size 247 i0 _ 2 16 Tryz.underlying229 hi hz0 hzs hzb rfl (by decide) (.slice aoh hs.length caph) hs.length (zcm hs) rfl hown2 (Below.refl _ _) _ _ rfl (by simp) rfl (by simp[Value.oneCell']) (by omega) (by omega) (by omega) ?_;intro v' w3 ho3 hS3 hat3))
    go_roundw
    case rel=>exact⟨k+1,by omega,by go_num,by rw[HS.out,zpj,List.length_append];exact ho3,(zae hbk hB2 (Nat.le_refl _)).trans (hS3.below (fun x hx=>zeg hown2 (zcx hx)) (by omega))⟩
    case measure=>simp[intOf];omega
  ·rw[List.take_of_length_le (by omega)] at hown
   go_wp2
   go_ret
   exact⟨_,rfl,by rw[HE.out];exact hown,hbk⟩
end Go.Proofs.YteampbddflhngabGreat
