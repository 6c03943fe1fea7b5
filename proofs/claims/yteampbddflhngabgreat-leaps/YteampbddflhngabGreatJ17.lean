import Derived.Test.YteampbddflhngabGreatJ16
import Derived.Test.YteampbddflhngabGreatJ09

namespace Go.Proofs.YteampbddflhngabGreat
set_option maxRecDepth 100000
set_option maxHeartbeats 4000000
open Go.RowKit
variable {lo:Nat}
def Narrow(J:zat):Prop:=∀ s∈J.sides,s.rows.width<=1000
theorem JIn.narrow{w:World}{jb:Nat}{J:zat}{P:zbo}(h:JIn lo w jb J P):Narrow J:=by
 intro s hs
 obtain⟨k,hk,rfl⟩:=List.getElem_of_mem hs
 obtain⟨nv,ns,ht,_⟩:=h.tries k hk (by rw[h.slen];exact hk)
 exact ht.wide
theorem zst{J:zat}(h:Narrow J)(hd:Nat × Nat)(f:Nat):Narrow (zhb J hd f).1/\∀ v,(zhb J hd f).2=some v->v<=1000/\f<=1000:=by
 unfold zhb
 split
 ·rename_i hst
  refine⟨h,fun v hv=>?_⟩
  have hsl:hd.1 < J.sides.length:=by simp[zcn] at hst;exact hst.1
  have e:J.sides.getD hd.1 zea.zero=J.sides[hd.1]:=by simp[List.getD_eq_getElem?_getD,hsl]
  simp only[e] at hv
  have hw:=h _ (List.getElem_mem hsl)
  have h1:=zmj hv
  have h2:f < J.sides[hd.1].rows.width:=by
   unfold zcj at hv
   split at hv
   ·rename_i q;exact q.2
   ·cases hv
  omega
 ·exact⟨h,fun v hv=>by cases hv⟩
theorem zro:∀(n:Nat) (J:zat) (hs:List (Nat × Nat)) (a same turn:Nat) (J':zat) (v:Nat),Narrow J->(same < hs.length∨a<=1000)->zh4 n J hs a same turn=some (J',some v)->v<=1000
 |0,_,_,_,_,_,_,_,_,_,h=>by simp[zh4] at h
 |n+1,J,hs,a,same,turn,J',v,hN,hor,h=>by
  unfold zh4 at h
  by_cases hsl:same < hs.length
  ·rw[if_pos hsl] at h
   obtain⟨h1,h2⟩:=zst hN (hs.getD turn (0,0)) a
   generalize zhb J (hs.getD turn (0,0)) a=lj at *
   obtain⟨J2,r2⟩:=lj
   cases r2 with
   |none=>simp at h
   |some u =>
    obtain⟨hu,ha⟩:=h2 u rfl
    refine zro n J2 hs _ _ _ J' v h1 (Or.inr ?_) h
    split <;> omega
  ·rw[if_neg hsl] at h
   simp only[Option.some.injEq,Prod.mk.injEq] at h
   obtain⟨_,rfl⟩:=h
   omega
theorem zzr{n:Nat}{J J':zat}{p f v:Nat}(hN:Narrow J)(h:zlu n J p f=some (J',some v)):v<=1000:=by
 unfold zlu at h
 by_cases hc:p ≥ 5∨(J.holds.getD p []).length=0
 ·rw[if_pos hc] at h;simp at h
 ·rw[if_neg hc] at h
  exact zro n J _ f 0 0 J' v hN (Or.inl (by omega)) h
theorem zy3(w:World)(jb:Nat)(J:zat)(P:zbo)(n:Nat)(J':zat)(b:Bool)(h:JIn lo w jb J P)(hr:ze0 n J J.depth=some (J',b)) :
  Calls Tryz.prog 153 #[.pointer (some ⟨jb,0,none⟩)] w fun e w'=>e=.returned (.bool b)/\JIn lo w' jb J' P/\zao (jb::P.sv.ownBlock.toList) w w':=by
 have HJ:Hid (JIn lo w jb J P):=h
 have HR:Hid (ze0 n J J.depth=some (J',b)):=hr
 obtain⟨hjl,hjf,_,_,_,_,_,_,hc26,_⟩:=h.at
 clear h hr
 go_enter Tryz.func153,Tryz.ntmps153
 go_wp2
 clear hc26 hjl hjf
 go_loopg [3] n (fun k v3 wr=>∃(Jk:zat) (dk:Int),v3=.int .i64 dk/\Hid (ze0 k Jk dk=some (J',b))/\Hid (JIn lo wr jb Jk P)/\zao (jb::P.sv.ownBlock.toList) w wr)
 case atStart=>exact⟨J,J.depth,rfl,HR,HJ,zao.refl _ _⟩
 case round =>
  obtain⟨Jk,dk,rfl,HQ,HJK,hsv⟩:=hrel
  obtain⟨hjl,hjf,_,_,hc2,_⟩:=HJK.out.at
  have hvr:=HJK.out.few.2.2
  cases gk with
  |zero=>have q:=HQ.out;simp[ze0] at q
  |succ m =>
   have q:=HQ.out
   unfold ze0 at q
   by_cases hcond:0<=dk/\dk < Jk.vars/\dk < 5
   ·rw[if_pos hcond] at q
    obtain⟨d1,d2,d3⟩:=hcond
    obtain⟨p,rfl⟩:∃ p:Nat,dk=p:=⟨dk.toNat,by omega⟩
    have hp5:p < 5:=by omega
    simp only[Int.toNat_natCast] at q
    obtain⟨_,hcf,hcb⟩:=HJK.out.vals p hp5
    cases ha:zlu m Jk p (Jk.from.getD p 0) with
    |none=>rw[ha] at q;cases q
    |some ar =>
     obtain⟨J2,r2⟩:=ar
     rw[ha] at q
     have HAG:Hid (Calls Tryz.prog 156 #[.pointer (some ⟨jb,0,none⟩),.int .i64 p,.int .i64 ((Jk.from.getD p 0:Nat):Int)] wr fun e w'=>e=.returned (.tuple #[.int .i64 ((r2.getD 0:Nat):Int),.bool r2.isSome])/\JIn lo w' jb J2 P/\zao [jb] wr w'):=zzs wr jb Jk P p _ m J2 r2 HJK.out ha
     cases r2 with
     |none =>
      simp only[Option.getD_none,Option.isSome_none] at HAG
      have HQ2:Hid (ze0 m J2 (J2.backs.getD p 0)=some (J',b)):=q
      clear q ha
      generalize Jk.from.getD p 0=fr at *
      go_wp2_with (first|(go_at_call 156;refine HAG.out.mono ?_;rintro e w2 ⟨rfl,hj2,hs2⟩;have HJ2:Hid (JIn lo w2 jb J2 P):=hj2;obtain⟨hjl2,hjf2,_⟩:=hj2.at;obtain⟨_,_,hcb2⟩:=hj2.vals p hp5;clear hj2))
      go_roundg m
      case measure=>omega
      case rel=>exact⟨J2,J2.backs.getD p 0,rfl,HQ2,HJ2,hsv.trans (hs2.more (by simp))⟩
     |some v =>
      have hv:=zzr HJK.out.narrow ha
      simp only[Option.getD_some,Option.isSome_some] at HAG
      have HQ2:Hid (ze0 m (zft J2 p v) (if zbx (zft J2 p v) (p+1)=true then(p:Int) else(p:Int)+1)=some (J',b)):=q
      clear q ha
      have HTK:Hid (∀ W,JIn lo W jb J2 P->Calls Tryz.prog 157 #[.pointer (some ⟨jb,0,none⟩),.int .i64 p,.int .i64 v] W fun e w'=>e=.returned (.tuple #[])/\JIn lo w' jb (zft J2 p v) P/\zao (jb::P.sv.ownBlock.toList) W w'):=fun W hW=>z0z W jb J2 P p v hW (by omega)
      have HBR:Hid (∀ W,JIn lo W jb (zft J2 p v) P->Calls Tryz.prog 152 #[.pointer (some ⟨jb,0,none⟩),.int .i64 ((p:Int)+1)] W fun e w'=>e=.returned (.bool (zbx (zft J2 p v) (p+1)))/\Below W.heap.size W w'):=fun W hW=>by
       have q:=zox W jb _ P (p+1) hW
       rw[show((p+1:Nat):Int)=(p:Int)+1 from by omega] at q
       exact q
      generalize Jk.from.getD p 0=fr at *
      generalize zbx (zft J2 p v) (p+1)=bb at *
      generalize zft J2 p v=J3 at *
      cases bb with
      |true =>
       rw[if_pos rfl] at HQ2
       go_wp2_with (first|(go_at_call 156;refine HAG.out.mono ?_;rintro e w2 ⟨rfl,hj2,hs2⟩;have HJ2:Hid (JIn lo w2 jb J2 P):=hj2;clear hj2)|(go_at_call 157;refine(HTK.out _ HJ2.out).mono ?_;rintro e w3 ⟨rfl,hj3,hs3⟩;have HJ3:Hid (JIn lo w3 jb J3 P):=hj3;clear hj3)|(go_at_call 152;refine(HBR.out _ HJ3.out).mono ?_;rintro e w4 ⟨rfl,hb4⟩))
       go_roundg m
       case measure=>omega
       case rel=>exact⟨J3,p,rfl,HQ2,HJ3.out.below hb4,((hsv.trans (hs2.more (by simp))).trans hs3).newer (zao.of (M:=[]) hb4) (by simp)⟩
      |false =>
       rw[if_neg (by simp)] at HQ2
       go_wp2_with (first|(go_at_call 156;refine HAG.out.mono ?_;rintro e w2 ⟨rfl,hj2,hs2⟩;have HJ2:Hid (JIn lo w2 jb J2 P):=hj2;clear hj2)|(go_at_call 157;refine(HTK.out _ HJ2.out).mono ?_;rintro e w3 ⟨rfl,hj3,hs3⟩;have HJ3:Hid (JIn lo w3 jb J3 P):=hj3;clear hj3)|(go_at_call 152;refine(HBR.out _ HJ3.out).mono ?_;rintro e w4 ⟨rfl,hb4⟩))
       go_roundg m
       case measure=>omega
       case rel=>exact⟨J3,(p:Int)+1,rfl,HQ2,HJ3.out.below hb4,((hsv.trans (hs2.more (by simp))).trans hs3).newer (zao.of (M:=[]) hb4) (by simp)⟩
   ·rw[if_neg hcond] at q
    simp only[Option.some.injEq,Prod.mk.injEq] at q
    obtain⟨e1,e2⟩:=q
    have HE:Hid (J'=Jk/\b=decide (dk ≥ Jk.vars)):=⟨e1.symm,e2.symm⟩
    clear e1 e2
    by_cases g1:0<=dk
    ·by_cases g2:dk < (Jk.vars:Int)
     ·have g3:¬ dk < 5:=by omega
      go_wp2
      go_ret
      exact⟨by rw[HE.out.2];first|(simp;done)|(simp;omega),by rw[HE.out.1];exact HJK.out,hsv⟩
     ·go_wp2
      go_ret
      exact⟨by rw[HE.out.2];first|(simp;done)|(simp;omega),by rw[HE.out.1];exact HJK.out,hsv⟩
    ·go_wp2
     go_ret
     exact⟨by rw[HE.out.2];first|(simp;done)|(simp;omega),by rw[HE.out.1];exact HJK.out,hsv⟩
theorem JIn.setDepth{w:World}{jb:Nat}{J:zat}{P:zbo}(h:JIn lo w jb J P)(m:Int):JIn lo (w.setCell ⟨jb,26,none⟩ (.int .i64 m)) jb { J with depth:=m } P:=by
 obtain⟨f1,f2,f3⟩:=h.fives
 refine h.rebox (zao.set _ _ _ _) ?_ rfl rfl rfl rfl rfl h.fives
 obtain⟨a1,a2,a3,a4,a5,e1⟩:=five h.hlen.1
 obtain⟨b1,b2,b3,b4,b5,e2⟩:=five f1
 obtain⟨c1,c2,c3,c4,c5,e3⟩:=five f2
 obtain⟨d1,d2,d3,d4,d5,e4⟩:=five f3
 have hq:=h.box.set 26 (.int .i64 m)
 simpa [zb6,e1,e2,e3,e4] using hq
theorem next_any(w:World)(jb:Nat)(J:zat)(P:zbo)(n:Nat)(J':zat)(b:Bool)(h:JIn lo w jb J P)(hr:zs9 n J=some (J',b)) :
  Calls Tryz.prog 144 #[.pointer (some ⟨jb,0,none⟩)] w fun e w'=>e=.returned (.bool b)/\JIn lo w' jb J' P/\zao (jb::P.sv.ownBlock.toList) w w':=by
 unfold zs9 at hr
 cases hs:ze0 n J J.depth with
 |none=>rw[hs] at hr;cases hr
 |some sr =>
  obtain⟨J2,b2⟩:=sr
  rw[hs] at hr
  simp only[Option.some.injEq,Prod.mk.injEq] at hr
  obtain⟨e1,rfl⟩:=hr
  have HSE:Hid (Calls Tryz.prog 153 #[.pointer (some ⟨jb,0,none⟩)] w fun e w'=>e=.returned (.bool b2)/\JIn lo w' jb J2 P/\zao (jb::P.sv.ownBlock.toList) w w'):=zy3 w jb J P n J2 b2 h hs
  have HE:Hid (J'={ J2 with depth:=if b2=true then J2.last else -1 }):=e1.symm
  clear e1 h hs
  cases b2 with
  |false =>
   go_enter Tryz.func144,Tryz.ntmps144
   go_wp2_with (first|(go_at_call 153;refine HSE.out.mono ?_;rintro e w2 ⟨rfl,hj2,hs2⟩;have HJ2:Hid (JIn lo w2 jb J2 P):=hj2;obtain⟨hjl,hjf,_,_,_,_,_,hc15,hc26,_⟩:=hj2.at;clear hj2))
   go_ret
   exact⟨rfl,by rw[HE.out];exact HJ2.out.setDepth (-1),hs2.trans ((zao.set _ _ _ _).more (by simp))⟩
  |true =>
   go_enter Tryz.func144,Tryz.ntmps144
   go_wp2_with (first|(go_at_call 153;refine HSE.out.mono ?_;rintro e w2 ⟨rfl,hj2,hs2⟩;have HJ2:Hid (JIn lo w2 jb J2 P):=hj2;obtain⟨hjl,hjf,_,_,_,_,_,hc15,hc26,_⟩:=hj2.at;clear hj2))
   go_ret
   exact⟨rfl,by rw[HE.out];exact(HJ2.out.setDepth (-1)).setDepth J2.last,(hs2.trans ((zao.set _ _ _ _).more (by simp))).trans ((zao.set _ _ _ _).more (by simp))⟩
set_option maxHeartbeats 2000000
theorem z1e(w:World)(jb:Nat)(J:zat)(P:zbo)(h:JIn lo w jb J P) :
  Calls Tryz.prog 146 #[.pointer (some ⟨jb,0,none⟩)] w fun e w'=>e=.returned (.int .i64 J.moves)/\w'=w:=by
 obtain⟨hjl,hjf,_,_,_,_,_,_,_,hc27⟩:=h.at
 clear h
 go_enter Tryz.func146,Tryz.ntmps146
 go_wp2
 go_ret
 exact⟨rfl,rfl⟩
theorem z3w(w:World)(jb:Nat)(J:zat)(P:zbo)(h:JIn lo w jb J P) :
  Calls Tryz.prog 145 #[.pointer (some ⟨jb,0,none⟩)] w fun r w'=>r=.returned (.agg #[.int .i64 ((rowCell J.head J.values 0:Nat):Int),.int .i64 ((rowCell J.head J.values 1:Nat):Int),.int .i64 ((rowCell J.head J.values 2:Nat):Int)])/\Below w.heap.size w w':=by
 obtain⟨hjl,hjf,hc0,hc1,_⟩:=h.at
 obtain⟨a,b,c,d,e,hvals⟩:=five h.fives.2.1
 have q0:=(h.vals 0 (by omega)).1
 have q1:=(h.vals 1 (by omega)).1
 have q2:=(h.vals 2 (by omega)).1
 have q3:=(h.vals 3 (by omega)).1
 have q4:=(h.vals 4 (by omega)).1
 rw[hvals] at q0 q1 q2 q3 q4 ⊢
 obtain⟨aot,capt,htv⟩:=h.head.shape
 have hT:=h.head
 rw[htv] at hc1 hT
 have HRW:Hid (∀ W,Below w.heap.size w W->Calls Tryz.prog 102 #[.agg #[.int .i64 (J.head.pred:Nat),.slice aot J.head.terms.length capt],.agg #[.int .i64 (a:Nat),.int .i64 (b:Nat),.int .i64 (c:Nat),.int .i64 (d:Nat),.int .i64 (e:Nat)]] W fun r w'=>r=.returned (.agg #[.int .i64 ((rowCell J.head [a,b,c,d,e] 0:Nat):Int),.int .i64 ((rowCell J.head [a,b,c,d,e] 1:Nat):Int),.int .i64 ((rowCell J.head [a,b,c,d,e] 2:Nat):Int)])/\Below W.heap.size W w'):=fun W hW=>zvn W _ J.head.pred J.head.terms a b c d e (hT.below hW)
 simp only[Nat.reduceAdd,List.getD_cons_zero,List.getD_cons_succ] at q0 q1 q2 q3 q4
 clear h hT hvals htv
 generalize rowCell J.head [a,b,c,d,e] 0=r0 at *
 generalize rowCell J.head [a,b,c,d,e] 1=r1 at *
 generalize rowCell J.head [a,b,c,d,e] 2=r2 at *
 go_enter Tryz.func145,Tryz.ntmps145
 go_wp2
 go_region_with (go_at_call 102;refine(HRW.out _ (by exact(by go_grown))).mono ?_;rintro r w2 ⟨rfl,hb2⟩;have hB2:Below w.heap.size w w2:=(zae (by go_grown) hb2 (Nat.le_refl _));have hrb:=(Box.drew (Box.new w #[.int .i64 0,.int .i64 0,.int .i64 0] 116)).below hb2;obtain⟨hrc,hrf⟩:=hrb.rules;have hrl:=hrb.lt)
 all_goals
  go_wp2
  exact bodyPost_ret (v:=.agg #[.int .i64 (r0:Nat),.int .i64 (r1:Nat),.int .i64 (r2:Nat)]) (by simp[results,Tryz.results145,go_sem,hrc]) rfl ⟨rfl,((hB2.setCell (p:=⟨w.heap.size,0,none⟩) (by simp) _).setCell (p:=⟨w.heap.size,1,none⟩) (by simp) _).setCell (p:=⟨w.heap.size,2,none⟩) (by simp) _⟩
set_option maxHeartbeats 4000000
theorem Tryz.infoHold:(Tryz.prog.info? 247).map (fun i=>(i.zero,i.size,i.bytes))=some (some (.agg #[.int .i64 0,.int .i64 0]),2,16):=by kernel_rfl
def zkn(pl:Nat)(x:zai × Nat):Option (Nat × Nat):=(zbj x.1 pl).map fun lv=>(x.2,lv)
theorem zse(r:zaf)(pl:Nat):zbw r pl=r.plain.zipIdx.filterMap (zkn pl):=rfl
theorem zx9(ls:List zai)(pl k:Nat)(hk:k < ls.length):(ls.take (k+1)).zipIdx.filterMap (zkn pl)=(ls.take k).zipIdx.filterMap (zkn pl)++((zbj ls[k] pl).map fun lv=>(k,lv)).toList:=by
 rw[List.take_succ_eq_append_getElem hk,List.zipIdx_append,List.filterMap_append]
 congr 1
 simp only[List.zipIdx_singleton,List.length_take,Nat.zero_add,List.filterMap_cons,List.filterMap_nil,zkn]
 rw[Nat.min_eq_left (by omega)]
 cases zbj ls[k] pl <;> rfl
theorem zol(hs:List (Nat × Nat))(x:Nat × Nat):zci (hs++[x])=zci hs++[.int .i64 (x.1:Nat),.int .i64 (x.2:Nat)]:=by simp[zci]
theorem zuz(w:World)(tv pv nv:Value)(r:zaf)(pl:Nat)(h:zdj lo w tv pv nv r)(hp:pl<=1000000) :
  Calls Tryz.prog 150 #[zk3 r tv pv nv,.int .i64 pl] w fun e w'=>∃ hv,e=.returned hv/\w'.ownsRow w.heap.size 247 2 hv (zbw r pl).length (zci (zbw r pl))/\Below w.heap.size w w':=by
 obtain⟨i0,hi,hz0,hzs,hzb⟩:=info_parts Tryz.infoHold
 obtain⟨aop,capp,rfl⟩:=h.plain.shape
 have hpl:=h.plain.len
 have hP:=h.plain
 have HE:Hid (zbw r pl=r.plain.zipIdx.filterMap (zkn pl)):=rfl
 unfold zk3
 clear h
 generalize r.plain=ls at *
 go_enter Tryz.func150,Tryz.ntmps150
 go_wp2
 go_loopw [5,13] (fun v5 v13 wr=>∃ k:Nat,k<=ls.length/\v13=.int .i64 k/\wr.ownsRow w.heap.size 247 2 v5 ((ls.take k).zipIdx.filterMap (zkn pl)).length (zci ((ls.take k).zipIdx.filterMap (zkn pl)))/\Below w.heap.size w wr) (fun _ i _=>ls.length - (intOf i).toNat)
 case atStart=>exact⟨0,Nat.zero_le _,rfl,World.ownsRow_nil _ _ _ _,(by go_grown)⟩
 case round =>
  obtain⟨k,hk,rfl,hown,hbk⟩:=hrel
  have hszk:=hbk.size
  have hcnt:((ls.take k).zipIdx.filterMap (zkn pl)).length<=k:=by
   have:=List.length_filterMap_le (zkn pl) (ls.take k).zipIdx
   simp at this
   omega
  by_cases hlt:k < ls.length
  ·obtain⟨g,ao2,cap2,hao,hg,h0,h1,hT⟩:=hP.cell k hlt
   subst hao
   have hx0:=(hbk.cell (p:=⟨g,k * 2,none⟩) hg).trans h0
   have hx1:=(hbk.cell (p:=⟨g,k * 2+1,none⟩) hg).trans h1
   have hgr:g < wr.heap.size:=by omega
   have HS:Hid ((ls.take (k+1)).zipIdx.filterMap (zkn pl)=(ls.take k).zipIdx.filterMap (zkn pl)++((zbj ls[k] pl).map fun lv=>(k,lv)).toList):=zx9 ls pl k hlt
   have HLV:Hid (∀ W,Below w.heap.size w W->Calls Tryz.prog 120 #[.agg #[.int .i64 (ls[k].pred:Nat),.slice ao2 ls[k].terms.length cap2],.int .i64 pl] W fun e w'=>e=.returned (.tuple #[.int .i64 (((zbj ls[k] pl).getD 0:Nat):Int),.bool (zbj ls[k] pl).isSome])/\Below W.heap.size W w'):=fun W hW=>zs3 W _ ls[k].pred pl ls[k].terms (hT.below hW) hp
   clear h0 h1 hT
   generalize ls[k]=l at *
   generalize (ls.take k).zipIdx.filterMap (zkn pl)=hs at *
   generalize zbj l pl=ol at *
   cases ol with
   |none =>
    simp only[Option.map_none,Option.toList_none,List.append_nil] at HS
    simp only[Option.getD_none,Option.isSome_none] at HLV
    go_wp2_with (first|(go_at_call 120;refine(HLV.out _ (by exact(by go_grown))).mono ?_;rintro e w2 ⟨rfl,hb2⟩;have hB2:Below wr.heap.size wr w2:=(zae (by go_grown) hb2 (Nat.le_refl _))))
    go_roundw
    case rel=>exact⟨k+1,by omega,by go_num,by rw[HS.out];exact zaa hown hB2,zae hbk hB2 (Nat.le_refl _)⟩
    case measure=>simp[intOf];omega
   |some lv =>
    simp only[Option.map_some,Option.toList_some] at HS
    simp only[Option.getD_some,Option.isSome_some] at HLV
    obtain⟨aoh,caph,rfl⟩:=zab hown
    go_wp2_with (first|(go_at_call 120;refine(HLV.out _ (by exact(by go_grown))).mono ?_;rintro e w2 ⟨rfl,hb2⟩;have hB2:Below wr.heap.size wr w2:=(zae (by go_grown) hb2 (Nat.le_refl _));have hown2:=zaa hown hB2;have hz2:=hB2.size)|(at_builtin;refine zca w2 _ [.int .i64 (k:Nat),.int .i64 (lv:Nat)] _ rfl (.tmp 25) (.tmp 29) 229 rfl w.heap.size 247 i0 _ 2 16 Tryz.underlying229 hi hz0 hzs hzb rfl (by decide) (.slice aoh hs.length caph) hs.length (zci hs) rfl hown2 (Below.refl _ _) _ _ rfl (by simp) rfl (by simp[Value.oneCell']) (by omega) (by omega) (by omega) ?_;intro v' w3 ho3 hS3 hat3))
    go_roundw
    case rel=>exact⟨k+1,by omega,by go_num,by rw[HS.out,zol,List.length_append];exact ho3,(zae hbk hB2 (Nat.le_refl _)).trans (hS3.below (fun x hx=>zej hown2 (zc1 hx)) (by omega))⟩
    case measure=>simp[intOf];omega
  ·rw[List.take_of_length_le (by omega)] at hown
   go_wp2
   go_ret
   exact⟨_,rfl,by rw[HE.out];exact hown,hbk⟩
end Go.Proofs.YteampbddflhngabGreat
namespace Go.Proofs.YteampbddflhngabGreat
structure zco where
 lit:zai
 before:zad
 fresh:zad
 all:zad
 deriving DecidableEq
structure zbe where
 rule:zaf
 views:List zco
 deriving DecidableEq
structure zib where
 pred:Nat
 row:zaq
 deriving DecidableEq
structure zre where
 width:Nat
 arities:List Nat
 facts:List zib
 rules:List zaf
 deriving DecidableEq
structure zbt where
 rows:List zad
 count:Nat
 rounds:Nat
 moves:Int
 fresh:List (List zaq)
 deriving DecidableEq
def zad.zero:zad:=⟨0,0,[],0⟩
def ze2(R:zbt):zbt:={ R with fresh:=List.replicate R.rows.length [] }
def okT(T:zad):Bool:=decide (T.nodes.length<=90000000) && decide (T.count < 1000000000)
def zdq:List zaq->zad->Option zad
 |[],T=>some T
 |r::rs,T=>if okT T then zdq rs (zfh T r 0).1 else none
def rowsG(fuel:Nat)(T:zad):Option (List zaq) :=
 match zq5 fuel T with
 |none=>none
 |some rs=>if rs.length<=1048576 then some rs else none
def zxg(maxRows:Nat)(R:zbt)(pred:Nat)(row:zaq):Option (zbt × Bool) :=
 if pred < R.rows.length/\pred < R.fresh.length/\okT (R.rows.getD pred zad.zero)=true/\R.count<=1048576/\(R.fresh.getD pred []).length<=1048576 then
  match zfh (R.rows.getD pred zad.zero) row R.rounds with
  |(T,false)=>some ({ R with rows:=R.rows.set pred T },true)
  |(T,true)=>some ({ R with rows:=R.rows.set pred T,fresh:=R.fresh.set pred (R.fresh.getD pred []++[row]),count:=R.count+1 },decide (R.count+1<=maxRows))
 else none
def zf8(width:Nat)(R:zbt)(pred:Nat):zad:=if pred ≥ R.rows.length then zfp width 0 else R.rows.getD pred zad.zero
def zh6(fuel width:Nat)(V:zco)(rows:List zaq):Option zco :=
 match rowsG fuel V.fresh with
 |none=>none
 |some old =>
  match zdq old V.before,zdq (rows.filterMap (zbr V.lit)) (zfp width (za7 V.lit)),zdq (rows.filterMap (zbr V.lit)) V.all with
  |some b,some f,some a=>some { V with before:=b,fresh:=f,all:=a }
  |_,_,_=>none
def zep(width:Nat)(l:zai):zco:=⟨l,zfp width (za7 l),zfp width (za7 l),zfp width (za7 l)⟩
def zk7(fuel width:Nat)(R:zbt):List zai->Option (List zco)
 |[]=>some []
 |l::r =>
  match rowsG fuel (zf8 width R l.pred) with
  |none=>none
  |some rows=>match zh6 fuel width (zep width l) rows,zk7 fuel width R r with
   |some v,some vs=>some (v::vs)
   |_,_=>none
def worksR(fuel width:Nat)(R:zbt)(stratum:Nat):List zaf->Option (List zbe)
 |[]=>some []
 |r::rs =>
  if r.stratum=stratum then
   match zk7 fuel width R r.plain,worksR fuel width R stratum rs with
   |some vs,some ws=>some (⟨r,vs⟩::ws)
   |_,_=>none
  else worksR fuel width R stratum rs
def zde(maxRows pred:Nat):Nat->zbt->zat->Option (zbt × Bool)
 |0,_,_=>none
 |n+1,R,J =>
  match zs9 n J with
  |none=>none
  |some (J,false)=>some ({ R with moves:=IntKind.i64.wrap (R.moves+J.moves) },true)
  |some (J,true)=>match zxg maxRows R pred (zcp J.head J.values) with
   |none=>none
   |some (R,false)=>some (R,false)
   |some (R,true)=>zde maxRows pred n R J
def zhc(width:Nat)(R:zbt)(r:zaf):List zad:=r.nots.map fun l=>zf8 width R l.pred
def partly(vs:List zco)(place:Nat):List zad:=vs.zipIdx.map fun x=>if x.2 < place then x.1.before else if x.2=place then x.1.fresh else x.1.all
def zgn(fuel width maxRows:Nat)(W:zbe):Nat->Nat->zbt->Option (zbt × Bool)
 |0,_,R=>some (R,true)
 |n+1,i,R =>
  if (W.views.getD i ⟨⟨0,[]⟩,zad.zero,zad.zero,zad.zero⟩).fresh.count > 0 then
   match zde maxRows W.rule.head.pred fuel R (za0 W.rule (partly W.views i) (zhc width R W.rule)) with
   |none=>none
   |some (R,false)=>some (R,false)
   |some (R,true)=>zgn fuel width maxRows W n (i+1) R
  else zgn fuel width maxRows W n (i+1) R
def zih(fuel width maxRows:Nat)(first:Bool)(R:zbt)(W:zbe):Option (zbt × Bool) :=
 if first then zde maxRows W.rule.head.pred fuel R (za0 W.rule (W.views.map (·.all)) (zhc width R W.rule))
 else zgn fuel width maxRows W W.views.length 0 R
def zfw(fuel width maxRows:Nat)(first:Bool):List zbe->zbt->Option (zbt × Bool)
 |[],R=>some (R,true)
 |W::ws,R =>
  match zih fuel width maxRows first R W with
  |none=>none
  |some (R,false)=>some (R,false)
  |some (R,true)=>zfw fuel width maxRows first ws R
def zhe(fuel width:Nat)(fresh:List (List zaq)):List zco->Option (List zco)
 |[]=>some []
 |V::vs =>
  match (if V.lit.pred < fresh.length then zh6 fuel width V (fresh.getD V.lit.pred []) else some V),zhe fuel width fresh vs with
  |some v,some vs=>some (v::vs)
  |_,_=>none
def zhf(fuel width:Nat)(fresh:List (List zaq)):List zbe->Option (List zbe)
 |[]=>some []
 |W::ws =>
  match zhe fuel width fresh W.views,zhf fuel width fresh ws with
  |some v,some ws=>some ({ W with views:=v }::ws)
  |_,_=>none
def zpz(fuel width maxRows:Nat)(first:Bool)(ws:List zbe)(R:zbt):Option (zbt × List zbe × Bool) :=
 match zfw fuel width maxRows first ws (ze2 { R with rounds:=R.rounds+1 }) with
 |none=>none
 |some (R,false)=>some (R,ws,false)
 |some (R,true)=>(zhf fuel width R.fresh ws).map fun ws=>(R,ws,true)
def zgv(width maxRows maxRounds:Nat):Nat->Bool->List zbe->zbt->Option (zbt × Bool)
 |0,_,_,_=>none
 |n+1,first,ws,R =>
  if R.rounds ≥ maxRounds then some (R,false)
  else match zpz n width maxRows first ws R with
   |none=>none
   |some (R',_,false)=>some (R',false)
   |some (R',ws,true)=>if R'.count > R.count then zgv width maxRows maxRounds n false ws R' else some (R',true)
def zk6(fuel width maxRows maxRounds:Nat)(rules:List zaf)(R:zbt)(s:Nat):Option (zbt × Bool) :=
 match worksR fuel width R s rules with
 |none=>none
 |some ws=>if ws.length > 0 then zgv width maxRows maxRounds fuel true ws R else some (R,true)
def zf9(fuel width maxRows maxRounds:Nat)(rules:List zaf):Nat->Nat->zbt->Option (zbt × Bool)
 |0,_,R=>some (R,true)
 |n+1,s,R =>
  match zk6 fuel width maxRows maxRounds rules R s with
  |none=>none
  |some (R,false)=>some (R,false)
  |some (R,true)=>zf9 fuel width maxRows maxRounds rules n (s+1) R
def zjf(maxRows:Nat):List zib->zbt->Option (zbt × Bool)
 |[],R=>some (R,true)
 |f::fs,R =>
  match zxg maxRows R f.pred f.row with
  |none=>none
  |some (R,false)=>some (R,false)
  |some (R,true)=>zjf maxRows fs R
def zff(S:zre):zbt:=ze2 ⟨S.arities.map (zfp S.width),0,0,0,[]⟩
def z6s(fuel:Nat)(S:zre)(maxRows maxRounds:Nat):Option (Option zbt) :=
 match zjf maxRows S.facts (zff S) with
 |none=>none
 |some (_,false)=>some none
 |some (R,true)=>(zf9 fuel S.width maxRows maxRounds S.rules S.arities.length 0 R).map fun x=>if x.2 then some x.1 else none
end Go.Proofs.YteampbddflhngabGreat
namespace Go.Proofs.YteampbddflhngabGreat
open Go.RowKit
variable {lo:Nat}
abbrev zay:=Nat × Nat × Nat
def NoT(t:TypeId):Prop:=t≠168/\t≠200/\t≠3
instance (t:TypeId):Decidable (NoT t):=by unfold NoT;infer_instance
def z6y(w:World)(b:Nat):Prop:=∃ c t,Box w b c t/\¬ NoT t
theorem zqx{t:TypeId}(h:t=168∨t=200∨t=3):¬ NoT t:=by
 rintro⟨a,b,c⟩
 rcases h with h|h|h
 ·exact a h
 ·exact b h
 ·exact c h
theorem zd8{w:World}{base:Nat}{e:TypeId}{size:Nat}{v:Value}{n:Nat}{xs:List Value}(h:w.ownsRow base e size v n xs){b:Nat}(hb:v.ownBlock=some b):∃ c,Box w b c e:=by
 obtain⟨_,⟨hv,_⟩|⟨g,cap,cur,hv,_,hh,_⟩⟩:=h
 ·subst hv;cases hb
 ·subst hv;simp only[Value.ownBlock,Option.some.injEq] at hb;subst hb;exact⟨_,hh⟩
theorem Box.type{w:World}{b:Nat}{c c':Array Value}{t t':TypeId}(h:Box w b c t)(h':Box w b c' t'):t=t':=by
 unfold Box at h h'
 rw[h] at h'
 simp at h'
 exact h'.2
theorem zar.typed{w:World}{tb:Nat}{T:zad}{fp:List Nat}(h:zar lo w tb T fp):∀ b∈fp,z6y w b:=by
 obtain⟨nv,ns,ht,rfl⟩:=h
 intro b hm
 simp only[fpT,List.mem_cons,List.mem_append] at hm
 rcases hm with hm|hm|hm
 ·subst hm;exact⟨_,_,ht.box,zqx (Or.inl rfl)⟩
 ·obtain⟨c,hc⟩:=zd8 ht.nodes (zc1 hm);exact⟨_,_,hc,zqx (Or.inr (Or.inl rfl))⟩
 ·obtain⟨i,hi,e|e⟩:=zqw hm
  ·obtain⟨c,hc⟩:=zd8 (ht.leap i (by rw[← ht.len];exact hi) hi) (b:=b) (by rw[e];rfl);exact⟨_,_,hc,zqx (Or.inr (Or.inr rfl))⟩
  ·obtain⟨c,hc⟩:=zd8 (ht.down i (by rw[← ht.len];exact hi) hi) (b:=b) (by rw[e];rfl);exact⟨_,_,hc,zqx (Or.inr (Or.inr rfl))⟩
def zcs(lo:Nat)(w:World)(own:Nat->zay)(ρ:zay)(tb:Nat)(T:zad):Prop:=∃ fp,zar lo w tb T fp/\∀ b∈fp,own b=ρ
structure Mod (lo:Nat) (ok:TypeId->zay->Prop) (w:World) (own:Nat->zay) (w':World) (own':Nat->zay):Prop where
 old:∀ b,b < w.heap.size->own' b=own b
 save:∃ M,zao M w w'/\∀ b∈M,lo<=b/\b < w.heap.size/\∃ c t,Box w b c t/\ok t (own b)
def onT(rs:zay->Prop):TypeId->zay->Prop:=fun t ρ=>¬ NoT t/\rs ρ
def zev(l:List TypeId):TypeId->zay->Prop:=fun t _=>t∈l
def orK(a b:TypeId->zay->Prop):TypeId->zay->Prop:=fun t ρ=>a t ρ∨b t ρ
theorem Mod.of{ok:TypeId->zay->Prop}{w w':World}(own:Nat->zay)(hb:Below w.heap.size w w'):Mod lo ok w own w' own:=⟨fun _ _=>rfl,[],zao.of hb,by simp⟩
theorem Mod.refl{ok:TypeId->zay->Prop}(w:World)(own:Nat->zay):Mod lo ok w own w own:=Mod.of own (Below.refl _ _)
theorem Mod.more{ok ok':TypeId->zay->Prop}{w w':World}{own own':Nat->zay}(h:Mod lo ok w own w' own')(hs:∀ t ρ,ok t ρ->ok' t ρ):Mod lo ok' w own w' own':=by
 obtain⟨h1,M,h2,h3⟩:=h
 refine⟨h1,M,h2,fun b hb=>?_⟩
 obtain⟨q1,q2,c,t,q3,q4⟩:=h3 b hb
 exact⟨q1,q2,c,t,q3,hs _ _ q4⟩
theorem Mod.size{ok:TypeId->zay->Prop}{w w':World}{own own':Nat->zay}(h:Mod lo ok w own w' own'):w.heap.size<=w'.heap.size:=by
 obtain⟨_,M,h2,_⟩:=h;exact h2.size
theorem Mod.trans{ok:TypeId->zay->Prop}{a b c:World}{o1 o2 o3:Nat->zay}(h:Mod lo ok a o1 b o2)(k:Mod lo ok b o2 c o3):Mod lo ok a o1 c o3:=by
 obtain⟨h1,M,h2,h3⟩:=h
 obtain⟨k1,N,k2,k3⟩:=k
 have hz:=h2.size
 refine⟨fun x hx=>(k1 x (by omega)).trans (h1 x hx),M++N.filter (· < a.heap.size),⟨k2.os.trans h2.os,k2.tape.trans h2.tape,k2.output.trans h2.output,Nat.le_trans hz k2.size,fun x hx hn=>?_⟩,fun x hx=>?_⟩
 ·simp only[List.mem_append,List.mem_filter,not_or,not_and,decide_eq_true_eq] at hn
  exact(k2.block x (by omega) fun hm=>hn.2 hm hx).trans (h2.block x hx hn.1)
 ·simp only[List.mem_append,List.mem_filter,decide_eq_true_eq] at hx
  rcases hx with hx|⟨hx,hlt⟩
  ·exact h3 x hx
  ·obtain⟨q1,q2,c,t,q4,q5⟩:=k3 x hx
   rw[h1 x hlt] at q5
   by_cases hm:x∈M
   ·exact h3 x hm
   ·exact⟨q1,hlt,c,t,by unfold Box at q4 ⊢;rw[← h2.block x hlt hm];exact q4,q5⟩
theorem Mod.ofSave{ok:TypeId->zay->Prop}{w w':World}(own:Nat->zay){M:List Nat}(hs:zao M w w')(hM:∀ b∈M,lo<=b/\b < w.heap.size/\∃ c t,Box w b c t/\ok t (own b)):Mod lo ok w own w' own:=⟨fun _ _=>rfl,M,hs,hM⟩
theorem Mod.set{ok:TypeId->zay->Prop}{w:World}(own:Nat->zay){b:Nat}{c:Array Value}{t:TypeId}(hb:Box w b c t)(hl:lo<=b)(ht:ok t (own b))(o:Nat)(u:Value):Mod lo ok w own (w.setCell ⟨b,o,none⟩ u) own :=
 Mod.ofSave own (zao.set _ _ _ _) (fun x hx=>by simp at hx;subst hx;exact⟨hl,hb.lt,_,_,hb,ht⟩)
theorem Box.mod{ok:TypeId->zay->Prop}{w w':World}{own own':Nat->zay}{b:Nat}{c:Array Value}{t:TypeId}(h:Box w b c t)(p:Mod lo ok w own w' own')(ht:¬ ok t (own b)):Box w' b c t:=by
 obtain⟨_,M,h2,h3⟩:=p
 refine h.save h2 fun hm=>?_
 obtain⟨_,_,c',t',q,hn⟩:=h3 b hm
 rw[h.type q] at ht
 exact ht hn
theorem znq{ok:TypeId->zay->Prop}{w w':World}{own own':Nat->zay}{base:Nat}{e:TypeId}{size:Nat}{v:Value}{n:Nat}{xs:List Value}(h:w.ownsRow base e size v n xs)(p:Mod lo ok w own w' own')(ht:∀ b,v.ownBlock=some b->¬ ok e (own b)):w'.ownsRow base e size v n xs:=by
 obtain⟨_,M,h2,h3⟩:=p
 refine zbf h h2 fun b hb hm=>?_
 obtain⟨c,hc⟩:=zd8 h hb
 obtain⟨_,_,c',t',q,hn⟩:=h3 b hm
 have:=ht b hb
 rw[hc.type q] at this
 exact this hn
theorem zd7{ok:TypeId->zay->Prop}{w w':World}{own own':Nat->zay}{base:Nat}{e:TypeId}{size:Nat}{v:Value}{n:Nat}{xs:List Value}(h:w.ownsRow base e size v n xs)(p:Mod lo ok w own w' own')(ht:∀ ρ,¬ ok e ρ):w'.ownsRow base e size v n xs:=znq h p fun _ _=>ht _
theorem zar.mod{b0:Nat}{ok:TypeId->zay->Prop}{w w':World}{own own':Nat->zay}{tb:Nat}{T:zad}{fp:List Nat}(h:zar b0 w tb T fp)(p:Mod lo ok w own w' own')(hr:∀ b∈fp,∀ t,¬ NoT t->¬ ok t (own b)):zar b0 w' tb T fp:=by
 obtain⟨_,M,h4,h5⟩:=p
 refine h.save h4 fun b hb hm=>?_
 obtain⟨_,_,c,t,q,hn⟩:=h5 b hm
 obtain⟨c',t',q',hn'⟩:=h.typed b hb
 rw[q'.type q] at hn'
 exact hr b hb t hn' hn
theorem zcs.mod{ok:TypeId->zay->Prop}{w w':World}{own own':Nat->zay}{ρ:zay}{tb:Nat}{T:zad}(h:zcs lo w own ρ tb T)(p:Mod lo ok w own w' own')(hr:∀ t,¬ NoT t->¬ ok t ρ):zcs lo w' own' ρ tb T:=by
 obtain⟨fp,h1,h2⟩:=h
 exact⟨fp,h1.mod p fun b hb t ht=>by rw[h2 b hb];exact hr t ht,fun b hb=>(p.old b (h1.lt b hb).2).trans (h2 b hb)⟩
theorem zdt{rs:zay->Prop}{t:TypeId}(h:NoT t):∀ ρ,¬ onT rs t ρ:=fun _ q=>q.1 h
theorem zcs.onT{rs:zay->Prop}{w w':World}{own own':Nat->zay}{ρ:zay}{tb:Nat}{T:zad}(h:zcs lo w own ρ tb T)(p:Mod lo (onT rs) w own w' own')(hr:¬ rs ρ):zcs lo w' own' ρ tb T:=h.mod p fun _ _ q=>hr q.2
theorem zan.mod{b0:Nat}{ok:TypeId->zay->Prop}{w w':World}{own own':Nat->zay}{v:Value}{ts:List zbh}(h:zan b0 w v ts)(p:Mod lo ok w own w' own')(ht:∀ ρ,¬ ok 208 ρ):zan b0 w' v ts:=⟨zd7 h.own p ht,h.len,h.num⟩
theorem zbi.mod{b0:Nat}{ok:TypeId->zay->Prop}{w w':World}{own own':Nat->zay}{v:Value}{ls:List zai}(h:zbi b0 w v ls)(p:Mod lo ok w own w' own')(ht:∀ ρ,¬ ok 208 ρ)(ht2:∀ ρ,¬ ok 147 ρ):zbi b0 w' v ls:=by
 obtain⟨ps,h1,h2,h3,h4⟩:=h
 exact⟨ps,zd7 h1 p ht2,h2,h3,fun k a b=>⟨(h4 k a b).1,(h4 k a b).2.1.mod p ht,(h4 k a b).2.2⟩⟩
theorem zdj.mod{b0:Nat}{ok:TypeId->zay->Prop}{w w':World}{own own':Nat->zay}{tv pv nv:Value}{r:zaf}(h:zdj b0 w tv pv nv r)(p:Mod lo ok w own w' own')(ht:∀ ρ,¬ ok 208 ρ)(ht2:∀ ρ,¬ ok 147 ρ):zdj b0 w' tv pv nv r:=⟨h.head.mod p ht,h.plain.mod p ht ht2,h.nots.mod p ht ht2,h.small⟩
theorem RowsIn.mod{b0:Nat}{ok:TypeId->zay->Prop}{w w':World}{own own':Nat->zay}{v:Value}{rows:List zaq}(h:RowsIn b0 w v rows)(p:Mod lo ok w own w' own')(ht:∀ ρ,¬ ok 116 ρ):RowsIn b0 w' v rows:=⟨zd7 h.1 p ht,h.2⟩
def ext(own:Nat->zay)(n:Nat)(ρ:zay):Nat->zay:=fun b=>if b < n then own b else ρ
theorem zf4(own:Nat->zay)(n:Nat)(ρ:zay)(b:Nat)(h:b < n):ext own n ρ b=own b:=by simp[ext,h]
theorem Wrote.mod{w w':World}{own:Nat->zay}{ρ:zay}{tb:Nat}{T T':zad}{fp fp':List Nat}(h:zar lo w tb T fp)(ho:∀ b∈fp,own b=ρ)(k:Wrote lo w w' tb T' fp fp') :
  zcs lo w' (ext own w.heap.size ρ) ρ tb T'/\Mod lo (onT (·=ρ)) w own w' (ext own w.heap.size ρ):=by
 refine⟨⟨fp',k.trie,fun b hb=>?_⟩,fun b hb=>by simp[ext,hb],fp,k.save,fun b hb=>⟨(h.lt b hb).1,(h.lt b hb).2,?_⟩⟩
 ·unfold ext
  split
  ·rcases k.fresh b hb with q|q
   ·exact ho b q
   ·omega
  ·rfl
 ·obtain⟨c,t,q1,q2⟩:=h.typed b hb
  exact⟨c,t,q1,q2,ho b hb⟩
theorem Mod.extNew{ok:TypeId->zay->Prop}{w w':World}(own:Nat->zay)(ρ:zay)(hb:Below w.heap.size w w'):Mod lo ok w own w' (ext own w.heap.size ρ):=⟨fun b h=>by simp[ext,h],[],zao.of hb,by simp⟩
theorem zar.low{a b:Nat}{w:World}{tb:Nat}{T:zad}{fp:List Nat}(h:zar b w tb T fp)(hl:a<=b):zar a w tb T fp:=by
 obtain⟨nv,ns,h1,rfl⟩:=h
 exact⟨nv,ns,⟨Nat.le_trans hl h1.low,h1.box,zbb h1.nodes hl,h1.len,fun i a b=>zbb (h1.leap i a b) hl,fun i a b=>zbb (h1.down i a b) hl,h1.apart,h1.wide,h1.many,h1.deep,h1.few⟩,rfl⟩
theorem zar.new{w w':World}(own:Nat->zay)(ρ:zay){tb:Nat}{T:zad}{fp:List Nat}(h:zar w.heap.size w' tb T fp)(hl:lo<=w.heap.size):zcs lo w' (ext own w.heap.size ρ) ρ tb T :=
 ⟨fp,h.low hl,fun b hb=>by have:=(h.lt b hb).1;simp[ext,Nat.not_lt.2 this]⟩
theorem zcs.below{w w':World}{own:Nat->zay}{ρ:zay}{tb:Nat}{T:zad}(h:zcs lo w own ρ tb T)(hb:Below w.heap.size w w'):zcs lo w' own ρ tb T:=h.mod (Mod.of (ok:=fun _ _=>False) own hb) (fun _ _=>id)
theorem zcs.set{w:World}{own:Nat->zay}{ρ:zay}{tb:Nat}{T:zad}(h:zcs lo w own ρ tb T){b:Nat}{c:Array Value}{t:TypeId}(hb:Box w b c t)(ht:NoT t)(o:Nat)(u:Value):zcs lo (w.setCell ⟨b,o,none⟩ u) own ρ tb T:=by
 obtain⟨fp,h1,h2⟩:=h
 refine⟨fp,h1.save (zao.set _ _ _ _) fun x hx hm=>?_,h2⟩
 simp at hm
 subst hm
 obtain⟨c',t',q,hn⟩:=h1.typed x hx
 rw[q.type hb] at hn
 exact hn ht
end Go.Proofs.YteampbddflhngabGreat
