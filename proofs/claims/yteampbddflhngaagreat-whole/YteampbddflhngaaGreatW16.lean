import Derived.Test.YteampbddflhngaaGreatW15
import Derived.Test.YteampbddflhngaaGreatW08

namespace Go.Proofs.YteampbddflhngaaGreat
set_option maxRecDepth 100000
set_option maxHeartbeats 4000000
open Go.RowKit
variable {lo:Nat}
variable {J:zav}
def Narrow(J:zav):Prop:=∀ s∈J.qy,s.rows.qg<=1000
theorem JIn.narrow{w:World}{jb:Nat}{P:zbx}(h:JIn lo w jb J P):Narrow J:=by
 intro s hs
 obtain⟨k,hk,rfl⟩:=uau hs
 obtain⟨nv,ns,ht,_⟩:=h.tries k hk (by rw[h.slen];exact hk)
 exact ht.wide
theorem ztw(h:Narrow J)(hd:Nat × Nat)(f:Nat):Narrow (zhj J hd f).1/\∀ v,(zhj J hd f).2=some v->v<=1000/\f<=1000:=by
 unfold zhj
 split
 ·rename_i hst
  refine⟨h,fun v hv=>?_⟩
  have hsl:hd.1 < J.qy.length:=by simp[zcr] at hst;exact hst.1
  have e:J.qy.getD hd.1 zej.zero=J.qy[hd.1]:=by simp[List.getD_eq_getElem?_getD,hsl]
  simp only[e] at hv
  have hw:=h _ (uad hsl)
  have h1:=znb hv
  have h2:f < J.qy[hd.1].rows.qg:=by
   unfold zcn at hv
   split at hv
   ·rename_i q;exact q.2
   ·cases hv
  omega
 ·exact⟨h,fun v hv=>by cases hv⟩
theorem zsm:∀(n:Nat) (J:zav) (hs:List (Nat × Nat)) (a same turn:Nat) (J':zav) (v:Nat),Narrow J->(same < hs.length∨a<=1000)->zid n J hs a same turn=some (J',some v)->v<=1000
 |0,_,_,_,_,_,_,_,_,_,h=>by simp[zid] at h
 |n+1,J,hs,a,same,turn,J',v,hN,hor,h=>by
  unfold zid at h
  by_cases hsl:same < hs.length
  ·rw[if_pos hsl] at h
   obtain⟨h1,h2⟩:=ztw hN (hs.getD turn (0,0)) a
   generalize zhj J (hs.getD turn (0,0)) a=lj at *
   obtain⟨J2,r2⟩:=lj
   cases r2 with
   |none=>simp at h
   |some u =>
    obtain⟨hu,ha⟩:=h2 u rfl
    refine zsm n J2 hs _ _ _ J' v h1 (Or.inr ?_) h
    split <;> omega
  ·rw[if_neg hsl] at h
   simp only[uab,uak] at h
   obtain⟨_,rfl⟩:=h
   omega
theorem z04{n:Nat}{J':zav}{p f v:Nat}(hN:Narrow J)(h:zml n J p f=some (J',some v)):v<=1000:=by
 unfold zml at h
 by_cases hc:p ≥ 5∨(J.ja.getD p []).length=0
 ·rw[if_pos hc] at h;simp at h
 ·rw[if_neg hc] at h
  exact zsm n J _ f 0 0 J' v hN (Or.inl (by omega)) h
theorem z0i(w:World)(jb:Nat)(J:zav)(P:zbx)(n:Nat)(J':zav)(b:Bool)(h:JIn lo w jb J P)(hr:ze9 n J J.qp=some (J',b)) :
  Calls Tryz.prog 224 #[.pointer (some ⟨jb,0,none⟩)] w fun e w'=>e=.returned (.bool b)/\JIn lo w' jb J' P/\zas (jb::P.sv.ownBlock.toList) w w':=by
 have HJ:Hid (JIn lo w jb J P):=h
 have HR:Hid (ze9 n J J.qp=some (J',b)):=hr
 obtain⟨hjl,hjf,_,_,_,_,_,_,hc26,_⟩:=h.at
 clear h hr
 go_enter Tryz.func224,Tryz.ntmps224
 go_wp2
 clear hc26 hjl hjf
 go_loopg [3] n (fun k v3 wr=>∃(Jk:zav) (dk:Int),v3=.int .i64 dk/\Hid (ze9 k Jk dk=some (J',b))/\Hid (JIn lo wr jb Jk P)/\zas (jb::P.sv.ownBlock.toList) w wr)
 case atStart=>exact⟨J,J.qp,rfl,HR,HJ,zas.refl _ _⟩
 case round =>
  obtain⟨Jk,dk,rfl,HQ,HJK,hsv⟩:=hrel
  obtain⟨hjl,hjf,_,_,hc2,_⟩:=HJK.out.at
  have hvr:=HJK.out.few.2.2
  cases gk with
  |zero=>have q:=HQ.out;simp[ze9] at q
  |succ m =>
   have q:=HQ.out
   unfold ze9 at q
   by_cases hcond:0<=dk/\dk < Jk.vars/\dk < 5
   ·rw[if_pos hcond] at q
    obtain⟨d1,d2,d3⟩:=hcond
    obtain⟨p,rfl⟩:∃ p:Nat,dk=p:=⟨dk.toNat,by omega⟩
    have hp5:p < 5:=by omega
    simp only[Int.toNat_natCast] at q
    obtain⟨_,hcf,hcb⟩:=HJK.out.vals p hp5
    cases ha:zml m Jk p (Jk.from.getD p 0) with
    |none=>rw[ha] at q;cases q
    |some ar =>
     obtain⟨J2,r2⟩:=ar
     rw[ha] at q
     have HAG:Hid (Calls Tryz.prog 227 #[.pointer (some ⟨jb,0,none⟩),.int .i64 p,.int .i64 ((Jk.from.getD p 0:Nat):Int)] wr fun e w'=>e=.returned (.tuple #[.int .i64 ((r2.getD 0:Nat):Int),.bool r2.isSome])/\JIn lo w' jb J2 P/\zas [jb] wr w'):=z05 wr jb Jk P p _ m J2 r2 HJK.out ha
     cases r2 with
     |none =>
      simp only[ubh,ua9] at HAG
      have HQ2:Hid (ze9 m J2 (J2.jg.getD p 0)=some (J',b)):=q
      clear q ha
      generalize Jk.from.getD p 0=fr at *
      go_wp2_with (first|(go_at_call 227;refine HAG.out.mono ?_;rintro e w2 ⟨rfl,hj2,hs2⟩;have HJ2:Hid (JIn lo w2 jb J2 P):=hj2;obtain⟨hjl2,hjf2,_⟩:=hj2.at;obtain⟨_,_,hcb2⟩:=hj2.vals p hp5;clear hj2))
      go_roundg m
      case measure=>omega
      case rel=>exact⟨J2,J2.jg.getD p 0,rfl,HQ2,HJ2,hsv.trans (hs2.more (by simp))⟩
     |some v =>
      have hv:=z04 HJK.out.narrow ha
      simp only[uas,ua4] at HAG
      have HQ2:Hid (ze9 m (zf0 J2 p v) (if zb3 (zf0 J2 p v) (p+1)=true then(p:Int) else(p:Int)+1)=some (J',b)):=q
      clear q ha
      have HTK:Hid (∀ W,JIn lo W jb J2 P->Calls Tryz.prog 228 #[.pointer (some ⟨jb,0,none⟩),.int .i64 p,.int .i64 v] W fun e w'=>e=.returned (.tuple #[])/\JIn lo w' jb (zf0 J2 p v) P/\zas (jb::P.sv.ownBlock.toList) W w'):=fun W hW=>z2k W jb J2 P p v hW (by omega)
      have HBR:Hid (∀ W,JIn lo W jb (zf0 J2 p v) P->Calls Tryz.prog 223 #[.pointer (some ⟨jb,0,none⟩),.int .i64 ((p:Int)+1)] W fun e w'=>e=.returned (.bool (zb3 (zf0 J2 p v) (p+1)))/\Below W.heap.size W w'):=fun W hW=>by
       have q:=zpv W jb _ P (p+1) hW
       rw[show((p+1:Nat):Int)=(p:Int)+1 from by omega] at q
       exact q
      generalize Jk.from.getD p 0=fr at *
      generalize zb3 (zf0 J2 p v) (p+1)=bb at *
      generalize zf0 J2 p v=J3 at *
      cases bb with
      |true =>
       rw[if_pos rfl] at HQ2
       go_wp2_with (first|(go_at_call 227;refine HAG.out.mono ?_;rintro e w2 ⟨rfl,hj2,hs2⟩;have HJ2:Hid (JIn lo w2 jb J2 P):=hj2;clear hj2)|(go_at_call 228;refine(HTK.out _ HJ2.out).mono ?_;rintro e w3 ⟨rfl,hj3,hs3⟩;have HJ3:Hid (JIn lo w3 jb J3 P):=hj3;clear hj3)|(go_at_call 223;refine(HBR.out _ HJ3.out).mono ?_;rintro e w4 ⟨rfl,hb4⟩))
       go_roundg m
       case measure=>omega
       case rel=>exact⟨J3,p,rfl,HQ2,HJ3.out.below hb4,((hsv.trans (hs2.more (by simp))).trans hs3).newer (zas.of (M:=[]) hb4) (by simp)⟩
      |false =>
       rw[if_neg (by simp)] at HQ2
       go_wp2_with (first|(go_at_call 227;refine HAG.out.mono ?_;rintro e w2 ⟨rfl,hj2,hs2⟩;have HJ2:Hid (JIn lo w2 jb J2 P):=hj2;clear hj2)|(go_at_call 228;refine(HTK.out _ HJ2.out).mono ?_;rintro e w3 ⟨rfl,hj3,hs3⟩;have HJ3:Hid (JIn lo w3 jb J3 P):=hj3;clear hj3)|(go_at_call 223;refine(HBR.out _ HJ3.out).mono ?_;rintro e w4 ⟨rfl,hb4⟩))
       go_roundg m
       case measure=>omega
       case rel=>exact⟨J3,(p:Int)+1,rfl,HQ2,HJ3.out.below hb4,((hsv.trans (hs2.more (by simp))).trans hs3).newer (zas.of (M:=[]) hb4) (by simp)⟩
   ·rw[if_neg hcond] at q
    simp only[uab,uak] at q
    obtain⟨e1,e2⟩:=q
    have HE:Hid (J'=Jk/\b=decide (dk ≥ Jk.vars)):=⟨e1.symm,e2.symm⟩
    clear e1 e2
    by_cases g1:0<=dk
    ·by_cases g2:dk < (Jk.vars:Int)
     ·have g3:¬ dk < 5:=by omega
      go_wp2
      go_ret
      exact⟨by rw[HE.out.2];first|(simp;done)|(simp;omega),by rw[HE.out.1];exact HJK.out,hsv⟩
     ·go_wp2
      go_ret
      exact⟨by rw[HE.out.2];first|(simp;done)|(simp;omega),by rw[HE.out.1];exact HJK.out,hsv⟩
    ·go_wp2
     go_ret
     exact⟨by rw[HE.out.2];first|(simp;done)|(simp;omega),by rw[HE.out.1];exact HJK.out,hsv⟩
theorem JIn.setDepth{w:World}{jb:Nat}{P:zbx}(h:JIn lo w jb J P)(m:Int):JIn lo (w.setCell ⟨jb,26,none⟩ (.int .i64 m)) jb { J with qp:=m } P:=by
 obtain⟨f1,f2,f3⟩:=h.ji
 refine h.rebox (zas.set _ _ _ _) ?_ rfl rfl rfl rfl rfl h.ji
 obtain⟨a1,a2,a3,a4,a5,e1⟩:=five h.hlen.1
 obtain⟨b1,b2,b3,b4,b5,e2⟩:=five f1
 obtain⟨c1,c2,c3,c4,c5,e3⟩:=five f2
 obtain⟨d1,d2,d3,d4,d5,e4⟩:=five f3
 have hq:=h.box.set 26 (.int .i64 m)
 simpa [zca,e1,e2,e3,e4] using hq
theorem next_any(w:World)(jb:Nat)(J:zav)(P:zbx)(n:Nat)(J':zav)(b:Bool)(h:JIn lo w jb J P)(hr:zt9 n J=some (J',b)) :
  Calls Tryz.prog 215 #[.pointer (some ⟨jb,0,none⟩)] w fun e w'=>e=.returned (.bool b)/\JIn lo w' jb J' P/\zas (jb::P.sv.ownBlock.toList) w w':=by
 unfold zt9 at hr
 cases hs:ze9 n J J.qp with
 |none=>rw[hs] at hr;cases hr
 |some sr =>
  obtain⟨J2,b2⟩:=sr
  rw[hs] at hr
  simp only[uab,uak] at hr
  obtain⟨e1,rfl⟩:=hr
  have HSE:Hid (Calls Tryz.prog 224 #[.pointer (some ⟨jb,0,none⟩)] w fun e w'=>e=.returned (.bool b2)/\JIn lo w' jb J2 P/\zas (jb::P.sv.ownBlock.toList) w w'):=z0i w jb J P n J2 b2 h hs
  have HE:Hid (J'={ J2 with qp:=if b2=true then J2.last else -1 }):=e1.symm
  clear e1 h hs
  cases b2 with
  |false =>
   go_enter Tryz.func215,Tryz.ntmps215
   go_wp2_with (first|(go_at_call 224;refine HSE.out.mono ?_;rintro e w2 ⟨rfl,hj2,hs2⟩;have HJ2:Hid (JIn lo w2 jb J2 P):=hj2;obtain⟨hjl,hjf,_,_,_,_,_,hc15,hc26,_⟩:=hj2.at;clear hj2))
   go_ret
   exact⟨rfl,by rw[HE.out];exact HJ2.out.setDepth (-1),hs2.trans ((zas.set _ _ _ _).more (by simp))⟩
  |true =>
   go_enter Tryz.func215,Tryz.ntmps215
   go_wp2_with (first|(go_at_call 224;refine HSE.out.mono ?_;rintro e w2 ⟨rfl,hj2,hs2⟩;have HJ2:Hid (JIn lo w2 jb J2 P):=hj2;obtain⟨hjl,hjf,_,_,_,_,_,hc15,hc26,_⟩:=hj2.at;clear hj2))
   go_ret
   exact⟨rfl,by rw[HE.out];exact(HJ2.out.setDepth (-1)).setDepth J2.last,(hs2.trans ((zas.set _ _ _ _).more (by simp))).trans ((zas.set _ _ _ _).more (by simp))⟩
end Go.Proofs.YteampbddflhngaaGreat
namespace Go.Proofs.YteampbddflhngaaGreat
set_option maxRecDepth 100000
set_option maxHeartbeats 2000000
open Go.RowKit
variable {lo:Nat}
theorem z3b(w:World)(jb:Nat)(J:zav)(P:zbx)(h:JIn lo w jb J P) :
  Calls Tryz.prog 217 #[.pointer (some ⟨jb,0,none⟩)] w fun e w'=>e=.returned (.int .i64 J.jf)/\w'=w:=by
 obtain⟨hjl,hjf,_,_,_,_,_,_,_,hc27⟩:=h.at
 clear h
 go_enter Tryz.func217,Tryz.ntmps217
 go_wp2
 go_ret
 exact⟨rfl,rfl⟩
theorem z5u(w:World)(jb:Nat)(J:zav)(P:zbx)(h:JIn lo w jb J P) :
  Calls Tryz.prog 216 #[.pointer (some ⟨jb,0,none⟩)] w fun r w'=>r=.returned (.agg #[.int .i64 ((rowCell J.head J.qx 0:Nat):Int),.int .i64 ((rowCell J.head J.qx 1:Nat):Int),.int .i64 ((rowCell J.head J.qx 2:Nat):Int)])/\Below w.heap.size w w':=by
 obtain⟨hjl,hjf,hc0,hc1,_⟩:=h.at
 obtain⟨a,b,c,d,e,hvals⟩:=five h.ji.2.1
 have q0:=(h.vals 0 (by omega)).1
 have q1:=(h.vals 1 (by omega)).1
 have q2:=(h.vals 2 (by omega)).1
 have q3:=(h.vals 3 (by omega)).1
 have q4:=(h.vals 4 (by omega)).1
 rw[hvals] at q0 q1 q2 q3 q4 ⊢
 obtain⟨aot,capt,htv⟩:=h.head.shape
 have hT:=h.head
 rw[htv] at hc1 hT
 have HRW:Hid (∀ W,Below w.heap.size w W->Calls Tryz.prog 161 #[.agg #[.int .i64 (J.head.pred:Nat),.slice aot J.head.qf.length capt],.agg #[.int .i64 (a:Nat),.int .i64 (b:Nat),.int .i64 (c:Nat),.int .i64 (d:Nat),.int .i64 (e:Nat)]] W fun r w'=>r=.returned (.agg #[.int .i64 ((rowCell J.head [a,b,c,d,e] 0:Nat):Int),.int .i64 ((rowCell J.head [a,b,c,d,e] 1:Nat):Int),.int .i64 ((rowCell J.head [a,b,c,d,e] 2:Nat):Int)])/\Below W.heap.size W w'):=fun W hW=>zwp W _ J.head.pred J.head.qf a b c d e (hT.below hW)
 simp only[Nat.reduceAdd,List.getD_cons_zero,List.getD_cons_succ] at q0 q1 q2 q3 q4
 clear h hT hvals htv
 generalize rowCell J.head [a,b,c,d,e] 0=r0 at *
 generalize rowCell J.head [a,b,c,d,e] 1=r1 at *
 generalize rowCell J.head [a,b,c,d,e] 2=r2 at *
 go_enter Tryz.func216,Tryz.ntmps216
 go_wp2
 go_region_with (go_at_call 161;refine(HRW.out _ (by exact(by go_grown))).mono ?_;rintro r w2 ⟨rfl,hb2⟩;have hB2:Below w.heap.size w w2:=(zae (by go_grown) hb2 (uaa _));have hrb:=(Box.drew (Box.new w #[.int .i64 0,.int .i64 0,.int .i64 0] 165)).below hb2;obtain⟨hrc,hrf⟩:=hrb.rules;have hrl:=hrb.lt)
 all_goals
  go_wp2
  exact bodyPost_ret (v:=.agg #[.int .i64 (r0:Nat),.int .i64 (r1:Nat),.int .i64 (r2:Nat)]) (by simp[results,Tryz.results216,go_sem,hrc]) rfl ⟨rfl,((hB2.setCell (p:=⟨w.heap.size,0,none⟩) (by simp) _).setCell (p:=⟨w.heap.size,1,none⟩) (by simp) _).setCell (p:=⟨w.heap.size,2,none⟩) (by simp) _⟩
set_option maxHeartbeats 4000000
theorem Tryz.infoHold:(Tryz.prog.info? 327).map (fun i=>(i.zero,i.size,i.bytes))=some (some (.agg #[.int .i64 0,.int .i64 0]),2,16):=by kernel_rfl
def zk6(pl:Nat)(x:zak × Nat):Option (Nat × Nat):=(zbq x.1 pl).map fun lv=>(x.2,lv)
theorem zth(r:zah)(pl:Nat):zb2 r pl=r.qc.zipIdx.filterMap (zk6 pl):=rfl
theorem zzj(ls:List zak)(pl k:Nat)(hk:k < ls.length):(ls.take (k+1)).zipIdx.filterMap (zk6 pl)=(ls.take k).zipIdx.filterMap (zk6 pl)++((zbq ls[k] pl).map fun lv=>(k,lv)).toList:=by
 rw[uae hk,List.zipIdx_append,ude]
 congr 1
 simp only[List.zipIdx_singleton,ua2,ubl,List.filterMap_cons,List.filterMap_nil,zk6]
 rw[ubv (by omega)]
 cases zbq ls[k] pl <;> rfl
theorem zpj(hs:List (Nat × Nat))(x:Nat × Nat):zcm (hs++[x])=zcm hs++[.int .i64 (x.1:Nat),.int .i64 (x.2:Nat)]:=by simp[zcm]
theorem zv3(w:World)(tv pv nv:Value)(r:zah)(pl:Nat)(h:zdp lo w tv pv nv r)(hp:pl<=1000000) :
  Calls Tryz.prog 221 #[zlo r tv pv nv,.int .i64 pl] w fun e w'=>∃ hv,e=.returned hv/\w'.ownsRow w.heap.size 327 2 hv (zb2 r pl).length (zcm (zb2 r pl))/\Below w.heap.size w w':=by
 obtain⟨i0,hi,hz0,hzs,hzb⟩:=info_parts Tryz.infoHold
 obtain⟨aop,capp,rfl⟩:=h.qc.shape
 have hpl:=h.qc.len
 have hP:=h.qc
 have HE:Hid (zb2 r pl=r.qc.zipIdx.filterMap (zk6 pl)):=rfl
 unfold zlo
 clear h
 generalize r.qc=ls at *
 go_enter Tryz.func221,Tryz.ntmps221
 go_wp2
 go_loopw [5,13] (fun v5 v13 wr=>∃ k:Nat,k<=ls.length/\v13=.int .i64 k/\wr.ownsRow w.heap.size 327 2 v5 ((ls.take k).zipIdx.filterMap (zk6 pl)).length (zcm ((ls.take k).zipIdx.filterMap (zk6 pl)))/\Below w.heap.size w wr) (fun _ i _=>ls.length - (intOf i).toNat)
 case atStart=>exact⟨0,uaj _,rfl,World.ownsRow_nil _ _ _ _,(by go_grown)⟩
 case round =>
  obtain⟨k,hk,rfl,hown,hbk⟩:=hrel
  have hszk:=hbk.size
  have hcnt:((ls.take k).zipIdx.filterMap (zk6 pl)).length<=k:=by
   have:=ucr (zk6 pl) (ls.take k).zipIdx
   simp at this
   omega
  by_cases hlt:k < ls.length
  ·obtain⟨g,ao2,cap2,hao,hg,h0,h1,hT⟩:=hP.cell k hlt
   subst hao
   have hx0:=(hbk.cell (p:=⟨g,k * 2,none⟩) hg).trans h0
   have hx1:=(hbk.cell (p:=⟨g,k * 2+1,none⟩) hg).trans h1
   have hgr:g < wr.heap.size:=by omega
   have HS:Hid ((ls.take (k+1)).zipIdx.filterMap (zk6 pl)=(ls.take k).zipIdx.filterMap (zk6 pl)++((zbq ls[k] pl).map fun lv=>(k,lv)).toList):=zzj ls pl k hlt
   have HLV:Hid (∀ W,Below w.heap.size w W->Calls Tryz.prog 187 #[.agg #[.int .i64 (ls[k].pred:Nat),.slice ao2 ls[k].qf.length cap2],.int .i64 pl] W fun e w'=>e=.returned (.tuple #[.int .i64 (((zbq ls[k] pl).getD 0:Nat):Int),.bool (zbq ls[k] pl).isSome])/\Below W.heap.size W w'):=fun W hW=>zt3 W _ ls[k].pred pl ls[k].qf (hT.below hW) hp
   clear h0 h1 hT
   generalize ls[k]=l at *
   generalize (ls.take k).zipIdx.filterMap (zk6 pl)=hs at *
   generalize zbq l pl=ol at *
   cases ol with
   |none =>
    simp only[Option.map_none,Option.toList_none,ub3] at HS
    simp only[ubh,ua9] at HLV
    go_wp2_with (first|(go_at_call 187;refine(HLV.out _ (by exact(by go_grown))).mono ?_;rintro e w2 ⟨rfl,hb2⟩;have hB2:Below wr.heap.size wr w2:=(zae (by go_grown) hb2 (uaa _))))
    go_roundw
    case rel=>exact⟨k+1,by omega,by go_num,by rw[HS.out];exact zaa hown hB2,zae hbk hB2 (uaa _)⟩
    case measure=>simp[intOf];omega
   |some lv =>
    simp only[ubp,Option.toList_some] at HS
    simp only[uas,ua4] at HLV
    obtain⟨aoh,caph,rfl⟩:=zac hown
    go_wp2_with (first|(go_at_call 187;refine(HLV.out _ (by exact(by go_grown))).mono ?_;rintro e w2 ⟨rfl,hb2⟩;have hB2:Below wr.heap.size wr w2:=(zae (by go_grown) hb2 (uaa _));have hown2:=zaa hown hB2;have hz2:=hB2.size)|(at_builtin;refine zce w2 _ [.int .i64 (k:Nat),.int .i64 (lv:Nat)] _ rfl (.tmp 25) (.tmp 29) 307 rfl w.heap.size 327 i0 _ 2 16 Tryz.underlying307 hi hz0 hzs hzb rfl (by decide) (.slice aoh hs.length caph) hs.length (zcm hs) rfl hown2 (Below.refl _ _) _ _ rfl (by simp) rfl (by simp[Value.oneCell']) (by omega) (by omega) (by omega) ?_;intro v' w3 ho3 hS3 hat3))
    go_roundw
    case rel=>exact⟨k+1,by omega,by go_num,by rw[HS.out,zpj,uar];exact ho3,(zae hbk hB2 (uaa _)).trans (hS3.below (fun x hx=>zeg hown2 (zcy hx)) (by omega))⟩
    case measure=>simp[intOf];omega
  ·rw[uam (by omega)] at hown
   go_wp2
   go_ret
   exact⟨_,rfl,by rw[HE.out];exact hown,hbk⟩
end Go.Proofs.YteampbddflhngaaGreat
namespace Go.Proofs.YteampbddflhngaaGreat
structure zcs where
 lit:zak
 before:zad
 qo:zad
 all:zad
 deriving DecidableEq
structure zbk where
 rule:zah
 qj:List zcs
 deriving DecidableEq
structure zim where
 pred:Nat
 row:zao
 deriving DecidableEq
structure zsb where
 qg:Nat
 qh:List Nat
 facts:List zim
 rules:List zah
 deriving DecidableEq
structure zbg where
 rows:List zad
 count:Nat
 qw:Nat
 jf:Int
 qo:List (List zao)
 deriving DecidableEq
def zad.zero:zad:=⟨0,0,[],0⟩
def zfa(R:zbg):zbg:={ R with qo:=List.replicate R.rows.length [] }
def okT(T:zad):Bool:=decide (T.ql.length<=90000000) && decide (T.count < 1000000000)
def zdz:List zao->zad->Option zad
 |[],T=>some T
 |r::rs,T=>if okT T then zdz rs (zfo T r 0).1 else none
def rowsG(fuel:Nat)(T:zad):Option (List zao) :=
 match zr3 fuel T with
 |none=>none
 |some rs=>if rs.length<=1048576 then some rs else none
def zyo(maxRows:Nat)(R:zbg)(pred:Nat)(row:zao):Option (zbg × Bool) :=
 if pred < R.rows.length/\pred < R.qo.length/\okT (R.rows.getD pred zad.zero)=true/\R.count<=1048576/\(R.qo.getD pred []).length<=1048576 then
  match zfo (R.rows.getD pred zad.zero) row R.qw with
  |(T,false)=>some ({ R with rows:=R.rows.set pred T },true)
  |(T,true)=>some ({ R with rows:=R.rows.set pred T,qo:=R.qo.set pred (R.qo.getD pred []++[row]),count:=R.count+1 },decide (R.count+1<=maxRows))
 else none
def zgf(qg:Nat)(R:zbg)(pred:Nat):zad:=if pred ≥ R.rows.length then zfv qg 0 else R.rows.getD pred zad.zero
def zif(fuel qg:Nat)(V:zcs)(rows:List zao):Option zcs :=
 match rowsG fuel V.qo with
 |none=>none
 |some old =>
  match zdz old V.before,zdz (rows.filterMap (zb0 V.lit)) (zfv qg (zbb V.lit)),zdz (rows.filterMap (zb0 V.lit)) V.all with
  |some b,some f,some a=>some { V with before:=b,qo:=f,all:=a }
  |_,_,_=>none
def zex(qg:Nat)(l:zak):zcs:=⟨l,zfv qg (zbb l),zfv qg (zbb l),zfv qg (zbb l)⟩
def zls(fuel qg:Nat)(R:zbg):List zak->Option (List zcs)
 |[]=>some []
 |l::r =>
  match rowsG fuel (zgf qg R l.pred) with
  |none=>none
  |some rows=>match zif fuel qg (zex qg l) rows,zls fuel qg R r with
   |some v,some vs=>some (v::vs)
   |_,_=>none
def worksR(fuel qg:Nat)(R:zbg)(qi:Nat):List zah->Option (List zbk)
 |[]=>some []
 |r::rs =>
  if r.qi=qi then
   match zls fuel qg R r.qc,worksR fuel qg R qi rs with
   |some vs,some ws=>some (⟨r,vs⟩::ws)
   |_,_=>none
  else worksR fuel qg R qi rs
def zdl(maxRows pred:Nat):Nat->zbg->zav->Option (zbg × Bool)
 |0,_,_=>none
 |n+1,R,J =>
  match zt9 n J with
  |none=>none
  |some (J,false)=>some ({ R with jf:=IntKind.i64.wrap (R.jf+J.jf) },true)
  |some (J,true)=>match zyo maxRows R pred (zct J.head J.qx) with
   |none=>none
   |some (R,false)=>some (R,false)
   |some (R,true)=>zdl maxRows pred n R J
def zhk(qg:Nat)(R:zbg)(r:zah):List zad:=r.qm.map fun l=>zgf qg R l.pred
def partly(vs:List zcs)(place:Nat):List zad:=vs.zipIdx.map fun x=>if x.2 < place then x.1.before else if x.2=place then x.1.qo else x.1.all
def zgt(fuel qg maxRows:Nat)(W:zbk):Nat->Nat->zbg->Option (zbg × Bool)
 |0,_,R=>some (R,true)
 |n+1,i,R =>
  if (W.qj.getD i ⟨⟨0,[]⟩,zad.zero,zad.zero,zad.zero⟩).qo.count > 0 then
   match zdl maxRows W.rule.head.pred fuel R (za3 W.rule (partly W.qj i) (zhk qg R W.rule)) with
   |none=>none
   |some (R,false)=>some (R,false)
   |some (R,true)=>zgt fuel qg maxRows W n (i+1) R
  else zgt fuel qg maxRows W n (i+1) R
def zit(fuel qg maxRows:Nat)(first:Bool)(R:zbg)(W:zbk):Option (zbg × Bool) :=
 if first then zdl maxRows W.rule.head.pred fuel R (za3 W.rule (W.qj.map (·.all)) (zhk qg R W.rule))
 else zgt fuel qg maxRows W W.qj.length 0 R
def zf3(fuel qg maxRows:Nat)(first:Bool):List zbk->zbg->Option (zbg × Bool)
 |[],R=>some (R,true)
 |W::ws,R =>
  match zit fuel qg maxRows first R W with
  |none=>none
  |some (R,false)=>some (R,false)
  |some (R,true)=>zf3 fuel qg maxRows first ws R
def zhm(fuel qg:Nat)(qo:List (List zao)):List zcs->Option (List zcs)
 |[]=>some []
 |V::vs =>
  match (if V.lit.pred < qo.length then zif fuel qg V (qo.getD V.lit.pred []) else some V),zhm fuel qg qo vs with
  |some v,some vs=>some (v::vs)
  |_,_=>none
def zhn(fuel qg:Nat)(qo:List (List zao)):List zbk->Option (List zbk)
 |[]=>some []
 |W::ws =>
  match zhm fuel qg qo W.qj,zhn fuel qg qo ws with
  |some v,some ws=>some ({ W with qj:=v }::ws)
  |_,_=>none
def zqw(fuel qg maxRows:Nat)(first:Bool)(ws:List zbk)(R:zbg):Option (zbg × List zbk × Bool) :=
 match zf3 fuel qg maxRows first ws (zfa { R with qw:=R.qw+1 }) with
 |none=>none
 |some (R,false)=>some (R,ws,false)
 |some (R,true)=>(zhn fuel qg R.qo ws).map fun ws=>(R,ws,true)
def zg2(qg maxRows maxRounds:Nat):Nat->Bool->List zbk->zbg->Option (zbg × Bool)
 |0,_,_,_=>none
 |n+1,first,ws,R =>
  if R.qw ≥ maxRounds then some (R,false)
  else match zqw n qg maxRows first ws R with
   |none=>none
   |some (R',_,false)=>some (R',false)
   |some (R',ws,true)=>if R'.count > R.count then zg2 qg maxRows maxRounds n false ws R' else some (R',true)
def zlr(fuel qg maxRows maxRounds:Nat)(rules:List zah)(R:zbg)(s:Nat):Option (zbg × Bool) :=
 match worksR fuel qg R s rules with
 |none=>none
 |some ws=>if ws.length > 0 then zg2 qg maxRows maxRounds fuel true ws R else some (R,true)
def zgg(fuel qg maxRows maxRounds:Nat)(rules:List zah):Nat->Nat->zbg->Option (zbg × Bool)
 |0,_,R=>some (R,true)
 |n+1,s,R =>
  match zlr fuel qg maxRows maxRounds rules R s with
  |none=>none
  |some (R,false)=>some (R,false)
  |some (R,true)=>zgg fuel qg maxRows maxRounds rules n (s+1) R
def zjy(maxRows:Nat):List zim->zbg->Option (zbg × Bool)
 |[],R=>some (R,true)
 |f::fs,R =>
  match zyo maxRows R f.pred f.row with
  |none=>none
  |some (R,false)=>some (R,false)
  |some (R,true)=>zjy maxRows fs R
def zfl(S:zsb):zbg:=zfa ⟨S.qh.map (zfv S.qg),0,0,0,[]⟩
def z8x(fuel:Nat)(S:zsb)(maxRows maxRounds:Nat):Option (Option zbg) :=
 match zjy maxRows S.facts (zfl S) with
 |none=>none
 |some (_,false)=>some none
 |some (R,true)=>(zgg fuel S.qg maxRows maxRounds S.rules S.qh.length 0 R).map fun x=>if x.2 then some x.1 else none
end Go.Proofs.YteampbddflhngaaGreat
namespace Go.Proofs.YteampbddflhngaaGreat
open Go.RowKit
variable {lo:Nat}
variable {w w':World}{base tb b0:Nat}{v:Value}{xs:List Value}{c:Array Value}{T:zad}{fp:List Nat}
abbrev zay:=Nat × Nat × Nat
def NoT(t:TypeId):Prop:=t≠229/\t≠273/\t≠3
instance (t:TypeId):Decidable (NoT t):=by unfold NoT;infer_instance
def z9e(w:World)(b:Nat):Prop:=∃ c t,Box w b c t/\¬ NoT t
theorem zry{t:TypeId}(h:t=229∨t=273∨t=3):¬ NoT t:=by
 rintro⟨a,b,c⟩
 rcases h with h|h|h
 ·exact a h
 ·exact b h
 ·exact c h
theorem zef{e:TypeId}{size:Nat}{n:Nat}(h:w.ownsRow base e size v n xs){b:Nat}(hb:v.ownBlock=some b):∃ c,Box w b c e:=by
 obtain⟨_,⟨hv,_⟩|⟨g,cap,cur,hv,_,hh,_⟩⟩:=h
 ·subst hv;cases hb
 ·subst hv;simp only[Value.ownBlock,uab] at hb;subst hb;exact⟨_,hh⟩
theorem Box.type{b:Nat}{c':Array Value}{t t':TypeId}(h:Box w b c t)(h':Box w b c' t'):t=t':=by
 unfold Box at h h'
 rw[h] at h'
 simp at h'
 exact h'.2
theorem zat.typed(h:zat lo w tb T fp):∀ b∈fp,z9e w b:=by
 obtain⟨nv,ns,ht,rfl⟩:=h
 intro b hm
 simp only[fpT,uag,uao] at hm
 rcases hm with hm|hm|hm
 ·subst hm;exact⟨_,_,ht.box,zry (Or.inl rfl)⟩
 ·obtain⟨c,hc⟩:=zef ht.ql (zcy hm);exact⟨_,_,hc,zry (Or.inr (Or.inl rfl))⟩
 ·obtain⟨i,hi,e|e⟩:=zrx hm
  ·obtain⟨c,hc⟩:=zef (ht.leap i (by rw[← ht.len];exact hi) hi) (b:=b) (by rw[e];rfl);exact⟨_,_,hc,zry (Or.inr (Or.inr rfl))⟩
  ·obtain⟨c,hc⟩:=zef (ht.down i (by rw[← ht.len];exact hi) hi) (b:=b) (by rw[e];rfl);exact⟨_,_,hc,zry (Or.inr (Or.inr rfl))⟩
def zcw(lo:Nat)(w:World)(own:Nat->zay)(ρ:zay)(tb:Nat)(T:zad):Prop:=∃ fp,zat lo w tb T fp/\∀ b∈fp,own b=ρ
structure Mod (lo:Nat) (ok:TypeId->zay->Prop) (w:World) (own:Nat->zay) (w':World) (own':Nat->zay):Prop where
 old:∀ b,b < w.heap.size->own' b=own b
 save:∃ M,zas M w w'/\∀ b∈M,lo<=b/\b < w.heap.size/\∃ c t,Box w b c t/\ok t (own b)
def onT(rs:zay->Prop):TypeId->zay->Prop:=fun t ρ=>¬ NoT t/\rs ρ
def ze3(l:List TypeId):TypeId->zay->Prop:=fun t _=>t∈l
def orK(a b:TypeId->zay->Prop):TypeId->zay->Prop:=fun t ρ=>a t ρ∨b t ρ
theorem Mod.of{ok:TypeId->zay->Prop}{w w':World}(own:Nat->zay)(hb:Below w.heap.size w w'):Mod lo ok w own w' own:=⟨fun _ _=>rfl,[],zas.of hb,by simp⟩
theorem Mod.refl{ok:TypeId->zay->Prop}(w:World)(own:Nat->zay):Mod lo ok w own w own:=Mod.of own (Below.refl _ _)
theorem Mod.more{ok ok':TypeId->zay->Prop}{own own':Nat->zay}(h:Mod lo ok w own w' own')(hs:∀ t ρ,ok t ρ->ok' t ρ):Mod lo ok' w own w' own':=by
 obtain⟨h1,M,h2,h3⟩:=h
 refine⟨h1,M,h2,fun b hb=>?_⟩
 obtain⟨q1,q2,c,t,q3,q4⟩:=h3 b hb
 exact⟨q1,q2,c,t,q3,hs _ _ q4⟩
theorem Mod.size{ok:TypeId->zay->Prop}{w w':World}{own own':Nat->zay}(h:Mod lo ok w own w' own'):w.heap.size<=w'.heap.size:=by
 obtain⟨_,M,h2,_⟩:=h;exact h2.size
theorem Mod.trans{ok:TypeId->zay->Prop}{a b c:World}{o1 o2 o3:Nat->zay}(h:Mod lo ok a o1 b o2)(k:Mod lo ok b o2 c o3):Mod lo ok a o1 c o3:=by
 obtain⟨h1,M,h2,h3⟩:=h
 obtain⟨k1,N,k2,k3⟩:=k
 have hz:=h2.size
 refine⟨fun x hx=>(k1 x (by omega)).trans (h1 x hx),M++N.filter (· < a.heap.size),⟨k2.os.trans h2.os,k2.tape.trans h2.tape,k2.output.trans h2.output,uap hz k2.size,fun x hx hn=>?_⟩,fun x hx=>?_⟩
 ·simp only[uao,uay,not_or,not_and,decide_eq_true_eq] at hn
  exact(k2.block x (by omega) fun hm=>hn.2 hm hx).trans (h2.block x hx hn.1)
 ·simp only[uao,uay,decide_eq_true_eq] at hx
  rcases hx with hx|⟨hx,hlt⟩
  ·exact h3 x hx
  ·obtain⟨q1,q2,c,t,q4,q5⟩:=k3 x hx
   rw[h1 x hlt] at q5
   by_cases hm:x∈M
   ·exact h3 x hm
   ·exact⟨q1,hlt,c,t,by unfold Box at q4 ⊢;rw[← h2.block x hlt hm];exact q4,q5⟩
theorem Mod.ofSave{ok:TypeId->zay->Prop}(own:Nat->zay){M:List Nat}(hs:zas M w w')(hM:∀ b∈M,lo<=b/\b < w.heap.size/\∃ c t,Box w b c t/\ok t (own b)):Mod lo ok w own w' own:=⟨fun _ _=>rfl,M,hs,hM⟩
theorem Mod.set{ok:TypeId->zay->Prop}{w:World}(own:Nat->zay){b:Nat}{c:Array Value}{t:TypeId}(hb:Box w b c t)(hl:lo<=b)(ht:ok t (own b))(o:Nat)(u:Value):Mod lo ok w own (w.setCell ⟨b,o,none⟩ u) own :=
 Mod.ofSave own (zas.set _ _ _ _) (fun x hx=>by simp at hx;subst hx;exact⟨hl,hb.lt,_,_,hb,ht⟩)
theorem Box.mod{ok:TypeId->zay->Prop}{own own':Nat->zay}{b:Nat}{t:TypeId}(h:Box w b c t)(p:Mod lo ok w own w' own')(ht:¬ ok t (own b)):Box w' b c t:=by
 obtain⟨_,M,h2,h3⟩:=p
 refine h.save h2 fun hm=>?_
 obtain⟨_,_,c',t',q,hn⟩:=h3 b hm
 rw[h.type q] at ht
 exact ht hn
theorem zon{ok:TypeId->zay->Prop}{own own':Nat->zay}{e:TypeId}{size:Nat}{n:Nat}(h:w.ownsRow base e size v n xs)(p:Mod lo ok w own w' own')(ht:∀ b,v.ownBlock=some b->¬ ok e (own b)):w'.ownsRow base e size v n xs:=by
 obtain⟨_,M,h2,h3⟩:=p
 refine zbl h h2 fun b hb hm=>?_
 obtain⟨c,hc⟩:=zef h hb
 obtain⟨_,_,c',t',q,hn⟩:=h3 b hm
 have:=ht b hb
 rw[hc.type q] at this
 exact this hn
theorem zee{ok:TypeId->zay->Prop}{own own':Nat->zay}{e:TypeId}{size:Nat}{n:Nat}(h:w.ownsRow base e size v n xs)(p:Mod lo ok w own w' own')(ht:∀ ρ,¬ ok e ρ):w'.ownsRow base e size v n xs:=zon h p fun _ _=>ht _
theorem zat.mod{ok:TypeId->zay->Prop}{own own':Nat->zay}(h:zat b0 w tb T fp)(p:Mod lo ok w own w' own')(hr:∀ b∈fp,∀ t,¬ NoT t->¬ ok t (own b)):zat b0 w' tb T fp:=by
 obtain⟨_,M,h4,h5⟩:=p
 refine h.save h4 fun b hb hm=>?_
 obtain⟨_,_,c,t,q,hn⟩:=h5 b hm
 obtain⟨c',t',q',hn'⟩:=h.typed b hb
 rw[q'.type q] at hn'
 exact hr b hb t hn' hn
theorem zcw.mod{ok:TypeId->zay->Prop}{w w':World}{own own':Nat->zay}{ρ:zay}{tb:Nat}{T:zad}(h:zcw lo w own ρ tb T)(p:Mod lo ok w own w' own')(hr:∀ t,¬ NoT t->¬ ok t ρ):zcw lo w' own' ρ tb T:=by
 obtain⟨fp,h1,h2⟩:=h
 exact⟨fp,h1.mod p fun b hb t ht=>by rw[h2 b hb];exact hr t ht,fun b hb=>(p.old b (h1.lt b hb).2).trans (h2 b hb)⟩
theorem zd3{rs:zay->Prop}{t:TypeId}(h:NoT t):∀ ρ,¬ onT rs t ρ:=fun _ q=>q.1 h
theorem zcw.onT{rs:zay->Prop}{w w':World}{own own':Nat->zay}{ρ:zay}{tb:Nat}{T:zad}(h:zcw lo w own ρ tb T)(p:Mod lo (onT rs) w own w' own')(hr:¬ rs ρ):zcw lo w' own' ρ tb T:=h.mod p fun _ _ q=>hr q.2
theorem zaq.mod{ok:TypeId->zay->Prop}{own own':Nat->zay}{ts:List zbn}(h:zaq b0 w v ts)(p:Mod lo ok w own w' own')(ht:∀ ρ,¬ ok 284 ρ):zaq b0 w' v ts:=⟨zee h.own p ht,h.len,h.num⟩
theorem zbo.mod{b0:Nat}{ok:TypeId->zay->Prop}{w w':World}{own own':Nat->zay}{v:Value}{ls:List zak}(h:zbo b0 w v ls)(p:Mod lo ok w own w' own')(ht:∀ ρ,¬ ok 284 ρ)(ht2:∀ ρ,¬ ok 204 ρ):zbo b0 w' v ls:=by
 obtain⟨ps,h1,h2,h3,h4⟩:=h
 exact⟨ps,zee h1 p ht2,h2,h3,fun k a b=>⟨(h4 k a b).1,(h4 k a b).2.1.mod p ht,(h4 k a b).2.2⟩⟩
theorem zdp.mod{b0:Nat}{ok:TypeId->zay->Prop}{w w':World}{own own':Nat->zay}{tv pv nv:Value}{r:zah}(h:zdp b0 w tv pv nv r)(p:Mod lo ok w own w' own')(ht:∀ ρ,¬ ok 284 ρ)(ht2:∀ ρ,¬ ok 204 ρ):zdp b0 w' tv pv nv r:=⟨h.head.mod p ht,h.qc.mod p ht ht2,h.qm.mod p ht ht2,h.small⟩
theorem RowsIn.mod{ok:TypeId->zay->Prop}{own own':Nat->zay}{rows:List zao}(h:RowsIn b0 w v rows)(p:Mod lo ok w own w' own')(ht:∀ ρ,¬ ok 165 ρ):RowsIn b0 w' v rows:=⟨zee h.1 p ht,h.2⟩
def ext(own:Nat->zay)(n:Nat)(ρ:zay):Nat->zay:=fun b=>if b < n then own b else ρ
theorem zgb(own:Nat->zay)(n:Nat)(ρ:zay)(b:Nat)(h:b < n):ext own n ρ b=own b:=by simp[ext,h]
theorem Wrote.mod{own:Nat->zay}{ρ:zay}{T':zad}{fp':List Nat}(h:zat lo w tb T fp)(ho:∀ b∈fp,own b=ρ)(k:Wrote lo w w' tb T' fp fp') :
  zcw lo w' (ext own w.heap.size ρ) ρ tb T'/\Mod lo (onT (·=ρ)) w own w' (ext own w.heap.size ρ):=by
 refine⟨⟨fp',k.trie,fun b hb=>?_⟩,fun b hb=>by simp[ext,hb],fp,k.save,fun b hb=>⟨(h.lt b hb).1,(h.lt b hb).2,?_⟩⟩
 ·unfold ext
  split
  ·rcases k.qo b hb with q|q
   ·exact ho b q
   ·omega
  ·rfl
 ·obtain⟨c,t,q1,q2⟩:=h.typed b hb
  exact⟨c,t,q1,q2,ho b hb⟩
theorem Mod.extNew{ok:TypeId->zay->Prop}(own:Nat->zay)(ρ:zay)(hb:Below w.heap.size w w'):Mod lo ok w own w' (ext own w.heap.size ρ):=⟨fun b h=>by simp[ext,h],[],zas.of hb,by simp⟩
theorem zat.low{a b:Nat}{w:World}{tb:Nat}{T:zad}{fp:List Nat}(h:zat b w tb T fp)(hl:a<=b):zat a w tb T fp:=by
 obtain⟨nv,ns,h1,rfl⟩:=h
 exact⟨nv,ns,⟨uap hl h1.low,h1.box,zbf h1.ql hl,h1.len,fun i a b=>zbf (h1.leap i a b) hl,fun i a b=>zbf (h1.down i a b) hl,h1.apart,h1.wide,h1.many,h1.deep,h1.few⟩,rfl⟩
theorem zat.new(own:Nat->zay)(ρ:zay)(h:zat w.heap.size w' tb T fp)(hl:lo<=w.heap.size):zcw lo w' (ext own w.heap.size ρ) ρ tb T :=
 ⟨fp,h.low hl,fun b hb=>by have:=(h.lt b hb).1;simp[ext,Nat.not_lt.2 this]⟩
theorem zcw.below{own:Nat->zay}{ρ:zay}(h:zcw lo w own ρ tb T)(hb:Below w.heap.size w w'):zcw lo w' own ρ tb T:=h.mod (Mod.of (ok:=fun _ _=>False) own hb) (fun _ _=>id)
theorem zcw.set{w:World}{own:Nat->zay}{ρ:zay}{tb:Nat}{T:zad}(h:zcw lo w own ρ tb T){b:Nat}{c:Array Value}{t:TypeId}(hb:Box w b c t)(ht:NoT t)(o:Nat)(u:Value):zcw lo (w.setCell ⟨b,o,none⟩ u) own ρ tb T:=by
 obtain⟨fp,h1,h2⟩:=h
 refine⟨fp,h1.save (zas.set _ _ _ _) fun x hx hm=>?_,h2⟩
 simp at hm
 subst hm
 obtain⟨c',t',q,hn⟩:=h1.typed x hx
 rw[q.type hb] at hn
 exact hn ht
end Go.Proofs.YteampbddflhngaaGreat
namespace Go.Proofs.YteampbddflhngaaGreat
open Go.RowKit
variable {lo:Nat}
variable {w w':World}{v:Value}{xs:List Value}{b:Nat}{c:Array Value}{M:List Nat}
def OfT(w:World)(T:TypeId)(M:List Nat):Prop:=∀ b∈M,∃ c,Box w b c T
theorem OfT.own{base:Nat}{e:TypeId}{size:Nat}{n:Nat}(h:w.ownsRow base e size v n xs):OfT w e v.ownBlock.toList:=fun _ hb=>zef h (zcy hb)
theorem OfT.box{T:TypeId}(h:Box w b c T):OfT w T [b]:=fun x hx=>by simp at hx;subst hx;exact⟨c,h⟩
theorem zaj{base:Nat}{e T:TypeId}{size:Nat}{n:Nat}(h:w.ownsRow base e size v n xs)(hs:zas M w w')(hM:OfT w T M)(hT:e≠T):w'.ownsRow base e size v n xs :=
 zbl h hs fun b hb hm=>by
  obtain⟨c,hc⟩:=hM b hm
  obtain⟨c',hc'⟩:=zef h hb
  exact hT (hc'.type hc)
theorem Box.saveT{e T:TypeId}(h:Box w b c e)(hs:zas M w w')(hM:OfT w T M)(hT:e≠T):Box w' b c e :=
 h.save hs fun hm=>by
  obtain⟨c',hc'⟩:=hM b hm
  exact hT (h.type hc')
theorem zaq.saveT{b0:Nat}{ts:List zbn}{T:TypeId}(h:zaq b0 w v ts)(hs:zas M w w')(hM:OfT w T M)(hT:284≠T):zaq b0 w' v ts:=⟨zaj h.own hs hM hT,h.len,h.num⟩
theorem zbo.saveT{b0:Nat}{w w':World}{v:Value}{ls:List zak}{T:TypeId}{M:List Nat}(h:zbo b0 w v ls)(hs:zas M w w')(hM:OfT w T M)(hT:284≠T)(hn:∀ b,v.ownBlock=some b->b∉M):zbo b0 w' v ls:=by
 obtain⟨ps,h1,h2,h3,h4⟩:=h
 exact⟨ps,zbl h1 hs hn,h2,h3,fun k a b=>⟨(h4 k a b).1,(h4 k a b).2.1.saveT hs hM hT,(h4 k a b).2.2⟩⟩
theorem zbo.saveTT{b0:Nat}{ls:List zak}{T:TypeId}(h:zbo b0 w v ls)(hs:zas M w w')(hM:OfT w T M)(hT:284≠T)(hT2:204≠T):zbo b0 w' v ls:=by
 obtain⟨ps,h1,h2,h3,h4⟩:=h
 exact⟨ps,zaj h1 hs hM hT2,h2,h3,fun k a b=>⟨(h4 k a b).1,(h4 k a b).2.1.saveT hs hM hT,(h4 k a b).2.2⟩⟩
theorem zdp.saveT{b0:Nat}{w w':World}{tv pv nv:Value}{r:zah}{T:TypeId}{M:List Nat}(h:zdp b0 w tv pv nv r)(hs:zas M w w')(hM:OfT w T M)(hT:284≠T)(hT2:204≠T):zdp b0 w' tv pv nv r:=⟨h.head.saveT hs hM hT,h.qc.saveTT hs hM hT hT2,h.qm.saveTT hs hM hT hT2,h.small⟩
theorem zaq.low{a:Nat}{ts:List zbn}(h:zaq b w v ts)(hl:a<=b):zaq a w v ts:=⟨zbf h.own hl,h.len,h.num⟩
theorem zbo.low{a b:Nat}{w:World}{v:Value}{ls:List zak}(h:zbo b w v ls)(hl:a<=b):zbo a w v ls:=by
 obtain⟨ps,h1,h2,h3,h4⟩:=h
 exact⟨ps,zbf h1 hl,h2,h3,fun k a b=>⟨(h4 k a b).1,(h4 k a b).2.1.low hl,(h4 k a b).2.2⟩⟩
theorem zdp.low{a b:Nat}{w:World}{tv pv nv:Value}{r:zah}(h:zdp b w tv pv nv r)(hl:a<=b):zdp a w tv pv nv r:=⟨h.head.low hl,h.qc.low hl,h.qm.low hl,h.small⟩
theorem Box.up{T:TypeId}(h:Box w b c T)(o:Obj):Box (w.alloc o) b c T:=h.below ((Below.refl _ _).alloc (uaa _) o)
theorem Box.at'{b':Nat}{T:TypeId}(h:Box w b c T)(e:b=b'):Box w b' c T:=e ▸ h
theorem Box.carry{W w1:World}{T:TypeId}{G:Prop}(h:Box W b c T)(hb:Below W.heap.size W w1)(k:Box w1 b c T->G):G:=k (h.below hb)
end Go.Proofs.YteampbddflhngaaGreat
