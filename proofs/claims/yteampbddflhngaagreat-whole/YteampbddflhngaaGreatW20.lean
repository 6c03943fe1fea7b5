import Derived.Test.YteampbddflhngaaGreatW19
import Derived.Test.YteampbddflhngaaGreatW16
import Derived.Laws.Tables
import Derived.Laws.Rows

namespace Go.Proofs.YteampbddflhngaaGreat
set_option maxRecDepth 100000
set_option maxHeartbeats 4000000
open Go.RowKit
variable {lo:Nat}
variable {w w':World}{own':Nat->zay}
def okJ:TypeId->zay->Prop:=ze3 [310,323]
def zh7(p:Nat):TypeId->zay->Prop:=orK (zm3 p) okJ
theorem z3g{l:List TypeId}{t:TypeId}{ρ:zay}(h:t∈l):ze3 l t ρ:=h
theorem zfi{l:List TypeId}{t:TypeId}(h:t∉l):∀ ρ,¬ ze3 l t ρ:=fun _ q=>h q
theorem JIn.mod{ok:TypeId->zay->Prop}{w w':World}{own own':Nat->zay}{jb:Nat}{J:zav}{P:zbx}(h:JIn lo w jb J P)(m:Mod lo ok w own w' own')(h1:∀ ρ,¬ ok 310 ρ)(h2:∀ ρ,¬ ok 323 ρ)(h3:∀ ρ,¬ ok 325 ρ)(h4:∀ ρ,¬ ok 327 ρ)(h5:∀ ρ,¬ ok 284 ρ)(h6:∀ x∈P.tbs,∀ b∈x.2,∀ t,¬ NoT t->¬ ok t (own b))(h7:∀ x∈P.bps,∀ b∈x.2.2,∀ t,¬ NoT t->¬ ok t (own b)):JIn lo w' jb J P :=
 ⟨h.low,h.box.mod m (h1 _),h.head.mod m h5,zee h.qy m h2,h.slen,fun k a b=>(h.tries k a b).mod m (h6 _ (uad b)),h.ql,zee h.bars m h3,h.blen,fun k a b=>⟨(h.jh k a b).1.mod m h5,(h.jh k a b).2.mod m (h7 _ (uad b))⟩,h.hlen,fun p a b=>⟨zee (h.ja p a b).1 m h4,(h.ja p a b).2⟩,h.ji,h.few⟩
def zj5(own:Nat->zay)(P:zbx)(p:Nat):Prop:=(∀ x∈P.tbs,∀ b∈x.2,own b≠(0,p,0))/\(∀ x∈P.bps,∀ b∈x.2.2,own b≠(0,p,0))
theorem JIn.add{own:Nat->zay}{jb p:Nat}{J:zav}{P:zbx}(h:JIn lo w jb J P)(m:Mod lo (zm3 p) w own w' own')(hr:zj5 own P p):JIn lo w' jb J P/\zj5 own' P p:=by
 have nk:∀ {t:TypeId},NoT t->t≠214->t≠161->t≠165->∀ ρ,¬ zm3 p t ρ:=fun a b c d ρ q=>by
  rcases q with q|q|q|q
  ·exact q.1 a
  ·exact b q
  ·exact c q
  ·exact d q.1
 have nt:∀ {t:TypeId} {ρ:zay},¬ NoT t->ρ≠(0,p,0)->¬ zm3 p t ρ:=fun a b q=>by
  rcases q with q|q|q|q
  ·exact b q.2
  ·subst q;exact a (by decide)
  ·subst q;exact a (by decide)
  ·rw[q.1] at a;exact a (by decide)
 refine⟨h.mod m (nk (by decide) (by decide) (by decide) (by decide)) (nk (by decide) (by decide) (by decide) (by decide)) (nk (by decide) (by decide) (by decide) (by decide)) (nk (by decide) (by decide) (by decide) (by decide)) (nk (by decide) (by decide) (by decide) (by decide)) (fun x hx b hb t ht=>nt ht (hr.1 x hx b hb)) (fun x hx b hb t ht=>nt ht (hr.2 x hx b hb)),fun x hx b hb=>?_,fun x hx b hb=>?_⟩
 ·obtain⟨k,hk,rfl⟩:=uau hx
  rw[m.old b ((h.tries k (by rw[← h.slen];exact hk) hk).lt b hb).2]
  exact hr.1 _ hx b hb
 ·obtain⟨k,hk,rfl⟩:=uau hx
  rw[m.old b ((h.jh k (by rw[← h.blen];exact hk) hk).2.lt b hb).2]
  exact hr.2 _ hx b hb
theorem Mod.ofNext{own:Nat->zay}{jb:Nat}{J:zav}{P:zbx}(h:JIn lo w jb J P)(hs:zas (jb::P.sv.ownBlock.toList) w w'):Mod lo okJ w own w' own :=
 Mod.ofSave own hs fun b hb=>by
  rcases uag.1 hb with rfl|hb
  ·exact⟨h.low,h.box.lt,_,_,h.box,z3g (by decide)⟩
  ·have hb':=zcy hb
   obtain⟨c,hc⟩:=zef h.qy hb'
   exact⟨zeg h.qy hb',zdq h.qy hb',c,_,hc,z3g (by decide)⟩
theorem zdc.modJ{own:Nat->zay}{rb:Nat}{R:zbg}{wd mr mx:Nat}{Q:zcu}(h:zdc lo w own rb R wd mr mx Q)(m:Mod lo okJ w own w' own'):zdc lo w' own' rb R wd mr mx Q :=
 h.mod m (zfi (by decide)) (zfi (by decide)) (zfi (by decide)) (fun _=>zfi (by decide) _) (fun q t ht hk=>by
  rcases uag.1 hk with rfl|hk
  ·exact ht (by decide)
  ·rcases uag.1 hk with rfl|hk
   ·exact ht (by decide)
   ·cases hk)
def zj3(lo:Nat)(w:World)(own:Nat->zay)(rb p:Nat)(R':zbg)(b:Bool)(wd mr mx:Nat)(Q:zcu)(e:Ending)(w':World):Prop:=e=.returned (.bool b)/\∃ own' fvs',zdc lo w' own' rb R' wd mr mx ⟨Q.rv,Q.tbs,Q.fv,fvs'⟩/\Mod lo (zh7 p) w own w' own'
theorem zpr(w:World)(own:Nat->zay)(rb jb:Nat)(R R':zbg)(J:zav)(P:zbx)(wd mr mx:Nat)(Q:zcu)(p n:Nat)(b:Bool)(h:zdc lo w own rb R wd mr mx Q)(hj:JIn lo w jb J P)(hrole:zj5 own P p)(hlo:lo<=w.heap.size)(hr:zdl mr p n R J=some (R',b)) :
  Calls Tryz.prog 208 #[.pointer (some ⟨rb,0,none⟩),.int .i64 p,.pointer (some ⟨jb,0,none⟩)] w fun e w'=>zj3 lo w own rb p R' b wd mr mx Q e w':=by
 have HR:Hid (zdl mr p n R J=some (R',b)):=hr
 have H0:Hid (zdc lo w own rb R wd mr mx ⟨Q.rv,Q.tbs,Q.fv,Q.fvs⟩/\JIn lo w jb J P/\zj5 own P p):=⟨h,hj,hrole⟩
 have HM0:Hid (Mod lo (zh7 p) w own w own):=Mod.refl w own
 clear h hj hrole hr
 go_enter Tryz.func208,Tryz.ntmps208
 go_wp2
 go_loopg [] n (fun k wr=>∃(Rk:zbg) (Jk:zav) (ownk:Nat->zay) (fvk:List Value),Hid (zdl mr p k Rk Jk=some (R',b))/\Hid (zdc lo wr ownk rb Rk wd mr mx ⟨Q.rv,Q.tbs,Q.fv,fvk⟩/\JIn lo wr jb Jk P/\zj5 ownk P p)/\Hid (Mod lo (zh7 p) w own wr ownk))
 case atStart=>exact⟨R,J,own,Q.fvs,HR,H0,HM0⟩
 case round =>
  clear HR H0 HM0
  obtain⟨Rk,Jk,ownk,fvk,HQ,HK,HM⟩:=hrel
  have hszk:=HM.out.size
  cases gk with
  |zero=>have q:=HQ.out;simp[zdl] at q
  |succ m =>
   have q:=HQ.out
   unfold zdl at q
   cases hn:zt9 m Jk with
   |none=>rw[hn] at q;cases q
   |some ar =>
    obtain⟨J2,bn⟩:=ar
    rw[hn] at q
    have HNX:Hid (Calls Tryz.prog 215 #[.pointer (some ⟨jb,0,none⟩)] wr fun e w'=>e=.returned (.bool bn)/\JIn lo w' jb J2 P/\zas (jb::P.sv.ownBlock.toList) wr w'):=next_any wr jb Jk P m J2 bn HK.out.2.1 hn
    have HS2:Hid (∀ W,JIn lo W jb J2 P->zas (jb::P.sv.ownBlock.toList) wr W->(zdc lo W ownk rb Rk wd mr mx ⟨Q.rv,Q.tbs,Q.fv,fvk⟩/\JIn lo W jb J2 P/\zj5 ownk P p)/\Mod lo (zh7 p) w own W ownk):=fun W h1 h2=>by
     have m:=Mod.ofNext (own:=ownk) HK.out.2.1 h2
     exact⟨⟨HK.out.1.modJ m,h1,HK.out.2.2⟩,HM.out.trans (m.more fun _ _ q=>Or.inr q)⟩
    clear hn HQ
    cases bn with
    |false =>
     simp only[uab,uak] at q
     have HE:Hid ({ Rk with jf:=IntKind.i64.wrap (Rk.jf+J2.jf) }=R'/\true=b):=q
     clear q
     go_wp2_with (first|(go_at_call 215;refine HNX.out.mono ?_;rintro e w2 ⟨rfl,hj2,hs2⟩;obtain⟨hK2,hM2⟩:=HS2.out _ hj2 hs2;clear hj2 hs2))
     obtain⟨hR2,hJ2,hro2⟩:=hK2
     have HR2:Hid (zdc lo w2 ownk rb Rk wd mr mx ⟨Q.rv,Q.tbs,Q.fv,fvk⟩):=hR2
     have HM2:Hid (Mod lo (zh7 p) w own w2 ownk):=hM2
     have HMV:Hid (∀ W,Below w2.heap.size w2 W->Calls Tryz.prog 217 #[.pointer (some ⟨jb,0,none⟩)] W fun e w'=>e=.returned (.int .i64 J2.jf)/\w'=W):=fun W hW=>z3b W jb J2 P (hJ2.below hW)
     obtain⟨h2l,h2f,_,_,_,h23,_,_,_,_⟩:=hR2.at
     have hbx:=hR2.box.set 3 (.int .i64 (IntKind.i64.wrap (Rk.jf+J2.jf)))
     have hs6:zas [rb] w2 (w2.setCell ⟨rb,3,none⟩ (.int .i64 (IntKind.i64.wrap (Rk.jf+J2.jf)))):=zas.set _ _ _ _
     have hM6:Mod lo (zh7 p) w2 ownk (w2.setCell ⟨rb,3,none⟩ (.int .i64 (IntKind.i64.wrap (Rk.jf+J2.jf)))) ownk:=Mod.set ownk hR2.box hR2.low (Or.inl (Or.inr (Or.inl rfl))) _ _
     have hR6:=hR2.rebox (R':={ Rk with jf:=IntKind.i64.wrap (Rk.jf+J2.jf) }) hs6 (by simpa using hbx) rfl rfl hR2.few.2.2
     rw[HE.out.1] at hR6
     have HR6:Hid (zdc lo (w2.setCell ⟨rb,3,none⟩ (.int .i64 (IntKind.i64.wrap (Rk.jf+J2.jf)))) ownk rb R' wd mr mx ⟨Q.rv,Q.tbs,Q.fv,fvk⟩):=hR6
     have HM6:Hid (Mod lo (zh7 p) w own (w2.setCell ⟨rb,3,none⟩ (.int .i64 (IntKind.i64.wrap (Rk.jf+J2.jf)))) ownk):=HM2.out.trans hM6
     clear hR6 hM6 hbx hs6 hR2 hM2 hJ2 hro2
     have i64m:=IntWalk.i64_in
     refine wp_region_noPanic ?_
     refine zo9 (S:=fun w'=>w'.cell? ⟨rb,3,none⟩=some (.int .i64 Rk.jf)) (d:=11) (by kernel_rfl) h23 (fun hHeld=>?_)
     refine zan (i:=0) (v:=?v0) rfl (by kernel_rfl) (by kernel_rfl) (by kernel_rfl) (by kernel_rfl) (fun _ _ _ h=>h) (Or.inl ⟨by rfl,?hy0⟩) hHeld ?rest0
     case hy0 =>
      intro wq hSw
      go_simp
      (try with_reducible rfl)
     refine zan (i:=1) (v:=?v1) rfl (by kernel_rfl) (by kernel_rfl) (by kernel_rfl) (by kernel_rfl) (fun _ _ _ h=>h) (Or.inl ⟨by rfl,?hy1⟩) hHeld ?rest1
     case hy1 =>
      intro wq hSw
      go_simp
      (try with_reducible rfl)
     refine zan (i:=2) (v:=?v2) rfl (by kernel_rfl) (by kernel_rfl) (by kernel_rfl) (by kernel_rfl) (fun _ _ _ h=>h) (Or.inl ⟨by rfl,?hy2⟩) hHeld ?rest2
     case hy2 =>
      intro wq hSw
      go_simp
      (try with_reducible rfl)
     refine zan (i:=3) (v:=?v3) rfl (by kernel_rfl) (by kernel_rfl) (by kernel_rfl) (by kernel_rfl) (fun _ _ _ h=>h) (Or.inl ⟨by rfl,?hy3⟩) hHeld ?rest3
     case hy3 =>
      intro wq hSw
      go_simp
      (try with_reducible rfl)
     refine zan (i:=4) (v:=?v4) rfl (by kernel_rfl) (by kernel_rfl) (by kernel_rfl) (by kernel_rfl) (fun _ _ _ h=>h) (Or.inl ⟨by rfl,?hy4⟩) hHeld ?rest4
     case hy4 =>
      intro wq hSw
      go_simp
      (try with_reducible rfl)
     refine zan (i:=5) (v:=?v5) rfl (by kernel_rfl) (by kernel_rfl) (by kernel_rfl) (by kernel_rfl) (fun _ _ _ h=>h) (Or.inl ⟨by rfl,?hy5⟩) hHeld ?rest5
     case hy5 =>
      intro wq hSw
      go_simp
      (try with_reducible rfl)
     refine zc8 (i:=6) (by kernel_rfl) rfl (fun K hK=>?_)
     go_simp
     refine(HMV.out _ (by exact(zau (Below.refl _ _) 1))).mono ?_
     rintro e w3 ⟨rfl,rfl⟩
     refine hK.out _ _ (fun _=>h23) ?_
     clear hK K
     refine zan (i:=7) (v:=?v7) rfl (by kernel_rfl) (by kernel_rfl) (by kernel_rfl) (by kernel_rfl) (fun _ _ _ h=>h) (Or.inl ⟨by rfl,?hy7⟩) hHeld ?rest7
     case hy7 =>
      intro wq hSw
      go_simp
      (try with_reducible rfl)
     refine zc8 (i:=8) (by kernel_rfl) rfl (fun K hK=>?_)
     go_simp
     refine hK.out _ _ (fun _=>h23) ?_
     clear hK K
     refine zc8 (i:=9) (by kernel_rfl) rfl (fun K hK=>?_)
     go_simp
     refine hK.out _ _ (fun _=>h23) ?_
     clear hK K
     refine zc8 (i:=10) (by kernel_rfl) rfl (fun K hK=>?_)
     go_simp
     refine hK.out _ _ (fun _=>h23) ?_
     clear hK K
     refine zc8 (i:=11) (by kernel_rfl) rfl (fun K hK=>?_)
     go_simp
     refine hK.out _ _ (fun hq=>absurd rfl hq) ?_
     clear hK K
     refine zkp (by kernel_rfl) ?_ _
     refine NoPanic.normal ?_
     have hgr:Below (w2.setCell ⟨rb,3,none⟩ (.int .i64 (IntKind.i64.wrap (Rk.jf+J2.jf)))).heap.size (w2.setCell ⟨rb,3,none⟩ (.int .i64 (IntKind.i64.wrap (Rk.jf+J2.jf)))) (w2.setCell ⟨rb,3,none⟩ (.int .i64 (IntKind.i64.wrap (Rk.jf+J2.jf)))).drew:=(by go_grown)
     have hf:=HE.out.2
     go_wp2
     go_ret
     exact⟨by rw[← hf];rfl,ownk,fvk,HR6.out.below hgr,HM6.out.trans (Mod.of ownk hgr)⟩
    |true =>
     dsimp only at q
     cases ha:zyo mr Rk p (zct J2.head J2.qx) with
     |none=>rw[ha] at q;cases q
     |some ar2 =>
      obtain⟨R3,b3⟩:=ar2
      simp only[ha] at q
      have HHD:Hid (∀ W,JIn lo W jb J2 P->Calls Tryz.prog 216 #[.pointer (some ⟨jb,0,none⟩)] W fun r w'=>r=.returned (.agg #[.int .i64 ((rowCell J2.head J2.qx 0:Nat):Int),.int .i64 ((rowCell J2.head J2.qx 1:Nat):Int),.int .i64 ((rowCell J2.head J2.qx 2:Nat):Int)])/\Below W.heap.size W w'):=fun W hW=>z5u W jb J2 P hW
      rw[z8w] at ha
      have HAD:Hid (∀ W,lo<=W.heap.size->zdc lo W ownk rb Rk wd mr mx ⟨Q.rv,Q.tbs,Q.fv,fvk⟩->Calls Tryz.prog 121 #[.pointer (some ⟨rb,0,none⟩),.int .i64 p,.agg #[.int .i64 ((rowCell J2.head J2.qx 0:Nat):Int),.int .i64 ((rowCell J2.head J2.qx 1:Nat):Int),.int .i64 ((rowCell J2.head J2.qx 2:Nat):Int)]] W fun e w'=>zvc lo W ownk rb p R3 b3 wd mr mx ⟨Q.rv,Q.tbs,Q.fv,fvk⟩ e w'):=fun W hl hW=>zya W ownk rb Rk R3 wd mr mx _ p _ _ _ b3 hW hl ha
      generalize rowCell J2.head J2.qx 0=r0 at *
      generalize rowCell J2.head J2.qx 1=r1 at *
      generalize rowCell J2.head J2.qx 2=r2 at *
      clear ha
      cases b3 with
      |false =>
       simp only[uab,uak] at q
       have HE:Hid (R3=R'/\false=b):=q
       clear q
       go_wp2_with (first|(go_at_call 215;refine HNX.out.mono ?_;rintro e w2 ⟨rfl,hj2,hs2⟩;obtain⟨hK2,hM2⟩:=HS2.out _ hj2 hs2;clear hj2 hs2;have HK2:Hid (zdc lo w2 ownk rb Rk wd mr mx ⟨Q.rv,Q.tbs,Q.fv,fvk⟩/\JIn lo w2 jb J2 P/\zj5 ownk P p):=hK2;have HM2:Hid (Mod lo (zh7 p) w own w2 ownk):=hM2;clear hK2 hM2)|(go_at_call 216;refine(HHD.out _ HK2.out.2.1).mono ?_;rintro e w3 ⟨rfl,hb3⟩)|(go_at_call 121;refine(HAD.out _ (by exact(show lo<=(w3.alloc (.cells #[.int .i64 (r0:Nat),.int .i64 (r1:Nat),.int .i64 (r2:Nat)] 165)).heap.size by rw[World.size_alloc];have:=hb3.size;have:=HM2.out.size;omega)) (by exact(HK2.out.1.below hb3).below (by go_grown))).mono ?_;rintro e w4 ⟨rfl,own4,fv4,hR4,hM4⟩))
       go_ret
       have hm34:Mod lo (zh7 p) w2 ownk w4 own4:=((Mod.of ownk hb3).trans (Mod.of ownk (show Below w3.heap.size w3 (w3.alloc (.cells #[.int .i64 (r0:Nat),.int .i64 (r1:Nat),.int .i64 (r2:Nat)] 165)) from(by go_grown)))).trans (hM4.more fun _ _ q=>Or.inl q)
       exact⟨by rw[← HE.out.2];rfl,own4,fv4,by rw[← HE.out.1];exact hR4,HM2.out.trans hm34⟩
      |true =>
       have HQ2:Hid (zdl mr p m R3 J2=some (R',b)):=q
       clear q
       go_wp2_with (first|(go_at_call 215;refine HNX.out.mono ?_;rintro e w2 ⟨rfl,hj2,hs2⟩;obtain⟨hK2,hM2⟩:=HS2.out _ hj2 hs2;clear hj2 hs2;have HK2:Hid (zdc lo w2 ownk rb Rk wd mr mx ⟨Q.rv,Q.tbs,Q.fv,fvk⟩/\JIn lo w2 jb J2 P/\zj5 ownk P p):=hK2;have HM2:Hid (Mod lo (zh7 p) w own w2 ownk):=hM2;clear hK2 hM2)|(go_at_call 216;refine(HHD.out _ HK2.out.2.1).mono ?_;rintro e w3 ⟨rfl,hb3⟩)|(go_at_call 121;refine(HAD.out _ (by exact(show lo<=(w3.alloc (.cells #[.int .i64 (r0:Nat),.int .i64 (r1:Nat),.int .i64 (r2:Nat)] 165)).heap.size by rw[World.size_alloc];have:=hb3.size;have:=HM2.out.size;omega)) (by exact(HK2.out.1.below hb3).below (by go_grown))).mono ?_;rintro e w4 ⟨rfl,own4,fv4,hR4,hM4⟩))
       have hgr3:Below w3.heap.size w3 (w3.alloc (.cells #[.int .i64 (r0:Nat),.int .i64 (r1:Nat),.int .i64 (r2:Nat)] 165)):=(by go_grown)
       have hm34:Mod lo (zh7 p) w2 ownk w4 own4:=((Mod.of ownk hb3).trans (Mod.of ownk hgr3)).trans (hM4.more fun _ _ q=>Or.inl q)
       have hJ4:=((HK2.out.2.1.below hb3).below hgr3).add hM4 HK2.out.2.2
       go_roundg m
       case measure=>omega
       case rel=>exact⟨R3,J2,own4,fv4,HQ2,⟨hR4,hJ4.1,hJ4.2⟩,HM2.out.trans hm34⟩
end Go.Proofs.YteampbddflhngaaGreat
namespace Go.Proofs.YteampbddflhngaaGreat
open Go.RowKit
variable {lo:Nat}
variable {r:zah}{tv sv bv:Value}{hvs:List Value}{jg:List Int}{d:Int}
theorem Tryz.infoSide:(Tryz.prog.info? 323).map (fun i=>(i.zero,i.size,i.bytes))=some (some (.agg #[.pointer none,.int .i64 0,.int .i64 0,.int .i64 0]),4,32):=by kernel_rfl
theorem Tryz.infoBar:(Tryz.prog.info? 325).map (fun i=>(i.zero,i.size,i.bytes))=some (some (.agg #[.int .i64 0,.slice none 0 0,.int .i64 0,.pointer none]),4,48):=by kernel_rfl
theorem Tryz.infoJoin:(Tryz.prog.info? 310).map (·.size)=some 28:=by kernel_rfl
structure zhf (lo:Nat) (w:World) (J:zav) (P:zbx):Prop where
 head:zaq lo w P.tv J.head.qf
 qy:w.ownsRow lo 323 4 P.sv J.qy.length (zcj (List.zipWith zm4 J.qy P.tbs))
 slen:P.tbs.length=J.qy.length
 tries:∀ k (_:k < J.qy.length) (_:k < P.tbs.length),zat lo w P.tbs[k].1 J.qy[k].rows P.tbs[k].2
 ql:∀ s∈J.qy,s.ql.length=3
 bars:w.ownsRow lo 325 4 P.bv J.bars.length (zcj (List.zipWith zyx J.bars P.bps))
 blen:P.bps.length=J.bars.length
 jh:∀ k (_:k < J.bars.length) (_:k < P.bps.length),zaq lo w P.bps[k].1 J.bars[k].lit.qf/\zat lo w P.bps[k].2.1 J.bars[k].rows P.bps[k].2.2
 hlen:P.hvs.length=5/\J.ja.length=5
 ja:∀ p (_:p < J.ja.length) (_:p < P.hvs.length),w.ownsRow lo 327 2 P.hvs[p] J.ja[p].length (zcm J.ja[p])/\J.ja[p].length<=1000/\∀ h∈J.ja[p],h.1<=1000000/\h.2<=1000000
 ji:J.jg.length=5/\J.qx.length=5/\J.from.length=5
 few:J.qy.length<=1000/\J.bars.length<=1000/\J.vars<=1000000
theorem zhf.join{w:World}{jb:Nat}{J:zav}{P:zbx}(h:zhf lo w J P)(hl:lo<=jb)(hb:Box w jb (zca J P).toArray 310):JIn lo w jb J P :=
 ⟨hl,hb,h.head,h.qy,h.slen,h.tries,h.ql,h.bars,h.blen,h.jh,h.hlen,h.ja,h.ji,h.few⟩
theorem zhf.below{w w':World}{J:zav}{P:zbx}(h:zhf lo w J P)(hb:Below w.heap.size w w'):zhf lo w' J P :=
 ⟨h.head.below hb,zaa h.qy hb,h.slen,fun k a b=>(h.tries k a b).below hb,h.ql,zaa h.bars hb,h.blen,fun k a b=>⟨(h.jh k a b).1.below hb,(h.jh k a b).2.below hb⟩,h.hlen,fun p a b=>⟨zaa (h.ja p a b).1 hb,(h.ja p a b).2⟩,h.ji,h.few⟩
theorem zgp(J:zav)(P:zbx)(h:P.hvs.length=5)(hf:J.jg.length=5/\J.qx.length=5/\J.from.length=5):(zca J P).length=28:=by
 simp[zca,h,hf.1,hf.2.1,hf.2.2]
def jc(r:zah)(tv sv bv:Value)(hvs:List Value)(jg:List Int)(d:Int):List Value :=
 [.int .i64 (r.head.pred:Nat),tv,.int .i64 (r.vars:Nat),sv,bv]++hvs++jg.map (Value.int .i64)++[.int .i64 (zd7 r r.vars)]++([0,0,0,0,0]:List Nat).map ivN++([0,0,0,0,0]:List Nat).map ivN++[.int .i64 d,.int .i64 0]
theorem z8n(h1:hvs.length=5)(k:Nat)(hk:k < 5)(u:Value):(jc r tv sv bv hvs jg d).toArray.setIfInBounds (5+k) u=(jc r tv sv bv (hvs.set k u) jg d).toArray:=by
 obtain⟨a1,a2,a3,a4,a5,rfl⟩:=five h1
 obtain rfl|rfl|rfl|rfl|rfl:k=0∨k=1∨k=2∨k=3∨k=4:=by omega
 all_goals simp[jc]
theorem z8l(h1:hvs.length=5)(h2:jg.length=5)(k:Nat)(hk:k < 5)(u:Int):(jc r tv sv bv hvs jg d).toArray.setIfInBounds (10+k) (.int .i64 u)=(jc r tv sv bv hvs (jg.set k u) d).toArray:=by
 obtain⟨a1,a2,a3,a4,a5,rfl⟩:=five h1
 obtain⟨b1,b2,b3,b4,b5,rfl⟩:=five h2
 obtain rfl|rfl|rfl|rfl|rfl:k=0∨k=1∨k=2∨k=3∨k=4:=by omega
 all_goals simp[jc]
theorem z5w(h1:hvs.length=5)(h2:jg.length=5)(u:Int):(jc r tv sv bv hvs jg d).toArray.setIfInBounds 26 (.int .i64 u)=(jc r tv sv bv hvs jg u).toArray:=by
 obtain⟨a1,a2,a3,a4,a5,rfl⟩:=five h1
 obtain⟨b1,b2,b3,b4,b5,rfl⟩:=five h2
 simp[jc]
theorem z8m(u:Value):(jc r tv sv bv hvs jg d).toArray.setIfInBounds 4 u=(jc r tv sv u hvs jg d).toArray:=by simp[jc]
theorem z90(h1:hvs.length=5)(h2:jg.length=5):(jc r tv sv bv hvs jg d).toArray[3]?=some sv/\(jc r tv sv bv hvs jg d).toArray[4]?=some bv/\(jc r tv sv bv hvs jg d).toArray[26]?=some (.int .i64 d)/\(∀ k,k < 5->(jc r tv sv bv hvs jg d).toArray[5+k]?=some (hvs.getD k (.bool false)))/\(∀ k,k < 5->(jc r tv sv bv hvs jg d).toArray[10+k]?=some (.int .i64 (jg.getD k 0))):=by
 obtain⟨a1,a2,a3,a4,a5,rfl⟩:=five h1
 obtain⟨b1,b2,b3,b4,b5,rfl⟩:=five h2
 refine⟨by simp[jc],by simp[jc],by simp[jc],fun k hk=>?_,fun k hk=>?_⟩
 all_goals
  obtain rfl|rfl|rfl|rfl|rfl:k=0∨k=1∨k=2∨k=3∨k=4:=by omega
  all_goals simp[jc]
theorem zp5:∀(ys:List V4) (k:Nat) (_:k < ys.length) (u:Value),(zcj ys).set (k * 4) u=zcj (ys.modify k fun y=>(u,y.2.1,y.2.2.1,y.2.2.2))
 |[],k,hk,_=>by simp at hk
 |y::r,0,_,u=>by simp[zcj,znw]
 |y::r,k+1,hk,u=>by
  have:=zp5 r k (by simpa using hk) u
  simp only[zcj,ua5,znw,List.modify_succ_cons] at this ⊢
  rw[show(k+1) * 4=k * 4+1+1+1+1 from by omega]
  simpa using this
theorem zze(ys:List V4)(y:V4):zcj (ys++[y])=zcj ys++[y.1,y.2.1,y.2.2.1,y.2.2.2]:=by simp[zcj,znw]
theorem z6e(z0 z1 z2 z3:Value):∀(n i:Nat),i < n * 4->(madeCells #[z0,z1,z2,z3] (n * 4))[i]?=(zcj (List.replicate n (z0,z1,z2,z3)))[i]?:=by
 intro n i hi
 obtain⟨k,j,hj,rfl⟩:∃ k j,j < 4/\i=k * 4+j:=⟨i / 4,i % 4,Nat.mod_lt _ (by decide),by omega⟩
 have hk:k < n:=by omega
 obtain⟨h0,h1,h2,h3⟩:=zk3 (List.replicate n (z0,z1,z2,z3)) k (by simpa using hk)
 simp only[uc8] at h0 h1 h2 h3
 have hm:(k * 4+j) % 4=j:=by omega
 simp only[madeCells,Array.getElem?_map,Array.getElem?_range]
 rw[if_pos hi]
 simp only[ubp]
 have h4:(#[z0,z1,z2,z3]:Array Value).size=4:=rfl
 rw[h4,hm]
 match j,hj with
 |0,_=>rw[Nat.add_zero,h0];rfl
 |1,_=>rw[h1];rfl
 |2,_=>rw[h2];rfl
 |3,_=>rw[h3];rfl
theorem zuf{W:World}{g n:Nat}{T:TypeId}{z0 z1 z2 z3:Value}(h:Box W g (madeCells #[z0,z1,z2,z3] (n * 4)) T)(hg:lo<=g)(hn:n<=maxLen):W.ownsRow lo T 4 (sl g n) n (zcj (List.replicate n (z0,z1,z2,z3))):=by
 refine⟨by rw[zk4];simp,Or.inr ⟨g,n,madeCells #[z0,z1,z2,z3] (n * 4),rfl,hg,h,uaa _,hn,by rw[size_madeCells],?_⟩⟩
 apply uce
 intro i
 by_cases hi:i < n * 4
 ·rw[ubq,if_pos hi,Array.getElem?_toList,z6e _ _ _ _ n i hi]
 ·rw[ubq,if_neg hi,uav (by rw[zk4];simp;omega)]
def pt0(b:Nat):Value:=.pointer (some ⟨b,0,none⟩)
def z92:V4:=(.pointer none,.int .i64 0,.int .i64 0,.int .i64 0)
def z3d:List Value:=[.slice none 0 0,.slice none 0 0,.slice none 0 0,.slice none 0 0,.slice none 0 0]
def zxa(w wx:World)(r:zah)(tv:Value)(n:Nat)(s:Value):Prop:=∃ jb g,s=.pointer (some ⟨jb,0,none⟩)/\w.heap.size<=jb/\w.heap.size<=g/\Box wx jb (jc r tv (sl g n) (.slice none 0 0) z3d [0,0,0,0,0] 0).toArray 310/\Box wx g (madeCells #[.pointer none,.int .i64 0,.int .i64 0,.int .i64 0] (n * 4)) 323/\Below w.heap.size w wx
end Go.Proofs.YteampbddflhngaaGreat
namespace Go.Proofs.YteampbddflhngaaGreat
open Go.RowKit
variable {lo:Nat}
variable {w0 w:World}{b6 jb:Nat}{r:zah}{tv sv bv:Value}{hvs:List Value}{jg:List Int}{d:Int}
theorem z2s{l:zak}{p n:Nat}(h:zbq l p=some n):n<=p:=by
 unfold zbq at h
 split at h
 ·simp only[uab] at h
  have:=ucx (p:=zde l) (l:=List.range p)
  simp at this
  omega
 ·cases h
theorem zti(r:zah)(p:Nat)(hl:r.qc.length<=1000)(hp:p<=1000000):(zb2 r p).length<=1000/\∀ h∈zb2 r p,h.1<=1000000/\h.2<=1000000:=by
 constructor
 ·have:=ucr (zk6 p) r.qc.zipIdx
  rw[zth]
  simp at this
  omega
 ·intro h hm
  rw[zth,ub7] at hm
  obtain⟨x,hx,hq⟩:=hm
  unfold zk6 at hq
  cases hlv:zbq x.1 p with
  |none=>rw[hlv] at hq;cases hq
  |some lv =>
   rw[hlv] at hq
   simp only[ubp,uab] at hq
   subst hq
   have h1:=z2s hlv
   have h2:=List.snd_lt_of_mem_zipIdx hx
   simp only
   omega
structure zbm (lo:Nat) (w0 w:World) (b6 jb:Nat) (r:zah) (tv sv bv:Value) (hvs:List Value) (jg:List Int) (d:Int):Prop where
 box:Box w jb (jc r tv sv bv hvs jg d).toArray 310
 hlen:hvs.length=5
 blen:jg.length=5
 res:∃ c,Box w b6 c 310/\c.size=28
 below:Below w0.heap.size w0 w
 ne:w0.heap.size<=jb/\w0.heap.size<=b6/\jb≠b6
theorem zbm.next{w':World}(h:zbm lo w0 w b6 jb r tv sv bv hvs jg d)(hb:Below w.heap.size w w'):zbm lo w0 w' b6 jb r tv sv bv hvs jg d:=by
 obtain⟨c,h1,h2⟩:=h.res
 exact⟨h.box.below hb,h.hlen,h.blen,⟨c,h1.below hb,h2⟩,zae h.below hb (uaa _),h.ne⟩
theorem zbm.hold(h:zbm lo w0 w b6 jb r tv sv bv hvs jg d)(k:Nat)(hk:k < 5)(u:Value):zbm lo w0 (w.setCell ⟨jb,5+k,none⟩ u) b6 jb r tv sv bv (hvs.set k u) jg d:=by
 obtain⟨c,h1,h2⟩:=h.res
 refine⟨?_,by simpa using h.hlen,h.blen,⟨c,h1.set_ne (Ne.symm h.ne.2.2) _ _,h2⟩,h.below.setCell h.ne.1 _,h.ne⟩
 have:=h.box.set (5+k) u
 rw[z8n h.hlen k hk] at this
 exact this
theorem zbm.back(h:zbm lo w0 w b6 jb r tv sv bv hvs jg d)(k:Nat)(hk:k < 5)(u:Int):zbm lo w0 (w.setCell ⟨jb,10+k,none⟩ (.int .i64 u)) b6 jb r tv sv bv hvs (jg.set k u) d:=by
 obtain⟨c,h1,h2⟩:=h.res
 refine⟨?_,h.hlen,by simpa using h.blen,⟨c,h1.set_ne (Ne.symm h.ne.2.2) _ _,h2⟩,h.below.setCell h.ne.1 _,h.ne⟩
 have:=h.box.set (10+k) (.int .i64 u)
 rw[z8l h.hlen h.blen k hk] at this
 exact this
theorem zbm.qp(h:zbm lo w0 w b6 jb r tv sv bv hvs jg d)(u:Int):zbm lo w0 (w.setCell ⟨jb,26,none⟩ (.int .i64 u)) b6 jb r tv sv bv hvs jg u:=by
 obtain⟨c,h1,h2⟩:=h.res
 refine⟨?_,h.hlen,h.blen,⟨c,h1.set_ne (Ne.symm h.ne.2.2) _ _,h2⟩,h.below.setCell h.ne.1 _,h.ne⟩
 have:=h.box.set 26 (.int .i64 u)
 rw[z5w h.hlen h.blen] at this
 exact this
theorem zbm.bars(h:zbm lo w0 w b6 jb r tv sv bv hvs jg d)(u:Value):zbm lo w0 (w.setCell ⟨jb,4,none⟩ u) b6 jb r tv sv u hvs jg d:=by
 obtain⟨c,h1,h2⟩:=h.res
 refine⟨?_,h.hlen,h.blen,⟨c,h1.set_ne (Ne.symm h.ne.2.2) _ _,h2⟩,h.below.setCell h.ne.1 _,h.ne⟩
 have:=h.box.set 4 u
 rw[z8m] at this
 exact this
theorem zbm.save{w0 w w':World}{b6 jb:Nat}{r:zah}{tv sv bv:Value}{hvs:List Value}{jg:List Int}{d:Int}{M:List Nat}(h:zbm lo w0 w b6 jb r tv sv bv hvs jg d)(hs:zas M w w')(hM:∀ b∈M,w0.heap.size<=b)(hn:jb∉M/\b6∉M):zbm lo w0 w' b6 jb r tv sv bv hvs jg d:=by
 obtain⟨c,h1,h2⟩:=h.res
 exact⟨h.box.save hs hn.1,h.hlen,h.blen,⟨c,h1.save hs hn.2,h2⟩,h.below.trans (hs.below hM h.below.size),h.ne⟩
def zfn(pts:List (Nat × List Nat))(n k:Nat):List V4:=(pts.take k).map (fun x=>(pt0 x.1,.int .i64 0,.int .i64 0,.int .i64 0))++List.replicate (n - k) z92
structure z4u (b0 lo:Nat) (w:World) (v:Value) (ts:List zad) (pts:List (Nat × List Nat)):Prop where
 own:w.ownsRow b0 162 1 v ts.length (pts.map fun x=>pt0 x.1)
 len:pts.length=ts.length
 tries:∀ k (_:k < ts.length) (_:k < pts.length),zat lo w pts[k].1 ts[k] pts[k].2
 few:ts.length<=1000
theorem z4u.cell{b0:Nat}{w:World}{v:Value}{ts:List zad}{pts:List (Nat × List Nat)}(h:z4u b0 lo w v ts pts)(k:Nat)(hk:k < ts.length)(hk2:k < pts.length):∃ g cap,v=.slice (some ⟨g,0,none⟩) ts.length cap/\g < w.heap.size/\w.cell? ⟨g,k,none⟩=some (.pointer (some ⟨pts[k].1,0,none⟩)):=by
 obtain⟨g,cap,hv,_,hg,hc⟩:=zal h.own (by omega)
 exact⟨g,cap,hv,hg,hc k _ (by simp[hk2,pt0])⟩
def zd0(r:zah)(k:Nat):List Int:=(List.range 5).map fun p=>if p < k then zd7 r (p:Nat) else 0
theorem zyw(r:zah)(k:Nat)(hk:k < 5):(zd0 r k).set k (zd7 r (k:Nat))=zd0 r (k+1):=by
 obtain rfl|rfl|rfl|rfl|rfl:k=0∨k=1∨k=2∨k=3∨k=4:=by omega
 all_goals rfl
def za9(r:zah)(qc qm:List zad)(d:Int):zav:={ head:=r.head,vars:=r.vars,qy:=qc.map (fun T=>⟨T,[0,0,0]⟩),bars:=(r.qm.zip qm).map (fun x=>⟨x.1,zdn x.1,x.2⟩),ja:=(List.range 5).map (zb2 r),jg:=(List.range 5).map (fun p=>zd7 r (p:Nat)),last:=zd7 r r.vars,qx:=[0,0,0,0,0],«from»:=[0,0,0,0,0],qp:=d,jf:=0 }
def zp1(qc:List zad):Int:=if qc.any (fun T=>T.count == 0) then -1 else 0
theorem zzo(r:zah)(qc qm:List zad):za3 r qc qm=if zb3 (za9 r qc qm (zp1 qc)) 0 then za9 r qc qm (-1) else za9 r qc qm (zp1 qc):=rfl
end Go.Proofs.YteampbddflhngaaGreat
