import Derived.Test.YteampbddflhngabGreatJ20
import Derived.Test.YteampbddflhngabGreatJ17
import Derived.Laws.Tables
import Derived.Laws.Rows

namespace Go.Proofs.YteampbddflhngabGreat
set_option maxRecDepth 100000
set_option maxHeartbeats 4000000
open Go.RowKit
variable {lo:Nat}
def okJ:TypeId->zay->Prop:=zev [232,243]
def zhz(p:Nat):TypeId->zay->Prop:=orK (zmc p) okJ
theorem z1j{l:List TypeId}{t:TypeId}{ρ:zay}(h:t∈l):zev l t ρ:=h
theorem zfb{l:List TypeId}{t:TypeId}(h:t∉l):∀ ρ,¬ zev l t ρ:=fun _ q=>h q
theorem JIn.mod{ok:TypeId->zay->Prop}{w w':World}{own own':Nat->zay}{jb:Nat}{J:zat}{P:zbo}(h:JIn lo w jb J P)(m:Mod lo ok w own w' own')(h1:∀ ρ,¬ ok 232 ρ)(h2:∀ ρ,¬ ok 243 ρ)(h3:∀ ρ,¬ ok 245 ρ)(h4:∀ ρ,¬ ok 247 ρ)(h5:∀ ρ,¬ ok 208 ρ)(h6:∀ x∈P.tbs,∀ b∈x.2,∀ t,¬ NoT t->¬ ok t (own b))(h7:∀ x∈P.bps,∀ b∈x.2.2,∀ t,¬ NoT t->¬ ok t (own b)):JIn lo w' jb J P :=
 ⟨h.low,h.box.mod m (h1 _),h.head.mod m h5,zd7 h.sides m h2,h.slen,fun k a b=>(h.tries k a b).mod m (h6 _ (List.getElem_mem b)),h.nodes,zd7 h.bars m h3,h.blen,fun k a b=>⟨(h.btries k a b).1.mod m h5,(h.btries k a b).2.mod m (h7 _ (List.getElem_mem b))⟩,h.hlen,fun p a b=>⟨zd7 (h.holds p a b).1 m h4,(h.holds p a b).2⟩,h.fives,h.few⟩
def zjl(own:Nat->zay)(P:zbo)(p:Nat):Prop:=(∀ x∈P.tbs,∀ b∈x.2,own b≠(0,p,0))/\(∀ x∈P.bps,∀ b∈x.2.2,own b≠(0,p,0))
theorem JIn.add{w w':World}{own own':Nat->zay}{jb p:Nat}{J:zat}{P:zbo}(h:JIn lo w jb J P)(m:Mod lo (zmc p) w own w' own')(hr:zjl own P p):JIn lo w' jb J P/\zjl own' P p:=by
 have nk:∀ {t:TypeId},NoT t->t≠157->t≠112->t≠116->∀ ρ,¬ zmc p t ρ:=fun a b c d ρ q=>by
  rcases q with q|q|q|q
  ·exact q.1 a
  ·exact b q
  ·exact c q
  ·exact d q.1
 have nt:∀ {t:TypeId} {ρ:zay},¬ NoT t->ρ≠(0,p,0)->¬ zmc p t ρ:=fun a b q=>by
  rcases q with q|q|q|q
  ·exact b q.2
  ·subst q;exact a (by decide)
  ·subst q;exact a (by decide)
  ·rw[q.1] at a;exact a (by decide)
 refine⟨h.mod m (nk (by decide) (by decide) (by decide) (by decide)) (nk (by decide) (by decide) (by decide) (by decide)) (nk (by decide) (by decide) (by decide) (by decide)) (nk (by decide) (by decide) (by decide) (by decide)) (nk (by decide) (by decide) (by decide) (by decide)) (fun x hx b hb t ht=>nt ht (hr.1 x hx b hb)) (fun x hx b hb t ht=>nt ht (hr.2 x hx b hb)),fun x hx b hb=>?_,fun x hx b hb=>?_⟩
 ·obtain⟨k,hk,rfl⟩:=List.getElem_of_mem hx
  rw[m.old b ((h.tries k (by rw[← h.slen];exact hk) hk).lt b hb).2]
  exact hr.1 _ hx b hb
 ·obtain⟨k,hk,rfl⟩:=List.getElem_of_mem hx
  rw[m.old b ((h.btries k (by rw[← h.blen];exact hk) hk).2.lt b hb).2]
  exact hr.2 _ hx b hb
theorem Mod.ofNext{w w':World}{own:Nat->zay}{jb:Nat}{J:zat}{P:zbo}(h:JIn lo w jb J P)(hs:zao (jb::P.sv.ownBlock.toList) w w'):Mod lo okJ w own w' own :=
 Mod.ofSave own hs fun b hb=>by
  rcases List.mem_cons.1 hb with rfl|hb
  ·exact⟨h.low,h.box.lt,_,_,h.box,z1j (by decide)⟩
  ·have hb':=zc1 hb
   obtain⟨c,hc⟩:=zd8 h.sides hb'
   exact⟨zej h.sides hb',zdk h.sides hb',c,_,hc,z1j (by decide)⟩
theorem zc6.modJ{w w':World}{own own':Nat->zay}{rb:Nat}{R:zbt}{wd mr mx:Nat}{Q:zcq}(h:zc6 lo w own rb R wd mr mx Q)(m:Mod lo okJ w own w' own'):zc6 lo w' own' rb R wd mr mx Q :=
 h.mod m (zfb (by decide)) (zfb (by decide)) (zfb (by decide)) (fun _=>zfb (by decide) _) (fun q t ht hk=>by
  rcases List.mem_cons.1 hk with rfl|hk
  ·exact ht (by decide)
  ·rcases List.mem_cons.1 hk with rfl|hk
   ·exact ht (by decide)
   ·cases hk)
def zjk(lo:Nat)(w:World)(own:Nat->zay)(rb p:Nat)(R':zbt)(b:Bool)(wd mr mx:Nat)(Q:zcq)(e:Ending)(w':World):Prop:=e=.returned (.bool b)/\∃ own' fvs',zc6 lo w' own' rb R' wd mr mx ⟨Q.rv,Q.tbs,Q.fv,fvs'⟩/\Mod lo (zhz p) w own w' own'
theorem zot(w:World)(own:Nat->zay)(rb jb:Nat)(R R':zbt)(J:zat)(P:zbo)(wd mr mx:Nat)(Q:zcq)(p n:Nat)(b:Bool)(h:zc6 lo w own rb R wd mr mx Q)(hj:JIn lo w jb J P)(hrole:zjl own P p)(hlo:lo<=w.heap.size)(hr:zde mr p n R J=some (R',b)) :
  Calls Tryz.prog 138 #[.pointer (some ⟨rb,0,none⟩),.int .i64 p,.pointer (some ⟨jb,0,none⟩)] w fun e w'=>zjk lo w own rb p R' b wd mr mx Q e w':=by
 have HR:Hid (zde mr p n R J=some (R',b)):=hr
 have H0:Hid (zc6 lo w own rb R wd mr mx ⟨Q.rv,Q.tbs,Q.fv,Q.fvs⟩/\JIn lo w jb J P/\zjl own P p):=⟨h,hj,hrole⟩
 have HM0:Hid (Mod lo (zhz p) w own w own):=Mod.refl w own
 clear h hj hrole hr
 go_enter Tryz.func138,Tryz.ntmps138
 go_wp2
 go_loopg [] n (fun k wr=>∃(Rk:zbt) (Jk:zat) (ownk:Nat->zay) (fvk:List Value),Hid (zde mr p k Rk Jk=some (R',b))/\Hid (zc6 lo wr ownk rb Rk wd mr mx ⟨Q.rv,Q.tbs,Q.fv,fvk⟩/\JIn lo wr jb Jk P/\zjl ownk P p)/\Hid (Mod lo (zhz p) w own wr ownk))
 case atStart=>exact⟨R,J,own,Q.fvs,HR,H0,HM0⟩
 case round =>
  clear HR H0 HM0
  obtain⟨Rk,Jk,ownk,fvk,HQ,HK,HM⟩:=hrel
  have hszk:=HM.out.size
  cases gk with
  |zero=>have q:=HQ.out;simp[zde] at q
  |succ m =>
   have q:=HQ.out
   unfold zde at q
   cases hn:zs9 m Jk with
   |none=>rw[hn] at q;cases q
   |some ar =>
    obtain⟨J2,bn⟩:=ar
    rw[hn] at q
    have HNX:Hid (Calls Tryz.prog 144 #[.pointer (some ⟨jb,0,none⟩)] wr fun e w'=>e=.returned (.bool bn)/\JIn lo w' jb J2 P/\zao (jb::P.sv.ownBlock.toList) wr w'):=next_any wr jb Jk P m J2 bn HK.out.2.1 hn
    have HS2:Hid (∀ W,JIn lo W jb J2 P->zao (jb::P.sv.ownBlock.toList) wr W->(zc6 lo W ownk rb Rk wd mr mx ⟨Q.rv,Q.tbs,Q.fv,fvk⟩/\JIn lo W jb J2 P/\zjl ownk P p)/\Mod lo (zhz p) w own W ownk):=fun W h1 h2=>by
     have m:=Mod.ofNext (own:=ownk) HK.out.2.1 h2
     exact⟨⟨HK.out.1.modJ m,h1,HK.out.2.2⟩,HM.out.trans (m.more fun _ _ q=>Or.inr q)⟩
    clear hn HQ
    cases bn with
    |false =>
     simp only[Option.some.injEq,Prod.mk.injEq] at q
     have HE:Hid ({ Rk with moves:=IntKind.i64.wrap (Rk.moves+J2.moves) }=R'/\true=b):=q
     clear q
     go_wp2_with (first|(go_at_call 144;refine HNX.out.mono ?_;rintro e w2 ⟨rfl,hj2,hs2⟩;obtain⟨hK2,hM2⟩:=HS2.out _ hj2 hs2;clear hj2 hs2))
     obtain⟨hR2,hJ2,hro2⟩:=hK2
     have HR2:Hid (zc6 lo w2 ownk rb Rk wd mr mx ⟨Q.rv,Q.tbs,Q.fv,fvk⟩):=hR2
     have HM2:Hid (Mod lo (zhz p) w own w2 ownk):=hM2
     have HMV:Hid (∀ W,Below w2.heap.size w2 W->Calls Tryz.prog 146 #[.pointer (some ⟨jb,0,none⟩)] W fun e w'=>e=.returned (.int .i64 J2.moves)/\w'=W):=fun W hW=>z1e W jb J2 P (hJ2.below hW)
     obtain⟨h2l,h2f,_,_,_,h23,_,_,_,_⟩:=hR2.at
     have hbx:=hR2.box.set 3 (.int .i64 (IntKind.i64.wrap (Rk.moves+J2.moves)))
     have hs6:zao [rb] w2 (w2.setCell ⟨rb,3,none⟩ (.int .i64 (IntKind.i64.wrap (Rk.moves+J2.moves)))):=zao.set _ _ _ _
     have hM6:Mod lo (zhz p) w2 ownk (w2.setCell ⟨rb,3,none⟩ (.int .i64 (IntKind.i64.wrap (Rk.moves+J2.moves)))) ownk:=Mod.set ownk hR2.box hR2.low (Or.inl (Or.inr (Or.inl rfl))) _ _
     have hR6:=hR2.rebox (R':={ Rk with moves:=IntKind.i64.wrap (Rk.moves+J2.moves) }) hs6 (by simpa using hbx) rfl rfl hR2.few.2.2
     rw[HE.out.1] at hR6
     have HR6:Hid (zc6 lo (w2.setCell ⟨rb,3,none⟩ (.int .i64 (IntKind.i64.wrap (Rk.moves+J2.moves)))) ownk rb R' wd mr mx ⟨Q.rv,Q.tbs,Q.fv,fvk⟩):=hR6
     have HM6:Hid (Mod lo (zhz p) w own (w2.setCell ⟨rb,3,none⟩ (.int .i64 (IntKind.i64.wrap (Rk.moves+J2.moves)))) ownk):=HM2.out.trans hM6
     clear hR6 hM6 hbx hs6 hR2 hM2 hJ2 hro2
     have i64m:=IntWalk.i64_in
     refine wp_region_noPanic ?_
     refine zoc (S:=fun w'=>w'.cell? ⟨rb,3,none⟩=some (.int .i64 Rk.moves)) (d:=11) (by kernel_rfl) h23 (fun hHeld=>?_)
     refine zam (i:=0) (v:=?v0) rfl (by kernel_rfl) (by kernel_rfl) (by kernel_rfl) (by kernel_rfl) (fun _ _ _ h=>h) (Or.inl ⟨by rfl,?hy0⟩) hHeld ?rest0
     case hy0 =>
      intro wq hSw
      go_simp
      (try with_reducible rfl)
     refine zam (i:=1) (v:=?v1) rfl (by kernel_rfl) (by kernel_rfl) (by kernel_rfl) (by kernel_rfl) (fun _ _ _ h=>h) (Or.inl ⟨by rfl,?hy1⟩) hHeld ?rest1
     case hy1 =>
      intro wq hSw
      go_simp
      (try with_reducible rfl)
     refine zam (i:=2) (v:=?v2) rfl (by kernel_rfl) (by kernel_rfl) (by kernel_rfl) (by kernel_rfl) (fun _ _ _ h=>h) (Or.inl ⟨by rfl,?hy2⟩) hHeld ?rest2
     case hy2 =>
      intro wq hSw
      go_simp
      (try with_reducible rfl)
     refine zam (i:=3) (v:=?v3) rfl (by kernel_rfl) (by kernel_rfl) (by kernel_rfl) (by kernel_rfl) (fun _ _ _ h=>h) (Or.inl ⟨by rfl,?hy3⟩) hHeld ?rest3
     case hy3 =>
      intro wq hSw
      go_simp
      (try with_reducible rfl)
     refine zam (i:=4) (v:=?v4) rfl (by kernel_rfl) (by kernel_rfl) (by kernel_rfl) (by kernel_rfl) (fun _ _ _ h=>h) (Or.inl ⟨by rfl,?hy4⟩) hHeld ?rest4
     case hy4 =>
      intro wq hSw
      go_simp
      (try with_reducible rfl)
     refine zam (i:=5) (v:=?v5) rfl (by kernel_rfl) (by kernel_rfl) (by kernel_rfl) (by kernel_rfl) (fun _ _ _ h=>h) (Or.inl ⟨by rfl,?hy5⟩) hHeld ?rest5
     case hy5 =>
      intro wq hSw
      go_simp
      (try with_reducible rfl)
     refine zc2 (i:=6) (by kernel_rfl) rfl (fun K hK=>?_)
     go_simp
     refine(HMV.out _ (by exact(zax (Below.refl _ _) 1))).mono ?_
     rintro e w3 ⟨rfl,rfl⟩
     refine hK.out _ _ (fun _=>h23) ?_
     clear hK K
     refine zam (i:=7) (v:=?v7) rfl (by kernel_rfl) (by kernel_rfl) (by kernel_rfl) (by kernel_rfl) (fun _ _ _ h=>h) (Or.inl ⟨by rfl,?hy7⟩) hHeld ?rest7
     case hy7 =>
      intro wq hSw
      go_simp
      (try with_reducible rfl)
     refine zc2 (i:=8) (by kernel_rfl) rfl (fun K hK=>?_)
     go_simp
     refine hK.out _ _ (fun _=>h23) ?_
     clear hK K
     refine zc2 (i:=9) (by kernel_rfl) rfl (fun K hK=>?_)
     go_simp
     refine hK.out _ _ (fun _=>h23) ?_
     clear hK K
     refine zc2 (i:=10) (by kernel_rfl) rfl (fun K hK=>?_)
     go_simp
     refine hK.out _ _ (fun _=>h23) ?_
     clear hK K
     refine zc2 (i:=11) (by kernel_rfl) rfl (fun K hK=>?_)
     go_simp
     refine hK.out _ _ (fun hq=>absurd rfl hq) ?_
     clear hK K
     refine zj7 (by kernel_rfl) ?_ _
     refine NoPanic.normal ?_
     have hgr:Below (w2.setCell ⟨rb,3,none⟩ (.int .i64 (IntKind.i64.wrap (Rk.moves+J2.moves)))).heap.size (w2.setCell ⟨rb,3,none⟩ (.int .i64 (IntKind.i64.wrap (Rk.moves+J2.moves)))) (w2.setCell ⟨rb,3,none⟩ (.int .i64 (IntKind.i64.wrap (Rk.moves+J2.moves)))).drew:=(by go_grown)
     have hf:=HE.out.2
     go_wp2
     go_ret
     exact⟨by rw[← hf];rfl,ownk,fvk,HR6.out.below hgr,HM6.out.trans (Mod.of ownk hgr)⟩
    |true =>
     dsimp only at q
     cases ha:zxg mr Rk p (zcp J2.head J2.values) with
     |none=>rw[ha] at q;cases q
     |some ar2 =>
      obtain⟨R3,b3⟩:=ar2
      simp only[ha] at q
      have HHD:Hid (∀ W,JIn lo W jb J2 P->Calls Tryz.prog 145 #[.pointer (some ⟨jb,0,none⟩)] W fun r w'=>r=.returned (.agg #[.int .i64 ((rowCell J2.head J2.values 0:Nat):Int),.int .i64 ((rowCell J2.head J2.values 1:Nat):Int),.int .i64 ((rowCell J2.head J2.values 2:Nat):Int)])/\Below W.heap.size W w'):=fun W hW=>z3w W jb J2 P hW
      rw[z6r] at ha
      have HAD:Hid (∀ W,lo<=W.heap.size->zc6 lo W ownk rb Rk wd mr mx ⟨Q.rv,Q.tbs,Q.fv,fvk⟩->Calls Tryz.prog 76 #[.pointer (some ⟨rb,0,none⟩),.int .i64 p,.agg #[.int .i64 ((rowCell J2.head J2.values 0:Nat):Int),.int .i64 ((rowCell J2.head J2.values 1:Nat):Int),.int .i64 ((rowCell J2.head J2.values 2:Nat):Int)]] W fun e w'=>zt6 lo W ownk rb p R3 b3 wd mr mx ⟨Q.rv,Q.tbs,Q.fv,fvk⟩ e w'):=fun W hl hW=>zw3 W ownk rb Rk R3 wd mr mx _ p _ _ _ b3 hW hl ha
      generalize rowCell J2.head J2.values 0=r0 at *
      generalize rowCell J2.head J2.values 1=r1 at *
      generalize rowCell J2.head J2.values 2=r2 at *
      clear ha
      cases b3 with
      |false =>
       simp only[Option.some.injEq,Prod.mk.injEq] at q
       have HE:Hid (R3=R'/\false=b):=q
       clear q
       go_wp2_with (first|(go_at_call 144;refine HNX.out.mono ?_;rintro e w2 ⟨rfl,hj2,hs2⟩;obtain⟨hK2,hM2⟩:=HS2.out _ hj2 hs2;clear hj2 hs2;have HK2:Hid (zc6 lo w2 ownk rb Rk wd mr mx ⟨Q.rv,Q.tbs,Q.fv,fvk⟩/\JIn lo w2 jb J2 P/\zjl ownk P p):=hK2;have HM2:Hid (Mod lo (zhz p) w own w2 ownk):=hM2;clear hK2 hM2)|(go_at_call 145;refine(HHD.out _ HK2.out.2.1).mono ?_;rintro e w3 ⟨rfl,hb3⟩)|(go_at_call 76;refine(HAD.out _ (by exact(show lo<=(w3.alloc (.cells #[.int .i64 (r0:Nat),.int .i64 (r1:Nat),.int .i64 (r2:Nat)] 116)).heap.size by rw[World.size_alloc];have:=hb3.size;have:=HM2.out.size;omega)) (by exact(HK2.out.1.below hb3).below (by go_grown))).mono ?_;rintro e w4 ⟨rfl,own4,fv4,hR4,hM4⟩))
       go_ret
       have hm34:Mod lo (zhz p) w2 ownk w4 own4:=((Mod.of ownk hb3).trans (Mod.of ownk (show Below w3.heap.size w3 (w3.alloc (.cells #[.int .i64 (r0:Nat),.int .i64 (r1:Nat),.int .i64 (r2:Nat)] 116)) from(by go_grown)))).trans (hM4.more fun _ _ q=>Or.inl q)
       exact⟨by rw[← HE.out.2];rfl,own4,fv4,by rw[← HE.out.1];exact hR4,HM2.out.trans hm34⟩
      |true =>
       have HQ2:Hid (zde mr p m R3 J2=some (R',b)):=q
       clear q
       go_wp2_with (first|(go_at_call 144;refine HNX.out.mono ?_;rintro e w2 ⟨rfl,hj2,hs2⟩;obtain⟨hK2,hM2⟩:=HS2.out _ hj2 hs2;clear hj2 hs2;have HK2:Hid (zc6 lo w2 ownk rb Rk wd mr mx ⟨Q.rv,Q.tbs,Q.fv,fvk⟩/\JIn lo w2 jb J2 P/\zjl ownk P p):=hK2;have HM2:Hid (Mod lo (zhz p) w own w2 ownk):=hM2;clear hK2 hM2)|(go_at_call 145;refine(HHD.out _ HK2.out.2.1).mono ?_;rintro e w3 ⟨rfl,hb3⟩)|(go_at_call 76;refine(HAD.out _ (by exact(show lo<=(w3.alloc (.cells #[.int .i64 (r0:Nat),.int .i64 (r1:Nat),.int .i64 (r2:Nat)] 116)).heap.size by rw[World.size_alloc];have:=hb3.size;have:=HM2.out.size;omega)) (by exact(HK2.out.1.below hb3).below (by go_grown))).mono ?_;rintro e w4 ⟨rfl,own4,fv4,hR4,hM4⟩))
       have hgr3:Below w3.heap.size w3 (w3.alloc (.cells #[.int .i64 (r0:Nat),.int .i64 (r1:Nat),.int .i64 (r2:Nat)] 116)):=(by go_grown)
       have hm34:Mod lo (zhz p) w2 ownk w4 own4:=((Mod.of ownk hb3).trans (Mod.of ownk hgr3)).trans (hM4.more fun _ _ q=>Or.inl q)
       have hJ4:=((HK2.out.2.1.below hb3).below hgr3).add hM4 HK2.out.2.2
       go_roundg m
       case measure=>omega
       case rel=>exact⟨R3,J2,own4,fv4,HQ2,⟨hR4,hJ4.1,hJ4.2⟩,HM2.out.trans hm34⟩
theorem Tryz.infoSide:(Tryz.prog.info? 243).map (fun i=>(i.zero,i.size,i.bytes))=some (some (.agg #[.pointer none,.int .i64 0,.int .i64 0,.int .i64 0]),4,32):=by kernel_rfl
theorem Tryz.infoBar:(Tryz.prog.info? 245).map (fun i=>(i.zero,i.size,i.bytes))=some (some (.agg #[.int .i64 0,.slice none 0 0,.int .i64 0,.pointer none]),4,48):=by kernel_rfl
theorem Tryz.infoJoin:(Tryz.prog.info? 232).map (·.size)=some 28:=by kernel_rfl
structure zg7 (lo:Nat) (w:World) (J:zat) (P:zbo):Prop where
 head:zan lo w P.tv J.head.terms
 sides:w.ownsRow lo 243 4 P.sv J.sides.length (zcg (List.zipWith zmd J.sides P.tbs))
 slen:P.tbs.length=J.sides.length
 tries:∀ k (_:k < J.sides.length) (_:k < P.tbs.length),zar lo w P.tbs[k].1 J.sides[k].rows P.tbs[k].2
 nodes:∀ s∈J.sides,s.nodes.length=3
 bars:w.ownsRow lo 245 4 P.bv J.bars.length (zcg (List.zipWith zxo J.bars P.bps))
 blen:P.bps.length=J.bars.length
 btries:∀ k (_:k < J.bars.length) (_:k < P.bps.length),zan lo w P.bps[k].1 J.bars[k].lit.terms/\zar lo w P.bps[k].2.1 J.bars[k].rows P.bps[k].2.2
 hlen:P.hvs.length=5/\J.holds.length=5
 holds:∀ p (_:p < J.holds.length) (_:p < P.hvs.length),w.ownsRow lo 247 2 P.hvs[p] J.holds[p].length (zci J.holds[p])/\J.holds[p].length<=1000/\∀ h∈J.holds[p],h.1<=1000000/\h.2<=1000000
 fives:J.backs.length=5/\J.values.length=5/\J.from.length=5
 few:J.sides.length<=1000/\J.bars.length<=1000/\J.vars<=1000000
theorem zg7.join{w:World}{jb:Nat}{J:zat}{P:zbo}(h:zg7 lo w J P)(hl:lo<=jb)(hb:Box w jb (zb6 J P).toArray 232):JIn lo w jb J P :=
 ⟨hl,hb,h.head,h.sides,h.slen,h.tries,h.nodes,h.bars,h.blen,h.btries,h.hlen,h.holds,h.fives,h.few⟩
theorem zg7.below{w w':World}{J:zat}{P:zbo}(h:zg7 lo w J P)(hb:Below w.heap.size w w'):zg7 lo w' J P :=
 ⟨h.head.below hb,zaa h.sides hb,h.slen,fun k a b=>(h.tries k a b).below hb,h.nodes,zaa h.bars hb,h.blen,fun k a b=>⟨(h.btries k a b).1.below hb,(h.btries k a b).2.below hb⟩,h.hlen,fun p a b=>⟨zaa (h.holds p a b).1 hb,(h.holds p a b).2⟩,h.fives,h.few⟩
theorem zgi(J:zat)(P:zbo)(h:P.hvs.length=5)(hf:J.backs.length=5/\J.values.length=5/\J.from.length=5):(zb6 J P).length=28:=by
 simp[zb6,h,hf.1,hf.2.1,hf.2.2]
def jc(r:zaf)(tv sv bv:Value)(hvs:List Value)(backs:List Int)(d:Int):List Value :=
 [.int .i64 (r.head.pred:Nat),tv,.int .i64 (r.vars:Nat),sv,bv]++hvs++backs.map (Value.int .i64)++[.int .i64 (zdz r r.vars)]++([0,0,0,0,0]:List Nat).map ivN++([0,0,0,0,0]:List Nat).map ivN++[.int .i64 d,.int .i64 0]
theorem z6i{r:zaf}{tv sv bv:Value}{hvs:List Value}{backs:List Int}{d:Int}(h1:hvs.length=5)(k:Nat)(hk:k < 5)(u:Value):(jc r tv sv bv hvs backs d).toArray.setIfInBounds (5+k) u=(jc r tv sv bv (hvs.set k u) backs d).toArray:=by
 obtain⟨a1,a2,a3,a4,a5,rfl⟩:=five h1
 obtain rfl|rfl|rfl|rfl|rfl:k=0∨k=1∨k=2∨k=3∨k=4:=by omega
 all_goals simp[jc]
theorem z6g{r:zaf}{tv sv bv:Value}{hvs:List Value}{backs:List Int}{d:Int}(h1:hvs.length=5)(h2:backs.length=5)(k:Nat)(hk:k < 5)(u:Int):(jc r tv sv bv hvs backs d).toArray.setIfInBounds (10+k) (.int .i64 u)=(jc r tv sv bv hvs (backs.set k u) d).toArray:=by
 obtain⟨a1,a2,a3,a4,a5,rfl⟩:=five h1
 obtain⟨b1,b2,b3,b4,b5,rfl⟩:=five h2
 obtain rfl|rfl|rfl|rfl|rfl:k=0∨k=1∨k=2∨k=3∨k=4:=by omega
 all_goals simp[jc]
theorem z3y{r:zaf}{tv sv bv:Value}{hvs:List Value}{backs:List Int}{d:Int}(h1:hvs.length=5)(h2:backs.length=5)(u:Int):(jc r tv sv bv hvs backs d).toArray.setIfInBounds 26 (.int .i64 u)=(jc r tv sv bv hvs backs u).toArray:=by
 obtain⟨a1,a2,a3,a4,a5,rfl⟩:=five h1
 obtain⟨b1,b2,b3,b4,b5,rfl⟩:=five h2
 simp[jc]
theorem z6h{r:zaf}{tv sv bv:Value}{hvs:List Value}{backs:List Int}{d:Int}(u:Value):(jc r tv sv bv hvs backs d).toArray.setIfInBounds 4 u=(jc r tv sv u hvs backs d).toArray:=by simp[jc]
theorem z7p{r:zaf}{tv sv bv:Value}{hvs:List Value}{backs:List Int}{d:Int}(h1:hvs.length=5)(h2:backs.length=5):(jc r tv sv bv hvs backs d).toArray[3]?=some sv/\(jc r tv sv bv hvs backs d).toArray[4]?=some bv/\(jc r tv sv bv hvs backs d).toArray[26]?=some (.int .i64 d)/\(∀ k,k < 5->(jc r tv sv bv hvs backs d).toArray[5+k]?=some (hvs.getD k (.bool false)))/\(∀ k,k < 5->(jc r tv sv bv hvs backs d).toArray[10+k]?=some (.int .i64 (backs.getD k 0))):=by
 obtain⟨a1,a2,a3,a4,a5,rfl⟩:=five h1
 obtain⟨b1,b2,b3,b4,b5,rfl⟩:=five h2
 refine⟨by simp[jc],by simp[jc],by simp[jc],fun k hk=>?_,fun k hk=>?_⟩
 all_goals
  obtain rfl|rfl|rfl|rfl|rfl:k=0∨k=1∨k=2∨k=3∨k=4:=by omega
  all_goals simp[jc]
theorem zo7:∀(ys:List V4) (k:Nat) (_:k < ys.length) (u:Value),(zcg ys).set (k * 4) u=zcg (ys.modify k fun y=>(u,y.2.1,y.2.2.1,y.2.2.2))
 |[],k,hk,_=>by simp at hk
 |y::r,0,_,u=>by simp[zcg,zm2]
 |y::r,k+1,hk,u=>by
  have:=zo7 r k (by simpa using hk) u
  simp only[zcg,List.flatMap_cons,zm2,List.modify_succ_cons] at this ⊢
  rw[show(k+1) * 4=k * 4+1+1+1+1 from by omega]
  simpa using this
theorem zx4(ys:List V4)(y:V4):zcg (ys++[y])=zcg ys++[y.1,y.2.1,y.2.2.1,y.2.2.2]:=by simp[zcg,zm2]
theorem z4g(z0 z1 z2 z3:Value):∀(n i:Nat),i < n * 4->(madeCells #[z0,z1,z2,z3] (n * 4))[i]?=(zcg (List.replicate n (z0,z1,z2,z3)))[i]?:=by
 intro n i hi
 obtain⟨k,j,hj,rfl⟩:∃ k j,j < 4/\i=k * 4+j:=⟨i / 4,i % 4,Nat.mod_lt _ (by decide),by omega⟩
 have hk:k < n:=by omega
 obtain⟨h0,h1,h2,h3⟩:=zkk (List.replicate n (z0,z1,z2,z3)) k (by simpa using hk)
 simp only[List.getElem_replicate] at h0 h1 h2 h3
 have hm:(k * 4+j) % 4=j:=by omega
 simp only[madeCells,Array.getElem?_map,Array.getElem?_range]
 rw[if_pos hi]
 simp only[Option.map_some]
 have h4:(#[z0,z1,z2,z3]:Array Value).size=4:=rfl
 rw[h4,hm]
 match j,hj with
 |0,_=>rw[Nat.add_zero,h0];rfl
 |1,_=>rw[h1];rfl
 |2,_=>rw[h2];rfl
 |3,_=>rw[h3];rfl
theorem ztd{W:World}{g n:Nat}{T:TypeId}{z0 z1 z2 z3:Value}(h:Box W g (madeCells #[z0,z1,z2,z3] (n * 4)) T)(hg:lo<=g)(hn:n<=maxLen):W.ownsRow lo T 4 (sl g n) n (zcg (List.replicate n (z0,z1,z2,z3))):=by
 refine⟨by rw[zkl];simp,Or.inr ⟨g,n,madeCells #[z0,z1,z2,z3] (n * 4),rfl,hg,h,Nat.le_refl _,hn,by rw[size_madeCells],?_⟩⟩
 apply List.ext_getElem?
 intro i
 by_cases hi:i < n * 4
 ·rw[List.getElem?_take,if_pos hi,Array.getElem?_toList,z4g _ _ _ _ n i hi]
 ·rw[List.getElem?_take,if_neg hi,List.getElem?_eq_none (by rw[zkl];simp;omega)]
def pt0(b:Nat):Value:=.pointer (some ⟨b,0,none⟩)
def z7q:V4:=(.pointer none,.int .i64 0,.int .i64 0,.int .i64 0)
def z1g:List Value:=[.slice none 0 0,.slice none 0 0,.slice none 0 0,.slice none 0 0,.slice none 0 0]
def zv7(w wx:World)(r:zaf)(tv:Value)(n:Nat)(s:Value):Prop:=∃ jb g,s=.pointer (some ⟨jb,0,none⟩)/\w.heap.size<=jb/\w.heap.size<=g/\Box wx jb (jc r tv (sl g n) (.slice none 0 0) z1g [0,0,0,0,0] 0).toArray 232/\Box wx g (madeCells #[.pointer none,.int .i64 0,.int .i64 0,.int .i64 0] (n * 4)) 243/\Below w.heap.size w wx
theorem z05{l:zai}{p n:Nat}(h:zbj l p=some n):n<=p:=by
 unfold zbj at h
 split at h
 ·simp only[Option.some.injEq] at h
  have:=List.countP_le_length (p:=zc8 l) (l:=List.range p)
  simp at this
  omega
 ·cases h
theorem zsf(r:zaf)(p:Nat)(hl:r.plain.length<=1000)(hp:p<=1000000):(zbw r p).length<=1000/\∀ h∈zbw r p,h.1<=1000000/\h.2<=1000000:=by
 constructor
 ·have:=List.length_filterMap_le (zkn p) r.plain.zipIdx
  rw[zse]
  simp at this
  omega
 ·intro h hm
  rw[zse,List.mem_filterMap] at hm
  obtain⟨x,hx,hq⟩:=hm
  unfold zkn at hq
  cases hlv:zbj x.1 p with
  |none=>rw[hlv] at hq;cases hq
  |some lv =>
   rw[hlv] at hq
   simp only[Option.map_some,Option.some.injEq] at hq
   subst hq
   have h1:=z05 hlv
   have h2:=List.snd_lt_of_mem_zipIdx hx
   simp only
   omega
structure zbg (lo:Nat) (w0 w:World) (b6 jb:Nat) (r:zaf) (tv sv bv:Value) (hvs:List Value) (backs:List Int) (d:Int):Prop where
 box:Box w jb (jc r tv sv bv hvs backs d).toArray 232
 hlen:hvs.length=5
 blen:backs.length=5
 res:∃ c,Box w b6 c 232/\c.size=28
 below:Below w0.heap.size w0 w
 ne:w0.heap.size<=jb/\w0.heap.size<=b6/\jb≠b6
theorem zbg.next{w0 w w':World}{b6 jb:Nat}{r:zaf}{tv sv bv:Value}{hvs:List Value}{backs:List Int}{d:Int}(h:zbg lo w0 w b6 jb r tv sv bv hvs backs d)(hb:Below w.heap.size w w'):zbg lo w0 w' b6 jb r tv sv bv hvs backs d:=by
 obtain⟨c,h1,h2⟩:=h.res
 exact⟨h.box.below hb,h.hlen,h.blen,⟨c,h1.below hb,h2⟩,zae h.below hb (Nat.le_refl _),h.ne⟩
theorem zbg.hold{w0 w:World}{b6 jb:Nat}{r:zaf}{tv sv bv:Value}{hvs:List Value}{backs:List Int}{d:Int}(h:zbg lo w0 w b6 jb r tv sv bv hvs backs d)(k:Nat)(hk:k < 5)(u:Value):zbg lo w0 (w.setCell ⟨jb,5+k,none⟩ u) b6 jb r tv sv bv (hvs.set k u) backs d:=by
 obtain⟨c,h1,h2⟩:=h.res
 refine⟨?_,by simpa using h.hlen,h.blen,⟨c,h1.set_ne (Ne.symm h.ne.2.2) _ _,h2⟩,h.below.setCell h.ne.1 _,h.ne⟩
 have:=h.box.set (5+k) u
 rw[z6i h.hlen k hk] at this
 exact this
theorem zbg.back{w0 w:World}{b6 jb:Nat}{r:zaf}{tv sv bv:Value}{hvs:List Value}{backs:List Int}{d:Int}(h:zbg lo w0 w b6 jb r tv sv bv hvs backs d)(k:Nat)(hk:k < 5)(u:Int):zbg lo w0 (w.setCell ⟨jb,10+k,none⟩ (.int .i64 u)) b6 jb r tv sv bv hvs (backs.set k u) d:=by
 obtain⟨c,h1,h2⟩:=h.res
 refine⟨?_,h.hlen,by simpa using h.blen,⟨c,h1.set_ne (Ne.symm h.ne.2.2) _ _,h2⟩,h.below.setCell h.ne.1 _,h.ne⟩
 have:=h.box.set (10+k) (.int .i64 u)
 rw[z6g h.hlen h.blen k hk] at this
 exact this
theorem zbg.depth{w0 w:World}{b6 jb:Nat}{r:zaf}{tv sv bv:Value}{hvs:List Value}{backs:List Int}{d:Int}(h:zbg lo w0 w b6 jb r tv sv bv hvs backs d)(u:Int):zbg lo w0 (w.setCell ⟨jb,26,none⟩ (.int .i64 u)) b6 jb r tv sv bv hvs backs u:=by
 obtain⟨c,h1,h2⟩:=h.res
 refine⟨?_,h.hlen,h.blen,⟨c,h1.set_ne (Ne.symm h.ne.2.2) _ _,h2⟩,h.below.setCell h.ne.1 _,h.ne⟩
 have:=h.box.set 26 (.int .i64 u)
 rw[z3y h.hlen h.blen] at this
 exact this
theorem zbg.bars{w0 w:World}{b6 jb:Nat}{r:zaf}{tv sv bv:Value}{hvs:List Value}{backs:List Int}{d:Int}(h:zbg lo w0 w b6 jb r tv sv bv hvs backs d)(u:Value):zbg lo w0 (w.setCell ⟨jb,4,none⟩ u) b6 jb r tv sv u hvs backs d:=by
 obtain⟨c,h1,h2⟩:=h.res
 refine⟨?_,h.hlen,h.blen,⟨c,h1.set_ne (Ne.symm h.ne.2.2) _ _,h2⟩,h.below.setCell h.ne.1 _,h.ne⟩
 have:=h.box.set 4 u
 rw[z6h] at this
 exact this
theorem zbg.save{w0 w w':World}{b6 jb:Nat}{r:zaf}{tv sv bv:Value}{hvs:List Value}{backs:List Int}{d:Int}{M:List Nat}(h:zbg lo w0 w b6 jb r tv sv bv hvs backs d)(hs:zao M w w')(hM:∀ b∈M,w0.heap.size<=b)(hn:jb∉M/\b6∉M):zbg lo w0 w' b6 jb r tv sv bv hvs backs d:=by
 obtain⟨c,h1,h2⟩:=h.res
 exact⟨h.box.save hs hn.1,h.hlen,h.blen,⟨c,h1.save hs hn.2,h2⟩,h.below.trans (hs.below hM h.below.size),h.ne⟩
def zfg(pts:List (Nat × List Nat))(n k:Nat):List V4:=(pts.take k).map (fun x=>(pt0 x.1,.int .i64 0,.int .i64 0,.int .i64 0))++List.replicate (n - k) z7q
structure z2w (b0 lo:Nat) (w:World) (v:Value) (ts:List zad) (pts:List (Nat × List Nat)):Prop where
 own:w.ownsRow b0 113 1 v ts.length (pts.map fun x=>pt0 x.1)
 len:pts.length=ts.length
 tries:∀ k (_:k < ts.length) (_:k < pts.length),zar lo w pts[k].1 ts[k] pts[k].2
 few:ts.length<=1000
theorem z2w.cell{b0:Nat}{w:World}{v:Value}{ts:List zad}{pts:List (Nat × List Nat)}(h:z2w b0 lo w v ts pts)(k:Nat)(hk:k < ts.length)(hk2:k < pts.length):∃ g cap,v=.slice (some ⟨g,0,none⟩) ts.length cap/\g < w.heap.size/\w.cell? ⟨g,k,none⟩=some (.pointer (some ⟨pts[k].1,0,none⟩)):=by
 obtain⟨g,cap,hv,_,hg,hc⟩:=zas h.own (by omega)
 exact⟨g,cap,hv,hg,hc k _ (by simp[hk2,pt0])⟩
def zdr(r:zaf)(k:Nat):List Int:=(List.range 5).map fun p=>if p < k then zdz r (p:Nat) else 0
theorem zxn(r:zaf)(k:Nat)(hk:k < 5):(zdr r k).set k (zdz r (k:Nat))=zdr r (k+1):=by
 obtain rfl|rfl|rfl|rfl|rfl:k=0∨k=1∨k=2∨k=3∨k=4:=by omega
 all_goals rfl
def za4(r:zaf)(plain nots:List zad)(d:Int):zat:={ head:=r.head,vars:=r.vars,sides:=plain.map (fun T=>⟨T,[0,0,0]⟩),bars:=(r.nots.zip nots).map (fun x=>⟨x.1,zdg x.1,x.2⟩),holds:=(List.range 5).map (zbw r),backs:=(List.range 5).map (fun p=>zdz r (p:Nat)),last:=zdz r r.vars,values:=[0,0,0,0,0],«from»:=[0,0,0,0,0],depth:=d,moves:=0 }
def zo3(plain:List zad):Int:=if plain.any (fun T=>T.count == 0) then -1 else 0
theorem zye(r:zaf)(plain nots:List zad):za0 r plain nots=if zbx (za4 r plain nots (zo3 plain)) 0 then za4 r plain nots (-1) else za4 r plain nots (zo3 plain):=rfl
end Go.Proofs.YteampbddflhngabGreat
