import Derived.Test.YteampbddflhngabGreatJ24
import Derived.Test.YteampbddflhngabGreatJ19
import Derived.Deep.RegionHeld3

namespace Go.Proofs.YteampbddflhngabGreat
set_option maxRecDepth 100000
set_option maxHeartbeats 4000000
open Go.RowKit
variable {lo:Nat}
def zio(k:Nat):TypeId->zay->Prop:=fun t ρ=>(¬ NoT t/\∃ i j,ρ=(k+1,i,j))∨(t=223/\ρ=(k+1,0,9))
theorem z1l{k i:Nat}{t:TypeId}{ρ:zay}(h:zf6 k i (k+1,0,9) t ρ):zio k t ρ:=by
 rcases h with ⟨h1,j,h2⟩|h
 ·exact Or.inl ⟨h1,i,j,h2⟩
 ·exact Or.inr h
theorem zfc{k:Nat}{t:TypeId}(h:NoT t)(h2:t≠223):∀ ρ,¬ zio k t ρ:=fun ρ q=>by
 rcases q with q|q
 ·exact q.1 h
 ·exact h2 q.1
theorem zfq{k:Nat}{t:TypeId}{a b c:Nat}(h:a≠k+1):¬ zio k t (a,b,c):=fun q=>by
 rcases q with ⟨_,i,j,q⟩|⟨_,q⟩ <;> simp at q <;> omega
theorem zce{k i:Nat}{ρg:zay}{t:TypeId}(h:NoT t)(h2:t≠223):∀ ρ,¬ zf6 k i ρg t ρ:=fun ρ q=>by
 rcases q with q|q
 ·exact q.1 h
 ·exact h2 q.1
theorem zc6.work{w w':World}{own own':Nat->zay}{rb:Nat}{R:zbt}{wd mr mx k:Nat}{Q:zcq}(h:zc6 lo w own rb R wd mr mx Q)(m:Mod lo (zio k) w own w' own'):zc6 lo w' own' rb R wd mr mx Q :=
 h.mod m (zfc (by decide) (by decide)) (zfc (by decide) (by decide)) (zfc (by decide) (by decide)) (fun _=>zfq (by omega)) (fun _ _ _=>zfq (by omega))
theorem z7c{w w':World}{base:Nat}{e:TypeId}{size g n cap m:Nat}{xs:List Value}(h:w.ownsRow base e size (.slice (some ⟨g,0,none⟩) n cap) m xs)(hb:w'.heap[g]?=w.heap[g]?):w'.ownsRow base e size (.slice (some ⟨g,0,none⟩) n cap) m xs:=by
 obtain⟨h1,h2⟩:=h
 refine⟨h1,?_⟩
 rcases h2 with h2|⟨g',cap',cur,hv,hg,hh,rr⟩
 ·exact Or.inl h2
 ·refine Or.inr ⟨g',cap',cur,hv,hg,?_,rr⟩
  simp at hv
  rw[← hv.1,hb,hv.1];exact hh
theorem zyp{w w':World}{base:Nat}{e:TypeId}{size g n cap m:Nat}{xs:List Value}{c:Array Value}(h:w.ownsRow base e size (.slice (some ⟨g,0,none⟩) n cap) m xs)(hc:Box w g c e)(j:Nat)(hj:j < xs.length)(u:Value)(hb:Box w' g (c.setIfInBounds j u) e):w'.ownsRow base e size (.slice (some ⟨g,0,none⟩) n cap) m (xs.set j u):=by
 refine z7c (zb7 h j hj u) ?_
 unfold Box at hb hc
 rw[hb]
 simp[World.setCell,Array.getElem?_modify,hc]
theorem ztz(wd:Nat):∀(vs:List zco) (ps:List zfz),ps.length=vs.length->(zgx wd vs ps).length=6 * vs.length
 |[],[],_=>rfl
 |[],_::_,h=>by simp at h
 |_::_,[],h=>by simp at h
 |v::vs,p::ps,h=>by
  have:=ztz wd vs ps (by simpa using h)
  simp only[zgx,List.zipWith_cons_cons,List.flatten_cons,List.length_append] at this ⊢
  rw[this]
  simp[zcw]
  omega
theorem zt0(wd:Nat):∀(vs:List zco) (ps:List zfz) (i:Nat) (_:i < vs.length) (h2:i < ps.length) (V:zco) (fb:Nat),V.lit=(vs.getD i V).lit->zgx wd (vs.set i V) (ps.set i ⟨ps[i].tv,ps[i].bb,fb,ps[i].ab⟩)=(zgx wd vs ps).set (i * 6+4) (.pointer (some ⟨fb,0,none⟩))
 |[],_,i,h1,_,_,_,_=>by simp at h1
 |v::vs,[],i,_,h2,_,_,_=>by simp at h2
 |v::vs,p::ps,0,_,_,V,fb,h=>by
  simp at h
  simp[zgx,zcw,h,pt]
 |v::vs,p::ps,i+1,h1,h2,V,fb,h=>by
  have:=zt0 wd vs ps i (by simpa using h1) (by simpa using h2) V fb (by simpa using h)
  simp only[zgx,List.set_cons_succ,List.zipWith_cons_cons,List.flatten_cons,List.getElem_cons_succ] at this ⊢
  rw[this,List.set_append,if_neg (by simp[zcw];omega)]
  congr 2
  simp[zcw]
  omega
def zmb{α:Type}(vs' vs:List α)(m:Nat):List α:=vs'.take m++vs.drop m
theorem zml{α:Type}{vs' vs:List α}(h:vs'.length=vs.length)(m:Nat)(hm:m<=vs.length):(zmb vs' vs m).length=vs.length:=by simp[zmb];omega
theorem z1d{α:Type}{vs' vs:List α}(h:vs'.length=vs.length)(m:Nat)(hm:m < vs.length)(hm2:m < (zmb vs' vs m).length):(zmb vs' vs m)[m]=vs[m]:=by
 simp only[zmb]
 rw[List.getElem_append_right (by simp;omega)]
 simp[show min m vs'.length=m by omega]
theorem zwv{α:Type}{vs' vs:List α}(h:vs'.length=vs.length)(m:Nat)(hm:m < vs.length)(hm':m < vs'.length):(zmb vs' vs m).set m vs'[m]=zmb vs' vs (m+1):=by
 have e1:vs.drop m=vs[m]::vs.drop (m+1):=List.drop_eq_getElem_cons hm
 have e2:vs'.take (m+1)=vs'.take m++[vs'[m]]:=by rw[List.take_succ_eq_append_getElem hm']
 have e3:(vs'.take m).length=m:=by simp;omega
 show(vs'.take m++vs.drop m).set m vs'[m]=vs'.take (m+1)++vs.drop (m+1)
 rw[e1,e2,List.set_append,if_neg (by omega),e3,Nat.sub_self,List.set_cons_zero,List.append_assoc]
 rfl
theorem zlp{f wd:Nat}{V V':zco}{rows:List zaq}(h:zh6 f wd V rows=some V'):V'.lit=V.lit:=by
 obtain⟨_,_,_,_,_,_,_,_,e⟩:=znz h
 rw[e]
theorem zpx{f wd:Nat}{fr:List (List zaq)}:∀ {vs vs':List zco},zhe f wd fr vs=some vs'->vs'.length=vs.length/\∀ i (h1:i < vs.length) (h2:i < vs'.length),if vs[i].lit.pred < fr.length then zh6 f wd vs[i] (fr.getD vs[i].lit.pred [])=some vs'[i] else vs'[i]=vs[i]
 |[],vs',h=>by
  simp[zhe] at h
  subst h
  exact⟨rfl,fun i h=>by simp at h⟩
 |V::vs,vs',h=>by
  unfold zhe at h
  split at h
  ·rename_i v vs2 hv hvs
   simp at h
   subst h
   obtain⟨q1,q2⟩:=zpx hvs
   refine⟨by simp[q1],fun i h1 h2=>?_⟩
   match i,h1,h2 with
   |0,_,_ =>
    simp only[List.getElem_cons_zero]
    by_cases e:V.lit.pred < fr.length
    ·rw[if_pos e] at hv ⊢;exact hv
    ·rw[if_neg e] at hv ⊢;simpa using hv.symm
   |i+1,h1,h2 =>
    simp only[List.getElem_cons_succ]
    exact q2 i (by simpa using h1) (by simpa using h2)
  ·cases h
theorem zdy.renewed{w w':World}{own own':Nat->zay}{k wd i g cap fb:Nat}{W:zbe}{P:za6}{V':zco}{c:Array Value}(h:zdy lo w own k wd W P)(h1:i < W.views.length)(h2:i < P.vps.length)(hvv:P.vv=.slice (some ⟨g,0,none⟩) W.views.length cap)(hc:Box w g c 223)(hl:V'.lit=W.views[i].lit)(hv:zf0 lo w' own' k i V' ⟨P.vps[i].tv,P.vps[i].bb,fb,P.vps[i].ab⟩)(hb:Box w' g (c.setIfInBounds (i * 6+4) (.pointer (some ⟨fb,0,none⟩))) 223)(m:Mod lo (zf6 k i (k+1,0,9)) w own w' own'):zdy lo w' own' k wd ⟨W.rule,W.views.set i V'⟩ { P with vps:=P.vps.set i ⟨P.vps[i].tv,P.vps[i].bb,fb,P.vps[i].ab⟩ }:=by
 refine⟨h.rule.mod m (zce (by decide) (by decide)) (zce (by decide) (by decide)),?_,by simp[h.vlen],fun j a b=>?_,fun b hb'=>(m.old b (zdk h.views hb')).trans (h.vrole b hb'),zd7 h.nots m (zce (by decide) (by decide)),h.nlen,by simpa using h.few⟩
 ·have hq:=h.views
  dsimp only
  rw[hvv] at hq ⊢
  rw[List.length_set]
  have e:=zt0 wd W.views P.vps i h1 h2 V' fb (by simp[List.getD,h1,hl])
  have hlen:=ztz wd W.views P.vps h.vlen
  have q:=zyp hq hc (i * 6+4) (by omega) (.pointer (some ⟨fb,0,none⟩)) hb
  rw[← e] at q
  exact q
 ·simp only[List.length_set] at a b
  simp only[List.getElem_set]
  by_cases e:i=j
  ·subst e
   rw[if_pos rfl,if_pos rfl]
   exact hv
  ·rw[if_neg e,if_neg e]
   refine(h.view j a b).mod m (fun q t ht hk=>?_) (zce (by decide) (by decide))
   rcases hk with ⟨_,j',hk⟩|⟨hk2,hk⟩
   ·simp at hk;omega
   ·subst hk2
    exact ht (by decide)
def zt9(lo:Nat)(w:World)(own:Nat->zay)(k wd:Nat)(W:zbe)(vs':List zco)(P:za6)(e:Ending)(w':World):Prop:=e=.returned (.tuple #[])/\∃ own' vps',zdy lo w' own' k wd ⟨W.rule,vs'⟩ ⟨P.tv,P.pv,P.nv,P.vv,P.ntv,vps',P.nbs⟩/\Mod lo (zio k) w own w' own'
theorem zrb(w:World)(own:Nat->zay)(rb gw o k:Nat)(c:Array Value)(R:zbt)(W:zbe)(vs':List zco)(P:za6)(wd mr mx:Nat)(Q:zcq)(fuel:Nat)(h:zc6 lo w own rb R wd mr mx Q)(hw:zdy lo w own k wd W P)(hbx:Box w gw c 216)(hcc:WCc c o W.rule P)(hlo:lo<=w.heap.size)(hfr:∀ l∈R.fresh,l.length<=1048577)(hr:zhe fuel wd R.fresh W.views=some vs') :
  Calls Tryz.prog 127 #[.pointer (some ⟨gw,o,none⟩),Q.fv] w fun e w'=>zt9 lo w own k wd W vs' P e w':=by
 obtain⟨hvl,hva⟩:=zpx hr
 have HVL:Hid (vs'.length=W.views.length):=hvl
 have HVA:Hid (∀ i (h1:i < W.views.length) (h2:i < vs'.length),if W.views[i].lit.pred < R.fresh.length then zh6 fuel wd W.views[i] (R.fresh.getD W.views[i].lit.pred [])=some vs'[i] else vs'[i]=W.views[i]):=hva
 have HH:Hid (zc6 lo w own rb R wd mr mx Q):=h
 have HWO:Hid (zdy lo w own k wd W P):=hw
 have HBX:Hid (Box w gw c 216):=hbx
 have HCC:Hid (WCc c o W.rule P):=hcc
 have HLO:Hid (lo<=w.heap.size):=hlo
 have HFR:Hid (∀ l∈R.fresh,l.length<=1048577):=hfr
 have hfew:=hw.few
 have hff:=h.few.2.1
 obtain⟨aov,capv,hvv⟩:=zab hw.views
 have HVV:Hid (P.vv=.slice aov W.views.length capv):=hvv
 obtain⟨aof,capf,hfv⟩:=zab h.fresh
 have HFV:Hid (Q.fv=.slice aof R.fresh.length capf):=hfv
 have hwc:=hcc.at hbx
 have hcl:=hwc.lt
 have hc6:=hwc.c6
 rw[hvv] at hc6
 rw[hfv]
 clear hr h hw hbx hcc hlo hvv hwc hvl hva hfr hfv
 go_enter Tryz.func127,Tryz.ntmps127
 go_upto_region 1 with fail
 go_loopw [11] (fun v11 wr=>∃ m:Nat,m<=W.views.length/\v11=.int .i64 m/\∃ ownk vpk,Hid (zdy lo wr ownk k wd ⟨W.rule,zmb vs' W.views m⟩ ⟨P.tv,P.pv,P.nv,P.vv,P.ntv,vpk,P.nbs⟩)/\Hid (Mod lo (zio k) w own wr ownk)) (fun i _=>W.views.length - (intOf i).toNat)
 case atStart=>exact⟨0,Nat.zero_le _,rfl,own,P.vps,HWO.out,Mod.refl _ _⟩
 case round =>
  obtain⟨m,hm,rfl,ownk,vpk,HWK,HMO⟩:=hrel
  have hszk:=HMO.out.size
  have hlok:lo<=wr.heap.size:=Nat.le_trans HLO.out hszk
  by_cases hlt:m < W.views.length
  ·have hwk:=HWK.out
   have hml:m < (zmb vs' W.views m).length:=by rw[zml HVL.out m hm];exact hlt
   have hmv:m < vs'.length:=by rw[HVL.out];exact hlt
   have hma:=z1d HVL.out m hlt hml
   have hms:=zwv HVL.out m hlt hmv
   have hm2:m < vpk.length:=by have:=hwk.vlen;dsimp only at this;omega
   obtain⟨gv,capv',hvv',hgv,q0,q1,q2,q3,q4,q5⟩:=hwk.viewAt m hml hm2
   dsimp only at hvv' q0 q1 q2 q3 q4 q5
   rw[HVV.out] at hvv'
   simp only[Value.slice.injEq] at hvv'
   have hgg:=hvv'.1
   clear hvv'
   subst hgg
   obtain⟨aoq,capq,hq⟩:=(hwk.view m hml hm2).terms.shape
   dsimp only at hq
   rw[hq] at q1
   rw[hma] at q0 q1
   have hmkk:(m:Int) < (W.views.length:Int):=by omega
   have HBK:Hid (Box wr gw c 216):=HBX.out.mod HMO.out (zfc (by decide) (by decide) _)
   have hd6:wr.cell? ⟨gw,o+6,none⟩=some (.slice (some ⟨gv,0,none⟩) W.views.length capv):=by rw[← HVV.out];exact(HCC.out.at HBK.out).c6
   have hgl:=HBK.out.lt
   have hvam:=HVA.out m hlt hmv
   have hnn:¬ (W.views[m].lit.pred:Int) < 0:=by omega
   by_cases hpr:W.views[m].lit.pred < R.fresh.length
   ·rw[if_pos hpr] at hvam
    have HRO:Hid (zc6 lo wr ownk rb R wd mr mx Q):=HH.out.work HMO.out
    have hro:=HRO.out
    have hpf:W.views[m].lit.pred < Q.fvs.length:=by rw[hro.flen];exact hpr
    obtain⟨gf,capf',hfv',_,hgf,hcf⟩:=zas hro.fresh (by omega)
    rw[HFV.out] at hfv'
    simp only[Value.slice.injEq] at hfv'
    have hgg:=hfv'.1
    clear hfv'
    subst hgg
    have hcfp:=hcf W.views[m].lit.pred _ (List.getElem?_eq_getElem hpf)
    have hrin:=(hro.frows _ hpr hpf).1
    obtain⟨aor,capr,hrv⟩:=zab hrin.1
    have hrl:R.fresh[W.views[m].lit.pred].length<=1048577:=HFR.out _ (List.getElem_mem _)
    rw[show R.fresh.getD W.views[m].lit.pred []=R.fresh[W.views[m].lit.pred] by simp[List.getD,hpr]] at hvam
    have HRN:Hid (∀ W0,Below wr.heap.size wr W0->Box W0 wr.heap.size #[.int .i64 (W.views[m].lit.pred:Nat),.slice aoq W.views[m].lit.terms.length capq,.int .i64 (wd:Nat),.pointer (some ⟨vpk[m].bb,0,none⟩),.pointer (some ⟨vpk[m].fb,0,none⟩),.pointer (some ⟨vpk[m].ab,0,none⟩)] 223->Calls Tryz.prog 136 #[.pointer (some ⟨gv,m * 6,none⟩),.slice aor R.fresh[W.views[m].lit.pred].length capr] W0 fun e w'=>e=.returned (.tuple #[])/\w'.cell? ⟨gw,o+6,none⟩=some (.slice (some ⟨gv,0,none⟩) W.views.length capv)/\w'.cell? ⟨wr.heap.size,0,none⟩=some (.int .i64 (W.views[m].lit.pred:Nat))/\w'.cell? ⟨gf,W.views[m].lit.pred,none⟩=some (.slice aor R.fresh[W.views[m].lit.pred].length capr)/\Hid (∃ own' vpk',zdy lo w' own' k wd ⟨W.rule,zmb vs' W.views (m+1)⟩ ⟨P.tv,P.pv,P.nv,P.vv,P.ntv,vpk',P.nbs⟩/\Mod lo (zio k) w own w' own')):=fun W0 hb hbt=>by
     have hM0:Mod lo (fun _ _=>False) wr ownk W0 (ext ownk wr.heap.size (0,0,5)):=Mod.extNew ownk (0,0,5) hb
     have hW0:=HWK.out.mod hM0 (fun _=>id) (fun _=>id) id (fun _=>id) (fun _ _ _ _=>id)
     have hbk0:=HBK.out.below hb
     have hv0:=hW0.views
     dsimp only at hv0
     rw[HVV.out] at hv0
     obtain⟨cg,hcg⟩:=zd8 hv0 rfl
     have hrole:ext ownk wr.heap.size (0,0,5) gv=(k+1,0,9):=hW0.vrole gv (by dsimp only;rw[HVV.out];rfl)
     obtain⟨hcc0,_⟩:=hcg.rules
     obtain⟨cf,hcf0⟩:=zd8 (zaa hro.fresh hb) (b:=gf) (by rw[HFV.out];rfl)
     have hvc:VC cg (m * 6) wd W.views[m].lit.pred vpk[m].tv vpk[m].bb vpk[m].fb vpk[m].ab:=⟨(hcc0 _).symm.trans ((hb.cell hgv).trans q0),(hcc0 _).symm.trans ((hb.cell hgv).trans (by rw[q1,hq,hma])),(hcc0 _).symm.trans ((hb.cell hgv).trans q2),(hcc0 _).symm.trans ((hb.cell hgv).trans q3),(hcc0 _).symm.trans ((hb.cell hgv).trans q4),(hcc0 _).symm.trans ((hb.cell hgv).trans q5)⟩
     have hvw:=hW0.view m hml hm2
     dsimp only at hvw
     rw[hma] at hvw
     have q:=zn1 W0 _ k m gv (m * 6) wd fuel cg W.views[m] vs'[m] vpk[m] _ _ hcg hvc hvw (hrin.below' hb) (zej hv0 rfl) (Nat.le_trans hlok hb.size) hro.small.1 hrl hvam
     rw[hrv] at q
     refine q.mono ?_
     rintro e w' ⟨rfl,fb',own',hv',hb',hm'⟩
     rw[hrole] at hm'
     have hr2:=hW0.renewed (W:=⟨W.rule,zmb vs' W.views m⟩) hml hm2 (cap:=capv) (by dsimp only;rw[HVV.out,zml HVL.out m hm]) hcg (by dsimp only;rw[hma];exact zlp hvam) hv' hb' hm'
     dsimp only at hr2
     rw[hms] at hr2
     have c1:=hbk0.mod hm' (zce (by decide) (by decide) _)
     have c2:=hbt.mod hm' (fun q=>by rcases q with ⟨q,_⟩|⟨_,q⟩;exact q (by decide);simp[ext] at q)
     have c3:=hcf0.mod hm' (zce (by decide) (by decide) _)
     refine⟨rfl,?_,?_,?_,own',_,hr2,(HMO.out.trans (hM0.more fun _ _ q=>q.elim)).trans (hm'.more fun _ _ q=>z1l q)⟩
     ·rw[← HVV.out];exact(HCC.out.at c1).c6
     ·rw[c2.rules.1];rfl
     ·rw[c3.rules.1,← hcf0.rules.1,hb.cell hgf,hcfp,hrv]
    rw[hrv] at hcfp
    have hrl2:R.fresh[W.views[m].lit.pred].length<=1048577:=hrl
    clear hrv hrin hcf hro hvam hq hwk hrl hma hms hml
    generalize R.fresh[W.views[m].lit.pred].length=rl at *
    have hpi:(W.views[m].lit.pred:Int) < (R.fresh.length:Int):=by omega
    generalize W.views[m].lit.pred=vp at *
    generalize W.views[m].lit.terms.length=vt at *
    generalize vpk[m].bb=bbm at *
    generalize vpk[m].fb=fbm at *
    generalize vpk[m].ab=abm at *
    go_upto_region 4 with fail
    have hgrow:Below wr.heap.size wr (wr.alloc (.cells #[.int .i64 (vp:Nat),.slice aoq vt capq,.int .i64 (wd:Nat),.pointer (some ⟨bbm,0,none⟩),.pointer (some ⟨fbm,0,none⟩),.pointer (some ⟨abm,0,none⟩)] 223)):=(by go_grown)
    have hbt:=Box.new wr #[.int .i64 (vp:Nat),.slice aoq vt capq,.int .i64 (wd:Nat),.pointer (some ⟨bbm,0,none⟩),.pointer (some ⟨fbm,0,none⟩),.pointer (some ⟨abm,0,none⟩)] 223
    generalize hW1:wr.alloc (.cells #[.int .i64 (vp:Nat),.slice aoq vt capq,.int .i64 (wd:Nat),.pointer (some ⟨bbm,0,none⟩),.pointer (some ⟨fbm,0,none⟩),.pointer (some ⟨abm,0,none⟩)] 223)=W1 at *
    clear hW1
    have x1:=(hgrow.cell (p:=⟨gw,o+6,none⟩) hgl).trans hd6
    have x2:=(hgrow.cell (p:=⟨gf,vp,none⟩) hgf).trans hcfp
    have x3:W1.cell? ⟨wr.heap.size,0,none⟩=some (.int .i64 (vp:Nat)):=by rw[hbt.rules.1];rfl
    clear hc6 hd6 hcfp q0 q1 q2 q3 q4 q5
    go_region_held3 (fun w'=>w'.cell? ⟨gw,o+6,none⟩=some (.slice (some ⟨gv,0,none⟩) W.views.length capv)/\w'.cell? ⟨wr.heap.size,0,none⟩=some (.int .i64 (vp:Nat))/\w'.cell? ⟨gf,vp,none⟩=some (.slice aor rl capr)) (first|go_keep|(go_simp;done)) (first|(go_at_call 136;refine(HRN.out _ (by exact(zax hgrow 1)) (Box.drew hbt)).mono ?_;rintro e w2 ⟨rfl,y1,y2,y3,HX⟩))
    clear x1 x2 x3 y1 y2 y3 hbt hgrow HRN
    go_wp2
    obtain⟨own',vpk',z1,z2⟩:=HX.out
    exact⟨⟨m+1,by omega,by go_num,own',vpk',z1,z2⟩,by simp[intOf];omega⟩
   ·rw[if_neg hpr] at hvam
    have hmix:zmb vs' W.views (m+1)=zmb vs' W.views m:=by rw[← hms,hvam,← hma,List.set_getElem_self]
    have HWK2:Hid (∀ W0,Below wr.heap.size wr W0->zdy lo W0 ownk k wd ⟨W.rule,zmb vs' W.views (m+1)⟩ ⟨P.tv,P.pv,P.nv,P.vv,P.ntv,vpk,P.nbs⟩/\Mod lo (zio k) w own W0 ownk):=fun W0 hb=>by
     rw[hmix]
     exact⟨HWK.out.mod (Mod.of (ok:=fun _ _=>False) ownk hb) (fun _=>id) (fun _=>id) id (fun _=>id) (fun _ _ _ _=>id),HMO.out.trans (Mod.of ownk hb)⟩
    have hpi:¬ (W.views[m].lit.pred:Int) < (R.fresh.length:Int):=by omega
    clear hvam hq hwk hma hms hml hmix
    generalize W.views[m].lit.pred=vp at *
    generalize W.views[m].lit.terms.length=vt at *
    generalize vpk[m].bb=bbm at *
    generalize vpk[m].fb=fbm at *
    generalize vpk[m].ab=abm at *
    have hgrow:Below wr.heap.size wr (wr.alloc (.cells #[.int .i64 (vp:Nat),.slice aoq vt capq,.int .i64 (wd:Nat),.pointer (some ⟨bbm,0,none⟩),.pointer (some ⟨fbm,0,none⟩),.pointer (some ⟨abm,0,none⟩)] 223)):=(by go_grown)
    go_wp2
    obtain⟨z1,z2⟩:=HWK2.out _ hgrow
    exact⟨⟨m+1,by omega,by go_num,ownk,vpk,z1,z2⟩,by simp[intOf];omega⟩
  ·obtain rfl:m=W.views.length:=by omega
   have hmix:zmb vs' W.views W.views.length=vs':=by simp[zmb,← HVL.out]
   have HWK2:Hid (zdy lo wr ownk k wd ⟨W.rule,vs'⟩ ⟨P.tv,P.pv,P.nv,P.vv,P.ntv,vpk,P.nbs⟩):=by rw[← hmix];exact HWK.out
   clear HWK hmix
   go_wp2
   (try simp only[Exit.inBlock,Exit.then])
   exact bodyPost_ret (results_none rfl _ _ _) rfl ⟨rfl,ownk,vpk,HWK2.out,HMO.out⟩
def zlt(Ws:List zbe)(Ps:List za6):List Value:=(List.zipWith (fun W P=>zb2 W.rule P) Ws Ps).flatten
structure zch (lo:Nat) (w:World) (own:Nat->zay) (wd:Nat) (wv:Value) (Ws:List zbe) (Ps:List za6):Prop where
 arr:w.ownsRow lo 216 8 wv Ws.length (zlt Ws Ps)
 plen:Ps.length=Ws.length
 work:∀ k (_:k < Ws.length) (_:k < Ps.length),zdy lo w own k wd Ws[k] Ps[k]
 few:Ws.length<=1000
theorem zxd:∀(Ws:List zbe) (Ps:List za6) (k:Nat) (h1:k < Ws.length) (h2:k < Ps.length) (j:Nat),j < 8->(zlt Ws Ps)[k * 8+j]?=(zb2 Ws[k].rule Ps[k])[j]?
 |[],_,k,h1,_,_,_=>by simp at h1
 |v::vs,[],k,_,h2,_,_=>by simp at h2
 |v::vs,p::ps,0,_,_,j,hj=>by
  simp only[zlt,List.zipWith_cons_cons,List.flatten_cons,List.getElem_cons_zero]
  rw[List.getElem?_append_left (by simp[zb2];omega)]
  simp
 |v::vs,p::ps,k+1,h1,h2,j,hj=>by
  have:=zxd vs ps k (by simpa using h1) (by simpa using h2) j hj
  simp only[zlt,List.zipWith_cons_cons,List.flatten_cons,List.getElem_cons_succ] at this ⊢
  rw[List.getElem?_append_right (by simp[zb2];omega),← this]
  congr 1
  simp[zb2]
  omega
theorem zt2:∀(Ws:List zbe) (Ps:List za6) (k:Nat) (h1:k < Ws.length) (h2:k < Ps.length) (W':zbe) (P':za6),zb2 W'.rule P'=zb2 Ws[k].rule Ps[k]->zlt (Ws.set k W') (Ps.set k P')=zlt Ws Ps
 |[],_,k,h1,_,_,_,_=>by simp at h1
 |v::vs,[],k,_,h2,_,_,_=>by simp at h2
 |v::vs,p::ps,0,_,_,W',P',h=>by
  simp only[List.getElem_cons_zero] at h
  simp[zlt,h]
 |v::vs,p::ps,k+1,h1,h2,W',P',h=>by
  have:=zt2 vs ps k (by simpa using h1) (by simpa using h2) W' P' (by simpa using h)
  simp only[zlt,List.set_cons_succ,List.zipWith_cons_cons,List.flatten_cons] at this ⊢
  rw[this]
theorem zch.at{w:World}{own:Nat->zay}{wd:Nat}{wv:Value}{Ws:List zbe}{Ps:List za6}(h:zch lo w own wd wv Ws Ps)(k:Nat)(h1:k < Ws.length)(h2:k < Ps.length):∃ gw cap c,wv=.slice (some ⟨gw,0,none⟩) Ws.length cap/\lo<=gw/\Box w gw c 216/\WCc c (k * 8) Ws[k].rule Ps[k]:=by
 obtain⟨gw,cap,hv,hg,hl,hc⟩:=zas h.arr (by omega)
 obtain⟨c,hb⟩:=zd8 h.arr (b:=gw) (by rw[hv];rfl)
 have e:∀ j,j < 8->c[k * 8+j]?=(zb2 Ws[k].rule Ps[k])[j]?:=fun j hj=>by
  have q:=zxd Ws Ps k h1 h2 j hj
  obtain⟨u,hu⟩:∃ u,(zb2 Ws[k].rule Ps[k])[j]?=some u:=⟨_,List.getElem?_eq_getElem (show j < (zb2 Ws[k].rule Ps[k]).length by simp[zb2];omega)⟩
  rw[hu] at q ⊢
  rw[← hb.rules.1]
  exact hc _ _ q
 exact⟨gw,cap,c,hv,hg,hb,e 0 (by omega),e 1 (by omega),e 2 (by omega),e 3 (by omega),e 4 (by omega),e 5 (by omega),e 6 (by omega),e 7 (by omega)⟩
theorem zch.all{w w':World}{own own':Nat->zay}{wd p:Nat}{wv:Value}{Ws:List zbe}{Ps:List za6}(h:zch lo w own wd wv Ws Ps)(m:Mod lo (zhz p) w own w' own'):zch lo w' own' wd wv Ws Ps :=
 ⟨zd7 h.arr m (zg2 (by decide) (by decide)),h.plen,fun k a b=>(h.work k a b).all m,h.few⟩
theorem zch.types{w w':World}{own own':Nat->zay}{wd:Nat}{wv:Value}{Ws:List zbe}{Ps:List za6}{l:List TypeId}(h:zch lo w own wd wv Ws Ps)(m:Mod lo (zev l) w own w' own')(h0:∀ t∈l,NoT t/\t∉[216,208,147,223,113]):zch lo w' own' wd wv Ws Ps:=by
 have hn:∀ t,t∈[216,208,147,223,113]->∀ ρ,¬ zev l t ρ:=fun t ht ρ q=>(h0 t q).2 ht
 exact⟨zd7 h.arr m (hn _ (by decide)),h.plen,fun k a b=>(h.work k a b).mod m (hn _ (by decide)) (hn _ (by decide)) (hn _ (by decide) _) (hn _ (by decide)) (fun _ _ _ ht q=>ht (h0 _ q).1),h.few⟩
theorem zch.below{w w':World}{own:Nat->zay}{wd:Nat}{wv:Value}{Ws:List zbe}{Ps:List za6}(h:zch lo w own wd wv Ws Ps)(hb:Below w.heap.size w w'):zch lo w' own wd wv Ws Ps:=h.types (l:=[]) (Mod.of own hb) (by simp)
theorem zch.renewed{w w':World}{own own':Nat->zay}{wd k:Nat}{wv:Value}{Ws:List zbe}{Ps:List za6}{vs':List zco}{vps':List zfz}(h:zch lo w own wd wv Ws Ps)(h1:k < Ws.length)(h2:k < Ps.length)(hw:zdy lo w' own' k wd ⟨Ws[k].rule,vs'⟩ ⟨Ps[k].tv,Ps[k].pv,Ps[k].nv,Ps[k].vv,Ps[k].ntv,vps',Ps[k].nbs⟩)(m:Mod lo (zio k) w own w' own'):zch lo w' own' wd wv (Ws.set k ⟨Ws[k].rule,vs'⟩) (Ps.set k ⟨Ps[k].tv,Ps[k].pv,Ps[k].nv,Ps[k].vv,Ps[k].ntv,vps',Ps[k].nbs⟩):=by
 refine⟨?_,by simp[h.plen],fun j a b=>?_,by simpa using h.few⟩
 ·rw[zt2 _ _ _ h1 h2 _ _ (by simp[zb2]),List.length_set]
  exact zd7 h.arr m (zfc (by decide) (by decide))
 ·simp only[List.length_set] at a b
  simp only[List.getElem_set]
  by_cases e:k=j
  ·subst e
   rw[if_pos rfl,if_pos rfl]
   exact hw
  ·rw[if_neg e,if_neg e]
   exact(h.work j a b).mod m (zfc (by decide) (by decide)) (zfc (by decide) (by decide)) (zfq (by omega)) (zfc (by decide) (by decide)) (fun _ _ _ _=>zfq (by omega))
theorem zpy{f wd:Nat}{fr:List (List zaq)}:∀ {ws ws':List zbe},zhf f wd fr ws=some ws'->ws'.length=ws.length/\∀ i (h1:i < ws.length) (h2:i < ws'.length),∃ vs,zhe f wd fr ws[i].views=some vs/\ws'[i]=⟨ws[i].rule,vs⟩
 |[],ws',h=>by
  simp[zhf] at h
  subst h
  exact⟨rfl,fun i h=>by simp at h⟩
 |W::ws,ws',h=>by
  unfold zhf at h
  split at h
  ·rename_i v ws2 hv hvs
   simp at h
   subst h
   obtain⟨q1,q2⟩:=zpy hvs
   refine⟨by simp[q1],fun i h1 h2=>?_⟩
   match i,h1,h2 with
   |0,_,_=>exact⟨v,by simpa using hv,rfl⟩
   |i+1,h1,h2 =>
    simp only[List.getElem_cons_succ]
    exact q2 i (by simpa using h1) (by simpa using h2)
  ·cases h
def zem(R:zbt):Prop:=∀ l∈R.fresh,l.length<=1048577
theorem zem.clear(R:zbt):zem (ze2 R):=fun l hl=>by simp[ze2] at hl;simp[hl.2]
theorem zem.add{mr:Nat}{R R':zbt}{p:Nat}{row:zaq}{b:Bool}(h:zem R)(ha:zxg mr R p row=some (R',b)):zem R':=by
 obtain⟨_,_,_,_,hl,hc⟩:=zmy ha
 rcases hc with ⟨_,rfl,_⟩|⟨_,rfl,_⟩
 ·exact h
 ·intro l hm
  rcases List.mem_or_eq_of_mem_set hm with hm|rfl
  ·exact h l hm
  ·simp only[List.length_append,List.length_cons,List.length_nil];omega
theorem zem.addAll{mr p:Nat}:∀(n:Nat) (R R':zbt) (J:zat) (b:Bool),zem R->zde mr p n R J=some (R',b)->zem R'
 |0,R,R',J,b,_,h=>by simp[zde] at h
 |n+1,R,R',J,b,hf,h=>by
  unfold zde at h
  cases hn:zs9 n J with
  |none=>rw[hn] at h;cases h
  |some ar =>
   obtain⟨J2,bn⟩:=ar
   rw[hn] at h
   cases bn with
   |false =>
    simp only[Option.some.injEq,Prod.mk.injEq] at h
    rw[← h.1]
    exact hf
   |true =>
    dsimp only at h
    cases ha:zxg mr R p (zcp J2.head J2.values) with
    |none=>rw[ha] at h;cases h
    |some ar2 =>
     obtain⟨R3,b3⟩:=ar2
     rw[ha] at h
     cases b3 with
     |false =>
      simp only[Option.some.injEq,Prod.mk.injEq] at h
      rw[← h.1]
      exact hf.add ha
     |true=>exact zem.addAll n R3 R' J2 b (hf.add ha) h
theorem zjq{f wd mr:Nat}{W:zbe}:∀(n i:Nat) (R R':zbt) (b:Bool),zgn f wd mr W n i R=some (R',b)->(zem R->zem R')/\R'.rows.length=R.rows.length
 |0,i,R,R',b,h=>by simp[zgn] at h;rw[← h.1];exact⟨id,rfl⟩
 |n+1,i,R,R',b,h=>by
  unfold zgn at h
  split at h
  ·split at h
   ·cases h
   ·rename_i R2 ha
    simp only[Option.some.injEq,Prod.mk.injEq] at h
    rw[← h.1]
    exact⟨fun hf=>hf.addAll _ _ _ _ _ ha,zgm _ _ _ _ _ ha⟩
   ·rename_i R2 ha
    obtain⟨q1,q2⟩:=zjq n (i+1) R2 R' b h
    exact⟨fun hf=>q1 (hf.addAll _ _ _ _ _ ha),q2.trans (zgm _ _ _ _ _ ha)⟩
  ·exact zjq n (i+1) R R' b h
theorem zm0{f wd mr:Nat}{first:Bool}{R R':zbt}{W:zbe}{b:Bool}(h:zih f wd mr first R W=some (R',b)):(zem R->zem R')/\R'.rows.length=R.rows.length:=by
 unfold zih at h
 split at h
 ·exact⟨fun hf=>hf.addAll _ _ _ _ _ h,zgm _ _ _ _ _ h⟩
 ·exact zjq _ _ _ _ _ h
def zbs:TypeId->zay->Prop:=fun t ρ=>(¬ NoT t/\ρ≠(0,0,7))∨t∈[157,112,116,232,243,223]
theorem zj0{p:Nat}{t:TypeId}{ρ:zay}(h:zhz p t ρ):zbs t ρ:=by
 rcases h with (h|h|h|h)|h
 ·exact Or.inl ⟨h.1,by rw[h.2];simp⟩
 ·subst h;exact Or.inr (by decide)
 ·subst h;exact Or.inr (by decide)
 ·rw[h.1];exact Or.inr (by decide)
 ·rcases List.mem_cons.1 h with rfl|h
  ·exact Or.inr (by decide)
  ·rcases List.mem_cons.1 h with rfl|h
   ·exact Or.inr (by decide)
   ·cases h
theorem zl2{k:Nat}{t:TypeId}{ρ:zay}(h:zio k t ρ):zbs t ρ:=by
 rcases h with ⟨h1,i,j,rfl⟩|⟨rfl,_⟩
 ·exact Or.inl ⟨h1,by simp⟩
 ·exact Or.inr (by decide)
theorem znp{t:TypeId}{ρ:zay}(h:zev [157] t ρ):zbs t ρ:=Or.inr (by rw[List.mem_singleton.1 h];decide)
end Go.Proofs.YteampbddflhngabGreat
