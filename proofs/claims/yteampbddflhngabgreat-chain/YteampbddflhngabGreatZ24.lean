import Derived.Test.YteampbddflhngabGreatZ23
import Derived.Deep.RegionHeld3

namespace Go.Proofs.YteampbddflhngabGreat
open Go.RowKit
variable {lo:Nat}
def zl5(Ws:List zbh)(Ps:List za8):List Value:=(List.zipWith (fun W P=>zb6 W.rule P) Ws Ps).flatten
structure zck (lo:Nat) (w:World) (own:Nat->zay) (wd:Nat) (wv:Value) (Ws:List zbh) (Ps:List za8):Prop where
 arr:w.ownsRow lo 216 8 wv Ws.length (zl5 Ws Ps)
 plen:Ps.length=Ws.length
 work:∀ k (_:k < Ws.length) (_:k < Ps.length),zd3 lo w own k wd Ws[k] Ps[k]
 few:Ws.length<=1000
theorem zxv:∀(Ws:List zbh) (Ps:List za8) (k:Nat) (h1:k < Ws.length) (h2:k < Ps.length) (j:Nat),j < 8->(zl5 Ws Ps)[k * 8+j]?=(zb6 Ws[k].rule Ps[k])[j]?
 |[],_,k,h1,_,_,_=>by simp at h1
 |v::vs,[],k,_,h2,_,_=>by simp at h2
 |v::vs,p::ps,0,_,_,j,hj=>by
  simp only[zl5,List.zipWith_cons_cons,List.flatten_cons,List.getElem_cons_zero]
  rw[List.getElem?_append_left (by simp[zb6];omega)]
  simp
 |v::vs,p::ps,k+1,h1,h2,j,hj=>by
  have:=zxv vs ps k (by simpa using h1) (by simpa using h2) j hj
  simp only[zl5,List.zipWith_cons_cons,List.flatten_cons,List.getElem_cons_succ] at this ⊢
  rw[List.getElem?_append_right (by simp[zb6];omega),← this]
  congr 1
  simp[zb6]
  omega
theorem zul:∀(Ws:List zbh) (Ps:List za8) (k:Nat) (h1:k < Ws.length) (h2:k < Ps.length) (W':zbh) (P':za8),zb6 W'.rule P'=zb6 Ws[k].rule Ps[k]->zl5 (Ws.set k W') (Ps.set k P')=zl5 Ws Ps
 |[],_,k,h1,_,_,_,_=>by simp at h1
 |v::vs,[],k,_,h2,_,_,_=>by simp at h2
 |v::vs,p::ps,0,_,_,W',P',h=>by
  simp only[List.getElem_cons_zero] at h
  simp[zl5,h]
 |v::vs,p::ps,k+1,h1,h2,W',P',h=>by
  have:=zul vs ps k (by simpa using h1) (by simpa using h2) W' P' (by simpa using h)
  simp only[zl5,List.set_cons_succ,List.zipWith_cons_cons,List.flatten_cons] at this ⊢
  rw[this]
theorem zck.at{w:World}{own:Nat->zay}{wd:Nat}{wv:Value}{Ws:List zbh}{Ps:List za8}(h:zck lo w own wd wv Ws Ps)(k:Nat)(h1:k < Ws.length)(h2:k < Ps.length):∃ gw cap c,wv=.slice (some ⟨gw,0,none⟩) Ws.length cap/\lo<=gw/\Box w gw c 216/\WCc c (k * 8) Ws[k].rule Ps[k]:=by
 obtain⟨gw,cap,hv,hg,hl,hc⟩:=zas h.arr (by omega)
 obtain⟨c,hb⟩:=zec h.arr (b:=gw) (by rw[hv];rfl)
 have e:∀ j,j < 8->c[k * 8+j]?=(zb6 Ws[k].rule Ps[k])[j]?:=fun j hj=>by
  have q:=zxv Ws Ps k h1 h2 j hj
  obtain⟨u,hu⟩:∃ u,(zb6 Ws[k].rule Ps[k])[j]?=some u:=⟨_,List.getElem?_eq_getElem (show j < (zb6 Ws[k].rule Ps[k]).length by simp[zb6];omega)⟩
  rw[hu] at q ⊢
  rw[← hb.rules.1]
  exact hc _ _ q
 exact⟨gw,cap,c,hv,hg,hb,e 0 (by omega),e 1 (by omega),e 2 (by omega),e 3 (by omega),e 4 (by omega),e 5 (by omega),e 6 (by omega),e 7 (by omega)⟩
theorem zck.all{w w':World}{own own':Nat->zay}{wd p:Nat}{wv:Value}{Ws:List zbh}{Ps:List za8}(h:zck lo w own wd wv Ws Ps)(m:Mod lo (zh1 p) w own w' own'):zck lo w' own' wd wv Ws Ps :=
 ⟨zeb h.arr m (zg4 (by decide) (by decide)),h.plen,fun k a b=>(h.work k a b).all m,h.few⟩
theorem zck.types{w w':World}{own own':Nat->zay}{wd:Nat}{wv:Value}{Ws:List zbh}{Ps:List za8}{l:List TypeId}(h:zck lo w own wd wv Ws Ps)(m:Mod lo (ze0 l) w own w' own')(h0:∀ t∈l,NoT t/\t∉[216,208,147,223,113]):zck lo w' own' wd wv Ws Ps:=by
 have hn:∀ t,t∈[216,208,147,223,113]->∀ ρ,¬ ze0 l t ρ:=fun t ht ρ q=>(h0 t q).2 ht
 exact⟨zeb h.arr m (hn _ (by decide)),h.plen,fun k a b=>(h.work k a b).mod m (hn _ (by decide)) (hn _ (by decide)) (hn _ (by decide) _) (hn _ (by decide)) (fun _ _ _ ht q=>ht (h0 _ q).1),h.few⟩
theorem zck.below{w w':World}{own:Nat->zay}{wd:Nat}{wv:Value}{Ws:List zbh}{Ps:List za8}(h:zck lo w own wd wv Ws Ps)(hb:Below w.heap.size w w'):zck lo w' own wd wv Ws Ps:=h.types (l:=[]) (Mod.of own hb) (by simp)
theorem zck.renewed{w w':World}{own own':Nat->zay}{wd k:Nat}{wv:Value}{Ws:List zbh}{Ps:List za8}{vs':List zcq}{vps':List zf1}(h:zck lo w own wd wv Ws Ps)(h1:k < Ws.length)(h2:k < Ps.length)(hw:zd3 lo w' own' k wd ⟨Ws[k].rule,vs'⟩ ⟨Ps[k].tv,Ps[k].pv,Ps[k].nv,Ps[k].vv,Ps[k].ntv,vps',Ps[k].nbs⟩)(m:Mod lo (ziu k) w own w' own'):zck lo w' own' wd wv (Ws.set k ⟨Ws[k].rule,vs'⟩) (Ps.set k ⟨Ps[k].tv,Ps[k].pv,Ps[k].nv,Ps[k].vv,Ps[k].ntv,vps',Ps[k].nbs⟩):=by
 refine⟨?_,by simp[h.plen],fun j a b=>?_,by simpa using h.few⟩
 ·rw[zul _ _ _ h1 h2 _ _ (by simp[zb6]),List.length_set]
  exact zeb h.arr m (zff (by decide) (by decide))
 ·simp only[List.length_set] at a b
  simp only[List.getElem_set]
  by_cases e:k=j
  ·subst e
   rw[if_pos rfl,if_pos rfl]
   exact hw
  ·rw[if_neg e,if_neg e]
   exact(h.work j a b).mod m (zff (by decide) (by decide)) (zff (by decide) (by decide)) (zfr (by omega)) (zff (by decide) (by decide)) (fun _ _ _ _=>zfr (by omega))
theorem zp9{f wd:Nat}{fr:List (List zao)}:∀ {ws ws':List zbh},zhg f wd fr ws=some ws'->ws'.length=ws.length/\∀ i (h1:i < ws.length) (h2:i < ws'.length),∃ vs,zhf f wd fr ws[i].views=some vs/\ws'[i]=⟨ws[i].rule,vs⟩
 |[],ws',h=>by
  simp[zhg] at h
  subst h
  exact⟨rfl,fun i h=>by simp at h⟩
 |W::ws,ws',h=>by
  unfold zhg at h
  split at h
  ·rename_i v ws2 hv hvs
   simp at h
   subst h
   obtain⟨q1,q2⟩:=zp9 hvs
   refine⟨by simp[q1],fun i h1 h2=>?_⟩
   match i,h1,h2 with
   |0,_,_=>exact⟨v,by simpa using hv,rfl⟩
   |i+1,h1,h2 =>
    simp only[List.getElem_cons_succ]
    exact q2 i (by simpa using h1) (by simpa using h2)
  ·cases h
def zeq(R:zbk):Prop:=∀ l∈R.fresh,l.length<=1048577
theorem zeq.clear(R:zbk):zeq (ze7 R):=fun l hl=>by simp[ze7] at hl;simp[hl.2]
theorem zeq.add{mr:Nat}{R R':zbk}{p:Nat}{row:zao}{b:Bool}(h:zeq R)(ha:zxy mr R p row=some (R',b)):zeq R':=by
 obtain⟨_,_,_,_,hl,hc⟩:=znc ha
 rcases hc with ⟨_,rfl,_⟩|⟨_,rfl,_⟩
 ·exact h
 ·intro l hm
  rcases List.mem_or_eq_of_mem_set hm with hm|rfl
  ·exact h l hm
  ·simp only[List.length_append,List.length_cons,List.length_nil];omega
theorem zeq.addAll{mr p:Nat}:∀(n:Nat) (R R':zbk) (J:zau) (b:Bool),zeq R->zdk mr p n R J=some (R',b)->zeq R'
 |0,R,R',J,b,_,h=>by simp[zdk] at h
 |n+1,R,R',J,b,hf,h=>by
  unfold zdk at h
  cases hn:ztm n J with
  |none=>rw[hn] at h;cases h
  |some ar =>
   obtain⟨J2,bn⟩:=ar
   rw[hn] at h
   cases bn with
   |false =>
    simp only[Option.some.injEq,Prod.mk.injEq] at h
    rw[← h.1]
    exact hf
   |true =>
    dsimp only at h
    cases ha:zxy mr R p (zcr J2.head J2.values) with
    |none=>rw[ha] at h;cases h
    |some ar2 =>
     obtain⟨R3,b3⟩:=ar2
     rw[ha] at h
     cases b3 with
     |false =>
      simp only[Option.some.injEq,Prod.mk.injEq] at h
      rw[← h.1]
      exact hf.add ha
     |true=>exact zeq.addAll n R3 R' J2 b (hf.add ha) h
theorem zj0{f wd mr:Nat}{W:zbh}:∀(n i:Nat) (R R':zbk) (b:Bool),zgp f wd mr W n i R=some (R',b)->(zeq R->zeq R')/\R'.rows.length=R.rows.length
 |0,i,R,R',b,h=>by simp[zgp] at h;rw[← h.1];exact⟨id,rfl⟩
 |n+1,i,R,R',b,h=>by
  unfold zgp at h
  split at h
  ·split at h
   ·cases h
   ·rename_i R2 ha
    simp only[Option.some.injEq,Prod.mk.injEq] at h
    rw[← h.1]
    exact⟨fun hf=>hf.addAll _ _ _ _ _ ha,zgo _ _ _ _ _ ha⟩
   ·rename_i R2 ha
    obtain⟨q1,q2⟩:=zj0 n (i+1) R2 R' b h
    exact⟨fun hf=>q1 (hf.addAll _ _ _ _ _ ha),q2.trans (zgo _ _ _ _ _ ha)⟩
  ·exact zj0 n (i+1) R R' b h
theorem zne{f wd mr:Nat}{first:Bool}{R R':zbk}{W:zbh}{b:Bool}(h:zil f wd mr first R W=some (R',b)):(zeq R->zeq R')/\R'.rows.length=R.rows.length:=by
 unfold zil at h
 split at h
 ·exact⟨fun hf=>hf.addAll _ _ _ _ _ h,zgo _ _ _ _ _ h⟩
 ·exact zj0 _ _ _ _ _ h
def zbx:TypeId->zay->Prop:=fun t ρ=>(¬ NoT t/\ρ≠(0,0,7))∨t∈[157,112,116,232,243,223]
theorem zj8{p:Nat}{t:TypeId}{ρ:zay}(h:zh1 p t ρ):zbx t ρ:=by
 rcases h with (h|h|h|h)|h
 ·exact Or.inl ⟨h.1,by rw[h.2];simp⟩
 ·subst h;exact Or.inr (by decide)
 ·subst h;exact Or.inr (by decide)
 ·rw[h.1];exact Or.inr (by decide)
 ·rcases List.mem_cons.1 h with rfl|h
  ·exact Or.inr (by decide)
  ·rcases List.mem_cons.1 h with rfl|h
   ·exact Or.inr (by decide)
   ·cases h
theorem zme{k:Nat}{t:TypeId}{ρ:zay}(h:ziu k t ρ):zbx t ρ:=by
 rcases h with ⟨h1,i,j,rfl⟩|⟨rfl,_⟩
 ·exact Or.inl ⟨h1,by simp⟩
 ·exact Or.inr (by decide)
theorem zn3{t:TypeId}{ρ:zay}(h:ze0 [157] t ρ):zbx t ρ:=Or.inr (by rw[List.mem_singleton.1 h];decide)
set_option maxRecDepth 100000
set_option maxHeartbeats 4000000
def zjg(tbs:List Nat)(n:Nat)(Ws:List zbh)(Ps:List za8):Prop:=∀ k (_:k < Ws.length) (_:k < Ps.length),zhh tbs n Ws[k].rule Ps[k].nbs
theorem zjg.set{tbs:List Nat}{n k:Nat}{Ws:List zbh}{Ps:List za8}(h:zjg tbs n Ws Ps)(h1:k < Ws.length)(h2:k < Ps.length)(vs':List zcq)(P':za8)(hp:P'.nbs=Ps[k].nbs):zjg tbs n (Ws.set k ⟨Ws[k].rule,vs'⟩) (Ps.set k P'):=by
 intro j a b
 simp only[List.length_set] at a b
 simp only[List.getElem_set]
 by_cases e:k=j
 ·subst e
  rw[if_pos rfl,if_pos rfl,hp]
  exact h k a b
 ·rw[if_neg e,if_neg e]
  exact h j a b
def zru(lo:Nat)(w:World)(own:Nat->zay)(rb:Nat)(wv:Value)(R R':zbk)(ws':List zbh)(wd mr mx:Nat)(Q:zcs)(b:Bool)(e:Ending)(w':World):Prop :=
 e=.returned (.bool b)/\∃ own' fv' fvs' Ps',zdb lo w' own' rb R' wd mr mx ⟨Q.rv,Q.tbs,fv',fvs'⟩/\zck lo w' own' wd wv ws' Ps'/\zjg Q.tbs R.rows.length ws' Ps'/\R'.rows.length=R.rows.length/\Mod lo zbx w own w' own'
theorem z2r(w:World)(own:Nat->zay)(rb:Nat)(wv:Value)(R R':zbk)(Ws ws':List zbh)(Ps:List za8)(wd mr mx:Nat)(Q:zcs)(fuel:Nat)(first b:Bool)(h:zdb lo w own rb R wd mr mx Q)(hw:zck lo w own wd wv Ws Ps)(hna:zjg Q.tbs R.rows.length Ws Ps)(hlo:lo<=w.heap.size)(hrd:R.rounds < 1048576)(hr:zqa fuel wd mr first Ws R=some (R',ws',b)) :
  Calls Tryz.prog 106 #[.pointer (some ⟨rb,0,none⟩),wv,.bool first] w fun e w'=>zru lo w own rb wv R R' ws' wd mr mx Q b e w':=by
 obtain⟨R1,b1,hA,hE⟩:∃ R1 b1,zfx fuel wd mr first Ws (ze7 { R with rounds:=R.rounds+1 })=some (R1,b1)/\(b1=false/\R1=R'/\Ws=ws'/\false=b∨b1=true/\R1=R'/\zhg fuel wd R1.fresh Ws=some ws'/\true=b):=by
  unfold zqa at hr
  split at hr
  ·cases hr
  ·rename_i R1 hA
   simp only[Option.some.injEq,Prod.mk.injEq] at hr
   exact⟨R1,false,hA,Or.inl ⟨rfl,hr⟩⟩
  ·rename_i R1 hA
   rw[Option.map_eq_some_iff] at hr
   obtain⟨ws2,h1,h2⟩:=hr
   simp only[Prod.mk.injEq] at h2
   obtain⟨h3,h4,h5⟩:=h2
   subst h4
   exact⟨R1,true,hA,Or.inr ⟨rfl,h3,h1,h5⟩⟩
 obtain⟨hl,hf,h0,h1,h2,h3,h4,h5,h6,h7⟩:=h.at
 have hs6:zaq [rb] w (w.setCell ⟨rb,2,none⟩ (.int .i64 ((R.rounds:Int)+1))):=zaq.set _ _ _ _
 have hM6:Mod lo (ze0 [157]) w own (w.setCell ⟨rb,2,none⟩ (.int .i64 ((R.rounds:Int)+1))) own:=Mod.set own h.box h.low (List.mem_singleton.2 rfl) _ _
 have hbx:=h.box.set 2 (.int .i64 ((R.rounds:Int)+1))
 have hR6:=h.rebox (R':={ R with rounds:=R.rounds+1 }) hs6 (by simpa using hbx) rfl rfl ⟨h.few.2.2.1,by show R.rounds+1<=1048576;omega⟩
 have HCL:Hid (Calls Tryz.prog 75 #[.pointer (some ⟨rb,0,none⟩)] (w.setCell ⟨rb,2,none⟩ (.int .i64 ((R.rounds:Int)+1))) fun e w'=>zm4 lo (w.setCell ⟨rb,2,none⟩ (.int .i64 ((R.rounds:Int)+1))) own rb { R with rounds:=R.rounds+1 } wd mr mx Q e w'):=clear_any _ own rb _ wd mr mx Q hR6 (by simpa [World.setCell] using hlo)
 have HM6:Hid (Mod lo (ze0 [157]) w own (w.setCell ⟨rb,2,none⟩ (.int .i64 ((R.rounds:Int)+1))) own):=hM6
 have HWO:Hid (zck lo w own wd wv Ws Ps):=hw
 have HNA:Hid (zjg Q.tbs R.rows.length Ws Ps):=hna
 have HLO:Hid (lo<=w.heap.size):=hlo
 have HE:Hid (b1=false/\R1=R'/\Ws=ws'/\false=b∨b1=true/\R1=R'/\zhg fuel wd R1.fresh Ws=some ws'/\true=b):=hE
 have HA:Hid (zfx fuel wd mr first (Ws.drop 0) (ze7 { R with rounds:=R.rounds+1 })=some (R1,b1)):=hA
 have hfew:=hw.few
 obtain⟨aov,capv,hvv⟩:=zac hw.arr
 subst hvv
 clear hr h hw hna hlo hE hA hR6 hM6 hs6 hbx h0 h1 h3 h4 h5 h6 h7
 go_enter Tryz.func106,Tryz.ntmps106
 go_upto_region 4 with (first|(go_at_call 75;refine HCL.out.mono ?_;rintro e w2 ⟨rfl,fv,fvs,hro,hm⟩))
 have hmc:Mod lo (ze0 [157]) w own w2 own:=HM6.out.trans hm
 have HW2:Hid (zck lo w2 own wd (.slice aov Ws.length capv) Ws Ps):=HWO.out.types hmc (by decide)
 have HR2:Hid (zdb lo w2 own rb (ze7 { R with rounds:=R.rounds+1 }) wd mr mx ⟨Q.rv,Q.tbs,fv,fvs⟩):=hro
 have HM2:Hid (Mod lo zbx w own w2 own):=hmc.more fun _ _ q=>zn3 q
 clear hmc hm hro HCL HM6
 go_loopw [22] (fun v22 wr=>∃ m:Nat,m<=Ws.length/\v22=.int .i64 m/\∃ Rk ownk fvk,Hid (zdb lo wr ownk rb Rk wd mr mx ⟨Q.rv,Q.tbs,fv,fvk⟩)/\Hid (zck lo wr ownk wd (.slice aov Ws.length capv) Ws Ps)/\Hid (Mod lo zbx w own wr ownk)/\Hid (Rk.rows.length=R.rows.length)/\Hid (zeq Rk)/\Hid (zfx fuel wd mr first (Ws.drop m) Rk=some (R1,b1))) (fun i _=>Ws.length - (intOf i).toNat)
 case atStart=>exact⟨0,Nat.zero_le _,rfl,_,own,fvs,HR2,HW2,HM2,rfl,zeq.clear _,HA⟩
 case round =>
  clear HA HR2 HW2 HM2
  obtain⟨m,hm,rfl,Rk,ownk,fvk,HRO,HWK,HMO,HRL,HFK,HAP⟩:=hrel
  have hszk:=HMO.out.size
  have hlok:lo<=wr.heap.size:=Nat.le_trans HLO.out hszk
  by_cases hlt:m < Ws.length
  ·have hm2:m < Ps.length:=by rw[HWO.out.plen];exact hlt
   obtain⟨gw,capw,c,hv,_,hbx,hcc⟩:=HWK.out.at m hlt hm2
   simp only[Value.slice.injEq] at hv
   have hgg:=hv.1
   clear hv
   subst hgg
   have hq:=HAP.out
   rw[List.drop_eq_getElem_cons hlt] at hq
   unfold zfx at hq
   cases ha:zil fuel wd mr first Rk Ws[m] with
   |none=>rw[ha] at hq;cases hq
   |some ar =>
    obtain⟨R3,b3⟩:=ar
    rw[ha] at hq
    have HKP:Hid (zeq R3/\R3.rows.length=R.rows.length):=⟨(zne ha).1 HFK.out,(zne ha).2.trans HRL.out⟩
    have HAY:Hid (Calls Tryz.prog 126 #[.pointer (some ⟨rb,0,none⟩),.pointer (some ⟨gw,m * 8,none⟩),.bool first] wr fun e w'=>zju lo wr ownk rb Ws[m].rule.head.pred R3 b3 wd mr mx ⟨Q.rv,Q.tbs,fv,fvk⟩ e w'):=z0d wr ownk rb gw (m * 8) m c Rk R3 Ws[m] Ps[m] wd mr mx _ fuel first b3 HRO.out (HWK.out.work m hlt hm2) hbx hcc (by rw[HRL.out];exact HNA.out m hlt hm2) hlok ha
    have hmkk:(m:Int) < (Ws.length:Int):=by omega
    generalize Ws[m].rule.head.pred=p at *
    clear ha hbx hcc
    cases b3 with
    |false =>
     simp only[Option.some.injEq,Prod.mk.injEq] at hq
     have HQ:Hid (R3=R1/\false=b1):=hq
     clear hq
     go_wp2_with (first|(go_at_call 126;refine HAY.out.mono ?_;rintro e w4 ⟨rfl,own',fvs',hro',hm4⟩))
     go_ret
     have hE:=HE.out
     rw[← HQ.out.2,← HQ.out.1] at hE
     rcases hE with ⟨_,rfl,rfl,rfl⟩|⟨hx,_⟩
     ·exact⟨rfl,own',fv,fvs',Ps,hro',HWK.out.all hm4,HNA.out,HKP.out.2,HMO.out.trans (hm4.more fun _ _ q=>zj8 q)⟩
     ·cases hx
    |true =>
     have HQ:Hid (zfx fuel wd mr first (Ws.drop (m+1)) R3=some (R1,b1)):=hq
     clear hq
     go_wp2_with (first|(go_at_call 126;refine HAY.out.mono ?_;rintro e w4 ⟨rfl,own',fvs',hro',hm4⟩))
     exact⟨⟨m+1,by omega,by go_num,R3,own',fvs',hro',HWK.out.all hm4,HMO.out.trans (hm4.more fun _ _ q=>zj8 q),HKP.out.2,HKP.out.1,HQ⟩,by simp[intOf];omega⟩
  ·obtain rfl:m=Ws.length:=by omega
   have hq:=HAP.out
   rw[List.drop_length] at hq
   simp only[zfx,Option.some.injEq,Prod.mk.injEq] at hq
   have hE:=HE.out
   rw[← hq.2,← hq.1] at hE
   have HE2:Hid (Rk=R'/\zhg fuel wd Rk.fresh Ws=some ws'/\true=b):=by
    rcases hE with ⟨hx,_⟩|⟨_,hx⟩
    ·cases hx
    ·exact hx
   clear hq hE HAP HE
   go_upto_region 10 with fail
   obtain⟨hwl,hwa⟩:=zp9 HE2.out.2.1
   have HWL:Hid (ws'.length=Ws.length):=hwl
   have HWA:Hid (∀ i (h1:i < Ws.length) (h2:i < ws'.length),∃ vs,zhf fuel wd Rk.fresh Ws[i].views=some vs/\ws'[i]=⟨Ws[i].rule,vs⟩):=hwa
   clear hwl hwa hlt hm
   obtain⟨aof,capf,hfv⟩:=zac HRO.out.fresh
   dsimp only at hfv
   subst hfv
   have HSZ:Hid (lo<=wr.heap.size):=hlok
   clear hszk hlok
   generalize hw5:wr=w5 at *
   clear hw5
   go_loopw [35] (fun v35 wr=>∃ m:Nat,m<=Ws.length/\v35=.int .i64 m/\∃ ownj Pj,Hid (zdb lo wr ownj rb Rk wd mr mx ⟨Q.rv,Q.tbs,.slice aof Rk.fresh.length capf,fvk⟩)/\Hid (zck lo wr ownj wd (.slice aov Ws.length capv) (zmn ws' Ws m) Pj)/\Hid (zjg Q.tbs R.rows.length (zmn ws' Ws m) Pj)/\Hid (Mod lo zbx w own wr ownj)) (fun i _=>Ws.length - (intOf i).toNat)
   case atStart=>exact⟨0,Nat.zero_le _,rfl,ownk,Ps,HRO,HWK,HNA,HMO⟩
   case round =>
    clear HRO HWK HMO
    obtain⟨m,hm,rfl,ownj,Pj,HRO,HWK,HNJ,HMO⟩:=hrel
    have hlok:lo<=wr.heap.size:=Nat.le_trans HLO.out HMO.out.size
    by_cases hlt:m < Ws.length
    ·have hml:m < (zmn ws' Ws m).length:=by rw[zmx HWL.out m hm];exact hlt
     have hmv:m < ws'.length:=by rw[HWL.out];exact hlt
     have hma:=z14 HWL.out m hlt hml
     have hms:=zxc HWL.out m hlt hmv
     have hm2:m < Pj.length:=by rw[HWK.out.plen];exact hml
     obtain⟨gw,capw,c,hv,_,hbx,hcc⟩:=HWK.out.at m hml hm2
     rw[zmx HWL.out m hm] at hv
     simp only[Value.slice.injEq] at hv
     have hgg:=hv.1
     clear hv
     subst hgg
     obtain⟨vs,hvs,hwe⟩:=HWA.out m hlt hmv
     have hmkk:(m:Int) < (Ws.length:Int):=by omega
     have hrat:=HRO.out.at
     obtain⟨hl,hf,h0,h1,h2',h3,h4,h5,h6,h7⟩:=hrat
     have HRW:Hid (∀ W0,Below wr.heap.size wr W0->Calls Tryz.prog 127 #[.pointer (some ⟨gw,m * 8,none⟩),.slice aof Rk.fresh.length capf] W0 fun e w'=>e=.returned (.tuple #[])/\w'.cell? ⟨rb,7,none⟩=some (.slice aof Rk.fresh.length capf)/\Hid (∃ own' Pj',zdb lo w' own' rb Rk wd mr mx ⟨Q.rv,Q.tbs,.slice aof Rk.fresh.length capf,fvk⟩/\zck lo w' own' wd (.slice (some ⟨gw,0,none⟩) Ws.length capv) (zmn ws' Ws (m+1)) Pj'/\zjg Q.tbs R.rows.length (zmn ws' Ws (m+1)) Pj'/\Mod lo zbx w own w' own')):=fun W0 hb=>by
      have hW0:=HWK.out.below hb
      have q:=zrm W0 ownj rb gw (m * 8) m c Rk (zmn ws' Ws m)[m] vs Pj[m] wd mr mx _ fuel (HRO.out.below hb) (hW0.work m hml hm2) (hbx.below hb) hcc (Nat.le_trans hlok hb.size) HFK.out (by rw[hma];exact hvs)
      refine q.mono ?_
      rintro e w' ⟨rfl,own',vps',hw',hm'⟩
      have hro':=(HRO.out.below hb).work hm'
      have r1:=hW0.renewed hml hm2 hw' hm'
      have r2:=HNJ.out.set hml hm2 vs ⟨Pj[m].tv,Pj[m].pv,Pj[m].nv,Pj[m].vv,Pj[m].ntv,vps',Pj[m].nbs⟩ rfl
      have e2:(⟨(zmn ws' Ws m)[m].rule,vs⟩:zbh)=ws'[m]:=by rw[hma,hwe]
      rw[e2,hms] at r1 r2
      exact⟨rfl,hro'.at.2.2.2.2.2.2.2.2.2,own',_,hro',r1,r2,(HMO.out.trans (Mod.of ownj hb)).trans (hm'.more fun _ _ q=>zme q)⟩
     clear hbx hcc hvs hwe hma hms hml hmv hm2 h0 h1 h2' h3 h4 h5 h6
     have x7:wr.cell? ⟨rb,7,none⟩=some (.slice aof Rk.fresh.length capf):=h7
     clear h7
     go_upto_region 12 with fail
     go_region_held3 (fun w'=>w'.cell? ⟨rb,7,none⟩=some (.slice aof Rk.fresh.length capf)) (first|go_keep|(go_simp;done)) (first|(go_at_call 127;refine(HRW.out _ (by exact(zaw (Below.refl _ _) 1))).mono ?_;rintro e w2 ⟨rfl,y1,HX⟩))
     clear x7 y1 HRW
     go_wp2
     obtain⟨own',Pj',z1,z2,z3,z4⟩:=HX.out
     exact⟨⟨m+1,by omega,by go_num,own',Pj',z1,z2,z3,z4⟩,by simp[intOf];omega⟩
    ·obtain rfl:m=Ws.length:=by omega
     have hmix:zmn ws' Ws Ws.length=ws':=by simp[zmn,← HWL.out]
     have HF:Hid (zck lo wr ownj wd (.slice aov Ws.length capv) ws' Pj/\zjg Q.tbs R.rows.length ws' Pj):=by rw[← hmix];exact⟨HWK.out,HNJ.out⟩
     clear hmix HWK HNJ
     go_wp2
     go_ret
     exact⟨by rw[← HE2.out.2.2];rfl,ownj,_,fvk,Pj,by rw[← HE2.out.1];exact HRO.out,HF.out.1,HF.out.2,by rw[← HE2.out.1];exact HRL.out,HMO.out⟩
def zh8(k:Nat):TypeId->zay->Prop:=fun t ρ=>ziu k t ρ∨(t=223/\ρ=(0,0,5))
theorem z2d{k i:Nat}{t:TypeId}{ρ:zay}(h:zf8 k i (0,0,5) t ρ):zh8 k t ρ:=by
 rcases h with ⟨h1,j,h2⟩|h
 ·exact Or.inl (Or.inl ⟨h1,i,j,h2⟩)
 ·exact Or.inr h
theorem zgu{k:Nat}{t:TypeId}(h:NoT t)(h2:t≠223):∀ ρ,¬ zh8 k t ρ:=fun ρ q=>by
 rcases q with q|q
 ·exact zff h h2 ρ q
 ·exact h2 q.1
theorem zj7{k:Nat}{t:TypeId}{a b c:Nat}(h:a≠k+1)(h2:c≠5):¬ zh8 k t (a,b,c):=fun q=>by
 rcases q with q|⟨_,q⟩
 ·exact zfr h q
 ·simp at q;omega
theorem zto{k:Nat}{t:TypeId}{ρ:zay}(h:zh8 k t ρ):zbx t ρ:=by
 rcases h with h|⟨rfl,_⟩
 ·exact zme h
 ·exact Or.inr (by decide)
theorem zdb.make{w w':World}{own own':Nat->zay}{rb:Nat}{R:zbk}{wd mr mx k:Nat}{Q:zcs}(h:zdb lo w own rb R wd mr mx Q)(m:Mod lo (zh8 k) w own w' own'):zdb lo w' own' rb R wd mr mx Q :=
 h.mod m (zgu (by decide) (by decide)) (zgu (by decide) (by decide)) (zgu (by decide) (by decide)) (fun _=>zj7 (by omega) (by omega)) (fun _ _ _=>zj7 (by omega) (by omega))
theorem Mod.newer{ok:TypeId->zay->Prop}{w wr w':World}{own ownk:Nat->zay}{M:List Nat}(h:Mod lo ok w own wr ownk)(hs:zaq M wr w')(hM:∀ b∈M,w.heap.size<=b):Mod lo ok w own w' ownk:=by
 obtain⟨h1,N,h2,h3⟩:=h
 exact⟨h1,N,h2.newer hs fun x hx=>Or.inr (hM x hx),h3⟩
theorem Mod.fresh{ok:TypeId->zay->Prop}{w w':World}{own own':Nat->zay}(hb:Below w.heap.size w w')(ho:∀ b,b < w.heap.size->own' b=own b):Mod lo ok w own w' own':=⟨ho,[],zaq.of hb,by simp⟩
structure zna (lo:Nat) (w0 w:World) (own0 own:Nat->zay) (k wd t5 t3:Nat) (r:zah) (P:za8) (vs:List zcq):Prop where
 low:w0.heap.size<=t5
 low0:lo<=w0.heap.size
 box:Box w t5 (zb6 r P).toArray 216
 rbox:Box w t3 #[.int .i64 (r.stratum:Nat),.int .i64 (r.vars:Nat),.int .i64 (r.head.pred:Nat),P.tv,P.pv,P.nv] 150
 rule:zdn lo w P.tv P.pv P.nv r
 views:w.ownsRow lo 223 6 P.vv vs.length (zgz wd vs P.vps)
 vlen:P.vps.length=vs.length
 view:∀ i (_:i < vs.length) (_:i < P.vps.length),zf2 lo w own k i vs[i] P.vps[i]
 vrole:∀ b,P.vv.ownBlock=some b->own b=(k+1,0,9)
 nots:w.ownsRow lo 113 1 P.ntv P.nbs.length (pts P.nbs)
 mod:Mod lo (zh8 k) w0 own0 w own
theorem zna.step{w0 w w':World}{own0 own own':Nat->zay}{k wd t5 t3:Nat}{r:zah}{P:za8}{vs:List zcq}(h:zna lo w0 w own0 own k wd t5 t3 r P vs)(m:Mod lo (zf8 k vs.length (0,0,5)) w own w' own'):zna lo w0 w' own0 own' k wd t5 t3 r P vs:=by
 refine⟨h.low,h.low0,h.box.mod m (zch (by decide) (by decide) _),h.rbox.mod m (zch (by decide) (by decide) _),h.rule.mod m (zch (by decide) (by decide)) (zch (by decide) (by decide)),zn4 h.views m (fun b hb q=>?_),h.vlen,fun i a b=>(h.view i a b).mod m (fun j t ht q=>?_) (zch (by decide) (by decide)),fun b hb=>(m.old b (zdo h.views hb)).trans (h.vrole b hb),zeb h.nots m (zch (by decide) (by decide)),h.mod.trans (m.more fun _ _ q=>z2d q)⟩
 ·rw[h.vrole b hb] at q
  rcases q with q|q
  ·exact q.1 (by decide)
  ·simp at q
 ·rcases q with ⟨_,j',q⟩|⟨q2,_⟩
  ·simp at q;omega
  ·subst q2;exact ht (by decide)
theorem zna.below{w0 w w':World}{own0 own:Nat->zay}{k wd t5 t3:Nat}{r:zah}{P:za8}{vs:List zcq}(h:zna lo w0 w own0 own k wd t5 t3 r P vs)(hb:Below w.heap.size w w'):zna lo w0 w' own0 own k wd t5 t3 r P vs:=h.step (Mod.of own hb)
theorem zzx(wd:Nat):∀(vs:List zcq) (ps:List zf1),ps.length=vs.length->∀(V:zcq) (p:zf1),zgz wd (vs++[V]) (ps++[p])=zgz wd vs ps++zcz wd V p:=fun vs ps h V p=>by
 simp[zgz,List.zipWith_append (h.symm)]
theorem zna.pushV{w0 w w':World}{own0 own:Nat->zay}{k wd t5 t3:Nat}{r:zah}{P:za8}{vs:List zcq}{V:zcq}{p:zf1}{v':Value}(h:zna lo w0 w own0 own k wd t5 t3 r P vs)(hv:zf2 lo w own k vs.length V p)(ho:w'.ownsRow lo 223 6 v' (vs.length+1) (zgz wd vs P.vps++zcz wd V p))(hs:zaq P.vv.ownBlock.toList w w')(ha:v'.ownBlock=P.vv.ownBlock∨∃ g,v'.ownBlock=some g/\w.heap.size<=g) :
  zna lo w0 (w'.setCell ⟨t5,6,none⟩ v') own0 (ext own w.heap.size (k+1,0,9)) k wd t5 t3 r ⟨P.tv,P.pv,P.nv,v',P.ntv,P.vps++[p],P.nbs⟩ (vs++[V]):=by
 have hM1:Mod lo (fun t ρ=>t=223/\ρ=(k+1,0,9)) w own w' (ext own w.heap.size (k+1,0,9)):=⟨fun b hb=>zf6 _ _ _ b hb,_,hs,fun b hb=>by
  have hb':P.vv.ownBlock=some b:=by simpa using hb
  obtain⟨c,hc⟩:=zec h.views hb'
  exact⟨zem h.views hb',zdo h.views hb',c,_,hc,rfl,h.vrole b hb'⟩⟩
 have no:∀ t,t≠223->∀ ρ,¬ (t=223/\ρ=(k+1,0,9)):=fun t ht ρ q=>ht q.1
 have hbox:=h.box.mod hM1 (no _ (by decide) _)
 have hrbox:=h.rbox.mod hM1 (no _ (by decide) _)
 have hs2:zaq [t5] w' (w'.setCell ⟨t5,6,none⟩ v'):=zaq.set _ _ _ _
 have hT:=OfT.box hbox
 have hvw:∀ i V p,zf2 lo w own k i V p->zf2 lo (w'.setCell ⟨t5,6,none⟩ v') (ext own w.heap.size (k+1,0,9)) k i V p:=fun i V p q=>(q.mod hM1 (fun j t ht q=>by obtain⟨rfl,_⟩:=q;exact ht (by decide)) (no _ (by decide))).saveT hs2 hT (by decide) (by decide)
 refine⟨h.low,h.low0,?_,hrbox.saveT hs2 hT (by decide),(h.rule.mod hM1 (no _ (by decide)) (no _ (by decide))).saveT hs2 hT (by decide) (by decide),?_,by simp[h.vlen],fun i a b=>?_,fun b hb=>?_,zak (zeb h.nots hM1 (no _ (by decide))) hs2 hT (by decide),(h.mod.trans (hM1.more fun _ _ q=>Or.inl (Or.inr q))).newer hs2 fun b hb=>by simp at hb;rw[hb];exact h.low⟩
 ·have q:=hbox.set 6 v'
  simpa [zb6] using q
 ·rw[zzx wd vs P.vps h.vlen,List.length_append]
  exact zak ho hs2 hT (by decide)
 ·simp only[List.length_append,List.length_cons,List.length_nil] at a b
  by_cases hi:i < vs.length
  ·have hi2:i < P.vps.length:=by rw[h.vlen];exact hi
   rw[List.getElem_append_left hi,List.getElem_append_left hi2]
   exact hvw i _ _ (h.view i hi hi2)
  ·obtain rfl:i=vs.length:=by omega
   have e1:(vs++[V])[vs.length]=V:=by simp
   have e2:(P.vps++[p])[vs.length]=p:=by simp[← h.vlen]
   rw[e1,e2]
   exact hvw _ _ _ hv
 ·rcases ha with ha|⟨g,hg,hl⟩
  ·rw[ha] at hb
   rw[zf6 _ _ _ b (zdo h.views hb)]
   exact h.vrole b hb
  ·rw[hg] at hb
   simp at hb
   subst hb
   simp[ext,Nat.not_lt.2 hl]
theorem zna.pushN{w0 w w':World}{own0 own:Nat->zay}{k wd t5 t3 tb:Nat}{r:zah}{P:za8}{vs:List zcq}{v':Value}(h:zna lo w0 w own0 own k wd t5 t3 r P vs)(hnew:∀ b,P.ntv.ownBlock=some b->w0.heap.size<=b)(ho:w'.ownsRow lo 113 1 v' (P.nbs.length+1) (pts P.nbs++[.pointer (some ⟨tb,0,none⟩)]))(hs:zaq P.ntv.ownBlock.toList w w') :
  zna lo w0 (w'.setCell ⟨t5,7,none⟩ v') own0 own k wd t5 t3 r ⟨P.tv,P.pv,P.nv,P.vv,v',P.vps,P.nbs++[tb]⟩ vs:=by
 have hT1:=OfT.own h.nots
 have hbox:=h.box.saveT hs hT1 (by decide)
 have hs2:zaq [t5] w' (w'.setCell ⟨t5,7,none⟩ v'):=zaq.set _ _ _ _
 have hT:=OfT.box hbox
 refine⟨h.low,h.low0,?_,(h.rbox.saveT hs hT1 (by decide)).saveT hs2 hT (by decide),(h.rule.saveT hs hT1 (by decide) (by decide)).saveT hs2 hT (by decide) (by decide),zak (zak h.views hs hT1 (by decide)) hs2 hT (by decide),h.vlen,fun i a b=>((h.view i a b).saveT hs hT1 (by decide) (by decide)).saveT hs2 hT (by decide) (by decide),h.vrole,?_,(h.mod.newer hs fun b hb=>hnew b (by simpa using hb)).newer hs2 fun b hb=>by simp at hb;rw[hb];exact h.low⟩
 ·have q:=hbox.set 7 v'
  simpa [zb6] using q
 ·have e:pts (P.nbs++[tb])=pts P.nbs++[.pointer (some ⟨tb,0,none⟩)]:=by simp[pts,pt]
  rw[e,List.length_append]
  exact zak ho hs2 hT (by decide)
theorem zuk{f wd:Nat}{R:zbk}:∀ {ls:List zaj} {vs:List zcq},zlg f wd R ls=some vs->vs.length=ls.length/\∀ i (h1:i < ls.length) (h2:i < vs.length),∃ rows,rowsG f (zga wd R ls[i].pred)=some rows/\zh9 f wd (zet wd ls[i]) rows=some vs[i]
 |[],vs,h=>by
  simp[zlg] at h
  subst h
  exact⟨rfl,fun i h=>by simp at h⟩
 |l::ls,vs,h=>by
  unfold zlg at h
  split at h
  ·cases h
  ·rename_i rows hrows
   split at h
   ·rename_i v vs2 hv hvs
    simp at h
    subst h
    obtain⟨q1,q2⟩:=zuk hvs
    refine⟨by simp[q1],fun i h1 h2=>?_⟩
    match i,h1,h2 with
    |0,_,_=>exact⟨rows,hrows,hv⟩
    |i+1,h1,h2 =>
     simp only[List.getElem_cons_succ]
     exact q2 i (by simpa using h1) (by simpa using h2)
   ·cases h
end Go.Proofs.YteampbddflhngabGreat
