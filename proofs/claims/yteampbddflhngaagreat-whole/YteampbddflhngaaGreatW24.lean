import Derived.Test.YteampbddflhngaaGreatW23
import Derived.Deep.RegionHeld3

namespace Go.Proofs.YteampbddflhngaaGreat
open Go.RowKit
variable {lo:Nat}
variable {w w':World}{own':Nat->zay}{wd:Nat}{wv:Value}{Ws:List zbk}{Ps:List zba}
def zmk(Ws:List zbk)(Ps:List zba):List Value:=(List.zipWith (fun W P=>zb7 W.rule P) Ws Ps).flatten
structure zck (lo:Nat) (w:World) (own:Nat->zay) (wd:Nat) (wv:Value) (Ws:List zbk) (Ps:List zba):Prop where
 arr:w.ownsRow lo 292 8 wv Ws.length (zmk Ws Ps)
 plen:Ps.length=Ws.length
 work:∀ k (_:k < Ws.length) (_:k < Ps.length),zd6 lo w own k wd Ws[k] Ps[k]
 few:Ws.length<=1000
theorem zyl:∀(Ws:List zbk) (Ps:List zba) (k:Nat) (h1:k < Ws.length) (h2:k < Ps.length) (j:Nat),j < 8->(zmk Ws Ps)[k * 8+j]?=(zb7 Ws[k].rule Ps[k])[j]?
 |[],_,k,h1,_,_,_=>by simp at h1
 |v::vs,[],k,_,h2,_,_=>by simp at h2
 |v::vs,p::ps,0,_,_,j,hj=>by
  simp only[zmk,ubz,ucu,ucw]
  rw[uca (by simp[zb7];omega)]
  simp
 |v::vs,p::ps,k+1,h1,h2,j,hj=>by
  have:=zyl vs ps k (by simpa using h1) (by simpa using h2) j hj
  simp only[zmk,ubz,ucu,ub8] at this ⊢
  rw[ua1 (by simp[zb7];omega),← this]
  congr 1
  simp[zb7]
  omega
theorem zu6:∀(Ws:List zbk) (Ps:List zba) (k:Nat) (h1:k < Ws.length) (h2:k < Ps.length) (W':zbk) (P':zba),zb7 W'.rule P'=zb7 Ws[k].rule Ps[k]->zmk (Ws.set k W') (Ps.set k P')=zmk Ws Ps
 |[],_,k,h1,_,_,_,_=>by simp at h1
 |v::vs,[],k,_,h2,_,_,_=>by simp at h2
 |v::vs,p::ps,0,_,_,W',P',h=>by
  simp only[ucw] at h
  simp[zmk,h]
 |v::vs,p::ps,k+1,h1,h2,W',P',h=>by
  have:=zu6 vs ps k (by simpa using h1) (by simpa using h2) W' P' (by simpa using h)
  simp only[zmk,uc9,ubz,ucu] at this ⊢
  rw[this]
theorem zck.at{w:World}{own:Nat->zay}{wd:Nat}{wv:Value}{Ws:List zbk}{Ps:List zba}(h:zck lo w own wd wv Ws Ps)(k:Nat)(h1:k < Ws.length)(h2:k < Ps.length):∃ gw cap c,wv=.slice (some ⟨gw,0,none⟩) Ws.length cap/\lo<=gw/\Box w gw c 292/\WCc c (k * 8) Ws[k].rule Ps[k]:=by
 obtain⟨gw,cap,hv,hg,hl,hc⟩:=zal h.arr (by omega)
 obtain⟨c,hb⟩:=zef h.arr (b:=gw) (by rw[hv];rfl)
 have e:∀ j,j < 8->c[k * 8+j]?=(zb7 Ws[k].rule Ps[k])[j]?:=fun j hj=>by
  have q:=zyl Ws Ps k h1 h2 j hj
  obtain⟨u,hu⟩:∃ u,(zb7 Ws[k].rule Ps[k])[j]?=some u:=⟨_,uac (show j < (zb7 Ws[k].rule Ps[k]).length by simp[zb7];omega)⟩
  rw[hu] at q ⊢
  rw[← hb.rules.1]
  exact hc _ _ q
 exact⟨gw,cap,c,hv,hg,hb,e 0 (by omega),e 1 (by omega),e 2 (by omega),e 3 (by omega),e 4 (by omega),e 5 (by omega),e 6 (by omega),e 7 (by omega)⟩
theorem zck.all{w w':World}{own own':Nat->zay}{wd p:Nat}{wv:Value}{Ws:List zbk}{Ps:List zba}(h:zck lo w own wd wv Ws Ps)(m:Mod lo (zh7 p) w own w' own'):zck lo w' own' wd wv Ws Ps :=
 ⟨zee h.arr m (zhb (by decide) (by decide)),h.plen,fun k a b=>(h.work k a b).all m,h.few⟩
theorem zck.types{own:Nat->zay}{l:List TypeId}(h:zck lo w own wd wv Ws Ps)(m:Mod lo (ze3 l) w own w' own')(h0:∀ t∈l,NoT t/\t∉[292,284,204,301,162]):zck lo w' own' wd wv Ws Ps:=by
 have hn:∀ t,t∈[292,284,204,301,162]->∀ ρ,¬ ze3 l t ρ:=fun t ht ρ q=>(h0 t q).2 ht
 exact⟨zee h.arr m (hn _ (by decide)),h.plen,fun k a b=>(h.work k a b).mod m (hn _ (by decide)) (hn _ (by decide)) (hn _ (by decide) _) (hn _ (by decide)) (fun _ _ _ ht q=>ht (h0 _ q).1),h.few⟩
theorem zck.below{own:Nat->zay}(h:zck lo w own wd wv Ws Ps)(hb:Below w.heap.size w w'):zck lo w' own wd wv Ws Ps:=h.types (l:=[]) (Mod.of own hb) (by simp)
theorem zck.renewed{own:Nat->zay}{k:Nat}{vs':List zcs}{vps':List zf6}(h:zck lo w own wd wv Ws Ps)(h1:k < Ws.length)(h2:k < Ps.length)(hw:zd6 lo w' own' k wd ⟨Ws[k].rule,vs'⟩ ⟨Ps[k].tv,Ps[k].pv,Ps[k].nv,Ps[k].vv,Ps[k].ntv,vps',Ps[k].nbs⟩)(m:Mod lo (zi2 k) w own w' own'):zck lo w' own' wd wv (Ws.set k ⟨Ws[k].rule,vs'⟩) (Ps.set k ⟨Ps[k].tv,Ps[k].pv,Ps[k].nv,Ps[k].vv,Ps[k].ntv,vps',Ps[k].nbs⟩):=by
 refine⟨?_,by simp[h.plen],fun j a b=>?_,by simpa using h.few⟩
 ·rw[zu6 _ _ _ h1 h2 _ _ (by simp[zb7]),ucq]
  exact zee h.arr m (zfj (by decide) (by decide))
 ·simp only[ucq] at a b
  simp only[ucb]
  by_cases e:k=j
  ·subst e
   rw[if_pos rfl,if_pos rfl]
   exact hw
  ·rw[if_neg e,if_neg e]
   exact(h.work j a b).mod m (zfj (by decide) (by decide)) (zfj (by decide) (by decide)) (zfw (by omega)) (zfj (by decide) (by decide)) (fun _ _ _ _=>zfw (by omega))
theorem zqv{f wd:Nat}{fr:List (List zao)}:∀ {ws ws':List zbk},zhn f wd fr ws=some ws'->ws'.length=ws.length/\∀ i (h1:i < ws.length) (h2:i < ws'.length),∃ vs,zhm f wd fr ws[i].qj=some vs/\ws'[i]=⟨ws[i].rule,vs⟩
 |[],ws',h=>by
  simp[zhn] at h
  subst h
  exact⟨rfl,fun i h=>by simp at h⟩
 |W::ws,ws',h=>by
  unfold zhn at h
  split at h
  ·rename_i v ws2 hv hvs
   simp at h
   subst h
   obtain⟨q1,q2⟩:=zqv hvs
   refine⟨by simp[q1],fun i h1 h2=>?_⟩
   match i,h1,h2 with
   |0,_,_=>exact⟨v,by simpa using hv,rfl⟩
   |i+1,h1,h2 =>
    simp only[ub8]
    exact q2 i (by simpa using h1) (by simpa using h2)
  ·cases h
def zeu(R:zbg):Prop:=∀ l∈R.qo,l.length<=1048577
theorem zeu.clear(R:zbg):zeu (zfa R):=fun l hl=>by simp[zfa] at hl;simp[hl.2]
theorem zeu.add{mr:Nat}{R R':zbg}{p:Nat}{row:zao}{b:Bool}(h:zeu R)(ha:zyo mr R p row=some (R',b)):zeu R':=by
 obtain⟨_,_,_,_,hl,hc⟩:=zns ha
 rcases hc with ⟨_,rfl,_⟩|⟨_,rfl,_⟩
 ·exact h
 ·intro l hm
  rcases uco hm with hm|rfl
  ·exact h l hm
  ·simp only[uar,ua7,uch];omega
theorem zeu.addAll{mr p:Nat}:∀(n:Nat) (R R':zbg) (J:zav) (b:Bool),zeu R->zdl mr p n R J=some (R',b)->zeu R'
 |0,R,R',J,b,_,h=>by simp[zdl] at h
 |n+1,R,R',J,b,hf,h=>by
  unfold zdl at h
  cases hn:zt9 n J with
  |none=>rw[hn] at h;cases h
  |some ar =>
   obtain⟨J2,bn⟩:=ar
   rw[hn] at h
   cases bn with
   |false =>
    simp only[uab,uak] at h
    rw[← h.1]
    exact hf
   |true =>
    dsimp only at h
    cases ha:zyo mr R p (zct J2.head J2.qx) with
    |none=>rw[ha] at h;cases h
    |some ar2 =>
     obtain⟨R3,b3⟩:=ar2
     rw[ha] at h
     cases b3 with
     |false =>
      simp only[uab,uak] at h
      rw[← h.1]
      exact hf.add ha
     |true=>exact zeu.addAll n R3 R' J2 b (hf.add ha) h
theorem zj9{f wd mr:Nat}{W:zbk}:∀(n i:Nat) (R R':zbg) (b:Bool),zgt f wd mr W n i R=some (R',b)->(zeu R->zeu R')/\R'.rows.length=R.rows.length
 |0,i,R,R',b,h=>by simp[zgt] at h;rw[← h.1];exact⟨id,rfl⟩
 |n+1,i,R,R',b,h=>by
  unfold zgt at h
  split at h
  ·split at h
   ·cases h
   ·rename_i R2 ha
    simp only[uab,uak] at h
    rw[← h.1]
    exact⟨fun hf=>hf.addAll _ _ _ _ _ ha,zgs _ _ _ _ _ ha⟩
   ·rename_i R2 ha
    obtain⟨q1,q2⟩:=zj9 n (i+1) R2 R' b h
    exact⟨fun hf=>q1 (hf.addAll _ _ _ _ _ ha),q2.trans (zgs _ _ _ _ _ ha)⟩
  ·exact zj9 n (i+1) R R' b h
theorem znu{f mr:Nat}{first:Bool}{R R':zbg}{W:zbk}{b:Bool}(h:zit f wd mr first R W=some (R',b)):(zeu R->zeu R')/\R'.rows.length=R.rows.length:=by
 unfold zit at h
 split at h
 ·exact⟨fun hf=>hf.addAll _ _ _ _ _ h,zgs _ _ _ _ _ h⟩
 ·exact zj9 _ _ _ _ _ h
def zb1:TypeId->zay->Prop:=fun t ρ=>(¬ NoT t/\ρ≠(0,0,7))∨t∈[214,161,165,310,323,301]
theorem zki{p:Nat}{t:TypeId}{ρ:zay}(h:zh7 p t ρ):zb1 t ρ:=by
 rcases h with (h|h|h|h)|h
 ·exact Or.inl ⟨h.1,by rw[h.2];simp⟩
 ·subst h;exact Or.inr (by decide)
 ·subst h;exact Or.inr (by decide)
 ·rw[h.1];exact Or.inr (by decide)
 ·rcases uag.1 h with rfl|h
  ·exact Or.inr (by decide)
  ·rcases uag.1 h with rfl|h
   ·exact Or.inr (by decide)
   ·cases h
theorem zmt{k:Nat}{t:TypeId}{ρ:zay}(h:zi2 k t ρ):zb1 t ρ:=by
 rcases h with ⟨h1,i,j,rfl⟩|⟨rfl,_⟩
 ·exact Or.inl ⟨h1,by simp⟩
 ·exact Or.inr (by decide)
theorem zom{t:TypeId}{ρ:zay}(h:ze3 [214] t ρ):zb1 t ρ:=Or.inr (by rw[ua3.1 h];decide)
end Go.Proofs.YteampbddflhngaaGreat
namespace Go.Proofs.YteampbddflhngaaGreat
set_option maxRecDepth 100000
set_option maxHeartbeats 4000000
open Go.RowKit
variable {lo:Nat}
def zjo(tbs:List Nat)(n:Nat)(Ws:List zbk)(Ps:List zba):Prop:=∀ k (_:k < Ws.length) (_:k < Ps.length),zho tbs n Ws[k].rule Ps[k].nbs
theorem zjo.set{tbs:List Nat}{n k:Nat}{Ws:List zbk}{Ps:List zba}(h:zjo tbs n Ws Ps)(h1:k < Ws.length)(h2:k < Ps.length)(vs':List zcs)(P':zba)(hp:P'.nbs=Ps[k].nbs):zjo tbs n (Ws.set k ⟨Ws[k].rule,vs'⟩) (Ps.set k P'):=by
 intro j a b
 simp only[ucq] at a b
 simp only[ucb]
 by_cases e:k=j
 ·subst e
  rw[if_pos rfl,if_pos rfl,hp]
  exact h k a b
 ·rw[if_neg e,if_neg e]
  exact h j a b
def zsg(lo:Nat)(w:World)(own:Nat->zay)(rb:Nat)(wv:Value)(R R':zbg)(ws':List zbk)(wd mr mx:Nat)(Q:zcu)(b:Bool)(e:Ending)(w':World):Prop :=
 e=.returned (.bool b)/\∃ own' fv' fvs' Ps',zdc lo w' own' rb R' wd mr mx ⟨Q.rv,Q.tbs,fv',fvs'⟩/\zck lo w' own' wd wv ws' Ps'/\zjo Q.tbs R.rows.length ws' Ps'/\R'.rows.length=R.rows.length/\Mod lo zb1 w own w' own'
theorem z3t(w:World)(own:Nat->zay)(rb:Nat)(wv:Value)(R R':zbg)(Ws ws':List zbk)(Ps:List zba)(wd mr mx:Nat)(Q:zcu)(fuel:Nat)(first b:Bool)(h:zdc lo w own rb R wd mr mx Q)(hw:zck lo w own wd wv Ws Ps)(hna:zjo Q.tbs R.rows.length Ws Ps)(hlo:lo<=w.heap.size)(hrd:R.qw < 1048576)(hr:zqw fuel wd mr first Ws R=some (R',ws',b)) :
  Calls Tryz.prog 165 #[.pointer (some ⟨rb,0,none⟩),wv,.bool first] w fun e w'=>zsg lo w own rb wv R R' ws' wd mr mx Q b e w':=by
 obtain⟨R1,b1,hA,hE⟩:∃ R1 b1,zf3 fuel wd mr first Ws (zfa { R with qw:=R.qw+1 })=some (R1,b1)/\(b1=false/\R1=R'/\Ws=ws'/\false=b∨b1=true/\R1=R'/\zhn fuel wd R1.qo Ws=some ws'/\true=b):=by
  unfold zqw at hr
  split at hr
  ·cases hr
  ·rename_i R1 hA
   simp only[uab,uak] at hr
   exact⟨R1,false,hA,Or.inl ⟨rfl,hr⟩⟩
  ·rename_i R1 hA
   rw[ua6] at hr
   obtain⟨ws2,h1,h2⟩:=hr
   simp only[uak] at h2
   obtain⟨h3,h4,h5⟩:=h2
   subst h4
   exact⟨R1,true,hA,Or.inr ⟨rfl,h3,h1,h5⟩⟩
 obtain⟨hl,hf,h0,h1,h2,h3,h4,h5,h6,h7⟩:=h.at
 have hs6:zas [rb] w (w.setCell ⟨rb,2,none⟩ (.int .i64 ((R.qw:Int)+1))):=zas.set _ _ _ _
 have hM6:Mod lo (ze3 [214]) w own (w.setCell ⟨rb,2,none⟩ (.int .i64 ((R.qw:Int)+1))) own:=Mod.set own h.box h.low (ua3.2 rfl) _ _
 have hbx:=h.box.set 2 (.int .i64 ((R.qw:Int)+1))
 have hR6:=h.rebox (R':={ R with qw:=R.qw+1 }) hs6 (by simpa using hbx) rfl rfl ⟨h.few.2.2.1,by show R.qw+1<=1048576;omega⟩
 have HCL:Hid (Calls Tryz.prog 120 #[.pointer (some ⟨rb,0,none⟩)] (w.setCell ⟨rb,2,none⟩ (.int .i64 ((R.qw:Int)+1))) fun e w'=>znj lo (w.setCell ⟨rb,2,none⟩ (.int .i64 ((R.qw:Int)+1))) own rb { R with qw:=R.qw+1 } wd mr mx Q e w'):=clear_any _ own rb _ wd mr mx Q hR6 (by simpa [World.setCell] using hlo)
 have HM6:Hid (Mod lo (ze3 [214]) w own (w.setCell ⟨rb,2,none⟩ (.int .i64 ((R.qw:Int)+1))) own):=hM6
 have HWO:Hid (zck lo w own wd wv Ws Ps):=hw
 have HNA:Hid (zjo Q.tbs R.rows.length Ws Ps):=hna
 have HLO:Hid (lo<=w.heap.size):=hlo
 have HE:Hid (b1=false/\R1=R'/\Ws=ws'/\false=b∨b1=true/\R1=R'/\zhn fuel wd R1.qo Ws=some ws'/\true=b):=hE
 have HA:Hid (zf3 fuel wd mr first (Ws.drop 0) (zfa { R with qw:=R.qw+1 })=some (R1,b1)):=hA
 have hfew:=hw.few
 obtain⟨aov,capv,hvv⟩:=zac hw.arr
 subst hvv
 clear hr h hw hna hlo hE hA hR6 hM6 hs6 hbx h0 h1 h3 h4 h5 h6 h7
 go_enter Tryz.func165,Tryz.ntmps165
 go_upto_region 4 with (first|(go_at_call 120;refine HCL.out.mono ?_;rintro e w2 ⟨rfl,fv,fvs,hro,hm⟩))
 have hmc:Mod lo (ze3 [214]) w own w2 own:=HM6.out.trans hm
 have HW2:Hid (zck lo w2 own wd (.slice aov Ws.length capv) Ws Ps):=HWO.out.types hmc (by decide)
 have HR2:Hid (zdc lo w2 own rb (zfa { R with qw:=R.qw+1 }) wd mr mx ⟨Q.rv,Q.tbs,fv,fvs⟩):=hro
 have HM2:Hid (Mod lo zb1 w own w2 own):=hmc.more fun _ _ q=>zom q
 clear hmc hm hro HCL HM6
 go_loopw [22] (fun v22 wr=>∃ m:Nat,m<=Ws.length/\v22=.int .i64 m/\∃ Rk ownk fvk,Hid (zdc lo wr ownk rb Rk wd mr mx ⟨Q.rv,Q.tbs,fv,fvk⟩)/\Hid (zck lo wr ownk wd (.slice aov Ws.length capv) Ws Ps)/\Hid (Mod lo zb1 w own wr ownk)/\Hid (Rk.rows.length=R.rows.length)/\Hid (zeu Rk)/\Hid (zf3 fuel wd mr first (Ws.drop m) Rk=some (R1,b1))) (fun i _=>Ws.length - (intOf i).toNat)
 case atStart=>exact⟨0,uaj _,rfl,_,own,fvs,HR2,HW2,HM2,rfl,zeu.clear _,HA⟩
 case round =>
  clear HA HR2 HW2 HM2
  obtain⟨m,hm,rfl,Rk,ownk,fvk,HRO,HWK,HMO,HRL,HFK,HAP⟩:=hrel
  have hszk:=HMO.out.size
  have hlok:lo<=wr.heap.size:=uap HLO.out hszk
  by_cases hlt:m < Ws.length
  ·have hm2:m < Ps.length:=by rw[HWO.out.plen];exact hlt
   obtain⟨gw,capw,c,hv,_,hbx,hcc⟩:=HWK.out.at m hlt hm2
   simp only[Value.slice.injEq] at hv
   have hgg:=hv.1
   clear hv
   subst hgg
   have hq:=HAP.out
   rw[uah hlt] at hq
   unfold zf3 at hq
   cases ha:zit fuel wd mr first Rk Ws[m] with
   |none=>rw[ha] at hq;cases hq
   |some ar =>
    obtain⟨R3,b3⟩:=ar
    rw[ha] at hq
    have HKP:Hid (zeu R3/\R3.rows.length=R.rows.length):=⟨(znu ha).1 HFK.out,(znu ha).2.trans HRL.out⟩
    have HAY:Hid (Calls Tryz.prog 193 #[.pointer (some ⟨rb,0,none⟩),.pointer (some ⟨gw,m * 8,none⟩),.bool first] wr fun e w'=>zj3 lo wr ownk rb Ws[m].rule.head.pred R3 b3 wd mr mx ⟨Q.rv,Q.tbs,fv,fvk⟩ e w'):=z06 wr ownk rb gw (m * 8) m c Rk R3 Ws[m] Ps[m] wd mr mx _ fuel first b3 HRO.out (HWK.out.work m hlt hm2) hbx hcc (by rw[HRL.out];exact HNA.out m hlt hm2) hlok ha
    have hmkk:(m:Int) < (Ws.length:Int):=by omega
    generalize Ws[m].rule.head.pred=p at *
    clear ha hbx hcc
    cases b3 with
    |false =>
     simp only[uab,uak] at hq
     have HQ:Hid (R3=R1/\false=b1):=hq
     clear hq
     go_wp2_with (first|(go_at_call 193;refine HAY.out.mono ?_;rintro e w4 ⟨rfl,own',fvs',hro',hm4⟩))
     go_ret
     have hE:=HE.out
     rw[← HQ.out.2,← HQ.out.1] at hE
     rcases hE with ⟨_,rfl,rfl,rfl⟩|⟨hx,_⟩
     ·exact⟨rfl,own',fv,fvs',Ps,hro',HWK.out.all hm4,HNA.out,HKP.out.2,HMO.out.trans (hm4.more fun _ _ q=>zki q)⟩
     ·cases hx
    |true =>
     have HQ:Hid (zf3 fuel wd mr first (Ws.drop (m+1)) R3=some (R1,b1)):=hq
     clear hq
     go_wp2_with (first|(go_at_call 193;refine HAY.out.mono ?_;rintro e w4 ⟨rfl,own',fvs',hro',hm4⟩))
     exact⟨⟨m+1,by omega,by go_num,R3,own',fvs',hro',HWK.out.all hm4,HMO.out.trans (hm4.more fun _ _ q=>zki q),HKP.out.2,HKP.out.1,HQ⟩,by simp[intOf];omega⟩
  ·obtain rfl:m=Ws.length:=by omega
   have hq:=HAP.out
   rw[List.drop_length] at hq
   simp only[zf3,uab,uak] at hq
   have hE:=HE.out
   rw[← hq.2,← hq.1] at hE
   have HE2:Hid (Rk=R'/\zhn fuel wd Rk.qo Ws=some ws'/\true=b):=by
    rcases hE with ⟨hx,_⟩|⟨_,hx⟩
    ·cases hx
    ·exact hx
   clear hq hE HAP HE
   go_upto_region 10 with fail
   obtain⟨hwl,hwa⟩:=zqv HE2.out.2.1
   have HWL:Hid (ws'.length=Ws.length):=hwl
   have HWA:Hid (∀ i (h1:i < Ws.length) (h2:i < ws'.length),∃ vs,zhm fuel wd Rk.qo Ws[i].qj=some vs/\ws'[i]=⟨Ws[i].rule,vs⟩):=hwa
   clear hwl hwa hlt hm
   obtain⟨aof,capf,hfv⟩:=zac HRO.out.qo
   dsimp only at hfv
   subst hfv
   have HSZ:Hid (lo<=wr.heap.size):=hlok
   clear hszk hlok
   generalize hw5:wr=w5 at *
   clear hw5
   go_loopw [35] (fun v35 wr=>∃ m:Nat,m<=Ws.length/\v35=.int .i64 m/\∃ ownj Pj,Hid (zdc lo wr ownj rb Rk wd mr mx ⟨Q.rv,Q.tbs,.slice aof Rk.qo.length capf,fvk⟩)/\Hid (zck lo wr ownj wd (.slice aov Ws.length capv) (zm2 ws' Ws m) Pj)/\Hid (zjo Q.tbs R.rows.length (zm2 ws' Ws m) Pj)/\Hid (Mod lo zb1 w own wr ownj)) (fun i _=>Ws.length - (intOf i).toNat)
   case atStart=>exact⟨0,uaj _,rfl,ownk,Ps,HRO,HWK,HNA,HMO⟩
   case round =>
    clear HRO HWK HMO
    obtain⟨m,hm,rfl,ownj,Pj,HRO,HWK,HNJ,HMO⟩:=hrel
    have hlok:lo<=wr.heap.size:=uap HLO.out HMO.out.size
    by_cases hlt:m < Ws.length
    ·have hml:m < (zm2 ws' Ws m).length:=by rw[znd HWL.out m hm];exact hlt
     have hmv:m < ws'.length:=by rw[HWL.out];exact hlt
     have hma:=z3a HWL.out m hlt hml
     have hms:=zx1 HWL.out m hlt hmv
     have hm2:m < Pj.length:=by rw[HWK.out.plen];exact hml
     obtain⟨gw,capw,c,hv,_,hbx,hcc⟩:=HWK.out.at m hml hm2
     rw[znd HWL.out m hm] at hv
     simp only[Value.slice.injEq] at hv
     have hgg:=hv.1
     clear hv
     subst hgg
     obtain⟨vs,hvs,hwe⟩:=HWA.out m hlt hmv
     have hmkk:(m:Int) < (Ws.length:Int):=by omega
     have hrat:=HRO.out.at
     obtain⟨hl,hf,h0,h1,h2',h3,h4,h5,h6,h7⟩:=hrat
     have HRW:Hid (∀ W0,Below wr.heap.size wr W0->Calls Tryz.prog 194 #[.pointer (some ⟨gw,m * 8,none⟩),.slice aof Rk.qo.length capf] W0 fun e w'=>e=.returned (.tuple #[])/\w'.cell? ⟨rb,7,none⟩=some (.slice aof Rk.qo.length capf)/\Hid (∃ own' Pj',zdc lo w' own' rb Rk wd mr mx ⟨Q.rv,Q.tbs,.slice aof Rk.qo.length capf,fvk⟩/\zck lo w' own' wd (.slice (some ⟨gw,0,none⟩) Ws.length capv) (zm2 ws' Ws (m+1)) Pj'/\zjo Q.tbs R.rows.length (zm2 ws' Ws (m+1)) Pj'/\Mod lo zb1 w own w' own')):=fun W0 hb=>by
      have hW0:=HWK.out.below hb
      have q:=zr9 W0 ownj rb gw (m * 8) m c Rk (zm2 ws' Ws m)[m] vs Pj[m] wd mr mx _ fuel (HRO.out.below hb) (hW0.work m hml hm2) (hbx.below hb) hcc (uap hlok hb.size) HFK.out (by rw[hma];exact hvs)
      refine q.mono ?_
      rintro e w' ⟨rfl,own',vps',hw',hm'⟩
      have hro':=(HRO.out.below hb).work hm'
      have r1:=hW0.renewed hml hm2 hw' hm'
      have r2:=HNJ.out.set hml hm2 vs ⟨Pj[m].tv,Pj[m].pv,Pj[m].nv,Pj[m].vv,Pj[m].ntv,vps',Pj[m].nbs⟩ rfl
      have e2:(⟨(zm2 ws' Ws m)[m].rule,vs⟩:zbk)=ws'[m]:=by rw[hma,hwe]
      rw[e2,hms] at r1 r2
      exact⟨rfl,hro'.at.2.2.2.2.2.2.2.2.2,own',_,hro',r1,r2,(HMO.out.trans (Mod.of ownj hb)).trans (hm'.more fun _ _ q=>zmt q)⟩
     clear hbx hcc hvs hwe hma hms hml hmv hm2 h0 h1 h2' h3 h4 h5 h6
     have x7:wr.cell? ⟨rb,7,none⟩=some (.slice aof Rk.qo.length capf):=h7
     clear h7
     go_upto_region 12 with fail
     go_region_held3 (fun w'=>w'.cell? ⟨rb,7,none⟩=some (.slice aof Rk.qo.length capf)) (first|go_keep|(go_simp;done)) (first|(go_at_call 194;refine(HRW.out _ (by exact(zau (Below.refl _ _) 1))).mono ?_;rintro e w2 ⟨rfl,y1,HX⟩))
     clear x7 y1 HRW
     go_wp2
     obtain⟨own',Pj',z1,z2,z3,z4⟩:=HX.out
     exact⟨⟨m+1,by omega,by go_num,own',Pj',z1,z2,z3,z4⟩,by simp[intOf];omega⟩
    ·obtain rfl:m=Ws.length:=by omega
     have hmix:zm2 ws' Ws Ws.length=ws':=by simp[zm2,← HWL.out]
     have HF:Hid (zck lo wr ownj wd (.slice aov Ws.length capv) ws' Pj/\zjo Q.tbs R.rows.length ws' Pj):=by rw[← hmix];exact⟨HWK.out,HNJ.out⟩
     clear hmix HWK HNJ
     go_wp2
     go_ret
     exact⟨by rw[← HE2.out.2.2];rfl,ownj,_,fvk,Pj,by rw[← HE2.out.1];exact HRO.out,HF.out.1,HF.out.2,by rw[← HE2.out.1];exact HRL.out,HMO.out⟩
end Go.Proofs.YteampbddflhngaaGreat
namespace Go.Proofs.YteampbddflhngaaGreat
open Go.RowKit
variable {lo:Nat}
variable {k wd t5 t3:Nat}{w w' w0:World}{own' own0:Nat->zay}{r:zah}{P:zba}{vs:List zcs}
def zie(k:Nat):TypeId->zay->Prop:=fun t ρ=>zi2 k t ρ∨(t=301/\ρ=(0,0,5))
theorem z3h{i:Nat}{t:TypeId}{ρ:zay}(h:zgd k i (0,0,5) t ρ):zie k t ρ:=by
 rcases h with ⟨h1,j,h2⟩|h
 ·exact Or.inl (Or.inl ⟨h1,i,j,h2⟩)
 ·exact Or.inr h
theorem zgz{t:TypeId}(h:NoT t)(h2:t≠301):∀ ρ,¬ zie k t ρ:=fun ρ q=>by
 rcases q with q|q
 ·exact zfj h h2 ρ q
 ·exact h2 q.1
theorem zkh{t:TypeId}{a b c:Nat}(h:a≠k+1)(h2:c≠5):¬ zie k t (a,b,c):=fun q=>by
 rcases q with q|⟨_,q⟩
 ·exact zfw h q
 ·simp at q;omega
theorem zue{t:TypeId}{ρ:zay}(h:zie k t ρ):zb1 t ρ:=by
 rcases h with h|⟨rfl,_⟩
 ·exact zmt h
 ·exact Or.inr (by decide)
theorem zdc.make{own:Nat->zay}{rb:Nat}{R:zbg}{mr mx:Nat}{Q:zcu}(h:zdc lo w own rb R wd mr mx Q)(m:Mod lo (zie k) w own w' own'):zdc lo w' own' rb R wd mr mx Q :=
 h.mod m (zgz (by decide) (by decide)) (zgz (by decide) (by decide)) (zgz (by decide) (by decide)) (fun _=>zkh (by omega) (by omega)) (fun _ _ _=>zkh (by omega) (by omega))
theorem Mod.newer{ok:TypeId->zay->Prop}{w wr w':World}{own ownk:Nat->zay}{M:List Nat}(h:Mod lo ok w own wr ownk)(hs:zas M wr w')(hM:∀ b∈M,w.heap.size<=b):Mod lo ok w own w' ownk:=by
 obtain⟨h1,N,h2,h3⟩:=h
 exact⟨h1,N,h2.newer hs fun x hx=>Or.inr (hM x hx),h3⟩
theorem Mod.qo{ok:TypeId->zay->Prop}{own:Nat->zay}(hb:Below w.heap.size w w')(ho:∀ b,b < w.heap.size->own' b=own b):Mod lo ok w own w' own':=⟨ho,[],zas.of hb,by simp⟩
structure znq (lo:Nat) (w0 w:World) (own0 own:Nat->zay) (k wd t5 t3:Nat) (r:zah) (P:zba) (vs:List zcs):Prop where
 low:w0.heap.size<=t5
 low0:lo<=w0.heap.size
 box:Box w t5 (zb7 r P).toArray 292
 rbox:Box w t3 #[.int .i64 (r.qi:Nat),.int .i64 (r.vars:Nat),.int .i64 (r.head.pred:Nat),P.tv,P.pv,P.nv] 207
 rule:zdp lo w P.tv P.pv P.nv r
 qj:w.ownsRow lo 301 6 P.vv vs.length (zg5 wd vs P.vps)
 vlen:P.vps.length=vs.length
 view:∀ i (_:i < vs.length) (_:i < P.vps.length),zf7 lo w own k i vs[i] P.vps[i]
 vrole:∀ b,P.vv.ownBlock=some b->own b=(k+1,0,9)
 qm:w.ownsRow lo 162 1 P.ntv P.nbs.length (pts P.nbs)
 mod:Mod lo (zie k) w0 own0 w own
theorem znq.step{own:Nat->zay}(h:znq lo w0 w own0 own k wd t5 t3 r P vs)(m:Mod lo (zgd k vs.length (0,0,5)) w own w' own'):znq lo w0 w' own0 own' k wd t5 t3 r P vs:=by
 refine⟨h.low,h.low0,h.box.mod m (zci (by decide) (by decide) _),h.rbox.mod m (zci (by decide) (by decide) _),h.rule.mod m (zci (by decide) (by decide)) (zci (by decide) (by decide)),zon h.qj m (fun b hb q=>?_),h.vlen,fun i a b=>(h.view i a b).mod m (fun j t ht q=>?_) (zci (by decide) (by decide)),fun b hb=>(m.old b (zdq h.qj hb)).trans (h.vrole b hb),zee h.qm m (zci (by decide) (by decide)),h.mod.trans (m.more fun _ _ q=>z3h q)⟩
 ·rw[h.vrole b hb] at q
  rcases q with q|q
  ·exact q.1 (by decide)
  ·simp at q
 ·rcases q with ⟨_,j',q⟩|⟨q2,_⟩
  ·simp at q;omega
  ·subst q2;exact ht (by decide)
theorem znq.below{own:Nat->zay}(h:znq lo w0 w own0 own k wd t5 t3 r P vs)(hb:Below w.heap.size w w'):znq lo w0 w' own0 own k wd t5 t3 r P vs:=h.step (Mod.of own hb)
theorem z0r(wd:Nat):∀(vs:List zcs) (ps:List zf6),ps.length=vs.length->∀(V:zcs) (p:zf6),zg5 wd (vs++[V]) (ps++[p])=zg5 wd vs ps++zc1 wd V p:=fun vs ps h V p=>by
 simp[zg5,List.zipWith_append (h.symm)]
theorem znq.pushV{own:Nat->zay}{V:zcs}{p:zf6}{v':Value}(h:znq lo w0 w own0 own k wd t5 t3 r P vs)(hv:zf7 lo w own k vs.length V p)(ho:w'.ownsRow lo 301 6 v' (vs.length+1) (zg5 wd vs P.vps++zc1 wd V p))(hs:zas P.vv.ownBlock.toList w w')(ha:v'.ownBlock=P.vv.ownBlock∨∃ g,v'.ownBlock=some g/\w.heap.size<=g) :
  znq lo w0 (w'.setCell ⟨t5,6,none⟩ v') own0 (ext own w.heap.size (k+1,0,9)) k wd t5 t3 r ⟨P.tv,P.pv,P.nv,v',P.ntv,P.vps++[p],P.nbs⟩ (vs++[V]):=by
 have hM1:Mod lo (fun t ρ=>t=301/\ρ=(k+1,0,9)) w own w' (ext own w.heap.size (k+1,0,9)):=⟨fun b hb=>zgb _ _ _ b hb,_,hs,fun b hb=>by
  have hb':P.vv.ownBlock=some b:=by simpa using hb
  obtain⟨c,hc⟩:=zef h.qj hb'
  exact⟨zeg h.qj hb',zdq h.qj hb',c,_,hc,rfl,h.vrole b hb'⟩⟩
 have no:∀ t,t≠301->∀ ρ,¬ (t=301/\ρ=(k+1,0,9)):=fun t ht ρ q=>ht q.1
 have hbox:=h.box.mod hM1 (no _ (by decide) _)
 have hrbox:=h.rbox.mod hM1 (no _ (by decide) _)
 have hs2:zas [t5] w' (w'.setCell ⟨t5,6,none⟩ v'):=zas.set _ _ _ _
 have hT:=OfT.box hbox
 have hvw:∀ i V p,zf7 lo w own k i V p->zf7 lo (w'.setCell ⟨t5,6,none⟩ v') (ext own w.heap.size (k+1,0,9)) k i V p:=fun i V p q=>(q.mod hM1 (fun j t ht q=>by obtain⟨rfl,_⟩:=q;exact ht (by decide)) (no _ (by decide))).saveT hs2 hT (by decide) (by decide)
 refine⟨h.low,h.low0,?_,hrbox.saveT hs2 hT (by decide),(h.rule.mod hM1 (no _ (by decide)) (no _ (by decide))).saveT hs2 hT (by decide) (by decide),?_,by simp[h.vlen],fun i a b=>?_,fun b hb=>?_,zaj (zee h.qm hM1 (no _ (by decide))) hs2 hT (by decide),(h.mod.trans (hM1.more fun _ _ q=>Or.inl (Or.inr q))).newer hs2 fun b hb=>by simp at hb;rw[hb];exact h.low⟩
 ·have q:=hbox.set 6 v'
  simpa [zb7] using q
 ·rw[z0r wd vs P.vps h.vlen,uar]
  exact zaj ho hs2 hT (by decide)
 ·simp only[uar,ua7,uch] at a b
  by_cases hi:i < vs.length
  ·have hi2:i < P.vps.length:=by rw[h.vlen];exact hi
   rw[uan hi,uan hi2]
   exact hvw i _ _ (h.view i hi hi2)
  ·obtain rfl:i=vs.length:=by omega
   have e1:(vs++[V])[vs.length]=V:=by simp
   have e2:(P.vps++[p])[vs.length]=p:=by simp[← h.vlen]
   rw[e1,e2]
   exact hvw _ _ _ hv
 ·rcases ha with ha|⟨g,hg,hl⟩
  ·rw[ha] at hb
   rw[zgb _ _ _ b (zdq h.qj hb)]
   exact h.vrole b hb
  ·rw[hg] at hb
   simp at hb
   subst hb
   simp[ext,Nat.not_lt.2 hl]
theorem znq.pushN{own:Nat->zay}{tb:Nat}{v':Value}(h:znq lo w0 w own0 own k wd t5 t3 r P vs)(hnew:∀ b,P.ntv.ownBlock=some b->w0.heap.size<=b)(ho:w'.ownsRow lo 162 1 v' (P.nbs.length+1) (pts P.nbs++[.pointer (some ⟨tb,0,none⟩)]))(hs:zas P.ntv.ownBlock.toList w w') :
  znq lo w0 (w'.setCell ⟨t5,7,none⟩ v') own0 own k wd t5 t3 r ⟨P.tv,P.pv,P.nv,P.vv,v',P.vps,P.nbs++[tb]⟩ vs:=by
 have hT1:=OfT.own h.qm
 have hbox:=h.box.saveT hs hT1 (by decide)
 have hs2:zas [t5] w' (w'.setCell ⟨t5,7,none⟩ v'):=zas.set _ _ _ _
 have hT:=OfT.box hbox
 refine⟨h.low,h.low0,?_,(h.rbox.saveT hs hT1 (by decide)).saveT hs2 hT (by decide),(h.rule.saveT hs hT1 (by decide) (by decide)).saveT hs2 hT (by decide) (by decide),zaj (zaj h.qj hs hT1 (by decide)) hs2 hT (by decide),h.vlen,fun i a b=>((h.view i a b).saveT hs hT1 (by decide) (by decide)).saveT hs2 hT (by decide) (by decide),h.vrole,?_,(h.mod.newer hs fun b hb=>hnew b (by simpa using hb)).newer hs2 fun b hb=>by simp at hb;rw[hb];exact h.low⟩
 ·have q:=hbox.set 7 v'
  simpa [zb7] using q
 ·have e:pts (P.nbs++[tb])=pts P.nbs++[.pointer (some ⟨tb,0,none⟩)]:=by simp[pts,pt]
  rw[e,uar]
  exact zaj ho hs2 hT (by decide)
theorem zu5{f wd:Nat}{R:zbg}:∀ {ls:List zak} {vs:List zcs},zls f wd R ls=some vs->vs.length=ls.length/\∀ i (h1:i < ls.length) (h2:i < vs.length),∃ rows,rowsG f (zgf wd R ls[i].pred)=some rows/\zif f wd (zex wd ls[i]) rows=some vs[i]
 |[],vs,h=>by
  simp[zls] at h
  subst h
  exact⟨rfl,fun i h=>by simp at h⟩
 |l::ls,vs,h=>by
  unfold zls at h
  split at h
  ·cases h
  ·rename_i rows hrows
   split at h
   ·rename_i v vs2 hv hvs
    simp at h
    subst h
    obtain⟨q1,q2⟩:=zu5 hvs
    refine⟨by simp[q1],fun i h1 h2=>?_⟩
    match i,h1,h2 with
    |0,_,_=>exact⟨rows,hrows,hv⟩
    |i+1,h1,h2 =>
     simp only[ub8]
     exact q2 i (by simpa using h1) (by simpa using h2)
   ·cases h
end Go.Proofs.YteampbddflhngaaGreat
