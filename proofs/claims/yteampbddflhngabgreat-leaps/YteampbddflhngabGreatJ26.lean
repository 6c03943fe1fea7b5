import Derived.Test.YteampbddflhngabGreatJ25
import Derived.Deep.RegionHeld3

namespace Go.Proofs.YteampbddflhngabGreat
set_option maxRecDepth 100000
set_option maxHeartbeats 4000000
open Go.RowKit
variable {lo:Nat}
def zi9(tbs:List Nat)(n:Nat)(Ws:List zbe)(Ps:List za6):Prop:=∀ k (_:k < Ws.length) (_:k < Ps.length),zhg tbs n Ws[k].rule Ps[k].nbs
theorem zi9.set{tbs:List Nat}{n k:Nat}{Ws:List zbe}{Ps:List za6}(h:zi9 tbs n Ws Ps)(h1:k < Ws.length)(h2:k < Ps.length)(vs':List zco)(P':za6)(hp:P'.nbs=Ps[k].nbs):zi9 tbs n (Ws.set k ⟨Ws[k].rule,vs'⟩) (Ps.set k P'):=by
 intro j a b
 simp only[List.length_set] at a b
 simp only[List.getElem_set]
 by_cases e:k=j
 ·subst e
  rw[if_pos rfl,if_pos rfl,hp]
  exact h k a b
 ·rw[if_neg e,if_neg e]
  exact h j a b
def zrj(lo:Nat)(w:World)(own:Nat->zay)(rb:Nat)(wv:Value)(R R':zbt)(ws':List zbe)(wd mr mx:Nat)(Q:zcq)(b:Bool)(e:Ending)(w':World):Prop :=
 e=.returned (.bool b)/\∃ own' fv' fvs' Ps',zc6 lo w' own' rb R' wd mr mx ⟨Q.rv,Q.tbs,fv',fvs'⟩/\zch lo w' own' wd wv ws' Ps'/\zi9 Q.tbs R.rows.length ws' Ps'/\R'.rows.length=R.rows.length/\Mod lo zbs w own w' own'
theorem z1x(w:World)(own:Nat->zay)(rb:Nat)(wv:Value)(R R':zbt)(Ws ws':List zbe)(Ps:List za6)(wd mr mx:Nat)(Q:zcq)(fuel:Nat)(first b:Bool)(h:zc6 lo w own rb R wd mr mx Q)(hw:zch lo w own wd wv Ws Ps)(hna:zi9 Q.tbs R.rows.length Ws Ps)(hlo:lo<=w.heap.size)(hrd:R.rounds < 1048576)(hr:zpz fuel wd mr first Ws R=some (R',ws',b)) :
  Calls Tryz.prog 106 #[.pointer (some ⟨rb,0,none⟩),wv,.bool first] w fun e w'=>zrj lo w own rb wv R R' ws' wd mr mx Q b e w':=by
 obtain⟨R1,b1,hA,hE⟩:∃ R1 b1,zfw fuel wd mr first Ws (ze2 { R with rounds:=R.rounds+1 })=some (R1,b1)/\(b1=false/\R1=R'/\Ws=ws'/\false=b∨b1=true/\R1=R'/\zhf fuel wd R1.fresh Ws=some ws'/\true=b):=by
  unfold zpz at hr
  split at hr
  ·cases hr
  ·rename_i R1 hA
   simp only[Option.some.injEq,Prod.mk.injEq] at hr
   exact⟨R1,false,hA,Or.inl ⟨rfl,hr⟩⟩
  ·rename_i R1 hA
   rw[Option.map_eq_some_iff] at hr
   obtain⟨ws2,h1,h2⟩:=hr
   simp only[Prod.mk.injEq] at h2
   obtain⟨h3,h4,h5⟩:=h2
   subst h4
   exact⟨R1,true,hA,Or.inr ⟨rfl,h3,h1,h5⟩⟩
 obtain⟨hl,hf,h0,h1,h2,h3,h4,h5,h6,h7⟩:=h.at
 have hs6:zao [rb] w (w.setCell ⟨rb,2,none⟩ (.int .i64 ((R.rounds:Int)+1))):=zao.set _ _ _ _
 have hM6:Mod lo (zev [157]) w own (w.setCell ⟨rb,2,none⟩ (.int .i64 ((R.rounds:Int)+1))) own:=Mod.set own h.box h.low (List.mem_singleton.2 rfl) _ _
 have hbx:=h.box.set 2 (.int .i64 ((R.rounds:Int)+1))
 have hR6:=h.rebox (R':={ R with rounds:=R.rounds+1 }) hs6 (by simpa using hbx) rfl rfl ⟨h.few.2.2.1,by show R.rounds+1<=1048576;omega⟩
 have HCL:Hid (Calls Tryz.prog 75 #[.pointer (some ⟨rb,0,none⟩)] (w.setCell ⟨rb,2,none⟩ (.int .i64 ((R.rounds:Int)+1))) fun e w'=>zmp lo (w.setCell ⟨rb,2,none⟩ (.int .i64 ((R.rounds:Int)+1))) own rb { R with rounds:=R.rounds+1 } wd mr mx Q e w'):=clear_any _ own rb _ wd mr mx Q hR6 (by simpa [World.setCell] using hlo)
 have HM6:Hid (Mod lo (zev [157]) w own (w.setCell ⟨rb,2,none⟩ (.int .i64 ((R.rounds:Int)+1))) own):=hM6
 have HWO:Hid (zch lo w own wd wv Ws Ps):=hw
 have HNA:Hid (zi9 Q.tbs R.rows.length Ws Ps):=hna
 have HLO:Hid (lo<=w.heap.size):=hlo
 have HE:Hid (b1=false/\R1=R'/\Ws=ws'/\false=b∨b1=true/\R1=R'/\zhf fuel wd R1.fresh Ws=some ws'/\true=b):=hE
 have HA:Hid (zfw fuel wd mr first (Ws.drop 0) (ze2 { R with rounds:=R.rounds+1 })=some (R1,b1)):=hA
 have hfew:=hw.few
 obtain⟨aov,capv,hvv⟩:=zab hw.arr
 subst hvv
 clear hr h hw hna hlo hE hA hR6 hM6 hs6 hbx h0 h1 h3 h4 h5 h6 h7
 go_enter Tryz.func106,Tryz.ntmps106
 go_upto_region 4 with (first|(go_at_call 75;refine HCL.out.mono ?_;rintro e w2 ⟨rfl,fv,fvs,hro,hm⟩))
 have hmc:Mod lo (zev [157]) w own w2 own:=HM6.out.trans hm
 have HW2:Hid (zch lo w2 own wd (.slice aov Ws.length capv) Ws Ps):=HWO.out.types hmc (by decide)
 have HR2:Hid (zc6 lo w2 own rb (ze2 { R with rounds:=R.rounds+1 }) wd mr mx ⟨Q.rv,Q.tbs,fv,fvs⟩):=hro
 have HM2:Hid (Mod lo zbs w own w2 own):=hmc.more fun _ _ q=>znp q
 clear hmc hm hro HCL HM6
 go_loopw [22] (fun v22 wr=>∃ m:Nat,m<=Ws.length/\v22=.int .i64 m/\∃ Rk ownk fvk,Hid (zc6 lo wr ownk rb Rk wd mr mx ⟨Q.rv,Q.tbs,fv,fvk⟩)/\Hid (zch lo wr ownk wd (.slice aov Ws.length capv) Ws Ps)/\Hid (Mod lo zbs w own wr ownk)/\Hid (Rk.rows.length=R.rows.length)/\Hid (zem Rk)/\Hid (zfw fuel wd mr first (Ws.drop m) Rk=some (R1,b1))) (fun i _=>Ws.length - (intOf i).toNat)
 case atStart=>exact⟨0,Nat.zero_le _,rfl,_,own,fvs,HR2,HW2,HM2,rfl,zem.clear _,HA⟩
 case round =>
  clear HA HR2 HW2 HM2
  obtain⟨m,hm,rfl,Rk,ownk,fvk,HRO,HWK,HMO,HRL,HFK,HAP⟩:=hrel
  have hszk:=HMO.out.size
  have hlok:lo<=wr.heap.size:=Nat.le_trans HLO.out hszk
  by_cases hlt:m < Ws.length
  ·have hm2:m < Ps.length:=by rw[HWO.out.plen];exact hlt
   obtain⟨gw,capw,c,hv,_,hbx,hcc⟩:=HWK.out.at m hlt hm2
   simp only[Value.slice.injEq] at hv
   have hgg:=hv.1
   clear hv
   subst hgg
   have hq:=HAP.out
   rw[List.drop_eq_getElem_cons hlt] at hq
   unfold zfw at hq
   cases ha:zih fuel wd mr first Rk Ws[m] with
   |none=>rw[ha] at hq;cases hq
   |some ar =>
    obtain⟨R3,b3⟩:=ar
    rw[ha] at hq
    have HKP:Hid (zem R3/\R3.rows.length=R.rows.length):=⟨(zm0 ha).1 HFK.out,(zm0 ha).2.trans HRL.out⟩
    have HAY:Hid (Calls Tryz.prog 126 #[.pointer (some ⟨rb,0,none⟩),.pointer (some ⟨gw,m * 8,none⟩),.bool first] wr fun e w'=>zjk lo wr ownk rb Ws[m].rule.head.pred R3 b3 wd mr mx ⟨Q.rv,Q.tbs,fv,fvk⟩ e w'):=zzt wr ownk rb gw (m * 8) m c Rk R3 Ws[m] Ps[m] wd mr mx _ fuel first b3 HRO.out (HWK.out.work m hlt hm2) hbx hcc (by rw[HRL.out];exact HNA.out m hlt hm2) hlok ha
    have hmkk:(m:Int) < (Ws.length:Int):=by omega
    generalize Ws[m].rule.head.pred=p at *
    clear ha hbx hcc
    cases b3 with
    |false =>
     simp only[Option.some.injEq,Prod.mk.injEq] at hq
     have HQ:Hid (R3=R1/\false=b1):=hq
     clear hq
     go_wp2_with (first|(go_at_call 126;refine HAY.out.mono ?_;rintro e w4 ⟨rfl,own',fvs',hro',hm4⟩))
     go_ret
     have hE:=HE.out
     rw[← HQ.out.2,← HQ.out.1] at hE
     rcases hE with ⟨_,rfl,rfl,rfl⟩|⟨hx,_⟩
     ·exact⟨rfl,own',fv,fvs',Ps,hro',HWK.out.all hm4,HNA.out,HKP.out.2,HMO.out.trans (hm4.more fun _ _ q=>zj0 q)⟩
     ·cases hx
    |true =>
     have HQ:Hid (zfw fuel wd mr first (Ws.drop (m+1)) R3=some (R1,b1)):=hq
     clear hq
     go_wp2_with (first|(go_at_call 126;refine HAY.out.mono ?_;rintro e w4 ⟨rfl,own',fvs',hro',hm4⟩))
     exact⟨⟨m+1,by omega,by go_num,R3,own',fvs',hro',HWK.out.all hm4,HMO.out.trans (hm4.more fun _ _ q=>zj0 q),HKP.out.2,HKP.out.1,HQ⟩,by simp[intOf];omega⟩
  ·obtain rfl:m=Ws.length:=by omega
   have hq:=HAP.out
   rw[List.drop_length] at hq
   simp only[zfw,Option.some.injEq,Prod.mk.injEq] at hq
   have hE:=HE.out
   rw[← hq.2,← hq.1] at hE
   have HE2:Hid (Rk=R'/\zhf fuel wd Rk.fresh Ws=some ws'/\true=b):=by
    rcases hE with ⟨hx,_⟩|⟨_,hx⟩
    ·cases hx
    ·exact hx
   clear hq hE HAP HE
   go_upto_region 10 with fail
   obtain⟨hwl,hwa⟩:=zpy HE2.out.2.1
   have HWL:Hid (ws'.length=Ws.length):=hwl
   have HWA:Hid (∀ i (h1:i < Ws.length) (h2:i < ws'.length),∃ vs,zhe fuel wd Rk.fresh Ws[i].views=some vs/\ws'[i]=⟨Ws[i].rule,vs⟩):=hwa
   clear hwl hwa hlt hm
   obtain⟨aof,capf,hfv⟩:=zab HRO.out.fresh
   dsimp only at hfv
   subst hfv
   have HSZ:Hid (lo<=wr.heap.size):=hlok
   clear hszk hlok
   generalize hw5:wr=w5 at *
   clear hw5
   go_loopw [35] (fun v35 wr=>∃ m:Nat,m<=Ws.length/\v35=.int .i64 m/\∃ ownj Pj,Hid (zc6 lo wr ownj rb Rk wd mr mx ⟨Q.rv,Q.tbs,.slice aof Rk.fresh.length capf,fvk⟩)/\Hid (zch lo wr ownj wd (.slice aov Ws.length capv) (zmb ws' Ws m) Pj)/\Hid (zi9 Q.tbs R.rows.length (zmb ws' Ws m) Pj)/\Hid (Mod lo zbs w own wr ownj)) (fun i _=>Ws.length - (intOf i).toNat)
   case atStart=>exact⟨0,Nat.zero_le _,rfl,ownk,Ps,HRO,HWK,HNA,HMO⟩
   case round =>
    clear HRO HWK HMO
    obtain⟨m,hm,rfl,ownj,Pj,HRO,HWK,HNJ,HMO⟩:=hrel
    have hlok:lo<=wr.heap.size:=Nat.le_trans HLO.out HMO.out.size
    by_cases hlt:m < Ws.length
    ·have hml:m < (zmb ws' Ws m).length:=by rw[zml HWL.out m hm];exact hlt
     have hmv:m < ws'.length:=by rw[HWL.out];exact hlt
     have hma:=z1d HWL.out m hlt hml
     have hms:=zwv HWL.out m hlt hmv
     have hm2:m < Pj.length:=by rw[HWK.out.plen];exact hml
     obtain⟨gw,capw,c,hv,_,hbx,hcc⟩:=HWK.out.at m hml hm2
     rw[zml HWL.out m hm] at hv
     simp only[Value.slice.injEq] at hv
     have hgg:=hv.1
     clear hv
     subst hgg
     obtain⟨vs,hvs,hwe⟩:=HWA.out m hlt hmv
     have hmkk:(m:Int) < (Ws.length:Int):=by omega
     have hrat:=HRO.out.at
     obtain⟨hl,hf,h0,h1,h2',h3,h4,h5,h6,h7⟩:=hrat
     have HRW:Hid (∀ W0,Below wr.heap.size wr W0->Calls Tryz.prog 127 #[.pointer (some ⟨gw,m * 8,none⟩),.slice aof Rk.fresh.length capf] W0 fun e w'=>e=.returned (.tuple #[])/\w'.cell? ⟨rb,7,none⟩=some (.slice aof Rk.fresh.length capf)/\Hid (∃ own' Pj',zc6 lo w' own' rb Rk wd mr mx ⟨Q.rv,Q.tbs,.slice aof Rk.fresh.length capf,fvk⟩/\zch lo w' own' wd (.slice (some ⟨gw,0,none⟩) Ws.length capv) (zmb ws' Ws (m+1)) Pj'/\zi9 Q.tbs R.rows.length (zmb ws' Ws (m+1)) Pj'/\Mod lo zbs w own w' own')):=fun W0 hb=>by
      have hW0:=HWK.out.below hb
      have q:=zrb W0 ownj rb gw (m * 8) m c Rk (zmb ws' Ws m)[m] vs Pj[m] wd mr mx _ fuel (HRO.out.below hb) (hW0.work m hml hm2) (hbx.below hb) hcc (Nat.le_trans hlok hb.size) HFK.out (by rw[hma];exact hvs)
      refine q.mono ?_
      rintro e w' ⟨rfl,own',vps',hw',hm'⟩
      have hro':=(HRO.out.below hb).work hm'
      have r1:=hW0.renewed hml hm2 hw' hm'
      have r2:=HNJ.out.set hml hm2 vs ⟨Pj[m].tv,Pj[m].pv,Pj[m].nv,Pj[m].vv,Pj[m].ntv,vps',Pj[m].nbs⟩ rfl
      have e2:(⟨(zmb ws' Ws m)[m].rule,vs⟩:zbe)=ws'[m]:=by rw[hma,hwe]
      rw[e2,hms] at r1 r2
      exact⟨rfl,hro'.at.2.2.2.2.2.2.2.2.2,own',_,hro',r1,r2,(HMO.out.trans (Mod.of ownj hb)).trans (hm'.more fun _ _ q=>zl2 q)⟩
     clear hbx hcc hvs hwe hma hms hml hmv hm2 h0 h1 h2' h3 h4 h5 h6
     have x7:wr.cell? ⟨rb,7,none⟩=some (.slice aof Rk.fresh.length capf):=h7
     clear h7
     go_upto_region 12 with fail
     go_region_held3 (fun w'=>w'.cell? ⟨rb,7,none⟩=some (.slice aof Rk.fresh.length capf)) (first|go_keep|(go_simp;done)) (first|(go_at_call 127;refine(HRW.out _ (by exact(zax (Below.refl _ _) 1))).mono ?_;rintro e w2 ⟨rfl,y1,HX⟩))
     clear x7 y1 HRW
     go_wp2
     obtain⟨own',Pj',z1,z2,z3,z4⟩:=HX.out
     exact⟨⟨m+1,by omega,by go_num,own',Pj',z1,z2,z3,z4⟩,by simp[intOf];omega⟩
    ·obtain rfl:m=Ws.length:=by omega
     have hmix:zmb ws' Ws Ws.length=ws':=by simp[zmb,← HWL.out]
     have HF:Hid (zch lo wr ownj wd (.slice aov Ws.length capv) ws' Pj/\zi9 Q.tbs R.rows.length ws' Pj):=by rw[← hmix];exact⟨HWK.out,HNJ.out⟩
     clear hmix HWK HNJ
     go_wp2
     go_ret
     exact⟨by rw[← HE2.out.2.2];rfl,ownj,_,fvk,Pj,by rw[← HE2.out.1];exact HRO.out,HF.out.1,HF.out.2,by rw[← HE2.out.1];exact HRL.out,HMO.out⟩
def zh5(k:Nat):TypeId->zay->Prop:=fun t ρ=>zio k t ρ∨(t=223/\ρ=(0,0,5))
theorem z1k{k i:Nat}{t:TypeId}{ρ:zay}(h:zf6 k i (0,0,5) t ρ):zh5 k t ρ:=by
 rcases h with ⟨h1,j,h2⟩|h
 ·exact Or.inl (Or.inl ⟨h1,i,j,h2⟩)
 ·exact Or.inr h
theorem zgs{k:Nat}{t:TypeId}(h:NoT t)(h2:t≠223):∀ ρ,¬ zh5 k t ρ:=fun ρ q=>by
 rcases q with q|q
 ·exact zfc h h2 ρ q
 ·exact h2 q.1
theorem zjz{k:Nat}{t:TypeId}{a b c:Nat}(h:a≠k+1)(h2:c≠5):¬ zh5 k t (a,b,c):=fun q=>by
 rcases q with q|⟨_,q⟩
 ·exact zfq h q
 ·simp at q;omega
theorem ztb{k:Nat}{t:TypeId}{ρ:zay}(h:zh5 k t ρ):zbs t ρ:=by
 rcases h with h|⟨rfl,_⟩
 ·exact zl2 h
 ·exact Or.inr (by decide)
theorem zc6.make{w w':World}{own own':Nat->zay}{rb:Nat}{R:zbt}{wd mr mx k:Nat}{Q:zcq}(h:zc6 lo w own rb R wd mr mx Q)(m:Mod lo (zh5 k) w own w' own'):zc6 lo w' own' rb R wd mr mx Q :=
 h.mod m (zgs (by decide) (by decide)) (zgs (by decide) (by decide)) (zgs (by decide) (by decide)) (fun _=>zjz (by omega) (by omega)) (fun _ _ _=>zjz (by omega) (by omega))
theorem Mod.newer{ok:TypeId->zay->Prop}{w wr w':World}{own ownk:Nat->zay}{M:List Nat}(h:Mod lo ok w own wr ownk)(hs:zao M wr w')(hM:∀ b∈M,w.heap.size<=b):Mod lo ok w own w' ownk:=by
 obtain⟨h1,N,h2,h3⟩:=h
 exact⟨h1,N,h2.newer hs fun x hx=>Or.inr (hM x hx),h3⟩
theorem Mod.fresh{ok:TypeId->zay->Prop}{w w':World}{own own':Nat->zay}(hb:Below w.heap.size w w')(ho:∀ b,b < w.heap.size->own' b=own b):Mod lo ok w own w' own':=⟨ho,[],zao.of hb,by simp⟩
structure zmw (lo:Nat) (w0 w:World) (own0 own:Nat->zay) (k wd t5 t3:Nat) (r:zaf) (P:za6) (vs:List zco):Prop where
 low:w0.heap.size<=t5
 low0:lo<=w0.heap.size
 box:Box w t5 (zb2 r P).toArray 216
 rbox:Box w t3 #[.int .i64 (r.stratum:Nat),.int .i64 (r.vars:Nat),.int .i64 (r.head.pred:Nat),P.tv,P.pv,P.nv] 150
 rule:zdj lo w P.tv P.pv P.nv r
 views:w.ownsRow lo 223 6 P.vv vs.length (zgx wd vs P.vps)
 vlen:P.vps.length=vs.length
 view:∀ i (_:i < vs.length) (_:i < P.vps.length),zf0 lo w own k i vs[i] P.vps[i]
 vrole:∀ b,P.vv.ownBlock=some b->own b=(k+1,0,9)
 nots:w.ownsRow lo 113 1 P.ntv P.nbs.length (pts P.nbs)
 mod:Mod lo (zh5 k) w0 own0 w own
theorem zmw.step{w0 w w':World}{own0 own own':Nat->zay}{k wd t5 t3:Nat}{r:zaf}{P:za6}{vs:List zco}(h:zmw lo w0 w own0 own k wd t5 t3 r P vs)(m:Mod lo (zf6 k vs.length (0,0,5)) w own w' own'):zmw lo w0 w' own0 own' k wd t5 t3 r P vs:=by
 refine⟨h.low,h.low0,h.box.mod m (zce (by decide) (by decide) _),h.rbox.mod m (zce (by decide) (by decide) _),h.rule.mod m (zce (by decide) (by decide)) (zce (by decide) (by decide)),znq h.views m (fun b hb q=>?_),h.vlen,fun i a b=>(h.view i a b).mod m (fun j t ht q=>?_) (zce (by decide) (by decide)),fun b hb=>(m.old b (zdk h.views hb)).trans (h.vrole b hb),zd7 h.nots m (zce (by decide) (by decide)),h.mod.trans (m.more fun _ _ q=>z1k q)⟩
 ·rw[h.vrole b hb] at q
  rcases q with q|q
  ·exact q.1 (by decide)
  ·simp at q
 ·rcases q with ⟨_,j',q⟩|⟨q2,_⟩
  ·simp at q;omega
  ·subst q2;exact ht (by decide)
theorem zmw.below{w0 w w':World}{own0 own:Nat->zay}{k wd t5 t3:Nat}{r:zaf}{P:za6}{vs:List zco}(h:zmw lo w0 w own0 own k wd t5 t3 r P vs)(hb:Below w.heap.size w w'):zmw lo w0 w' own0 own k wd t5 t3 r P vs:=h.step (Mod.of own hb)
theorem zzc(wd:Nat):∀(vs:List zco) (ps:List zfz),ps.length=vs.length->∀(V:zco) (p:zfz),zgx wd (vs++[V]) (ps++[p])=zgx wd vs ps++zcw wd V p:=fun vs ps h V p=>by
 simp[zgx,List.zipWith_append (h.symm)]
theorem zmw.pushV{w0 w w':World}{own0 own:Nat->zay}{k wd t5 t3:Nat}{r:zaf}{P:za6}{vs:List zco}{V:zco}{p:zfz}{v':Value}(h:zmw lo w0 w own0 own k wd t5 t3 r P vs)(hv:zf0 lo w own k vs.length V p)(ho:w'.ownsRow lo 223 6 v' (vs.length+1) (zgx wd vs P.vps++zcw wd V p))(hs:zao P.vv.ownBlock.toList w w')(ha:v'.ownBlock=P.vv.ownBlock∨∃ g,v'.ownBlock=some g/\w.heap.size<=g) :
  zmw lo w0 (w'.setCell ⟨t5,6,none⟩ v') own0 (ext own w.heap.size (k+1,0,9)) k wd t5 t3 r ⟨P.tv,P.pv,P.nv,v',P.ntv,P.vps++[p],P.nbs⟩ (vs++[V]):=by
 have hM1:Mod lo (fun t ρ=>t=223/\ρ=(k+1,0,9)) w own w' (ext own w.heap.size (k+1,0,9)):=⟨fun b hb=>zf4 _ _ _ b hb,_,hs,fun b hb=>by
  have hb':P.vv.ownBlock=some b:=by simpa using hb
  obtain⟨c,hc⟩:=zd8 h.views hb'
  exact⟨zej h.views hb',zdk h.views hb',c,_,hc,rfl,h.vrole b hb'⟩⟩
 have no:∀ t,t≠223->∀ ρ,¬ (t=223/\ρ=(k+1,0,9)):=fun t ht ρ q=>ht q.1
 have hbox:=h.box.mod hM1 (no _ (by decide) _)
 have hrbox:=h.rbox.mod hM1 (no _ (by decide) _)
 have hs2:zao [t5] w' (w'.setCell ⟨t5,6,none⟩ v'):=zao.set _ _ _ _
 have hT:=OfT.box hbox
 have hvw:∀ i V p,zf0 lo w own k i V p->zf0 lo (w'.setCell ⟨t5,6,none⟩ v') (ext own w.heap.size (k+1,0,9)) k i V p:=fun i V p q=>(q.mod hM1 (fun j t ht q=>by obtain⟨rfl,_⟩:=q;exact ht (by decide)) (no _ (by decide))).saveT hs2 hT (by decide) (by decide)
 refine⟨h.low,h.low0,?_,hrbox.saveT hs2 hT (by decide),(h.rule.mod hM1 (no _ (by decide)) (no _ (by decide))).saveT hs2 hT (by decide) (by decide),?_,by simp[h.vlen],fun i a b=>?_,fun b hb=>?_,zak (zd7 h.nots hM1 (no _ (by decide))) hs2 hT (by decide),(h.mod.trans (hM1.more fun _ _ q=>Or.inl (Or.inr q))).newer hs2 fun b hb=>by simp at hb;rw[hb];exact h.low⟩
 ·have q:=hbox.set 6 v'
  simpa [zb2] using q
 ·rw[zzc wd vs P.vps h.vlen,List.length_append]
  exact zak ho hs2 hT (by decide)
 ·simp only[List.length_append,List.length_cons,List.length_nil] at a b
  by_cases hi:i < vs.length
  ·have hi2:i < P.vps.length:=by rw[h.vlen];exact hi
   rw[List.getElem_append_left hi,List.getElem_append_left hi2]
   exact hvw i _ _ (h.view i hi hi2)
  ·obtain rfl:i=vs.length:=by omega
   have e1:(vs++[V])[vs.length]=V:=by simp
   have e2:(P.vps++[p])[vs.length]=p:=by simp[← h.vlen]
   rw[e1,e2]
   exact hvw _ _ _ hv
 ·rcases ha with ha|⟨g,hg,hl⟩
  ·rw[ha] at hb
   rw[zf4 _ _ _ b (zdk h.views hb)]
   exact h.vrole b hb
  ·rw[hg] at hb
   simp at hb
   subst hb
   simp[ext,Nat.not_lt.2 hl]
theorem zmw.pushN{w0 w w':World}{own0 own:Nat->zay}{k wd t5 t3 tb:Nat}{r:zaf}{P:za6}{vs:List zco}{v':Value}(h:zmw lo w0 w own0 own k wd t5 t3 r P vs)(hnew:∀ b,P.ntv.ownBlock=some b->w0.heap.size<=b)(ho:w'.ownsRow lo 113 1 v' (P.nbs.length+1) (pts P.nbs++[.pointer (some ⟨tb,0,none⟩)]))(hs:zao P.ntv.ownBlock.toList w w') :
  zmw lo w0 (w'.setCell ⟨t5,7,none⟩ v') own0 own k wd t5 t3 r ⟨P.tv,P.pv,P.nv,P.vv,v',P.vps,P.nbs++[tb]⟩ vs:=by
 have hT1:=OfT.own h.nots
 have hbox:=h.box.saveT hs hT1 (by decide)
 have hs2:zao [t5] w' (w'.setCell ⟨t5,7,none⟩ v'):=zao.set _ _ _ _
 have hT:=OfT.box hbox
 refine⟨h.low,h.low0,?_,(h.rbox.saveT hs hT1 (by decide)).saveT hs2 hT (by decide),(h.rule.saveT hs hT1 (by decide) (by decide)).saveT hs2 hT (by decide) (by decide),zak (zak h.views hs hT1 (by decide)) hs2 hT (by decide),h.vlen,fun i a b=>((h.view i a b).saveT hs hT1 (by decide) (by decide)).saveT hs2 hT (by decide) (by decide),h.vrole,?_,(h.mod.newer hs fun b hb=>hnew b (by simpa using hb)).newer hs2 fun b hb=>by simp at hb;rw[hb];exact h.low⟩
 ·have q:=hbox.set 7 v'
  simpa [zb2] using q
 ·have e:pts (P.nbs++[tb])=pts P.nbs++[.pointer (some ⟨tb,0,none⟩)]:=by simp[pts,pt]
  rw[e,List.length_append]
  exact zak ho hs2 hT (by decide)
theorem zt1{f wd:Nat}{R:zbt}:∀ {ls:List zai} {vs:List zco},zk7 f wd R ls=some vs->vs.length=ls.length/\∀ i (h1:i < ls.length) (h2:i < vs.length),∃ rows,rowsG f (zf8 wd R ls[i].pred)=some rows/\zh6 f wd (zep wd ls[i]) rows=some vs[i]
 |[],vs,h=>by
  simp[zk7] at h
  subst h
  exact⟨rfl,fun i h=>by simp at h⟩
 |l::ls,vs,h=>by
  unfold zk7 at h
  split at h
  ·cases h
  ·rename_i rows hrows
   split at h
   ·rename_i v vs2 hv hvs
    simp at h
    subst h
    obtain⟨q1,q2⟩:=zt1 hvs
    refine⟨by simp[q1],fun i h1 h2=>?_⟩
    match i,h1,h2 with
    |0,_,_=>exact⟨rows,hrows,hv⟩
    |i+1,h1,h2 =>
     simp only[List.getElem_cons_succ]
     exact q2 i (by simpa using h1) (by simpa using h2)
   ·cases h
end Go.Proofs.YteampbddflhngabGreat
