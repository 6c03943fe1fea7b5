import Derived.Test.YteampbddflhngaaGreatW25
import Derived.Test.YteampbddflhngaaGreatW29

namespace Go.Proofs.YteampbddflhngaaGreat
set_option maxRecDepth 100000
set_option maxHeartbeats 4000000
open Go.RowKit
variable {lo:Nat}
variable {Ws:List zbk}{Ps:List zba}
theorem Tryz.infoWork:(Tryz.prog.info? 292).map (fun i=>(i.zero,i.size,i.bytes))=some (some (.agg #[.int .i64 0,.int .i64 0,.int .i64 0,.slice none 0 0,.slice none 0 0,.slice none 0 0,.slice none 0 0,.slice none 0 0]),8,144):=by kernel_rfl
theorem zen{t:TypeId}(h:NoT t)(h2:t∉[214,161,165,310,323,301]):∀ ρ,¬ zb1 t ρ:=fun ρ q=>by
 rcases q with q|q
 ·exact q.1 h
 ·exact h2 q
theorem zcv.mod{b0:Nat}{ok:TypeId->zay->Prop}{w w':World}{own own':Nat->zay}{v:Value}{rs:List zah}{ps:List (Value × Value × Value)}(h:zcv b0 w v rs ps)(m:Mod lo ok w own w' own')(h1:∀ ρ,¬ ok 284 ρ)(h2:∀ ρ,¬ ok 204 ρ)(h3:∀ ρ,¬ ok 207 ρ):zcv b0 w' v rs ps:=⟨zee h.own m h3,h.len,fun k a b=>(h.rule k a b).mod m h1 h2,h.few⟩
theorem zck.make{w w':World}{own own':Nat->zay}{wd:Nat}{wv:Value}(h:zck lo w own wd wv Ws Ps)(m:Mod lo (zie Ws.length) w own w' own'):zck lo w' own' wd wv Ws Ps :=
 ⟨zee h.arr m (zgz (by decide) (by decide)),h.plen,fun k a b=>(h.work k a b).mod m (zgz (by decide) (by decide)) (zgz (by decide) (by decide)) (zkh (by omega) (by omega)) (zgz (by decide) (by decide)) (fun i j t ht q=>by
  rcases q with q|⟨rfl,_⟩
  ·exact zfw (by omega) q
  ·exact ht (by decide)),h.few⟩
theorem z0v(Ws:List zbk)(Ps:List zba)(h:Ps.length=Ws.length)(W:zbk)(P:zba):zmk (Ws++[W]) (Ps++[P])=zmk Ws Ps++zb7 W.rule P:=by
 simp[zmk,List.zipWith_append h.symm]
theorem zck.push{w w':World}{own:Nat->zay}{wd:Nat}{wv v':Value}{W:zbk}{P:zba}(h:zck lo w own wd wv Ws Ps)(hw:zd6 lo w own Ws.length wd W P)(hl:Ws.length+1<=1000)(ho:w'.ownsRow lo 292 8 v' (Ws.length+1) (zmk Ws Ps++zb7 W.rule P))(hs:zas wv.ownBlock.toList w w'):zck lo w' own wd v' (Ws++[W]) (Ps++[P])/\Mod lo (ze3 [292]) w own w' own:=by
 have hM:Mod lo (ze3 [292]) w own w' own:=Mod.ofSave own hs fun b hb=>by
  have hb':wv.ownBlock=some b:=by simpa using hb
  obtain⟨c,hc⟩:=zef h.arr hb'
  exact⟨zeg h.arr hb',zdq h.arr hb',c,_,hc,ua3.2 rfl⟩
 have no:∀ t,t∉[292]->∀ ρ,¬ ze3 [292] t ρ:=fun t ht ρ q=>ht q
 have hk:∀ k W P,zd6 lo w own k wd W P->zd6 lo w' own k wd W P:=fun k W P q=>q.mod hM (no _ (by decide)) (no _ (by decide)) (no _ (by decide) _) (no _ (by decide)) (fun _ _ t ht q=>by rw[ua3.1 q] at ht;exact ht (by decide))
 refine⟨⟨?_,by simp[h.plen],fun k a b=>?_,by simpa using hl⟩,hM⟩
 ·rw[z0v Ws Ps h.plen,uar]
  exact ho
 ·simp only[uar,ua7,uch] at a b
  by_cases hi:k < Ws.length
  ·have hi2:k < Ps.length:=by rw[h.plen];exact hi
   rw[uan hi,uan hi2]
   exact hk _ _ _ (h.work k hi hi2)
  ·obtain rfl:k=Ws.length:=by omega
   have e1:(Ws++[W])[Ws.length]=W:=by simp
   have e2:(Ps++[P])[Ws.length]=P:=by simp[← h.plen]
   rw[e1,e2]
   exact hk _ _ _ hw
theorem zjo.push{tbs:List Nat}{n:Nat}(h:zjo tbs n Ws Ps)(hl:Ps.length=Ws.length){W:zbk}{P:zba}(hp:zho tbs n W.rule P.nbs):zjo tbs n (Ws++[W]) (Ps++[P]):=by
 intro k a b
 simp only[uar,ua7,uch] at a b
 by_cases hi:k < Ws.length
 ·have hi2:k < Ps.length:=by rw[hl];exact hi
  rw[uan hi,uan hi2]
  exact h k hi hi2
 ·obtain rfl:k=Ws.length:=by omega
  have e1:(Ws++[W])[Ws.length]=W:=by simp
  have e2:(Ps++[P])[Ws.length]=P:=by simp[← hl]
  rw[e1,e2]
  exact hp
def zlv(n:Nat)(rs:List zah):Prop:=∀ r∈rs,(∀ l∈r.qc,l.pred < n)/\∀ l∈r.qm,l.pred < n/\l.pred≠r.head.pred
def zsk(lo:Nat)(w:World)(own:Nat->zay)(rb:Nat)(R:zbg)(ws:List zbk)(wd mr mx:Nat)(Q:zcu)(e:Ending)(w':World):Prop:=∃ wv own' Ps,e=.returned wv/\zck lo w' own' wd wv ws Ps/\zjo Q.tbs R.rows.length ws Ps/\zdc lo w' own' rb R wd mr mx Q/\Mod lo zb1 w own w' own'
theorem z4s(w:World)(own:Nat->zay)(rb s:Nat)(R:zbg)(rv:Value)(rs:List zah)(ps:List (Value × Value × Value))(ws:List zbk)(wd mr mx:Nat)(Q:zcu)(fuel:Nat)(h:zdc lo w own rb R wd mr mx Q)(hr:zcv lo w rv rs ps)(hlo:lo<=w.heap.size)(hok:zlv R.rows.length rs)(hv:worksR fuel wd R s rs=some ws) :
  Calls Tryz.prog 164 #[.pointer (some ⟨rb,0,none⟩),rv,.int .i64 s] w fun e w'=>zsk lo w own rb R ws wd mr mx Q e w':=by
 obtain⟨i0,hi,hz0,hzs,hzb⟩:=info_parts Tryz.infoWork
 have HH:Hid (zdc lo w own rb R wd mr mx Q):=h
 have HRU:Hid (zcv lo w rv rs ps):=hr
 have HLO:Hid (lo<=w.heap.size):=hlo
 have HOK:Hid (zlv R.rows.length rs):=hok
 have HWS:Hid (worksR fuel wd R s (rs.drop 0)=some ws):=hv
 have hrf:=hr.few
 obtain⟨aor,capr,hrv⟩:=zac hr.own
 subst hrv
 clear h hr hlo hok hv
 go_enter Tryz.func164,Tryz.ntmps164
 go_upto_region 3 with fail
 go_loopw [7,13] (fun v7 v13 wr=>∃ m:Nat,m<=rs.length/\v13=.int .i64 m/\∃ dn rest ownk Ps,Hid (zck lo wr ownk wd v7 dn Ps)/\Hid (zjo Q.tbs R.rows.length dn Ps)/\Hid (zdc lo wr ownk rb R wd mr mx Q)/\Hid (Mod lo zb1 w own wr ownk)/\Hid (worksR fuel wd R s (rs.drop m)=some rest)/\Hid (dn++rest=ws)/\Hid (dn.length<=m)/\Hid (∀ b,v7.ownBlock=some b->w.heap.size<=b)) (fun _ i _=>rs.length - (intOf i).toNat)
 case atStart=>exact⟨0,uaj _,rfl,[],ws,own,[],⟨World.ownsRow_nil _ _ _ _,rfl,fun k a=>by simp at a,by simp⟩,(fun k a=>by simp at a),HH,Mod.refl _ _,HWS,rfl,uaa _,fun b hb=>by cases hb⟩
 case round =>
  clear HWS
  obtain⟨m,hm,rfl,dn,rest,ownk,Ps,HWO,HNL,HRO,HMO,HRE,HDR,HDL,HNW⟩:=hrel
  have hszk:=HMO.out.size
  have hlok:lo<=wr.heap.size:=uap HLO.out hszk
  obtain⟨aow,capw,hwv⟩:=zac HWO.out.arr
  subst hwv
  by_cases hlt:m < rs.length
  ·have HRK:Hid (zcv lo wr (.slice aor rs.length capr) rs ps):=HRU.out.mod HMO.out (zen (by decide) (by decide)) (zen (by decide) (by decide)) (zen (by decide) (by decide))
   have hm2:m < ps.length:=by rw[HRK.out.len];exact hlt
   obtain⟨g,hao,hg,q0,q1,q2,q3,q4,q5⟩:=HRK.out.cell m hlt hm2
   subst hao
   have hru:=HRK.out.rule m hlt hm2
   obtain⟨aot,capt,htv⟩:=hru.head.shape
   obtain⟨aop,capp,hpv⟩:=hru.qc.shape
   obtain⟨aon,capn,hnv⟩:=hru.qm.shape
   rw[htv] at q3
   rw[hpv] at q4
   rw[hnv] at q5
   rw[htv,hpv,hnv] at hru
   have hre:=HRE.out
   rw[uah hlt] at hre
   unfold worksR at hre
   have hmkk:(m:Int) < (rs.length:Int):=by omega
   have hok:=HOK.out _ (uad hlt)
   clear htv hpv hnv
   generalize rs[m]=r at *
   by_cases hst:r.qi=s
   ·rw[if_pos hst] at hre
    subst hst
    obtain⟨vs,ws2,hvs,hws2,hrest⟩:∃ vs ws2,zls fuel wd R r.qc=some vs/\worksR fuel wd R r.qi (rs.drop (m+1))=some ws2/\rest=⟨r,vs⟩::ws2:=by
     split at hre
     ·rename_i vs ws2 h1 h2
      exact⟨vs,ws2,h1,h2,by simpa using hre.symm⟩
     ·cases hre
    have HR2:Hid (worksR fuel wd R r.qi (rs.drop (m+1))=some ws2):=hws2
    have HD2:Hid ((dn++[⟨r,vs⟩])++ws2=ws):=show(dn++[⟨r,vs⟩])++ws2=ws by rw[← HDR.out,hrest];simp
    have HWK:Hid (∀ W0,Below wr.heap.size wr W0->Calls Tryz.prog 192 #[.pointer (some ⟨rb,0,none⟩),.agg #[.int .i64 (r.qi:Nat),.int .i64 (r.vars:Nat),.int .i64 (r.head.pred:Nat),.slice aot r.head.qf.length capt,.slice aop r.qc.length capp,.slice aon r.qm.length capn]] W0 fun e w'=>∃ a1 c1 a2 c2 a3 c3 a4 c4 a5 c5 vps nbs own5,e=.returned (.agg #[.int .i64 (r.qi:Nat),.int .i64 (r.vars:Nat),.int .i64 (r.head.pred:Nat),.slice a1 r.head.qf.length c1,.slice a2 r.qc.length c2,.slice a3 r.qm.length c3,.slice a4 vs.length c4,.slice a5 r.qm.length c5])/\Hid (zd6 lo w' own5 dn.length wd ⟨r,vs⟩ ⟨.slice a1 r.head.qf.length c1,.slice a2 r.qc.length c2,.slice a3 r.qm.length c3,.slice a4 vs.length c4,.slice a5 r.qm.length c5,vps,nbs⟩/\zho Q.tbs R.rows.length r nbs/\Mod lo (zie dn.length) W0 ownk w' own5)):=fun W0 hb=>by
     refine(z7j W0 ownk rb dn.length R r _ _ _ vs wd mr mx Q fuel (HRO.out.below hb) (hru.below hb) (uap hlok hb.size) hok.1 hok.2 hvs).mono ?_
     rintro e w' ⟨⟨tv,pv,nv,vv,ntv,vps,nbs⟩,own5,rfl,hw5,hn5,hm5⟩
     obtain⟨a1,c1,e1⟩:=hw5.rule.head.shape
     obtain⟨a2,c2,e2⟩:=hw5.rule.qc.shape
     obtain⟨a3,c3,e3⟩:=hw5.rule.qm.shape
     obtain⟨a4,c4,e4⟩:=zac hw5.qj
     obtain⟨a5,c5,e5⟩:=zac hw5.qm
     dsimp only at e1 e2 e3 e4 e5
     subst e1 e2 e3 e4 e5
     exact⟨a1,c1,a2,c2,a3,c3,a4,c4,a5,c5,vps,nbs,own5,rfl,hw5,hn5,hm5⟩
    have hgr:Below wr.heap.size wr (wr.alloc (.cells #[.int .i64 (r.qi:Nat),.int .i64 (r.vars:Nat),.int .i64 (r.head.pred:Nat),.slice aot r.head.qf.length capt,.slice aop r.qc.length capp,.slice aon r.qm.length capn] 207)):=(by go_grown)
    have HGR:Hid (Below wr.heap.size wr (wr.alloc (.cells #[.int .i64 (r.qi:Nat),.int .i64 (r.vars:Nat),.int .i64 (r.head.pred:Nat),.slice aot r.head.qf.length capt,.slice aop r.qc.length capp,.slice aon r.qm.length capn] 207))):=hgr
    have hdl:dn.length<=999:=by have:=HDL.out;omega
    clear hre hru hgr hok hrest hws2 hvs
    go_upto_region 7 with (first|(go_at_call 192;refine(HWK.out _ HGR.out).mono ?_;rintro e w5 ⟨a1,c1,a2,c2,a3,c3,a4,c4,a5,c5,vps,nbs,own5,rfl,HX⟩))
    have hg5:Below w5.heap.size w5 (w5.alloc (.cells #[.int .i64 (r.qi:Nat),.int .i64 (r.vars:Nat),.int .i64 (r.head.pred:Nat),.slice a1 r.head.qf.length c1,.slice a2 r.qc.length c2,.slice a3 r.qm.length c3,.slice a4 vs.length c4,.slice a5 r.qm.length c5] 292)):=(by go_grown)
    have hbx:=Box.new w5 #[.int .i64 (r.qi:Nat),.int .i64 (r.vars:Nat),.int .i64 (r.head.pred:Nat),.slice a1 r.head.qf.length c1,.slice a2 r.qc.length c2,.slice a3 r.qm.length c3,.slice a4 vs.length c4,.slice a5 r.qm.length c5] 292
    have hmA:Mod lo (zie dn.length) wr ownk w5 own5:=(Mod.of ownk HGR.out).trans HX.out.2.2
    have HM5:Hid (Mod lo (zie dn.length) wr ownk (w5.alloc (.cells #[.int .i64 (r.qi:Nat),.int .i64 (r.vars:Nat),.int .i64 (r.head.pred:Nat),.slice a1 r.head.qf.length c1,.slice a2 r.qc.length c2,.slice a3 r.qm.length c3,.slice a4 vs.length c4,.slice a5 r.qm.length c5] 292)) own5):=hmA.trans (Mod.of own5 hg5)
    have HK5:Hid (zd6 lo (w5.alloc (.cells #[.int .i64 (r.qi:Nat),.int .i64 (r.vars:Nat),.int .i64 (r.head.pred:Nat),.slice a1 r.head.qf.length c1,.slice a2 r.qc.length c2,.slice a3 r.qm.length c3,.slice a4 vs.length c4,.slice a5 r.qm.length c5] 292)) own5 dn.length wd ⟨r,vs⟩ ⟨.slice a1 r.head.qf.length c1,.slice a2 r.qc.length c2,.slice a3 r.qm.length c3,.slice a4 vs.length c4,.slice a5 r.qm.length c5,vps,nbs⟩):=HX.out.1.mod (Mod.of (ok:=fun _ _=>False) own5 hg5) (fun _=>id) (fun _=>id) id (fun _=>id) (fun _ _ _ _=>id)
    clear hmA hg5
    obtain⟨hcx,hfx⟩:=hbx.rules
    have hlx:=hbx.lt
    generalize hW6:w5.alloc (.cells #[.int .i64 (r.qi:Nat),.int .i64 (r.vars:Nat),.int .i64 (r.head.pred:Nat),.slice a1 r.head.qf.length c1,.slice a2 r.qc.length c2,.slice a3 r.qm.length c3,.slice a4 vs.length c4,.slice a5 r.qm.length c5] 292)=W6 at *
    clear hW6 hbx
    have HW6:Hid (zck lo W6 own5 wd (.slice aow dn.length capw) dn Ps):=HWO.out.make HM5.out
    have hown6:=HW6.out.arr
    generalize w5.heap.size=t10 at *
    have hlo6:lo<=W6.heap.size:=uap hlok HM5.out.size
    go_wp2_with (first|(at_builtin;refine zce W6 _ [.int .i64 (r.qi:Nat),.int .i64 (r.vars:Nat),.int .i64 (r.head.pred:Nat),.slice a1 r.head.qf.length c1,.slice a2 r.qc.length c2,.slice a3 r.qm.length c3,.slice a4 vs.length c4,.slice a5 r.qm.length c5] _ rfl (.tmp 24) (.tmp 26) 265 rfl lo 292 i0 _ 8 144 Tryz.underlying265 hi hz0 hzs hzb rfl (by decide) (.slice aow dn.length capw) dn.length (zmk dn Ps) rfl hown6 (by exact(by go_grown)) _ _ rfl (by simp) rfl (by simp[Value.oneCell']) (by omega) (by omega) (by omega) ?_;intro v' w7 ho7 hS7 ha7;obtain⟨aov',capv',hv'e⟩:=zac ho7;subst hv'e;have HS7:Hid (zas _ W6 w7):=hS7;have HA7:Hid (_∨_):=ha7;have HO7:Hid (World.ownsRow w7 lo 292 8 _ _ _):=ho7;clear hS7 ha7 ho7))
    have hpu:=HW6.out.push (W:=⟨r,vs⟩) (P:=⟨.slice a1 r.head.qf.length c1,.slice a2 r.qc.length c2,.slice a3 r.qm.length c3,.slice a4 vs.length c4,.slice a5 r.qm.length c5,vps,nbs⟩) HK5.out (by omega) HO7.out HS7.out
    have hro7:zdc lo w7 own5 rb R wd mr mx Q:=(HRO.out.make HM5.out).mod hpu.2 (zfi (by decide)) (zfi (by decide)) (zfi (by decide)) (fun _=>zfi (by decide) _) (fun _ t ht q=>by rw[ua3.1 q] at ht;exact ht (by decide))
    have hmo7:Mod lo zb1 w own w7 own5:=(HMO.out.trans (HM5.out.more fun _ _ q=>zue q)).newer HS7.out fun b hb=>HNW.out b (by simpa using hb)
    have hz6:=HM5.out.size
    exact⟨⟨m+1,by omega,by go_num,dn++[(⟨r,vs⟩:zbk)],ws2,own5,Ps++[(⟨.slice a1 r.head.qf.length c1,.slice a2 r.qc.length c2,.slice a3 r.qm.length c3,.slice a4 vs.length c4,.slice a5 r.qm.length c5,vps,nbs⟩:zba)],hpu.1,HNL.out.push HW6.out.plen HX.out.2.1,hro7,hmo7,HR2,HD2,show(dn++[(⟨r,vs⟩:zbk)]).length<=m+1 by have:=HDL.out;simp;omega,fun b hb=>by
     rcases HA7.out with e|⟨g',e,hg'⟩
     ·rw[e] at hb;exact HNW.out b hb
     ·rw[e] at hb;simp at hb;omega⟩,by simp[intOf];omega⟩
   ·rw[if_neg hst] at hre
    have HR2:Hid (worksR fuel wd R s (rs.drop (m+1))=some rest):=hre
    have hsi:¬ (r.qi:Int)=(s:Int):=by omega
    have hgr:Below wr.heap.size wr (wr.alloc (.cells #[.int .i64 (r.qi:Nat),.int .i64 (r.vars:Nat),.int .i64 (r.head.pred:Nat),.slice aot r.head.qf.length capt,.slice aop r.qc.length capp,.slice aon r.qm.length capn] 207)):=(by go_grown)
    have HGR:Hid (Below wr.heap.size wr _):=hgr
    clear hre hru hgr hok
    go_wp2
    exact⟨⟨m+1,by omega,by go_num,dn,rest,ownk,Ps,HWO.out.below HGR.out,HNL,HRO.out.below HGR.out,HMO.out.trans (Mod.of ownk HGR.out),HR2,HDR,Nat.le_succ_of_le HDL.out,HNW⟩,by simp[intOf];omega⟩
  ·obtain rfl:m=rs.length:=by omega
   have hre:=HRE.out
   rw[List.drop_length] at hre
   simp only[worksR,uab] at hre
   have HE:Hid (dn=ws):=show dn=ws by rw[← HDR.out,← hre];simp
   clear hre
   go_wp2
   go_ret
   exact⟨_,ownk,Ps,rfl,by rw[← HE.out];exact HWO.out,by rw[← HE.out];exact HNL.out,HRO.out,HMO.out⟩
end Go.Proofs.YteampbddflhngaaGreat
namespace Go.Proofs.YteampbddflhngaaGreat
set_option maxRecDepth 100000
set_option maxHeartbeats 4000000
open Go.RowKit
variable {lo:Nat}
def zsj(lo:Nat)(w:World)(own:Nat->zay)(rb:Nat)(R R':zbg)(wd mr mx:Nat)(Q:zcu)(b:Bool)(e:Ending)(w':World):Prop:=e=.returned (.bool b)/\∃ own' fv' fvs',zdc lo w' own' rb R' wd mr mx ⟨Q.rv,Q.tbs,fv',fvs'⟩/\R'.rows.length=R.rows.length/\Mod lo zb1 w own w' own'
theorem zw1(w:World)(own:Nat->zay)(rb s:Nat)(R R':zbg)(rv:Value)(rs:List zah)(ps:List (Value × Value × Value))(wd mr mx:Nat)(Q:zcu)(fuel:Nat)(b:Bool)(h:zdc lo w own rb R wd mr mx Q)(hr:zcv lo w rv rs ps)(hlo:lo<=w.heap.size)(hok:zlv R.rows.length rs)(hv:zlr fuel wd mr mx rs R s=some (R',b)) :
  Calls Tryz.prog 122 #[.pointer (some ⟨rb,0,none⟩),rv,.int .i64 s] w fun e w'=>zsj lo w own rb R R' wd mr mx Q b e w':=by
 unfold zlr at hv
 cases hws:worksR fuel wd R s rs with
 |none=>rw[hws] at hv;cases hv
 |some ws =>
  rw[hws] at hv
  have HWK:Hid (Calls Tryz.prog 164 #[.pointer (some ⟨rb,0,none⟩),rv,.int .i64 s] w fun e w'=>zsk lo w own rb R ws wd mr mx Q e w'):=z4s w own rb s R rv rs ps ws wd mr mx Q fuel h hr hlo hok hws
  have HLO:Hid (lo<=w.heap.size):=hlo
  have hsm:=h.small
  obtain⟨aor,capr,hrv⟩:=zac hr.own
  subst hrv
  have HV:Hid (if decide (0 < ws.length)=true then zg2 wd mr mx fuel true ws R=some (R',b) else(R=R'/\true=b)):=by
   by_cases hz:ws.length > 0
   ·rw[Hid,if_pos (by simpa using hz)]
    simpa [hz] using hv
   ·rw[Hid,if_neg (by simpa using hz)]
    simpa [hz] using hv
  clear h hr hlo hok hws hv
  go_enter Tryz.func122,Tryz.ntmps122
  go_upto_region 4 with (first|(go_at_call 164;refine HWK.out.mono ?_;rintro e w2 ⟨wv,own2,Ps,rfl,hWO,hNL,hRO,hMO⟩;obtain⟨aow,capw,hwv⟩:=zac hWO.arr;subst hwv;have HWO:Hid (zck lo w2 own2 wd (.slice aow ws.length capw) ws Ps):=hWO;have HNL:Hid (zjo Q.tbs R.rows.length ws Ps):=hNL;have HRO:Hid (zdc lo w2 own2 rb R wd mr mx Q):=hRO;have HMO:Hid (Mod lo zb1 w own w2 own2):=hMO;clear hWO hNL hRO hMO))
  go_loopg [8,9] fuel (fun k v8 v9 wr=>∃(first more:Bool) (Rk:zbg) (ownk:Nat->zay) (fvv:Value) (fvk:List Value) (wk:List zbk) (Pk:List zba),v8=.bool first/\v9=.bool more/\Hid (zdc lo wr ownk rb Rk wd mr mx ⟨Q.rv,Q.tbs,fvv,fvk⟩)/\Hid (zck lo wr ownk wd (.slice aow ws.length capw) wk Pk)/\Hid (zjo Q.tbs R.rows.length wk Pk)/\Hid (Mod lo zb1 w own wr ownk)/\Hid (Rk.rows.length=R.rows.length)/\Hid (if more=true then zg2 wd mr mx k first wk Rk=some (R',b) else(Rk=R'/\true=b)))
  case atStart =>
   exact⟨true,decide (0 < ws.length),R,own2,Q.fv,Q.fvs,ws,Ps,rfl,rfl,HRO,HWO,HNL,HMO,rfl,HV⟩
  case round =>
   clear HWO HNL HRO HMO HV
   obtain⟨first,more,Rk,ownk,fvv,fvk,wk,Pk,rfl,rfl,HRO,HWO,HNL,HMO,HRL,HV⟩:=hrel
   cases more with
   |false =>
    have hv:Rk=R'/\true=b:=by simpa using HV.out
    have HE:Hid (Rk=R'/\true=b):=hv
    clear hv
    go_wp2
    go_ret
    exact⟨by rw[← HE.out.2];rfl,ownk,fvv,fvk,by rw[← HE.out.1];exact HRO.out,by rw[← HE.out.1];exact HRL.out,HMO.out⟩
   |true =>
    have hv:zg2 wd mr mx gk first wk Rk=some (R',b):=by simpa using HV.out
    clear HV
    cases gk with
    |zero=>simp[zg2] at hv
    |succ m =>
     unfold zg2 at hv
     obtain⟨hl,hf,h0,h1,h2,h3,h4,h5,h6,h7⟩:=HRO.out.at
     have hlok:lo<=wr.heap.size:=uap HLO.out HMO.out.size
     clear h0 h3 h4 h5 h7
     by_cases hge:Rk.qw ≥ mx
     ·rw[if_pos hge] at hv
      have HE:Hid (Rk=R'/\false=b):=show Rk=R'/\false=b by simpa using hv
      have hgi:(mx:Int)<=(Rk.qw:Int):=by omega
      clear hv
      go_upto_region 5 with fail
      go_quiet (fail)
      have hD:Below wr.heap.size wr (wr.drewN nq):=zau (Below.refl _ _) nq
      have HD:Hid (Below wr.heap.size wr (wr.drewN nq)):=hD
      clear hD
      generalize wr.drewN nq=w3 at *
      go_wp2
      go_ret
      exact⟨by rw[← HE.out.2];rfl,ownk,fvv,fvk,by rw[← HE.out.1];exact HRO.out.below HD.out,by rw[← HE.out.1];exact HRL.out,HMO.out.trans (Mod.of ownk HD.out)⟩
     ·rw[if_neg hge] at hv
      have hgi:¬ (mx:Int)<=(Rk.qw:Int):=by omega
      cases hrr:zqw m wd mr first wk Rk with
      |none=>rw[hrr] at hv;cases hv
      |some x =>
       obtain⟨R3,ws3,b3⟩:=x
       rw[hrr] at hv
       have HRD:Hid (∀ W0,Below wr.heap.size wr W0->Calls Tryz.prog 165 #[.pointer (some ⟨rb,0,none⟩),.slice aow ws.length capw,.bool first] W0 fun e w'=>zsg lo W0 ownk rb (.slice aow ws.length capw) Rk R3 ws3 wd mr mx ⟨Q.rv,Q.tbs,fvv,fvk⟩ b3 e w'):=fun W0 hb=>z3t W0 ownk rb _ Rk R3 wk ws3 Pk wd mr mx _ m first b3 (HRO.out.below hb) (HWO.out.below hb) (by rw[HRL.out];exact HNL.out) (uap hlok hb.size) (by omega) hrr
       clear hrr
       have HNX:Hid ((b3=false->R3=R'/\false=b)/\(b3=true->(if R3.count > Rk.count then zg2 wd mr mx m false ws3 R3 else some (R3,true))=some (R',b))):=⟨fun e=>by subst e;simpa using hv,fun e=>by subst e;exact hv⟩
       clear hv
       go_upto_region 5 with fail
       go_quiet (fail)
       have hD:Below wr.heap.size wr (wr.drewN nq):=zau (Below.refl _ _) nq
       have x1:=(hD.cell (p:=⟨rb,1,none⟩) hl).trans h1
       have HD:Hid (Below wr.heap.size wr (wr.drewN nq)):=hD
       have hl3:rb < (wr.drewN nq).heap.size:=ual hl hD.size
       clear hD
       generalize wr.drewN nq=w3 at *
       clear h1 h2 h6 hf hl
       cases b3 with
       |false =>
        have HE:Hid (R3=R'/\false=b):=HNX.out.1 rfl
        go_wp2_with (first|(go_at_call 165;refine(HRD.out _ HD.out).mono ?_;rintro e w4 ⟨rfl,own4,fv4,fvs4,Ps4,hr4,hw4,hn4,hl4,hm4⟩))
        go_ret
        exact⟨by rw[← HE.out.2];rfl,own4,fv4,fvs4,by rw[← HE.out.1];exact hr4,by rw[← HE.out.1];exact hl4.trans HRL.out,(HMO.out.trans (Mod.of ownk HD.out)).trans hm4⟩
       |true =>
        have HE:Hid (if decide (Rk.count < R3.count)=true then zg2 wd mr mx m false ws3 R3=some (R',b) else(R3=R'/\true=b)):=by
         have q:=HNX.out.2 rfl
         by_cases hc:R3.count > Rk.count
         ·rw[Hid,if_pos (by simpa using hc)]
          simpa [hc] using q
         ·rw[Hid,if_neg (by simpa using hc)]
          simpa [hc] using q
        clear HNX
        go_wp2_with (first|(go_at_call 165;refine(HRD.out _ HD.out).mono ?_;rintro e w4 ⟨rfl,own4,fv4,fvs4,Ps4,hr4,hw4,hn4,hl4,hm4⟩;obtain⟨hl5,_,_,y1,_⟩:=hr4.at;have HR4:Hid (zdc lo w4 own4 rb R3 wd mr mx ⟨Q.rv,Q.tbs,fv4,fvs4⟩):=hr4;clear hr4))
        go_roundg m
        case measure=>omega
        case rel=>exact⟨false,decide (Rk.count < R3.count),R3,own4,fv4,fvs4,ws3,Ps4,rfl,by simp,HR4,hw4,by rw[← HRL.out];exact hn4,(HMO.out.trans (Mod.of ownk HD.out)).trans hm4,hl4.trans HRL.out,HE⟩
end Go.Proofs.YteampbddflhngaaGreat
