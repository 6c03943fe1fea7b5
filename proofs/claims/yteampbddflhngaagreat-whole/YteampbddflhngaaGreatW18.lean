import Derived.Test.YteampbddflhngaaGreatW17

namespace Go.Proofs.YteampbddflhngaaGreat
set_option maxRecDepth 100000
set_option maxHeartbeats 4000000
open Go.RowKit
variable {lo:Nat}
variable {b0 wd bb fb ab:Nat}{w w':World}{c:Array Value}{tv:Value}{own2 own3:Nat->zay}
theorem RowsIn.below'{v:Value}{rs:List zao}(h:RowsIn b0 w v rs)(hb:Below w.heap.size w w'):RowsIn b0 w' v rs:=⟨zaa h.1 hb,h.2⟩
structure VC (c:Array Value) (o wd pred:Nat) (tv:Value) (bb fb ab:Nat):Prop where
 c0:c[o]?=some (.int .i64 (pred:Nat))
 c1:c[o+1]?=some tv
 c2:c[o+2]?=some (.int .i64 (wd:Nat))
 c3:c[o+3]?=some (.pointer (some ⟨bb,0,none⟩))
 c4:c[o+4]?=some (.pointer (some ⟨fb,0,none⟩))
 c5:c[o+5]?=some (.pointer (some ⟨ab,0,none⟩))
theorem VC.set{o pred:Nat}(h:VC c o wd pred tv bb fb ab)(fb':Nat):VC (c.setIfInBounds (o+4) (.pointer (some ⟨fb',0,none⟩))) o wd pred tv bb fb' ab:=by
 obtain⟨h0,h1,h2,h3,h4,h5⟩:=h
 have hlt:o+4 < c.size:=(uaz.1 h4).1
 refine⟨?_,?_,?_,?_,?_,?_⟩
 ·rw[ub6 (by omega)];exact h0
 ·rw[ub6 (by omega)];exact h1
 ·rw[ub6 (by omega)];exact h2
 ·rw[ub6 (by omega)];exact h3
 ·simp[hlt]
 ·rw[ub6 (by omega)];exact h5
theorem VC.cells{g:Nat}{T:TypeId}{o pred:Nat}(h:VC c o wd pred tv bb fb ab)(hb:Box w g c T):g < w.heap.size/\(∀ q,w.frozen? ⟨g,q,none⟩=false)/\w.cell? ⟨g,o,none⟩=some (.int .i64 (pred:Nat))/\w.cell? ⟨g,o+1,none⟩=some tv/\w.cell? ⟨g,o+2,none⟩=some (.int .i64 (wd:Nat))/\w.cell? ⟨g,o+3,none⟩=some (.pointer (some ⟨bb,0,none⟩))/\w.cell? ⟨g,o+4,none⟩=some (.pointer (some ⟨fb,0,none⟩))/\w.cell? ⟨g,o+5,none⟩=some (.pointer (some ⟨ab,0,none⟩)):=by
 obtain⟨hc,hf⟩:=hb.rules
 exact⟨hb.lt,hf,(hc _).trans h.c0,(hc _).trans h.c1,(hc _).trans h.c2,(hc _).trans h.c3,(hc _).trans h.c4,(hc _).trans h.c5⟩
def zgd(k i:Nat)(ρg:zay):TypeId->zay->Prop:=fun t ρ=>(¬ NoT t/\∃ j,ρ=(k+1,i,j))∨(t=301/\ρ=ρg)
theorem Mod.one{own own':Nat->zay}{k i j:Nat}{ρg:zay}(h:Mod lo (onT (·=(k+1,i,j))) w own w' own'):Mod lo (zgd k i ρg) w own w' own':=h.more fun _ _ q=>Or.inl ⟨q.1,j,q.2⟩
theorem zpu:∀(l:List zao) (T R:zad) (m:Nat),zdz l T=some R->∃ Tm,zdz (l.take m) T=some Tm/\∀ h:m < l.length,okT Tm=true/\zdz (l.take (m+1)) T=some (zfo Tm l[m] 0).1
 |[],T,R,m,h=>⟨T,by simp[zdz],fun h=>by simp at h⟩
 |x::l,T,R,0,h=>by
  rw[zdz] at h
  by_cases hk:okT T=true
  ·exact⟨T,rfl,fun _=>⟨hk,by simp[zdz,hk]⟩⟩
  ·rw[if_neg hk] at h;cases h
 |x::l,T,R,m+1,h=>by
  rw[zdz] at h
  by_cases hk:okT T=true
  ·rw[if_pos hk] at h
   obtain⟨Tm,h1,h2⟩:=zpu l _ R m h
   refine⟨Tm,by rw[ucl,zdz,if_pos hk];exact h1,fun h3=>?_⟩
   obtain⟨q1,q2⟩:=h2 (by simpa using h3)
   exact⟨q1,by rw[ucl,zdz,if_pos hk];simpa using q2⟩
  ·rw[if_neg hk] at h;cases h
theorem zly:∀(l:List zao) (T R:zad) (x:zao),zdz (l++[x]) T=some R->∃ Tm,zdz l T=some Tm/\okT Tm=true/\R=(zfo Tm x 0).1
 |[],T,R,x,h=>by
  simp only[List.nil_append,zdz] at h
  by_cases hk:okT T=true
  ·rw[if_pos hk] at h;exact⟨T,rfl,hk,by simpa using h.symm⟩
  ·rw[if_neg hk] at h;cases h
 |y::l,T,R,x,h=>by
  rw[List.cons_append,zdz] at h
  by_cases hk:okT T=true
  ·rw[if_pos hk] at h
   obtain⟨Tm,h1,h2,h3⟩:=zly l _ R x h
   exact⟨Tm,by rw[zdz,if_pos hk];exact h1,h2,h3⟩
  ·rw[if_neg hk] at h;cases h
theorem zlx:∀(l l2:List zao) (T R:zad),zdz (l++l2) T=some R->∃ Tm,zdz l T=some Tm
 |[],_,T,_,_=>⟨T,rfl⟩
 |y::l,l2,T,R,h=>by
  rw[List.cons_append,zdz] at h
  by_cases hk:okT T=true
  ·rw[if_pos hk] at h
   obtain⟨Tm,h1⟩:=zlx l l2 _ R h
   exact⟨Tm,by rw[zdz,if_pos hk];exact h1⟩
  ·rw[if_neg hk] at h;cases h
theorem zox{fuel:Nat}{V V':zcs}{rows:List zao}(h:zif fuel wd V rows=some V'):∃ old b f a,rowsG fuel V.qo=some old/\zdz old V.before=some b/\zdz (rows.filterMap (zb0 V.lit)) (zfv wd (zbb V.lit))=some f/\zdz (rows.filterMap (zb0 V.lit)) V.all=some a/\V'={ V with before:=b,qo:=f,all:=a }:=by
 unfold zif at h
 split at h
 ·cases h
 ·rename_i old ho
  split at h
  ·rename_i b f a hb hf ha
   exact⟨old,b,f,a,ho,hb,hf,ha,by simpa using h.symm⟩
  ·cases h
def z7s(W wx:World)(om:Option zao)(s8 s9:Value):Prop:=∃ fb x y z:Nat,s8=.pointer (some ⟨fb,0,none⟩)/\s9=.bool om.isSome/\[x,y,z]=om.getD [0,0,0]/\W.heap.size<=fb/\Box wx fb #[.int .i64 (x:Nat),.int .i64 (y:Nat),.int .i64 (z:Nat)] 165/\Below W.heap.size W wx
structure zxd (lo b0:Nat) (w wr:World) (own own2:Nat->zay) (k i g:Nat) (c:Array Value) (l:zak) (bb fb ab:Nat) (B F A:zad) (tv rv:Value) (rows:List zao):Prop where
 before:zcw lo wr own2 (k+1,i,0) bb B
 qo:zcw lo wr own2 (k+1,i,1) fb F
 all:zcw lo wr own2 (k+1,i,2) ab A
 qf:zaq lo wr tv l.qf
 mod:Mod lo (zgd k i (own g)) w own wr own2
 box:Box wr g c 301
 rows:RowsIn b0 wr rv rows
theorem zxd.below{b0:Nat}{w wr w':World}{own own2:Nat->zay}{k i g:Nat}{c:Array Value}{l:zak}{bb fb ab:Nat}{B F A:zad}{tv rv:Value}{rows:List zao}(h:zxd lo b0 w wr own own2 k i g c l bb fb ab B F A tv rv rows)(hb:Below wr.heap.size wr w'):zxd lo b0 w w' own own2 k i g c l bb fb ab B F A tv rv rows :=
 ⟨h.before.below hb,h.qo.below hb,h.all.below hb,h.qf.below hb,h.mod.trans (Mod.of own2 hb),h.box.below hb,h.rows.below' hb⟩
theorem zxd.addF{wr W:World}{own:Nat->zay}{k i g:Nat}{l:zak}{B F A F':zad}{rv:Value}{rows:List zao}(h:zxd lo b0 w wr own own2 k i g c l bb fb ab B F A tv rv rows)(hb:Below wr.heap.size wr W)(hT:zcw lo w' own3 (k+1,i,1) fb F')(hm:Mod lo (onT (·=(k+1,i,1))) W own2 w' own3):zxd lo b0 w w' own own3 k i g c l bb fb ab B F' A tv rv rows:=by
 have h2:=h.below hb
 exact⟨h2.before.onT hm (by simp),hT,h2.all.onT hm (by simp),h2.qf.mod hm (zd3 (by decide)),h2.mod.trans hm.one,h2.box.mod hm (zd3 (by decide) _),h2.rows.mod hm (zd3 (by decide))⟩
theorem zxd.addA{wr W:World}{own:Nat->zay}{k i g:Nat}{l:zak}{B F A A':zad}{rv:Value}{rows:List zao}(h:zxd lo b0 w wr own own2 k i g c l bb fb ab B F A tv rv rows)(hb:Below wr.heap.size wr W)(hT:zcw lo w' own3 (k+1,i,2) ab A')(hm:Mod lo (onT (·=(k+1,i,2))) W own2 w' own3):zxd lo b0 w w' own own3 k i g c l bb fb ab B F A' tv rv rows:=by
 have h2:=h.below hb
 exact⟨h2.before.onT hm (by simp),h2.qo.onT hm (by simp),hT,h2.qf.mod hm (zd3 (by decide)),h2.mod.trans hm.one,h2.box.mod hm (zd3 (by decide) _),h2.rows.mod hm (zd3 (by decide))⟩
theorem z6t{b:Nat}{T:TypeId}(h:Box w b #[.int .i64 0,.int .i64 0,.int .i64 0] T)(x y z:Nat):Box (((w.setCell ⟨b,0,none⟩ (.int .i64 (x:Nat))).setCell ⟨b,1,none⟩ (.int .i64 (y:Nat))).setCell ⟨b,2,none⟩ (.int .i64 (z:Nat))) b #[.int .i64 (x:Nat),.int .i64 (y:Nat),.int .i64 (z:Nat)] T:=by
 have q:=((h.set 0 (.int .i64 (x:Nat))).set 1 (.int .i64 (y:Nat))).set 2 (.int .i64 (z:Nat))
 simpa using q
def z00(lo:Nat)(w:World)(own:Nat->zay)(k i g o:Nat)(c:Array Value)(V':zcs)(P:zf6)(ρg:zay)(e:Ending)(w':World):Prop:=e=.returned (.tuple #[])/\∃ fb' own',zf7 lo w' own' k i V' ⟨P.tv,P.bb,fb',P.ab⟩/\Box w' g (c.setIfInBounds (o+4) (.pointer (some ⟨fb',0,none⟩))) 301/\Mod lo (zgd k i ρg) w own w' own'
theorem zoz(w:World)(own:Nat->zay)(k i g o wd fuel:Nat)(c:Array Value)(V V':zcs)(P:zf6)(rv:Value)(rows:List zao)(hbx:Box w g c 301)(hvc:VC c o wd V.lit.pred P.tv P.bb P.fb P.ab)(hv:zf7 lo w own k i V P)(hr:RowsIn b0 w rv rows)(hlg:lo<=g)(hlo:lo<=w.heap.size)(hwd:wd<=1000)(hrl:rows.length<=1048577)(hV:zif fuel wd V rows=some V') :
  Calls Tryz.prog 206 #[.pointer (some ⟨g,o,none⟩),rv] w fun e w'=>z00 lo w own k i g o c V' P (own g) e w':=by
 obtain⟨old,bN,fN,aN,hold,hbN,hfN,haN,hVe⟩:=zox hV
 obtain⟨aor,capr,rfl⟩:=zac hr.1
 have HV:Hid (zf7 lo w own k i V P):=hv
 have HR:Hid (RowsIn b0 w (.slice aor rows.length capr) rows):=hr
 have HRW:Hid (∀ W,Below w.heap.size w W->Calls Tryz.prog 78 #[.pointer (some ⟨P.fb,0,none⟩)] W fun e w'=>∃ v,e=.returned v/\RowsIn W.heap.size w' v old/\Below W.heap.size W w'):=fun W hW=>z4i W own (k+1,i,1) P.fb V.qo fuel old (hv.qo.below hW) hold
 have HVC:Hid (VC c o wd V.lit.pred P.tv P.bb P.fb P.ab):=hvc
 have HBN:Hid (zdz old V.before=some bN):=hbN
 have HFN:Hid (zdz (rows.filterMap (zb0 V.lit)) (zfv wd (zbb V.lit))=some fN):=hfN
 have HAN:Hid (zdz (rows.filterMap (zb0 V.lit)) V.all=some aN):=haN
 have HVE:Hid (V'={ V with before:=bN,qo:=fN,all:=aN }):=hVe
 have hol:old.length<=1048576:=by
  unfold rowsG at hold
  split at hold
  ·cases hold
  ·split at hold
   ·simp at hold;subst hold;assumption
   ·cases hold
 obtain⟨hgl,hgf,hg0,hg1,hg2,hg3,hg4,hg5⟩:=hvc.cells hbx
 clear hV hr hold hbN hfN haN hVe hvc
 go_enter Tryz.func206,Tryz.ntmps206
 go_upto_region 1 with (first|(go_at_call 78;refine(HRW.out _ (by exact(by go_grown))).mono ?_;rintro e w1 ⟨ov,rfl,hro,hb1⟩;obtain⟨aoo,capo,rfl⟩:=zac hro.1))
 clear hg0 hg1 hg2 hg3 hg4 hg5 hgf HRW hv
 have HM0:Hid (Mod lo (onT (·=(k+1,i,0))) w own w1 own):=Mod.of own hb1
 have HT0:Hid (zcw lo w1 own (k+1,i,0) P.bb V.before):=HV.out.before.below hb1
 have HG0:Hid (Box w1 g c 301):=hbx.below hb1
 have HRO0:Hid (RowsIn w.heap.size w1 (.slice aoo old.length capo) old):=hro
 have hz1:=hb1.size
 clear hro hb1
 go_loopw [16] (fun v16 wr=>∃(m:Nat) (T:zad) (own1:Nat->zay),m<=old.length/\v16=.int .i64 m/\w.heap.size<=wr.heap.size/\Hid (zdz (old.take m) V.before=some T)/\Hid (zcw lo wr own1 (k+1,i,0) P.bb T)/\Hid (Mod lo (onT (·=(k+1,i,0))) w own wr own1)/\Hid (Box wr g c 301)/\Hid (RowsIn w.heap.size wr (.slice aoo old.length capo) old)) (fun i _=>old.length - (intOf i).toNat)
 case atStart=>exact⟨0,V.before,own,uaj _,rfl,hz1,rfl,HT0,HM0,HG0,HRO0⟩
 case round =>
  clear HM0 HT0 HG0 HRO0
  obtain⟨m,T,own1,hm,rfl,hszk,HA,HT,HM,HG,HRO⟩:=hrel
  by_cases hlt:m < old.length
  ·obtain⟨go,cap',x,y,z,hgo,hgol,hxyz,hx0,hx1,hx2⟩:=HRO.out.cell m hlt
   simp only[Value.slice.injEq] at hgo
   have hgo1:=hgo.1
   clear hgo
   subst hgo1
   obtain⟨Tm,hq1,hq2⟩:=zpu old V.before bN m HBN.out
   rw[HA.out] at hq1
   obtain rfl:T=Tm:=by simpa using hq1
   obtain⟨hok,hq3⟩:=hq2 hlt
   rw[hxyz] at hq3
   have HOK:Hid (okT T=true):=hok
   have HA2:Hid (zdz (old.take (m+1)) V.before=some (zfo T [x,y,z] 0).1):=hq3
   clear hq1 hq2 hq3 hok hxyz
   obtain⟨hgl,hgf,hg0,hg1,hg2,hg3,hg4,hg5⟩:=HVC.out.cells HG.out
   have hrb:=Box.new wr #[.int .i64 (x:Nat),.int .i64 (y:Nat),.int .i64 (z:Nat)] 165
   have HADD:Hid (∀ W,Below wr.heap.size wr W->Calls Tryz.prog 163 #[.pointer (some ⟨P.bb,0,none⟩),.agg #[.int .i64 x,.int .i64 y,.int .i64 z],.int .i64 0] W fun e w'=>e=.returned (.bool (zfo T [x,y,z] 0).2)/\zcw lo w' (ext own1 W.heap.size (k+1,i,0)) (k+1,i,0) P.bb (zfo T [x,y,z] 0).1/\Mod lo (onT (·=(k+1,i,0))) W own1 w' (ext own1 W.heap.size (k+1,i,0))):=fun W hW=>z7a W own1 (k+1,i,0) P.bb T x y z 0 (HT.out.below hW) HOK.out
   clear hg0 hg1 hg2 hg4 hg5
   go_wp2
   go_region_held3 (fun w'=>w'.cell? ⟨g,o+3,none⟩=some (.pointer (some ⟨P.bb,0,none⟩))/\w'.cell? ⟨wr.heap.size,0,none⟩=some (.int .i64 (x:Nat))/\w'.cell? ⟨wr.heap.size,1,none⟩=some (.int .i64 (y:Nat))/\w'.cell? ⟨wr.heap.size,2,none⟩=some (.int .i64 (z:Nat))) (first|go_keep|(go_simp;done)) (first|(go_at_call 163;refine(HADD.out _ (by exact(by go_grown))).mono ?_;rintro e w4 ⟨rfl,hT4,hM4⟩;have hG4:=(HG.out.below (show Below wr.heap.size wr _ from(by go_grown))).mod hM4 (zd3 (by decide) _);have hr4:=(hrb.drew).mod hM4 (zd3 (by decide) _);obtain⟨hr4c,hr4f⟩:=hr4.rules;obtain⟨_,_,_,_,_,hg43,_,_⟩:=HVC.out.cells hG4))
   have hMt:=HM.out.trans ((Mod.of own1 (show Below wr.heap.size wr _ from(by go_grown))).trans hM4)
   have hR4:=(HRO.out.below' (show Below wr.heap.size wr _ from(by go_grown))).mod hM4 (zd3 (by decide))
   have hz4:w.heap.size<=w4.heap.size:=hMt.size
   generalize (zfo T [x,y,z] 0).2=bb2 at *
   clear hr4 hr4c hr4f hg43 hrb hM4 hx0 hx1 hx2 HADD
   go_wp2
   go_roundw
   case rel=>exact⟨m+1,_,_,by omega,by go_num,hz4,HA2,hT4,hMt,hG4,hR4⟩
   case measure=>simp[intOf];omega
  ·have hme:old.take m=old:=uam (by omega)
   rw[hme,HBN.out] at HA
   obtain rfl:bN=T:=by have:=HA.out;simpa using this
   clear HA hme hm HRO HBN
   obtain⟨aot,capt,htv⟩:=HV.out.qf.shape
   have HTV:Hid (P.tv=.slice aot V.lit.qf.length capt):=htv
   obtain⟨hgl,hgf,hg0,hg1,hg2,hg3,hg4,hg5⟩:=HVC.out.cells HG.out
   rw[htv] at hg1
   have HTE:Hid (zaq lo wr (.slice aot V.lit.qf.length capt) V.lit.qf):=by have q:=HV.out.qf.mod HM.out (zd3 (by decide));rw[htv] at q;exact q
   have HAL:Hid (zcw lo wr own1 (k+1,i,2) P.ab V.all):=HV.out.all.onT HM.out (by simp)
   have HRR:Hid (RowsIn b0 wr (.slice aor rows.length capr) rows):=HR.out.mod HM.out (zd3 (by decide))
   have hdl:=zs5 V.lit
   have HD:Hid (∀ W,Below wr.heap.size wr W->Calls Tryz.prog 212 #[.agg #[.int .i64 (V.lit.pred:Nat),.slice aot V.lit.qf.length capt]] W fun e w'=>e=.returned (.int .i64 (zbb V.lit:Nat))/\Below W.heap.size W w'):=fun W hW=>zs6 W _ V.lit.pred V.lit.qf (HTE.out.below hW)
   have HN:Hid (∀ W,Calls Tryz.prog 119 #[.int .i64 wd,.int .i64 (zbb V.lit:Nat)] W fun e w'=>∃ tb fp,e=.returned (.pointer (some ⟨tb,0,none⟩))/\zat W.heap.size w' tb (zfv wd (zbb V.lit)) fp/\Below W.heap.size W w'):=fun W=>zr7 W wd (zbb V.lit) hwd (by omega)
   clear htv hg3 hg5 hdl
   generalize hdlv:zbb V.lit=dl at *
   clear hdlv
   go_wp2
   go_region_held3 (fun w'=>w'.cell? ⟨g,o,none⟩=some (.int .i64 (V.lit.pred:Nat))/\w'.cell? ⟨g,o+1,none⟩=some (.slice aot V.lit.qf.length capt)/\w'.cell? ⟨g,o+2,none⟩=some (.int .i64 (wd:Nat))) (first|go_keep|(go_simp;done)) (first|(go_at_call 212;refine(HD.out _ (by exact(by go_grown))).mono ?_;rintro e w2 ⟨rfl,hb2⟩;have hB2:Below wr.heap.size wr w2:=(zae (by go_grown) hb2 (uaa _));have hG2:=HG.out.below hB2;obtain⟨_,_,hg20,hg21,hg22,_,_,_⟩:=HVC.out.cells hG2;rw[HTV.out] at hg21)|(go_at_call 119;refine(HN.out _).mono ?_;rintro e w3 ⟨tf,fpf,rfl,htf,hb3⟩;have hG3:=hG2.below hb3;obtain⟨hg3l,hg3f,hg30,hg31,hg32,_,hg34,_⟩:=HVC.out.cells hG3;rw[HTV.out] at hg31))
   have hl2:lo<=w2.heap.size:=by have:=hB2.size;have:=HM.out.size;omega
   have hgo:own1 g=own g:=HM.out.old g hbx.lt
   have hN2:zxd lo b0 w (w3.setCell ⟨g,o+4,none⟩ (.pointer (some ⟨tf,0,none⟩))) own (ext own1 w2.heap.size (k+1,i,1)) k i g (c.setIfInBounds (o+4) (.pointer (some ⟨tf,0,none⟩))) V.lit P.bb tf P.ab bN (zfv wd dl) V.all (.slice aot V.lit.qf.length capt) (.slice aor rows.length capr) rows:=by
    have hs4:zas [g] w3 (w3.setCell ⟨g,o+4,none⟩ (.pointer (some ⟨tf,0,none⟩))):=zas.set _ _ _ _
    have hMg:=OfT.box hG3
    have hB3:Below wr.heap.size wr w3:=zae hB2 hb3 (uaa _)
    have hm3:Mod lo (fun _ _=>False) w2 own1 w3 (ext own1 w2.heap.size (k+1,i,1)):=Mod.extNew own1 (k+1,i,1) hb3
    have hgg:ext own1 w2.heap.size (k+1,i,1) g=own g:=by rw[zgb _ _ _ _ (by have:=HM.out.size;have:=hB2.size;have:=hbx.lt;omega)];exact hgo
    refine⟨?_,?_,?_,?_,?_,?_,?_⟩
    ·exact((HT.out.below hB2).mod hm3 (fun _ _=>id)).saveT hs4 hMg (by decide)
    ·exact(zat.new own1 (k+1,i,1) htf hl2).saveT hs4 hMg (by decide)
    ·exact((HAL.out.below hB2).mod hm3 (fun _ _=>id)).saveT hs4 hMg (by decide)
    ·exact((HTE.out.below hB3)).saveT hs4 hMg (by decide)
    ·exact((HM.out.one (ρg:=own g)).trans ((Mod.of own1 hB2).trans (Mod.extNew own1 (k+1,i,1) hb3))).trans (Mod.set _ hG3 hlg (Or.inr ⟨rfl,hgg⟩) _ _)
    ·exact hG3.set _ _
    ·exact⟨zaj (zaa HRR.out.1 hB3) hs4 hMg (by decide),HRR.out.2⟩
   have HVC2:Hid (VC (c.setIfInBounds (o+4) (.pointer (some ⟨tf,0,none⟩))) o wd V.lit.pred P.tv P.bb tf P.ab):=HVC.out.set tf
   generalize hc2:c.setIfInBounds (o+4) (.pointer (some ⟨tf,0,none⟩))=c2 at *
   have HC2:Hid (c.setIfInBounds (o+4) (.pointer (some ⟨tf,0,none⟩))=c2):=hc2
   clear hc2
   have HN2:Hid (zxd lo b0 w (w3.setCell ⟨g,o+4,none⟩ (.pointer (some ⟨tf,0,none⟩))) own (ext own1 w2.heap.size (k+1,i,1)) k i g c2 V.lit P.bb tf P.ab bN (zfv wd dl) V.all (.slice aot V.lit.qf.length capt) (.slice aor rows.length capr) rows):=hN2
   clear hN2
   generalize ext own1 w2.heap.size (k+1,i,1)=own2 at *
   generalize w3.setCell ⟨g,o+4,none⟩ (.pointer (some ⟨tf,0,none⟩))=w5 at *
   clear hg30 hg31 hg32 hg34 hg3l hg3f hb3 htf hG3 hG2 hB2 hg20 hg21 hg22 HT HAL HTE HRR HM HG HD HN hgo hl2 hgl hgf hg0 hg1 hg2 hg4
   have hz5:w.heap.size<=w5.heap.size:=HN2.out.mod.size
   go_wp2
   go_loopw [42] (fun v42 wr=>∃(m:Nat) (F A:zad) (own2:Nat->zay),m<=rows.length/\v42=.int .i64 m/\w.heap.size<=wr.heap.size/\Hid (zdz ((rows.take m).filterMap (zb0 V.lit)) (zfv wd dl)=some F)/\Hid (zdz ((rows.take m).filterMap (zb0 V.lit)) V.all=some A)/\Hid (zxd lo b0 w wr own own2 k i g c2 V.lit P.bb tf P.ab bN F A (.slice aot V.lit.qf.length capt) (.slice aor rows.length capr) rows)) (fun i _=>rows.length - (intOf i).toNat)
   case atStart=>exact⟨0,_,_,own2,uaj _,rfl,hz5,rfl,rfl,HN2⟩
   case round =>
    clear HN2 hz5
    obtain⟨m,F,A,own2,hm,rfl,hszk,HF,HA,HR2⟩:=hrel
    by_cases hlt:m < rows.length
    ·obtain⟨go,cap',x,y,z,hgo,hgol,hxyz,hx0,hx1,hx2⟩:=HR2.out.rows.cell m hlt
     simp only[Value.slice.injEq] at hgo
     have hgo1:=hgo.1
     clear hgo
     subst hgo1
     have HFS:Hid ((rows.take (m+1)).filterMap (zb0 V.lit)=(rows.take m).filterMap (zb0 V.lit)++(zb0 V.lit [x,y,z]).toList):=by
      rw[Hid,uae hlt,ude,hxyz]
      cases hq:zb0 V.lit [x,y,z] <;> simp[hq]
     have HFA:Hid (rows.filterMap (zb0 V.lit)=(rows.take (m+1)).filterMap (zb0 V.lit)++(rows.drop (m+1)).filterMap (zb0 V.lit)):=by rw[Hid,← ude,ube]
     obtain⟨F1,hF1⟩:=zlx _ _ _ _ (by have q:=HFN.out;rw[HFA.out] at q;exact q)
     obtain⟨A1,hA1⟩:=zlx _ _ _ _ (by have q:=HAN.out;rw[HFA.out] at q;exact q)
     have HF1:Hid (zdz ((rows.take (m+1)).filterMap (zb0 V.lit)) (zfv wd dl)=some F1):=hF1
     have HA1:Hid (zdz ((rows.take (m+1)).filterMap (zb0 V.lit)) V.all=some A1):=hA1
     clear hF1 hA1 HFA hxyz
     have HMT:Hid (∀ W,Below wr.heap.size wr W->Calls Tryz.prog 213 #[.agg #[.int .i64 (V.lit.pred:Nat),.slice aot V.lit.qf.length capt],.agg #[.int .i64 (x:Nat),.int .i64 (y:Nat),.int .i64 (z:Nat)]] W fun r w'=>(∃ x' y' z':Nat,r=.returned (.tuple #[.agg #[.int .i64 (x':Nat),.int .i64 (y':Nat),.int .i64 (z':Nat)],.bool (zb0 V.lit [x,y,z]).isSome])/\[x',y',z']=(zb0 V.lit [x,y,z]).getD [0,0,0])/\Below W.heap.size W w'):=fun W hW=>z2y W _ V.lit.pred V.lit.qf x y z (HR2.out.qf.below hW)
     generalize zb0 V.lit [x,y,z]=om at *
     obtain⟨hgl,hgf,hg0,hg1,hg2,hg3,hg4,hg5⟩:=HVC2.out.cells HR2.out.box
     rw[HTV.out] at hg1
     have hrb:=Box.new wr #[.int .i64 (x:Nat),.int .i64 (y:Nat),.int .i64 (z:Nat)] 165
     clear hg2 hg3 hg4 hg5
     go_wp2
     go_cut [8,9] from 46 to 54 (fun s8 s9 wx=>z7s wr wx om s8 s9)
     case first =>
      go_region_held3 (fun w'=>w'.cell? ⟨g,o,none⟩=some (.int .i64 (V.lit.pred:Nat))/\w'.cell? ⟨g,o+1,none⟩=some (.slice aot V.lit.qf.length capt)/\w'.cell? ⟨wr.heap.size,0,none⟩=some (.int .i64 (x:Nat))/\w'.cell? ⟨wr.heap.size,1,none⟩=some (.int .i64 (y:Nat))/\w'.cell? ⟨wr.heap.size,2,none⟩=some (.int .i64 (z:Nat))) (first|(exact⟨(Below.cell (p:=⟨g,o,none⟩) (show Below (wr.heap.size+1) w2 _ from(by go_grown)) (show g < wr.heap.size+1 by omega)).trans hg20,(Below.cell (p:=⟨g,o+1,none⟩) (show Below (wr.heap.size+1) w2 _ from(by go_grown)) (show g < wr.heap.size+1 by omega)).trans hg21,(Below.cell (p:=⟨wr.heap.size,0,none⟩) (show Below (wr.heap.size+1) w2 _ from(by go_grown)) (show wr.heap.size < wr.heap.size+1 by omega)).trans hrb20,(Below.cell (p:=⟨wr.heap.size,1,none⟩) (show Below (wr.heap.size+1) w2 _ from(by go_grown)) (show wr.heap.size < wr.heap.size+1 by omega)).trans hrb21,(Below.cell (p:=⟨wr.heap.size,2,none⟩) (show Below (wr.heap.size+1) w2 _ from(by go_grown)) (show wr.heap.size < wr.heap.size+1 by omega)).trans hrb22⟩)|go_keep|(go_simp;done)) (first|(go_at_call 213;refine(HMT.out _ (by exact(by go_grown))).mono ?_;rintro e w2 ⟨⟨x',y',z',rfl,hx'⟩,hb2⟩;have hB2:Below wr.heap.size wr w2:=(zae (by go_grown) hb2 (uaa _));have hG2:=HR2.out.box.below hB2;obtain⟨_,_,hg20,hg21,_,_,_,_⟩:=HVC2.out.cells hG2;rw[HTV.out] at hg21;have HX':Hid ([x',y',z']=om.getD [0,0,0]):=hx';clear hx';have hrb2:=hrb.below (show Below (wr.alloc (.cells #[.int .i64 (x:Nat),.int .i64 (y:Nat),.int .i64 (z:Nat)] 165)).heap.size (wr.alloc (.cells #[.int .i64 (x:Nat),.int .i64 (y:Nat),.int .i64 (z:Nat)] 165)) w2 from zae (by go_grown) hb2 (uaa _));have hrb2l:wr.heap.size+1<=w2.heap.size:=hrb2.lt;obtain⟨hrb2c,hrb2f⟩:=hrb2.rules;have hrb20:=hrb2c 0;have hrb21:=hrb2c 1;have hrb22:=hrb2c 2;clear hrb2c;simp only[ubt,ubc,ubn] at hrb20 hrb21 hrb22;(first|((with_reducible refine Box.carry (Box.drew (Box.newAt (wr.alloc (.cells #[.int .i64 (x:Nat),.int .i64 (y:Nat),.int .i64 (z:Nat)] 165)) (wr.heap.size+1) #[.int .i64 0,.int .i64 0,.int .i64 0] 165 (World.size_alloc _ _).symm)) hb2 ?_);intro hfz;obtain⟨hfzc,hfzf⟩:=hfz.rules;have hfzl:=hfz.lt)|skip)))
      all_goals
       go_wp2_with fail
       go_meet
       case rel=>first|exact⟨w2.heap.size,x',y',z',rfl,rfl,HX'.out,by omega,Box.new _ _ _,zae hB2 (by go_grown) (uaa _)⟩|exact⟨wr.heap.size+1,x',y',z',rfl,rfl,HX'.out,by omega,z6t hfz x' y' z',((hB2.setCell (by simp) _).setCell (by simp) _).setCell (by simp) _⟩
     case rest =>
      clear hg0 hg1 hgf hrb hx0 hx1 hx2 HMT
      obtain⟨fb,x',y',z',rfl,rfl,hx',hfb,hbf,hbw⟩:=hcut
      have HN3:Hid (zxd lo b0 w wc own own2 k i g c2 V.lit P.bb tf P.ab bN F A (.slice aot V.lit.qf.length capt) (.slice (some ⟨go,0,none⟩) rows.length capr) rows):=HR2.out.below hbw
      have hzc:w.heap.size<=wc.heap.size:=by have:=hbw.size;omega
      have HBF:Hid (Box wc fb #[.int .i64 (x':Nat),.int .i64 (y':Nat),.int .i64 (z':Nat)] 165):=hbf
      clear HR2 hbw hbf
      cases om with
      |none =>
       clear hx'
       simp only[Option.toList_none,ub3] at HFS
       simp only[ua9]
       go_wp2
       go_roundw
       case rel=>exact⟨m+1,F,A,own2,by omega,by go_num,hzc,by rw[Hid,HFS.out];exact HF.out,by rw[Hid,HFS.out];exact HA.out,HN3⟩
       case measure=>simp[intOf];omega
      |some f =>
       simp only[uas] at hx'
       subst hx'
       simp only[Option.toList_some] at HFS
       simp only[ua4]
       obtain⟨Fm,hf1,hf2,hf3⟩:=zly _ _ _ _ (by have q:=HF1.out;rw[HFS.out] at q;exact q)
       obtain⟨Am,ha1,ha2,ha3⟩:=zly _ _ _ _ (by have q:=HA1.out;rw[HFS.out] at q;exact q)
       rw[HF.out] at hf1
       rw[HA.out] at ha1
       obtain rfl:F=Fm:=by simpa using hf1
       obtain rfl:A=Am:=by simpa using ha1
       have HF3:Hid (F1=(zfo F [x',y',z'] 0).1):=hf3
       have HA3:Hid (A1=(zfo A [x',y',z'] 0).1):=ha3
       have HOF:Hid (okT F=true):=hf2
       have HOA:Hid (okT A=true):=ha2
       clear hf1 ha1 hf3 ha3 hf2 ha2
       obtain⟨hgl,hgf,hg0,hg1,hg2,hg3,hg4,hg5⟩:=HVC2.out.cells HN3.out.box
       obtain⟨hfc,hff⟩:=HBF.out.rules
       have hf0:=hfc 0
       have hf1:=hfc 1
       have hf2:=hfc 2
       simp only[ubt,ubc,ubn] at hf0 hf1 hf2
       have hfl:=HBF.out.lt
       clear hfc hff hg0 hg1 hg2 hg3
       have HADD:Hid (∀ W,Below wc.heap.size wc W->Calls Tryz.prog 163 #[.pointer (some ⟨tf,0,none⟩),.agg #[.int .i64 x',.int .i64 y',.int .i64 z'],.int .i64 0] W fun e w'=>e=.returned (.bool (zfo F [x',y',z'] 0).2)/\zcw lo w' (ext own2 W.heap.size (k+1,i,1)) (k+1,i,1) tf (zfo F [x',y',z'] 0).1/\Mod lo (onT (·=(k+1,i,1))) W own2 w' (ext own2 W.heap.size (k+1,i,1))):=fun W hW=>z7a W own2 (k+1,i,1) tf F x' y' z' 0 (HN3.out.qo.below hW) HOF.out
       go_wp2
       go_region_held3 (fun w'=>w'.cell? ⟨g,o+4,none⟩=some (.pointer (some ⟨tf,0,none⟩))/\w'.cell? ⟨fb,0,none⟩=some (.int .i64 (x':Nat))/\w'.cell? ⟨fb,1,none⟩=some (.int .i64 (y':Nat))/\w'.cell? ⟨fb,2,none⟩=some (.int .i64 (z':Nat))) (first|go_keep|(go_simp;done)) (first|(go_at_call 163;refine(HADD.out _ (by exact(by go_grown))).mono ?_;rintro e w4 ⟨rfl,hT4,hM4⟩;have hBc:Below wc.heap.size wc _:=(show Below wc.heap.size wc wc.drew from(by go_grown));have hN4:=HN3.out.addF hBc hT4 hM4;have hF4:=(HBF.out.below hBc).mod hM4 (zd3 (by decide) _);obtain⟨hf4c,hf4f⟩:=hF4.rules;have hf40:=hf4c 0;have hf41:=hf4c 1;have hf42:=hf4c 2;clear hf4c;simp only[ubt,ubc,ubn] at hf40 hf41 hf42;obtain⟨_,_,_,_,_,_,hg44,hg45⟩:=HVC2.out.cells hN4.box))
       have hM5:=hN4.mod.size
       have hgl4:=hN4.box.lt
       have hfl4:=hF4.lt
       have HN4:Hid (zxd lo b0 w w4 own (ext own2 wc.drew.heap.size (k+1,i,1)) k i g c2 V.lit P.bb tf P.ab bN (zfo F [x',y',z'] 0).1 A (.slice aot V.lit.qf.length capt) (.slice (some ⟨go,0,none⟩) rows.length capr) rows):=hN4
       have HF4:Hid (Box w4 fb #[.int .i64 (x':Nat),.int .i64 (y':Nat),.int .i64 (z':Nat)] 165):=hF4
       rw[← HF3.out] at HN4
       generalize (zfo F [x',y',z'] 0).2=bF at *
       generalize ext own2 wc.drew.heap.size (k+1,i,1)=own4 at *
       clear hN4 hF4 hT4 hM4 HN3 HBF hg4 hg5 hf0 hf1 hf2 hgl hgf hfl hBc HADD HF3 hf4f hzc hfb
       have HADD:Hid (∀ W,Below w4.heap.size w4 W->Calls Tryz.prog 163 #[.pointer (some ⟨P.ab,0,none⟩),.agg #[.int .i64 x',.int .i64 y',.int .i64 z'],.int .i64 0] W fun e w'=>e=.returned (.bool (zfo A [x',y',z'] 0).2)/\zcw lo w' (ext own4 W.heap.size (k+1,i,2)) (k+1,i,2) P.ab (zfo A [x',y',z'] 0).1/\Mod lo (onT (·=(k+1,i,2))) W own4 w' (ext own4 W.heap.size (k+1,i,2))):=fun W hW=>z7a W own4 (k+1,i,2) P.ab A x' y' z' 0 (HN4.out.all.below hW) HOA.out
       go_wp2
       go_region_held3 (fun w'=>w'.cell? ⟨g,o+5,none⟩=some (.pointer (some ⟨P.ab,0,none⟩))/\w'.cell? ⟨fb,0,none⟩=some (.int .i64 (x':Nat))/\w'.cell? ⟨fb,1,none⟩=some (.int .i64 (y':Nat))/\w'.cell? ⟨fb,2,none⟩=some (.int .i64 (z':Nat))) (first|go_keep|(go_simp;done)) (first|(go_at_call 163;refine(HADD.out _ (by exact(by go_grown))).mono ?_;rintro e w6 ⟨rfl,hT6,hM6⟩;have hBc:Below w4.heap.size w4 _:=(show Below w4.heap.size w4 w4.drew from(by go_grown));have hN6:=HN4.out.addA hBc hT6 hM6;have hF6:=(HF4.out.below hBc).mod hM6 (zd3 (by decide) _);obtain⟨hf6c,hf6f⟩:=hF6.rules;have hf60:=hf6c 0;have hf61:=hf6c 1;have hf62:=hf6c 2;clear hf6c;simp only[ubt,ubc,ubn] at hf60 hf61 hf62;obtain⟨_,_,_,_,_,_,hg64,hg65⟩:=HVC2.out.cells hN6.box))
       rw[← HA3.out] at hN6
       have hM7:=hN6.mod.size
       generalize (zfo A [x',y',z'] 0).2=bA at *
       clear hT6 hM6 HADD HA3 hF6 hf60 hf61 hf62 hg64 hg65 hf6f
       go_wp2
       go_roundw
       case rel=>exact⟨m+1,F1,A1,_,by omega,by go_num,hM7,HF1,HA1,hN6⟩
       case measure=>simp[intOf];omega
    ·have hme:rows.take m=rows:=uam (by omega)
     rw[hme,HFN.out] at HF
     rw[hme,HAN.out] at HA
     obtain rfl:fN=F:=by have:=HF.out;simpa using this
     obtain rfl:aN=A:=by have:=HA.out;simpa using this
     clear HF HA hme
     go_wp2
     (try simp only[Exit.inBlock,Exit.then])
     have h2:=HR2.out
     refine bodyPost_ret (results_none rfl _ _ _) rfl ⟨rfl,tf,own2,?_,?_,h2.mod⟩
     ·rw[HVE.out]
      exact⟨by show zaq lo wr P.tv V.lit.qf;rw[HTV.out];exact h2.qf,h2.before,h2.qo,h2.all⟩
     ·rw[HC2.out]
      exact h2.box
end Go.Proofs.YteampbddflhngaaGreat
namespace Go.Proofs.YteampbddflhngaaGreat
set_option maxRecDepth 100000
set_option maxHeartbeats 2000000
open Go.RowKit
variable {lo:Nat}
variable {w:World}{rb wd mr mx:Nat}{R:zbg}
structure zcu where
 rv:Value
 tbs:List Nat
 fv:Value
 fvs:List Value
def pts(tbs:List Nat):List Value:=tbs.map pt
structure zdc (lo:Nat) (w:World) (own:Nat->zay) (rb:Nat) (R:zbg) (wd mr mx:Nat) (Q:zcu):Prop where
 low:lo<=rb
 box:Box w rb #[Q.rv,.int .i64 (R.count:Nat),.int .i64 (R.qw:Nat),.int .i64 R.jf,.int .i64 (wd:Nat),.int .i64 (mr:Nat),.int .i64 (mx:Nat),Q.fv] 214
 rows:w.ownsRow lo 162 1 Q.rv R.rows.length (pts Q.tbs)
 tlen:Q.tbs.length=R.rows.length
 tries:∀ p (_:p < R.rows.length) (_:p < Q.tbs.length),zcw lo w own (0,p,0) Q.tbs[p] R.rows[p]
 qo:w.ownsRow lo 161 1 Q.fv R.qo.length Q.fvs
 flen:Q.fvs.length=R.qo.length
 jk:∀ p (_:p < R.qo.length) (_:p < Q.fvs.length),RowsIn lo w Q.fvs[p] R.qo[p]/\∀ b,Q.fvs[p].ownBlock=some b->own b=(0,p,1)
 few:R.rows.length<=1000/\R.qo.length<=1000/\R.count<=1048577/\R.qw<=1048576
 small:wd<=1000/\mr<=1048576/\mx<=1048576
theorem RowsIn.modR{b0:Nat}{ok:TypeId->zay->Prop}{w':World}{own own':Nat->zay}{v:Value}{rows:List zao}(h:RowsIn b0 w v rows)(p:Mod lo ok w own w' own')(ht:∀ b,v.ownBlock=some b->¬ ok 165 (own b)):RowsIn b0 w' v rows:=⟨zon h.1 p ht,h.2⟩
theorem zdc.mod{ok:TypeId->zay->Prop}{w w':World}{own own':Nat->zay}{rb:Nat}{R:zbg}{wd mr mx:Nat}{Q:zcu}(h:zdc lo w own rb R wd mr mx Q)(p:Mod lo ok w own w' own')(h1:∀ ρ,¬ ok 214 ρ)(h2:∀ ρ,¬ ok 162 ρ)(h3:∀ ρ,¬ ok 161 ρ)(h4:∀ q,¬ ok 165 (0,q,1))(h5:∀ q t,¬ NoT t->¬ ok t (0,q,0)):zdc lo w' own' rb R wd mr mx Q:=by
 refine⟨h.low,h.box.mod p (h1 _),zee h.rows p h2,h.tlen,fun q a b=>(h.tries q a b).mod p (h5 q),zee h.qo p h3,h.flen,fun q a b=>⟨(h.jk q a b).1.modR p fun x hx=>by rw[(h.jk q a b).2 x hx];exact h4 q,fun x hx=>?_⟩,h.few,h.small⟩
 rw[p.old x (zdq (h.jk q a b).1.1 hx)]
 exact(h.jk q a b).2 x hx
theorem zdc.below{w':World}{own:Nat->zay}{Q:zcu}(h:zdc lo w own rb R wd mr mx Q)(hb:Below w.heap.size w w'):zdc lo w' own rb R wd mr mx Q:=h.mod (Mod.of (ok:=fun _ _=>False) own hb) (fun _=>id) (fun _=>id) (fun _=>id) (fun _=>id) (fun _ _ _=>id)
theorem zdc.at{own:Nat->zay}{Q:zcu}(h:zdc lo w own rb R wd mr mx Q):rb < w.heap.size/\(∀ o,w.frozen? ⟨rb,o,none⟩=false)/\w.cell? ⟨rb,0,none⟩=some Q.rv/\w.cell? ⟨rb,1,none⟩=some (.int .i64 (R.count:Nat))/\w.cell? ⟨rb,2,none⟩=some (.int .i64 (R.qw:Nat))/\w.cell? ⟨rb,3,none⟩=some (.int .i64 R.jf)/\w.cell? ⟨rb,4,none⟩=some (.int .i64 (wd:Nat))/\w.cell? ⟨rb,5,none⟩=some (.int .i64 (mr:Nat))/\w.cell? ⟨rb,6,none⟩=some (.int .i64 (mx:Nat))/\w.cell? ⟨rb,7,none⟩=some Q.fv:=by
 obtain⟨hc,hf⟩:=h.box.rules
 exact⟨h.box.lt,hf,hc 0,hc 1,hc 2,hc 3,hc 4,hc 5,hc 6,hc 7⟩
theorem zdc.trie{own:Nat->zay}{Q:zcu}(h:zdc lo w own rb R wd mr mx Q)(p:Nat)(hp:p < R.rows.length)(hp2:p < Q.tbs.length):∃ g cap,Q.rv=.slice (some ⟨g,0,none⟩) R.rows.length cap/\g < w.heap.size/\w.cell? ⟨g,p,none⟩=some (.pointer (some ⟨Q.tbs[p],0,none⟩)):=by
 obtain⟨g,cap,hv,_,hg,hc⟩:=zal h.rows (by omega)
 exact⟨g,cap,hv,hg,hc p _ (by simp[pts,hp2,pt])⟩
theorem zdc.frow{own:Nat->zay}{Q:zcu}(h:zdc lo w own rb R wd mr mx Q)(p:Nat)(hp:p < R.qo.length)(hp2:p < Q.fvs.length):∃ g cap,Q.fv=.slice (some ⟨g,0,none⟩) R.qo.length cap/\g < w.heap.size/\w.cell? ⟨g,p,none⟩=some Q.fvs[p]:=by
 obtain⟨g,cap,hv,_,hg,hc⟩:=zal h.qo (by omega)
 exact⟨g,cap,hv,hg,hc p _ (by simp[hp2])⟩
theorem Tryz.infoRows:(Tryz.prog.info? 161).map (fun i=>(i.zero,i.size,i.bytes))=some (some (.slice none 0 0),1,24):=by kernel_rfl
theorem zhv(w:World)(n:Nat)(T:TypeId)(z:Value)(hn:n<=maxLen):(w.alloc (.cells (madeCells #[z] n) T)).ownsRow w.heap.size T 1 (.slice (some ⟨w.heap.size,0,none⟩) n n) n (List.replicate n z):=by
 refine⟨by simp,Or.inr ⟨w.heap.size,n,madeCells #[z] n,rfl,uaa _,?_,uaa _,hn,by rw[size_madeCells];omega,?_⟩⟩
 ·show(w.heap.push _)[w.heap.size]?=_
  simp
 ·apply uce
  intro i
  by_cases hi:i < n
  ·simp[hi,madeCells,Nat.mod_one]
  ·simp[List.getElem?_take,hi]
def znj(lo:Nat)(w:World)(own:Nat->zay)(rb:Nat)(R:zbg)(wd mr mx:Nat)(Q:zcu)(e:Ending)(w':World):Prop:=e=.returned (.tuple #[])/\∃ fv fvs,zdc lo w' own rb (zfa R) wd mr mx ⟨Q.rv,Q.tbs,fv,fvs⟩/\Mod lo (ze3 [214]) w own w' own
theorem clear_any(w:World)(own:Nat->zay)(rb:Nat)(R:zbg)(wd mr mx:Nat)(Q:zcu)(h:zdc lo w own rb R wd mr mx Q)(hlo:lo<=w.heap.size) :
  Calls Tryz.prog 120 #[.pointer (some ⟨rb,0,none⟩)] w fun e w'=>znj lo w own rb R wd mr mx Q e w':=by
 obtain⟨i0,hi,hz0,hzs,hzb⟩:=info_parts Tryz.infoRows
 obtain⟨hl,hf,h0,h1,h2,h3,h4,h5,h6,h7⟩:=h.at
 obtain⟨aor,capr,hrv⟩:=zac h.rows
 rw[hrv] at h0
 have hfew:=h.few.1
 have H:Hid (zdc lo w own rb R wd mr mx Q):=h
 have hmk:=fun W:World=>run_make (P:=Tryz.prog) (w:=W) 212 161 i0 _ Tryz.underlying212 hi hz0 .i64 .i64 (R.rows.length:Int) (R.rows.length:Int) (by omega) (Int.le_refl _) (by rw[hzb];omega) (by omega)
 rw[hzs] at hmk
 clear h hrv
 generalize hn:R.rows.length=n at *
 have HN:Hid (R.rows.length=n):=hn
 clear hn
 go_enter Tryz.func120,Tryz.ntmps120
 go_wp2
 refine bodyPost_ret (results_none rfl _ _ _) rfl ⟨rfl,.slice (some ⟨w.heap.size,0,none⟩) n n,List.replicate n (.slice none 0 0),?_,?_⟩
 ·have hs1:zas [rb] w (w.setCell ⟨rb,7,none⟩ (.slice (some ⟨w.heap.size,0,none⟩) n n)):=zas.set _ _ _ _
  have hM:=OfT.box H.out.box
  have hz1:(w.setCell ⟨rb,7,none⟩ (.slice (some ⟨w.heap.size,0,none⟩) n n)).heap.size=w.heap.size:=by simp[World.setCell]
  have hbx:=H.out.box.set 7 (.slice (some ⟨w.heap.size,0,none⟩) n n)
  have hrows:=zaj H.out.rows hs1 hM (by decide)
  have htr:=fun q a b=>(H.out.tries q a b).saveT hs1 hM (by decide)
  have hnew:=zhv (w.setCell ⟨rb,7,none⟩ (.slice (some ⟨w.heap.size,0,none⟩) n n)) n 161 (.slice none 0 0) (by unfold maxLen;omega)
  rw[hz1] at hnew
  have hgr:Below (w.setCell ⟨rb,7,none⟩ (.slice (some ⟨w.heap.size,0,none⟩) n n)).heap.size (w.setCell ⟨rb,7,none⟩ (.slice (some ⟨w.heap.size,0,none⟩) n n)) ((w.setCell ⟨rb,7,none⟩ (.slice (some ⟨w.heap.size,0,none⟩) n n)).alloc (.cells (madeCells #[.slice none 0 0] n) 161)):=(by go_grown)
  have hfl:(zfa R).qo=List.replicate n []:=by rw[zfa,HN.out]
  have hfl2:(zfa R).qo.length=n:=by rw[hfl,udd]
  refine⟨H.out.low,by simpa [zfa] using hbx.below hgr,zaa hrows hgr,H.out.tlen,fun q a b=>(htr q a b).below hgr,by rw[hfl2];exact zbf hnew hlo,by rw[hfl2];simp,fun q a b=>?_,⟨H.out.few.1,by rw[hfl2];exact hfew,H.out.few.2.2⟩,H.out.small⟩
  have hq:q < n:=by rw[hfl2] at a;exact a
  simp only[hfl,uc8]
  exact⟨⟨World.ownsRow_nil _ _ _ _,by simp⟩,fun x hx=>by cases hx⟩
 ·have hz1:(w.setCell ⟨rb,7,none⟩ (.slice (some ⟨w.heap.size,0,none⟩) n n)).heap.size=w.heap.size:=by simp[World.setCell]
  exact(Mod.set own H.out.box H.out.low (show ze3 [214] 214 (own rb) from ua3.2 rfl) 7 _).trans (Mod.of own (by go_grown))
theorem zmi(w:World)(own:Nat->zay)(rb:Nat)(R:zbg)(wd mr mx:Nat)(Q:zcu)(p:Nat)(h:zdc lo w own rb R wd mr mx Q)(hp:p < R.rows.length)(hp2:p < Q.tbs.length) :
  Calls Tryz.prog 205 #[.pointer (some ⟨rb,0,none⟩),.int .i64 p] w fun e w'=>e=.returned (.pointer (some ⟨Q.tbs[p],0,none⟩))/\w'=w:=by
 obtain⟨hl,hf,h0,h1,h2,h3,h4,h5,h6,h7⟩:=h.at
 obtain⟨g,cap,hrv,hg,hc⟩:=h.trie p hp hp2
 rw[hrv] at h0
 have hpp:(p:Int) < (R.rows.length:Int):=by omega
 have hfew:=h.few.1
 clear h hrv h1 h2 h3 h4 h5 h6 h7
 generalize Q.tbs[p]=tb at *
 go_enter Tryz.func205,Tryz.ntmps205
 go_wp2
 go_ret
 exact⟨rfl,rfl⟩
end Go.Proofs.YteampbddflhngaaGreat
