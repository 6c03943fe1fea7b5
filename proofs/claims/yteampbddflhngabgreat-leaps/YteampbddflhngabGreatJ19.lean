import Derived.Test.YteampbddflhngabGreatJ18

namespace Go.Proofs.YteampbddflhngabGreat
set_option maxRecDepth 100000
set_option maxHeartbeats 4000000
open Go.RowKit
variable {lo:Nat}
theorem RowsIn.below'{b0:Nat}{w w':World}{v:Value}{rs:List zaq}(h:RowsIn b0 w v rs)(hb:Below w.heap.size w w'):RowsIn b0 w' v rs:=⟨zaa h.1 hb,h.2⟩
structure VC (c:Array Value) (o wd pred:Nat) (tv:Value) (bb fb ab:Nat):Prop where
 c0:c[o]?=some (.int .i64 (pred:Nat))
 c1:c[o+1]?=some tv
 c2:c[o+2]?=some (.int .i64 (wd:Nat))
 c3:c[o+3]?=some (.pointer (some ⟨bb,0,none⟩))
 c4:c[o+4]?=some (.pointer (some ⟨fb,0,none⟩))
 c5:c[o+5]?=some (.pointer (some ⟨ab,0,none⟩))
theorem VC.set{c:Array Value}{o wd pred:Nat}{tv:Value}{bb fb ab:Nat}(h:VC c o wd pred tv bb fb ab)(fb':Nat):VC (c.setIfInBounds (o+4) (.pointer (some ⟨fb',0,none⟩))) o wd pred tv bb fb' ab:=by
 obtain⟨h0,h1,h2,h3,h4,h5⟩:=h
 have hlt:o+4 < c.size:=(Array.getElem?_eq_some_iff.1 h4).1
 refine⟨?_,?_,?_,?_,?_,?_⟩
 ·rw[Array.getElem?_setIfInBounds_ne (by omega)];exact h0
 ·rw[Array.getElem?_setIfInBounds_ne (by omega)];exact h1
 ·rw[Array.getElem?_setIfInBounds_ne (by omega)];exact h2
 ·rw[Array.getElem?_setIfInBounds_ne (by omega)];exact h3
 ·simp[hlt]
 ·rw[Array.getElem?_setIfInBounds_ne (by omega)];exact h5
theorem VC.cells{w:World}{g:Nat}{T:TypeId}{c:Array Value}{o wd pred:Nat}{tv:Value}{bb fb ab:Nat}(h:VC c o wd pred tv bb fb ab)(hb:Box w g c T):g < w.heap.size/\(∀ q,w.frozen? ⟨g,q,none⟩=false)/\w.cell? ⟨g,o,none⟩=some (.int .i64 (pred:Nat))/\w.cell? ⟨g,o+1,none⟩=some tv/\w.cell? ⟨g,o+2,none⟩=some (.int .i64 (wd:Nat))/\w.cell? ⟨g,o+3,none⟩=some (.pointer (some ⟨bb,0,none⟩))/\w.cell? ⟨g,o+4,none⟩=some (.pointer (some ⟨fb,0,none⟩))/\w.cell? ⟨g,o+5,none⟩=some (.pointer (some ⟨ab,0,none⟩)):=by
 obtain⟨hc,hf⟩:=hb.rules
 exact⟨hb.lt,hf,(hc _).trans h.c0,(hc _).trans h.c1,(hc _).trans h.c2,(hc _).trans h.c3,(hc _).trans h.c4,(hc _).trans h.c5⟩
def zf6(k i:Nat)(ρg:zay):TypeId->zay->Prop:=fun t ρ=>(¬ NoT t/\∃ j,ρ=(k+1,i,j))∨(t=223/\ρ=ρg)
theorem Mod.one{w w':World}{own own':Nat->zay}{k i j:Nat}{ρg:zay}(h:Mod lo (onT (·=(k+1,i,j))) w own w' own'):Mod lo (zf6 k i ρg) w own w' own':=h.more fun _ _ q=>Or.inl ⟨q.1,j,q.2⟩
theorem zow:∀(l:List zaq) (T R:zad) (m:Nat),zdq l T=some R->∃ Tm,zdq (l.take m) T=some Tm/\∀ h:m < l.length,okT Tm=true/\zdq (l.take (m+1)) T=some (zfh Tm l[m] 0).1
 |[],T,R,m,h=>⟨T,by simp[zdq],fun h=>by simp at h⟩
 |x::l,T,R,0,h=>by
  rw[zdq] at h
  by_cases hk:okT T=true
  ·exact⟨T,rfl,fun _=>⟨hk,by simp[zdq,hk]⟩⟩
  ·rw[if_neg hk] at h;cases h
 |x::l,T,R,m+1,h=>by
  rw[zdq] at h
  by_cases hk:okT T=true
  ·rw[if_pos hk] at h
   obtain⟨Tm,h1,h2⟩:=zow l _ R m h
   refine⟨Tm,by rw[List.take_succ_cons,zdq,if_pos hk];exact h1,fun h3=>?_⟩
   obtain⟨q1,q2⟩:=h2 (by simpa using h3)
   exact⟨q1,by rw[List.take_succ_cons,zdq,if_pos hk];simpa using q2⟩
  ·rw[if_neg hk] at h;cases h
theorem zlc:∀(l:List zaq) (T R:zad) (x:zaq),zdq (l++[x]) T=some R->∃ Tm,zdq l T=some Tm/\okT Tm=true/\R=(zfh Tm x 0).1
 |[],T,R,x,h=>by
  simp only[List.nil_append,zdq] at h
  by_cases hk:okT T=true
  ·rw[if_pos hk] at h;exact⟨T,rfl,hk,by simpa using h.symm⟩
  ·rw[if_neg hk] at h;cases h
 |y::l,T,R,x,h=>by
  rw[List.cons_append,zdq] at h
  by_cases hk:okT T=true
  ·rw[if_pos hk] at h
   obtain⟨Tm,h1,h2,h3⟩:=zlc l _ R x h
   exact⟨Tm,by rw[zdq,if_pos hk];exact h1,h2,h3⟩
  ·rw[if_neg hk] at h;cases h
theorem zlb:∀(l l2:List zaq) (T R:zad),zdq (l++l2) T=some R->∃ Tm,zdq l T=some Tm
 |[],_,T,_,_=>⟨T,rfl⟩
 |y::l,l2,T,R,h=>by
  rw[List.cons_append,zdq] at h
  by_cases hk:okT T=true
  ·rw[if_pos hk] at h
   obtain⟨Tm,h1⟩:=zlb l l2 _ R h
   exact⟨Tm,by rw[zdq,if_pos hk];exact h1⟩
  ·rw[if_neg hk] at h;cases h
theorem znz{fuel wd:Nat}{V V':zco}{rows:List zaq}(h:zh6 fuel wd V rows=some V'):∃ old b f a,rowsG fuel V.fresh=some old/\zdq old V.before=some b/\zdq (rows.filterMap (zbr V.lit)) (zfp wd (za7 V.lit))=some f/\zdq (rows.filterMap (zbr V.lit)) V.all=some a/\V'={ V with before:=b,fresh:=f,all:=a }:=by
 unfold zh6 at h
 split at h
 ·cases h
 ·rename_i old ho
  split at h
  ·rename_i b f a hb hf ha
   exact⟨old,b,f,a,ho,hb,hf,ha,by simpa using h.symm⟩
  ·cases h
def z5p(W wx:World)(om:Option zaq)(s8 s9:Value):Prop:=∃ fb x y z:Nat,s8=.pointer (some ⟨fb,0,none⟩)/\s9=.bool om.isSome/\[x,y,z]=om.getD [0,0,0]/\W.heap.size<=fb/\Box wx fb #[.int .i64 (x:Nat),.int .i64 (y:Nat),.int .i64 (z:Nat)] 116/\Below W.heap.size W wx
structure zv9 (lo b0:Nat) (w wr:World) (own own2:Nat->zay) (k i g:Nat) (c:Array Value) (l:zai) (bb fb ab:Nat) (B F A:zad) (tv rv:Value) (rows:List zaq):Prop where
 before:zcs lo wr own2 (k+1,i,0) bb B
 fresh:zcs lo wr own2 (k+1,i,1) fb F
 all:zcs lo wr own2 (k+1,i,2) ab A
 terms:zan lo wr tv l.terms
 mod:Mod lo (zf6 k i (own g)) w own wr own2
 box:Box wr g c 223
 rows:RowsIn b0 wr rv rows
theorem zv9.below{b0:Nat}{w wr w':World}{own own2:Nat->zay}{k i g:Nat}{c:Array Value}{l:zai}{bb fb ab:Nat}{B F A:zad}{tv rv:Value}{rows:List zaq}(h:zv9 lo b0 w wr own own2 k i g c l bb fb ab B F A tv rv rows)(hb:Below wr.heap.size wr w'):zv9 lo b0 w w' own own2 k i g c l bb fb ab B F A tv rv rows :=
 ⟨h.before.below hb,h.fresh.below hb,h.all.below hb,h.terms.below hb,h.mod.trans (Mod.of own2 hb),h.box.below hb,h.rows.below' hb⟩
theorem zv9.addF{b0:Nat}{w wr W w':World}{own own2 own3:Nat->zay}{k i g:Nat}{c:Array Value}{l:zai}{bb fb ab:Nat}{B F A F':zad}{tv rv:Value}{rows:List zaq}(h:zv9 lo b0 w wr own own2 k i g c l bb fb ab B F A tv rv rows)(hb:Below wr.heap.size wr W)(hT:zcs lo w' own3 (k+1,i,1) fb F')(hm:Mod lo (onT (·=(k+1,i,1))) W own2 w' own3):zv9 lo b0 w w' own own3 k i g c l bb fb ab B F' A tv rv rows:=by
 have h2:=h.below hb
 exact⟨h2.before.onT hm (by simp),hT,h2.all.onT hm (by simp),h2.terms.mod hm (zdt (by decide)),h2.mod.trans hm.one,h2.box.mod hm (zdt (by decide) _),h2.rows.mod hm (zdt (by decide))⟩
theorem zv9.addA{b0:Nat}{w wr W w':World}{own own2 own3:Nat->zay}{k i g:Nat}{c:Array Value}{l:zai}{bb fb ab:Nat}{B F A A':zad}{tv rv:Value}{rows:List zaq}(h:zv9 lo b0 w wr own own2 k i g c l bb fb ab B F A tv rv rows)(hb:Below wr.heap.size wr W)(hT:zcs lo w' own3 (k+1,i,2) ab A')(hm:Mod lo (onT (·=(k+1,i,2))) W own2 w' own3):zv9 lo b0 w w' own own3 k i g c l bb fb ab B F A' tv rv rows:=by
 have h2:=h.below hb
 exact⟨h2.before.onT hm (by simp),h2.fresh.onT hm (by simp),hT,h2.terms.mod hm (zdt (by decide)),h2.mod.trans hm.one,h2.box.mod hm (zdt (by decide) _),h2.rows.mod hm (zdt (by decide))⟩
theorem z4s{w:World}{b:Nat}{T:TypeId}(h:Box w b #[.int .i64 0,.int .i64 0,.int .i64 0] T)(x y z:Nat):Box (((w.setCell ⟨b,0,none⟩ (.int .i64 (x:Nat))).setCell ⟨b,1,none⟩ (.int .i64 (y:Nat))).setCell ⟨b,2,none⟩ (.int .i64 (z:Nat))) b #[.int .i64 (x:Nat),.int .i64 (y:Nat),.int .i64 (z:Nat)] T:=by
 have q:=((h.set 0 (.int .i64 (x:Nat))).set 1 (.int .i64 (y:Nat))).set 2 (.int .i64 (z:Nat))
 simpa using q
def zzl(lo:Nat)(w:World)(own:Nat->zay)(k i g o:Nat)(c:Array Value)(V':zco)(P:zfz)(ρg:zay)(e:Ending)(w':World):Prop:=e=.returned (.tuple #[])/\∃ fb' own',zf0 lo w' own' k i V' ⟨P.tv,P.bb,fb',P.ab⟩/\Box w' g (c.setIfInBounds (o+4) (.pointer (some ⟨fb',0,none⟩))) 223/\Mod lo (zf6 k i ρg) w own w' own'
theorem zn1{b0:Nat}(w:World)(own:Nat->zay)(k i g o wd fuel:Nat)(c:Array Value)(V V':zco)(P:zfz)(rv:Value)(rows:List zaq)(hbx:Box w g c 223)(hvc:VC c o wd V.lit.pred P.tv P.bb P.fb P.ab)(hv:zf0 lo w own k i V P)(hr:RowsIn b0 w rv rows)(hlg:lo<=g)(hlo:lo<=w.heap.size)(hwd:wd<=1000)(hrl:rows.length<=1048577)(hV:zh6 fuel wd V rows=some V') :
  Calls Tryz.prog 136 #[.pointer (some ⟨g,o,none⟩),rv] w fun e w'=>zzl lo w own k i g o c V' P (own g) e w':=by
 obtain⟨old,bN,fN,aN,hold,hbN,hfN,haN,hVe⟩:=znz hV
 obtain⟨aor,capr,rfl⟩:=zab hr.1
 have HV:Hid (zf0 lo w own k i V P):=hv
 have HR:Hid (RowsIn b0 w (.slice aor rows.length capr) rows):=hr
 have HRW:Hid (∀ W,Below w.heap.size w W->Calls Tryz.prog 51 #[.pointer (some ⟨P.fb,0,none⟩)] W fun e w'=>∃ v,e=.returned v/\RowsIn W.heap.size w' v old/\Below W.heap.size W w'):=fun W hW=>z2i W own (k+1,i,1) P.fb V.fresh fuel old (hv.fresh.below hW) hold
 have HVC:Hid (VC c o wd V.lit.pred P.tv P.bb P.fb P.ab):=hvc
 have HBN:Hid (zdq old V.before=some bN):=hbN
 have HFN:Hid (zdq (rows.filterMap (zbr V.lit)) (zfp wd (za7 V.lit))=some fN):=hfN
 have HAN:Hid (zdq (rows.filterMap (zbr V.lit)) V.all=some aN):=haN
 have HVE:Hid (V'={ V with before:=bN,fresh:=fN,all:=aN }):=hVe
 have hol:old.length<=1048576:=by
  unfold rowsG at hold
  split at hold
  ·cases hold
  ·split at hold
   ·simp at hold;subst hold;assumption
   ·cases hold
 obtain⟨hgl,hgf,hg0,hg1,hg2,hg3,hg4,hg5⟩:=hvc.cells hbx
 clear hV hr hold hbN hfN haN hVe hvc
 go_enter Tryz.func136,Tryz.ntmps136
 go_upto_region 1 with (first|(go_at_call 51;refine(HRW.out _ (by exact(by go_grown))).mono ?_;rintro e w1 ⟨ov,rfl,hro,hb1⟩;obtain⟨aoo,capo,rfl⟩:=zab hro.1))
 clear hg0 hg1 hg2 hg3 hg4 hg5 hgf HRW hv
 have HM0:Hid (Mod lo (onT (·=(k+1,i,0))) w own w1 own):=Mod.of own hb1
 have HT0:Hid (zcs lo w1 own (k+1,i,0) P.bb V.before):=HV.out.before.below hb1
 have HG0:Hid (Box w1 g c 223):=hbx.below hb1
 have HRO0:Hid (RowsIn w.heap.size w1 (.slice aoo old.length capo) old):=hro
 have hz1:=hb1.size
 clear hro hb1
 go_loopw [16] (fun v16 wr=>∃(m:Nat) (T:zad) (own1:Nat->zay),m<=old.length/\v16=.int .i64 m/\w.heap.size<=wr.heap.size/\Hid (zdq (old.take m) V.before=some T)/\Hid (zcs lo wr own1 (k+1,i,0) P.bb T)/\Hid (Mod lo (onT (·=(k+1,i,0))) w own wr own1)/\Hid (Box wr g c 223)/\Hid (RowsIn w.heap.size wr (.slice aoo old.length capo) old)) (fun i _=>old.length - (intOf i).toNat)
 case atStart=>exact⟨0,V.before,own,Nat.zero_le _,rfl,hz1,rfl,HT0,HM0,HG0,HRO0⟩
 case round =>
  clear HM0 HT0 HG0 HRO0
  obtain⟨m,T,own1,hm,rfl,hszk,HA,HT,HM,HG,HRO⟩:=hrel
  by_cases hlt:m < old.length
  ·obtain⟨go,cap',x,y,z,hgo,hgol,hxyz,hx0,hx1,hx2⟩:=HRO.out.cell m hlt
   simp only[Value.slice.injEq] at hgo
   have hgo1:=hgo.1
   clear hgo
   subst hgo1
   obtain⟨Tm,hq1,hq2⟩:=zow old V.before bN m HBN.out
   rw[HA.out] at hq1
   obtain rfl:T=Tm:=by simpa using hq1
   obtain⟨hok,hq3⟩:=hq2 hlt
   rw[hxyz] at hq3
   have HOK:Hid (okT T=true):=hok
   have HA2:Hid (zdq (old.take (m+1)) V.before=some (zfh T [x,y,z] 0).1):=hq3
   clear hq1 hq2 hq3 hok hxyz
   obtain⟨hgl,hgf,hg0,hg1,hg2,hg3,hg4,hg5⟩:=HVC.out.cells HG.out
   have hrb:=Box.new wr #[.int .i64 (x:Nat),.int .i64 (y:Nat),.int .i64 (z:Nat)] 116
   have HADD:Hid (∀ W,Below wr.heap.size wr W->Calls Tryz.prog 104 #[.pointer (some ⟨P.bb,0,none⟩),.agg #[.int .i64 x,.int .i64 y,.int .i64 z],.int .i64 0] W fun e w'=>e=.returned (.bool (zfh T [x,y,z] 0).2)/\zcs lo w' (ext own1 W.heap.size (k+1,i,0)) (k+1,i,0) P.bb (zfh T [x,y,z] 0).1/\Mod lo (onT (·=(k+1,i,0))) W own1 w' (ext own1 W.heap.size (k+1,i,0))):=fun W hW=>z4z W own1 (k+1,i,0) P.bb T x y z 0 (HT.out.below hW) HOK.out
   clear hg0 hg1 hg2 hg4 hg5
   go_wp2
   go_region_held3 (fun w'=>w'.cell? ⟨g,o+3,none⟩=some (.pointer (some ⟨P.bb,0,none⟩))/\w'.cell? ⟨wr.heap.size,0,none⟩=some (.int .i64 (x:Nat))/\w'.cell? ⟨wr.heap.size,1,none⟩=some (.int .i64 (y:Nat))/\w'.cell? ⟨wr.heap.size,2,none⟩=some (.int .i64 (z:Nat))) (first|go_keep|(go_simp;done)) (first|(go_at_call 104;refine(HADD.out _ (by exact(by go_grown))).mono ?_;rintro e w4 ⟨rfl,hT4,hM4⟩;have hG4:=(HG.out.below (show Below wr.heap.size wr _ from(by go_grown))).mod hM4 (zdt (by decide) _);have hr4:=(hrb.drew).mod hM4 (zdt (by decide) _);obtain⟨hr4c,hr4f⟩:=hr4.rules;obtain⟨_,_,_,_,_,hg43,_,_⟩:=HVC.out.cells hG4))
   have hMt:=HM.out.trans ((Mod.of own1 (show Below wr.heap.size wr _ from(by go_grown))).trans hM4)
   have hR4:=(HRO.out.below' (show Below wr.heap.size wr _ from(by go_grown))).mod hM4 (zdt (by decide))
   have hz4:w.heap.size<=w4.heap.size:=hMt.size
   generalize (zfh T [x,y,z] 0).2=bb2 at *
   clear hr4 hr4c hr4f hg43 hrb hM4 hx0 hx1 hx2 HADD
   go_wp2
   go_roundw
   case rel=>exact⟨m+1,_,_,by omega,by go_num,hz4,HA2,hT4,hMt,hG4,hR4⟩
   case measure=>simp[intOf];omega
  ·have hme:old.take m=old:=List.take_of_length_le (by omega)
   rw[hme,HBN.out] at HA
   obtain rfl:bN=T:=by have:=HA.out;simpa using this
   clear HA hme hm HRO HBN
   obtain⟨aot,capt,htv⟩:=HV.out.terms.shape
   have HTV:Hid (P.tv=.slice aot V.lit.terms.length capt):=htv
   obtain⟨hgl,hgf,hg0,hg1,hg2,hg3,hg4,hg5⟩:=HVC.out.cells HG.out
   rw[htv] at hg1
   have HTE:Hid (zan lo wr (.slice aot V.lit.terms.length capt) V.lit.terms):=by have q:=HV.out.terms.mod HM.out (zdt (by decide));rw[htv] at q;exact q
   have HAL:Hid (zcs lo wr own1 (k+1,i,2) P.ab V.all):=HV.out.all.onT HM.out (by simp)
   have HRR:Hid (RowsIn b0 wr (.slice aor rows.length capr) rows):=HR.out.mod HM.out (zdt (by decide))
   have hdl:=zr3 V.lit
   have HD:Hid (∀ W,Below wr.heap.size wr W->Calls Tryz.prog 141 #[.agg #[.int .i64 (V.lit.pred:Nat),.slice aot V.lit.terms.length capt]] W fun e w'=>e=.returned (.int .i64 (za7 V.lit:Nat))/\Below W.heap.size W w'):=fun W hW=>zr4 W _ V.lit.pred V.lit.terms (HTE.out.below hW)
   have HN:Hid (∀ W,Calls Tryz.prog 74 #[.int .i64 wd,.int .i64 (za7 V.lit:Nat)] W fun e w'=>∃ tb fp,e=.returned (.pointer (some ⟨tb,0,none⟩))/\zar W.heap.size w' tb (zfp wd (za7 V.lit)) fp/\Below W.heap.size W w'):=fun W=>zq9 W wd (za7 V.lit) hwd (by omega)
   clear htv hg3 hg5 hdl
   generalize hdlv:za7 V.lit=dl at *
   clear hdlv
   go_wp2
   go_region_held3 (fun w'=>w'.cell? ⟨g,o,none⟩=some (.int .i64 (V.lit.pred:Nat))/\w'.cell? ⟨g,o+1,none⟩=some (.slice aot V.lit.terms.length capt)/\w'.cell? ⟨g,o+2,none⟩=some (.int .i64 (wd:Nat))) (first|go_keep|(go_simp;done)) (first|(go_at_call 141;refine(HD.out _ (by exact(by go_grown))).mono ?_;rintro e w2 ⟨rfl,hb2⟩;have hB2:Below wr.heap.size wr w2:=(zae (by go_grown) hb2 (Nat.le_refl _));have hG2:=HG.out.below hB2;obtain⟨_,_,hg20,hg21,hg22,_,_,_⟩:=HVC.out.cells hG2;rw[HTV.out] at hg21)|(go_at_call 74;refine(HN.out _).mono ?_;rintro e w3 ⟨tf,fpf,rfl,htf,hb3⟩;have hG3:=hG2.below hb3;obtain⟨hg3l,hg3f,hg30,hg31,hg32,_,hg34,_⟩:=HVC.out.cells hG3;rw[HTV.out] at hg31))
   have hl2:lo<=w2.heap.size:=by have:=hB2.size;have:=HM.out.size;omega
   have hgo:own1 g=own g:=HM.out.old g hbx.lt
   have hN2:zv9 lo b0 w (w3.setCell ⟨g,o+4,none⟩ (.pointer (some ⟨tf,0,none⟩))) own (ext own1 w2.heap.size (k+1,i,1)) k i g (c.setIfInBounds (o+4) (.pointer (some ⟨tf,0,none⟩))) V.lit P.bb tf P.ab bN (zfp wd dl) V.all (.slice aot V.lit.terms.length capt) (.slice aor rows.length capr) rows:=by
    have hs4:zao [g] w3 (w3.setCell ⟨g,o+4,none⟩ (.pointer (some ⟨tf,0,none⟩))):=zao.set _ _ _ _
    have hMg:=OfT.box hG3
    have hB3:Below wr.heap.size wr w3:=zae hB2 hb3 (Nat.le_refl _)
    have hm3:Mod lo (fun _ _=>False) w2 own1 w3 (ext own1 w2.heap.size (k+1,i,1)):=Mod.extNew own1 (k+1,i,1) hb3
    have hgg:ext own1 w2.heap.size (k+1,i,1) g=own g:=by rw[zf4 _ _ _ _ (by have:=HM.out.size;have:=hB2.size;have:=hbx.lt;omega)];exact hgo
    refine⟨?_,?_,?_,?_,?_,?_,?_⟩
    ·exact((HT.out.below hB2).mod hm3 (fun _ _=>id)).saveT hs4 hMg (by decide)
    ·exact(zar.new own1 (k+1,i,1) htf hl2).saveT hs4 hMg (by decide)
    ·exact((HAL.out.below hB2).mod hm3 (fun _ _=>id)).saveT hs4 hMg (by decide)
    ·exact((HTE.out.below hB3)).saveT hs4 hMg (by decide)
    ·exact((HM.out.one (ρg:=own g)).trans ((Mod.of own1 hB2).trans (Mod.extNew own1 (k+1,i,1) hb3))).trans (Mod.set _ hG3 hlg (Or.inr ⟨rfl,hgg⟩) _ _)
    ·exact hG3.set _ _
    ·exact⟨zak (zaa HRR.out.1 hB3) hs4 hMg (by decide),HRR.out.2⟩
   have HVC2:Hid (VC (c.setIfInBounds (o+4) (.pointer (some ⟨tf,0,none⟩))) o wd V.lit.pred P.tv P.bb tf P.ab):=HVC.out.set tf
   generalize hc2:c.setIfInBounds (o+4) (.pointer (some ⟨tf,0,none⟩))=c2 at *
   have HC2:Hid (c.setIfInBounds (o+4) (.pointer (some ⟨tf,0,none⟩))=c2):=hc2
   clear hc2
   have HN2:Hid (zv9 lo b0 w (w3.setCell ⟨g,o+4,none⟩ (.pointer (some ⟨tf,0,none⟩))) own (ext own1 w2.heap.size (k+1,i,1)) k i g c2 V.lit P.bb tf P.ab bN (zfp wd dl) V.all (.slice aot V.lit.terms.length capt) (.slice aor rows.length capr) rows):=hN2
   clear hN2
   generalize ext own1 w2.heap.size (k+1,i,1)=own2 at *
   generalize w3.setCell ⟨g,o+4,none⟩ (.pointer (some ⟨tf,0,none⟩))=w5 at *
   clear hg30 hg31 hg32 hg34 hg3l hg3f hb3 htf hG3 hG2 hB2 hg20 hg21 hg22 HT HAL HTE HRR HM HG HD HN hgo hl2 hgl hgf hg0 hg1 hg2 hg4
   have hz5:w.heap.size<=w5.heap.size:=HN2.out.mod.size
   go_wp2
   go_loopw [42] (fun v42 wr=>∃(m:Nat) (F A:zad) (own2:Nat->zay),m<=rows.length/\v42=.int .i64 m/\w.heap.size<=wr.heap.size/\Hid (zdq ((rows.take m).filterMap (zbr V.lit)) (zfp wd dl)=some F)/\Hid (zdq ((rows.take m).filterMap (zbr V.lit)) V.all=some A)/\Hid (zv9 lo b0 w wr own own2 k i g c2 V.lit P.bb tf P.ab bN F A (.slice aot V.lit.terms.length capt) (.slice aor rows.length capr) rows)) (fun i _=>rows.length - (intOf i).toNat)
   case atStart=>exact⟨0,_,_,own2,Nat.zero_le _,rfl,hz5,rfl,rfl,HN2⟩
   case round =>
    clear HN2 hz5
    obtain⟨m,F,A,own2,hm,rfl,hszk,HF,HA,HR2⟩:=hrel
    by_cases hlt:m < rows.length
    ·obtain⟨go,cap',x,y,z,hgo,hgol,hxyz,hx0,hx1,hx2⟩:=HR2.out.rows.cell m hlt
     simp only[Value.slice.injEq] at hgo
     have hgo1:=hgo.1
     clear hgo
     subst hgo1
     have HFS:Hid ((rows.take (m+1)).filterMap (zbr V.lit)=(rows.take m).filterMap (zbr V.lit)++(zbr V.lit [x,y,z]).toList):=by
      rw[Hid,List.take_succ_eq_append_getElem hlt,List.filterMap_append,hxyz]
      cases hq:zbr V.lit [x,y,z] <;> simp[hq]
     have HFA:Hid (rows.filterMap (zbr V.lit)=(rows.take (m+1)).filterMap (zbr V.lit)++(rows.drop (m+1)).filterMap (zbr V.lit)):=by rw[Hid,← List.filterMap_append,List.take_append_drop]
     obtain⟨F1,hF1⟩:=zlb _ _ _ _ (by have q:=HFN.out;rw[HFA.out] at q;exact q)
     obtain⟨A1,hA1⟩:=zlb _ _ _ _ (by have q:=HAN.out;rw[HFA.out] at q;exact q)
     have HF1:Hid (zdq ((rows.take (m+1)).filterMap (zbr V.lit)) (zfp wd dl)=some F1):=hF1
     have HA1:Hid (zdq ((rows.take (m+1)).filterMap (zbr V.lit)) V.all=some A1):=hA1
     clear hF1 hA1 HFA hxyz
     have HMT:Hid (∀ W,Below wr.heap.size wr W->Calls Tryz.prog 142 #[.agg #[.int .i64 (V.lit.pred:Nat),.slice aot V.lit.terms.length capt],.agg #[.int .i64 (x:Nat),.int .i64 (y:Nat),.int .i64 (z:Nat)]] W fun r w'=>(∃ x' y' z':Nat,r=.returned (.tuple #[.agg #[.int .i64 (x':Nat),.int .i64 (y':Nat),.int .i64 (z':Nat)],.bool (zbr V.lit [x,y,z]).isSome])/\[x',y',z']=(zbr V.lit [x,y,z]).getD [0,0,0])/\Below W.heap.size W w'):=fun W hW=>z1b W _ V.lit.pred V.lit.terms x y z (HR2.out.terms.below hW)
     generalize zbr V.lit [x,y,z]=om at *
     obtain⟨hgl,hgf,hg0,hg1,hg2,hg3,hg4,hg5⟩:=HVC2.out.cells HR2.out.box
     rw[HTV.out] at hg1
     have hrb:=Box.new wr #[.int .i64 (x:Nat),.int .i64 (y:Nat),.int .i64 (z:Nat)] 116
     clear hg2 hg3 hg4 hg5
     go_wp2
     go_cut [8,9] from 46 to 54 (fun s8 s9 wx=>z5p wr wx om s8 s9)
     case first =>
      go_region_held3 (fun w'=>w'.cell? ⟨g,o,none⟩=some (.int .i64 (V.lit.pred:Nat))/\w'.cell? ⟨g,o+1,none⟩=some (.slice aot V.lit.terms.length capt)/\w'.cell? ⟨wr.heap.size,0,none⟩=some (.int .i64 (x:Nat))/\w'.cell? ⟨wr.heap.size,1,none⟩=some (.int .i64 (y:Nat))/\w'.cell? ⟨wr.heap.size,2,none⟩=some (.int .i64 (z:Nat))) (first|(exact⟨(Below.cell (p:=⟨g,o,none⟩) (show Below (wr.heap.size+1) w2 _ from(by go_grown)) (show g < wr.heap.size+1 by omega)).trans hg20,(Below.cell (p:=⟨g,o+1,none⟩) (show Below (wr.heap.size+1) w2 _ from(by go_grown)) (show g < wr.heap.size+1 by omega)).trans hg21,(Below.cell (p:=⟨wr.heap.size,0,none⟩) (show Below (wr.heap.size+1) w2 _ from(by go_grown)) (show wr.heap.size < wr.heap.size+1 by omega)).trans hrb20,(Below.cell (p:=⟨wr.heap.size,1,none⟩) (show Below (wr.heap.size+1) w2 _ from(by go_grown)) (show wr.heap.size < wr.heap.size+1 by omega)).trans hrb21,(Below.cell (p:=⟨wr.heap.size,2,none⟩) (show Below (wr.heap.size+1) w2 _ from(by go_grown)) (show wr.heap.size < wr.heap.size+1 by omega)).trans hrb22⟩)|go_keep|(go_simp;done)) (first|(go_at_call 142;refine(HMT.out _ (by exact(by go_grown))).mono ?_;rintro e w2 ⟨⟨x',y',z',rfl,hx'⟩,hb2⟩;have hB2:Below wr.heap.size wr w2:=(zae (by go_grown) hb2 (Nat.le_refl _));have hG2:=HR2.out.box.below hB2;obtain⟨_,_,hg20,hg21,_,_,_,_⟩:=HVC2.out.cells hG2;rw[HTV.out] at hg21;have HX':Hid ([x',y',z']=om.getD [0,0,0]):=hx';clear hx';have hrb2:=hrb.below (show Below (wr.alloc (.cells #[.int .i64 (x:Nat),.int .i64 (y:Nat),.int .i64 (z:Nat)] 116)).heap.size (wr.alloc (.cells #[.int .i64 (x:Nat),.int .i64 (y:Nat),.int .i64 (z:Nat)] 116)) w2 from zae (by go_grown) hb2 (Nat.le_refl _));have hrb2l:wr.heap.size+1<=w2.heap.size:=hrb2.lt;obtain⟨hrb2c,hrb2f⟩:=hrb2.rules;have hrb20:=hrb2c 0;have hrb21:=hrb2c 1;have hrb22:=hrb2c 2;clear hrb2c;simp only[List.getElem?_toArray,List.getElem?_cons_zero,List.getElem?_cons_succ] at hrb20 hrb21 hrb22;(first|((with_reducible refine Box.carry (Box.drew (Box.newAt (wr.alloc (.cells #[.int .i64 (x:Nat),.int .i64 (y:Nat),.int .i64 (z:Nat)] 116)) (wr.heap.size+1) #[.int .i64 0,.int .i64 0,.int .i64 0] 116 (World.size_alloc _ _).symm)) hb2 ?_);intro hfz;obtain⟨hfzc,hfzf⟩:=hfz.rules;have hfzl:=hfz.lt)|skip)))
      all_goals
       go_wp2_with fail
       go_meet
       case rel=>first|exact⟨w2.heap.size,x',y',z',rfl,rfl,HX'.out,by omega,Box.new _ _ _,zae hB2 (by go_grown) (Nat.le_refl _)⟩|exact⟨wr.heap.size+1,x',y',z',rfl,rfl,HX'.out,by omega,z4s hfz x' y' z',((hB2.setCell (by simp) _).setCell (by simp) _).setCell (by simp) _⟩
     case rest =>
      clear hg0 hg1 hgf hrb hx0 hx1 hx2 HMT
      obtain⟨fb,x',y',z',rfl,rfl,hx',hfb,hbf,hbw⟩:=hcut
      have HN3:Hid (zv9 lo b0 w wc own own2 k i g c2 V.lit P.bb tf P.ab bN F A (.slice aot V.lit.terms.length capt) (.slice (some ⟨go,0,none⟩) rows.length capr) rows):=HR2.out.below hbw
      have hzc:w.heap.size<=wc.heap.size:=by have:=hbw.size;omega
      have HBF:Hid (Box wc fb #[.int .i64 (x':Nat),.int .i64 (y':Nat),.int .i64 (z':Nat)] 116):=hbf
      clear HR2 hbw hbf
      cases om with
      |none =>
       clear hx'
       simp only[Option.toList_none,List.append_nil] at HFS
       simp only[Option.isSome_none]
       go_wp2
       go_roundw
       case rel=>exact⟨m+1,F,A,own2,by omega,by go_num,hzc,by rw[Hid,HFS.out];exact HF.out,by rw[Hid,HFS.out];exact HA.out,HN3⟩
       case measure=>simp[intOf];omega
      |some f =>
       simp only[Option.getD_some] at hx'
       subst hx'
       simp only[Option.toList_some] at HFS
       simp only[Option.isSome_some]
       obtain⟨Fm,hf1,hf2,hf3⟩:=zlc _ _ _ _ (by have q:=HF1.out;rw[HFS.out] at q;exact q)
       obtain⟨Am,ha1,ha2,ha3⟩:=zlc _ _ _ _ (by have q:=HA1.out;rw[HFS.out] at q;exact q)
       rw[HF.out] at hf1
       rw[HA.out] at ha1
       obtain rfl:F=Fm:=by simpa using hf1
       obtain rfl:A=Am:=by simpa using ha1
       have HF3:Hid (F1=(zfh F [x',y',z'] 0).1):=hf3
       have HA3:Hid (A1=(zfh A [x',y',z'] 0).1):=ha3
       have HOF:Hid (okT F=true):=hf2
       have HOA:Hid (okT A=true):=ha2
       clear hf1 ha1 hf3 ha3 hf2 ha2
       obtain⟨hgl,hgf,hg0,hg1,hg2,hg3,hg4,hg5⟩:=HVC2.out.cells HN3.out.box
       obtain⟨hfc,hff⟩:=HBF.out.rules
       have hf0:=hfc 0
       have hf1:=hfc 1
       have hf2:=hfc 2
       simp only[List.getElem?_toArray,List.getElem?_cons_zero,List.getElem?_cons_succ] at hf0 hf1 hf2
       have hfl:=HBF.out.lt
       clear hfc hff hg0 hg1 hg2 hg3
       have HADD:Hid (∀ W,Below wc.heap.size wc W->Calls Tryz.prog 104 #[.pointer (some ⟨tf,0,none⟩),.agg #[.int .i64 x',.int .i64 y',.int .i64 z'],.int .i64 0] W fun e w'=>e=.returned (.bool (zfh F [x',y',z'] 0).2)/\zcs lo w' (ext own2 W.heap.size (k+1,i,1)) (k+1,i,1) tf (zfh F [x',y',z'] 0).1/\Mod lo (onT (·=(k+1,i,1))) W own2 w' (ext own2 W.heap.size (k+1,i,1))):=fun W hW=>z4z W own2 (k+1,i,1) tf F x' y' z' 0 (HN3.out.fresh.below hW) HOF.out
       go_wp2
       go_region_held3 (fun w'=>w'.cell? ⟨g,o+4,none⟩=some (.pointer (some ⟨tf,0,none⟩))/\w'.cell? ⟨fb,0,none⟩=some (.int .i64 (x':Nat))/\w'.cell? ⟨fb,1,none⟩=some (.int .i64 (y':Nat))/\w'.cell? ⟨fb,2,none⟩=some (.int .i64 (z':Nat))) (first|go_keep|(go_simp;done)) (first|(go_at_call 104;refine(HADD.out _ (by exact(by go_grown))).mono ?_;rintro e w4 ⟨rfl,hT4,hM4⟩;have hBc:Below wc.heap.size wc _:=(show Below wc.heap.size wc wc.drew from(by go_grown));have hN4:=HN3.out.addF hBc hT4 hM4;have hF4:=(HBF.out.below hBc).mod hM4 (zdt (by decide) _);obtain⟨hf4c,hf4f⟩:=hF4.rules;have hf40:=hf4c 0;have hf41:=hf4c 1;have hf42:=hf4c 2;clear hf4c;simp only[List.getElem?_toArray,List.getElem?_cons_zero,List.getElem?_cons_succ] at hf40 hf41 hf42;obtain⟨_,_,_,_,_,_,hg44,hg45⟩:=HVC2.out.cells hN4.box))
       have hM5:=hN4.mod.size
       have hgl4:=hN4.box.lt
       have hfl4:=hF4.lt
       have HN4:Hid (zv9 lo b0 w w4 own (ext own2 wc.drew.heap.size (k+1,i,1)) k i g c2 V.lit P.bb tf P.ab bN (zfh F [x',y',z'] 0).1 A (.slice aot V.lit.terms.length capt) (.slice (some ⟨go,0,none⟩) rows.length capr) rows):=hN4
       have HF4:Hid (Box w4 fb #[.int .i64 (x':Nat),.int .i64 (y':Nat),.int .i64 (z':Nat)] 116):=hF4
       rw[← HF3.out] at HN4
       generalize (zfh F [x',y',z'] 0).2=bF at *
       generalize ext own2 wc.drew.heap.size (k+1,i,1)=own4 at *
       clear hN4 hF4 hT4 hM4 HN3 HBF hg4 hg5 hf0 hf1 hf2 hgl hgf hfl hBc HADD HF3 hf4f hzc hfb
       have HADD:Hid (∀ W,Below w4.heap.size w4 W->Calls Tryz.prog 104 #[.pointer (some ⟨P.ab,0,none⟩),.agg #[.int .i64 x',.int .i64 y',.int .i64 z'],.int .i64 0] W fun e w'=>e=.returned (.bool (zfh A [x',y',z'] 0).2)/\zcs lo w' (ext own4 W.heap.size (k+1,i,2)) (k+1,i,2) P.ab (zfh A [x',y',z'] 0).1/\Mod lo (onT (·=(k+1,i,2))) W own4 w' (ext own4 W.heap.size (k+1,i,2))):=fun W hW=>z4z W own4 (k+1,i,2) P.ab A x' y' z' 0 (HN4.out.all.below hW) HOA.out
       go_wp2
       go_region_held3 (fun w'=>w'.cell? ⟨g,o+5,none⟩=some (.pointer (some ⟨P.ab,0,none⟩))/\w'.cell? ⟨fb,0,none⟩=some (.int .i64 (x':Nat))/\w'.cell? ⟨fb,1,none⟩=some (.int .i64 (y':Nat))/\w'.cell? ⟨fb,2,none⟩=some (.int .i64 (z':Nat))) (first|go_keep|(go_simp;done)) (first|(go_at_call 104;refine(HADD.out _ (by exact(by go_grown))).mono ?_;rintro e w6 ⟨rfl,hT6,hM6⟩;have hBc:Below w4.heap.size w4 _:=(show Below w4.heap.size w4 w4.drew from(by go_grown));have hN6:=HN4.out.addA hBc hT6 hM6;have hF6:=(HF4.out.below hBc).mod hM6 (zdt (by decide) _);obtain⟨hf6c,hf6f⟩:=hF6.rules;have hf60:=hf6c 0;have hf61:=hf6c 1;have hf62:=hf6c 2;clear hf6c;simp only[List.getElem?_toArray,List.getElem?_cons_zero,List.getElem?_cons_succ] at hf60 hf61 hf62;obtain⟨_,_,_,_,_,_,hg64,hg65⟩:=HVC2.out.cells hN6.box))
       rw[← HA3.out] at hN6
       have hM7:=hN6.mod.size
       generalize (zfh A [x',y',z'] 0).2=bA at *
       clear hT6 hM6 HADD HA3 hF6 hf60 hf61 hf62 hg64 hg65 hf6f
       go_wp2
       go_roundw
       case rel=>exact⟨m+1,F1,A1,_,by omega,by go_num,hM7,HF1,HA1,hN6⟩
       case measure=>simp[intOf];omega
    ·have hme:rows.take m=rows:=List.take_of_length_le (by omega)
     rw[hme,HFN.out] at HF
     rw[hme,HAN.out] at HA
     obtain rfl:fN=F:=by have:=HF.out;simpa using this
     obtain rfl:aN=A:=by have:=HA.out;simpa using this
     clear HF HA hme
     go_wp2
     (try simp only[Exit.inBlock,Exit.then])
     have h2:=HR2.out
     refine bodyPost_ret (results_none rfl _ _ _) rfl ⟨rfl,tf,own2,?_,?_,h2.mod⟩
     ·rw[HVE.out]
      exact⟨by show zan lo wr P.tv V.lit.terms;rw[HTV.out];exact h2.terms,h2.before,h2.fresh,h2.all⟩
     ·rw[HC2.out]
      exact h2.box
end Go.Proofs.YteampbddflhngabGreat
