import Derived.Test.YteampbddflhngaaGreatZ20
namespace Go.Proofs.YteampbddflhngaaGreat
set_option linter.all false
set_option maxRecDepth 100000
set_option maxHeartbeats 4000000
open Go.Proofs.Tryz Go.RowKit
section
variable {lo:Nat}{b0 wd bb fb ab:Nat}{w w':World}{c:Array Value}{tv:Value}{own2 own3:Nat->zn}
theorem QM.below'{v:Value}{rs:List zm}(h:QM b0 w v rs)(a:μ w w'):QM b0 w' v rs:=⟨zB h.1 a,h.2⟩
structure VC (c:Array Value) (o wd pred:Nat) (tv:Value) (bb fb ab:Nat):Prop where
 c0:c[o]?=some (ι pred)
 c1:c[o+1]?=some tv
 c2:c[o+2]?=some (ι wd)
 c3:c[o+3]?=some ((π bb))
 c4:c[o+4]?=some ((π fb))
 c5:c[o+5]?=some ((π ab))
theorem VC.set{o a:Nat}(h:VC c o wd a tv bb fb ab)(b:Nat):VC (c.setIfInBounds (o+4) ((π b))) o wd a tv bb b ab:=by
 obtain⟨f,e,j,g,k,i⟩:=h;have d:=(kQ.1 k).1;refine⟨?_,?_,?_,?_,?_,?_⟩
 ·rw[rL (by omega)];exact f
 ·rw[rL (by omega)];exact e
 ·rw[rL (by omega)];exact j
 ·rw[rL (by omega)];exact g
 ·simp[d]
 ·rw[rL (by omega)];exact i
theorem VC.cells{g:Nat}{T:TypeId}{o a:Nat}(h:VC c o wd a tv bb fb ab)(d:Q6 w g c T):g<w.heap.size/\(∀q,w.frozen? ⟨g,q,none⟩=false)/\w.cell? ⟨g,o,none⟩=some (ι a)/\w.cell? ⟨g,o+1,none⟩=some tv/\w.cell? ⟨g,o+2,none⟩=some (ι wd)/\w.cell? ⟨g,o+3,none⟩=some ((π bb))/\w.cell? ⟨g,o+4,none⟩=some ((π fb))/\w.cell? ⟨g,o+5,none⟩=some ((π ab)):=by
 obtain⟨b,e⟩:=d.rules;exact⟨d.lt,e,(b _).trans h.c0,(b _).trans h.c1,(b _).trans h.c2,(b _).trans h.c3,(b _).trans h.c4,(b _).trans h.c5⟩
def fR(k i:Nat)(ρg:zn):TypeId->zn->Prop:=fun t ρ=>(¬Rz t/\∃j,ρ=(k+1,i,j))∨(t=301/\ρ=ρg)
theorem QC.one{own a:Nat->zn}{k i j:Nat}{ρg:zn}(h:QC lo (onT (·=(k+1,i,j))) w own w' a):QC lo (fR k i ρg) w own w' a:=h.more fun _ _ q=>zf ⟨q.1,j,q.2⟩
theorem Ci:∀(l:List zm) (T R:zi) (m:Nat),xz l T=some R->∃b,xz (l.take m) T=some b/\∀h:m<l.length,okT b=true/\xz (l.take (m+1)) T=some (addP b l[m] 0).1
 |[],T,R,m,h=>⟨T,by simp[xz],fun h=>by simp at h⟩
 |x::l,T,R,0,h=>by
  rw[xz] at h;by_cases a:okT T=true
  ·exact⟨T,rfl,fun _=>⟨a,by simp[xz,a]⟩⟩
  ·rw[za a] at h;cases h
 |x::l,T,R,m+1,h=>by
  rw[xz] at h;by_cases a:okT T=true
  ·rw[zc a] at h;obtain⟨b,d,f⟩:=Ci l _ R m h;refine⟨b,by rw[nR,xz,zc a];exact d,fun e=>?_⟩;obtain⟨i,g⟩:=f (by simpa using e);exact⟨i,by rw[nR,xz,zc a];simpa using g⟩
  ·rw[za a] at h;cases h
theorem eW:∀(l:List zm) (T R:zi) (x:zm),xz (l++[x]) T=some R->∃b,xz l T=some b/\okT b=true/\R=(addP b x 0).1
 |[],T,R,x,h=>by
  simp only[pL,xz] at h;by_cases a:okT T=true
  ·rw[zc a] at h;exact⟨T,rfl,a,by simpa using h.symm⟩
  ·rw[za a] at h;cases h
 |y::l,T,R,x,h=>by
  rw[lE,xz] at h;by_cases a:okT T=true
  ·rw[zc a] at h;obtain⟨b,d,f,e⟩:=eW l _ R x h;exact⟨b,by rw[xz,zc a];exact d,f,e⟩
  ·rw[za a] at h;cases h
theorem oy:∀(l l2:List zm) (T R:zi),xz (l++l2) T=some R->∃a,xz l T=some a
 |[],_,T,_,_=>⟨T,rfl⟩
 |y::l,l2,T,R,h=>by
  rw[lE,xz] at h;by_cases b:okT T=true
  ·rw[zc b] at h;obtain⟨a,d⟩:=oy l l2 _ R h;exact⟨a,by rw[xz,zc b];exact d⟩
  ·rw[za b] at h;cases h
theorem Fw{g:Nat}{V V':yA}{d:List zm}(h:dN g wd V d=some V'):∃e b f a,rowsG g V.qo=some e/\xz e V.before=some b/\xz (d.filterMap (x6 V.lit)) (yS wd (yO V.lit))=some f/\xz (d.filterMap (x6 V.lit)) V.all=some a/\V'={V with before:=b,qo:=f,all:=a}:=by
 unfold dN at h;split at h
 ·cases h
 ·rename_i e i;split at h
  ·rename_i b f a j k l;exact⟨e,b,f,a,i,j,k,l,by simpa using h.symm⟩
  ·cases h
def Jy(W a:World)(b:Option zm)(d e:Value):Prop:=∃fb x y z:Nat,d=(π fb)/\e=.bool b.isSome/\[x,y,z]=b.getD [0,0,0]/\W.heap.size<=fb/\Q6 a fb #[ι (x:Nat),ι (y:Nat),ι (z:Nat)] 165/\μ W a
structure fg (lo b0:Nat) (w wr:World) (own own2:Nat->zn) (k i g:Nat) (c:Array Value) (l:zu) (bb fb ab:Nat) (B F A:zi) (tv rv:Value) (rows:List zm):Prop where
 before:yQ lo wr own2 (k+1,i,0) bb B
 qo:yQ lo wr own2 (k+1,i,1) fb F
 all:yQ lo wr own2 (k+1,i,2) ab A
 qg:yh lo wr tv l.qg
 mod:QC lo (fR k i (own g)) w own wr own2
 box:Q6 wr g c 301
 rows:QM b0 wr rv rows
theorem fg.below{b0:Nat}{w wr w':World}{own own2:Nat->zn}{k i g:Nat}{c:Array Value}{l:zu}{bb fb ab:Nat}{B F A:zi}{tv d:Value}{a:List zm}(h:fg lo b0 w wr own own2 k i g c l bb fb ab B F A tv d a)(b:μ wr w'):fg lo b0 w w' own own2 k i g c l bb fb ab B F A tv d a:=
 ⟨h.before.below b,h.qo.below b,h.all.below b,h.qg.below b,h.mod.trans (QC.of own2 b),h.box.below b,h.rows.below' b⟩
theorem fg.addF{wr W:World}{own:Nat->zn}{k i g:Nat}{l:zu}{B F A e:zi}{f:Value}{a:List zm}(h:fg lo b0 w wr own own2 k i g c l bb fb ab B F A tv f a)(j:μ wr W)(m:yQ lo w' own3 (k+1,i,1) fb e)(b:QC lo (onT (·=(k+1,i,1))) W own2 w' own3):fg lo b0 w w' own own3 k i g c l bb fb ab B e A tv f a:=by
 have d:=h.below j;exact⟨d.before.onT b (by simp),m,d.all.onT b (by simp),d.qg.mod b (jj (by decide)),d.mod.trans b.one,d.box.mod b (jj (by decide) _),d.rows.mod b (jj (by decide))⟩
theorem fg.addA{wr W:World}{own:Nat->zn}{k i g:Nat}{l:zu}{B F A e:zi}{f:Value}{a:List zm}(h:fg lo b0 w wr own own2 k i g c l bb fb ab B F A tv f a)(j:μ wr W)(m:yQ lo w' own3 (k+1,i,2) ab e)(b:QC lo (onT (·=(k+1,i,2))) W own2 w' own3):fg lo b0 w w' own own3 k i g c l bb fb ab B F e tv f a:=by
 have d:=h.below j;exact⟨d.before.onT b (by simp),d.qo.onT b (by simp),m,d.qg.mod b (jj (by decide)),d.mod.trans b.one,d.box.mod b (jj (by decide) _),d.rows.mod b (jj (by decide))⟩
theorem LQ{b:Nat}{T:TypeId}(h:Q6 w b #[ι 0,ι 0,ι 0] T)(x y z:Nat):Q6 (((w.setCell ⟨b,0,none⟩ (ι x)).setCell ⟨b,1,none⟩ (ι y)).setCell ⟨b,2,none⟩ (ι z)) b #[ι x,ι y,ι z] T:=by
 have q:=((h.set 0 (ι x)).set 1 (ι y)).set 2 (ι z);simpa using q
def J3(lo:Nat)(w:World)(own:Nat->zn)(k i g o:Nat)(c:Array Value)(V':yA)(P:jB)(ρg:zn)(e:Ending)(w':World):Prop:=e=ε (.tuple #[])/\∃b a,vJ lo w' a k i V' ⟨P.tv,P.bb,b,P.ab⟩/\Q6 w' g (c.setIfInBounds (o+4) ((π b))) 301/\QC lo (fR k i ρg) w own w' a
theorem Fj(w:World)(own:Nat->zn)(k i g o wd a7:Nat)(c:Array Value)(V V':yA)(P:jB)(rv:Value)(a:List zm)(a2:Q6 w g c 301)(aH:VC c o wd V.lit.pred P.tv P.bb P.fb P.ab)(hv:vJ lo w own k i V P)(hr:QM b0 w rv a)(cy:lo<=g)(cA:lo<=w.heap.size)(cz:wd<=1000)(cE:a.length<=1048577)(hV:dN a7 wd V a=some V'):
  Calls prog 206 #[.pointer (some ⟨g,o,none⟩),rv] w fun e w'=>J3 lo w own k i g o c V' P (own g) e w':=by
 obtain⟨s,bN,fN,aN,d,bk,bB,bh,b9⟩:=Fw hV;obtain⟨bZ,a9,rfl⟩:=zp hr.1;have HV:=Q5 hv;have HR:=Q5 hr;have cd:=Q5 fun W hW=>D5 W own (k+1,i,1) P.fb V.qo a7 s (hv.qo.below hW) d;have ac:=Q5 aH;have aG:=Q5 bk;have b7:=Q5 bB;have ba:=Q5 bh;have cm:=Q5 b9;have cF:s.length<=1048576:=by
  unfold rowsG at d;split at d
  ·cases d
  ·split at d
   ·simp at d;subst d;assumption
   ·cases d
 obtain⟨Z,N,v,n,I,J,C,B⟩:=aH.cells a2;clear hV hr d bk bB bh b9 aH;go_enter func206,ntmps206;go_upto_region 1 with (go_at_call 78;refine(cd.out _ (by exact(by go_grown))).mono ?_;rintro e w1 ⟨ov,rfl,aO,av⟩;obtain⟨cn,bq,rfl⟩:=zp aO.1)
 clear v n I J C B N cd hv;have bL:Hid (QC lo (onT (·=(k+1,i,0))) w own w1 own):=QC.of own av;have bx:=Q5 (HV.out.before.below av);have bg:=Q5 (a2.below av);have aB:=Q5 aO;have cv:=av.size;clear aO av;go_loopw [16] (fun c0 wr=>∃(m:Nat) (T:zi) (b:Nat->zn),m<=s.length/\c0=ι m/\w.heap.size<=wr.heap.size/\Hid (xz (s.take m) V.before=some T)/\Hid (yQ lo wr b (k+1,i,0) P.bb T)/\Hid (QC lo (onT (·=(k+1,i,0))) w own wr b)/\Hid (Q6 wr g c 301)/\Hid (QM w.heap.size wr (.slice cn s.length bq) s)) (fun i _=>s.length-(intOf i).toNat)
 case atStart=>exact⟨0,V.before,own,zv _,rfl,cv,rfl,bx,bL,bg,aB⟩
 case round=>
  clear bL bx bg aB;obtain⟨m,T,b,hm,rfl,cb,HA,HT,HM,HG,aT⟩:=hrel;by_cases am:m<s.length
  ·obtain⟨go,bP,x,y,z,t,bT,L,aU,aP,aQ⟩:=aT.out.cell m am;simp only[Value.slice.injEq] at t;have ai:=t.1;clear t;subst ai;obtain⟨Tm,aM,b8⟩:=Ci s V.before bN m aG.out;rw[HA.out] at aM;obtain rfl:T=Tm:=by simpa using aM
   obtain⟨bi,aI⟩:=b8 am;rw[L] at aI;have cl:=Q5 bi;have cj:=Q5 aI;clear aM b8 aI bi L;obtain⟨Z,N,v,n,I,J,C,B⟩:=ac.out.cells HG.out;have al:=Q6.new wr #[ι x,ι y,ι z] 165;have h:Hid (∀W,μ wr W->Calls prog 163 #[.pointer (some ⟨P.bb,0,none⟩),.agg #[ι x,ι y,ι z],ι 0] W fun e w'=>e=ε (.bool (addP T [x,y,z] 0).2)/\yQ lo w' (ext b W.heap.size (k+1,i,0)) (k+1,i,0) P.bb (addP T [x,y,z] 0).1/\QC lo (onT (·=(k+1,i,0))) W b w' (ext b W.heap.size (k+1,i,0))):=fun W hW=>tD W b (k+1,i,0) P.bb T x y z 0 (HT.out.below hW) cl.out;clear v n I C B;go_wp2;go_region_held3 (fun w'=>w'.cell? ⟨g,o+3,none⟩=some (.pointer (some ⟨P.bb,0,none⟩))/\w'.cell? ⟨wr.heap.size,0,none⟩=some (ι x)/\w'.cell? ⟨wr.heap.size,1,none⟩=some (ι y)/\w'.cell? ⟨wr.heap.size,2,none⟩=some (ι z)) (first|go_keep|(go_simp;done)) (go_at_call 163;refine(h.out _ (by exact(by go_grown))).mono ?_;rintro e w4 ⟨rfl,a6,H⟩;have bf:=(HG.out.below (show μ wr _ from(by go_grown))).mod H (jj (by decide) _);have b6:=(al.drew).mod H (jj (by decide) _);obtain⟨ce,bd⟩:=b6.rules;obtain⟨_,_,_,_,_,b4,_,_⟩:=ac.out.cells bf)
   have ca:=HM.out.trans ((QC.of b (show μ wr _ from(by go_grown))).trans H);have cg:=(aT.out.below' (show μ wr _ from(by go_grown))).mod H (jj (by decide));have ci:=ca.size;generalize (addP T [x,y,z] 0).2=cD at *;clear b6 ce bd b4 al H aU aP aQ h;go_wp2;go_roundw
   case rel=>exact⟨m+1,_,_,by omega,by go_num,ci,cj,a6,ca,bf,cg⟩
   case measure=>simp[intOf];omega
  ·have aa:s.take m=s:=xh (by omega);rw[aa,aG.out] at HA;obtain rfl:bN=T:=by have:=HA.out;simpa using this
   clear HA aa hm aT aG;obtain⟨Q,l,a3⟩:=HV.out.qg.qx;have aw:=Q5 a3;obtain⟨Z,N,v,n,I,J,C,B⟩:=ac.out.cells HG.out;rw[a3] at n;have aV:Hid (yh lo wr (.slice Q V.lit.qg.length l) V.lit.qg):=by have q:=HV.out.qg.mod HM.out (jj (by decide));rw[a3] at q;exact q
   have bU:=Q5 (HV.out.all.onT HM.out (by simp));have aL:=Q5 (HR.out.mod HM.out (jj (by decide)));have cw:=Bo V.lit;have HD:Hid (∀W,μ wr W->Calls prog 212 #[.agg #[ι V.lit.pred,.slice Q V.lit.qg.length l]] W fun e w'=>e=ε (ι (yO V.lit:Nat))/\μ W w'):=fun W hW=>Cr W _ V.lit.pred V.lit.qg (aV.out.below hW);have HN:=Q5 fun W=>e7 W wd (yO V.lit) cz (by omega);clear a3 J B cw;generalize bH:yO V.lit=dl at *;clear bH;go_wp2;go_region_held3 (fun w'=>w'.cell? ⟨g,o,none⟩=some (ι V.lit.pred)/\w'.cell? ⟨g,o+1,none⟩=some (.slice Q V.lit.qg.length l)/\w'.cell? ⟨g,o+2,none⟩=some (ι wd)) (first|go_keep|(go_simp;done)) (first|(go_at_call 212;refine(HD.out _ (by exact(by go_grown))).mono ?_;rintro e O ⟨rfl,ag⟩;have j:μ wr O:=(zQ (by go_grown) ag (zg _));have ao:=HG.out.below j;obtain⟨_,_,ar,K,bs,_,_,_⟩:=ac.out.cells ao;rw[aw.out] at K)|(go_at_call 119;refine(HN.out _).mono ?_;rintro e w3 ⟨tf,cC,rfl,bc,au⟩;have ah:=ao.below au;obtain⟨bW,bw,be,aD,bO,_,bo,_⟩:=ac.out.cells ah;rw[aw.out] at aD))
   have bM:lo<=O.heap.size:=by have:=j.size;have:=HM.out.size;omega
   have t:=HM.out.old g a2.lt;have bI:fg lo b0 w (w3.setCell ⟨g,o+4,none⟩ ((π tf))) own (ext b O.heap.size (k+1,i,1)) k i g (c.setIfInBounds (o+4) ((π tf))) V.lit P.bb tf P.ab bN (yS wd dl) V.all (.slice Q V.lit.qg.length l) (.slice bZ a.length a9) a:=by
    have ax:ze [g] w3 (w3.setCell ⟨g,o+4,none⟩ ((π tf))):=ze.set _ _ _ _;have az:=QS.box ah;have bD:=Q9 j au;have bm:QC lo (fun _ _=>False) O b w3 (ext b O.heap.size (k+1,i,1)):=QC.extNew b (k+1,i,1) au;have cu:ext b O.heap.size (k+1,i,1) g=own g:=by rw[dE _ _ _ _ (by have:=HM.out.size;have:=j.size;have:=a2.lt;omega)];exact t
    refine⟨?_,?_,?_,?_,?_,?_,?_⟩
    ·exact((HT.out.below j).mod bm (fun _ _=>id)).saveT ax az (by decide)
    ·exact(zY.new b (k+1,i,1) bc bM).saveT ax az (by decide)
    ·exact((bU.out.below j).mod bm (fun _ _=>id)).saveT ax az (by decide)
    ·exact((aV.out.below bD)).saveT ax az (by decide)
    ·exact((HM.out.one (ρg:=own g)).trans ((QC.of b j).trans (QC.extNew b (k+1,i,1) au))).trans (QC.set _ ah cy (zb ⟨rfl,cu⟩) _ _)
    ·exact ah.set _ _
    ·exact⟨yG (zB aL.out.1 bD) ax az (by decide),aL.out.2⟩
   have M:=Q5 (ac.out.set tf);generalize aZ:c.setIfInBounds (o+4) ((π tf))=c2 at *;have ch:=Q5 aZ;clear aZ;have aF:=Q5 bI;clear bI;generalize ext b O.heap.size (k+1,i,1)=own2 at *;generalize w3.setCell ⟨g,o+4,none⟩ ((π tf))=w5 at *;clear be aD bO bo bW bw au bc ah ao j ar K bs HT bU aV aL HM HG HD HN t bM Z N v n I C;have bn:=aF.out.mod.size;go_wp2;go_loopw [42] (fun cf wr=>∃(m:Nat) (F A:zi) (own2:Nat->zn),m<=a.length/\cf=ι m/\w.heap.size<=wr.heap.size/\Hid (xz ((a.take m).filterMap (x6 V.lit)) (yS wd dl)=some F)/\Hid (xz ((a.take m).filterMap (x6 V.lit)) V.all=some A)/\Hid (fg lo b0 w wr own own2 k i g c2 V.lit P.bb tf P.ab bN F A (.slice Q V.lit.qg.length l) (.slice bZ a.length a9) a)) (fun i _=>a.length-(intOf i).toNat)
   case atStart=>exact⟨0,_,_,own2,zv _,rfl,bn,rfl,rfl,aF⟩
   case round=>
    clear aF bn;obtain⟨m,F,A,own2,hm,rfl,cb,HF,HA,R⟩:=hrel;by_cases am:m<a.length
    ·obtain⟨go,bP,x,y,z,t,bT,L,aU,aP,aQ⟩:=R.out.rows.cell m am;simp only[Value.slice.injEq] at t;have ai:=t.1;clear t;subst ai;have Y:Hid ((a.take (m+1)).filterMap (x6 V.lit)=(a.take m).filterMap (x6 V.lit)++(x6 V.lit [x,y,z]).toList):=by
      rw[Hid,yM am,sK,L];cases hq:x6 V.lit [x,y,z]<;>simp[hq]
     have aW:Hid (a.filterMap (x6 V.lit)=(a.take (m+1)).filterMap (x6 V.lit)++(a.drop (m+1)).filterMap (x6 V.lit)):=by rw[Hid,←sK,qZ]
     obtain⟨F1,bK⟩:=oy _ _ _ _ (by have q:=b7.out;rw[aW.out] at q;exact q);obtain⟨A1,br⟩:=oy _ _ _ _ (by have q:=ba.out;rw[aW.out] at q;exact q);have b2:=Q5 bK;have bR:=Q5 br;clear bK br aW L;have bG:Hid (∀W,μ wr W->Calls prog 213 #[.agg #[ι V.lit.pred,.slice Q V.lit.qg.length l],.agg #[ι x,ι y,ι z]] W fun r w'=>(∃G E D:Nat,r=ε (.tuple #[.agg #[ι (G:Nat),ι (E:Nat),ι (D:Nat)],.bool (x6 V.lit [x,y,z]).isSome])/\[G,E,D]=(x6 V.lit [x,y,z]).getD [0,0,0])/\μ W w'):=fun W hW=>P5 W _ V.lit.pred V.lit.qg x y z (R.out.qg.below hW);generalize x6 V.lit [x,y,z]=om at *;obtain⟨Z,N,v,n,I,J,C,B⟩:=M.out.cells R.out.box;rw[aw.out] at n;have al:=Q6.new wr #[ι x,ι y,ι z] 165;clear I J C B;go_wp2;go_cut [8,9] from 46 to 54 (fun s8 s9 wx=>Jy wr wx om s8 s9)
     case first=>
      go_region_held3 (fun w'=>w'.cell? ⟨g,o,none⟩=some (ι V.lit.pred)/\w'.cell? ⟨g,o+1,none⟩=some (.slice Q V.lit.qg.length l)/\w'.cell? ⟨wr.heap.size,0,none⟩=some (ι x)/\w'.cell? ⟨wr.heap.size,1,none⟩=some (ι y)/\w'.cell? ⟨wr.heap.size,2,none⟩=some (ι z)) (first|(exact⟨(Below.cell (p:=⟨g,o,none⟩) (show Below (wr.heap.size+1) O _ from(by go_grown)) (show g<wr.heap.size+1 by omega)).trans ar,(Below.cell (p:=⟨g,o+1,none⟩) (show Below (wr.heap.size+1) O _ from(by go_grown)) (show g<wr.heap.size+1 by omega)).trans K,(Below.cell (p:=⟨wr.heap.size,0,none⟩) (show Below (wr.heap.size+1) O _ from(by go_grown)) (show wr.heap.size<wr.heap.size+1 by omega)).trans ap,(Below.cell (p:=⟨wr.heap.size,1,none⟩) (show Below (wr.heap.size+1) O _ from(by go_grown)) (show wr.heap.size<wr.heap.size+1 by omega)).trans ak,(Below.cell (p:=⟨wr.heap.size,2,none⟩) (show Below (wr.heap.size+1) O _ from(by go_grown)) (show wr.heap.size<wr.heap.size+1 by omega)).trans aj⟩)|go_keep|(go_simp;done)) (go_at_call 213;refine(bG.out _ (by exact(by go_grown))).mono ?_;rintro e O ⟨⟨G,E,D,rfl,ae⟩,ag⟩;have j:μ wr O:=(zQ (by go_grown) ag (zg _));have ao:=R.out.box.below j;obtain⟨_,_,ar,K,_,_,_,_⟩:=M.out.cells ao;rw[aw.out] at K;have b3:=Q5 ae;clear ae;have a8:=al.below (show Below (wr.alloc (.cells #[ι x,ι y,ι z] 165)).heap.size (wr.alloc (.cells #[ι x,ι y,ι z] 165)) O from zQ (by go_grown) ag (zg _));have c1:wr.heap.size+1<=O.heap.size:=a8.lt;obtain⟨u,cq⟩:=a8.rules;have ap:=u 0;have ak:=u 1;have aj:=u 2;clear u;simp only[lU,dS,l9] at ap ak aj;(first|((with_reducible refine Q6.carry (Q6.drew (Q6.newAt (wr.alloc (.cells #[ι x,ι y,ι z] 165)) (wr.heap.size+1) #[ι 0,ι 0,ι 0] 165 (World.size_alloc _ _).symm)) ag ?_);intro bQ;obtain⟨c5,c4,c6⟩:=bQ.boxed)|skip))
      all_goals
       go_wp2_with fail
       go_meet
       case rel=>first|exact⟨O.heap.size,G,E,D,rfl,rfl,b3.out,by omega,Q6.new _ _ _,zQ j (by go_grown) (zg _)⟩|exact⟨wr.heap.size+1,G,E,D,rfl,rfl,b3.out,by omega,LQ bQ G E D,((j.setCell (by simp) _).setCell (by simp) _).setCell (by simp) _⟩
     case rest=>
      clear v n N al aU aP aQ bG;obtain⟨fb,G,E,D,rfl,rfl,ae,cs,bz,aR⟩:=hcut;have an:=Q5 (R.out.below aR);have b1:w.heap.size<=wc.heap.size:=by have:=aR.size;omega
      have a4:=Q5 bz;clear R aR bz;cases om with
      |none=>
       clear ae;simp only[Option.toList_none,qQ] at Y;simp only[gD];go_wp2;go_roundw
       case rel=>exact⟨m+1,F,A,own2,by omega,by go_num,b1,by rw[Hid,Y.out];exact HF.out,by rw[Hid,Y.out];exact HA.out,an⟩
       case measure=>simp[intOf];omega
      |some f=>
       simp only[ur] at ae;subst ae;simp only[Option.toList_some] at Y;simp only[jV];obtain⟨Fm,af,aq,cc⟩:=eW _ _ _ _ (by have q:=b2.out;rw[Y.out] at q;exact q);obtain⟨Am,aS,bS,b5⟩:=eW _ _ _ _ (by have q:=bR.out;rw[Y.out] at q;exact q);rw[HF.out] at af;rw[HA.out] at aS;obtain rfl:F=Fm:=by simpa using af
       obtain rfl:A=Am:=by simpa using aS
       have bt:=Q5 cc;have aY:=Q5 b5;have cp:=Q5 aq;have cx:=Q5 bS;clear af aS cc b5 aq bS;obtain⟨Z,N,v,n,I,J,C,B⟩:=M.out.cells an.out.box;obtain⟨a1,co⟩:=a4.out.rules;have aX:=a1 0;have af:=a1 1;have aq:=a1 2;simp only[lU,dS,l9] at aX af aq;have ck:=a4.out.lt;clear a1 co v n I J;have h:Hid (∀W,μ wc W->Calls prog 163 #[(π tf),.agg #[ι G,ι E,ι D],ι 0] W fun e w'=>e=ε (.bool (addP F [G,E,D] 0).2)/\yQ lo w' (ext own2 W.heap.size (k+1,i,1)) (k+1,i,1) tf (addP F [G,E,D] 0).1/\QC lo (onT (·=(k+1,i,1))) W own2 w' (ext own2 W.heap.size (k+1,i,1))):=fun W hW=>tD W own2 (k+1,i,1) tf F G E D 0 (an.out.qo.below hW) cp.out;go_wp2;go_region_held3 (fun w'=>w'.cell? ⟨g,o+4,none⟩=some ((π tf))/\w'.cell? ⟨fb,0,none⟩=some (ι G)/\w'.cell? ⟨fb,1,none⟩=some (ι E)/\w'.cell? ⟨fb,2,none⟩=some (ι D)) (first|go_keep|(go_simp;done)) (go_at_call 163;refine(h.out _ (by exact(by go_grown))).mono ?_;rintro e w4 ⟨rfl,a6,H⟩;have ad:μ wc _:=(show μ wc wc.drew from(by go_grown));have ay:=an.out.addF ad a6 H;have a0:=(a4.out.below ad).mod H (jj (by decide) _);obtain⟨S,bX⟩:=a0.rules;have bp:=S 0;have bv:=S 1;have bE:=S 2;clear S;simp only[lU,dS,l9] at bp bv bE;obtain⟨_,_,_,_,_,_,c7,c3⟩:=M.out.cells ay.box)
       have cB:=ay.mod.size;have c8:=ay.box.lt;have c9:=a0.lt;have aJ:=Q5 ay;have cr:=Q5 a0;rw[←bt.out] at aJ;generalize (addP F [G,E,D] 0).2=bF at *;generalize ext own2 wc.drew.heap.size (k+1,i,1)=X at *;clear ay a0 a6 H an a4 C B aX af aq Z N ck ad h bt bX b1 cs;have h:Hid (∀W,μ w4 W->Calls prog 163 #[.pointer (some ⟨P.ab,0,none⟩),.agg #[ι G,ι E,ι D],ι 0] W fun e w'=>e=ε (.bool (addP A [G,E,D] 0).2)/\yQ lo w' (ext X W.heap.size (k+1,i,2)) (k+1,i,2) P.ab (addP A [G,E,D] 0).1/\QC lo (onT (·=(k+1,i,2))) W X w' (ext X W.heap.size (k+1,i,2))):=fun W hW=>tD W X (k+1,i,2) P.ab A G E D 0 (aJ.out.all.below hW) cx.out;go_wp2;go_region_held3 (fun w'=>w'.cell? ⟨g,o+5,none⟩=some (.pointer (some ⟨P.ab,0,none⟩))/\w'.cell? ⟨fb,0,none⟩=some (ι G)/\w'.cell? ⟨fb,1,none⟩=some (ι E)/\w'.cell? ⟨fb,2,none⟩=some (ι D)) (first|go_keep|(go_simp;done)) (go_at_call 163;refine(h.out _ (by exact(by go_grown))).mono ?_;rintro e w6 ⟨rfl,bJ,aK⟩;have ad:μ w4 _:=(show μ w4 w4.drew from(by go_grown));have a5:=aJ.out.addA ad bJ aK;have bY:=(cr.out.below ad).mod aK (jj (by decide) _);obtain⟨U,bV⟩:=bY.rules;have aA:=U 0;have aC:=U 1;have aE:=U 2;clear U;simp only[lU,dS,l9] at aA aC aE;obtain⟨_,_,_,_,_,_,bu,bC⟩:=M.out.cells a5.box)
       rw[←aY.out] at a5;have ct:=a5.mod.size;generalize (addP A [G,E,D] 0).2=bA at *;clear bJ aK h aY bY aA aC aE bu bC bV;go_wp2;go_roundw
       case rel=>exact⟨m+1,F1,A1,_,by omega,by go_num,ct,b2,bR,a5⟩
       case measure=>simp[intOf];omega
    ·have aa:a.take m=a:=xh (by omega);rw[aa,b7.out] at HF;rw[aa,ba.out] at HA;obtain rfl:fN=F:=by have:=HF.out;simpa using this
     obtain rfl:aN=A:=by have:=HA.out;simpa using this
     clear HF HA aa;go_wp2
     (try simp only[Exit.inBlock,Exit.then])
     have h2:=R.out;refine zL (results_none rfl _ _ _) rfl ⟨rfl,tf,own2,?_,?_,h2.mod⟩
     ·rw[cm.out];exact⟨by show yh lo wr P.tv V.lit.qg;rw[aw.out];exact h2.qg,h2.before,h2.qo,h2.all⟩
     ·rw[ch.out];exact h2.box
end
section
variable {lo:Nat}{w:World}{rb wd mr mx:Nat}{R:z7}
structure xZ where
 rv:Value
 tbs:List Nat
 fv:Value
 fvs:List Value
def QQ(a:List Nat):List Value:=a.map pt
structure zW (lo:Nat) (w:World) (own:Nat->zn) (rb:Nat) (R:z7) (wd mr mx:Nat) (Q:xZ):Prop where
 low:lo<=rb
 box:Q6 w rb #[Q.rv,ι R.count,ι R.qw,ι R.jf,ι wd,ι mr,ι mx,Q.fv] 214
 rows:w.ownsRow lo 162 1 Q.rv R.rows.length (QQ Q.tbs)
 tlen:Q.tbs.length=R.rows.length
 tries:∀p (_:p<R.rows.length) (_:p<Q.tbs.length),yQ lo w own (0,p,0) Q.tbs[p] R.rows[p]
 qo:w.ownsRow lo 161 1 Q.fv R.qo.length Q.fvs
 flen:Q.fvs.length=R.qo.length
 jl:∀p (_:p<R.qo.length) (_:p<Q.fvs.length),QM lo w Q.fvs[p] R.qo[p]/\∀b,Q.fvs[p].ownBlock=some b->own b=(0,p,1)
 few:R.rows.length<=1000/\R.qo.length<=1000/\R.count<=1048577/\R.qw<=1048576
 small:wd<=1000/\mr<=1048576/\mx<=1048576
theorem QM.modR{d:Nat}{ok:TypeId->zn->Prop}{w':World}{own c:Nat->zn}{v:Value}{a:List zm}(h:QM d w v a)(p:QC lo ok w own w' c)(e:∀b,v.ownBlock=some b->¬ok 165 (own b)):QM d w' v a:=⟨pY h.1 p e,h.2⟩
theorem zW.mod{ok:TypeId->zn->Prop}{w w':World}{own c:Nat->zn}{rb:Nat}{R:z7}{wd mr mx:Nat}{Q:xZ}(h:zW lo w own rb R wd mr mx Q)(p:QC lo ok w own w' c)(e:∀ρ,¬ok 214 ρ)(i:∀ρ,¬ok 162 ρ)(f:∀ρ,¬ok 161 ρ)(j:∀q,¬ok 165 (0,q,1))(g:∀q t,¬Rz t->¬ok t (0,q,0)):zW lo w' c rb R wd mr mx Q:=by
 refine⟨h.low,h.box.mod p (e _),vG h.rows p i,h.tlen,fun q a b=>(h.tries q a b).mod p (g q),vG h.qo p f,h.flen,fun q a b=>⟨(h.jl q a b).1.modR p fun x d=>by rw[(h.jl q a b).2 x d];exact j q,fun x d=>?_⟩,h.few,h.small⟩;rw[p.old x (xK (h.jl q a b).1.1 d)];exact(h.jl q a b).2 x d
theorem zW.below{w':World}{own:Nat->zn}{Q:xZ}(h:zW lo w own rb R wd mr mx Q)(a:μ w w'):zW lo w' own rb R wd mr mx Q:=h.mod (QC.of (ok:=fun _ _=>False) own a) (fun _=>id) (fun _=>id) (fun _=>id) (fun _=>id) (fun _ _ _=>id)
theorem zW.at{own:Nat->zn}{Q:xZ}(h:zW lo w own rb R wd mr mx Q):rb<w.heap.size/\(∀o,w.frozen? ⟨rb,o,none⟩=false)/\w.cell? ⟨rb,0,none⟩=some Q.rv/\w.cell? ⟨rb,1,none⟩=some (ι R.count)/\w.cell? ⟨rb,2,none⟩=some (ι R.qw)/\w.cell? ⟨rb,3,none⟩=some (ι R.jf)/\w.cell? ⟨rb,4,none⟩=some (ι wd)/\w.cell? ⟨rb,5,none⟩=some (ι mr)/\w.cell? ⟨rb,6,none⟩=some (ι mx)/\w.cell? ⟨rb,7,none⟩=some Q.fv:=by
 obtain⟨a,b⟩:=h.box.rules;exact⟨h.box.lt,b,a 0,a 1,a 2,a 3,a 4,a 5,a 6,a 7⟩
theorem zW.trie{own:Nat->zn}{Q:xZ}(h:zW lo w own rb R wd mr mx Q)(p:Nat)(f:p<R.rows.length)(b:p<Q.tbs.length):∃g a,Q.rv=.slice (some ⟨g,0,none⟩) R.rows.length a/\g<w.heap.size/\w.cell? ⟨g,p,none⟩=some (.pointer (some ⟨Q.tbs[p],0,none⟩)):=by
 obtain⟨g,a,e,_,d,c⟩:=yv h.rows (by omega);exact⟨g,a,e,d,c p _ (by simp[QQ,b,pt])⟩
theorem zW.frow{own:Nat->zn}{Q:xZ}(h:zW lo w own rb R wd mr mx Q)(p:Nat)(f:p<R.qo.length)(b:p<Q.fvs.length):∃g a,Q.fv=.slice (some ⟨g,0,none⟩) R.qo.length a/\g<w.heap.size/\w.cell? ⟨g,p,none⟩=some Q.fvs[p]:=by
 obtain⟨g,a,e,_,d,c⟩:=yv h.qo (by omega);exact⟨g,a,e,d,c p _ (by simp[b])⟩
theorem PT:(prog.info? 161).map (fun i=>(i.zero,i.size,i.bytes))=some (some (ν),1,24):=by kernel_rfl
theorem se(w:World)(n:Nat)(T:TypeId)(z:Value)(b:n<=maxLen):(w.alloc (.cells (madeCells #[z] n) T)).ownsRow w.heap.size T 1 (.slice (some ⟨w.heap.size,0,none⟩) n n) n (List.replicate n z):=by
 refine⟨by simp,zb ⟨w.heap.size,n,madeCells #[z] n,rfl,zg _,?_,zg _,b,by rw[size_madeCells];omega,?_⟩⟩
 ·show(w.heap.push _)[w.heap.size]?=_;simp
 ·apply mG;intro i;by_cases a:i<n
  ·simp[a,madeCells,Nat.mod_one]
  ·simp[List.getElem?_take,a]
def NA(lo:Nat)(w:World)(own:Nat->zn)(rb:Nat)(R:z7)(wd mr mx:Nat)(Q:xZ)(e:Ending)(w':World):Prop:=e=ε (.tuple #[])/\∃b a,zW lo w' own rb (qs R) wd mr mx ⟨Q.rv,Q.tbs,b,a⟩/\QC lo (gd [214]) w own w' own
theorem RG(w:World)(own:Nat->zn)(rb:Nat)(R:z7)(wd mr mx:Nat)(Q:xZ)(h:zW lo w own rb R wd mr mx Q)(r:lo<=w.heap.size):
  Calls prog 120 #[(π rb)] w fun e B=>NA lo w own rb R wd mr mx Q e B:=by
 obtain⟨F,y,o,E,p⟩:=info_parts PT;obtain⟨I,L,N,M,J,U,K,O,T,S⟩:=h.at;obtain⟨A,u,G⟩:=zp h.rows;have j:=h.few.1;have H:=Q5 h;have z:=fun W:World=>run_make (P:=prog) (w:=W) 212 161 F _ underlying212 y o .i64 .i64 (R.rows.length:Int) (R.rows.length:Int) (by omega) (Int.le_refl _) (by rw[p];omega) (by omega);generalize C:R.rows.length=n at *;have v:=Q5 C;go_enter func120,ntmps120;go_wp2;refine zL (results_none rfl _ _ _) rfl ⟨rfl,.slice (some ⟨w.heap.size,0,none⟩) n n,List.replicate n (ν),?_,?_⟩
 ·have k:ze [rb] w (w.setCell ⟨rb,7,none⟩ (.slice (some ⟨w.heap.size,0,none⟩) n n)):=ze.set _ _ _ _;have t:=QS.box H.out.box;have i:(w.setCell ⟨rb,7,none⟩ (.slice (some ⟨w.heap.size,0,none⟩) n n)).heap.size=w.heap.size:=by simp[World.setCell]
  have m:=H.out.box.set 7 (.slice (some ⟨w.heap.size,0,none⟩) n n);have g:=yG H.out.rows k t (by decide);have s:=fun q a b=>(H.out.tries q a b).saveT k t (by decide);have d:=se (w.setCell ⟨rb,7,none⟩ (.slice (some ⟨w.heap.size,0,none⟩) n n)) n 161 (ν) (by unfold maxLen;omega);rw[i] at d;have f:Below (w.setCell ⟨rb,7,none⟩ (.slice (some ⟨w.heap.size,0,none⟩) n n)).heap.size (w.setCell ⟨rb,7,none⟩ (.slice (some ⟨w.heap.size,0,none⟩) n n)) ((w.setCell ⟨rb,7,none⟩ (.slice (some ⟨w.heap.size,0,none⟩) n n)).alloc (.cells (madeCells #[ν] n) 161)):=(by go_grown);have l:(qs R).qo=List.replicate n []:=by rw[qs,v.out]
  have c:(qs R).qo.length=n:=by rw[l,List.length_replicate]
  refine⟨H.out.low,by simpa [qs] using m.below f,zB g f,H.out.tlen,fun q a b=>(s q a b).below f,by rw[c];exact yr d r,by rw[c];simp,fun q a b=>?_,⟨H.out.few.1,by rw[c];exact j,H.out.few.2.2⟩,H.out.small⟩;simp only[l,tU];exact⟨⟨yC _ _ _ _,by simp⟩,fun x D=>by cases D⟩
 ·have i:(w.setCell ⟨rb,7,none⟩ (.slice (some ⟨w.heap.size,0,none⟩) n n)).heap.size=w.heap.size:=by simp[World.setCell]
  exact(QC.set own H.out.box H.out.low (show gd [214] 214 (own rb) from xF.2 rfl) 7 _).trans (QC.of own (by go_grown))
theorem AZ(w:World)(own:Nat->zn)(rb:Nat)(R:z7)(wd mr mx:Nat)(Q:xZ)(p:Nat)(h:zW lo w own rb R wd mr mx Q)(d:p<R.rows.length)(b:p<Q.tbs.length):
  Calls prog 205 #[(π rb),ι p] w fun e o=>e=ε (.pointer (some ⟨Q.tbs[p],0,none⟩))/\o=w:=by
 obtain⟨u,x,k,j,f,r,i,l,n,m⟩:=h.at;obtain⟨g,s,a,v,t⟩:=h.trie p d b;rw[a] at k;have q:(p:Int)<(R.rows.length:Int):=by omega
 have c:=h.few.1;clear h a j f r i l n m;generalize Q.tbs[p]=y at *;go_enter func205,ntmps205;go_wp2;go_ret;exact⟨rfl,rfl⟩
def oA(p:Nat):TypeId->zn->Prop:=fun t ρ=>t=165/\ρ=(0,p,1)
def fJ(p:Nat):TypeId->zn->Prop:=fun t ρ=>(¬Rz t/\ρ=(0,p,0))∨t=214∨t=161∨oA p t ρ
theorem zW.setTrie{w':World}{own d:Nat->zn}{Q:xZ}{p:Nat}{T:zi}(h:zW lo w own rb R wd mr mx Q)(j:p<R.rows.length)(g:p<Q.tbs.length)(i:yQ lo w' d (0,p,0) Q.tbs[p] T)(m:QC lo (onT (·=(0,p,0))) w own w' d):zW lo w' d rb {R with rows:=R.rows.set p T} wd mr mx Q:=by
 have c:(R.rows.set p T).length=R.rows.length:=by simp
 refine⟨h.low,h.box.mod m (jj (by decide) _),by rw[c];exact vG h.rows m (jj (by decide)),by rw[c];exact h.tlen,fun q a b=>?_,vG h.qo m (jj (by decide)),h.flen,fun q a b=>⟨(h.jl q a b).1.mod m (jj (by decide)),fun x f=>?_⟩,by rw[c];exact h.few,h.small⟩
 ·by_cases e:q=p
  ·subst e;simp only[nA];exact i
  ·simp only[nm (Ne.symm e)];exact(h.tries q (by simpa using a) b).onT m (by simp[e])
 ·rw[m.old x (xK (h.jl q a b).1.1 f)];exact(h.jl q a b).2 x f
theorem zW.rebox{w':World}{own:Nat->zn}{R':z7}{Q:xZ}(h:zW lo w own rb R wd mr mx Q)(hs:ze [rb] w w')(l:Q6 w' rb #[Q.rv,ι R'.count,ι R'.qw,ι R'.jf,ι wd,ι mr,ι mx,Q.fv] 214)(k:R'.rows=R.rows)(j:R'.qo=R.qo)(m:R'.count<=1048577/\R'.qw<=1048576):zW lo w' own rb R' wd mr mx Q:=by
 have f:=QS.box h.box;obtain⟨i,d,c,g,e⟩:=R';simp only at k j;subst k;subst j;exact⟨h.low,l,yG h.rows hs f (by decide),h.tlen,fun q a b=>(h.tries q a b).saveT hs f (by decide),yG h.qo hs f (by decide),h.flen,fun q a b=>⟨⟨yG (h.jl q a b).1.1 hs f (by decide),(h.jl q a b).1.2⟩,(h.jl q a b).2⟩,⟨h.few.1,h.few.2.1,m⟩,h.small⟩
theorem zW.pushFresh{o:World}{own:Nat->zn}{s y:Nat}{Q:xZ}{p:Nat}{v':Value}{rs:List zm}(h:zW lo w own rb R wd mr mx Q)(I:p<R.qo.length)(E:p<Q.fvs.length)(z:Q.fv=.slice (some ⟨s,0,none⟩) R.qo.length y)(J:ze Q.fvs[p].ownBlock.toList w o)(G:QM lo o v' rs)(F:v'.ownBlock=Q.fvs[p].ownBlock∨∃g,v'.ownBlock=some g/\w.heap.size<=g):
  zW lo (o.setCell ⟨s,p,none⟩ v') (ext own w.heap.size (0,p,1)) rb {R with qo:=R.qo.set p rs} wd mr mx ⟨Q.rv,Q.tbs,Q.fv,Q.fvs.set p v'⟩/\QC lo (fJ p) w own (o.setCell ⟨s,p,none⟩ v') (ext own w.heap.size (0,p,1)):=by
 have f:=h.jl p I E;have r:QC lo (oA p) w own o (ext own w.heap.size (0,p,1)):=⟨fun b C=>dE _ _ _ _ C,_,J,fun b C=>by
  have n:=yt C;obtain⟨c,H⟩:=uW f.1.1 n;exact⟨yW f.1.1 n,xK f.1.1 n,c,_,H,rfl,f.2 b n⟩⟩
 have B:∀{t:TypeId},t≠165->∀ρ,¬oA p t ρ:=fun O ρ q=>O q.1;have v:=vG h.qo r (B (by decide));have d:=v;rw[z] at d;have u:=uZ d p (by omega) v';obtain⟨S,A⟩:=uW d (b:=s) rfl;have m:ze [s] o (o.setCell ⟨s,p,none⟩ v'):=ze.set _ _ _ _;have j:=QS.box A;have k:(R.qo.set p rs).length=R.qo.length:=by simp
 have D:=yW d rfl;refine⟨⟨h.low,(h.box.mod r (B (by decide) _)).saveT m j (by decide),yG (vG h.rows r (B (by decide))) m j (by decide),h.tlen,fun q a b=>((h.tries q a b).mod r (fun t N q=>N (by rw[q.1];decide))).saveT m j (by decide),by rw[k,z];exact u,by rw[k];simpa using h.flen,fun q a b=>?_,⟨h.few.1,by rw[k];exact h.few.2.1,h.few.2.2⟩,h.small⟩,?_⟩
 ·by_cases e:q=p
  ·subst e;simp only[nA];refine⟨⟨yG G.1 m j (by decide),G.2⟩,fun x l=>?_⟩;rcases F with e|⟨g,e,L⟩
   ·rw[e] at l;rw[dE _ _ _ _ (xK f.1.1 l)];exact f.2 x l
   ·rw[e] at l;simp only[zt] at l;subst l;simp[ext,Nat.not_lt.2 L]
  ·simp only[nm (Ne.symm e)];have M:q<R.qo.length:=by simpa using a
   have K:q<Q.fvs.length:=by simpa using b
   have i:=h.jl q M K;refine⟨⟨yG (i.1.modR r fun x l P=>e (by have:=i.2 x l;rw[P.2] at this;simp at this;exact this.symm)).1 m j (by decide),i.1.2⟩,fun x l=>?_⟩;rw[dE _ _ _ _ (xK i.1.1 l)];exact i.2 x l
 ·exact(r.more fun t ρ q=>zb (zb (zb q))).trans (QC.set _ A D (zb (zb (zf rfl))) _ _)
def JG(lo:Nat)(w:World)(own:Nat->zn)(rb p:Nat)(R':z7)(b:Bool)(wd mr mx:Nat)(Q:xZ)(e:Ending)(w':World):Prop:=e=ε (.bool b)/\∃a c,zW lo w' a rb R' wd mr mx ⟨Q.rv,Q.tbs,Q.fv,c⟩/\QC lo (fJ p) w own w' a
theorem iJ{R':z7}{p:Nat}{row:zm}{b:Bool}(h:addR mr R p row=some (R',b)):p<R.rows.length/\p<R.qo.length/\okT (R.rows.getD p zi.zero)=true/\R.count<=1048576/\(R.qo.getD p []).length<=1048576/\((addP (R.rows.getD p zi.zero) row R.qw).2=false/\R'={R with rows:=R.rows.set p (addP (R.rows.getD p zi.zero) row R.qw).1}/\b=true∨(addP (R.rows.getD p zi.zero) row R.qw).2=true/\R'={R with rows:=R.rows.set p (addP (R.rows.getD p zi.zero) row R.qw).1,qo:=R.qo.set p (R.qo.getD p []++[row]),count:=R.count+1}/\b=decide (R.count+1<=mr)):=by
 unfold addR at h;split at h
 ·rename_i c;obtain⟨d,g,e,i,f⟩:=c;refine⟨d,g,e,i,f,?_⟩;rcases a:addP (R.rows.getD p zi.zero) row R.qw with⟨T,_|_⟩
  ·rw[a] at h;simp only[zt,ya] at h;exact zf ⟨rfl,h.1.symm,h.2.symm⟩
  ·rw[a] at h;simp only[zt,ya] at h;exact zb ⟨rfl,h.1.symm,h.2.symm⟩
 ·cases h
theorem Dh(w:World)(own:Nat->zn)(rb:Nat)(R R':z7)(wd mr mx:Nat)(Q:xZ)(p x y z:Nat)(b:Bool)(h:zW lo w own rb R wd mr mx Q)(bI:lo<=w.heap.size)(hr:addR mr R p [x,y,z]=some (R',b)):
  Calls prog 121 #[(π rb),ι p,.agg #[ι x,ι y,ι z]] w fun e C=>JG lo w own rb p R' b wd mr mx Q e C:=by
 obtain⟨i0,hi,bm,b8,bn⟩:=info_parts Qe;obtain⟨N,B,a0,bF,bg,c⟩:=iJ hr;have al:p<Q.tbs.length:=by rw[h.tlen];exact N
 have F:p<Q.fvs.length:=by rw[h.flen];exact B
 obtain⟨hl,hf,h0,h1,h2,h3,h4,h5,h6,h7⟩:=h.at;obtain⟨g,aJ,a5,hg,hc⟩:=h.trie p N al;obtain⟨gf,ao,a2,bO,bi⟩:=h.frow p B F;rw[a5] at h0;rw[a2] at h7;have HR:=Q5 h;have a3:=Q5 a5;have ac:=Q5 a2;have aF:R.rows.getD p zi.zero=R.rows[p]:=by simp[N]
 have aQ:R.qo.getD p []=R.qo[p]:=by simp[B]
 rw[aF] at a0 c;rw[aQ] at c bg;have HT:=Q5 (h.tries p N al);have am:=Q5 fun W hW=>tD W own (0,p,0) Q.tbs[p] R.rows[p] x y z R.qw (HT.out.below hW) a0;have bG:(p:Int)<(R.rows.length:Int):=by omega
 have bC:(p:Int)<(R.qo.length:Int):=by omega
 have bL:=h.small.2.1;have aZ:=h.few.1;have br:=h.few.2.1;have aR:=Q5 fun W C av (T:zi) (hW:μ w W) (hT:yQ lo C av (0,p,0) Q.tbs[p] T) (m:QC lo (onT (·=(0,p,0))) W own C av)=>(HR.out.below hW).setTrie N al hT m;have E:Hid ((addP R.rows[p] [x,y,z] R.qw).2=false/\R'={R with rows:=R.rows.set p (addP R.rows[p] [x,y,z] R.qw).1}/\b=true∨(addP R.rows[p] [x,y,z] R.qw).2=true/\R'={R with rows:=R.rows.set p (addP R.rows[p] [x,y,z] R.qw).1,qo:=R.qo.set p (R.qo[p]++[[x,y,z]]),count:=R.count+1}/\b=decide (R.count+1<=mr)):=c;have bd:=Q5 fun b (hb:Q.fvs[p].ownBlock=some b)=>xK (h.jl p B F).1.1 hb;clear h a5 a2 a0 c aF aQ h1 h3 h4 h5 h6;have bJ:Hid (Q.tbs[p]=Q.tbs[p]):=rfl;generalize bo:(addP R.rows[p] [x,y,z] R.qw).1=T' at *;clear bo;generalize b0:(addP R.rows[p] [x,y,z] R.qw).2=a8 at *;clear b0;have aL:=Q6.new w #[ι x,ι y,ι z] 165;go_enter func121,ntmps121;go_wp2;go_region_held3 (fun C=>C.cell? ⟨rb,0,none⟩=some (.slice (some ⟨g,0,none⟩) R.rows.length aJ)/\C.cell? ⟨g,p,none⟩=some (.pointer (some ⟨Q.tbs[p],0,none⟩))/\C.cell? ⟨rb,2,none⟩=some (ι R.qw)/\C.cell? ⟨w.heap.size,0,none⟩=some (ι x)/\C.cell? ⟨w.heap.size,1,none⟩=some (ι y)/\C.cell? ⟨w.heap.size,2,none⟩=some (ι z)) (first|(exact⟨aA,aN,aG,s,l,u⟩)|go_keep|(go_simp;done)) (go_at_call 163;refine(am.out _ (by exact(by go_grown))).mono ?_;rintro e D ⟨rfl,aT,aj⟩;have a1:μ w _:=(show μ w (w.alloc (.cells #[ι x,ι y,ι z] 165)).drew from(by go_grown));have ae:=aR.out _ _ _ _ a1 aT aj;obtain⟨b4,aW,aA,b6,aG,bk,b9,b3,bb,ah⟩:=ae.at;rw[a3.out] at aA;rw[ac.out] at ah;have j:=(aL.drew).mod aj (jj (by decide) _);have s:=j.rules.1 0;have l:=j.rules.1 1;have u:=j.rules.1 2;simp only[lU,dS,l9] at s l u;obtain⟨g',bE,L,bS,aN⟩:=ae.trie p (by simpa using N) al;rw[a3.out] at L;simp only[Value.slice.injEq,zt,Addr.mk.injEq,and_true] at L;have a4:=L.1;clear L;subst a4)
 have aw:QC lo (fJ p) w own D _:=(QC.of own a1).trans (aj.more fun _ _ q=>zf q);have o:Hid (zW lo D (ext own (w.alloc (.cells #[ι x,ι y,ι z] 165)).drew.heap.size (0,p,0)) rb {R with rows:=R.rows.set p T'} wd mr mx Q):=ae;have X:Hid (QC lo (fJ p) w own D (ext own (w.alloc (.cells #[ι x,ι y,ι z] 165)).drew.heap.size (0,p,0))):=aw;clear ae aw aT aj HT am aR hc h0 h2 h7 bi hl hf aL a1 a3;generalize ext own (w.alloc (.cells #[ι x,ι y,ι z] 165)).drew.heap.size (0,p,0)=ad at *;cases a8 with
 |false=>
  have c:=E.out;simp only[gL,false_and,or_false,true_and] at c;obtain⟨rfl,rfl⟩:=c;go_wp2;go_ret;exact⟨rfl,ad,Q.fvs,o.out,X.out⟩
 |true=>
  have c:=E.out;simp only[Bool.true_eq_false,false_and,false_or,true_and] at c;have aE:=Q5 c.1;have b2:=Q5 c.2;clear c E;obtain⟨bR,bh,M,bH,G⟩:=o.out.frow p B F;rw[ac.out] at M;simp only[Value.slice.injEq,zt,Addr.mk.injEq,and_true] at M;have a4:=M.1;clear M;subst a4;have t:=(o.out.jl p B F).1.1;obtain⟨V,A,ai⟩:=zp t;rw[ai] at G;have af:Hid (Q.fvs[p]=.slice V R.qo[p].length A):=ai;rw[ai] at t;clear ai;have b5:Hid (∀r∈R.qo[p],r.length=3):=(o.out.jl p B F).1.2;have bK:=X.out.size;have bB:=j.lt;have aq:=Q5 j;generalize ax:R.qo[p].length=fl at *;have aK:=Q5 ax;clear ax j bk b9 bb aN;go_wp2;refine wp_region_noPanic ?_;refine iE (S:=fun C=>C.cell? ⟨rb,7,none⟩=some (.slice (some ⟨gf,0,none⟩) R.qo.length ao)/\C.cell? ⟨gf,p,none⟩=some (.slice V fl A)/\C.cell? ⟨w.heap.size,0,none⟩=some (ι x)/\C.cell? ⟨w.heap.size,1,none⟩=some (ι y)/\C.cell? ⟨w.heap.size,2,none⟩=some (ι z)) (d:=16) (by kernel_rfl) ⟨ah,G,s,l,u⟩ (fun a=>?_);refine ub (i:=0) (v:=?v0) rfl (by kernel_rfl) (by kernel_rfl) (by kernel_rfl) (by kernel_rfl) (fun _ _ _ h=>h) (zf ⟨by rfl,?hy0⟩) a ?rest0
  case hy0=>
   intro P f;go_simp
   (try with_reducible rfl)
  refine ub (i:=1) (v:=?v1) rfl (by kernel_rfl) (by kernel_rfl) (by kernel_rfl) (by kernel_rfl) (fun _ _ _ h=>h) (zf ⟨by rfl,?hy1⟩) a ?rest1
  case hy1=>
   intro P f;go_simp
   (try with_reducible rfl)
  refine ub (i:=2) (v:=?v2) rfl (by kernel_rfl) (by kernel_rfl) (by kernel_rfl) (by kernel_rfl) (fun _ _ _ h=>h) (zf ⟨by rfl,?hy2⟩) a ?rest2
  case hy2=>
   intro P f;go_simp
   (try with_reducible rfl)
  refine ub (i:=3) (v:=?v3) rfl (by kernel_rfl) (by kernel_rfl) (by kernel_rfl) (by kernel_rfl) (fun _ _ _ h=>h) (zf ⟨by rfl,?hy3⟩) a ?rest3
  case hy3=>
   intro P f;go_simp
   (try with_reducible rfl)
  refine ub (i:=4) (v:=?v4) rfl (by kernel_rfl) (by kernel_rfl) (by kernel_rfl) (by kernel_rfl) (fun _ _ _ h=>h) (zf ⟨by rfl,?hy4⟩) a ?rest4
  case hy4=>
   intro P f;go_simp
   (try with_reducible rfl)
  refine ub (i:=5) (v:=?v5) rfl (by kernel_rfl) (by kernel_rfl) (by kernel_rfl) (by kernel_rfl) (fun _ _ _ h=>h) (zf ⟨by rfl,?hy5⟩) a ?rest5
  case hy5=>
   intro P f;go_simp
   (try with_reducible rfl)
  refine ub (i:=6) (v:=?v6) rfl (by kernel_rfl) (by kernel_rfl) (by kernel_rfl) (by kernel_rfl) (fun _ _ _ h=>h) (zf ⟨by rfl,?hy6⟩) a ?rest6
  case hy6=>
   intro P f;go_simp
   (try with_reducible rfl)
  refine ub (i:=7) (v:=?v7) rfl (by kernel_rfl) (by kernel_rfl) (by kernel_rfl) (by kernel_rfl) (fun _ _ _ h=>h) (zf ⟨by rfl,?hy7⟩) a ?rest7
  case hy7=>
   intro P f;go_simp
   (try with_reducible rfl)
  refine ub (i:=8) (v:=?v8) rfl (by kernel_rfl) (by kernel_rfl) (by kernel_rfl) (by kernel_rfl) (fun _ _ _ h=>h) (zf ⟨by rfl,?hy8⟩) a ?rest8
  case hy8=>
   intro P f;go_simp
   (try with_reducible rfl)
  refine ub (i:=9) (v:=?v9) rfl (by kernel_rfl) (by kernel_rfl) (by kernel_rfl) (by kernel_rfl) (fun _ _ _ h=>h) (zf ⟨by rfl,?hy9⟩) a ?rest9
  case hy9=>
   intro P f;go_simp
   (try with_reducible rfl)
  refine ub (i:=10) (v:=?v10) rfl (by kernel_rfl) (by kernel_rfl) (by kernel_rfl) (by kernel_rfl) (fun _ _ _ h=>h) (zf ⟨by rfl,?hy10⟩) a ?rest10
  case hy10=>
   intro P f;go_simp
   (try with_reducible rfl)
  refine ub (i:=11) (v:=?v11) rfl (by kernel_rfl) (by kernel_rfl) (by kernel_rfl) (by kernel_rfl) (fun _ _ _ h=>h) (zf ⟨by rfl,?hy11⟩) a ?rest11
  case hy11=>
   intro P f;go_simp
   (try with_reducible rfl)
  refine ub (i:=12) (v:=?v12) rfl (by kernel_rfl) (by kernel_rfl) (by kernel_rfl) (by kernel_rfl) (fun _ _ _ h=>h) (zf ⟨by rfl,?hy12⟩) a ?rest12
  case hy12=>
   intro P f;go_simp
   (try with_reducible rfl)
  refine dB (i:=13) (by kernel_rfl) rfl (fun K hK=>?_);go_simp
  have O:μ D (D.alloc (.cells #[ι x,ι y,ι z] 165)).drew:=(by go_grown);refine hK.out _ _ (fun _=>⟨(Below.cell (p:=⟨rb,7,none⟩) O (show rb<D.heap.size by omega)).trans ah,(Below.cell (p:=⟨gf,p,none⟩) O (show gf<D.heap.size by omega)).trans G,(Below.cell (p:=⟨w.heap.size,0,none⟩) O (show w.heap.size<D.heap.size by omega)).trans s,(Below.cell (p:=⟨w.heap.size,1,none⟩) O (show w.heap.size<D.heap.size by omega)).trans l,(Below.cell (p:=⟨w.heap.size,2,none⟩) O (show w.heap.size<D.heap.size by omega)).trans u⟩) ?_;clear hK K a;refine dB (i:=14) (by kernel_rfl) rfl (fun K hK=>?_);refine dF D _ [ι x,ι y,ι z] 165 rfl (.tmp 57) (.tmp 59) 161 rfl lo 165 i0 _ 3 24 underlying161 hi bm b8 bn rfl (by decide) (.slice V fl A) fl (jG R.qo[p]) (by simp[Act.eval]) t (by exact O) D.heap.size 1 (by simp[Act.eval]) (by exact Q6.drew (Q6.new _ _ _)) rfl (by simp[Value.oneCell']) (by omega) (by omega) (by omega) ?_;intro v' w3 a6 ab ap bu bD;obtain⟨ak,I,rfl⟩:=zp a6;have aB:=QS.own t;have an:=o.out.box.saveT ab aB (by decide);have ag:=an.rules.1 7;simp only[lU,dS,l9] at ag;rw[ac.out] at ag;have H:=yG o.out.qo ab aB (by decide);rw[ac.out] at H;have au:w3.cell? ⟨gf,p,none⟩=some (.slice V fl A):=by
   obtain⟨bM,bp,ar,_,_,a9⟩:=yv H (show 0<R.qo.length by omega);simp only[Value.slice.injEq,zt,Addr.mk.injEq,and_true] at ar;have e:=ar.1;subst e;have:=a9 p Q.fvs[p] (by simp[F]);rw[af.out] at this;exact this
  have aH:=qT H;have J:=aq.out.save ab (fun hm=>by
   have:=bd.out w.heap.size (by rw[af.out];exact yt hm);omega)
  have aa:=J.rules.1 0;have Z:=J.rules.1 1;have Y:=J.rules.1 2;simp only[lU,dS,l9] at aa Z Y;have k:w3.cell? ⟨rb,7,none⟩=some (.slice (some ⟨gf,0,none⟩) R.qo.length ao)/\w3.cell? ⟨gf,p,none⟩=some (.slice V fl A)/\w3.cell? ⟨w.heap.size,0,none⟩=some (ι x)/\w3.cell? ⟨w.heap.size,1,none⟩=some (ι y)/\w3.cell? ⟨w.heap.size,2,none⟩=some (ι z):=⟨ag,au,aa,Z,Y⟩;refine hK.out _ _ (fun _=>k) ?_;clear hK K;refine ub (i:=15) (v:=?v15) rfl (by kernel_rfl) (by kernel_rfl) (by kernel_rfl) (by kernel_rfl) (fun _ _ _ h=>h) (zf ⟨by rfl,?hy15⟩) k ?rest15
  case hy15=>
   intro P f;go_simp
   (try with_reducible rfl)
  refine dB (i:=16) (by kernel_rfl) rfl (fun K hK=>?_);go_simp
  refine hK.out _ _ (fun hq=>zC rfl hq) ?_;clear hK K;refine eD (by kernel_rfl) ?_ _;refine NoPanic.normal ?_;have hP:=zW.pushFresh (v':=.slice ak (fl+1) I) (rs:=R.qo[p]++[[x,y,z]]) o.out B F ac.out (by rw[af.out];exact ab) ⟨by rw[yp,aK.out];simpa [jG,Rj] using a6,fun r hr=>by rcases zI.1 hr with q|q;exact b5.out r q;simp at q;subst q;rfl⟩ (by rw[af.out];exact ap);obtain⟨aS,aC⟩:=hP;have U:Hid (zW lo (w3.setCell ⟨gf,p,none⟩ (.slice ak (fl+1) I)) (ext ad D.heap.size (0,p,1)) rb {R with rows:=R.rows.set p T',qo:=R.qo.set p (R.qo[p]++[[x,y,z]])} wd mr mx ⟨Q.rv,Q.tbs,Q.fv,Q.fvs.set p (.slice ak (fl+1) I)⟩):=aS;have bx:=Q5 (X.out.trans aC);clear aS aC k ag au aH aa Z Y an H J aA b6 aG b3 ah s l u G b4 aW o aq t a6 ab ap bu;generalize ext ad D.heap.size (0,p,1)=n at *;generalize w3.setCell ⟨gf,p,none⟩ (.slice ak (fl+1) I)=w5 at *;obtain⟨bf,bc,bs,aD,bz,aY,bv,aU,aV,b1⟩:=U.out.at;simp only at aD aU;clear bs bz aY bv aV b1;have ay:=U.out.box.set 1 (ι ((R.count:Int)+1));have aO:ze [rb] w5 (w5.setCell ⟨rb,1,none⟩ (ι ((R.count:Int)+1))):=ze.set _ _ _ _;have aM:QC lo (fJ p) w5 n (w5.setCell ⟨rb,1,none⟩ (ι ((R.count:Int)+1))) n:=QC.set n U.out.box U.out.low (zb (zf rfl)) _ _;have a7:=U.out.rebox (R':={R with rows:=R.rows.set p T',qo:=R.qo.set p (R.qo[p]++[[x,y,z]]),count:=R.count+1}) aO (by simpa using ay) rfl rfl ⟨by show R.count+1<=1048577;omega,U.out.few.2.2.2⟩;rw[←aE.out] at a7;have aP:=Q5 a7;have bw:=Q5 (bx.out.trans aM);clear a7 aM ay aO;go_upto_region 8 with fail
  generalize w5.setCell ⟨rb,1,none⟩ (ι ((R.count:Int)+1))=w6 at *;obtain⟨bP,bN,bq,az,ba,bt,be,bQ,aX,b7⟩:=aP.out.at;rw[aE.out] at az;simp only at az;have aI:((R.count+1:Nat):Int)=(R.count:Int)+1:=by omega
  rw[aI] at az;clear bq ba bt be aX b7 aD aU bf bc aI;go_quiet (fail)
  go_wp2;go_ret;have bA:decide ((R.count:Int)+1<=(mr:Int))=b:=by rw[b2.out];exact decide_eq_decide.2 (by omega)
  exact⟨by rw[←bA];rfl,n,_,aP.out.below (zJ (zo _ _) _),bw.out.trans (QC.of n (zJ (zo _ _) _))⟩
end
section
variable {lo:Nat}{w w':World}{own':Nat->zn}
def SI:TypeId->zn->Prop:=gd [310,323]
def kg(p:Nat):TypeId->zn->Prop:=orK (fJ p) SI
theorem Aj{l:List TypeId}{t:TypeId}{ρ:zn}(h:t∈l):gd l t ρ:=h
theorem kD{l:List TypeId}{t:TypeId}(h:t∉l):∀ρ,¬gd l t ρ:=fun _ q=>h q
theorem QU.mod{ok:TypeId->zn->Prop}{w w':World}{own own':Nat->zn}{c:Nat}{J:z9}{P:xw}(h:QU lo w c J P)(m:QC lo ok w own w' own')(f:∀ρ,¬ok 310 ρ)(j:∀ρ,¬ok 323 ρ)(g:∀ρ,¬ok 325 ρ)(l:∀ρ,¬ok 327 ρ)(d:∀ρ,¬ok 284 ρ)(i:∀x∈P.tbs,∀b∈x.2,∀t,¬Rz t->¬ok t (own b))(e:∀x∈P.bps,∀b∈x.2.2,∀t,¬Rz t->¬ok t (own b)):QU lo w' c J P:=
 ⟨h.low,h.box.mod m (f _),h.head.mod m d,vG h.qy m j,h.slen,fun k a b=>(h.tries k a b).mod m (i _ (zs b)),h.qi,vG h.bars m g,h.blen,fun k a b=>⟨(h.ji k a b).1.mod m d,(h.ji k a b).2.mod m (e _ (zs b))⟩,h.hlen,fun p a b=>⟨vG (h.je p a b).1 m l,(h.je p a b).2⟩,h.jk,h.few⟩
def nC(own:Nat->zn)(P:xw)(p:Nat):Prop:=(∀x∈P.tbs,∀b∈x.2,own b≠(0,p,0))/\(∀x∈P.bps,∀b∈x.2.2,own b≠(0,p,0))
theorem QU.add{own:Nat->zn}{o p:Nat}{J:z9}{P:xw}(h:QU lo w o J P)(m:QC lo (fJ p) w own w' own')(j:nC own P p):QU lo w' o J P/\nC own' P p:=by
 have g:∀{t:TypeId},Rz t->t≠214->t≠161->t≠165->∀ρ,¬fJ p t ρ:=fun a b c d ρ q=>by
  rcases q with q|q|q|q
  ·exact q.1 a
  ·exact b q
  ·exact c q
  ·exact d q.1
 have n:∀{t:TypeId} {ρ:zn},¬Rz t->ρ≠(0,p,0)->¬fJ p t ρ:=fun a b q=>by
  rcases q with q|q|q|q
  ·exact b q.2
  ·subst q;exact a (by decide)
  ·subst q;exact a (by decide)
  ·rw[q.1] at a;exact a (by decide)
 refine⟨h.mod m (g (by decide) (by decide) (by decide) (by decide)) (g (by decide) (by decide) (by decide) (by decide)) (g (by decide) (by decide) (by decide) (by decide)) (g (by decide) (by decide) (by decide) (by decide)) (g (by decide) (by decide) (by decide) (by decide)) (fun x f b e t l=>n l (j.1 x f b e)) (fun x f b e t l=>n l (j.2 x f b e)),fun x f b e=>?_,fun x f b e=>?_⟩
 ·obtain⟨k,i,rfl⟩:=qa f;rw[m.old b ((h.tries k (by rw[←h.slen];exact i) i).lt b e).2];exact j.1 _ f b e
 ·obtain⟨k,i,rfl⟩:=qa f;rw[m.old b ((h.ji k (by rw[←h.blen];exact i) i).2.lt b e).2];exact j.2 _ f b e
theorem QC.ofNext{own:Nat->zn}{e:Nat}{J:z9}{P:xw}(h:QU lo w e J P)(hs:ze (e::P.sv.ownBlock.toList) w w'):QC lo SI w own w' own:=
 QC.ofSave own hs fun b d=>by
  rcases zx.1 d with rfl|d
  ·exact⟨h.low,h.box.lt,_,_,h.box,Aj (by decide)⟩
  ·have a:=yt d;obtain⟨c,f⟩:=uW h.qy a;exact⟨yW h.qy a,xK h.qy a,c,_,f,Aj (by decide)⟩
theorem zW.modJ{own:Nat->zn}{c:Nat}{R:z7}{wd mr mx:Nat}{Q:xZ}(h:zW lo w own c R wd mr mx Q)(m:QC lo SI w own w' own'):zW lo w' own' c R wd mr mx Q:=
 h.mod m (kD (by decide)) (kD (by decide)) (kD (by decide)) (fun _=>kD (by decide) _) (fun q t b a=>by
  rcases zx.1 a with rfl|a
  ·exact b (by decide)
  ·rcases zx.1 a with rfl|a
   ·exact b (by decide)
   ·cases a)
def sA(lo:Nat)(w:World)(own:Nat->zn)(c p:Nat)(R':z7)(b:Bool)(wd mr mx:Nat)(Q:xZ)(e:Ending)(w':World):Prop:=e=ε (.bool b)/\∃own' a,zW lo w' own' c R' wd mr mx ⟨Q.rv,Q.tbs,Q.fv,a⟩/\QC lo (kg p) w own w' own'
theorem Fy(w:World)(own:Nat->zn)(y E:Nat)(R R':z7)(J:z9)(P:xw)(wd mr mx:Nat)(Q:xZ)(p n:Nat)(b:Bool)(h:zW lo w own y R wd mr mx Q)(hj:QU lo w E J P)(F:nC own P p)(aq:lo<=w.heap.size)(hr:vC mr p n R J=some (R',b)):
  Calls prog 208 #[(π y),ι p,(π E)] w fun e w'=>sA lo w own y p R' b wd mr mx Q e w':=by
 have HR:=Q5 hr;have H0:Hid (zW lo w own y R wd mr mx ⟨Q.rv,Q.tbs,Q.fv,Q.fvs⟩/\QU lo w E J P/\nC own P p):=⟨h,hj,F⟩;have ag:Hid (QC lo (kg p) w own w own):=QC.refl w own;clear h hj F hr;go_enter func208,ntmps208;go_wp2;go_loopg [] n (fun k wr=>∃(t:z7) (Jk:z9) (a:Nat->zn) (C:List Value),Hid (vC mr p k t Jk=some (R',b))/\Hid (zW lo wr a y t wd mr mx ⟨Q.rv,Q.tbs,Q.fv,C⟩/\QU lo wr E Jk P/\nC a P p)/\Hid (QC lo (kg p) w own wr a))
 case atStart=>exact⟨R,J,own,Q.fvs,HR,H0,ag⟩
 case round=>
  clear HR H0 ag;obtain⟨t,Jk,a,C,HQ,HK,HM⟩:=hrel;have ap:=HM.out.size;cases gk with
  |zero=>have q:=HQ.out;simp[vC] at q
  |succ m=>
   have q:=HQ.out;unfold vC at q;cases hn:dQ m Jk with
   |none=>rw[hn] at q;cases q
   |some ar=>
    obtain⟨f,bn⟩:=ar;rw[hn] at q;have N:=Q5 (Sm wr E Jk P m f bn HK.out.2.1 hn);have U:Hid (∀W,QU lo W E f P->ze (E::P.sv.ownBlock.toList) wr W->(zW lo W a y t wd mr mx ⟨Q.rv,Q.tbs,Q.fv,C⟩/\QU lo W E f P/\nC a P p)/\QC lo (kg p) w own W a):=fun W h1 h2=>by
     have m:=QC.ofNext (own:=a) HK.out.2.1 h2;exact⟨⟨HK.out.1.modJ m,h1,HK.out.2.2⟩,HM.out.trans (m.more fun _ _ q=>zb q)⟩
    clear hn HQ;cases bn with
    |false=>
     simp only[zt,ya] at q;have HE:=Q5 q;clear q;go_wp2_with (go_at_call 215;refine N.out.mono ?_;rintro e H ⟨rfl,j,l⟩;obtain⟨u,r⟩:=U.out _ j l;clear j l)
     obtain⟨g,Z,ai⟩:=u;have av:=Q5 g;have z:=Q5 r;have ak:=Q5 fun W Y=>NC W E f P (Z.below Y);obtain⟨au,aw,_,_,_,D,_,_,_,_⟩:=g.at;have ab:=g.box.set 3 (ι (IntKind.i64.wrap (t.jf+f.jf)));have af:ze [y] H (H.setCell ⟨y,3,none⟩ (ι (IntKind.i64.wrap (t.jf+f.jf)))):=ze.set _ _ _ _;have ae:QC lo (kg p) H a (H.setCell ⟨y,3,none⟩ (ι (IntKind.i64.wrap (t.jf+f.jf)))) a:=QC.set a g.box g.low (zf (zb (zf rfl))) _ _;have V:=g.rebox (R':={t with jf:=IntKind.i64.wrap (t.jf+f.jf)}) af (by simpa using ab) rfl rfl g.few.2.2;rw[HE.out.1] at V;have am:=Q5 V;have al:=Q5 (z.out.trans ae);clear V ae ab af g r Z ai;have ao:=IntWalk.i64_in;refine wp_region_noPanic ?_;refine iE (S:=fun w'=>w'.cell? ⟨y,3,none⟩=some (ι t.jf)) (d:=11) (by kernel_rfl) D (fun c=>?_);refine ub (i:=0) (v:=?v0) rfl (by kernel_rfl) (by kernel_rfl) (by kernel_rfl) (by kernel_rfl) (fun _ _ _ h=>h) (zf ⟨by rfl,?hy0⟩) c ?rest0
     case hy0=>
      intro X B;go_simp
      (try with_reducible rfl)
     refine ub (i:=1) (v:=?v1) rfl (by kernel_rfl) (by kernel_rfl) (by kernel_rfl) (by kernel_rfl) (fun _ _ _ h=>h) (zf ⟨by rfl,?hy1⟩) c ?rest1
     case hy1=>
      intro X B;go_simp
      (try with_reducible rfl)
     refine ub (i:=2) (v:=?v2) rfl (by kernel_rfl) (by kernel_rfl) (by kernel_rfl) (by kernel_rfl) (fun _ _ _ h=>h) (zf ⟨by rfl,?hy2⟩) c ?rest2
     case hy2=>
      intro X B;go_simp
      (try with_reducible rfl)
     refine ub (i:=3) (v:=?v3) rfl (by kernel_rfl) (by kernel_rfl) (by kernel_rfl) (by kernel_rfl) (fun _ _ _ h=>h) (zf ⟨by rfl,?hy3⟩) c ?rest3
     case hy3=>
      intro X B;go_simp
      (try with_reducible rfl)
     refine ub (i:=4) (v:=?v4) rfl (by kernel_rfl) (by kernel_rfl) (by kernel_rfl) (by kernel_rfl) (fun _ _ _ h=>h) (zf ⟨by rfl,?hy4⟩) c ?rest4
     case hy4=>
      intro X B;go_simp
      (try with_reducible rfl)
     refine ub (i:=5) (v:=?v5) rfl (by kernel_rfl) (by kernel_rfl) (by kernel_rfl) (by kernel_rfl) (fun _ _ _ h=>h) (zf ⟨by rfl,?hy5⟩) c ?rest5
     case hy5=>
      intro X B;go_simp
      (try with_reducible rfl)
     refine dB (i:=6) (by kernel_rfl) rfl (fun K A=>?_);go_simp
     refine(ak.out _ (by exact(zJ (zo _ _) 1))).mono ?_;rintro e I ⟨rfl,rfl⟩;refine A.out _ _ (fun _=>D) ?_;clear A K;refine ub (i:=7) (v:=?v7) rfl (by kernel_rfl) (by kernel_rfl) (by kernel_rfl) (by kernel_rfl) (fun _ _ _ h=>h) (zf ⟨by rfl,?hy7⟩) c ?rest7
     case hy7=>
      intro X B;go_simp
      (try with_reducible rfl)
     refine dB (i:=8) (by kernel_rfl) rfl (fun K A=>?_);go_simp
     refine A.out _ _ (fun _=>D) ?_;clear A K;refine dB (i:=9) (by kernel_rfl) rfl (fun K A=>?_);go_simp
     refine A.out _ _ (fun _=>D) ?_;clear A K;refine dB (i:=10) (by kernel_rfl) rfl (fun K A=>?_);go_simp
     refine A.out _ _ (fun _=>D) ?_;clear A K;refine dB (i:=11) (by kernel_rfl) rfl (fun K A=>?_);go_simp
     refine A.out _ _ (fun hq=>zC rfl hq) ?_;clear A K;refine eD (by kernel_rfl) ?_ _;refine NoPanic.normal ?_;have ac:Below (H.setCell ⟨y,3,none⟩ (ι (IntKind.i64.wrap (t.jf+f.jf)))).heap.size (H.setCell ⟨y,3,none⟩ (ι (IntKind.i64.wrap (t.jf+f.jf)))) (H.setCell ⟨y,3,none⟩ (ι (IntKind.i64.wrap (t.jf+f.jf)))).drew:=(by go_grown);have hf:=HE.out.2;go_wp2;go_ret;exact⟨by rw[←hf];rfl,a,C,am.out.below ac,al.out.trans (QC.of a ac)⟩
    |true=>
     dsimp only at q;cases ha:addR mr t p (zF f.head f.ja) with
     |none=>rw[ha] at q;cases q
     |some aj=>
      obtain⟨R3,b3⟩:=aj;simp only[ha] at q;have ad:=Q5 fun W (Y:QU lo W E f P)=>K7 W E f P Y;rw[FW] at ha;have aa:=Q5 fun W (hl:lo<=W.heap.size) (Y:zW lo W a y t wd mr mx ⟨Q.rv,Q.tbs,Q.fv,C⟩)=>Dh W a y t R3 wd mr mx _ p _ _ _ b3 Y hl ha;generalize Q7 f.head f.ja 0=r0 at *;generalize Q7 f.head f.ja 1=r1 at *;generalize Q7 f.head f.ja 2=r2 at *;clear ha;cases b3 with
      |false=>
       simp only[zt,ya] at q;have HE:=Q5 q;clear q;go_wp2_with (first|(go_at_call 215;refine N.out.mono ?_;rintro e H ⟨rfl,j,l⟩;obtain⟨u,r⟩:=U.out _ j l;clear j l;have x:=Q5 u;have z:=Q5 r;clear u r)|(go_at_call 216;refine(ad.out _ x.out.2.1).mono ?_;rintro e I ⟨rfl,o⟩)|(go_at_call 121;refine(aa.out _ (by exact(show lo<=(I.alloc (.cells #[ι r0,ι r1,ι r2] 165)).heap.size by rw[World.size_alloc];have:=o.size;have:=z.out.size;omega)) (by exact(x.out.1.below o).below (by go_grown))).mono ?_;rintro e w4 ⟨rfl,s,T,O,L⟩))
       go_ret;have G:QC lo (kg p) H a w4 s:=((QC.of a o).trans (QC.of a (show μ I (I.alloc (.cells #[ι r0,ι r1,ι r2] 165)) from(by go_grown)))).trans (L.more fun _ _ q=>zf q);exact⟨by rw[←HE.out.2];rfl,s,T,by rw[←HE.out.1];exact O,z.out.trans G⟩
      |true=>
       have an:Hid (vC mr p m R3 f=some (R',b)):=q;clear q;go_wp2_with (first|(go_at_call 215;refine N.out.mono ?_;rintro e H ⟨rfl,j,l⟩;obtain⟨u,r⟩:=U.out _ j l;clear j l;have x:=Q5 u;have z:=Q5 r;clear u r)|(go_at_call 216;refine(ad.out _ x.out.2.1).mono ?_;rintro e I ⟨rfl,o⟩)|(go_at_call 121;refine(aa.out _ (by exact(show lo<=(I.alloc (.cells #[ι r0,ι r1,ι r2] 165)).heap.size by rw[World.size_alloc];have:=o.size;have:=z.out.size;omega)) (by exact(x.out.1.below o).below (by go_grown))).mono ?_;rintro e w4 ⟨rfl,s,T,O,L⟩))
       have M:μ I (I.alloc (.cells #[ι r0,ι r1,ι r2] 165)):=(by go_grown);have G:QC lo (kg p) H a w4 s:=((QC.of a o).trans (QC.of a M)).trans (L.more fun _ _ q=>zf q);have ah:=((x.out.2.1.below o).below M).add L x.out.2.2;go_roundg m
       case measure=>omega
       case rel=>exact⟨R3,f,s,T,an,⟨O,ah.1,ah.2⟩,z.out.trans G⟩
end
end Go.Proofs.YteampbddflhngaaGreat
