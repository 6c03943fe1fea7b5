import Derived.Test.YteampbddflhngaaGreatZ20
namespace Go.Proofs.YteampbddflhngaaGreat
set_option linter.all false
set_option maxRecDepth 100000
set_option maxHeartbeats 4000000
open Go.Proofs.Tryz Go.RowKit
section
variable {lo:Nat}{b0 wd bb fb ab:Nat}{w w':World}{c:Array Value}{tv:Value}{own2 own3:Nat->zn}
theorem QO.below'{v:Value}{rs:List zm}(h:QO b0 w v rs)(a:μ w w'):QO b0 w' v rs:=⟨zB h.1 a,h.2⟩
structure VC (c:Array Value) (o wd pred:Nat) (tv:Value) (bb fb ab:Nat):Prop where
 c0:c[o]?=some (ι pred)
 c1:c[o+1]?=some tv
 c2:c[o+2]?=some (ι wd)
 c3:c[o+3]?=some ((π bb))
 c4:c[o+4]?=some ((π fb))
 c5:c[o+5]?=some ((π ab))
theorem VC.set{o a:Nat}(h:VC c o wd a tv bb fb ab)(b:Nat):VC (c.setIfInBounds (o+4) ((π b))) o wd a tv bb b ab:=by
 obtain⟨g,k,i,j,e,f⟩:=h;have d:=(kz.1 e).1;refine⟨?_,?_,?_,?_,?_,?_⟩
 ·rw[r9 (by omega)];exact g
 ·rw[r9 (by omega)];exact k
 ·rw[r9 (by omega)];exact i
 ·rw[r9 (by omega)];exact j
 ·simp[d]
 ·rw[r9 (by omega)];exact f
theorem VC.cells{g:Nat}{T:TypeId}{o a:Nat}(h:VC c o wd a tv bb fb ab)(d:Q8 w g c T):g<w.heap.size/\(∀q,w.frozen? ⟨g,q,none⟩=false)/\w.cell? ⟨g,o,none⟩=some (ι a)/\w.cell? ⟨g,o+1,none⟩=some tv/\w.cell? ⟨g,o+2,none⟩=some (ι wd)/\w.cell? ⟨g,o+3,none⟩=some ((π bb))/\w.cell? ⟨g,o+4,none⟩=some ((π fb))/\w.cell? ⟨g,o+5,none⟩=some ((π ab)):=by
 obtain⟨b,e⟩:=d.rules;exact⟨d.lt,e,(b _).trans h.c0,(b _).trans h.c1,(b _).trans h.c2,(b _).trans h.c3,(b _).trans h.c4,(b _).trans h.c5⟩
def fR(k i:Nat)(ρg:zn):TypeId->zn->Prop:=fun t ρ=>(¬Rz t/\∃j,ρ=(k+1,i,j))∨(t=301/\ρ=ρg)
theorem QE.one{own a:Nat->zn}{k i j:Nat}{ρg:zn}(h:QE lo (onT (·=(k+1,i,j))) w own w' a):QE lo (fR k i ρg) w own w' a:=h.more fun _ _ q=>zf ⟨q.1,j,q.2⟩
theorem Dk:∀(l:List zm) (T R:zi) (m:Nat),xz l T=some R->∃b,xz (l.take m) T=some b/\∀h:m<l.length,okT b=true/\xz (l.take (m+1)) T=some (addP b l[m] 0).1
 |[],T,R,m,h=>⟨T,by simp[xz],fun h=>by simp at h⟩
 |x::l,T,R,0,h=>by
  rw[xz] at h;by_cases a:okT T=true
  ·exact⟨T,rfl,fun _=>⟨a,by simp[xz,a]⟩⟩
  ·rw[za a] at h;cases h
 |x::l,T,R,m+1,h=>by
  rw[xz] at h;by_cases a:okT T=true
  ·rw[zc a] at h;obtain⟨b,i,f⟩:=Dk l _ R m h;refine⟨b,by rw[nk,xz,zc a];exact i,fun g=>?_⟩;obtain⟨d,e⟩:=f (by simpa using g);exact⟨d,by rw[nk,xz,zc a];simpa using e⟩
  ·rw[za a] at h;cases h
theorem eR:∀(l:List zm) (T R:zi) (x:zm),xz (l++[x]) T=some R->∃b,xz l T=some b/\okT b=true/\R=(addP b x 0).1
 |[],T,R,x,h=>by
  simp only[pB,xz] at h;by_cases a:okT T=true
  ·rw[zc a] at h;exact⟨T,rfl,a,by simpa using h.symm⟩
  ·rw[za a] at h;cases h
 |y::l,T,R,x,h=>by
  rw[lR,xz] at h;by_cases a:okT T=true
  ·rw[zc a] at h;obtain⟨b,d,e,f⟩:=eR l _ R x h;exact⟨b,by rw[xz,zc a];exact d,e,f⟩
  ·rw[za a] at h;cases h
theorem ew:∀(l l2:List zm) (T R:zi),xz (l++l2) T=some R->∃b,xz l T=some b
 |[],_,T,_,_=>⟨T,rfl⟩
 |y::l,l2,T,R,h=>by
  rw[lR,xz] at h;by_cases a:okT T=true
  ·rw[zc a] at h;obtain⟨b,d⟩:=ew l l2 _ R h;exact⟨b,by rw[xz,zc a];exact d⟩
  ·rw[za a] at h;cases h
theorem Fl{g:Nat}{V V':y6}{d:List zm}(h:dM g wd V d=some V'):∃e b f a,rowsG g V.qo=some e/\xz e V.before=some b/\xz (d.filterMap (x9 V.lit)) (yU wd (yO V.lit))=some f/\xz (d.filterMap (x9 V.lit)) V.all=some a/\V'={V with before:=b,qo:=f,all:=a}:=by
 unfold dM at h;split at h
 ·cases h
 ·rename_i e l;split at h
  ·rename_i b f a j i k;exact⟨e,b,f,a,l,j,i,k,by simpa using h.symm⟩
  ·cases h
def Jf(W a:World)(b:Option zm)(d e:Value):Prop:=∃fb x y z:Nat,d=(π fb)/\e=.bool b.isSome/\[x,y,z]=b.getD [0,0,0]/\W.heap.size<=fb/\Q8 a fb #[ι (x:Nat),ι (y:Nat),ι (z:Nat)] 165/\μ W a
structure fA (lo b0:Nat) (w wr:World) (own own2:Nat->zn) (k i g:Nat) (c:Array Value) (l:zu) (bb fb ab:Nat) (B F A:zi) (tv rv:Value) (rows:List zm):Prop where
 before:yR lo wr own2 (k+1,i,0) bb B
 qo:yR lo wr own2 (k+1,i,1) fb F
 all:yR lo wr own2 (k+1,i,2) ab A
 qg:yh lo wr tv l.qg
 mod:QE lo (fR k i (own g)) w own wr own2
 box:Q8 wr g c 301
 rows:QO b0 wr rv rows
theorem fA.below{b0:Nat}{w wr w':World}{own own2:Nat->zn}{k i g:Nat}{c:Array Value}{l:zu}{bb fb ab:Nat}{B F A:zi}{tv d:Value}{a:List zm}(h:fA lo b0 w wr own own2 k i g c l bb fb ab B F A tv d a)(b:μ wr w'):fA lo b0 w w' own own2 k i g c l bb fb ab B F A tv d a:=
 ⟨h.before.below b,h.qo.below b,h.all.below b,h.qg.below b,h.mod.trans (QE.of own2 b),h.box.below b,h.rows.below' b⟩
theorem fA.addF{wr W:World}{own:Nat->zn}{k i g:Nat}{l:zu}{B F A f:zi}{e:Value}{a:List zm}(h:fA lo b0 w wr own own2 k i g c l bb fb ab B F A tv e a)(j:μ wr W)(m:yR lo w' own3 (k+1,i,1) fb f)(b:QE lo (onT (·=(k+1,i,1))) W own2 w' own3):fA lo b0 w w' own own3 k i g c l bb fb ab B f A tv e a:=by
 have d:=h.below j;exact⟨d.before.onT b (by simp),m,d.all.onT b (by simp),d.qg.mod b (qV (by decide)),d.mod.trans b.one,d.box.mod b (qV (by decide) _),d.rows.mod b (qV (by decide))⟩
theorem fA.addA{wr W:World}{own:Nat->zn}{k i g:Nat}{l:zu}{B F A f:zi}{e:Value}{a:List zm}(h:fA lo b0 w wr own own2 k i g c l bb fb ab B F A tv e a)(j:μ wr W)(m:yR lo w' own3 (k+1,i,2) ab f)(b:QE lo (onT (·=(k+1,i,2))) W own2 w' own3):fA lo b0 w w' own own3 k i g c l bb fb ab B F f tv e a:=by
 have d:=h.below j;exact⟨d.before.onT b (by simp),d.qo.onT b (by simp),m,d.qg.mod b (qV (by decide)),d.mod.trans b.one,d.box.mod b (qV (by decide) _),d.rows.mod b (qV (by decide))⟩
theorem Hq{b:Nat}{T:TypeId}(h:Q8 w b #[ι 0,ι 0,ι 0] T)(x y z:Nat):Q8 (((w.setCell ⟨b,0,none⟩ (ι x)).setCell ⟨b,1,none⟩ (ι y)).setCell ⟨b,2,none⟩ (ι z)) b #[ι x,ι y,ι z] T:=by
 have q:=((h.set 0 (ι x)).set 1 (ι y)).set 2 (ι z);simpa using q
def ID(lo:Nat)(w:World)(own:Nat->zn)(k i g o:Nat)(c:Array Value)(V':y6)(P:j9)(ρg:zn)(e:Ending)(w':World):Prop:=e=ε (.tuple #[])/\∃b a,vF lo w' a k i V' ⟨P.tv,P.bb,b,P.ab⟩/\Q8 w' g (c.setIfInBounds (o+4) ((π b))) 301/\QE lo (fR k i ρg) w own w' a
theorem A4(w:World)(own:Nat->zn)(k i g o wd a7:Nat)(c:Array Value)(V V':y6)(P:j9)(rv:Value)(a:List zm)(a1:Q8 w g c 301)(aW:VC c o wd V.lit.pred P.tv P.bb P.fb P.ab)(hv:vF lo w own k i V P)(hr:QO b0 w rv a)(cl:lo<=g)(cB:lo<=w.heap.size)(c1:wd<=1000)(cF:a.length<=1048577)(hV:dM a7 wd V a=some V'):
  Calls prog 206 #[.pointer (some ⟨g,o,none⟩),rv] w fun e w'=>ID lo w own k i g o c V' P (own g) e w':=by
 obtain⟨s,bN,fN,aN,d,bZ,bw,bd,bz⟩:=Fl hV;obtain⟨cb,aD,rfl⟩:=zp hr.1;have HV:=Q7 hv;have HR:=Q7 hr;have cc:=Q7 fun W hW=>Cr W own (k+1,i,1) P.fb V.qo a7 s (hv.qo.below hW) d;have af:=Q7 aW;have aF:=Q7 bZ;have bc:=Q7 bw;have bH:=Q7 bd;have ck:=Q7 bz;have cC:s.length<=1048576:=by
  unfold rowsG at d;split at d
  ·cases d
  ·split at d
   ·simp at d;subst d;assumption
   ·cases d
 obtain⟨Y,M,E,n,H,N,C,u⟩:=aW.cells a1;clear hV hr d bZ bw bd bz aW;go_enter func206,ntmps206;go_upto_region 1 with (first|(go_at_call 78;refine(cc.out _ (by exact(by go_grown))).mono ?_;rintro e w1 ⟨ov,rfl,aM,az⟩;obtain⟨c0,bV,rfl⟩:=zp aM.1))
 clear E n H N C u M cc hv;have bm:Hid (QE lo (onT (·=(k+1,i,0))) w own w1 own):=QE.of own az;have be:=Q7 (HV.out.before.below az);have br:=Q7 (a1.below az);have aE:=Q7 aM;have co:=az.size;clear aM az;go_loopw [16] (fun cw wr=>∃(m:Nat) (T:zi) (b:Nat->zn),m<=s.length/\cw=ι m/\w.heap.size<=wr.heap.size/\Hid (xz (s.take m) V.before=some T)/\Hid (yR lo wr b (k+1,i,0) P.bb T)/\Hid (QE lo (onT (·=(k+1,i,0))) w own wr b)/\Hid (Q8 wr g c 301)/\Hid (QO w.heap.size wr (.slice c0 s.length bV) s)) (fun i _=>s.length-(intOf i).toNat)
 case atStart=>exact⟨0,V.before,own,zv _,rfl,co,rfl,be,bm,br,aE⟩
 case round=>
  clear bm be br aE;obtain⟨m,T,b,hm,rfl,cd,HA,HT,HM,HG,aJ⟩:=hrel;by_cases ay:m<s.length
  ·obtain⟨go,bC,x,y,z,t,b6,J,aR,aK,aS⟩:=aJ.out.cell m ay;simp only[Value.slice.injEq] at t;have al:=t.1;clear t;subst al;obtain⟨Tm,aG,bf⟩:=Dk s V.before bN m aF.out;rw[HA.out] at aG;obtain rfl:T=Tm:=by simpa using aG
   obtain⟨bT,aT⟩:=bf ay;rw[J] at aT;have cj:=Q7 bT;have cr:=Q7 aT;clear aG bf aT bT J;obtain⟨Y,M,E,n,H,N,C,u⟩:=af.out.cells HG.out;have aj:=Q8.new wr #[ι x,ι y,ι z] 165;have h:Hid (∀W,μ wr W->Calls prog 163 #[.pointer (some ⟨P.bb,0,none⟩),.agg #[ι x,ι y,ι z],ι 0] W fun e w'=>e=ε (.bool (addP T [x,y,z] 0).2)/\yR lo w' (ext b W.heap.size (k+1,i,0)) (k+1,i,0) P.bb (addP T [x,y,z] 0).1/\QE lo (onT (·=(k+1,i,0))) W b w' (ext b W.heap.size (k+1,i,0))):=fun W hW=>ty W b (k+1,i,0) P.bb T x y z 0 (HT.out.below hW) cj.out;clear E n H C u;go_wp2;go_region_held3 (fun w'=>w'.cell? ⟨g,o+3,none⟩=some (.pointer (some ⟨P.bb,0,none⟩))/\w'.cell? ⟨wr.heap.size,0,none⟩=some (ι x)/\w'.cell? ⟨wr.heap.size,1,none⟩=some (ι y)/\w'.cell? ⟨wr.heap.size,2,none⟩=some (ι z)) (first|go_keep|(go_simp;done)) (first|(go_at_call 163;refine(h.out _ (by exact(by go_grown))).mono ?_;rintro e w4 ⟨rfl,a5,v⟩;have bD:=(HG.out.below (show μ wr _ from(by go_grown))).mod v (qV (by decide) _);have bX:=(aj.drew).mod v (qV (by decide) _);obtain⟨b1,bJ⟩:=bX.rules;obtain⟨_,_,_,_,_,b7,_,_⟩:=af.out.cells bD))
   have ba:=HM.out.trans ((QE.of b (show μ wr _ from(by go_grown))).trans v);have cz:=(aJ.out.below' (show μ wr _ from(by go_grown))).mod v (qV (by decide));have cm:=ba.size;generalize (addP T [x,y,z] 0).2=cE at *;clear bX b1 bJ b7 aj v aR aK aS h;go_wp2;go_roundw
   ·exact⟨m+1,_,_,by omega,by go_num,cm,cr,a5,ba,bD,cz⟩
   ·simp[intOf];omega
  ·have ac:s.take m=s:=xg (by omega);rw[ac,aF.out] at HA;obtain rfl:bN=T:=by have:=HA.out;simpa using this
   clear HA ac hm aJ aF;obtain⟨Q,l,a4⟩:=HV.out.qg.qx;have an:=Q7 a4;obtain⟨Y,M,E,n,H,N,C,u⟩:=af.out.cells HG.out;rw[a4] at n;have aH:Hid (yh lo wr (.slice Q V.lit.qg.length l) V.lit.qg):=by have q:=HV.out.qg.mod HM.out (qV (by decide));rw[a4] at q;exact q
   have b9:=Q7 (HV.out.all.onT HM.out (by simp));have aQ:=Q7 (HR.out.mod HM.out (qV (by decide)));have cu:=Ce V.lit;have HD:Hid (∀W,μ wr W->Calls prog 212 #[.agg #[ι V.lit.pred,.slice Q V.lit.qg.length l]] W fun e w'=>e=ε (ι (yO V.lit:Nat))/\μ W w'):=fun W hW=>Ex W _ V.lit.pred V.lit.qg (aH.out.below hW);have HN:=Q7 fun W=>eZ W wd (yO V.lit) c1 (by omega);clear a4 N u cu;generalize bx:yO V.lit=dl at *;clear bx;go_wp2;go_region_held3 (fun w'=>w'.cell? ⟨g,o,none⟩=some (ι V.lit.pred)/\w'.cell? ⟨g,o+1,none⟩=some (.slice Q V.lit.qg.length l)/\w'.cell? ⟨g,o+2,none⟩=some (ι wd)) (first|go_keep|(go_simp;done)) (first|(go_at_call 212;refine(HD.out _ (by exact(by go_grown))).mono ?_;rintro e O ⟨rfl,aq⟩;have j:μ wr O:=(zQ (by go_grown) aq (zg _));have au:=HG.out.below j;obtain⟨_,_,ar,K,bn,_,_,_⟩:=af.out.cells au;rw[an.out] at K)|(go_at_call 119;refine(HN.out _).mono ?_;rintro e w3 ⟨tf,cD,rfl,b8,aw⟩;have ak:=au.below aw;obtain⟨bO,bv,bR,a9,bP,_,b5,_⟩:=af.out.cells ak;rw[an.out] at a9))
   have aX:lo<=O.heap.size:=by have:=j.size;have:=HM.out.size;omega
   have t:=HM.out.old g a1.lt;have bt:fA lo b0 w (w3.setCell ⟨g,o+4,none⟩ ((π tf))) own (ext b O.heap.size (k+1,i,1)) k i g (c.setIfInBounds (o+4) ((π tf))) V.lit P.bb tf P.ab bN (yU wd dl) V.all (.slice Q V.lit.qg.length l) (.slice cb a.length aD) a:=by
    have ag:ze [g] w3 (w3.setCell ⟨g,o+4,none⟩ ((π tf))):=ze.set _ _ _ _;have ap:=QU.box ak;have ce:=QB j aw;have bu:QE lo (fun _ _=>False) O b w3 (ext b O.heap.size (k+1,i,1)):=QE.extNew b (k+1,i,1) aw;have cq:ext b O.heap.size (k+1,i,1) g=own g:=by rw[dH _ _ _ _ (by have:=HM.out.size;have:=j.size;have:=a1.lt;omega)];exact t
    refine⟨?_,?_,?_,?_,?_,?_,?_⟩
    ·exact((HT.out.below j).mod bu (fun _ _=>id)).saveT ag ap (by decide)
    ·exact(zY.new b (k+1,i,1) b8 aX).saveT ag ap (by decide)
    ·exact((b9.out.below j).mod bu (fun _ _=>id)).saveT ag ap (by decide)
    ·exact((aH.out.below ce)).saveT ag ap (by decide)
    ·exact((HM.out.one (ρg:=own g)).trans ((QE.of b j).trans (QE.extNew b (k+1,i,1) aw))).trans (QE.set _ ak cl (zb ⟨rfl,cq⟩) _ _)
    ·exact ak.set _ _
    ·exact⟨yF (zB aQ.out.1 ce) ag ap (by decide),aQ.out.2⟩
   have L:=Q7 (af.out.set tf);generalize bK:c.setIfInBounds (o+4) ((π tf))=c2 at *;have cx:=Q7 bK;clear bK;have aU:=Q7 bt;clear bt;generalize ext b O.heap.size (k+1,i,1)=own2 at *;generalize w3.setCell ⟨g,o+4,none⟩ ((π tf))=w5 at *;clear bR a9 bP b5 bO bv aw b8 ak au j ar K bn HT b9 aH aQ HM HG HD HN t aX Y M E n H C;have bG:=aU.out.mod.size;go_wp2;go_loopw [42] (fun cf wr=>∃(m:Nat) (F A:zi) (own2:Nat->zn),m<=a.length/\cf=ι m/\w.heap.size<=wr.heap.size/\Hid (xz ((a.take m).filterMap (x9 V.lit)) (yU wd dl)=some F)/\Hid (xz ((a.take m).filterMap (x9 V.lit)) V.all=some A)/\Hid (fA lo b0 w wr own own2 k i g c2 V.lit P.bb tf P.ab bN F A (.slice Q V.lit.qg.length l) (.slice cb a.length aD) a)) (fun i _=>a.length-(intOf i).toNat)
   case atStart=>exact⟨0,_,_,own2,zv _,rfl,bG,rfl,rfl,aU⟩
   case round=>
    clear aU bG;obtain⟨m,F,A,own2,hm,rfl,cd,HF,HA,R⟩:=hrel;by_cases ay:m<a.length
    ·obtain⟨go,bC,x,y,z,t,b6,J,aR,aK,aS⟩:=R.out.rows.cell m ay;simp only[Value.slice.injEq] at t;have al:=t.1;clear t;subst al;have Z:Hid ((a.take (m+1)).filterMap (x9 V.lit)=(a.take m).filterMap (x9 V.lit)++(x9 V.lit [x,y,z]).toList):=by
      rw[Hid,yL ay,tn,J];cases hq:x9 V.lit [x,y,z]<;>simp[hq]
     have aO:Hid (a.filterMap (x9 V.lit)=(a.take (m+1)).filterMap (x9 V.lit)++(a.drop (m+1)).filterMap (x9 V.lit)):=by rw[Hid,←tn,jt]
     obtain⟨F1,bB⟩:=ew _ _ _ _ (by have q:=bc.out;rw[aO.out] at q;exact q);obtain⟨A1,bh⟩:=ew _ _ _ _ (by have q:=bH.out;rw[aO.out] at q;exact q);have aY:=Q7 bB;have bs:=Q7 bh;clear bB bh aO J;have bY:Hid (∀W,μ wr W->Calls prog 213 #[.agg #[ι V.lit.pred,.slice Q V.lit.qg.length l],.agg #[ι x,ι y,ι z]] W fun r w'=>(∃G I B:Nat,r=ε (.tuple #[.agg #[ι (G:Nat),ι (I:Nat),ι (B:Nat)],.bool (x9 V.lit [x,y,z]).isSome])/\[G,I,B]=(x9 V.lit [x,y,z]).getD [0,0,0])/\μ W w'):=fun W hW=>Jq W _ V.lit.pred V.lit.qg x y z (R.out.qg.below hW);generalize x9 V.lit [x,y,z]=om at *;obtain⟨Y,M,E,n,H,N,C,u⟩:=L.out.cells R.out.box;rw[an.out] at n;have aj:=Q8.new wr #[ι x,ι y,ι z] 165;clear H N C u;go_wp2;go_cut [8,9] from 46 to 54 (fun s8 s9 wx=>Jf wr wx om s8 s9)
     case first=>
      go_region_held3 (fun w'=>w'.cell? ⟨g,o,none⟩=some (ι V.lit.pred)/\w'.cell? ⟨g,o+1,none⟩=some (.slice Q V.lit.qg.length l)/\w'.cell? ⟨wr.heap.size,0,none⟩=some (ι x)/\w'.cell? ⟨wr.heap.size,1,none⟩=some (ι y)/\w'.cell? ⟨wr.heap.size,2,none⟩=some (ι z)) (first|(exact⟨(Below.cell (p:=⟨g,o,none⟩) (show Below (wr.heap.size+1) O _ from(by go_grown)) (show g<wr.heap.size+1 by omega)).trans ar,(Below.cell (p:=⟨g,o+1,none⟩) (show Below (wr.heap.size+1) O _ from(by go_grown)) (show g<wr.heap.size+1 by omega)).trans K,(Below.cell (p:=⟨wr.heap.size,0,none⟩) (show Below (wr.heap.size+1) O _ from(by go_grown)) (show wr.heap.size<wr.heap.size+1 by omega)).trans ai,(Below.cell (p:=⟨wr.heap.size,1,none⟩) (show Below (wr.heap.size+1) O _ from(by go_grown)) (show wr.heap.size<wr.heap.size+1 by omega)).trans ao,(Below.cell (p:=⟨wr.heap.size,2,none⟩) (show Below (wr.heap.size+1) O _ from(by go_grown)) (show wr.heap.size<wr.heap.size+1 by omega)).trans am⟩)|go_keep|(go_simp;done)) (first|(go_at_call 213;refine(bY.out _ (by exact(by go_grown))).mono ?_;rintro e O ⟨⟨G,I,B,rfl,ad⟩,aq⟩;have j:μ wr O:=(zQ (by go_grown) aq (zg _));have au:=R.out.box.below j;obtain⟨_,_,ar,K,_,_,_,_⟩:=L.out.cells au;rw[an.out] at K;have bM:=Q7 ad;clear ad;have aA:=aj.below (show Below (wr.alloc (.cells #[ι x,ι y,ι z] 165)).heap.size (wr.alloc (.cells #[ι x,ι y,ι z] 165)) O from zQ (by go_grown) aq (zg _));have cg:wr.heap.size+1<=O.heap.size:=aA.lt;obtain⟨D,cp⟩:=aA.rules;have ai:=D 0;have ao:=D 1;have am:=D 2;clear D;simp only[lU,f6,l8] at ai ao am;(first|((with_reducible refine Q8.carry (Q8.drew (Q8.newAt (wr.alloc (.cells #[ι x,ι y,ι z] 165)) (wr.heap.size+1) #[ι 0,ι 0,ι 0] 165 (World.size_alloc _ _).symm)) aq ?_);intro bk;obtain⟨c3,c4,c5⟩:=bk.boxed)|skip)))
      all_goals
       go_wp2_with fail
       go_meet
       case rel=>first|exact⟨O.heap.size,G,I,B,rfl,rfl,bM.out,by omega,Q8.new _ _ _,zQ j (by go_grown) (zg _)⟩|exact⟨wr.heap.size+1,G,I,B,rfl,rfl,bM.out,by omega,Hq bk G I B,((j.setCell (by simp) _).setCell (by simp) _).setCell (by simp) _⟩
     case rest=>
      clear E n M aj aR aK aS bY;obtain⟨fb,G,I,B,rfl,rfl,ad,ci,bQ,aL⟩:=hcut;have av:=Q7 (R.out.below aL);have bo:w.heap.size<=wc.heap.size:=by have:=aL.size;omega
      have a3:=Q7 bQ;clear R aL bQ;cases om with
      |none=>
       clear ad;simp only[Option.toList_none,qM] at Z;simp only[g6];go_wp2;go_roundw
       ·exact⟨m+1,F,A,own2,by omega,by go_num,bo,by rw[Hid,Z.out];exact HF.out,by rw[Hid,Z.out];exact HA.out,av⟩
       ·simp[intOf];omega
      |some f=>
       simp only[ux] at ad;subst ad;simp only[Option.toList_some] at Z;simp only[kc];obtain⟨Fm,ae,ah,bI⟩:=eR _ _ _ _ (by have q:=aY.out;rw[Z.out] at q;exact q);obtain⟨Am,aV,bW,b4⟩:=eR _ _ _ _ (by have q:=bs.out;rw[Z.out] at q;exact q);rw[HF.out] at ae;rw[HA.out] at aV;obtain rfl:F=Fm:=by simpa using ae
       obtain rfl:A=Am:=by simpa using aV
       have bi:=Q7 bI;have bp:=Q7 b4;have ct:=Q7 ah;have cn:=Q7 bW;clear ae aV bI b4 ah bW;obtain⟨Y,M,E,n,H,N,C,u⟩:=L.out.cells av.out.box;obtain⟨a6,cv⟩:=a3.out.rules;have b2:=a6 0;have ae:=a6 1;have ah:=a6 2;simp only[lU,f6,l8] at b2 ae ah;have cs:=a3.out.lt;clear a6 cv E n H N;have h:Hid (∀W,μ wc W->Calls prog 163 #[(π tf),.agg #[ι G,ι I,ι B],ι 0] W fun e w'=>e=ε (.bool (addP F [G,I,B] 0).2)/\yR lo w' (ext own2 W.heap.size (k+1,i,1)) (k+1,i,1) tf (addP F [G,I,B] 0).1/\QE lo (onT (·=(k+1,i,1))) W own2 w' (ext own2 W.heap.size (k+1,i,1))):=fun W hW=>ty W own2 (k+1,i,1) tf F G I B 0 (av.out.qo.below hW) ct.out;go_wp2;go_region_held3 (fun w'=>w'.cell? ⟨g,o+4,none⟩=some ((π tf))/\w'.cell? ⟨fb,0,none⟩=some (ι G)/\w'.cell? ⟨fb,1,none⟩=some (ι I)/\w'.cell? ⟨fb,2,none⟩=some (ι B)) (first|go_keep|(go_simp;done)) (first|(go_at_call 163;refine(h.out _ (by exact(by go_grown))).mono ?_;rintro e w4 ⟨rfl,a5,v⟩;have aa:μ wc _:=(show μ wc wc.drew from(by go_grown));have ax:=av.out.addF aa a5 v;have a2:=(a3.out.below aa).mod v (qV (by decide) _);obtain⟨S,bL⟩:=a2.rules;have bE:=S 0;have bS:=S 1;have aZ:=S 2;clear S;simp only[lU,f6,l8] at bE bS aZ;obtain⟨_,_,_,_,_,_,c9,c7⟩:=L.out.cells ax.box))
       have cA:=ax.mod.size;have c8:=ax.box.lt;have c6:=a2.lt;have aI:=Q7 ax;have cy:=Q7 a2;rw[←bi.out] at aI;generalize (addP F [G,I,B] 0).2=bF at *;generalize ext own2 wc.drew.heap.size (k+1,i,1)=X at *;clear ax a2 a5 v av a3 C u b2 ae ah Y M cs aa h bi bL bo ci;have h:Hid (∀W,μ w4 W->Calls prog 163 #[.pointer (some ⟨P.ab,0,none⟩),.agg #[ι G,ι I,ι B],ι 0] W fun e w'=>e=ε (.bool (addP A [G,I,B] 0).2)/\yR lo w' (ext X W.heap.size (k+1,i,2)) (k+1,i,2) P.ab (addP A [G,I,B] 0).1/\QE lo (onT (·=(k+1,i,2))) W X w' (ext X W.heap.size (k+1,i,2))):=fun W hW=>ty W X (k+1,i,2) P.ab A G I B 0 (aI.out.all.below hW) cn.out;go_wp2;go_region_held3 (fun w'=>w'.cell? ⟨g,o+5,none⟩=some (.pointer (some ⟨P.ab,0,none⟩))/\w'.cell? ⟨fb,0,none⟩=some (ι G)/\w'.cell? ⟨fb,1,none⟩=some (ι I)/\w'.cell? ⟨fb,2,none⟩=some (ι B)) (first|go_keep|(go_simp;done)) (first|(go_at_call 163;refine(h.out _ (by exact(by go_grown))).mono ?_;rintro e w6 ⟨rfl,b3,aP⟩;have aa:μ w4 _:=(show μ w4 w4.drew from(by go_grown));have a0:=aI.out.addA aa b3 aP;have bg:=(cy.out.below aa).mod aP (qV (by decide) _);obtain⟨U,bq⟩:=bg.rules;have a8:=U 0;have aC:=U 1;have aB:=U 2;clear U;simp only[lU,f6,l8] at a8 aC aB;obtain⟨_,_,_,_,_,_,ca,bU⟩:=L.out.cells a0.box))
       rw[←bp.out] at a0;have ch:=a0.mod.size;generalize (addP A [G,I,B] 0).2=bA at *;clear b3 aP h bp bg a8 aC aB ca bU bq;go_wp2;go_roundw
       ·exact⟨m+1,F1,A1,_,by omega,by go_num,ch,aY,bs,a0⟩
       ·simp[intOf];omega
    ·have ac:a.take m=a:=xg (by omega);rw[ac,bc.out] at HF;rw[ac,bH.out] at HA;obtain rfl:fN=F:=by have:=HF.out;simpa using this
     obtain rfl:aN=A:=by have:=HA.out;simpa using this
     clear HF HA ac;go_wp2
     (try simp only[Exit.inBlock,Exit.then])
     have h2:=R.out;refine zK (results_none rfl _ _ _) rfl ⟨rfl,tf,own2,?_,?_,h2.mod⟩
     ·rw[ck.out];exact⟨by show yh lo wr P.tv V.lit.qg;rw[an.out];exact h2.qg,h2.before,h2.qo,h2.all⟩
     ·rw[cx.out];exact h2.box
end
section
variable {lo:Nat}{w:World}{rb wd mr mx:Nat}{R:zy}
structure ue where
 rv:Value
 tbs:List Nat
 fv:Value
 fvs:List Value
def QQ(a:List Nat):List Value:=a.map pt
structure zW (lo:Nat) (w:World) (own:Nat->zn) (rb:Nat) (R:zy) (wd mr mx:Nat) (Q:ue):Prop where
 low:lo<=rb
 box:Q8 w rb #[Q.rv,ι R.count,ι R.qw,ι R.jf,ι wd,ι mr,ι mx,Q.fv] 214
 rows:w.ownsRow lo 162 1 Q.rv R.rows.length (QQ Q.tbs)
 tlen:Q.tbs.length=R.rows.length
 tries:∀p (_:p<R.rows.length) (_:p<Q.tbs.length),yR lo w own (0,p,0) Q.tbs[p] R.rows[p]
 qo:w.ownsRow lo 161 1 Q.fv R.qo.length Q.fvs
 flen:Q.fvs.length=R.qo.length
 jm:∀p (_:p<R.qo.length) (_:p<Q.fvs.length),QO lo w Q.fvs[p] R.qo[p]/\∀b,Q.fvs[p].ownBlock=some b->own b=(0,p,1)
 few:R.rows.length<=1000/\R.qo.length<=1000/\R.count<=1048577/\R.qw<=1048576
 small:wd<=1000/\mr<=1048576/\mx<=1048576
theorem QO.modR{d:Nat}{ok:TypeId->zn->Prop}{w':World}{own c:Nat->zn}{v:Value}{a:List zm}(h:QO d w v a)(p:QE lo ok w own w' c)(e:∀b,v.ownBlock=some b->¬ok 165 (own b)):QO d w' v a:=⟨rm h.1 p e,h.2⟩
theorem zW.mod{ok:TypeId->zn->Prop}{w w':World}{own c:Nat->zn}{rb:Nat}{R:zy}{wd mr mx:Nat}{Q:ue}(h:zW lo w own rb R wd mr mx Q)(p:QE lo ok w own w' c)(j:∀ρ,¬ok 214 ρ)(g:∀ρ,¬ok 162 ρ)(i:∀ρ,¬ok 161 ρ)(f:∀q,¬ok 165 (0,q,1))(e:∀q t,¬Rz t->¬ok t (0,q,0)):zW lo w' c rb R wd mr mx Q:=by
 refine⟨h.low,h.box.mod p (j _),vK h.rows p g,h.tlen,fun q a b=>(h.tries q a b).mod p (e q),vK h.qo p i,h.flen,fun q a b=>⟨(h.jm q a b).1.modR p fun x d=>by rw[(h.jm q a b).2 x d];exact f q,fun x d=>?_⟩,h.few,h.small⟩;rw[p.old x (xI (h.jm q a b).1.1 d)];exact(h.jm q a b).2 x d
theorem zW.below{w':World}{own:Nat->zn}{Q:ue}(h:zW lo w own rb R wd mr mx Q)(a:μ w w'):zW lo w' own rb R wd mr mx Q:=h.mod (QE.of (ok:=fun _ _=>False) own a) (fun _=>id) (fun _=>id) (fun _=>id) (fun _=>id) (fun _ _ _=>id)
theorem zW.at{own:Nat->zn}{Q:ue}(h:zW lo w own rb R wd mr mx Q):rb<w.heap.size/\(∀o,w.frozen? ⟨rb,o,none⟩=false)/\w.cell? ⟨rb,0,none⟩=some Q.rv/\w.cell? ⟨rb,1,none⟩=some (ι R.count)/\w.cell? ⟨rb,2,none⟩=some (ι R.qw)/\w.cell? ⟨rb,3,none⟩=some (ι R.jf)/\w.cell? ⟨rb,4,none⟩=some (ι wd)/\w.cell? ⟨rb,5,none⟩=some (ι mr)/\w.cell? ⟨rb,6,none⟩=some (ι mx)/\w.cell? ⟨rb,7,none⟩=some Q.fv:=by
 obtain⟨a,b⟩:=h.box.rules;exact⟨h.box.lt,b,a 0,a 1,a 2,a 3,a 4,a 5,a 6,a 7⟩
theorem zW.trie{own:Nat->zn}{Q:ue}(h:zW lo w own rb R wd mr mx Q)(p:Nat)(f:p<R.rows.length)(b:p<Q.tbs.length):∃g a,Q.rv=.slice (some ⟨g,0,none⟩) R.rows.length a/\g<w.heap.size/\w.cell? ⟨g,p,none⟩=some (.pointer (some ⟨Q.tbs[p],0,none⟩)):=by
 obtain⟨g,a,c,_,e,d⟩:=yx h.rows (by omega);exact⟨g,a,c,e,d p _ (by simp[QQ,b,pt])⟩
theorem zW.frow{own:Nat->zn}{Q:ue}(h:zW lo w own rb R wd mr mx Q)(p:Nat)(f:p<R.qo.length)(b:p<Q.fvs.length):∃g a,Q.fv=.slice (some ⟨g,0,none⟩) R.qo.length a/\g<w.heap.size/\w.cell? ⟨g,p,none⟩=some Q.fvs[p]:=by
 obtain⟨g,a,c,_,e,d⟩:=yx h.qo (by omega);exact⟨g,a,c,e,d p _ (by simp[b])⟩
theorem Ql:(prog.info? 161).map (fun i=>(i.zero,i.size,i.bytes))=some (some (ν),1,24):=by kernel_rfl
theorem tQ(w:World)(n:Nat)(T:TypeId)(z:Value)(b:n<=maxLen):(w.alloc (.cells (madeCells #[z] n) T)).ownsRow w.heap.size T 1 (.slice (some ⟨w.heap.size,0,none⟩) n n) n (List.replicate n z):=by
 refine⟨by simp,zb ⟨w.heap.size,n,madeCells #[z] n,rfl,zg _,?_,zg _,b,by rw[size_madeCells];omega,?_⟩⟩
 ·show(w.heap.push _)[w.heap.size]?=_;simp
 ·apply m7;intro i;by_cases a:i<n
  ·simp[a,madeCells,Nat.mod_one]
  ·simp[List.getElem?_take,a]
def Jt(lo:Nat)(w:World)(own:Nat->zn)(rb:Nat)(R:zy)(wd mr mx:Nat)(Q:ue)(e:Ending)(w':World):Prop:=e=ε (.tuple #[])/\∃b a,zW lo w' own rb (qF R) wd mr mx ⟨Q.rv,Q.tbs,b,a⟩/\QE lo (gA [214]) w own w' own
theorem RJ(w:World)(own:Nat->zn)(rb:Nat)(R:zy)(wd mr mx:Nat)(Q:ue)(h:zW lo w own rb R wd mr mx Q)(s:lo<=w.heap.size):
  Calls prog 120 #[(π rb)] w fun e D=>Jt lo w own rb R wd mr mx Q e D:=by
 obtain⟨v,E,o,z,m⟩:=info_parts Ql;obtain⟨K,J,I,U,L,T,O,M,S,N⟩:=h.at;obtain⟨F,u,B⟩:=zp h.rows;have j:=h.few.1;have H:=Q7 h;have G:=fun W:World=>run_make (P:=prog) (w:=W) 212 161 v _ underlying212 E o .i64 .i64 (R.rows.length:Int) (R.rows.length:Int) (by omega) (Int.le_refl _) (by rw[m];omega) (by omega);generalize C:R.rows.length=n at *;have A:=Q7 C;go_enter func120,ntmps120;go_wp2;refine zK (results_none rfl _ _ _) rfl ⟨rfl,.slice (some ⟨w.heap.size,0,none⟩) n n,List.replicate n (ν),?_,?_⟩
 ·have k:ze [rb] w (w.setCell ⟨rb,7,none⟩ (.slice (some ⟨w.heap.size,0,none⟩) n n)):=ze.set _ _ _ _;have t:=QU.box H.out.box;have i:(w.setCell ⟨rb,7,none⟩ (.slice (some ⟨w.heap.size,0,none⟩) n n)).heap.size=w.heap.size:=by simp[World.setCell]
  have r:=H.out.box.set 7 (.slice (some ⟨w.heap.size,0,none⟩) n n);have g:=yF H.out.rows k t (by decide);have p:=fun q a b=>(H.out.tries q a b).saveT k t (by decide);have d:=tQ (w.setCell ⟨rb,7,none⟩ (.slice (some ⟨w.heap.size,0,none⟩) n n)) n 161 (ν) (by unfold maxLen;omega);rw[i] at d;have f:Below (w.setCell ⟨rb,7,none⟩ (.slice (some ⟨w.heap.size,0,none⟩) n n)).heap.size (w.setCell ⟨rb,7,none⟩ (.slice (some ⟨w.heap.size,0,none⟩) n n)) ((w.setCell ⟨rb,7,none⟩ (.slice (some ⟨w.heap.size,0,none⟩) n n)).alloc (.cells (madeCells #[ν] n) 161)):=(by go_grown);have l:(qF R).qo=List.replicate n []:=by rw[qF,A.out]
  have c:(qF R).qo.length=n:=by rw[l,List.length_replicate]
  refine⟨H.out.low,by simpa [qF] using r.below f,zB g f,H.out.tlen,fun q a b=>(p q a b).below f,by rw[c];exact yt d s,by rw[c];simp,fun q a b=>?_,⟨H.out.few.1,by rw[c];exact j,H.out.few.2.2⟩,H.out.small⟩;simp only[l,wO];exact⟨⟨yD _ _ _ _,by simp⟩,fun x y=>by cases y⟩
 ·have i:(w.setCell ⟨rb,7,none⟩ (.slice (some ⟨w.heap.size,0,none⟩) n n)).heap.size=w.heap.size:=by simp[World.setCell]
  exact(QE.set own H.out.box H.out.low (show gA [214] 214 (own rb) from xG.2 rfl) 7 _).trans (QE.of own (by go_grown))
theorem F3(w:World)(own:Nat->zn)(rb:Nat)(R:zy)(wd mr mx:Nat)(Q:ue)(p:Nat)(h:zW lo w own rb R wd mr mx Q)(k:p<R.rows.length)(b:p<Q.tbs.length):
  Calls prog 205 #[(π rb),ι p] w fun e j=>e=ε (.pointer (some ⟨Q.tbs[p],0,none⟩))/\j=w:=by
 obtain⟨u,t,d,s,i,r,o,l,q,m⟩:=h.at;obtain⟨g,n,a,v,x⟩:=h.trie p k b;rw[a] at d;have f:(p:Int)<(R.rows.length:Int):=by omega
 have c:=h.few.1;clear h a s i r o l q m;generalize Q.tbs[p]=y at *;go_enter func205,ntmps205;go_wp2;go_ret;exact⟨rfl,rfl⟩
def ey(p:Nat):TypeId->zn->Prop:=fun t ρ=>t=165/\ρ=(0,p,1)
def lc(p:Nat):TypeId->zn->Prop:=fun t ρ=>(¬Rz t/\ρ=(0,p,0))∨t=214∨t=161∨ey p t ρ
theorem zW.setTrie{w':World}{own c:Nat->zn}{Q:ue}{p:Nat}{T:zi}(h:zW lo w own rb R wd mr mx Q)(j:p<R.rows.length)(g:p<Q.tbs.length)(i:yR lo w' c (0,p,0) Q.tbs[p] T)(m:QE lo (onT (·=(0,p,0))) w own w' c):zW lo w' c rb {R with rows:=R.rows.set p T} wd mr mx Q:=by
 have d:(R.rows.set p T).length=R.rows.length:=by simp
 refine⟨h.low,h.box.mod m (qV (by decide) _),by rw[d];exact vK h.rows m (qV (by decide)),by rw[d];exact h.tlen,fun q a b=>?_,vK h.qo m (qV (by decide)),h.flen,fun q a b=>⟨(h.jm q a b).1.mod m (qV (by decide)),fun x f=>?_⟩,by rw[d];exact h.few,h.small⟩
 ·by_cases e:q=p
  ·subst e;simp only[nD];exact i
  ·simp only[nO (Ne.symm e)];exact(h.tries q (by simpa using a) b).onT m (by simp[e])
 ·rw[m.old x (xI (h.jm q a b).1.1 f)];exact(h.jm q a b).2 x f
theorem zW.rebox{w':World}{own:Nat->zn}{R':zy}{Q:ue}(h:zW lo w own rb R wd mr mx Q)(hs:ze [rb] w w')(l:Q8 w' rb #[Q.rv,ι R'.count,ι R'.qw,ι R'.jf,ι wd,ι mr,ι mx,Q.fv] 214)(j:R'.rows=R.rows)(k:R'.qo=R.qo)(m:R'.count<=1048577/\R'.qw<=1048576):zW lo w' own rb R' wd mr mx Q:=by
 have g:=QU.box h.box;obtain⟨i,f,c,d,e⟩:=R';simp only at j k;subst j;subst k;exact⟨h.low,l,yF h.rows hs g (by decide),h.tlen,fun q a b=>(h.tries q a b).saveT hs g (by decide),yF h.qo hs g (by decide),h.flen,fun q a b=>⟨⟨yF (h.jm q a b).1.1 hs g (by decide),(h.jm q a b).1.2⟩,(h.jm q a b).2⟩,⟨h.few.1,h.few.2.1,m⟩,h.small⟩
theorem zW.pushFresh{o:World}{own:Nat->zn}{r v:Nat}{Q:ue}{p:Nat}{v':Value}{rs:List zm}(h:zW lo w own rb R wd mr mx Q)(L:p<R.qo.length)(E:p<Q.fvs.length)(u:Q.fv=.slice (some ⟨r,0,none⟩) R.qo.length v)(J:ze Q.fvs[p].ownBlock.toList w o)(G:QO lo o v' rs)(C:v'.ownBlock=Q.fvs[p].ownBlock∨∃g,v'.ownBlock=some g/\w.heap.size<=g):
  zW lo (o.setCell ⟨r,p,none⟩ v') (ext own w.heap.size (0,p,1)) rb {R with qo:=R.qo.set p rs} wd mr mx ⟨Q.rv,Q.tbs,Q.fv,Q.fvs.set p v'⟩/\QE lo (lc p) w own (o.setCell ⟨r,p,none⟩ v') (ext own w.heap.size (0,p,1)):=by
 have f:=h.jm p L E;have s:QE lo (ey p) w own o (ext own w.heap.size (0,p,1)):=⟨fun b B=>dH _ _ _ _ B,_,J,fun b B=>by
  have n:=yr B;obtain⟨c,O⟩:=uV f.1.1 n;exact⟨yV f.1.1 n,xI f.1.1 n,c,_,O,rfl,f.2 b n⟩⟩
 have D:∀{t:TypeId},t≠165->∀ρ,¬ey p t ρ:=fun K ρ q=>K q.1;have A:=vK h.qo s (D (by decide));have d:=A;rw[u] at d;have y:=uW d p (by omega) v';obtain⟨S,z⟩:=uV d (b:=r) rfl;have j:ze [r] o (o.setCell ⟨r,p,none⟩ v'):=ze.set _ _ _ _;have m:=QU.box z;have k:(R.qo.set p rs).length=R.qo.length:=by simp
 have F:=yV d rfl;refine⟨⟨h.low,(h.box.mod s (D (by decide) _)).saveT j m (by decide),yF (vK h.rows s (D (by decide))) j m (by decide),h.tlen,fun q a b=>((h.tries q a b).mod s (fun t M q=>M (by rw[q.1];decide))).saveT j m (by decide),by rw[k,u];exact y,by rw[k];simpa using h.flen,fun q a b=>?_,⟨h.few.1,by rw[k];exact h.few.2.1,h.few.2.2⟩,h.small⟩,?_⟩
 ·by_cases e:q=p
  ·subst e;simp only[nD];refine⟨⟨yF G.1 j m (by decide),G.2⟩,fun x i=>?_⟩;rcases C with e|⟨g,e,N⟩
   ·rw[e] at i;rw[dH _ _ _ _ (xI f.1.1 i)];exact f.2 x i
   ·rw[e] at i;simp only[zt] at i;subst i;simp[ext,Nat.not_lt.2 N]
  ·simp only[nO (Ne.symm e)];have I:q<R.qo.length:=by simpa using a
   have H:q<Q.fvs.length:=by simpa using b
   have l:=h.jm q I H;refine⟨⟨yF (l.1.modR s fun x i P=>e (by have:=l.2 x i;rw[P.2] at this;simp at this;exact this.symm)).1 j m (by decide),l.1.2⟩,fun x i=>?_⟩;rw[dH _ _ _ _ (xI l.1.1 i)];exact l.2 x i
 ·exact(s.more fun t ρ q=>zb (zb (zb q))).trans (QE.set _ z F (zb (zb (zf rfl))) _ _)
def Gl(lo:Nat)(w:World)(own:Nat->zn)(rb p:Nat)(R':zy)(b:Bool)(wd mr mx:Nat)(Q:ue)(e:Ending)(w':World):Prop:=e=ε (.bool b)/\∃a c,zW lo w' a rb R' wd mr mx ⟨Q.rv,Q.tbs,Q.fv,c⟩/\QE lo (lc p) w own w' a
theorem oO{R':zy}{p:Nat}{row:zm}{b:Bool}(h:addR mr R p row=some (R',b)):p<R.rows.length/\p<R.qo.length/\okT (R.rows.getD p zi.zero)=true/\R.count<=1048576/\(R.qo.getD p []).length<=1048576/\((addP (R.rows.getD p zi.zero) row R.qw).2=false/\R'={R with rows:=R.rows.set p (addP (R.rows.getD p zi.zero) row R.qw).1}/\b=true∨(addP (R.rows.getD p zi.zero) row R.qw).2=true/\R'={R with rows:=R.rows.set p (addP (R.rows.getD p zi.zero) row R.qw).1,qo:=R.qo.set p (R.qo.getD p []++[row]),count:=R.count+1}/\b=decide (R.count+1<=mr)):=by
 unfold addR at h;split at h
 ·rename_i f;obtain⟨e,g,i,d,c⟩:=f;refine⟨e,g,i,d,c,?_⟩;rcases a:addP (R.rows.getD p zi.zero) row R.qw with⟨T,_|_⟩
  ·rw[a] at h;simp only[zt,ya] at h;exact zf ⟨rfl,h.1.symm,h.2.symm⟩
  ·rw[a] at h;simp only[zt,ya] at h;exact zb ⟨rfl,h.1.symm,h.2.symm⟩
 ·cases h
theorem BT(w:World)(own:Nat->zn)(rb:Nat)(R R':zy)(wd mr mx:Nat)(Q:ue)(p x y z:Nat)(b:Bool)(h:zW lo w own rb R wd mr mx Q)(bK:lo<=w.heap.size)(hr:addR mr R p [x,y,z]=some (R',b)):
  Calls prog 121 #[(π rb),ι p,.agg #[ι x,ι y,ι z]] w fun e A=>Gl lo w own rb p R' b wd mr mx Q e A:=by
 obtain⟨i0,hi,aZ,bz,b4⟩:=info_parts Qu;obtain⟨N,u,a9,bB,bt,c⟩:=oO hr;have ae:p<Q.tbs.length:=by rw[h.tlen];exact N
 have D:p<Q.fvs.length:=by rw[h.flen];exact u
 obtain⟨hl,hf,h0,h1,h2,h3,h4,h5,h6,h7⟩:=h.at;obtain⟨g,aC,az,hg,hc⟩:=h.trie p N ae;obtain⟨gf,aw,a4,bR,b2⟩:=h.frow p u D;rw[az] at h0;rw[a4] at h7;have HR:=Q7 h;have a6:=Q7 az;have ab:=Q7 a4;have aQ:R.rows.getD p zi.zero=R.rows[p]:=by simp[N]
 have aK:R.qo.getD p []=R.qo[p]:=by simp[u]
 rw[aQ] at a9 c;rw[aK] at c bt;have HT:=Q7 (h.tries p N ae);have an:=Q7 fun W hW=>ty W own (0,p,0) Q.tbs[p] R.rows[p] x y z R.qw (HT.out.below hW) a9;have bF:(p:Int)<(R.rows.length:Int):=by omega
 have bH:(p:Int)<(R.qo.length:Int):=by omega
 have bI:=h.small.2.1;have b7:=h.few.1;have bk:=h.few.2.1;have aT:=Q7 fun W A am (T:zi) (hW:μ w W) (hT:yR lo A am (0,p,0) Q.tbs[p] T) (m:QE lo (onT (·=(0,p,0))) W own A am)=>(HR.out.below hW).setTrie N ae hT m;have F:Hid ((addP R.rows[p] [x,y,z] R.qw).2=false/\R'={R with rows:=R.rows.set p (addP R.rows[p] [x,y,z] R.qw).1}/\b=true∨(addP R.rows[p] [x,y,z] R.qw).2=true/\R'={R with rows:=R.rows.set p (addP R.rows[p] [x,y,z] R.qw).1,qo:=R.qo.set p (R.qo[p]++[[x,y,z]]),count:=R.count+1}/\b=decide (R.count+1<=mr)):=c;have b5:=Q7 fun b (hb:Q.fvs[p].ownBlock=some b)=>xI (h.jm p u D).1.1 hb;clear h az a4 a9 c aQ aK h1 h3 h4 h5 h6;have bO:Hid (Q.tbs[p]=Q.tbs[p]):=rfl;generalize bA:(addP R.rows[p] [x,y,z] R.qw).1=T' at *;clear bA;generalize bm:(addP R.rows[p] [x,y,z] R.qw).2=a3 at *;clear bm;have aE:=Q8.new w #[ι x,ι y,ι z] 165;go_enter func121,ntmps121;go_wp2;go_region_held3 (fun A=>A.cell? ⟨rb,0,none⟩=some (.slice (some ⟨g,0,none⟩) R.rows.length aC)/\A.cell? ⟨g,p,none⟩=some (.pointer (some ⟨Q.tbs[p],0,none⟩))/\A.cell? ⟨rb,2,none⟩=some (ι R.qw)/\A.cell? ⟨w.heap.size,0,none⟩=some (ι x)/\A.cell? ⟨w.heap.size,1,none⟩=some (ι y)/\A.cell? ⟨w.heap.size,2,none⟩=some (ι z)) (first|(exact⟨a7,aL,aG,l,s,B⟩)|go_keep|(go_simp;done)) (first|(go_at_call 163;refine(an.out _ (by exact(by go_grown))).mono ?_;rintro e E ⟨rfl,aR,ag⟩;have aA:μ w _:=(show μ w (w.alloc (.cells #[ι x,ι y,ι z] 165)).drew from(by go_grown));have al:=aT.out _ _ _ _ aA aR ag;obtain⟨aY,bv,a7,b6,aG,bg,aW,aX,bf,ak⟩:=al.at;rw[a6.out] at a7;rw[ab.out] at ak;have j:=(aE.drew).mod ag (qV (by decide) _);have l:=j.rules.1 0;have s:=j.rules.1 1;have B:=j.rules.1 2;simp only[lU,f6,l8] at l s B;obtain⟨g',bD,G,bN,aL⟩:=al.trie p (by simpa using N) ae;rw[a6.out] at G;simp only[Value.slice.injEq,zt,Addr.mk.injEq,and_true] at G;have a5:=G.1;clear G;subst a5))
 have ax:QE lo (lc p) w own E _:=(QE.of own aA).trans (ag.more fun _ _ q=>zf q);have o:Hid (zW lo E (ext own (w.alloc (.cells #[ι x,ι y,ι z] 165)).drew.heap.size (0,p,0)) rb {R with rows:=R.rows.set p T'} wd mr mx Q):=al;have Y:Hid (QE lo (lc p) w own E (ext own (w.alloc (.cells #[ι x,ι y,ι z] 165)).drew.heap.size (0,p,0))):=ax;clear al ax aR ag HT an aT hc h0 h2 h7 b2 hl hf aE aA a6;generalize ext own (w.alloc (.cells #[ι x,ι y,ι z] 165)).drew.heap.size (0,p,0)=ac at *;cases a3 with
 |false=>
  have c:=F.out;simp only[gJ,false_and,or_false,true_and] at c;obtain⟨rfl,rfl⟩:=c;go_wp2;go_ret;exact⟨rfl,ac,Q.fvs,o.out,Y.out⟩
 |true=>
  have c:=F.out;simp only[Bool.true_eq_false,false_and,false_or,true_and] at c;have aS:=Q7 c.1;have bc:=Q7 c.2;clear c F;obtain⟨bP,br,J,bG,M⟩:=o.out.frow p u D;rw[ab.out] at J;simp only[Value.slice.injEq,zt,Addr.mk.injEq,and_true] at J;have a5:=J.1;clear J;subst a5;have t:=(o.out.jm p u D).1.1;obtain⟨ad,C,af⟩:=zp t;rw[af] at M;have ah:Hid (Q.fvs[p]=.slice ad R.qo[p].length C):=af;rw[af] at t;clear af;have aV:Hid (∀r∈R.qo[p],r.length=3):=(o.out.jm p u D).1.2;have bJ:=Y.out.size;have bC:=j.lt;have av:=Q7 j;generalize au:R.qo[p].length=fl at *;have aP:=Q7 au;clear au j bg aW bf aL;go_wp2;refine wp_region_noPanic ?_;refine eP (S:=fun A=>A.cell? ⟨rb,7,none⟩=some (.slice (some ⟨gf,0,none⟩) R.qo.length aw)/\A.cell? ⟨gf,p,none⟩=some (.slice ad fl C)/\A.cell? ⟨w.heap.size,0,none⟩=some (ι x)/\A.cell? ⟨w.heap.size,1,none⟩=some (ι y)/\A.cell? ⟨w.heap.size,2,none⟩=some (ι z)) (d:=16) (by kernel_rfl) ⟨ak,M,l,s,B⟩ (fun a=>?_);refine xV (i:=0) (v:=?v0) rfl (by kernel_rfl) (by kernel_rfl) (by kernel_rfl) (by kernel_rfl) (fun _ _ _ h=>h) (zf ⟨by rfl,?hy0⟩) a ?rest0
  case hy0=>
   intro O f;go_simp
   (try with_reducible rfl)
  refine xV (i:=1) (v:=?v1) rfl (by kernel_rfl) (by kernel_rfl) (by kernel_rfl) (by kernel_rfl) (fun _ _ _ h=>h) (zf ⟨by rfl,?hy1⟩) a ?rest1
  case hy1=>
   intro O f;go_simp
   (try with_reducible rfl)
  refine xV (i:=2) (v:=?v2) rfl (by kernel_rfl) (by kernel_rfl) (by kernel_rfl) (by kernel_rfl) (fun _ _ _ h=>h) (zf ⟨by rfl,?hy2⟩) a ?rest2
  case hy2=>
   intro O f;go_simp
   (try with_reducible rfl)
  refine xV (i:=3) (v:=?v3) rfl (by kernel_rfl) (by kernel_rfl) (by kernel_rfl) (by kernel_rfl) (fun _ _ _ h=>h) (zf ⟨by rfl,?hy3⟩) a ?rest3
  case hy3=>
   intro O f;go_simp
   (try with_reducible rfl)
  refine xV (i:=4) (v:=?v4) rfl (by kernel_rfl) (by kernel_rfl) (by kernel_rfl) (by kernel_rfl) (fun _ _ _ h=>h) (zf ⟨by rfl,?hy4⟩) a ?rest4
  case hy4=>
   intro O f;go_simp
   (try with_reducible rfl)
  refine xV (i:=5) (v:=?v5) rfl (by kernel_rfl) (by kernel_rfl) (by kernel_rfl) (by kernel_rfl) (fun _ _ _ h=>h) (zf ⟨by rfl,?hy5⟩) a ?rest5
  case hy5=>
   intro O f;go_simp
   (try with_reducible rfl)
  refine xV (i:=6) (v:=?v6) rfl (by kernel_rfl) (by kernel_rfl) (by kernel_rfl) (by kernel_rfl) (fun _ _ _ h=>h) (zf ⟨by rfl,?hy6⟩) a ?rest6
  case hy6=>
   intro O f;go_simp
   (try with_reducible rfl)
  refine xV (i:=7) (v:=?v7) rfl (by kernel_rfl) (by kernel_rfl) (by kernel_rfl) (by kernel_rfl) (fun _ _ _ h=>h) (zf ⟨by rfl,?hy7⟩) a ?rest7
  case hy7=>
   intro O f;go_simp
   (try with_reducible rfl)
  refine xV (i:=8) (v:=?v8) rfl (by kernel_rfl) (by kernel_rfl) (by kernel_rfl) (by kernel_rfl) (fun _ _ _ h=>h) (zf ⟨by rfl,?hy8⟩) a ?rest8
  case hy8=>
   intro O f;go_simp
   (try with_reducible rfl)
  refine xV (i:=9) (v:=?v9) rfl (by kernel_rfl) (by kernel_rfl) (by kernel_rfl) (by kernel_rfl) (fun _ _ _ h=>h) (zf ⟨by rfl,?hy9⟩) a ?rest9
  case hy9=>
   intro O f;go_simp
   (try with_reducible rfl)
  refine xV (i:=10) (v:=?v10) rfl (by kernel_rfl) (by kernel_rfl) (by kernel_rfl) (by kernel_rfl) (fun _ _ _ h=>h) (zf ⟨by rfl,?hy10⟩) a ?rest10
  case hy10=>
   intro O f;go_simp
   (try with_reducible rfl)
  refine xV (i:=11) (v:=?v11) rfl (by kernel_rfl) (by kernel_rfl) (by kernel_rfl) (by kernel_rfl) (fun _ _ _ h=>h) (zf ⟨by rfl,?hy11⟩) a ?rest11
  case hy11=>
   intro O f;go_simp
   (try with_reducible rfl)
  refine xV (i:=12) (v:=?v12) rfl (by kernel_rfl) (by kernel_rfl) (by kernel_rfl) (by kernel_rfl) (fun _ _ _ h=>h) (zf ⟨by rfl,?hy12⟩) a ?rest12
  case hy12=>
   intro O f;go_simp
   (try with_reducible rfl)
  refine gQ (i:=13) (by kernel_rfl) rfl (fun K hK=>?_);go_simp
  have U:μ E (E.alloc (.cells #[ι x,ι y,ι z] 165)).drew:=(by go_grown);refine hK.out _ _ (fun _=>⟨(Below.cell (p:=⟨rb,7,none⟩) U (show rb<E.heap.size by omega)).trans ak,(Below.cell (p:=⟨gf,p,none⟩) U (show gf<E.heap.size by omega)).trans M,(Below.cell (p:=⟨w.heap.size,0,none⟩) U (show w.heap.size<E.heap.size by omega)).trans l,(Below.cell (p:=⟨w.heap.size,1,none⟩) U (show w.heap.size<E.heap.size by omega)).trans s,(Below.cell (p:=⟨w.heap.size,2,none⟩) U (show w.heap.size<E.heap.size by omega)).trans B⟩) ?_;clear hK K a;refine gQ (i:=14) (by kernel_rfl) rfl (fun K hK=>?_);refine dE E _ [ι x,ι y,ι z] 165 rfl (.tmp 57) (.tmp 59) 161 rfl lo 165 i0 _ 3 24 underlying161 hi aZ bz b4 rfl (by decide) (.slice ad fl C) fl (jC R.qo[p]) (by simp[Act.eval]) t (by exact U) E.heap.size 1 (by simp[Act.eval]) (by exact Q8.drew (Q8.new _ _ _)) rfl (by simp[Value.oneCell']) (by omega) (by omega) (by omega) ?_;intro v' w3 a8 X ao b1 bE;obtain⟨aj,I,rfl⟩:=zp a8;have aD:=QU.own t;have ap:=o.out.box.saveT X aD (by decide);have ai:=ap.rules.1 7;simp only[lU,f6,l8] at ai;rw[ab.out] at ai;have L:=yF o.out.qo X aD (by decide);rw[ab.out] at L;have ay:w3.cell? ⟨gf,p,none⟩=some (.slice ad fl C):=by
   obtain⟨bM,bs,aq,_,_,a1⟩:=yx L (show 0<R.qo.length by omega);simp only[Value.slice.injEq,zt,Addr.mk.injEq,and_true] at aq;have e:=aq.1;subst e;have:=a1 p Q.fvs[p] (by simp[D]);rw[ah.out] at this;exact this
  have aU:=qO L;have H:=av.out.save X (fun hm=>by
   have:=b5.out w.heap.size (by rw[ah.out];exact yr hm);omega)
  have Z:=H.rules.1 0;have aa:=H.rules.1 1;have V:=H.rules.1 2;simp only[lU,f6,l8] at Z aa V;have k:w3.cell? ⟨rb,7,none⟩=some (.slice (some ⟨gf,0,none⟩) R.qo.length aw)/\w3.cell? ⟨gf,p,none⟩=some (.slice ad fl C)/\w3.cell? ⟨w.heap.size,0,none⟩=some (ι x)/\w3.cell? ⟨w.heap.size,1,none⟩=some (ι y)/\w3.cell? ⟨w.heap.size,2,none⟩=some (ι z):=⟨ai,ay,Z,aa,V⟩;refine hK.out _ _ (fun _=>k) ?_;clear hK K;refine xV (i:=15) (v:=?v15) rfl (by kernel_rfl) (by kernel_rfl) (by kernel_rfl) (by kernel_rfl) (fun _ _ _ h=>h) (zf ⟨by rfl,?hy15⟩) k ?rest15
  case hy15=>
   intro O f;go_simp
   (try with_reducible rfl)
  refine gQ (i:=16) (by kernel_rfl) rfl (fun K hK=>?_);go_simp
  refine hK.out _ _ (fun hq=>zC rfl hq) ?_;clear hK K;refine Af (by kernel_rfl) ?_ _;refine NoPanic.normal ?_;have hP:=zW.pushFresh (v':=.slice aj (fl+1) I) (rs:=R.qo[p]++[[x,y,z]]) o.out u D ab.out (by rw[ah.out];exact X) ⟨by rw[yq,aP.out];simpa [jC,Rm] using a8,fun r hr=>by rcases zI.1 hr with q|q;exact aV.out r q;simp at q;subst q;rfl⟩ (by rw[ah.out];exact ao);obtain⟨aI,aB⟩:=hP;have P:Hid (zW lo (w3.setCell ⟨gf,p,none⟩ (.slice aj (fl+1) I)) (ext ac E.heap.size (0,p,1)) rb {R with rows:=R.rows.set p T',qo:=R.qo.set p (R.qo[p]++[[x,y,z]])} wd mr mx ⟨Q.rv,Q.tbs,Q.fv,Q.fvs.set p (.slice aj (fl+1) I)⟩):=aI;have bw:=Q7 (Y.out.trans aB);clear aI aB k ai ay aU Z aa V ap L H a7 b6 aG aX ak l s B M aY bv o av t a8 X ao b1;generalize ext ac E.heap.size (0,p,1)=n at *;generalize w3.setCell ⟨gf,p,none⟩ (.slice aj (fl+1) I)=w5 at *;obtain⟨b8,bq,bu,aM,be,b9,ba,aO,b0,bi⟩:=P.out.at;simp only at aM aO;clear bu be b9 ba b0 bi;have ar:=P.out.box.set 1 (ι ((R.count:Int)+1));have aH:ze [rb] w5 (w5.setCell ⟨rb,1,none⟩ (ι ((R.count:Int)+1))):=ze.set _ _ _ _;have aN:QE lo (lc p) w5 n (w5.setCell ⟨rb,1,none⟩ (ι ((R.count:Int)+1))) n:=QE.set n P.out.box P.out.low (zb (zf rfl)) _ _;have a0:=P.out.rebox (R':={R with rows:=R.rows.set p T',qo:=R.qo.set p (R.qo[p]++[[x,y,z]]),count:=R.count+1}) aH (by simpa using ar) rfl rfl ⟨by show R.count+1<=1048577;omega,P.out.few.2.2.2⟩;rw[←aS.out] at a0;have aJ:=Q7 a0;have bh:=Q7 (bw.out.trans aN);clear a0 aN ar aH;go_upto_region 8 with fail
  generalize w5.setCell ⟨rb,1,none⟩ (ι ((R.count:Int)+1))=w6 at *;obtain⟨bL,bQ,b3,a2,bn,bb,bp,bS,bd,bx⟩:=aJ.out.at;rw[aS.out] at a2;simp only at a2;have aF:((R.count+1:Nat):Int)=(R.count:Int)+1:=by omega
  rw[aF] at a2;clear b3 bn bb bp bd bx aM aO b8 bq aF;go_quiet (fail)
  go_wp2;go_ret;have bo:decide ((R.count:Int)+1<=(mr:Int))=b:=by rw[bc.out];exact decide_eq_decide.2 (by omega)
  exact⟨by rw[←bo];rfl,n,_,aJ.out.below (zJ (zo _ _) _),bh.out.trans (QE.of n (zJ (zo _ _) _))⟩
end
section
variable {lo:Nat}{w w':World}{own':Nat->zn}
def SJ:TypeId->zn->Prop:=gA [310,323]
def kl(p:Nat):TypeId->zn->Prop:=orK (lc p) SJ
theorem BA{l:List TypeId}{t:TypeId}{ρ:zn}(h:t∈l):gA l t ρ:=h
theorem kW{l:List TypeId}{t:TypeId}(h:t∉l):∀ρ,¬gA l t ρ:=fun _ q=>h q
theorem QW.mod{ok:TypeId->zn->Prop}{w w':World}{own own':Nat->zn}{d:Nat}{J:z9}{P:xy}(h:QW lo w d J P)(m:QE lo ok w own w' own')(j:∀ρ,¬ok 310 ρ)(g:∀ρ,¬ok 323 ρ)(i:∀ρ,¬ok 325 ρ)(e:∀ρ,¬ok 327 ρ)(c:∀ρ,¬ok 284 ρ)(f:∀x∈P.tbs,∀b∈x.2,∀t,¬Rz t->¬ok t (own b))(l:∀x∈P.bps,∀b∈x.2.2,∀t,¬Rz t->¬ok t (own b)):QW lo w' d J P:=
 ⟨h.low,h.box.mod m (j _),h.head.mod m c,vK h.qy m g,h.slen,fun k a b=>(h.tries k a b).mod m (f _ (zs b)),h.qi,vK h.bars m i,h.blen,fun k a b=>⟨(h.ji k a b).1.mod m c,(h.ji k a b).2.mod m (l _ (zs b))⟩,h.hlen,fun p a b=>⟨vK (h.je p a b).1 m e,(h.je p a b).2⟩,h.jk,h.few⟩
def n4(own:Nat->zn)(P:xy)(p:Nat):Prop:=(∀x∈P.tbs,∀b∈x.2,own b≠(0,p,0))/\(∀x∈P.bps,∀b∈x.2.2,own b≠(0,p,0))
theorem QW.add{own:Nat->zn}{o p:Nat}{J:z9}{P:xy}(h:QW lo w o J P)(m:QE lo (lc p) w own w' own')(j:n4 own P p):QW lo w' o J P/\n4 own' P p:=by
 have g:∀{t:TypeId},Rz t->t≠214->t≠161->t≠165->∀ρ,¬lc p t ρ:=fun a b c d ρ q=>by
  rcases q with q|q|q|q
  ·exact q.1 a
  ·exact b q
  ·exact c q
  ·exact d q.1
 have n:∀{t:TypeId} {ρ:zn},¬Rz t->ρ≠(0,p,0)->¬lc p t ρ:=fun a b q=>by
  rcases q with q|q|q|q
  ·exact b q.2
  ·subst q;exact a (by decide)
  ·subst q;exact a (by decide)
  ·rw[q.1] at a;exact a (by decide)
 refine⟨h.mod m (g (by decide) (by decide) (by decide) (by decide)) (g (by decide) (by decide) (by decide) (by decide)) (g (by decide) (by decide) (by decide) (by decide)) (g (by decide) (by decide) (by decide) (by decide)) (g (by decide) (by decide) (by decide) (by decide)) (fun x f b e t l=>n l (j.1 x f b e)) (fun x f b e t l=>n l (j.2 x f b e)),fun x f b e=>?_,fun x f b e=>?_⟩
 ·obtain⟨k,i,rfl⟩:=qk f;rw[m.old b ((h.tries k (by rw[←h.slen];exact i) i).lt b e).2];exact j.1 _ f b e
 ·obtain⟨k,i,rfl⟩:=qk f;rw[m.old b ((h.ji k (by rw[←h.blen];exact i) i).2.lt b e).2];exact j.2 _ f b e
theorem QE.ofNext{own:Nat->zn}{e:Nat}{J:z9}{P:xy}(h:QW lo w e J P)(hs:ze (e::P.sv.ownBlock.toList) w w'):QE lo SJ w own w' own:=
 QE.ofSave own hs fun b d=>by
  rcases zx.1 d with rfl|d
  ·exact⟨h.low,h.box.lt,_,_,h.box,BA (by decide)⟩
  ·have a:=yr d;obtain⟨c,f⟩:=uV h.qy a;exact⟨yV h.qy a,xI h.qy a,c,_,f,BA (by decide)⟩
theorem zW.modJ{own:Nat->zn}{c:Nat}{R:zy}{wd mr mx:Nat}{Q:ue}(h:zW lo w own c R wd mr mx Q)(m:QE lo SJ w own w' own'):zW lo w' own' c R wd mr mx Q:=
 h.mod m (kW (by decide)) (kW (by decide)) (kW (by decide)) (fun _=>kW (by decide) _) (fun q t b a=>by
  rcases zx.1 a with rfl|a
  ·exact b (by decide)
  ·rcases zx.1 a with rfl|a
   ·exact b (by decide)
   ·cases a)
def wE(lo:Nat)(w:World)(own:Nat->zn)(c p:Nat)(R':zy)(b:Bool)(wd mr mx:Nat)(Q:ue)(e:Ending)(w':World):Prop:=e=ε (.bool b)/\∃own' a,zW lo w' own' c R' wd mr mx ⟨Q.rv,Q.tbs,Q.fv,a⟩/\QE lo (kl p) w own w' own'
theorem Ew(w:World)(own:Nat->zn)(x E:Nat)(R R':zy)(J:z9)(P:xy)(wd mr mx:Nat)(Q:ue)(p n:Nat)(b:Bool)(h:zW lo w own x R wd mr mx Q)(hj:QW lo w E J P)(F:n4 own P p)(au:lo<=w.heap.size)(hr:vH mr p n R J=some (R',b)):
  Calls prog 208 #[(π x),ι p,(π E)] w fun e w'=>wE lo w own x p R' b wd mr mx Q e w':=by
 have HR:=Q7 hr;have H0:Hid (zW lo w own x R wd mr mx ⟨Q.rv,Q.tbs,Q.fv,Q.fvs⟩/\QW lo w E J P/\n4 own P p):=⟨h,hj,F⟩;have aa:Hid (QE lo (kl p) w own w own):=QE.refl w own;clear h hj F hr;go_enter func208,ntmps208;go_wp2;go_loopg [] n (fun k wr=>∃(t:zy) (Jk:z9) (a:Nat->zn) (H:List Value),Hid (vH mr p k t Jk=some (R',b))/\Hid (zW lo wr a x t wd mr mx ⟨Q.rv,Q.tbs,Q.fv,H⟩/\QW lo wr E Jk P/\n4 a P p)/\Hid (QE lo (kl p) w own wr a))
 case atStart=>exact⟨R,J,own,Q.fvs,HR,H0,aa⟩
 case round=>
  clear HR H0 aa;obtain⟨t,Jk,a,H,HQ,HK,HM⟩:=hrel;have ap:=HM.out.size;cases gk with
  |zero=>have q:=HQ.out;simp[vH] at q
  |succ m=>
   have q:=HQ.out;unfold vH at q;cases hn:f5 m Jk with
   |none=>rw[hn] at q;cases q
   |some ar=>
    obtain⟨f,bn⟩:=ar;rw[hn] at q;have N:=Q7 (So wr E Jk P m f bn HK.out.2.1 hn);have U:Hid (∀W,QW lo W E f P->ze (E::P.sv.ownBlock.toList) wr W->(zW lo W a x t wd mr mx ⟨Q.rv,Q.tbs,Q.fv,H⟩/\QW lo W E f P/\n4 a P p)/\QE lo (kl p) w own W a):=fun W h1 h2=>by
     have m:=QE.ofNext (own:=a) HK.out.2.1 h2;exact⟨⟨HK.out.1.modJ m,h1,HK.out.2.2⟩,HM.out.trans (m.more fun _ _ q=>zb q)⟩
    clear hn HQ;cases bn with
    |false=>
     simp only[zt,ya] at q;have HE:=Q7 q;clear q;go_wp2_with (go_at_call 215;refine N.out.mono ?_;rintro e G ⟨rfl,g,o⟩;obtain⟨u,j⟩:=U.out _ g o;clear g o)
     obtain⟨l,ah,ad⟩:=u;have aw:=Q7 l;have z:=Q7 j;have am:=Q7 fun W hW=>OR W E f P (ah.below hW);obtain⟨aq,av,_,_,_,D,_,_,_,_⟩:=l.at;have ac:=l.box.set 3 (ι (IntKind.i64.wrap (t.jf+f.jf)));have ab:ze [x] G (G.setCell ⟨x,3,none⟩ (ι (IntKind.i64.wrap (t.jf+f.jf)))):=ze.set _ _ _ _;have af:QE lo (kl p) G a (G.setCell ⟨x,3,none⟩ (ι (IntKind.i64.wrap (t.jf+f.jf)))) a:=QE.set a l.box l.low (zf (zb (zf rfl))) _ _;have O:=l.rebox (R':={t with jf:=IntKind.i64.wrap (t.jf+f.jf)}) ab (by simpa using ac) rfl rfl l.few.2.2;rw[HE.out.1] at O;have al:=Q7 O;have ak:=Q7 (z.out.trans af);clear O af ac ab l j ah ad;have ao:=IntWalk.i64_in;refine wp_region_noPanic ?_;refine eP (S:=fun w'=>w'.cell? ⟨x,3,none⟩=some (ι t.jf)) (d:=11) (by kernel_rfl) D (fun c=>?_);refine xV (i:=0) (v:=?v0) rfl (by kernel_rfl) (by kernel_rfl) (by kernel_rfl) (by kernel_rfl) (fun _ _ _ h=>h) (zf ⟨by rfl,?hy0⟩) c ?rest0
     case hy0=>
      intro X B;go_simp
      (try with_reducible rfl)
     refine xV (i:=1) (v:=?v1) rfl (by kernel_rfl) (by kernel_rfl) (by kernel_rfl) (by kernel_rfl) (fun _ _ _ h=>h) (zf ⟨by rfl,?hy1⟩) c ?rest1
     case hy1=>
      intro X B;go_simp
      (try with_reducible rfl)
     refine xV (i:=2) (v:=?v2) rfl (by kernel_rfl) (by kernel_rfl) (by kernel_rfl) (by kernel_rfl) (fun _ _ _ h=>h) (zf ⟨by rfl,?hy2⟩) c ?rest2
     case hy2=>
      intro X B;go_simp
      (try with_reducible rfl)
     refine xV (i:=3) (v:=?v3) rfl (by kernel_rfl) (by kernel_rfl) (by kernel_rfl) (by kernel_rfl) (fun _ _ _ h=>h) (zf ⟨by rfl,?hy3⟩) c ?rest3
     case hy3=>
      intro X B;go_simp
      (try with_reducible rfl)
     refine xV (i:=4) (v:=?v4) rfl (by kernel_rfl) (by kernel_rfl) (by kernel_rfl) (by kernel_rfl) (fun _ _ _ h=>h) (zf ⟨by rfl,?hy4⟩) c ?rest4
     case hy4=>
      intro X B;go_simp
      (try with_reducible rfl)
     refine xV (i:=5) (v:=?v5) rfl (by kernel_rfl) (by kernel_rfl) (by kernel_rfl) (by kernel_rfl) (fun _ _ _ h=>h) (zf ⟨by rfl,?hy5⟩) c ?rest5
     case hy5=>
      intro X B;go_simp
      (try with_reducible rfl)
     refine gQ (i:=6) (by kernel_rfl) rfl (fun K A=>?_);go_simp
     refine(am.out _ (by exact(zJ (zo _ _) 1))).mono ?_;rintro e I ⟨rfl,rfl⟩;refine A.out _ _ (fun _=>D) ?_;clear A K;refine xV (i:=7) (v:=?v7) rfl (by kernel_rfl) (by kernel_rfl) (by kernel_rfl) (by kernel_rfl) (fun _ _ _ h=>h) (zf ⟨by rfl,?hy7⟩) c ?rest7
     case hy7=>
      intro X B;go_simp
      (try with_reducible rfl)
     refine gQ (i:=8) (by kernel_rfl) rfl (fun K A=>?_);go_simp
     refine A.out _ _ (fun _=>D) ?_;clear A K;refine gQ (i:=9) (by kernel_rfl) rfl (fun K A=>?_);go_simp
     refine A.out _ _ (fun _=>D) ?_;clear A K;refine gQ (i:=10) (by kernel_rfl) rfl (fun K A=>?_);go_simp
     refine A.out _ _ (fun _=>D) ?_;clear A K;refine gQ (i:=11) (by kernel_rfl) rfl (fun K A=>?_);go_simp
     refine A.out _ _ (fun hq=>zC rfl hq) ?_;clear A K;refine Af (by kernel_rfl) ?_ _;refine NoPanic.normal ?_;have Y:Below (G.setCell ⟨x,3,none⟩ (ι (IntKind.i64.wrap (t.jf+f.jf)))).heap.size (G.setCell ⟨x,3,none⟩ (ι (IntKind.i64.wrap (t.jf+f.jf)))) (G.setCell ⟨x,3,none⟩ (ι (IntKind.i64.wrap (t.jf+f.jf)))).drew:=(by go_grown);have hf:=HE.out.2;go_wp2;go_ret;exact⟨by rw[←hf];rfl,a,H,al.out.below Y,ak.out.trans (QE.of a Y)⟩
    |true=>
     dsimp only at q;cases Z:addR mr t p (zF f.head f.ja) with
     |none=>rw[Z] at q;cases q
     |some an=>
      obtain⟨R3,b3⟩:=an;simp only[Z] at q;have ae:=Q7 fun W (hW:QW lo W E f P)=>PA W E f P hW;rw[O9] at Z;have ag:=Q7 fun W (hl:lo<=W.heap.size) (hW:zW lo W a x t wd mr mx ⟨Q.rv,Q.tbs,Q.fv,H⟩)=>BT W a x t R3 wd mr mx _ p _ _ _ b3 hW hl Z;generalize Q9 f.head f.ja 0=r0 at *;generalize Q9 f.head f.ja 1=r1 at *;generalize Q9 f.head f.ja 2=r2 at *;clear Z;cases b3 with
      |false=>
       simp only[zt,ya] at q;have HE:=Q7 q;clear q;go_wp2_with (first|(go_at_call 215;refine N.out.mono ?_;rintro e G ⟨rfl,g,o⟩;obtain⟨u,j⟩:=U.out _ g o;clear g o;have y:=Q7 u;have z:=Q7 j;clear u j)|(go_at_call 216;refine(ae.out _ y.out.2.1).mono ?_;rintro e I ⟨rfl,s⟩)|(go_at_call 121;refine(ag.out _ (by exact(show lo<=(I.alloc (.cells #[ι r0,ι r1,ι r2] 165)).heap.size by rw[World.size_alloc];have:=s.size;have:=z.out.size;omega)) (by exact(y.out.1.below s).below (by go_grown))).mono ?_;rintro e w4 ⟨rfl,r,T,V,L⟩))
       go_ret;have C:QE lo (kl p) G a w4 r:=((QE.of a s).trans (QE.of a (show μ I (I.alloc (.cells #[ι r0,ι r1,ι r2] 165)) from(by go_grown)))).trans (L.more fun _ _ q=>zf q);exact⟨by rw[←HE.out.2];rfl,r,T,by rw[←HE.out.1];exact V,z.out.trans C⟩
      |true=>
       have aj:Hid (vH mr p m R3 f=some (R',b)):=q;clear q;go_wp2_with (first|(go_at_call 215;refine N.out.mono ?_;rintro e G ⟨rfl,g,o⟩;obtain⟨u,j⟩:=U.out _ g o;clear g o;have y:=Q7 u;have z:=Q7 j;clear u j)|(go_at_call 216;refine(ae.out _ y.out.2.1).mono ?_;rintro e I ⟨rfl,s⟩)|(go_at_call 121;refine(ag.out _ (by exact(show lo<=(I.alloc (.cells #[ι r0,ι r1,ι r2] 165)).heap.size by rw[World.size_alloc];have:=s.size;have:=z.out.size;omega)) (by exact(y.out.1.below s).below (by go_grown))).mono ?_;rintro e w4 ⟨rfl,r,T,V,L⟩))
       have M:μ I (I.alloc (.cells #[ι r0,ι r1,ι r2] 165)):=(by go_grown);have C:QE lo (kl p) G a w4 r:=((QE.of a s).trans (QE.of a M)).trans (L.more fun _ _ q=>zf q);have ai:=((y.out.2.1.below s).below M).add L y.out.2.2;go_roundg m
       case measure=>omega
       case rel=>exact⟨R3,f,r,T,aj,⟨V,ai.1,ai.2⟩,z.out.trans C⟩
end
end Go.Proofs.YteampbddflhngaaGreat
