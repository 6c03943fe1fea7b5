import Derived.Test.YteampbddflhngaaGreatA07
namespace Go.Proofs.YteampbddflhngaaGreat
open List renaming length→List.j,take→List.G,replicate→j_
open _root_.Array renaming size→Array.q
open _root_.ByteArray renaming size→ByteArray.q
open Go.RowKit.Below renaming size→Go.RowKit.Below.q,setCell→Go.RowKit.Below.x,mono→Go.RowKit.Below.y,trans→Go.RowKit.Below.A,alloc→Go.RowKit.Below.C,cell→g_
open Go.TypeInfo renaming size→Go.TypeInfo.q
open Go.RowKit.Hid renaming out→Go.RowKit.Hid.l
open Go.Shut renaming out→Go.Shut.l
open Go.World renaming heap→Go.World.o,setCell→Go.World.x,cell?→Go.World.p,alloc→Go.World.C,size_alloc→i_
open Go.Value renaming slice→Go.Value.k,cells→Go.Value.E,ownBlock→Go.Value.m,pointer→Go.Value.u
open Go.TypeDesc renaming slice→Go.TypeDesc.k,pointer→Go.TypeDesc.u
open Go.Calls renaming mono→Go.Calls.y
open Eq renaming trans→Eq.A
open Iff renaming trans→Iff.A
open Go.Obj renaming cells→Go.Obj.E
open Go.Value.slice renaming injEq→h_
open Go.Addr.mk renaming injEq→k_
open Option renaming some→Z,none→Y
open Go.RowKit renaming Hid→X,intOf→d_
open Go renaming World→U,Value→O,Calls→c_,TypeId→f_
open Go.Proofs.Tryz renaming prog→e_
set_option linter.all false
set_option maxRecDepth 100000
set_option maxHeartbeats 4000000
open Go.Proofs.Tryz Go.RowKit
section
variable {lo:Nat}{b0 wd bb fb ab:Nat}{w w':U}{c:Array O}{tv:O}{own2 own3:Nat->zo}
def UI.below'{v:O}{rs:List zl}(h:UI b0 w v rs)(a:μ w w'):UI b0 w' v rs:=⟨zy h.1 a,h.2⟩
structure VC (c:Array O) (o wd pred:Nat) (tv:O) (bb fb ab:Nat):Prop where
 c0:c[o]?=Z (ι pred)
 c1:c[o+1]?=Z tv
 c2:c[o+2]?=Z (ι wd)
 c3:c[o+3]?=Z ((π bb))
 c4:c[o+4]?=Z ((π fb))
 c5:c[o+5]?=Z ((π ab))
def VC.set{o a:Nat}(h:VC c o wd a tv bb fb ab)(b:Nat):VC (c.setIfInBounds (o+4) ((π b))) o wd a tv bb b ab:=by
 obtain⟨f,e,k,g,i,j⟩:=h;have d:=(kB.1 i).1;refine⟨?_,?_,?_,?_,?_,?_⟩;rw[tJ η];exact f;rw[tJ η];exact e;rw[tJ η];exact k;rw[tJ η];exact g;simp[d];rw[tJ η];exact j
def VC.E{g:Nat}{T:f_}{o a:Nat}(h:VC c o wd a tv bb fb ab)(d:U3 w g c T):g<w.o.q/\(∀q,w.frozen? (ω g q)=false)/\w.p (ω g o)=Z (ι a)/\w.p (ω g (o+1))=Z tv/\w.p (ω g (o+2))=Z (ι wd)/\w.p (ω g (o+3))=Z ((π bb))/\w.p (ω g (o+4))=Z ((π fb))/\w.p (ω g (o+5))=Z ((π ab)):=by
 obtain⟨b,e⟩:=d.H;exact⟨d.lt,e,(b _).A h.c0,(b _).A h.c1,(b _).A h.c2,(b _).A h.c3,(b _).A h.c4,(b _).A h.c5⟩
def lI(k i:Nat)(ρg:zo):f_->zo->Prop:=λt ρ=>(¬V2 t/\∃j,ρ=(k+1,i,j))∨(t=301/\ρ=ρg)
def UB.one{own own':Nat->zo}{k i j:Nat}{ρg:zo}(h:UB lo (onT (·=(k+1,i,j))) w own w' own'):UB lo (lI k i ρg) w own w' own':=h.more λ_ _ q=>zh ⟨q.1,j,q.2⟩
def I0:∀(l:List zl) (T R:zm) (m:Nat),xZ l T=Z R->∃b,xZ (l.G m) T=Z b/\∀h:m<l.j,okT b=true/\xZ (l.G (m+1)) T=Z (yE b l[m] 0).1
 |[],T,R,m,h=>⟨T,by simp[xZ],λh=>by simp at h⟩
 |x::l,T,R,0,h=>by
  rw[xZ] at h;by_cases a:okT T=true
  .exact⟨T,rfl,λ_=>⟨a,by simp[xZ,a]⟩⟩
  .rw[za a] at h;cases h
 |x::l,T,R,m+1,h=>by
  rw[xZ] at h;by_cases a:okT T=true
  .rw[zb a] at h;obtain⟨b,e,i⟩:=I0 l _ R m h;refine⟨b,by rw[pE,xZ,zb a];exact e,λf=>?_⟩;obtain⟨g,d⟩:=i (by simpa using f);exact⟨g,by rw[pE,xZ,zb a];simpa using d⟩
  .rw[za a] at h;cases h
def BN:∀(l:List zl) (T R:zm) (x:zl),xZ (l++[x]) T=Z R->∃b,xZ l T=Z b/\okT b=true/\R=(yE b x 0).1
 |[],T,R,x,h=>by
  simp only[mo,xZ] at h;by_cases a:okT T=true
  .rw[zb a] at h;exact⟨T,rfl,a,by simpa using h.symm⟩
  .rw[za a] at h;cases h
 |y::l,T,R,x,h=>by
  rw[dM,xZ] at h;by_cases a:okT T=true
  .rw[zb a] at h;obtain⟨b,d,f,e⟩:=BN l _ R x h;exact⟨b,by rw[xZ,zb a];exact d,f,e⟩
  .rw[za a] at h;cases h
def AC:∀(l l2:List zl) (T R:zm),xZ (l++l2) T=Z R->∃b,xZ l T=Z b
 |[],_,T,_,_=>⟨T,rfl⟩
 |y::l,l2,T,R,h=>by
  rw[dM,xZ] at h;by_cases a:okT T=true
  .rw[zb a] at h;obtain⟨b,d⟩:=AC l l2 _ R h;exact⟨b,by rw[xZ,zb a];exact d⟩
  .rw[za a] at h;cases h
def GN{g:Nat}{V i:yQ}{d:List zl}(h:fB g wd V d=Z i):∃e b f a,rowsG g V.qw=Z e/\xZ e V.before=Z b/\xZ (d.filterMap (ua V.lit)) (xk wd (xi V.lit))=Z f/\xZ (d.filterMap (ua V.lit)) V.all=Z a/\i={V with before:=b,qw:=f,all:=a}:=by
 unfold fB at h;split at h;cases h;rename_i e l;split at h;rename_i b f a j k m;exact⟨e,b,f,a,l,j,k,m,by simpa using h.symm⟩;cases h
def O2(W b:U)(a:Option zl)(e d:O):Prop:=∃fb x y z:Nat,e=(π fb)/\d=.bool a.isSome/\[x,y,z]=a.getD [0,0,0]/\W.o.q<=fb/\U3 b fb #[ι (x:Nat),ι (y:Nat),ι (z:Nat)] 165/\μ W b
structure fW (lo b0:Nat) (w wr:U) (own own2:Nat->zo) (k i g:Nat) (c:Array O) (l:zx) (bb fb ab:Nat) (B F A:zm) (tv rv:O) (rows:List zl):Prop where
 before:xe lo wr own2 (k+1,i,0) bb B
 qw:xe lo wr own2 (k+1,i,1) fb F
 all:xe lo wr own2 (k+1,i,2) ab A
 v:yx lo wr tv l.v
 mod:UB lo (lI k i (own g)) w own wr own2
 box:U3 wr g c 301
 rows:UI b0 wr rv rows
def fW.u{b0:Nat}{w wr w':U}{own own2:Nat->zo}{k i g:Nat}{c:Array O}{l:zx}{bb fb ab:Nat}{B F A:zm}{tv d:O}{a:List zl}(h:fW lo b0 w wr own own2 k i g c l bb fb ab B F A tv d a)(b:μ wr w'):fW lo b0 w w' own own2 k i g c l bb fb ab B F A tv d a:=
 ⟨h.before.u b,h.qw.u b,h.all.u b,h.v.u b,h.mod.A (UB.of own2 b),h.box.u b,h.rows.below' b⟩
def fW.addF{wr W:U}{own:Nat->zo}{k i g:Nat}{l:zx}{B F A F':zm}{e:O}{a:List zl}(h:fW lo b0 w wr own own2 k i g c l bb fb ab B F A tv e a)(f:μ wr W)(j:xe lo w' own3 (k+1,i,1) fb F')(b:UB lo (onT (·=(k+1,i,1))) W own2 w' own3):fW lo b0 w w' own own3 k i g c l bb fb ab B F' A tv e a:=by
 have d:=h.u f;exact⟨d.before.onT b ζ,j,d.all.onT b ζ,d.v.mod b (jG θ),d.mod.A b.one,d.box.mod b (jG θ _),d.rows.mod b (jG θ)⟩
def fW.addA{wr W:U}{own:Nat->zo}{k i g:Nat}{l:zx}{B F A e:zm}{f:O}{a:List zl}(h:fW lo b0 w wr own own2 k i g c l bb fb ab B F A tv f a)(j:μ wr W)(m:xe lo w' own3 (k+1,i,2) ab e)(b:UB lo (onT (·=(k+1,i,2))) W own2 w' own3):fW lo b0 w w' own own3 k i g c l bb fb ab B F e tv f a:=by
 have d:=h.u j;exact⟨d.before.onT b ζ,d.qw.onT b ζ,m,d.v.mod b (jG θ),d.mod.A b.one,d.box.mod b (jG θ _),d.rows.mod b (jG θ)⟩
def Jz{b:Nat}{T:f_}(h:U3 w b #[ι 0,ι 0,ι 0] T)(x y z:Nat):U3 (((w.x (δ b) (ι x)).x (ω b 1) (ι y)).x (ω b 2) (ι z)) b #[ι x,ι y,ι z] T:=by
 have q:=((h.set 0 (ι x)).set 1 (ι y)).set 2 (ι z);simpa using q
def Tb(lo:Nat)(w:U)(own:Nat->zo)(k i g o:Nat)(c:Array O)(d:yQ)(P:ke)(ρg:zo)(e:Ending)(w':U):Prop:=e=ε (.tuple #[])/\∃b a,qn lo w' a k i d ⟨P.tv,P.bb,b,P.ab⟩/\U3 w' g (c.setIfInBounds (o+4) ((π b))) 301/\UB lo (lI k i ρg) w own w' a
def EP(w:U)(own:Nat->zo)(k i g o wd aI:Nat)(c:Array O)(V V':yQ)(P:ke)(rv:O)(a:List zl)(a9:U3 w g c 301)(aV:VC c o wd V.lit.o P.tv P.bb P.fb P.ab)(hv:qn lo w own k i V P)(hr:UI b0 w rv a)(cy:lo<=g)(cF:lo<=w.o.q)(cn:wd<=1000)(cI:a.j<=1048577)(hV:fB aI wd V a=Z V'):
  c_ e_ 206 #[.u (Z ⟨g,o,Y⟩),rv] w λe w'=>Tb lo w own k i g o c V' P (own g) e w':=by
 obtain⟨n,bN,fN,aN,d,bT,ch,bI,bx⟩:=GN hV;obtain⟨bE,aH,rfl⟩:=zq hr.1;have HV:=U2 hv;have HR:=U2 hr;have bD:=U2 λW hW=>Cy W own (k+1,i,1) P.fb V.qw aI n (hv.qw.u hW) d;have ae:=U2 aV;have bc:=U2 bT;have bt:=U2 ch;have bq:=U2 bI;have c0:=U2 bx;have cK:n.j<=1048576:=by
  unfold rowsG at d;split at d;cases d;split at d;simp at d;subst d;assumption
  cases d
 obtain⟨aj,L,E,l,G,M,D,u⟩:=aV.E a9;clear hV hr d bT ch bI bx aV;go_enter func206,ntmps206;go_upto_region 1 with (first|(go_at_call 78;refine(bD.l _ γ).y ?_;rintro e w1 ⟨ov,rfl,aU,am⟩;obtain⟨cp,bO,rfl⟩:=zq aU.1))
 clear E l G M D u L bD hv;have bM:X (UB lo (onT (·=(k+1,i,0))) w own w1 own):=UB.of own am;have bH:=U2 (HV.l.before.u am);have be:=U2 (a9.u am);have aJ:=U2 aU;have c4:=am.q;clear aU am;go_loopw [16] (λcm wr=>∃(m:Nat) (T:zm) (b:Nat->zo),m<=n.j/\cm=ι m/\w.o.q<=wr.o.q/\X (xZ (n.G m) V.before=Z T)/\X (xe lo wr b (k+1,i,0) P.bb T)/\X (UB lo (onT (·=(k+1,i,0))) w own wr b)/\X (U3 wr g c 301)/\X (UI w.o.q wr (.k cp n.j bO) n)) (λi _=>n.j-(d_ i).toNat);exact⟨0,V.before,own,zs _,rfl,c4,rfl,bH,bM,be,aJ⟩;clear bM bH be aJ;obtain⟨m,T,b,hm,rfl,bG,HA,HT,HM,HG,aO⟩:=hrel;by_cases av:m<n.j
 .obtain⟨go,bs,x,y,z,t,b2,K,aL,aP,aM⟩:=aO.l.cell m av;simp only[h_] at t;have a1:=t.1;clear t;subst a1;obtain⟨Tm,aQ,b7⟩:=I0 n V.before bN m bc.l;rw[HA.l] at aQ;obtain rfl:T=Tm:=by simpa using aQ
  obtain⟨bm,aK⟩:=b7 av;rw[K] at aK;have cl:=U2 bm;have c5:=U2 aK;clear aQ b7 aK bm K;obtain⟨aj,L,E,l,G,M,D,u⟩:=ae.l.E HG.l;have a0:=U3.new wr #[ι x,ι y,ι z] 165;have h:X (∀W,μ wr W->c_ e_ 163 #[.u (Z ⟨P.bb,0,Y⟩),.agg #[ι x,ι y,ι z],ι 0] W λe w'=>e=ε (.bool (yE T [x,y,z] 0).2)/\xe lo w' (ext b W.o.q (k+1,i,0)) (k+1,i,0) P.bb (yE T [x,y,z] 0).1/\UB lo (onT (·=(k+1,i,0))) W b w' (ext b W.o.q (k+1,i,0))):=λW hW=>em W b (k+1,i,0) P.bb T x y z 0 (HT.l.u hW) cl.l;clear E l G D u;go_wp2;go_region_held3 (λw'=>w'.p ⟨g,o+3,Y⟩=Z (.u (Z ⟨P.bb,0,Y⟩))/\w'.p ⟨wr.o.q,0,Y⟩=Z (ι x)/\w'.p ⟨wr.o.q,1,Y⟩=Z (ι y)/\w'.p ⟨wr.o.q,2,Y⟩=Z (ι z)) (first|go_keep|(go_simp;done)) (first|(go_at_call 163;refine(h.l _ γ).y ?_;rintro e w4 ⟨rfl,a7,I⟩;have bf:=(HG.l.u (show μ wr _ from γ)).mod I (jG θ _);have cj:=(a0.drew).mod I (jG θ _);obtain⟨bJ,ca⟩:=cj.H;obtain⟨_,_,_,_,_,bh,_,_⟩:=ae.l.E bf))
  have bX:=HM.l.A ((UB.of b (show μ wr _ from γ)).A I);have cs:=(aO.l.below' (show μ wr _ from γ)).mod I (jG θ);have ck:=bX.q;generalize (yE T [x,y,z] 0).2=cJ at *;clear cj bJ ca bh a0 I aL aP aM h;go_wp2;go_roundw;exact⟨m+1,_,_,η,ξ,ck,c5,a7,bX,bf,cs⟩;simp[d_];omega
 have ah:n.G m=n:=yO η;rw[ah,bc.l] at HA;obtain rfl:bN=T:=by have:=HA.l;simpa using this
 clear HA ah hm aO bc;obtain⟨R,s,a5⟩:=HV.l.v.qm;have ap:=U2 a5;obtain⟨aj,L,E,l,G,M,D,u⟩:=ae.l.E HG.l;rw[a5] at l;have aX:X (yx lo wr (.k R V.lit.v.j s) V.lit.v):=by have q:=HV.l.v.mod HM.l (jG θ);rw[a5] at q;exact q
 have bv:=U2 (HV.l.all.onT HM.l ζ);have ba:=U2 (HR.l.mod HM.l (jG θ));have co:=G7 V.lit;have HD:X (∀W,μ wr W->c_ e_ 212 #[.agg #[ι V.lit.o,.k R V.lit.v.j s]] W λe w'=>e=ε (ι (xi V.lit:Nat))/\μ W w'):=λW hW=>Dv W _ V.lit.o V.lit.v (aX.l.u hW);have HN:=U2 λW=>AQ W wd (xi V.lit) cn η;clear a5 M u co;generalize cb:xi V.lit=dl at *;clear cb;go_wp2;go_region_held3 (λw'=>w'.p ⟨g,o,Y⟩=Z (ι V.lit.o)/\w'.p ⟨g,o+1,Y⟩=Z (.k R V.lit.v.j s)/\w'.p ⟨g,o+2,Y⟩=Z (ι wd)) (first|go_keep|(go_simp;done)) (first|(go_at_call 212;refine(HD.l _ γ).y ?_;rintro e Q ⟨rfl,au⟩;have j:μ wr Q:=(zJ γ au (ze _));have aq:=HG.l.u j;obtain⟨_,_,an,N,cf,_,_,_⟩:=ae.l.E aq;rw[ap.l] at N)|(go_at_call 119;refine(HN.l _).y ?_;rintro e w3 ⟨tf,cG,rfl,bp,al⟩;have ao:=aq.u al;obtain⟨bo,bZ,b9,aC,bi,_,b6,_⟩:=ae.l.E ao;rw[ap.l] at aC))
 have bR:lo<=Q.o.q:=by have:=j.q;have:=HM.l.q;omega
 have t:=HM.l.old g a9.lt;have b3:fW lo b0 w (w3.x ⟨g,o+4,Y⟩ ((π tf))) own (ext b Q.o.q (k+1,i,1)) k i g (c.setIfInBounds (o+4) ((π tf))) V.lit P.bb tf P.ab bN (xk wd dl) V.all (.k R V.lit.v.j s) (.k bE a.j aH) a:=by
  have ar:zc [g] w3 (w3.x ⟨g,o+4,Y⟩ ((π tf))):=zc.set _ _ _ _;have ax:=UP.box ao;have bw:=U6 j al;have bC:UB lo (λ_ _=>False) Q b w3 (ext b Q.o.q (k+1,i,1)):=UB.extNew b (k+1,i,1) al;have cr:ext b Q.o.q (k+1,i,1) g=own g:=by rw[fj _ _ _ _ (by have:=HM.l.q;have:=j.q;have:=a9.lt;omega)];exact t
  refine⟨?_,?_,?_,?_,?_,?_,?_⟩;exact((HT.l.u j).mod bC (λ_ _=>id)).saveT ar ax θ;exact(yc.new b (k+1,i,1) bp bR).saveT ar ax θ;exact((bv.l.u j).mod bC (λ_ _=>id)).saveT ar ax θ;exact((aX.l.u bw)).saveT ar ax θ;exact((HM.l.one (ρg:=own g)).A ((UB.of b j).A (UB.extNew b (k+1,i,1) al))).A (UB.set _ ao cy (zg ⟨rfl,cr⟩) _ _);exact ao.set _ _;exact⟨yR (zy ba.l.1 bw) ar ax θ,ba.l.2⟩
 have J:=U2 (ae.l.set tf);generalize ci:c.setIfInBounds (o+4) ((π tf))=c2 at *;have c3:=U2 ci;clear ci;have aT:=U2 b3;clear b3;generalize ext b Q.o.q (k+1,i,1)=own2 at *;generalize w3.x ⟨g,o+4,Y⟩ ((π tf))=w5 at *;clear b9 aC bi b6 bo bZ al bp ao aq j an N cf HT bv aX ba HM HG HD HN t bR aj L E l G D;have bU:=aT.l.mod.q;go_wp2;go_loopw [42] (λc6 wr=>∃(m:Nat) (F A:zm) (own2:Nat->zo),m<=a.j/\c6=ι m/\w.o.q<=wr.o.q/\X (xZ ((a.G m).filterMap (ua V.lit)) (xk wd dl)=Z F)/\X (xZ ((a.G m).filterMap (ua V.lit)) V.all=Z A)/\X (fW lo b0 w wr own own2 k i g c2 V.lit P.bb tf P.ab bN F A (.k R V.lit.v.j s) (.k bE a.j aH) a)) (λi _=>a.j-(d_ i).toNat);exact⟨0,_,_,own2,zs _,rfl,bU,rfl,rfl,aT⟩;clear aT bU;obtain⟨m,F,A,own2,hm,rfl,bG,HF,HA,S⟩:=hrel;by_cases av:m<a.j
 .obtain⟨go,bs,x,y,z,t,b2,K,aL,aP,aM⟩:=S.l.rows.cell m av;simp only[h_] at t;have a1:=t.1;clear t;subst a1;have af:X ((a.G (m+1)).filterMap (ua V.lit)=(a.G m).filterMap (ua V.lit)++(ua V.lit [x,y,z]).toList):=by
   rw[X,yF av,iJ,K];cases hq:ua V.lit [x,y,z]<;>simp[hq]
  have aS:X (a.filterMap (ua V.lit)=(a.G (m+1)).filterMap (ua V.lit)++(a.drop (m+1)).filterMap (ua V.lit)):=by rw[X,←iJ,jF]
  obtain⟨F1,b1⟩:=AC _ _ _ _ (by have q:=bt.l;rw[aS.l] at q;exact q);obtain⟨A1,cc⟩:=AC _ _ _ _ (by have q:=bq.l;rw[aS.l] at q;exact q);have bk:=U2 b1;have bd:=U2 cc;clear b1 cc aS K;have bL:X (∀W,μ wr W->c_ e_ 213 #[.agg #[ι V.lit.o,.k R V.lit.v.j s],.agg #[ι x,ι y,ι z]] W λr w'=>(∃v B C:Nat,r=ε (.tuple #[.agg #[ι (v:Nat),ι (B:Nat),ι (C:Nat)],.bool (ua V.lit [x,y,z]).isSome])/\[v,B,C]=(ua V.lit [x,y,z]).getD [0,0,0])/\μ W w'):=λW hW=>St W _ V.lit.o V.lit.v x y z (S.l.v.u hW);generalize ua V.lit [x,y,z]=om at *;obtain⟨aj,L,E,l,G,M,D,u⟩:=J.l.E S.l.box;rw[ap.l] at l;have a0:=U3.new wr #[ι x,ι y,ι z] 165;clear G M D u;go_wp2;go_cut [8,9] from 46 to 54 (λs8 s9 wx=>O2 wr wx om s8 s9)
  .go_region_held3 (λw'=>w'.p ⟨g,o,Y⟩=Z (ι V.lit.o)/\w'.p ⟨g,o+1,Y⟩=Z (.k R V.lit.v.j s)/\w'.p ⟨wr.o.q,0,Y⟩=Z (ι x)/\w'.p ⟨wr.o.q,1,Y⟩=Z (ι y)/\w'.p ⟨wr.o.q,2,Y⟩=Z (ι z)) (first|(exact⟨(g_ (p:=⟨g,o,Y⟩) (show Below (wr.o.q+1) Q _ from γ) (show g<wr.o.q+1 by omega)).A an,(g_ (p:=⟨g,o+1,Y⟩) (show Below (wr.o.q+1) Q _ from γ) (show g<wr.o.q+1 by omega)).A N,(g_ (p:=⟨wr.o.q,0,Y⟩) (show Below (wr.o.q+1) Q _ from γ) (show wr.o.q<wr.o.q+1 by omega)).A a4,(g_ (p:=⟨wr.o.q,1,Y⟩) (show Below (wr.o.q+1) Q _ from γ) (show wr.o.q<wr.o.q+1 by omega)).A aw,(g_ (p:=⟨wr.o.q,2,Y⟩) (show Below (wr.o.q+1) Q _ from γ) (show wr.o.q<wr.o.q+1 by omega)).A a3⟩)|go_keep|(go_simp;done)) (first|(go_at_call 213;refine(bL.l _ γ).y ?_;rintro e Q ⟨⟨v,B,C,rfl,ak⟩,au⟩;have j:μ wr Q:=(zJ γ au (ze _));have aq:=S.l.box.u j;obtain⟨_,_,an,N,_,_,_,_⟩:=J.l.E aq;rw[ap.l] at N;have bg:=U2 ak;clear ak;have aE:=a0.u (show Below (wr.C (.E #[ι x,ι y,ι z] 165)).o.q (wr.C (.E #[ι x,ι y,ι z] 165)) Q from zJ γ au (ze _));have c7:wr.o.q+1<=Q.o.q:=aE.lt;obtain⟨H,cz⟩:=aE.H;have a4:=H 0;have aw:=H 1;have a3:=H 2;clear H;simp only[l0,dS,li] at a4 aw a3;(first|((with_reducible refine U3.carry (U3.drew (U3.newAt (wr.C (.E #[ι x,ι y,ι z] 165)) (wr.o.q+1) #[ι 0,ι 0,ι 0] 165 (i_ _ _).symm)) au ?_);intro br;obtain⟨cD,cB,c8⟩:=br.I)|skip)))
   all_goals
    go_wp2_with fail
    go_meet
    first|exact⟨Q.o.q,v,B,C,rfl,rfl,bg.l,η,U3.new _ _ _,zJ j γ (ze _)⟩|exact⟨wr.o.q+1,v,B,C,rfl,rfl,bg.l,η,Jz br v B C,((j.x ζ _).x ζ _).x ζ _⟩
  clear E l L a0 aL aP aM bL;obtain⟨fb,v,B,C,rfl,rfl,ak,c1,bQ,aZ⟩:=hcut;have az:=U2 (S.l.u aZ);have cg:w.o.q<=wc.o.q:=by have:=aZ.q;omega
  have a6:=U2 bQ;clear S aZ bQ;rcases om with _|f
  .clear ak;simp only[Option.toList_none,vD] at af;simp only[kX];go_wp2;go_roundw;exact⟨m+1,F,A,own2,η,ξ,cg,by rw[X,af.l];exact HF.l,by rw[X,af.l];exact HA.l,az⟩;simp[d_];omega
  simp only[uF] at ak;subst ak;simp only[Option.toList_some] at af;simp only[jH];obtain⟨Fm,ag,a2,bB⟩:=BN _ _ _ _ (by have q:=bk.l;rw[af.l] at q;exact q);obtain⟨Am,aY,b5,bW⟩:=BN _ _ _ _ (by have q:=bd.l;rw[af.l] at q;exact q);rw[HF.l] at ag;rw[HA.l] at aY;obtain rfl:F=Fm:=by simpa using ag
  obtain rfl:A=Am:=by simpa using aY
  have bz:=U2 bB;have b4:=U2 bW;have cq:=U2 a2;have cx:=U2 b5;clear ag aY bB bW a2 b5;obtain⟨aj,L,E,l,G,M,D,u⟩:=J.l.E az.l.box;obtain⟨aA,cv⟩:=a6.l.H;have bP:=aA 0;have ag:=aA 1;have a2:=aA 2;simp only[l0,dS,li] at bP ag a2;have ct:=a6.l.lt;clear aA cv E l G M;have h:X (∀W,μ wc W->c_ e_ 163 #[(π tf),.agg #[ι v,ι B,ι C],ι 0] W λe w'=>e=ε (.bool (yE F [v,B,C] 0).2)/\xe lo w' (ext own2 W.o.q (k+1,i,1)) (k+1,i,1) tf (yE F [v,B,C] 0).1/\UB lo (onT (·=(k+1,i,1))) W own2 w' (ext own2 W.o.q (k+1,i,1))):=λW hW=>em W own2 (k+1,i,1) tf F v B C 0 (az.l.qw.u hW) cq.l;go_wp2;go_region_held3 (λw'=>w'.p ⟨g,o+4,Y⟩=Z ((π tf))/\w'.p ⟨fb,0,Y⟩=Z (ι v)/\w'.p ⟨fb,1,Y⟩=Z (ι B)/\w'.p ⟨fb,2,Y⟩=Z (ι C)) (first|go_keep|(go_simp;done)) (first|(go_at_call 163;refine(h.l _ γ).y ?_;rintro e w4 ⟨rfl,a7,I⟩;have ai:μ wc _:=(show μ wc wc.drew from γ);have ay:=az.l.addF ai a7 I;have aB:=(a6.l.u ai).mod I (jG θ _);obtain⟨aa,cd⟩:=aB.H;have bK:=aa 0;have b8:=aa 1;have bV:=aa 2;clear aa;simp only[l0,dS,li] at bK b8 bV;obtain⟨_,_,_,_,_,_,c9,cA⟩:=J.l.E ay.box))
  have cH:=ay.mod.q;have cE:=ay.box.lt;have cC:=aB.lt;have aW:=U2 ay;have cu:=U2 aB;rw[←bz.l] at aW;generalize (yE F [v,B,C] 0).2=bF at *;generalize ext own2 wc.drew.o.q (k+1,i,1)=ac at *;clear ay aB a7 I az a6 D u bP ag a2 aj L ct ai h bz cd cg c1;have h:X (∀W,μ w4 W->c_ e_ 163 #[.u (Z ⟨P.ab,0,Y⟩),.agg #[ι v,ι B,ι C],ι 0] W λe w'=>e=ε (.bool (yE A [v,B,C] 0).2)/\xe lo w' (ext ac W.o.q (k+1,i,2)) (k+1,i,2) P.ab (yE A [v,B,C] 0).1/\UB lo (onT (·=(k+1,i,2))) W ac w' (ext ac W.o.q (k+1,i,2))):=λW hW=>em W ac (k+1,i,2) P.ab A v B C 0 (aW.l.all.u hW) cx.l;go_wp2;go_region_held3 (λw'=>w'.p ⟨g,o+5,Y⟩=Z (.u (Z ⟨P.ab,0,Y⟩))/\w'.p ⟨fb,0,Y⟩=Z (ι v)/\w'.p ⟨fb,1,Y⟩=Z (ι B)/\w'.p ⟨fb,2,Y⟩=Z (ι C)) (first|go_keep|(go_simp;done)) (first|(go_at_call 163;refine(h.l _ γ).y ?_;rintro e w6 ⟨rfl,ce,aR⟩;have ai:μ w4 _:=(show μ w4 w4.drew from γ);have a8:=aW.l.addA ai ce aR;have bn:=(cu.l.u ai).mod aR (jG θ _);obtain⟨ad,bS⟩:=bn.H;have aF:=ad 0;have aG:=ad 1;have aD:=ad 2;clear ad;simp only[l0,dS,li] at aF aG aD;obtain⟨_,_,_,_,_,_,bY,bu⟩:=J.l.E a8.box))
  rw[←b4.l] at a8;have cw:=a8.mod.q;generalize (yE A [v,B,C] 0).2=bA at *;clear ce aR h b4 bn aF aG aD bY bu bS;go_wp2;go_roundw;exact⟨m+1,F1,A1,_,η,ξ,cw,bk,bd,a8⟩;simp[d_];omega
 have ah:a.G m=a:=yO η;rw[ah,bt.l] at HF;rw[ah,bq.l] at HA;obtain rfl:fN=F:=by have:=HF.l;simpa using this
 obtain rfl:aN=A:=by have:=HA.l;simpa using this
 clear HF HA ah;go_wp2
 (try simp only[Exit.inBlock,Exit.then])
 have h2:=S.l;refine zP (results_none rfl _ _ _) rfl ⟨rfl,tf,own2,?_,?_,h2.mod⟩;rw[c0.l];exact⟨by show yx lo wr P.tv V.lit.v;rw[ap.l];exact h2.v,h2.before,h2.qw,h2.all⟩;rw[c3.l];exact h2.box
end
section
variable {lo:Nat}{w:U}{rb wd mr mx:Nat}{R:zw}
structure uC where
 rv:O
 tbs:List Nat
 fv:O
 fvs:List O
def UO(a:List Nat):List Value:=a.map pt
structure ya (lo:Nat) (w:U) (own:Nat->zo) (rb:Nat) (R:zw) (wd mr mx:Nat) (Q:uC):Prop where
 low:lo<=rb
 box:U3 w rb #[Q.rv,ι R.count,ι R.Q,ι R.jg,ι wd,ι mr,ι mx,Q.fv] 214
 rows:w.ownsRow lo 162 1 Q.rv R.rows.j (UO Q.tbs)
 tlen:Q.tbs.j=R.rows.j
 tries:∀p (_:p<R.rows.j) (_:p<Q.tbs.j),xe lo w own (0,p,0) Q.tbs[p] R.rows[p]
 qw:w.ownsRow lo 161 1 Q.fv R.qw.j Q.fvs
 flen:Q.fvs.j=R.qw.j
 jo:∀p (_:p<R.qw.j) (_:p<Q.fvs.j),UI lo w Q.fvs[p] R.qw[p]/\∀b,Q.fvs[p].m=Z b->own b=(0,p,1)
 M:R.rows.j<=1000/\R.qw.j<=1000/\R.count<=1048577/\R.Q<=1048576
 small:wd<=1000/\mr<=1048576/\mx<=1048576
def UI.modR{c:Nat}{ok:f_->zo->Prop}{w':U}{own own':Nat->zo}{v:O}{a:List zl}(h:UI c w v a)(p:UB lo ok w own w' own')(d:∀b,v.m=Z b->¬ok 165 (own b)):UI c w' v a:=⟨tC h.1 p d,h.2⟩
def ya.mod{ok:f_->zo->Prop}{w w':U}{own own':Nat->zo}{rb:Nat}{R:zw}{wd mr mx:Nat}{Q:uC}(h:ya lo w own rb R wd mr mx Q)(p:UB lo ok w own w' own')(d:∀ρ,¬ok 214 ρ)(i:∀ρ,¬ok 162 ρ)(e:∀ρ,¬ok 161 ρ)(f:∀q,¬ok 165 (0,q,1))(g:∀q t,¬V2 t->¬ok t (0,q,0)):ya lo w' own' rb R wd mr mx Q:=by
 refine⟨h.low,h.box.mod p (d _),qs h.rows p i,h.tlen,λq a b=>(h.tries q a b).mod p (g q),qs h.qw p e,h.flen,λq a b=>⟨(h.jo q a b).1.modR p λx c=>by rw[(h.jo q a b).2 x c];exact f q,λx c=>?_⟩,h.M,h.small⟩;rw[p.old x (yb (h.jo q a b).1.1 c)];exact(h.jo q a b).2 x c
def ya.u{w':U}{own:Nat->zo}{Q:uC}(h:ya lo w own rb R wd mr mx Q)(a:μ w w'):ya lo w' own rb R wd mr mx Q:=h.mod (UB.of (ok:=λ_ _=>False) own a) (λ_=>id) (λ_=>id) (λ_=>id) (λ_=>id) (λ_ _ _=>id)
def ya.at{own:Nat->zo}{Q:uC}(h:ya lo w own rb R wd mr mx Q):rb<w.o.q/\(∀o,w.frozen? (ω rb o)=false)/\w.p (δ rb)=Z Q.rv/\w.p (ω rb 1)=Z (ι R.count)/\w.p (ω rb 2)=Z (ι R.Q)/\w.p (ω rb 3)=Z (ι R.jg)/\w.p (ω rb 4)=Z (ι wd)/\w.p (ω rb 5)=Z (ι mr)/\w.p (ω rb 6)=Z (ι mx)/\w.p (ω rb 7)=Z Q.fv:=by
 obtain⟨a,b⟩:=h.box.H;exact⟨h.box.lt,b,a 0,a 1,a 2,a 3,a 4,a 5,a 6,a 7⟩
def ya.trie{own:Nat->zo}{Q:uC}(h:ya lo w own rb R wd mr mx Q)(p:Nat)(f:p<R.rows.j)(b:p<Q.tbs.j):∃g a,Q.rv=.k (Z (δ g)) R.rows.j a/\g<w.o.q/\w.p (ω g p)=Z (.u (Z (δ Q.tbs[p]))):=by
 obtain⟨g,a,c,_,e,d⟩:=yt h.rows η;exact⟨g,a,c,e,d p _ (by simp[UO,b,pt])⟩
def ya.frow{own:Nat->zo}{Q:uC}(h:ya lo w own rb R wd mr mx Q)(p:Nat)(f:p<R.qw.j)(b:p<Q.fvs.j):∃g a,Q.fv=.k (Z (δ g)) R.qw.j a/\g<w.o.q/\w.p (ω g p)=Z Q.fvs[p]:=by
 obtain⟨g,a,c,_,e,d⟩:=yt h.qw η;exact⟨g,a,c,e,d p _ (by simp[b])⟩
def Uc:(e_.info? 161).map (λi=>(i.zero,i.q,i.bytes))=Z (Z (ν),1,24):=χ
def sq(w:U)(n:Nat)(T:f_)(z:O)(b:n<=maxLen):(w.C (.E (madeCells #[z] n) T)).ownsRow w.o.q T 1 (.k (Z (δ w.o.q)) n n) n (j_ n z):=by
 refine⟨ζ,zg ⟨w.o.q,n,madeCells #[z] n,rfl,ze _,?_,ze _,b,by rw[size_madeCells];omega,?_⟩⟩;show(w.o.push _)[w.o.q]?=_;simp;apply ni;intro i;by_cases a:i<n;simp[a,madeCells,Nat.mod_one];simp[List.getElem?_take,a]
def Od(lo:Nat)(w:U)(own:Nat->zo)(rb:Nat)(R:zw)(wd mr mx:Nat)(Q:uC)(e:Ending)(w':U):Prop:=e=ε (.tuple #[])/\∃b a,ya lo w' own rb (qZ R) wd mr mx ⟨Q.rv,Q.tbs,b,a⟩/\UB lo (dF [214]) w own w' own
def VN(w:U)(own:Nat->zo)(rb:Nat)(R:zw)(wd mr mx:Nat)(Q:uC)(h:ya lo w own rb R wd mr mx Q)(s:lo<=w.o.q):
  c_ e_ 120 #[(π rb)] w λe B=>Od lo w own rb R wd mr mx Q e B:=by
 obtain⟨D,G,m,A,o⟩:=info_parts Uc;obtain⟨S,K,L,I,h2,N,M,T,V,J⟩:=h.at;obtain⟨C,u,y⟩:=zq h.rows;have j:=h.M.1;have H:=U2 h;have v:=λW:U=>run_make (P:=e_) (w:=W) 212 161 D _ underlying212 G m .i64 .i64 (R.rows.j:Int) (R.rows.j:Int) η (Int.le_refl _) (by rw[o];omega) η;generalize F:R.rows.j=n at *;have z:=U2 F;go_enter func120,ntmps120;go_wp2;refine zP (results_none rfl _ _ _) rfl ⟨rfl,.k (Z (δ w.o.q)) n n,j_ n (ν),?_,?_⟩;have l:zc [rb] w (w.x (ω rb 7) (.k (Z (δ w.o.q)) n n)):=zc.set _ _ _ _;have t:=UP.box H.l.box;have i:(w.x (ω rb 7) (.k (Z (δ w.o.q)) n n)).o.q=w.o.q:=by simp[U.setCell]
 have p:=H.l.box.set 7 (.k (Z (δ w.o.q)) n n);have f:=yR H.l.rows l t θ;have r:=λq a b=>(H.l.tries q a b).saveT l t θ;have d:=sq (w.x (ω rb 7) (.k (Z (δ w.o.q)) n n)) n 161 (ν) b_;rw[i] at d;have g:Below (w.x (ω rb 7) (.k (Z (δ w.o.q)) n n)).o.q (w.x (ω rb 7) (.k (Z (δ w.o.q)) n n)) ((w.x (ω rb 7) (.k (Z (δ w.o.q)) n n)).C (.E (madeCells #[ν] n) 161)):=γ;have k:(qZ R).qw=j_ n []:=by rw[qZ,z.l]
 have c:(qZ R).qw.j=n:=by rw[k,iQ]
 refine⟨H.l.low,by simpa [qZ] using p.u g,zy f g,H.l.tlen,λq a b=>(r q a b).u g,by rw[c];exact yq d s,by rw[c];simp,λq a b=>?_,⟨H.l.M.1,by rw[c];exact j,H.l.M.2.2⟩,H.l.small⟩;simp only[k,ij];exact⟨⟨xj _ _ _ _,ζ⟩,λx E=>by cases E⟩;have i:(w.x (ω rb 7) (.k (Z (δ w.o.q)) n n)).o.q=w.o.q:=by simp[U.setCell]
 exact(UB.set own H.l.box H.l.low (show dF [214] 214 (own rb) from xo.2 rfl) 7 _).A (UB.of own γ)
def Ii(w:U)(own:Nat->zo)(rb:Nat)(R:zw)(wd mr mx:Nat)(Q:uC)(p:Nat)(h:ya lo w own rb R wd mr mx Q)(k:p<R.rows.j)(b:p<Q.tbs.j):
  c_ e_ 205 #[(π rb),ι p] w λe n=>e=ε (.u (Z (δ Q.tbs[p])))/\n=w:=by
 obtain⟨y,t,i,d,s,l,j,m,q,f⟩:=h.at;obtain⟨g,r,a,v,u⟩:=h.trie p k b;rw[a] at i;have o:(p:Int)<(R.rows.j:Int):=η;have c:=h.M.1;clear h a d s l j m q f;generalize Q.tbs[p]=x at *;go_enter func205,ntmps205;go_wp2;go_ret;exact⟨rfl,rfl⟩
def oR(p:Nat):f_->zo->Prop:=λt ρ=>t=165/\ρ=(0,p,1)
def m6(p:Nat):f_->zo->Prop:=λt ρ=>(¬V2 t/\ρ=(0,p,0))∨t=214∨t=161∨oR p t ρ
def ya.setTrie{w':U}{own own':Nat->zo}{Q:uC}{p:Nat}{T:zm}(h:ya lo w own rb R wd mr mx Q)(i:p<R.rows.j)(f:p<Q.tbs.j)(g:xe lo w' own' (0,p,0) Q.tbs[p] T)(m:UB lo (onT (·=(0,p,0))) w own w' own'):ya lo w' own' rb {R with rows:=R.rows.set p T} wd mr mx Q:=by
 have c:(R.rows.set p T).j=R.rows.j:=ζ;refine⟨h.low,h.box.mod m (jG θ _),by rw[c];exact qs h.rows m (jG θ),by rw[c];exact h.tlen,λq a b=>?_,qs h.qw m (jG θ),h.flen,λq a b=>⟨(h.jo q a b).1.mod m (jG θ),λx d=>?_⟩,by rw[c];exact h.M,h.small⟩;by_cases e:q=p;subst e;simp only[mY];exact g;simp only[nD (Ne.symm e)];exact(h.tries q (by simpa using a) b).onT m (by simp[e]);rw[m.old x (yb (h.jo q a b).1.1 d)];exact(h.jo q a b).2 x d
def ya.rebox{w':U}{own:Nat->zo}{R':zw}{Q:uC}(h:ya lo w own rb R wd mr mx Q)(hs:zc [rb] w w')(l:U3 w' rb #[Q.rv,ι R'.count,ι R'.Q,ι R'.jg,ι wd,ι mr,ι mx,Q.fv] 214)(k:R'.rows=R.rows)(j:R'.qw=R.qw)(m:R'.count<=1048577/\R'.Q<=1048576):ya lo w' own rb R' wd mr mx Q:=by
 have e:=UP.box h.box;obtain⟨i,g,c,f,d⟩:=R';simp only at k j;subst k;subst j;exact⟨h.low,l,yR h.rows hs e θ,h.tlen,λq a b=>(h.tries q a b).saveT hs e θ,yR h.qw hs e θ,h.flen,λq a b=>⟨⟨yR (h.jo q a b).1.1 hs e θ,(h.jo q a b).1.2⟩,(h.jo q a b).2⟩,⟨h.M.1,h.M.2.1,m⟩,h.small⟩
def ya.pushFresh{o:U}{own:Nat->zo}{r A:Nat}{Q:uC}{p:Nat}{v':O}{rs:List zl}(h:ya lo w own rb R wd mr mx Q)(J:p<R.qw.j)(E:p<Q.fvs.j)(z:Q.fv=.k (Z (δ r)) R.qw.j A)(M:zc Q.fvs[p].m.toList w o)(G:UI lo o v' rs)(F:v'.m=Q.fvs[p].m∨∃g,v'.m=Z g/\w.o.q<=g):
  ya lo (o.x (ω r p) v') (ext own w.o.q (0,p,1)) rb {R with qw:=R.qw.set p rs} wd mr mx ⟨Q.rv,Q.tbs,Q.fv,Q.fvs.set p v'⟩/\UB lo (m6 p) w own (o.x (ω r p) v') (ext own w.o.q (0,p,1)):=by
 have f:=h.jo p J E;have s:UB lo (oR p) w own o (ext own w.o.q (0,p,1)):=⟨λb B=>fj _ _ _ _ B,_,M,λb B=>by
  have n:=yA B;obtain⟨c,I⟩:=kx f.1.1 n;exact⟨yZ f.1.1 n,yb f.1.1 n,c,_,I,rfl,f.2 b n⟩⟩
 have C:∀{t:f_},t≠165->∀ρ,¬oR p t ρ:=λS ρ q=>S q.1;have v:=qs h.qw s (C θ);have d:=v;rw[z] at d;have y:=um d p η v';obtain⟨T,u⟩:=kx d (b:=r) rfl;have j:zc [r] o (o.x (ω r p) v'):=zc.set _ _ _ _;have i:=UP.box u;have k:(R.qw.set p rs).j=R.qw.j:=ζ;have D:=yZ d rfl;refine⟨⟨h.low,(h.box.mod s (C θ _)).saveT j i θ,yR (qs h.rows s (C θ)) j i θ,h.tlen,λq a b=>((h.tries q a b).mod s (λt H q=>H (by rw[q.1];decide))).saveT j i θ,by rw[k,z];exact y,by rw[k];simpa using h.flen,λq a b=>?_,⟨h.M.1,by rw[k];exact h.M.2.1,h.M.2.2⟩,h.small⟩,?_⟩;by_cases e:q=p;subst e;simp only[mY];refine⟨⟨yR G.1 j i θ,G.2⟩,λx m=>?_⟩;rcases F with e|⟨g,e,K⟩;rw[e] at m;rw[fj _ _ _ _ (yb f.1.1 m)];exact f.2 x m;rw[e] at m;simp only[zt] at m;subst m;simp[ext,Nat.not_lt.2 K];simp only[nD (Ne.symm e)];have N:q<R.qw.j:=by simpa using a
 have P:q<Q.fvs.j:=by simpa using b
 have l:=h.jo q N P;refine⟨⟨yR (l.1.modR s λx m L=>e (by have:=l.2 x m;rw[L.2] at this;simp at this;exact this.symm)).1 j i θ,l.1.2⟩,λx m=>?_⟩;rw[fj _ _ _ _ (yb l.1.1 m)];exact l.2 x m;exact(s.more λt ρ q=>zg (zg (zg q))).A (UB.set _ u D (zg (zg (zh rfl))) _ _)
def K5(lo:Nat)(w:U)(own:Nat->zo)(rb p:Nat)(R':zw)(b:Bool)(wd mr mx:Nat)(Q:uC)(e:Ending)(w':U):Prop:=e=ε (.bool b)/\∃a c,ya lo w' a rb R' wd mr mx ⟨Q.rv,Q.tbs,Q.fv,c⟩/\UB lo (m6 p) w own w' a
def Bf{R':zw}{p:Nat}{row:zl}{b:Bool}(h:kq mr R p row=Z (R',b)):p<R.rows.j/\p<R.qw.j/\okT (R.rows.getD p zm.zero)=true/\R.count<=1048576/\(R.qw.getD p []).j<=1048576/\((yE (R.rows.getD p zm.zero) row R.Q).2=false/\R'={R with rows:=R.rows.set p (yE (R.rows.getD p zm.zero) row R.Q).1}/\b=true∨(yE (R.rows.getD p zm.zero) row R.Q).2=true/\R'={R with rows:=R.rows.set p (yE (R.rows.getD p zm.zero) row R.Q).1,qw:=R.qw.set p (R.qw.getD p []++[row]),count:=R.count+1}/\b=decide (R.count+1<=mr)):=by
 unfold kq at h;split at h;rename_i i;obtain⟨c,g,d,e,f⟩:=i;refine⟨c,g,d,e,f,?_⟩;rcases a:yE (R.rows.getD p zm.zero) row R.Q with⟨T,_|_⟩
 rw[a] at h;simp only[zt,yk] at h;exact zh ⟨rfl,h.1.symm,h.2.symm⟩;rw[a] at h;simp only[zt,yk] at h;exact zg ⟨rfl,h.1.symm,h.2.symm⟩;cases h
def E9(w:U)(own:Nat->zo)(rb:Nat)(R R':zw)(wd mr mx:Nat)(Q:uC)(p x y z:Nat)(b:Bool)(h:ya lo w own rb R wd mr mx Q)(bP:lo<=w.o.q)(hr:kq mr R p [x,y,z]=Z (R',b)):
  c_ e_ 121 #[(π rb),ι p,.agg #[ι x,ι y,ι z]] w λe o=>K5 lo w own rb p R' b wd mr mx Q e o:=by
 obtain⟨i0,hi,bw,bp,bA⟩:=info_parts TI;obtain⟨P,u,a6,bL,bq,c⟩:=Bf hr;have am:p<Q.tbs.j:=by rw[h.tlen];exact P
 have D:p<Q.fvs.j:=by rw[h.flen];exact u
 obtain⟨hl,hf,h0,h1,h2,h3,h4,h5,h6,h7⟩:=h.at;obtain⟨g,aI,a7,hg,hc⟩:=h.trie p P am;obtain⟨gf,a0,a8,bO,b2⟩:=h.frow p u D;rw[a7] at h0;rw[a8] at h7;have HR:=U2 h;have a4:=U2 a7;have aa:=U2 a8;have aO:R.rows.getD p zm.zero=R.rows[p]:=by simp[P]
 have aS:R.qw.getD p []=R.qw[p]:=by simp[u]
 rw[aO] at a6 c;rw[aS] at c bq;have HT:=U2 (h.tries p P am);have az:=U2 λW hW=>em W own (0,p,0) Q.tbs[p] R.rows[p] x y z R.Q (HT.l.u hW) a6;have bK:(p:Int)<(R.rows.j:Int):=η;have bH:(p:Int)<(R.qw.j:Int):=η;have bS:=h.small.2.1;have b4:=h.M.1;have bz:=h.M.2.1;have aT:=U2 λW o ax (T:zm) (hW:μ w W) (hT:xe lo o ax (0,p,0) Q.tbs[p] T) (m:UB lo (onT (·=(0,p,0))) W own o ax)=>(HR.l.u hW).setTrie P am hT m;have E:X ((yE R.rows[p] [x,y,z] R.Q).2=false/\R'={R with rows:=R.rows.set p (yE R.rows[p] [x,y,z] R.Q).1}/\b=true∨(yE R.rows[p] [x,y,z] R.Q).2=true/\R'={R with rows:=R.rows.set p (yE R.rows[p] [x,y,z] R.Q).1,qw:=R.qw.set p (R.qw[p]++[[x,y,z]]),count:=R.count+1}/\b=decide (R.count+1<=mr)):=c;have b7:=U2 λb (hb:Q.fvs[p].m=Z b)=>yb (h.jo p u D).1.1 hb;clear h a7 a8 a6 c aO aS h1 h3 h4 h5 h6;have bQ:X (Q.tbs[p]=Q.tbs[p]):=rfl;generalize bg:(yE R.rows[p] [x,y,z] R.Q).1=T' at *;clear bg;generalize bE:(yE R.rows[p] [x,y,z] R.Q).2=a9 at *;clear bE;have aU:=U3.new w #[ι x,ι y,ι z] 165;go_enter func121,ntmps121;go_wp2;go_region_held3 (λo=>o.p ⟨rb,0,Y⟩=Z (.k (Z ⟨g,0,Y⟩) R.rows.j aI)/\o.p ⟨g,p,Y⟩=Z (.u (Z ⟨Q.tbs[p],0,Y⟩))/\o.p ⟨rb,2,Y⟩=Z (ι R.Q)/\o.p ⟨w.o.q,0,Y⟩=Z (ι x)/\o.p ⟨w.o.q,1,Y⟩=Z (ι y)/\o.p ⟨w.o.q,2,Y⟩=Z (ι z)) (first|(exact⟨aA,aQ,aV,A,C,B⟩)|go_keep|(go_simp;done)) (first|(go_at_call 163;refine(az.l _ γ).y ?_;rintro e F ⟨rfl,aK,an⟩;have a5:μ w _:=(show μ w (w.C (.E #[ι x,ι y,ι z] 165)).drew from γ);have aj:=aT.l _ _ _ _ a5 aK an;obtain⟨bv,bc,aA,bi,aV,bf,aZ,bu,b6,ap⟩:=aj.at;rw[a4.l] at aA;rw[aa.l] at ap;have j:=(aU.drew).mod an (jG θ _);have A:=j.H.1 0;have C:=j.H.1 1;have B:=j.H.1 2;simp only[l0,dS,li] at A C B;obtain⟨g',bF,I,bR,aQ⟩:=aj.trie p (by simpa using P) am;rw[a4.l] at I;simp only[h_,zt,k_,and_true] at I;have aB:=I.1;clear I;subst aB))
 have aw:UB lo (m6 p) w own F _:=(UB.of own a5).A (an.more λ_ _ q=>zh q);have t:X (ya lo F (ext own (w.C (.E #[ι x,ι y,ι z] 165)).drew.o.q (0,p,0)) rb {R with rows:=R.rows.set p T'} wd mr mx Q):=aj;have ab:X (UB lo (m6 p) w own F (ext own (w.C (.E #[ι x,ι y,ι z] 165)).drew.o.q (0,p,0))):=aw;clear aj aw aK an HT az aT hc h0 h2 h7 b2 hl hf aU a5 a4;generalize ext own (w.C (.E #[ι x,ι y,ι z] 165)).drew.o.q (0,p,0)=ad at *;cases a9
 .have c:=E.l;simp only[fh,false_and,or_false,true_and] at c;obtain⟨rfl,rfl⟩:=c;go_wp2;go_ret;exact⟨rfl,ad,Q.fvs,t.l,ab.l⟩
 have c:=E.l;simp only[Bool.true_eq_false,false_and,false_or,true_and] at c;have aN:=U2 c.1;have b3:=U2 c.2;clear c E;obtain⟨bN,bb,J,bG,M⟩:=t.l.frow p u D;rw[aa.l] at J;simp only[h_,zt,k_,and_true] at J;have aB:=J.1;clear J;subst aB;have n:=(t.l.jo p u D).1.1;obtain⟨ae,l,al⟩:=zq n;rw[al] at M;have ai:X (Q.fvs[p]=.k ae R.qw[p].j l):=al;rw[al] at n;clear al;have bx:X (∀r∈R.qw[p],r.j=3):=(t.l.jo p u D).1.2;have bM:=ab.l.q;have bJ:=j.lt;have aq:=U2 j;generalize au:R.qw[p].j=fl at *;have aR:=U2 au;clear au j bf aZ b6 aQ;go_wp2;refine wp_region_noPanic ?_;refine A7 (S:=λo=>o.p ⟨rb,7,Y⟩=Z (.k (Z ⟨gf,0,Y⟩) R.qw.j a0)/\o.p ⟨gf,p,Y⟩=Z (.k ae fl l)/\o.p ⟨w.o.q,0,Y⟩=Z (ι x)/\o.p ⟨w.o.q,1,Y⟩=Z (ι y)/\o.p ⟨w.o.q,2,Y⟩=Z (ι z)) (d:=16) χ ⟨ap,M,A,C,B⟩ (λa=>?_);refine uA (i:=0) (v:=?v0) rfl χ χ χ χ (λ_ _ _ h=>h) (zh ⟨by rfl,?hy0⟩) a ?rest0
 case hy0=>
  intro wq f;go_simp
  (try with_reducible rfl)
 refine uA (i:=1) (v:=?v1) rfl χ χ χ χ (λ_ _ _ h=>h) (zh ⟨by rfl,?hy1⟩) a ?rest1
 case hy1=>
  intro wq f;go_simp
  (try with_reducible rfl)
 refine uA (i:=2) (v:=?v2) rfl χ χ χ χ (λ_ _ _ h=>h) (zh ⟨by rfl,?hy2⟩) a ?rest2
 case hy2=>
  intro wq f;go_simp
  (try with_reducible rfl)
 refine uA (i:=3) (v:=?v3) rfl χ χ χ χ (λ_ _ _ h=>h) (zh ⟨by rfl,?hy3⟩) a ?rest3
 case hy3=>
  intro wq f;go_simp
  (try with_reducible rfl)
 refine uA (i:=4) (v:=?v4) rfl χ χ χ χ (λ_ _ _ h=>h) (zh ⟨by rfl,?hy4⟩) a ?rest4
 case hy4=>
  intro wq f;go_simp
  (try with_reducible rfl)
 refine uA (i:=5) (v:=?v5) rfl χ χ χ χ (λ_ _ _ h=>h) (zh ⟨by rfl,?hy5⟩) a ?rest5
 case hy5=>
  intro wq f;go_simp
  (try with_reducible rfl)
 refine uA (i:=6) (v:=?v6) rfl χ χ χ χ (λ_ _ _ h=>h) (zh ⟨by rfl,?hy6⟩) a ?rest6
 case hy6=>
  intro wq f;go_simp
  (try with_reducible rfl)
 refine uA (i:=7) (v:=?v7) rfl χ χ χ χ (λ_ _ _ h=>h) (zh ⟨by rfl,?hy7⟩) a ?rest7
 case hy7=>
  intro wq f;go_simp
  (try with_reducible rfl)
 refine uA (i:=8) (v:=?v8) rfl χ χ χ χ (λ_ _ _ h=>h) (zh ⟨by rfl,?hy8⟩) a ?rest8
 case hy8=>
  intro wq f;go_simp
  (try with_reducible rfl)
 refine uA (i:=9) (v:=?v9) rfl χ χ χ χ (λ_ _ _ h=>h) (zh ⟨by rfl,?hy9⟩) a ?rest9
 case hy9=>
  intro wq f;go_simp
  (try with_reducible rfl)
 refine uA (i:=10) (v:=?v10) rfl χ χ χ χ (λ_ _ _ h=>h) (zh ⟨by rfl,?hy10⟩) a ?rest10
 case hy10=>
  intro wq f;go_simp
  (try with_reducible rfl)
 refine uA (i:=11) (v:=?v11) rfl χ χ χ χ (λ_ _ _ h=>h) (zh ⟨by rfl,?hy11⟩) a ?rest11
 case hy11=>
  intro wq f;go_simp
  (try with_reducible rfl)
 refine uA (i:=12) (v:=?v12) rfl χ χ χ χ (λ_ _ _ h=>h) (zh ⟨by rfl,?hy12⟩) a ?rest12
 case hy12=>
  intro wq f;go_simp
  (try with_reducible rfl)
 refine fI (i:=13) χ rfl (λK hK=>?_);go_simp
 have N:μ F (F.C (.E #[ι x,ι y,ι z] 165)).drew:=γ;refine hK.l _ _ (λ_=>⟨(g_ (p:=⟨rb,7,Y⟩) N (show rb<F.o.q by omega)).A ap,(g_ (p:=⟨gf,p,Y⟩) N (show gf<F.o.q by omega)).A M,(g_ (p:=⟨w.o.q,0,Y⟩) N (show w.o.q<F.o.q by omega)).A A,(g_ (p:=⟨w.o.q,1,Y⟩) N (show w.o.q<F.o.q by omega)).A C,(g_ (p:=⟨w.o.q,2,Y⟩) N (show w.o.q<F.o.q by omega)).A B⟩) ?_;clear hK K a;refine fI (i:=14) χ rfl (λK hK=>?_);refine fU F _ [ι x,ι y,ι z] 165 rfl (.tmp 57) (.tmp 59) 161 rfl lo 165 i0 _ 3 24 underlying161 hi bw bp bA rfl θ (.k ae fl l) fl (jZ R.qw[p]) (by simp[Act.eval]) n (by exact N) F.o.q 1 (by simp[Act.eval]) (by exact U3.drew (U3.new _ _ _)) rfl a_ η η η ?_;intro v' w3 a3 ac ar b1 bI;obtain⟨ak,L,rfl⟩:=zq a3;have aG:=UP.own n;have ay:=t.l.box.saveT ac aG θ;have ao:=ay.H.1 7;simp only[l0,dS,li] at ao;rw[aa.l] at ao;have H:=yR t.l.qw ac aG θ;rw[aa.l] at H;have a1:w3.p ⟨gf,p,Y⟩=Z (.k ae fl l):=by
  obtain⟨bV,ba,a2,_,_,aE⟩:=yt H (show 0<R.qw.j by omega);simp only[h_,zt,k_,and_true] at a2;have e:=a2.1;subst e;have:=aE p Q.fvs[p] (by simp[D]);rw[ai.l] at this;exact this
 have aY:=uv H;have G:=aq.l.save ac (λhm=>by
  have:=b7.l w.o.q (by rw[ai.l];exact yA hm);omega)
 have ah:=G.H.1 0;have ag:=G.H.1 1;have af:=G.H.1 2;simp only[l0,dS,li] at ah ag af;have k:w3.p ⟨rb,7,Y⟩=Z (.k (Z ⟨gf,0,Y⟩) R.qw.j a0)/\w3.p ⟨gf,p,Y⟩=Z (.k ae fl l)/\w3.p ⟨w.o.q,0,Y⟩=Z (ι x)/\w3.p ⟨w.o.q,1,Y⟩=Z (ι y)/\w3.p ⟨w.o.q,2,Y⟩=Z (ι z):=⟨ao,a1,ah,ag,af⟩;refine hK.l _ _ (λ_=>k) ?_;clear hK K;refine uA (i:=15) (v:=?v15) rfl χ χ χ χ (λ_ _ _ h=>h) (zh ⟨by rfl,?hy15⟩) k ?rest15
 case hy15=>
  intro wq f;go_simp
  (try with_reducible rfl)
 refine fI (i:=16) χ rfl (λK hK=>?_);go_simp
 refine hK.l _ _ (λhq=>zC rfl hq) ?_;clear hK K;refine Cd χ ?_ _;refine NoPanic.normal ?_;have hP:=ya.pushFresh (v':=.k ak (fl+1) L) (rs:=R.qw[p]++[[x,y,z]]) t.l u D aa.l (by rw[ai.l];exact ac) ⟨by rw[yB,aR.l];simpa [jZ,Vg] using a3,λr hr=>by rcases zW.1 hr with q|q;exact bx.l r q;simp at q;subst q;rfl⟩ (by rw[ai.l];exact ar);obtain⟨aW,aL⟩:=hP;have V:X (ya lo (w3.x ⟨gf,p,Y⟩ (.k ak (fl+1) L)) (ext ad F.o.q (0,p,1)) rb {R with rows:=R.rows.set p T',qw:=R.qw.set p (R.qw[p]++[[x,y,z]])} wd mr mx ⟨Q.rv,Q.tbs,Q.fv,Q.fvs.set p (.k ak (fl+1) L)⟩):=aW;have bn:=U2 (ab.l.A aL);clear aW aL k ao a1 aY ah ag af ay H G aA bi aV bu ap A C B M bv bc t aq n a3 ac ar b1;generalize ext ad F.o.q (0,p,1)=s at *;generalize w3.x ⟨gf,p,Y⟩ (.k ak (fl+1) L)=w5 at *;obtain⟨b9,br,bs,aF,bh,bm,bD,aP,b5,bB⟩:=V.l.at;simp only at aF aP;clear bs bh bm bD b5 bB;have av:=V.l.box.set 1 (ι ((R.count:Int)+1));have aX:zc [rb] w5 (w5.x ⟨rb,1,Y⟩ (ι ((R.count:Int)+1))):=zc.set _ _ _ _;have aM:UB lo (m6 p) w5 s (w5.x ⟨rb,1,Y⟩ (ι ((R.count:Int)+1))) s:=UB.set s V.l.box V.l.low (zg (zh rfl)) _ _;have aC:=V.l.rebox (R':={R with rows:=R.rows.set p T',qw:=R.qw.set p (R.qw[p]++[[x,y,z]]),count:=R.count+1}) aX (by simpa using av) rfl rfl ⟨by show R.count+1<=1048577;omega,V.l.M.2.2.2⟩;rw[←aN.l] at aC;have aJ:=U2 aC;have bk:=U2 (bn.l.A aM);clear aC aM av aX;go_upto_region 8 with fail
 generalize w5.x ⟨rb,1,Y⟩ (ι ((R.count:Int)+1))=w6 at *;obtain⟨bW,bU,bd,aD,b8,b0,bt,bT,bC,bo⟩:=aJ.l.at;rw[aN.l] at aD;simp only at aD;have aH:((R.count+1:Nat):Int)=(R.count:Int)+1:=η;rw[aH] at aD;clear bd b8 b0 bt bC bo aF aP b9 br aH;go_quiet (fail)
 go_wp2;go_ret;have be:decide ((R.count:Int)+1<=(mr:Int))=b:=by rw[b3.l];exact decide_eq_decide.2 η
 exact⟨by rw[←be];rfl,s,_,aJ.l.u (zG (zn _ _) _),bk.l.A (UB.of s (zG (zn _ _) _))⟩
end
section
variable {lo:Nat}{w w':U}{own':Nat->zo}
def Xg:f_->zo->Prop:=dF [310,323]
def kY(p:Nat):f_->zo->Prop:=orK (m6 p) Xg
def Gf{l:List f_}{t:f_}{ρ:zo}(h:t∈l):dF l t ρ:=h
def gK{l:List f_}{t:f_}(h:t∉l):∀ρ,¬dF l t ρ:=λ_ q=>h q
def UT.mod{ok:f_->zo->Prop}{w w':U}{own own':Nat->zo}{d:Nat}{J:zF}{P:xP}(h:UT lo w d J P)(m:UB lo ok w own w' own')(e:∀ρ,¬ok 310 ρ)(l:∀ρ,¬ok 323 ρ)(g:∀ρ,¬ok 325 ρ)(j:∀ρ,¬ok 327 ρ)(c:∀ρ,¬ok 284 ρ)(f:∀x∈P.tbs,∀b∈x.2,∀t,¬V2 t->¬ok t (own b))(i:∀x∈P.bps,∀b∈x.2.2,∀t,¬V2 t->¬ok t (own b)):UT lo w' d J P:=
 ⟨h.low,h.box.mod m (e _),h.g.mod m c,qs h.ja m l,h.slen,λk a b=>(h.tries k a b).mod m (f _ (zr b)),h.B,qs h.bars m g,h.blen,λk a b=>⟨(h.jk k a b).1.mod m c,(h.jk k a b).2.mod m (i _ (zr b))⟩,h.hlen,λp a b=>⟨qs (h.jf p a b).1 m j,(h.jf p a b).2⟩,h.jl,h.M⟩
def rx(own:Nat->zo)(P:xP)(p:Nat):Prop:=(∀x∈P.tbs,∀b∈x.2,own b≠(0,p,0))/\(∀x∈P.bps,∀b∈x.2.2,own b≠(0,p,0))
def UT.add{own:Nat->zo}{n p:Nat}{J:zF}{P:xP}(h:UT lo w n J P)(m:UB lo (m6 p) w own w' own')(j:rx own P p):UT lo w' n J P/\rx own' P p:=by
 have i:∀{t:f_},V2 t->t≠214->t≠161->t≠165->∀ρ,¬m6 p t ρ:=λa b c d ρ q=>by
  rcases q with q|q|q|q;exact q.1 a;exact b q;exact c q;exact d q.1
 have o:∀{t:f_} {ρ:zo},¬V2 t->ρ≠(0,p,0)->¬m6 p t ρ:=λa b q=>by
  rcases q with q|q|q|q;exact b q.2;subst q;exact a θ;subst q;exact a θ;rw[q.1] at a;exact a θ
 refine⟨h.mod m (i θ θ θ θ) (i θ θ θ θ) (i θ θ θ θ) (i θ θ θ θ) (i θ θ θ θ) (λx f b e t l=>o l (j.1 x f b e)) (λx f b e t l=>o l (j.2 x f b e)),λx f b e=>?_,λx f b e=>?_⟩;obtain⟨k,g,rfl⟩:=uT f;rw[m.old b ((h.tries k (by rw[←h.slen];exact g) g).lt b e).2];exact j.1 _ f b e;obtain⟨k,g,rfl⟩:=uT f;rw[m.old b ((h.jk k (by rw[←h.blen];exact g) g).2.lt b e).2];exact j.2 _ f b e
def UB.ofNext{own:Nat->zo}{e:Nat}{J:zF}{P:xP}(h:UT lo w e J P)(hs:zc (e::P.sv.m.toList) w w'):UB lo Xg w own w' own:=
 UB.ofSave own hs λb d=>by
  rcases z7.1 d with rfl|d
  .exact⟨h.low,h.box.lt,_,_,h.box,Gf θ⟩
  .have a:=yA d;obtain⟨c,f⟩:=kx h.ja a;exact⟨yZ h.ja a,yb h.ja a,c,_,f,Gf θ⟩
def ya.modJ{own:Nat->zo}{c:Nat}{R:zw}{wd mr mx:Nat}{Q:uC}(h:ya lo w own c R wd mr mx Q)(m:UB lo Xg w own w' own'):ya lo w' own' c R wd mr mx Q:=
 h.mod m (gK θ) (gK θ) (gK θ) (λ_=>gK θ _) (λq t b a=>by
  rcases z7.1 a with rfl|a
  .exact b θ
  .rcases z7.1 a with rfl|a
   .exact b θ
   .cases a)
def i9(lo:Nat)(w:U)(own:Nat->zo)(c p:Nat)(R':zw)(b:Bool)(wd mr mx:Nat)(Q:uC)(e:Ending)(w':U):Prop:=e=ε (.bool b)/\∃own' a,ya lo w' own' c R' wd mr mx ⟨Q.rv,Q.tbs,Q.fv,a⟩/\UB lo (kY p) w own w' own'
def IA(w:U)(own:Nat->zo)(x G:Nat)(R R':zw)(J:zF)(P:xP)(wd mr mx:Nat)(Q:uC)(p n:Nat)(b:Bool)(h:ya lo w own x R wd mr mx Q)(hj:UT lo w G J P)(E:rx own P p)(aw:lo<=w.o.q)(hr:qa mr p n R J=Z (R',b)):
  c_ e_ 208 #[(π x),ι p,(π G)] w λe w'=>i9 lo w own x p R' b wd mr mx Q e w':=by
 have HR:=U2 hr;have H0:X (ya lo w own x R wd mr mx ⟨Q.rv,Q.tbs,Q.fv,Q.fvs⟩/\UT lo w G J P/\rx own P p):=⟨h,hj,E⟩;have ai:X (UB lo (kY p) w own w own):=UB.refl w own;clear h hj E hr;go_enter func208,ntmps208;go_wp2;go_loopg [] n (λk wr=>∃(t:zw) (Jk:zF) (a:Nat->zo) (H:Γ),X (qa mr p k t Jk=Z (R',b))/\X (ya lo wr a x t wd mr mx ⟨Q.rv,Q.tbs,Q.fv,H⟩/\UT lo wr G Jk P/\rx a P p)/\X (UB lo (kY p) w own wr a))
 case atStart=>exact⟨R,J,own,Q.fvs,HR,H0,ai⟩
 clear HR H0 ai;obtain⟨t,Jk,a,H,HQ,HK,HM⟩:=hrel;have av:=HM.l.q;rcases gk with _|m;have q:=HQ.l;simp[qa] at q;have q:=HQ.l;unfold qa at q;rcases hn:hX m Jk with _|ar;rw[hn] at q;cases q;obtain⟨f,bn⟩:=ar;rw[hn] at q;have aa:=U2 (Wx wr G Jk P m f bn HK.l.2.1 hn);have ab:X (∀W,UT lo W G f P->zc (G::P.sv.m.toList) wr W->(ya lo W a x t wd mr mx ⟨Q.rv,Q.tbs,Q.fv,H⟩/\UT lo W G f P/\rx a P p)/\UB lo (kY p) w own W a):=λW h1 h2=>by
  have m:=UB.ofNext (own:=a) HK.l.2.1 h2;exact⟨⟨HK.l.1.modJ m,h1,HK.l.2.2⟩,HM.l.A (m.more λ_ _ q=>zg q)⟩
 clear hn HQ;cases bn
 .simp only[zt,yk] at q;have HE:=U2 q;clear q;go_wp2_with (go_at_call 215;refine aa.l.y ?_;rintro e D ⟨rfl,j,o⟩;obtain⟨z,r⟩:=ab.l _ j o;clear j o)
  obtain⟨l,aj,ad⟩:=z;have ax:=U2 l;have y:=U2 r;have aq:=U2 λW hW=>KJ W G f P (aj.u hW);obtain⟨az,ay,_,_,_,C,_,_,_,_⟩:=l.at;have af:=l.box.set 3 (ι (IntKind.i64.wrap (t.jg+f.jg)));have al:zc [x] D (D.x (ω x 3) (ι (IntKind.i64.wrap (t.jg+f.jg)))):=zc.set _ _ _ _;have ag:UB lo (kY p) D a (D.x (ω x 3) (ι (IntKind.i64.wrap (t.jg+f.jg)))) a:=UB.set a l.box l.low (zh (zg (zh rfl))) _ _;have V:=l.rebox (R':={t with jg:=IntKind.i64.wrap (t.jg+f.jg)}) al (by simpa using af) rfl rfl l.M.2.2;rw[HE.l.1] at V;have am:=U2 V;have an:=U2 (y.l.A ag);clear V ag af al l r aj ad;have au:=IntWalk.i64_in;refine wp_region_noPanic ?_;refine A7 (S:=λw'=>w'.p (ω x 3)=Z (ι t.jg)) (d:=11) χ C (λc=>?_);refine uA (i:=0) (v:=?v0) rfl χ χ χ χ (λ_ _ _ h=>h) (zh ⟨by rfl,?hy0⟩) c ?rest0
  case hy0=>
   intro wq B;go_simp
   (try with_reducible rfl)
  refine uA (i:=1) (v:=?v1) rfl χ χ χ χ (λ_ _ _ h=>h) (zh ⟨by rfl,?hy1⟩) c ?rest1
  case hy1=>
   intro wq B;go_simp
   (try with_reducible rfl)
  refine uA (i:=2) (v:=?v2) rfl χ χ χ χ (λ_ _ _ h=>h) (zh ⟨by rfl,?hy2⟩) c ?rest2
  case hy2=>
   intro wq B;go_simp
   (try with_reducible rfl)
  refine uA (i:=3) (v:=?v3) rfl χ χ χ χ (λ_ _ _ h=>h) (zh ⟨by rfl,?hy3⟩) c ?rest3
  case hy3=>
   intro wq B;go_simp
   (try with_reducible rfl)
  refine uA (i:=4) (v:=?v4) rfl χ χ χ χ (λ_ _ _ h=>h) (zh ⟨by rfl,?hy4⟩) c ?rest4
  case hy4=>
   intro wq B;go_simp
   (try with_reducible rfl)
  refine uA (i:=5) (v:=?v5) rfl χ χ χ χ (λ_ _ _ h=>h) (zh ⟨by rfl,?hy5⟩) c ?rest5
  case hy5=>
   intro wq B;go_simp
   (try with_reducible rfl)
  refine fI (i:=6) χ rfl (λK A=>?_);go_simp
  refine(aq.l _ (by exact(zG (zn _ _) 1))).y ?_;rintro e I ⟨rfl,rfl⟩;refine A.l _ _ (λ_=>C) ?_;clear A K;refine uA (i:=7) (v:=?v7) rfl χ χ χ χ (λ_ _ _ h=>h) (zh ⟨by rfl,?hy7⟩) c ?rest7
  case hy7=>
   intro wq B;go_simp
   (try with_reducible rfl)
  refine fI (i:=8) χ rfl (λK A=>?_);go_simp
  refine A.l _ _ (λ_=>C) ?_;clear A K;refine fI (i:=9) χ rfl (λK A=>?_);go_simp
  refine A.l _ _ (λ_=>C) ?_;clear A K;refine fI (i:=10) χ rfl (λK A=>?_);go_simp
  refine A.l _ _ (λ_=>C) ?_;clear A K;refine fI (i:=11) χ rfl (λK A=>?_);go_simp
  refine A.l _ _ (λhq=>zC rfl hq) ?_;clear A K;refine Cd χ ?_ _;refine NoPanic.normal ?_;have ak:Below (D.x (ω x 3) (ι (IntKind.i64.wrap (t.jg+f.jg)))).o.q (D.x (ω x 3) (ι (IntKind.i64.wrap (t.jg+f.jg)))) (D.x (ω x 3) (ι (IntKind.i64.wrap (t.jg+f.jg)))).drew:=γ;have hf:=HE.l.2;go_wp2;go_ret;exact⟨by rw[←hf];rfl,a,H,am.l.u ak,an.l.A (UB.of a ak)⟩
 dsimp only at q;rcases ha:kq mr t p (zI f.g f.P) with _|ap;rw[ha] at q;cases q;obtain⟨R3,b3⟩:=ap;simp only[ha] at q;have ae:=U2 λW (hW:UT lo W G f P)=>Ju W G f P hW;rw[Rw] at ha;have ac:=U2 λW (hl:lo<=W.o.q) (hW:ya lo W a x t wd mr mx ⟨Q.rv,Q.tbs,Q.fv,H⟩)=>E9 W a x t R3 wd mr mx _ p _ _ _ b3 hW hl ha;generalize U5 f.g f.P 0=r0 at *;generalize U5 f.g f.P 1=r1 at *;generalize U5 f.g f.P 2=r2 at *;clear ha;cases b3
 .simp only[zt,yk] at q;have HE:=U2 q;clear q;go_wp2_with (first|(go_at_call 215;refine aa.l.y ?_;rintro e D ⟨rfl,j,o⟩;obtain⟨z,r⟩:=ab.l _ j o;clear j o;have u:=U2 z;have y:=U2 r;clear z r)|(go_at_call 216;refine(ae.l _ u.l.2.1).y ?_;rintro e I ⟨rfl,g⟩)|(go_at_call 121;refine(ac.l _ (by exact(show lo<=(I.C (.E #[ι r0,ι r1,ι r2] 165)).o.q by rw[i_];have:=g.q;have:=y.l.q;omega)) (by exact(u.l.1.u g).u γ)).y ?_;rintro e w4 ⟨rfl,s,N,T,L⟩))
  go_ret;have F:UB lo (kY p) D a w4 s:=((UB.of a g).A (UB.of a (show μ I (I.C (.E #[ι r0,ι r1,ι r2] 165)) from γ))).A (L.more λ_ _ q=>zh q);exact⟨by rw[←HE.l.2];rfl,s,N,by rw[←HE.l.1];exact T,y.l.A F⟩
 have ao:X (qa mr p m R3 f=Z (R',b)):=q;clear q;go_wp2_with (first|(go_at_call 215;refine aa.l.y ?_;rintro e D ⟨rfl,j,o⟩;obtain⟨z,r⟩:=ab.l _ j o;clear j o;have u:=U2 z;have y:=U2 r;clear z r)|(go_at_call 216;refine(ae.l _ u.l.2.1).y ?_;rintro e I ⟨rfl,g⟩)|(go_at_call 121;refine(ac.l _ (by exact(show lo<=(I.C (.E #[ι r0,ι r1,ι r2] 165)).o.q by rw[i_];have:=g.q;have:=y.l.q;omega)) (by exact(u.l.1.u g).u γ)).y ?_;rintro e w4 ⟨rfl,s,N,T,L⟩))
 have M:μ I (I.C (.E #[ι r0,ι r1,ι r2] 165)):=γ;have F:UB lo (kY p) D a w4 s:=((UB.of a g).A (UB.of a M)).A (L.more λ_ _ q=>zh q);have ah:=((u.l.2.1.u g).u M).add L u.l.2.2;go_roundg m
 case measure=>omega
 exact⟨R3,f,s,N,ao,⟨T,ah.1,ah.2⟩,y.l.A F⟩
end
end Go.Proofs.YteampbddflhngaaGreat
