import Derived.Test.YteampbddflhngaaGreatR07
namespace Go.Proofs.YteampbddflhngaaGreat
open List renaming length→List.j,take→List.G
open _root_.Array renaming size→Array.q
open _root_.ByteArray renaming size→ByteArray.q
open Go.RowKit.Below renaming size→Go.RowKit.Below.q,setCell→Go.RowKit.Below.x,mono→Go.RowKit.Below.y,trans→Go.RowKit.Below.A,alloc→Go.RowKit.Below.C
open Go.TypeInfo renaming size→Go.TypeInfo.q
open Go.RowKit.Hid renaming out→Go.RowKit.Hid.l
open Go.Shut renaming out→Go.Shut.l
open Go.World renaming heap→Go.World.o,setCell→Go.World.x,cell?→Go.World.p,alloc→Go.World.C
open Go.Value renaming slice→Go.Value.k,cells→Go.Value.E,ownBlock→Go.Value.m,pointer→Go.Value.u
open Go.TypeDesc renaming slice→Go.TypeDesc.k,pointer→Go.TypeDesc.u
open Go.Calls renaming mono→Go.Calls.y
open Eq renaming trans→Eq.A
open Iff renaming trans→Iff.A
open Go.Obj renaming cells→Go.Obj.E
open Option renaming some→Z,none→Y
open Go.RowKit renaming Hid→X
open Go renaming World→U,Value→O
set_option linter.all false
set_option maxRecDepth 100000
set_option maxHeartbeats 4000000
open Go.Proofs.Tryz Go.RowKit
section
variable {lo:Nat}{b0 wd bb fb ab:Nat}{w w':U}{c:Array O}{tv:O}{own2 own3:Nat->zo}
def Tx.below'{v:O}{rs:List zk}(h:Tx b0 w v rs)(a:μ w w'):Tx b0 w' v rs:=⟨zy h.1 a,h.2⟩
structure VC (c:Array O) (o wd pred:Nat) (tv:O) (bb fb ab:Nat):Prop where
 c0:c[o]?=Z (ι pred)
 c1:c[o+1]?=Z tv
 c2:c[o+2]?=Z (ι wd)
 c3:c[o+3]?=Z ((π bb))
 c4:c[o+4]?=Z ((π fb))
 c5:c[o+5]?=Z ((π ab))
def VC.set{o a:Nat}(h:VC c o wd a tv bb fb ab)(b:Nat):VC (c.setIfInBounds (o+4) ((π b))) o wd a tv bb b ab:=by
 obtain⟨f,e,i,g,j,k⟩:=h;have d:=(ks.1 j).1;refine⟨?_,?_,?_,?_,?_,?_⟩;rw[sW η];exact f;rw[sW η];exact e;rw[sW η];exact i;rw[sW η];exact g;simp[d];rw[sW η];exact k
def VC.E{g:Nat}{T:TypeId}{o a:Nat}(h:VC c o wd a tv bb fb ab)(d:Ti w g c T):g<w.o.q/\(∀q,w.frozen? (ω g q)=false)/\w.p (ω g o)=Z (ι a)/\w.p (ω g (o+1))=Z tv/\w.p (ω g (o+2))=Z (ι wd)/\w.p (ω g (o+3))=Z ((π bb))/\w.p (ω g (o+4))=Z ((π fb))/\w.p (ω g (o+5))=Z ((π ab)):=by
 obtain⟨b,e⟩:=d.H;exact⟨d.lt,e,(b _).A h.c0,(b _).A h.c1,(b _).A h.c2,(b _).A h.c3,(b _).A h.c4,(b _).A h.c5⟩
def lE(k i:Nat)(ρg:zo):TypeId->zo->Prop:=λt ρ=>(¬Ue t/\∃j,ρ=(k+1,i,j))∨(t=301/\ρ=ρg)
def Tq.one{own own':Nat->zo}{k i j:Nat}{ρg:zo}(h:Tq lo (onT (·=(k+1,i,j))) w own w' own'):Tq lo (lE k i ρg) w own w' own':=h.more λ_ _ q=>zh ⟨q.1,j,q.2⟩
def Ge:∀(l:List zk) (T R:zl) (m:Nat),xX l T=Z R->∃b,xX (l.G m) T=Z b/\∀h:m<l.j,okT b=true/\xX (l.G (m+1)) T=Z (yC b l[m] 0).1
 |[],T,R,m,h=>⟨T,by simp[xX],λh=>by simp at h⟩
 |x::l,T,R,0,h=>by
  rw[xX] at h;by_cases a:okT T=true
  .exact⟨T,rfl,λ_=>⟨a,by simp[xX,a]⟩⟩
  .rw[za a] at h;cases h
 |x::l,T,R,m+1,h=>by
  rw[xX] at h;by_cases a:okT T=true
  .rw[zb a] at h;obtain⟨b,d,i⟩:=Ge l _ R m h;refine⟨b,by rw[pE,xX,zb a];exact d,λg=>?_⟩;obtain⟨e,f⟩:=i (by simpa using g);exact⟨e,by rw[pE,xX,zb a];simpa using f⟩
  .rw[za a] at h;cases h
def AS:∀(l:List zk) (T R:zl) (x:zk),xX (l++[x]) T=Z R->∃b,xX l T=Z b/\okT b=true/\R=(yC b x 0).1
 |[],T,R,x,h=>by
  simp only[re,xX] at h;by_cases a:okT T=true
  .rw[zb a] at h;exact⟨T,rfl,a,by simpa using h.symm⟩
  .rw[za a] at h;cases h
 |y::l,T,R,x,h=>by
  rw[lr,xX] at h;by_cases a:okT T=true
  .rw[zb a] at h;obtain⟨b,d,f,e⟩:=AS l _ R x h;exact⟨b,by rw[xX,zb a];exact d,f,e⟩
  .rw[za a] at h;cases h
def o9:∀(l l2:List zk) (T R:zl),xX (l++l2) T=Z R->∃b,xX l T=Z b
 |[],_,T,_,_=>⟨T,rfl⟩
 |y::l,l2,T,R,h=>by
  rw[lr,xX] at h;by_cases a:okT T=true
  .rw[zb a] at h;obtain⟨b,d⟩:=o9 l l2 _ R h;exact⟨b,by rw[xX,zb a];exact d⟩
  .rw[za a] at h;cases h
def E7{g:Nat}{V i:yO}{d:List zk}(h:fQ g wd V d=Z i):∃e b f a,rowsG g V.qw=Z e/\xX e V.before=Z b/\xX (d.filterMap (xW V.lit)) (xk wd (xe V.lit))=Z f/\xX (d.filterMap (xW V.lit)) V.all=Z a/\i={V with before:=b,qw:=f,all:=a}:=by
 unfold fQ at h;split at h;cases h;rename_i e j;split at h;rename_i b f a m k l;exact⟨e,b,f,a,j,m,k,l,by simpa using h.symm⟩;cases h
def PI(W a:U)(b:Option zk)(d e:O):Prop:=∃fb x y z:Nat,d=(π fb)/\e=.bool b.isSome/\[x,y,z]=b.getD [0,0,0]/\W.o.q<=fb/\Ti a fb #[ι (x:Nat),ι (y:Nat),ι (z:Nat)] 165/\μ W a
structure fT (lo b0:Nat) (w wr:U) (own own2:Nat->zo) (k i g:Nat) (c:Array O) (l:zw) (bb fb ab:Nat) (B F A:zl) (tv rv:O) (rows:List zk):Prop where
 before:xh lo wr own2 (k+1,i,0) bb B
 qw:xh lo wr own2 (k+1,i,1) fb F
 all:xh lo wr own2 (k+1,i,2) ab A
 v:yt lo wr tv l.v
 mod:Tq lo (lE k i (own g)) w own wr own2
 box:Ti wr g c 301
 I:Tx b0 wr rv rows
def fT.u{b0:Nat}{w wr w':U}{own own2:Nat->zo}{k i g:Nat}{c:Array O}{l:zw}{bb fb ab:Nat}{B F A:zl}{tv d:O}{a:List zk}(h:fT lo b0 w wr own own2 k i g c l bb fb ab B F A tv d a)(b:μ wr w'):fT lo b0 w w' own own2 k i g c l bb fb ab B F A tv d a:=
 ⟨h.before.u b,h.qw.u b,h.all.u b,h.v.u b,h.mod.A (Tq.of own2 b),h.box.u b,h.I.below' b⟩
def fT.addF{wr W:U}{own:Nat->zo}{k i g:Nat}{l:zw}{B F A F':zl}{e:O}{a:List zk}(h:fT lo b0 w wr own own2 k i g c l bb fb ab B F A tv e a)(j:μ wr W)(f:xh lo w' own3 (k+1,i,1) fb F')(b:Tq lo (onT (·=(k+1,i,1))) W own2 w' own3):fT lo b0 w w' own own3 k i g c l bb fb ab B F' A tv e a:=by
 have d:=h.u j;exact⟨d.before.onT b ζ,f,d.all.onT b ζ,d.v.mod b (jK θ),d.mod.A b.one,d.box.mod b (jK θ _),d.I.mod b (jK θ)⟩
def fT.addA{wr W:U}{own:Nat->zo}{k i g:Nat}{l:zw}{B F A e:zl}{f:O}{a:List zk}(h:fT lo b0 w wr own own2 k i g c l bb fb ab B F A tv f a)(m:μ wr W)(j:xh lo w' own3 (k+1,i,2) ab e)(b:Tq lo (onT (·=(k+1,i,2))) W own2 w' own3):fT lo b0 w w' own own3 k i g c l bb fb ab B F e tv f a:=by
 have d:=h.u m;exact⟨d.before.onT b ζ,d.qw.onT b ζ,j,d.v.mod b (jK θ),d.mod.A b.one,d.box.mod b (jK θ _),d.I.mod b (jK θ)⟩
def I7{b:Nat}{T:TypeId}(h:Ti w b #[ι 0,ι 0,ι 0] T)(x y z:Nat):Ti (((w.x (δ b) (ι x)).x (ω b 1) (ι y)).x (ω b 2) (ι z)) b #[ι x,ι y,ι z] T:=by
 have q:=((h.set 0 (ι x)).set 1 (ι y)).set 2 (ι z);simpa using q
def O3(lo:Nat)(w:U)(own:Nat->zo)(k i g o:Nat)(c:Array O)(d:yO)(P:jX)(ρg:zo)(e:Ending)(w':U):Prop:=e=ε (.tuple #[])/\∃b a,vY lo w' a k i d ⟨P.tv,P.bb,b,P.ab⟩/\Ti w' g (c.setIfInBounds (o+4) ((π b))) 301/\Tq lo (lE k i ρg) w own w' a
def ER(w:U)(own:Nat->zo)(k i g o wd aJ:Nat)(c:Array O)(V V':yO)(P:jX)(rv:O)(a:List zk)(aA:Ti w g c 301)(aO:VC c o wd V.lit.o P.tv P.bb P.fb P.ab)(hv:vY lo w own k i V P)(hr:Tx b0 w rv a)(co:lo<=g)(cF:lo<=w.o.q)(cx:wd<=1000)(cJ:a.j<=1048577)(hV:fQ aJ wd V a=Z V'):
  Calls prog 206 #[.u (Z ⟨g,o,Y⟩),rv] w λe w'=>O3 lo w own k i g o c V' P (own g) e w':=by
 obtain⟨l,bN,fN,aN,d,bU,bO,ci,bY⟩:=E7 hV;obtain⟨bg,aH,rfl⟩:=zr hr.1;have HV:=Th hv;have HR:=Th hr;have bP:=Th λW hW=>Fq W own (k+1,i,1) P.fb V.qw aJ l (hv.qw.u hW) d;have ak:=Th aO;have aP:=Th bU;have bJ:=Th bO;have bs:=Th ci;have cz:=Th bY;have cG:l.j<=1048576:=by
  unfold rowsG at d;split at d;cases d;split at d;simp at d;subst d;assumption
  cases d
 obtain⟨ah,Q,D,s,v,N,C,B⟩:=aO.E aA;clear hV hr d bU bO ci bY aO;go_enter func206,ntmps206;go_upto_region 1 with (first|(go_at_call 78;refine(bP.l _ γ).y ?_;rintro e w1 ⟨ov,rfl,aZ,au⟩;obtain⟨c3,bw,rfl⟩:=zr aZ.1))
 clear D s v N C B Q bP hv;have cb:X (Tq lo (onT (·=(k+1,i,0))) w own w1 own):=Tq.of own au;have b5:=Th (HV.l.before.u au);have bh:=Th (aA.u au);have aG:=Th aZ;have c6:=au.q;clear aZ au;go_loopw [16] (λcn wr=>∃(m:Nat) (T:zl) (b:Nat->zo),m<=l.j/\cn=ι m/\w.o.q<=wr.o.q/\X (xX (l.G m) V.before=Z T)/\X (xh lo wr b (k+1,i,0) P.bb T)/\X (Tq lo (onT (·=(k+1,i,0))) w own wr b)/\X (Ti wr g c 301)/\X (Tx w.o.q wr (.k c3 l.j bw) l)) (λi _=>l.j-(intOf i).toNat);exact⟨0,V.before,own,zs _,rfl,c6,rfl,b5,cb,bh,aG⟩;clear cb b5 bh aG;obtain⟨m,T,b,hm,rfl,ch,HA,HT,HM,HG,aL⟩:=hrel;by_cases a0:m<l.j
 .obtain⟨go,bK,x,y,z,t,b2,M,aV,aK,aR⟩:=aL.l.cell m a0;simp only[O.slice.injEq] at t;have ao:=t.1;clear t;subst ao;obtain⟨Tm,aU,bE⟩:=Ge l V.before bN m aP.l;rw[HA.l] at aU;obtain rfl:T=Tm:=by simpa using aU
  obtain⟨bX,aS⟩:=bE a0;rw[M] at aS;have c5:=Th bX;have cm:=Th aS;clear aU bE aS bX M;obtain⟨ah,Q,D,s,v,N,C,B⟩:=ak.l.E HG.l;have al:=Ti.new wr #[ι x,ι y,ι z] 165;have h:X (∀W,μ wr W->Calls prog 163 #[.u (Z ⟨P.bb,0,Y⟩),.agg #[ι x,ι y,ι z],ι 0] W λe w'=>e=ε (.bool (yC T [x,y,z] 0).2)/\xh lo w' (ext b W.o.q (k+1,i,0)) (k+1,i,0) P.bb (yC T [x,y,z] 0).1/\Tq lo (onT (·=(k+1,i,0))) W b w' (ext b W.o.q (k+1,i,0))):=λW hW=>wy W b (k+1,i,0) P.bb T x y z 0 (HT.l.u hW) c5.l;clear D s v C B;go_wp2;go_region_held3 (λw'=>w'.p ⟨g,o+3,Y⟩=Z (.u (Z ⟨P.bb,0,Y⟩))/\w'.p ⟨wr.o.q,0,Y⟩=Z (ι x)/\w'.p ⟨wr.o.q,1,Y⟩=Z (ι y)/\w'.p ⟨wr.o.q,2,Y⟩=Z (ι z)) (first|go_keep|(go_simp;done)) (first|(go_at_call 163;refine(h.l _ γ).y ?_;rintro e w4 ⟨rfl,a7,I⟩;have bB:=(HG.l.u (show μ wr _ from γ)).mod I (jK θ _);have bf:=(al.drew).mod I (jK θ _);obtain⟨b1,b7⟩:=bf.H;obtain⟨_,_,_,_,_,cj,_,_⟩:=ak.l.E bB))
  have bM:=HM.l.A ((Tq.of b (show μ wr _ from γ)).A I);have cr:=(aL.l.below' (show μ wr _ from γ)).mod I (jK θ);have c0:=bM.q;generalize (yC T [x,y,z] 0).2=cH at *;clear bf b1 b7 cj al I aV aK aR h;go_wp2;go_roundw;exact⟨m+1,_,_,η,ξ,c0,cm,a7,bM,bB,cr⟩;simp[intOf];omega
 have aj:l.G m=l:=yV η;rw[aj,aP.l] at HA;obtain rfl:bN=T:=by have:=HA.l;simpa using this
 clear HA aj hm aL aP;obtain⟨R,n,a5⟩:=HV.l.v.qy;have an:=Th a5;obtain⟨ah,Q,D,s,v,N,C,B⟩:=ak.l.E HG.l;rw[a5] at s;have ba:X (yt lo wr (.k R V.lit.v.j n) V.lit.v):=by have q:=HV.l.v.mod HM.l (jK θ);rw[a5] at q;exact q
 have bv:=Th (HV.l.all.onT HM.l ζ);have aX:=Th (HR.l.mod HM.l (jK θ));have cw:=Fk V.lit;have HD:X (∀W,μ wr W->Calls prog 212 #[.agg #[ι V.lit.o,.k R V.lit.v.j n]] W λe w'=>e=ε (ι (xe V.lit:Nat))/\μ W w'):=λW hW=>Gb W _ V.lit.o V.lit.v (ba.l.u hW);have HN:=Th λW=>AM W wd (xe V.lit) cx η;clear a5 N B cw;generalize cc:xe V.lit=dl at *;clear cc;go_wp2;go_region_held3 (λw'=>w'.p ⟨g,o,Y⟩=Z (ι V.lit.o)/\w'.p ⟨g,o+1,Y⟩=Z (.k R V.lit.v.j n)/\w'.p ⟨g,o+2,Y⟩=Z (ι wd)) (first|go_keep|(go_simp;done)) (first|(go_at_call 212;refine(HD.l _ γ).y ?_;rintro e L ⟨rfl,ax⟩;have j:μ wr L:=(zT γ ax (zf _));have av:=HG.l.u j;obtain⟨_,_,a2,J,b6,_,_,_⟩:=ak.l.E av;rw[an.l] at J)|(go_at_call 119;refine(HN.l _).y ?_;rintro e w3 ⟨tf,cK,rfl,cd,aq⟩;have ap:=av.u aq;obtain⟨bp,bn,bx,aE,bZ,_,bm,_⟩:=ak.l.E ap;rw[an.l] at aE))
 have b9:lo<=L.o.q:=by have:=j.q;have:=HM.l.q;omega
 have t:=HM.l.old g aA.lt;have bu:fT lo b0 w (w3.x ⟨g,o+4,Y⟩ ((π tf))) own (ext b L.o.q (k+1,i,1)) k i g (c.setIfInBounds (o+4) ((π tf))) V.lit P.bb tf P.ab bN (xk wd dl) V.all (.k R V.lit.v.j n) (.k bg a.j aH) a:=by
  have am:zd [g] w3 (w3.x ⟨g,o+4,Y⟩ ((π tf))):=zd.set _ _ _ _;have aw:=T3.box ap;have b8:=Tl j aq;have bo:Tq lo (λ_ _=>False) L b w3 (ext b L.o.q (k+1,i,1)):=Tq.extNew b (k+1,i,1) aq;have cy:ext b L.o.q (k+1,i,1) g=own g:=by rw[fC _ _ _ _ (by have:=HM.l.q;have:=j.q;have:=aA.lt;omega)];exact t
  refine⟨?_,?_,?_,?_,?_,?_,?_⟩;exact((HT.l.u j).mod bo (λ_ _=>id)).saveT am aw θ;exact(yb.new b (k+1,i,1) cd b9).saveT am aw θ;exact((bv.l.u j).mod bo (λ_ _=>id)).saveT am aw θ;exact((ba.l.u b8)).saveT am aw θ;exact((HM.l.one (ρg:=own g)).A ((Tq.of b j).A (Tq.extNew b (k+1,i,1) aq))).A (Tq.set _ ap co (ze ⟨rfl,cy⟩) _ _);exact ap.set _ _;exact⟨yL (zy aX.l.1 b8) am aw θ,aX.l.2⟩
 have K:=Th (ak.l.set tf);generalize br:c.setIfInBounds (o+4) ((π tf))=c2 at *;have ck:=Th br;clear br;have aT:=Th bu;clear bu;generalize ext b L.o.q (k+1,i,1)=own2 at *;generalize w3.x ⟨g,o+4,Y⟩ ((π tf))=w5 at *;clear bx aE bZ bm bp bn aq cd ap av j a2 J b6 HT bv ba aX HM HG HD HN t b9 ah Q D s v C;have bQ:=aT.l.mod.q;go_wp2;go_loopw [42] (λcl wr=>∃(m:Nat) (F A:zl) (own2:Nat->zo),m<=a.j/\cl=ι m/\w.o.q<=wr.o.q/\X (xX ((a.G m).filterMap (xW V.lit)) (xk wd dl)=Z F)/\X (xX ((a.G m).filterMap (xW V.lit)) V.all=Z A)/\X (fT lo b0 w wr own own2 k i g c2 V.lit P.bb tf P.ab bN F A (.k R V.lit.v.j n) (.k bg a.j aH) a)) (λi _=>a.j-(intOf i).toNat);exact⟨0,_,_,own2,zs _,rfl,bQ,rfl,rfl,aT⟩;clear aT bQ;obtain⟨m,F,A,own2,hm,rfl,ch,HF,HA,S⟩:=hrel;by_cases a0:m<a.j
 .obtain⟨go,bK,x,y,z,t,b2,M,aV,aK,aR⟩:=S.l.I.cell m a0;simp only[O.slice.injEq] at t;have ao:=t.1;clear t;subst ao;have af:X ((a.G (m+1)).filterMap (xW V.lit)=(a.G m).filterMap (xW V.lit)++(xW V.lit [x,y,z]).toList):=by
   rw[X,yN a0,ig,M];cases hq:xW V.lit [x,y,z]<;>simp[hq]
  have aM:X (a.filterMap (xW V.lit)=(a.G (m+1)).filterMap (xW V.lit)++(a.drop (m+1)).filterMap (xW V.lit)):=by rw[X,←ig,jQ]
  obtain⟨F1,ce⟩:=o9 _ _ _ _ (by have q:=bJ.l;rw[aM.l] at q;exact q);obtain⟨A1,bH⟩:=o9 _ _ _ _ (by have q:=bs.l;rw[aM.l] at q;exact q);have bG:=Th ce;have bL:=Th bH;clear ce bH aM M;have bS:X (∀W,μ wr W->Calls prog 213 #[.agg #[ι V.lit.o,.k R V.lit.v.j n],.agg #[ι x,ι y,ι z]] W λr w'=>(∃H G E:Nat,r=ε (.tuple #[.agg #[ι (H:Nat),ι (G:Nat),ι (E:Nat)],.bool (xW V.lit [x,y,z]).isSome])/\[H,G,E]=(xW V.lit [x,y,z]).getD [0,0,0])/\μ W w'):=λW hW=>J5 W _ V.lit.o V.lit.v x y z (S.l.v.u hW);generalize xW V.lit [x,y,z]=om at *;obtain⟨ah,Q,D,s,v,N,C,B⟩:=K.l.E S.l.box;rw[an.l] at s;have al:=Ti.new wr #[ι x,ι y,ι z] 165;clear v N C B;go_wp2;go_cut [8,9] from 46 to 54 (λs8 s9 wx=>PI wr wx om s8 s9)
  .go_region_held3 (λw'=>w'.p ⟨g,o,Y⟩=Z (ι V.lit.o)/\w'.p ⟨g,o+1,Y⟩=Z (.k R V.lit.v.j n)/\w'.p ⟨wr.o.q,0,Y⟩=Z (ι x)/\w'.p ⟨wr.o.q,1,Y⟩=Z (ι y)/\w'.p ⟨wr.o.q,2,Y⟩=Z (ι z)) (first|(exact⟨(Below.cell (p:=⟨g,o,Y⟩) (show Below (wr.o.q+1) L _ from γ) (show g<wr.o.q+1 by omega)).A a2,(Below.cell (p:=⟨g,o+1,Y⟩) (show Below (wr.o.q+1) L _ from γ) (show g<wr.o.q+1 by omega)).A J,(Below.cell (p:=⟨wr.o.q,0,Y⟩) (show Below (wr.o.q+1) L _ from γ) (show wr.o.q<wr.o.q+1 by omega)).A a3,(Below.cell (p:=⟨wr.o.q,1,Y⟩) (show Below (wr.o.q+1) L _ from γ) (show wr.o.q<wr.o.q+1 by omega)).A ar,(Below.cell (p:=⟨wr.o.q,2,Y⟩) (show Below (wr.o.q+1) L _ from γ) (show wr.o.q<wr.o.q+1 by omega)).A az⟩)|go_keep|(go_simp;done)) (first|(go_at_call 213;refine(bS.l _ γ).y ?_;rintro e L ⟨⟨H,G,E,rfl,ae⟩,ax⟩;have j:μ wr L:=(zT γ ax (zf _));have av:=S.l.box.u j;obtain⟨_,_,a2,J,_,_,_,_⟩:=K.l.E av;rw[an.l] at J;have bC:=Th ae;clear ae;have aC:=al.u (show Below (wr.C (.E #[ι x,ι y,ι z] 165)).o.q (wr.C (.E #[ι x,ι y,ι z] 165)) L from zT γ ax (zf _));have ct:wr.o.q+1<=L.o.q:=aC.lt;obtain⟨u,cq⟩:=aC.H;have a3:=u 0;have ar:=u 1;have az:=u 2;clear u;simp only[m6,l9,np] at a3 ar az;(first|((with_reducible refine Ti.carry (Ti.drew (Ti.newAt (wr.C (.E #[ι x,ι y,ι z] 165)) (wr.o.q+1) #[ι 0,ι 0,ι 0] 165 (U.size_alloc _ _).symm)) ax ?_);intro bD;obtain⟨cA,c9,cD⟩:=bD.e)|skip)))
   all_goals
    go_wp2_with fail
    go_meet
    first|exact⟨L.o.q,H,G,E,rfl,rfl,bC.l,η,Ti.new _ _ _,zT j γ (zf _)⟩|exact⟨wr.o.q+1,H,G,E,rfl,rfl,bC.l,η,I7 bD H G E,((j.x ζ _).x ζ _).x ζ _⟩
  clear D s Q al aV aK aR bS;obtain⟨fb,H,G,E,rfl,rfl,ae,c7,bV,aW⟩:=hcut;have a4:=Th (S.l.u aW);have bd:w.o.q<=wc.o.q:=by have:=aW.q;omega
  have a9:=Th bV;clear S aW bV;rcases om with _|f
  .clear ae;simp only[Option.toList_none,qn] at af;simp only[kK];go_wp2;go_roundw;exact⟨m+1,F,A,own2,η,ξ,bd,by rw[X,af.l];exact HF.l,by rw[X,af.l];exact HA.l,a4⟩;simp[intOf];omega
  simp only[uE] at ae;subst ae;simp only[Option.toList_some] at af;simp only[j6];obtain⟨Fm,ai,a1,cf⟩:=AS _ _ _ _ (by have q:=bG.l;rw[af.l] at q;exact q);obtain⟨Am,bc,be,bR⟩:=AS _ _ _ _ (by have q:=bL.l;rw[af.l] at q;exact q);rw[HF.l] at ai;rw[HA.l] at bc;obtain rfl:F=Fm:=by simpa using ai
  obtain rfl:A=Am:=by simpa using bc
  have b4:=Th cf;have bt:=Th bR;have c4:=Th a1;have cu:=Th be;clear ai bc cf bR a1 be;obtain⟨ah,Q,D,s,v,N,C,B⟩:=K.l.E a4.l.box;obtain⟨aB,cs⟩:=a9.l.H;have bi:=aB 0;have ai:=aB 1;have a1:=aB 2;simp only[m6,l9,np] at bi ai a1;have cv:=a9.l.lt;clear aB cs D s v N;have h:X (∀W,μ wc W->Calls prog 163 #[(π tf),.agg #[ι H,ι G,ι E],ι 0] W λe w'=>e=ε (.bool (yC F [H,G,E] 0).2)/\xh lo w' (ext own2 W.o.q (k+1,i,1)) (k+1,i,1) tf (yC F [H,G,E] 0).1/\Tq lo (onT (·=(k+1,i,1))) W own2 w' (ext own2 W.o.q (k+1,i,1))):=λW hW=>wy W own2 (k+1,i,1) tf F H G E 0 (a4.l.qw.u hW) c4.l;go_wp2;go_region_held3 (λw'=>w'.p ⟨g,o+4,Y⟩=Z ((π tf))/\w'.p ⟨fb,0,Y⟩=Z (ι H)/\w'.p ⟨fb,1,Y⟩=Z (ι G)/\w'.p ⟨fb,2,Y⟩=Z (ι E)) (first|go_keep|(go_simp;done)) (first|(go_at_call 163;refine(h.l _ γ).y ?_;rintro e w4 ⟨rfl,a7,I⟩;have ag:μ wc _:=(show μ wc wc.drew from γ);have ay:=a4.l.addF ag a7 I;have a6:=(a9.l.u ag).mod I (jK θ _);obtain⟨ad,b3⟩:=a6.H;have bW:=ad 0;have bT:=ad 1;have bk:=ad 2;clear ad;simp only[m6,l9,np] at bW bT bk;obtain⟨_,_,_,_,_,_,cE,c8⟩:=K.l.E ay.box))
  have cI:=ay.mod.q;have cC:=ay.box.lt;have cB:=a6.lt;have aQ:=Th ay;have cp:=Th a6;rw[←b4.l] at aQ;generalize (yC F [H,G,E] 0).2=bF at *;generalize ext own2 wc.drew.o.q (k+1,i,1)=aa at *;clear ay a6 a7 I a4 a9 C B bi ai a1 ah Q cv ag h b4 b3 bd c7;have h:X (∀W,μ w4 W->Calls prog 163 #[.u (Z ⟨P.ab,0,Y⟩),.agg #[ι H,ι G,ι E],ι 0] W λe w'=>e=ε (.bool (yC A [H,G,E] 0).2)/\xh lo w' (ext aa W.o.q (k+1,i,2)) (k+1,i,2) P.ab (yC A [H,G,E] 0).1/\Tq lo (onT (·=(k+1,i,2))) W aa w' (ext aa W.o.q (k+1,i,2))):=λW hW=>wy W aa (k+1,i,2) P.ab A H G E 0 (aQ.l.all.u hW) cu.l;go_wp2;go_region_held3 (λw'=>w'.p ⟨g,o+5,Y⟩=Z (.u (Z ⟨P.ab,0,Y⟩))/\w'.p ⟨fb,0,Y⟩=Z (ι H)/\w'.p ⟨fb,1,Y⟩=Z (ι G)/\w'.p ⟨fb,2,Y⟩=Z (ι E)) (first|go_keep|(go_simp;done)) (first|(go_at_call 163;refine(h.l _ γ).y ?_;rintro e w6 ⟨rfl,bz,aY⟩;have ag:μ w4 _:=(show μ w4 w4.drew from γ);have a8:=aQ.l.addA ag bz aY;have ca:=(cp.l.u ag).mod aY (jK θ _);obtain⟨ac,bq⟩:=ca.H;have aF:=ac 0;have aI:=ac 1;have aD:=ac 2;clear ac;simp only[m6,l9,np] at aF aI aD;obtain⟨_,_,_,_,_,_,cg,bI⟩:=K.l.E a8.box))
  rw[←bt.l] at a8;have c1:=a8.mod.q;generalize (yC A [H,G,E] 0).2=bA at *;clear bz aY h bt ca aF aI aD cg bI bq;go_wp2;go_roundw;exact⟨m+1,F1,A1,_,η,ξ,c1,bG,bL,a8⟩;simp[intOf];omega
 have aj:a.G m=a:=yV η;rw[aj,bJ.l] at HF;rw[aj,bs.l] at HA;obtain rfl:fN=F:=by have:=HF.l;simpa using this
 obtain rfl:aN=A:=by have:=HA.l;simpa using this
 clear HF HA aj;go_wp2
 (try simp only[Exit.inBlock,Exit.then])
 have h2:=S.l;refine zP (results_none rfl _ _ _) rfl ⟨rfl,tf,own2,?_,?_,h2.mod⟩;rw[cz.l];exact⟨by show yt lo wr P.tv V.lit.v;rw[an.l];exact h2.v,h2.before,h2.qw,h2.all⟩;rw[ck.l];exact h2.box
end
section
variable {lo:Nat}{w:U}{rb wd mr mx:Nat}{R:zv}
structure uz where
 rv:O
 tbs:List Nat
 fv:O
 fvs:List O
def T2(a:List Nat):List Value:=a.map pt
structure zZ (lo:Nat) (w:U) (own:Nat->zo) (rb:Nat) (R:zv) (wd mr mx:Nat) (Q:uz):Prop where
 low:lo<=rb
 box:Ti w rb #[Q.rv,ι R.count,ι R.Q,ι R.jg,ι wd,ι mr,ι mx,Q.fv] 214
 I:w.ownsRow lo 162 1 Q.rv R.I.j (T2 Q.tbs)
 tlen:Q.tbs.j=R.I.j
 tries:∀p (_:p<R.I.j) (_:p<Q.tbs.j),xh lo w own (0,p,0) Q.tbs[p] R.I[p]
 qw:w.ownsRow lo 161 1 Q.fv R.qw.j Q.fvs
 flen:Q.fvs.j=R.qw.j
 jo:∀p (_:p<R.qw.j) (_:p<Q.fvs.j),Tx lo w Q.fvs[p] R.qw[p]/\∀b,Q.fvs[p].m=Z b->own b=(0,p,1)
 K:R.I.j<=1000/\R.qw.j<=1000/\R.count<=1048577/\R.Q<=1048576
 small:wd<=1000/\mr<=1048576/\mx<=1048576
def Tx.modR{c:Nat}{ok:TypeId->zo->Prop}{w':U}{own own':Nat->zo}{v:O}{a:List zk}(h:Tx c w v a)(p:Tq lo ok w own w' own')(d:∀b,v.m=Z b->¬ok 165 (own b)):Tx c w' v a:=⟨tC h.1 p d,h.2⟩
def zZ.mod{ok:TypeId->zo->Prop}{w w':U}{own own':Nat->zo}{rb:Nat}{R:zv}{wd mr mx:Nat}{Q:uz}(h:zZ lo w own rb R wd mr mx Q)(p:Tq lo ok w own w' own')(d:∀ρ,¬ok 214 ρ)(f:∀ρ,¬ok 162 ρ)(e:∀ρ,¬ok 161 ρ)(g:∀q,¬ok 165 (0,q,1))(i:∀q t,¬Ue t->¬ok t (0,q,0)):zZ lo w' own' rb R wd mr mx Q:=by
 refine⟨h.low,h.box.mod p (d _),vR h.I p f,h.tlen,λq a b=>(h.tries q a b).mod p (i q),vR h.qw p e,h.flen,λq a b=>⟨(h.jo q a b).1.modR p λx c=>by rw[(h.jo q a b).2 x c];exact g q,λx c=>?_⟩,h.K,h.small⟩;rw[p.old x (yF (h.jo q a b).1.1 c)];exact(h.jo q a b).2 x c
def zZ.u{w':U}{own:Nat->zo}{Q:uz}(h:zZ lo w own rb R wd mr mx Q)(a:μ w w'):zZ lo w' own rb R wd mr mx Q:=h.mod (Tq.of (ok:=λ_ _=>False) own a) (λ_=>id) (λ_=>id) (λ_=>id) (λ_=>id) (λ_ _ _=>id)
def zZ.at{own:Nat->zo}{Q:uz}(h:zZ lo w own rb R wd mr mx Q):rb<w.o.q/\(∀o,w.frozen? (ω rb o)=false)/\w.p (δ rb)=Z Q.rv/\w.p (ω rb 1)=Z (ι R.count)/\w.p (ω rb 2)=Z (ι R.Q)/\w.p (ω rb 3)=Z (ι R.jg)/\w.p (ω rb 4)=Z (ι wd)/\w.p (ω rb 5)=Z (ι mr)/\w.p (ω rb 6)=Z (ι mx)/\w.p (ω rb 7)=Z Q.fv:=by
 obtain⟨a,b⟩:=h.box.H;exact⟨h.box.lt,b,a 0,a 1,a 2,a 3,a 4,a 5,a 6,a 7⟩
def zZ.trie{own:Nat->zo}{Q:uz}(h:zZ lo w own rb R wd mr mx Q)(p:Nat)(f:p<R.I.j)(b:p<Q.tbs.j):∃g a,Q.rv=.k (Z (δ g)) R.I.j a/\g<w.o.q/\w.p (ω g p)=Z (.u (Z (δ Q.tbs[p]))):=by
 obtain⟨g,a,c,_,e,d⟩:=yq h.I η;exact⟨g,a,c,e,d p _ (by simp[T2,b,pt])⟩
def zZ.frow{own:Nat->zo}{Q:uz}(h:zZ lo w own rb R wd mr mx Q)(p:Nat)(f:p<R.qw.j)(b:p<Q.fvs.j):∃g a,Q.fv=.k (Z (δ g)) R.qw.j a/\g<w.o.q/\w.p (ω g p)=Z Q.fvs[p]:=by
 obtain⟨g,a,c,_,e,d⟩:=yq h.qw η;exact⟨g,a,c,e,d p _ (by simp[b])⟩
def Tf:(prog.info? 161).map (λi=>(i.zero,i.q,i.bytes))=Z (Z (ν),1,24):=χ
def rQ(w:U)(n:Nat)(T:TypeId)(z:O)(b:n<=maxLen):(w.C (.E (madeCells #[z] n) T)).ownsRow w.o.q T 1 (.k (Z (δ w.o.q)) n n) n (List.replicate n z):=by
 refine⟨ζ,ze ⟨w.o.q,n,madeCells #[z] n,rfl,zf _,?_,zf _,b,by rw[size_madeCells];omega,?_⟩⟩;show(w.o.push _)[w.o.q]?=_;simp;apply nI;intro i;by_cases a:i<n;simp[a,madeCells,Nat.mod_one];simp[List.getElem?_take,a]
def Oe(lo:Nat)(w:U)(own:Nat->zo)(rb:Nat)(R:zv)(wd mr mx:Nat)(Q:uz)(e:Ending)(w':U):Prop:=e=ε (.tuple #[])/\∃b a,zZ lo w' own rb (qT R) wd mr mx ⟨Q.rv,Q.tbs,b,a⟩/\Tq lo (dT [214]) w own w' own
def Ux(w:U)(own:Nat->zo)(rb:Nat)(R:zv)(wd mr mx:Nat)(Q:uz)(h:zZ lo w own rb R wd mr mx Q)(m:lo<=w.o.q):
  Calls prog 120 #[(π rb)] w λe G=>Oe lo w own rb R wd mr mx Q e G:=by
 obtain⟨z,B,o,y,s⟩:=info_parts Tf;obtain⟨M,I,N,L,V,T,h4,K,J,S⟩:=h.at;obtain⟨v,t,A⟩:=zr h.I;have k:=h.K.1;have H:=Th h;have C:=λW:U=>run_make (P:=prog) (w:=W) 212 161 z _ underlying212 B o .i64 .i64 (R.I.j:Int) (R.I.j:Int) η (Int.le_refl _) (by rw[s];omega) η;generalize D:R.I.j=n at *;have F:=Th D;go_enter func120,ntmps120;go_wp2;refine zP (results_none rfl _ _ _) rfl ⟨rfl,.k (Z (δ w.o.q)) n n,List.replicate n (ν),?_,?_⟩;have i:zd [rb] w (w.x (ω rb 7) (.k (Z (δ w.o.q)) n n)):=zd.set _ _ _ _;have u:=T3.box H.l.box;have j:(w.x (ω rb 7) (.k (Z (δ w.o.q)) n n)).o.q=w.o.q:=by simp[U.setCell]
 have p:=H.l.box.set 7 (.k (Z (δ w.o.q)) n n);have f:=yL H.l.I i u θ;have r:=λq a b=>(H.l.tries q a b).saveT i u θ;have d:=rQ (w.x (ω rb 7) (.k (Z (δ w.o.q)) n n)) n 161 (ν) b_;rw[j] at d;have g:Below (w.x (ω rb 7) (.k (Z (δ w.o.q)) n n)).o.q (w.x (ω rb 7) (.k (Z (δ w.o.q)) n n)) ((w.x (ω rb 7) (.k (Z (δ w.o.q)) n n)).C (.E (madeCells #[ν] n) 161)):=γ;have l:(qT R).qw=List.replicate n []:=by rw[qT,F.l]
 have c:(qT R).qw.j=n:=by rw[l,List.length_replicate]
 refine⟨H.l.low,by simpa [qT] using p.u g,zy f g,H.l.tlen,λq a b=>(r q a b).u g,by rw[c];exact yo d m,by rw[c];simp,λq a b=>?_,⟨H.l.K.1,by rw[c];exact k,H.l.K.2.2⟩,H.l.small⟩;simp only[l,eP];exact⟨⟨xo _ _ _ _,ζ⟩,λx E=>by cases E⟩;have j:(w.x (ω rb 7) (.k (Z (δ w.o.q)) n n)).o.q=w.o.q:=by simp[U.setCell]
 exact(Tq.set own H.l.box H.l.low (show dT [214] 214 (own rb) from xL.2 rfl) 7 _).A (Tq.of own γ)
def FC(w:U)(own:Nat->zo)(rb:Nat)(R:zv)(wd mr mx:Nat)(Q:uz)(p:Nat)(h:zZ lo w own rb R wd mr mx Q)(k:p<R.I.j)(b:p<Q.tbs.j):
  Calls prog 205 #[(π rb),ι p] w λe s=>e=ε (.u (Z (δ Q.tbs[p])))/\s=w:=by
 obtain⟨y,t,m,l,q,o,r,i,f,n⟩:=h.at;obtain⟨g,j,a,v,u⟩:=h.trie p k b;rw[a] at m;have d:(p:Int)<(R.I.j:Int):=η;have c:=h.K.1;clear h a l q o r i f n;generalize Q.tbs[p]=x at *;go_enter func205,ntmps205;go_wp2;go_ret;exact⟨rfl,rfl⟩
def As(p:Nat):TypeId->zo->Prop:=λt ρ=>t=165/\ρ=(0,p,1)
def lC(p:Nat):TypeId->zo->Prop:=λt ρ=>(¬Ue t/\ρ=(0,p,0))∨t=214∨t=161∨As p t ρ
def zZ.setTrie{w':U}{own own':Nat->zo}{Q:uz}{p:Nat}{T:zl}(h:zZ lo w own rb R wd mr mx Q)(i:p<R.I.j)(f:p<Q.tbs.j)(g:xh lo w' own' (0,p,0) Q.tbs[p] T)(m:Tq lo (onT (·=(0,p,0))) w own w' own'):zZ lo w' own' rb {R with I:=R.I.set p T} wd mr mx Q:=by
 have c:(R.I.set p T).j=R.I.j:=ζ;refine⟨h.low,h.box.mod m (jK θ _),by rw[c];exact vR h.I m (jK θ),by rw[c];exact h.tlen,λq a b=>?_,vR h.qw m (jK θ),h.flen,λq a b=>⟨(h.jo q a b).1.mod m (jK θ),λx d=>?_⟩,by rw[c];exact h.K,h.small⟩;by_cases e:q=p;subst e;simp only[p7];exact g;simp only[rn (Ne.symm e)];exact(h.tries q (by simpa using a) b).onT m (by simp[e]);rw[m.old x (yF (h.jo q a b).1.1 d)];exact(h.jo q a b).2 x d
def zZ.rebox{w':U}{own:Nat->zo}{R':zv}{Q:uz}(h:zZ lo w own rb R wd mr mx Q)(hs:zd [rb] w w')(m:Ti w' rb #[Q.rv,ι R'.count,ι R'.Q,ι R'.jg,ι wd,ι mr,ι mx,Q.fv] 214)(j:R'.I=R.I)(k:R'.qw=R.qw)(l:R'.count<=1048577/\R'.Q<=1048576):zZ lo w' own rb R' wd mr mx Q:=by
 have f:=T3.box h.box;obtain⟨i,e,c,g,d⟩:=R';simp only at j k;subst j;subst k;exact⟨h.low,m,yL h.I hs f θ,h.tlen,λq a b=>(h.tries q a b).saveT hs f θ,yL h.qw hs f θ,h.flen,λq a b=>⟨⟨yL (h.jo q a b).1.1 hs f θ,(h.jo q a b).1.2⟩,(h.jo q a b).2⟩,⟨h.K.1,h.K.2.1,l⟩,h.small⟩
def zZ.pushFresh{o:U}{own:Nat->zo}{s u:Nat}{Q:uz}{p:Nat}{v':O}{rs:List zk}(h:zZ lo w own rb R wd mr mx Q)(L:p<R.qw.j)(B:p<Q.fvs.j)(y:Q.fv=.k (Z (δ s)) R.qw.j u)(P:zd Q.fvs[p].m.toList w o)(G:Tx lo o v' rs)(D:v'.m=Q.fvs[p].m∨∃g,v'.m=Z g/\w.o.q<=g):
  zZ lo (o.x (ω s p) v') (ext own w.o.q (0,p,1)) rb {R with qw:=R.qw.set p rs} wd mr mx ⟨Q.rv,Q.tbs,Q.fv,Q.fvs.set p v'⟩/\Tq lo (lC p) w own (o.x (ω s p) v') (ext own w.o.q (0,p,1)):=by
 have f:=h.jo p L B;have r:Tq lo (As p) w own o (ext own w.o.q (0,p,1)):=⟨λb F=>fC _ _ _ _ F,_,P,λb F=>by
  have n:=xb F;obtain⟨c,I⟩:=jM f.1.1 n;exact⟨yW f.1.1 n,yF f.1.1 n,c,_,I,rfl,f.2 b n⟩⟩
 have E:∀{t:TypeId},t≠165->∀ρ,¬As p t ρ:=λN ρ q=>N q.1;have z:=vR h.qw r (E θ);have d:=z;rw[y] at d;have v:=uD d p η v';obtain⟨T,A⟩:=jM d (b:=s) rfl;have i:zd [s] o (o.x (ω s p) v'):=zd.set _ _ _ _;have l:=T3.box A;have k:(R.qw.set p rs).j=R.qw.j:=ζ;have C:=yW d rfl;refine⟨⟨h.low,(h.box.mod r (E θ _)).saveT i l θ,yL (vR h.I r (E θ)) i l θ,h.tlen,λq a b=>((h.tries q a b).mod r (λt H q=>H (by rw[q.1];decide))).saveT i l θ,by rw[k,y];exact v,by rw[k];simpa using h.flen,λq a b=>?_,⟨h.K.1,by rw[k];exact h.K.2.1,h.K.2.2⟩,h.small⟩,?_⟩;by_cases e:q=p;subst e;simp only[p7];refine⟨⟨yL G.1 i l θ,G.2⟩,λx m=>?_⟩;rcases D with e|⟨g,e,K⟩;rw[e] at m;rw[fC _ _ _ _ (yF f.1.1 m)];exact f.2 x m;rw[e] at m;simp only[zt] at m;subst m;simp[ext,Nat.not_lt.2 K];simp only[rn (Ne.symm e)];have M:q<R.qw.j:=by simpa using a
 have S:q<Q.fvs.j:=by simpa using b
 have j:=h.jo q M S;refine⟨⟨yL (j.1.modR r λx m J=>e (by have:=j.2 x m;rw[J.2] at this;simp at this;exact this.symm)).1 i l θ,j.1.2⟩,λx m=>?_⟩;rw[fC _ _ _ _ (yF j.1.1 m)];exact j.2 x m;exact(r.more λt ρ q=>ze (ze (ze q))).A (Tq.set _ A C (ze (ze (zh rfl))) _ _)
def Sc(lo:Nat)(w:U)(own:Nat->zo)(rb p:Nat)(R':zv)(b:Bool)(wd mr mx:Nat)(Q:uz)(e:Ending)(w':U):Prop:=e=ε (.bool b)/\∃a c,zZ lo w' a rb R' wd mr mx ⟨Q.rv,Q.tbs,Q.fv,c⟩/\Tq lo (lC p) w own w' a
def iZ{R':zv}{p:Nat}{row:zk}{b:Bool}(h:jV mr R p row=Z (R',b)):p<R.I.j/\p<R.qw.j/\okT (R.I.getD p zl.zero)=true/\R.count<=1048576/\(R.qw.getD p []).j<=1048576/\((yC (R.I.getD p zl.zero) row R.Q).2=false/\R'={R with I:=R.I.set p (yC (R.I.getD p zl.zero) row R.Q).1}/\b=true∨(yC (R.I.getD p zl.zero) row R.Q).2=true/\R'={R with I:=R.I.set p (yC (R.I.getD p zl.zero) row R.Q).1,qw:=R.qw.set p (R.qw.getD p []++[row]),count:=R.count+1}/\b=decide (R.count+1<=mr)):=by
 unfold jV at h;split at h;rename_i e;obtain⟨c,f,d,g,i⟩:=e;refine⟨c,f,d,g,i,?_⟩;rcases a:yC (R.I.getD p zl.zero) row R.Q with⟨T,_|_⟩
 rw[a] at h;simp only[zt,ye] at h;exact zh ⟨rfl,h.1.symm,h.2.symm⟩;rw[a] at h;simp only[zt,ye] at h;exact ze ⟨rfl,h.1.symm,h.2.symm⟩;cases h
def Cq(w:U)(own:Nat->zo)(rb:Nat)(R R':zv)(wd mr mx:Nat)(Q:uz)(p x y z:Nat)(b:Bool)(h:zZ lo w own rb R wd mr mx Q)(bN:lo<=w.o.q)(hr:jV mr R p [x,y,z]=Z (R',b)):
  Calls prog 121 #[(π rb),ι p,.agg #[ι x,ι y,ι z]] w λe C=>Sc lo w own rb p R' b wd mr mx Q e C:=by
 obtain⟨i0,hi,bb,bv,b2⟩:=info_parts SI;obtain⟨N,u,aE,bH,bt,c⟩:=iZ hr;have aq:p<Q.tbs.j:=by rw[h.tlen];exact N
 have E:p<Q.fvs.j:=by rw[h.flen];exact u
 obtain⟨hl,hf,h0,h1,h2,h3,h4,h5,h6,h7⟩:=h.at;obtain⟨g,aV,a9,hg,hc⟩:=h.trie p N aq;obtain⟨gf,az,a6,bS,bD⟩:=h.frow p u E;rw[a9] at h0;rw[a6] at h7;have HR:=Th h;have a7:=Th a9;have ag:=Th a6;have aJ:R.I.getD p zl.zero=R.I[p]:=by simp[N]
 have aI:R.qw.getD p []=R.qw[p]:=by simp[u]
 rw[aJ] at aE c;rw[aI] at c bt;have HT:=Th (h.tries p N aq);have a1:=Th λW hW=>wy W own (0,p,0) Q.tbs[p] R.I[p] x y z R.Q (HT.l.u hW) aE;have bM:(p:Int)<(R.I.j:Int):=η;have bL:(p:Int)<(R.qw.j:Int):=η;have bX:=h.small.2.1;have bC:=h.K.1;have be:=h.K.2.1;have aU:=Th λW C aw (T:zl) (hW:μ w W) (hT:xh lo C aw (0,p,0) Q.tbs[p] T) (m:Tq lo (onT (·=(0,p,0))) W own C aw)=>(HR.l.u hW).setTrie N aq hT m;have D:X ((yC R.I[p] [x,y,z] R.Q).2=false/\R'={R with I:=R.I.set p (yC R.I[p] [x,y,z] R.Q).1}/\b=true∨(yC R.I[p] [x,y,z] R.Q).2=true/\R'={R with I:=R.I.set p (yC R.I[p] [x,y,z] R.Q).1,qw:=R.qw.set p (R.qw[p]++[[x,y,z]]),count:=R.count+1}/\b=decide (R.count+1<=mr)):=c;have bF:=Th λb (hb:Q.fvs[p].m=Z b)=>yF (h.jo p u E).1.1 hb;clear h a9 a6 aE c aJ aI h1 h3 h4 h5 h6;have bU:X (Q.tbs[p]=Q.tbs[p]):=rfl;generalize b4:(yC R.I[p] [x,y,z] R.Q).1=T' at *;clear b4;generalize bn:(yC R.I[p] [x,y,z] R.Q).2=aB at *;clear bn;have aG:=Ti.new w #[ι x,ι y,ι z] 165;go_enter func121,ntmps121;go_wp2;go_region_held3 (λC=>C.p ⟨rb,0,Y⟩=Z (.k (Z ⟨g,0,Y⟩) R.I.j aV)/\C.p ⟨g,p,Y⟩=Z (.u (Z ⟨Q.tbs[p],0,Y⟩))/\C.p ⟨rb,2,Y⟩=Z (ι R.Q)/\C.p ⟨w.o.q,0,Y⟩=Z (ι x)/\C.p ⟨w.o.q,1,Y⟩=Z (ι y)/\C.p ⟨w.o.q,2,Y⟩=Z (ι z)) (first|(exact⟨aD,aZ,aP,n,A,s⟩)|go_keep|(go_simp;done)) (first|(go_at_call 163;refine(a1.l _ γ).y ?_;rintro e F ⟨rfl,aK,ao⟩;have a5:μ w _:=(show μ w (w.C (.E #[ι x,ι y,ι z] 165)).drew from γ);have ak:=aU.l _ _ _ _ a5 aK ao;obtain⟨bk,bB,aD,b9,aP,bd,bw,b1,bp,ap⟩:=ak.at;rw[a7.l] at aD;rw[ag.l] at ap;have j:=(aG.drew).mod ao (jK θ _);have n:=j.H.1 0;have A:=j.H.1 1;have s:=j.H.1 2;simp only[m6,l9,np] at n A s;obtain⟨g',bK,I,bO,aZ⟩:=ak.trie p (by simpa using N) aq;rw[a7.l] at I;simp only[O.slice.injEq,zt,Addr.mk.injEq,and_true] at I;have aC:=I.1;clear I;subst aC))
 have ar:Tq lo (lC p) w own F _:=(Tq.of own a5).A (ao.more λ_ _ q=>zh q);have t:X (zZ lo F (ext own (w.C (.E #[ι x,ι y,ι z] 165)).drew.o.q (0,p,0)) rb {R with I:=R.I.set p T'} wd mr mx Q):=ak;have af:X (Tq lo (lC p) w own F (ext own (w.C (.E #[ι x,ι y,ι z] 165)).drew.o.q (0,p,0))):=ar;clear ak ar aK ao HT a1 aU hc h0 h2 h7 bD hl hf aG a5 a7;generalize ext own (w.C (.E #[ι x,ι y,ι z] 165)).drew.o.q (0,p,0)=ab at *;cases aB
 .have c:=D.l;simp only[dU,false_and,or_false,true_and] at c;obtain⟨rfl,rfl⟩:=c;go_wp2;go_ret;exact⟨rfl,ab,Q.fvs,t.l,af.l⟩
 have c:=D.l;simp only[Bool.true_eq_false,false_and,false_or,true_and] at c;have aM:=Th c.1;have b8:=Th c.2;clear c D;obtain⟨bP,bg,J,bI,L⟩:=t.l.frow p u E;rw[ag.l] at J;simp only[O.slice.injEq,zt,Addr.mk.injEq,and_true] at J;have aC:=J.1;clear J;subst aC;have o:=(t.l.jo p u E).1.1;obtain⟨ae,B,am⟩:=zr o;rw[am] at L;have an:X (Q.fvs[p]=.k ae R.qw[p].j B):=am;rw[am] at o;clear am;have b5:X (∀r∈R.qw[p],r.j=3):=(t.l.jo p u E).1.2;have bV:=af.l.q;have bJ:=j.lt;have a2:=Th j;generalize au:R.qw[p].j=fl at *;have aO:=Th au;clear au j bd bw bp aZ;go_wp2;refine wp_region_noPanic ?_;refine Ae (S:=λC=>C.p ⟨rb,7,Y⟩=Z (.k (Z ⟨gf,0,Y⟩) R.qw.j az)/\C.p ⟨gf,p,Y⟩=Z (.k ae fl B)/\C.p ⟨w.o.q,0,Y⟩=Z (ι x)/\C.p ⟨w.o.q,1,Y⟩=Z (ι y)/\C.p ⟨w.o.q,2,Y⟩=Z (ι z)) (d:=16) χ ⟨ap,L,n,A,s⟩ (λa=>?_);refine uv (i:=0) (v:=?v0) rfl χ χ χ χ (λ_ _ _ h=>h) (zh ⟨by rfl,?hy0⟩) a ?rest0
 case hy0=>
  intro P f;go_simp
  (try with_reducible rfl)
 refine uv (i:=1) (v:=?v1) rfl χ χ χ χ (λ_ _ _ h=>h) (zh ⟨by rfl,?hy1⟩) a ?rest1
 case hy1=>
  intro P f;go_simp
  (try with_reducible rfl)
 refine uv (i:=2) (v:=?v2) rfl χ χ χ χ (λ_ _ _ h=>h) (zh ⟨by rfl,?hy2⟩) a ?rest2
 case hy2=>
  intro P f;go_simp
  (try with_reducible rfl)
 refine uv (i:=3) (v:=?v3) rfl χ χ χ χ (λ_ _ _ h=>h) (zh ⟨by rfl,?hy3⟩) a ?rest3
 case hy3=>
  intro P f;go_simp
  (try with_reducible rfl)
 refine uv (i:=4) (v:=?v4) rfl χ χ χ χ (λ_ _ _ h=>h) (zh ⟨by rfl,?hy4⟩) a ?rest4
 case hy4=>
  intro P f;go_simp
  (try with_reducible rfl)
 refine uv (i:=5) (v:=?v5) rfl χ χ χ χ (λ_ _ _ h=>h) (zh ⟨by rfl,?hy5⟩) a ?rest5
 case hy5=>
  intro P f;go_simp
  (try with_reducible rfl)
 refine uv (i:=6) (v:=?v6) rfl χ χ χ χ (λ_ _ _ h=>h) (zh ⟨by rfl,?hy6⟩) a ?rest6
 case hy6=>
  intro P f;go_simp
  (try with_reducible rfl)
 refine uv (i:=7) (v:=?v7) rfl χ χ χ χ (λ_ _ _ h=>h) (zh ⟨by rfl,?hy7⟩) a ?rest7
 case hy7=>
  intro P f;go_simp
  (try with_reducible rfl)
 refine uv (i:=8) (v:=?v8) rfl χ χ χ χ (λ_ _ _ h=>h) (zh ⟨by rfl,?hy8⟩) a ?rest8
 case hy8=>
  intro P f;go_simp
  (try with_reducible rfl)
 refine uv (i:=9) (v:=?v9) rfl χ χ χ χ (λ_ _ _ h=>h) (zh ⟨by rfl,?hy9⟩) a ?rest9
 case hy9=>
  intro P f;go_simp
  (try with_reducible rfl)
 refine uv (i:=10) (v:=?v10) rfl χ χ χ χ (λ_ _ _ h=>h) (zh ⟨by rfl,?hy10⟩) a ?rest10
 case hy10=>
  intro P f;go_simp
  (try with_reducible rfl)
 refine uv (i:=11) (v:=?v11) rfl χ χ χ χ (λ_ _ _ h=>h) (zh ⟨by rfl,?hy11⟩) a ?rest11
 case hy11=>
  intro P f;go_simp
  (try with_reducible rfl)
 refine uv (i:=12) (v:=?v12) rfl χ χ χ χ (λ_ _ _ h=>h) (zh ⟨by rfl,?hy12⟩) a ?rest12
 case hy12=>
  intro P f;go_simp
  (try with_reducible rfl)
 refine fy (i:=13) χ rfl (λK hK=>?_);go_simp
 have V:μ F (F.C (.E #[ι x,ι y,ι z] 165)).drew:=γ;refine hK.l _ _ (λ_=>⟨(Below.cell (p:=⟨rb,7,Y⟩) V (show rb<F.o.q by omega)).A ap,(Below.cell (p:=⟨gf,p,Y⟩) V (show gf<F.o.q by omega)).A L,(Below.cell (p:=⟨w.o.q,0,Y⟩) V (show w.o.q<F.o.q by omega)).A n,(Below.cell (p:=⟨w.o.q,1,Y⟩) V (show w.o.q<F.o.q by omega)).A A,(Below.cell (p:=⟨w.o.q,2,Y⟩) V (show w.o.q<F.o.q by omega)).A s⟩) ?_;clear hK K a;refine fy (i:=14) χ rfl (λK hK=>?_);refine m4 F _ [ι x,ι y,ι z] 165 rfl (.tmp 57) (.tmp 59) 161 rfl lo 165 i0 _ 3 24 underlying161 hi bb bv b2 rfl θ (.k ae fl B) fl (jT R.qw[p]) (by simp[Act.eval]) o (by exact V) F.o.q 1 (by simp[Act.eval]) (by exact Ti.drew (Ti.new _ _ _)) rfl a_ η η η ?_;intro v' w3 a4 ac av b6 bG;obtain⟨aj,M,rfl⟩:=zr a4;have aS:=T3.own o;have a3:=t.l.box.saveT ac aS θ;have al:=a3.H.1 7;simp only[m6,l9,np] at al;rw[ag.l] at al;have H:=yL t.l.qw ac aS θ;rw[ag.l] at H;have ax:w3.p ⟨gf,p,Y⟩=Z (.k ae fl B):=by
  obtain⟨bR,bi,ay,_,_,aA⟩:=yq H (show 0<R.qw.j by omega);simp only[O.slice.injEq,zt,Addr.mk.injEq,and_true] at ay;have e:=ay.1;subst e;have:=aA p Q.fvs[p] (by simp[E]);rw[an.l] at this;exact this
 have aL:=vl H;have G:=a2.l.save ac (λhm=>by
  have:=bF.l w.o.q (by rw[an.l];exact xb hm);omega)
 have ad:=G.H.1 0;have ah:=G.H.1 1;have ai:=G.H.1 2;simp only[m6,l9,np] at ad ah ai;have k:w3.p ⟨rb,7,Y⟩=Z (.k (Z ⟨gf,0,Y⟩) R.qw.j az)/\w3.p ⟨gf,p,Y⟩=Z (.k ae fl B)/\w3.p ⟨w.o.q,0,Y⟩=Z (ι x)/\w3.p ⟨w.o.q,1,Y⟩=Z (ι y)/\w3.p ⟨w.o.q,2,Y⟩=Z (ι z):=⟨al,ax,ad,ah,ai⟩;refine hK.l _ _ (λ_=>k) ?_;clear hK K;refine uv (i:=15) (v:=?v15) rfl χ χ χ χ (λ_ _ _ h=>h) (zh ⟨by rfl,?hy15⟩) k ?rest15
 case hy15=>
  intro P f;go_simp
  (try with_reducible rfl)
 refine fy (i:=16) χ rfl (λK hK=>?_);go_simp
 refine hK.l _ _ (λhq=>zC rfl hq) ?_;clear hK K;refine BV χ ?_ _;refine NoPanic.normal ?_;have hP:=zZ.pushFresh (v':=.k aj (fl+1) M) (rs:=R.qw[p]++[[x,y,z]]) t.l u E ag.l (by rw[an.l];exact ac) ⟨by rw[yK,aO.l];simpa [jT,TO] using a4,λr hr=>by rcases ya.1 hr with q|q;exact b5.l r q;simp at q;subst q;rfl⟩ (by rw[an.l];exact av);obtain⟨aN,aR⟩:=hP;have aa:X (zZ lo (w3.x ⟨gf,p,Y⟩ (.k aj (fl+1) M)) (ext ab F.o.q (0,p,1)) rb {R with I:=R.I.set p T',qw:=R.qw.set p (R.qw[p]++[[x,y,z]])} wd mr mx ⟨Q.rv,Q.tbs,Q.fv,Q.fvs.set p (.k aj (fl+1) M)⟩):=aN;have bs:=Th (af.l.A aR);clear aN aR k al ax aL ad ah ai a3 H G aD b9 aP b1 ap n A s L bk bB t a2 o a4 ac av b6;generalize ext ab F.o.q (0,p,1)=l at *;generalize w3.x ⟨gf,p,Y⟩ (.k aj (fl+1) M)=w5 at *;obtain⟨bq,bm,br,aY,bo,bh,bz,aH,bf,b0⟩:=aa.l.at;simp only at aY aH;clear br bo bh bz bf b0;have a0:=aa.l.box.set 1 (ι ((R.count:Int)+1));have aX:zd [rb] w5 (w5.x ⟨rb,1,Y⟩ (ι ((R.count:Int)+1))):=zd.set _ _ _ _;have aW:Tq lo (lC p) w5 l (w5.x ⟨rb,1,Y⟩ (ι ((R.count:Int)+1))) l:=Tq.set l aa.l.box aa.l.low (ze (zh rfl)) _ _;have aF:=aa.l.rebox (R':={R with I:=R.I.set p T',qw:=R.qw.set p (R.qw[p]++[[x,y,z]]),count:=R.count+1}) aX (by simpa using a0) rfl rfl ⟨by show R.count+1<=1048577;omega,aa.l.K.2.2.2⟩;rw[←aM.l] at aF;have aT:=Th aF;have bx:=Th (bs.l.A aW);clear aF aW a0 aX;go_upto_region 8 with fail
 generalize w5.x ⟨rb,1,Y⟩ (ι ((R.count:Int)+1))=w6 at *;obtain⟨bT,bQ,b7,a8,ba,bc,b3,bW,bE,bA⟩:=aT.l.at;rw[aM.l] at a8;simp only at a8;have aQ:((R.count+1:Nat):Int)=(R.count:Int)+1:=η;rw[aQ] at a8;clear b7 ba bc b3 bE bA aY aH bq bm aQ;go_quiet (fail)
 go_wp2;go_ret;have bu:decide ((R.count:Int)+1<=(mr:Int))=b:=by rw[b8.l];exact decide_eq_decide.2 η
 exact⟨by rw[←bu];rfl,l,_,aT.l.u (zI (zn _ _) _),bx.l.A (Tq.of l (zI (zn _ _) _))⟩
end
section
variable {lo:Nat}{w w':U}{own':Nat->zo}
def V8:TypeId->zo->Prop:=dT [310,323]
def kL(p:Nat):TypeId->zo->Prop:=orK (lC p) V8
def DS{l:List TypeId}{t:TypeId}{ρ:zo}(h:t∈l):dT l t ρ:=h
def gI{l:List TypeId}{t:TypeId}(h:t∉l):∀ρ,¬dT l t ρ:=λ_ q=>h q
def T8.mod{ok:TypeId->zo->Prop}{w w':U}{own own':Nat->zo}{c:Nat}{J:zE}{P:xI}(h:T8 lo w c J P)(m:Tq lo ok w own w' own')(e:∀ρ,¬ok 310 ρ)(j:∀ρ,¬ok 323 ρ)(i:∀ρ,¬ok 325 ρ)(l:∀ρ,¬ok 327 ρ)(d:∀ρ,¬ok 284 ρ)(g:∀x∈P.tbs,∀b∈x.2,∀t,¬Ue t->¬ok t (own b))(f:∀x∈P.bps,∀b∈x.2.2,∀t,¬Ue t->¬ok t (own b)):T8 lo w' c J P:=
 ⟨h.low,h.box.mod m (e _),h.g.mod m d,vR h.ja m j,h.slen,λk a b=>(h.tries k a b).mod m (g _ (zq b)),h.B,vR h.bars m i,h.blen,λk a b=>⟨(h.jk k a b).1.mod m d,(h.jk k a b).2.mod m (f _ (zq b))⟩,h.hlen,λp a b=>⟨vR (h.jf p a b).1 m l,(h.jf p a b).2⟩,h.jl,h.K⟩
def rp(own:Nat->zo)(P:xI)(p:Nat):Prop:=(∀x∈P.tbs,∀b∈x.2,own b≠(0,p,0))/\(∀x∈P.bps,∀b∈x.2.2,own b≠(0,p,0))
def T8.add{own:Nat->zo}{o p:Nat}{J:zE}{P:xI}(h:T8 lo w o J P)(m:Tq lo (lC p) w own w' own')(j:rp own P p):T8 lo w' o J P/\rp own' P p:=by
 have i:∀{t:TypeId},Ue t->t≠214->t≠161->t≠165->∀ρ,¬lC p t ρ:=λa b c d ρ q=>by
  rcases q with q|q|q|q;exact q.1 a;exact b q;exact c q;exact d q.1
 have n:∀{t:TypeId} {ρ:zo},¬Ue t->ρ≠(0,p,0)->¬lC p t ρ:=λa b q=>by
  rcases q with q|q|q|q;exact b q.2;subst q;exact a θ;subst q;exact a θ;rw[q.1] at a;exact a θ
 refine⟨h.mod m (i θ θ θ θ) (i θ θ θ θ) (i θ θ θ θ) (i θ θ θ θ) (i θ θ θ θ) (λx e b f t l=>n l (j.1 x e b f)) (λx e b f t l=>n l (j.2 x e b f)),λx e b f=>?_,λx e b f=>?_⟩;obtain⟨k,g,rfl⟩:=vh e;rw[m.old b ((h.tries k (by rw[←h.slen];exact g) g).lt b f).2];exact j.1 _ e b f;obtain⟨k,g,rfl⟩:=vh e;rw[m.old b ((h.jk k (by rw[←h.blen];exact g) g).2.lt b f).2];exact j.2 _ e b f
def Tq.ofNext{own:Nat->zo}{e:Nat}{J:zE}{P:xI}(h:T8 lo w e J P)(hs:zd (e::P.sv.m.toList) w w'):Tq lo V8 w own w' own:=
 Tq.ofSave own hs λb d=>by
  rcases zG.1 d with rfl|d
  .exact⟨h.low,h.box.lt,_,_,h.box,DS θ⟩
  .have a:=xb d;obtain⟨c,f⟩:=jM h.ja a;exact⟨yW h.ja a,yF h.ja a,c,_,f,DS θ⟩
def zZ.modJ{own:Nat->zo}{b:Nat}{R:zv}{wd mr mx:Nat}{Q:uz}(h:zZ lo w own b R wd mr mx Q)(m:Tq lo V8 w own w' own'):zZ lo w' own' b R wd mr mx Q:=
 h.mod m (gI θ) (gI θ) (gI θ) (λ_=>gI θ _) (λq t c a=>by
  rcases zG.1 a with rfl|a
  .exact c θ
  .rcases zG.1 a with rfl|a
   .exact c θ
   .cases a)
def eC(lo:Nat)(w:U)(own:Nat->zo)(c p:Nat)(R':zv)(b:Bool)(wd mr mx:Nat)(Q:uz)(e:Ending)(w':U):Prop:=e=ε (.bool b)/\∃own' a,zZ lo w' own' c R' wd mr mx ⟨Q.rv,Q.tbs,Q.fv,a⟩/\Tq lo (kL p) w own w' own'
def G0(w:U)(own:Nat->zo)(z G:Nat)(R R':zv)(J:zE)(P:xI)(wd mr mx:Nat)(Q:uz)(p n:Nat)(b:Bool)(h:zZ lo w own z R wd mr mx Q)(hj:T8 lo w G J P)(D:rp own P p)(aw:lo<=w.o.q)(hr:vM mr p n R J=Z (R',b)):
  Calls prog 208 #[(π z),ι p,(π G)] w λe w'=>eC lo w own z p R' b wd mr mx Q e w':=by
 have HR:=Th hr;have H0:X (zZ lo w own z R wd mr mx ⟨Q.rv,Q.tbs,Q.fv,Q.fvs⟩/\T8 lo w G J P/\rp own P p):=⟨h,hj,D⟩;have aj:X (Tq lo (kL p) w own w own):=Tq.refl w own;clear h hj D hr;go_enter func208,ntmps208;go_wp2;go_loopg [] n (λk wr=>∃(t:zv) (Jk:zE) (a:Nat->zo) (F:Γ),X (vM mr p k t Jk=Z (R',b))/\X (zZ lo wr a z t wd mr mx ⟨Q.rv,Q.tbs,Q.fv,F⟩/\T8 lo wr G Jk P/\rp a P p)/\X (Tq lo (kL p) w own wr a))
 case atStart=>exact⟨R,J,own,Q.fvs,HR,H0,aj⟩
 clear HR H0 aj;obtain⟨t,Jk,a,F,HQ,HK,HM⟩:=hrel;have av:=HM.l.q;rcases gk with _|m;have q:=HQ.l;simp[vM] at q;have q:=HQ.l;unfold vM at q;rcases hn:ly m Jk with _|ar;rw[hn] at q;cases q;obtain⟨f,bn⟩:=ar;rw[hn] at q;have N:=Th (UP wr G Jk P m f bn HK.l.2.1 hn);have ab:X (∀W,T8 lo W G f P->zd (G::P.sv.m.toList) wr W->(zZ lo W a z t wd mr mx ⟨Q.rv,Q.tbs,Q.fv,F⟩/\T8 lo W G f P/\rp a P p)/\Tq lo (kL p) w own W a):=λW h1 h2=>by
  have m:=Tq.ofNext (own:=a) HK.l.2.1 h2;exact⟨⟨HK.l.1.modJ m,h1,HK.l.2.2⟩,HM.l.A (m.more λ_ _ q=>ze q)⟩
 clear hn HQ;cases bn
 .simp only[zt,ye] at q;have HE:=Th q;clear q;go_wp2_with (go_at_call 215;refine N.l.y ?_;rintro e E ⟨rfl,r,s⟩;obtain⟨u,l⟩:=ab.l _ r s;clear r s)
  obtain⟨j,ac,ah⟩:=u;have ay:=Th j;have y:=Th l;have aq:=Th λW hW=>RI W G f P (ac.u hW);obtain⟨az,ax,_,_,_,C,_,_,_,_⟩:=j.at;have ag:=j.box.set 3 (ι (IntKind.i64.wrap (t.jg+f.jg)));have al:zd [z] E (E.x (ω z 3) (ι (IntKind.i64.wrap (t.jg+f.jg)))):=zd.set _ _ _ _;have ak:Tq lo (kL p) E a (E.x (ω z 3) (ι (IntKind.i64.wrap (t.jg+f.jg)))) a:=Tq.set a j.box j.low (zh (ze (zh rfl))) _ _;have aa:=j.rebox (R':={t with jg:=IntKind.i64.wrap (t.jg+f.jg)}) al (by simpa using ag) rfl rfl j.K.2.2;rw[HE.l.1] at aa;have ao:=Th aa;have ap:=Th (y.l.A ak);clear aa ak ag al j l ac ah;have au:=IntWalk.i64_in;refine wp_region_noPanic ?_;refine Ae (S:=λw'=>w'.p (ω z 3)=Z (ι t.jg)) (d:=11) χ C (λc=>?_);refine uv (i:=0) (v:=?v0) rfl χ χ χ χ (λ_ _ _ h=>h) (zh ⟨by rfl,?hy0⟩) c ?rest0
  case hy0=>
   intro wq B;go_simp
   (try with_reducible rfl)
  refine uv (i:=1) (v:=?v1) rfl χ χ χ χ (λ_ _ _ h=>h) (zh ⟨by rfl,?hy1⟩) c ?rest1
  case hy1=>
   intro wq B;go_simp
   (try with_reducible rfl)
  refine uv (i:=2) (v:=?v2) rfl χ χ χ χ (λ_ _ _ h=>h) (zh ⟨by rfl,?hy2⟩) c ?rest2
  case hy2=>
   intro wq B;go_simp
   (try with_reducible rfl)
  refine uv (i:=3) (v:=?v3) rfl χ χ χ χ (λ_ _ _ h=>h) (zh ⟨by rfl,?hy3⟩) c ?rest3
  case hy3=>
   intro wq B;go_simp
   (try with_reducible rfl)
  refine uv (i:=4) (v:=?v4) rfl χ χ χ χ (λ_ _ _ h=>h) (zh ⟨by rfl,?hy4⟩) c ?rest4
  case hy4=>
   intro wq B;go_simp
   (try with_reducible rfl)
  refine uv (i:=5) (v:=?v5) rfl χ χ χ χ (λ_ _ _ h=>h) (zh ⟨by rfl,?hy5⟩) c ?rest5
  case hy5=>
   intro wq B;go_simp
   (try with_reducible rfl)
  refine fy (i:=6) χ rfl (λK A=>?_);go_simp
  refine(aq.l _ (by exact(zI (zn _ _) 1))).y ?_;rintro e I ⟨rfl,rfl⟩;refine A.l _ _ (λ_=>C) ?_;clear A K;refine uv (i:=7) (v:=?v7) rfl χ χ χ χ (λ_ _ _ h=>h) (zh ⟨by rfl,?hy7⟩) c ?rest7
  case hy7=>
   intro wq B;go_simp
   (try with_reducible rfl)
  refine fy (i:=8) χ rfl (λK A=>?_);go_simp
  refine A.l _ _ (λ_=>C) ?_;clear A K;refine fy (i:=9) χ rfl (λK A=>?_);go_simp
  refine A.l _ _ (λ_=>C) ?_;clear A K;refine fy (i:=10) χ rfl (λK A=>?_);go_simp
  refine A.l _ _ (λ_=>C) ?_;clear A K;refine fy (i:=11) χ rfl (λK A=>?_);go_simp
  refine A.l _ _ (λhq=>zC rfl hq) ?_;clear A K;refine BV χ ?_ _;refine NoPanic.normal ?_;have af:Below (E.x (ω z 3) (ι (IntKind.i64.wrap (t.jg+f.jg)))).o.q (E.x (ω z 3) (ι (IntKind.i64.wrap (t.jg+f.jg)))) (E.x (ω z 3) (ι (IntKind.i64.wrap (t.jg+f.jg)))).drew:=γ;have hf:=HE.l.2;go_wp2;go_ret;exact⟨by rw[←hf];rfl,a,F,ao.l.u af,ap.l.A (Tq.of a af)⟩
 dsimp only at q;rcases ha:jV mr t p (zH f.g f.P) with _|am;rw[ha] at q;cases q;obtain⟨R3,b3⟩:=am;simp only[ha] at q;have ae:=Th λW (hW:T8 lo W G f P)=>LP W G f P hW;rw[RU] at ha;have ai:=Th λW (hl:lo<=W.o.q) (hW:zZ lo W a z t wd mr mx ⟨Q.rv,Q.tbs,Q.fv,F⟩)=>Cq W a z t R3 wd mr mx _ p _ _ _ b3 hW hl ha;generalize Tk f.g f.P 0=r0 at *;generalize Tk f.g f.P 1=r1 at *;generalize Tk f.g f.P 2=r2 at *;clear ha;cases b3
 .simp only[zt,ye] at q;have HE:=Th q;clear q;go_wp2_with (first|(go_at_call 215;refine N.l.y ?_;rintro e E ⟨rfl,r,s⟩;obtain⟨u,l⟩:=ab.l _ r s;clear r s;have x:=Th u;have y:=Th l;clear u l)|(go_at_call 216;refine(ae.l _ x.l.2.1).y ?_;rintro e I ⟨rfl,o⟩)|(go_at_call 121;refine(ai.l _ (by exact(show lo<=(I.C (.E #[ι r0,ι r1,ι r2] 165)).o.q by rw[U.size_alloc];have:=o.q;have:=y.l.q;omega)) (by exact(x.l.1.u o).u γ)).y ?_;rintro e w4 ⟨rfl,g,T,V,L⟩))
  go_ret;have H:Tq lo (kL p) E a w4 g:=((Tq.of a o).A (Tq.of a (show μ I (I.C (.E #[ι r0,ι r1,ι r2] 165)) from γ))).A (L.more λ_ _ q=>zh q);exact⟨by rw[←HE.l.2];rfl,g,T,by rw[←HE.l.1];exact V,y.l.A H⟩
 have an:X (vM mr p m R3 f=Z (R',b)):=q;clear q;go_wp2_with (first|(go_at_call 215;refine N.l.y ?_;rintro e E ⟨rfl,r,s⟩;obtain⟨u,l⟩:=ab.l _ r s;clear r s;have x:=Th u;have y:=Th l;clear u l)|(go_at_call 216;refine(ae.l _ x.l.2.1).y ?_;rintro e I ⟨rfl,o⟩)|(go_at_call 121;refine(ai.l _ (by exact(show lo<=(I.C (.E #[ι r0,ι r1,ι r2] 165)).o.q by rw[U.size_alloc];have:=o.q;have:=y.l.q;omega)) (by exact(x.l.1.u o).u γ)).y ?_;rintro e w4 ⟨rfl,g,T,V,L⟩))
 have M:μ I (I.C (.E #[ι r0,ι r1,ι r2] 165)):=γ;have H:Tq lo (kL p) E a w4 g:=((Tq.of a o).A (Tq.of a M)).A (L.more λ_ _ q=>zh q);have ad:=((x.l.2.1.u o).u M).add L x.l.2.2;go_roundg m
 case measure=>omega
 exact⟨R3,f,g,T,an,⟨V,ad.1,ad.2⟩,y.l.A H⟩
end
end Go.Proofs.YteampbddflhngaaGreat
