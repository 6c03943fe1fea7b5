import Derived.Test.YteampbddflhngaaGreatR07
namespace Go.Proofs.YteampbddflhngaaGreat
open List renaming length→List.j,take→List.G
open _root_.Array renaming size→Array.q
open _root_.ByteArray renaming size→ByteArray.q
open Go.RowKit.Below renaming size→Go.RowKit.Below.q,setCell→Go.RowKit.Below.x,mono→Go.RowKit.Below.y,trans→Go.RowKit.Below.A,alloc→Go.RowKit.Below.C
open Go.TypeInfo renaming size→Go.TypeInfo.q
open Go.RowKit.Hid renaming out→Go.RowKit.Hid.l
open Go.Shut renaming out→Go.Shut.l
open Go.World renaming heap→Go.World.o,setCell→Go.World.x,cell?→Go.World.p,alloc→Go.World.C
open Go.Value renaming slice→Go.Value.k,cells→Go.Value.E,ownBlock→Go.Value.m,pointer→Go.Value.u
open Go.TypeDesc renaming slice→Go.TypeDesc.k,pointer→Go.TypeDesc.u
open Go.Calls renaming mono→Go.Calls.y
open Eq renaming trans→Eq.A
open Iff renaming trans→Iff.A
open Go.Obj renaming cells→Go.Obj.E
open Option renaming some→Z,none→Y
open Go.RowKit renaming Hid→X
open Go renaming World→U,Value→O
set_option linter.all false
set_option maxRecDepth 100000
set_option maxHeartbeats 4000000
open Go.Proofs.Tryz Go.RowKit
section
variable {lo:Nat}{b0 wd bb fb ab:Nat}{w w':U}{c:Array O}{tv:O}{own2 own3:Nat->zo}
def Tw.below'{v:O}{rs:List zk}(h:Tw b0 w v rs)(a:μ w w'):Tw b0 w' v rs:=⟨zy h.1 a,h.2⟩
structure VC (c:Array O) (o wd pred:Nat) (tv:O) (bb fb ab:Nat):Prop where
 c0:c[o]?=Z (ι pred)
 c1:c[o+1]?=Z tv
 c2:c[o+2]?=Z (ι wd)
 c3:c[o+3]?=Z ((π bb))
 c4:c[o+4]?=Z ((π fb))
 c5:c[o+5]?=Z ((π ab))
def VC.set{o a:Nat}(h:VC c o wd a tv bb fb ab)(b:Nat):VC (c.setIfInBounds (o+4) ((π b))) o wd a tv bb b ab:=by
 obtain⟨e,g,f,j,i,k⟩:=h;have d:=(kp.1 i).1;refine⟨?_,?_,?_,?_,?_,?_⟩;rw[tP η];exact e;rw[tP η];exact g;rw[tP η];exact f;rw[tP η];exact j;simp[d];rw[tP η];exact k
def VC.E{g:Nat}{T:TypeId}{o a:Nat}(h:VC c o wd a tv bb fb ab)(d:Th w g c T):g<w.o.q/\(∀q,w.frozen? (ω g q)=false)/\w.p (ω g o)=Z (ι a)/\w.p (ω g (o+1))=Z tv/\w.p (ω g (o+2))=Z (ι wd)/\w.p (ω g (o+3))=Z ((π bb))/\w.p (ω g (o+4))=Z ((π fb))/\w.p (ω g (o+5))=Z ((π ab)):=by
 obtain⟨b,e⟩:=d.H;exact⟨d.lt,e,(b _).A h.c0,(b _).A h.c1,(b _).A h.c2,(b _).A h.c3,(b _).A h.c4,(b _).A h.c5⟩
def lZ(k i:Nat)(ρg:zo):TypeId->zo->Prop:=λt ρ=>(¬Uh t/\∃j,ρ=(k+1,i,j))∨(t=301/\ρ=ρg)
def Tp.one{own own':Nat->zo}{k i j:Nat}{ρg:zo}(h:Tp lo (onT (·=(k+1,i,j))) w own w' own'):Tp lo (lZ k i ρg) w own w' own':=h.more λ_ _ q=>zh ⟨q.1,j,q.2⟩
def EX:∀(l:List zk) (T R:zl) (m:Nat),xY l T=Z R->∃b,xY (l.G m) T=Z b/\∀h:m<l.j,okT b=true/\xY (l.G (m+1)) T=Z (yC b l[m] 0).1
 |[],T,R,m,h=>⟨T,by simp[xY],λh=>by simp at h⟩
 |x::l,T,R,0,h=>by
  rw[xY] at h;by_cases a:okT T=true
  .exact⟨T,rfl,λ_=>⟨a,by simp[xY,a]⟩⟩
  .rw[za a] at h;cases h
 |x::l,T,R,m+1,h=>by
  rw[xY] at h;by_cases a:okT T=true
  .rw[zb a] at h;obtain⟨b,g,f⟩:=EX l _ R m h;refine⟨b,by rw[pR,xY,zb a];exact g,λi=>?_⟩;obtain⟨d,e⟩:=f (by simpa using i);exact⟨d,by rw[pR,xY,zb a];simpa using e⟩
  .rw[za a] at h;cases h
def Al:∀(l:List zk) (T R:zl) (x:zk),xY (l++[x]) T=Z R->∃b,xY l T=Z b/\okT b=true/\R=(yC b x 0).1
 |[],T,R,x,h=>by
  simp only[rj,xY] at h;by_cases a:okT T=true
  .rw[zb a] at h;exact⟨T,rfl,a,by simpa using h.symm⟩
  .rw[za a] at h;cases h
 |y::l,T,R,x,h=>by
  rw[lr,xY] at h;by_cases a:okT T=true
  .rw[zb a] at h;obtain⟨b,e,d,f⟩:=Al l _ R x h;exact⟨b,by rw[xY,zb a];exact e,d,f⟩
  .rw[za a] at h;cases h
def o4:∀(l l2:List zk) (T R:zl),xY (l++l2) T=Z R->∃a,xY l T=Z a
 |[],_,T,_,_=>⟨T,rfl⟩
 |y::l,l2,T,R,h=>by
  rw[lr,xY] at h;by_cases b:okT T=true
  .rw[zb b] at h;obtain⟨a,d⟩:=o4 l l2 _ R h;exact⟨a,by rw[xY,zb b];exact d⟩
  .rw[za b] at h;cases h
def CS{g:Nat}{V i:yH}{d:List zk}(h:fz g wd V d=Z i):∃e b f a,rowsG g V.qw=Z e/\xY e V.before=Z b/\xY (d.filterMap (xZ V.lit)) (xk wd (xi V.lit))=Z f/\xY (d.filterMap (xZ V.lit)) V.all=Z a/\i={V with before:=b,qw:=f,all:=a}:=by
 unfold fz at h;split at h;cases h;rename_i e l;split at h;rename_i b f a m k j;exact⟨e,b,f,a,l,m,k,j,by simpa using h.symm⟩;cases h
def Pq(W a:U)(b:Option zk)(e d:O):Prop:=∃fb x y z:Nat,e=(π fb)/\d=.bool b.isSome/\[x,y,z]=b.getD [0,0,0]/\W.o.q<=fb/\Th a fb #[ι (x:Nat),ι (y:Nat),ι (z:Nat)] 165/\μ W a
structure fW (lo b0:Nat) (w wr:U) (own own2:Nat->zo) (k i g:Nat) (c:Array O) (l:zw) (bb fb ab:Nat) (B F A:zl) (tv rv:O) (rows:List zk):Prop where
 before:xg lo wr own2 (k+1,i,0) bb B
 qw:xg lo wr own2 (k+1,i,1) fb F
 all:xg lo wr own2 (k+1,i,2) ab A
 v:yu lo wr tv l.v
 mod:Tp lo (lZ k i (own g)) w own wr own2
 box:Th wr g c 301
 I:Tw b0 wr rv rows
def fW.u{b0:Nat}{w wr w':U}{own own2:Nat->zo}{k i g:Nat}{c:Array O}{l:zw}{bb fb ab:Nat}{B F A:zl}{tv d:O}{a:List zk}(h:fW lo b0 w wr own own2 k i g c l bb fb ab B F A tv d a)(b:μ wr w'):fW lo b0 w w' own own2 k i g c l bb fb ab B F A tv d a:=
 ⟨h.before.u b,h.qw.u b,h.all.u b,h.v.u b,h.mod.A (Tp.of own2 b),h.box.u b,h.I.below' b⟩
def fW.addF{wr W:U}{own:Nat->zo}{k i g:Nat}{l:zw}{B F A F':zl}{e:O}{a:List zk}(h:fW lo b0 w wr own own2 k i g c l bb fb ab B F A tv e a)(j:μ wr W)(f:xg lo w' own3 (k+1,i,1) fb F')(b:Tp lo (onT (·=(k+1,i,1))) W own2 w' own3):fW lo b0 w w' own own3 k i g c l bb fb ab B F' A tv e a:=by
 have d:=h.u j;exact⟨d.before.onT b ζ,f,d.all.onT b ζ,d.v.mod b (jB θ),d.mod.A b.one,d.box.mod b (jB θ _),d.I.mod b (jB θ)⟩
def fW.addA{wr W:U}{own:Nat->zo}{k i g:Nat}{l:zw}{B F A e:zl}{f:O}{a:List zk}(h:fW lo b0 w wr own own2 k i g c l bb fb ab B F A tv f a)(m:μ wr W)(j:xg lo w' own3 (k+1,i,2) ab e)(b:Tp lo (onT (·=(k+1,i,2))) W own2 w' own3):fW lo b0 w w' own own3 k i g c l bb fb ab B F e tv f a:=by
 have d:=h.u m;exact⟨d.before.onT b ζ,d.qw.onT b ζ,j,d.v.mod b (jB θ),d.mod.A b.one,d.box.mod b (jB θ _),d.I.mod b (jB θ)⟩
def Lw{b:Nat}{T:TypeId}(h:Th w b #[ι 0,ι 0,ι 0] T)(x y z:Nat):Th (((w.x (δ b) (ι x)).x (ω b 1) (ι y)).x (ω b 2) (ι z)) b #[ι x,ι y,ι z] T:=by
 have q:=((h.set 0 (ι x)).set 1 (ι y)).set 2 (ι z);simpa using q
def K5(lo:Nat)(w:U)(own:Nat->zo)(k i g o:Nat)(c:Array O)(d:yH)(P:jN)(ρg:zo)(e:Ending)(w':U):Prop:=e=ε (.tuple #[])/\∃b a,vK lo w' a k i d ⟨P.tv,P.bb,b,P.ab⟩/\Th w' g (c.setIfInBounds (o+4) ((π b))) 301/\Tp lo (lZ k i ρg) w own w' a
def F8(w:U)(own:Nat->zo)(k i g o wd aJ:Nat)(c:Array O)(V V':yH)(P:jN)(rv:O)(a:List zk)(a8:Th w g c 301)(ba:VC c o wd V.lit.o P.tv P.bb P.fb P.ab)(hv:vK lo w own k i V P)(hr:Tw b0 w rv a)(cs:lo<=g)(cI:lo<=w.o.q)(cl:wd<=1000)(cG:a.j<=1048577)(hV:fz aJ wd V a=Z V'):
  Calls prog 206 #[.u (Z ⟨g,o,Y⟩),rv] w λe w'=>K5 lo w own k i g o c V' P (own g) e w':=by
 obtain⟨s,bN,fN,aN,d,ci,b8,cb,bU⟩:=CS hV;obtain⟨bM,aD,rfl⟩:=zr hr.1;have HV:=Tg hv;have HR:=Tg hr;have bV:=Tg λW hW=>GY W own (k+1,i,1) P.fb V.qw aJ s (hv.qw.u hW) d;have ak:=Tg ba;have aV:=Tg ci;have bX:=Tg b8;have br:=Tg cb;have ck:=Tg bU;have cF:s.j<=1048576:=by
  unfold rowsG at d;split at d;cases d;split at d;simp at d;subst d;assumption
  cases d
 obtain⟨aj,N,D,l,v,L,C,H⟩:=ba.E a8;clear hV hr d ci b8 cb bU ba;go_enter func206,ntmps206;go_upto_region 1 with (first|(go_at_call 78;refine(bV.l _ γ).y ?_;rintro e w1 ⟨ov,rfl,aS,ao⟩;obtain⟨c6,b7,rfl⟩:=zr aS.1))
 clear D l v L C H N bV hv;have bY:X (Tp lo (onT (·=(k+1,i,0))) w own w1 own):=Tp.of own ao;have ch:=Tg (HV.l.before.u ao);have bv:=Tg (a8.u ao);have aG:=Tg aS;have c0:=ao.q;clear aS ao;go_loopw [16] (λcw wr=>∃(m:Nat) (T:zl) (b:Nat->zo),m<=s.j/\cw=ι m/\w.o.q<=wr.o.q/\X (xY (s.G m) V.before=Z T)/\X (xg lo wr b (k+1,i,0) P.bb T)/\X (Tp lo (onT (·=(k+1,i,0))) w own wr b)/\X (Th wr g c 301)/\X (Tw w.o.q wr (.k c6 s.j b7) s)) (λi _=>s.j-(intOf i).toNat);exact⟨0,V.before,own,zs _,rfl,c0,rfl,ch,bY,bv,aG⟩;clear bY ch bv aG;obtain⟨m,T,b,hm,rfl,bk,HA,HT,HM,HG,aU⟩:=hrel;by_cases au:m<s.j
 .obtain⟨go,b5,x,y,z,t,bn,K,aZ,aM,aK⟩:=aU.l.cell m au;simp only[O.slice.injEq] at t;have am:=t.1;clear t;subst am;obtain⟨Tm,aT,bO⟩:=EX s V.before bN m aV.l;rw[HA.l] at aT;obtain rfl:T=Tm:=by simpa using aT
  obtain⟨bP,aX⟩:=bO au;rw[K] at aX;have cv:=Tg bP;have cx:=Tg aX;clear aT bO aX bP K;obtain⟨aj,N,D,l,v,L,C,H⟩:=ak.l.E HG.l;have al:=Th.new wr #[ι x,ι y,ι z] 165;have h:X (∀W,μ wr W->Calls prog 163 #[.u (Z ⟨P.bb,0,Y⟩),.agg #[ι x,ι y,ι z],ι 0] W λe w'=>e=ε (.bool (yC T [x,y,z] 0).2)/\xg lo w' (ext b W.o.q (k+1,i,0)) (k+1,i,0) P.bb (yC T [x,y,z] 0).1/\Tp lo (onT (·=(k+1,i,0))) W b w' (ext b W.o.q (k+1,i,0))):=λW hW=>wZ W b (k+1,i,0) P.bb T x y z 0 (HT.l.u hW) cv.l;clear D l v C H;go_wp2;go_region_held3 (λw'=>w'.p ⟨g,o+3,Y⟩=Z (.u (Z ⟨P.bb,0,Y⟩))/\w'.p ⟨wr.o.q,0,Y⟩=Z (ι x)/\w'.p ⟨wr.o.q,1,Y⟩=Z (ι y)/\w'.p ⟨wr.o.q,2,Y⟩=Z (ι z)) (first|go_keep|(go_simp;done)) (first|(go_at_call 163;refine(h.l _ γ).y ?_;rintro e w4 ⟨rfl,a7,B⟩;have bz:=(HG.l.u (show μ wr _ from γ)).mod B (jB θ _);have bx:=(al.drew).mod B (jB θ _);obtain⟨b9,bd⟩:=bx.H;obtain⟨_,_,_,_,_,bW,_,_⟩:=ak.l.E bz))
  have bQ:=HM.l.A ((Tp.of b (show μ wr _ from γ)).A B);have cq:=(aU.l.below' (show μ wr _ from γ)).mod B (jB θ);have cp:=bQ.q;generalize (yC T [x,y,z] 0).2=cK at *;clear bx b9 bd bW al B aZ aM aK h;go_wp2;go_roundw;exact⟨m+1,_,_,η,ξ,cp,cx,a7,bQ,bz,cq⟩;simp[intOf];omega
 have af:s.G m=s:=yV η;rw[af,aV.l] at HA;obtain rfl:bN=T:=by have:=HA.l;simpa using this
 clear HA af hm aU aV;obtain⟨R,n,a6⟩:=HV.l.v.qy;have a4:=Tg a6;obtain⟨aj,N,D,l,v,L,C,H⟩:=ak.l.E HG.l;rw[a6] at l;have aO:X (yu lo wr (.k R V.lit.v.j n) V.lit.v):=by have q:=HV.l.v.mod HM.l (jB θ);rw[a6] at q;exact q
 have bR:=Tg (HV.l.all.onT HM.l ζ);have aL:=Tg (HR.l.mod HM.l (jB θ));have cr:=Gi V.lit;have HD:X (∀W,μ wr W->Calls prog 212 #[.agg #[ι V.lit.o,.k R V.lit.v.j n]] W λe w'=>e=ε (ι (xi V.lit:Nat))/\μ W w'):=λW hW=>CH W _ V.lit.o V.lit.v (aO.l.u hW);have HN:=Tg λW=>BB W wd (xi V.lit) cl η;clear a6 L H cr;generalize bJ:xi V.lit=dl at *;clear bJ;go_wp2;go_region_held3 (λw'=>w'.p ⟨g,o,Y⟩=Z (ι V.lit.o)/\w'.p ⟨g,o+1,Y⟩=Z (.k R V.lit.v.j n)/\w'.p ⟨g,o+2,Y⟩=Z (ι wd)) (first|go_keep|(go_simp;done)) (first|(go_at_call 212;refine(HD.l _ γ).y ?_;rintro e M ⟨rfl,az⟩;have j:μ wr M:=(zQ γ az (zg _));have aw:=HG.l.u j;obtain⟨_,_,av,J,cj,_,_,_⟩:=ak.l.E aw;rw[a4.l] at J)|(go_at_call 119;refine(HN.l _).y ?_;rintro e w3 ⟨tf,cH,rfl,bm,a2⟩;have ax:=aw.u a2;obtain⟨bH,ce,bZ,aF,bD,_,bo,_⟩:=ak.l.E ax;rw[a4.l] at aF))
 have b2:lo<=M.o.q:=by have:=j.q;have:=HM.l.q;omega
 have t:=HM.l.old g a8.lt;have bg:fW lo b0 w (w3.x ⟨g,o+4,Y⟩ ((π tf))) own (ext b M.o.q (k+1,i,1)) k i g (c.setIfInBounds (o+4) ((π tf))) V.lit P.bb tf P.ab bN (xk wd dl) V.all (.k R V.lit.v.j n) (.k bM a.j aD) a:=by
  have ar:zd [g] w3 (w3.x ⟨g,o+4,Y⟩ ((π tf))):=zd.set _ _ _ _;have a0:=T2.box ax;have bE:=Tk j a2;have cc:Tp lo (λ_ _=>False) M b w3 (ext b M.o.q (k+1,i,1)):=Tp.extNew b (k+1,i,1) a2;have co:ext b M.o.q (k+1,i,1) g=own g:=by rw[fM _ _ _ _ (by have:=HM.l.q;have:=j.q;have:=a8.lt;omega)];exact t
  refine⟨?_,?_,?_,?_,?_,?_,?_⟩;exact((HT.l.u j).mod cc (λ_ _=>id)).saveT ar a0 θ;exact(yb.new b (k+1,i,1) bm b2).saveT ar a0 θ;exact((bR.l.u j).mod cc (λ_ _=>id)).saveT ar a0 θ;exact((aO.l.u bE)).saveT ar a0 θ;exact((HM.l.one (ρg:=own g)).A ((Tp.of b j).A (Tp.extNew b (k+1,i,1) a2))).A (Tp.set _ ax cs (ze ⟨rfl,co⟩) _ _);exact ax.set _ _;exact⟨yJ (zy aL.l.1 bE) ar a0 θ,aL.l.2⟩
 have Q:=Tg (ak.l.set tf);generalize bh:c.setIfInBounds (o+4) ((π tf))=c2 at *;have cz:=Tg bh;clear bh;have aY:=Tg bg;clear bg;generalize ext b M.o.q (k+1,i,1)=own2 at *;generalize w3.x ⟨g,o+4,Y⟩ ((π tf))=w5 at *;clear bZ aF bD bo bH ce a2 bm ax aw j av J cj HT bR aO aL HM HG HD HN t b2 aj N D l v C;have bB:=aY.l.mod.q;go_wp2;go_loopw [42] (λcn wr=>∃(m:Nat) (F A:zl) (own2:Nat->zo),m<=a.j/\cn=ι m/\w.o.q<=wr.o.q/\X (xY ((a.G m).filterMap (xZ V.lit)) (xk wd dl)=Z F)/\X (xY ((a.G m).filterMap (xZ V.lit)) V.all=Z A)/\X (fW lo b0 w wr own own2 k i g c2 V.lit P.bb tf P.ab bN F A (.k R V.lit.v.j n) (.k bM a.j aD) a)) (λi _=>a.j-(intOf i).toNat);exact⟨0,_,_,own2,zs _,rfl,bB,rfl,rfl,aY⟩;clear aY bB;obtain⟨m,F,A,own2,hm,rfl,bk,HF,HA,S⟩:=hrel;by_cases au:m<a.j
 .obtain⟨go,b5,x,y,z,t,bn,K,aZ,aM,aK⟩:=S.l.I.cell m au;simp only[O.slice.injEq] at t;have am:=t.1;clear t;subst am;have ag:X ((a.G (m+1)).filterMap (xZ V.lit)=(a.G m).filterMap (xZ V.lit)++(xZ V.lit [x,y,z]).toList):=by
   rw[X,yM au,eR,K];cases hq:xZ V.lit [x,y,z]<;>simp[hq]
  have bc:X (a.filterMap (xZ V.lit)=(a.G (m+1)).filterMap (xZ V.lit)++(a.drop (m+1)).filterMap (xZ V.lit)):=by rw[X,←eR,kj]
  obtain⟨F1,bs⟩:=o4 _ _ _ _ (by have q:=bX.l;rw[bc.l] at q;exact q);obtain⟨A1,ca⟩:=o4 _ _ _ _ (by have q:=br.l;rw[bc.l] at q;exact q);have cd:=Tg bs;have b4:=Tg ca;clear bs ca bc K;have bI:X (∀W,μ wr W->Calls prog 213 #[.agg #[ι V.lit.o,.k R V.lit.v.j n],.agg #[ι x,ι y,ι z]] W λr w'=>(∃u E I:Nat,r=ε (.tuple #[.agg #[ι (u:Nat),ι (E:Nat),ι (I:Nat)],.bool (xZ V.lit [x,y,z]).isSome])/\[u,E,I]=(xZ V.lit [x,y,z]).getD [0,0,0])/\μ W w'):=λW hW=>NF W _ V.lit.o V.lit.v x y z (S.l.v.u hW);generalize xZ V.lit [x,y,z]=om at *;obtain⟨aj,N,D,l,v,L,C,H⟩:=Q.l.E S.l.box;rw[a4.l] at l;have al:=Th.new wr #[ι x,ι y,ι z] 165;clear v L C H;go_wp2;go_cut [8,9] from 46 to 54 (λs8 s9 wx=>Pq wr wx om s8 s9)
  .go_region_held3 (λw'=>w'.p ⟨g,o,Y⟩=Z (ι V.lit.o)/\w'.p ⟨g,o+1,Y⟩=Z (.k R V.lit.v.j n)/\w'.p ⟨wr.o.q,0,Y⟩=Z (ι x)/\w'.p ⟨wr.o.q,1,Y⟩=Z (ι y)/\w'.p ⟨wr.o.q,2,Y⟩=Z (ι z)) (first|(exact⟨(Below.cell (p:=⟨g,o,Y⟩) (show Below (wr.o.q+1) M _ from γ) (show g<wr.o.q+1 by omega)).A av,(Below.cell (p:=⟨g,o+1,Y⟩) (show Below (wr.o.q+1) M _ from γ) (show g<wr.o.q+1 by omega)).A J,(Below.cell (p:=⟨wr.o.q,0,Y⟩) (show Below (wr.o.q+1) M _ from γ) (show wr.o.q<wr.o.q+1 by omega)).A a3,(Below.cell (p:=⟨wr.o.q,1,Y⟩) (show Below (wr.o.q+1) M _ from γ) (show wr.o.q<wr.o.q+1 by omega)).A ap,(Below.cell (p:=⟨wr.o.q,2,Y⟩) (show Below (wr.o.q+1) M _ from γ) (show wr.o.q<wr.o.q+1 by omega)).A an⟩)|go_keep|(go_simp;done)) (first|(go_at_call 213;refine(bI.l _ γ).y ?_;rintro e M ⟨⟨u,E,I,rfl,ai⟩,az⟩;have j:μ wr M:=(zQ γ az (zg _));have aw:=S.l.box.u j;obtain⟨_,_,av,J,_,_,_,_⟩:=Q.l.E aw;rw[a4.l] at J;have bf:=Tg ai;clear ai;have aE:=al.u (show Below (wr.C (.E #[ι x,ι y,ι z] 165)).o.q (wr.C (.E #[ι x,ι y,ι z] 165)) M from zQ γ az (zg _));have c5:wr.o.q+1<=M.o.q:=aE.lt;obtain⟨G,c4⟩:=aE.H;have a3:=G 0;have ap:=G 1;have an:=G 2;clear G;simp only[mQ,hY,mE] at a3 ap an;(first|((with_reducible refine Th.carry (Th.drew (Th.newAt (wr.C (.E #[ι x,ι y,ι z] 165)) (wr.o.q+1) #[ι 0,ι 0,ι 0] 165 (U.size_alloc _ _).symm)) az ?_);intro b3;obtain⟨cE,c8,c9⟩:=b3.e)|skip)))
   all_goals
    go_wp2_with fail
    go_meet
    first|exact⟨M.o.q,u,E,I,rfl,rfl,bf.l,η,Th.new _ _ _,zQ j γ (zg _)⟩|exact⟨wr.o.q+1,u,E,I,rfl,rfl,bf.l,η,Lw b3 u E I,((j.x ζ _).x ζ _).x ζ _⟩
  clear D l N al aZ aM aK bI;obtain⟨fb,u,E,I,rfl,rfl,ai,cm,b1,aR⟩:=hcut;have a1:=Tg (S.l.u aR);have bK:w.o.q<=wc.o.q:=by have:=aR.q;omega
  have a9:=Tg b1;clear S aR b1;rcases om with _|f
  .clear ai;simp only[Option.toList_none,qb] at ag;simp only[kN];go_wp2;go_roundw;exact⟨m+1,F,A,own2,η,ξ,bK,by rw[X,ag.l];exact HF.l,by rw[X,ag.l];exact HA.l,a1⟩;simp[intOf];omega
  simp only[uD] at ai;subst ai;simp only[Option.toList_some] at ag;simp only[j8];obtain⟨Fm,ae,ay,bq⟩:=Al _ _ _ _ (by have q:=cd.l;rw[ag.l] at q;exact q);obtain⟨Am,aW,bL,be⟩:=Al _ _ _ _ (by have q:=b4.l;rw[ag.l] at q;exact q);rw[HF.l] at ae;rw[HA.l] at aW;obtain rfl:F=Fm:=by simpa using ae
  obtain rfl:A=Am:=by simpa using aW
  have b6:=Tg bq;have bT:=Tg be;have cy:=Tg ay;have c1:=Tg bL;clear ae aW bq be ay bL;obtain⟨aj,N,D,l,v,L,C,H⟩:=Q.l.E a1.l.box;obtain⟨a5,c7⟩:=a9.l.H;have bu:=a5 0;have ae:=a5 1;have ay:=a5 2;simp only[mQ,hY,mE] at bu ae ay;have ct:=a9.l.lt;clear a5 c7 D l v L;have h:X (∀W,μ wc W->Calls prog 163 #[(π tf),.agg #[ι u,ι E,ι I],ι 0] W λe w'=>e=ε (.bool (yC F [u,E,I] 0).2)/\xg lo w' (ext own2 W.o.q (k+1,i,1)) (k+1,i,1) tf (yC F [u,E,I] 0).1/\Tp lo (onT (·=(k+1,i,1))) W own2 w' (ext own2 W.o.q (k+1,i,1))):=λW hW=>wZ W own2 (k+1,i,1) tf F u E I 0 (a1.l.qw.u hW) cy.l;go_wp2;go_region_held3 (λw'=>w'.p ⟨g,o+4,Y⟩=Z ((π tf))/\w'.p ⟨fb,0,Y⟩=Z (ι u)/\w'.p ⟨fb,1,Y⟩=Z (ι E)/\w'.p ⟨fb,2,Y⟩=Z (ι I)) (first|go_keep|(go_simp;done)) (first|(go_at_call 163;refine(h.l _ γ).y ?_;rintro e w4 ⟨rfl,a7,B⟩;have ah:μ wc _:=(show μ wc wc.drew from γ);have aq:=a1.l.addF ah a7 B;have aB:=(a9.l.u ah).mod B (jB θ _);obtain⟨ac,bC⟩:=aB.H;have bw:=ac 0;have cg:=ac 1;have cf:=ac 2;clear ac;simp only[mQ,hY,mE] at bw cg cf;obtain⟨_,_,_,_,_,_,cC,cD⟩:=Q.l.E aq.box))
  have cJ:=aq.mod.q;have cA:=aq.box.lt;have cB:=aB.lt;have aP:=Tg aq;have c3:=Tg aB;rw[←b6.l] at aP;generalize (yC F [u,E,I] 0).2=bF at *;generalize ext own2 wc.drew.o.q (k+1,i,1)=aa at *;clear aq aB a7 B a1 a9 C H bu ae ay aj N ct ah h b6 bC bK cm;have h:X (∀W,μ w4 W->Calls prog 163 #[.u (Z ⟨P.ab,0,Y⟩),.agg #[ι u,ι E,ι I],ι 0] W λe w'=>e=ε (.bool (yC A [u,E,I] 0).2)/\xg lo w' (ext aa W.o.q (k+1,i,2)) (k+1,i,2) P.ab (yC A [u,E,I] 0).1/\Tp lo (onT (·=(k+1,i,2))) W aa w' (ext aa W.o.q (k+1,i,2))):=λW hW=>wZ W aa (k+1,i,2) P.ab A u E I 0 (aP.l.all.u hW) c1.l;go_wp2;go_region_held3 (λw'=>w'.p ⟨g,o+5,Y⟩=Z (.u (Z ⟨P.ab,0,Y⟩))/\w'.p ⟨fb,0,Y⟩=Z (ι u)/\w'.p ⟨fb,1,Y⟩=Z (ι E)/\w'.p ⟨fb,2,Y⟩=Z (ι I)) (first|go_keep|(go_simp;done)) (first|(go_at_call 163;refine(h.l _ γ).y ?_;rintro e w6 ⟨rfl,bi,aQ⟩;have ah:μ w4 _:=(show μ w4 w4.drew from γ);have aA:=aP.l.addA ah bi aQ;have bt:=(c3.l.u ah).mod aQ (jB θ _);obtain⟨ad,bS⟩:=bt.H;have aH:=ad 0;have aC:=ad 1;have aI:=ad 2;clear ad;simp only[mQ,hY,mE] at aH aC aI;obtain⟨_,_,_,_,_,_,bp,bG⟩:=Q.l.E aA.box))
  rw[←bT.l] at aA;have cu:=aA.mod.q;generalize (yC A [u,E,I] 0).2=bA at *;clear bi aQ h bT bt aH aC aI bp bG bS;go_wp2;go_roundw;exact⟨m+1,F1,A1,_,η,ξ,cu,cd,b4,aA⟩;simp[intOf];omega
 have af:a.G m=a:=yV η;rw[af,bX.l] at HF;rw[af,br.l] at HA;obtain rfl:fN=F:=by have:=HF.l;simpa using this
 obtain rfl:aN=A:=by have:=HA.l;simpa using this
 clear HF HA af;go_wp2
 (try simp only[Exit.inBlock,Exit.then])
 have h2:=S.l;refine zO (results_none rfl _ _ _) rfl ⟨rfl,tf,own2,?_,?_,h2.mod⟩;rw[ck.l];exact⟨by show yu lo wr P.tv V.lit.v;rw[a4.l];exact h2.v,h2.before,h2.qw,h2.all⟩;rw[cz.l];exact h2.box
end
section
variable {lo:Nat}{w:U}{rb wd mr mx:Nat}{R:zv}
structure uz where
 rv:O
 tbs:List Nat
 fv:O
 fvs:List O
def T1(a:List Nat):List Value:=a.map pt
structure zZ (lo:Nat) (w:U) (own:Nat->zo) (rb:Nat) (R:zv) (wd mr mx:Nat) (Q:uz):Prop where
 low:lo<=rb
 box:Th w rb #[Q.rv,ι R.count,ι R.Q,ι R.jg,ι wd,ι mr,ι mx,Q.fv] 214
 I:w.ownsRow lo 162 1 Q.rv R.I.j (T1 Q.tbs)
 tlen:Q.tbs.j=R.I.j
 tries:∀p (_:p<R.I.j) (_:p<Q.tbs.j),xg lo w own (0,p,0) Q.tbs[p] R.I[p]
 qw:w.ownsRow lo 161 1 Q.fv R.qw.j Q.fvs
 flen:Q.fvs.j=R.qw.j
 jo:∀p (_:p<R.qw.j) (_:p<Q.fvs.j),Tw lo w Q.fvs[p] R.qw[p]/\∀b,Q.fvs[p].m=Z b->own b=(0,p,1)
 K:R.I.j<=1000/\R.qw.j<=1000/\R.count<=1048577/\R.Q<=1048576
 small:wd<=1000/\mr<=1048576/\mx<=1048576
def Tw.modR{c:Nat}{ok:TypeId->zo->Prop}{w':U}{own own':Nat->zo}{v:O}{a:List zk}(h:Tw c w v a)(p:Tp lo ok w own w' own')(d:∀b,v.m=Z b->¬ok 165 (own b)):Tw c w' v a:=⟨sP h.1 p d,h.2⟩
def zZ.mod{ok:TypeId->zo->Prop}{w w':U}{own own':Nat->zo}{rb:Nat}{R:zv}{wd mr mx:Nat}{Q:uz}(h:zZ lo w own rb R wd mr mx Q)(p:Tp lo ok w own w' own')(e:∀ρ,¬ok 214 ρ)(d:∀ρ,¬ok 162 ρ)(g:∀ρ,¬ok 161 ρ)(f:∀q,¬ok 165 (0,q,1))(i:∀q t,¬Uh t->¬ok t (0,q,0)):zZ lo w' own' rb R wd mr mx Q:=by
 refine⟨h.low,h.box.mod p (e _),vT h.I p d,h.tlen,λq a b=>(h.tries q a b).mod p (i q),vT h.qw p g,h.flen,λq a b=>⟨(h.jo q a b).1.modR p λx c=>by rw[(h.jo q a b).2 x c];exact f q,λx c=>?_⟩,h.K,h.small⟩;rw[p.old x (yG (h.jo q a b).1.1 c)];exact(h.jo q a b).2 x c
def zZ.u{w':U}{own:Nat->zo}{Q:uz}(h:zZ lo w own rb R wd mr mx Q)(a:μ w w'):zZ lo w' own rb R wd mr mx Q:=h.mod (Tp.of (ok:=λ_ _=>False) own a) (λ_=>id) (λ_=>id) (λ_=>id) (λ_=>id) (λ_ _ _=>id)
def zZ.at{own:Nat->zo}{Q:uz}(h:zZ lo w own rb R wd mr mx Q):rb<w.o.q/\(∀o,w.frozen? (ω rb o)=false)/\w.p (δ rb)=Z Q.rv/\w.p (ω rb 1)=Z (ι R.count)/\w.p (ω rb 2)=Z (ι R.Q)/\w.p (ω rb 3)=Z (ι R.jg)/\w.p (ω rb 4)=Z (ι wd)/\w.p (ω rb 5)=Z (ι mr)/\w.p (ω rb 6)=Z (ι mx)/\w.p (ω rb 7)=Z Q.fv:=by
 obtain⟨a,b⟩:=h.box.H;exact⟨h.box.lt,b,a 0,a 1,a 2,a 3,a 4,a 5,a 6,a 7⟩
def zZ.trie{own:Nat->zo}{Q:uz}(h:zZ lo w own rb R wd mr mx Q)(p:Nat)(f:p<R.I.j)(b:p<Q.tbs.j):∃g a,Q.rv=.k (Z (δ g)) R.I.j a/\g<w.o.q/\w.p (ω g p)=Z (.u (Z (δ Q.tbs[p]))):=by
 obtain⟨g,a,c,_,e,d⟩:=yr h.I η;exact⟨g,a,c,e,d p _ (by simp[T1,b,pt])⟩
def zZ.frow{own:Nat->zo}{Q:uz}(h:zZ lo w own rb R wd mr mx Q)(p:Nat)(f:p<R.qw.j)(b:p<Q.fvs.j):∃g a,Q.fv=.k (Z (δ g)) R.qw.j a/\g<w.o.q/\w.p (ω g p)=Z Q.fvs[p]:=by
 obtain⟨g,a,c,_,e,d⟩:=yr h.qw η;exact⟨g,a,c,e,d p _ (by simp[b])⟩
def Tc:(prog.info? 161).map (λi=>(i.zero,i.q,i.bytes))=Z (Z (ν),1,24):=χ
def rZ(w:U)(n:Nat)(T:TypeId)(z:O)(b:n<=maxLen):(w.C (.E (madeCells #[z] n) T)).ownsRow w.o.q T 1 (.k (Z (δ w.o.q)) n n) n (List.replicate n z):=by
 refine⟨ζ,ze ⟨w.o.q,n,madeCells #[z] n,rfl,zg _,?_,zg _,b,by rw[size_madeCells];omega,?_⟩⟩;show(w.o.push _)[w.o.q]?=_;simp;apply nL;intro i;by_cases a:i<n;simp[a,madeCells,Nat.mod_one];simp[List.getElem?_take,a]
def Sr(lo:Nat)(w:U)(own:Nat->zo)(rb:Nat)(R:zv)(wd mr mx:Nat)(Q:uz)(e:Ending)(w':U):Prop:=e=ε (.tuple #[])/\∃b a,zZ lo w' own rb (qS R) wd mr mx ⟨Q.rv,Q.tbs,b,a⟩/\Tp lo (gU [214]) w own w' own
def Uu(w:U)(own:Nat->zo)(rb:Nat)(R:zv)(wd mr mx:Nat)(Q:uz)(h:zZ lo w own rb R wd mr mx Q)(s:lo<=w.o.q):
  Calls prog 120 #[(π rb)] w λe F=>Sr lo w own rb R wd mr mx Q e F:=by
 obtain⟨E,C,p,v,m⟩:=info_parts Tc;obtain⟨S,M,T,V,J,h3,N,L,K,I⟩:=h.at;obtain⟨z,t,y⟩:=zr h.I;have k:=h.K.1;have H:=Tg h;have A:=λW:U=>run_make (P:=prog) (w:=W) 212 161 E _ underlying212 C p .i64 .i64 (R.I.j:Int) (R.I.j:Int) η (Int.le_refl _) (by rw[m];omega) η;generalize B:R.I.j=n at *;have D:=Tg B;go_enter func120,ntmps120;go_wp2;refine zO (results_none rfl _ _ _) rfl ⟨rfl,.k (Z (δ w.o.q)) n n,List.replicate n (ν),?_,?_⟩;have l:zd [rb] w (w.x (ω rb 7) (.k (Z (δ w.o.q)) n n)):=zd.set _ _ _ _;have u:=T2.box H.l.box;have i:(w.x (ω rb 7) (.k (Z (δ w.o.q)) n n)).o.q=w.o.q:=by simp[U.setCell]
 have o:=H.l.box.set 7 (.k (Z (δ w.o.q)) n n);have f:=yJ H.l.I l u θ;have r:=λq a b=>(H.l.tries q a b).saveT l u θ;have d:=rZ (w.x (ω rb 7) (.k (Z (δ w.o.q)) n n)) n 161 (ν) b_;rw[i] at d;have g:Below (w.x (ω rb 7) (.k (Z (δ w.o.q)) n n)).o.q (w.x (ω rb 7) (.k (Z (δ w.o.q)) n n)) ((w.x (ω rb 7) (.k (Z (δ w.o.q)) n n)).C (.E (madeCells #[ν] n) 161)):=γ;have j:(qS R).qw=List.replicate n []:=by rw[qS,D.l]
 have c:(qS R).qw.j=n:=by rw[j,List.length_replicate]
 refine⟨H.l.low,by simpa [qS] using o.u g,zy f g,H.l.tlen,λq a b=>(r q a b).u g,by rw[c];exact yo d s,by rw[c];simp,λq a b=>?_,⟨H.l.K.1,by rw[c];exact k,H.l.K.2.2⟩,H.l.small⟩;simp only[j,eX];exact⟨⟨xp _ _ _ _,ζ⟩,λx G=>by cases G⟩;have i:(w.x (ω rb 7) (.k (Z (δ w.o.q)) n n)).o.q=w.o.q:=by simp[U.setCell]
 exact(Tp.set own H.l.box H.l.low (show gU [214] 214 (own rb) from xQ.2 rfl) 7 _).A (Tp.of own γ)
def Gj(w:U)(own:Nat->zo)(rb:Nat)(R:zv)(wd mr mx:Nat)(Q:uz)(p:Nat)(h:zZ lo w own rb R wd mr mx Q)(r:p<R.I.j)(b:p<Q.tbs.j):
  Calls prog 205 #[(π rb),ι p] w λe s=>e=ε (.u (Z (δ Q.tbs[p])))/\s=w:=by
 obtain⟨x,t,n,o,f,q,m,j,i,d⟩:=h.at;obtain⟨g,l,a,v,y⟩:=h.trie p r b;rw[a] at n;have k:(p:Int)<(R.I.j:Int):=η;have c:=h.K.1;clear h a o f q m j i d;generalize Q.tbs[p]=u at *;go_enter func205,ntmps205;go_wp2;go_ret;exact⟨rfl,rfl⟩
def Ao(p:Nat):TypeId->zo->Prop:=λt ρ=>t=165/\ρ=(0,p,1)
def mw(p:Nat):TypeId->zo->Prop:=λt ρ=>(¬Uh t/\ρ=(0,p,0))∨t=214∨t=161∨Ao p t ρ
def zZ.setTrie{w':U}{own own':Nat->zo}{Q:uz}{p:Nat}{T:zl}(h:zZ lo w own rb R wd mr mx Q)(i:p<R.I.j)(f:p<Q.tbs.j)(g:xg lo w' own' (0,p,0) Q.tbs[p] T)(m:Tp lo (onT (·=(0,p,0))) w own w' own'):zZ lo w' own' rb {R with I:=R.I.set p T} wd mr mx Q:=by
 have c:(R.I.set p T).j=R.I.j:=ζ;refine⟨h.low,h.box.mod m (jB θ _),by rw[c];exact vT h.I m (jB θ),by rw[c];exact h.tlen,λq a b=>?_,vT h.qw m (jB θ),h.flen,λq a b=>⟨(h.jo q a b).1.mod m (jB θ),λx d=>?_⟩,by rw[c];exact h.K,h.small⟩;by_cases e:q=p;subst e;simp only[pU];exact g;simp only[pW (Ne.symm e)];exact(h.tries q (by simpa using a) b).onT m (by simp[e]);rw[m.old x (yG (h.jo q a b).1.1 d)];exact(h.jo q a b).2 x d
def zZ.rebox{w':U}{own:Nat->zo}{R':zv}{Q:uz}(h:zZ lo w own rb R wd mr mx Q)(hs:zd [rb] w w')(m:Th w' rb #[Q.rv,ι R'.count,ι R'.Q,ι R'.jg,ι wd,ι mr,ι mx,Q.fv] 214)(j:R'.I=R.I)(k:R'.qw=R.qw)(l:R'.count<=1048577/\R'.Q<=1048576):zZ lo w' own rb R' wd mr mx Q:=by
 have f:=T2.box h.box;obtain⟨i,d,c,e,g⟩:=R';simp only at j k;subst j;subst k;exact⟨h.low,m,yJ h.I hs f θ,h.tlen,λq a b=>(h.tries q a b).saveT hs f θ,yJ h.qw hs f θ,h.flen,λq a b=>⟨⟨yJ (h.jo q a b).1.1 hs f θ,(h.jo q a b).1.2⟩,(h.jo q a b).2⟩,⟨h.K.1,h.K.2.1,l⟩,h.small⟩
def zZ.pushFresh{o:U}{own:Nat->zo}{r u:Nat}{Q:uz}{p:Nat}{v':O}{rs:List zk}(h:zZ lo w own rb R wd mr mx Q)(P:p<R.qw.j)(B:p<Q.fvs.j)(v:Q.fv=.k (Z (δ r)) R.qw.j u)(I:zd Q.fvs[p].m.toList w o)(G:Tw lo o v' rs)(C:v'.m=Q.fvs[p].m∨∃g,v'.m=Z g/\w.o.q<=g):
  zZ lo (o.x (ω r p) v') (ext own w.o.q (0,p,1)) rb {R with qw:=R.qw.set p rs} wd mr mx ⟨Q.rv,Q.tbs,Q.fv,Q.fvs.set p v'⟩/\Tp lo (mw p) w own (o.x (ω r p) v') (ext own w.o.q (0,p,1)):=by
 have f:=h.jo p P B;have s:Tp lo (Ao p) w own o (ext own w.o.q (0,p,1)):=⟨λb F=>fM _ _ _ _ F,_,I,λb F=>by
  have n:=xa F;obtain⟨c,K⟩:=jO f.1.1 n;exact⟨yU f.1.1 n,yG f.1.1 n,c,_,K,rfl,f.2 b n⟩⟩
 have D:∀{t:TypeId},t≠165->∀ρ,¬Ao p t ρ:=λL ρ q=>L q.1;have A:=vT h.qw s (D θ);have d:=A;rw[v] at d;have z:=uB d p η v';obtain⟨T,y⟩:=jO d (b:=r) rfl;have l:zd [r] o (o.x (ω r p) v'):=zd.set _ _ _ _;have i:=T2.box y;have k:(R.qw.set p rs).j=R.qw.j:=ζ;have E:=yU d rfl;refine⟨⟨h.low,(h.box.mod s (D θ _)).saveT l i θ,yJ (vT h.I s (D θ)) l i θ,h.tlen,λq a b=>((h.tries q a b).mod s (λt J q=>J (by rw[q.1];decide))).saveT l i θ,by rw[k,v];exact z,by rw[k];simpa using h.flen,λq a b=>?_,⟨h.K.1,by rw[k];exact h.K.2.1,h.K.2.2⟩,h.small⟩,?_⟩;by_cases e:q=p;subst e;simp only[pU];refine⟨⟨yJ G.1 l i θ,G.2⟩,λx m=>?_⟩;rcases C with e|⟨g,e,H⟩;rw[e] at m;rw[fM _ _ _ _ (yG f.1.1 m)];exact f.2 x m;rw[e] at m;simp only[zt] at m;subst m;simp[ext,Nat.not_lt.2 H];simp only[pW (Ne.symm e)];have N:q<R.qw.j:=by simpa using a
 have S:q<Q.fvs.j:=by simpa using b
 have j:=h.jo q N S;refine⟨⟨yJ (j.1.modR s λx m M=>e (by have:=j.2 x m;rw[M.2] at this;simp at this;exact this.symm)).1 l i θ,j.1.2⟩,λx m=>?_⟩;rw[fM _ _ _ _ (yG j.1.1 m)];exact j.2 x m;exact(s.more λt ρ q=>ze (ze (ze q))).A (Tp.set _ y E (ze (ze (zh rfl))) _ _)
def Lq(lo:Nat)(w:U)(own:Nat->zo)(rb p:Nat)(R':zv)(b:Bool)(wd mr mx:Nat)(Q:uz)(e:Ending)(w':U):Prop:=e=ε (.bool b)/\∃a c,zZ lo w' a rb R' wd mr mx ⟨Q.rv,Q.tbs,Q.fv,c⟩/\Tp lo (mw p) w own w' a
def Br{R':zv}{p:Nat}{row:zk}{b:Bool}(h:jV mr R p row=Z (R',b)):p<R.I.j/\p<R.qw.j/\okT (R.I.getD p zl.zero)=true/\R.count<=1048576/\(R.qw.getD p []).j<=1048576/\((yC (R.I.getD p zl.zero) row R.Q).2=false/\R'={R with I:=R.I.set p (yC (R.I.getD p zl.zero) row R.Q).1}/\b=true∨(yC (R.I.getD p zl.zero) row R.Q).2=true/\R'={R with I:=R.I.set p (yC (R.I.getD p zl.zero) row R.Q).1,qw:=R.qw.set p (R.qw.getD p []++[row]),count:=R.count+1}/\b=decide (R.count+1<=mr)):=by
 unfold jV at h;split at h;rename_i c;obtain⟨e,d,g,f,i⟩:=c;refine⟨e,d,g,f,i,?_⟩;rcases a:yC (R.I.getD p zl.zero) row R.Q with⟨T,_|_⟩
 rw[a] at h;simp only[zt,ye] at h;exact zh ⟨rfl,h.1.symm,h.2.symm⟩;rw[a] at h;simp only[zt,ye] at h;exact ze ⟨rfl,h.1.symm,h.2.symm⟩;cases h
def E2(w:U)(own:Nat->zo)(rb:Nat)(R R':zv)(wd mr mx:Nat)(Q:uz)(p x y z:Nat)(b:Bool)(h:zZ lo w own rb R wd mr mx Q)(bR:lo<=w.o.q)(hr:jV mr R p [x,y,z]=Z (R',b)):
  Calls prog 121 #[(π rb),ι p,.agg #[ι x,ι y,ι z]] w λe B=>Lq lo w own rb p R' b wd mr mx Q e B:=by
 obtain⟨i0,hi,bf,b4,bd⟩:=info_parts S3;obtain⟨V,n,aD,bL,b2,c⟩:=Br hr;have aj:p<Q.tbs.j:=by rw[h.tlen];exact V
 have E:p<Q.fvs.j:=by rw[h.flen];exact n
 obtain⟨hl,hf,h0,h1,h2,h3,h4,h5,h6,h7⟩:=h.at;obtain⟨g,aK,aE,hg,hc⟩:=h.trie p V aj;obtain⟨gf,a2,aA,bS,bw⟩:=h.frow p n E;rw[aE] at h0;rw[aA] at h7;have HR:=Tg h;have a6:=Tg aE;have ai:=Tg aA;have aH:R.I.getD p zl.zero=R.I[p]:=by simp[V]
 have aU:R.qw.getD p []=R.qw[p]:=by simp[n]
 rw[aH] at aD c;rw[aU] at c b2;have HT:=Tg (h.tries p V aj);have a1:=Tg λW hW=>wZ W own (0,p,0) Q.tbs[p] R.I[p] x y z R.Q (HT.l.u hW) aD;have bK:(p:Int)<(R.I.j:Int):=η;have bM:(p:Int)<(R.qw.j:Int):=η;have bT:=h.small.2.1;have bA:=h.K.1;have bF:=h.K.2.1;have aV:=Tg λW B ay (T:zl) (hW:μ w W) (hT:xg lo B ay (0,p,0) Q.tbs[p] T) (m:Tp lo (onT (·=(0,p,0))) W own B ay)=>(HR.l.u hW).setTrie V aj hT m;have F:X ((yC R.I[p] [x,y,z] R.Q).2=false/\R'={R with I:=R.I.set p (yC R.I[p] [x,y,z] R.Q).1}/\b=true∨(yC R.I[p] [x,y,z] R.Q).2=true/\R'={R with I:=R.I.set p (yC R.I[p] [x,y,z] R.Q).1,qw:=R.qw.set p (R.qw[p]++[[x,y,z]]),count:=R.count+1}/\b=decide (R.count+1<=mr)):=c;have b3:=Tg λb (hb:Q.fvs[p].m=Z b)=>yG (h.jo p n E).1.1 hb;clear h aE aA aD c aH aU h1 h3 h4 h5 h6;have bX:X (Q.tbs[p]=Q.tbs[p]):=rfl;generalize bt:(yC R.I[p] [x,y,z] R.Q).1=T' at *;clear bt;generalize bs:(yC R.I[p] [x,y,z] R.Q).2=a7 at *;clear bs;have aG:=Th.new w #[ι x,ι y,ι z] 165;go_enter func121,ntmps121;go_wp2;go_region_held3 (λB=>B.p ⟨rb,0,Y⟩=Z (.k (Z ⟨g,0,Y⟩) R.I.j aK)/\B.p ⟨g,p,Y⟩=Z (.u (Z ⟨Q.tbs[p],0,Y⟩))/\B.p ⟨rb,2,Y⟩=Z (ι R.Q)/\B.p ⟨w.o.q,0,Y⟩=Z (ι x)/\B.p ⟨w.o.q,1,Y⟩=Z (ι y)/\B.p ⟨w.o.q,2,Y⟩=Z (ι z)) (first|(exact⟨aF,aI,aX,t,s,o⟩)|go_keep|(go_simp;done)) (first|(go_at_call 163;refine(a1.l _ γ).y ?_;rintro e D ⟨rfl,aJ,an⟩;have aC:μ w _:=(show μ w (w.C (.E #[ι x,ι y,ι z] 165)).drew from γ);have ao:=aV.l _ _ _ _ aC aJ an;obtain⟨bh,bC,aF,b7,aX,bp,bu,b8,bi,al⟩:=ao.at;rw[a6.l] at aF;rw[ai.l] at al;have j:=(aG.drew).mod an (jB θ _);have t:=j.H.1 0;have s:=j.H.1 1;have o:=j.H.1 2;simp only[mQ,hY,mE] at t s o;obtain⟨g',bG,H,bQ,aI⟩:=ao.trie p (by simpa using V) aj;rw[a6.l] at H;simp only[O.slice.injEq,zt,Addr.mk.injEq,and_true] at H;have a8:=H.1;clear H;subst a8))
 have a0:Tp lo (mw p) w own D _:=(Tp.of own aC).A (an.more λ_ _ q=>zh q);have l:X (zZ lo D (ext own (w.C (.E #[ι x,ι y,ι z] 165)).drew.o.q (0,p,0)) rb {R with I:=R.I.set p T'} wd mr mx Q):=ao;have ad:X (Tp lo (mw p) w own D (ext own (w.C (.E #[ι x,ι y,ι z] 165)).drew.o.q (0,p,0))):=a0;clear ao a0 aJ an HT a1 aV hc h0 h2 h7 bw hl hf aG aC a6;generalize ext own (w.C (.E #[ι x,ι y,ι z] 165)).drew.o.q (0,p,0)=ab at *;cases a7
 .have c:=F.l;simp only[gR,false_and,or_false,true_and] at c;obtain⟨rfl,rfl⟩:=c;go_wp2;go_ret;exact⟨rfl,ab,Q.fvs,l.l,ad.l⟩
 have c:=F.l;simp only[Bool.true_eq_false,false_and,false_or,true_and] at c;have aT:=Tg c.1;have bn:=Tg c.2;clear c F;obtain⟨bU,bg,I,bJ,J⟩:=l.l.frow p n E;rw[ai.l] at I;simp only[O.slice.injEq,zt,Addr.mk.injEq,and_true] at I;have a8:=I.1;clear I;subst a8;have u:=(l.l.jo p n E).1.1;obtain⟨ah,A,ap⟩:=zr u;rw[ap] at J;have am:X (Q.fvs[p]=.k ah R.qw[p].j A):=ap;rw[ap] at u;clear ap;have bx:X (∀r∈R.qw[p],r.j=3):=(l.l.jo p n E).1.2;have bP:=ad.l.q;have bH:=j.lt;have aw:=Tg j;generalize ax:R.qw[p].j=fl at *;have aP:=Tg ax;clear ax j bp bu bi aI;go_wp2;refine wp_region_noPanic ?_;refine BX (S:=λB=>B.p ⟨rb,7,Y⟩=Z (.k (Z ⟨gf,0,Y⟩) R.qw.j a2)/\B.p ⟨gf,p,Y⟩=Z (.k ah fl A)/\B.p ⟨w.o.q,0,Y⟩=Z (ι x)/\B.p ⟨w.o.q,1,Y⟩=Z (ι y)/\B.p ⟨w.o.q,2,Y⟩=Z (ι z)) (d:=16) χ ⟨al,J,t,s,o⟩ (λa=>?_);refine uA (i:=0) (v:=?v0) rfl χ χ χ χ (λ_ _ _ h=>h) (zh ⟨by rfl,?hy0⟩) a ?rest0
 case hy0=>
  intro P f;go_simp
  (try with_reducible rfl)
 refine uA (i:=1) (v:=?v1) rfl χ χ χ χ (λ_ _ _ h=>h) (zh ⟨by rfl,?hy1⟩) a ?rest1
 case hy1=>
  intro P f;go_simp
  (try with_reducible rfl)
 refine uA (i:=2) (v:=?v2) rfl χ χ χ χ (λ_ _ _ h=>h) (zh ⟨by rfl,?hy2⟩) a ?rest2
 case hy2=>
  intro P f;go_simp
  (try with_reducible rfl)
 refine uA (i:=3) (v:=?v3) rfl χ χ χ χ (λ_ _ _ h=>h) (zh ⟨by rfl,?hy3⟩) a ?rest3
 case hy3=>
  intro P f;go_simp
  (try with_reducible rfl)
 refine uA (i:=4) (v:=?v4) rfl χ χ χ χ (λ_ _ _ h=>h) (zh ⟨by rfl,?hy4⟩) a ?rest4
 case hy4=>
  intro P f;go_simp
  (try with_reducible rfl)
 refine uA (i:=5) (v:=?v5) rfl χ χ χ χ (λ_ _ _ h=>h) (zh ⟨by rfl,?hy5⟩) a ?rest5
 case hy5=>
  intro P f;go_simp
  (try with_reducible rfl)
 refine uA (i:=6) (v:=?v6) rfl χ χ χ χ (λ_ _ _ h=>h) (zh ⟨by rfl,?hy6⟩) a ?rest6
 case hy6=>
  intro P f;go_simp
  (try with_reducible rfl)
 refine uA (i:=7) (v:=?v7) rfl χ χ χ χ (λ_ _ _ h=>h) (zh ⟨by rfl,?hy7⟩) a ?rest7
 case hy7=>
  intro P f;go_simp
  (try with_reducible rfl)
 refine uA (i:=8) (v:=?v8) rfl χ χ χ χ (λ_ _ _ h=>h) (zh ⟨by rfl,?hy8⟩) a ?rest8
 case hy8=>
  intro P f;go_simp
  (try with_reducible rfl)
 refine uA (i:=9) (v:=?v9) rfl χ χ χ χ (λ_ _ _ h=>h) (zh ⟨by rfl,?hy9⟩) a ?rest9
 case hy9=>
  intro P f;go_simp
  (try with_reducible rfl)
 refine uA (i:=10) (v:=?v10) rfl χ χ χ χ (λ_ _ _ h=>h) (zh ⟨by rfl,?hy10⟩) a ?rest10
 case hy10=>
  intro P f;go_simp
  (try with_reducible rfl)
 refine uA (i:=11) (v:=?v11) rfl χ χ χ χ (λ_ _ _ h=>h) (zh ⟨by rfl,?hy11⟩) a ?rest11
 case hy11=>
  intro P f;go_simp
  (try with_reducible rfl)
 refine uA (i:=12) (v:=?v12) rfl χ χ χ χ (λ_ _ _ h=>h) (zh ⟨by rfl,?hy12⟩) a ?rest12
 case hy12=>
  intro P f;go_simp
  (try with_reducible rfl)
 refine fI (i:=13) χ rfl (λK hK=>?_);go_simp
 have N:μ D (D.C (.E #[ι x,ι y,ι z] 165)).drew:=γ;refine hK.l _ _ (λ_=>⟨(Below.cell (p:=⟨rb,7,Y⟩) N (show rb<D.o.q by omega)).A al,(Below.cell (p:=⟨gf,p,Y⟩) N (show gf<D.o.q by omega)).A J,(Below.cell (p:=⟨w.o.q,0,Y⟩) N (show w.o.q<D.o.q by omega)).A t,(Below.cell (p:=⟨w.o.q,1,Y⟩) N (show w.o.q<D.o.q by omega)).A s,(Below.cell (p:=⟨w.o.q,2,Y⟩) N (show w.o.q<D.o.q by omega)).A o⟩) ?_;clear hK K a;refine fI (i:=14) χ rfl (λK hK=>?_);refine m8 D _ [ι x,ι y,ι z] 165 rfl (.tmp 57) (.tmp 59) 161 rfl lo 165 i0 _ 3 24 underlying161 hi bf b4 bd rfl θ (.k ah fl A) fl (jW R.qw[p]) (by simp[Act.eval]) u (by exact N) D.o.q 1 (by simp[Act.eval]) (by exact Th.drew (Th.new _ _ _)) rfl a_ η η η ?_;intro v' w3 aB ae a3 b1 bI;obtain⟨ak,M,rfl⟩:=zr aB;have aY:=T2.own u;have av:=l.l.box.saveT ae aY θ;have aq:=av.H.1 7;simp only[mQ,hY,mE] at aq;rw[ai.l] at aq;have L:=yJ l.l.qw ae aY θ;rw[ai.l] at L;have ar:w3.p ⟨gf,p,Y⟩=Z (.k ah fl A):=by
  obtain⟨bN,b5,au,_,_,a5⟩:=yr L (show 0<R.qw.j by omega);simp only[O.slice.injEq,zt,Addr.mk.injEq,and_true] at au;have e:=au.1;subst e;have:=a5 p Q.fvs[p] (by simp[E]);rw[am.l] at this;exact this
 have aQ:=vg L;have G:=aw.l.save ae (λhm=>by
  have:=b3.l w.o.q (by rw[am.l];exact xa hm);omega)
 have af:=G.H.1 0;have ag:=G.H.1 1;have ac:=G.H.1 2;simp only[mQ,hY,mE] at af ag ac;have k:w3.p ⟨rb,7,Y⟩=Z (.k (Z ⟨gf,0,Y⟩) R.qw.j a2)/\w3.p ⟨gf,p,Y⟩=Z (.k ah fl A)/\w3.p ⟨w.o.q,0,Y⟩=Z (ι x)/\w3.p ⟨w.o.q,1,Y⟩=Z (ι y)/\w3.p ⟨w.o.q,2,Y⟩=Z (ι z):=⟨aq,ar,af,ag,ac⟩;refine hK.l _ _ (λ_=>k) ?_;clear hK K;refine uA (i:=15) (v:=?v15) rfl χ χ χ χ (λ_ _ _ h=>h) (zh ⟨by rfl,?hy15⟩) k ?rest15
 case hy15=>
  intro P f;go_simp
  (try with_reducible rfl)
 refine fI (i:=16) χ rfl (λK hK=>?_);go_simp
 refine hK.l _ _ (λhq=>zB rfl hq) ?_;clear hK K;refine iZ χ ?_ _;refine NoPanic.normal ?_;have hP:=zZ.pushFresh (v':=.k ak (fl+1) M) (rs:=R.qw[p]++[[x,y,z]]) l.l n E ai.l (by rw[am.l];exact ae) ⟨by rw[yN,aP.l];simpa [jW,TN] using aB,λr hr=>by rcases ya.1 hr with q|q;exact bx.l r q;simp at q;subst q;rfl⟩ (by rw[am.l];exact a3);obtain⟨aZ,aW⟩:=hP;have aa:X (zZ lo (w3.x ⟨gf,p,Y⟩ (.k ak (fl+1) M)) (ext ab D.o.q (0,p,1)) rb {R with I:=R.I.set p T',qw:=R.qw.set p (R.qw[p]++[[x,y,z]])} wd mr mx ⟨Q.rv,Q.tbs,Q.fv,Q.fvs.set p (.k ak (fl+1) M)⟩):=aZ;have b0:=Tg (ad.l.A aW);clear aZ aW k aq ar aQ af ag ac av L G aF b7 aX b8 al t s o J bh bC l aw u aB ae a3 b1;generalize ext ab D.o.q (0,p,1)=C at *;generalize w3.x ⟨gf,p,Y⟩ (.k ak (fl+1) M)=w5 at *;obtain⟨bE,bb,bm,aN,bv,ba,bk,aO,b6,br⟩:=aa.l.at;simp only at aN aO;clear bm bv ba bk b6 br;have az:=aa.l.box.set 1 (ι ((R.count:Int)+1));have aS:zd [rb] w5 (w5.x ⟨rb,1,Y⟩ (ι ((R.count:Int)+1))):=zd.set _ _ _ _;have aR:Tp lo (mw p) w5 C (w5.x ⟨rb,1,Y⟩ (ι ((R.count:Int)+1))) C:=Tp.set C aa.l.box aa.l.low (ze (zh rfl)) _ _;have a9:=aa.l.rebox (R':={R with I:=R.I.set p T',qw:=R.qw.set p (R.qw[p]++[[x,y,z]]),count:=R.count+1}) aS (by simpa using az) rfl rfl ⟨by show R.count+1<=1048577;omega,aa.l.K.2.2.2⟩;rw[←aT.l] at a9;have aL:=Tg a9;have be:=Tg (b0.l.A aR);clear a9 aR az aS;go_upto_region 8 with fail
 generalize w5.x ⟨rb,1,Y⟩ (ι ((R.count:Int)+1))=w6 at *;obtain⟨bO,bV,bq,a4,bo,bc,bz,bW,b9,bB⟩:=aL.l.at;rw[aT.l] at a4;simp only at a4;have aM:((R.count+1:Nat):Int)=(R.count:Int)+1:=η;rw[aM] at a4;clear bq bo bc bz b9 bB aN aO bE bb aM;go_quiet (fail)
 go_wp2;go_ret;have bD:decide ((R.count:Int)+1<=(mr:Int))=b:=by rw[bn.l];exact decide_eq_decide.2 η
 exact⟨by rw[←bD];rfl,C,_,aL.l.u (zI (zn _ _) _),be.l.A (Tp.of C (zI (zn _ _) _))⟩
end
section
variable {lo:Nat}{w w':U}{own':Nat->zo}
def V7:TypeId->zo->Prop:=gU [310,323]
def kQ(p:Nat):TypeId->zo->Prop:=orK (mw p) V7
def CU{l:List TypeId}{t:TypeId}{ρ:zo}(h:t∈l):gU l t ρ:=h
def gM{l:List TypeId}{t:TypeId}(h:t∉l):∀ρ,¬gU l t ρ:=λ_ q=>h q
def T7.mod{ok:TypeId->zo->Prop}{w w':U}{own own':Nat->zo}{c:Nat}{J:zE}{P:xI}(h:T7 lo w c J P)(m:Tp lo ok w own w' own')(g:∀ρ,¬ok 310 ρ)(f:∀ρ,¬ok 323 ρ)(l:∀ρ,¬ok 325 ρ)(i:∀ρ,¬ok 327 ρ)(d:∀ρ,¬ok 284 ρ)(j:∀x∈P.tbs,∀b∈x.2,∀t,¬Uh t->¬ok t (own b))(e:∀x∈P.bps,∀b∈x.2.2,∀t,¬Uh t->¬ok t (own b)):T7 lo w' c J P:=
 ⟨h.low,h.box.mod m (g _),h.g.mod m d,vT h.ja m f,h.slen,λk a b=>(h.tries k a b).mod m (j _ (zq b)),h.B,vT h.bars m l,h.blen,λk a b=>⟨(h.jk k a b).1.mod m d,(h.jk k a b).2.mod m (e _ (zq b))⟩,h.hlen,λp a b=>⟨vT (h.jf p a b).1 m i,(h.jf p a b).2⟩,h.jl,h.K⟩
def pJ(own:Nat->zo)(P:xI)(p:Nat):Prop:=(∀x∈P.tbs,∀b∈x.2,own b≠(0,p,0))/\(∀x∈P.bps,∀b∈x.2.2,own b≠(0,p,0))
def T7.add{own:Nat->zo}{n p:Nat}{J:zE}{P:xI}(h:T7 lo w n J P)(m:Tp lo (mw p) w own w' own')(j:pJ own P p):T7 lo w' n J P/\pJ own' P p:=by
 have i:∀{t:TypeId},Uh t->t≠214->t≠161->t≠165->∀ρ,¬mw p t ρ:=λa b c d ρ q=>by
  rcases q with q|q|q|q;exact q.1 a;exact b q;exact c q;exact d q.1
 have o:∀{t:TypeId} {ρ:zo},¬Uh t->ρ≠(0,p,0)->¬mw p t ρ:=λa b q=>by
  rcases q with q|q|q|q;exact b q.2;subst q;exact a θ;subst q;exact a θ;rw[q.1] at a;exact a θ
 refine⟨h.mod m (i θ θ θ θ) (i θ θ θ θ) (i θ θ θ θ) (i θ θ θ θ) (i θ θ θ θ) (λx e b f t l=>o l (j.1 x e b f)) (λx e b f t l=>o l (j.2 x e b f)),λx e b f=>?_,λx e b f=>?_⟩;obtain⟨k,g,rfl⟩:=vd e;rw[m.old b ((h.tries k (by rw[←h.slen];exact g) g).lt b f).2];exact j.1 _ e b f;obtain⟨k,g,rfl⟩:=vd e;rw[m.old b ((h.jk k (by rw[←h.blen];exact g) g).2.lt b f).2];exact j.2 _ e b f
def Tp.ofNext{own:Nat->zo}{e:Nat}{J:zE}{P:xI}(h:T7 lo w e J P)(hs:zd (e::P.sv.m.toList) w w'):Tp lo V7 w own w' own:=
 Tp.ofSave own hs λb d=>by
  rcases zG.1 d with rfl|d
  .exact⟨h.low,h.box.lt,_,_,h.box,CU θ⟩
  .have a:=xa d;obtain⟨c,f⟩:=jO h.ja a;exact⟨yU h.ja a,yG h.ja a,c,_,f,CU θ⟩
def zZ.modJ{own:Nat->zo}{c:Nat}{R:zv}{wd mr mx:Nat}{Q:uz}(h:zZ lo w own c R wd mr mx Q)(m:Tp lo V7 w own w' own'):zZ lo w' own' c R wd mr mx Q:=
 h.mod m (gM θ) (gM θ) (gM θ) (λ_=>gM θ _) (λq t b a=>by
  rcases zG.1 a with rfl|a
  .exact b θ
  .rcases zG.1 a with rfl|a
   .exact b θ
   .cases a)
def wJ(lo:Nat)(w:U)(own:Nat->zo)(c p:Nat)(R':zv)(b:Bool)(wd mr mx:Nat)(Q:uz)(e:Ending)(w':U):Prop:=e=ε (.bool b)/\∃own' a,zZ lo w' own' c R' wd mr mx ⟨Q.rv,Q.tbs,Q.fv,a⟩/\Tp lo (kQ p) w own w' own'
def FK(w:U)(own:Nat->zo)(y C:Nat)(R R':zv)(J:zE)(P:xI)(wd mr mx:Nat)(Q:uz)(p n:Nat)(b:Bool)(h:zZ lo w own y R wd mr mx Q)(hj:T7 lo w C J P)(F:pJ own P p)(ax:lo<=w.o.q)(hr:vX mr p n R J=Z (R',b)):
  Calls prog 208 #[(π y),ι p,(π C)] w λe w'=>wJ lo w own y p R' b wd mr mx Q e w':=by
 have HR:=Tg hr;have H0:X (zZ lo w own y R wd mr mx ⟨Q.rv,Q.tbs,Q.fv,Q.fvs⟩/\T7 lo w C J P/\pJ own P p):=⟨h,hj,F⟩;have aj:X (Tp lo (kQ p) w own w own):=Tp.refl w own;clear h hj F hr;go_enter func208,ntmps208;go_wp2;go_loopg [] n (λk wr=>∃(t:zv) (Jk:zE) (a:Nat->zo) (E:Γ),X (vX mr p k t Jk=Z (R',b))/\X (zZ lo wr a y t wd mr mx ⟨Q.rv,Q.tbs,Q.fv,E⟩/\T7 lo wr C Jk P/\pJ a P p)/\X (Tp lo (kQ p) w own wr a))
 case atStart=>exact⟨R,J,own,Q.fvs,HR,H0,aj⟩
 clear HR H0 aj;obtain⟨t,Jk,a,E,HQ,HK,HM⟩:=hrel;have au:=HM.l.q;rcases gk with _|m;have q:=HQ.l;simp[vX] at q;have q:=HQ.l;unfold vX at q;rcases hn:lf m Jk with _|ar;rw[hn] at q;cases q;obtain⟨f,bn⟩:=ar;rw[hn] at q;have aa:=Tg (UU wr C Jk P m f bn HK.l.2.1 hn);have ab:X (∀W,T7 lo W C f P->zd (C::P.sv.m.toList) wr W->(zZ lo W a y t wd mr mx ⟨Q.rv,Q.tbs,Q.fv,E⟩/\T7 lo W C f P/\pJ a P p)/\Tp lo (kQ p) w own W a):=λW h1 h2=>by
  have m:=Tp.ofNext (own:=a) HK.l.2.1 h2;exact⟨⟨HK.l.1.modJ m,h1,HK.l.2.2⟩,HM.l.A (m.more λ_ _ q=>ze q)⟩
 clear hn HQ;cases bn
 .simp only[zt,ye] at q;have HE:=Tg q;clear q;go_wp2_with (go_at_call 215;refine aa.l.y ?_;rintro e G ⟨rfl,o,l⟩;obtain⟨z,s⟩:=ab.l _ o l;clear o l)
  obtain⟨j,ac,ad⟩:=z;have ay:=Tg j;have u:=Tg s;have ao:=Tg λW hW=>P3 W C f P (ac.u hW);obtain⟨az,aw,_,_,_,H,_,_,_,_⟩:=j.at;have ae:=j.box.set 3 (ι (IntKind.i64.wrap (t.jg+f.jg)));have ah:zd [y] G (G.x (ω y 3) (ι (IntKind.i64.wrap (t.jg+f.jg)))):=zd.set _ _ _ _;have af:Tp lo (kQ p) G a (G.x (ω y 3) (ι (IntKind.i64.wrap (t.jg+f.jg)))) a:=Tp.set a j.box j.low (zh (ze (zh rfl))) _ _;have N:=j.rebox (R':={t with jg:=IntKind.i64.wrap (t.jg+f.jg)}) ah (by simpa using ae) rfl rfl j.K.2.2;rw[HE.l.1] at N;have ap:=Tg N;have an:=Tg (u.l.A af);clear N af ae ah j s ac ad;have av:=IntWalk.i64_in;refine wp_region_noPanic ?_;refine BX (S:=λw'=>w'.p (ω y 3)=Z (ι t.jg)) (d:=11) χ H (λc=>?_);refine uA (i:=0) (v:=?v0) rfl χ χ χ χ (λ_ _ _ h=>h) (zh ⟨by rfl,?hy0⟩) c ?rest0
  case hy0=>
   intro wq B;go_simp
   (try with_reducible rfl)
  refine uA (i:=1) (v:=?v1) rfl χ χ χ χ (λ_ _ _ h=>h) (zh ⟨by rfl,?hy1⟩) c ?rest1
  case hy1=>
   intro wq B;go_simp
   (try with_reducible rfl)
  refine uA (i:=2) (v:=?v2) rfl χ χ χ χ (λ_ _ _ h=>h) (zh ⟨by rfl,?hy2⟩) c ?rest2
  case hy2=>
   intro wq B;go_simp
   (try with_reducible rfl)
  refine uA (i:=3) (v:=?v3) rfl χ χ χ χ (λ_ _ _ h=>h) (zh ⟨by rfl,?hy3⟩) c ?rest3
  case hy3=>
   intro wq B;go_simp
   (try with_reducible rfl)
  refine uA (i:=4) (v:=?v4) rfl χ χ χ χ (λ_ _ _ h=>h) (zh ⟨by rfl,?hy4⟩) c ?rest4
  case hy4=>
   intro wq B;go_simp
   (try with_reducible rfl)
  refine uA (i:=5) (v:=?v5) rfl χ χ χ χ (λ_ _ _ h=>h) (zh ⟨by rfl,?hy5⟩) c ?rest5
  case hy5=>
   intro wq B;go_simp
   (try with_reducible rfl)
  refine fI (i:=6) χ rfl (λK A=>?_);go_simp
  refine(ao.l _ (by exact(zI (zn _ _) 1))).y ?_;rintro e I ⟨rfl,rfl⟩;refine A.l _ _ (λ_=>H) ?_;clear A K;refine uA (i:=7) (v:=?v7) rfl χ χ χ χ (λ_ _ _ h=>h) (zh ⟨by rfl,?hy7⟩) c ?rest7
  case hy7=>
   intro wq B;go_simp
   (try with_reducible rfl)
  refine fI (i:=8) χ rfl (λK A=>?_);go_simp
  refine A.l _ _ (λ_=>H) ?_;clear A K;refine fI (i:=9) χ rfl (λK A=>?_);go_simp
  refine A.l _ _ (λ_=>H) ?_;clear A K;refine fI (i:=10) χ rfl (λK A=>?_);go_simp
  refine A.l _ _ (λ_=>H) ?_;clear A K;refine fI (i:=11) χ rfl (λK A=>?_);go_simp
  refine A.l _ _ (λhq=>zB rfl hq) ?_;clear A K;refine iZ χ ?_ _;refine NoPanic.normal ?_;have ai:Below (G.x (ω y 3) (ι (IntKind.i64.wrap (t.jg+f.jg)))).o.q (G.x (ω y 3) (ι (IntKind.i64.wrap (t.jg+f.jg)))) (G.x (ω y 3) (ι (IntKind.i64.wrap (t.jg+f.jg)))).drew:=γ;have hf:=HE.l.2;go_wp2;go_ret;exact⟨by rw[←hf];rfl,a,E,ap.l.u ai,an.l.A (Tp.of a ai)⟩
 dsimp only at q;rcases ha:jV mr t p (zH f.g f.P) with _|am;rw[ha] at q;cases q;obtain⟨R3,b3⟩:=am;simp only[ha] at q;have al:=Tg λW (hW:T7 lo W C f P)=>Jq W C f P hW;rw[P9] at ha;have ak:=Tg λW (hl:lo<=W.o.q) (hW:zZ lo W a y t wd mr mx ⟨Q.rv,Q.tbs,Q.fv,E⟩)=>E2 W a y t R3 wd mr mx _ p _ _ _ b3 hW hl ha;generalize Tj f.g f.P 0=r0 at *;generalize Tj f.g f.P 1=r1 at *;generalize Tj f.g f.P 2=r2 at *;clear ha;cases b3
 .simp only[zt,ye] at q;have HE:=Tg q;clear q;go_wp2_with (first|(go_at_call 215;refine aa.l.y ?_;rintro e G ⟨rfl,o,l⟩;obtain⟨z,s⟩:=ab.l _ o l;clear o l;have x:=Tg z;have u:=Tg s;clear z s)|(go_at_call 216;refine(al.l _ x.l.2.1).y ?_;rintro e I ⟨rfl,r⟩)|(go_at_call 121;refine(ak.l _ (by exact(show lo<=(I.C (.E #[ι r0,ι r1,ι r2] 165)).o.q by rw[U.size_alloc];have:=r.q;have:=u.l.q;omega)) (by exact(x.l.1.u r).u γ)).y ?_;rintro e w4 ⟨rfl,g,V,T,L⟩))
  go_ret;have D:Tp lo (kQ p) G a w4 g:=((Tp.of a r).A (Tp.of a (show μ I (I.C (.E #[ι r0,ι r1,ι r2] 165)) from γ))).A (L.more λ_ _ q=>zh q);exact⟨by rw[←HE.l.2];rfl,g,V,by rw[←HE.l.1];exact T,u.l.A D⟩
 have aq:X (vX mr p m R3 f=Z (R',b)):=q;clear q;go_wp2_with (first|(go_at_call 215;refine aa.l.y ?_;rintro e G ⟨rfl,o,l⟩;obtain⟨z,s⟩:=ab.l _ o l;clear o l;have x:=Tg z;have u:=Tg s;clear z s)|(go_at_call 216;refine(al.l _ x.l.2.1).y ?_;rintro e I ⟨rfl,r⟩)|(go_at_call 121;refine(ak.l _ (by exact(show lo<=(I.C (.E #[ι r0,ι r1,ι r2] 165)).o.q by rw[U.size_alloc];have:=r.q;have:=u.l.q;omega)) (by exact(x.l.1.u r).u γ)).y ?_;rintro e w4 ⟨rfl,g,V,T,L⟩))
 have M:μ I (I.C (.E #[ι r0,ι r1,ι r2] 165)):=γ;have D:Tp lo (kQ p) G a w4 g:=((Tp.of a r).A (Tp.of a M)).A (L.more λ_ _ q=>zh q);have ag:=((x.l.2.1.u r).u M).add L x.l.2.2;go_roundg m
 case measure=>omega
 exact⟨R3,f,g,V,aq,⟨T,ag.1,ag.2⟩,u.l.A D⟩
end
end Go.Proofs.YteampbddflhngaaGreat
