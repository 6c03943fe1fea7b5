import Derived.Test.YteampbddflhngaaGreatA02
namespace Go.Proofs.YteampbddflhngaaGreat
open List renaming length→List.j,getD→List.d,take→List.G,toArray→List.F,foldl→List.H,getD_eq_getElem?_getD→g_,getElem?_eq_none→m_,sum_append→o_
open _root_.Array renaming size→Array.q,getD→Array.d,foldl→Array.H
open _root_.ByteArray renaming size→ByteArray.q,empty→h_
open Go.RowKit.Below renaming size→Go.RowKit.Below.q,setCell→Go.RowKit.Below.x,mono→Go.RowKit.Below.y,trans→Go.RowKit.Below.A,alloc→Go.RowKit.Below.C
open Go.TypeInfo renaming size→Go.TypeInfo.q
open Go.RowKit.Hid renaming out→Go.RowKit.Hid.l
open Go.Shut renaming out→Go.Shut.l
open Go.World renaming heap→Go.World.o,setCell→Go.World.x,cell?→Go.World.p,alloc→Go.World.C
open Go.Value renaming slice→Go.Value.k,string→Go.Value.g,bool→Go.Value.i,cells→Go.Value.E,ownBlock→Go.Value.m,pointer→Go.Value.u,tuple→Go.Value.B,slice→i_,ownBlock→k_,string→l_
open Go.TypeDesc renaming slice→Go.TypeDesc.k,string→Go.TypeDesc.g,bool→Go.TypeDesc.i,pointer→Go.TypeDesc.u,tuple→Go.TypeDesc.B
open Option renaming getD→Option.d,isSome→Option.I,some→Z,none→Y
open Go.Calls renaming mono→Go.Calls.y
open Eq renaming trans→Eq.A
open Iff renaming trans→Iff.A
open Go.Obj renaming cells→Go.Obj.E
open Int renaming toNat→Int.D
open UInt8 renaming toNat→UInt8.D
open Go.Value.slice renaming injEq→j_
open Go.Addr.mk renaming injEq→n_
open Go.RowKit renaming Hid→X,intOf→d_
open Go renaming World→U,Value→O,Calls→c_
open Go.Proofs.Tryz renaming prog→e_
set_option linter.all false
set_option maxRecDepth 100000
set_option maxHeartbeats 4000000
open Go.RowKit
section
open Go.Proofs.Tryz
variable {lo:Nat}
def kr(lo:Nat)(w:U)(a:Nat)(v:O)(ns:κ):Prop:=lo<=a/\U3 w a #[v] 141/\U7 lo w v ns
def kr.tab{w:U}{a:Nat}{v:O}{ns:List Λ}(h:kr lo w a v ns):n9 lo w a ns:=⟨h.1,v,h.2.1,h.2.2⟩
def kr.u{w w':U}{b:Nat}{v:O}{ns:List Λ}(h:kr lo w b v ns)(a:μ w w'):kr lo w' b v ns:=⟨h.1,h.2.1.u a,h.2.2.u a⟩
def mX(ns:κ)(x:ByteArray):κ:=if ut ns x<ns.j/\ns.d (ut ns x) h_=x then ns else ns.G (ut ns x)++x::ns.drop (ut ns x)
def AJ(lo:Nat)(w:U)(b:Nat)(v:O)(ns:κ)(e:Ending)(w':U):Prop:=e=ε (.B #[])/\∃a,kr lo w' b a ns/\zc (b::v.m.toList) w w'/\(a.m=v.m∨∃g,a.m=Z g/\w.o.q<=g)
def Qy(ns:List Λ)(x:Λ)(k:Nat)(a:k<ns.j):(((ns.G (k+1)++x::ns.drop (k+1)).set (k+1) ns[k]).set k x)=ns.G k++x::ns.drop k:=by
 have b:(ns.G k).j=k:=by simp;omega
 rw[yF a,yK a,jt,gz _ _ η,b,show k+1-k=1 from by omega,gz _ _ η,b,vF];rfl
def M9(w:U)(n:Nat)(v:O)(ns:List Λ)(x:Λ)(h:kr lo w n v ns)(hl:ns.j<=900):
  c_ e_ 157 #[(π n),.g x] w λe w'=>AJ lo w n v (mX ns x) e w':=by
 have HP:=U2 (Dd w n ns x h.tab η);have HH:=U2 h;obtain⟨ah,R,hs⟩:=h;obtain⟨ao,l,rfl⟩:=hs.qm;have HE:X (mX ns x=if ut ns x<ns.j/\ns.d (ut ns x) h_=x then ns else ns.G (ut ns x)++x::ns.drop (ut ns x)):=rfl;generalize ut ns x=f at *;by_cases T:f<ns.j/\ns.d f h_=x
 .rw[zb T] at HE;obtain⟨Q,h2⟩:=T;rw[show ns.d f h_=ns[f] from by simp[g_,Q]] at h2;obtain⟨g,rfl,V,A⟩:=hs.cell f Q;have aw:=qH h2;clear h2;generalize ns[f]=y at *;go_enter func157,ntmps157;go_wp2_with (go_at_call 168;refine HP.l.y ?_;rintro r w' ⟨rfl,m,rfl⟩;have c:=R.u (zG (zn _ _) m);obtain⟨hc,hf,E⟩:=c.I;have hx:=((zG (zn w.o.q w) m).cell (p:=(ω g f)) V).A A;have a3:g<(w.drewN m).o.q:=V)
  (try simp only[Exit.inBlock,Exit.then]);refine zP (results_none rfl _ _ _) rfl ?_
  exact⟨rfl,_,by rw[HE.l];exact HH.l.u (zG (zn _ _) m),zc.of (zG (zn _ _) m),zh rfl⟩
 rw[za T] at HE;obtain⟨i0,hi,aj,ai,an⟩:=info_parts Uw;have ap:X (∀m,f<ns.j->∃(y:Λ) (g:Nat),ao=Z (δ g)/\g<(w.drewN m).o.q/\(w.drewN m).p (ω g f)=Z (.g y)/\(y.toList == x.toList)=false):=λm Q=>by
  obtain⟨g,e,V,A⟩:=hs.cell f Q;have hn:ns[f]≠x:=λq=>T ⟨Q,by rw[←q];simp[g_,Q]⟩;exact⟨ns[f],g,e,V,((zG (zn w.o.q w) m).cell (p:=(ω g f)) V).A A,vn hn⟩
 have ay:lo<=w.o.q:=by have:=R.lt;omega
 by_cases Q:f<ns.j
 .obtain⟨yy,gg,e1,_⟩:=ap.l 0 Q;subst e1;go_enter func157,ntmps157;go_wp2_with (first|(go_at_call 168;refine HP.l.y ?_;rintro r w' ⟨rfl,m,rfl⟩;have t:μ w (w.drewN m):=(zG (zn _ _) m);have c:=R.u t;obtain⟨hc,hf,E⟩:=c.I;have L:=hs.u t;obtain⟨y,g,e1,V,hx,aw⟩:=ap.l m Q;simp only[zt,n_] at e1;obtain⟨rfl,_⟩:=e1)|(at_builtin;refine jx (w.drewN m) _ [.g x] _ rfl (.tmp 31) (.tmp 33) 30 rfl lo 9 i0 _ 1 16 underlying30 hi aj ai an rfl θ (.k (Z (δ gg)) ns.j l) ns.j (ns.map l_) rfl L (zn _ _) _ _ rfl ζ rfl a_ η η η ?_;intro v' S o B s;obtain⟨au,a,rfl⟩:=zq o;have d:=c.save B (vL L c θ);obtain⟨W,ac,H⟩:=d.I))
  obtain⟨b,al,N,ae,ax,_⟩:=yt o η;simp only[j_] at N;obtain⟨rfl,_,P⟩:=N;clear P;have J:b≠n:=uj o d θ rfl;have u:=d.set 0 (.k (Z (δ b)) (ns.j+1) a);simp at u;have aa:U7 lo (S.x (δ n) (.k (Z (δ b)) (ns.j+1) a)) (.k (Z (δ b)) (ns.j+1) a) (ns.G ns.j++x::ns.drop ns.j):=by
   have q:=xJ o ((UF.refl n S).x 0 (.k (Z (δ b)) (ns.j+1) a)) d θ;unfold U7;simpa using q
  have K:∀y∈[b],y∈n::(i_ (Z (δ gg)) ns.j l).m.toList∨w.o.q<=y:=λy C=>by
   simp only[xo] at C;subst C;rcases s with q|⟨g,q,V⟩;left;simp only[z7];right;rw[←q];simp[k_];right;simp only[k_,zt] at q;have:=t.q;omega
  have G:zc (n::(i_ (Z (δ gg)) ns.j l).m.toList) w (S.x (δ n) (.k (Z (δ b)) (ns.j+1) a)):=((zc.of (M:=n::(i_ (Z (δ gg)) ns.j l).m.toList) t).newer B (λy C=>zh (pf _ C))).newer (zc.set _ _ _ _) (λy C=>zh (by simp at C;simp[C]));have I:(i_ (Z (δ b)) (ns.j+1) a).m=(i_ (Z (δ gg)) ns.j l).m∨∃g,(i_ (Z (δ b)) (ns.j+1) a).m=Z g/\w.o.q<=g:=s.imp id (fun⟨g,q1,q2⟩=>⟨g,q1,by have:=t.q;omega⟩);clear hc hf E W ac H B s o;generalize S.x (δ n) (.k (Z (δ b)) (ns.j+1) a)=w5 at *;generalize decide (f<ns.j)=bq;go_loopw [5] (λv5 wr=>∃k:Nat,v5=ι k/\k<=ns.j/\(f<=k∨k=ns.j)/\U3 wr n #[.k (Z (δ b)) (ns.j+1) a] 141/\U7 lo wr (.k (Z (δ b)) (ns.j+1) a) (ns.G k++x::ns.drop k)/\zc (n::(i_ (Z (δ gg)) ns.j l).m.toList) w wr) (λi _=>(d_ i).D);exact⟨ns.j,ξ,ze _,zg rfl,u,aa,G⟩;obtain⟨k,rfl,hk,ar,F,z,D⟩:=hrel;obtain⟨hc,hf,E⟩:=F.I;by_cases am:f<k
  .obtain⟨j,rfl⟩:∃j,k=j+1:=⟨k-1,η⟩;have hj:j<ns.j:=η;have ak:(ns.G (j+1)++x::ns.drop (j+1)).j=ns.j+1:=by simp;omega
   have az:b<wr.o.q:=yb z rfl;have a2:=uv z;obtain⟨_,e0,_,av⟩:=z.cell j η;obtain⟨_,e1,_,a1⟩:=z.cell (j+1) η;simp only[zt,n_] at e0 e1;obtain⟨rfl,_⟩:=e0;obtain⟨rfl,_⟩:=e1;have ej:(ns.G (j+1)++x::ns.drop (j+1))[j]'η=ns[j]:=by
    rw[uI υ];simp
   rw[ej] at av;have q1:=um z (j+1) υ (.g ns[j]);have q2:=um q1 j υ (.g x);have el:(((ns.G (j+1)++x::ns.drop (j+1)).map l_).set (j+1) (.g ns[j])).set j (.g x)=(ns.G j++x::ns.drop j).map l_:=by
    rw[←dY,←dY,Qy ns x j hj]
   rw[el] at q2;have ab:(ns.G j++x::ns.drop j).j=ns.j+1:=by simp;omega
   have aq:U7 lo ((wr.x (ω b (j+1)) (.g ns[j])).x (ω b j) (.g x)) (.k (Z (δ b)) (ns.j+1) a) (ns.G j++x::ns.drop j):=by
    unfold U7;rw[ab];rw[ak] at q2;exact q2
   have ag:=(F.set_ne (Ne.symm J) (j+1) (.g ns[j])).set_ne (Ne.symm J) j (.g x);have af:=(D.newer (zc.set wr b (j+1) (.g ns[j])) K).newer (zc.set _ b j (.g x)) K;generalize (ns.G (j+1)++x::ns.drop (j+1))[j+1]'η=zz at *;clear ej q1 q2 el;generalize ns[j]=yj at *;have a0:(j:Int)<(ns.j:Int):=η;go_wp2;go_region
   all_goals
    go_wp2;go_roundw;exact⟨j,ξ,η,zh η,ag.u (zn _ _).drew,aq.u (zn _ _).drew,af.newer (zc.of (M:=[]) (zn _ _).drew) ζ⟩;simp[d_]
  have ad:X (ns.G k++x::ns.drop k=ns.G f++x::ns.drop f):=by
   rw[X];by_cases e:k=f;rw[e];obtain rfl:k=ns.j:=η;rw[yO (ze _),sO (ze _),yO η,sO η]
  go_wp2;go_end0
  exact⟨rfl,_,by rw[HE.l,←ad.l];exact⟨ah,F,z⟩,D,I⟩
 have a4:ns.j<=f:=η;go_enter func157,ntmps157;go_wp2_with (first|(go_at_call 168;refine HP.l.y ?_;rintro r w' ⟨rfl,m,rfl⟩;have t:μ w (w.drewN m):=(zG (zn _ _) m);have c:=R.u t;obtain⟨hc,hf,E⟩:=c.I;have L:=hs.u t)|(at_builtin;refine jx (w.drewN m) _ [.g x] _ rfl (.tmp 31) (.tmp 33) 30 rfl lo 9 i0 _ 1 16 underlying30 hi aj ai an rfl θ (.k ao ns.j l) ns.j (ns.map l_) rfl L (zn _ _) _ _ rfl ζ rfl a_ η η η ?_;intro v' S o B s;obtain⟨au,a,rfl⟩:=zq o;have d:=c.save B (vL L c θ);obtain⟨W,ac,H⟩:=d.I))
 obtain⟨b,al,N,ae,ax,_⟩:=yt o η;simp only[j_] at N;obtain⟨rfl,_,P⟩:=N;clear P;have J:b≠n:=uj o d θ rfl;have u:=d.set 0 (.k (Z (δ b)) (ns.j+1) a);simp at u;have aa:U7 lo (S.x (δ n) (.k (Z (δ b)) (ns.j+1) a)) (.k (Z (δ b)) (ns.j+1) a) (ns.G ns.j++x::ns.drop ns.j):=by
  have q:=xJ o ((UF.refl n S).x 0 (.k (Z (δ b)) (ns.j+1) a)) d θ;unfold U7;simpa using q
 have K:∀y∈[b],y∈n::(i_ ao ns.j l).m.toList∨w.o.q<=y:=λy C=>by
  simp only[xo] at C;subst C;rcases s with q|⟨g,q,V⟩;left;simp only[z7];right;rw[←q];simp[k_];right;simp only[k_,zt] at q;have:=t.q;omega
 have G:zc (n::(i_ ao ns.j l).m.toList) w (S.x (δ n) (.k (Z (δ b)) (ns.j+1) a)):=((zc.of (M:=n::(i_ ao ns.j l).m.toList) t).newer B (λy C=>zh (pf _ C))).newer (zc.set _ _ _ _) (λy C=>zh (by simp at C;simp[C]));have I:(i_ (Z (δ b)) (ns.j+1) a).m=(i_ ao ns.j l).m∨∃g,(i_ (Z (δ b)) (ns.j+1) a).m=Z g/\w.o.q<=g:=s.imp id (fun⟨g,q1,q2⟩=>⟨g,q1,by have:=t.q;omega⟩);clear hc hf E W ac H B s o;generalize S.x (δ n) (.k (Z (δ b)) (ns.j+1) a)=w5 at *;generalize decide (f<ns.j)=bq;go_loopw [5] (λv5 wr=>∃k:Nat,v5=ι k/\k<=ns.j/\(f<=k∨k=ns.j)/\U3 wr n #[.k (Z (δ b)) (ns.j+1) a] 141/\U7 lo wr (.k (Z (δ b)) (ns.j+1) a) (ns.G k++x::ns.drop k)/\zc (n::(i_ ao ns.j l).m.toList) w wr) (λi _=>(d_ i).D);exact⟨ns.j,ξ,ze _,zg rfl,u,aa,G⟩;obtain⟨k,rfl,hk,ar,F,z,D⟩:=hrel;obtain⟨hc,hf,E⟩:=F.I;by_cases am:f<k;exact zC am η;have ad:X (ns.G k++x::ns.drop k=ns.G f++x::ns.drop f):=by
  rw[X];by_cases e:k=f;rw[e];obtain rfl:k=ns.j:=η;rw[yO (ze _),sO (ze _),yO η,sO η]
 go_wp2;go_end0
 exact⟨rfl,_,by rw[HE.l,←ad.l];exact⟨ah,F,z⟩,D,I⟩
end
section
open Go.Proofs.Tryz
variable {lo:Nat}{cb:Nat}
def jn(ns:κ)(t:ByteArray):κ:=if zV t then ns else mX ns t
def vl(ns:κ)(l:zk):κ:=l.k.H jn ns
def qQ(ns:κ)(c:zd):κ:=c.d.H vl (vl ns c.g)
def zp(cs:List zd):κ:=cs.H qQ []
def KI(ns:List Λ)(t:Λ):(jn ns t).j<=ns.j+1:=by
 unfold jn;split;omega;unfold mX;split;omega;simp only[yB,xp,vi,List.length_drop];omega
def eh(ts:List Λ):∀a:List Λ,(ts.H jn a).j<=a.j+ts.j:=by
 induction ts with
 |nil=>intro a;simp
 |cons t ts b=>intro a;have:=b (jn a t);have:=KI a t;simp only[uQ,xp];omega
def gA(l:zk):Nat:=l.k.j
def fg(ls:List zk):Nat:=(ls.map gA).sum
def mw(cs:List zd):Nat:=(cs.map λc=>gA c.g+fg c.d).sum
def I1(ls:Ω):∀a:List Λ,(ls.H vl a).j<=a.j+fg ls:=by
 induction ls with
 |nil=>intro a;simp[fg]
 |cons l ls b=>intro a;have:=b (vl a l);have:=eh l.k a;simp only[uQ,fg,xU,q7,gA] at *;unfold vl at *;omega
def AN(cs:Ξ):∀a:List Λ,(cs.H qQ a).j<=a.j+mw cs:=by
 induction cs with
 |nil=>intro a;simp[mw]
 |cons c cs b=>intro a;have:=b (qQ a c);have:=I1 c.d (vl a c.g);have:=eh c.g.k a;simp only[uQ,mw,xU,q7] at *;unfold qQ gA at *;unfold vl at *;omega
def Mc(ls:Ω)(k:Nat)(a:k<ls.j):fg (ls.G k)+gA ls[k]<=fg ls:=by
 have e:ls=ls.G k++ls[k]::ls.drop (k+1):=by rw[←yK a,jF]
 conv=>rhs;rw[e]
 simp only[fg,uY,xU,o_,q7];omega
def MO(cs:Ξ)(k:Nat)(a:k<cs.j):mw (cs.G k)+(gA cs[k].g+fg cs[k].d)<=mw cs:=by
 have e:cs=cs.G k++cs[k]::cs.drop (k+1):=by rw[←yK a,jF]
 conv=>rhs;rw[e]
 simp only[mw,uY,xU,o_,q7];omega
def m5(cb:Nat)(w w':U):Prop:=∀b c t,b≠cb->9≠t->U3 w b c t->U3 w' b c t
def m5.of{w w':U}(h:μ w w'):m5 cb w w':=λ_ _ _ _ _ q=>q.u h
def m5.A{a b c:U}(h:m5 cb a b)(k:m5 cb b c):m5 cb a c:=λ_ _ _ n m q=>k _ _ _ n m (h _ _ _ n m q)
def AJ.next{B:Nat}{j w w':U}{v:O}{ns d:List Λ}{e:Ending}(a:kr B w cb v ns)(m:Below B j w)(h:AJ B w cb v d e w'):e=ε (.B #[])/\∃i,kr B w' cb i d/\Below B j w'/\m5 cb w w':=by
 obtain⟨rfl,i,n,k,p⟩:=h;refine⟨rfl,i,n,m.A (k.u (λx f=>?_) ?_),λb c t o l q=>q.save k λg=>?_⟩;simp only[z7] at f;rcases f with rfl|f;exact a.1;exact yZ a.2.2 (yA f);have:=a.1;have:=a.2.1.lt;omega;simp only[z7] at g;rcases g with rfl|g;exact o rfl;exact uj a.2.2 q l (yA g) rfl
def MB(c w:U)(cb:Nat)(v:O)(ns:List Λ)(l:zk)(K:O)(hs:U7 lo c K l.k)(M:μ c w)(h:kr c.o.q w cb v ns)(J:ns.j+gA l<=900):
  c_ e_ 113 #[(π cb),.agg #[.i l.i,.g l.o,K]] w λe f=>e=ε (.B #[])/\∃p,kr c.o.q f cb p (vl ns l)/\μ c f/\m5 cb w f:=by
 obtain⟨ao,ab,rfl⟩:=hs.qm;have T:=U2 fun(W:U) (v:O) (ns:List Λ) (x:Λ) (a:kr c.o.q W cb v ns) (b:ns.j<=900)=>M9 W cb v ns x a b;have HE:X (vl ns l=l.k.H jn ns):=rfl;have HT:=U2 h;have V:=M.q;have P:l.k.j<=900:=by unfold gA at J;omega
 have q:X (∀k,k<l.k.j->((l.k.G k).H jn ns).j<=900):=λk N=>by
  have:=eh (l.k.G k) ns;simp only[vi] at this;unfold gA at J;omega
 generalize l.k=j at *;go_enter func113,ntmps113;go_wp2;go_loopw [9] (λQ wr=>∃(k:Nat) (p:O),k<=j.j/\Q=ι k/\X (kr c.o.q wr cb p ((j.G k).H jn ns))/\μ c wr/\X (m5 cb w wr)) (λi _=>j.j-(d_ i).D);exact⟨0,v,zs _,rfl,HT.l.u γ,M.C V _,m5.of γ⟩;obtain⟨k,p,N,rfl,z,d,G⟩:=hrel;have L:=d.q;by_cases m:k<j.j
 .obtain⟨g,rfl,S,o⟩:=hs.cell k m;have aa:=zi d S o;have I:X ((j.G (k+1)).H jn ns=jn ((j.G k).H jn ns) j[k]):=by rw[X,yF m,j4];rfl
  have s:=q.l k m;have A:X (∀a x,jn a x=if zV x then a else mX a x):=λ_ _=>rfl;generalize (j.G k).H jn ns=r at *;generalize j[k]=x at *;cases B:zV x
  .have D:X (∀W,c_ e_ 156 #[.g x] W λe f=>e=ε (.i false)/\f=W):=λW=>by rw[←B];exact mj x W
   have H:X (jn r x=mX r x):=by rw[X,A.l,B];rfl
   go_wp2_with (first|(go_at_call 156;refine(D.l _).y ?_;rintro e f ⟨rfl,n⟩;obtain rfl:=n.symm)|(go_at_call 157;refine(T.l wr p r x z.l s).y ?_;intro e w2 t;obtain⟨rfl,R,y,C,u⟩:=t.next z.l d;have E:=U2 (G.l.A u);clear u;have F:=U2 y;clear t y))
   go_roundw;exact⟨k+1,R,η,ξ,by rw[I.l,H.l];exact F.l,C,E⟩;simp[d_];omega
  have D:X (∀W,c_ e_ 156 #[.g x] W λe f=>e=ε (.i true)/\f=W):=λW=>by rw[←B];exact mj x W
  have H:X (jn r x=r):=by rw[X,A.l,B];rfl
  go_wp2_with (go_at_call 156;refine(D.l _).y ?_;rintro e f ⟨rfl,n⟩;obtain rfl:=n.symm)
  go_roundw;exact⟨k+1,p,η,ξ,by rw[I.l,H.l];exact z.l,d,G⟩;simp[d_];omega
 rw[yO η] at z;go_wp2;go_end0
 exact⟨rfl,p,by rw[HE.l];exact z.l,d,G.l⟩
def Hf(cs:List zd):Prop:=mw cs<=900/\cs.j<=1000/\∀c∈cs,c.d.j<=1000
def Sf(w:U)(v:O)(cs:Ξ)(h:Vh lo 171 w v cs)(hf:Hf cs):
  c_ e_ 72 #[v] w λe w'=>∃r,e=ε (.agg #[r])/\U7 w.o.q w' r (zp cs)/\μ w w':=by
 obtain⟨ao,aK,rfl⟩:=h.qm;obtain⟨aI,aN,ap⟩:=hf;have HA:=U2 fun(W:U) (v:O) (ns:List Λ) (l:zk) (va:O) (a:U7 lo w va l.k) (b:μ w W) (c:kr w.o.q W (w.o.q+1) v ns) (d:ns.j+gA l<=900)=>MB w W _ v ns l va a b c d;have HE:X (zp cs=cs.H qQ []):=rfl;have HH:=U2 h;have F:X (∀k (hk:k<cs.j),((cs.G k).H qQ []).j+gA cs[k].g+fg cs[k].d<=900):=λk hk=>by
  have:=AN (cs.G k) [];have:=MO cs k hk;simp only[jD] at *;omega
 have aw:=(U3.new w #[ν] 141).u ((zn _ _).C (ze _) (.E #[ν] 141));have E:=U3.new (w.C (.E #[ν] 141)) #[ν] 141;have a1:μ w ((w.C (.E #[ν] 141)).C (.E #[ν] 141)):=γ;simp only[U.size_alloc] at E;go_enter func72,ntmps72;go_wp2;generalize ((w.C (.E #[ν] 141)).C (.E #[ν] 141))=wA at *;go_loopw [10] (λac wr=>∃(k:Nat) (r:O),k<=cs.j/\ac=ι k/\X (kr w.o.q wr (w.o.q+1) r ((cs.G k).H qQ []))/\U3 wr w.o.q #[ν] 141/\μ w wr) (λi _=>cs.j-(d_ i).D);exact⟨0,_,zs _,rfl,⟨η,E,U7.nil _⟩,aw,a1⟩;obtain⟨k,r,hk,rfl,HC,o,m⟩:=hrel;have a9:=m.q;by_cases q:k<cs.j
 .obtain⟨g,a5,M,a0,Q,B,hg,q0,q1,q2,q3,av,G⟩:=HH.l.cell k q;subst B;have ad:=zi m hg q0;have ak:=zi m hg q1;have af:=zi m hg q2;have am:=zi m hg q3;have aL:g<wr.o.q:=η;have HS:X ((cs.G (k+1)).H qQ []=qQ ((cs.G k).H qQ []) cs[k]):=by rw[X,yF q,j4];rfl
  have L:=F.l k q;have au:=ap _ (zr q);have aj:X (∀a c,qQ a c=c.d.H vl (vl a c.g)):=λ_ _=>rfl;clear q0 q1 q2 q3;generalize (cs.G k).H qQ []=nk at *;generalize cs[k]=c at *;have ab:=U2 λW a b=>HA.l W r nk c.g _ av b a η;have S:=(U3.new wr #[.i c.g.i,.g c.g.o,.k a5 c.g.k.j M,.k a0 c.d.j Q] 171);go_upto_region 6 with (first|(go_at_call 113;refine(ab.l _ (HC.l.u γ) (zJ m γ (ze _))).y ?_;rintro e w2 ⟨rfl,v2,V,J,x⟩))
  have a7:=HC.l.2.1.lt;have H:=x _ _ _ η θ S;have P:=x _ _ _ η θ (o.u zQ);obtain⟨ag,ay,a2⟩:=H.I;have aM:=J.q;have T:=U2 V;have u:X ((vl nk c.g).j+fg c.d<=900):=by
   have:=eh c.g.k nk;unfold gA at L;unfold X vl;omega
  clear x S V ad ak af am;go_wp2;clear ag ay a2;obtain⟨f,y⟩:∃f,f=c.d:=⟨_,rfl⟩;have ax:=U2 y;rw[←y] at G au u ⊢;clear y;obtain⟨t,C⟩:∃t,t=vl nk c.g:=⟨_,rfl⟩;have aq:=U2 C;rw[←C] at T u;clear C;go_loopw [20] (λai wr=>∃(j:Nat) (r:O),j<=f.j/\ai=ι j/\X (kr w.o.q wr (w.o.q+1) r ((f.G j).H vl t))/\U3 wr w.o.q #[ν] 141/\μ w wr) (λi _=>f.j-(d_ i).D);exact⟨0,_,zs _,rfl,T,P,J⟩;obtain⟨j,v3,hj,rfl,A,s,n⟩:=hrel;have aA:=n.q;by_cases p:j<f.j
  .obtain⟨gl,aC,a8,B,D,p0,p1,p2,a4⟩:=G.cell j p;subst B;have aD:=zi n D p0;have aH:=zi n D p1;have aE:=zi n D p2;have a6:gl<wr.o.q:=η;have az:X ((f.G (j+1)).H vl t=vl ((f.G j).H vl t) f[j]):=by rw[X,yF p,j4];rfl
   have z:((f.G j).H vl t).j+gA f[j]<=900:=by
    have:=I1 (f.G j) t;have:=Mc f j p;have:=u.l;omega
   clear p0 p1 p2;generalize (f.G j).H vl t=nj at *;generalize f[j]=l at *;have a3:=U2 λW a b=>HA.l W v3 nj l _ a4 b a z;go_wp2_with (go_at_call 113;refine(a3.l _ (A.l.u γ) (zJ n γ (ze _))).y ?_;rintro e w4 ⟨rfl,v4,K,ah,I⟩;have al:=U2 K;have R:=I _ _ _ η θ (s.u zQ);clear K I)
   go_roundw;exact⟨j+1,v4,η,ξ,by rw[az.l];exact al.l,R,ah⟩;simp[d_];omega
  rw[yO η,ax.l] at A;have HQ:X (kr w.o.q wr (w.o.q+1) v3 ((cs.G (k+1)).H qQ [])):=by rw[X,HS.l,aj.l,←aq.l];exact A.l
  go_wp2;go_roundw;exact⟨k+1,v3,η,ξ,HQ,s,n⟩;simp[d_];omega
 rw[yO η] at HC;obtain⟨ar,N,rfl⟩:=HC.l.2.2.qm;obtain⟨aG,an,aa⟩:=HC.l;obtain⟨aB,aF,aJ⟩:=an.I;obtain⟨ae,aO,aP⟩:=o.I;go_wp2
 (try simp only[Exit.inBlock,Exit.then])
 exact zP (v:=.agg #[.k ar (cs.H qQ []).j N]) (by simp[results,results72,go_sem,ae]) rfl ⟨_,rfl,by rw[HE.l];exact(aa.but ((UF.refl w.o.q wr).x 0 _) o θ),m.x ζ _⟩
end
section
open Go.Proofs.Tryz
variable {lo:Nat}
def WE(lo:Nat)(w:U)(a o:Nat)(ns:κ):Prop:=a<w.o.q/\∃v,w.p ⟨a,o,Y⟩=Z v/\U7 lo w v ns
def WE.u{w w':U}{c o:Nat}{ns:List Λ}(h:WE lo w c o ns)(a:μ w w'):WE lo w' c o ns:=by
 obtain⟨b,v,e,d⟩:=h;exact⟨yh b a.q,v,(a.cell b).A e,d.u a⟩
def NX(w:U)(z o:Nat)(ns:List Λ)(x:Λ)(h:WE lo w z o ns)(P:ns.j<=1000):
  c_ e_ 168 #[.u (Z (ω z o)),.g x] w λe I=>e=ε (ι (ut ns x:Nat))/\∃m,I=w.drewN m:=by
 obtain⟨j,v,C,t⟩:=h;obtain⟨M,K,rfl⟩:=t.qm;go_enter func168,ntmps168;go_wp2;go_quiet (fail)
 have y:μ w (w.drewN nq):=zG (zn _ _) _;have J:=zi y j C;have r:=t.u y;have s:X (∃m,w.drewN nq=w.drewN m):=⟨nq,rfl⟩;generalize w.drewN nq=F at *;go_wp2;go_loopg [5,6] (ns.j+1) (λk A L wr=>∃l h:Nat,A=ι l/\L=ι h/\h<=ns.j/\l<=ns.j/\h-l<k/\X (ut ns x=Vb ns x k l h)/\wr=F)
 case atStart=>exact⟨0,ns.j,rfl,rfl,η,η,η,rfl,rfl⟩
 obtain⟨l,h,rfl,rfl,D,p,B,u,rfl⟩:=hrel;rcases gk with _|m;omega;by_cases d:l<h
 .obtain⟨a,b⟩:∃a,a=l+(h-l) / 2:=⟨_,rfl⟩;have H:l<=a:=η;have E:a<h:=η;have G:(l:Int)+((h:Int)-(l:Int)).tdiv 2=(a:Int):=by
   rw[Int.tdiv_eq_ediv_of_nonneg η];omega
  have c:a<ns.j:=η;have q:=u.l;unfold Vb at q;rw[zb d,←b,show ns.d a h_=ns[a] from by simp[g_,c]] at q;obtain⟨g,rfl,N,n⟩:=r.cell a c;clear b;cases i:UU ns[a] x
  .rw[i,za ζ] at q;have f:=U2 q;unfold UU at i;go_wp2;go_roundg m
   case measure=>omega
   exact⟨l,a,rfl,rfl,η,p,η,f,rfl⟩
  rw[i,zb rfl] at q;have f:=U2 q;unfold UU at i;go_wp2;go_roundg m
  case measure=>omega
  exact⟨a+1,h,ξ,rfl,D,η,η,f,rfl⟩
 have q:=u.l;unfold Vb at q;rw[za d] at q;have f:=U2 q;go_wp2;go_ret;exact⟨by rw[f.l];rfl,s.l⟩
def SL(w:U)(c o:Nat)(ns:List Λ)(x:Λ)(h:WE lo w c o ns)(B:ns.j<=1000):
  c_ e_ 129 #[.u (Z (ω c o)),.g x] w λe n=>e=ε (.B #[ι (((xr ns x).d 0:Nat):Int),.i (xr ns x).I])/\∃m,n=w.drewN m:=by
 have y:=U2 (NX w c o ns x h B);obtain⟨b,v,u,t⟩:=h;obtain⟨F,E,rfl⟩:=t.qm;have i:X (xr ns x=if ut ns x<ns.j/\ns.d (ut ns x) h_=x then Z (ut ns x) else Y):=rfl;generalize ut ns x=d at *;by_cases j:d<ns.j
 .have A:ns.d d h_=ns[d]:=by simp[g_,j]
  rw[A] at i;by_cases s:ns[d]=x
  .rw[zb ⟨j,s⟩] at i;obtain⟨g,rfl,k,a⟩:=t.cell d j;go_enter func129,ntmps129;go_wp2_with (go_at_call 168;refine y.l.y ?_;rintro r n ⟨rfl,m,rfl⟩;have l:=((zG (zn w.o.q w) m).cell (p:=(ω c o)) b).A u;have f:c<(w.drewN m).o.q:=b;have C:=((zG (zn w.o.q w) m).cell (p:=(ω g d)) k).A a;have z:g<(w.drewN m).o.q:=k)
   go_ret2
   exact⟨by rw[i.l];rfl,m,rfl⟩
  rw[za (λq=>s q.2)] at i;obtain⟨g,rfl,k,a⟩:=t.cell d j;have D:=vn s;go_enter func129,ntmps129;go_wp2_with (go_at_call 168;refine y.l.y ?_;rintro r n ⟨rfl,m,rfl⟩;have l:=((zG (zn w.o.q w) m).cell (p:=(ω c o)) b).A u;have f:c<(w.drewN m).o.q:=b;have C:=((zG (zn w.o.q w) m).cell (p:=(ω g d)) k).A a;have z:g<(w.drewN m).o.q:=k)
  go_ret2
  exact⟨by rw[i.l];rfl,m,rfl⟩
 rw[za (λq=>j q.1)] at i;go_enter func129,ntmps129;go_wp2_with (go_at_call 168;refine y.l.y ?_;rintro r n ⟨rfl,m,rfl⟩;have l:=((zG (zn w.o.q w) m).cell (p:=(ω c o)) b).A u;have f:c<(w.drewN m).o.q:=b)
 go_ret2
 exact⟨by rw[i.l];rfl,m,rfl⟩
def Mu(w:U)(f o:Nat)(ns:List Λ)(k:Nat)(h:WE lo w f o ns):
  c_ e_ 128 #[.u (Z (ω f o)),ι k] w λe i=>e=ε (.g (ns.d k h_))/\i=w:=by
 obtain⟨j,v,n,d⟩:=h;obtain⟨m,l,rfl⟩:=d.qm;by_cases c:k<ns.j
 .have b:X (ns.d k h_=ns[k]):=by simp[X,g_,c]
  obtain⟨g,rfl,p,a⟩:=d.cell k c;go_enter func128,ntmps128;go_wp2;go_ret;exact⟨by rw[b.l];rfl,rfl⟩
 have b:X (ns.d k h_=h_):=by simp[X,g_,m_ (Nat.le_of_not_lt c)]
 go_enter func128,ntmps128;go_wp2;go_ret;exact⟨by rw[b.l];rfl,rfl⟩
def TG(B:Nat)(w:U)(tb o:Nat)(t:List zf):Prop:=∃a,tb<w.o.q/\w.p ⟨tb,o,Y⟩=Z a/\w.ownsRow B 221 3 a t.j (uh t)
def TG.u{B:Nat}{w w':U}{tb o:Nat}{t:Ψ}(h:TG B w tb o t)(a:μ w w'):TG B w' tb o t:=by
 obtain⟨b,d,c,e⟩:=h;exact⟨b,by have:=a.q;omega,(zi a d c),zy e a⟩
def TG.view{B:Nat}{w:U}{tb o:Nat}{t:Ψ}(h:TG B w tb o t):∃b a,w.p (ω tb o)=Z (.k b t.j a)/\w.ownsRow B 221 3 (.k b t.j a) t.j (uh t):=by
 obtain⟨e,_,d,c⟩:=h;obtain⟨b,a,rfl⟩:=zq c;exact⟨b,a,d,c⟩
def EZ(B:Nat)(w:U)(tb o:Nat)(t:Ψ)(n:Λ)(h:TG B w tb o t)(u:t.j<=1000):
  c_ e_ 126 #[.u (Z (ω tb o)),.g n] w λe m=>e=ε (ι (zM t n))/\m=w:=by
 obtain⟨s,q,v,d⟩:=h.view;go_enter func126,ntmps126;go_wp2;go_loop [5] (λi=>∃k:Nat,k<=t.j/\i=ι k/\X (∀j (a:j<t.j),j<k->UU t[j].name n=true)) (λi=>t.j-(d_ i).D);exact⟨0,zs _,rfl,λj a h=>η⟩;obtain⟨k,r,rfl,H⟩:=hrel;by_cases c:k<t.j
 .obtain⟨g,rfl,x,_,p,_,_⟩:=j9 d k c;cases f:UU t[k].name n
  .have b:=U2 (Av t n k H.l c f);unfold UU at f;go_wp2;go_ret;exact⟨by rw[b.l];rfl,rfl⟩
  have b:X (∀j (a:j<t.j),j<k+1->UU t[j].name n=true):=λj a h=>by
   rcases dE j k with l|l;exact H.l j a l;obtain rfl:j=k:=η;exact f
  unfold UU at f;go_wp2;go_round;exact⟨k+1,η,ξ,b⟩;simp[d_];omega
 have b:X (zM t n=k):=by
  have:=AG t n (λj a=>H.l j a η);unfold X;omega
 go_wp2;go_ret;exact⟨by rw[b.l];rfl,rfl⟩
def El(B:Nat)(w:U)(tb o:Nat)(t:Ψ)(n:Λ)(h:TG B w tb o t)(l:t.j<=1000)(j:zO t n=Y):
  c_ e_ 77 #[.u (Z (ω tb o)),.g n] w λe f=>e=ε (.B #[ι 0,.i false])/\f=w:=by
 have d:=EZ B w tb o t n h l;obtain⟨p,m,q,b⟩:=h.view;have a:=U2 d;rcases tX j with i|⟨i,c⟩
 .clear j;go_enter func77,ntmps77;go_wp2_with (go_at_call 126;refine a.l.y ?_;rintro e f ⟨rfl,rfl⟩;clear a)
  go_ret2
  exact⟨rfl,rfl⟩
 obtain⟨g,rfl,s,_,k,_,_⟩:=j9 b _ i;have r:=vn c;go_enter func77,ntmps77;go_wp2_with (go_at_call 126;refine a.l.y ?_;rintro e f ⟨rfl,rfl⟩;clear a)
 go_ret2
 exact⟨rfl,rfl⟩
def Em(B:Nat)(w:U)(tb o:Nat)(t:Ψ)(n:Λ)(l:zf)(h:TG B w tb o t)(m:t.j<=1000)(r:zO t n=Z l):
  c_ e_ 77 #[.u (Z (ω tb o)),.g n] w λe j=>e=ε (.B #[ι (zM t n),.i true])/\j=w:=by
 have c:=EZ B w tb o t n h m;obtain⟨s,p,u,b⟩:=h.view;have a:=U2 c;obtain⟨k,f,q⟩:=qr r;obtain⟨g,rfl,v,_,i,_,d⟩:=j9 b _ k;rw[f] at i d;go_enter func77,ntmps77;go_wp2_with (go_at_call 126;refine a.l.y ?_;rintro e j ⟨rfl,rfl⟩;clear a)
 go_ret2
 exact⟨rfl,rfl⟩
def KF(B:Nat)(w:U)(tb o:Nat)(t:Ψ)(n:Λ)(h:TG B w tb o t)(c:t.j<=1000)(a:zO t n=Y):
  c_ e_ 159 #[.u (Z (ω tb o)),.g n] w λe d=>e=ε (.B #[ι 0,.i false])/\d=w:=by
 have b:=U2 (El B w tb o t n h c a);clear h a c;go_enter func159,ntmps159;go_wp2_with (go_at_call 77;refine b.l.y ?_;rintro e d ⟨rfl,rfl⟩;clear b)
 go_ret2
 exact⟨rfl,rfl⟩
def Jg(B:Nat)(w:U)(tb o:Nat)(t:Ψ)(n:Λ)(b:zf)(h:TG B w tb o t)(l:t.j<=1000)(d:zO t n=Z b):
  c_ e_ 159 #[.u (Z (ω tb o)),.g n] w λe f=>e=ε (.B #[ι b.L,.i true])/\f=w:=by
 have c:=U2 (Em B w tb o t n b h l d);obtain⟨r,p,s,a⟩:=h.view;obtain⟨i,k,q⟩:=qr d;obtain⟨g,rfl,u,_,m,_,j⟩:=j9 a _ i;go_enter func159,ntmps159;go_wp2_with (go_at_call 77;refine c.l.y ?_;rintro e f ⟨rfl,rfl⟩;clear c)
 go_ret2
 exact⟨rfl,rfl⟩
def zE(t:List zf)(n:ByteArray):Nat:=if (zO t n).I then zM t n else 0
def xO(t:List zf)(n:ByteArray):Nat:=match zO t n with|some e=>e.L|none=>0
def iy(B:Nat)(w:U)(tb o:Nat)(t:Ψ)(n:Λ)(h:TG B w tb o t)(a:t.j<=1000):
  c_ e_ 77 #[.u (Z (ω tb o)),.g n] w λe d=>e=ε (.B #[ι (zE t n:Nat),.i (zO t n).I])/\d=w:=by
 unfold zE;rcases b:zO t n with _|c;exact El B w tb o t n h a b;exact Em B w tb o t n c h a b
def Mv(B:Nat)(w:U)(tb o:Nat)(t:Ψ)(n:Λ)(h:TG B w tb o t)(a:t.j<=1000):
  c_ e_ 159 #[.u (Z (ω tb o)),.g n] w λe d=>e=ε (.B #[ι (xO t n:Nat),.i (zO t n).I])/\d=w:=by
 unfold xO;rcases b:zO t n with _|c;exact KF B w tb o t n h a b;exact Jg B w tb o t n c h a b
def ye(t:List zf)(i:Nat):Nat:=(t.map (·.jh)).d i 0
def Sr(B:Nat)(w:U)(tb o:Nat)(t:Ψ)(h:TG B w tb o t):
  c_ e_ 115 #[.u (Z (ω tb o))] w λe c=>e=ε (ι t.j)/\c=w:=by
 obtain⟨d,b,f,a⟩:=h.view;clear h;go_enter func115,ntmps115;go_wp2;go_ret;exact⟨rfl,rfl⟩
def AH(B:Nat)(w:U)(tb o:Nat)(t:Ψ)(i:Nat)(h:TG B w tb o t):
  c_ e_ 80 #[.u (Z (ω tb o)),ι i] w λe d=>e=ε (ι (ye t i:Nat))/\d=w:=by
 obtain⟨k,f,l,a⟩:=h.view;by_cases c:i<t.j
 .obtain⟨g,rfl,m,_,_,j,_⟩:=j9 a i c;have b:X (ye t i=t[i].jh):=by simp[X,ye,c]
  go_enter func80,ntmps80;go_wp2;go_ret;exact⟨by rw[b.l];rfl,rfl⟩
 have b:X (ye t i=0):=by simp[X,ye,g_,m_ (Nat.not_lt.1 c)]
 go_enter func80,ntmps80;go_wp2;go_ret;exact⟨by rw[b.l];rfl,rfl⟩
def Kp(w:U)(vb:Nat)(d:O)(vs:List Λ)(t:Λ)(p:w.p (δ vb)=Z d)(hs:U7 lo w d vs)(o:vs.j<=1000):
  c_ e_ 200 #[(π vb),.g t] w λe f=>e=ε (.B #[ι ((yG vs t).d 0:Nat),.i (yG vs t).I])/\f=w:=by
 obtain⟨n,h,rfl⟩:=hs.qm;go_enter func200,ntmps200;go_wp2;go_loop [13] (λi=>∃k:Nat,k<=vs.j/\i=ι k/\X (yG vs t=(yG (vs.drop k) t).map (·+k))) (λi=>vs.j-(d_ i).D);exact⟨0,zs _,rfl,by simp[X]⟩;obtain⟨k,m,rfl,H⟩:=hrel;by_cases a:k<vs.j
 .obtain⟨g,rfl,q,j⟩:=hs.cell k a;by_cases c:vs[k]=t
  .have l:=qH c;have b:X (yG vs t=Z k):=by rw[X,H.l,AL a c];simp
   go_wp2;go_ret2
   exact⟨by rw[b.l];rfl,rfl⟩
  have l:=vn c;have b:X (yG vs t=(yG (vs.drop (k+1)) t).map (·+(k+1))):=by
   rw[X,H.l,Af a c];cases yG (vs.drop (k+1)) t<;>simp;omega
  go_wp2;go_round;exact⟨k+1,η,ξ,b⟩;simp[d_];omega
 have b:X (yG vs t=Y):=by rw[X,H.l,uk η];rfl
 go_wp2;go_ret2
 exact⟨by rw[b.l];rfl,rfl⟩
def Cb(w:U)(vb:Nat)(a:O)(vs:List Λ)(f:w.p (δ vb)=Z a)(hs:U7 lo w a vs):
  c_ e_ 146 #[(π vb)] w λe c=>e=ε (ι vs.j)/\c=w:=by
 obtain⟨d,b,rfl⟩:=hs.qm;go_enter func146,ntmps146;go_wp2;go_ret;exact⟨rfl,rfl⟩
end
section
variable {lo:Nat}{w:U}{v:O}{o:Option (List Int)}
def ur(w:U)(v:O)(o:Option (List Int)):Prop:=match o with
 |none=>v=ν
 |some l=>∃b a,v=.k (Z b) l.j a/\∀k (h:k<l.j),∃g f,b=⟨g,f,Y⟩/\g<w.o.q/\w.p ⟨g,f+k,Y⟩=Z (ι l[k])
def ur.u{w':U}(h:ur w v o)(b:μ w w'):ur w' v o:=by
 rcases o with _|l;exact h;obtain⟨d,a,j,n⟩:=h;refine⟨d,a,j,λk i=>?_⟩;obtain⟨g,f,e,c,m⟩:=n k i;exact⟨g,f,e,yh c b.q,zi b c m⟩
def ur.of{g f cap:Nat}{l:List Int}(b:g<w.o.q)(h:∀k (h:k<l.j),w.p (ω g (f+k))=Z (ι l[k])):ur w (.k (Z (ω g f)) l.j cap) (Z l):=⟨_,cap,rfl,λk a=>⟨g,f,rfl,b,h k a⟩⟩
def ur.qm(h:ur w v o):∃b a,v=.k b (o.d []).j a:=by
 rcases o with _|l;exact⟨Y,0,h⟩;obtain⟨d,a,c,_⟩:=h;exact⟨_,a,c⟩
def ur.cell{w:U}{b:Option Addr}{n cap:Nat}{o:Option (List Int)}(h:ur w (.k b n cap) o)(k:Nat)(a:k<(o.d []).j):∃g f,b=Z (ω g f)/\g<w.o.q/\w.p (ω g (f+k))=Z (ι (o.d [])[k]):=by
 rcases o with _|l;simp at a;obtain⟨m,cap,c,j⟩:=h;simp only[j_] at c;obtain⟨g,f,e,d,i⟩:=j k a;exact⟨g,f,by rw[c.1,e],d,i⟩
def ki(w:U)(v:O)(os:Option (List (Option (List Int)))):Prop:=match os with
 |none=>v=ν
 |some l=>∃g f a,v=.k (Z ⟨g,f,Y⟩) l.j a/\g<w.o.q/\∀k (h:k<l.j),∃u,w.p ⟨g,f+k,Y⟩=Z u/\ur w u l[k]
def ki.u{w w':U}{v:O}{os:Option (List (Option (List Int)))}(h:ki w v os)(a:μ w w'):ki w' v os:=by
 rcases os with _|l;exact h;obtain⟨g,f,b,d,m,e⟩:=h;refine⟨g,f,b,d,by have:=a.q;omega,λk c=>?_⟩;obtain⟨u,i,j⟩:=e k c;exact⟨u,(zi a m i),j.u a⟩
def ki.qm{os:Option (List (Option (List Int)))}(h:ki w v os):∃b a,v=.k b (os.d []).j a:=by
 rcases os with _|l;exact⟨Y,0,h⟩;obtain⟨g,f,a,c,_⟩:=h;exact⟨_,a,c⟩
def ki.cell{w:U}{b:Option Addr}{n cap:Nat}{os:Option (List (Option (List Int)))}(h:ki w (.k b n cap) os)(k:Nat)(a:k<(os.d []).j):∃g f u,b=Z (ω g f)/\g<w.o.q/\w.p (ω g (f+k))=Z u/\ur w u (os.d [])[k]:=by
 rcases os with _|l;simp at a;obtain⟨g,f,cap,c,j,d⟩:=h;simp only[j_] at c;obtain⟨u,e,i⟩:=d k a;exact⟨g,f,u,c.1,j,e,i⟩
end
section
open Go.Proofs.Tryz
variable {lo:Nat}{l:List Int}{seen:List Bool}
def ky(n:Nat):List Int->List Bool->Bool
 |[],_=>true
 |x::r,seen=>if x<0∨(n:Int)<=x∨5<=x then false else if seen.d x.D false then false else ky n r (seen.set x.D true)
def sp(l:List Int):Bool:=ky l.j l [false,false,false,false,false]
def Mn{n k:Nat}(a:k<l.j)(h:l[k]<0∨(n:Int)<=l[k]∨5<=l[k]):ky n (l.drop k) seen=false:=by
 rw[yK a,ky,zb h]
def Me{n k:Nat}(a:k<l.j)(h:seen.d l[k].D false=true):ky n (l.drop k) seen=false:=by
 rw[yK a,ky];split;rfl;simp
def PP{n k:Nat}(a:k<l.j)(h:¬(l[k]<0∨(n:Int)<=l[k]∨5<=l[k]))(b:seen.d l[k].D false=false):ky n (l.drop k) seen=ky n (l.drop (k+1)) (seen.set l[k].D true):=by
 rw[yK a,ky,za h,za (by rw[b];decide)]
def JV(w:U)(v:O)(l:List Int)(h:ur w v (Z l))(R:l.j<=2000000):
  c_ e_ 155 #[v] w λe K=>e=ε (.i (sp l))/\μ w K:=by
 obtain⟨S,M,rfl,r⟩:=h;have L:=U2 r;go_enter func155,ntmps155;go_wp2;go_loopw [8] (λC wr=>∃(k:Nat) (seen:List Bool),k<=l.j/\C=ι k/\seen.j=5/\U3 wr w.o.q (seen.map O.bool).F 282/\X (sp l=ky l.j (l.drop k) seen)/\μ w wr) (λi _=>l.j-(d_ i).D);exact⟨0,[false,false,false,false,false],zs _,rfl,rfl,U3.new _ _ _,rfl,γ⟩;obtain⟨k,seen,N,rfl,m,o,j,a⟩:=hrel;have z:=a.q;by_cases c:k<l.j
 .obtain⟨g,f,rfl,H,p⟩:=L.l k c;have I:=zi a H p;clear p;have q:X ((l[k]<0∨(l.j:Int)<=l[k]∨5<=l[k])->ky l.j (l.drop k) seen=false):=λh=>Mn c h;have A:X (seen.d l[k].D false=true->ky l.j (l.drop k) seen=false):=λh=>Me c h;have y:=U2 fun(h:¬(l[k]<0∨(l.j:Int)<=l[k]∨5<=l[k])) (B:seen.d l[k].D false=false)=>PP c h B;generalize l[k]=x at *;by_cases u:x<0
  .go_wp2;go_ret;exact⟨by rw[j.l,q.l (zh u)];rfl,a⟩
  obtain⟨n,rfl⟩:=Int.eq_ofNat_of_zero_le (Int.not_lt.1 u);by_cases D:(l.j:Int)<=(n:Int)
  .go_wp2;go_ret;exact⟨by rw[j.l,q.l (zg (zh D))];rfl,a⟩
  by_cases J:(5:Int)<=(n:Int)
  .go_wp2;go_ret;exact⟨by rw[j.l,q.l (zg (zg J))];rfl,a⟩
  have s:n<5:=η;obtain⟨t,P⟩:=o.H;have F:wr.p (ω w.o.q n)=Z (.i (seen.d n false)):=by
   rw[t];simp[m,s,g_]
  have d:=o.set n (.i true);have E:X (((seen.map O.bool).F.setIfInBounds n (.i true))=((seen.set n true).map O.bool).F):=by simp[X,List.map_set]
  rw[E.l] at d;simp only[Int.toNat_natCast] at A y;clear t;generalize Q:seen.d n false=b at *;cases b
  .go_wp2;go_roundw;exact⟨k+1,seen.set n true,η,ξ,by simpa using m,d,by rw[X,j.l,y.l η (by trivial)],a.x ζ _⟩;simp[d_];omega
  go_wp2;go_ret;exact⟨by rw[j.l,A.l (by trivial)];rfl,a⟩
 have G:X (ky l.j (l.drop k) seen=true):=by rw[uk η];rfl
 go_wp2;go_ret;exact⟨by rw[j.l,G.l];rfl,a⟩
def vN(c:zd):Option (List Int)->Bool
 |none=>true
 |some l=>l.j == (zu c).j&&sp l
def Qw(w:U)(c:zd)(z vb n:O)(o:Option (List Int))(hs:U7 lo w z c.g.k)(C:Vd lo w vb c.d)(G:c.g.k.j+xn c.d<=1000)(s:c.d.j<=1000)(t:ur w n o)(v:(o.d []).j<=2000000):
  c_ e_ 112 #[.agg #[.i c.g.i,.g c.g.o,z,vb],n] w λe H=>e=ε (.i (vN c o))/\μ w H:=by
 have y:=U2 λW m=>iX W c _ _ (hs.u m) (C.u m) G s;rcases o with _|l
 .have E:=t;subst E;have j:∀W:U,(binOp .eql 24 (ν) (ν)).run e_ W=.ok (.i true) W:=λW=>by
   have:=run_equal_slice_nil W 24 3 Y 0 0 underlying24;simp[binOp,this]
  go_enter func112,ntmps112;go_wp2;go_ret;exact⟨rfl,γ⟩
 have D:=U2 λW m=>JV W n l (t.u m) v;have B:X (vN c (Z l)=(l.j == (zu c).j&&sp l)):=rfl;obtain⟨A,f,rfl,_⟩:=t;have j:∀W:U,(binOp .eql 24 (.k (Z A) l.j f) (ν)).run e_ W=.ok (.i false) W:=λW=>by
  have:=run_equal_slice_nil W 24 3 (Z A) l.j f underlying24;simp[binOp,this]
 generalize zu c=vs at *;by_cases k:l.j=vs.j
 .have x:((l.j:Int) != (vs.j:Int))=false:=by rw[k];simp
  have q:=U2 k;clear k;go_enter func112,ntmps112;go_wp2_with (first|(go_at_call 148;refine(y.l _ γ).y ?_;rintro e r ⟨I,rfl,a,g⟩;obtain⟨u,i,rfl⟩:=zq a;have b:μ w r:=(zJ γ g (ze _));have d:=b.q)|(go_at_call 146;refine(Cb _ _ _ vs (by exact(U3.new _ _ _).H.1 0) (by exact zy a γ)).y ?_;rintro e F ⟨rfl,h⟩;obtain rfl:=h.symm)|(go_at_call 155;refine(D.l _ (by exact(b.C d _))).y ?_;rintro e J ⟨rfl,p⟩))
  go_ret;exact⟨by rw[B.l];simp[q.l],U6 (b.C d _) p⟩
 have x:((l.j:Int) != (vs.j:Int))=true:=by rw[bne_iff_ne];omega
 go_enter func112,ntmps112;go_wp2_with (first|(go_at_call 148;refine(y.l _ γ).y ?_;rintro e r ⟨I,rfl,a,g⟩;obtain⟨u,i,rfl⟩:=zq a;have b:μ w r:=(zJ γ g (ze _));have d:=b.q)|(go_at_call 146;refine(Cb _ _ _ vs (by exact(U3.new _ _ _).H.1 0) (by exact zy a γ)).y ?_;rintro e F ⟨rfl,h⟩;obtain rfl:=h.symm))
 go_ret;exact⟨by rw[B.l];simp[k],b.C d _⟩
def vK(cs:List zd):Option (List (Option (List Int)))->Bool
 |none=>true
 |some l=>l.j == cs.j&&(cs.zip l).all λx=>vN x.1 x.2
def OL(cs:Ξ)(l:List (Option (List Int)))(h:l.j=cs.j)(k:Nat)(a:k<cs.j):((cs.drop k).zip (l.drop k)).all (λx=>vN x.1 x.2)=(vN cs[k] (l[k]'η)&&((cs.drop (k+1)).zip (l.drop (k+1))).all λx=>vN x.1 x.2):=by
 rw[yK a,yK (l:=l) (i:=k) η,List.zip_cons_cons,List.all_cons]
def E0(w:U)(cv ov:O)(cs:Ξ)(os:Option (List (Option (List Int))))(hc:Vh lo 171 w cv cs)(K:∀c∈cs,vV c)(hl:cs.j<=1000)(ho:ki w ov os)(ah:(os.d []).j<=2000000)(z:∀o∈os.d [],(o.d []).j<=2000000):
  c_ e_ 71 #[cv,ov] w λe h=>e=ε (.i (vK cs os))/\μ w h:=by
 obtain⟨am,al,rfl⟩:=hc.qm;rcases os with _|l
 .have h0:ov=ν:=ho;subst h0;have t:∀W:U,(binOp .eql 26 (ν) (ν)).run e_ W=.ok (.i true) W:=λW=>by
   have:=run_equal_slice_nil W 26 24 Y 0 0 underlying26;simp[binOp,this]
  go_enter func71,ntmps71;go_wp2;go_ret;exact⟨rfl,γ⟩
 simp only[uF] at ah z;have HO:=U2 ho;have ai:=U2 hc;have A:X (vK cs (Z l)=(l.j == cs.j&&(cs.zip l).all λx=>vN x.1 x.2)):=rfl;have ag:=U2 z;have ad:=U2 K;obtain⟨g,f,s,rfl,hg,_⟩:=ho;have t:∀W:U,(binOp .eql 26 (.k (Z ⟨g,f,Y⟩) l.j s) (ν)).run e_ W=.ok (.i false) W:=λW=>by
  have:=run_equal_slice_nil W 26 24 (Z ⟨g,f,Y⟩) l.j s underlying26;simp[binOp,this]
 clear hc z K;by_cases p:l.j=cs.j
 .have R:((l.j:Int) != (cs.j:Int))=false:=by rw[p];simp
  have H:=U2 p;have an:l.j<=1000:=η;have H0:X (vK cs (Z l)=((cs.drop 0).zip (l.drop 0)).all λx=>vN x.1 x.2):=by rw[X,A.l];simp[p]
  clear p A;go_enter func71,ntmps71;go_wp2;clear R t;go_loopw [16] (λae wr=>∃k:Nat,k<=cs.j/\ae=ι k/\X (vK cs (Z l)=((cs.drop k).zip (l.drop k)).all λx=>vN x.1 x.2)/\μ w wr) (λi _=>cs.j-(d_ i).D);exact⟨0,zs _,rfl,H0,γ⟩;clear H0;obtain⟨k,hk,rfl,A,a⟩:=hrel;have ak:=a.q;by_cases q:k<cs.j
  .have F:k<l.j:=by rw[H.l];exact q
   obtain⟨g0,y,n,B,m,rfl,r,V,aa,S,P,C,N⟩:=ai.l.cell k q;obtain⟨L,M⟩:=ad.l cs[k] (zr q);obtain⟨_,_,u,D,_,hu,ab⟩:=HO.l.cell k F;simp only[zt,n_,and_true] at D;obtain⟨rfl,rfl⟩:=D;have Q:=ag.l l[k] (zr F);have J:=U2 λW hW=>Qw W cs[k] _ _ u l[k] (C.u hW) (N.u hW) L M (ab.u hW) Q;have T:X (((cs.drop k).zip (l.drop k)).all (λx=>vN x.1 x.2)=(vN cs[k] l[k]&&((cs.drop (k+1)).zip (l.drop (k+1))).all λx=>vN x.1 x.2)):=OL cs l H.l k q;have e0:=zi a r V;have e1:=zi a r aa;have e2:=zi a r S;have e3:=zi a r P;have eu:=zi a hg hu;have aj:g0<wr.o.q:=η;have ac:g<wr.o.q:=η;clear V aa S P hu ab C N L M Q;generalize cs[k]=c at *;generalize vN c l[k]=b at *;have G:=U3.new wr #[.i c.g.i,.g c.g.o,.k y c.g.k.j n,.k B c.d.j m] 171;cases b
   .go_wp2;go_region_held3 (λh=>h.p ⟨wr.o.q,0,Y⟩=Z (.i c.g.i)/\h.p ⟨wr.o.q,1,Y⟩=Z (.g c.g.o)/\h.p ⟨wr.o.q,2,Y⟩=Z (.k y c.g.k.j n)/\h.p ⟨wr.o.q,3,Y⟩=Z (.k B c.d.j m)/\h.p ⟨g,f+k,Y⟩=Z u) (first|go_keep|(go_split_ands;refine⟨?_,?_,?_,?_,?_⟩<;>go_keep)) (first|(go_at_call 112;refine(J.l _ (by exact(zJ a γ (ze _)))).y ?_;rintro e w4 ⟨rfl,d⟩;have j:μ wr w4:=(zJ γ d (ze _));have v:=G.u (by first|exact d|exact(zG (zn _ _) _).A d);obtain⟨I,E⟩:=v.H;have af:=(zi j ac eu)))
    go_wp2;go_ret;exact⟨by rw[A.l,T.l];rfl,U6 a j⟩
   go_wp2;go_region_held3 (λh=>h.p ⟨wr.o.q,0,Y⟩=Z (.i c.g.i)/\h.p ⟨wr.o.q,1,Y⟩=Z (.g c.g.o)/\h.p ⟨wr.o.q,2,Y⟩=Z (.k y c.g.k.j n)/\h.p ⟨wr.o.q,3,Y⟩=Z (.k B c.d.j m)/\h.p ⟨g,f+k,Y⟩=Z u) (first|go_keep|(go_split_ands;refine⟨?_,?_,?_,?_,?_⟩<;>go_keep)) (first|(go_at_call 112;refine(J.l _ (by exact(zJ a γ (ze _)))).y ?_;rintro e w4 ⟨rfl,d⟩;have j:μ wr w4:=(zJ γ d (ze _));have v:=G.u (by first|exact d|exact(zG (zn _ _) _).A d);obtain⟨I,E⟩:=v.H;have af:=(zi j ac eu)))
   go_wp2;go_roundw;exact⟨k+1,η,ξ,by rw[X,A.l,T.l];simp,U6 a j⟩;simp[d_];omega
  have HZ:X (vK cs (Z l)=true):=by rw[X,A.l,uk η];rfl
  go_wp2;go_ret;exact⟨by rw[HZ.l];rfl,a⟩
 have R:((l.j:Int) != (cs.j:Int))=true:=by rw[bne_iff_ne];omega
 have H0:X (vK cs (Z l)=false):=by rw[X,A.l];simp[p]
 go_enter func71,ntmps71;go_wp2;go_ret;exact⟨by rw[H0.l];rfl,γ⟩
end
end Go.Proofs.YteampbddflhngaaGreat
