import Derived.Test.YteampbddflhngaaGreatR02
namespace Go.Proofs.YteampbddflhngaaGreat
open List renaming length→List.j,getD→List.g,take→List.G,toArray→List.F,foldl→List.H
open _root_.Array renaming size→Array.q,getD→Array.g,foldl→Array.H
open _root_.ByteArray renaming size→ByteArray.q
open Go.RowKit.Below renaming size→Go.RowKit.Below.q,setCell→Go.RowKit.Below.x,mono→Go.RowKit.Below.y,trans→Go.RowKit.Below.A,alloc→Go.RowKit.Below.C
open Go.TypeInfo renaming size→Go.TypeInfo.q
open Go.RowKit.Hid renaming out→Go.RowKit.Hid.l
open Go.Shut renaming out→Go.Shut.l
open Go.World renaming heap→Go.World.o,setCell→Go.World.x,cell?→Go.World.p,alloc→Go.World.C
open Go.Value renaming slice→Go.Value.k,string→Go.Value.d,bool→Go.Value.i,cells→Go.Value.E,ownBlock→Go.Value.m,pointer→Go.Value.u,tuple→Go.Value.B
open Go.TypeDesc renaming slice→Go.TypeDesc.k,string→Go.TypeDesc.d,bool→Go.TypeDesc.i,pointer→Go.TypeDesc.u,tuple→Go.TypeDesc.B
open Option renaming getD→Option.g,isSome→Option.I,some→Z,none→Y
open Go.Calls renaming mono→Go.Calls.y
open Eq renaming trans→Eq.A
open Iff renaming trans→Iff.A
open Go.Obj renaming cells→Go.Obj.E
open Int renaming toNat→Int.D
open UInt8 renaming toNat→UInt8.D
open Go.RowKit renaming Hid→X
open Go renaming World→U,Value→O
set_option linter.all false
set_option maxRecDepth 100000
set_option maxHeartbeats 4000000
open Go.RowKit
section
open Go.Proofs.Tryz
variable {lo:Nat}
def TK(ns:κ)(x:ByteArray):Nat->Nat->Nat->Nat
 |0,l,_=>l
 |n+1,l,h=>if l<h then(if TC (ns.g (l+(h-l) / 2) ByteArray.empty) x then TK ns x n (l+(h-l) / 2+1) h else TK ns x n l (l+(h-l) / 2)) else l
def uu(ns:κ)(x:ByteArray):Nat:=TK ns x (ns.j+1) 0 ns.j
def ni(lo:Nat)(w:U)(a:Nat)(ns:κ):Prop:=lo<=a/\∃v,Ti w a #[v] 141/\To lo w v ns
def ni.u{w w':U}{a:Nat}{ns:κ}(h:ni lo w a ns)(b:μ w w'):ni lo w' a ns:=by
 obtain⟨c,v,e,d⟩:=h;exact⟨c,v,e.u b,d.u b⟩
def Fl(w:U)(t:Nat)(ns:κ)(x:ByteArray)(h:ni lo w t ns)(P:ns.j<=1000):
  Calls prog 168 #[(π t),.d x] w λe L=>e=ε (ι (uu ns x:Nat))/\∃m,L=w.drewN m:=by
 obtain⟨_,v,b,y⟩:=h;obtain⟨M,G,rfl⟩:=y.qy;obtain⟨E,B⟩:=b.H;go_enter func168,ntmps168;go_wp2;go_quiet (fail)
 have z:μ w (w.drewN nq):=zI (zn _ _) _;have j:=b.u z;have o:=y.u z;have p:X (∃m,w.drewN nq=w.drewN m):=⟨nq,rfl⟩;generalize w.drewN nq=C at *;obtain⟨E,B⟩:=j.H;go_wp2;go_loopg [5,6] (ns.j+1) (λk K A wr=>∃l h:Nat,K=ι l/\A=ι h/\h<=ns.j/\l<=ns.j/\h-l<k/\X (uu ns x=TK ns x k l h)/\wr=C)
 case atStart=>exact⟨0,ns.j,rfl,rfl,η,η,η,rfl,rfl⟩
 obtain⟨l,h,rfl,rfl,F,r,I,u,rfl⟩:=hrel;rcases gk with _|m;omega;by_cases c:l<h
 .obtain⟨a,f⟩:∃a,a=l+(h-l) / 2:=⟨_,rfl⟩;have H:l<=a:=η;have D:a<h:=η;have J:(l:Int)+((h:Int)-(l:Int)).tdiv 2=(a:Int):=by
   rw[Int.tdiv_eq_ediv_of_nonneg η];omega
  have d:a<ns.j:=η;have q:=u.l;unfold TK at q;rw[zb c,←f,show ns.g a ByteArray.empty=ns[a] from by simp[List.getD_eq_getElem?_getD,d]] at q;obtain⟨g,rfl,N,s⟩:=o.cell a d;clear f;cases n:TC ns[a] x
  .rw[n,za ζ] at q;have i:=Th q;unfold TC at n;go_wp2;go_roundg m
   case measure=>omega
   exact⟨l,a,rfl,rfl,η,r,η,i,rfl⟩
  rw[n,zb rfl] at q;have i:=Th q;unfold TC at n;go_wp2;go_roundg m
  case measure=>omega
  exact⟨a+1,h,ξ,rfl,F,η,η,i,rfl⟩
 have q:=u.l;unfold TK at q;rw[za c] at q;have i:=Th q;go_wp2;go_ret;exact⟨by rw[i.l];rfl,p.l⟩
def xn(ns:κ)(x:ByteArray):Option Nat:=if uu ns x<ns.j/\ns.g (uu ns x) ByteArray.empty=x then Z (uu ns x) else Y
def JQ(w:U)(o:Nat)(ns:κ)(x:ByteArray)(h:ni lo w o ns)(C:ns.j<=1000):
  Calls prog 129 #[(π o),.d x] w λe l=>e=ε (.B #[ι (((xn ns x).g 0:Nat):Int),.i (xn ns x).I])/\∃m,l=w.drewN m:=by
 have n:=Th (Fl w o ns x h C);obtain⟨_,v,d,s⟩:=h;obtain⟨F,A,rfl⟩:=s.qy;have f:X (xn ns x=if uu ns x<ns.j/\ns.g (uu ns x) ByteArray.empty=x then Z (uu ns x) else Y):=rfl;generalize uu ns x=c at *;by_cases j:c<ns.j
 .have B:ns.g c ByteArray.empty=ns[c]:=by simp[List.getD_eq_getElem?_getD,j]
  rw[B] at f;by_cases u:ns[c]=x
  .rw[zb ⟨j,u⟩] at f;obtain⟨g,rfl,i,b⟩:=s.cell c j;go_enter func129,ntmps129;go_wp2_with (go_at_call 168;refine n.l.y ?_;rintro r l ⟨rfl,m,rfl⟩;have a:=d.u (zI (zn _ _) m);obtain⟨z,y,k⟩:=a.e;have D:=((zI (zn w.o.q w) m).cell (p:=(ω g c)) i).A b;have t:g<(w.drewN m).o.q:=i)
   go_ret2
   exact⟨by rw[f.l];rfl,m,rfl⟩
  rw[za (λq=>u q.2)] at f;obtain⟨g,rfl,i,b⟩:=s.cell c j;have E:=vU u;go_enter func129,ntmps129;go_wp2_with (go_at_call 168;refine n.l.y ?_;rintro r l ⟨rfl,m,rfl⟩;have a:=d.u (zI (zn _ _) m);obtain⟨z,y,k⟩:=a.e;have D:=((zI (zn w.o.q w) m).cell (p:=(ω g c)) i).A b;have t:g<(w.drewN m).o.q:=i)
  go_ret2
  exact⟨by rw[f.l];rfl,m,rfl⟩
 rw[za (λq=>j q.1)] at f;go_enter func129,ntmps129;go_wp2_with (go_at_call 168;refine n.l.y ?_;rintro r l ⟨rfl,m,rfl⟩;have a:=d.u (zI (zn _ _) m);obtain⟨z,y,k⟩:=a.e)
 go_ret2
 exact⟨by rw[f.l];rfl,m,rfl⟩
def Nf(w:U)(c:Nat)(ns:κ)(h:ni lo w c ns):
  Calls prog 114 #[(π c)] w λe g=>e=ε (ι ns.j)/\g=w:=by
 obtain⟨_,v,a,b⟩:=h;obtain⟨i,d,rfl⟩:=b.qy;obtain⟨j,k,f⟩:=a.e;clear b;go_enter func114,ntmps114;go_wp2;go_ret;exact⟨rfl,rfl⟩
def jO(lo:Nat)(w:U)(a:Nat)(v:O)(ns:κ):Prop:=lo<=a/\Ti w a #[v] 141/\To lo w v ns
def jO.tab{w:U}{a:Nat}{v:O}{ns:κ}(h:jO lo w a v ns):ni lo w a ns:=⟨h.1,v,h.2.1,h.2.2⟩
def jO.u{w w':U}{b:Nat}{v:O}{ns:κ}(h:jO lo w b v ns)(a:μ w w'):jO lo w' b v ns:=⟨h.1,h.2.1.u a,h.2.2.u a⟩
def mN(ns:κ)(x:ByteArray):κ:=if uu ns x<ns.j/\ns.g (uu ns x) ByteArray.empty=x then ns else ns.G (uu ns x)++x::ns.drop (uu ns x)
def Av(lo:Nat)(w:U)(b:Nat)(v:O)(ns:κ)(e:Ending)(w':U):Prop:=e=ε (.B #[])/\∃a,jO lo w' b a ns/\zd (b::v.m.toList) w w'/\(a.m=v.m∨∃g,a.m=Z g/\w.o.q<=g)
def NN(ns:κ)(x:ByteArray)(k:Nat)(a:k<ns.j):(((ns.G (k+1)++x::ns.drop (k+1)).set (k+1) ns[k]).set k x)=ns.G k++x::ns.drop k:=by
 have b:(ns.G k).j=k:=by simp;omega
 rw[yN a,xp a,kT,fY _ _ η,b,show k+1-k=1 from by omega,fY _ _ η,b,j4];rfl
def LJ(w:U)(n:Nat)(v:O)(ns:κ)(x:ByteArray)(h:jO lo w n v ns)(hl:ns.j<=900):
  Calls prog 157 #[(π n),.d x] w λe w'=>Av lo w n v (mN ns x) e w':=by
 have HP:=Th (Fl w n ns x h.tab η);have HH:=Th h;obtain⟨af,R,hs⟩:=h;obtain⟨ao,l,rfl⟩:=hs.qy;have HE:X (mN ns x=if uu ns x<ns.j/\ns.g (uu ns x) ByteArray.empty=x then ns else ns.G (uu ns x)++x::ns.drop (uu ns x)):=rfl;generalize uu ns x=f at *;by_cases T:f<ns.j/\ns.g f ByteArray.empty=x
 .rw[zb T] at HE;obtain⟨Q,h2⟩:=T;rw[show ns.g f ByteArray.empty=ns[f] from by simp[List.getD_eq_getElem?_getD,Q]] at h2;obtain⟨g,rfl,V,B⟩:=hs.cell f Q;have aq:=jq h2;clear h2;generalize ns[f]=y at *;go_enter func157,ntmps157;go_wp2_with (go_at_call 168;refine HP.l.y ?_;rintro r w' ⟨rfl,m,rfl⟩;have c:=R.u (zI (zn _ _) m);obtain⟨hc,hf,E⟩:=c.e;have hx:=((zI (zn w.o.q w) m).cell (p:=(ω g f)) V).A B;have a1:g<(w.drewN m).o.q:=V)
  (try simp only[Exit.inBlock,Exit.then]);refine zP (results_none rfl _ _ _) rfl ?_
  exact⟨rfl,_,by rw[HE.l];exact HH.l.u (zI (zn _ _) m),zd.of (zI (zn _ _) m),zh rfl⟩
 rw[za T] at HE;obtain⟨i0,hi,ag,ak,al⟩:=info_parts SG;have aj:X (∀m,f<ns.j->∃(y:ByteArray) (g:Nat),ao=Z (δ g)/\g<(w.drewN m).o.q/\(w.drewN m).p (ω g f)=Z (.d y)/\(y.toList == x.toList)=false):=λm Q=>by
  obtain⟨g,e,V,B⟩:=hs.cell f Q;have hn:ns[f]≠x:=λq=>T ⟨Q,by rw[←q];simp[List.getD_eq_getElem?_getD,Q]⟩;exact⟨ns[f],g,e,V,((zI (zn w.o.q w) m).cell (p:=(ω g f)) V).A B,vU hn⟩
 have az:lo<=w.o.q:=by have:=R.lt;omega
 by_cases Q:f<ns.j
 .obtain⟨yy,gg,e1,_⟩:=aj.l 0 Q;subst e1;go_enter func157,ntmps157;go_wp2_with (first|(go_at_call 168;refine HP.l.y ?_;rintro r w' ⟨rfl,m,rfl⟩;have t:μ w (w.drewN m):=(zI (zn _ _) m);have c:=R.u t;obtain⟨hc,hf,E⟩:=c.e;have N:=hs.u t;obtain⟨y,g,e1,V,hx,aq⟩:=aj.l m Q;simp only[zt,Addr.mk.injEq] at e1;obtain⟨rfl,_⟩:=e1)|(at_builtin;refine kd (w.drewN m) _ [.d x] _ rfl (.tmp 31) (.tmp 33) 30 rfl lo 9 i0 _ 1 16 underlying30 hi ag ak al rfl θ (.k (Z (δ gg)) ns.j l) ns.j (ns.map O.string) rfl N (zn _ _) _ _ rfl ζ rfl a_ η η η ?_;intro v' S o A s;obtain⟨aw,a,rfl⟩:=zr o;have d:=c.save A (jt N c θ);obtain⟨W,ae,I⟩:=d.e))
  obtain⟨b,an,J,aa,au,_⟩:=yq o η;simp only[O.slice.injEq] at J;obtain⟨rfl,_,K⟩:=J;clear K;have H:b≠n:=vN o d θ rfl;have u:=d.set 0 (.k (Z (δ b)) (ns.j+1) a);simp at u;have ad:To lo (S.x (δ n) (.k (Z (δ b)) (ns.j+1) a)) (.k (Z (δ b)) (ns.j+1) a) (ns.G ns.j++x::ns.drop ns.j):=by
   have q:=xP o ((Tv.refl n S).x 0 (.k (Z (δ b)) (ns.j+1) a)) d θ;unfold To;simpa using q
  have G:∀y∈[b],y∈n::(O.slice (Z (δ gg)) ns.j l).m.toList∨w.o.q<=y:=λy C=>by
   simp only[xL] at C;subst C;rcases s with q|⟨g,q,V⟩;left;simp only[zG];right;rw[←q];simp[O.ownBlock];right;simp only[O.ownBlock,zt] at q;have:=t.q;omega
  have P:zd (n::(O.slice (Z (δ gg)) ns.j l).m.toList) w (S.x (δ n) (.k (Z (δ b)) (ns.j+1) a)):=((zd.of (M:=n::(O.slice (Z (δ gg)) ns.j l).m.toList) t).newer A (λy C=>zh (nP _ C))).newer (zd.set _ _ _ _) (λy C=>zh (by simp at C;simp[C]));have L:(O.slice (Z (δ b)) (ns.j+1) a).m=(O.slice (Z (δ gg)) ns.j l).m∨∃g,(O.slice (Z (δ b)) (ns.j+1) a).m=Z g/\w.o.q<=g:=s.imp id (fun⟨g,q1,q2⟩=>⟨g,q1,by have:=t.q;omega⟩);clear hc hf E W ae I A s o;generalize S.x (δ n) (.k (Z (δ b)) (ns.j+1) a)=w5 at *;generalize decide (f<ns.j)=bq;go_loopw [5] (λv5 wr=>∃k:Nat,v5=ι k/\k<=ns.j/\(f<=k∨k=ns.j)/\Ti wr n #[.k (Z (δ b)) (ns.j+1) a] 141/\To lo wr (.k (Z (δ b)) (ns.j+1) a) (ns.G k++x::ns.drop k)/\zd (n::(O.slice (Z (δ gg)) ns.j l).m.toList) w wr) (λi _=>(intOf i).D);exact⟨ns.j,ξ,zf _,ze rfl,u,ad,P⟩;obtain⟨k,rfl,hk,ax,F,z,D⟩:=hrel;obtain⟨hc,hf,E⟩:=F.e;by_cases ai:f<k
  .obtain⟨j,rfl⟩:∃j,k=j+1:=⟨k-1,η⟩;have hj:j<ns.j:=η;have am:(ns.G (j+1)++x::ns.drop (j+1)).j=ns.j+1:=by simp;omega
   have ay:b<wr.o.q:=yF z rfl;have a3:=vl z;obtain⟨_,e0,_,av⟩:=z.cell j η;obtain⟨_,e1,_,a0⟩:=z.cell (j+1) η;simp only[zt,Addr.mk.injEq] at e0 e1;obtain⟨rfl,_⟩:=e0;obtain⟨rfl,_⟩:=e1;have ej:(ns.G (j+1)++x::ns.drop (j+1))[j]'η=ns[j]:=by
    rw[uG υ];simp
   rw[ej] at av;have q1:=uD z (j+1) υ (.d ns[j]);have q2:=uD q1 j υ (.d x);have el:(((ns.G (j+1)++x::ns.drop (j+1)).map O.string).set (j+1) (.d ns[j])).set j (.d x)=(ns.G j++x::ns.drop j).map O.string:=by
    rw[←lf,←lf,NN ns x j hj]
   rw[el] at q2;have ac:(ns.G j++x::ns.drop j).j=ns.j+1:=by simp;omega
   have ar:To lo ((wr.x (ω b (j+1)) (.d ns[j])).x (ω b j) (.d x)) (.k (Z (δ b)) (ns.j+1) a) (ns.G j++x::ns.drop j):=by
    unfold To;rw[ac];rw[am] at q2;exact q2
   have ah:=(F.set_ne (Ne.symm H) (j+1) (.d ns[j])).set_ne (Ne.symm H) j (.d x);have ap:=(D.newer (zd.set wr b (j+1) (.d ns[j])) G).newer (zd.set _ b j (.d x)) G;generalize (ns.G (j+1)++x::ns.drop (j+1))[j+1]'η=zz at *;clear ej q1 q2 el;generalize ns[j]=yj at *;have a4:(j:Int)<(ns.j:Int):=η;go_wp2;go_region
   all_goals
    go_wp2;go_roundw;exact⟨j,ξ,η,zh η,ah.u (zn _ _).drew,ar.u (zn _ _).drew,ap.newer (zd.of (M:=[]) (zn _ _).drew) ζ⟩;simp[intOf]
  have ab:X (ns.G k++x::ns.drop k=ns.G f++x::ns.drop f):=by
   rw[X];by_cases e:k=f;rw[e];obtain rfl:k=ns.j:=η;rw[yV (zf _),eD (zf _),yV η,eD η]
  go_wp2;go_end0
  exact⟨rfl,_,by rw[HE.l,←ab.l];exact⟨af,F,z⟩,D,L⟩
 have a2:ns.j<=f:=η;go_enter func157,ntmps157;go_wp2_with (first|(go_at_call 168;refine HP.l.y ?_;rintro r w' ⟨rfl,m,rfl⟩;have t:μ w (w.drewN m):=(zI (zn _ _) m);have c:=R.u t;obtain⟨hc,hf,E⟩:=c.e;have N:=hs.u t)|(at_builtin;refine kd (w.drewN m) _ [.d x] _ rfl (.tmp 31) (.tmp 33) 30 rfl lo 9 i0 _ 1 16 underlying30 hi ag ak al rfl θ (.k ao ns.j l) ns.j (ns.map O.string) rfl N (zn _ _) _ _ rfl ζ rfl a_ η η η ?_;intro v' S o A s;obtain⟨aw,a,rfl⟩:=zr o;have d:=c.save A (jt N c θ);obtain⟨W,ae,I⟩:=d.e))
 obtain⟨b,an,J,aa,au,_⟩:=yq o η;simp only[O.slice.injEq] at J;obtain⟨rfl,_,K⟩:=J;clear K;have H:b≠n:=vN o d θ rfl;have u:=d.set 0 (.k (Z (δ b)) (ns.j+1) a);simp at u;have ad:To lo (S.x (δ n) (.k (Z (δ b)) (ns.j+1) a)) (.k (Z (δ b)) (ns.j+1) a) (ns.G ns.j++x::ns.drop ns.j):=by
  have q:=xP o ((Tv.refl n S).x 0 (.k (Z (δ b)) (ns.j+1) a)) d θ;unfold To;simpa using q
 have G:∀y∈[b],y∈n::(O.slice ao ns.j l).m.toList∨w.o.q<=y:=λy C=>by
  simp only[xL] at C;subst C;rcases s with q|⟨g,q,V⟩;left;simp only[zG];right;rw[←q];simp[O.ownBlock];right;simp only[O.ownBlock,zt] at q;have:=t.q;omega
 have P:zd (n::(O.slice ao ns.j l).m.toList) w (S.x (δ n) (.k (Z (δ b)) (ns.j+1) a)):=((zd.of (M:=n::(O.slice ao ns.j l).m.toList) t).newer A (λy C=>zh (nP _ C))).newer (zd.set _ _ _ _) (λy C=>zh (by simp at C;simp[C]));have L:(O.slice (Z (δ b)) (ns.j+1) a).m=(O.slice ao ns.j l).m∨∃g,(O.slice (Z (δ b)) (ns.j+1) a).m=Z g/\w.o.q<=g:=s.imp id (fun⟨g,q1,q2⟩=>⟨g,q1,by have:=t.q;omega⟩);clear hc hf E W ae I A s o;generalize S.x (δ n) (.k (Z (δ b)) (ns.j+1) a)=w5 at *;generalize decide (f<ns.j)=bq;go_loopw [5] (λv5 wr=>∃k:Nat,v5=ι k/\k<=ns.j/\(f<=k∨k=ns.j)/\Ti wr n #[.k (Z (δ b)) (ns.j+1) a] 141/\To lo wr (.k (Z (δ b)) (ns.j+1) a) (ns.G k++x::ns.drop k)/\zd (n::(O.slice ao ns.j l).m.toList) w wr) (λi _=>(intOf i).D);exact⟨ns.j,ξ,zf _,ze rfl,u,ad,P⟩;obtain⟨k,rfl,hk,ax,F,z,D⟩:=hrel;obtain⟨hc,hf,E⟩:=F.e;by_cases ai:f<k;exact zC ai η;have ab:X (ns.G k++x::ns.drop k=ns.G f++x::ns.drop f):=by
  rw[X];by_cases e:k=f;rw[e];obtain rfl:k=ns.j:=η;rw[yV (zf _),eD (zf _),yV η,eD η]
 go_wp2;go_end0
 exact⟨rfl,_,by rw[HE.l,←ab.l];exact⟨af,F,z⟩,D,L⟩
end
section
open Go.Proofs.Tryz
variable {lo:Nat}{cb:Nat}
def qH(ns:κ)(t:ByteArray):κ:=if zQ t then ns else mN ns t
def uW(ns:κ)(l:zj):κ:=l.k.H qH ns
def qG(ns:κ)(c:zc):κ:=c.d.H uW (uW ns c.g)
def zp(cs:List zc):κ:=cs.H qG []
def ME(ns:κ)(t:ByteArray):(qH ns t).j<=ns.j+1:=by
 unfold qH;split;omega;unfold mN;split;omega;simp only[yK,xu,vd,List.length_drop];omega
def eH(ts:κ):∀a:κ,(ts.H qH a).j<=a.j+ts.j:=by
 induction ts with
 |nil=>intro a;simp
 |cons t ts b=>intro a;have:=b (qH a t);have:=ME a t;simp only[uJ,xu];omega
def kU(l:zj):Nat:=l.k.j
def gP(a:List zj):Nat:=(a.map kU).sum
def mo(cs:List zc):Nat:=(cs.map λc=>kU c.g+gP c.d).sum
def Gq(b:Ω):∀a:κ,(b.H uW a).j<=a.j+gP b:=by
 induction b with
 |nil=>intro a;simp[gP]
 |cons l b c=>intro a;have:=c (uW a l);have:=eH l.k a;simp only[uJ,gP,uq,qt,kU] at *;unfold uW at *;omega
def AN(cs:Ξ):∀a:κ,(cs.H qG a).j<=a.j+mo cs:=by
 induction cs with
 |nil=>intro a;simp[mo]
 |cons c cs b=>intro a;have:=b (qG a c);have:=Gq c.d (uW a c.g);have:=eH c.g.k a;simp only[uJ,mo,uq,qt] at *;unfold qG kU at *;unfold uW at *;omega
def LA(a:Ω)(k:Nat)(b:k<a.j):gP (a.G k)+kU a[k]<=gP a:=by
 have e:a=a.G k++a[k]::a.drop (k+1):=by rw[←xp b,jQ]
 conv=>rhs;rw[e]
 simp only[gP,qF,uq,List.sum_append,qt];omega
def Rz(cs:Ξ)(k:Nat)(a:k<cs.j):mo (cs.G k)+(kU cs[k].g+gP cs[k].d)<=mo cs:=by
 have e:cs=cs.G k++cs[k]::cs.drop (k+1):=by rw[←xp a,jQ]
 conv=>rhs;rw[e]
 simp only[mo,qF,uq,List.sum_append,qt];omega
def lH(cb:Nat)(w w':U):Prop:=∀b c t,b≠cb->9≠t->Ti w b c t->Ti w' b c t
def lH.of{w w':U}(h:μ w w'):lH cb w w':=λ_ _ _ _ _ q=>q.u h
def lH.A{a b c:U}(h:lH cb a b)(k:lH cb b c):lH cb a c:=λ_ _ _ n m q=>k _ _ _ n m (h _ _ _ n m q)
def Av.next{B:Nat}{j w w':U}{v:O}{ns d:κ}{e:Ending}(a:jO B w cb v ns)(o:Below B j w)(h:Av B w cb v d e w'):e=ε (.B #[])/\∃i,jO B w' cb i d/\Below B j w'/\lH cb w w':=by
 obtain⟨rfl,i,l,k,p⟩:=h;refine⟨rfl,i,l,o.A (k.u (λx g=>?_) ?_),λb c t n m q=>q.save k λf=>?_⟩;simp only[zG] at g;rcases g with rfl|g;exact a.1;exact yW a.2.2 (xb g);have:=a.1;have:=a.2.1.lt;omega;simp only[zG] at f;rcases f with rfl|f;exact n rfl;exact vN a.2.2 q m (xb f) rfl
def MZ(c w:U)(cb:Nat)(v:O)(ns:κ)(l:zj)(I:O)(hs:To lo c I l.k)(M:μ c w)(h:jO c.o.q w cb v ns)(K:ns.j+kU l<=900):
  Calls prog 113 #[(π cb),.agg #[.i l.i,.d l.o,I]] w λe j=>e=ε (.B #[])/\∃m,jO c.o.q j cb m (uW ns l)/\μ c j/\lH cb w j:=by
 obtain⟨ao,V,rfl⟩:=hs.qy;have HI:=Th fun(W:U) (v:O) (ns:κ) (x:ByteArray) (a:jO c.o.q W cb v ns) (b:ns.j<=900)=>LJ W cb v ns x a b;have S:X (uW ns l=l.k.H qH ns):=rfl;have HT:=Th h;have R:=M.q;have T:l.k.j<=900:=by unfold kU at K;omega
 have A:X (∀k,k<l.k.j->((l.k.G k).H qH ns).j<=900):=λk Q=>by
  have:=eH (l.k.G k) ns;simp only[vd] at this;unfold kU at K;omega
 generalize l.k=f at *;go_enter func113,ntmps113;go_wp2;go_loopw [9] (λN wr=>∃(k:Nat) (m:O),k<=f.j/\N=ι k/\X (jO c.o.q wr cb m ((f.G k).H qH ns))/\μ c wr/\X (lH cb w wr)) (λi _=>f.j-(intOf i).D);exact⟨0,v,zs _,rfl,HT.l.u γ,M.C R _,lH.of γ⟩;obtain⟨k,m,Q,rfl,u,d,E⟩:=hrel;have L:=d.q;by_cases p:k<f.j
 .obtain⟨g,rfl,hg,n⟩:=hs.cell k p;have aa:=zi d hg n;have J:X ((f.G (k+1)).H qH ns=qH ((f.G k).H qH ns) f[k]):=by rw[X,yN p,qZ];rfl
  have z:=A.l k p;have y:X (∀a x,qH a x=if zQ x then a else mN a x):=λ_ _=>rfl;generalize (f.G k).H qH ns=r at *;generalize f[k]=x at *;cases B:zQ x
  .have H:X (∀W,Calls prog 156 #[.d x] W λe j=>e=ε (.i false)/\j=W):=λW=>by rw[←B];exact lX x W
   have F:X (qH r x=mN r x):=by rw[X,y.l,B];rfl
   go_wp2_with (first|(go_at_call 156;refine(H.l _).y ?_;rintro e j ⟨rfl,o⟩;obtain rfl:=o.symm)|(go_at_call 157;refine(HI.l wr m r x u.l z).y ?_;intro e w2 q;obtain⟨rfl,P,s,G,t⟩:=q.next u.l d;have C:=Th (E.l.A t);clear t;have D:=Th s;clear q s))
   go_roundw;exact⟨k+1,P,η,ξ,by rw[J.l,F.l];exact D.l,G,C⟩;simp[intOf];omega
  have H:X (∀W,Calls prog 156 #[.d x] W λe j=>e=ε (.i true)/\j=W):=λW=>by rw[←B];exact lX x W
  have F:X (qH r x=r):=by rw[X,y.l,B];rfl
  go_wp2_with (go_at_call 156;refine(H.l _).y ?_;rintro e j ⟨rfl,o⟩;obtain rfl:=o.symm)
  go_roundw;exact⟨k+1,m,η,ξ,by rw[J.l,F.l];exact u.l,d,E⟩;simp[intOf];omega
 rw[yV η] at u;go_wp2;go_end0
 exact⟨rfl,m,by rw[S.l];exact u.l,d,E.l⟩
def G5(cs:List zc):Prop:=mo cs<=900/\cs.j<=1000/\∀c∈cs,c.d.j<=1000
def RQ(w:U)(v:O)(cs:Ξ)(h:TR lo 171 w v cs)(hf:G5 cs):
  Calls prog 72 #[v] w λe w'=>∃r,e=ε (.agg #[r])/\To w.o.q w' r (zp cs)/\μ w w':=by
 obtain⟨ao,aK,rfl⟩:=h.qy;obtain⟨aJ,aO,a3⟩:=hf;have HA:=Th fun(W:U) (v:O) (ns:κ) (l:zj) (va:O) (a:To lo w va l.k) (b:μ w W) (c:jO w.o.q W (w.o.q+1) v ns) (d:ns.j+kU l<=900)=>MZ w W _ v ns l va a b c d;have HE:X (zp cs=cs.H qG []):=rfl;have HH:=Th h;have N:X (∀k (hk:k<cs.j),((cs.G k).H qG []).j+kU cs[k].g+gP cs[k].d<=900):=λk hk=>by
  have:=AN (cs.G k) [];have:=Rz cs k hk;simp only[jr] at *;omega
 have aq:=(Ti.new w #[ν] 141).u ((zn _ _).C (zf _) (.E #[ν] 141));have H:=Ti.new (w.C (.E #[ν] 141)) #[ν] 141;have ad:μ w ((w.C (.E #[ν] 141)).C (.E #[ν] 141)):=γ;simp only[U.size_alloc] at H;go_enter func72,ntmps72;go_wp2;generalize ((w.C (.E #[ν] 141)).C (.E #[ν] 141))=wA at *;go_loopw [10] (λa4 wr=>∃(k:Nat) (r:O),k<=cs.j/\a4=ι k/\X (jO w.o.q wr (w.o.q+1) r ((cs.G k).H qG []))/\Ti wr w.o.q #[ν] 141/\μ w wr) (λi _=>cs.j-(intOf i).D);exact⟨0,_,zs _,rfl,⟨η,H,To.nil _⟩,aq,ad⟩;obtain⟨k,r,hk,rfl,T,o,f⟩:=hrel;have aB:=f.q;by_cases q:k<cs.j
 .obtain⟨g,au,P,ae,J,u,hg,q0,q1,q2,q3,a0,V⟩:=HH.l.cell k q;subst u;have aw:=zi f hg q0;have ac:=zi f hg q1;have aj:=zi f hg q2;have ax:=zi f hg q3;have aF:g<wr.o.q:=η;have HS:X ((cs.G (k+1)).H qG []=qG ((cs.G k).H qG []) cs[k]):=by rw[X,yN q,qZ];rfl
  have M:=N.l k q;have a6:=a3 _ (zq q);have az:X (∀a c,qG a c=c.d.H uW (uW a c.g)):=λ_ _=>rfl;clear q0 q1 q2 q3;generalize (cs.G k).H qG []=nk at *;generalize cs[k]=c at *;have av:=Th λW a b=>HA.l W r nk c.g _ a0 b a η;have K:=(Ti.new wr #[.i c.g.i,.d c.g.o,.k au c.g.k.j P,.k ae c.d.j J] 171);go_upto_region 6 with (first|(go_at_call 113;refine(av.l _ (T.l.u γ) (zT f γ (zf _))).y ?_;rintro e w2 ⟨rfl,v2,G,R,D⟩))
  have a9:=T.l.2.1.lt;have S:=D _ _ _ η θ K;have Q:=D _ _ _ η θ (o.u zO);obtain⟨an,a2,ab⟩:=S.e;have aN:=R.q;have E:=Th G;have C:X ((uW nk c.g).j+gP c.d<=900):=by
   have:=eH c.g.k nk;unfold kU at M;unfold X uW;omega
  clear D K G aw ac aj ax;go_wp2;clear an a2 ab;obtain⟨m,A⟩:∃m,m=c.d:=⟨_,rfl⟩;have ay:=Th A;rw[←A] at V a6 C ⊢;clear A;obtain⟨t,x⟩:∃t,t=uW nk c.g:=⟨_,rfl⟩;have af:=Th x;rw[←x] at E C;clear x;go_loopw [20] (λag wr=>∃(j:Nat) (r:O),j<=m.j/\ag=ι j/\X (jO w.o.q wr (w.o.q+1) r ((m.G j).H uW t))/\Ti wr w.o.q #[ν] 141/\μ w wr) (λi _=>m.j-(intOf i).D);exact⟨0,_,zs _,rfl,E,Q,R⟩;obtain⟨j,v3,hj,rfl,B,s,n⟩:=hrel;have aA:=n.q;by_cases p:j<m.j
  .obtain⟨gl,aL,a7,u,y,p0,p1,p2,ai⟩:=V.cell j p;subst u;have aI:=zi n y p0;have aP:=zi n y p1;have aC:=zi n y p2;have a8:gl<wr.o.q:=η;have a5:X ((m.G (j+1)).H uW t=uW ((m.G j).H uW t) m[j]):=by rw[X,yN p,qZ];rfl
   have z:((m.G j).H uW t).j+kU m[j]<=900:=by
    have:=Gq (m.G j) t;have:=LA m j p;have:=C.l;omega
   clear p0 p1 p2;generalize (m.G j).H uW t=nj at *;generalize m[j]=l at *;have ah:=Th λW a b=>HA.l W v3 nj l _ ai b a z;go_wp2_with (go_at_call 113;refine(ah.l _ (B.l.u γ) (zT n γ (zf _))).y ?_;rintro e w4 ⟨rfl,v4,aa,al,I⟩;have a1:=Th aa;have F:=I _ _ _ η θ (s.u zO);clear aa I)
   go_roundw;exact⟨j+1,v4,η,ξ,by rw[a5.l];exact a1.l,F,al⟩;simp[intOf];omega
  rw[yV η,ay.l] at B;have HQ:X (jO w.o.q wr (w.o.q+1) v3 ((cs.G (k+1)).H qG [])):=by rw[X,HS.l,az.l,←af.l];exact B.l
  go_wp2;go_roundw;exact⟨k+1,v3,η,ξ,HQ,s,n⟩;simp[intOf];omega
 rw[yV η] at T;obtain⟨ak,L,rfl⟩:=T.l.2.2.qy;obtain⟨aH,ar,am⟩:=T.l;obtain⟨aG,aQ,aE⟩:=ar.e;obtain⟨ap,aD,aM⟩:=o.e;go_wp2
 (try simp only[Exit.inBlock,Exit.then])
 exact zP (v:=.agg #[.k ak (cs.H qG []).j L]) (by simp[results,results72,go_sem,ap]) rfl ⟨_,rfl,by rw[HE.l];exact(am.but ((Tv.refl w.o.q wr).x 0 _) o θ),f.x ζ _⟩
end
section
open Go.Proofs.Tryz
variable {lo:Nat}
def Vd(lo:Nat)(w:U)(a o:Nat)(ns:κ):Prop:=a<w.o.q/\∃v,w.p ⟨a,o,Y⟩=Z v/\To lo w v ns
def Vd.u{w w':U}{c o:Nat}{ns:κ}(h:Vd lo w c o ns)(a:μ w w'):Vd lo w' c o ns:=by
 obtain⟨b,v,e,d⟩:=h;exact⟨ym b a.q,v,(a.cell b).A e,d.u a⟩
def O8(w:U)(u o:Nat)(ns:κ)(x:ByteArray)(h:Vd lo w u o ns)(P:ns.j<=1000):
  Calls prog 168 #[.u (Z (ω u o)),.d x] w λe L=>e=ε (ι (uu ns x:Nat))/\∃m,L=w.drewN m:=by
 obtain⟨r,v,D,y⟩:=h;obtain⟨M,G,rfl⟩:=y.qy;go_enter func168,ntmps168;go_wp2;go_quiet (fail)
 have z:μ w (w.drewN nq):=zI (zn _ _) _;have F:=zi z r D;have j:=y.u z;have n:X (∃m,w.drewN nq=w.drewN m):=⟨nq,rfl⟩;generalize w.drewN nq=B at *;go_wp2;go_loopg [5,6] (ns.j+1) (λk K A wr=>∃l h:Nat,K=ι l/\A=ι h/\h<=ns.j/\l<=ns.j/\h-l<k/\X (uu ns x=TK ns x k l h)/\wr=B)
 case atStart=>exact⟨0,ns.j,rfl,rfl,η,η,η,rfl,rfl⟩
 obtain⟨l,h,rfl,rfl,E,p,I,t,rfl⟩:=hrel;rcases gk with _|m;omega;by_cases b:l<h
 .obtain⟨a,d⟩:∃a,a=l+(h-l) / 2:=⟨_,rfl⟩;have H:l<=a:=η;have C:a<h:=η;have J:(l:Int)+((h:Int)-(l:Int)).tdiv 2=(a:Int):=by
   rw[Int.tdiv_eq_ediv_of_nonneg η];omega
  have c:a<ns.j:=η;have q:=t.l;unfold TK at q;rw[zb b,←d,show ns.g a ByteArray.empty=ns[a] from by simp[List.getD_eq_getElem?_getD,c]] at q;obtain⟨g,rfl,N,s⟩:=j.cell a c;clear d;cases i:TC ns[a] x
  .rw[i,za ζ] at q;have f:=Th q;unfold TC at i;go_wp2;go_roundg m
   case measure=>omega
   exact⟨l,a,rfl,rfl,η,p,η,f,rfl⟩
  rw[i,zb rfl] at q;have f:=Th q;unfold TC at i;go_wp2;go_roundg m
  case measure=>omega
  exact⟨a+1,h,ξ,rfl,E,η,η,f,rfl⟩
 have q:=t.l;unfold TK at q;rw[za b] at q;have f:=Th q;go_wp2;go_ret;exact⟨by rw[f.l];rfl,n.l⟩
def P5(w:U)(c o:Nat)(ns:κ)(x:ByteArray)(h:Vd lo w c o ns)(C:ns.j<=1000):
  Calls prog 129 #[.u (Z (ω c o)),.d x] w λe n=>e=ε (.B #[ι (((xn ns x).g 0:Nat):Int),.i (xn ns x).I])/\∃m,n=w.drewN m:=by
 have s:=Th (O8 w c o ns x h C);obtain⟨b,v,u,t⟩:=h;obtain⟨F,A,rfl⟩:=t.qy;have i:X (xn ns x=if uu ns x<ns.j/\ns.g (uu ns x) ByteArray.empty=x then Z (uu ns x) else Y):=rfl;generalize uu ns x=f at *;by_cases l:f<ns.j
 .have B:ns.g f ByteArray.empty=ns[f]:=by simp[List.getD_eq_getElem?_getD,l]
  rw[B] at i;by_cases z:ns[f]=x
  .rw[zb ⟨l,z⟩] at i;obtain⟨g,rfl,k,a⟩:=t.cell f l;go_enter func129,ntmps129;go_wp2_with (go_at_call 168;refine s.l.y ?_;rintro r n ⟨rfl,m,rfl⟩;have j:=((zI (zn w.o.q w) m).cell (p:=(ω c o)) b).A u;have d:c<(w.drewN m).o.q:=b;have D:=((zI (zn w.o.q w) m).cell (p:=(ω g f)) k).A a;have y:g<(w.drewN m).o.q:=k)
   go_ret2
   exact⟨by rw[i.l];rfl,m,rfl⟩
  rw[za (λq=>z q.2)] at i;obtain⟨g,rfl,k,a⟩:=t.cell f l;have E:=vU z;go_enter func129,ntmps129;go_wp2_with (go_at_call 168;refine s.l.y ?_;rintro r n ⟨rfl,m,rfl⟩;have j:=((zI (zn w.o.q w) m).cell (p:=(ω c o)) b).A u;have d:c<(w.drewN m).o.q:=b;have D:=((zI (zn w.o.q w) m).cell (p:=(ω g f)) k).A a;have y:g<(w.drewN m).o.q:=k)
  go_ret2
  exact⟨by rw[i.l];rfl,m,rfl⟩
 rw[za (λq=>l q.1)] at i;go_enter func129,ntmps129;go_wp2_with (go_at_call 168;refine s.l.y ?_;rintro r n ⟨rfl,m,rfl⟩;have j:=((zI (zn w.o.q w) m).cell (p:=(ω c o)) b).A u;have d:c<(w.drewN m).o.q:=b)
 go_ret2
 exact⟨by rw[i.l];rfl,m,rfl⟩
def Pw(w:U)(f o:Nat)(ns:κ)(k:Nat)(h:Vd lo w f o ns):
  Calls prog 128 #[.u (Z (ω f o)),ι k] w λe l=>e=ε (.d (ns.g k ByteArray.empty))/\l=w:=by
 obtain⟨j,v,n,d⟩:=h;obtain⟨m,i,rfl⟩:=d.qy;by_cases a:k<ns.j
 .have b:X (ns.g k ByteArray.empty=ns[k]):=by simp[X,List.getD_eq_getElem?_getD,a]
  obtain⟨g,rfl,p,c⟩:=d.cell k a;go_enter func128,ntmps128;go_wp2;go_ret;exact⟨by rw[b.l];rfl,rfl⟩
 have b:X (ns.g k ByteArray.empty=ByteArray.empty):=by simp[X,List.getD_eq_getElem?_getD,List.getElem?_eq_none (Nat.le_of_not_lt a)]
 go_enter func128,ntmps128;go_wp2;go_ret;exact⟨by rw[b.l];rfl,rfl⟩
def TG(B:Nat)(w:U)(tb o:Nat)(t:List zg):Prop:=∃a,tb<w.o.q/\w.p ⟨tb,o,Y⟩=Z a/\w.ownsRow B 221 3 a t.j (uo t)
def TG.u{B:Nat}{w w':U}{tb o:Nat}{t:Ψ}(h:TG B w tb o t)(a:μ w w'):TG B w' tb o t:=by
 obtain⟨c,d,b,e⟩:=h;exact⟨c,by have:=a.q;omega,(zi a d b),zy e a⟩
def TG.view{B:Nat}{w:U}{tb o:Nat}{t:Ψ}(h:TG B w tb o t):∃b a,w.p (ω tb o)=Z (.k b t.j a)/\w.ownsRow B 221 3 (.k b t.j a) t.j (uo t):=by
 obtain⟨e,_,d,c⟩:=h;obtain⟨b,a,rfl⟩:=zr c;exact⟨b,a,d,c⟩
def Du(B:Nat)(w:U)(tb o:Nat)(t:Ψ)(n:ByteArray)(h:TG B w tb o t)(r:t.j<=1000):
  Calls prog 126 #[.u (Z (ω tb o)),.d n] w λe q=>e=ε (ι (zW t n))/\q=w:=by
 obtain⟨s,m,v,d⟩:=h.view;go_enter func126,ntmps126;go_wp2;go_loop [5] (λi=>∃k:Nat,k<=t.j/\i=ι k/\X (∀j (a:j<t.j),j<k->TC t[j].name n=true)) (λi=>t.j-(intOf i).D);exact⟨0,zs _,rfl,λj a h=>η⟩;obtain⟨k,u,rfl,H⟩:=hrel;by_cases c:k<t.j
 .obtain⟨g,rfl,x,_,p,_,_⟩:=gN d k c;cases f:TC t[k].name n
  .have b:=Th (Ik t n k H.l c f);unfold TC at f;go_wp2;go_ret;exact⟨by rw[b.l];rfl,rfl⟩
  have b:X (∀j (a:j<t.j),j<k+1->TC t[j].name n=true):=λj a h=>by
   rcases gV j k with l|l;exact H.l j a l;obtain rfl:j=k:=η;exact f
  unfold TC at f;go_wp2;go_round;exact⟨k+1,η,ξ,b⟩;simp[intOf];omega
 have b:X (zW t n=k):=by
  have:=Ee t n (λj a=>H.l j a η);unfold X;omega
 go_wp2;go_ret;exact⟨by rw[b.l];rfl,rfl⟩
def F8(B:Nat)(w:U)(tb o:Nat)(t:Ψ)(n:ByteArray)(h:TG B w tb o t)(l:t.j<=1000)(i:zU t n=Y):
  Calls prog 77 #[.u (Z (ω tb o)),.d n] w λe f=>e=ε (.B #[ι 0,.i false])/\f=w:=by
 have d:=Du B w tb o t n h l;obtain⟨p,k,q,b⟩:=h.view;have a:=Th d;rcases ie i with j|⟨j,c⟩
 .clear i;go_enter func77,ntmps77;go_wp2_with (go_at_call 126;refine a.l.y ?_;rintro e f ⟨rfl,rfl⟩;clear a)
  go_ret2
  exact⟨rfl,rfl⟩
 obtain⟨g,rfl,s,_,m,_,_⟩:=gN b _ j;have r:=vU c;go_enter func77,ntmps77;go_wp2_with (go_at_call 126;refine a.l.y ?_;rintro e f ⟨rfl,rfl⟩;clear a)
 go_ret2
 exact⟨rfl,rfl⟩
def El(B:Nat)(w:U)(tb o:Nat)(t:Ψ)(n:ByteArray)(p:zg)(h:TG B w tb o t)(l:t.j<=1000)(m:zU t n=Z p):
  Calls prog 77 #[.u (Z (ω tb o)),.d n] w λe j=>e=ε (.B #[ι (zW t n),.i true])/\j=w:=by
 have d:=Du B w tb o t n h l;obtain⟨s,k,u,b⟩:=h.view;have a:=Th d;obtain⟨q,i,r⟩:=jn m;obtain⟨g,rfl,v,_,c,_,f⟩:=gN b _ q;rw[i] at c f;go_enter func77,ntmps77;go_wp2_with (go_at_call 126;refine a.l.y ?_;rintro e j ⟨rfl,rfl⟩;clear a)
 go_ret2
 exact⟨rfl,rfl⟩
def J1(B:Nat)(w:U)(tb o:Nat)(t:Ψ)(n:ByteArray)(h:TG B w tb o t)(a:t.j<=1000)(b:zU t n=Y):
  Calls prog 159 #[.u (Z (ω tb o)),.d n] w λe c=>e=ε (.B #[ι 0,.i false])/\c=w:=by
 have d:=Th (F8 B w tb o t n h a b);clear h b a;go_enter func159,ntmps159;go_wp2_with (go_at_call 77;refine d.l.y ?_;rintro e c ⟨rfl,rfl⟩;clear d)
 go_ret2
 exact⟨rfl,rfl⟩
def Nu(B:Nat)(w:U)(tb o:Nat)(t:Ψ)(n:ByteArray)(b:zg)(h:TG B w tb o t)(j:t.j<=1000)(d:zU t n=Z b):
  Calls prog 159 #[.u (Z (ω tb o)),.d n] w λe f=>e=ε (.B #[ι b.L,.i true])/\f=w:=by
 have c:=Th (El B w tb o t n b h j d);obtain⟨r,i,s,a⟩:=h.view;obtain⟨l,q,p⟩:=jn d;obtain⟨g,rfl,u,_,k,_,m⟩:=gN a _ l;go_enter func159,ntmps159;go_wp2_with (go_at_call 77;refine c.l.y ?_;rintro e f ⟨rfl,rfl⟩;clear c)
 go_ret2
 exact⟨rfl,rfl⟩
def zB(t:List zg)(n:ByteArray):Nat:=if (zU t n).I then zW t n else 0
def xM(t:List zg)(n:ByteArray):Nat:=match zU t n with|some e=>e.L|none=>0
def eF(B:Nat)(w:U)(tb o:Nat)(t:Ψ)(n:ByteArray)(h:TG B w tb o t)(a:t.j<=1000):
  Calls prog 77 #[.u (Z (ω tb o)),.d n] w λe d=>e=ε (.B #[ι (zB t n:Nat),.i (zU t n).I])/\d=w:=by
 unfold zB;rcases b:zU t n with _|c;exact F8 B w tb o t n h a b;exact El B w tb o t n c h a b
def JZ(B:Nat)(w:U)(tb o:Nat)(t:Ψ)(n:ByteArray)(h:TG B w tb o t)(a:t.j<=1000):
  Calls prog 159 #[.u (Z (ω tb o)),.d n] w λe d=>e=ε (.B #[ι (xM t n:Nat),.i (zU t n).I])/\d=w:=by
 unfold xM;rcases b:zU t n with _|c;exact J1 B w tb o t n h a b;exact Nu B w tb o t n c h a b
def yc(t:List zg)(i:Nat):Nat:=(t.map (·.jh)).g i 0
def OG(B:Nat)(w:U)(tb o:Nat)(t:Ψ)(h:TG B w tb o t):
  Calls prog 115 #[.u (Z (ω tb o))] w λe c=>e=ε (ι t.j)/\c=w:=by
 obtain⟨d,b,f,a⟩:=h.view;clear h;go_enter func115,ntmps115;go_wp2;go_ret;exact⟨rfl,rfl⟩
def Aw(B:Nat)(w:U)(tb o:Nat)(t:Ψ)(i:Nat)(h:TG B w tb o t):
  Calls prog 80 #[.u (Z (ω tb o)),ι i] w λe j=>e=ε (ι (yc t i:Nat))/\j=w:=by
 obtain⟨k,d,l,a⟩:=h.view;by_cases b:i<t.j
 .obtain⟨g,rfl,m,_,_,f,_⟩:=gN a i b;have c:X (yc t i=t[i].jh):=by simp[X,yc,b]
  go_enter func80,ntmps80;go_wp2;go_ret;exact⟨by rw[c.l];rfl,rfl⟩
 have c:X (yc t i=0):=by simp[X,yc,List.getD_eq_getElem?_getD,List.getElem?_eq_none (Nat.not_lt.1 b)]
 go_enter func80,ntmps80;go_wp2;go_ret;exact⟨by rw[c.l];rfl,rfl⟩
def RT(w:U)(vb:Nat)(d:O)(vs:κ)(t:ByteArray)(p:w.p (δ vb)=Z d)(hs:To lo w d vs)(m:vs.j<=1000):
  Calls prog 200 #[(π vb),.d t] w λe l=>e=ε (.B #[ι ((y7 vs t).g 0:Nat),.i (y7 vs t).I])/\l=w:=by
 obtain⟨n,f,rfl⟩:=hs.qy;go_enter func200,ntmps200;go_wp2;go_loop [13] (λi=>∃k:Nat,k<=vs.j/\i=ι k/\X (y7 vs t=(y7 (vs.drop k) t).map (·+k))) (λi=>vs.j-(intOf i).D);exact⟨0,zs _,rfl,by simp[X]⟩;obtain⟨k,o,rfl,H⟩:=hrel;by_cases a:k<vs.j
 .obtain⟨g,rfl,q,h⟩:=hs.cell k a;by_cases c:vs[k]=t
  .have j:=jq c;have b:X (y7 vs t=Z k):=by rw[X,H.l,oW a c];simp
   go_wp2;go_ret2
   exact⟨by rw[b.l];rfl,rfl⟩
  have j:=vU c;have b:X (y7 vs t=(y7 (vs.drop (k+1)) t).map (·+(k+1))):=by
   rw[X,H.l,oC a c];cases y7 (vs.drop (k+1)) t<;>simp;omega
  go_wp2;go_round;exact⟨k+1,η,ξ,b⟩;simp[intOf];omega
 have b:X (y7 vs t=Y):=by rw[X,H.l,uk η];rfl
 go_wp2;go_ret2
 exact⟨by rw[b.l];rfl,rfl⟩
def BQ(w:U)(vb:Nat)(a:O)(vs:κ)(f:w.p (δ vb)=Z a)(hs:To lo w a vs):
  Calls prog 146 #[(π vb)] w λe c=>e=ε (ι vs.j)/\c=w:=by
 obtain⟨d,b,rfl⟩:=hs.qy;go_enter func146,ntmps146;go_wp2;go_ret;exact⟨rfl,rfl⟩
end
section
variable {lo:Nat}{w:U}{v:O}{o:Option (List Int)}
def xQ(w:U)(v:O)(o:Option (List Int)):Prop:=match o with
 |none=>v=ν
 |some l=>∃b a,v=.k (Z b) l.j a/\∀k (h:k<l.j),∃g f,b=⟨g,f,Y⟩/\g<w.o.q/\w.p ⟨g,f+k,Y⟩=Z (ι l[k])
def xQ.u{w':U}(h:xQ w v o)(c:μ w w'):xQ w' v o:=by
 rcases o with _|l;exact h;obtain⟨n,a,d,j⟩:=h;refine⟨n,a,d,λk i=>?_⟩;obtain⟨g,f,e,b,m⟩:=j k i;exact⟨g,f,e,ym b c.q,zi c b m⟩
def xQ.of{g f cap:Nat}{l:List Int}(b:g<w.o.q)(h:∀k (h:k<l.j),w.p (ω g (f+k))=Z (ι l[k])):xQ w (.k (Z (ω g f)) l.j cap) (Z l):=⟨_,cap,rfl,λk a=>⟨g,f,rfl,b,h k a⟩⟩
def xQ.qy(h:xQ w v o):∃c a,v=.k c (o.g []).j a:=by
 rcases o with _|l;exact⟨Y,0,h⟩;obtain⟨d,a,b,_⟩:=h;exact⟨_,a,b⟩
def xQ.cell{w:U}{b:Option Addr}{n cap:Nat}{o:Option (List Int)}(h:xQ w (.k b n cap) o)(k:Nat)(c:k<(o.g []).j):∃g f,b=Z (ω g f)/\g<w.o.q/\w.p (ω g (f+k))=Z (ι (o.g [])[k]):=by
 rcases o with _|l;simp at c;obtain⟨m,cap,a,i⟩:=h;simp only[O.slice.injEq] at a;obtain⟨g,f,e,d,j⟩:=i k c;exact⟨g,f,by rw[a.1,e],d,j⟩
def jZ(w:U)(v:O)(os:Option (List (Option (List Int)))):Prop:=match os with
 |none=>v=ν
 |some l=>∃g f a,v=.k (Z ⟨g,f,Y⟩) l.j a/\g<w.o.q/\∀k (h:k<l.j),∃u,w.p ⟨g,f+k,Y⟩=Z u/\xQ w u l[k]
def jZ.u{w w':U}{v:O}{os:Option (List (Option (List Int)))}(h:jZ w v os)(b:μ w w'):jZ w' v os:=by
 rcases os with _|l;exact h;obtain⟨g,f,a,c,i,e⟩:=h;refine⟨g,f,a,c,by have:=b.q;omega,λk d=>?_⟩;obtain⟨u,j,m⟩:=e k d;exact⟨u,(zi b i j),m.u b⟩
def jZ.qy{os:Option (List (Option (List Int)))}(h:jZ w v os):∃c a,v=.k c (os.g []).j a:=by
 rcases os with _|l;exact⟨Y,0,h⟩;obtain⟨g,f,a,b,_⟩:=h;exact⟨_,a,b⟩
def jZ.cell{w:U}{b:Option Addr}{n cap:Nat}{os:Option (List (Option (List Int)))}(h:jZ w (.k b n cap) os)(k:Nat)(c:k<(os.g []).j):∃g f u,b=Z (ω g f)/\g<w.o.q/\w.p (ω g (f+k))=Z u/\xQ w u (os.g [])[k]:=by
 rcases os with _|l;simp at c;obtain⟨g,f,cap,a,e,d⟩:=h;simp only[O.slice.injEq] at a;obtain⟨u,i,j⟩:=d k c;exact⟨g,f,u,a.1,e,i,j⟩
end
section
open Go.Proofs.Tryz
variable {lo:Nat}{l:List Int}{seen:List Bool}
def jR(n:Nat):List Int->List Bool->Bool
 |[],_=>true
 |x::r,seen=>if x<0∨(n:Int)<=x∨5<=x then false else if seen.g x.D false then false else jR n r (seen.set x.D true)
def rS(l:List Int):Bool:=jR l.j l [false,false,false,false,false]
def IK{n k:Nat}(a:k<l.j)(h:l[k]<0∨(n:Int)<=l[k]∨5<=l[k]):jR n (l.drop k) seen=false:=by
 rw[xp a,jR,zb h]
def Qs{n k:Nat}(a:k<l.j)(h:seen.g l[k].D false=true):jR n (l.drop k) seen=false:=by
 rw[xp a,jR];split;rfl;simp
def Iw{n k:Nat}(a:k<l.j)(h:¬(l[k]<0∨(n:Int)<=l[k]∨5<=l[k]))(b:seen.g l[k].D false=false):jR n (l.drop k) seen=jR n (l.drop (k+1)) (seen.set l[k].D true):=by
 rw[xp a,jR,za h,za (by rw[b];decide)]
def NL(w:U)(v:O)(l:List Int)(h:xQ w v (Z l))(S:l.j<=2000000):
  Calls prog 155 #[v] w λe M=>e=ε (.i (rS l))/\μ w M:=by
 obtain⟨R,F,rfl,q⟩:=h;have H:=Th q;go_enter func155,ntmps155;go_wp2;go_loopw [8] (λK wr=>∃(k:Nat) (seen:List Bool),k<=l.j/\K=ι k/\seen.j=5/\Ti wr w.o.q (seen.map O.bool).F 282/\X (rS l=jR l.j (l.drop k) seen)/\μ w wr) (λi _=>l.j-(intOf i).D);exact⟨0,[false,false,false,false,false],zs _,rfl,rfl,Ti.new _ _ _,rfl,γ⟩;obtain⟨k,seen,P,rfl,p,o,j,a⟩:=hrel;have z:=a.q;by_cases c:k<l.j
 .obtain⟨g,f,rfl,I,m⟩:=H.l k c;have G:=zi a I m;clear m;have r:X ((l[k]<0∨(l.j:Int)<=l[k]∨5<=l[k])->jR l.j (l.drop k) seen=false):=λh=>IK c h;have A:X (seen.g l[k].D false=true->jR l.j (l.drop k) seen=false):=λh=>Qs c h;have t:=Th fun(h:¬(l[k]<0∨(l.j:Int)<=l[k]∨5<=l[k])) (L:seen.g l[k].D false=false)=>Iw c h L;generalize l[k]=x at *;by_cases y:x<0
  .go_wp2;go_ret;exact⟨by rw[j.l,r.l (zh y)];rfl,a⟩
  obtain⟨n,rfl⟩:=Int.eq_ofNat_of_zero_le (Int.not_lt.1 y);by_cases J:(l.j:Int)<=(n:Int)
  .go_wp2;go_ret;exact⟨by rw[j.l,r.l (ze (zh J))];rfl,a⟩
  by_cases D:(5:Int)<=(n:Int)
  .go_wp2;go_ret;exact⟨by rw[j.l,r.l (ze (ze D))];rfl,a⟩
  have s:n<5:=η;obtain⟨u,Q⟩:=o.H;have C:wr.p (ω w.o.q n)=Z (.i (seen.g n false)):=by
   rw[u];simp[p,s,List.getD_eq_getElem?_getD]
  have d:=o.set n (.i true);have E:X (((seen.map O.bool).F.setIfInBounds n (.i true))=((seen.set n true).map O.bool).F):=by simp[X,List.map_set]
  rw[E.l] at d;simp only[Int.toNat_natCast] at A t;clear u;generalize N:seen.g n false=b at *;cases b
  .go_wp2;go_roundw;exact⟨k+1,seen.set n true,η,ξ,by simpa using p,d,by rw[X,j.l,t.l η (by trivial)],a.x ζ _⟩;simp[intOf];omega
  go_wp2;go_ret;exact⟨by rw[j.l,A.l (by trivial)];rfl,a⟩
 have B:X (jR l.j (l.drop k) seen=true):=by rw[uk η];rfl
 go_wp2;go_ret;exact⟨by rw[j.l,B.l];rfl,a⟩
def vz(c:zc):Option (List Int)->Bool
 |none=>true
 |some l=>l.j == (zx c).j&&rS l
def Nz(w:U)(c:zc)(y vb x:O)(o:Option (List Int))(hs:To lo w y c.g.k)(E:TN lo w vb c.d)(G:c.g.k.j+xj c.d<=1000)(q:c.d.j<=1000)(p:xQ w x o)(r:(o.g []).j<=2000000):
  Calls prog 112 #[.agg #[.i c.g.i,.d c.g.o,y,vb],x] w λe I=>e=ε (.i (vz c o))/\μ w I:=by
 have z:=Th λW k=>oA W c _ _ (hs.u k) (E.u k) G q;rcases o with _|l
 .have H:=p;subst H;have j:∀W:U,(binOp .eql 24 (ν) (ν)).run prog W=.ok (.i true) W:=λW=>by
   have:=run_equal_slice_nil W 24 3 Y 0 0 underlying24;simp[binOp,this]
  go_enter func112,ntmps112;go_wp2;go_ret;exact⟨rfl,γ⟩
 have C:=Th λW k=>NL W x l (p.u k) r;have B:X (vz c (Z l)=(l.j == (zx c).j&&rS l)):=rfl;obtain⟨A,f,rfl,_⟩:=p;have j:∀W:U,(binOp .eql 24 (.k (Z A) l.j f) (ν)).run prog W=.ok (.i false) W:=λW=>by
  have:=run_equal_slice_nil W 24 3 (Z A) l.j f underlying24;simp[binOp,this]
 generalize zx c=vs at *;by_cases m:l.j=vs.j
 .have v:((l.j:Int) != (vs.j:Int))=false:=by rw[m];simp
  have s:=Th m;clear m;go_enter func112,ntmps112;go_wp2_with (first|(go_at_call 148;refine(z.l _ γ).y ?_;rintro e n ⟨D,rfl,a,g⟩;obtain⟨t,i,rfl⟩:=zr a;have b:μ w n:=(zT γ g (zf _));have d:=b.q)|(go_at_call 146;refine(BQ _ _ _ vs (by exact(Ti.new _ _ _).H.1 0) (by exact zy a γ)).y ?_;rintro e F ⟨rfl,h⟩;obtain rfl:=h.symm)|(go_at_call 155;refine(C.l _ (by exact(b.C d _))).y ?_;rintro e J ⟨rfl,u⟩))
  go_ret;exact⟨by rw[B.l];simp[s.l],Tl (b.C d _) u⟩
 have v:((l.j:Int) != (vs.j:Int))=true:=by rw[bne_iff_ne];omega
 go_enter func112,ntmps112;go_wp2_with (first|(go_at_call 148;refine(z.l _ γ).y ?_;rintro e n ⟨D,rfl,a,g⟩;obtain⟨t,i,rfl⟩:=zr a;have b:μ w n:=(zT γ g (zf _));have d:=b.q)|(go_at_call 146;refine(BQ _ _ _ vs (by exact(Ti.new _ _ _).H.1 0) (by exact zy a γ)).y ?_;rintro e F ⟨rfl,h⟩;obtain rfl:=h.symm))
 go_ret;exact⟨by rw[B.l];simp[m],b.C d _⟩
def vw(cs:List zc):Option (List (Option (List Int)))->Bool
 |none=>true
 |some l=>l.j == cs.j&&(cs.zip l).all λx=>vz x.1 x.2
def Sj(cs:Ξ)(l:List (Option (List Int)))(h:l.j=cs.j)(k:Nat)(a:k<cs.j):((cs.drop k).zip (l.drop k)).all (λx=>vz x.1 x.2)=(vz cs[k] (l[k]'η)&&((cs.drop (k+1)).zip (l.drop (k+1))).all λx=>vz x.1 x.2):=by
 rw[xp a,xp (l:=l) (i:=k) η,List.zip_cons_cons,List.all_cons]
def D5(w:U)(cv ov:O)(cs:Ξ)(os:Option (List (Option (List Int))))(hc:TR lo 171 w cv cs)(G:∀c∈cs,qb c)(hl:cs.j<=1000)(ho:jZ w ov os)(ah:(os.g []).j<=2000000)(v:∀o∈os.g [],(o.g []).j<=2000000):
  Calls prog 71 #[cv,ov] w λe h=>e=ε (.i (vw cs os))/\μ w h:=by
 obtain⟨an,ak,rfl⟩:=hc.qy;rcases os with _|l
 .have h0:ov=ν:=ho;subst h0;have s:∀W:U,(binOp .eql 26 (ν) (ν)).run prog W=.ok (.i true) W:=λW=>by
   have:=run_equal_slice_nil W 26 24 Y 0 0 underlying26;simp[binOp,this]
  go_enter func71,ntmps71;go_wp2;go_ret;exact⟨rfl,γ⟩
 simp only[uE] at ah v;have HO:=Th ho;have af:=Th hc;have B:X (vw cs (Z l)=(l.j == cs.j&&(cs.zip l).all λx=>vz x.1 x.2)):=rfl;have ad:=Th v;have ag:=Th G;obtain⟨g,f,t,rfl,hg,_⟩:=ho;have s:∀W:U,(binOp .eql 26 (.k (Z ⟨g,f,Y⟩) l.j t) (ν)).run prog W=.ok (.i false) W:=λW=>by
  have:=run_equal_slice_nil W 26 24 (Z ⟨g,f,Y⟩) l.j t underlying26;simp[binOp,this]
 clear hc v G;by_cases p:l.j=cs.j
 .have S:((l.j:Int) != (cs.j:Int))=false:=by rw[p];simp
  have J:=Th p;have am:l.j<=1000:=η;have H0:X (vw cs (Z l)=((cs.drop 0).zip (l.drop 0)).all λx=>vz x.1 x.2):=by rw[X,B.l];simp[p]
  clear p B;go_enter func71,ntmps71;go_wp2;clear S s;go_loopw [16] (λae wr=>∃k:Nat,k<=cs.j/\ae=ι k/\X (vw cs (Z l)=((cs.drop k).zip (l.drop k)).all λx=>vz x.1 x.2)/\μ w wr) (λi _=>cs.j-(intOf i).D);exact⟨0,zs _,rfl,H0,γ⟩;clear H0;obtain⟨k,hk,rfl,B,a⟩:=hrel;have al:=a.q;by_cases r:k<cs.j
  .have R:k<l.j:=by rw[J.l];exact r
   obtain⟨g0,z,j,A,n,rfl,q,F,I,P,C,M,V⟩:=af.l.cell k r;obtain⟨L,N⟩:=ag.l cs[k] (zq r);obtain⟨_,_,u,H,_,hu,K⟩:=HO.l.cell k R;simp only[zt,Addr.mk.injEq,and_true] at H;obtain⟨rfl,rfl⟩:=H;have D:=ad.l l[k] (zq R);have E:=Th λW hW=>Nz W cs[k] _ _ u l[k] (M.u hW) (V.u hW) L N (K.u hW) D;have T:X (((cs.drop k).zip (l.drop k)).all (λx=>vz x.1 x.2)=(vz cs[k] l[k]&&((cs.drop (k+1)).zip (l.drop (k+1))).all λx=>vz x.1 x.2)):=Sj cs l J.l k r;have e0:=zi a q F;have e1:=zi a q I;have e2:=zi a q P;have e3:=zi a q C;have eu:=zi a hg hu;have aj:g0<wr.o.q:=η;have Q:g<wr.o.q:=η;clear F I P C hu K M V L N D;generalize cs[k]=c at *;generalize vz c l[k]=b at *;have aa:=Ti.new wr #[.i c.g.i,.d c.g.o,.k z c.g.k.j j,.k A c.d.j n] 171;cases b
   .go_wp2;go_region_held3 (λh=>h.p ⟨wr.o.q,0,Y⟩=Z (.i c.g.i)/\h.p ⟨wr.o.q,1,Y⟩=Z (.d c.g.o)/\h.p ⟨wr.o.q,2,Y⟩=Z (.k z c.g.k.j j)/\h.p ⟨wr.o.q,3,Y⟩=Z (.k A c.d.j n)/\h.p ⟨g,f+k,Y⟩=Z u) (first|go_keep|(go_split_ands;refine⟨?_,?_,?_,?_,?_⟩<;>go_keep)) (first|(go_at_call 112;refine(E.l _ (by exact(zT a γ (zf _)))).y ?_;rintro e w4 ⟨rfl,d⟩;have m:μ wr w4:=(zT γ d (zf _));have y:=aa.u (by first|exact d|exact(zI (zn _ _) _).A d);obtain⟨ab,ac⟩:=y.H;have ai:=(zi m Q eu)))
    go_wp2;go_ret;exact⟨by rw[B.l,T.l];rfl,Tl a m⟩
   go_wp2;go_region_held3 (λh=>h.p ⟨wr.o.q,0,Y⟩=Z (.i c.g.i)/\h.p ⟨wr.o.q,1,Y⟩=Z (.d c.g.o)/\h.p ⟨wr.o.q,2,Y⟩=Z (.k z c.g.k.j j)/\h.p ⟨wr.o.q,3,Y⟩=Z (.k A c.d.j n)/\h.p ⟨g,f+k,Y⟩=Z u) (first|go_keep|(go_split_ands;refine⟨?_,?_,?_,?_,?_⟩<;>go_keep)) (first|(go_at_call 112;refine(E.l _ (by exact(zT a γ (zf _)))).y ?_;rintro e w4 ⟨rfl,d⟩;have m:μ wr w4:=(zT γ d (zf _));have y:=aa.u (by first|exact d|exact(zI (zn _ _) _).A d);obtain⟨ab,ac⟩:=y.H;have ai:=(zi m Q eu)))
   go_wp2;go_roundw;exact⟨k+1,η,ξ,by rw[X,B.l,T.l];simp,Tl a m⟩;simp[intOf];omega
  have HZ:X (vw cs (Z l)=true):=by rw[X,B.l,uk η];rfl
  go_wp2;go_ret;exact⟨by rw[HZ.l];rfl,a⟩
 have S:((l.j:Int) != (cs.j:Int))=true:=by rw[bne_iff_ne];omega
 have H0:X (vw cs (Z l)=false):=by rw[X,B.l];simp[p]
 go_enter func71,ntmps71;go_wp2;go_ret;exact⟨by rw[H0.l];rfl,γ⟩
end
end Go.Proofs.YteampbddflhngaaGreat
