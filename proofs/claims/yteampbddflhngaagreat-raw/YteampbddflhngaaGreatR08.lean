import Derived.Test.YteampbddflhngaaGreatR02
namespace Go.Proofs.YteampbddflhngaaGreat
open List renaming length→List.j,getD→List.g,take→List.G,toArray→List.F,foldl→List.H
open _root_.Array renaming size→Array.q,getD→Array.g,foldl→Array.H
open _root_.ByteArray renaming size→ByteArray.q
open Go.RowKit.Below renaming size→Go.RowKit.Below.q,setCell→Go.RowKit.Below.x,mono→Go.RowKit.Below.y,trans→Go.RowKit.Below.A,alloc→Go.RowKit.Below.C
open Go.TypeInfo renaming size→Go.TypeInfo.q
open Go.RowKit.Hid renaming out→Go.RowKit.Hid.l
open Go.Shut renaming out→Go.Shut.l
open Go.World renaming heap→Go.World.o,setCell→Go.World.x,cell?→Go.World.p,alloc→Go.World.C
open Go.Value renaming slice→Go.Value.k,string→Go.Value.d,bool→Go.Value.i,cells→Go.Value.E,ownBlock→Go.Value.m,pointer→Go.Value.u,tuple→Go.Value.B
open Go.TypeDesc renaming slice→Go.TypeDesc.k,string→Go.TypeDesc.d,bool→Go.TypeDesc.i,pointer→Go.TypeDesc.u,tuple→Go.TypeDesc.B
open Option renaming getD→Option.g,isSome→Option.I,some→Z,none→Y
open Go.Calls renaming mono→Go.Calls.y
open Eq renaming trans→Eq.A
open Iff renaming trans→Iff.A
open Go.Obj renaming cells→Go.Obj.E
open Int renaming toNat→Int.D
open UInt8 renaming toNat→UInt8.D
open Go.RowKit renaming Hid→X
open Go renaming World→U,Value→O
set_option linter.all false
set_option maxRecDepth 100000
set_option maxHeartbeats 4000000
open Go.RowKit
section
open Go.Proofs.Tryz
variable {lo:Nat}
def TJ(ns:κ)(x:ByteArray):Nat->Nat->Nat->Nat
 |0,l,_=>l
 |n+1,l,h=>if l<h then(if TB (ns.g (l+(h-l) / 2) ByteArray.empty) x then TJ ns x n (l+(h-l) / 2+1) h else TJ ns x n l (l+(h-l) / 2)) else l
def ur(ns:κ)(x:ByteArray):Nat:=TJ ns x (ns.j+1) 0 ns.j
def mX(lo:Nat)(w:U)(a:Nat)(ns:κ):Prop:=lo<=a/\∃v,Th w a #[v] 141/\Tn lo w v ns
def mX.u{w w':U}{a:Nat}{ns:κ}(h:mX lo w a ns)(b:μ w w'):mX lo w' a ns:=by
 obtain⟨d,v,c,e⟩:=h;exact⟨d,v,c.u b,e.u b⟩
def FI(w:U)(u:Nat)(ns:κ)(x:ByteArray)(h:mX lo w u ns)(N:ns.j<=1000):
  Calls prog 168 #[(π u),.d x] w λe L=>e=ε (ι (ur ns x:Nat))/\∃m,L=w.drewN m:=by
 obtain⟨_,v,d,y⟩:=h;obtain⟨P,E,rfl⟩:=y.qy;obtain⟨J,D⟩:=d.H;go_enter func168,ntmps168;go_wp2;go_quiet (fail)
 have t:μ w (w.drewN nq):=zI (zn _ _) _;have i:=d.u t;have p:=y.u t;have r:X (∃m,w.drewN nq=w.drewN m):=⟨nq,rfl⟩;generalize w.drewN nq=F at *;obtain⟨J,D⟩:=i.H;go_wp2;go_loopg [5,6] (ns.j+1) (λk C I wr=>∃l h:Nat,C=ι l/\I=ι h/\h<=ns.j/\l<=ns.j/\h-l<k/\X (ur ns x=TJ ns x k l h)/\wr=F)
 case atStart=>exact⟨0,ns.j,rfl,rfl,η,η,η,rfl,rfl⟩
 obtain⟨l,h,rfl,rfl,A,s,H,z,rfl⟩:=hrel;rcases gk with _|m;omega;by_cases c:l<h
 .obtain⟨a,f⟩:∃a,a=l+(h-l) / 2:=⟨_,rfl⟩;have K:l<=a:=η;have G:a<h:=η;have B:(l:Int)+((h:Int)-(l:Int)).tdiv 2=(a:Int):=by
   rw[Int.tdiv_eq_ediv_of_nonneg η];omega
  have b:a<ns.j:=η;have q:=z.l;unfold TJ at q;rw[zb c,←f,show ns.g a ByteArray.empty=ns[a] from by simp[List.getD_eq_getElem?_getD,b]] at q;obtain⟨g,rfl,M,o⟩:=p.cell a b;clear f;cases n:TB ns[a] x
  .rw[n,za ζ] at q;have j:=Tg q;unfold TB at n;go_wp2;go_roundg m
   case measure=>omega
   exact⟨l,a,rfl,rfl,η,s,η,j,rfl⟩
  rw[n,zb rfl] at q;have j:=Tg q;unfold TB at n;go_wp2;go_roundg m
  case measure=>omega
  exact⟨a+1,h,ξ,rfl,A,η,η,j,rfl⟩
 have q:=z.l;unfold TJ at q;rw[za c] at q;have j:=Tg q;go_wp2;go_ret;exact⟨by rw[j.l];rfl,r.l⟩
def xr(ns:κ)(x:ByteArray):Option Nat:=if ur ns x<ns.j/\ns.g (ur ns x) ByteArray.empty=x then Z (ur ns x) else Y
def RS(w:U)(n:Nat)(ns:κ)(x:ByteArray)(h:mX lo w n ns)(C:ns.j<=1000):
  Calls prog 129 #[(π n),.d x] w λe l=>e=ε (.B #[ι (((xr ns x).g 0:Nat):Int),.i (xr ns x).I])/\∃m,l=w.drewN m:=by
 have s:=Tg (FI w n ns x h C);obtain⟨_,v,d,t⟩:=h;obtain⟨F,B,rfl⟩:=t.qy;have f:X (xr ns x=if ur ns x<ns.j/\ns.g (ur ns x) ByteArray.empty=x then Z (ur ns x) else Y):=rfl;generalize ur ns x=c at *;by_cases j:c<ns.j
 .have D:ns.g c ByteArray.empty=ns[c]:=by simp[List.getD_eq_getElem?_getD,j]
  rw[D] at f;by_cases o:ns[c]=x
  .rw[zb ⟨j,o⟩] at f;obtain⟨g,rfl,i,b⟩:=t.cell c j;go_enter func129,ntmps129;go_wp2_with (go_at_call 168;refine s.l.y ?_;rintro r l ⟨rfl,m,rfl⟩;have a:=d.u (zI (zn _ _) m);obtain⟨z,y,k⟩:=a.e;have E:=((zI (zn w.o.q w) m).cell (p:=(ω g c)) i).A b;have u:g<(w.drewN m).o.q:=i)
   go_ret2
   exact⟨by rw[f.l];rfl,m,rfl⟩
  rw[za (λq=>o q.2)] at f;obtain⟨g,rfl,i,b⟩:=t.cell c j;have A:=vV o;go_enter func129,ntmps129;go_wp2_with (go_at_call 168;refine s.l.y ?_;rintro r l ⟨rfl,m,rfl⟩;have a:=d.u (zI (zn _ _) m);obtain⟨z,y,k⟩:=a.e;have E:=((zI (zn w.o.q w) m).cell (p:=(ω g c)) i).A b;have u:g<(w.drewN m).o.q:=i)
  go_ret2
  exact⟨by rw[f.l];rfl,m,rfl⟩
 rw[za (λq=>j q.1)] at f;go_enter func129,ntmps129;go_wp2_with (go_at_call 168;refine s.l.y ?_;rintro r l ⟨rfl,m,rfl⟩;have a:=d.u (zI (zn _ _) m);obtain⟨z,y,k⟩:=a.e)
 go_ret2
 exact⟨by rw[f.l];rfl,m,rfl⟩
def M4(w:U)(c:Nat)(ns:κ)(h:mX lo w c ns):
  Calls prog 114 #[(π c)] w λe f=>e=ε (ι ns.j)/\f=w:=by
 obtain⟨_,v,a,b⟩:=h;obtain⟨k,d,rfl⟩:=b.qy;obtain⟨j,i,g⟩:=a.e;clear b;go_enter func114,ntmps114;go_wp2;go_ret;exact⟨rfl,rfl⟩
def jY(lo:Nat)(w:U)(a:Nat)(v:O)(ns:κ):Prop:=lo<=a/\Th w a #[v] 141/\Tn lo w v ns
def jY.tab{w:U}{a:Nat}{v:O}{ns:κ}(h:jY lo w a v ns):mX lo w a ns:=⟨h.1,v,h.2.1,h.2.2⟩
def jY.u{w w':U}{a:Nat}{v:O}{ns:κ}(h:jY lo w a v ns)(b:μ w w'):jY lo w' a v ns:=⟨h.1,h.2.1.u b,h.2.2.u b⟩
def mO(ns:κ)(x:ByteArray):κ:=if ur ns x<ns.j/\ns.g (ur ns x) ByteArray.empty=x then ns else ns.G (ur ns x)++x::ns.drop (ur ns x)
def AJ(lo:Nat)(w:U)(b:Nat)(v:O)(ns:κ)(e:Ending)(w':U):Prop:=e=ε (.B #[])/\∃a,jY lo w' b a ns/\zd (b::v.m.toList) w w'/\(a.m=v.m∨∃g,a.m=Z g/\w.o.q<=g)
def NQ(ns:κ)(x:ByteArray)(k:Nat)(b:k<ns.j):(((ns.G (k+1)++x::ns.drop (k+1)).set (k+1) ns[k]).set k x)=ns.G k++x::ns.drop k:=by
 have a:(ns.G k).j=k:=by simp;omega
 rw[yM b,xn b,kO,l0 _ _ η,a,show k+1-k=1 from by omega,l0 _ _ η,a,jC];rfl
def M2(w:U)(n:Nat)(v:O)(ns:κ)(x:ByteArray)(h:jY lo w n v ns)(hl:ns.j<=900):
  Calls prog 157 #[(π n),.d x] w λe w'=>AJ lo w n v (mO ns x) e w':=by
 have HP:=Tg (FI w n ns x h.tab η);have HH:=Tg h;obtain⟨aj,Q,hs⟩:=h;obtain⟨ao,l,rfl⟩:=hs.qy;have HE:X (mO ns x=if ur ns x<ns.j/\ns.g (ur ns x) ByteArray.empty=x then ns else ns.G (ur ns x)++x::ns.drop (ur ns x)):=rfl;generalize ur ns x=f at *;by_cases S:f<ns.j/\ns.g f ByteArray.empty=x
 .rw[zb S] at HE;obtain⟨T,h2⟩:=S;rw[show ns.g f ByteArray.empty=ns[f] from by simp[List.getD_eq_getElem?_getD,T]] at h2;obtain⟨g,rfl,V,B⟩:=hs.cell f T;have aq:=jt h2;clear h2;generalize ns[f]=y at *;go_enter func157,ntmps157;go_wp2_with (go_at_call 168;refine HP.l.y ?_;rintro r w' ⟨rfl,m,rfl⟩;have c:=Q.u (zI (zn _ _) m);obtain⟨hc,hf,E⟩:=c.e;have hx:=((zI (zn w.o.q w) m).cell (p:=(ω g f)) V).A B;have a2:g<(w.drewN m).o.q:=V)
  (try simp only[Exit.inBlock,Exit.then]);refine zO (results_none rfl _ _ _) rfl ?_
  exact⟨rfl,_,by rw[HE.l];exact HH.l.u (zI (zn _ _) m),zd.of (zI (zn _ _) m),zh rfl⟩
 rw[za S] at HE;obtain⟨i0,hi,ag,am,af⟩:=info_parts SL;have an:X (∀m,f<ns.j->∃(y:ByteArray) (g:Nat),ao=Z (δ g)/\g<(w.drewN m).o.q/\(w.drewN m).p (ω g f)=Z (.d y)/\(y.toList == x.toList)=false):=λm T=>by
  obtain⟨g,e,V,B⟩:=hs.cell f T;have hn:ns[f]≠x:=λq=>S ⟨T,by rw[←q];simp[List.getD_eq_getElem?_getD,T]⟩;exact⟨ns[f],g,e,V,((zI (zn w.o.q w) m).cell (p:=(ω g f)) V).A B,vV hn⟩
 have ay:lo<=w.o.q:=by have:=Q.lt;omega
 by_cases T:f<ns.j
 .obtain⟨yy,gg,e1,_⟩:=an.l 0 T;subst e1;go_enter func157,ntmps157;go_wp2_with (first|(go_at_call 168;refine HP.l.y ?_;rintro r w' ⟨rfl,m,rfl⟩;have o:μ w (w.drewN m):=(zI (zn _ _) m);have c:=Q.u o;obtain⟨hc,hf,E⟩:=c.e;have H:=hs.u o;obtain⟨y,g,e1,V,hx,aq⟩:=an.l m T;simp only[zt,Addr.mk.injEq] at e1;obtain⟨rfl,_⟩:=e1)|(at_builtin;refine kc (w.drewN m) _ [.d x] _ rfl (.tmp 31) (.tmp 33) 30 rfl lo 9 i0 _ 1 16 underlying30 hi ag am af rfl θ (.k (Z (δ gg)) ns.j l) ns.j (ns.map O.string) rfl H (zn _ _) _ _ rfl ζ rfl a_ η η η ?_;intro v' R s C t;obtain⟨av,a,rfl⟩:=zr s;have d:=c.save C (jx H c θ);obtain⟨ac,ab,J⟩:=d.e))
  obtain⟨b,ak,P,ae,au,_⟩:=yr s η;simp only[O.slice.injEq] at P;obtain⟨rfl,_,I⟩:=P;clear I;have G:b≠n:=vW s d θ rfl;have u:=d.set 0 (.k (Z (δ b)) (ns.j+1) a);simp at u;have W:Tn lo (R.x (δ n) (.k (Z (δ b)) (ns.j+1) a)) (.k (Z (δ b)) (ns.j+1) a) (ns.G ns.j++x::ns.drop ns.j):=by
   have q:=xL s ((Tu.refl n R).x 0 (.k (Z (δ b)) (ns.j+1) a)) d θ;unfold Tn;simpa using q
  have K:∀y∈[b],y∈n::(O.slice (Z (δ gg)) ns.j l).m.toList∨w.o.q<=y:=λy A=>by
   simp only[xQ] at A;subst A;rcases t with q|⟨g,q,V⟩;left;simp only[zG];right;rw[←q];simp[O.ownBlock];right;simp only[O.ownBlock,zt] at q;have:=o.q;omega
  have N:zd (n::(O.slice (Z (δ gg)) ns.j l).m.toList) w (R.x (δ n) (.k (Z (δ b)) (ns.j+1) a)):=((zd.of (M:=n::(O.slice (Z (δ gg)) ns.j l).m.toList) o).newer C (λy A=>zh (nX _ A))).newer (zd.set _ _ _ _) (λy A=>zh (by simp at A;simp[A]));have L:(O.slice (Z (δ b)) (ns.j+1) a).m=(O.slice (Z (δ gg)) ns.j l).m∨∃g,(O.slice (Z (δ b)) (ns.j+1) a).m=Z g/\w.o.q<=g:=t.imp id (fun⟨g,q1,q2⟩=>⟨g,q1,by have:=o.q;omega⟩);clear hc hf E ac ab J C t s;generalize R.x (δ n) (.k (Z (δ b)) (ns.j+1) a)=w5 at *;generalize decide (f<ns.j)=bq;go_loopw [5] (λv5 wr=>∃k:Nat,v5=ι k/\k<=ns.j/\(f<=k∨k=ns.j)/\Th wr n #[.k (Z (δ b)) (ns.j+1) a] 141/\Tn lo wr (.k (Z (δ b)) (ns.j+1) a) (ns.G k++x::ns.drop k)/\zd (n::(O.slice (Z (δ gg)) ns.j l).m.toList) w wr) (λi _=>(intOf i).D);exact⟨ns.j,ξ,zg _,ze rfl,u,W,N⟩;obtain⟨k,rfl,hk,ar,F,z,D⟩:=hrel;obtain⟨hc,hf,E⟩:=F.e;by_cases al:f<k
  .obtain⟨j,rfl⟩:∃j,k=j+1:=⟨k-1,η⟩;have hj:j<ns.j:=η;have ai:(ns.G (j+1)++x::ns.drop (j+1)).j=ns.j+1:=by simp;omega
   have az:b<wr.o.q:=yG z rfl;have a4:=vg z;obtain⟨_,e0,_,ax⟩:=z.cell j η;obtain⟨_,e1,_,a1⟩:=z.cell (j+1) η;simp only[zt,Addr.mk.injEq] at e0 e1;obtain⟨rfl,_⟩:=e0;obtain⟨rfl,_⟩:=e1;have ej:(ns.G (j+1)++x::ns.drop (j+1))[j]'η=ns[j]:=by
    rw[uH υ];simp
   rw[ej] at ax;have q1:=uB z (j+1) υ (.d ns[j]);have q2:=uB q1 j υ (.d x);have el:(((ns.G (j+1)++x::ns.drop (j+1)).map O.string).set (j+1) (.d ns[j])).set j (.d x)=(ns.G j++x::ns.drop j).map O.string:=by
    rw[←lx,←lx,NQ ns x j hj]
   rw[el] at q2;have ad:(ns.G j++x::ns.drop j).j=ns.j+1:=by simp;omega
   have aw:Tn lo ((wr.x (ω b (j+1)) (.d ns[j])).x (ω b j) (.d x)) (.k (Z (δ b)) (ns.j+1) a) (ns.G j++x::ns.drop j):=by
    unfold Tn;rw[ad];rw[ai] at q2;exact q2
   have ap:=(F.set_ne (Ne.symm G) (j+1) (.d ns[j])).set_ne (Ne.symm G) j (.d x);have ah:=(D.newer (zd.set wr b (j+1) (.d ns[j])) K).newer (zd.set _ b j (.d x)) K;generalize (ns.G (j+1)++x::ns.drop (j+1))[j+1]'η=zz at *;clear ej q1 q2 el;generalize ns[j]=yj at *;have a0:(j:Int)<(ns.j:Int):=η;go_wp2;go_region
   all_goals
    go_wp2;go_roundw;exact⟨j,ξ,η,zh η,ap.u (zn _ _).drew,aw.u (zn _ _).drew,ah.newer (zd.of (M:=[]) (zn _ _).drew) ζ⟩;simp[intOf]
  have aa:X (ns.G k++x::ns.drop k=ns.G f++x::ns.drop f):=by
   rw[X];by_cases e:k=f;rw[e];obtain rfl:k=ns.j:=η;rw[yV (zg _),ib (zg _),yV η,ib η]
  go_wp2;go_end0
  exact⟨rfl,_,by rw[HE.l,←aa.l];exact⟨aj,F,z⟩,D,L⟩
 have a3:ns.j<=f:=η;go_enter func157,ntmps157;go_wp2_with (first|(go_at_call 168;refine HP.l.y ?_;rintro r w' ⟨rfl,m,rfl⟩;have o:μ w (w.drewN m):=(zI (zn _ _) m);have c:=Q.u o;obtain⟨hc,hf,E⟩:=c.e;have H:=hs.u o)|(at_builtin;refine kc (w.drewN m) _ [.d x] _ rfl (.tmp 31) (.tmp 33) 30 rfl lo 9 i0 _ 1 16 underlying30 hi ag am af rfl θ (.k ao ns.j l) ns.j (ns.map O.string) rfl H (zn _ _) _ _ rfl ζ rfl a_ η η η ?_;intro v' R s C t;obtain⟨av,a,rfl⟩:=zr s;have d:=c.save C (jx H c θ);obtain⟨ac,ab,J⟩:=d.e))
 obtain⟨b,ak,P,ae,au,_⟩:=yr s η;simp only[O.slice.injEq] at P;obtain⟨rfl,_,I⟩:=P;clear I;have G:b≠n:=vW s d θ rfl;have u:=d.set 0 (.k (Z (δ b)) (ns.j+1) a);simp at u;have W:Tn lo (R.x (δ n) (.k (Z (δ b)) (ns.j+1) a)) (.k (Z (δ b)) (ns.j+1) a) (ns.G ns.j++x::ns.drop ns.j):=by
  have q:=xL s ((Tu.refl n R).x 0 (.k (Z (δ b)) (ns.j+1) a)) d θ;unfold Tn;simpa using q
 have K:∀y∈[b],y∈n::(O.slice ao ns.j l).m.toList∨w.o.q<=y:=λy A=>by
  simp only[xQ] at A;subst A;rcases t with q|⟨g,q,V⟩;left;simp only[zG];right;rw[←q];simp[O.ownBlock];right;simp only[O.ownBlock,zt] at q;have:=o.q;omega
 have N:zd (n::(O.slice ao ns.j l).m.toList) w (R.x (δ n) (.k (Z (δ b)) (ns.j+1) a)):=((zd.of (M:=n::(O.slice ao ns.j l).m.toList) o).newer C (λy A=>zh (nX _ A))).newer (zd.set _ _ _ _) (λy A=>zh (by simp at A;simp[A]));have L:(O.slice (Z (δ b)) (ns.j+1) a).m=(O.slice ao ns.j l).m∨∃g,(O.slice (Z (δ b)) (ns.j+1) a).m=Z g/\w.o.q<=g:=t.imp id (fun⟨g,q1,q2⟩=>⟨g,q1,by have:=o.q;omega⟩);clear hc hf E ac ab J C t s;generalize R.x (δ n) (.k (Z (δ b)) (ns.j+1) a)=w5 at *;generalize decide (f<ns.j)=bq;go_loopw [5] (λv5 wr=>∃k:Nat,v5=ι k/\k<=ns.j/\(f<=k∨k=ns.j)/\Th wr n #[.k (Z (δ b)) (ns.j+1) a] 141/\Tn lo wr (.k (Z (δ b)) (ns.j+1) a) (ns.G k++x::ns.drop k)/\zd (n::(O.slice ao ns.j l).m.toList) w wr) (λi _=>(intOf i).D);exact⟨ns.j,ξ,zg _,ze rfl,u,W,N⟩;obtain⟨k,rfl,hk,ar,F,z,D⟩:=hrel;obtain⟨hc,hf,E⟩:=F.e;by_cases al:f<k;exact zB al η;have aa:X (ns.G k++x::ns.drop k=ns.G f++x::ns.drop f):=by
  rw[X];by_cases e:k=f;rw[e];obtain rfl:k=ns.j:=η;rw[yV (zg _),ib (zg _),yV η,ib η]
 go_wp2;go_end0
 exact⟨rfl,_,by rw[HE.l,←aa.l];exact⟨aj,F,z⟩,D,L⟩
end
section
open Go.Proofs.Tryz
variable {lo:Nat}{cb:Nat}
def qM(ns:κ)(t:ByteArray):κ:=if zT t then ns else mO ns t
def uV(ns:κ)(l:zj):κ:=l.k.H qM ns
def q7(ns:κ)(c:zc):κ:=c.d.H uV (uV ns c.g)
def zp(cs:List zc):κ:=cs.H q7 []
def Nq(ns:κ)(t:ByteArray):(qM ns t).j<=ns.j+1:=by
 unfold qM;split;omega;unfold mO;split;omega;simp only[yN,xt,vc,List.length_drop];omega
def wO(ts:κ):∀a:κ,(ts.H qM a).j<=a.j+ts.j:=by
 induction ts with
 |nil=>intro a;simp
 |cons t ts b=>intro a;have:=b (qM a t);have:=Nq a t;simp only[uG,xt];omega
def kU(l:zj):Nat:=l.k.j
def dS(a:List zj):Nat:=(a.map kU).sum
def lL(cs:List zc):Nat:=(cs.map λc=>kU c.g+dS c.d).sum
def EP(b:Ω):∀a:κ,(b.H uV a).j<=a.j+dS b:=by
 induction b with
 |nil=>intro a;simp[dS]
 |cons l b c=>intro a;have:=c (uV a l);have:=wO l.k a;simp only[uG,dS,un,qD,kU] at *;unfold uV at *;omega
def Bv(cs:Ξ):∀a:κ,(cs.H q7 a).j<=a.j+lL cs:=by
 induction cs with
 |nil=>intro a;simp[lL]
 |cons c cs b=>intro a;have:=b (q7 a c);have:=EP c.d (uV a c.g);have:=wO c.g.k a;simp only[uG,lL,un,qD] at *;unfold q7 kU at *;unfold uV at *;omega
def I0(a:Ω)(k:Nat)(b:k<a.j):dS (a.G k)+kU a[k]<=dS a:=by
 have e:a=a.G k++a[k]::a.drop (k+1):=by rw[←xn b,kj]
 conv=>rhs;rw[e]
 simp only[dS,qF,un,List.sum_append,qD];omega
def Ks(cs:Ξ)(k:Nat)(a:k<cs.j):lL (cs.G k)+(kU cs[k].g+dS cs[k].d)<=lL cs:=by
 have e:cs=cs.G k++cs[k]::cs.drop (k+1):=by rw[←xn a,kj]
 conv=>rhs;rw[e]
 simp only[lL,qF,un,List.sum_append,qD];omega
def lR(cb:Nat)(w w':U):Prop:=∀b c t,b≠cb->9≠t->Th w b c t->Th w' b c t
def lR.of{w w':U}(h:μ w w'):lR cb w w':=λ_ _ _ _ _ q=>q.u h
def lR.A{a b c:U}(h:lR cb a b)(k:lR cb b c):lR cb a c:=λ_ _ _ n m q=>k _ _ _ n m (h _ _ _ n m q)
def AJ.next{B:Nat}{k w w':U}{v:O}{ns d:κ}{e:Ending}(a:jY B w cb v ns)(n:Below B k w)(h:AJ B w cb v d e w'):e=ε (.B #[])/\∃i,jY B w' cb i d/\Below B k w'/\lR cb w w':=by
 obtain⟨rfl,i,m,j,p⟩:=h;refine⟨rfl,i,m,n.A (j.u (λx g=>?_) ?_),λb c t l o q=>q.save j λf=>?_⟩;simp only[zG] at g;rcases g with rfl|g;exact a.1;exact yU a.2.2 (xa g);have:=a.1;have:=a.2.1.lt;omega;simp only[zG] at f;rcases f with rfl|f;exact l rfl;exact vW a.2.2 q o (xa f) rfl
def Mp(c w:U)(cb:Nat)(v:O)(ns:κ)(l:zj)(I:O)(hs:Tn lo c I l.k)(M:μ c w)(h:jY c.o.q w cb v ns)(K:ns.j+kU l<=900):
  Calls prog 113 #[(π cb),.agg #[.i l.i,.d l.o,I]] w λe j=>e=ε (.B #[])/\∃o,jY c.o.q j cb o (uV ns l)/\μ c j/\lR cb w j:=by
 obtain⟨ao,P,rfl⟩:=hs.qy;have HI:=Tg fun(W:U) (v:O) (ns:κ) (x:ByteArray) (a:jY c.o.q W cb v ns) (b:ns.j<=900)=>M2 W cb v ns x a b;have HE:X (uV ns l=l.k.H qM ns):=rfl;have R:=Tg h;have N:=M.q;have ab:l.k.j<=900:=by unfold kU at K;omega
 have u:X (∀k,k<l.k.j->((l.k.G k).H qM ns).j<=900):=λk V=>by
  have:=wO (l.k.G k) ns;simp only[vc] at this;unfold kU at K;omega
 generalize l.k=f at *;go_enter func113,ntmps113;go_wp2;go_loopw [9] (λT wr=>∃(k:Nat) (o:O),k<=f.j/\T=ι k/\X (jY c.o.q wr cb o ((f.G k).H qM ns))/\μ c wr/\X (lR cb w wr)) (λi _=>f.j-(intOf i).D);exact⟨0,v,zs _,rfl,R.l.u γ,M.C N _,lR.of γ⟩;obtain⟨k,o,V,rfl,y,d,E⟩:=hrel;have J:=d.q;by_cases p:k<f.j
 .obtain⟨g,rfl,Q,m⟩:=hs.cell k p;have aa:=zi d Q m;have L:X ((f.G (k+1)).H qM ns=qM ((f.G k).H qM ns) f[k]):=by rw[X,yM p,qZ];rfl
  have z:=u.l k p;have A:X (∀a x,qM a x=if zT x then a else mO a x):=λ_ _=>rfl;generalize (f.G k).H qM ns=t at *;generalize f[k]=x at *;cases B:zT x
  .have G:X (∀W,Calls prog 156 #[.d x] W λe j=>e=ε (.i false)/\j=W):=λW=>by rw[←B];exact lX x W
   have H:X (qM t x=mO t x):=by rw[X,A.l,B];rfl
   go_wp2_with (first|(go_at_call 156;refine(G.l _).y ?_;rintro e j ⟨rfl,n⟩;obtain rfl:=n.symm)|(go_at_call 157;refine(HI.l wr o t x y.l z).y ?_;intro e w2 q;obtain⟨rfl,S,s,F,r⟩:=q.next y.l d;have D:=Tg (E.l.A r);clear r;have C:=Tg s;clear q s))
   go_roundw;exact⟨k+1,S,η,ξ,by rw[L.l,H.l];exact C.l,F,D⟩;simp[intOf];omega
  have G:X (∀W,Calls prog 156 #[.d x] W λe j=>e=ε (.i true)/\j=W):=λW=>by rw[←B];exact lX x W
  have H:X (qM t x=t):=by rw[X,A.l,B];rfl
  go_wp2_with (go_at_call 156;refine(G.l _).y ?_;rintro e j ⟨rfl,n⟩;obtain rfl:=n.symm)
  go_roundw;exact⟨k+1,o,η,ξ,by rw[L.l,H.l];exact y.l,d,E⟩;simp[intOf];omega
 rw[yV η] at y;go_wp2;go_end0
 exact⟨rfl,o,by rw[HE.l];exact y.l,d,E.l⟩
def DK(cs:List zc):Prop:=lL cs<=900/\cs.j<=1000/\∀c∈cs,c.d.j<=1000
def P5(w:U)(v:O)(cs:Ξ)(h:TO lo 171 w v cs)(hf:DK cs):
  Calls prog 72 #[v] w λe w'=>∃r,e=ε (.agg #[r])/\Tn w.o.q w' r (zp cs)/\μ w w':=by
 obtain⟨ao,aF,rfl⟩:=h.qy;obtain⟨aD,aJ,ae⟩:=hf;have HA:=Tg fun(W:U) (v:O) (ns:κ) (l:zj) (va:O) (a:Tn lo w va l.k) (b:μ w W) (c:jY w.o.q W (w.o.q+1) v ns) (d:ns.j+kU l<=900)=>Mp w W _ v ns l va a b c d;have HE:X (zp cs=cs.H q7 []):=rfl;have HH:=Tg h;have H:X (∀k (hk:k<cs.j),((cs.G k).H q7 []).j+kU cs[k].g+dS cs[k].d<=900):=λk hk=>by
  have:=Bv (cs.G k) [];have:=Ks cs k hk;simp only[qW] at *;omega
 have al:=(Th.new w #[ν] 141).u ((zn _ _).C (zg _) (.E #[ν] 141));have Q:=Th.new (w.C (.E #[ν] 141)) #[ν] 141;have a4:μ w ((w.C (.E #[ν] 141)).C (.E #[ν] 141)):=γ;simp only[U.size_alloc] at Q;go_enter func72,ntmps72;go_wp2;generalize ((w.C (.E #[ν] 141)).C (.E #[ν] 141))=wA at *;go_loopw [10] (λai wr=>∃(k:Nat) (r:O),k<=cs.j/\ai=ι k/\X (jY w.o.q wr (w.o.q+1) r ((cs.G k).H q7 []))/\Th wr w.o.q #[ν] 141/\μ w wr) (λi _=>cs.j-(intOf i).D);exact⟨0,_,zs _,rfl,⟨η,Q,Tn.nil _⟩,al,a4⟩;obtain⟨k,r,hk,rfl,I,o,m⟩:=hrel;have a7:=m.q;by_cases q:k<cs.j
 .obtain⟨g,a3,L,az,N,z,hg,q0,q1,q2,q3,ab,G⟩:=HH.l.cell k q;subst z;have a2:=zi m hg q0;have af:=zi m hg q1;have ac:=zi m hg q2;have ay:=zi m hg q3;have aO:g<wr.o.q:=η;have HS:X ((cs.G (k+1)).H q7 []=q7 ((cs.G k).H q7 []) cs[k]):=by rw[X,yM q,qZ];rfl
  have J:=H.l k q;have an:=ae _ (zq q);have aq:X (∀a c,q7 a c=c.d.H uV (uV a c.g)):=λ_ _=>rfl;clear q0 q1 q2 q3;generalize (cs.G k).H q7 []=nk at *;generalize cs[k]=c at *;have ah:=Tg λW a b=>HA.l W r nk c.g _ ab b a η;have V:=(Th.new wr #[.i c.g.i,.d c.g.o,.k a3 c.g.k.j L,.k az c.d.j N] 171);go_upto_region 6 with (first|(go_at_call 113;refine(ah.l _ (I.l.u γ) (zQ m γ (zg _))).y ?_;rintro e w2 ⟨rfl,v2,E,S,x⟩))
  have a8:=I.l.2.1.lt;have T:=x _ _ _ η θ V;have M:=x _ _ _ η θ (o.u zP);obtain⟨ag,ak,a1⟩:=T.e;have aQ:=S.q;have R:=Tg E;have u:X ((uV nk c.g).j+dS c.d<=900):=by
   have:=wO c.g.k nk;unfold kU at J;unfold X uV;omega
  clear x V E a2 af ac ay;go_wp2;clear ag ak a1;obtain⟨f,C⟩:∃f,f=c.d:=⟨_,rfl⟩;have a5:=Tg C;rw[←C] at G an u ⊢;clear C;obtain⟨t,y⟩:∃t,t=uV nk c.g:=⟨_,rfl⟩;have a0:=Tg y;rw[←y] at R u;clear y;go_loopw [20] (λam wr=>∃(j:Nat) (r:O),j<=f.j/\am=ι j/\X (jY w.o.q wr (w.o.q+1) r ((f.G j).H uV t))/\Th wr w.o.q #[ν] 141/\μ w wr) (λi _=>f.j-(intOf i).D);exact⟨0,_,zs _,rfl,R,M,S⟩;obtain⟨j,v3,hj,rfl,D,s,n⟩:=hrel;have aB:=n.q;by_cases p:j<f.j
  .obtain⟨gl,aK,aA,z,B,p0,p1,p2,ar⟩:=G.cell j p;subst z;have aM:=zi n B p0;have aI:=zi n B p1;have aH:=zi n B p2;have a9:gl<wr.o.q:=η;have a6:X ((f.G (j+1)).H uV t=uV ((f.G j).H uV t) f[j]):=by rw[X,yM p,qZ];rfl
   have A:((f.G j).H uV t).j+kU f[j]<=900:=by
    have:=EP (f.G j) t;have:=I0 f j p;have:=u.l;omega
   clear p0 p1 p2;generalize (f.G j).H uV t=nj at *;generalize f[j]=l at *;have aw:=Tg λW a b=>HA.l W v3 nj l _ ar b a A;go_wp2_with (go_at_call 113;refine(aw.l _ (D.l.u γ) (zQ n γ (zg _))).y ?_;rintro e w4 ⟨rfl,v4,F,ap,P⟩;have av:=Tg F;have K:=P _ _ _ η θ (s.u zP);clear F P)
   go_roundw;exact⟨j+1,v4,η,ξ,by rw[a6.l];exact av.l,K,ap⟩;simp[intOf];omega
  rw[yV η,a5.l] at D;have HQ:X (jY w.o.q wr (w.o.q+1) v3 ((cs.G (k+1)).H q7 [])):=by rw[X,HS.l,aq.l,←a0.l];exact D.l
  go_wp2;go_roundw;exact⟨k+1,v3,η,ξ,HQ,s,n⟩;simp[intOf];omega
 rw[yV η] at I;obtain⟨ad,aa,rfl⟩:=I.l.2.2.qy;obtain⟨aN,au,ax⟩:=I.l;obtain⟨aL,aG,aC⟩:=au.e;obtain⟨aj,aE,aP⟩:=o.e;go_wp2
 (try simp only[Exit.inBlock,Exit.then])
 exact zO (v:=.agg #[.k ad (cs.H q7 []).j aa]) (by simp[results,results72,go_sem,aj]) rfl ⟨_,rfl,by rw[HE.l];exact(ax.but ((Tu.refl w.o.q wr).x 0 _) o θ),m.x ζ _⟩
end
section
open Go.Proofs.Tryz
variable {lo:Nat}
def Vd(lo:Nat)(w:U)(a o:Nat)(ns:κ):Prop:=a<w.o.q/\∃v,w.p ⟨a,o,Y⟩=Z v/\Tn lo w v ns
def Vd.u{w w':U}{b o:Nat}{ns:κ}(h:Vd lo w b o ns)(a:μ w w'):Vd lo w' b o ns:=by
 obtain⟨c,v,d,e⟩:=h;exact⟨ym c a.q,v,(a.cell c).A d,e.u a⟩
def Nk(w:U)(u o:Nat)(ns:κ)(x:ByteArray)(h:Vd lo w u o ns)(N:ns.j<=1000):
  Calls prog 168 #[.u (Z (ω u o)),.d x] w λe L=>e=ε (ι (ur ns x:Nat))/\∃m,L=w.drewN m:=by
 obtain⟨r,v,J,z⟩:=h;obtain⟨P,D,rfl⟩:=z.qy;go_enter func168,ntmps168;go_wp2;go_quiet (fail)
 have t:μ w (w.drewN nq):=zI (zn _ _) _;have F:=zi t r J;have n:=z.u t;have p:X (∃m,w.drewN nq=w.drewN m):=⟨nq,rfl⟩;generalize w.drewN nq=E at *;go_wp2;go_loopg [5,6] (ns.j+1) (λk C I wr=>∃l h:Nat,C=ι l/\I=ι h/\h<=ns.j/\l<=ns.j/\h-l<k/\X (ur ns x=TJ ns x k l h)/\wr=E)
 case atStart=>exact⟨0,ns.j,rfl,rfl,η,η,η,rfl,rfl⟩
 obtain⟨l,h,rfl,rfl,A,s,H,y,rfl⟩:=hrel;rcases gk with _|m;omega;by_cases c:l<h
 .obtain⟨a,d⟩:∃a,a=l+(h-l) / 2:=⟨_,rfl⟩;have K:l<=a:=η;have G:a<h:=η;have B:(l:Int)+((h:Int)-(l:Int)).tdiv 2=(a:Int):=by
   rw[Int.tdiv_eq_ediv_of_nonneg η];omega
  have b:a<ns.j:=η;have q:=y.l;unfold TJ at q;rw[zb c,←d,show ns.g a ByteArray.empty=ns[a] from by simp[List.getD_eq_getElem?_getD,b]] at q;obtain⟨g,rfl,M,j⟩:=n.cell a b;clear d;cases i:TB ns[a] x
  .rw[i,za ζ] at q;have f:=Tg q;unfold TB at i;go_wp2;go_roundg m
   case measure=>omega
   exact⟨l,a,rfl,rfl,η,s,η,f,rfl⟩
  rw[i,zb rfl] at q;have f:=Tg q;unfold TB at i;go_wp2;go_roundg m
  case measure=>omega
  exact⟨a+1,h,ξ,rfl,A,η,η,f,rfl⟩
 have q:=y.l;unfold TJ at q;rw[za c] at q;have f:=Tg q;go_wp2;go_ret;exact⟨by rw[f.l];rfl,p.l⟩
def LG(w:U)(c o:Nat)(ns:κ)(x:ByteArray)(h:Vd lo w c o ns)(C:ns.j<=1000):
  Calls prog 129 #[.u (Z (ω c o)),.d x] w λe n=>e=ε (.B #[ι (((xr ns x).g 0:Nat):Int),.i (xr ns x).I])/\∃m,n=w.drewN m:=by
 have t:=Tg (Nk w c o ns x h C);obtain⟨b,v,y,u⟩:=h;obtain⟨F,B,rfl⟩:=u.qy;have i:X (xr ns x=if ur ns x<ns.j/\ns.g (ur ns x) ByteArray.empty=x then Z (ur ns x) else Y):=rfl;generalize ur ns x=d at *;by_cases l:d<ns.j
 .have D:ns.g d ByteArray.empty=ns[d]:=by simp[List.getD_eq_getElem?_getD,l]
  rw[D] at i;by_cases s:ns[d]=x
  .rw[zb ⟨l,s⟩] at i;obtain⟨g,rfl,j,a⟩:=u.cell d l;go_enter func129,ntmps129;go_wp2_with (go_at_call 168;refine t.l.y ?_;rintro r n ⟨rfl,m,rfl⟩;have k:=((zI (zn w.o.q w) m).cell (p:=(ω c o)) b).A y;have f:c<(w.drewN m).o.q:=b;have E:=((zI (zn w.o.q w) m).cell (p:=(ω g d)) j).A a;have z:g<(w.drewN m).o.q:=j)
   go_ret2
   exact⟨by rw[i.l];rfl,m,rfl⟩
  rw[za (λq=>s q.2)] at i;obtain⟨g,rfl,j,a⟩:=u.cell d l;have A:=vV s;go_enter func129,ntmps129;go_wp2_with (go_at_call 168;refine t.l.y ?_;rintro r n ⟨rfl,m,rfl⟩;have k:=((zI (zn w.o.q w) m).cell (p:=(ω c o)) b).A y;have f:c<(w.drewN m).o.q:=b;have E:=((zI (zn w.o.q w) m).cell (p:=(ω g d)) j).A a;have z:g<(w.drewN m).o.q:=j)
  go_ret2
  exact⟨by rw[i.l];rfl,m,rfl⟩
 rw[za (λq=>l q.1)] at i;go_enter func129,ntmps129;go_wp2_with (go_at_call 168;refine t.l.y ?_;rintro r n ⟨rfl,m,rfl⟩;have k:=((zI (zn w.o.q w) m).cell (p:=(ω c o)) b).A y;have f:c<(w.drewN m).o.q:=b)
 go_ret2
 exact⟨by rw[i.l];rfl,m,rfl⟩
def RK(w:U)(f o:Nat)(ns:κ)(k:Nat)(h:Vd lo w f o ns):
  Calls prog 128 #[.u (Z (ω f o)),ι k] w λe j=>e=ε (.d (ns.g k ByteArray.empty))/\j=w:=by
 obtain⟨l,v,m,d⟩:=h;obtain⟨p,i,rfl⟩:=d.qy;by_cases a:k<ns.j
 .have c:X (ns.g k ByteArray.empty=ns[k]):=by simp[X,List.getD_eq_getElem?_getD,a]
  obtain⟨g,rfl,n,b⟩:=d.cell k a;go_enter func128,ntmps128;go_wp2;go_ret;exact⟨by rw[c.l];rfl,rfl⟩
 have c:X (ns.g k ByteArray.empty=ByteArray.empty):=by simp[X,List.getD_eq_getElem?_getD,List.getElem?_eq_none (Nat.le_of_not_lt a)]
 go_enter func128,ntmps128;go_wp2;go_ret;exact⟨by rw[c.l];rfl,rfl⟩
def TG(B:Nat)(w:U)(tb o:Nat)(t:List zf):Prop:=∃a,tb<w.o.q/\w.p ⟨tb,o,Y⟩=Z a/\w.ownsRow B 221 3 a t.j (um t)
def TG.u{B:Nat}{w w':U}{tb o:Nat}{t:Ψ}(h:TG B w tb o t)(a:μ w w'):TG B w' tb o t:=by
 obtain⟨c,b,e,d⟩:=h;exact⟨c,by have:=a.q;omega,(zi a b e),zy d a⟩
def TG.view{B:Nat}{w:U}{tb o:Nat}{t:Ψ}(h:TG B w tb o t):∃b a,w.p (ω tb o)=Z (.k b t.j a)/\w.ownsRow B 221 3 (.k b t.j a) t.j (um t):=by
 obtain⟨e,_,d,c⟩:=h;obtain⟨b,a,rfl⟩:=zr c;exact⟨b,a,d,c⟩
def F2(B:Nat)(w:U)(tb o:Nat)(t:Ψ)(n:ByteArray)(h:TG B w tb o t)(r:t.j<=1000):
  Calls prog 126 #[.u (Z (ω tb o)),.d n] w λe p=>e=ε (ι (zV t n))/\p=w:=by
 obtain⟨x,m,u,b⟩:=h.view;go_enter func126,ntmps126;go_wp2;go_loop [5] (λi=>∃k:Nat,k<=t.j/\i=ι k/\X (∀j (a:j<t.j),j<k->TB t[j].name n=true)) (λi=>t.j-(intOf i).D);exact⟨0,zs _,rfl,λj a h=>η⟩;obtain⟨k,v,rfl,H⟩:=hrel;by_cases d:k<t.j
 .obtain⟨g,rfl,s,_,q,_,_⟩:=gx b k d;cases f:TB t[k].name n
  .have c:=Tg (GT t n k H.l d f);unfold TB at f;go_wp2;go_ret;exact⟨by rw[c.l];rfl,rfl⟩
  have c:X (∀j (a:j<t.j),j<k+1->TB t[j].name n=true):=λj a h=>by
   rcases dV j k with l|l;exact H.l j a l;obtain rfl:j=k:=η;exact f
  unfold TB at f;go_wp2;go_round;exact⟨k+1,η,ξ,c⟩;simp[intOf];omega
 have c:X (zV t n=k):=by
  have:=EJ t n (λj a=>H.l j a η);unfold X;omega
 go_wp2;go_ret;exact⟨by rw[c.l];rfl,rfl⟩
def Dh(B:Nat)(w:U)(tb o:Nat)(t:Ψ)(n:ByteArray)(h:TG B w tb o t)(k:t.j<=1000)(i:zU t n=Y):
  Calls prog 77 #[.u (Z (ω tb o)),.d n] w λe c=>e=ε (.B #[ι 0,.i false])/\c=w:=by
 have d:=F2 B w tb o t n h k;obtain⟨s,l,r,b⟩:=h.view;have a:=Tg d;rcases iQ i with j|⟨j,f⟩
 .clear i;go_enter func77,ntmps77;go_wp2_with (go_at_call 126;refine a.l.y ?_;rintro e c ⟨rfl,rfl⟩;clear a)
  go_ret2
  exact⟨rfl,rfl⟩
 obtain⟨g,rfl,q,_,m,_,_⟩:=gx b _ j;have p:=vV f;go_enter func77,ntmps77;go_wp2_with (go_at_call 126;refine a.l.y ?_;rintro e c ⟨rfl,rfl⟩;clear a)
 go_ret2
 exact⟨rfl,rfl⟩
def Hp(B:Nat)(w:U)(tb o:Nat)(t:Ψ)(n:ByteArray)(l:zf)(h:TG B w tb o t)(k:t.j<=1000)(p:zU t n=Z l):
  Calls prog 77 #[.u (Z (ω tb o)),.d n] w λe j=>e=ε (.B #[ι (zV t n),.i true])/\j=w:=by
 have d:=F2 B w tb o t n h k;obtain⟨v,m,u,a⟩:=h.view;have b:=Tg d;obtain⟨q,i,r⟩:=jw p;obtain⟨g,rfl,s,_,f,_,c⟩:=gx a _ q;rw[i] at f c;go_enter func77,ntmps77;go_wp2_with (go_at_call 126;refine b.l.y ?_;rintro e j ⟨rfl,rfl⟩;clear b)
 go_ret2
 exact⟨rfl,rfl⟩
def Ka(B:Nat)(w:U)(tb o:Nat)(t:Ψ)(n:ByteArray)(h:TG B w tb o t)(b:t.j<=1000)(d:zU t n=Y):
  Calls prog 159 #[.u (Z (ω tb o)),.d n] w λe a=>e=ε (.B #[ι 0,.i false])/\a=w:=by
 have c:=Tg (Dh B w tb o t n h b d);clear h d b;go_enter func159,ntmps159;go_wp2_with (go_at_call 77;refine c.l.y ?_;rintro e a ⟨rfl,rfl⟩;clear c)
 go_ret2
 exact⟨rfl,rfl⟩
def Lj(B:Nat)(w:U)(tb o:Nat)(t:Ψ)(n:ByteArray)(b:zf)(h:TG B w tb o t)(i:t.j<=1000)(d:zU t n=Z b):
  Calls prog 159 #[.u (Z (ω tb o)),.d n] w λe f=>e=ε (.B #[ι b.L,.i true])/\f=w:=by
 have c:=Tg (Hp B w tb o t n b h i d);obtain⟨u,j,s,a⟩:=h.view;obtain⟨p,m,q⟩:=jw d;obtain⟨g,rfl,r,_,l,_,k⟩:=gx a _ p;go_enter func159,ntmps159;go_wp2_with (go_at_call 77;refine c.l.y ?_;rintro e f ⟨rfl,rfl⟩;clear c)
 go_ret2
 exact⟨rfl,rfl⟩
def zC(t:List zf)(n:ByteArray):Nat:=if (zU t n).I then zV t n else 0
def xP(t:List zf)(n:ByteArray):Nat:=match zU t n with|some e=>e.L|none=>0
def ek(B:Nat)(w:U)(tb o:Nat)(t:Ψ)(n:ByteArray)(h:TG B w tb o t)(a:t.j<=1000):
  Calls prog 77 #[.u (Z (ω tb o)),.d n] w λe d=>e=ε (.B #[ι (zC t n:Nat),.i (zU t n).I])/\d=w:=by
 unfold zC;rcases b:zU t n with _|c;exact Dh B w tb o t n h a b;exact Hp B w tb o t n c h a b
def JT(B:Nat)(w:U)(tb o:Nat)(t:Ψ)(n:ByteArray)(h:TG B w tb o t)(a:t.j<=1000):
  Calls prog 159 #[.u (Z (ω tb o)),.d n] w λe d=>e=ε (.B #[ι (xP t n:Nat),.i (zU t n).I])/\d=w:=by
 unfold xP;rcases b:zU t n with _|c;exact Ka B w tb o t n h a b;exact Lj B w tb o t n c h a b
def yc(t:List zf)(i:Nat):Nat:=(t.map (·.jh)).g i 0
def N1(B:Nat)(w:U)(tb o:Nat)(t:Ψ)(h:TG B w tb o t):
  Calls prog 115 #[.u (Z (ω tb o))] w λe c=>e=ε (ι t.j)/\c=w:=by
 obtain⟨f,b,d,a⟩:=h.view;clear h;go_enter func115,ntmps115;go_wp2;go_ret;exact⟨rfl,rfl⟩
def Bu(B:Nat)(w:U)(tb o:Nat)(t:Ψ)(i:Nat)(h:TG B w tb o t):
  Calls prog 80 #[.u (Z (ω tb o)),ι i] w λe j=>e=ε (ι (yc t i:Nat))/\j=w:=by
 obtain⟨m,f,l,a⟩:=h.view;by_cases b:i<t.j
 .obtain⟨g,rfl,k,_,_,d,_⟩:=gx a i b;have c:X (yc t i=t[i].jh):=by simp[X,yc,b]
  go_enter func80,ntmps80;go_wp2;go_ret;exact⟨by rw[c.l];rfl,rfl⟩
 have c:X (yc t i=0):=by simp[X,yc,List.getD_eq_getElem?_getD,List.getElem?_eq_none (Nat.not_lt.1 b)]
 go_enter func80,ntmps80;go_wp2;go_ret;exact⟨by rw[c.l];rfl,rfl⟩
def Mx(w:U)(vb:Nat)(d:O)(vs:κ)(t:ByteArray)(n:w.p (δ vb)=Z d)(hs:Tn lo w d vs)(m:vs.j<=1000):
  Calls prog 200 #[(π vb),.d t] w λe j=>e=ε (.B #[ι ((yA vs t).g 0:Nat),.i (yA vs t).I])/\j=w:=by
 obtain⟨p,h,rfl⟩:=hs.qy;go_enter func200,ntmps200;go_wp2;go_loop [13] (λi=>∃k:Nat,k<=vs.j/\i=ι k/\X (yA vs t=(yA (vs.drop k) t).map (·+k))) (λi=>vs.j-(intOf i).D);exact⟨0,zs _,rfl,by simp[X]⟩;obtain⟨k,q,rfl,H⟩:=hrel;by_cases a:k<vs.j
 .obtain⟨g,rfl,o,l⟩:=hs.cell k a;by_cases c:vs[k]=t
  .have f:=jt c;have b:X (yA vs t=Z k):=by rw[X,H.l,B0 a c];simp
   go_wp2;go_ret2
   exact⟨by rw[b.l];rfl,rfl⟩
  have f:=vV c;have b:X (yA vs t=(yA (vs.drop (k+1)) t).map (·+(k+1))):=by
   rw[X,H.l,Ay a c];cases yA (vs.drop (k+1)) t<;>simp;omega
  go_wp2;go_round;exact⟨k+1,η,ξ,b⟩;simp[intOf];omega
 have b:X (yA vs t=Y):=by rw[X,H.l,ui η];rfl
 go_wp2;go_ret2
 exact⟨by rw[b.l];rfl,rfl⟩
def oJ(w:U)(vb:Nat)(a:O)(vs:κ)(d:w.p (δ vb)=Z a)(hs:Tn lo w a vs):
  Calls prog 146 #[(π vb)] w λe c=>e=ε (ι vs.j)/\c=w:=by
 obtain⟨f,b,rfl⟩:=hs.qy;go_enter func146,ntmps146;go_wp2;go_ret;exact⟨rfl,rfl⟩
end
section
variable {lo:Nat}{w:U}{v:O}{o:Option (List Int)}
def xV(w:U)(v:O)(o:Option (List Int)):Prop:=match o with
 |none=>v=ν
 |some l=>∃b a,v=.k (Z b) l.j a/\∀k (h:k<l.j),∃g f,b=⟨g,f,Y⟩/\g<w.o.q/\w.p ⟨g,f+k,Y⟩=Z (ι l[k])
def xV.u{w':U}(h:xV w v o)(c:μ w w'):xV w' v o:=by
 rcases o with _|l;exact h;obtain⟨d,a,j,i⟩:=h;refine⟨d,a,j,λk m=>?_⟩;obtain⟨g,f,e,b,n⟩:=i k m;exact⟨g,f,e,ym b c.q,zi c b n⟩
def xV.of{g f cap:Nat}{l:List Int}(a:g<w.o.q)(h:∀k (h:k<l.j),w.p (ω g (f+k))=Z (ι l[k])):xV w (.k (Z (ω g f)) l.j cap) (Z l):=⟨_,cap,rfl,λk b=>⟨g,f,rfl,a,h k b⟩⟩
def xV.qy(h:xV w v o):∃c a,v=.k c (o.g []).j a:=by
 rcases o with _|l;exact⟨Y,0,h⟩;obtain⟨d,a,b,_⟩:=h;exact⟨_,a,b⟩
def xV.cell{w:U}{b:Option Addr}{n cap:Nat}{o:Option (List Int)}(h:xV w (.k b n cap) o)(k:Nat)(c:k<(o.g []).j):∃g f,b=Z (ω g f)/\g<w.o.q/\w.p (ω g (f+k))=Z (ι (o.g [])[k]):=by
 rcases o with _|l;simp at c;obtain⟨m,cap,a,d⟩:=h;simp only[O.slice.injEq] at a;obtain⟨g,f,e,j,i⟩:=d k c;exact⟨g,f,by rw[a.1,e],j,i⟩
def jU(w:U)(v:O)(os:Option (List (Option (List Int)))):Prop:=match os with
 |none=>v=ν
 |some l=>∃g f a,v=.k (Z ⟨g,f,Y⟩) l.j a/\g<w.o.q/\∀k (h:k<l.j),∃u,w.p ⟨g,f+k,Y⟩=Z u/\xV w u l[k]
def jU.u{w w':U}{v:O}{os:Option (List (Option (List Int)))}(h:jU w v os)(b:μ w w'):jU w' v os:=by
 rcases os with _|l;exact h;obtain⟨g,f,a,e,d,m⟩:=h;refine⟨g,f,a,e,by have:=b.q;omega,λk i=>?_⟩;obtain⟨u,j,c⟩:=m k i;exact⟨u,(zi b d j),c.u b⟩
def jU.qy{os:Option (List (Option (List Int)))}(h:jU w v os):∃c a,v=.k c (os.g []).j a:=by
 rcases os with _|l;exact⟨Y,0,h⟩;obtain⟨g,f,a,b,_⟩:=h;exact⟨_,a,b⟩
def jU.cell{w:U}{b:Option Addr}{n cap:Nat}{os:Option (List (Option (List Int)))}(h:jU w (.k b n cap) os)(k:Nat)(c:k<(os.g []).j):∃g f u,b=Z (ω g f)/\g<w.o.q/\w.p (ω g (f+k))=Z u/\xV w u (os.g [])[k]:=by
 rcases os with _|l;simp at c;obtain⟨g,f,cap,a,d,i⟩:=h;simp only[O.slice.injEq] at a;obtain⟨u,e,j⟩:=i k c;exact⟨g,f,u,a.1,d,e,j⟩
end
section
open Go.Proofs.Tryz
variable {lo:Nat}{l:List Int}{seen:List Bool}
def jQ(n:Nat):List Int->List Bool->Bool
 |[],_=>true
 |x::r,seen=>if x<0∨(n:Int)<=x∨5<=x then false else if seen.g x.D false then false else jQ n r (seen.set x.D true)
def r8(l:List Int):Bool:=jQ l.j l [false,false,false,false,false]
def Od{n k:Nat}(a:k<l.j)(h:l[k]<0∨(n:Int)<=l[k]∨5<=l[k]):jQ n (l.drop k) seen=false:=by
 rw[xn a,jQ,zb h]
def MB{n k:Nat}(a:k<l.j)(h:seen.g l[k].D false=true):jQ n (l.drop k) seen=false:=by
 rw[xn a,jQ];split;rfl;simp
def K3{n k:Nat}(b:k<l.j)(h:¬(l[k]<0∨(n:Int)<=l[k]∨5<=l[k]))(a:seen.g l[k].D false=false):jQ n (l.drop k) seen=jQ n (l.drop (k+1)) (seen.set l[k].D true):=by
 rw[xn b,jQ,za h,za (by rw[a];decide)]
def KG(w:U)(v:O)(l:List Int)(h:xV w v (Z l))(Q:l.j<=2000000):
  Calls prog 155 #[v] w λe M=>e=ε (.i (r8 l))/\μ w M:=by
 obtain⟨N,G,rfl,r⟩:=h;have J:=Tg r;go_enter func155,ntmps155;go_wp2;go_loopw [8] (λE wr=>∃(k:Nat) (seen:List Bool),k<=l.j/\E=ι k/\seen.j=5/\Th wr w.o.q (seen.map O.bool).F 282/\X (r8 l=jQ l.j (l.drop k) seen)/\μ w wr) (λi _=>l.j-(intOf i).D);exact⟨0,[false,false,false,false,false],zs _,rfl,rfl,Th.new _ _ _,rfl,γ⟩;obtain⟨k,seen,R,rfl,o,m,j,a⟩:=hrel;have u:=a.q;by_cases c:k<l.j
 .obtain⟨g,f,rfl,H,p⟩:=J.l k c;have K:=zi a H p;clear p;have q:X ((l[k]<0∨(l.j:Int)<=l[k]∨5<=l[k])->jQ l.j (l.drop k) seen=false):=λh=>Od c h;have t:X (seen.g l[k].D false=true->jQ l.j (l.drop k) seen=false):=λh=>MB c h;have A:=Tg fun(h:¬(l[k]<0∨(l.j:Int)<=l[k]∨5<=l[k])) (B:seen.g l[k].D false=false)=>K3 c h B;generalize l[k]=x at *;by_cases y:x<0
  .go_wp2;go_ret;exact⟨by rw[j.l,q.l (zh y)];rfl,a⟩
  obtain⟨n,rfl⟩:=Int.eq_ofNat_of_zero_le (Int.not_lt.1 y);by_cases L:(l.j:Int)<=(n:Int)
  .go_wp2;go_ret;exact⟨by rw[j.l,q.l (ze (zh L))];rfl,a⟩
  by_cases C:(5:Int)<=(n:Int)
  .go_wp2;go_ret;exact⟨by rw[j.l,q.l (ze (ze C))];rfl,a⟩
  have s:n<5:=η;obtain⟨z,P⟩:=m.H;have F:wr.p (ω w.o.q n)=Z (.i (seen.g n false)):=by
   rw[z];simp[o,s,List.getD_eq_getElem?_getD]
  have d:=m.set n (.i true);have I:X (((seen.map O.bool).F.setIfInBounds n (.i true))=((seen.set n true).map O.bool).F):=by simp[X,List.map_set]
  rw[I.l] at d;simp only[Int.toNat_natCast] at t A;clear z;generalize S:seen.g n false=b at *;cases b
  .go_wp2;go_roundw;exact⟨k+1,seen.set n true,η,ξ,by simpa using o,d,by rw[X,j.l,A.l η (by trivial)],a.x ζ _⟩;simp[intOf];omega
  go_wp2;go_ret;exact⟨by rw[j.l,t.l (by trivial)];rfl,a⟩
 have D:X (jQ l.j (l.drop k) seen=true):=by rw[ui η];rfl
 go_wp2;go_ret;exact⟨by rw[j.l,D.l];rfl,a⟩
def vz(c:zc):Option (List Int)->Bool
 |none=>true
 |some l=>l.j == (zx c).j&&r8 l
def Qi(w:U)(c:zc)(A vb x:O)(o:Option (List Int))(hs:Tn lo w A c.g.k)(I:TL lo w vb c.d)(D:c.g.k.j+xj c.d<=1000)(p:c.d.j<=1000)(u:xV w x o)(q:(o.g []).j<=2000000):
  Calls prog 112 #[.agg #[.i c.g.i,.d c.g.o,A,vb],x] w λe G=>e=ε (.i (vz c o))/\μ w G:=by
 have z:=Tg λW m=>Bc W c _ _ (hs.u m) (I.u m) D p;rcases o with _|l
 .have F:=u;subst F;have j:∀W:U,(binOp .eql 24 (ν) (ν)).run prog W=.ok (.i true) W:=λW=>by
   have:=run_equal_slice_nil W 24 3 Y 0 0 underlying24;simp[binOp,this]
  go_enter func112,ntmps112;go_wp2;go_ret;exact⟨rfl,γ⟩
 have C:=Tg λW m=>KG W x l (u.u m) q;have B:X (vz c (Z l)=(l.j == (zx c).j&&r8 l)):=rfl;obtain⟨y,f,rfl,_⟩:=u;have j:∀W:U,(binOp .eql 24 (.k (Z y) l.j f) (ν)).run prog W=.ok (.i false) W:=λW=>by
  have:=run_equal_slice_nil W 24 3 (Z y) l.j f underlying24;simp[binOp,this]
 generalize zx c=vs at *;by_cases k:l.j=vs.j
 .have r:((l.j:Int) != (vs.j:Int))=false:=by rw[k];simp
  have s:=Tg k;clear k;go_enter func112,ntmps112;go_wp2_with (first|(go_at_call 148;refine(z.l _ γ).y ?_;rintro e n ⟨E,rfl,a,g⟩;obtain⟨t,i,rfl⟩:=zr a;have b:μ w n:=(zQ γ g (zg _));have d:=b.q)|(go_at_call 146;refine(oJ _ _ _ vs (by exact(Th.new _ _ _).H.1 0) (by exact zy a γ)).y ?_;rintro e H ⟨rfl,h⟩;obtain rfl:=h.symm)|(go_at_call 155;refine(C.l _ (by exact(b.C d _))).y ?_;rintro e J ⟨rfl,v⟩))
  go_ret;exact⟨by rw[B.l];simp[s.l],Tk (b.C d _) v⟩
 have r:((l.j:Int) != (vs.j:Int))=true:=by rw[bne_iff_ne];omega
 go_enter func112,ntmps112;go_wp2_with (first|(go_at_call 148;refine(z.l _ γ).y ?_;rintro e n ⟨E,rfl,a,g⟩;obtain⟨t,i,rfl⟩:=zr a;have b:μ w n:=(zQ γ g (zg _));have d:=b.q)|(go_at_call 146;refine(oJ _ _ _ vs (by exact(Th.new _ _ _).H.1 0) (by exact zy a γ)).y ?_;rintro e H ⟨rfl,h⟩;obtain rfl:=h.symm))
 go_ret;exact⟨by rw[B.l];simp[k],b.C d _⟩
def vC(cs:List zc):Option (List (Option (List Int)))->Bool
 |none=>true
 |some l=>l.j == cs.j&&(cs.zip l).all λx=>vz x.1 x.2
def Kf(cs:Ξ)(l:List (Option (List Int)))(h:l.j=cs.j)(k:Nat)(a:k<cs.j):((cs.drop k).zip (l.drop k)).all (λx=>vz x.1 x.2)=(vz cs[k] (l[k]'η)&&((cs.drop (k+1)).zip (l.drop (k+1))).all λx=>vz x.1 x.2):=by
 rw[xn a,xn (l:=l) (i:=k) η,List.zip_cons_cons,List.all_cons]
def Ge(w:U)(cv ov:O)(cs:Ξ)(os:Option (List (Option (List Int))))(hc:TO lo 171 w cv cs)(P:∀c∈cs,qo c)(hl:cs.j<=1000)(ho:jU w ov os)(ah:(os.g []).j<=2000000)(z:∀o∈os.g [],(o.g []).j<=2000000):
  Calls prog 71 #[cv,ov] w λe h=>e=ε (.i (vC cs os))/\μ w h:=by
 obtain⟨an,al,rfl⟩:=hc.qy;rcases os with _|l
 .have h0:ov=ν:=ho;subst h0;have s:∀W:U,(binOp .eql 26 (ν) (ν)).run prog W=.ok (.i true) W:=λW=>by
   have:=run_equal_slice_nil W 26 24 Y 0 0 underlying26;simp[binOp,this]
  go_enter func71,ntmps71;go_wp2;go_ret;exact⟨rfl,γ⟩
 simp only[uD] at ah z;have HO:=Tg ho;have ae:=Tg hc;have B:X (vC cs (Z l)=(l.j == cs.j&&(cs.zip l).all λx=>vz x.1 x.2)):=rfl;have af:=Tg z;have ag:=Tg P;obtain⟨g,f,t,rfl,hg,_⟩:=ho;have s:∀W:U,(binOp .eql 26 (.k (Z ⟨g,f,Y⟩) l.j t) (ν)).run prog W=.ok (.i false) W:=λW=>by
  have:=run_equal_slice_nil W 26 24 (Z ⟨g,f,Y⟩) l.j t underlying26;simp[binOp,this]
 clear hc z P;by_cases p:l.j=cs.j
 .have Q:((l.j:Int) != (cs.j:Int))=false:=by rw[p];simp
  have ac:=Tg p;have am:l.j<=1000:=η;have H0:X (vC cs (Z l)=((cs.drop 0).zip (l.drop 0)).all λx=>vz x.1 x.2):=by rw[X,B.l];simp[p]
  clear p B;go_enter func71,ntmps71;go_wp2;clear Q s;go_loopw [16] (λai wr=>∃k:Nat,k<=cs.j/\ai=ι k/\X (vC cs (Z l)=((cs.drop k).zip (l.drop k)).all λx=>vz x.1 x.2)/\μ w wr) (λi _=>cs.j-(intOf i).D);exact⟨0,zs _,rfl,H0,γ⟩;clear H0;obtain⟨k,hk,rfl,B,a⟩:=hrel;have ak:=a.q;by_cases r:k<cs.j
  .have J:k<l.j:=by rw[ac.l];exact r
   obtain⟨g0,A,j,y,n,rfl,q,L,H,E,F,M,K⟩:=ae.l.cell k r;obtain⟨C,D⟩:=ag.l cs[k] (zq r);obtain⟨_,_,u,N,_,hu,S⟩:=HO.l.cell k J;simp only[zt,Addr.mk.injEq,and_true] at N;obtain⟨rfl,rfl⟩:=N;have V:=af.l l[k] (zq J);have G:=Tg λW hW=>Qi W cs[k] _ _ u l[k] (M.u hW) (K.u hW) C D (S.u hW) V;have ab:X (((cs.drop k).zip (l.drop k)).all (λx=>vz x.1 x.2)=(vz cs[k] l[k]&&((cs.drop (k+1)).zip (l.drop (k+1))).all λx=>vz x.1 x.2)):=Kf cs l ac.l k r;have e0:=zi a q L;have e1:=zi a q H;have e2:=zi a q E;have e3:=zi a q F;have eu:=zi a hg hu;have aj:g0<wr.o.q:=η;have T:g<wr.o.q:=η;clear L H E F hu S M K C D V;generalize cs[k]=c at *;generalize vz c l[k]=b at *;have R:=Th.new wr #[.i c.g.i,.d c.g.o,.k A c.g.k.j j,.k y c.d.j n] 171;cases b
   .go_wp2;go_region_held3 (λh=>h.p ⟨wr.o.q,0,Y⟩=Z (.i c.g.i)/\h.p ⟨wr.o.q,1,Y⟩=Z (.d c.g.o)/\h.p ⟨wr.o.q,2,Y⟩=Z (.k A c.g.k.j j)/\h.p ⟨wr.o.q,3,Y⟩=Z (.k y c.d.j n)/\h.p ⟨g,f+k,Y⟩=Z u) (first|go_keep|(go_split_ands;refine⟨?_,?_,?_,?_,?_⟩<;>go_keep)) (first|(go_at_call 112;refine(G.l _ (by exact(zQ a γ (zg _)))).y ?_;rintro e w4 ⟨rfl,d⟩;have m:μ wr w4:=(zQ γ d (zg _));have v:=R.u (by first|exact d|exact(zI (zn _ _) _).A d);obtain⟨I,aa⟩:=v.H;have ad:=(zi m T eu)))
    go_wp2;go_ret;exact⟨by rw[B.l,ab.l];rfl,Tk a m⟩
   go_wp2;go_region_held3 (λh=>h.p ⟨wr.o.q,0,Y⟩=Z (.i c.g.i)/\h.p ⟨wr.o.q,1,Y⟩=Z (.d c.g.o)/\h.p ⟨wr.o.q,2,Y⟩=Z (.k A c.g.k.j j)/\h.p ⟨wr.o.q,3,Y⟩=Z (.k y c.d.j n)/\h.p ⟨g,f+k,Y⟩=Z u) (first|go_keep|(go_split_ands;refine⟨?_,?_,?_,?_,?_⟩<;>go_keep)) (first|(go_at_call 112;refine(G.l _ (by exact(zQ a γ (zg _)))).y ?_;rintro e w4 ⟨rfl,d⟩;have m:μ wr w4:=(zQ γ d (zg _));have v:=R.u (by first|exact d|exact(zI (zn _ _) _).A d);obtain⟨I,aa⟩:=v.H;have ad:=(zi m T eu)))
   go_wp2;go_roundw;exact⟨k+1,η,ξ,by rw[X,B.l,ab.l];simp,Tk a m⟩;simp[intOf];omega
  have HZ:X (vC cs (Z l)=true):=by rw[X,B.l,ui η];rfl
  go_wp2;go_ret;exact⟨by rw[HZ.l];rfl,a⟩
 have Q:((l.j:Int) != (cs.j:Int))=true:=by rw[bne_iff_ne];omega
 have H0:X (vC cs (Z l)=false):=by rw[X,B.l];simp[p]
 go_enter func71,ntmps71;go_wp2;go_ret;exact⟨by rw[H0.l];rfl,γ⟩
end
end Go.Proofs.YteampbddflhngaaGreat
