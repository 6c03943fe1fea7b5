import Derived.Deep.RegionWith
import Derived.Laws.CopyOwn
import Derived.Maps.AppendAt
import Derived.Deep.CutRange
import Derived.Test.YteampbddflhngaaGreatA01
namespace Go.Proofs.YteampbddflhngaaGreat
open List renaming length→List.j,getD→List.d,take→List.G,toArray→List.F,foldl→List.H,replicate→g_,range→h_,getD_eq_getElem?_getD→j_,drop→k_,getElem?_take→q_,zipWith→r_
open _root_.Array renaming size→Array.q,getD→Array.d,foldl→Array.H,getElem?_push→l_
open Go.RowKit.Below renaming size→Go.RowKit.Below.q,setCell→Go.RowKit.Below.x,mono→Go.RowKit.Below.y,trans→Go.RowKit.Below.A,alloc→Go.RowKit.Below.C
open Go.TypeInfo renaming size→Go.TypeInfo.q
open Go.World.grownBy renaming size→Go.World.grownBy.q
open Go.RowKit.Hid renaming out→Go.RowKit.Hid.l
open Go.Shut renaming out→Go.Shut.l
open Go.World renaming heap→Go.World.o,setCell→Go.World.x,cell?→Go.World.p,alloc→Go.World.C,ownsRow→Go.World.r
open Go.Value renaming slice→Go.Value.k,string→Go.Value.g,bool→Go.Value.i,cells→Go.Value.E,ownBlock→Go.Value.m,tuple→Go.Value.B,ownBlock→i_
open Go.TypeDesc renaming slice→Go.TypeDesc.k,string→Go.TypeDesc.g,bool→Go.TypeDesc.i,tuple→Go.TypeDesc.B
open Option renaming getD→Option.d,isSome→Option.I,some→Z,none→Y
open Go.Calls renaming mono→Go.Calls.y
open Eq renaming trans→Eq.A,symm→Eq.z
open Iff renaming trans→Iff.A,symm→Iff.z
open Go.World.ownsRow renaming alloc→Go.World.ownsRow.C
open Go.Obj renaming cells→Go.Obj.E
open Int renaming toNat→Int.D
open UInt8 renaming toNat→UInt8.D
open Ne renaming symm→Ne.z,symm→o_
open _root_.ByteArray renaming empty→m_
open Go.Act renaming eval→n_
open Go.Value.slice renaming injEq→p_
open Go.RowKit renaming Hid→X,intOf→d_
open Go renaming World→U,Value→O,Calls→c_,TypeId→f_
open Go.Proofs.Tryz renaming prog→e_
set_option linter.all false
set_option maxRecDepth 100000
set_option maxHeartbeats 8000000
open Go.Proofs.Tryz Go.RowKit
section
variable {lo:Nat}{w:U}{base g n cap m:Nat}{ys:List (O×O×O)}{xs:List O}{ls:List zk}{gs:List Nat}
def I7(w:U)(l:zk)(z:O)(hs:U7 lo w z l.k)(I:l.k.j<=1000):
  c_ e_ 133 #[.agg #[.i l.i,.g l.o,z]] w λe y=>∃g,w.o.q<=g/\e=ε (.agg #[.i l.i,.g l.o,.k (Z (δ g)) l.k.j l.k.j])/\U7 w.o.q y (.k (Z (δ g)) l.k.j l.k.j) l.k/\μ w y:=by
 obtain⟨u,cap,rfl⟩:=hs.qm;have K:=U2 λW M=>F5 W _ l.k (hs.u M) I;clear hs;go_enter func133,ntmps133;go_wp2;generalize b:(w.C (.E #[.i l.i,.g l.o,.k u l.k.j cap] 90)).C (.E #[.i false,.g {data:=#[]},ν] 90)=i;have j:U3 i w.o.q #[.i l.i,.g l.o,.k u l.k.j cap] 90:=by rw[←b];exact(U3.new w _ _).u zQ
 have q:U3 i (w.o.q+1) #[.i false,.g {data:=#[]},ν] 90:=by rw[←b];exact U3.newAt _ _ _ _ ζ
 have c:μ w i:=by rw[←b];exact γ
 clear b;obtain⟨J,C⟩:=j.H;obtain⟨D,E⟩:=q.H;have L:=j.lt;have N:=q.lt;go_region_with (go_at_call 170;refine(K.l _ (by exact zG c 1)).y ?_;rintro e P ⟨g,H,rfl,p,a⟩;have h:=(U3.drew j).u a;have d:=(U3.drew q).u a;obtain⟨s,x⟩:=h.H;obtain⟨f,B⟩:=d.H;have t:=h.lt;have A:=d.lt)
 all_goals
  go_wp2;have G:=a.q;have o:=U6 (zG c 1) a;have F:i.o.q<=g:=H;have k:=c.q;exact zP (v:=.agg #[.i l.i,.g l.o,.k (Z (δ g)) l.k.j l.k.j]) (by simp[results,results133,go_sem,f]) rfl ⟨g,η,rfl,(p.low (show w.o.q<=i.o.q from k)).but (r:=w.o.q+1) ((((UF.refl _ _).x _ _).x _ _).x _ _) d θ,(((o.x ζ _).x ζ _).x ζ _)⟩
def rL(t:O×O×O):List Value:=[t.1,t.2.1,t.2.2]
def UM(ys:List (O×O×O)):List Value:=ys.flatMap rL
def wK(ys:List (O×O×O)):(UM ys).j=ys.j*3:=by
 induction ys with
 |nil=>rfl
 |cons a l b=>simp[UM,rL] at b ⊢;omega
def oF:∀(ys:List (O×O×O)) (k:Nat) (_:k<ys.j) (a b c:O),(((UM ys).set (k*3) a).set (k*3+1) b).set (k*3+2) c=UM (ys.set k (a,b,c))
 |[],k,d,_,_,_=>by simp at d
 |y::r,0,_,a,b,c=>by simp[UM,rL]
 |y::r,k+1,d,a,b,c=>by
  have:=oF r k (by simpa using d) a b c;simp only[UM,uZ,pu,rL] at this ⊢;rw[show(k+1)*3=k*3+1+1+1 from by omega,show k*3+1+1+1+1=k*3+1+1+1+1 from rfl,show k*3+1+1+1+2=k*3+2+1+1+1 from by omega];simpa using this
def ou:∀(ys:List (O×O×O)) (k:Nat) (a:k<ys.j),(UM ys)[k*3]?=Z ys[k].1/\(UM ys)[k*3+1]?=Z ys[k].2.1/\(UM ys)[k*3+2]?=Z ys[k].2.2
 |[],k,a=>by simp at a
 |y::r,0,_=>by simp[UM,rL]
 |y::r,k+1,a=>by
  have:=ou r k (by simpa using a);simp only[UM,uZ,rL] at this ⊢;rw[show(k+1)*3=k*3+1+1+1 from by omega,show k*3+1+1+1+1=k*3+1+1+1+1 from rfl,show k*3+1+1+1+2=k*3+2+1+1+1 from by omega];simpa using this
def Tv(c a b:O):∀(n i:Nat),i<n*3->(madeCells #[c,a,b] (n*3))[i]?=(UM (g_ n (c,a,b)))[i]?:=by
 intro n i q;obtain⟨k,j,h,rfl⟩:∃k j,j<3/\i=k*3+j:=⟨i / 3,i%3,Nat.mod_lt _ θ,η⟩;have l:k<n:=η;obtain⟨e,d,f⟩:=ou (g_ n (c,a,b)) k (by simpa using l);simp only[ij] at e d f;have p:(k*3+j)%3=j:=η;simp only[madeCells,Array.getElem?_map,Array.getElem?_range];rw[zb q];simp only[jY];have o:(#[c,a,b]:Array O).q=3:=rfl;rw[o,p];match j,h with
 |0,_=>rw[vB,e];rfl
 |1,_=>rw[d];rfl
 |2,_=>rw[f];rfl
def EK(w:U)(n:Nat)(T:f_)(b a c:O)(e:n<=maxLen):(w.C (.E (madeCells #[b,a,c] (n*3)) T)).r w.o.q T 3 (.k (Z (δ w.o.q)) n n) n (UM (g_ n (b,a,c))):=by
 refine⟨by rw[wK];simp,zg ⟨w.o.q,n,madeCells #[b,a,c] (n*3),rfl,ze _,?_,ze _,e,by rw[size_madeCells],?_⟩⟩;show(w.o.push _)[w.o.q]?=_;simp;apply ni;intro i;by_cases d:i<n*3;rw[mH,zb d,Array.getElem?_toList,Tv _ _ _ n i d];rw[mH,za d,d8 (by rw[wK];simp;omega)]
def t7{e:f_}(h:w.r base e 3 (.k (Z (δ g)) n cap) m (UM ys))(k:Nat)(f:k<ys.j)(a b c:O):
  (((w.x (ω g (k*3)) a).x (ω g (k*3+1)) b).x (ω g (k*3+2)) c).r base e 3 (.k (Z (δ g)) n cap) m (UM (ys.set k (a,b,c))):=by
 have l:=wK ys;have i:=um h (k*3) η a;have j:=um i (k*3+1) υ b;have d:=um j (k*3+2) υ c;rw[oF ys k f] at d;exact d
def pq{e:f_}(h:w.r base e 3 (.k (Z (δ g)) n cap) m (UM ys))(k:Nat)(d:k<ys.j):
  g<w.o.q/\w.p (ω g (k*3))=Z ys[k].1/\w.p (ω g (k*3+1))=Z ys[k].2.1/\w.p (ω g (k*3+2))=Z ys[k].2.2:=by
 have j:0<m:=by have:=h.1;rw[wK] at this;omega
 obtain⟨p,c,b,_,o,a⟩:=yt h j;simp at b;obtain⟨rfl,_⟩:=b;obtain⟨i,f,l⟩:=ou ys k d;exact⟨o,a _ _ i,a _ _ f,a _ _ l⟩
def sD{e:f_}{b:Nat}(h:w.r base e b (.k (Z (δ g)) n cap) m xs):∃a,w.o[g]?=Z (.E a e (0,0)):=by
 obtain⟨_,⟨c,_⟩|⟨i,d,a,c,_,f,_⟩⟩:=h;cases c;simp at c;obtain⟨rfl,_⟩:=c;exact⟨a,f⟩
def vO(l:zk)(g:Nat):O×O×Value:=(.i l.i,.g l.o,.k (Z ⟨g,0,Y⟩) l.k.j l.k.j)
def UN(lo:Nat)(w:U)(ls:List zk)(gs:List Nat):Prop:=gs.j=ls.j/\gs.Pairwise (·<·)/\∀k (a:k<ls.j) (b:k<gs.j),lo<=gs[k]/\U7 lo w (.k (Z ⟨gs[k],0,Y⟩) ls[k].k.j ls[k].k.j) ls[k].k
def UN.nil(w:U):UN lo w [] []:=⟨rfl,List.Pairwise.nil,λk a=>by simp at a⟩
def UN.y{w':U}(h:UN lo w ls gs)(c:∀v l,U7 lo w v l->U7 lo w' v l):UN lo w' ls gs:=⟨h.1,h.2.1,λk a b=>⟨(h.2.2 k a b).1,c _ _ (h.2.2 k a b).2⟩⟩
def UN.lt(h:UN lo w ls gs):∀g∈gs,g<w.o.q:=by
 intro g d;obtain⟨k,a,rfl⟩:=uT d;obtain⟨c,b⟩:=sD (h.2.2 k (by have:=h.1;omega) a).2;exact(kB.1 b).1
def UN.snoc{l:zk}(h:UN lo w ls gs)(e:∀x∈gs,x<g)(t:lo<=g)(hs:U7 lo w (.k (Z (δ g)) l.k.j l.k.j) l.k):UN lo w (ls++[l]) (gs++[g]):=by
 obtain⟨d,r,p⟩:=h;refine⟨by simp[d],?_,?_⟩;rw[mK];exact⟨r,List.pairwise_singleton _ _,λa s b f=>by simp at f;subst f;exact e a s⟩;intro k c q;simp at c;by_cases i:k<ls.j;have:=p k i η;simpa [List.getElem_append,i,d] using this;obtain rfl:k=ls.j:=η;have o:(ls++[l])[ls.j]=l:=ζ;have j:(gs++[g])[ls.j]=g:=by simp[←d]
 rw[o,j];exact⟨t,hs⟩
def Tt(h:gs.j=ls.j)(l:zk)(g m:Nat)(z:O×O×O):(r_ vO ls gs++g_ (m+1) z).set ls.j (vO l g)=r_ vO (ls++[l]) (gs++[g])++g_ m z:=by
 have a:(r_ vO ls gs).j=ls.j:=by simp[h]
 rw[gz _ _ η,a,vF,iT h.z,jt];rfl
def U7.sets{v:O}{l:List Λ}(h:U7 lo w v l)(e:w.r base 90 3 (.k (Z (δ g)) n cap) m xs)(i j k:Nat)(a b c:O):U7 lo (((w.x (ω g i) a).x (ω g j) b).x (ω g k) c) v l:=by
 obtain⟨f,d⟩:=sD e;exact h.but ((((UF.refl g w).x _ _).x _ _).x _ _) d θ
end
section
variable {lo:Nat}{M:List Nat}{w w':U}{b base n:Nat}{c:Array O}{v:O}{xs xs1:List O}
structure zc (M:List Nat) (w w':U):Prop where
 os:w'.os=w.os
 tape:w'.tape=w.tape
 output:w'.output=w.output
 q:w.o.q<=w'.o.q
 block:∀k,k<w.o.q->k∉M->w'.o[k]?=w.o[k]?
def zc.refl(M:Φ)(w:U):zc M w w:=⟨rfl,rfl,rfl,ze _,λ_ _ _=>rfl⟩
def zc.of(h:μ w w'):zc M w w':=⟨h.os,h.tape,h.output,h.q,λk a _=>h.block k a⟩
def zc.A{M:Φ}{a b c:U}(h:zc M a b)(k:zc M b c):zc M a c:=
 ⟨k.os.A h.os,k.tape.A h.tape,k.output.A h.output,zX h.q k.q,λx e d=>(k.block x (yh e h.q) d).A (h.block x e d)⟩
def zc.more{N:Φ}(h:zc M w w')(hs:∀x∈M,x∈N):zc N w w':=⟨h.os,h.tape,h.output,h.q,λk a e=>h.block k a λd=>e (hs k d)⟩
def zc.newer{N:Φ}{a b c:U}(h:zc M a b)(k:zc N b c)(g:∀x∈N,x∈M∨a.o.q<=x):zc M a c:=
 ⟨k.os.A h.os,k.tape.A h.tape,k.output.A h.output,zX h.q k.q,λx e f=>(k.block x (yh e h.q) λd=>(g x d).elim f λi=>η).A (h.block x e f)⟩
def zc.u{B:Nat}(h:zc M w w')(a:∀x∈M,B<=x)(f:B<=w.o.q):Below B w w':=
 ⟨h.os,h.tape,h.output,h.q,λk e=>h.block k η λd=>by have:=a k d;omega⟩
def yd{e:f_}{a:Nat}(h:w.r base e a v n xs)(hs:zc M w w')(o:∀b,v.m=Z b->b∉M):w'.r base e a v n xs:=by
 obtain⟨l,i⟩:=h;refine⟨l,?_⟩;rcases i with i|⟨g,f,d,k,p,j,m⟩;exact zh i;refine zg ⟨g,f,d,k,p,?_,m⟩;rw[hs.block g (kB.1 j).1 (o g (by rw[k];rfl))];exact j
def U3.save{T:f_}(h:U3 w b c T)(hs:zc M w w')(a:b∉M):U3 w' b c T:=by
 have:=h.lt;unfold U3 at *;rw[hs.block b this a];exact h
section
variable {P:Program} {ops:Array Oper} {rest:List Oper} {o:Oper} {a:Act} {Q:Exit->Act->U->Prop}
def jx(y A:U)(l:Γ)(K:f_)(hg:o.guard=Y)(s x:Operand)(t:f_)
  (ho:o.op=.call {callee:=.builtin .append,args:=#[s,x],argTypes:=#[t,t]})
  (base:Nat) (e:f_) (i:TypeInfo) (z:O) (d f:Nat) (R:P.underlying t=Z (.k e)) (hi:P.info? e=Z i) (hz:i.zero=Z z)
  (r:i.q=d) (I:i.bytes=f) (G:z.E.q=d) (J:0<d)
  (v:O) (n:Nat) (xs:Γ) (N:a.eval s=v) (C:y.r base e d v n xs) (m:μ y A)
  (b c:Nat) (hx:a.eval x=.k (Z (δ b)) 1 c) (S:b=A.o.q) (hl:l.j=d) (T:∀u∈l,u.oneCell'=true)
  (hn:n<=4000000000000) (D:(n+1)*f<=100000000000000) (E:base<=y.o.q)
  (h:∀B w',w'.r base e d B (n+1) (xs++l)->zc v.m.toList y w'->(B.m=v.m∨∃g,B.m=Z g/\y.o.q<=g)->wpList P ops Q rest (a.put o.dst B) w'):
  wpList P ops Q (o::rest) a (A.C (.E l.F K)):=by
 have q:=zy C m;have L:=m.q;subst S;refine wpList_append_own_at _ hg s x t ho base e i z d f R hi hz r I G J v n xs N (q.C _) (δ A.o.q) 1 c l hx η ?_ T ?_ ?_ ?_ ?_
 .intro j u hj;rw[Addr.add_lit,uM,U.cell?_alloc_mark];simpa using hj
 .unfold maxLen;omega
 .omega
 .simp;omega
 .intro B w' h2 p _ H;refine h B w' h2 ⟨p.os.A m.os,p.tape.A m.tape,p.output.A m.output,?_,λk V W=>?_⟩ ?_
  .have:=p.q;simp at this;omega
  .rw[p.block k υ (λe=>W (by rw[←e];simp))];rw[show(A.C (.E l.F K)).o[k]?=A.o[k]? from Below.heap_alloc _ _ _ η];exact m.block k V
  .rcases H with F|F
   .exact zh F
   .exact zg ⟨_,F,by simp;omega⟩
end
def yb{e:f_}{d:Nat}(h:w.r base e d v n xs)(f:v.m=Z b):b<w.o.q:=by
 obtain⟨_,⟨i,_⟩|⟨g,l,k,i,_,j,_⟩⟩:=h;subst i;cases f;subst i;simp only[i_,zt] at f;subst f;exact(kB.1 j).1
def zc.set(w:U)(b o:Nat)(u:O):zc [b] w (w.x (ω b o) u):=
 ⟨rfl,rfl,rfl,by simp[U.setCell],λk _ d=>Below.heap_setCell _ _ _ _ (by simp at d;exact d)⟩
def yA(h:b∈v.m.toList):v.m=Z b:=by simpa using h
def vL{e T:f_}{d:Nat}(h:w.r base e d v n xs)(f:U3 w b c T)(i:e≠T):b∉v.m.toList:=by
 intro g;have:=mu h f i;exact this (by simpa [eq_comm] using g)
def sl(g n:Nat):Value:=.k (Z ⟨g,0,Y⟩) n n
def mG{s B:Nat}{p l:f_}{z q:Nat}{v1 v2:O}{u y:Nat}{i:Γ}(r:w.r s p z v1 u xs1)(D:w.r B l q v2 y i)(t:p≠l)(h:v1.m=Z b):v2.m≠Z b:=by
 intro d;obtain⟨_,⟨j,_⟩|⟨g,C,A,j,_,x,_⟩⟩:=r;subst j;cases h;obtain⟨_,⟨f,_⟩|⟨E,k,m,f,_,e,_⟩⟩:=D;subst f;cases d;subst j;subst f;simp only[i_,zt] at h d;subst h;subst d;rw[x] at e;simp at e;exact t e.2
def uj{i:Nat}{e T:f_}{h:Nat}{v1:O}{k:Nat}(g:w.r i e h v1 k xs1){wb:Nat}(j:U3 w wb c T)(d:e≠T)(f:v1.m=Z b):b≠wb:=by
 rintro rfl;exact mu g j d f.z
def yZ{e:f_}{d:Nat}(h:w.r base e d v n xs)(i:v.m=Z b):base<=b:=by
 obtain⟨_,⟨f,_⟩|⟨g,k,j,f,l,_,_⟩⟩:=h;subst f;cases i;subst f;simp only[i_,zt] at i;omega
def Px{α:Type}{f:α->Nat}{l:List α}(h:(l.map f).Nodup){i j:Nat}(k:i<l.j)(g:j<l.j)(d:i≠j):f l[i]≠f l[j]:=by
 intro e;have:=(List.getElem_inj (h₀:=by simpa using k) (h₁:=by simpa using g) h).1 (by simpa using e);exact d this
def TF:(e_.info? 3).map (λi=>(i.zero,i.q,i.bytes))=Z (Z (ι 0),1,8):=χ
def Vg(s:Nat):Value:=ι (s:Int)
def Et(w:U)(n:Nat)(T:f_)(e:n<=maxLen):(w.C (.E (madeCells #[ι 0] n) T)).r w.o.q T 1 (.k (Z (δ w.o.q)) n n) n ((g_ n 0).map Vg):=by
 refine⟨ζ,zg ⟨w.o.q,n,madeCells #[ι 0] n,rfl,ze _,?_,ze _,e,by rw[size_madeCells];omega,?_⟩⟩;show(w.o.push _)[w.o.q]?=_;simp;apply ni;intro i;by_cases d:i<n;simp[d,madeCells,Vg,Nat.mod_one];simp[q_,d]
end
section
variable {lo:Nat}
def Vb(ns:κ)(x:ByteArray):Nat->Nat->Nat->Nat
 |0,l,_=>l
 |n+1,l,h=>if l<h then(if UU (ns.d (l+(h-l) / 2) m_) x then Vb ns x n (l+(h-l) / 2+1) h else Vb ns x n l (l+(h-l) / 2)) else l
def ut(ns:κ)(x:ByteArray):Nat:=Vb ns x (ns.j+1) 0 ns.j
def n9(lo:Nat)(w:U)(a:Nat)(ns:κ):Prop:=lo<=a/\∃v,U3 w a #[v] 141/\U7 lo w v ns
def n9.u{w w':U}{b:Nat}{ns:List Λ}(h:n9 lo w b ns)(a:μ w w'):n9 lo w' b ns:=by
 obtain⟨d,v,c,e⟩:=h;exact⟨d,v,c.u a,e.u a⟩
def Dd(w:U)(z:Nat)(ns:List Λ)(x:Λ)(h:n9 lo w z ns)(P:ns.j<=1000):
  c_ e_ 168 #[(π z),.g x] w λe J=>e=ε (ι (ut ns x:Nat))/\∃m,J=w.drewN m:=by
 obtain⟨_,v,i,t⟩:=h;obtain⟨M,K,rfl⟩:=t.qm;obtain⟨D,A⟩:=i.H;go_enter func168,ntmps168;go_wp2;go_quiet (fail)
 have y:μ w (w.drewN nq):=zG (zn _ _) _;have d:=i.u y;have o:=t.u y;have s:X (∃m,w.drewN nq=w.drewN m):=⟨nq,rfl⟩;generalize w.drewN nq=G at *;obtain⟨D,A⟩:=d.H;go_wp2;go_loopg [5,6] (ns.j+1) (λk B L wr=>∃l h:Nat,B=ι l/\L=ι h/\h<=ns.j/\l<=ns.j/\h-l<k/\X (ut ns x=Vb ns x k l h)/\wr=G)
 case atStart=>exact⟨0,ns.j,rfl,rfl,η,η,η,rfl,rfl⟩
 obtain⟨l,h,rfl,rfl,E,r,C,u,rfl⟩:=hrel;rcases gk with _|m;omega;by_cases f:l<h
 .obtain⟨a,b⟩:∃a,a=l+(h-l) / 2:=⟨_,rfl⟩;have I:l<=a:=η;have F:a<h:=η;have H:(l:Int)+((h:Int)-(l:Int)).tdiv 2=(a:Int):=by
   rw[Int.tdiv_eq_ediv_of_nonneg η];omega
  have c:a<ns.j:=η;have q:=u.l;unfold Vb at q;rw[zb f,←b,show ns.d a m_=ns[a] from by simp[j_,c]] at q;obtain⟨g,rfl,N,p⟩:=o.cell a c;clear b;cases n:UU ns[a] x
  .rw[n,za ζ] at q;have j:=U2 q;unfold UU at n;go_wp2;go_roundg m
   case measure=>omega
   exact⟨l,a,rfl,rfl,η,r,η,j,rfl⟩
  rw[n,zb rfl] at q;have j:=U2 q;unfold UU at n;go_wp2;go_roundg m
  case measure=>omega
  exact⟨a+1,h,ξ,rfl,E,η,η,j,rfl⟩
 have q:=u.l;unfold Vb at q;rw[za f] at q;have j:=U2 q;go_wp2;go_ret;exact⟨by rw[j.l];rfl,s.l⟩
def xr(ns:κ)(x:ByteArray):Option Nat:=if ut ns x<ns.j/\ns.d (ut ns x) m_=x then Z (ut ns x) else Y
def T2(w:U)(t:Nat)(ns:List Λ)(x:Λ)(h:n9 lo w t ns)(B:ns.j<=1000):
  c_ e_ 129 #[(π t),.g x] w λe l=>e=ε (.B #[ι (((xr ns x).d 0:Nat):Int),.i (xr ns x).I])/\∃m,l=w.drewN m:=by
 have s:=U2 (Dd w t ns x h B);obtain⟨_,v,d,o⟩:=h;obtain⟨F,E,rfl⟩:=o.qm;have f:X (xr ns x=if ut ns x<ns.j/\ns.d (ut ns x) m_=x then Z (ut ns x) else Y):=rfl;generalize ut ns x=c at *;by_cases i:c<ns.j
 .have A:ns.d c m_=ns[c]:=by simp[j_,i]
  rw[A] at f;by_cases n:ns[c]=x
  .rw[zb ⟨i,n⟩] at f;obtain⟨g,rfl,k,b⟩:=o.cell c i;go_enter func129,ntmps129;go_wp2_with (go_at_call 168;refine s.l.y ?_;rintro r l ⟨rfl,m,rfl⟩;have a:=d.u (zG (zn _ _) m);obtain⟨z,y,j⟩:=a.I;have C:=((zG (zn w.o.q w) m).cell (p:=(ω g c)) k).A b;have u:g<(w.drewN m).o.q:=k)
   go_ret2
   exact⟨by rw[f.l];rfl,m,rfl⟩
  rw[za (λq=>n q.2)] at f;obtain⟨g,rfl,k,b⟩:=o.cell c i;have D:=vn n;go_enter func129,ntmps129;go_wp2_with (go_at_call 168;refine s.l.y ?_;rintro r l ⟨rfl,m,rfl⟩;have a:=d.u (zG (zn _ _) m);obtain⟨z,y,j⟩:=a.I;have C:=((zG (zn w.o.q w) m).cell (p:=(ω g c)) k).A b;have u:g<(w.drewN m).o.q:=k)
  go_ret2
  exact⟨by rw[f.l];rfl,m,rfl⟩
 rw[za (λq=>i q.1)] at f;go_enter func129,ntmps129;go_wp2_with (go_at_call 168;refine s.l.y ?_;rintro r l ⟨rfl,m,rfl⟩;have a:=d.u (zG (zn _ _) m);obtain⟨z,y,j⟩:=a.I)
 go_ret2
 exact⟨by rw[f.l];rfl,m,rfl⟩
def O7(w:U)(c:Nat)(ns:List Λ)(h:n9 lo w c ns):
  c_ e_ 114 #[(π c)] w λe g=>e=ε (ι ns.j)/\g=w:=by
 obtain⟨_,v,a,b⟩:=h;obtain⟨i,f,rfl⟩:=b.qm;obtain⟨k,j,d⟩:=a.I;clear b;go_enter func114,ntmps114;go_wp2;go_ret;exact⟨rfl,rfl⟩
end
section
variable {lo:Nat}{w:U}{tb:Nat}{T:zm}{nv:O}{ns:List (Nat×Nat)}
def lT(wd:Nat)(ns:List (Nat×Nat)):List Value:=ns.flatMap λx=>[sl x.1 wd,sl x.2 wd]
def BK(wd:Nat):∀(ns:List (Nat×Nat)) (k:Nat) (a:k<ns.j),(lT wd ns)[k*2]?=Z (sl ns[k].1 wd)/\(lT wd ns)[k*2+1]?=Z (sl ns[k].2 wd)
 |[],k,a=>by simp at a
 |p::r,0,_=>by simp[lT]
 |p::r,k+1,a=>by
  have:=BK wd r k (by simpa using a);simp only[lT,uZ] at this ⊢;rw[show(k+1)*2=k*2+1+1 from by omega,show k*2+1+1+1=k*2+1+1+1 from rfl];simpa using this
def UW(ns:List (Nat×Nat)):List Nat:=ns.flatMap λx=>[x.1,x.2]
structure vE (lo:Nat) (w:U) (tb:Nat) (T:zm) (nv:O) (ns:List (Nat×Nat)):Prop where
 low:lo<=tb
 box:U3 w tb #[ι T.r,ι T.ql,nv,ι T.count] 229
 B:w.r lo 273 2 nv T.B.j (lT T.r ns)
 len:ns.j=T.B.j
 K:∀i (h:i<T.B.j) (h2:i<ns.j),w.r lo 3 1 (sl ns[i].1 T.r) T.r (T.B[i].K.map Vg)
 down:∀i (h:i<T.B.j) (h2:i<ns.j),w.r lo 3 1 (sl ns[i].2 T.r) T.r (T.B[i].down.map Vg)
 apart:(UW ns).Nodup
 wide:T.r<=1000
 many:T.B.j<=100000000
 deep:T.ql<=3
 M:T.count<=1000000000
def VB(tb:Nat)(nv:O)(ns:List (Nat×Nat)):List Nat:=tb::(nv.m.toList++UW ns)
def yc(lo:Nat)(w:U)(tb:Nat)(T:zm)(fp:List Nat):Prop:=∃nv ns,vE lo w tb T nv ns/\fp=VB tb nv ns
def vE.leapLen(h:vE lo w tb T nv ns)(i:Nat)(a:i<T.B.j):T.B[i].K.j=T.r:=by
 have:=(h.K i a (by rw[h.len];exact a)).1;simpa using this
def vE.downLen(h:vE lo w tb T nv ns)(i:Nat)(a:i<T.B.j):T.B[i].down.j=T.r:=by
 have:=(h.down i a (by rw[h.len];exact a)).1;simpa using this
def Ao{b:Nat}(h:b∈UW ns):∃i,∃h:i<ns.j,b=ns[i].1∨b=ns[i].2:=by
 simp only[UW,vg,z7,n6,or_false] at h;obtain⟨x,c,d⟩:=h;obtain⟨i,a,rfl⟩:=uT c;exact⟨i,a,d⟩
def ia{i:Nat}(h:i<ns.j):ns[i].1∈UW ns/\ns[i].2∈UW ns:=by
 simp only[UW,vg,z7,n6,or_false];exact⟨⟨_,zr h,zh rfl⟩,⟨_,zr h,zg rfl⟩⟩
def vE.lt{w:U}{tb:Nat}{T:zm}{nv:O}{ns:List (Nat×Nat)}(h:vE lo w tb T nv ns):∀b∈VB tb nv ns,lo<=b/\b<w.o.q:=by
 intro b c;simp only[VB,z7,zW] at c;rcases c with rfl|c|c;exact⟨h.low,h.box.lt⟩;exact⟨yZ h.B (yA c),yb h.B (yA c)⟩;obtain⟨i,a,rfl|rfl⟩:=Ao c;exact⟨yZ (h.K i (by rw[←h.len];exact a) a) rfl,yb (h.K i (by rw[←h.len];exact a) a) rfl⟩;exact⟨yZ (h.down i (by rw[←h.len];exact a) a) rfl,yb (h.down i (by rw[←h.len];exact a) a) rfl⟩
def yc.lt{w:U}{tb:Nat}{T:zm}{fp:Φ}(h:yc lo w tb T fp):∀b∈fp,lo<=b/\b<w.o.q:=by
 obtain⟨nv,ns,a,rfl⟩:=h;exact a.lt
def yc.save{w w':U}{tb:Nat}{T:zm}{fp N:Φ}(h:yc lo w tb T fp)(hs:zc N w w')(g:∀b∈fp,b∉N):yc lo w' tb T fp:=by
 obtain⟨nv,ns,c,rfl⟩:=h;have e:=g;refine⟨nv,ns,⟨c.low,c.box.save hs (e tb (by simp[VB])),yd c.B hs λb d=>e b ?_,c.len,λi f a=>yd (c.K i f a) hs λb d=>e b ?_,λi f a=>yd (c.down i f a) hs λb d=>e b ?_,c.apart,c.wide,c.many,c.deep,c.M⟩,rfl⟩;simp[VB,d];simp only[sl,i_,zt] at d;subst d;simp only[VB,z7,zW];exact zg (zg (ia a).1);simp only[sl,i_,zt] at d;subst d;simp only[VB,z7,zW];exact zg (zg (ia a).2)
def yc.u{w':U}{fp:Φ}(h:yc lo w tb T fp)(a:μ w w'):yc lo w' tb T fp:=h.save (zc.of (M:=[]) a) ζ
def jJ(o:Option Nat):Value:=.B #[ι ((o.d 0:Nat):Int),.i o.I]
def vE.leapAt(h:vE lo w tb T nv ns)(a f:Nat)(o:a<T.B.j)(r:f<T.r):
  ∃c m d,nv=.k (Z (δ c)) T.B.j m/\c<w.o.q/\d<w.o.q/\(∃s:a<ns.j,d=ns[a].1)/\w.p (ω c (a*2))=Z (.k (Z (δ d)) T.r T.r)/\w.p (ω d f)=Z (ι ((T.B[a].K.d f 0:Nat):Int)):=by
 have b:a<ns.j:=by rw[h.len];exact o
 obtain⟨c,e,p,_,i,n⟩:=yt h.B η;obtain⟨d,g,l,_,j,k⟩:=yt (h.K a o b) η;obtain⟨⟨rfl,_⟩,_,_⟩:=l;have q:=h.leapLen a o;refine⟨c,e,_,p,i,j,⟨b,rfl⟩,n _ _ (BK T.r ns a b).1,k f _ ?_⟩;rw[n8,yn η,kZ,yn η];rfl
def vE.downAt(h:vE lo w tb T nv ns)(a f:Nat)(o:a<T.B.j)(r:f<T.r):
  ∃c m d,nv=.k (Z (δ c)) T.B.j m/\c<w.o.q/\d<w.o.q/\(∃s:a<ns.j,d=ns[a].2)/\w.p (ω c (a*2+1))=Z (.k (Z (δ d)) T.r T.r)/\w.p (ω d f)=Z (ι ((T.B[a].down.d f 0:Nat):Int)):=by
 have b:a<ns.j:=by rw[h.len];exact o
 obtain⟨c,e,p,_,i,n⟩:=yt h.B η;obtain⟨d,g,l,_,j,k⟩:=yt (h.down a o b) η;obtain⟨⟨rfl,_⟩,_,_⟩:=l;have q:=h.downLen a o;refine⟨c,e,_,p,i,j,⟨b,rfl⟩,n _ _ (BK T.r ns a b).2,k f _ ?_⟩;rw[n8,yn η,kZ,yn η];rfl
def tO(w:U)(tb:Nat)(T:zm)(fp:Φ)(a f:Nat)(h:yc lo w tb T fp):
  c_ e_ 167 #[(π tb),ι a,ι f] w λe r=>e=ε (jJ (yJ T a f))/\r=w:=by
 obtain⟨nv,ns,g,rfl⟩:=h;obtain⟨t,q⟩:=g.box.H;by_cases i:a<T.B.j
 .by_cases j:f<T.r
  .obtain⟨s,c,u,rfl,n,m,_,p,l⟩:=g.leapAt a f i j;have d:yJ T a f=if T.B[a].K.d f 0≥T.r then Y else Z (T.B[a].K.d f 0):=by
    unfold yJ;rw[zb ⟨i,j⟩];simp[j_,i]
   generalize T.B[a].K.d f 0=v at *;by_cases k:v≥T.r
   .rw[zb k] at d;have b:=U2 d;go_enter func167,ntmps167;go_wp2;go_ret2
    exact⟨by rw[b.l];rfl,rfl⟩
   rw[za k] at d;have b:=U2 d;go_enter func167,ntmps167;go_wp2;go_ret2
   exact⟨by rw[b.l];rfl,rfl⟩
  have b:X (yJ T a f=Y):=by unfold yJ;rw[X,za η]
  obtain⟨o,c,rfl⟩:=zq g.B;go_enter func167,ntmps167;go_wp2;go_ret2
  exact⟨by rw[b.l];rfl,rfl⟩
 have b:X (yJ T a f=Y):=by unfold yJ;rw[X,za η]
 obtain⟨o,c,rfl⟩:=zq g.B;go_enter func167,ntmps167;go_wp2;go_ret2
 exact⟨by rw[b.l];rfl,rfl⟩
def pH(w:U)(tb:Nat)(T:zm)(fp:Φ)(a f:Nat)(h:yc lo w tb T fp):
  c_ e_ 130 #[(π tb),ι a,ι f] w λe j=>e=ε (jJ (zK T a f))/\j=w:=by
 have c:=U2 (tO w tb T fp a f h);obtain⟨nv,ns,l,rfl⟩:=h;obtain⟨v,s⟩:=l.box.H;rcases g:yJ T a f with _|u
 .have i:X (zK T a f=Y):=by unfold zK;rw[X,g]
  rw[g] at c;simp only[jJ,kV,kX] at c;go_enter func130,ntmps130;go_wp2_with (go_at_call 167;refine c.l.y ?_;rintro e j ⟨rfl,b⟩;obtain rfl:=b.z)
  go_ret2
  exact⟨by rw[i.l];rfl,rfl⟩
 have d:a<T.B.j/\f<T.r:=by
  unfold yJ at g;split at g;assumption
  cases g
 obtain⟨t,r,x,rfl,p,o,_,q,n⟩:=l.downAt a f d.1 d.2;have k:zK T a f=if u=f then Z (T.B[a].down.d f 0) else none:=by
  unfold zK;rw[g];simp[j_,d.1]
 rw[g] at c;simp only[jJ,uF,jH] at c;by_cases m:u=f
 .subst m;have i:=U2 k;go_enter func130,ntmps130;go_wp2_with (go_at_call 167;refine c.l.y ?_;rintro e j ⟨rfl,b⟩;obtain rfl:=b.z)
  go_ret2
  exact⟨by rw[i.l];rfl,rfl⟩
 rw[za m] at k;have i:=U2 k;go_enter func130,ntmps130;go_wp2_with (go_at_call 167;refine c.l.y ?_;rintro e j ⟨rfl,b⟩;obtain rfl:=b.z)
 go_ret2
 exact⟨by rw[i.l];rfl,rfl⟩
def DJ(w:U)(tb:Nat)(T:zm)(fp:Φ)(h:yc lo w tb T fp):
  c_ e_ 209 #[(π tb)] w λe d=>e=ε (ι T.count)/\d=w:=by
 obtain⟨nv,ns,a,rfl⟩:=h;obtain⟨f,c,b⟩:=a.box.I;clear a;go_enter func209,ntmps209;go_wp2;go_ret;exact⟨rfl,rfl⟩
end
section
variable {lo:Nat}{ns:List (Nat×Nat)}
def Vm:∀(ns:List (Nat×Nat)) (k:Nat) (a:k<ns.j),(UW ns)[k*2]?=Z ns[k].1/\(UW ns)[k*2+1]?=Z ns[k].2
 |[],k,a=>by simp at a
 |p::r,0,_=>by simp[UW]
 |p::r,k+1,a=>by
  have:=Vm r k (by simpa using a);simp only[UW,uZ] at this ⊢;rw[show(k+1)*2=k*2+1+1 from by omega,show k*2+1+1+1=k*2+1+1+1 from rfl];simpa using this
def oM{l:Φ}(h:l.Nodup){i j x y:Nat}(e:l[i]?=Z x)(b:l[j]?=Z y)(a:i≠j):x≠y:=by
 obtain⟨c,rfl⟩:=jB.1 e;obtain⟨d,rfl⟩:=jB.1 b;exact Px (f:=id) (by simpa using h) c d a
def iW(h:(UW ns).Nodup){i j:Nat}(b:i<ns.j)(a:j<ns.j):(i≠j->ns[i].1≠ns[j].1/\ns[i].2≠ns[j].2)/\ns[i].1≠ns[j].2:=
 ⟨λc=>⟨oM h (Vm ns i b).1 (Vm ns j a).1 η,oM h (Vm ns i b).2 (Vm ns j a).2 η⟩,oM h (Vm ns i b).1 (Vm ns j a).2 η⟩
def setNode(T:zm)(a:Nat)(n:qO):zm:={T with B:=T.B.set a n}
def vE.setLeap{w:U}{tb:Nat}{T:zm}{n:O}(h:vE lo w tb T n ns)(a u x:Nat)(o:a<T.B.j)(k:a<ns.j)(r:u<T.r):
  vE lo (w.x (ω ns[a].1 u) (ι x)) tb (setNode T a ⟨T.B[a].K.set u x,T.B[a].down⟩) n ns:=by
 have p:=h.leapLen a o;have j:=zc.set w ns[a].1 u (ι x);have l:=h.K a o k;refine⟨h.low,h.box.save j (by have:=uj l h.box θ rfl;simpa using o_ this),?_,by simpa [setNode] using h.len,λi m c=>?_,λi m c=>?_,h.apart,h.wide,by simpa [setNode] using h.many,h.deep,h.M⟩;have:=yd h.B j (λb f d=>mG l h.B θ rfl (by simp at d;rw[←d];exact f));simpa [setNode] using this;have g:i<T.B.j:=by simpa [setNode] using m
 by_cases e:i=a;subst e;have q:=um l u υ (ι x);simp only[setNode,mY];rw[dY];exact q;simp only[setNode,nD (o_ e)];exact yd (h.K i g c) j (λb f d=>by simp[sl,i_] at f d;exact((iW h.apart c k).1 e).1 (f.A d));have g:i<T.B.j:=by simpa [setNode] using m
 have q:=yd (h.down i g c) j (λb f d=>by simp[sl,i_] at f d;exact(iW h.apart k c).2 (d.z.A f.z));by_cases e:i=a;subst e;simp only[setNode,mY];exact q;simp only[setNode,nD (o_ e)];exact q
def vE.setDown{w:U}{tb:Nat}{T:zm}{n:O}(h:vE lo w tb T n ns)(a u x:Nat)(o:a<T.B.j)(k:a<ns.j)(r:u<T.r):
  vE lo (w.x (ω ns[a].2 u) (ι x)) tb (setNode T a ⟨T.B[a].K,T.B[a].down.set u x⟩) n ns:=by
 have p:=h.downLen a o;have j:=zc.set w ns[a].2 u (ι x);have l:=h.down a o k;refine⟨h.low,h.box.save j (by have:=uj l h.box θ rfl;simpa using o_ this),?_,by simpa [setNode] using h.len,λi m c=>?_,λi m c=>?_,h.apart,h.wide,by simpa [setNode] using h.many,h.deep,h.M⟩;have:=yd h.B j (λb f d=>mG l h.B θ rfl (by simp at d;rw[←d];exact f));simpa [setNode] using this;have g:i<T.B.j:=by simpa [setNode] using m
 have q:=yd (h.K i g c) j (λb f d=>by simp[sl,i_] at f d;exact(iW h.apart c k).2 (f.A d));by_cases e:i=a;subst e;simp only[setNode,mY];exact q;simp only[setNode,nD (o_ e)];exact q;have g:i<T.B.j:=by simpa [setNode] using m
 by_cases e:i=a;subst e;have q:=um l u υ (ι x);simp only[setNode,mY];rw[dY];exact q;simp only[setNode,nD (o_ e)];exact yd (h.down i g c) j (λb f d=>by simp[sl,i_] at f d;exact((iW h.apart c k).1 e).2 (f.A d))
structure UV (lo:Nat) (w w':U) (tb:Nat) (T:zm) (fp:List Nat) (fp':List Nat):Prop where
 trie:yc lo w' tb T fp'
 save:zc fp w w'
 qw:∀b∈fp',b∈fp∨w.o.q<=b
def TE(T:zm)(a:Nat)(n m:qO):setNode (setNode T a n) a m=setNode T a m:=by simp[setNode]
def KA{T:zm}{a v d:Nat}(b:a<T.B.j)(c:v<T.r):yu T a v d=setNode T a ⟨kG v (v+1) T.B[a].K,T.B[a].down.set v d⟩:=by
 unfold yu;rw[zb ⟨b,c⟩];simp[setNode,lP,j_,b]
def Wk(w:U)(tb:Nat)(T:zm)(fp:Φ)(a v d:Nat)(h:yc lo w tb T fp):
  c_ e_ 203 #[(π tb),ι a,ι v,ι d] w λe w'=>e=ε (.B #[])/\UV lo w w' tb (yu T a v d) fp fp:=by
 have Q:=h;obtain⟨nv,ns,f,rfl⟩:=h;have ae:=f.wide;have ad:=f.many;by_cases B:a<T.B.j
 .by_cases V:v<T.r
  .have i:a<ns.j:=by rw[f.len];exact B
   have I:X (yu T a v d=setNode T a ⟨kG v (v+1) T.B[a].K,T.B[a].down.set v d⟩):=KA B V;obtain⟨J,j,gl,rfl,H,G,⟨_,rfl⟩,A,q⟩:=f.downAt a v B V;obtain⟨L,s,r⟩:=f.box.I;have S:=uv (f.down a B i);have K:=uv (f.K a B i);have u:=f.setDown a v d B i V;have H1:=U2 f;clear f Q;have R:T.B[a].down.set v d=T.B[a].down.set v d:=rfl;generalize W:T.B[a].down.set v d=C at *;generalize P:T.B[a].K=lp at *;clear R W P;go_enter func203,ntmps203;go_wp2;clear A q L s r S K G H;go_loopw [8] (λN wr=>∃(n:Nat) (l:Φ),n<=v+1/\N=ι ((n:Int)-1)/\vE lo wr tb (setNode T a ⟨l,C⟩) (.k (Z (δ J)) T.B.j j) ns/\X (kG v (v+1) lp=kG v n l)/\zc (VB tb (.k (Z (δ J)) T.B.j j) ns) w wr) (λN _=>(d_ N+1).D);refine⟨v+1,lp,ze _,ξ,u,rfl,(zc.set _ _ _ _).more λx y=>?_⟩;simp only[xo] at y;subst y;simp only[VB,z7,zW];exact zg (zg (ia i).2);clear u;obtain⟨n,l,hn,rfl,c,t,F⟩:=hrel;have p:a<(setNode T a ⟨l,C⟩).B.j:=by simpa [setNode] using B
   have g:(setNode T a ⟨l,C⟩).B[a]=⟨l,C⟩:=by simp[setNode]
   have o:(setNode T a ⟨l,C⟩).r=T.r:=rfl;obtain⟨L,s,r⟩:=c.box.I;have K:=uv (c.K a p i);have k:X (kG v n l=l->UV lo w wr tb (yu T a v d) (VB tb (.k (Z (δ J)) T.B.j j) ns) (VB tb (.k (Z (δ J)) T.B.j j) ns)):=λe=>⟨⟨_,ns,by rw[I.l,t.l,e];exact c,rfl⟩,F,λb D=>zh D⟩;rcases n with _|m
   .clear c;go_wp2;go_end0
    exact⟨rfl,k.l rfl⟩
   have e:((m+1:Nat):Int)-1=(m:Int):=η;rw[e];have hm:m<T.r:=η;obtain⟨af,ab,gl,E,H,G,⟨_,rfl⟩,A,q⟩:=c.leapAt a m p (by rw[o];exact hm);simp only[p_,zt,Addr.mk.injEq] at E;obtain⟨⟨rfl,_⟩,_,rfl⟩:=E;rw[g] at q;rw[o] at A;have z:=c.setLeap a m v p i (by rw[o];exact hm);rw[g,TE] at z;have M:X (kG v (m+1) l=if l.d m 0>v then kG v m (l.set m v) else l):=by rw[X,kG]
   have ac:=U2 c;clear c p g e;have aa:X (vE lo (wr.x (ω ns[a].1 m) (ι v)) tb (setNode T a ⟨l.set m v,C⟩) (.k (Z (δ J)) T.B.j j) ns):=z;clear z;simp only at q;generalize l.d m 0=x at *;by_cases y:x>v
   .rw[zb y] at M;go_wp2;go_roundw;refine⟨m,l.set m v,η,ξ,aa.l,t.A M,F.A ((zc.set _ _ _ _).more λx y=>?_)⟩;simp only[xo] at y;subst y;simp only[VB,z7,zW];exact zg (zg (ia i).1);simp[d_]
   rw[za y] at M;go_wp2;go_end0
   exact⟨rfl,k.l M.l⟩
  have I:X (yu T a v d=T):=by unfold yu;rw[X,za η]
  obtain⟨ao,j,rfl⟩:=zq f.B;obtain⟨L,s,r⟩:=f.box.I;clear f;go_enter func203,ntmps203;go_wp2
  (try simp only[Exit.inBlock,Exit.then]);refine zP (results_none rfl _ _ _) rfl ?_
  exact⟨rfl,by rw[I.l];exact⟨Q,zc.refl _ _,λb D=>zh D⟩⟩
 have I:X (yu T a v d=T):=by unfold yu;rw[X,za η]
 obtain⟨ao,j,rfl⟩:=zq f.B;obtain⟨L,s,r⟩:=f.box.I;clear f;go_enter func203,ntmps203;go_wp2
 (try simp only[Exit.inBlock,Exit.then]);refine zP (results_none rfl _ _ _) rfl ?_
 exact⟨rfl,by rw[I.l];exact⟨Q,zc.refl _ _,λb D=>zh D⟩⟩
end
section
variable {lo:Nat}
def TZ:(e_.info? 273).map (λi=>(i.zero,i.q,i.bytes))=Z (Z (.agg #[ν,ν]),2,48):=χ
section
variable {P:Program} {ops:Array Oper} {o:Oper} {a:Act} {K:Act->U->Prop} {Q:Exit->Act->U->Prop}
def fU{E:Prop}(C B:U)(l:Γ)(te:f_)(hg:o.guard=Y)(s x:Operand)(t:f_)
  (ho:o.op=.call {callee:=.builtin .append,args:=#[s,x],argTypes:=#[t,t]})
  (p:Nat) (e:f_) (i:TypeInfo) (z:O) (d f:Nat) (ht:P.underlying t=Z (.k e)) (hi:P.info? e=Z i) (hz:i.zero=Z z)
  (y:i.q=d) (R:i.bytes=f) (L:z.E.q=d) (S:0<d)
  (v:O) (n:Nat) (H:Γ) (V:a.eval s=v) (F:C.r p e d v n H) (q:μ C B)
  (b c:Nat) (hx:a.eval x=.k (Z (δ b)) 1 c) (W:U3 B b l.F te) (hl:l.j=d) (h1:∀u∈l,u.oneCell'=true)
  (hn:n<=10000000000) (r:f<=1000) (I:p<=C.o.q)
  (h:∀D A,A.r p e d D (n+1) (H++l)->zc v.m.toList C A->(D.m=v.m∨∃g,D.m=Z g/\C.o.q<=g)->(∀k,k<B.o.q->Z k≠v.m->A.o[k]?=B.o[k]?)->B.o.q<=A.o.q->K (a.put o.dst D) A):
  if Region.wanted o (yielded ops a.tmps)=true then Oper.wp P o a B K Q else E:=by
 have hw:Region.wanted o (yielded ops a.tmps)=true:=by simp[Region.wanted,hg]
 rw[zb hw];have w:=zy F q;have T:=q.q;obtain⟨D,A,hr,h2,m,_,N⟩:=run_append_own_at (P:=P) B p t o.type e i z d f ht hi hz y R L S v n H w (δ b) 1 c l η (by
  intro j u hj;rw[Addr.add_lit,uM,W.H.1];simpa using hj) h1 b_ (by
  have:(n+1)*f<=10000000001*1000:=Nat.mul_le_mul η r;omega) η
 unfold Oper.wp execOp;simp only[ho,resolve,invoke,builtin,Sem.run_bind,Sem.run_pure,Result.andThen_ok,List.map_toArray,xU,List.map_nil,V,hx,hr];refine h D A h2 ⟨m.os.A q.os,m.tape.A q.tape,m.output.A q.output,by have:=m.q;omega,λk G hm=>?_⟩ ?_ (λk G M=>m.block k G M) m.q
 .rw[m.block k η (λe=>hm (by rw[←e];simp))];exact q.block k G
 .rcases N with J|J
  .exact zh J
  .exact zg ⟨_,J,η⟩
end
def Gn{W:U}{g n:Nat}{T:f_}(h:W.o[g]?=Z (.E (madeCells #[ι 0] n) T (0,0)))(d:lo<=g)(c:n<=maxLen):W.r lo T 1 (sl g n) n ((g_ n 0).map Vg):=by
 refine⟨ζ,zg ⟨g,n,madeCells #[ι 0] n,rfl,d,h,ze _,c,by rw[size_madeCells];omega,?_⟩⟩;apply ni;intro i;by_cases b:i<n;simp[b,madeCells,Vg,Nat.mod_one];simp[q_,b]
def mU(w:U)(a b c:Obj):((((w.C a).C b).C c).drew).o[w.o.q]?=Z a/\((((w.C a).C b).C c).drew).o[w.o.q+1]?=Z b/\((((w.C a).C b).C c).drew).o[w.o.q+1+1]?=Z c:=by
 refine⟨?_,?_,?_⟩;show(((w.o.push a).push b).push c)[w.o.q]?=_;simp[l_];omega;show(((w.o.push a).push b).push c)[w.o.q+1]?=_;rw[l_,za ζ,l_,zb ζ];show(((w.o.push a).push b).push c)[w.o.q+1+1]?=_;rw[l_,zb ζ]
def Md(wd:Nat)(ns:List (Nat×Nat))(x:Nat×Nat):lT wd (ns++[x])=lT wd ns++[sl x.1 wd,sl x.2 wd]:=by simp[lT]
def Im(ns:List (Nat×Nat))(x:Nat×Nat):UW (ns++[x])=UW ns++[x.1,x.2]:=by simp[UW]
def vE.grow{w wr r:U}{tb:Nat}{T:zm}{u c:O}{ns:List (Nat×Nat)}{l n:Nat}(h:vE lo w tb T u ns)(t:μ w wr)(aa:w.o.q<=l)(ab:w.o.q<=n)(J:l≠n)
  (W:wr.r w.o.q 3 1 (sl l T.r) T.r ((g_ T.r T.r).map Vg)) (h2:wr.r w.o.q 3 1 (sl n T.r) T.r ((g_ T.r 0).map Vg))
  (hs:zc u.m.toList wr r) (F:r.r lo 273 2 c (T.B.j+1) (lT T.r ns++[sl l T.r,sl n T.r])) (N:c.m=u.m∨∃g,c.m=Z g/\wr.o.q<=g) (B:T.B.j<100000000):
  ∃L,UV lo w (r.x (ω tb 2) c) tb (yI T) (VB tb u ns) L:=by
 have A:lo<=w.o.q:=by have:=h.low;have:=h.box.lt;omega
 have z:=h.box.u t;have y:=zy h.B t;have p:=z.save hs (vL y z θ);have j:=zc.set r tb 2 c;have S:∀{C:Nat} {e:f_} {s1:Nat} {v:O} {D:Nat} {E:Γ},r.r C e s1 v D E->e≠229->∀b,v.m=Z b->b∉[tb]:=λF hT b s B=>uj F p hT s (by simpa using B);have m:∀{C:Nat} {v:O} {D:Nat} {E:Γ},wr.r C 3 1 v D E->(r.x (ω tb 2) c).r C 3 1 v D E:=λq=>by
  have V:=yd q hs (λb s B=>mG q y θ s (yA B));exact yd V j (S V θ)
 have I:zc (VB tb u ns) w (r.x (ω tb 2) c):=((zc.of (M:=VB tb u ns) t).newer hs (λx G=>zh (by simp only[VB,z7,zW];exact zg (zh G)))).newer j (λx G=>zh (by simp at G;simp[VB,G]));refine⟨_,⟨c,ns++[(l,n)],⟨h.low,?_,?_,by simp[yI,h.len],λi R H=>?_,λi R H=>?_,?_,h.wide,by simp[yI];omega,h.deep,h.M⟩,rfl⟩,I,λb k=>?_⟩;have hq:=p.set 2 c;simpa [yI] using hq;rw[Md];have:=yd F j (S F θ);simpa [yI] using this;simp[yI] at R;by_cases d:i<T.B.j;have f:i<ns.j:=by rw[h.len];exact d
 simp only[yI,uI d,uI f];exact m (zy (h.K i d f) t);obtain rfl:i=T.B.j:=η;have e:(ns++[(l,n)])[T.B.j]=(l,n):=by simp[←h.len]
 rw[e];simp only[yI,n4];exact m (yq W A);simp[yI] at R;by_cases d:i<T.B.j;have f:i<ns.j:=by rw[h.len];exact d
 simp only[yI,uI d,uI f];exact m (zy (h.down i d f) t);obtain rfl:i=T.B.j:=η;have e:(ns++[(l,n)])[T.B.j]=(l,n):=by simp[←h.len]
 rw[e];simp only[yI,n4];exact m (yq h2 A);rw[Im,so];refine⟨h.apart,by simp[J],λa ha b k e=>?_⟩;have:=(h.lt a (by simp only[VB,z7,zW];exact zg (zg ha))).2;simp at k;omega;simp only[VB,z7,zW,Im] at k ⊢;rcases k with q|q|q|q;simp[q];rcases N with e|⟨g,e,hg⟩;rw[e] at q;simp[q];rw[e] at q;simp at q;have:=t.q;right;omega;simp[q];simp at q;right;omega
def Qs(k n x:Nat)(c:k<n):((g_ k x++g_ (n-k) 0).map Vg)[k]?=Z (ι (0:Int)):=by
 obtain⟨m,b⟩:∃m,n-k=m+1:=⟨n-k-1,η⟩;rw[b,n8,gJ ζ,iQ,vF];rfl
def Qt(k n x:Nat)(c:k<n):((g_ k x++g_ (n-k) 0).map Vg).set k (.int .i64 x)=(g_ (k+1) x++g_ (n-(k+1)) 0).map Vg:=by
 obtain⟨m,b⟩:∃m,n-k=m+1:=⟨n-k-1,η⟩;rw[show n-(k+1)=m from by omega,b,show O.int .i64 x=Vg x from rfl,←dY,gz _ _ ζ,iQ,vF,List.replicate_succ' (n:=k),jt];rfl
def iL(w b:U)(wd:Nat)(s:O):Prop:=∃e c d,s=(π e)/\c≠d/\w.o.q<=e/\U3 b e #[.k (Z ⟨c,0,Y⟩) wd wd,.k (Z ⟨d,0,Y⟩) wd wd] 273/\b.r w.o.q 3 1 (sl c wd) wd ((g_ wd 0).map Vg)/\b.r w.o.q 3 1 (sl d wd) wd ((g_ wd 0).map Vg)/\μ w b
def iL.mk'{w b:U}{wd nb c d:Nat}(f:U3 b nb #[.k (Z (δ c)) wd wd,.k (Z (δ d)) wd wd] 273)(k:b.o[c]?=Z (.E (madeCells #[ι 0] wd) 3 (0,0)))(h:b.o[d]?=Z (.E (madeCells #[ι 0] wd) 3 (0,0)))(e:c≠d)(g:w.o.q<=nb)(j:w.o.q<=c)(l:w.o.q<=d)(m:wd<=1000)(i:μ w b):iL w b wd ((π nb)):=
 ⟨nb,c,d,rfl,e,g,f,Gn k j b_,Gn h l b_,i⟩
def GW(w:U)(tb:Nat)(T:zm)(fp:Φ)(h:yc lo w tb T fp)(N:T.B.j<100000000):
  c_ e_ 162 #[(π tb)] w λe w'=>e=ε (ι T.B.j)/\∃s,UV lo w w' tb (yI T) fp s:=by
 obtain⟨nv,ns,x,rfl⟩:=h;have aa:=x.wide;have an:=x.many;have M:=λW:U=>run_make_row' (P:=e_) (w:=W) 24 3 (ι 0) 8 underlying24 TF rfl .i64 .i64 T.r η η;obtain⟨B,m,l⟩:=x.box.I;have t:=U2 x;clear x;have v:w.p ⟨tb,0,Y⟩=Z (ι T.r):=by simp[B]
 go_enter func162,ntmps162;go_upto_region 1 with fail
 go_cut [3] from 5 to 15 (λs3 wx=>iL w wx T.r s3)
 .go_region_held3 (λw'=>w'.p ⟨tb,0,Y⟩=Z (ι T.r)) (exact(Below.cell (w:=w) (p:=⟨tb,0,Y⟩) (show μ w _ from γ) l).A v) (fail)
  all_goals
   go_wp2_with fail
   go_meet
   apply iL.mk';first|exact(mU w _ _ _).1|exact(mU w _ _ _).2.1|exact(mU w _ _ _).2.2
   first|exact(mU w _ _ _).1|exact(mU w _ _ _).2.1|exact(mU w _ _ _).2.2
   first|exact(mU w _ _ _).1|exact(mU w _ _ _).2.1|exact(mU w _ _ _).2.2
   omega;omega;omega;omega;exact aa;exact γ
 obtain⟨nb,r,gd,rfl,af,ar,g,c,j,f⟩:=hcut;clear M v B m l;obtain⟨D,F,L⟩:=g.I;have d:=t.l.box.u f;obtain⟨B,m,l⟩:=d.I;go_wp2;clear D F L B m l;go_loopw [19] (λai wr=>∃k:Nat,k<=T.r/\ai=ι k/\U3 wr nb #[.k (Z ⟨r,0,Y⟩) T.r T.r,.k (Z ⟨gd,0,Y⟩) T.r T.r] 273/\U3 wr tb #[ι T.r,ι T.ql,nv,ι T.count] 229/\wr.r w.o.q 3 1 (sl r T.r) T.r ((g_ k T.r++g_ (T.r-k) 0).map Vg)/\wr.r w.o.q 3 1 (sl gd T.r) T.r ((g_ T.r 0).map Vg)/\μ w wr) (λi _=>T.r-(d_ i).D);exact⟨0,zs _,rfl,g,d,by simpa using c,j,f⟩;clear g c j f d;obtain⟨k,hk,rfl,g,d,c,j,f⟩:=hrel;obtain⟨D,F,L⟩:=g.I;obtain⟨B,m,l⟩:=d.I;by_cases A:k<T.r
 .have au:=yb c rfl;have E:=yZ c rfl;have ax:=uv c;obtain⟨a0,ak,hv,_,_,C⟩:=yt c η;simp only[sl,p_,zt,Addr.mk.injEq] at hv;obtain⟨⟨rfl,_⟩,_,u⟩:=hv;clear u;have ab:=C k _ (Qs k T.r T.r A);have q:=um c k υ (ι T.r);rw[Qt k T.r T.r A] at q;have ag:r≠nb:=uj c g θ rfl;have R:r≠tb:=uj c d θ rfl;have J:=yd j (zc.set wr r k (ι T.r)) (λb hb N=>by simp[sl,i_] at hb N;omega);have G:=g.set_ne (o_ ag) k (ι T.r);have I:=d.set_ne (o_ R) k (ι T.r);have ae:=f.x (p:=⟨r,k,Y⟩) E (ι T.r);clear C;go_wp2;go_region
  all_goals
   go_wp2;go_roundw;exact⟨k+1,η,ξ,U3.drew G,U3.drew I,zy q (zn _ _).drew,zy J (zn _ _).drew,ae.drew⟩;simp[d_];omega
 obtain rfl:k=T.r:=η;rw[vF,List.replicate_zero,vD] at c;obtain⟨i0,hi,V,ac,ad⟩:=info_parts TZ;obtain⟨ao,ah,rfl⟩:=zq t.l.B;have n:=zy t.l.B f;have ay:lo<=w.o.q:=by have:=t.l.low;have:=t.l.box.lt;omega
 have am:=f.q;go_wp2;go_region_law (first|(refine fU wr _ [.k (Z ⟨r,0,Y⟩) T.r T.r,.k (Z ⟨gd,0,Y⟩) T.r T.r] 273 rfl (.tmp 35) (.tmp 37) 227 rfl lo 273 i0 _ 2 48 underlying227 hi V ac ad rfl θ (.k ao T.B.j ah) T.B.j (lT T.r ns) (by simp[n_]) n γ wr.o.q 1 (by simp[n_]) (by exact U3.drew (U3.new _ _ _)) rfl a_ η η η ?_;intro v' w2 y z H aw al;obtain⟨av,aj,rfl⟩:=zq y;have S:=d.save z (vL n d θ);obtain⟨az,ap,aq⟩:=S.I))
 all_goals
  obtain⟨s,hW⟩:=t.l.grow f (yZ c rfl) (yZ j rfl) af c j z y H N;have HW:=U2 hW;clear hW;go_wp2;go_ret;exact⟨ζ,s,HW.l⟩
def IP(d:Nat):xz d<=3:=by unfold xz;(repeat' split)<;>omega
def AQ(w:U)(wd c:Nat)(t:wd<=1000)(z:c<=100000000):
  c_ e_ 119 #[ι wd,ι c] w λe m=>∃r g,e=ε ((π r))/\yc w.o.q m r (xk wd c) g/\μ w m:=by
 have n:∀a b:Nat,a=zU wd->b=xz c->vE w.o.q (w.C (.E #[ι (a:Nat),ι (b:Nat),ν,ι 0] 229)) w.o.q ⟨zU wd,xz c,[],0⟩ (ν) []:=by
  rintro a b rfl rfl;refine⟨ze _,U3.new _ _ _,xj _ _ _ _,rfl,λi h=>by simp at h,λi h=>by simp at h,by simp[UW],?_,ζ,?_,ζ⟩;simp only[zU];split<;>omega
  exact IP c
 have k:X (∀a b:Nat,a=zU wd->b=xz c->c_ e_ 162 #[.pointer (Z (δ w.o.q))] (w.C (.E #[ι (a:Nat),ι (b:Nat),ν,ι 0] 229)) λe m=>∃g,e=ε (ι 0)/\yc w.o.q m w.o.q (xk wd c) g/\μ w m):=λa b y j=>by
  refine(GW _ _ _ _ ⟨_,_,n a b y j,rfl⟩ ζ).y λe m ⟨u,q,s⟩=>⟨q,u,s.trie,?_⟩;exact((zn w.o.q w).C (ze _) _).A (s.save.u (by simp[VB,UW,i_]) ζ)
 clear n;by_cases A:wd<1
 .by_cases x:c<1
  .have f:1=zU wd:=by unfold zU;split<;>omega
   have d:1=xz c:=by unfold xz;(repeat' split)<;>omega
   have H:=U2 (k.l _ _ f d);clear f d k;go_enter func119,ntmps119;go_wp2_with (go_at_call 162;refine H.l.y ?_;rintro e p ⟨g,rfl,l,j⟩)
   go_ret;exact⟨_,g,rfl,l,j⟩
  by_cases v:c>3
  .have f:1=zU wd:=by unfold zU;split<;>omega
   have d:3=xz c:=by unfold xz;(repeat' split)<;>omega
   have H:=U2 (k.l _ _ f d);clear f d k;go_enter func119,ntmps119;go_wp2_with (go_at_call 162;refine H.l.y ?_;rintro e p ⟨g,rfl,l,j⟩)
   go_ret;exact⟨_,g,rfl,l,j⟩
  have f:1=zU wd:=by unfold zU;split<;>omega
  have d:c=xz c:=by unfold xz;(repeat' split)<;>omega
  have H:=U2 (k.l _ _ f d);clear f d k;go_enter func119,ntmps119;go_wp2_with (go_at_call 162;refine H.l.y ?_;rintro e p ⟨g,rfl,l,j⟩)
  go_ret;exact⟨_,g,rfl,l,j⟩
 by_cases x:c<1
 .have f:wd=zU wd:=by unfold zU;split<;>omega
  have d:1=xz c:=by unfold xz;(repeat' split)<;>omega
  have H:=U2 (k.l _ _ f d);clear f d k;go_enter func119,ntmps119;go_wp2_with (go_at_call 162;refine H.l.y ?_;rintro e p ⟨g,rfl,l,j⟩)
  go_ret;exact⟨_,g,rfl,l,j⟩
 by_cases v:c>3
 .have f:wd=zU wd:=by unfold zU;split<;>omega
  have d:3=xz c:=by unfold xz;(repeat' split)<;>omega
  have H:=U2 (k.l _ _ f d);clear f d k;go_enter func119,ntmps119;go_wp2_with (go_at_call 162;refine H.l.y ?_;rintro e p ⟨g,rfl,l,j⟩)
  go_ret;exact⟨_,g,rfl,l,j⟩
 have f:wd=zU wd:=by unfold zU;split<;>omega
 have d:c=xz c:=by unfold xz;(repeat' split)<;>omega
 have H:=U2 (k.l _ _ f d);clear f d k;go_enter func119,ntmps119;go_wp2_with (go_at_call 162;refine H.l.y ?_;rintro e p ⟨g,rfl,l,j⟩)
 go_ret;exact⟨_,g,rfl,l,j⟩
def TU(x y z:O)(w:U):(Instr.index 165 (.agg #[x,y,z]) (ι 0)).run e_ w=.ok x w:=χ
def Ub(x y z:O)(w:U):(Instr.index 165 (.agg #[x,y,z]) (ι 1)).run e_ w=.ok y w:=χ
def Uj(x y z:O)(w:U):(Instr.index 165 (.agg #[x,y,z]) (ι 2)).run e_ w=.ok z w:=χ
def UV.A{w d f:U}{tb:Nat}{i e:zm}{fp c a:Φ}(h:UV lo w d tb i fp c)(k:UV lo d f tb e c a):UV lo w f tb e fp a:=
 ⟨k.trie,h.save.newer k.save h.qw,λb g=>(k.qw b g).elim (h.qw b) λq=>zg (zX h.save.q q)⟩
def UV.refl{w:U}{tb:Nat}{T:zm}{fp:Φ}(h:yc lo w tb T fp):UV lo w w tb T fp fp:=⟨h,zc.refl _ _,λ_ a=>zh a⟩
def UV.u{w b:U}{tb:Nat}{T:zm}{fp:Φ}(h:yc lo w tb T fp)(a:μ w b):UV lo w b tb T fp fp:=⟨h.u a,zc.of a,λ_ a=>zh a⟩
def GD(T:zm)(a v d:Nat):(yu T a v d).B.j=T.B.j/\(yu T a v d).count=T.count/\(yu T a v d).ql=T.ql/\(yu T a v d).r=T.r:=by
 unfold yu;split<;>simp
def C6(T:zm)(a v:Nat):(qN T a v).1.B.j<=T.B.j+1/\(qN T a v).1.count=T.count/\(qN T a v).1.ql=T.ql/\(qN T a v).1.r=T.r:=by
 unfold qN;split;simp;obtain⟨c,e,d,b⟩:=GD (yI T) a v T.B.j;simp only[c,e,d,b];simp[yI]
def Fb(w:U)(tb:Nat)(T:zm)(fp:Φ)(a v:Nat)(h:yc lo w tb T fp)(q:T.B.j<100000000):
  c_ e_ 191 #[(π tb),ι a,ι v] w λe n=>e=ε (ι ((qN T a v).2:Nat))/\∃m,UV lo w n tb (qN T a v).1 fp m:=by
 have d:=U2 (pH w tb T fp a v h);rcases l:zK T a v with _|b
 .have g:X (qN T a v=(yu (yI T) a v T.B.j,T.B.j)):=by unfold qN;rw[X,l]
  rw[l] at d;simp only[jJ,kV,kX] at d;have s:=U2 (GW w tb T fp h q);go_enter func191,ntmps191;go_wp2_with (first|(go_at_call 130;refine d.l.y ?_;rintro e n ⟨rfl,c⟩;obtain rfl:=c.z)|(go_at_call 162;refine s.l.y ?_;rintro e p ⟨rfl,i,j⟩;have k:=U2 j;clear j)|(go_at_call 203;refine(Wk p tb (yI T) i a v T.B.j k.l.trie).y ?_;rintro e t ⟨rfl,f⟩;have o:=U2 f;clear f))
  go_ret;exact⟨by rw[g.l];rfl,i,by rw[g.l];exact k.l.A o.l⟩
 have g:X (qN T a v=(T,b)):=by unfold qN;rw[X,l]
 rw[l] at d;simp only[jJ,uF,jH] at d;have r:=U2 h;go_enter func191,ntmps191;go_wp2_with (go_at_call 130;refine d.l.y ?_;rintro e n ⟨rfl,c⟩;obtain rfl:=c.z)
 go_ret;exact⟨by rw[g.l];rfl,fp,by rw[g.l];exact UV.refl r.l⟩
def vE.setCount{w:U}{tb:Nat}{T:zm}{f:O}{ns:List (Nat×Nat)}(h:vE lo w tb T f ns)(n:Nat)(t:n<=1000000000):UV lo w (w.x (ω tb 3) (ι n)) tb {T with count:=n} (VB tb f ns) (VB tb f ns):=by
 have a:=zc.set w tb 3 (ι n);have j:∀{s:Nat} {e:f_} {p:Nat} {v:O} {u:Nat} {o:Γ},w.r s e p v u o->e≠229->∀b,v.m=Z b->b∉[tb]:=λr k b g q=>uj r h.box k g (by simpa using q);refine⟨⟨f,ns,⟨h.low,?_,yd h.B a (j h.B θ),h.len,λi d c=>yd (h.K i d c) a (j (h.K i d c) θ),λi d c=>yd (h.down i d c) a (j (h.down i d c) θ),h.apart,h.wide,h.many,h.deep,t⟩,rfl⟩,a.more (by simp[VB]),λb m=>zh m⟩;have l:=h.box.set 3 (ι n);simpa using l
def B5(w:U)(tb:Nat)(T:zm)(fp:Φ)(a v m:Nat)(h:yc lo w tb T fp)(u:T.count<1000000000):
  c_ e_ 190 #[(π tb),ι a,ι v,ι m] w λe q=>e=ε (.i (dQ T a v m).2)/\∃r,UV lo w q tb (dQ T a v m).1 fp r:=by
 have g:=U2 (pH w tb T fp a v h);rcases k:zK T a v with _|b
 .have i:X (dQ T a v m=({yu T a v m with count:=(yu T a v m).count+1},true)):=by unfold dQ;rw[X,k]
  rw[k] at g;simp only[jJ,kV,kX] at g;have z:=U2 (Wk w tb T fp a v m h);have j:=(GD T a v m).2.1;generalize yu T a v m=l at *;rw[←j] at u;clear h j;go_enter func190,ntmps190;go_wp2_with (first|(go_at_call 130;refine g.l.y ?_;rintro e q ⟨rfl,f⟩;obtain rfl:=f.z)|(go_at_call 203;refine z.l.y ?_;rintro e s ⟨rfl,c⟩;obtain⟨D,C,d,n⟩:=c.trie;have p:=U2 c;have t:X (UV lo s (s.x (ω tb 3) (ι ((l.count+1:Nat)))) tb {l with count:=l.count+1} fp fp):=(by rw[n];exact d.setCount (l.count+1) η);have o:=d.box;clear c d;obtain⟨y,x,A⟩:=o.I))
  go_ret;exact⟨by rw[i.l];rfl,fp,by rw[i.l];exact p.l.A t.l⟩
 have i:X (dQ T a v m=(T,false)):=by unfold dQ;rw[X,k]
 rw[k] at g;simp only[jJ,uF,jH] at g;have B:=U2 h;go_enter func190,ntmps190;go_wp2_with (go_at_call 130;refine g.l.y ?_;rintro e q ⟨rfl,f⟩;obtain rfl:=f.z)
 go_ret;exact⟨by rw[i.l];rfl,fp,by rw[i.l];exact UV.refl B.l⟩
def Wz(w:U)(tb:Nat)(T:zm)(fp:Φ)(x y z:Nat)(h:yc lo w tb T fp):
  c_ e_ 189 #[(π tb),.agg #[ι x,ι y,ι z]] w λe t=>e=ε (.i (mm T [x,y,z]))/\μ w t:=by
 obtain⟨B,v,d,rfl⟩:=h;have l:=d.box;have p:=TU (ι x) (ι y) (ι z);have r:=Ub (ι x) (ι y) (ι z);have q:=Uj (ι x) (ι y) (ι z);have g:X (mm T [x,y,z]=(decide (x<T.r)&&(decide (y<T.r)&&decide (z<T.r)))):=by simp[X,mm]
 go_enter func189,ntmps189;go_wp2;go_loopw [8] (λo wr=>∃k:Nat,k<=3/\o=ι k/\(1<=k->x<T.r)/\(2<=k->y<T.r)/\(3<=k->z<T.r)/\μ w wr) (λi _=>3-(d_ i).D);exact⟨0,η,rfl,η,η,η,γ⟩;obtain⟨k,n,rfl,d,m,s,a⟩:=hrel;have f:=l.u a;obtain⟨A,u⟩:=f.H;match k,n with
 |0,_=>
  by_cases b:x<T.r
  .go_wp2;go_roundw;exact⟨1,η,rfl,λ_=>b,η,η,a⟩;simp[d_]
  go_wp2;go_ret;exact⟨by rw[g.l];simp[b],a⟩
 |1,_=>
  have b:=d η;by_cases c:y<T.r
  .go_wp2;go_roundw;exact⟨2,η,rfl,λ_=>b,λ_=>c,η,a⟩;simp[d_]
  go_wp2;go_ret;exact⟨by rw[g.l];simp[c],a⟩
 |2,_=>
  have b:=d η;have c:=m η;by_cases j:z<T.r
  .go_wp2;go_roundw;exact⟨3,η,rfl,λ_=>b,λ_=>c,λ_=>j,a⟩;simp[d_]
  go_wp2;go_ret;exact⟨by rw[g.l];simp[j],a⟩
 |3,_=>
  have b:=d η;have c:=m η;have j:=s η;go_wp2;go_ret;exact⟨by rw[g.l];simp[b,c,j],a⟩
def KP(w:U)(tb:Nat)(T:zm)(fp:Φ)(x y z m:Nat)(h:yc lo w tb T fp)(hn:T.B.j<=90000000)(hc:T.count<1000000000):
  c_ e_ 163 #[(π tb),.agg #[ι x,ι y,ι z],ι m] w λe w'=>e=ε (.i (yE T [x,y,z] m).2)/\∃I,UV lo w w' tb (yE T [x,y,z] m).1 fp I:=by
 have S:=TU (ι x) (ι y) (ι z);have ae:=Ub (ι x) (ι y) (ι z);have ab:=Uj (ι x) (ι y) (ι z);have K:T.ql<=3:=by obtain⟨A,P,E,_⟩:=h;exact E.deep
 have v:=U2 λW hW=>Wz W tb T fp x y z (h.u hW);have M:=U2 h;clear h;cases t:mm T [x,y,z]
 .have n:X (yE T [x,y,z] m=(T,false)):=by simp[X,yE,t]
  rw[t] at v;clear t;go_enter func163,ntmps163;go_wp2_with (go_at_call 189;refine(v.l _ γ).y ?_;rintro e G ⟨rfl,l⟩;have r:μ w G:=zJ γ l (ze _))
  go_ret;exact⟨by rw[n.l];rfl,fp,by rw[n.l];exact UV.u M.l r⟩
 have n:X (yE T [x,y,z] m=vH m T 0 0 [x,y,z]):=by simp[X,yE,t]
 rw[t] at v;clear t;go_enter func163,ntmps163;go_wp2_with (go_at_call 189;refine(v.l _ γ).y ?_;rintro e G ⟨rfl,l⟩;have r:μ w G:=zJ γ l (ze _);have u:=(U3.new w #[ι x,ι y,ι z] 165).u l;obtain⟨J,L,D⟩:=u.I)
 clear J L D u l v;go_loopw [7,15] (λv7 s wr=>∃(k a:Nat) (b:zm) (g:Φ),k<=3/\s=ι k/\v7=ι a/\X (UV lo w wr tb b fp g)/\X (vH m T 0 0 [x,y,z]=vH m b a k ([x,y,z].drop k))/\b.B.j<=T.B.j+k/\b.count=T.count/\b.ql=T.ql) (λ_ s _=>3-(d_ s).D);exact⟨0,0,T,fp,η,rfl,rfl,UV.u M.l r,rfl,η,rfl,rfl⟩;obtain⟨k,a,b,g,N,rfl,rfl,j,o,ad,ac,F⟩:=hrel;have q:∃A,U3 wr tb #[ι b.r,ι b.ql,A,ι b.count] 229:=by obtain⟨A,P,E,_⟩:=j.l.trie;exact⟨A,E.box⟩
 obtain⟨A,q⟩:=q;rw[F] at q;obtain⟨aa,V,af⟩:=q.I;match k,N with
 |0,_=>
  by_cases H:T.ql<=1
  .have i:X (vH m b a 0 [x,y,z]=dQ b a x m):=by rw[X];simp only[vH];rw[zb η]
   have p:=U2 (B5 wr tb b g a x m j.l.trie η);go_wp2_with (go_at_call 190;refine p.l.y ?_;rintro e C ⟨rfl,d,c⟩;have f:=U2 c;clear c)
   go_ret;exact⟨by rw[n.l,o.l];simp only[k_];rw[i.l];rfl,d,by rw[n.l,o.l];simp only[k_];rw[i.l];exact j.l.A f.l⟩
  have i:X (vH m b a 0 [x,y,z]=vH m (qN b a x).1 (qN b a x).2 1 [y,z]):=by rw[X];simp only[vH];rw[za η]
  obtain⟨q1,q2,R,Q⟩:=C6 b a x;have p:=U2 (Fb wr tb b g a x j.l.trie η);generalize qN b a x=B at *;go_wp2_with (go_at_call 191;refine p.l.y ?_;rintro e C ⟨rfl,d,c⟩;have f:=U2 c;clear c)
  go_roundw;exact⟨1,B.2,B.1,d,η,rfl,rfl,j.l.A f.l,(by rw[o.l];exact i.l),η,η,η⟩;simp[d_]
 |1,_=>
  by_cases H:T.ql<=2
  .have i:X (vH m b a 1 [y,z]=dQ b a y m):=by rw[X];simp only[vH];rw[zb η]
   have p:=U2 (B5 wr tb b g a y m j.l.trie η);go_wp2_with (go_at_call 190;refine p.l.y ?_;rintro e C ⟨rfl,d,c⟩;have f:=U2 c;clear c)
   go_ret;exact⟨by rw[n.l,o.l];simp only[k_];rw[i.l];rfl,d,by rw[n.l,o.l];simp only[k_];rw[i.l];exact j.l.A f.l⟩
  have i:X (vH m b a 1 [y,z]=vH m (qN b a y).1 (qN b a y).2 2 [z]):=by rw[X];simp only[vH];rw[za η]
  obtain⟨q1,q2,R,Q⟩:=C6 b a y;have p:=U2 (Fb wr tb b g a y j.l.trie η);generalize qN b a y=B at *;go_wp2_with (go_at_call 191;refine p.l.y ?_;rintro e C ⟨rfl,d,c⟩;have f:=U2 c;clear c)
  go_roundw;exact⟨2,B.2,B.1,d,η,rfl,rfl,j.l.A f.l,(by rw[o.l];exact i.l),η,η,η⟩;simp[d_]
 |2,_=>
  by_cases H:T.ql<=3
  .have i:X (vH m b a 2 [z]=dQ b a z m):=by rw[X];simp only[vH];rw[zb η]
   have p:=U2 (B5 wr tb b g a z m j.l.trie η);go_wp2_with (go_at_call 190;refine p.l.y ?_;rintro e C ⟨rfl,d,c⟩;have f:=U2 c;clear c)
   go_ret;exact⟨by rw[n.l,o.l];simp only[k_];rw[i.l];rfl,d,by rw[n.l,o.l];simp only[k_];rw[i.l];exact j.l.A f.l⟩
  exact zC K H
 |3,_=>
  have i:X (vH m b a 3 []=(b,false)):=by rw[X];simp only[vH]
  go_wp2;go_ret;exact⟨by rw[n.l,o.l];simp only[k_];rw[i.l];rfl,g,by rw[n.l,o.l];simp only[k_];rw[i.l];exact j.l⟩
def Hz(w:U)(tb:Nat)(T:zm)(fp:Φ)(x y z:Nat)(h:yc lo w tb T fp):
  c_ e_ 83 #[(π tb),.agg #[ι x,ι y,ι z]] w λe m=>e=ε (jJ (ud T [x,y,z]))/\μ w m:=by
 have C:=TU (ι x) (ι y) (ι z);have G:=Ub (ι x) (ι y) (ι z);have F:=Uj (ι x) (ι y) (ι z);have q:∃t,U3 w tb #[ι T.r,ι T.ql,t,ι T.count] 229/\T.ql<=3:=by obtain⟨t,K,A,_⟩:=h;exact⟨t,A.box,A.deep⟩
 obtain⟨t,q,u⟩:=q;have r:=U2 λW a v H=>pH W tb T fp a v (h.u H);clear h;have n:X (ud T [x,y,z]=vf T 0 0 [x,y,z]):=rfl;go_enter func83,ntmps83;go_wp2;go_loopw [6,12] (λJ p wr=>∃k a:Nat,k<=3/\p=ι k/\J=ι a/\X (vf T 0 0 [x,y,z]=vf T a k ([x,y,z].drop k))/\μ w wr) (λ_ p _=>3-(d_ p).D);exact⟨0,0,η,rfl,rfl,rfl,γ⟩;obtain⟨k,a,B,rfl,rfl,l,c⟩:=hrel;have s:=q.u c;obtain⟨E,D,I⟩:=s.I;match k,B with
 |0,_=>
  rcases g:zK T a x with _|b
  .have i:X (vf T a 0 [x,y,z]=Y):=by rw[X];simp only[vf];rw[g]
   have f:=r.l wr a x c;rw[g] at f;simp only[jJ,kV,kX] at f;have j:=U2 f;clear f g;go_wp2_with (go_at_call 130;refine j.l.y ?_;rintro e m ⟨rfl,d⟩;obtain rfl:=d.z)
   go_ret2
   exact⟨by rw[n.l,l.l];simp only[k_];rw[i.l];rfl,c⟩
  have f:=r.l wr a x c;rw[g] at f;simp only[jJ,uF,jH] at f;have j:=U2 f;clear f;by_cases o:T.ql<=1
  .have i:X (vf T a 0 [x,y,z]=Z b):=by rw[X];simp only[vf];rw[g];simp only;rw[zb η]
   clear g;go_wp2_with (go_at_call 130;refine j.l.y ?_;rintro e m ⟨rfl,d⟩;obtain rfl:=d.z)
   go_ret2
   exact⟨by rw[n.l,l.l];simp only[k_];rw[i.l];rfl,c⟩
  have i:X (vf T a 0 [x,y,z]=vf T b 1 [y,z]):=by rw[X];simp only[vf];rw[g];simp only;rw[za η]
  clear g;go_wp2_with (go_at_call 130;refine j.l.y ?_;rintro e m ⟨rfl,d⟩;obtain rfl:=d.z)
  go_roundw;exact⟨1,b,η,rfl,rfl,(by rw[l.l];exact i.l),c⟩;simp[d_]
 |1,_=>
  rcases g:zK T a y with _|b
  .have i:X (vf T a 1 [y,z]=Y):=by rw[X];simp only[vf];rw[g]
   have f:=r.l wr a y c;rw[g] at f;simp only[jJ,kV,kX] at f;have j:=U2 f;clear f g;go_wp2_with (go_at_call 130;refine j.l.y ?_;rintro e m ⟨rfl,d⟩;obtain rfl:=d.z)
   go_ret2
   exact⟨by rw[n.l,l.l];simp only[k_];rw[i.l];rfl,c⟩
  have f:=r.l wr a y c;rw[g] at f;simp only[jJ,uF,jH] at f;have j:=U2 f;clear f;by_cases o:T.ql<=2
  .have i:X (vf T a 1 [y,z]=Z b):=by rw[X];simp only[vf];rw[g];simp only;rw[zb η]
   clear g;go_wp2_with (go_at_call 130;refine j.l.y ?_;rintro e m ⟨rfl,d⟩;obtain rfl:=d.z)
   go_ret2
   exact⟨by rw[n.l,l.l];simp only[k_];rw[i.l];rfl,c⟩
  have i:X (vf T a 1 [y,z]=vf T b 2 [z]):=by rw[X];simp only[vf];rw[g];simp only;rw[za η]
  clear g;go_wp2_with (go_at_call 130;refine j.l.y ?_;rintro e m ⟨rfl,d⟩;obtain rfl:=d.z)
  go_roundw;exact⟨2,b,η,rfl,rfl,(by rw[l.l];exact i.l),c⟩;simp[d_]
 |2,_=>
  rcases g:zK T a z with _|b
  .have i:X (vf T a 2 [z]=Y):=by rw[X];simp only[vf];rw[g]
   have f:=r.l wr a z c;rw[g] at f;simp only[jJ,kV,kX] at f;have j:=U2 f;clear f g;go_wp2_with (go_at_call 130;refine j.l.y ?_;rintro e m ⟨rfl,d⟩;obtain rfl:=d.z)
   go_ret2
   exact⟨by rw[n.l,l.l];simp only[k_];rw[i.l];rfl,c⟩
  have f:=r.l wr a z c;rw[g] at f;simp only[jJ,uF,jH] at f;have j:=U2 f;clear f;by_cases o:T.ql<=3
  .have i:X (vf T a 2 [z]=Z b):=by rw[X];simp only[vf];rw[g];simp only;rw[zb η]
   clear g;go_wp2_with (go_at_call 130;refine j.l.y ?_;rintro e m ⟨rfl,d⟩;obtain rfl:=d.z)
   go_ret2
   exact⟨by rw[n.l,l.l];simp only[k_];rw[i.l];rfl,c⟩
  exact zC u o
 |3,_=>
  have i:X (vf T a 3 []=Y):=by rw[X];simp only[vf]
  go_wp2;go_ret2
  exact⟨by rw[n.l,l.l];simp only[k_];rw[i.l];rfl,c⟩
def TI:(e_.info? 165).map (λi=>(i.zero,i.q,i.bytes))=Z (Z (.agg #[ι 0,ι 0,ι 0]),3,24):=χ
def jZ(rs:List zl):List Value:=rs.flatMap (·.map Vg)
def UI(lo:Nat)(w:U)(v:O)(rs:List zl):Prop:=w.r lo 165 3 v rs.j (jZ rs)/\∀r∈rs,r.j=3
def uS(B:Nat)(w:U)(b tb:Nat)(row:zl)(a:List zl):Prop:=∃(x y z:Nat) (c:O),row=[x,y,z]/\B<=b/\U3 w b #[(π tb),ι x,ι y,ι z,c] 223/\UI B w c a
def uS.u{B:Nat}{w w':U}{c tb:Nat}{row:zl}{a:List zl}(h:uS B w c tb row a)(b:μ w w'):uS B w' c tb row a:=by
 obtain⟨x,y,z,j,d,i,e,f,g⟩:=h;exact⟨x,y,z,j,d,i,e.u b,zy f b,g⟩
def eC{T:zm}{a f v:Nat}(h:yJ T a f=Z v):v<T.r:=by
 unfold yJ at h;split at h;simp only at h;split at h;cases h;simp only[zt] at h;omega;cases h
def n7(T:zm):∀(n a level f:Nat) (row:zl) (b:List zl) (c:zl×List zl),ue T n a level f row b=Z c->b.j<=c.2.j
 |0,_,_,_,_,_,_,h=>by simp[ue] at h
 |n+1,a,level,f,row,b,c,h=>by
  unfold ue at h;split at h
  .simp at h;subst h;simp
  .rename_i v k;simp only at h;split at h
   .have:=n7 T n _ _ _ _ _ _ h;simp at this;omega
   .split at h
    .exact n7 T n _ _ _ _ _ _ h
    .split at h
     .cases h
     .rename_i e d i;have g:=n7 T n _ _ _ _ _ _ i;have j:=n7 T n _ _ _ _ _ _ h;simp at g;omega
def SN(c:U)(tb:Nat)(T:zm)(fp:Φ)(ht:yc lo c tb T fp)(g n:Nat)(ih:(∀m,m<n->∀(w:U) (a level:Nat) (row:zl) (i:List zl) (d:zl×List zl),ue T m a level 0 row i=Z d->level<3->d.2.j<=1048576->μ c w->uS c.o.q w g tb row i->c_ e_ 127 #[(π g),ι a,ι level] w λe j=>e=ε (.B #[])/\uS c.o.q j g tb d.1 d.2/\μ c j))(w:U)(a:Nat)(row:zl)(i:List zl)(d:zl×List zl)(R:ue T n a 0 0 row i=Z d)(aA:d.2.j<=1048576)(ac:μ c w)(G:uS c.o.q w g tb row i):
  c_ e_ 127 #[(π g),ι a,ι 0] w λe j=>e=ε (.B #[])/\uS c.o.q j g tb d.1 d.2/\μ c j:=by
 have HI:=U2 ih;clear ih;have HL:X (∀W f,μ c W->c_ e_ 167 #[(π tb),ι a,ι ((f:Nat):Int)] W λe j=>e=ε (.B #[ι (((yJ T a f).d 0:Nat):Int),.i (yJ T a f).I])/\j=W):=λW f hW=>tO W tb T fp a f (ht.u hW);have HD:X (∀W v,μ c W->c_ e_ 130 #[(π tb),ι a,ι ((v:Nat):Int)] W λe j=>e=ε (.B #[ι (((zK T a v).d 0:Nat):Int),.i (zK T a v).I])/\j=W):=λW v hW=>pH W tb T fp a v (ht.u hW);have aI:T.ql<=3:=by obtain⟨nv,ns,h1,_⟩:=ht;exact h1.deep
 have aC:T.r<=1000:=by obtain⟨nv,ns,h1,_⟩:=ht;exact h1.wide
 have A:∃nv,U3 c tb #[ι T.r,ι T.ql,nv,ι T.count] 229:=by obtain⟨nv,ns,h1,_⟩:=ht;exact⟨nv,h1.box⟩
 obtain⟨nv,A⟩:=A;clear ht;have aq:=U2 G;have P:=U2 R;obtain⟨x,y,z,rv,aw,u,s,a2,av⟩:=G;clear aw a2 av R;obtain⟨L,N,V⟩:=s.I;go_enter func127,ntmps127;go_wp2_with (go_at_call 167;refine(HL.l w 0 ac).y ?_;rintro e j ⟨rfl,o⟩;obtain rfl:=o.z;clear o)
 clear L N V s;go_loopg [6,7] n (λk v6 v7 wr=>∃(f:Nat) (E:zl) (b:List zl),v6=ι (((yJ T a f).d 0:Nat):Int)/\v7=.i (yJ T a f).I/\X (uS c.o.q wr g tb E b)/\X (ue T k a 0 f E b=Z d)/\k<=n/\μ c wr)
 case atStart=>exact⟨0,row,i,rfl,rfl,aq,P,ze _,ac⟩
 clear aq P ac u;obtain⟨f,E,b,rfl,rfl,aa,HQ,aE,K⟩:=hrel;have au:=aa.l;obtain⟨x,y,z,rv,ae,u,s,B,ap⟩:=au;subst ae;obtain⟨L,N,V⟩:=s.I;rcases gk with _|m;have:=HQ.l;simp[ue] at this;have D:=HQ.l;unfold ue at D;rcases hl:yJ T a f with _|v
 .rw[hl] at D;simp only[zt] at D;have HE:X (d=([x,y,z],b)):=D.z;clear D hl HQ;simp only[kV,kX];go_wp2;go_end0
  exact⟨rfl,by rw[HE.l];exact aa.l,K⟩
 rw[hl] at D;simp only at D;have aH:v<=1000:=by have:=eC hl;omega
 clear hl HQ;simp only[uF,jH];have an:X (∀W,μ c W->c_ e_ 167 #[(π tb),ι a,ι ((v:Int)+1)] W λe j=>e=ε (.B #[ι (((yJ T a (v+1)).d 0:Nat):Int),.i (yJ T a (v+1)).I])/\j=W):=λW hW=>by
  have q:=HL.l W (v+1) hW;rw[show((v+1:Nat):Int)=(v:Int)+1 from by omega] at q;exact q
 have l:=s.set 1 (ι v);simp at l;have ai:=A.u K;obtain⟨a3,a1,az⟩:=ai.I;have aF:g≠tb:=(λe=>by have:=A.lt;omega);by_cases hd:T.ql<=1
 .rw[zb η] at D;have J:X (ue T m a 0 (v+1) [v,y,z] (b++[[v,y,z]])=Z d):=D;have ad:=n7 T m _ _ _ _ _ _ D;simp at ad;clear D HI HD HL;obtain⟨i0,hi,a0,ax,a4⟩:=info_parts TI;obtain⟨ao,aj,rfl⟩:=zq B;have t:(wr.x (ω g 1) (ι v)).r c.o.q 165 3 (.k ao b.j aj) b.j (jZ b):=xJ B ((UF.refl g wr).x 1 _) s θ;have I:μ c (wr.x (ω g 1) (ι v)):=K.x (p:=(ω g 1)) u _;have ar:=I.q;go_wp2;clear L N s B a3 a1 az ai aa V;generalize wr.x (ω g 1) (ι v)=wS at *;obtain⟨L,N,a6⟩:=l.I;go_region_law (first|(refine fU wS _ [ι v,ι y,ι z] 165 rfl (.tmp 42) (.tmp 47) 161 rfl c.o.q 165 i0 _ 3 24 underlying161 hi a0 ax a4 rfl θ (.k ao b.j aj) b.j (jZ b) (by simp[n_]) t γ wS.o.q 1 (by simp[n_]) (by exact U3.drew (U3.new _ _ _)) rfl a_ η η η ?_;intro v' w2 ag al aB aD a7;obtain⟨C,h,rfl⟩:=zq ag;have H:=l.save al (vL t l θ);obtain⟨aL,aK,aG⟩:=H.I))
  all_goals
   have ab:UI c.o.q (w2.x (ω g 4) (.k C (b.j+1) h)) (.k C (b.j+1) h) (b++[[v,y,z]]):=by
    refine⟨?_,λr hr=>?_⟩;have:=xJ ag ((UF.refl g w2).x 4 (.k C (b.j+1) h)) H θ;simpa [jZ,Vg] using this;rcases zW.1 hr with q|q;exact ap r q;simp at q;rw[q];rfl
   have S:=H.set 4 (.k C (b.j+1) h);simp at S;have ah:μ c (w2.x (ω g 4) (.k C (b.j+1) h)):=(I.A (al.u (λx hx=>yZ t (yA hx)) ar)).x (p:=(ω g 4)) u _;have F:X (uS c.o.q (w2.x (ω g 4) (.k C (b.j+1) h)) g tb [v,y,z] (b++[[v,y,z]])):=⟨_,_,_,_,rfl,u,S,ab⟩;go_wp2_with (go_at_call 167;refine(an.l _ (by exact ah)).y ?_;rintro e j ⟨rfl,o⟩;obtain rfl:=o.z)
   go_roundg m
   case measure=>omega
   exact⟨v+1,_,_,rfl,rfl,F,J,η,ah⟩
 have J:=D;rw[za η,za η] at J;have I:μ c (wr.x (ω g 1) (ι v)):=K.x (p:=(ω g 1)) u _;have ak:uS c.o.q (wr.x (ω g 1) (ι v)) g tb [v,y,z] b:=⟨_,_,_,rv,rfl,u,l,xJ B ((UF.refl g wr).x 1 _) s θ,ap⟩;rcases M:ue T m ((zK T a v).d 0) 1 0 [v,y,z] b with _|rr;rw[show [x,y,z].set 0 v=[v,y,z] from rfl] at J;rw[M] at J;cases J;rw[show [x,y,z].set 0 v=[v,y,z] from rfl] at J;rw[M] at J;have H3:ue T m a 0 (v+1) rr.1 rr.2=Z d:=J;have HW:X (c_ e_ 127 #[(π g),ι (((zK T a v).d 0:Nat):Int),ι 1] (wr.x (ω g 1) (ι v)) λe j=>e=ε (.B #[])/\uS c.o.q j g tb rr.1 rr.2/\μ c j):=by
  have q:=HI.l m η _ _ _ _ _ rr M η (by have:=n7 T m _ _ _ _ _ _ H3;omega) I ak;rw[show((1:Nat):Int)=1 from rfl] at q;exact q
 have H4:=U2 H3;clear D J H3 M;have ay:=U2 (HD.l _ v I);generalize (zK T a v).d 0=dn at *;generalize (zK T a v).I=ds at *;clear HD HI HL;go_wp2_with (first|(go_at_call 130;refine ay.l.y ?_;rintro e j ⟨rfl,o⟩;obtain rfl:=o.z)|(go_at_call 127;refine HW.l.y ?_;rintro e w3 ⟨rfl,Q,af⟩;have F:=U2 Q;obtain⟨x3,y3,z3,aJ,_,_,am,_,_⟩:=Q;obtain⟨a8,a9,a5⟩:=am.I)|(go_at_call 167;refine(an.l _ af).y ?_;rintro e j ⟨rfl,o⟩;obtain rfl:=o.z))
 go_roundg m
 case measure=>omega
 exact⟨v+1,rr.1,rr.2,rfl,rfl,F,H4,η,af⟩
def T0(c:U)(tb:Nat)(T:zm)(fp:Φ)(ht:yc lo c tb T fp)(g n:Nat)(ih:(∀m,m<n->∀(w:U) (a level:Nat) (row:zl) (i:List zl) (d:zl×List zl),ue T m a level 0 row i=Z d->level<3->d.2.j<=1048576->μ c w->uS c.o.q w g tb row i->c_ e_ 127 #[(π g),ι a,ι level] w λe j=>e=ε (.B #[])/\uS c.o.q j g tb d.1 d.2/\μ c j))(w:U)(a:Nat)(row:zl)(i:List zl)(d:zl×List zl)(R:ue T n a 1 0 row i=Z d)(aA:d.2.j<=1048576)(ac:μ c w)(G:uS c.o.q w g tb row i):
  c_ e_ 127 #[(π g),ι a,ι 1] w λe j=>e=ε (.B #[])/\uS c.o.q j g tb d.1 d.2/\μ c j:=by
 have HI:=U2 ih;clear ih;have HL:X (∀W f,μ c W->c_ e_ 167 #[(π tb),ι a,ι ((f:Nat):Int)] W λe j=>e=ε (.B #[ι (((yJ T a f).d 0:Nat):Int),.i (yJ T a f).I])/\j=W):=λW f hW=>tO W tb T fp a f (ht.u hW);have HD:X (∀W v,μ c W->c_ e_ 130 #[(π tb),ι a,ι ((v:Nat):Int)] W λe j=>e=ε (.B #[ι (((zK T a v).d 0:Nat):Int),.i (zK T a v).I])/\j=W):=λW v hW=>pH W tb T fp a v (ht.u hW);have aI:T.ql<=3:=by obtain⟨nv,ns,h1,_⟩:=ht;exact h1.deep
 have aC:T.r<=1000:=by obtain⟨nv,ns,h1,_⟩:=ht;exact h1.wide
 have A:∃nv,U3 c tb #[ι T.r,ι T.ql,nv,ι T.count] 229:=by obtain⟨nv,ns,h1,_⟩:=ht;exact⟨nv,h1.box⟩
 obtain⟨nv,A⟩:=A;clear ht;have aq:=U2 G;have P:=U2 R;obtain⟨x,y,z,rv,aw,u,s,a2,av⟩:=G;clear aw a2 av R;obtain⟨L,N,V⟩:=s.I;go_enter func127,ntmps127;go_wp2_with (go_at_call 167;refine(HL.l w 0 ac).y ?_;rintro e j ⟨rfl,o⟩;obtain rfl:=o.z;clear o)
 clear L N V s;go_loopg [6,7] n (λk v6 v7 wr=>∃(f:Nat) (E:zl) (b:List zl),v6=ι (((yJ T a f).d 0:Nat):Int)/\v7=.i (yJ T a f).I/\X (uS c.o.q wr g tb E b)/\X (ue T k a 1 f E b=Z d)/\k<=n/\μ c wr)
 case atStart=>exact⟨0,row,i,rfl,rfl,aq,P,ze _,ac⟩
 clear aq P ac u;obtain⟨f,E,b,rfl,rfl,aa,HQ,aE,K⟩:=hrel;have au:=aa.l;obtain⟨x,y,z,rv,ae,u,s,B,ap⟩:=au;subst ae;obtain⟨L,N,V⟩:=s.I;rcases gk with _|m;have:=HQ.l;simp[ue] at this;have D:=HQ.l;unfold ue at D;rcases hl:yJ T a f with _|v
 .rw[hl] at D;simp only[zt] at D;have HE:X (d=([x,y,z],b)):=D.z;clear D hl HQ;simp only[kV,kX];go_wp2;go_end0
  exact⟨rfl,by rw[HE.l];exact aa.l,K⟩
 rw[hl] at D;simp only at D;have aH:v<=1000:=by have:=eC hl;omega
 clear hl HQ;simp only[uF,jH];have an:X (∀W,μ c W->c_ e_ 167 #[(π tb),ι a,ι ((v:Int)+1)] W λe j=>e=ε (.B #[ι (((yJ T a (v+1)).d 0:Nat):Int),.i (yJ T a (v+1)).I])/\j=W):=λW hW=>by
  have q:=HL.l W (v+1) hW;rw[show((v+1:Nat):Int)=(v:Int)+1 from by omega] at q;exact q
 have l:=s.set 2 (ι v);simp at l;have ai:=A.u K;obtain⟨a3,a1,az⟩:=ai.I;have aF:g≠tb:=(λe=>by have:=A.lt;omega);by_cases hd:T.ql<=2
 .rw[zb η] at D;have J:X (ue T m a 1 (v+1) [x,v,z] (b++[[x,v,z]])=Z d):=D;have ad:=n7 T m _ _ _ _ _ _ D;simp at ad;clear D HI HD HL;obtain⟨i0,hi,a0,ax,a4⟩:=info_parts TI;obtain⟨ao,aj,rfl⟩:=zq B;have t:(wr.x (ω g 2) (ι v)).r c.o.q 165 3 (.k ao b.j aj) b.j (jZ b):=xJ B ((UF.refl g wr).x 2 _) s θ;have I:μ c (wr.x (ω g 2) (ι v)):=K.x (p:=(ω g 2)) u _;have ar:=I.q;go_wp2;clear L N s B a3 a1 az ai aa V;generalize wr.x (ω g 2) (ι v)=wS at *;obtain⟨L,N,a6⟩:=l.I;go_region_law (first|(refine fU wS _ [ι x,ι v,ι z] 165 rfl (.tmp 42) (.tmp 47) 161 rfl c.o.q 165 i0 _ 3 24 underlying161 hi a0 ax a4 rfl θ (.k ao b.j aj) b.j (jZ b) (by simp[n_]) t γ wS.o.q 1 (by simp[n_]) (by exact U3.drew (U3.new _ _ _)) rfl a_ η η η ?_;intro v' w2 ag al aB aD a7;obtain⟨C,h,rfl⟩:=zq ag;have H:=l.save al (vL t l θ);obtain⟨aL,aK,aG⟩:=H.I))
  all_goals
   have ab:UI c.o.q (w2.x (ω g 4) (.k C (b.j+1) h)) (.k C (b.j+1) h) (b++[[x,v,z]]):=by
    refine⟨?_,λr hr=>?_⟩;have:=xJ ag ((UF.refl g w2).x 4 (.k C (b.j+1) h)) H θ;simpa [jZ,Vg] using this;rcases zW.1 hr with q|q;exact ap r q;simp at q;rw[q];rfl
   have S:=H.set 4 (.k C (b.j+1) h);simp at S;have ah:μ c (w2.x (ω g 4) (.k C (b.j+1) h)):=(I.A (al.u (λx hx=>yZ t (yA hx)) ar)).x (p:=(ω g 4)) u _;have F:X (uS c.o.q (w2.x (ω g 4) (.k C (b.j+1) h)) g tb [x,v,z] (b++[[x,v,z]])):=⟨_,_,_,_,rfl,u,S,ab⟩;go_wp2_with (go_at_call 167;refine(an.l _ (by exact ah)).y ?_;rintro e j ⟨rfl,o⟩;obtain rfl:=o.z)
   go_roundg m
   case measure=>omega
   exact⟨v+1,_,_,rfl,rfl,F,J,η,ah⟩
 have J:=D;rw[za η,za η] at J;have I:μ c (wr.x (ω g 2) (ι v)):=K.x (p:=(ω g 2)) u _;have ak:uS c.o.q (wr.x (ω g 2) (ι v)) g tb [x,v,z] b:=⟨_,_,_,rv,rfl,u,l,xJ B ((UF.refl g wr).x 2 _) s θ,ap⟩;rcases M:ue T m ((zK T a v).d 0) 2 0 [x,v,z] b with _|rr;rw[show [x,y,z].set 1 v=[x,v,z] from rfl] at J;rw[M] at J;cases J;rw[show [x,y,z].set 1 v=[x,v,z] from rfl] at J;rw[M] at J;have H3:ue T m a 1 (v+1) rr.1 rr.2=Z d:=J;have HW:X (c_ e_ 127 #[(π g),ι (((zK T a v).d 0:Nat):Int),ι 2] (wr.x (ω g 2) (ι v)) λe j=>e=ε (.B #[])/\uS c.o.q j g tb rr.1 rr.2/\μ c j):=by
  have q:=HI.l m η _ _ _ _ _ rr M η (by have:=n7 T m _ _ _ _ _ _ H3;omega) I ak;rw[show((2:Nat):Int)=2 from rfl] at q;exact q
 have H4:=U2 H3;clear D J H3 M;have ay:=U2 (HD.l _ v I);generalize (zK T a v).d 0=dn at *;generalize (zK T a v).I=ds at *;clear HD HI HL;go_wp2_with (first|(go_at_call 130;refine ay.l.y ?_;rintro e j ⟨rfl,o⟩;obtain rfl:=o.z)|(go_at_call 127;refine HW.l.y ?_;rintro e w3 ⟨rfl,Q,af⟩;have F:=U2 Q;obtain⟨x3,y3,z3,aJ,_,_,am,_,_⟩:=Q;obtain⟨a8,a9,a5⟩:=am.I)|(go_at_call 167;refine(an.l _ af).y ?_;rintro e j ⟨rfl,o⟩;obtain rfl:=o.z))
 go_roundg m
 case measure=>omega
 exact⟨v+1,rr.1,rr.2,rfl,rfl,F,H4,η,af⟩
def TB(c:U)(tb:Nat)(T:zm)(fp:Φ)(ht:yc lo c tb T fp)(i n:Nat)(ih:(∀m,m<n->∀(w:U) (a level:Nat) (row:zl) (h:List zl) (d:zl×List zl),ue T m a level 0 row h=Z d->level<3->d.2.j<=1048576->μ c w->uS c.o.q w i tb row h->c_ e_ 127 #[(π i),ι a,ι level] w λe u=>e=ε (.B #[])/\uS c.o.q u i tb d.1 d.2/\μ c u))(w:U)(a:Nat)(row:zl)(h:List zl)(d:zl×List zl)(K:ue T n a 2 0 row h=Z d)(a1:d.2.j<=1048576)(R:μ c w)(C:uS c.o.q w i tb row h):
  c_ e_ 127 #[(π i),ι a,ι 2] w λe u=>e=ε (.B #[])/\uS c.o.q u i tb d.1 d.2/\μ c u:=by
 have HI:=U2 ih;clear ih;have HL:X (∀W f,μ c W->c_ e_ 167 #[(π tb),ι a,ι ((f:Nat):Int)] W λe u=>e=ε (.B #[ι (((yJ T a f).d 0:Nat):Int),.i (yJ T a f).I])/\u=W):=λW f hW=>tO W tb T fp a f (ht.u hW);have HD:X (∀W v,μ c W->c_ e_ 130 #[(π tb),ι a,ι ((v:Nat):Int)] W λe u=>e=ε (.B #[ι (((zK T a v).d 0:Nat):Int),.i (zK T a v).I])/\u=W):=λW v hW=>pH W tb T fp a v (ht.u hW);have au:T.ql<=3:=by obtain⟨nv,ns,h1,_⟩:=ht;exact h1.deep
 have a3:T.r<=1000:=by obtain⟨nv,ns,h1,_⟩:=ht;exact h1.wide
 have o:∃nv,U3 c tb #[ι T.r,ι T.ql,nv,ι T.count] 229:=by obtain⟨nv,ns,h1,_⟩:=ht;exact⟨nv,h1.box⟩
 obtain⟨nv,o⟩:=o;clear ht;have ah:=U2 C;have J:=U2 K;obtain⟨x,y,z,rv,al,E,l,ar,ak⟩:=C;clear al ar ak K;obtain⟨G,I,M⟩:=l.I;go_enter func127,ntmps127;go_wp2_with (go_at_call 167;refine(HL.l w 0 R).y ?_;rintro e u ⟨rfl,H⟩;obtain rfl:=H.z;clear H)
 clear G I M l;go_loopg [6,7] n (λk v6 v7 wr=>∃(f:Nat) (A:zl) (b:List zl),v6=ι (((yJ T a f).d 0:Nat):Int)/\v7=.i (yJ T a f).I/\X (uS c.o.q wr i tb A b)/\X (ue T k a 2 f A b=Z d)/\k<=n/\μ c wr)
 case atStart=>exact⟨0,row,h,rfl,rfl,ah,J,ze _,R⟩
 clear ah J R E;obtain⟨f,A,b,rfl,rfl,P,HQ,a5,N⟩:=hrel;have aj:=P.l;obtain⟨x,y,z,rv,V,E,l,B,ax⟩:=aj;subst V;obtain⟨G,I,M⟩:=l.I;rcases gk with _|m;have:=HQ.l;simp[ue] at this;have F:=HQ.l;unfold ue at F;rcases hl:yJ T a f with _|v
 .rw[hl] at F;simp only[zt] at F;have HE:X (d=([x,y,z],b)):=F.z;clear F hl HQ;simp only[kV,kX];go_wp2;go_end0
  exact⟨rfl,by rw[HE.l];exact P.l,N⟩
 rw[hl] at F;simp only at F;have a8:v<=1000:=by have:=eC hl;omega
 clear hl HQ;simp only[uF,jH];have av:X (∀W,μ c W->c_ e_ 167 #[(π tb),ι a,ι ((v:Int)+1)] W λe u=>e=ε (.B #[ι (((yJ T a (v+1)).d 0:Nat):Int),.i (yJ T a (v+1)).I])/\u=W):=λW hW=>by
  have q:=HL.l W (v+1) hW;rw[show((v+1:Nat):Int)=(v:Int)+1 from by omega] at q;exact q
 have s:=l.set 3 (ι v);simp at s;have ae:=o.u N;obtain⟨aw,aq,an⟩:=ae.I;have a6:i≠tb:=(λe=>by have:=o.lt;omega);by_cases hd:T.ql<=3
 .rw[zb η] at F;have H2:X (ue T m a 2 (v+1) [x,y,v] (b++[[x,y,v]])=Z d):=F;have S:=n7 T m _ _ _ _ _ _ F;simp at S;clear F HI HD HL;obtain⟨i0,hi,ap,am,ay⟩:=info_parts TI;obtain⟨ao,af,rfl⟩:=zq B;have j:(wr.x (ω i 3) (ι v)).r c.o.q 165 3 (.k ao b.j af) b.j (jZ b):=xJ B ((UF.refl i wr).x 3 _) l θ;have ac:μ c (wr.x (ω i 3) (ι v)):=N.x (p:=(ω i 3)) E _;have ai:=ac.q;go_wp2;clear G I l B aw aq an ae P M;generalize wr.x (ω i 3) (ι v)=wS at *;obtain⟨G,I,az⟩:=s.I;go_region_law (first|(refine fU wS _ [ι x,ι y,ι v] 165 rfl (.tmp 42) (.tmp 47) 161 rfl c.o.q 165 i0 _ 3 24 underlying161 hi ap am ay rfl θ (.k ao b.j af) b.j (jZ b) (by simp[n_]) j γ wS.o.q 1 (by simp[n_]) (by exact U3.drew (U3.new _ _ _)) rfl a_ η η η ?_;intro v' w2 aa ag a2 a4 a0;obtain⟨t,g,rfl⟩:=zq aa;have D:=s.save ag (vL j s θ);obtain⟨aA,a9,a7⟩:=D.I))
  all_goals
   have Q:UI c.o.q (w2.x (ω i 4) (.k t (b.j+1) g)) (.k t (b.j+1) g) (b++[[x,y,v]]):=by
    refine⟨?_,λr hr=>?_⟩;have:=xJ aa ((UF.refl i w2).x 4 (.k t (b.j+1) g)) D θ;simpa [jZ,Vg] using this;rcases zW.1 hr with q|q;exact ax r q;simp at q;rw[q];rfl
   have L:=D.set 4 (.k t (b.j+1) g);simp at L;have ad:μ c (w2.x (ω i 4) (.k t (b.j+1) g)):=(ac.A (ag.u (λx hx=>yZ j (yA hx)) ai)).x (p:=(ω i 4)) E _;have ab:X (uS c.o.q (w2.x (ω i 4) (.k t (b.j+1) g)) i tb [x,y,v] (b++[[x,y,v]])):=⟨_,_,_,_,rfl,E,L,Q⟩;go_wp2_with (go_at_call 167;refine(av.l _ (by exact ad)).y ?_;rintro e u ⟨rfl,H⟩;obtain rfl:=H.z)
   go_roundg m
   case measure=>omega
   exact⟨v+1,_,_,rfl,rfl,ab,H2,η,ad⟩
 exact zC au η
def Wr(h:U)(tb:Nat)(T:zm)(fp:Φ)(k:yc lo h tb T fp)(j:Nat):∀(n:Nat) (w:U) (a level:Nat) (row:zl) (b:List zl) (c:zl×List zl),ue T n a level 0 row b=Z c->level<3->c.2.j<=1048576->μ h w->uS h.o.q w j tb row b →
  c_ e_ 127 #[(π j),ι a,ι level] w λe o=>e=ε (.B #[])/\uS h.o.q o j tb c.1 c.2/\μ h o:=by
 intro n;induction n using Nat.strongRecOn with
 |_ n l=>
  intro w a level row b c g m f i d;obtain rfl|rfl|rfl:level=0∨level=1∨level=2:=η
  exact SN h tb T fp k j n l w a row b c g f i d;exact T0 h tb T fp k j n l w a row b c g f i d;exact TB h tb T fp k j n l w a row b c g f i d
def Dn(w:U)(tb:Nat)(T:zm)(fp:Φ)(m:yc lo w tb T fp)(n:Nat)(rs:List zl)(a:mI n T=Z rs)(c:rs.j<=1048576):
  c_ e_ 78 #[(π tb)] w λe k=>∃v,e=.returned v/\UI w.o.q k v rs/\μ w k:=by
 unfold mI at a;rcases h:ue T n 0 0 0 [0,0,0] [] with _|f;rw[h] at a;cases a;rw[h] at a;simp only[jY,zt] at a;subst a;have hrel:uS w.o.q (w.C (.E #[(π tb),ι 0,ι 0,ι 0,ν] 223)) w.o.q tb [0,0,0] []:=⟨0,0,0,_,rfl,ze _,U3.new _ _ _,xj _ _ _ _,ζ⟩;have p:=U2 (Wr w tb T fp m w.o.q n _ 0 0 _ _ f h η c zQ hrel);go_enter func78,ntmps78;go_wp2_with (go_at_call 127;refine p.l.y ?_;rintro e r ⟨rfl,g,d⟩;obtain⟨x,y,z,s,_,_,i,b⟩:=g;have j:=U2 b;clear b;obtain⟨l,o,q⟩:=i.I)
 go_ret;exact⟨_,rfl,j.l,d⟩
def kQ(t:yo):O×O×Value:=(.i t.var,ι t.D,ι t.w)
structure yx (lo:Nat) (w:U) (v:O) (ts:List yo):Prop where
 own:w.r lo 284 3 v ts.j (UM (ts.map kQ))
 len:ts.j<=1000
 D:∀t∈ts,t.D<=1000000/\t.w<=1000000
def yx.u{w w':U}{v:O}{ts:List yo}(h:yx lo w v ts)(a:μ w w'):yx lo w' v ts:=⟨zy h.own a,h.len,h.D⟩
def yx.qm{w:U}{v:O}{ts:List yo}(h:yx lo w v ts):∃b a,v=.k b ts.j a:=zq h.own
def yx.cell{w:U}{a:Option Addr}{n cap:Nat}{ts:List yo}(h:yx lo w (.k a n cap) ts)(k:Nat)(i:k<ts.j):∃g,a=Z (δ g)/\g<w.o.q/\w.p (ω g (k*3))=Z (.i ts[k].var)/\w.p (ω g (k*3+1))=Z (ι (ts[k].D:Nat))/\w.p (ω g (k*3+2))=Z (ι (ts[k].w:Nat)):=by
 obtain⟨g,f,d,_,j,_⟩:=yt h.own η;simp only[p_] at d;obtain⟨rfl,_,_⟩:=d;obtain⟨_,c,b,e⟩:=pq h.own k (by simpa using i);simp only[xM,kQ] at c b e;exact⟨g,rfl,j,c,b,e⟩
def Vv{α:Type}(l:List α)(p:α->Bool)(k:Nat)(a:k<l.j):(l.G (k+1)).any p=((l.G k).any p||p l[k]):=by
 rw[yF a,List.any_append];simp
def DG{α:Type}(l:List α)(p:α->Bool)(k:Nat)(a:k<l.j)(h:p l[k]=true):l.any p=true:=fa.2 ⟨_,zr a,h⟩
def Gw(w:U)(v:O)(f c:Nat)(ts:List yo)(h:yx lo w v ts):
  c_ e_ 202 #[.agg #[ι f,v],ι c] w λe B=>e=ε (.i (zL ⟨f,ts⟩ c))/\μ w B:=by
 obtain⟨H,E,rfl⟩:=h.qm;have I:=h.len;go_enter func202,ntmps202;go_wp2;go_loopw [10] (λm wr=>∃k:Nat,k<=ts.j/\m=ι k/\X ((ts.G k).any (λt=>t.var&&t.D == c)=false)/\μ w wr) (λi _=>ts.j-(d_ i).D);exact⟨0,zs _,rfl,rfl,γ⟩;obtain⟨k,G,rfl,r,a⟩:=hrel;have b:=a.q;by_cases d:k<ts.j
 .obtain⟨g,rfl,p,A,y,x⟩:=h.cell k d;have q:=zi a p A;have z:=zi a p y;have C:=zi a p x;have l:=U2 (Vv ts (λt=>t.var&&t.D == c) k d);have F:=U2 (DG ts (λt=>t.var&&t.D == c) k d);generalize ts[k]=t at *;cases u:t.var
  .rw[u] at q l;go_wp2;go_roundw;exact⟨k+1,η,ξ,(by rw[l.l,r.l];rfl),a.C b _⟩;simp[d_];omega
  by_cases s:t.D=c
  .have o:X (zL ⟨f,ts⟩ c=true):=F.l (by simp[u,s]);subst s;go_wp2;go_ret;exact⟨by rw[o.l];rfl,a.C b _⟩
  have n:X ((t.var&&t.D == c)=false):=by simp[X,s]
  have j:X ((ts.G (k+1)).any (λt=>t.var&&t.D == c)=false):=by rw[X,l.l,r.l,n.l];rfl
  go_wp2;go_roundw;exact⟨k+1,η,ξ,j,a.C b _⟩;simp[d_];omega
 have D:X (zL ⟨f,ts⟩ c=false):=by
  have:=r.l;rw[yO η] at this;exact this
 go_wp2;go_ret;exact⟨by rw[D.l];rfl,a⟩
def GV(p:Nat->Bool)(k:Nat):(h_ (k+1)).countP p=(h_ k).countP p+(if p k then 1 else 0):=by
 rw[AT,List.countP_append];simp[List.countP_cons]
def F8(w:U)(v:O)(a b:Nat)(ts:List yo)(h:yx lo w v ts)(J:b<=1000000):
  c_ e_ 187 #[.agg #[ι a,v],ι b] w λe E=>e=ε (jJ (xd ⟨a,ts⟩ b))/\μ w E:=by
 have x:=U2 λW p r=>Gw W v a p ts (h.u r);cases g:zL ⟨a,ts⟩ b
 .have A:X (xd ⟨a,ts⟩ b=Y):=by simp[X,xd,g]
  have y:=U2 λW r=>by have q:=x.l W b r;rw[g] at q;exact q
  go_enter func187,ntmps187;go_wp2_with (go_at_call 202;refine(y.l _ γ).y ?_;rintro e n ⟨rfl,c⟩;have j:μ w n:=zJ γ c (ze _))
  go_ret2
  exact⟨by rw[A.l];rfl,j⟩
 have A:X (xd ⟨a,ts⟩ b=Z ((h_ b).countP (zL ⟨a,ts⟩))):=by simp[X,xd,g]
 have y:=U2 λW r=>by have q:=x.l W b r;rw[g] at q;exact q
 go_enter func187,ntmps187;go_wp2_with (go_at_call 202;refine(y.l _ γ).y ?_;rintro e n ⟨rfl,c⟩;have j:μ w n:=zJ γ c (ze _);have z:=(U3.new w #[ι a,v] 204).u c)
 go_loopw [6,7] (λF u wr=>∃k:Nat,k<=b/\u=ι k/\F=ι ((h_ k).countP (zL ⟨a,ts⟩):Nat)/\μ n wr) (λ_ u _=>b-(d_ u).D);exact⟨0,zs _,rfl,rfl,zn _ _⟩;obtain⟨k,G,rfl,rfl,d⟩:=hrel;have o:=U6 j d;have m:=z.u d;obtain⟨I,H⟩:=m.H;have B:(h_ k).countP (zL ⟨a,ts⟩)<=k:=by have:=sT (p:=zL ⟨a,ts⟩) (l:=h_ k);simpa using this
 by_cases C:k<b
 .have t:=GV (zL ⟨a,ts⟩) k;have s:=U2 (x.l wr k o);cases g:zL ⟨a,ts⟩ k
  .rw[g] at t s;have i:X ((h_ (k+1)).countP (zL ⟨a,ts⟩)=(h_ k).countP (zL ⟨a,ts⟩)):=by rw[X,t];simp
   go_wp2_with (go_at_call 202;refine s.l.y ?_;rintro e D ⟨rfl,f⟩)
   go_roundw;exact⟨k+1,η,ξ,by rw[i.l],U6 d f⟩;simp[d_];omega
  rw[g] at t s;have i:X ((h_ (k+1)).countP (zL ⟨a,ts⟩)=(h_ k).countP (zL ⟨a,ts⟩)+1):=by rw[X,t];simp
  go_wp2_with (go_at_call 202;refine s.l.y ?_;rintro e D ⟨rfl,f⟩)
  go_roundw;exact⟨k+1,η,ξ,by rw[i.l];go_num,U6 d f⟩;simp[d_];omega
 obtain rfl:k=b:=η;go_wp2;go_ret2
 exact⟨by rw[A.l];rfl,o⟩
def Dv(w:U)(v:O)(a:Nat)(ts:List yo)(h:yx lo w v ts):
  c_ e_ 212 #[.agg #[ι a,v]] w λe x=>e=ε (ι (xi ⟨a,ts⟩:Nat))/\μ w x:=by
 have t:=U2 λW p A=>Gw W v a p ts (h.u A);have n:=U3.new w #[ι a,v] 204;have y:X (xi ⟨a,ts⟩=(h_ 5).countP (zL ⟨a,ts⟩)):=rfl;go_enter func212,ntmps212;go_wp2;go_loopw [3,4] (λz o wr=>∃k:Nat,k<=5/\o=ι k/\z=ι ((h_ k).countP (zL ⟨a,ts⟩):Nat)/\Below (w.o.q+1) (w.C (.E #[ι a,v] 204)) wr) (λ_ o _=>5-(d_ o).D);exact⟨0,zs _,rfl,rfl,zn _ _⟩;obtain⟨k,B,rfl,rfl,b⟩:=hrel;have i:Below (w.C (.E #[ι a,v] 204)).o.q (w.C (.E #[ι a,v] 204)) wr:=by simpa using b
 have g:μ w wr:=zJ γ i (ze _);have f:=n.u i;obtain⟨D,C⟩:=f.H;have r:(h_ k).countP (zL ⟨a,ts⟩)<=k:=by have:=sT (p:=zL ⟨a,ts⟩) (l:=h_ k);simpa using this
 by_cases s:k<5
 .have m:=GV (zL ⟨a,ts⟩) k;have j:=U2 (t.l wr k g);cases q:zL ⟨a,ts⟩ k
  .rw[q] at m j;have d:X ((h_ (k+1)).countP (zL ⟨a,ts⟩)=(h_ k).countP (zL ⟨a,ts⟩)):=by rw[X,m];simp
   go_wp2_with (go_at_call 202;refine j.l.y ?_;rintro e u ⟨rfl,c⟩)
   go_roundw;exact⟨k+1,η,ξ,by rw[d.l],zJ b c ζ⟩;simp[d_];omega
  rw[q] at m j;have d:X ((h_ (k+1)).countP (zL ⟨a,ts⟩)=(h_ k).countP (zL ⟨a,ts⟩)+1):=by rw[X,m];simp
  go_wp2_with (go_at_call 202;refine j.l.y ?_;rintro e u ⟨rfl,c⟩)
  go_roundw;exact⟨k+1,η,ξ,by rw[d.l];go_num,zJ b c ζ⟩;simp[d_];omega
 obtain rfl:k=5:=η;go_wp2;go_ret;exact⟨by rw[y.l];rfl,g⟩
def tx{α β:Type}(l:List α)(f:β->α->β)(b:β)(k:Nat)(a:k<l.j):(l.G (k+1)).H f b=f ((l.G k).H f b) l[k]:=by
 rw[yF a,j4];rfl
def l9(k:Nat)(t:yo):Nat:=if t.var&&decide (t.D≥k) then t.D+1 else k
def Pa(l:zx):vo l=l.v.H l9 0:=rfl
def Ef(w:U)(v:O)(m:Nat)(ts:List yo)(h:yx lo w v ts):
  c_ e_ 222 #[.agg #[ι m,v]] w λe x=>e=ε (ι (vo ⟨m,ts⟩:Nat))/\μ w x:=by
 obtain⟨F,C,rfl⟩:=h.qm;have G:=h.len;have y:X (vo ⟨m,ts⟩=ts.H l9 0):=Pa _;go_enter func222,ntmps222;go_wp2;go_loopw [3,9] (λA r wr=>∃k:Nat,k<=ts.j/\r=ι k/\A=ι ((ts.G k).H l9 0:Nat)/\μ w wr) (λ_ i _=>ts.j-(d_ i).D);exact⟨0,zs _,rfl,rfl,γ⟩;obtain⟨k,E,rfl,rfl,a⟩:=hrel;have b:=a.q;by_cases d:k<ts.j
 .obtain⟨g,rfl,j,s,p,D⟩:=h.cell k d;have u:=zi a j s;have q:=zi a j p;have z:=zi a j D;have B:=(h.D _ (zr d)).1;have f:=U2 (tx ts l9 0 k d);generalize ts[k]=t at *;generalize (ts.G k).H l9 0=l at *;cases o:t.var
  .have c:X ((ts.G (k+1)).H l9 0=l):=by rw[X,f.l];simp[l9,o]
   go_wp2;go_roundw;exact⟨k+1,η,ξ,by rw[c.l],a.C b _⟩;simp[d_];omega
  by_cases n:t.D≥l
  .have c:X ((ts.G (k+1)).H l9 0=t.D+1):=by rw[X,f.l];simp[l9,o,n]
   go_wp2;go_roundw;exact⟨k+1,η,ξ,by rw[c.l];go_num,a.C b _⟩;simp[d_];omega
  have c:X ((ts.G (k+1)).H l9 0=l):=by rw[X,f.l];simp[l9,n]
  go_wp2;go_roundw;exact⟨k+1,η,ξ,by rw[c.l],a.C b _⟩;simp[d_];omega
 rw[yO η];go_wp2;go_ret;exact⟨by rw[y.l];rfl,a⟩
def dN(je k:Int)(t:yo):Int:=if t.var&&decide ((t.D:Int)<je)&&decide ((t.D:Int)>k) then(t.D:Int) else k
def JX(l:zx)(je:Int):kH l je=l.v.H (dN je) (-1):=rfl
def FV(w:U)(v:O)(n:Nat)(d:Int)(ts:List yo)(h:yx lo w v ts):
  c_ e_ 225 #[.agg #[ι n,v],ι d] w λe A=>e=ε (ι (kH ⟨n,ts⟩ d))/\μ w A:=by
 obtain⟨G,D,rfl⟩:=h.qm;have H:=h.len;have B:X (kH ⟨n,ts⟩ d=ts.H (dN d) (-1)):=JX _ _;go_enter func225,ntmps225;go_wp2;go_loopw [5,11] (λu o wr=>∃k:Nat,k<=ts.j/\o=ι k/\u=ι ((ts.G k).H (dN d) (-1))/\μ w wr) (λ_ i _=>ts.j-(d_ i).D);exact⟨0,zs _,rfl,rfl,γ⟩;obtain⟨k,F,rfl,rfl,a⟩:=hrel;have c:=a.q;by_cases f:k<ts.j
 .obtain⟨g,rfl,m,y,s,E⟩:=h.cell k f;have z:=zi a m y;have x:=zi a m s;have C:=zi a m E;have j:=U2 (tx ts (dN d) (-1) k f);generalize ts[k]=t at *;generalize (ts.G k).H (dN d) (-1)=l at *;cases r:t.var
  .have b:X ((ts.G (k+1)).H (dN d) (-1)=l):=by rw[X,j.l];simp[dN,r]
   go_wp2;go_roundw;exact⟨k+1,η,ξ,by rw[b.l],a.C c _⟩;simp[d_];omega
  by_cases q:(t.D:Int)<d
  .by_cases p:(t.D:Int)>l
   .have b:X ((ts.G (k+1)).H (dN d) (-1)=(t.D:Int)):=by rw[X,j.l];simp[dN,r,q,p]
    go_wp2;go_roundw;exact⟨k+1,η,ξ,by rw[b.l],a.C c _⟩;simp[d_];omega
   have b:X ((ts.G (k+1)).H (dN d) (-1)=l):=by rw[X,j.l];simp[dN,p]
   go_wp2;go_roundw;exact⟨k+1,η,ξ,by rw[b.l],a.C c _⟩;simp[d_];omega
  have b:X ((ts.G (k+1)).H (dN d) (-1)=l):=by rw[X,j.l];simp[dN,q]
  go_wp2;go_roundw;exact⟨k+1,η,ξ,by rw[b.l],a.C c _⟩;simp[d_];omega
 rw[yO η];go_wp2;go_ret;exact⟨by rw[B.l];rfl,a⟩
def Eu(w:U)(v:O)(b:Nat)(d:Int)(ts:List yo)(h:yx lo w v ts):
  c_ e_ 226 #[.agg #[ι b,v],ι d] w λe p=>e=ε (ι (jw ⟨b,ts⟩ d))/\μ w p:=by
 have l:=U2 λW g=>Ef W v b ts (h.u g);have n:=U2 λW g=>FV W v b d ts (h.u g);have f:X (jw ⟨b,ts⟩ d=if (vo ⟨b,ts⟩:Int)<=d then -1 else kH ⟨b,ts⟩ d):=rfl;generalize vo ⟨b,ts⟩=o at *;by_cases m:(o:Int)<=d
 .rw[zb m] at f;go_enter func226,ntmps226;go_wp2_with (go_at_call 222;refine(l.l _ γ).y ?_;rintro e i ⟨rfl,a⟩;have c:μ w i:=zJ γ a (ze _))
  go_ret;exact⟨by rw[f.l];rfl,c⟩
 rw[za m] at f;go_enter func226,ntmps226;go_wp2_with (first|(go_at_call 222;refine(l.l _ γ).y ?_;rintro e i ⟨rfl,a⟩;have c:μ w i:=zJ γ a (ze _);have j:=(U3.new w #[ι b,v] 204).u a;obtain⟨t,q,s⟩:=j.I)|(go_at_call 225;refine(n.l _ c).y ?_;rintro e r ⟨rfl,k⟩))
 go_ret;exact⟨by rw[f.l];rfl,U6 c k⟩
end
end Go.Proofs.YteampbddflhngaaGreat
