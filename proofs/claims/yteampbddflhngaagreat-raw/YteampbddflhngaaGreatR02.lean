import Derived.Deep.RegionWith
import Derived.Laws.CopyOwn
import Derived.Maps.AppendAt
import Derived.Deep.CutRange
import Derived.Test.YteampbddflhngaaGreatR01
namespace Go.Proofs.YteampbddflhngaaGreat
open List renaming length→List.j,getD→List.g,take→List.G,toArray→List.F,foldl→List.H
open _root_.Array renaming size→Array.q,getD→Array.g,foldl→Array.H
open _root_.ByteArray renaming size→ByteArray.q
open Go.RowKit.Below renaming size→Go.RowKit.Below.q,setCell→Go.RowKit.Below.x,mono→Go.RowKit.Below.y,trans→Go.RowKit.Below.A,alloc→Go.RowKit.Below.C
open Go.TypeInfo renaming size→Go.TypeInfo.q
open Go.World.grownBy renaming size→Go.World.grownBy.q
open Go.RowKit.Hid renaming out→Go.RowKit.Hid.l
open Go.Shut renaming out→Go.Shut.l
open Go.World renaming heap→Go.World.o,setCell→Go.World.x,cell?→Go.World.p,alloc→Go.World.C,ownsRow→Go.World.r
open Go.Value renaming slice→Go.Value.k,bool→Go.Value.i,cells→Go.Value.E,ownBlock→Go.Value.m,tuple→Go.Value.B
open Go.TypeDesc renaming slice→Go.TypeDesc.k,bool→Go.TypeDesc.i,tuple→Go.TypeDesc.B
open Option renaming getD→Option.g,isSome→Option.I,some→Z,none→Y
open Go.Calls renaming mono→Go.Calls.y
open Eq renaming trans→Eq.A,symm→Eq.z
open Iff renaming trans→Iff.A,symm→Iff.z
open Go.World.ownsRow renaming alloc→Go.World.ownsRow.C
open Go.Obj renaming cells→Go.Obj.E
open Int renaming toNat→Int.D
open UInt8 renaming toNat→UInt8.D
open Ne renaming symm→Ne.z
open Go.RowKit renaming Hid→X
open Go renaming World→U,Value→O
set_option linter.all false
set_option maxRecDepth 100000
set_option maxHeartbeats 8000000
open Go.RowKit
section
variable {lo:Nat}{w:U}{base g cap:Nat}{ys:List (O×O×O)}{ls:List zj}{gs:List Nat}
def rG(t:O×O×O):List Value:=[t.1,t.2.1,t.2.2]
def T3(ys:List (O×O×O)):List Value:=ys.flatMap rG
def tY(ys:List (O×O×O)):(T3 ys).j=ys.j*3:=by
 induction ys with
 |nil=>rfl
 |cons a l b=>simp[T3,rG] at b ⊢;omega
def BY:∀(ys:List (O×O×O)) (k:Nat) (_:k<ys.j) (a b c:O),(((T3 ys).set (k*3) a).set (k*3+1) b).set (k*3+2) c=T3 (ys.set k (a,b,c))
 |[],k,d,_,_,_=>by simp at d
 |y::r,0,_,a,b,c=>by simp[T3,rG]
 |y::r,k+1,d,a,b,c=>by
  have:=BY r k (by simpa using d) a b c;simp only[T3,uU,rt,rG] at this ⊢;rw[show(k+1)*3=k*3+1+1+1 from by omega,show k*3+1+1+1+1=k*3+1+1+1+1 from rfl,show k*3+1+1+1+2=k*3+2+1+1+1 from by omega];simpa using this
def iL:∀(ys:List (O×O×O)) (k:Nat) (a:k<ys.j),(T3 ys)[k*3]?=Z ys[k].1/\(T3 ys)[k*3+1]?=Z ys[k].2.1/\(T3 ys)[k*3+2]?=Z ys[k].2.2
 |[],k,a=>by simp at a
 |y::r,0,_=>by simp[T3,rG]
 |y::r,k+1,a=>by
  have:=iL r k (by simpa using a);simp only[T3,uU,rG] at this ⊢;rw[show(k+1)*3=k*3+1+1+1 from by omega,show k*3+1+1+1+1=k*3+1+1+1+1 from rfl,show k*3+1+1+1+2=k*3+2+1+1+1 from by omega];simpa using this
def JY(a b c:O):∀(n i:Nat),i<n*3->(madeCells #[a,b,c] (n*3))[i]?=(T3 (List.replicate n (a,b,c)))[i]?:=by
 intro n i l;obtain⟨k,j,m,rfl⟩:∃k j,j<3/\i=k*3+j:=⟨i / 3,i%3,Nat.mod_lt _ θ,η⟩;have o:k<n:=η;obtain⟨d,f,e⟩:=iL (List.replicate n (a,b,c)) k (by simpa using o);simp only[eX] at d f e;have h:(k*3+j)%3=j:=η;simp only[madeCells,Array.getElem?_map,Array.getElem?_range];rw[zb l];simp only[jZ];have p:(#[a,b,c]:Array O).q=3:=rfl;rw[p,h];match j,m with
 |0,_=>rw[vr,d];rfl
 |1,_=>rw[f];rfl
 |2,_=>rw[e];rfl
def M0(w:U)(n:Nat)(T:TypeId)(a b c:O)(e:n<=maxLen):(w.C (.E (madeCells #[a,b,c] (n*3)) T)).r w.o.q T 3 (.k (Z (δ w.o.q)) n n) n (T3 (List.replicate n (a,b,c))):=by
 refine⟨by rw[tY];simp,ze ⟨w.o.q,n,madeCells #[a,b,c] (n*3),rfl,zg _,?_,zg _,e,by rw[size_madeCells],?_⟩⟩;show(w.o.push _)[w.o.q]?=_;simp;apply nL;intro i;by_cases d:i<n*3;rw[nc,zb d,Array.getElem?_toList,JY _ _ _ n i d];rw[nc,za d,gL (by rw[tY];simp;omega)]
def Sk{e:TypeId}{n m:Nat}(h:w.r base e 3 (.k (Z (δ g)) n cap) m (T3 ys))(k:Nat)(j:k<ys.j)(a b c:O):
  (((w.x (ω g (k*3)) a).x (ω g (k*3+1)) b).x (ω g (k*3+2)) c).r base e 3 (.k (Z (δ g)) n cap) m (T3 (ys.set k (a,b,c))):=by
 have l:=tY ys;have i:=uB h (k*3) η a;have f:=uB i (k*3+1) υ b;have d:=uB f (k*3+2) υ c;rw[BY ys k j] at d;exact d
def e9{e:TypeId}{n m:Nat}(h:w.r base e 3 (.k (Z (δ g)) n cap) m (T3 ys))(k:Nat)(o:k<ys.j):
  g<w.o.q/\w.p (ω g (k*3))=Z ys[k].1/\w.p (ω g (k*3+1))=Z ys[k].2.1/\w.p (ω g (k*3+2))=Z ys[k].2.2:=by
 have d:0<m:=by have:=h.1;rw[tY] at this;omega
 obtain⟨p,b,c,_,i,a⟩:=yr h d;simp at c;obtain⟨rfl,_⟩:=c;obtain⟨f,l,j⟩:=iL ys k o;exact⟨i,a _ _ f,a _ _ l,a _ _ j⟩
def Hb{e:TypeId}{b n m:Nat}{xs:Γ}(h:w.r base e b (.k (Z (δ g)) n cap) m xs):∃a,w.o[g]?=Z (.E a e (0,0)):=by
 obtain⟨_,⟨c,_⟩|⟨i,d,a,c,_,f,_⟩⟩:=h;cases c;simp at c;obtain⟨rfl,_⟩:=c;exact⟨a,f⟩
def If(l:zj)(g:Nat):O×O×Value:=(.i l.i,.string l.o,.k (Z ⟨g,0,Y⟩) l.k.j l.k.j)
def T8(lo:Nat)(w:U)(ls:List zj)(gs:List Nat):Prop:=gs.j=ls.j/\gs.Pairwise (·<·)/\∀k (b:k<ls.j) (a:k<gs.j),lo<=gs[k]/\Tn lo w (.k (Z ⟨gs[k],0,Y⟩) ls[k].k.j ls[k].k.j) ls[k].k
def T8.nil(w:U):T8 lo w [] []:=⟨rfl,List.Pairwise.nil,λk a=>by simp at a⟩
def T8.y{w':U}(h:T8 lo w ls gs)(c:∀v l,Tn lo w v l->Tn lo w' v l):T8 lo w' ls gs:=⟨h.1,h.2.1,λk b a=>⟨(h.2.2 k b a).1,c _ _ (h.2.2 k b a).2⟩⟩
def T8.lt(h:T8 lo w ls gs):∀g∈gs,g<w.o.q:=by
 intro g b;obtain⟨k,d,rfl⟩:=vd b;obtain⟨a,c⟩:=Hb (h.2.2 k (by have:=h.1;omega) d).2;exact(kp.1 c).1
def T8.snoc{l:zj}(h:T8 lo w ls gs)(e:∀x∈gs,x<g)(o:lo<=g)(hs:Tn lo w (.k (Z (δ g)) l.k.j l.k.j) l.k):T8 lo w (ls++[l]) (gs++[g]):=by
 obtain⟨d,q,r⟩:=h;refine⟨by simp[d],?_,?_⟩;rw[m7];exact⟨q,List.pairwise_singleton _ _,λa j b i=>by simp at i;subst i;exact e a j⟩;intro k c m;simp at c;by_cases f:k<ls.j;have:=r k f η;simpa [List.getElem_append,f,d] using this;obtain rfl:k=ls.j:=η;have n:(ls++[l])[ls.j]=l:=ζ;have p:(gs++[g])[ls.j]=g:=by simp[←d]
 rw[n,p];exact⟨o,hs⟩
end
section
open Go.Proofs.Tryz
variable {lo:Nat}{M:List Nat}{w w':U}{b base n:Nat}{c:Array O}{v:O}{xs xs1:List O}
structure zd (M:List Nat) (w w':U):Prop where
 os:w'.os=w.os
 tape:w'.tape=w.tape
 output:w'.output=w.output
 q:w.o.q<=w'.o.q
 block:∀k,k<w.o.q->k∉M->w'.o[k]?=w.o[k]?
def zd.refl(M:Φ)(w:U):zd M w w:=⟨rfl,rfl,rfl,zg _,λ_ _ _=>rfl⟩
def zd.of(h:μ w w'):zd M w w':=⟨h.os,h.tape,h.output,h.q,λk a _=>h.block k a⟩
def zd.A{M:Φ}{a b c:U}(h:zd M a b)(k:zd M b c):zd M a c:=
 ⟨k.os.A h.os,k.tape.A h.tape,k.output.A h.output,zY h.q k.q,λx e d=>(k.block x (ym e h.q) d).A (h.block x e d)⟩
def zd.more{N:Φ}(h:zd M w w')(hs:∀x∈M,x∈N):zd N w w':=⟨h.os,h.tape,h.output,h.q,λk d e=>h.block k d λa=>e (hs k a)⟩
def zd.newer{N:Φ}{a b c:U}(h:zd M a b)(k:zd N b c)(g:∀x∈N,x∈M∨a.o.q<=x):zd M a c:=
 ⟨k.os.A h.os,k.tape.A h.tape,k.output.A h.output,zY h.q k.q,λx f e=>(k.block x (ym f h.q) λd=>(g x d).elim e λi=>η).A (h.block x f e)⟩
def zd.u{B:Nat}(h:zd M w w')(a:∀x∈M,B<=x)(e:B<=w.o.q):Below B w w':=
 ⟨h.os,h.tape,h.output,h.q,λk f=>h.block k η λd=>by have:=a k d;omega⟩
def yQ{e:TypeId}{a:Nat}(h:w.r base e a v n xs)(hs:zd M w w')(m:∀b,v.m=Z b->b∉M):w'.r base e a v n xs:=by
 obtain⟨o,f⟩:=h;refine⟨o,?_⟩;rcases f with f|⟨g,d,i,j,l,k,p⟩;exact zh f;refine ze ⟨g,d,i,j,l,?_,p⟩;rw[hs.block g (kp.1 k).1 (m g (by rw[j];rfl))];exact k
def Th.save{T:TypeId}(h:Th w b c T)(hs:zd M w w')(a:b∉M):Th w' b c T:=by
 have:=h.lt;unfold Th at *;rw[hs.block b this a];exact h
section
variable {P:Program} {ops:Array Oper} {rest:List Oper} {o:Oper} {a:Act} {Q:Exit->Act->U->Prop}
def kc(A y:U)(l:Γ)(L:TypeId)(T:o.guard=Y)(s x:Operand)(t:TypeId)
  (ho:o.op=.call {callee:=.builtin .append,args:=#[s,x],argTypes:=#[t,t]})
  (base:Nat) (e:TypeId) (i:TypeInfo) (z:O) (d f:Nat) (V:P.underlying t=Z (.k e)) (W:P.info? e=Z i) (N:i.zero=Z z)
  (q:i.q=d) (G:i.bytes=f) (E:z.E.q=d) (I:0<d)
  (v:O) (n:Nat) (xs:Γ) (S:a.eval s=v) (C:A.r base e d v n xs) (m:μ A y)
  (b c:Nat) (hx:a.eval x=.k (Z (δ b)) 1 c) (hb:b=y.o.q) (hl:l.j=d) (h1:∀u∈l,u.oneCell'=true)
  (hn:n<=4000000000000) (D:(n+1)*f<=100000000000000) (F:base<=A.o.q)
  (h:∀B w',w'.r base e d B (n+1) (xs++l)->zd v.m.toList A w'->(B.m=v.m∨∃g,B.m=Z g/\A.o.q<=g)->wpList P ops Q rest (a.put o.dst B) w'):
  wpList P ops Q (o::rest) a (y.C (.E l.F L)):=by
 have r:=zy C m;have K:=m.q;subst hb;refine wpList_append_own_at _ T s x t ho base e i z d f V W N q G E I v n xs S (r.C _) (δ y.o.q) 1 c l hx η ?_ h1 ?_ ?_ ?_ ?_
 .intro j u hj;rw[Addr.add_lit,vx,U.cell?_alloc_mark];simpa using hj
 .unfold maxLen;omega
 .omega
 .simp;omega
 .intro B w' R p _ H;refine h B w' R ⟨p.os.A m.os,p.tape.A m.tape,p.output.A m.output,?_,λk hk hm=>?_⟩ ?_
  .have:=p.q;simp at this;omega
  .rw[p.block k υ (λe=>hm (by rw[←e];simp))];rw[show(y.C (.E l.F L)).o[k]?=y.o[k]? from Below.heap_alloc _ _ _ η];exact m.block k hk
  .rcases H with J|J
   .exact zh J
   .exact ze ⟨_,J,by simp;omega⟩
end
def yG{e:TypeId}{d:Nat}(h:w.r base e d v n xs)(i:v.m=Z b):b<w.o.q:=by
 obtain⟨_,⟨f,_⟩|⟨g,j,l,f,_,k,_⟩⟩:=h;subst f;cases i;subst f;simp only[O.ownBlock,zt] at i;subst i;exact(kp.1 k).1
def zd.set(w:U)(b o:Nat)(u:O):zd [b] w (w.x (ω b o) u):=
 ⟨rfl,rfl,rfl,by simp[U.setCell],λk _ d=>Below.heap_setCell _ _ _ _ (by simp at d;exact d)⟩
def xa(h:b∈v.m.toList):v.m=Z b:=by simpa using h
def jx{e T:TypeId}{d:Nat}(h:w.r base e d v n xs)(i:Th w b c T)(g:e≠T):b∉v.m.toList:=by
 intro f;have:=mn h i g;exact this (by simpa [eq_comm] using f)
def sl(g n:Nat):Value:=.k (Z ⟨g,0,Y⟩) n n
def nO{s B:Nat}{k r:TypeId}{A E:Nat}{q p:O}{x F:Nat}{i:Γ}(C:w.r s k A q x xs1)(u:w.r B r E p F i)(y:k≠r)(j:q.m=Z b):p.m≠Z b:=by
 intro f;obtain⟨_,⟨h,_⟩|⟨g,z,D,h,_,t,_⟩⟩:=C;subst h;cases j;obtain⟨_,⟨d,_⟩|⟨G,l,m,d,_,e,_⟩⟩:=u;subst d;cases f;subst h;subst d;simp only[O.ownBlock,zt] at j f;subst j;subst f;rw[t] at e;simp at e;exact y e.2
def vW{h:Nat}{e T:TypeId}{i:Nat}{d:O}{l:Nat}(k:w.r h e i d l xs1){f:Nat}(j:Th w f c T)(g:e≠T)(m:d.m=Z b):b≠f:=by
 rintro rfl;exact mn k j g m.z
def yU{e:TypeId}{d:Nat}(h:w.r base e d v n xs)(i:v.m=Z b):base<=b:=by
 obtain⟨_,⟨f,_⟩|⟨g,j,k,f,l,_,_⟩⟩:=h;subst f;cases i;subst f;simp only[O.ownBlock,zt] at i;omega
def OM{α:Type}{f:α->Nat}{l:List α}(h:(l.map f).Nodup){i j:Nat}(k:i<l.j)(g:j<l.j)(d:i≠j):f l[i]≠f l[j]:=by
 intro e;have:=(List.getElem_inj (h₀:=by simpa using k) (h₁:=by simpa using g) h).1 (by simpa using e);exact d this
def S5:(prog.info? 3).map (λi=>(i.zero,i.q,i.bytes))=Z (Z (ι 0),1,8):=χ
def TN(s:Nat):Value:=ι (s:Int)
def G3(w:U)(n:Nat)(T:TypeId)(e:n<=maxLen):(w.C (.E (madeCells #[ι 0] n) T)).r w.o.q T 1 (.k (Z (δ w.o.q)) n n) n ((List.replicate n 0).map TN):=by
 refine⟨ζ,ze ⟨w.o.q,n,madeCells #[ι 0] n,rfl,zg _,?_,zg _,e,by rw[size_madeCells];omega,?_⟩⟩;show(w.o.push _)[w.o.q]?=_;simp;apply nL;intro i;by_cases d:i<n;simp[d,madeCells,TN,Nat.mod_one];simp[List.getElem?_take,d]
end
section
open Go.Proofs.Tryz
variable {lo:Nat}{w:U}{tb:Nat}{T:zl}{nv:O}{ns:List (Nat×Nat)}
def lF(wd:Nat)(ns:List (Nat×Nat)):List Value:=ns.flatMap λx=>[sl x.1 wd,sl x.2 wd]
def Ac(wd:Nat):∀(ns:List (Nat×Nat)) (k:Nat) (a:k<ns.j),(lF wd ns)[k*2]?=Z (sl ns[k].1 wd)/\(lF wd ns)[k*2+1]?=Z (sl ns[k].2 wd)
 |[],k,a=>by simp at a
 |p::r,0,_=>by simp[lF]
 |p::r,k+1,a=>by
  have:=Ac wd r k (by simpa using a);simp only[lF,uU] at this ⊢;rw[show(k+1)*2=k*2+1+1 from by omega,show k*2+1+1+1=k*2+1+1+1 from rfl];simpa using this
def TC(ns:List (Nat×Nat)):List Nat:=ns.flatMap λx=>[x.1,x.2]
structure vy (lo:Nat) (w:U) (tb:Nat) (T:zl) (nv:O) (ns:List (Nat×Nat)):Prop where
 low:lo<=tb
 box:Th w tb #[ι T.r,ι T.ql,nv,ι T.count] 229
 B:w.r lo 273 2 nv T.B.j (lF T.r ns)
 len:ns.j=T.B.j
 D:∀i (h:i<T.B.j) (h2:i<ns.j),w.r lo 3 1 (sl ns[i].1 T.r) T.r (T.B[i].D.map TN)
 down:∀i (h:i<T.B.j) (h2:i<ns.j),w.r lo 3 1 (sl ns[i].2 T.r) T.r (T.B[i].down.map TN)
 apart:(TC ns).Nodup
 wide:T.r<=1000
 many:T.B.j<=100000000
 deep:T.ql<=3
 K:T.count<=1000000000
def Um(tb:Nat)(nv:O)(ns:List (Nat×Nat)):List Nat:=tb::(nv.m.toList++TC ns)
def yb(lo:Nat)(w:U)(tb:Nat)(T:zl)(fp:List Nat):Prop:=∃nv ns,vy lo w tb T nv ns/\fp=Um tb nv ns
def vy.leapLen(h:vy lo w tb T nv ns)(i:Nat)(a:i<T.B.j):T.B[i].D.j=T.r:=by
 have:=(h.D i a (by rw[h.len];exact a)).1;simpa using this
def vy.downLen(h:vy lo w tb T nv ns)(i:Nat)(a:i<T.B.j):T.B[i].down.j=T.r:=by
 have:=(h.down i a (by rw[h.len];exact a)).1;simpa using this
def AD{b:Nat}(h:b∈TC ns):∃i,∃h:i<ns.j,b=ns[i].1∨b=ns[i].2:=by
 simp only[TC,ve,zG,nB,or_false] at h;obtain⟨x,a,c⟩:=h;obtain⟨i,d,rfl⟩:=vd a;exact⟨i,d,c⟩
def wW{i:Nat}(h:i<ns.j):ns[i].1∈TC ns/\ns[i].2∈TC ns:=by
 simp only[TC,ve,zG,nB,or_false];exact⟨⟨_,zq h,zh rfl⟩,⟨_,zq h,ze rfl⟩⟩
def vy.lt{w:U}{tb:Nat}{T:zl}{nv:O}{ns:List (Nat×Nat)}(h:vy lo w tb T nv ns):∀b∈Um tb nv ns,lo<=b/\b<w.o.q:=by
 intro b c;simp only[Um,zG,ya] at c;rcases c with rfl|c|c;exact⟨h.low,h.box.lt⟩;exact⟨yU h.B (xa c),yG h.B (xa c)⟩;obtain⟨i,a,rfl|rfl⟩:=AD c;exact⟨yU (h.D i (by rw[←h.len];exact a) a) rfl,yG (h.D i (by rw[←h.len];exact a) a) rfl⟩;exact⟨yU (h.down i (by rw[←h.len];exact a) a) rfl,yG (h.down i (by rw[←h.len];exact a) a) rfl⟩
def yb.lt{w:U}{tb:Nat}{T:zl}{fp:Φ}(h:yb lo w tb T fp):∀b∈fp,lo<=b/\b<w.o.q:=by
 obtain⟨nv,ns,a,rfl⟩:=h;exact a.lt
def yb.save{w w':U}{tb:Nat}{T:zl}{fp N:Φ}(h:yb lo w tb T fp)(hs:zd N w w')(g:∀b∈fp,b∉N):yb lo w' tb T fp:=by
 obtain⟨nv,ns,a,rfl⟩:=h;have e:=g;refine⟨nv,ns,⟨a.low,a.box.save hs (e tb (by simp[Um])),yQ a.B hs λb d=>e b ?_,a.len,λi f c=>yQ (a.D i f c) hs λb d=>e b ?_,λi f c=>yQ (a.down i f c) hs λb d=>e b ?_,a.apart,a.wide,a.many,a.deep,a.K⟩,rfl⟩;simp[Um,d];simp only[sl,O.ownBlock,zt] at d;subst d;simp only[Um,zG,ya];exact ze (ze (wW c).1);simp only[sl,O.ownBlock,zt] at d;subst d;simp only[Um,zG,ya];exact ze (ze (wW c).2)
def yb.u{w':U}{fp:Φ}(h:yb lo w tb T fp)(a:μ w w'):yb lo w' tb T fp:=h.save (zd.of (M:=[]) a) ζ
def jJ(o:Option Nat):Value:=.B #[ι ((o.g 0:Nat):Int),.i o.I]
def vy.leapAt(h:vy lo w tb T nv ns)(a f:Nat)(i:a<T.B.j)(r:f<T.r):
  ∃d k e,nv=.k (Z (δ d)) T.B.j k/\d<w.o.q/\e<w.o.q/\(∃s:a<ns.j,e=ns[a].1)/\w.p (ω d (a*2))=Z (.k (Z (δ e)) T.r T.r)/\w.p (ω e f)=Z (ι ((T.B[a].D.g f 0:Nat):Int)):=by
 have b:a<ns.j:=by rw[h.len];exact i
 obtain⟨d,c,q,_,n,j⟩:=yr h.B η;obtain⟨e,m,g,_,l,o⟩:=yr (h.D a i b) η;obtain⟨⟨rfl,_⟩,_,_⟩:=g;have p:=h.leapLen a i;refine⟨d,c,_,q,n,l,⟨b,rfl⟩,j _ _ (Ac T.r ns a b).1,o f _ ?_⟩;rw[mL,yn η,kL,yn η];rfl
def vy.downAt(h:vy lo w tb T nv ns)(a f:Nat)(i:a<T.B.j)(r:f<T.r):
  ∃d k e,nv=.k (Z (δ d)) T.B.j k/\d<w.o.q/\e<w.o.q/\(∃s:a<ns.j,e=ns[a].2)/\w.p (ω d (a*2+1))=Z (.k (Z (δ e)) T.r T.r)/\w.p (ω e f)=Z (ι ((T.B[a].down.g f 0:Nat):Int)):=by
 have b:a<ns.j:=by rw[h.len];exact i
 obtain⟨d,c,q,_,n,j⟩:=yr h.B η;obtain⟨e,m,g,_,l,o⟩:=yr (h.down a i b) η;obtain⟨⟨rfl,_⟩,_,_⟩:=g;have p:=h.downLen a i;refine⟨d,c,_,q,n,l,⟨b,rfl⟩,j _ _ (Ac T.r ns a b).2,o f _ ?_⟩;rw[mL,yn η,kL,yn η];rfl
def tD(w:U)(tb:Nat)(T:zl)(fp:Φ)(a f:Nat)(h:yb lo w tb T fp):
  Calls prog 167 #[(π tb),ι a,ι f] w λe o=>e=ε (jJ (yF T a f))/\o=w:=by
 obtain⟨nv,ns,g,rfl⟩:=h;obtain⟨s,l⟩:=g.box.H;by_cases i:a<T.B.j
 .by_cases k:f<T.r
  .obtain⟨u,c,t,rfl,q,n,_,m,r⟩:=g.leapAt a f i k;have d:yF T a f=if T.B[a].D.g f 0≥T.r then Y else Z (T.B[a].D.g f 0):=by
    unfold yF;rw[zb ⟨i,k⟩];simp[List.getD_eq_getElem?_getD,i]
   generalize T.B[a].D.g f 0=v at *;by_cases j:v≥T.r
   .rw[zb j] at d;have b:=Tg d;go_enter func167,ntmps167;go_wp2;go_ret2
    exact⟨by rw[b.l];rfl,rfl⟩
   rw[za j] at d;have b:=Tg d;go_enter func167,ntmps167;go_wp2;go_ret2
   exact⟨by rw[b.l];rfl,rfl⟩
  have b:X (yF T a f=Y):=by unfold yF;rw[X,za η]
  obtain⟨p,c,rfl⟩:=zr g.B;go_enter func167,ntmps167;go_wp2;go_ret2
  exact⟨by rw[b.l];rfl,rfl⟩
 have b:X (yF T a f=Y):=by unfold yF;rw[X,za η]
 obtain⟨p,c,rfl⟩:=zr g.B;go_enter func167,ntmps167;go_wp2;go_ret2
 exact⟨by rw[b.l];rfl,rfl⟩
def pM(w:U)(tb:Nat)(T:zl)(fp:Φ)(a f:Nat)(h:yb lo w tb T fp):
  Calls prog 130 #[(π tb),ι a,ι f] w λe j=>e=ε (jJ (zJ T a f))/\j=w:=by
 have d:=Tg (tD w tb T fp a f h);obtain⟨nv,ns,m,rfl⟩:=h;obtain⟨t,n⟩:=m.box.H;rcases c:yF T a f with _|u
 .have i:X (zJ T a f=Y):=by unfold zJ;rw[X,c]
  rw[c] at d;simp only[jJ,kG,kN] at d;go_enter func130,ntmps130;go_wp2_with (go_at_call 167;refine d.l.y ?_;rintro e j ⟨rfl,b⟩;obtain rfl:=b.z)
  go_ret2
  exact⟨by rw[i.l];rfl,rfl⟩
 have g:a<T.B.j/\f<T.r:=by
  unfold yF at c;split at c;assumption
  cases c
 obtain⟨x,p,v,rfl,r,q,_,o,s⟩:=m.downAt a f g.1 g.2;have k:zJ T a f=if u=f then Z (T.B[a].down.g f 0) else none:=by
  unfold zJ;rw[c];simp[List.getD_eq_getElem?_getD,g.1]
 rw[c] at d;simp only[jJ,uD,j8] at d;by_cases l:u=f
 .subst l;have i:=Tg k;go_enter func130,ntmps130;go_wp2_with (go_at_call 167;refine d.l.y ?_;rintro e j ⟨rfl,b⟩;obtain rfl:=b.z)
  go_ret2
  exact⟨by rw[i.l];rfl,rfl⟩
 rw[za l] at k;have i:=Tg k;go_enter func130,ntmps130;go_wp2_with (go_at_call 167;refine d.l.y ?_;rintro e j ⟨rfl,b⟩;obtain rfl:=b.z)
 go_ret2
 exact⟨by rw[i.l];rfl,rfl⟩
def FO(w:U)(tb:Nat)(T:zl)(fp:Φ)(h:yb lo w tb T fp):
  Calls prog 209 #[(π tb)] w λe c=>e=ε (ι T.count)/\c=w:=by
 obtain⟨nv,ns,a,rfl⟩:=h;obtain⟨f,b,d⟩:=a.box.e;clear a;go_enter func209,ntmps209;go_wp2;go_ret;exact⟨rfl,rfl⟩
end
section
open Go.Proofs.Tryz
variable {lo:Nat}{ns:List (Nat×Nat)}
def TU:∀(ns:List (Nat×Nat)) (k:Nat) (a:k<ns.j),(TC ns)[k*2]?=Z ns[k].1/\(TC ns)[k*2+1]?=Z ns[k].2
 |[],k,a=>by simp at a
 |p::r,0,_=>by simp[TC]
 |p::r,k+1,a=>by
  have:=TU r k (by simpa using a);simp only[TC,uU] at this ⊢;rw[show(k+1)*2=k*2+1+1 from by omega,show k*2+1+1+1=k*2+1+1+1 from rfl];simpa using this
def ow{l:Φ}(h:l.Nodup){i j x y:Nat}(c:l[i]?=Z x)(b:l[j]?=Z y)(a:i≠j):x≠y:=by
 obtain⟨e,rfl⟩:=j5.1 c;obtain⟨d,rfl⟩:=j5.1 b;exact OM (f:=id) (by simpa using h) e d a
def wM(h:(TC ns).Nodup){i j:Nat}(b:i<ns.j)(a:j<ns.j):(i≠j->ns[i].1≠ns[j].1/\ns[i].2≠ns[j].2)/\ns[i].1≠ns[j].2:=
 ⟨λc=>⟨ow h (TU ns i b).1 (TU ns j a).1 η,ow h (TU ns i b).2 (TU ns j a).2 η⟩,ow h (TU ns i b).1 (TU ns j a).2 η⟩
def setNode(T:zl)(a:Nat)(n:qC):zl:={T with B:=T.B.set a n}
def vy.setLeap{w:U}{tb:Nat}{T:zl}{o:O}(h:vy lo w tb T o ns)(a u x:Nat)(n:a<T.B.j)(l:a<ns.j)(r:u<T.r):
  vy lo (w.x (ω ns[a].1 u) (ι x)) tb (setNode T a ⟨T.B[a].D.set u x,T.B[a].down⟩) o ns:=by
 have p:=h.leapLen a n;have j:=zd.set w ns[a].1 u (ι x);have m:=h.D a n l;refine⟨h.low,h.box.save j (by have:=vW m h.box θ rfl;simpa using Ne.symm this),?_,by simpa [setNode] using h.len,λi k c=>?_,λi k c=>?_,h.apart,h.wide,by simpa [setNode] using h.many,h.deep,h.K⟩;have:=yQ h.B j (λb g d=>nO m h.B θ rfl (by simp at d;rw[←d];exact g));simpa [setNode] using this;have f:i<T.B.j:=by simpa [setNode] using k
 by_cases e:i=a;subst e;have q:=uB m u υ (ι x);simp only[setNode,pU];rw[lx];exact q;simp only[setNode,pW (Ne.symm e)];exact yQ (h.D i f c) j (λb g d=>by simp[sl,O.ownBlock] at g d;exact((wM h.apart c l).1 e).1 (g.A d));have f:i<T.B.j:=by simpa [setNode] using k
 have q:=yQ (h.down i f c) j (λb g d=>by simp[sl,O.ownBlock] at g d;exact(wM h.apart l c).2 (d.z.A g.z));by_cases e:i=a;subst e;simp only[setNode,pU];exact q;simp only[setNode,pW (Ne.symm e)];exact q
def vy.setDown{w:U}{tb:Nat}{T:zl}{o:O}(h:vy lo w tb T o ns)(a u x:Nat)(n:a<T.B.j)(l:a<ns.j)(r:u<T.r):
  vy lo (w.x (ω ns[a].2 u) (ι x)) tb (setNode T a ⟨T.B[a].D,T.B[a].down.set u x⟩) o ns:=by
 have p:=h.downLen a n;have j:=zd.set w ns[a].2 u (ι x);have m:=h.down a n l;refine⟨h.low,h.box.save j (by have:=vW m h.box θ rfl;simpa using Ne.symm this),?_,by simpa [setNode] using h.len,λi k c=>?_,λi k c=>?_,h.apart,h.wide,by simpa [setNode] using h.many,h.deep,h.K⟩;have:=yQ h.B j (λb g d=>nO m h.B θ rfl (by simp at d;rw[←d];exact g));simpa [setNode] using this;have f:i<T.B.j:=by simpa [setNode] using k
 have q:=yQ (h.D i f c) j (λb g d=>by simp[sl,O.ownBlock] at g d;exact(wM h.apart c l).2 (g.A d));by_cases e:i=a;subst e;simp only[setNode,pU];exact q;simp only[setNode,pW (Ne.symm e)];exact q;have f:i<T.B.j:=by simpa [setNode] using k
 by_cases e:i=a;subst e;have q:=uB m u υ (ι x);simp only[setNode,pU];rw[lx];exact q;simp only[setNode,pW (Ne.symm e)];exact yQ (h.down i f c) j (λb g d=>by simp[sl,O.ownBlock] at g d;exact((wM h.apart c l).1 e).2 (g.A d))
structure T9 (lo:Nat) (w w':U) (tb:Nat) (T:zl) (fp:List Nat) (fp':List Nat):Prop where
 trie:yb lo w' tb T fp'
 save:zd fp w w'
 qw:∀b∈fp',b∈fp∨w.o.q<=b
def Jo(T:zl)(a:Nat)(n m:qC):setNode (setNode T a n) a m=setNode T a m:=by simp[setNode]
def LQ{T:zl}{a v d:Nat}(b:a<T.B.j)(c:v<T.r):yk T a v d=setNode T a ⟨kq v (v+1) T.B[a].D,T.B[a].down.set v d⟩:=by
 unfold yk;rw[zb ⟨b,c⟩];simp[setNode,lM,List.getD_eq_getElem?_getD,b]
def UG(w:U)(tb:Nat)(T:zl)(fp:Φ)(a v d:Nat)(h:yb lo w tb T fp):
  Calls prog 203 #[(π tb),ι a,ι v,ι d] w λe w'=>e=ε (.B #[])/\T9 lo w w' tb (yk T a v d) fp fp:=by
 have Q:=h;obtain⟨nv,ns,f,rfl⟩:=h;have ae:=f.wide;have ac:=f.many;by_cases A:a<T.B.j
 .by_cases W:v<T.r
  .have g:a<ns.j:=by rw[f.len];exact A
   have E:X (yk T a v d=setNode T a ⟨kq v (v+1) T.B[a].D,T.B[a].down.set v d⟩):=LQ A W;obtain⟨K,i,gl,rfl,J,D,⟨_,rfl⟩,z,r⟩:=f.downAt a v A W;obtain⟨L,p,s⟩:=f.box.e;have S:=vg (f.down a A g);have F:=vg (f.D a A g);have y:=f.setDown a v d A g W;have H1:=Tg f;clear f Q;have P:T.B[a].down.set v d=T.B[a].down.set v d:=rfl;generalize N:T.B[a].down.set v d=C at *;generalize V:T.B[a].D=lp at *;clear P N V;go_enter func203,ntmps203;go_wp2;clear z r L p s S F D J;go_loopw [8] (λR wr=>∃(n:Nat) (l:Φ),n<=v+1/\R=ι ((n:Int)-1)/\vy lo wr tb (setNode T a ⟨l,C⟩) (.k (Z (δ K)) T.B.j i) ns/\X (kq v (v+1) lp=kq v n l)/\zd (Um tb (.k (Z (δ K)) T.B.j i) ns) w wr) (λR _=>(intOf R+1).D);refine⟨v+1,lp,zg _,ξ,y,rfl,(zd.set _ _ _ _).more λx t=>?_⟩;simp only[xQ] at t;subst t;simp only[Um,zG,ya];exact ze (ze (wW g).2);clear y;obtain⟨n,l,hn,rfl,c,u,H⟩:=hrel;have q:a<(setNode T a ⟨l,C⟩).B.j:=by simpa [setNode] using A
   have j:(setNode T a ⟨l,C⟩).B[a]=⟨l,C⟩:=by simp[setNode]
   have k:(setNode T a ⟨l,C⟩).r=T.r:=rfl;obtain⟨L,p,s⟩:=c.box.e;have F:=vg (c.D a q g);have o:X (kq v n l=l->T9 lo w wr tb (yk T a v d) (Um tb (.k (Z (δ K)) T.B.j i) ns) (Um tb (.k (Z (δ K)) T.B.j i) ns)):=λe=>⟨⟨_,ns,by rw[E.l,u.l,e];exact c,rfl⟩,H,λb I=>zh I⟩;rcases n with _|m
   .clear c;go_wp2;go_end0
    exact⟨rfl,o.l rfl⟩
   have e:((m+1:Nat):Int)-1=(m:Int):=η;rw[e];have hm:m<T.r:=η;obtain⟨af,ab,gl,G,J,D,⟨_,rfl⟩,z,r⟩:=c.leapAt a m q (by rw[k];exact hm);simp only[O.slice.injEq,zt,Addr.mk.injEq] at G;obtain⟨⟨rfl,_⟩,_,rfl⟩:=G;rw[j] at r;rw[k] at z;have B:=c.setLeap a m v q g (by rw[k];exact hm);rw[j,Jo] at B;have M:X (kq v (m+1) l=if l.g m 0>v then kq v m (l.set m v) else l):=by rw[X,kq]
   have ad:=Tg c;clear c q j e;have aa:X (vy lo (wr.x (ω ns[a].1 m) (ι v)) tb (setNode T a ⟨l.set m v,C⟩) (.k (Z (δ K)) T.B.j i) ns):=B;clear B;simp only at r;generalize l.g m 0=x at *;by_cases t:x>v
   .rw[zb t] at M;go_wp2;go_roundw;refine⟨m,l.set m v,η,ξ,aa.l,u.A M,H.A ((zd.set _ _ _ _).more λx t=>?_)⟩;simp only[xQ] at t;subst t;simp only[Um,zG,ya];exact ze (ze (wW g).1);simp[intOf]
   rw[za t] at M;go_wp2;go_end0
   exact⟨rfl,o.l M.l⟩
  have E:X (yk T a v d=T):=by unfold yk;rw[X,za η]
  obtain⟨ao,i,rfl⟩:=zr f.B;obtain⟨L,p,s⟩:=f.box.e;clear f;go_enter func203,ntmps203;go_wp2
  (try simp only[Exit.inBlock,Exit.then]);refine zO (results_none rfl _ _ _) rfl ?_
  exact⟨rfl,by rw[E.l];exact⟨Q,zd.refl _ _,λb I=>zh I⟩⟩
 have E:X (yk T a v d=T):=by unfold yk;rw[X,za η]
 obtain⟨ao,i,rfl⟩:=zr f.B;obtain⟨L,p,s⟩:=f.box.e;clear f;go_enter func203,ntmps203;go_wp2
 (try simp only[Exit.inBlock,Exit.then]);refine zO (results_none rfl _ _ _) rfl ?_
 exact⟨rfl,by rw[E.l];exact⟨Q,zd.refl _ _,λb I=>zh I⟩⟩
end
section
open Go.Proofs.Tryz
variable {lo:Nat}
def SP:(prog.info? 273).map (λi=>(i.zero,i.q,i.bytes))=Z (Z (.agg #[ν,ν]),2,48):=χ
section
variable {P:Program} {ops:Array Oper} {o:Oper} {a:Act} {K:Act->U->Prop} {Q:Exit->Act->U->Prop}
def m8{E:Prop}(C A:U)(l:Γ)(te:TypeId)(hg:o.guard=Y)(s x:Operand)(t:TypeId)
  (ho:o.op=.call {callee:=.builtin .append,args:=#[s,x],argTypes:=#[t,t]})
  (p:Nat) (e:TypeId) (i:TypeInfo) (z:O) (d f:Nat) (ht:P.underlying t=Z (.k e)) (hi:P.info? e=Z i) (V:i.zero=Z z)
  (w:i.q=d) (I:i.bytes=f) (G:z.E.q=d) (L:0<d)
  (v:O) (n:Nat) (N:Γ) (hs:a.eval s=v) (F:C.r p e d v n N) (q:μ C A)
  (b c:Nat) (hx:a.eval x=.k (Z (δ b)) 1 c) (hb:Th A b l.F te) (hl:l.j=d) (h1:∀u∈l,u.oneCell'=true)
  (hn:n<=10000000000) (r:f<=1000) (H:p<=C.o.q)
  (h:∀D y,y.r p e d D (n+1) (N++l)->zd v.m.toList C y->(D.m=v.m∨∃g,D.m=Z g/\C.o.q<=g)->(∀k,k<A.o.q->Z k≠v.m->y.o[k]?=A.o[k]?)->A.o.q<=y.o.q->K (a.put o.dst D) y):
  if Region.wanted o (yielded ops a.tmps)=true then Oper.wp P o a A K Q else E:=by
 have hw:Region.wanted o (yielded ops a.tmps)=true:=by simp[Region.wanted,hg]
 rw[zb hw];have B:=zy F q;have T:=q.q;obtain⟨D,y,hr,W,m,_,J⟩:=run_append_own_at (P:=P) A p t o.type e i z d f ht hi V w I G L v n N B (δ b) 1 c l η (by
  intro j u hj;rw[Addr.add_lit,vx,hb.H.1];simpa using hj) h1 b_ (by
  have:(n+1)*f<=10000000001*1000:=Nat.mul_le_mul η r;omega) η
 unfold Oper.wp execOp;simp only[ho,resolve,invoke,builtin,Sem.run_bind,Sem.run_pure,Result.andThen_ok,List.map_toArray,un,List.map_nil,hs,hx,hr];refine h D y W ⟨m.os.A q.os,m.tape.A q.tape,m.output.A q.output,by have:=m.q;omega,λk R hm=>?_⟩ ?_ (λk R M=>m.block k R M) m.q
 .rw[m.block k η (λe=>hm (by rw[←e];simp))];exact q.block k R
 .rcases J with S|S
  .exact zh S
  .exact ze ⟨_,S,η⟩
end
def CO{W:U}{g n:Nat}{T:TypeId}(h:W.o[g]?=Z (.E (madeCells #[ι 0] n) T (0,0)))(c:lo<=g)(d:n<=maxLen):W.r lo T 1 (sl g n) n ((List.replicate n 0).map TN):=by
 refine⟨ζ,ze ⟨g,n,madeCells #[ι 0] n,rfl,c,h,zg _,d,by rw[size_madeCells];omega,?_⟩⟩;apply nL;intro i;by_cases b:i<n;simp[b,madeCells,TN,Nat.mod_one];simp[List.getElem?_take,b]
def m5(w:U)(a b c:Obj):((((w.C a).C b).C c).drew).o[w.o.q]?=Z a/\((((w.C a).C b).C c).drew).o[w.o.q+1]?=Z b/\((((w.C a).C b).C c).drew).o[w.o.q+1+1]?=Z c:=by
 refine⟨?_,?_,?_⟩;show(((w.o.push a).push b).push c)[w.o.q]?=_;simp[Array.getElem?_push];omega;show(((w.o.push a).push b).push c)[w.o.q+1]?=_;rw[Array.getElem?_push,za ζ,Array.getElem?_push,zb ζ];show(((w.o.push a).push b).push c)[w.o.q+1+1]?=_;rw[Array.getElem?_push,zb ζ]
def QS(wd:Nat)(ns:List (Nat×Nat))(x:Nat×Nat):lF wd (ns++[x])=lF wd ns++[sl x.1 wd,sl x.2 wd]:=by simp[lF]
def Gb(ns:List (Nat×Nat))(x:Nat×Nat):TC (ns++[x])=TC ns++[x.1,x.2]:=by simp[TC]
def vy.grow{w wr s:U}{tb:Nat}{T:zl}{t c:O}{ns:List (Nat×Nat)}{l m:Nat}(h:vy lo w tb T t ns)(u:μ w wr)(W:w.o.q<=l)(aa:w.o.q<=m)(R:l≠m)
  (h1:wr.r w.o.q 3 1 (sl l T.r) T.r ((List.replicate T.r T.r).map TN)) (h2:wr.r w.o.q 3 1 (sl m T.r) T.r ((List.replicate T.r 0).map TN))
  (hs:zd t.m.toList wr s) (F:s.r lo 273 2 c (T.B.j+1) (lF T.r ns++[sl l T.r,sl m T.r])) (J:c.m=t.m∨∃g,c.m=Z g/\wr.o.q<=g) (E:T.B.j<100000000):
  ∃H,T9 lo w (s.x (ω tb 2) c) tb (yD T) (Um tb t ns) H:=by
 have A:lo<=w.o.q:=by have:=h.low;have:=h.box.lt;omega
 have z:=h.box.u u;have y:=zy h.B u;have p:=z.save hs (jx y z θ);have f:=zd.set s tb 2 c;have S:∀{B:Nat} {e:TypeId} {s1:Nat} {v:O} {C:Nat} {D:Γ},s.r B e s1 v C D->e≠229->∀b,v.m=Z b->b∉[tb]:=λF hT b r E=>vW F p hT r (by simpa using E);have k:∀{B:Nat} {v:O} {C:Nat} {D:Γ},wr.r B 3 1 v C D->(s.x (ω tb 2) c).r B 3 1 v C D:=λq=>by
  have V:=yQ q hs (λb r E=>nO q y θ r (xa E));exact yQ V f (S V θ)
 have L:zd (Um tb t ns) w (s.x (ω tb 2) c):=((zd.of (M:=Um tb t ns) u).newer hs (λx G=>zh (by simp only[Um,zG,ya];exact ze (zh G)))).newer f (λx G=>zh (by simp at G;simp[Um,G]));refine⟨_,⟨c,ns++[(l,m)],⟨h.low,?_,?_,by simp[yD,h.len],λi N I=>?_,λi N I=>?_,?_,h.wide,by simp[yD];omega,h.deep,h.K⟩,rfl⟩,L,λb n=>?_⟩;have hq:=p.set 2 c;simpa [yD] using hq;rw[QS];have:=yQ F f (S F θ);simpa [yD] using this;simp[yD] at N;by_cases d:i<T.B.j;have j:i<ns.j:=by rw[h.len];exact d
 simp only[yD,uH d,uH j];exact k (zy (h.D i d j) u);obtain rfl:i=T.B.j:=η;have e:(ns++[(l,m)])[T.B.j]=(l,m):=by simp[←h.len]
 rw[e];simp only[yD,pL];exact k (yo h1 A);simp[yD] at N;by_cases d:i<T.B.j;have j:i<ns.j:=by rw[h.len];exact d
 simp only[yD,uH d,uH j];exact k (zy (h.down i d j) u);obtain rfl:i=T.B.j:=η;have e:(ns++[(l,m)])[T.B.j]=(l,m):=by simp[←h.len]
 rw[e];simp only[yD,pL];exact k (yo h2 A);rw[Gb,sj];refine⟨h.apart,by simp[R],λa ha b n e=>?_⟩;have:=(h.lt a (by simp only[Um,zG,ya];exact ze (ze ha))).2;simp at n;omega;simp only[Um,zG,ya,Gb] at n ⊢;rcases n with q|q|q|q;simp[q];rcases J with e|⟨g,e,hg⟩;rw[e] at q;simp[q];rw[e] at q;simp at q;have:=u.q;right;omega;simp[q];simp at q;right;omega
def IB(k n x:Nat)(c:k<n):((List.replicate k x++List.replicate (n-k) 0).map TN)[k]?=Z (ι (0:Int)):=by
 obtain⟨m,b⟩:∃m,n-k=m+1:=⟨n-k-1,η⟩;rw[b,mL,ff ζ,List.length_replicate,jC];rfl
def NS(k n x:Nat)(c:k<n):((List.replicate k x++List.replicate (n-k) 0).map TN).set k (.int .i64 x)=(List.replicate (k+1) x++List.replicate (n-(k+1)) 0).map TN:=by
 obtain⟨m,b⟩:∃m,n-k=m+1:=⟨n-k-1,η⟩;rw[show n-(k+1)=m from by omega,b,show O.int .i64 x=TN x from rfl,←lx,l0 _ _ ζ,List.length_replicate,jC,List.replicate_succ' (n:=k),kO];rfl
def wy(w b:U)(wd:Nat)(s:O):Prop:=∃d c e,s=(π d)/\c≠e/\w.o.q<=d/\Th b d #[.k (Z ⟨c,0,Y⟩) wd wd,.k (Z ⟨e,0,Y⟩) wd wd] 273/\b.r w.o.q 3 1 (sl c wd) wd ((List.replicate wd 0).map TN)/\b.r w.o.q 3 1 (sl e wd) wd ((List.replicate wd 0).map TN)/\μ w b
def wy.mk'{w c:U}{wd e d b:Nat}(f:Th c e #[.k (Z (δ d)) wd wd,.k (Z (δ b)) wd wd] 273)(i:c.o[d]?=Z (.E (madeCells #[ι 0] wd) 3 (0,0)))(j:c.o[b]?=Z (.E (madeCells #[ι 0] wd) 3 (0,0)))(h:d≠b)(g:w.o.q<=e)(l:w.o.q<=d)(k:w.o.q<=b)(n:wd<=1000)(m:μ w c):wy w c wd ((π e)):=
 ⟨e,d,b,rfl,h,g,f,CO i l b_,CO j k b_,m⟩
def Er(w:U)(tb:Nat)(T:zl)(fp:Φ)(h:yb lo w tb T fp)(hm:T.B.j<100000000):
  Calls prog 162 #[(π tb)] w λe w'=>e=ε (ι T.B.j)/\∃s,T9 lo w w' tb (yD T) fp s:=by
 obtain⟨nv,ns,H,rfl⟩:=h;have ag:=H.wide;have am:=H.many;have aa:=λW:U=>run_make_row' (P:=prog) (w:=W) 24 3 (ι 0) 8 underlying24 S5 rfl .i64 .i64 T.r η η;obtain⟨E,m,l⟩:=H.box.e;have t:=Tg H;clear H;have z:w.p ⟨tb,0,Y⟩=Z (ι T.r):=by simp[E]
 go_enter func162,ntmps162;go_upto_region 1 with fail
 go_cut [3] from 5 to 15 (λs3 wx=>wy w wx T.r s3)
 .go_region_held3 (λw'=>w'.p ⟨tb,0,Y⟩=Z (ι T.r)) (exact(Below.cell (w:=w) (p:=⟨tb,0,Y⟩) (show μ w _ from γ) l).A z) (fail)
  all_goals
   go_wp2_with fail
   go_meet
   apply wy.mk';first|exact(m5 w _ _ _).1|exact(m5 w _ _ _).2.1|exact(m5 w _ _ _).2.2
   first|exact(m5 w _ _ _).1|exact(m5 w _ _ _).2.1|exact(m5 w _ _ _).2.2
   first|exact(m5 w _ _ _).1|exact(m5 w _ _ _).2.1|exact(m5 w _ _ _).2.2
   omega;omega;omega;omega;exact ag;exact γ
 obtain⟨nb,r,V,rfl,ae,au,g,c,j,f⟩:=hcut;clear aa z E m l;obtain⟨D,C,u⟩:=g.e;have d:=t.l.box.u f;obtain⟨E,m,l⟩:=d.e;go_wp2;clear D C u E m l;go_loopw [19] (λai wr=>∃k:Nat,k<=T.r/\ai=ι k/\Th wr nb #[.k (Z ⟨r,0,Y⟩) T.r T.r,.k (Z ⟨V,0,Y⟩) T.r T.r] 273/\Th wr tb #[ι T.r,ι T.ql,nv,ι T.count] 229/\wr.r w.o.q 3 1 (sl r T.r) T.r ((List.replicate k T.r++List.replicate (T.r-k) 0).map TN)/\wr.r w.o.q 3 1 (sl V T.r) T.r ((List.replicate T.r 0).map TN)/\μ w wr) (λi _=>T.r-(intOf i).D);exact⟨0,zs _,rfl,g,d,by simpa using c,j,f⟩;clear g c j f d;obtain⟨k,hk,rfl,g,d,c,j,f⟩:=hrel;obtain⟨D,C,u⟩:=g.e;obtain⟨E,m,l⟩:=d.e;by_cases y:k<T.r
 .have ap:=yG c rfl;have x:=yU c rfl;have aq:=vg c;obtain⟨ax,al,hv,_,_,B⟩:=yr c η;simp only[sl,O.slice.injEq,zt,Addr.mk.injEq] at hv;obtain⟨⟨rfl,_⟩,_,G⟩:=hv;clear G;have N:=B k _ (IB k T.r T.r y);have q:=uB c k υ (ι T.r);rw[NS k T.r T.r y] at q;have af:r≠nb:=vW c g θ rfl;have ad:r≠tb:=vW c d θ rfl;have I:=yQ j (zd.set wr r k (ι T.r)) (λb hb hm=>by simp[sl,O.ownBlock] at hb hm;omega);have L:=g.set_ne (Ne.symm af) k (ι T.r);have J:=d.set_ne (Ne.symm ad) k (ι T.r);have ab:=f.x (p:=⟨r,k,Y⟩) x (ι T.r);clear B;go_wp2;go_region
  all_goals
   go_wp2;go_roundw;exact⟨k+1,η,ξ,Th.drew L,Th.drew J,zy q (zn _ _).drew,zy I (zn _ _).drew,ab.drew⟩;simp[intOf];omega
 obtain rfl:k=T.r:=η;rw[jC,List.replicate_zero,qb] at c;obtain⟨i0,hi,ac,M,R⟩:=info_parts SP;obtain⟨ao,S,rfl⟩:=zr t.l.B;have n:=zy t.l.B f;have a0:lo<=w.o.q:=by have:=t.l.low;have:=t.l.box.lt;omega
 have ar:=f.q;go_wp2;go_region_law (first|(refine m8 wr _ [.k (Z ⟨r,0,Y⟩) T.r T.r,.k (Z ⟨V,0,Y⟩) T.r T.r] 273 rfl (.tmp 35) (.tmp 37) 227 rfl lo 273 i0 _ 2 48 underlying227 hi ac M R rfl θ (.k ao T.B.j S) T.B.j (lF T.r ns) (by simp[Act.eval]) n γ wr.o.q 1 (by simp[Act.eval]) (by exact Th.drew (Th.new _ _ _)) rfl a_ η η η ?_;intro v' w2 A F v an aj;obtain⟨az,ak,rfl⟩:=zr A;have ah:=d.save F (jx n d θ);obtain⟨av,ay,aw⟩:=ah.e))
 all_goals
  obtain⟨s,hW⟩:=t.l.grow f (yU c rfl) (yU j rfl) ae c j F A v hm;have HW:=Tg hW;clear hW;go_wp2;go_ret;exact⟨ζ,s,HW.l⟩
def JR(d:Nat):xx d<=3:=by unfold xx;(repeat' split)<;>omega
def BB(w:U)(wd c:Nat)(x:wd<=1000)(z:c<=100000000):
  Calls prog 119 #[ι wd,ι c] w λe m=>∃r g,e=ε ((π r))/\yb w.o.q m r (xk wd c) g/\μ w m:=by
 have n:∀a b:Nat,a=zM wd->b=xx c->vy w.o.q (w.C (.E #[ι (a:Nat),ι (b:Nat),ν,ι 0] 229)) w.o.q ⟨zM wd,xx c,[],0⟩ (ν) []:=by
  rintro a b rfl rfl;refine⟨zg _,Th.new _ _ _,xp _ _ _ _,rfl,λi h=>by simp at h,λi h=>by simp at h,by simp[TC],?_,ζ,?_,ζ⟩;simp only[zM];split<;>omega
  exact JR c
 have k:X (∀a b:Nat,a=zM wd->b=xx c->Calls prog 162 #[.pointer (Z (δ w.o.q))] (w.C (.E #[ι (a:Nat),ι (b:Nat),ν,ι 0] 229)) λe m=>∃g,e=ε (ι 0)/\yb w.o.q m w.o.q (xk wd c) g/\μ w m):=λa b y j=>by
  refine(Er _ _ _ _ ⟨_,_,n a b y j,rfl⟩ ζ).y λe m ⟨t,q,s⟩=>⟨q,t,s.trie,?_⟩;exact((zn w.o.q w).C (zg _) _).A (s.save.u (by simp[Um,TC,O.ownBlock]) ζ)
 clear n;by_cases A:wd<1
 .by_cases u:c<1
  .have d:1=zM wd:=by unfold zM;split<;>omega
   have f:1=xx c:=by unfold xx;(repeat' split)<;>omega
   have H:=Tg (k.l _ _ d f);clear d f k;go_enter func119,ntmps119;go_wp2_with (go_at_call 162;refine H.l.y ?_;rintro e p ⟨g,rfl,l,j⟩)
   go_ret;exact⟨_,g,rfl,l,j⟩
  by_cases v:c>3
  .have d:1=zM wd:=by unfold zM;split<;>omega
   have f:3=xx c:=by unfold xx;(repeat' split)<;>omega
   have H:=Tg (k.l _ _ d f);clear d f k;go_enter func119,ntmps119;go_wp2_with (go_at_call 162;refine H.l.y ?_;rintro e p ⟨g,rfl,l,j⟩)
   go_ret;exact⟨_,g,rfl,l,j⟩
  have d:1=zM wd:=by unfold zM;split<;>omega
  have f:c=xx c:=by unfold xx;(repeat' split)<;>omega
  have H:=Tg (k.l _ _ d f);clear d f k;go_enter func119,ntmps119;go_wp2_with (go_at_call 162;refine H.l.y ?_;rintro e p ⟨g,rfl,l,j⟩)
  go_ret;exact⟨_,g,rfl,l,j⟩
 by_cases u:c<1
 .have d:wd=zM wd:=by unfold zM;split<;>omega
  have f:1=xx c:=by unfold xx;(repeat' split)<;>omega
  have H:=Tg (k.l _ _ d f);clear d f k;go_enter func119,ntmps119;go_wp2_with (go_at_call 162;refine H.l.y ?_;rintro e p ⟨g,rfl,l,j⟩)
  go_ret;exact⟨_,g,rfl,l,j⟩
 by_cases v:c>3
 .have d:wd=zM wd:=by unfold zM;split<;>omega
  have f:3=xx c:=by unfold xx;(repeat' split)<;>omega
  have H:=Tg (k.l _ _ d f);clear d f k;go_enter func119,ntmps119;go_wp2_with (go_at_call 162;refine H.l.y ?_;rintro e p ⟨g,rfl,l,j⟩)
  go_ret;exact⟨_,g,rfl,l,j⟩
 have d:wd=zM wd:=by unfold zM;split<;>omega
 have f:c=xx c:=by unfold xx;(repeat' split)<;>omega
 have H:=Tg (k.l _ _ d f);clear d f k;go_enter func119,ntmps119;go_wp2_with (go_at_call 162;refine H.l.y ?_;rintro e p ⟨g,rfl,l,j⟩)
 go_ret;exact⟨_,g,rfl,l,j⟩
def SC(x y z:O)(w:U):(Instr.index 165 (.agg #[x,y,z]) (ι 0)).run prog w=.ok x w:=χ
def SS(x y z:O)(w:U):(Instr.index 165 (.agg #[x,y,z]) (ι 1)).run prog w=.ok y w:=χ
def S1(x y z:O)(w:U):(Instr.index 165 (.agg #[x,y,z]) (ι 2)).run prog w=.ok z w:=χ
def T9.A{w e f:U}{tb:Nat}{g d:zl}{fp c a:Φ}(h:T9 lo w e tb g fp c)(k:T9 lo e f tb d c a):T9 lo w f tb d fp a:=
 ⟨k.trie,h.save.newer k.save h.qw,λb i=>(k.qw b i).elim (h.qw b) λq=>ze (zY h.save.q q)⟩
def T9.refl{w:U}{tb:Nat}{T:zl}{fp:Φ}(h:yb lo w tb T fp):T9 lo w w tb T fp fp:=⟨h,zd.refl _ _,λ_ a=>zh a⟩
def T9.u{w b:U}{tb:Nat}{T:zl}{fp:Φ}(h:yb lo w tb T fp)(a:μ w b):T9 lo w b tb T fp fp:=⟨h.u a,zd.of a,λ_ a=>zh a⟩
def Eh(T:zl)(a v d:Nat):(yk T a v d).B.j=T.B.j/\(yk T a v d).count=T.count/\(yk T a v d).ql=T.ql/\(yk T a v d).r=T.r:=by
 unfold yk;split<;>simp
def Fa(T:zl)(a v:Nat):(qA T a v).1.B.j<=T.B.j+1/\(qA T a v).1.count=T.count/\(qA T a v).1.ql=T.ql/\(qA T a v).1.r=T.r:=by
 unfold qA;split;simp;obtain⟨d,c,b,e⟩:=Eh (yD T) a v T.B.j;simp only[d,c,b,e];simp[yD]
def Fb(w:U)(tb:Nat)(T:zl)(fp:Φ)(a v:Nat)(h:yb lo w tb T fp)(p:T.B.j<100000000):
  Calls prog 191 #[(π tb),ι a,ι v] w λe n=>e=ε (ι ((qA T a v).2:Nat))/\∃o,T9 lo w n tb (qA T a v).1 fp o:=by
 have d:=Tg (pM w tb T fp a v h);rcases l:zJ T a v with _|b
 .have i:X (qA T a v=(yk (yD T) a v T.B.j,T.B.j)):=by unfold qA;rw[X,l]
  rw[l] at d;simp only[jJ,kG,kN] at d;have s:=Tg (Er w tb T fp h p);go_enter func191,ntmps191;go_wp2_with (first|(go_at_call 130;refine d.l.y ?_;rintro e n ⟨rfl,c⟩;obtain rfl:=c.z)|(go_at_call 162;refine s.l.y ?_;rintro e r ⟨rfl,g,j⟩;have k:=Tg j;clear j)|(go_at_call 203;refine(UG r tb (yD T) g a v T.B.j k.l.trie).y ?_;rintro e t ⟨rfl,f⟩;have m:=Tg f;clear f))
  go_ret;exact⟨by rw[i.l];rfl,g,by rw[i.l];exact k.l.A m.l⟩
 have i:X (qA T a v=(T,b)):=by unfold qA;rw[X,l]
 rw[l] at d;simp only[jJ,uD,j8] at d;have q:=Tg h;go_enter func191,ntmps191;go_wp2_with (go_at_call 130;refine d.l.y ?_;rintro e n ⟨rfl,c⟩;obtain rfl:=c.z)
 go_ret;exact⟨by rw[i.l];rfl,fp,by rw[i.l];exact T9.refl q.l⟩
def vy.setCount{w:U}{tb:Nat}{T:zl}{f:O}{ns:List (Nat×Nat)}(h:vy lo w tb T f ns)(n:Nat)(p:n<=1000000000):T9 lo w (w.x (ω tb 3) (ι n)) tb {T with count:=n} (Um tb f ns) (Um tb f ns):=by
 have a:=zd.set w tb 3 (ι n);have j:∀{m:Nat} {e:TypeId} {o:Nat} {v:O} {s:Nat} {r:Γ},w.r m e o v s r->e≠229->∀b,v.m=Z b->b∉[tb]:=λq l b g k=>vW q h.box l g (by simpa using k);refine⟨⟨f,ns,⟨h.low,?_,yQ h.B a (j h.B θ),h.len,λi d c=>yQ (h.D i d c) a (j (h.D i d c) θ),λi d c=>yQ (h.down i d c) a (j (h.down i d c) θ),h.apart,h.wide,h.many,h.deep,p⟩,rfl⟩,a.more (by simp[Um]),λb u=>zh u⟩;have t:=h.box.set 3 (ι n);simpa using t
def oE(w:U)(tb:Nat)(T:zl)(fp:Φ)(a v m:Nat)(h:yb lo w tb T fp)(A:T.count<1000000000):
  Calls prog 190 #[(π tb),ι a,ι v,ι m] w λe r=>e=ε (.i (dY T a v m).2)/\∃n,T9 lo w r tb (dY T a v m).1 fp n:=by
 have g:=Tg (pM w tb T fp a v h);rcases k:zJ T a v with _|b
 .have j:X (dY T a v m=({yk T a v m with count:=(yk T a v m).count+1},true)):=by unfold dY;rw[X,k]
  rw[k] at g;simp only[jJ,kG,kN] at g;have t:=Tg (UG w tb T fp a v m h);have i:=(Eh T a v m).2.1;generalize yk T a v m=l at *;rw[←i] at A;clear h i;go_enter func190,ntmps190;go_wp2_with (first|(go_at_call 130;refine g.l.y ?_;rintro e r ⟨rfl,d⟩;obtain rfl:=d.z)|(go_at_call 203;refine t.l.y ?_;rintro e s ⟨rfl,f⟩;obtain⟨C,D,c,p⟩:=f.trie;have q:=Tg f;have z:X (T9 lo s (s.x (ω tb 3) (ι ((l.count+1:Nat)))) tb {l with count:=l.count+1} fp fp):=(by rw[p];exact c.setCount (l.count+1) η);have o:=c.box;clear f c;obtain⟨B,y,u⟩:=o.e))
  go_ret;exact⟨by rw[j.l];rfl,fp,by rw[j.l];exact q.l.A z.l⟩
 have j:X (dY T a v m=(T,false)):=by unfold dY;rw[X,k]
 rw[k] at g;simp only[jJ,uD,j8] at g;have x:=Tg h;go_enter func190,ntmps190;go_wp2_with (go_at_call 130;refine g.l.y ?_;rintro e r ⟨rfl,d⟩;obtain rfl:=d.z)
 go_ret;exact⟨by rw[j.l];rfl,fp,by rw[j.l];exact T9.refl x.l⟩
def UR(w:U)(tb:Nat)(T:zl)(fp:Φ)(x y z:Nat)(h:yb lo w tb T fp):
  Calls prog 189 #[(π tb),.agg #[ι x,ι y,ι z]] w λe u=>e=ε (.i (lE T [x,y,z]))/\μ w u:=by
 obtain⟨v,A,d,rfl⟩:=h;have l:=d.box;have p:=SC (ι x) (ι y) (ι z);have t:=SS (ι x) (ι y) (ι z);have n:=S1 (ι x) (ι y) (ι z);have j:X (lE T [x,y,z]=(decide (x<T.r)&&(decide (y<T.r)&&decide (z<T.r)))):=by simp[X,lE]
 go_enter func189,ntmps189;go_wp2;go_loopw [8] (λo wr=>∃k:Nat,k<=3/\o=ι k/\(1<=k->x<T.r)/\(2<=k->y<T.r)/\(3<=k->z<T.r)/\μ w wr) (λi _=>3-(intOf i).D);exact⟨0,η,rfl,η,η,η,γ⟩;obtain⟨k,r,rfl,d,m,s,a⟩:=hrel;have f:=l.u a;obtain⟨B,q⟩:=f.H;match k,r with
 |0,_=>
  by_cases b:x<T.r
  .go_wp2;go_roundw;exact⟨1,η,rfl,λ_=>b,η,η,a⟩;simp[intOf]
  go_wp2;go_ret;exact⟨by rw[j.l];simp[b],a⟩
 |1,_=>
  have b:=d η;by_cases c:y<T.r
  .go_wp2;go_roundw;exact⟨2,η,rfl,λ_=>b,λ_=>c,η,a⟩;simp[intOf]
  go_wp2;go_ret;exact⟨by rw[j.l];simp[c],a⟩
 |2,_=>
  have b:=d η;have c:=m η;by_cases g:z<T.r
  .go_wp2;go_roundw;exact⟨3,η,rfl,λ_=>b,λ_=>c,λ_=>g,a⟩;simp[intOf]
  go_wp2;go_ret;exact⟨by rw[j.l];simp[g],a⟩
 |3,_=>
  have b:=d η;have c:=m η;have g:=s η;go_wp2;go_ret;exact⟨by rw[j.l];simp[b,c,g],a⟩
def Nx(w:U)(tb:Nat)(T:zl)(fp:Φ)(x y z m:Nat)(h:yb lo w tb T fp)(hn:T.B.j<=90000000)(hc:T.count<1000000000):
  Calls prog 163 #[(π tb),.agg #[ι x,ι y,ι z],ι m] w λe w'=>e=ε (.i (yC T [x,y,z] m).2)/\∃F,T9 lo w w' tb (yC T [x,y,z] m).1 fp F:=by
 have R:=SC (ι x) (ι y) (ι z);have ac:=SS (ι x) (ι y) (ι z);have N:=S1 (ι x) (ι y) (ι z);have L:T.ql<=3:=by obtain⟨A,V,J,_⟩:=h;exact J.deep
 have v:=Tg λW hW=>UR W tb T fp x y z (h.u hW);have M:=Tg h;clear h;cases t:lE T [x,y,z]
 .have n:X (yC T [x,y,z] m=(T,false)):=by simp[X,yC,t]
  rw[t] at v;clear t;go_enter func163,ntmps163;go_wp2_with (go_at_call 189;refine(v.l _ γ).y ?_;rintro e H ⟨rfl,l⟩;have s:μ w H:=zQ γ l (zg _))
  go_ret;exact⟨by rw[n.l];rfl,fp,by rw[n.l];exact T9.u M.l s⟩
 have n:X (yC T [x,y,z] m=vB m T 0 0 [x,y,z]):=by simp[X,yC,t]
 rw[t] at v;clear t;go_enter func163,ntmps163;go_wp2_with (go_at_call 189;refine(v.l _ γ).y ?_;rintro e H ⟨rfl,l⟩;have s:μ w H:=zQ γ l (zg _);have u:=(Th.new w #[ι x,ι y,ι z] 165).u l;obtain⟨I,G,K⟩:=u.e)
 clear I G K u l v;go_loopw [7,15] (λv7 r wr=>∃(k a:Nat) (b:zl) (g:Φ),k<=3/\r=ι k/\v7=ι a/\X (T9 lo w wr tb b fp g)/\X (vB m T 0 0 [x,y,z]=vB m b a k ([x,y,z].drop k))/\b.B.j<=T.B.j+k/\b.count=T.count/\b.ql=T.ql) (λ_ r _=>3-(intOf r).D);exact⟨0,0,T,fp,η,rfl,rfl,T9.u M.l s,rfl,η,rfl,rfl⟩;obtain⟨k,a,b,g,hk,rfl,rfl,j,o,ab,aa,E⟩:=hrel;have p:∃A,Th wr tb #[ι b.r,ι b.ql,A,ι b.count] 229:=by obtain⟨A,V,J,_⟩:=j.l.trie;exact⟨A,J.box⟩
 obtain⟨A,p⟩:=p;rw[E] at p;obtain⟨ad,Q,P⟩:=p.e;match k,hk with
 |0,_=>
  by_cases D:T.ql<=1
  .have i:X (vB m b a 0 [x,y,z]=dY b a x m):=by rw[X];simp only[vB];rw[zb η]
   have q:=Tg (oE wr tb b g a x m j.l.trie η);go_wp2_with (go_at_call 190;refine q.l.y ?_;rintro e C ⟨rfl,f,c⟩;have d:=Tg c;clear c)
   go_ret;exact⟨by rw[n.l,o.l];simp only[List.drop];rw[i.l];rfl,f,by rw[n.l,o.l];simp only[List.drop];rw[i.l];exact j.l.A d.l⟩
  have i:X (vB m b a 0 [x,y,z]=vB m (qA b a x).1 (qA b a x).2 1 [y,z]):=by rw[X];simp only[vB];rw[za η]
  obtain⟨q1,q2,S,q4⟩:=Fa b a x;have q:=Tg (Fb wr tb b g a x j.l.trie η);generalize qA b a x=B at *;go_wp2_with (go_at_call 191;refine q.l.y ?_;rintro e C ⟨rfl,f,c⟩;have d:=Tg c;clear c)
  go_roundw;exact⟨1,B.2,B.1,f,η,rfl,rfl,j.l.A d.l,(by rw[o.l];exact i.l),η,η,η⟩;simp[intOf]
 |1,_=>
  by_cases D:T.ql<=2
  .have i:X (vB m b a 1 [y,z]=dY b a y m):=by rw[X];simp only[vB];rw[zb η]
   have q:=Tg (oE wr tb b g a y m j.l.trie η);go_wp2_with (go_at_call 190;refine q.l.y ?_;rintro e C ⟨rfl,f,c⟩;have d:=Tg c;clear c)
   go_ret;exact⟨by rw[n.l,o.l];simp only[List.drop];rw[i.l];rfl,f,by rw[n.l,o.l];simp only[List.drop];rw[i.l];exact j.l.A d.l⟩
  have i:X (vB m b a 1 [y,z]=vB m (qA b a y).1 (qA b a y).2 2 [z]):=by rw[X];simp only[vB];rw[za η]
  obtain⟨q1,q2,S,q4⟩:=Fa b a y;have q:=Tg (Fb wr tb b g a y j.l.trie η);generalize qA b a y=B at *;go_wp2_with (go_at_call 191;refine q.l.y ?_;rintro e C ⟨rfl,f,c⟩;have d:=Tg c;clear c)
  go_roundw;exact⟨2,B.2,B.1,f,η,rfl,rfl,j.l.A d.l,(by rw[o.l];exact i.l),η,η,η⟩;simp[intOf]
 |2,_=>
  by_cases D:T.ql<=3
  .have i:X (vB m b a 2 [z]=dY b a z m):=by rw[X];simp only[vB];rw[zb η]
   have q:=Tg (oE wr tb b g a z m j.l.trie η);go_wp2_with (go_at_call 190;refine q.l.y ?_;rintro e C ⟨rfl,f,c⟩;have d:=Tg c;clear c)
   go_ret;exact⟨by rw[n.l,o.l];simp only[List.drop];rw[i.l];rfl,f,by rw[n.l,o.l];simp only[List.drop];rw[i.l];exact j.l.A d.l⟩
  exact zB L D
 |3,_=>
  have i:X (vB m b a 3 []=(b,false)):=by rw[X];simp only[vB]
  go_wp2;go_ret;exact⟨by rw[n.l,o.l];simp only[List.drop];rw[i.l];rfl,g,by rw[n.l,o.l];simp only[List.drop];rw[i.l];exact j.l⟩
def Cg(w:U)(tb:Nat)(T:zl)(fp:Φ)(x y z:Nat)(h:yb lo w tb T fp):
  Calls prog 83 #[(π tb),.agg #[ι x,ι y,ι z]] w λe m=>e=ε (jJ (ua T [x,y,z]))/\μ w m:=by
 have E:=SC (ι x) (ι y) (ι z);have I:=SS (ι x) (ι y) (ι z);have B:=S1 (ι x) (ι y) (ι z);have n:∃t,Th w tb #[ι T.r,ι T.ql,t,ι T.count] 229/\T.ql<=3:=by obtain⟨t,K,A,_⟩:=h;exact⟨t,A.box,A.deep⟩
 obtain⟨t,n,u⟩:=n;have r:=Tg λW a v G=>pM W tb T fp a v (h.u G);clear h;have p:X (ua T [x,y,z]=uT T 0 0 [x,y,z]):=rfl;go_enter func83,ntmps83;go_wp2;go_loopw [6,12] (λF q wr=>∃k a:Nat,k<=3/\q=ι k/\F=ι a/\X (uT T 0 0 [x,y,z]=uT T a k ([x,y,z].drop k))/\μ w wr) (λ_ q _=>3-(intOf q).D);exact⟨0,0,η,rfl,rfl,rfl,γ⟩;obtain⟨k,a,H,rfl,rfl,l,c⟩:=hrel;have s:=n.u c;obtain⟨J,D,C⟩:=s.e;match k,H with
 |0,_=>
  rcases g:zJ T a x with _|b
  .have i:X (uT T a 0 [x,y,z]=Y):=by rw[X];simp only[uT];rw[g]
   have f:=r.l wr a x c;rw[g] at f;simp only[jJ,kG,kN] at f;have j:=Tg f;clear f g;go_wp2_with (go_at_call 130;refine j.l.y ?_;rintro e m ⟨rfl,d⟩;obtain rfl:=d.z)
   go_ret2
   exact⟨by rw[p.l,l.l];simp only[List.drop];rw[i.l];rfl,c⟩
  have f:=r.l wr a x c;rw[g] at f;simp only[jJ,uD,j8] at f;have j:=Tg f;clear f;by_cases o:T.ql<=1
  .have i:X (uT T a 0 [x,y,z]=Z b):=by rw[X];simp only[uT];rw[g];simp only;rw[zb η]
   clear g;go_wp2_with (go_at_call 130;refine j.l.y ?_;rintro e m ⟨rfl,d⟩;obtain rfl:=d.z)
   go_ret2
   exact⟨by rw[p.l,l.l];simp only[List.drop];rw[i.l];rfl,c⟩
  have i:X (uT T a 0 [x,y,z]=uT T b 1 [y,z]):=by rw[X];simp only[uT];rw[g];simp only;rw[za η]
  clear g;go_wp2_with (go_at_call 130;refine j.l.y ?_;rintro e m ⟨rfl,d⟩;obtain rfl:=d.z)
  go_roundw;exact⟨1,b,η,rfl,rfl,(by rw[l.l];exact i.l),c⟩;simp[intOf]
 |1,_=>
  rcases g:zJ T a y with _|b
  .have i:X (uT T a 1 [y,z]=Y):=by rw[X];simp only[uT];rw[g]
   have f:=r.l wr a y c;rw[g] at f;simp only[jJ,kG,kN] at f;have j:=Tg f;clear f g;go_wp2_with (go_at_call 130;refine j.l.y ?_;rintro e m ⟨rfl,d⟩;obtain rfl:=d.z)
   go_ret2
   exact⟨by rw[p.l,l.l];simp only[List.drop];rw[i.l];rfl,c⟩
  have f:=r.l wr a y c;rw[g] at f;simp only[jJ,uD,j8] at f;have j:=Tg f;clear f;by_cases o:T.ql<=2
  .have i:X (uT T a 1 [y,z]=Z b):=by rw[X];simp only[uT];rw[g];simp only;rw[zb η]
   clear g;go_wp2_with (go_at_call 130;refine j.l.y ?_;rintro e m ⟨rfl,d⟩;obtain rfl:=d.z)
   go_ret2
   exact⟨by rw[p.l,l.l];simp only[List.drop];rw[i.l];rfl,c⟩
  have i:X (uT T a 1 [y,z]=uT T b 2 [z]):=by rw[X];simp only[uT];rw[g];simp only;rw[za η]
  clear g;go_wp2_with (go_at_call 130;refine j.l.y ?_;rintro e m ⟨rfl,d⟩;obtain rfl:=d.z)
  go_roundw;exact⟨2,b,η,rfl,rfl,(by rw[l.l];exact i.l),c⟩;simp[intOf]
 |2,_=>
  rcases g:zJ T a z with _|b
  .have i:X (uT T a 2 [z]=Y):=by rw[X];simp only[uT];rw[g]
   have f:=r.l wr a z c;rw[g] at f;simp only[jJ,kG,kN] at f;have j:=Tg f;clear f g;go_wp2_with (go_at_call 130;refine j.l.y ?_;rintro e m ⟨rfl,d⟩;obtain rfl:=d.z)
   go_ret2
   exact⟨by rw[p.l,l.l];simp only[List.drop];rw[i.l];rfl,c⟩
  have f:=r.l wr a z c;rw[g] at f;simp only[jJ,uD,j8] at f;have j:=Tg f;clear f;by_cases o:T.ql<=3
  .have i:X (uT T a 2 [z]=Z b):=by rw[X];simp only[uT];rw[g];simp only;rw[zb η]
   clear g;go_wp2_with (go_at_call 130;refine j.l.y ?_;rintro e m ⟨rfl,d⟩;obtain rfl:=d.z)
   go_ret2
   exact⟨by rw[p.l,l.l];simp only[List.drop];rw[i.l];rfl,c⟩
  exact zB u o
 |3,_=>
  have i:X (uT T a 3 []=Y):=by rw[X];simp only[uT]
  go_wp2;go_ret2
  exact⟨by rw[p.l,l.l];simp only[List.drop];rw[i.l];rfl,c⟩
def S3:(prog.info? 165).map (λi=>(i.zero,i.q,i.bytes))=Z (Z (.agg #[ι 0,ι 0,ι 0]),3,24):=χ
def jW(rs:List zk):List Value:=rs.flatMap (·.map TN)
def Tw(lo:Nat)(w:U)(v:O)(rs:List zk):Prop:=w.r lo 165 3 v rs.j (jW rs)/\∀r∈rs,r.j=3
def uN(B:Nat)(w:U)(b tb:Nat)(row:zk)(a:List zk):Prop:=∃(x y z:Nat) (c:O),row=[x,y,z]/\B<=b/\Th w b #[(π tb),ι x,ι y,ι z,c] 223/\Tw B w c a
def uN.u{B:Nat}{w w':U}{b tb:Nat}{row:zk}{a:List zk}(h:uN B w b tb row a)(c:μ w w'):uN B w' b tb row a:=by
 obtain⟨x,y,z,e,g,f,j,i,d⟩:=h;exact⟨x,y,z,e,g,f,j.u c,zy i c,d⟩
def wP{T:zl}{a f v:Nat}(h:yF T a f=Z v):v<T.r:=by
 unfold yF at h;split at h;simp only at h;split at h;cases h;simp only[zt] at h;omega;cases h
def mS(T:zl):∀(n a level f:Nat) (row:zk) (b:List zk) (c:zk×List zk),ud T n a level f row b=Z c->b.j<=c.2.j
 |0,_,_,_,_,_,_,h=>by simp[ud] at h
 |n+1,a,level,f,row,b,c,h=>by
  unfold ud at h;split at h
  .simp at h;subst h;simp
  .rename_i v j;simp only at h;split at h
   .have:=mS T n _ _ _ _ _ _ h;simp at this;omega
   .split at h
    .exact mS T n _ _ _ _ _ _ h
    .split at h
     .cases h
     .rename_i e d i;have g:=mS T n _ _ _ _ _ _ i;have k:=mS T n _ _ _ _ _ _ h;simp at g;omega
def Pg(c:U)(tb:Nat)(T:zl)(fp:Φ)(ht:yb lo c tb T fp)(d n:Nat)(ih:(∀m,m<n->∀(w:U) (a level:Nat) (row:zk) (h:List zk) (g:zk×List zk),ud T m a level 0 row h=Z g->level<3->g.2.j<=1048576->μ c w->uN c.o.q w d tb row h->Calls prog 127 #[(π d),ι a,ι level] w λe j=>e=ε (.B #[])/\uN c.o.q j d tb g.1 g.2/\μ c j))(w:U)(a:Nat)(row:zk)(h:List zk)(g:zk×List zk)(S:ud T n a 0 0 row h=Z g)(a7:g.2.j<=1048576)(aa:μ c w)(I:uN c.o.q w d tb row h):
  Calls prog 127 #[(π d),ι a,ι 0] w λe j=>e=ε (.B #[])/\uN c.o.q j d tb g.1 g.2/\μ c j:=by
 have HI:=Tg ih;clear ih;have HL:X (∀W f,μ c W->Calls prog 167 #[(π tb),ι a,ι ((f:Nat):Int)] W λe j=>e=ε (.B #[ι (((yF T a f).g 0:Nat):Int),.i (yF T a f).I])/\j=W):=λW f hW=>tD W tb T fp a f (ht.u hW);have HD:X (∀W v,μ c W->Calls prog 130 #[(π tb),ι a,ι ((v:Nat):Int)] W λe j=>e=ε (.B #[ι (((zJ T a v).g 0:Nat):Int),.i (zJ T a v).I])/\j=W):=λW v hW=>pM W tb T fp a v (ht.u hW);have aK:T.ql<=3:=by obtain⟨nv,ns,h1,_⟩:=ht;exact h1.deep
 have aD:T.r<=1000:=by obtain⟨nv,ns,h1,_⟩:=ht;exact h1.wide
 have B:∃nv,Th c tb #[ι T.r,ι T.ql,nv,ι T.count] 229:=by obtain⟨nv,ns,h1,_⟩:=ht;exact⟨nv,h1.box⟩
 obtain⟨nv,B⟩:=B;clear ht;have al:=Tg I;have P:=Tg S;obtain⟨x,y,z,rv,ar,u,s,a0,ay⟩:=I;clear ar a0 ay S;obtain⟨N,L,ab⟩:=s.e;go_enter func127,ntmps127;go_wp2_with (go_at_call 167;refine(HL.l w 0 aa).y ?_;rintro e j ⟨rfl,o⟩;obtain rfl:=o.z;clear o)
 clear N L ab s;go_loopg [6,7] n (λk v6 v7 wr=>∃(f:Nat) (F:zk) (b:List zk),v6=ι (((yF T a f).g 0:Nat):Int)/\v7=.i (yF T a f).I/\X (uN c.o.q wr d tb F b)/\X (ud T k a 0 f F b=Z g)/\k<=n/\μ c wr)
 case atStart=>exact⟨0,row,h,rfl,rfl,al,P,zg _,aa⟩
 clear al P aa u;obtain⟨f,F,b,rfl,rfl,ae,HQ,aI,K⟩:=hrel;have aw:=ae.l;obtain⟨x,y,z,rv,ad,u,s,A,af⟩:=aw;subst ad;obtain⟨N,L,ab⟩:=s.e;rcases gk with _|m;have:=HQ.l;simp[ud] at this;have D:=HQ.l;unfold ud at D;rcases hl:yF T a f with _|v
 .rw[hl] at D;simp only[zt] at D;have HE:X (g=([x,y,z],b)):=D.z;clear D hl HQ;simp only[kG,kN];go_wp2;go_end0
  exact⟨rfl,by rw[HE.l];exact ae.l,K⟩
 rw[hl] at D;simp only at D;have aL:v<=1000:=by have:=wP hl;omega
 clear hl HQ;simp only[uD,j8];have aj:X (∀W,μ c W->Calls prog 167 #[(π tb),ι a,ι ((v:Int)+1)] W λe j=>e=ε (.B #[ι (((yF T a (v+1)).g 0:Nat):Int),.i (yF T a (v+1)).I])/\j=W):=λW hW=>by
  have q:=HL.l W (v+1) hW;rw[show((v+1:Nat):Int)=(v:Int)+1 from by omega] at q;exact q
 have l:=s.set 1 (ι v);simp at l;have ak:=B.u K;obtain⟨a4,ax,az⟩:=ak.e;have aJ:d≠tb:=(λe=>by have:=B.lt;omega);by_cases hd:T.ql<=1
 .rw[zb η] at D;have J:X (ud T m a 0 (v+1) [v,y,z] (b++[[v,y,z]])=Z g):=D;have ac:=mS T m _ _ _ _ _ _ D;simp at ac;clear D HI HD HL;obtain⟨i0,hi,av,a2,au⟩:=info_parts S3;obtain⟨ao,ag,rfl⟩:=zr A;have t:(wr.x (ω d 1) (ι v)).r c.o.q 165 3 (.k ao b.j ag) b.j (jW b):=xL A ((Tu.refl d wr).x 1 _) s θ;have H:μ c (wr.x (ω d 1) (ι v)):=K.x (p:=(ω d 1)) u _;have a3:=H.q;go_wp2;clear N L s A a4 ax az ak ae ab;generalize wr.x (ω d 1) (ι v)=wS at *;obtain⟨N,L,aB⟩:=l.e;go_region_law (first|(refine m8 wS _ [ι v,ι y,ι z] 165 rfl (.tmp 42) (.tmp 47) 161 rfl c.o.q 165 i0 _ 3 24 underlying161 hi av a2 au rfl θ (.k ao b.j ag) b.j (jW b) (by simp[Act.eval]) t γ wS.o.q 1 (by simp[Act.eval]) (by exact Th.drew (Th.new _ _ _)) rfl a_ η η η ?_;intro v' w2 an ai a5 aE aA;obtain⟨C,i,rfl⟩:=zr an;have E:=l.save ai (jx t l θ);obtain⟨aC,aH,aG⟩:=E.e))
  all_goals
   have V:Tw c.o.q (w2.x (ω d 4) (.k C (b.j+1) i)) (.k C (b.j+1) i) (b++[[v,y,z]]):=by
    refine⟨?_,λr hr=>?_⟩;have:=xL an ((Tu.refl d w2).x 4 (.k C (b.j+1) i)) E θ;simpa [jW,TN] using this;rcases ya.1 hr with q|q;exact af r q;simp at q;rw[q];rfl
   have R:=E.set 4 (.k C (b.j+1) i);simp at R;have ah:μ c (w2.x (ω d 4) (.k C (b.j+1) i)):=(H.A (ai.u (λx hx=>yU t (xa hx)) a3)).x (p:=(ω d 4)) u _;have G:X (uN c.o.q (w2.x (ω d 4) (.k C (b.j+1) i)) d tb [v,y,z] (b++[[v,y,z]])):=⟨_,_,_,_,rfl,u,R,V⟩;go_wp2_with (go_at_call 167;refine(aj.l _ (by exact ah)).y ?_;rintro e j ⟨rfl,o⟩;obtain rfl:=o.z)
   go_roundg m
   case measure=>omega
   exact⟨v+1,_,_,rfl,rfl,G,J,η,ah⟩
 have J:=D;rw[za η,za η] at J;have H:μ c (wr.x (ω d 1) (ι v)):=K.x (p:=(ω d 1)) u _;have am:uN c.o.q (wr.x (ω d 1) (ι v)) d tb [v,y,z] b:=⟨_,_,_,rv,rfl,u,l,xL A ((Tu.refl d wr).x 1 _) s θ,af⟩;rcases M:ud T m ((zJ T a v).g 0) 1 0 [v,y,z] b with _|rr;rw[show [x,y,z].set 0 v=[v,y,z] from rfl] at J;rw[M] at J;cases J;rw[show [x,y,z].set 0 v=[v,y,z] from rfl] at J;rw[M] at J;have H3:ud T m a 0 (v+1) rr.1 rr.2=Z g:=J;have HW:X (Calls prog 127 #[(π d),ι (((zJ T a v).g 0:Nat):Int),ι 1] (wr.x (ω d 1) (ι v)) λe j=>e=ε (.B #[])/\uN c.o.q j d tb rr.1 rr.2/\μ c j):=by
  have q:=HI.l m η _ _ _ _ _ rr M η (by have:=mS T m _ _ _ _ _ _ H3;omega) H am;rw[show((1:Nat):Int)=1 from rfl] at q;exact q
 have H4:=Tg H3;clear D J H3 M;have a1:=Tg (HD.l _ v H);generalize (zJ T a v).g 0=dn at *;generalize (zJ T a v).I=ds at *;clear HD HI HL;go_wp2_with (first|(go_at_call 130;refine a1.l.y ?_;rintro e j ⟨rfl,o⟩;obtain rfl:=o.z)|(go_at_call 127;refine HW.l.y ?_;rintro e w3 ⟨rfl,Q,ap⟩;have G:=Tg Q;obtain⟨x3,y3,z3,aF,_,_,aq,_,_⟩:=Q;obtain⟨a9,a8,a6⟩:=aq.e)|(go_at_call 167;refine(aj.l _ ap).y ?_;rintro e j ⟨rfl,o⟩;obtain rfl:=o.z))
 go_roundg m
 case measure=>omega
 exact⟨v+1,rr.1,rr.2,rfl,rfl,G,H4,η,ap⟩
def R0(c:U)(tb:Nat)(T:zl)(fp:Φ)(ht:yb lo c tb T fp)(d n:Nat)(ih:(∀m,m<n->∀(w:U) (a level:Nat) (row:zk) (h:List zk) (g:zk×List zk),ud T m a level 0 row h=Z g->level<3->g.2.j<=1048576->μ c w->uN c.o.q w d tb row h->Calls prog 127 #[(π d),ι a,ι level] w λe j=>e=ε (.B #[])/\uN c.o.q j d tb g.1 g.2/\μ c j))(w:U)(a:Nat)(row:zk)(h:List zk)(g:zk×List zk)(S:ud T n a 1 0 row h=Z g)(a7:g.2.j<=1048576)(aa:μ c w)(I:uN c.o.q w d tb row h):
  Calls prog 127 #[(π d),ι a,ι 1] w λe j=>e=ε (.B #[])/\uN c.o.q j d tb g.1 g.2/\μ c j:=by
 have HI:=Tg ih;clear ih;have HL:X (∀W f,μ c W->Calls prog 167 #[(π tb),ι a,ι ((f:Nat):Int)] W λe j=>e=ε (.B #[ι (((yF T a f).g 0:Nat):Int),.i (yF T a f).I])/\j=W):=λW f hW=>tD W tb T fp a f (ht.u hW);have HD:X (∀W v,μ c W->Calls prog 130 #[(π tb),ι a,ι ((v:Nat):Int)] W λe j=>e=ε (.B #[ι (((zJ T a v).g 0:Nat):Int),.i (zJ T a v).I])/\j=W):=λW v hW=>pM W tb T fp a v (ht.u hW);have aK:T.ql<=3:=by obtain⟨nv,ns,h1,_⟩:=ht;exact h1.deep
 have aD:T.r<=1000:=by obtain⟨nv,ns,h1,_⟩:=ht;exact h1.wide
 have B:∃nv,Th c tb #[ι T.r,ι T.ql,nv,ι T.count] 229:=by obtain⟨nv,ns,h1,_⟩:=ht;exact⟨nv,h1.box⟩
 obtain⟨nv,B⟩:=B;clear ht;have al:=Tg I;have P:=Tg S;obtain⟨x,y,z,rv,ar,u,s,a0,ay⟩:=I;clear ar a0 ay S;obtain⟨N,L,ab⟩:=s.e;go_enter func127,ntmps127;go_wp2_with (go_at_call 167;refine(HL.l w 0 aa).y ?_;rintro e j ⟨rfl,o⟩;obtain rfl:=o.z;clear o)
 clear N L ab s;go_loopg [6,7] n (λk v6 v7 wr=>∃(f:Nat) (F:zk) (b:List zk),v6=ι (((yF T a f).g 0:Nat):Int)/\v7=.i (yF T a f).I/\X (uN c.o.q wr d tb F b)/\X (ud T k a 1 f F b=Z g)/\k<=n/\μ c wr)
 case atStart=>exact⟨0,row,h,rfl,rfl,al,P,zg _,aa⟩
 clear al P aa u;obtain⟨f,F,b,rfl,rfl,ae,HQ,aI,K⟩:=hrel;have aw:=ae.l;obtain⟨x,y,z,rv,ad,u,s,A,af⟩:=aw;subst ad;obtain⟨N,L,ab⟩:=s.e;rcases gk with _|m;have:=HQ.l;simp[ud] at this;have D:=HQ.l;unfold ud at D;rcases hl:yF T a f with _|v
 .rw[hl] at D;simp only[zt] at D;have HE:X (g=([x,y,z],b)):=D.z;clear D hl HQ;simp only[kG,kN];go_wp2;go_end0
  exact⟨rfl,by rw[HE.l];exact ae.l,K⟩
 rw[hl] at D;simp only at D;have aL:v<=1000:=by have:=wP hl;omega
 clear hl HQ;simp only[uD,j8];have aj:X (∀W,μ c W->Calls prog 167 #[(π tb),ι a,ι ((v:Int)+1)] W λe j=>e=ε (.B #[ι (((yF T a (v+1)).g 0:Nat):Int),.i (yF T a (v+1)).I])/\j=W):=λW hW=>by
  have q:=HL.l W (v+1) hW;rw[show((v+1:Nat):Int)=(v:Int)+1 from by omega] at q;exact q
 have l:=s.set 2 (ι v);simp at l;have ak:=B.u K;obtain⟨a4,ax,az⟩:=ak.e;have aJ:d≠tb:=(λe=>by have:=B.lt;omega);by_cases hd:T.ql<=2
 .rw[zb η] at D;have J:X (ud T m a 1 (v+1) [x,v,z] (b++[[x,v,z]])=Z g):=D;have ac:=mS T m _ _ _ _ _ _ D;simp at ac;clear D HI HD HL;obtain⟨i0,hi,av,a2,au⟩:=info_parts S3;obtain⟨ao,ag,rfl⟩:=zr A;have t:(wr.x (ω d 2) (ι v)).r c.o.q 165 3 (.k ao b.j ag) b.j (jW b):=xL A ((Tu.refl d wr).x 2 _) s θ;have H:μ c (wr.x (ω d 2) (ι v)):=K.x (p:=(ω d 2)) u _;have a3:=H.q;go_wp2;clear N L s A a4 ax az ak ae ab;generalize wr.x (ω d 2) (ι v)=wS at *;obtain⟨N,L,aB⟩:=l.e;go_region_law (first|(refine m8 wS _ [ι x,ι v,ι z] 165 rfl (.tmp 42) (.tmp 47) 161 rfl c.o.q 165 i0 _ 3 24 underlying161 hi av a2 au rfl θ (.k ao b.j ag) b.j (jW b) (by simp[Act.eval]) t γ wS.o.q 1 (by simp[Act.eval]) (by exact Th.drew (Th.new _ _ _)) rfl a_ η η η ?_;intro v' w2 an ai a5 aE aA;obtain⟨C,i,rfl⟩:=zr an;have E:=l.save ai (jx t l θ);obtain⟨aC,aH,aG⟩:=E.e))
  all_goals
   have V:Tw c.o.q (w2.x (ω d 4) (.k C (b.j+1) i)) (.k C (b.j+1) i) (b++[[x,v,z]]):=by
    refine⟨?_,λr hr=>?_⟩;have:=xL an ((Tu.refl d w2).x 4 (.k C (b.j+1) i)) E θ;simpa [jW,TN] using this;rcases ya.1 hr with q|q;exact af r q;simp at q;rw[q];rfl
   have R:=E.set 4 (.k C (b.j+1) i);simp at R;have ah:μ c (w2.x (ω d 4) (.k C (b.j+1) i)):=(H.A (ai.u (λx hx=>yU t (xa hx)) a3)).x (p:=(ω d 4)) u _;have G:X (uN c.o.q (w2.x (ω d 4) (.k C (b.j+1) i)) d tb [x,v,z] (b++[[x,v,z]])):=⟨_,_,_,_,rfl,u,R,V⟩;go_wp2_with (go_at_call 167;refine(aj.l _ (by exact ah)).y ?_;rintro e j ⟨rfl,o⟩;obtain rfl:=o.z)
   go_roundg m
   case measure=>omega
   exact⟨v+1,_,_,rfl,rfl,G,J,η,ah⟩
 have J:=D;rw[za η,za η] at J;have H:μ c (wr.x (ω d 2) (ι v)):=K.x (p:=(ω d 2)) u _;have am:uN c.o.q (wr.x (ω d 2) (ι v)) d tb [x,v,z] b:=⟨_,_,_,rv,rfl,u,l,xL A ((Tu.refl d wr).x 2 _) s θ,af⟩;rcases M:ud T m ((zJ T a v).g 0) 2 0 [x,v,z] b with _|rr;rw[show [x,y,z].set 1 v=[x,v,z] from rfl] at J;rw[M] at J;cases J;rw[show [x,y,z].set 1 v=[x,v,z] from rfl] at J;rw[M] at J;have H3:ud T m a 1 (v+1) rr.1 rr.2=Z g:=J;have HW:X (Calls prog 127 #[(π d),ι (((zJ T a v).g 0:Nat):Int),ι 2] (wr.x (ω d 2) (ι v)) λe j=>e=ε (.B #[])/\uN c.o.q j d tb rr.1 rr.2/\μ c j):=by
  have q:=HI.l m η _ _ _ _ _ rr M η (by have:=mS T m _ _ _ _ _ _ H3;omega) H am;rw[show((2:Nat):Int)=2 from rfl] at q;exact q
 have H4:=Tg H3;clear D J H3 M;have a1:=Tg (HD.l _ v H);generalize (zJ T a v).g 0=dn at *;generalize (zJ T a v).I=ds at *;clear HD HI HL;go_wp2_with (first|(go_at_call 130;refine a1.l.y ?_;rintro e j ⟨rfl,o⟩;obtain rfl:=o.z)|(go_at_call 127;refine HW.l.y ?_;rintro e w3 ⟨rfl,Q,ap⟩;have G:=Tg Q;obtain⟨x3,y3,z3,aF,_,_,aq,_,_⟩:=Q;obtain⟨a9,a8,a6⟩:=aq.e)|(go_at_call 167;refine(aj.l _ ap).y ?_;rintro e j ⟨rfl,o⟩;obtain rfl:=o.z))
 go_roundg m
 case measure=>omega
 exact⟨v+1,rr.1,rr.2,rfl,rfl,G,H4,η,ap⟩
def Py(c:U)(tb:Nat)(T:zl)(fp:Φ)(ht:yb lo c tb T fp)(i n:Nat)(ih:(∀m,m<n->∀(w:U) (a level:Nat) (row:zk) (g:List zk) (d:zk×List zk),ud T m a level 0 row g=Z d->level<3->d.2.j<=1048576->μ c w->uN c.o.q w i tb row g->Calls prog 127 #[(π i),ι a,ι level] w λe u=>e=ε (.B #[])/\uN c.o.q u i tb d.1 d.2/\μ c u))(w:U)(a:Nat)(row:zk)(g:List zk)(d:zk×List zk)(L:ud T n a 2 0 row g=Z d)(a0:d.2.j<=1048576)(P:μ c w)(E:uN c.o.q w i tb row g):
  Calls prog 127 #[(π i),ι a,ι 2] w λe u=>e=ε (.B #[])/\uN c.o.q u i tb d.1 d.2/\μ c u:=by
 have HI:=Tg ih;clear ih;have HL:X (∀W f,μ c W->Calls prog 167 #[(π tb),ι a,ι ((f:Nat):Int)] W λe u=>e=ε (.B #[ι (((yF T a f).g 0:Nat):Int),.i (yF T a f).I])/\u=W):=λW f hW=>tD W tb T fp a f (ht.u hW);have HD:X (∀W v,μ c W->Calls prog 130 #[(π tb),ι a,ι ((v:Nat):Int)] W λe u=>e=ε (.B #[ι (((zJ T a v).g 0:Nat):Int),.i (zJ T a v).I])/\u=W):=λW v hW=>pM W tb T fp a v (ht.u hW);have ax:T.ql<=3:=by obtain⟨nv,ns,h1,_⟩:=ht;exact h1.deep
 have a4:T.r<=1000:=by obtain⟨nv,ns,h1,_⟩:=ht;exact h1.wide
 have s:∃nv,Th c tb #[ι T.r,ι T.ql,nv,ι T.count] 229:=by obtain⟨nv,ns,h1,_⟩:=ht;exact⟨nv,h1.box⟩
 obtain⟨nv,s⟩:=s;clear ht;have ae:=Tg E;have J:=Tg L;obtain⟨x,y,z,rv,ai,F,l,au,aq⟩:=E;clear ai au aq L;obtain⟨H,G,Q⟩:=l.e;go_enter func127,ntmps127;go_wp2_with (go_at_call 167;refine(HL.l w 0 P).y ?_;rintro e u ⟨rfl,I⟩;obtain rfl:=I.z;clear I)
 clear H G Q l;go_loopg [6,7] n (λk v6 v7 wr=>∃(f:Nat) (B:zk) (b:List zk),v6=ι (((yF T a f).g 0:Nat):Int)/\v7=.i (yF T a f).I/\X (uN c.o.q wr i tb B b)/\X (ud T k a 2 f B b=Z d)/\k<=n/\μ c wr)
 case atStart=>exact⟨0,row,g,rfl,rfl,ae,J,zg _,P⟩
 clear ae J P F;obtain⟨f,B,b,rfl,rfl,V,HQ,a8,M⟩:=hrel;have an:=V.l;obtain⟨x,y,z,rv,S,F,l,C,aj⟩:=an;subst S;obtain⟨H,G,Q⟩:=l.e;rcases gk with _|m;have:=HQ.l;simp[ud] at this;have D:=HQ.l;unfold ud at D;rcases hl:yF T a f with _|v
 .rw[hl] at D;simp only[zt] at D;have HE:X (d=([x,y,z],b)):=D.z;clear D hl HQ;simp only[kG,kN];go_wp2;go_end0
  exact⟨rfl,by rw[HE.l];exact V.l,M⟩
 rw[hl] at D;simp only at D;have aA:v<=1000:=by have:=wP hl;omega
 clear hl HQ;simp only[uD,j8];have am:X (∀W,μ c W->Calls prog 167 #[(π tb),ι a,ι ((v:Int)+1)] W λe u=>e=ε (.B #[ι (((yF T a (v+1)).g 0:Nat):Int),.i (yF T a (v+1)).I])/\u=W):=λW hW=>by
  have q:=HL.l W (v+1) hW;rw[show((v+1:Nat):Int)=(v:Int)+1 from by omega] at q;exact q
 have o:=l.set 3 (ι v);simp at o;have ad:=s.u M;obtain⟨ay,ap,ar⟩:=ad.e;have a9:i≠tb:=(λe=>by have:=s.lt;omega);by_cases hd:T.ql<=3
 .rw[zb η] at D;have H2:X (ud T m a 2 (v+1) [x,y,v] (b++[[x,y,v]])=Z d):=D;have R:=mS T m _ _ _ _ _ _ D;simp at R;clear D HI HD HL;obtain⟨i0,hi,al,av,ak⟩:=info_parts S3;obtain⟨ao,aa,rfl⟩:=zr C;have j:(wr.x (ω i 3) (ι v)).r c.o.q 165 3 (.k ao b.j aa) b.j (jW b):=xL C ((Tu.refl i wr).x 3 _) l θ;have ag:μ c (wr.x (ω i 3) (ι v)):=M.x (p:=(ω i 3)) F _;have aw:=ag.q;go_wp2;clear H G l C ay ap ar ad V Q;generalize wr.x (ω i 3) (ι v)=wS at *;obtain⟨H,G,a2⟩:=o.e;go_region_law (first|(refine m8 wS _ [ι x,ι y,ι v] 165 rfl (.tmp 42) (.tmp 47) 161 rfl c.o.q 165 i0 _ 3 24 underlying161 hi al av ak rfl θ (.k ao b.j aa) b.j (jW b) (by simp[Act.eval]) j γ wS.o.q 1 (by simp[Act.eval]) (by exact Th.drew (Th.new _ _ _)) rfl a_ η η η ?_;intro v' w2 ah ac az a5 a1;obtain⟨t,h,rfl⟩:=zr ah;have A:=o.save ac (jx j o θ);obtain⟨a3,a7,a6⟩:=A.e))
  all_goals
   have N:Tw c.o.q (w2.x (ω i 4) (.k t (b.j+1) h)) (.k t (b.j+1) h) (b++[[x,y,v]]):=by
    refine⟨?_,λr hr=>?_⟩;have:=xL ah ((Tu.refl i w2).x 4 (.k t (b.j+1) h)) A θ;simpa [jW,TN] using this;rcases ya.1 hr with q|q;exact aj r q;simp at q;rw[q];rfl
   have K:=A.set 4 (.k t (b.j+1) h);simp at K;have ab:μ c (w2.x (ω i 4) (.k t (b.j+1) h)):=(ag.A (ac.u (λx hx=>yU j (xa hx)) aw)).x (p:=(ω i 4)) F _;have af:X (uN c.o.q (w2.x (ω i 4) (.k t (b.j+1) h)) i tb [x,y,v] (b++[[x,y,v]])):=⟨_,_,_,_,rfl,F,K,N⟩;go_wp2_with (go_at_call 167;refine(am.l _ (by exact ab)).y ?_;rintro e u ⟨rfl,I⟩;obtain rfl:=I.z)
   go_roundg m
   case measure=>omega
   exact⟨v+1,_,_,rfl,rfl,af,H2,η,ab⟩
 exact zB ax η
def UO(h:U)(tb:Nat)(T:zl)(fp:Φ)(l:yb lo h tb T fp)(j:Nat):∀(n:Nat) (w:U) (a level:Nat) (row:zk) (b:List zk) (c:zk×List zk),ud T n a level 0 row b=Z c->level<3->c.2.j<=1048576->μ h w->uN h.o.q w j tb row b →
  Calls prog 127 #[(π j),ι a,ι level] w λe m=>e=ε (.B #[])/\uN h.o.q m j tb c.1 c.2/\μ h m:=by
 intro n;induction n using Nat.strongRecOn with
 |_ n k=>
  intro w a level row b c g o f i d;obtain rfl|rfl|rfl:level=0∨level=1∨level=2:=η
  exact Pg h tb T fp l j n k w a row b c g f i d;exact R0 h tb T fp l j n k w a row b c g f i d;exact Py h tb T fp l j n k w a row b c g f i d
def Ee(w:U)(tb:Nat)(T:zl)(fp:Φ)(q:yb lo w tb T fp)(n:Nat)(rs:List zk)(a:my n T=Z rs)(b:rs.j<=1048576):
  Calls prog 78 #[(π tb)] w λe k=>∃v,e=.returned v/\Tw w.o.q k v rs/\μ w k:=by
 unfold my at a;rcases f:ud T n 0 0 0 [0,0,0] [] with _|i;rw[f] at a;cases a;rw[f] at a;simp only[jZ,zt] at a;subst a;have hrel:uN w.o.q (w.C (.E #[(π tb),ι 0,ι 0,ι 0,ν] 223)) w.o.q tb [0,0,0] []:=⟨0,0,0,_,rfl,zg _,Th.new _ _ _,xp _ _ _ _,ζ⟩;have l:=Tg (UO w tb T fp q w.o.q n _ 0 0 _ _ i f η b zP hrel);go_enter func78,ntmps78;go_wp2_with (go_at_call 127;refine l.l.y ?_;rintro e r ⟨rfl,d,j⟩;obtain⟨x,y,z,s,_,_,h,c⟩:=d;have g:=Tg c;clear c;obtain⟨p,o,m⟩:=h.e)
 go_ret;exact⟨_,rfl,g.l,j⟩
def kE(t:yi):O×O×Value:=(.i t.var,ι t.z,ι t.w)
structure yu (lo:Nat) (w:U) (v:O) (ts:List yi):Prop where
 own:w.r lo 284 3 v ts.j (T3 (ts.map kE))
 len:ts.j<=1000
 z:∀t∈ts,t.z<=1000000/\t.w<=1000000
def yu.u{w w':U}{v:O}{ts:List yi}(h:yu lo w v ts)(a:μ w w'):yu lo w' v ts:=⟨zy h.own a,h.len,h.z⟩
def yu.qy{w:U}{v:O}{ts:List yi}(h:yu lo w v ts):∃b a,v=.k b ts.j a:=zr h.own
def yu.cell{w:U}{f:Option Addr}{n cap:Nat}{ts:List yi}(h:yu lo w (.k f n cap) ts)(k:Nat)(j:k<ts.j):∃g,f=Z (δ g)/\g<w.o.q/\w.p (ω g (k*3))=Z (.i ts[k].var)/\w.p (ω g (k*3+1))=Z (ι (ts[k].z:Nat))/\w.p (ω g (k*3+2))=Z (ι (ts[k].w:Nat)):=by
 obtain⟨g,b,c,_,i,_⟩:=yr h.own η;simp only[O.slice.injEq] at c;obtain⟨rfl,_,_⟩:=c;obtain⟨_,a,e,d⟩:=e9 h.own k (by simpa using j);simp only[ub,kE] at a e d;exact⟨g,rfl,i,a,e,d⟩
def Ua{α:Type}(l:List α)(p:α->Bool)(k:Nat)(a:k<l.j):(l.G (k+1)).any p=((l.G k).any p||p l[k]):=by
 rw[yM a,List.any_append];simp
def G0{α:Type}(l:List α)(p:α->Bool)(k:Nat)(a:k<l.j)(h:p l[k]=true):l.any p=true:=fc.2 ⟨_,zq a,h⟩
def FU(w:U)(v:O)(f c:Nat)(ts:List yi)(h:yu lo w v ts):
  Calls prog 202 #[.agg #[ι f,v],ι c] w λe D=>e=ε (.i (zK ⟨f,ts⟩ c))/\μ w D:=by
 obtain⟨H,y,rfl⟩:=h.qy;have G:=h.len;go_enter func202,ntmps202;go_wp2;go_loopw [10] (λp wr=>∃k:Nat,k<=ts.j/\p=ι k/\X ((ts.G k).any (λt=>t.var&&t.z == c)=false)/\μ w wr) (λi _=>ts.j-(intOf i).D);exact⟨0,zs _,rfl,rfl,γ⟩;obtain⟨k,I,rfl,l,a⟩:=hrel;have b:=a.q;by_cases d:k<ts.j
 .obtain⟨g,rfl,m,B,C,x⟩:=h.cell k d;have r:=zi a m B;have E:=zi a m C;have z:=zi a m x;have o:=Tg (Ua ts (λt=>t.var&&t.z == c) k d);have A:=Tg (G0 ts (λt=>t.var&&t.z == c) k d);generalize ts[k]=t at *;cases u:t.var
  .rw[u] at r o;go_wp2;go_roundw;exact⟨k+1,η,ξ,(by rw[o.l,l.l];rfl),a.C b _⟩;simp[intOf];omega
  by_cases q:t.z=c
  .have n:X (zK ⟨f,ts⟩ c=true):=A.l (by simp[u,q]);subst q;go_wp2;go_ret;exact⟨by rw[n.l];rfl,a.C b _⟩
  have s:X ((t.var&&t.z == c)=false):=by simp[X,q]
  have j:X ((ts.G (k+1)).any (λt=>t.var&&t.z == c)=false):=by rw[X,o.l,l.l,s.l];rfl
  go_wp2;go_roundw;exact⟨k+1,η,ξ,j,a.C b _⟩;simp[intOf];omega
 have F:X (zK ⟨f,ts⟩ c=false):=by
  have:=l.l;rw[yV η] at this;exact this
 go_wp2;go_ret;exact⟨by rw[F.l];rfl,a⟩
def EH(p:Nat->Bool)(k:Nat):(List.range (k+1)).countP p=(List.range k).countP p+(if p k then 1 else 0):=by
 rw[oj,List.countP_append];simp[List.countP_cons]
def Dk(w:U)(v:O)(a b:Nat)(ts:List yi)(h:yu lo w v ts)(J:b<=1000000):
  Calls prog 187 #[.agg #[ι a,v],ι b] w λe E=>e=ε (jJ (xh ⟨a,ts⟩ b))/\μ w E:=by
 have u:=Tg λW p n=>FU W v a p ts (h.u n);cases g:zK ⟨a,ts⟩ b
 .have A:X (xh ⟨a,ts⟩ b=Y):=by simp[X,xh,g]
  have y:=Tg λW n=>by have q:=u.l W b n;rw[g] at q;exact q
  go_enter func187,ntmps187;go_wp2_with (go_at_call 202;refine(y.l _ γ).y ?_;rintro e m ⟨rfl,c⟩;have i:μ w m:=zQ γ c (zg _))
  go_ret2
  exact⟨by rw[A.l];rfl,i⟩
 have A:X (xh ⟨a,ts⟩ b=Z ((List.range b).countP (zK ⟨a,ts⟩))):=by simp[X,xh,g]
 have y:=Tg λW n=>by have q:=u.l W b n;rw[g] at q;exact q
 go_enter func187,ntmps187;go_wp2_with (go_at_call 202;refine(y.l _ γ).y ?_;rintro e m ⟨rfl,c⟩;have i:μ w m:=zQ γ c (zg _);have x:=(Th.new w #[ι a,v] 204).u c)
 go_loopw [6,7] (λD z wr=>∃k:Nat,k<=b/\z=ι k/\D=ι ((List.range k).countP (zK ⟨a,ts⟩):Nat)/\μ m wr) (λ_ z _=>b-(intOf z).D);exact⟨0,zs _,rfl,rfl,zn _ _⟩;obtain⟨k,I,rfl,rfl,d⟩:=hrel;have r:=Tk i d;have o:=x.u d;obtain⟨H,G⟩:=o.H;have B:(List.range k).countP (zK ⟨a,ts⟩)<=k:=by have:=tu (p:=zK ⟨a,ts⟩) (l:=List.range k);simpa using this
 by_cases C:k<b
 .have t:=EH (zK ⟨a,ts⟩) k;have s:=Tg (u.l wr k r);cases g:zK ⟨a,ts⟩ k
  .rw[g] at t s;have f:X ((List.range (k+1)).countP (zK ⟨a,ts⟩)=(List.range k).countP (zK ⟨a,ts⟩)):=by rw[X,t];simp
   go_wp2_with (go_at_call 202;refine s.l.y ?_;rintro e F ⟨rfl,j⟩)
   go_roundw;exact⟨k+1,η,ξ,by rw[f.l],Tk d j⟩;simp[intOf];omega
  rw[g] at t s;have f:X ((List.range (k+1)).countP (zK ⟨a,ts⟩)=(List.range k).countP (zK ⟨a,ts⟩)+1):=by rw[X,t];simp
  go_wp2_with (go_at_call 202;refine s.l.y ?_;rintro e F ⟨rfl,j⟩)
  go_roundw;exact⟨k+1,η,ξ,by rw[f.l];go_num,Tk d j⟩;simp[intOf];omega
 obtain rfl:k=b:=η;go_wp2;go_ret2
 exact⟨by rw[A.l];rfl,r⟩
def CH(w:U)(v:O)(a:Nat)(ts:List yi)(h:yu lo w v ts):
  Calls prog 212 #[.agg #[ι a,v]] w λe y=>e=ε (ι (xi ⟨a,ts⟩:Nat))/\μ w y:=by
 have r:=Tg λW p x=>FU W v a p ts (h.u x);have o:=Th.new w #[ι a,v] 204;have A:X (xi ⟨a,ts⟩=(List.range 5).countP (zK ⟨a,ts⟩)):=rfl;go_enter func212,ntmps212;go_wp2;go_loopw [3,4] (λu n wr=>∃k:Nat,k<=5/\n=ι k/\u=ι ((List.range k).countP (zK ⟨a,ts⟩):Nat)/\Below (w.o.q+1) (w.C (.E #[ι a,v] 204)) wr) (λ_ n _=>5-(intOf n).D);exact⟨0,zs _,rfl,rfl,zn _ _⟩;obtain⟨k,D,rfl,rfl,b⟩:=hrel;have g:Below (w.C (.E #[ι a,v] 204)).o.q (w.C (.E #[ι a,v] 204)) wr:=by simpa using b
 have i:μ w wr:=zQ γ g (zg _);have f:=o.u g;obtain⟨C,B⟩:=f.H;have s:(List.range k).countP (zK ⟨a,ts⟩)<=k:=by have:=tu (p:=zK ⟨a,ts⟩) (l:=List.range k);simpa using this
 by_cases t:k<5
 .have m:=EH (zK ⟨a,ts⟩) k;have j:=Tg (r.l wr k i);cases q:zK ⟨a,ts⟩ k
  .rw[q] at m j;have c:X ((List.range (k+1)).countP (zK ⟨a,ts⟩)=(List.range k).countP (zK ⟨a,ts⟩)):=by rw[X,m];simp
   go_wp2_with (go_at_call 202;refine j.l.y ?_;rintro e z ⟨rfl,d⟩)
   go_roundw;exact⟨k+1,η,ξ,by rw[c.l],zQ b d ζ⟩;simp[intOf];omega
  rw[q] at m j;have c:X ((List.range (k+1)).countP (zK ⟨a,ts⟩)=(List.range k).countP (zK ⟨a,ts⟩)+1):=by rw[X,m];simp
  go_wp2_with (go_at_call 202;refine j.l.y ?_;rintro e z ⟨rfl,d⟩)
  go_roundw;exact⟨k+1,η,ξ,by rw[c.l];go_num,zQ b d ζ⟩;simp[intOf];omega
 obtain rfl:k=5:=η;go_wp2;go_ret;exact⟨by rw[A.l];rfl,i⟩
def tE{α β:Type}(l:List α)(f:β->α->β)(b:β)(k:Nat)(a:k<l.j):(l.G (k+1)).H f b=f ((l.G k).H f b) l[k]:=by
 rw[yM a,qZ];rfl
def fS(k:Nat)(t:yi):Nat:=if t.var&&decide (t.z≥k) then t.z+1 else k
def Pv(l:zw):vj l=l.v.H fS 0:=rfl
def Dq(w:U)(v:O)(f:Nat)(ts:List yi)(h:yu lo w v ts):
  Calls prog 222 #[.agg #[ι f,v]] w λe B=>e=ε (ι (vj ⟨f,ts⟩:Nat))/\μ w B:=by
 obtain⟨F,r,rfl⟩:=h.qy;have E:=h.len;have D:X (vj ⟨f,ts⟩=ts.H fS 0):=Pv _;go_enter func222,ntmps222;go_wp2;go_loopw [3,9] (λx s wr=>∃k:Nat,k<=ts.j/\s=ι k/\x=ι ((ts.G k).H fS 0:Nat)/\μ w wr) (λ_ i _=>ts.j-(intOf i).D);exact⟨0,zs _,rfl,rfl,γ⟩;obtain⟨k,G,rfl,rfl,a⟩:=hrel;have b:=a.q;by_cases d:k<ts.j
 .obtain⟨g,rfl,j,u,y,p⟩:=h.cell k d;have z:=zi a j u;have C:=zi a j y;have q:=zi a j p;have A:=(h.z _ (zq d)).1;have l:=Tg (tE ts fS 0 k d);generalize ts[k]=t at *;generalize (ts.G k).H fS 0=m at *;cases n:t.var
  .have c:X ((ts.G (k+1)).H fS 0=m):=by rw[X,l.l];simp[fS,n]
   go_wp2;go_roundw;exact⟨k+1,η,ξ,by rw[c.l],a.C b _⟩;simp[intOf];omega
  by_cases o:t.z≥m
  .have c:X ((ts.G (k+1)).H fS 0=t.z+1):=by rw[X,l.l];simp[fS,n,o]
   go_wp2;go_roundw;exact⟨k+1,η,ξ,by rw[c.l];go_num,a.C b _⟩;simp[intOf];omega
  have c:X ((ts.G (k+1)).H fS 0=m):=by rw[X,l.l];simp[fS,o]
  go_wp2;go_roundw;exact⟨k+1,η,ξ,by rw[c.l],a.C b _⟩;simp[intOf];omega
 rw[yV η];go_wp2;go_ret;exact⟨by rw[D.l];rfl,a⟩
def gN(je k:Int)(t:yi):Int:=if t.var&&decide ((t.z:Int)<je)&&decide ((t.z:Int)>k) then(t.z:Int) else k
def Nv(l:zw)(je:Int):ku l je=l.v.H (gN je) (-1):=rfl
def DT(w:U)(v:O)(m:Nat)(d:Int)(ts:List yi)(h:yu lo w v ts):
  Calls prog 225 #[.agg #[ι m,v],ι d] w λe C=>e=ε (ι (ku ⟨m,ts⟩ d))/\μ w C:=by
 obtain⟨G,y,rfl⟩:=h.qy;have F:=h.len;have E:X (ku ⟨m,ts⟩ d=ts.H (gN d) (-1)):=Nv _ _;go_enter func225,ntmps225;go_wp2;go_loopw [5,11] (λu o wr=>∃k:Nat,k<=ts.j/\o=ι k/\u=ι ((ts.G k).H (gN d) (-1))/\μ w wr) (λ_ i _=>ts.j-(intOf i).D);exact⟨0,zs _,rfl,rfl,γ⟩;obtain⟨k,H,rfl,rfl,a⟩:=hrel;have c:=a.q;by_cases f:k<ts.j
 .obtain⟨g,rfl,n,z,A,s⟩:=h.cell k f;have B:=zi a n z;have D:=zi a n A;have x:=zi a n s;have j:=Tg (tE ts (gN d) (-1) k f);generalize ts[k]=t at *;generalize (ts.G k).H (gN d) (-1)=l at *;cases p:t.var
  .have b:X ((ts.G (k+1)).H (gN d) (-1)=l):=by rw[X,j.l];simp[gN,p]
   go_wp2;go_roundw;exact⟨k+1,η,ξ,by rw[b.l],a.C c _⟩;simp[intOf];omega
  by_cases q:(t.z:Int)<d
  .by_cases r:(t.z:Int)>l
   .have b:X ((ts.G (k+1)).H (gN d) (-1)=(t.z:Int)):=by rw[X,j.l];simp[gN,p,q,r]
    go_wp2;go_roundw;exact⟨k+1,η,ξ,by rw[b.l],a.C c _⟩;simp[intOf];omega
   have b:X ((ts.G (k+1)).H (gN d) (-1)=l):=by rw[X,j.l];simp[gN,r]
   go_wp2;go_roundw;exact⟨k+1,η,ξ,by rw[b.l],a.C c _⟩;simp[intOf];omega
  have b:X ((ts.G (k+1)).H (gN d) (-1)=l):=by rw[X,j.l];simp[gN,q]
  go_wp2;go_roundw;exact⟨k+1,η,ξ,by rw[b.l],a.C c _⟩;simp[intOf];omega
 rw[yV η];go_wp2;go_ret;exact⟨by rw[E.l];rfl,a⟩
def Hh(w:U)(v:O)(a:Nat)(d:Int)(ts:List yi)(h:yu lo w v ts):
  Calls prog 226 #[.agg #[ι a,v],ι d] w λe o=>e=ε (ι (qV ⟨a,ts⟩ d))/\μ w o:=by
 have l:=Tg λW j=>Dq W v a ts (h.u j);have n:=Tg λW j=>DT W v a d ts (h.u j);have f:X (qV ⟨a,ts⟩ d=if (vj ⟨a,ts⟩:Int)<=d then -1 else ku ⟨a,ts⟩ d):=rfl;generalize vj ⟨a,ts⟩=p at *;by_cases m:(p:Int)<=d
 .rw[zb m] at f;go_enter func226,ntmps226;go_wp2_with (go_at_call 222;refine(l.l _ γ).y ?_;rintro e i ⟨rfl,c⟩;have b:μ w i:=zQ γ c (zg _))
  go_ret;exact⟨by rw[f.l];rfl,b⟩
 rw[za m] at f;go_enter func226,ntmps226;go_wp2_with (first|(go_at_call 222;refine(l.l _ γ).y ?_;rintro e i ⟨rfl,c⟩;have b:μ w i:=zQ γ c (zg _);have g:=(Th.new w #[ι a,v] 204).u c;obtain⟨s,q,r⟩:=g.e)|(go_at_call 225;refine(n.l _ b).y ?_;rintro e t ⟨rfl,k⟩))
 go_ret;exact⟨by rw[f.l];rfl,Tk b k⟩
end
end Go.Proofs.YteampbddflhngaaGreat
