import Derived.Deep.RegionWith
import Derived.Laws.CopyOwn
import Derived.Maps.AppendAt
import Derived.Deep.CutRange
import Derived.Test.YteampbddflhngaaGreatR01
namespace Go.Proofs.YteampbddflhngaaGreat
open List renaming length→List.j,getD→List.g,take→List.G,toArray→List.F,foldl→List.H
open _root_.Array renaming size→Array.q,getD→Array.g,foldl→Array.H
open _root_.ByteArray renaming size→ByteArray.q
open Go.RowKit.Below renaming size→Go.RowKit.Below.q,setCell→Go.RowKit.Below.x,mono→Go.RowKit.Below.y,trans→Go.RowKit.Below.A,alloc→Go.RowKit.Below.C
open Go.TypeInfo renaming size→Go.TypeInfo.q
open Go.World.grownBy renaming size→Go.World.grownBy.q
open Go.RowKit.Hid renaming out→Go.RowKit.Hid.l
open Go.Shut renaming out→Go.Shut.l
open Go.World renaming heap→Go.World.o,setCell→Go.World.x,cell?→Go.World.p,alloc→Go.World.C,ownsRow→Go.World.r
open Go.Value renaming slice→Go.Value.k,bool→Go.Value.i,cells→Go.Value.E,ownBlock→Go.Value.m,tuple→Go.Value.B
open Go.TypeDesc renaming slice→Go.TypeDesc.k,bool→Go.TypeDesc.i,tuple→Go.TypeDesc.B
open Option renaming getD→Option.g,isSome→Option.I,some→Z,none→Y
open Go.Calls renaming mono→Go.Calls.y
open Eq renaming trans→Eq.A,symm→Eq.z
open Iff renaming trans→Iff.A,symm→Iff.z
open Go.World.ownsRow renaming alloc→Go.World.ownsRow.C
open Go.Obj renaming cells→Go.Obj.E
open Int renaming toNat→Int.D
open UInt8 renaming toNat→UInt8.D
open Ne renaming symm→Ne.z
open Go.RowKit renaming Hid→X
open Go renaming World→U,Value→O
set_option linter.all false
set_option maxRecDepth 100000
set_option maxHeartbeats 8000000
open Go.RowKit
section
variable {lo:Nat}{w:U}{base g cap:Nat}{ys:List (O×O×O)}{ls:List zj}{gs:List Nat}
def rC(t:O×O×O):List Value:=[t.1,t.2.1,t.2.2]
def T4(ys:List (O×O×O)):List Value:=ys.flatMap rC
def sS(ys:List (O×O×O)):(T4 ys).j=ys.j*3:=by
 induction ys with
 |nil=>rfl
 |cons a l b=>simp[T4,rC] at b ⊢;omega
def Bj:∀(ys:List (O×O×O)) (k:Nat) (_:k<ys.j) (a b c:O),(((T4 ys).set (k*3) a).set (k*3+1) b).set (k*3+2) c=T4 (ys.set k (a,b,c))
 |[],k,d,_,_,_=>by simp at d
 |y::r,0,_,a,b,c=>by simp[T4,rC]
 |y::r,k+1,d,a,b,c=>by
  have:=Bj r k (by simpa using d) a b c;simp only[T4,uX,pC,rC] at this ⊢;rw[show(k+1)*3=k*3+1+1+1 from by omega,show k*3+1+1+1+1=k*3+1+1+1+1 from rfl,show k*3+1+1+1+2=k*3+2+1+1+1 from by omega];simpa using this
def eU:∀(ys:List (O×O×O)) (k:Nat) (a:k<ys.j),(T4 ys)[k*3]?=Z ys[k].1/\(T4 ys)[k*3+1]?=Z ys[k].2.1/\(T4 ys)[k*3+2]?=Z ys[k].2.2
 |[],k,a=>by simp at a
 |y::r,0,_=>by simp[T4,rC]
 |y::r,k+1,a=>by
  have:=eU r k (by simpa using a);simp only[T4,uX,rC] at this ⊢;rw[show(k+1)*3=k*3+1+1+1 from by omega,show k*3+1+1+1+1=k*3+1+1+1+1 from rfl,show k*3+1+1+1+2=k*3+2+1+1+1 from by omega];simpa using this
def MT(c b a:O):∀(n i:Nat),i<n*3->(madeCells #[c,b,a] (n*3))[i]?=(T4 (List.replicate n (c,b,a)))[i]?:=by
 intro n i l;obtain⟨k,j,p,rfl⟩:∃k j,j<3/\i=k*3+j:=⟨i / 3,i%3,Nat.mod_lt _ θ,η⟩;have m:k<n:=η;obtain⟨e,d,f⟩:=eU (List.replicate n (c,b,a)) k (by simpa using m);simp only[eP] at e d f;have h:(k*3+j)%3=j:=η;simp only[madeCells,Array.getElem?_map,Array.getElem?_range];rw[zb l];simp only[jL];have o:(#[c,b,a]:Array O).q=3:=rfl;rw[o,h];match j,p with
 |0,_=>rw[vu,e];rfl
 |1,_=>rw[d];rfl
 |2,_=>rw[f];rfl
def Qr(w:U)(n:Nat)(T:TypeId)(d c a:O)(e:n<=maxLen):(w.C (.E (madeCells #[d,c,a] (n*3)) T)).r w.o.q T 3 (.k (Z (δ w.o.q)) n n) n (T4 (List.replicate n (d,c,a))):=by
 refine⟨by rw[sS];simp,ze ⟨w.o.q,n,madeCells #[d,c,a] (n*3),rfl,zf _,?_,zf _,e,by rw[size_madeCells],?_⟩⟩;show(w.o.push _)[w.o.q]?=_;simp;apply nI;intro i;by_cases b:i<n*3;rw[nf,zb b,Array.getElem?_toList,MT _ _ _ n i b];rw[nf,za b,gi (by rw[sS];simp;omega)]
def Kr{e:TypeId}{n m:Nat}(h:w.r base e 3 (.k (Z (δ g)) n cap) m (T4 ys))(k:Nat)(i:k<ys.j)(a b c:O):
  (((w.x (ω g (k*3)) a).x (ω g (k*3+1)) b).x (ω g (k*3+2)) c).r base e 3 (.k (Z (δ g)) n cap) m (T4 (ys.set k (a,b,c))):=by
 have l:=sS ys;have f:=uD h (k*3) η a;have j:=uD f (k*3+1) υ b;have d:=uD j (k*3+2) υ c;rw[Bj ys k i] at d;exact d
def iv{e:TypeId}{n m:Nat}(h:w.r base e 3 (.k (Z (δ g)) n cap) m (T4 ys))(k:Nat)(j:k<ys.j):
  g<w.o.q/\w.p (ω g (k*3))=Z ys[k].1/\w.p (ω g (k*3+1))=Z ys[k].2.1/\w.p (ω g (k*3+2))=Z ys[k].2.2:=by
 have d:0<m:=by have:=h.1;rw[sS] at this;omega
 obtain⟨p,c,b,_,o,a⟩:=yq h d;simp at b;obtain⟨rfl,_⟩:=b;obtain⟨i,f,l⟩:=eU ys k j;exact⟨o,a _ _ i,a _ _ f,a _ _ l⟩
def Gc{e:TypeId}{b n m:Nat}{xs:Γ}(h:w.r base e b (.k (Z (δ g)) n cap) m xs):∃a,w.o[g]?=Z (.E a e (0,0)):=by
 obtain⟨_,⟨c,_⟩|⟨i,d,a,c,_,f,_⟩⟩:=h;cases c;simp at c;obtain⟨rfl,_⟩:=c;exact⟨a,f⟩
def Gm(l:zj)(g:Nat):O×O×Value:=(.i l.i,.string l.o,.k (Z ⟨g,0,Y⟩) l.k.j l.k.j)
def T9(lo:Nat)(w:U)(ls:List zj)(gs:List Nat):Prop:=gs.j=ls.j/\gs.Pairwise (·<·)/\∀k (a:k<ls.j) (b:k<gs.j),lo<=gs[k]/\To lo w (.k (Z ⟨gs[k],0,Y⟩) ls[k].k.j ls[k].k.j) ls[k].k
def T9.nil(w:U):T9 lo w [] []:=⟨rfl,List.Pairwise.nil,λk a=>by simp at a⟩
def T9.y{w':U}(h:T9 lo w ls gs)(c:∀v l,To lo w v l->To lo w' v l):T9 lo w' ls gs:=⟨h.1,h.2.1,λk a b=>⟨(h.2.2 k a b).1,c _ _ (h.2.2 k a b).2⟩⟩
def T9.lt(h:T9 lo w ls gs):∀g∈gs,g<w.o.q:=by
 intro g c;obtain⟨k,a,rfl⟩:=vh c;obtain⟨b,d⟩:=Gc (h.2.2 k (by have:=h.1;omega) a).2;exact(ks.1 d).1
def T9.snoc{l:zj}(h:T9 lo w ls gs)(e:∀x∈gs,x<g)(q:lo<=g)(hs:To lo w (.k (Z (δ g)) l.k.j l.k.j) l.k):T9 lo w (ls++[l]) (gs++[g]):=by
 obtain⟨c,o,n⟩:=h;refine⟨by simp[c],?_,?_⟩;rw[mH];exact⟨o,List.pairwise_singleton _ _,λa p b i=>by simp at i;subst i;exact e a p⟩;intro k d m;simp at d;by_cases f:k<ls.j;have:=n k f η;simpa [List.getElem_append,f,c] using this;obtain rfl:k=ls.j:=η;have j:(ls++[l])[ls.j]=l:=ζ;have r:(gs++[g])[ls.j]=g:=by simp[←c]
 rw[j,r];exact⟨q,hs⟩
end
section
open Go.Proofs.Tryz
variable {lo:Nat}{M:List Nat}{w w':U}{b base n:Nat}{c:Array O}{v:O}{xs xs1:List O}
structure zd (M:List Nat) (w w':U):Prop where
 os:w'.os=w.os
 tape:w'.tape=w.tape
 output:w'.output=w.output
 q:w.o.q<=w'.o.q
 block:∀k,k<w.o.q->k∉M->w'.o[k]?=w.o[k]?
def zd.refl(M:Φ)(w:U):zd M w w:=⟨rfl,rfl,rfl,zf _,λ_ _ _=>rfl⟩
def zd.of(h:μ w w'):zd M w w':=⟨h.os,h.tape,h.output,h.q,λk a _=>h.block k a⟩
def zd.A{M:Φ}{a b c:U}(h:zd M a b)(k:zd M b c):zd M a c:=
 ⟨k.os.A h.os,k.tape.A h.tape,k.output.A h.output,zY h.q k.q,λx d e=>(k.block x (ym d h.q) e).A (h.block x d e)⟩
def zd.more{N:Φ}(h:zd M w w')(hs:∀x∈M,x∈N):zd N w w':=⟨h.os,h.tape,h.output,h.q,λk a d=>h.block k a λe=>d (hs k e)⟩
def zd.newer{N:Φ}{a b c:U}(h:zd M a b)(k:zd N b c)(g:∀x∈N,x∈M∨a.o.q<=x):zd M a c:=
 ⟨k.os.A h.os,k.tape.A h.tape,k.output.A h.output,zY h.q k.q,λx f e=>(k.block x (ym f h.q) λd=>(g x d).elim e λi=>η).A (h.block x f e)⟩
def zd.u{B:Nat}(h:zd M w w')(d:∀x∈M,B<=x)(f:B<=w.o.q):Below B w w':=
 ⟨h.os,h.tape,h.output,h.q,λk e=>h.block k η λa=>by have:=d k a;omega⟩
def yT{e:TypeId}{a:Nat}(h:w.r base e a v n xs)(hs:zd M w w')(o:∀b,v.m=Z b->b∉M):w'.r base e a v n xs:=by
 obtain⟨l,f⟩:=h;refine⟨l,?_⟩;rcases f with f|⟨g,d,i,j,p,k,m⟩;exact zh f;refine ze ⟨g,d,i,j,p,?_,m⟩;rw[hs.block g (ks.1 k).1 (o g (by rw[j];rfl))];exact k
def Ti.save{T:TypeId}(h:Ti w b c T)(hs:zd M w w')(a:b∉M):Ti w' b c T:=by
 have:=h.lt;unfold Ti at *;rw[hs.block b this a];exact h
section
variable {P:Program} {ops:Array Oper} {rest:List Oper} {o:Oper} {a:Act} {Q:Exit->Act->U->Prop}
def kd(A y:U)(l:Γ)(K:TypeId)(hg:o.guard=Y)(s x:Operand)(t:TypeId)
  (T:o.op=.call {callee:=.builtin .append,args:=#[s,x],argTypes:=#[t,t]})
  (base:Nat) (e:TypeId) (i:TypeInfo) (z:O) (d f:Nat) (N:P.underlying t=Z (.k e)) (hi:P.info? e=Z i) (V:i.zero=Z z)
  (q:i.q=d) (F:i.bytes=f) (E:z.E.q=d) (I:0<d)
  (v:O) (n:Nat) (xs:Γ) (S:a.eval s=v) (C:A.r base e d v n xs) (m:μ A y)
  (b c:Nat) (hx:a.eval x=.k (Z (δ b)) 1 c) (W:b=y.o.q) (hl:l.j=d) (h1:∀u∈l,u.oneCell'=true)
  (hn:n<=4000000000000) (D:(n+1)*f<=100000000000000) (H:base<=A.o.q)
  (h:∀B w',w'.r base e d B (n+1) (xs++l)->zd v.m.toList A w'->(B.m=v.m∨∃g,B.m=Z g/\A.o.q<=g)->wpList P ops Q rest (a.put o.dst B) w'):
  wpList P ops Q (o::rest) a (y.C (.E l.F K)):=by
 have r:=zy C m;have L:=m.q;subst W;refine wpList_append_own_at _ hg s x t T base e i z d f N hi V q F E I v n xs S (r.C _) (δ y.o.q) 1 c l hx η ?_ h1 ?_ ?_ ?_ ?_
 .intro j u hj;rw[Addr.add_lit,vJ,U.cell?_alloc_mark];simpa using hj
 .unfold maxLen;omega
 .omega
 .simp;omega
 .intro B w' h2 p _ G;refine h B w' h2 ⟨p.os.A m.os,p.tape.A m.tape,p.output.A m.output,?_,λk R hm=>?_⟩ ?_
  .have:=p.q;simp at this;omega
  .rw[p.block k υ (λe=>hm (by rw[←e];simp))];rw[show(y.C (.E l.F K)).o[k]?=y.o[k]? from Below.heap_alloc _ _ _ η];exact m.block k R
  .rcases G with J|J
   .exact zh J
   .exact ze ⟨_,J,by simp;omega⟩
end
def yF{e:TypeId}{d:Nat}(h:w.r base e d v n xs)(i:v.m=Z b):b<w.o.q:=by
 obtain⟨_,⟨f,_⟩|⟨g,j,l,f,_,k,_⟩⟩:=h;subst f;cases i;subst f;simp only[O.ownBlock,zt] at i;subst i;exact(ks.1 k).1
def zd.set(w:U)(b o:Nat)(u:O):zd [b] w (w.x (ω b o) u):=
 ⟨rfl,rfl,rfl,by simp[U.setCell],λk _ d=>Below.heap_setCell _ _ _ _ (by simp at d;exact d)⟩
def xb(h:b∈v.m.toList):v.m=Z b:=by simpa using h
def jt{e T:TypeId}{d:Nat}(h:w.r base e d v n xs)(f:Ti w b c T)(i:e≠T):b∉v.m.toList:=by
 intro g;have:=mq h f i;exact this (by simpa [eq_comm] using g)
def sl(g n:Nat):Value:=.k (Z ⟨g,0,Y⟩) n n
def n9{u A:Nat}{p r:TypeId}{s x:Nat}{q l:O}{t E:Nat}{j:Γ}(C:w.r u p s q t xs1)(F:w.r A r x l E j)(B:p≠r)(i:q.m=Z b):l.m≠Z b:=by
 intro f;obtain⟨_,⟨h,_⟩|⟨g,z,D,h,_,y,_⟩⟩:=C;subst h;cases i;obtain⟨_,⟨d,_⟩|⟨G,k,m,d,_,e,_⟩⟩:=F;subst d;cases f;subst h;subst d;simp only[O.ownBlock,zt] at i f;subst i;subst f;rw[y] at e;simp at e;exact B e.2
def vN{h:Nat}{e T:TypeId}{j:Nat}{f:O}{m:Nat}(g:w.r h e j f m xs1){d:Nat}(k:Ti w d c T)(i:e≠T)(l:f.m=Z b):b≠d:=by
 rintro rfl;exact mq g k i l.z
def yW{e:TypeId}{d:Nat}(h:w.r base e d v n xs)(i:v.m=Z b):base<=b:=by
 obtain⟨_,⟨f,_⟩|⟨g,j,k,f,l,_,_⟩⟩:=h;subst f;cases i;subst f;simp only[O.ownBlock,zt] at i;omega
def Ku{α:Type}{f:α->Nat}{l:List α}(h:(l.map f).Nodup){i j:Nat}(k:i<l.j)(g:j<l.j)(d:i≠j):f l[i]≠f l[j]:=by
 intro e;have:=(List.getElem_inj (h₀:=by simpa using k) (h₁:=by simpa using g) h).1 (by simpa using e);exact d this
def Sy:(prog.info? 3).map (λi=>(i.zero,i.q,i.bytes))=Z (Z (ι 0),1,8):=χ
def TO(s:Nat):Value:=ι (s:Int)
def Dr(w:U)(n:Nat)(T:TypeId)(e:n<=maxLen):(w.C (.E (madeCells #[ι 0] n) T)).r w.o.q T 1 (.k (Z (δ w.o.q)) n n) n ((List.replicate n 0).map TO):=by
 refine⟨ζ,ze ⟨w.o.q,n,madeCells #[ι 0] n,rfl,zf _,?_,zf _,e,by rw[size_madeCells];omega,?_⟩⟩;show(w.o.push _)[w.o.q]?=_;simp;apply nI;intro i;by_cases d:i<n;simp[d,madeCells,TO,Nat.mod_one];simp[List.getElem?_take,d]
end
section
open Go.Proofs.Tryz
variable {lo:Nat}{w:U}{tb:Nat}{T:zl}{nv:O}{ns:List (Nat×Nat)}
def mw(wd:Nat)(ns:List (Nat×Nat)):List Value:=ns.flatMap λx=>[sl x.1 wd,sl x.2 wd]
def BY(wd:Nat):∀(ns:List (Nat×Nat)) (k:Nat) (a:k<ns.j),(mw wd ns)[k*2]?=Z (sl ns[k].1 wd)/\(mw wd ns)[k*2+1]?=Z (sl ns[k].2 wd)
 |[],k,a=>by simp at a
 |p::r,0,_=>by simp[mw]
 |p::r,k+1,a=>by
  have:=BY wd r k (by simpa using a);simp only[mw,uX] at this ⊢;rw[show(k+1)*2=k*2+1+1 from by omega,show k*2+1+1+1=k*2+1+1+1 from rfl];simpa using this
def TD(ns:List (Nat×Nat)):List Nat:=ns.flatMap λx=>[x.1,x.2]
structure vD (lo:Nat) (w:U) (tb:Nat) (T:zl) (nv:O) (ns:List (Nat×Nat)):Prop where
 low:lo<=tb
 box:Ti w tb #[ι T.r,ι T.ql,nv,ι T.count] 229
 B:w.r lo 273 2 nv T.B.j (mw T.r ns)
 len:ns.j=T.B.j
 D:∀i (h:i<T.B.j) (h2:i<ns.j),w.r lo 3 1 (sl ns[i].1 T.r) T.r (T.B[i].D.map TO)
 down:∀i (h:i<T.B.j) (h2:i<ns.j),w.r lo 3 1 (sl ns[i].2 T.r) T.r (T.B[i].down.map TO)
 apart:(TD ns).Nodup
 wide:T.r<=1000
 many:T.B.j<=100000000
 deep:T.ql<=3
 K:T.count<=1000000000
def Un(tb:Nat)(nv:O)(ns:List (Nat×Nat)):List Nat:=tb::(nv.m.toList++TD ns)
def yb(lo:Nat)(w:U)(tb:Nat)(T:zl)(fp:List Nat):Prop:=∃nv ns,vD lo w tb T nv ns/\fp=Un tb nv ns
def vD.leapLen(h:vD lo w tb T nv ns)(i:Nat)(a:i<T.B.j):T.B[i].D.j=T.r:=by
 have:=(h.D i a (by rw[h.len];exact a)).1;simpa using this
def vD.downLen(h:vD lo w tb T nv ns)(i:Nat)(a:i<T.B.j):T.B[i].down.j=T.r:=by
 have:=(h.down i a (by rw[h.len];exact a)).1;simpa using this
def Ag{b:Nat}(h:b∈TD ns):∃i,∃h:i<ns.j,b=ns[i].1∨b=ns[i].2:=by
 simp only[TD,vg,zG,nQ,or_false] at h;obtain⟨x,a,c⟩:=h;obtain⟨i,d,rfl⟩:=vh a;exact⟨i,d,c⟩
def eX{i:Nat}(h:i<ns.j):ns[i].1∈TD ns/\ns[i].2∈TD ns:=by
 simp only[TD,vg,zG,nQ,or_false];exact⟨⟨_,zq h,zh rfl⟩,⟨_,zq h,ze rfl⟩⟩
def vD.lt{w:U}{tb:Nat}{T:zl}{nv:O}{ns:List (Nat×Nat)}(h:vD lo w tb T nv ns):∀b∈Un tb nv ns,lo<=b/\b<w.o.q:=by
 intro b c;simp only[Un,zG,ya] at c;rcases c with rfl|c|c;exact⟨h.low,h.box.lt⟩;exact⟨yW h.B (xb c),yF h.B (xb c)⟩;obtain⟨i,a,rfl|rfl⟩:=Ag c;exact⟨yW (h.D i (by rw[←h.len];exact a) a) rfl,yF (h.D i (by rw[←h.len];exact a) a) rfl⟩;exact⟨yW (h.down i (by rw[←h.len];exact a) a) rfl,yF (h.down i (by rw[←h.len];exact a) a) rfl⟩
def yb.lt{w:U}{tb:Nat}{T:zl}{fp:Φ}(h:yb lo w tb T fp):∀b∈fp,lo<=b/\b<w.o.q:=by
 obtain⟨nv,ns,a,rfl⟩:=h;exact a.lt
def yb.save{w w':U}{tb:Nat}{T:zl}{fp N:Φ}(h:yb lo w tb T fp)(hs:zd N w w')(g:∀b∈fp,b∉N):yb lo w' tb T fp:=by
 obtain⟨nv,ns,a,rfl⟩:=h;have e:=g;refine⟨nv,ns,⟨a.low,a.box.save hs (e tb (by simp[Un])),yT a.B hs λb d=>e b ?_,a.len,λi f c=>yT (a.D i f c) hs λb d=>e b ?_,λi f c=>yT (a.down i f c) hs λb d=>e b ?_,a.apart,a.wide,a.many,a.deep,a.K⟩,rfl⟩;simp[Un,d];simp only[sl,O.ownBlock,zt] at d;subst d;simp only[Un,zG,ya];exact ze (ze (eX c).1);simp only[sl,O.ownBlock,zt] at d;subst d;simp only[Un,zG,ya];exact ze (ze (eX c).2)
def yb.u{w':U}{fp:Φ}(h:yb lo w tb T fp)(a:μ w w'):yb lo w' tb T fp:=h.save (zd.of (M:=[]) a) ζ
def j8(o:Option Nat):Value:=.B #[ι ((o.g 0:Nat):Int),.i o.I]
def vD.leapAt(h:vD lo w tb T nv ns)(a f:Nat)(o:a<T.B.j)(r:f<T.r):
  ∃c m d,nv=.k (Z (δ c)) T.B.j m/\c<w.o.q/\d<w.o.q/\(∃s:a<ns.j,d=ns[a].1)/\w.p (ω c (a*2))=Z (.k (Z (δ d)) T.r T.r)/\w.p (ω d f)=Z (ι ((T.B[a].D.g f 0:Nat):Int)):=by
 have b:a<ns.j:=by rw[h.len];exact o
 obtain⟨c,e,q,_,j,n⟩:=yq h.B η;obtain⟨d,i,k,_,l,g⟩:=yq (h.D a o b) η;obtain⟨⟨rfl,_⟩,_,_⟩:=k;have p:=h.leapLen a o;refine⟨c,e,_,q,j,l,⟨b,rfl⟩,n _ _ (BY T.r ns a b).1,g f _ ?_⟩;rw[mG,yn η,kS,yn η];rfl
def vD.downAt(h:vD lo w tb T nv ns)(a f:Nat)(o:a<T.B.j)(r:f<T.r):
  ∃c m d,nv=.k (Z (δ c)) T.B.j m/\c<w.o.q/\d<w.o.q/\(∃s:a<ns.j,d=ns[a].2)/\w.p (ω c (a*2+1))=Z (.k (Z (δ d)) T.r T.r)/\w.p (ω d f)=Z (ι ((T.B[a].down.g f 0:Nat):Int)):=by
 have b:a<ns.j:=by rw[h.len];exact o
 obtain⟨c,e,q,_,j,n⟩:=yq h.B η;obtain⟨d,i,k,_,l,g⟩:=yq (h.down a o b) η;obtain⟨⟨rfl,_⟩,_,_⟩:=k;have p:=h.downLen a o;refine⟨c,e,_,q,j,l,⟨b,rfl⟩,n _ _ (BY T.r ns a b).2,g f _ ?_⟩;rw[mG,yn η,kS,yn η];rfl
def wm(w:U)(tb:Nat)(T:zl)(fp:Φ)(a f:Nat)(h:yb lo w tb T fp):
  Calls prog 167 #[(π tb),ι a,ι f] w λe r=>e=ε (j8 (yG T a f))/\r=w:=by
 obtain⟨nv,ns,g,rfl⟩:=h;obtain⟨t,l⟩:=g.box.H;by_cases i:a<T.B.j
 .by_cases k:f<T.r
  .obtain⟨u,c,s,rfl,o,p,_,m,n⟩:=g.leapAt a f i k;have d:yG T a f=if T.B[a].D.g f 0≥T.r then Y else Z (T.B[a].D.g f 0):=by
    unfold yG;rw[zb ⟨i,k⟩];simp[List.getD_eq_getElem?_getD,i]
   generalize T.B[a].D.g f 0=v at *;by_cases j:v≥T.r
   .rw[zb j] at d;have b:=Th d;go_enter func167,ntmps167;go_wp2;go_ret2
    exact⟨by rw[b.l];rfl,rfl⟩
   rw[za j] at d;have b:=Th d;go_enter func167,ntmps167;go_wp2;go_ret2
   exact⟨by rw[b.l];rfl,rfl⟩
  have b:X (yG T a f=Y):=by unfold yG;rw[X,za η]
  obtain⟨q,c,rfl⟩:=zr g.B;go_enter func167,ntmps167;go_wp2;go_ret2
  exact⟨by rw[b.l];rfl,rfl⟩
 have b:X (yG T a f=Y):=by unfold yG;rw[X,za η]
 obtain⟨q,c,rfl⟩:=zr g.B;go_enter func167,ntmps167;go_wp2;go_ret2
 exact⟨by rw[b.l];rfl,rfl⟩
def pR(w:U)(tb:Nat)(T:zl)(fp:Φ)(a f:Nat)(h:yb lo w tb T fp):
  Calls prog 130 #[(π tb),ι a,ι f] w λe j=>e=ε (j8 (zJ T a f))/\j=w:=by
 have g:=Th (wm w tb T fp a f h);obtain⟨nv,ns,l,rfl⟩:=h;obtain⟨v,n⟩:=l.box.H;rcases c:yG T a f with _|u
 .have i:X (zJ T a f=Y):=by unfold zJ;rw[X,c]
  rw[c] at g;simp only[j8,kF,kK] at g;go_enter func130,ntmps130;go_wp2_with (go_at_call 167;refine g.l.y ?_;rintro e j ⟨rfl,b⟩;obtain rfl:=b.z)
  go_ret2
  exact⟨by rw[i.l];rfl,rfl⟩
 have d:a<T.B.j/\f<T.r:=by
  unfold yG at c;split at c;assumption
  cases c
 obtain⟨x,r,t,rfl,q,s,_,o,p⟩:=l.downAt a f d.1 d.2;have k:zJ T a f=if u=f then Z (T.B[a].down.g f 0) else none:=by
  unfold zJ;rw[c];simp[List.getD_eq_getElem?_getD,d.1]
 rw[c] at g;simp only[j8,uE,j6] at g;by_cases m:u=f
 .subst m;have i:=Th k;go_enter func130,ntmps130;go_wp2_with (go_at_call 167;refine g.l.y ?_;rintro e j ⟨rfl,b⟩;obtain rfl:=b.z)
  go_ret2
  exact⟨by rw[i.l];rfl,rfl⟩
 rw[za m] at k;have i:=Th k;go_enter func130,ntmps130;go_wp2_with (go_at_call 167;refine g.l.y ?_;rintro e j ⟨rfl,b⟩;obtain rfl:=b.z)
 go_ret2
 exact⟨by rw[i.l];rfl,rfl⟩
def Df(w:U)(tb:Nat)(T:zl)(fp:Φ)(h:yb lo w tb T fp):
  Calls prog 209 #[(π tb)] w λe d=>e=ε (ι T.count)/\d=w:=by
 obtain⟨nv,ns,a,rfl⟩:=h;obtain⟨f,b,c⟩:=a.box.e;clear a;go_enter func209,ntmps209;go_wp2;go_ret;exact⟨rfl,rfl⟩
end
section
open Go.Proofs.Tryz
variable {lo:Nat}{ns:List (Nat×Nat)}
def TV:∀(ns:List (Nat×Nat)) (k:Nat) (a:k<ns.j),(TD ns)[k*2]?=Z ns[k].1/\(TD ns)[k*2+1]?=Z ns[k].2
 |[],k,a=>by simp at a
 |p::r,0,_=>by simp[TD]
 |p::r,k+1,a=>by
  have:=TV r k (by simpa using a);simp only[TD,uX] at this ⊢;rw[show(k+1)*2=k*2+1+1 from by omega,show k*2+1+1+1=k*2+1+1+1 from rfl];simpa using this
def Bl{l:Φ}(h:l.Nodup){i j x y:Nat}(c:l[i]?=Z x)(e:l[j]?=Z y)(a:i≠j):x≠y:=by
 obtain⟨b,rfl⟩:=jC.1 c;obtain⟨d,rfl⟩:=jC.1 e;exact Ku (f:=id) (by simpa using h) b d a
def eS(h:(TD ns).Nodup){i j:Nat}(b:i<ns.j)(a:j<ns.j):(i≠j->ns[i].1≠ns[j].1/\ns[i].2≠ns[j].2)/\ns[i].1≠ns[j].2:=
 ⟨λc=>⟨Bl h (TV ns i b).1 (TV ns j a).1 η,Bl h (TV ns i b).2 (TV ns j a).2 η⟩,Bl h (TV ns i b).1 (TV ns j a).2 η⟩
def setNode(T:zl)(a:Nat)(n:qD):zl:={T with B:=T.B.set a n}
def vD.setLeap{w:U}{tb:Nat}{T:zl}{n:O}(h:vD lo w tb T n ns)(a u x:Nat)(o:a<T.B.j)(l:a<ns.j)(r:u<T.r):
  vD lo (w.x (ω ns[a].1 u) (ι x)) tb (setNode T a ⟨T.B[a].D.set u x,T.B[a].down⟩) n ns:=by
 have p:=h.leapLen a o;have j:=zd.set w ns[a].1 u (ι x);have m:=h.D a o l;refine⟨h.low,h.box.save j (by have:=vN m h.box θ rfl;simpa using Ne.symm this),?_,by simpa [setNode] using h.len,λi k c=>?_,λi k c=>?_,h.apart,h.wide,by simpa [setNode] using h.many,h.deep,h.K⟩;have:=yT h.B j (λb g d=>n9 m h.B θ rfl (by simp at d;rw[←d];exact g));simpa [setNode] using this;have f:i<T.B.j:=by simpa [setNode] using k
 by_cases e:i=a;subst e;have q:=uD m u υ (ι x);simp only[setNode,p7];rw[lf];exact q;simp only[setNode,rn (Ne.symm e)];exact yT (h.D i f c) j (λb g d=>by simp[sl,O.ownBlock] at g d;exact((eS h.apart c l).1 e).1 (g.A d));have f:i<T.B.j:=by simpa [setNode] using k
 have q:=yT (h.down i f c) j (λb g d=>by simp[sl,O.ownBlock] at g d;exact(eS h.apart l c).2 (d.z.A g.z));by_cases e:i=a;subst e;simp only[setNode,p7];exact q;simp only[setNode,rn (Ne.symm e)];exact q
def vD.setDown{w:U}{tb:Nat}{T:zl}{n:O}(h:vD lo w tb T n ns)(a u x:Nat)(o:a<T.B.j)(l:a<ns.j)(r:u<T.r):
  vD lo (w.x (ω ns[a].2 u) (ι x)) tb (setNode T a ⟨T.B[a].D,T.B[a].down.set u x⟩) n ns:=by
 have p:=h.downLen a o;have j:=zd.set w ns[a].2 u (ι x);have m:=h.down a o l;refine⟨h.low,h.box.save j (by have:=vN m h.box θ rfl;simpa using Ne.symm this),?_,by simpa [setNode] using h.len,λi k c=>?_,λi k c=>?_,h.apart,h.wide,by simpa [setNode] using h.many,h.deep,h.K⟩;have:=yT h.B j (λb g d=>n9 m h.B θ rfl (by simp at d;rw[←d];exact g));simpa [setNode] using this;have f:i<T.B.j:=by simpa [setNode] using k
 have q:=yT (h.D i f c) j (λb g d=>by simp[sl,O.ownBlock] at g d;exact(eS h.apart c l).2 (g.A d));by_cases e:i=a;subst e;simp only[setNode,p7];exact q;simp only[setNode,rn (Ne.symm e)];exact q;have f:i<T.B.j:=by simpa [setNode] using k
 by_cases e:i=a;subst e;have q:=uD m u υ (ι x);simp only[setNode,p7];rw[lf];exact q;simp only[setNode,rn (Ne.symm e)];exact yT (h.down i f c) j (λb g d=>by simp[sl,O.ownBlock] at g d;exact((eS h.apart c l).1 e).2 (g.A d))
structure TB (lo:Nat) (w w':U) (tb:Nat) (T:zl) (fp:List Nat) (fp':List Nat):Prop where
 trie:yb lo w' tb T fp'
 save:zd fp w w'
 qw:∀b∈fp',b∈fp∨w.o.q<=b
def OR(T:zl)(a:Nat)(n m:qD):setNode (setNode T a n) a m=setNode T a m:=by simp[setNode]
def R6{T:zl}{a v d:Nat}(b:a<T.B.j)(c:v<T.r):yk T a v d=setNode T a ⟨ko v (v+1) T.B[a].D,T.B[a].down.set v d⟩:=by
 unfold yk;rw[zb ⟨b,c⟩];simp[setNode,lY,List.getD_eq_getElem?_getD,b]
def UH(w:U)(tb:Nat)(T:zl)(fp:Φ)(a v d:Nat)(h:yb lo w tb T fp):
  Calls prog 203 #[(π tb),ι a,ι v,ι d] w λe w'=>e=ε (.B #[])/\TB lo w w' tb (yk T a v d) fp fp:=by
 have R:=h;obtain⟨nv,ns,f,rfl⟩:=h;have ad:=f.wide;have ab:=f.many;by_cases B:a<T.B.j
 .by_cases W:v<T.r
  .have j:a<ns.j:=by rw[f.len];exact B
   have F:X (yk T a v d=setNode T a ⟨ko v (v+1) T.B[a].D,T.B[a].down.set v d⟩):=R6 B W;obtain⟨I,i,gl,rfl,G,E,⟨_,rfl⟩,A,q⟩:=f.downAt a v B W;obtain⟨L,p,s⟩:=f.box.e;have P:=vl (f.down a B j);have K:=vl (f.D a B j);have t:=f.setDown a v d B j W;have H1:=Th f;clear f R;have Q:T.B[a].down.set v d=T.B[a].down.set v d:=rfl;generalize S:T.B[a].down.set v d=C at *;generalize N:T.B[a].D=lp at *;clear Q S N;go_enter func203,ntmps203;go_wp2;clear A q L p s P K E G;go_loopw [8] (λv8 wr=>∃(n:Nat) (l:Φ),n<=v+1/\v8=ι ((n:Int)-1)/\vD lo wr tb (setNode T a ⟨l,C⟩) (.k (Z (δ I)) T.B.j i) ns/\X (ko v (v+1) lp=ko v n l)/\zd (Un tb (.k (Z (δ I)) T.B.j i) ns) w wr) (λv8 _=>(intOf v8+1).D);refine⟨v+1,lp,zf _,ξ,t,rfl,(zd.set _ _ _ _).more λx y=>?_⟩;simp only[xL] at y;subst y;simp only[Un,zG,ya];exact ze (ze (eX j).2);clear t;obtain⟨n,l,hn,rfl,c,u,D⟩:=hrel;have r:a<(setNode T a ⟨l,C⟩).B.j:=by simpa [setNode] using B
   have g:(setNode T a ⟨l,C⟩).B[a]=⟨l,C⟩:=by simp[setNode]
   have k:(setNode T a ⟨l,C⟩).r=T.r:=rfl;obtain⟨L,p,s⟩:=c.box.e;have K:=vl (c.D a r j);have o:X (ko v n l=l->TB lo w wr tb (yk T a v d) (Un tb (.k (Z (δ I)) T.B.j i) ns) (Un tb (.k (Z (δ I)) T.B.j i) ns)):=λe=>⟨⟨_,ns,by rw[F.l,u.l,e];exact c,rfl⟩,D,λb J=>zh J⟩;rcases n with _|m
   .clear c;go_wp2;go_end0
    exact⟨rfl,o.l rfl⟩
   have e:((m+1:Nat):Int)-1=(m:Int):=η;rw[e];have hm:m<T.r:=η;obtain⟨ac,aa,gl,H,G,E,⟨_,rfl⟩,A,q⟩:=c.leapAt a m r (by rw[k];exact hm);simp only[O.slice.injEq,zt,Addr.mk.injEq] at H;obtain⟨⟨rfl,_⟩,_,rfl⟩:=H;rw[g] at q;rw[k] at A;have z:=c.setLeap a m v r j (by rw[k];exact hm);rw[g,OR] at z;have M:X (ko v (m+1) l=if l.g m 0>v then ko v m (l.set m v) else l):=by rw[X,ko]
   have ae:=Th c;clear c r g e;have V:X (vD lo (wr.x (ω ns[a].1 m) (ι v)) tb (setNode T a ⟨l.set m v,C⟩) (.k (Z (δ I)) T.B.j i) ns):=z;clear z;simp only at q;generalize l.g m 0=x at *;by_cases y:x>v
   .rw[zb y] at M;go_wp2;go_roundw;refine⟨m,l.set m v,η,ξ,V.l,u.A M,D.A ((zd.set _ _ _ _).more λx y=>?_)⟩;simp only[xL] at y;subst y;simp only[Un,zG,ya];exact ze (ze (eX j).1);simp[intOf]
   rw[za y] at M;go_wp2;go_end0
   exact⟨rfl,o.l M.l⟩
  have F:X (yk T a v d=T):=by unfold yk;rw[X,za η]
  obtain⟨ao,i,rfl⟩:=zr f.B;obtain⟨L,p,s⟩:=f.box.e;clear f;go_enter func203,ntmps203;go_wp2
  (try simp only[Exit.inBlock,Exit.then]);refine zP (results_none rfl _ _ _) rfl ?_
  exact⟨rfl,by rw[F.l];exact⟨R,zd.refl _ _,λb J=>zh J⟩⟩
 have F:X (yk T a v d=T):=by unfold yk;rw[X,za η]
 obtain⟨ao,i,rfl⟩:=zr f.B;obtain⟨L,p,s⟩:=f.box.e;clear f;go_enter func203,ntmps203;go_wp2
 (try simp only[Exit.inBlock,Exit.then]);refine zP (results_none rfl _ _ _) rfl ?_
 exact⟨rfl,by rw[F.l];exact⟨R,zd.refl _ _,λb J=>zh J⟩⟩
end
section
open Go.Proofs.Tryz
variable {lo:Nat}
def SM:(prog.info? 273).map (λi=>(i.zero,i.q,i.bytes))=Z (Z (.agg #[ν,ν]),2,48):=χ
section
variable {P:Program} {ops:Array Oper} {o:Oper} {a:Act} {K:Act->U->Prop} {Q:Exit->Act->U->Prop}
def m4{E:Prop}(C y:U)(l:Γ)(W:TypeId)(hg:o.guard=Y)(s x:Operand)(t:TypeId)
  (ho:o.op=.call {callee:=.builtin .append,args:=#[s,x],argTypes:=#[t,t]})
  (p:Nat) (e:TypeId) (i:TypeInfo) (z:O) (d f:Nat) (V:P.underlying t=Z (.k e)) (hi:P.info? e=Z i) (hz:i.zero=Z z)
  (w:i.q=d) (I:i.bytes=f) (H:z.E.q=d) (R:0<d)
  (v:O) (n:Nat) (L:Γ) (hs:a.eval s=v) (F:C.r p e d v n L) (q:μ C y)
  (b c:Nat) (hx:a.eval x=.k (Z (δ b)) 1 c) (hb:Ti y b l.F W) (hl:l.j=d) (h1:∀u∈l,u.oneCell'=true)
  (hn:n<=10000000000) (r:f<=1000) (M:p<=C.o.q)
  (h:∀D B,B.r p e d D (n+1) (L++l)->zd v.m.toList C B->(D.m=v.m∨∃g,D.m=Z g/\C.o.q<=g)->(∀k,k<y.o.q->Z k≠v.m->B.o[k]?=y.o[k]?)->y.o.q<=B.o.q->K (a.put o.dst D) B):
  if Region.wanted o (yielded ops a.tmps)=true then Oper.wp P o a y K Q else E:=by
 have hw:Region.wanted o (yielded ops a.tmps)=true:=by simp[Region.wanted,hg]
 rw[zb hw];have A:=zy F q;have T:=q.q;obtain⟨D,B,hr,h2,m,_,J⟩:=run_append_own_at (P:=P) y p t o.type e i z d f V hi hz w I H R v n L A (δ b) 1 c l η (by
  intro j u hj;rw[Addr.add_lit,vJ,hb.H.1];simpa using hj) h1 b_ (by
  have:(n+1)*f<=10000000001*1000:=Nat.mul_le_mul η r;omega) η
 unfold Oper.wp execOp;simp only[ho,resolve,invoke,builtin,Sem.run_bind,Sem.run_pure,Result.andThen_ok,List.map_toArray,uq,List.map_nil,hs,hx,hr];refine h D B h2 ⟨m.os.A q.os,m.tape.A q.tape,m.output.A q.output,by have:=m.q;omega,λk G hm=>?_⟩ ?_ (λk G N=>m.block k G N) m.q
 .rw[m.block k η (λe=>hm (by rw[←e];simp))];exact q.block k G
 .rcases J with S|S
  .exact zh S
  .exact ze ⟨_,S,η⟩
end
def Ha{W:U}{g n:Nat}{T:TypeId}(h:W.o[g]?=Z (.E (madeCells #[ι 0] n) T (0,0)))(d:lo<=g)(c:n<=maxLen):W.r lo T 1 (sl g n) n ((List.replicate n 0).map TO):=by
 refine⟨ζ,ze ⟨g,n,madeCells #[ι 0] n,rfl,d,h,zf _,c,by rw[size_madeCells];omega,?_⟩⟩;apply nI;intro i;by_cases b:i<n;simp[b,madeCells,TO,Nat.mod_one];simp[List.getElem?_take,b]
def n4(w:U)(a b c:Obj):((((w.C a).C b).C c).drew).o[w.o.q]?=Z a/\((((w.C a).C b).C c).drew).o[w.o.q+1]?=Z b/\((((w.C a).C b).C c).drew).o[w.o.q+1+1]?=Z c:=by
 refine⟨?_,?_,?_⟩;show(((w.o.push a).push b).push c)[w.o.q]?=_;simp[Array.getElem?_push];omega;show(((w.o.push a).push b).push c)[w.o.q+1]?=_;rw[Array.getElem?_push,za ζ,Array.getElem?_push,zb ζ];show(((w.o.push a).push b).push c)[w.o.q+1+1]?=_;rw[Array.getElem?_push,zb ζ]
def Qg(wd:Nat)(ns:List (Nat×Nat))(x:Nat×Nat):mw wd (ns++[x])=mw wd ns++[sl x.1 wd,sl x.2 wd]:=by simp[mw]
def Eb(ns:List (Nat×Nat))(x:Nat×Nat):TD (ns++[x])=TD ns++[x.1,x.2]:=by simp[TD]
def vD.grow{w wr s:U}{tb:Nat}{T:zl}{t c:O}{ns:List (Nat×Nat)}{n l:Nat}(h:vD lo w tb T t ns)(u:μ w wr)(aa:w.o.q<=n)(ab:w.o.q<=l)(R:n≠l)
  (h1:wr.r w.o.q 3 1 (sl n T.r) T.r ((List.replicate T.r T.r).map TO)) (h2:wr.r w.o.q 3 1 (sl l T.r) T.r ((List.replicate T.r 0).map TO))
  (hs:zd t.m.toList wr s) (E:s.r lo 273 2 c (T.B.j+1) (mw T.r ns++[sl n T.r,sl l T.r])) (H:c.m=t.m∨∃g,c.m=Z g/\wr.o.q<=g) (F:T.B.j<100000000):
  ∃N,TB lo w (s.x (ω tb 2) c) tb (yD T) (Un tb t ns) N:=by
 have y:lo<=w.o.q:=by have:=h.low;have:=h.box.lt;omega
 have z:=h.box.u u;have A:=zy h.B u;have p:=z.save hs (jt A z θ);have f:=zd.set s tb 2 c;have S:∀{C:Nat} {e:TypeId} {s1:Nat} {v:O} {B:Nat} {D:Γ},s.r C e s1 v B D->e≠229->∀b,v.m=Z b->b∉[tb]:=λE hT b r F=>vN E p hT r (by simpa using F);have k:∀{C:Nat} {v:O} {B:Nat} {D:Γ},wr.r C 3 1 v B D->(s.x (ω tb 2) c).r C 3 1 v B D:=λq=>by
  have V:=yT q hs (λb r F=>n9 q A θ r (xb F));exact yT V f (S V θ)
 have I:zd (Un tb t ns) w (s.x (ω tb 2) c):=((zd.of (M:=Un tb t ns) u).newer hs (λx G=>zh (by simp only[Un,zG,ya];exact ze (zh G)))).newer f (λx G=>zh (by simp at G;simp[Un,G]));refine⟨_,⟨c,ns++[(n,l)],⟨h.low,?_,?_,by simp[yD,h.len],λi L J=>?_,λi L J=>?_,?_,h.wide,by simp[yD];omega,h.deep,h.K⟩,rfl⟩,I,λb m=>?_⟩;have W:=p.set 2 c;simpa [yD] using W;rw[Qg];have:=yT E f (S E θ);simpa [yD] using this;simp[yD] at L;by_cases d:i<T.B.j;have j:i<ns.j:=by rw[h.len];exact d
 simp only[yD,uG d,uG j];exact k (zy (h.D i d j) u);obtain rfl:i=T.B.j:=η;have e:(ns++[(n,l)])[T.B.j]=(n,l):=by simp[←h.len]
 rw[e];simp only[yD,pO];exact k (yo h1 y);simp[yD] at L;by_cases d:i<T.B.j;have j:i<ns.j:=by rw[h.len];exact d
 simp only[yD,uG d,uG j];exact k (zy (h.down i d j) u);obtain rfl:i=T.B.j:=η;have e:(ns++[(n,l)])[T.B.j]=(n,l):=by simp[←h.len]
 rw[e];simp only[yD,pO];exact k (yo h2 y);rw[Eb,rF];refine⟨h.apart,by simp[R],λa ha b m e=>?_⟩;have:=(h.lt a (by simp only[Un,zG,ya];exact ze (ze ha))).2;simp at m;omega;simp only[Un,zG,ya,Eb] at m ⊢;rcases m with q|q|q|q;simp[q];rcases H with e|⟨g,e,hg⟩;rw[e] at q;simp[q];rw[e] at q;simp at q;have:=u.q;right;omega;simp[q];simp at q;right;omega
def RV(k n x:Nat)(c:k<n):((List.replicate k x++List.replicate (n-k) 0).map TO)[k]?=Z (ι (0:Int)):=by
 obtain⟨m,b⟩:∃m,n-k=m+1:=⟨n-k-1,η⟩;rw[b,mG,fR ζ,List.length_replicate,j4];rfl
def Km(k n x:Nat)(c:k<n):((List.replicate k x++List.replicate (n-k) 0).map TO).set k (.int .i64 x)=(List.replicate (k+1) x++List.replicate (n-(k+1)) 0).map TO:=by
 obtain⟨m,b⟩:∃m,n-k=m+1:=⟨n-k-1,η⟩;rw[show n-(k+1)=m from by omega,b,show O.int .i64 x=TO x from rfl,←lf,fY _ _ ζ,List.length_replicate,j4,List.replicate_succ' (n:=k),kT];rfl
def i7(w b:U)(wd:Nat)(s:O):Prop:=∃d c e,s=(π d)/\c≠e/\w.o.q<=d/\Ti b d #[.k (Z ⟨c,0,Y⟩) wd wd,.k (Z ⟨e,0,Y⟩) wd wd] 273/\b.r w.o.q 3 1 (sl c wd) wd ((List.replicate wd 0).map TO)/\b.r w.o.q 3 1 (sl e wd) wd ((List.replicate wd 0).map TO)/\μ w b
def i7.mk'{w b:U}{wd e c d:Nat}(f:Ti b e #[.k (Z (δ c)) wd wd,.k (Z (δ d)) wd wd] 273)(j:b.o[c]?=Z (.E (madeCells #[ι 0] wd) 3 (0,0)))(k:b.o[d]?=Z (.E (madeCells #[ι 0] wd) 3 (0,0)))(h:c≠d)(g:w.o.q<=e)(i:w.o.q<=c)(l:w.o.q<=d)(n:wd<=1000)(m:μ w b):i7 w b wd ((π e)):=
 ⟨e,c,d,rfl,h,g,f,Ha j i b_,Ha k l b_,m⟩
def Ch(w:U)(tb:Nat)(T:zl)(fp:Φ)(h:yb lo w tb T fp)(hm:T.B.j<100000000):
  Calls prog 162 #[(π tb)] w λe w'=>e=ε (ι T.B.j)/\∃s,TB lo w w' tb (yD T) fp s:=by
 obtain⟨nv,ns,I,rfl⟩:=h;have aa:=I.wide;have ap:=I.many;have ag:=λW:U=>run_make_row' (P:=prog) (w:=W) 24 3 (ι 0) 8 underlying24 Sy rfl .i64 .i64 T.r η η;obtain⟨C,m,l⟩:=I.box.e;have t:=Th I;clear I;have x:w.p ⟨tb,0,Y⟩=Z (ι T.r):=by simp[C]
 go_enter func162,ntmps162;go_upto_region 1 with fail
 go_cut [3] from 5 to 15 (λs3 wx=>i7 w wx T.r s3)
 .go_region_held3 (λw'=>w'.p ⟨tb,0,Y⟩=Z (ι T.r)) (exact(Below.cell (w:=w) (p:=⟨tb,0,Y⟩) (show μ w _ from γ) l).A x) (fail)
  all_goals
   go_wp2_with fail
   go_meet
   apply i7.mk';first|exact(n4 w _ _ _).1|exact(n4 w _ _ _).2.1|exact(n4 w _ _ _).2.2
   first|exact(n4 w _ _ _).1|exact(n4 w _ _ _).2.1|exact(n4 w _ _ _).2.2
   first|exact(n4 w _ _ _).1|exact(n4 w _ _ _).2.1|exact(n4 w _ _ _).2.2
   omega;omega;omega;omega;exact aa;exact γ
 obtain⟨nb,r,gd,rfl,af,an,g,c,j,f⟩:=hcut;clear ag x C m l;obtain⟨L,H,E⟩:=g.e;have d:=t.l.box.u f;obtain⟨C,m,l⟩:=d.e;go_wp2;clear L H E C m l;go_loopw [19] (λac wr=>∃k:Nat,k<=T.r/\ac=ι k/\Ti wr nb #[.k (Z ⟨r,0,Y⟩) T.r T.r,.k (Z ⟨gd,0,Y⟩) T.r T.r] 273/\Ti wr tb #[ι T.r,ι T.ql,nv,ι T.count] 229/\wr.r w.o.q 3 1 (sl r T.r) T.r ((List.replicate k T.r++List.replicate (T.r-k) 0).map TO)/\wr.r w.o.q 3 1 (sl gd T.r) T.r ((List.replicate T.r 0).map TO)/\μ w wr) (λi _=>T.r-(intOf i).D);exact⟨0,zs _,rfl,g,d,by simpa using c,j,f⟩;clear g c j f d;obtain⟨k,hk,rfl,g,d,c,j,f⟩:=hrel;obtain⟨L,H,E⟩:=g.e;obtain⟨C,m,l⟩:=d.e;by_cases G:k<T.r
 .have am:=yF c rfl;have B:=yW c rfl;have ay:=vl c;obtain⟨aq,ak,hv,_,_,u⟩:=yq c η;simp only[sl,O.slice.injEq,zt,Addr.mk.injEq] at hv;obtain⟨⟨rfl,_⟩,_,F⟩:=hv;clear F;have V:=u k _ (RV k T.r T.r G);have n:=uD c k υ (ι T.r);rw[Km k T.r T.r G] at n;have ad:r≠nb:=vN c g θ rfl;have N:r≠tb:=vN c d θ rfl;have D:=yT j (zd.set wr r k (ι T.r)) (λb hb hm=>by simp[sl,O.ownBlock] at hb hm;omega);have J:=g.set_ne (Ne.symm ad) k (ι T.r);have A:=d.set_ne (Ne.symm N) k (ι T.r);have S:=f.x (p:=⟨r,k,Y⟩) B (ι T.r);clear u;go_wp2;go_region
  all_goals
   go_wp2;go_roundw;exact⟨k+1,η,ξ,Ti.drew J,Ti.drew A,zy n (zn _ _).drew,zy D (zn _ _).drew,S.drew⟩;simp[intOf];omega
 obtain rfl:k=T.r:=η;rw[j4,List.replicate_zero,qn] at c;obtain⟨i0,hi,M,R,ae⟩:=info_parts SM;obtain⟨ao,ab,rfl⟩:=zr t.l.B;have q:=zy t.l.B f;have al:lo<=w.o.q:=by have:=t.l.low;have:=t.l.box.lt;omega
 have av:=f.q;go_wp2;go_region_law (first|(refine m4 wr _ [.k (Z ⟨r,0,Y⟩) T.r T.r,.k (Z ⟨gd,0,Y⟩) T.r T.r] 273 rfl (.tmp 35) (.tmp 37) 227 rfl lo 273 i0 _ 2 48 underlying227 hi M R ae rfl θ (.k ao T.B.j ab) T.B.j (mw T.r ns) (by simp[Act.eval]) q γ wr.o.q 1 (by simp[Act.eval]) (by exact Ti.drew (Ti.new _ _ _)) rfl a_ η η η ?_;intro v' w2 v z y ax ai;obtain⟨aw,aj,rfl⟩:=zr v;have ah:=d.save z (jt q d θ);obtain⟨au,az,ar⟩:=ah.e))
 all_goals
  obtain⟨s,hW⟩:=t.l.grow f (yW c rfl) (yW j rfl) af c j z v y hm;have HW:=Th hW;clear hW;go_wp2;go_ret;exact⟨ζ,s,HW.l⟩
def St(d:Nat):xv d<=3:=by unfold xv;(repeat' split)<;>omega
def AM(w:U)(wd c:Nat)(v:wd<=1000)(t:c<=100000000):
  Calls prog 119 #[ι wd,ι c] w λe m=>∃r g,e=ε ((π r))/\yb w.o.q m r (xk wd c) g/\μ w m:=by
 have p:∀a b:Nat,a=zM wd->b=xv c->vD w.o.q (w.C (.E #[ι (a:Nat),ι (b:Nat),ν,ι 0] 229)) w.o.q ⟨zM wd,xv c,[],0⟩ (ν) []:=by
  rintro a b rfl rfl;refine⟨zf _,Ti.new _ _ _,xo _ _ _ _,rfl,λi h=>by simp at h,λi h=>by simp at h,by simp[TD],?_,ζ,?_,ζ⟩;simp only[zM];split<;>omega
  exact St c
 have k:X (∀a b:Nat,a=zM wd->b=xv c->Calls prog 162 #[.pointer (Z (δ w.o.q))] (w.C (.E #[ι (a:Nat),ι (b:Nat),ν,ι 0] 229)) λe m=>∃g,e=ε (ι 0)/\yb w.o.q m w.o.q (xk wd c) g/\μ w m):=λa b u j=>by
  refine(Ch _ _ _ _ ⟨_,_,p a b u j,rfl⟩ ζ).y λe m ⟨z,q,s⟩=>⟨q,z,s.trie,?_⟩;exact((zn w.o.q w).C (zf _) _).A (s.save.u (by simp[Un,TD,O.ownBlock]) ζ)
 clear p;by_cases A:wd<1
 .by_cases y:c<1
  .have d:1=zM wd:=by unfold zM;split<;>omega
   have f:1=xv c:=by unfold xv;(repeat' split)<;>omega
   have H:=Th (k.l _ _ d f);clear d f k;go_enter func119,ntmps119;go_wp2_with (go_at_call 162;refine H.l.y ?_;rintro e n ⟨g,rfl,l,j⟩)
   go_ret;exact⟨_,g,rfl,l,j⟩
  by_cases x:c>3
  .have d:1=zM wd:=by unfold zM;split<;>omega
   have f:3=xv c:=by unfold xv;(repeat' split)<;>omega
   have H:=Th (k.l _ _ d f);clear d f k;go_enter func119,ntmps119;go_wp2_with (go_at_call 162;refine H.l.y ?_;rintro e n ⟨g,rfl,l,j⟩)
   go_ret;exact⟨_,g,rfl,l,j⟩
  have d:1=zM wd:=by unfold zM;split<;>omega
  have f:c=xv c:=by unfold xv;(repeat' split)<;>omega
  have H:=Th (k.l _ _ d f);clear d f k;go_enter func119,ntmps119;go_wp2_with (go_at_call 162;refine H.l.y ?_;rintro e n ⟨g,rfl,l,j⟩)
  go_ret;exact⟨_,g,rfl,l,j⟩
 by_cases y:c<1
 .have d:wd=zM wd:=by unfold zM;split<;>omega
  have f:1=xv c:=by unfold xv;(repeat' split)<;>omega
  have H:=Th (k.l _ _ d f);clear d f k;go_enter func119,ntmps119;go_wp2_with (go_at_call 162;refine H.l.y ?_;rintro e n ⟨g,rfl,l,j⟩)
  go_ret;exact⟨_,g,rfl,l,j⟩
 by_cases x:c>3
 .have d:wd=zM wd:=by unfold zM;split<;>omega
  have f:3=xv c:=by unfold xv;(repeat' split)<;>omega
  have H:=Th (k.l _ _ d f);clear d f k;go_enter func119,ntmps119;go_wp2_with (go_at_call 162;refine H.l.y ?_;rintro e n ⟨g,rfl,l,j⟩)
  go_ret;exact⟨_,g,rfl,l,j⟩
 have d:wd=zM wd:=by unfold zM;split<;>omega
 have f:c=xv c:=by unfold xv;(repeat' split)<;>omega
 have H:=Th (k.l _ _ d f);clear d f k;go_enter func119,ntmps119;go_wp2_with (go_at_call 162;refine H.l.y ?_;rintro e n ⟨g,rfl,l,j⟩)
 go_ret;exact⟨_,g,rfl,l,j⟩
def Tg(x y z:O)(w:U):(Instr.index 165 (.agg #[x,y,z]) (ι 0)).run prog w=.ok x w:=χ
def Sz(x y z:O)(w:U):(Instr.index 165 (.agg #[x,y,z]) (ι 1)).run prog w=.ok y w:=χ
def SL(x y z:O)(w:U):(Instr.index 165 (.agg #[x,y,z]) (ι 2)).run prog w=.ok z w:=χ
def TB.A{w e d:U}{tb:Nat}{g f:zl}{fp c a:Φ}(h:TB lo w e tb g fp c)(k:TB lo e d tb f c a):TB lo w d tb f fp a:=
 ⟨k.trie,h.save.newer k.save h.qw,λb i=>(k.qw b i).elim (h.qw b) λq=>ze (zY h.save.q q)⟩
def TB.refl{w:U}{tb:Nat}{T:zl}{fp:Φ}(h:yb lo w tb T fp):TB lo w w tb T fp fp:=⟨h,zd.refl _ _,λ_ a=>zh a⟩
def TB.u{w b:U}{tb:Nat}{T:zl}{fp:Φ}(h:yb lo w tb T fp)(a:μ w b):TB lo w b tb T fp fp:=⟨h.u a,zd.of a,λ_ a=>zh a⟩
def CG(T:zl)(a v d:Nat):(yk T a v d).B.j=T.B.j/\(yk T a v d).count=T.count/\(yk T a v d).ql=T.ql/\(yk T a v d).r=T.r:=by
 unfold yk;split<;>simp
def Cb(T:zl)(a v:Nat):(qu T a v).1.B.j<=T.B.j+1/\(qu T a v).1.count=T.count/\(qu T a v).1.ql=T.ql/\(qu T a v).1.r=T.r:=by
 unfold qu;split;simp;obtain⟨c,e,d,b⟩:=CG (yD T) a v T.B.j;simp only[c,e,d,b];simp[yD]
def Cp(w:U)(tb:Nat)(T:zl)(fp:Φ)(a v:Nat)(h:yb lo w tb T fp)(p:T.B.j<100000000):
  Calls prog 191 #[(π tb),ι a,ι v] w λe o=>e=ε (ι ((qu T a v).2:Nat))/\∃n,TB lo w o tb (qu T a v).1 fp n:=by
 have d:=Th (pR w tb T fp a v h);rcases l:zJ T a v with _|b
 .have j:X (qu T a v=(yk (yD T) a v T.B.j,T.B.j)):=by unfold qu;rw[X,l]
  rw[l] at d;simp only[j8,kF,kK] at d;have q:=Th (Ch w tb T fp h p);go_enter func191,ntmps191;go_wp2_with (first|(go_at_call 130;refine d.l.y ?_;rintro e o ⟨rfl,c⟩;obtain rfl:=c.z)|(go_at_call 162;refine q.l.y ?_;rintro e r ⟨rfl,i,g⟩;have f:=Th g;clear g)|(go_at_call 203;refine(UH r tb (yD T) i a v T.B.j f.l.trie).y ?_;rintro e t ⟨rfl,k⟩;have m:=Th k;clear k))
  go_ret;exact⟨by rw[j.l];rfl,i,by rw[j.l];exact f.l.A m.l⟩
 have j:X (qu T a v=(T,b)):=by unfold qu;rw[X,l]
 rw[l] at d;simp only[j8,uE,j6] at d;have s:=Th h;go_enter func191,ntmps191;go_wp2_with (go_at_call 130;refine d.l.y ?_;rintro e o ⟨rfl,c⟩;obtain rfl:=c.z)
 go_ret;exact⟨by rw[j.l];rfl,fp,by rw[j.l];exact TB.refl s.l⟩
def vD.setCount{w:U}{tb:Nat}{T:zl}{f:O}{ns:List (Nat×Nat)}(h:vD lo w tb T f ns)(n:Nat)(m:n<=1000000000):TB lo w (w.x (ω tb 3) (ι n)) tb {T with count:=n} (Un tb f ns) (Un tb f ns):=by
 have a:=zd.set w tb 3 (ι n);have g:∀{o:Nat} {e:TypeId} {t:Nat} {v:O} {u:Nat} {p:Γ},w.r o e t v u p->e≠229->∀b,v.m=Z b->b∉[tb]:=λq r b j k=>vN q h.box r j (by simpa using k);refine⟨⟨f,ns,⟨h.low,?_,yT h.B a (g h.B θ),h.len,λi d c=>yT (h.D i d c) a (g (h.D i d c) θ),λi d c=>yT (h.down i d c) a (g (h.down i d c) θ),h.apart,h.wide,h.many,h.deep,m⟩,rfl⟩,a.more (by simp[Un]),λb s=>zh s⟩;have l:=h.box.set 3 (ι n);simpa using l
def Aq(w:U)(tb:Nat)(T:zl)(fp:Φ)(a v m:Nat)(h:yb lo w tb T fp)(u:T.count<1000000000):
  Calls prog 190 #[(π tb),ι a,ι v,ι m] w λe r=>e=ε (.i (gZ T a v m).2)/\∃q,TB lo w r tb (gZ T a v m).1 fp q:=by
 have g:=Th (pR w tb T fp a v h);rcases l:zJ T a v with _|b
 .have i:X (gZ T a v m=({yk T a v m with count:=(yk T a v m).count+1},true)):=by unfold gZ;rw[X,l]
  rw[l] at g;simp only[j8,kF,kK] at g;have t:=Th (UH w tb T fp a v m h);have j:=(CG T a v m).2.1;generalize yk T a v m=k at *;rw[←j] at u;clear h j;go_enter func190,ntmps190;go_wp2_with (first|(go_at_call 130;refine g.l.y ?_;rintro e r ⟨rfl,f⟩;obtain rfl:=f.z)|(go_at_call 203;refine t.l.y ?_;rintro e s ⟨rfl,c⟩;obtain⟨D,C,d,o⟩:=c.trie;have p:=Th c;have y:X (TB lo s (s.x (ω tb 3) (ι ((k.count+1:Nat)))) tb {k with count:=k.count+1} fp fp):=(by rw[o];exact d.setCount (k.count+1) η);have n:=d.box;clear c d;obtain⟨x,A,B⟩:=n.e))
  go_ret;exact⟨by rw[i.l];rfl,fp,by rw[i.l];exact p.l.A y.l⟩
 have i:X (gZ T a v m=(T,false)):=by unfold gZ;rw[X,l]
 rw[l] at g;simp only[j8,uE,j6] at g;have z:=Th h;go_enter func190,ntmps190;go_wp2_with (go_at_call 130;refine g.l.y ?_;rintro e r ⟨rfl,f⟩;obtain rfl:=f.z)
 go_ret;exact⟨by rw[i.l];rfl,fp,by rw[i.l];exact TB.refl z.l⟩
def UV(w:U)(tb:Nat)(T:zl)(fp:Φ)(x y z:Nat)(h:yb lo w tb T fp):
  Calls prog 189 #[(π tb),.agg #[ι x,ι y,ι z]] w λe t=>e=ε (.i (mt T [x,y,z]))/\μ w t:=by
 obtain⟨A,v,f,rfl⟩:=h;have l:=f.box;have q:=Tg (ι x) (ι y) (ι z);have u:=Sz (ι x) (ι y) (ι z);have p:=SL (ι x) (ι y) (ι z);have j:X (mt T [x,y,z]=(decide (x<T.r)&&(decide (y<T.r)&&decide (z<T.r)))):=by simp[X,mt]
 go_enter func189,ntmps189;go_wp2;go_loopw [8] (λs wr=>∃k:Nat,k<=3/\s=ι k/\(1<=k->x<T.r)/\(2<=k->y<T.r)/\(3<=k->z<T.r)/\μ w wr) (λi _=>3-(intOf i).D);exact⟨0,η,rfl,η,η,η,γ⟩;obtain⟨k,o,rfl,f,m,r,a⟩:=hrel;have d:=l.u a;obtain⟨B,n⟩:=d.H;match k,o with
 |0,_=>
  by_cases b:x<T.r
  .go_wp2;go_roundw;exact⟨1,η,rfl,λ_=>b,η,η,a⟩;simp[intOf]
  go_wp2;go_ret;exact⟨by rw[j.l];simp[b],a⟩
 |1,_=>
  have b:=f η;by_cases c:y<T.r
  .go_wp2;go_roundw;exact⟨2,η,rfl,λ_=>b,λ_=>c,η,a⟩;simp[intOf]
  go_wp2;go_ret;exact⟨by rw[j.l];simp[c],a⟩
 |2,_=>
  have b:=f η;have c:=m η;by_cases g:z<T.r
  .go_wp2;go_roundw;exact⟨3,η,rfl,λ_=>b,λ_=>c,λ_=>g,a⟩;simp[intOf]
  go_wp2;go_ret;exact⟨by rw[j.l];simp[g],a⟩
 |3,_=>
  have b:=f η;have c:=m η;have g:=r η;go_wp2;go_ret;exact⟨by rw[j.l];simp[b,c,g],a⟩
def J2(w:U)(tb:Nat)(T:zl)(fp:Φ)(x y z m:Nat)(h:yb lo w tb T fp)(hn:T.B.j<=90000000)(hc:T.count<1000000000):
  Calls prog 163 #[(π tb),.agg #[ι x,ι y,ι z],ι m] w λe w'=>e=ε (.i (yC T [x,y,z] m).2)/\∃K,TB lo w w' tb (yC T [x,y,z] m).1 fp K:=by
 have ae:=Tg (ι x) (ι y) (ι z);have af:=Sz (ι x) (ι y) (ι z);have ab:=SL (ι x) (ι y) (ι z);have G:T.ql<=3:=by obtain⟨v,V,L,_⟩:=h;exact L.deep
 have A:=Th λW hW=>UV W tb T fp x y z (h.u hW);have M:=Th h;clear h;cases t:mt T [x,y,z]
 .have l:X (yC T [x,y,z] m=(T,false)):=by simp[X,yC,t]
  rw[t] at A;clear t;go_enter func163,ntmps163;go_wp2_with (go_at_call 189;refine(A.l _ γ).y ?_;rintro e H ⟨rfl,n⟩;have r:μ w H:=zT γ n (zf _))
  go_ret;exact⟨by rw[l.l];rfl,fp,by rw[l.l];exact TB.u M.l r⟩
 have l:X (yC T [x,y,z] m=vG m T 0 0 [x,y,z]):=by simp[X,yC,t]
 rw[t] at A;clear t;go_enter func163,ntmps163;go_wp2_with (go_at_call 189;refine(A.l _ γ).y ?_;rintro e H ⟨rfl,n⟩;have r:μ w H:=zT γ n (zf _);have u:=(Ti.new w #[ι x,ι y,ι z] 165).u n;obtain⟨J,F,D⟩:=u.e)
 clear J F D u n A;go_loopw [7,15] (λv7 s wr=>∃(k a:Nat) (b:zl) (g:Φ),k<=3/\s=ι k/\v7=ι a/\X (TB lo w wr tb b fp g)/\X (vG m T 0 0 [x,y,z]=vG m b a k ([x,y,z].drop k))/\b.B.j<=T.B.j+k/\b.count=T.count/\b.ql=T.ql) (λ_ s _=>3-(intOf s).D);exact⟨0,0,T,fp,η,rfl,rfl,TB.u M.l r,rfl,η,rfl,rfl⟩;obtain⟨k,a,b,g,R,rfl,rfl,j,o,Q,N,I⟩:=hrel;have p:∃v,Ti wr tb #[ι b.r,ι b.ql,v,ι b.count] 229:=by obtain⟨v,V,L,_⟩:=j.l.trie;exact⟨v,L.box⟩
 obtain⟨v,p⟩:=p;rw[I] at p;obtain⟨aa,ac,ad⟩:=p.e;match k,R with
 |0,_=>
  by_cases E:T.ql<=1
  .have i:X (vG m b a 0 [x,y,z]=gZ b a x m):=by rw[X];simp only[vG];rw[zb η]
   have q:=Th (Aq wr tb b g a x m j.l.trie η);go_wp2_with (go_at_call 190;refine q.l.y ?_;rintro e C ⟨rfl,f,c⟩;have d:=Th c;clear c)
   go_ret;exact⟨by rw[l.l,o.l];simp only[List.drop];rw[i.l];rfl,f,by rw[l.l,o.l];simp only[List.drop];rw[i.l];exact j.l.A d.l⟩
  have i:X (vG m b a 0 [x,y,z]=vG m (qu b a x).1 (qu b a x).2 1 [y,z]):=by rw[X];simp only[vG];rw[za η]
  obtain⟨P,q2,S,q4⟩:=Cb b a x;have q:=Th (Cp wr tb b g a x j.l.trie η);generalize qu b a x=B at *;go_wp2_with (go_at_call 191;refine q.l.y ?_;rintro e C ⟨rfl,f,c⟩;have d:=Th c;clear c)
  go_roundw;exact⟨1,B.2,B.1,f,η,rfl,rfl,j.l.A d.l,(by rw[o.l];exact i.l),η,η,η⟩;simp[intOf]
 |1,_=>
  by_cases E:T.ql<=2
  .have i:X (vG m b a 1 [y,z]=gZ b a y m):=by rw[X];simp only[vG];rw[zb η]
   have q:=Th (Aq wr tb b g a y m j.l.trie η);go_wp2_with (go_at_call 190;refine q.l.y ?_;rintro e C ⟨rfl,f,c⟩;have d:=Th c;clear c)
   go_ret;exact⟨by rw[l.l,o.l];simp only[List.drop];rw[i.l];rfl,f,by rw[l.l,o.l];simp only[List.drop];rw[i.l];exact j.l.A d.l⟩
  have i:X (vG m b a 1 [y,z]=vG m (qu b a y).1 (qu b a y).2 2 [z]):=by rw[X];simp only[vG];rw[za η]
  obtain⟨P,q2,S,q4⟩:=Cb b a y;have q:=Th (Cp wr tb b g a y j.l.trie η);generalize qu b a y=B at *;go_wp2_with (go_at_call 191;refine q.l.y ?_;rintro e C ⟨rfl,f,c⟩;have d:=Th c;clear c)
  go_roundw;exact⟨2,B.2,B.1,f,η,rfl,rfl,j.l.A d.l,(by rw[o.l];exact i.l),η,η,η⟩;simp[intOf]
 |2,_=>
  by_cases E:T.ql<=3
  .have i:X (vG m b a 2 [z]=gZ b a z m):=by rw[X];simp only[vG];rw[zb η]
   have q:=Th (Aq wr tb b g a z m j.l.trie η);go_wp2_with (go_at_call 190;refine q.l.y ?_;rintro e C ⟨rfl,f,c⟩;have d:=Th c;clear c)
   go_ret;exact⟨by rw[l.l,o.l];simp only[List.drop];rw[i.l];rfl,f,by rw[l.l,o.l];simp only[List.drop];rw[i.l];exact j.l.A d.l⟩
  exact zC G E
 |3,_=>
  have i:X (vG m b a 3 []=(b,false)):=by rw[X];simp only[vG]
  go_wp2;go_ret;exact⟨by rw[l.l,o.l];simp only[List.drop];rw[i.l];rfl,g,by rw[l.l,o.l];simp only[List.drop];rw[i.l];exact j.l⟩
def Fu(w:U)(tb:Nat)(T:zl)(fp:Φ)(x y z:Nat)(h:yb lo w tb T fp):
  Calls prog 83 #[(π tb),.agg #[ι x,ι y,ι z]] w λe l=>e=ε (j8 (uf T [x,y,z]))/\μ w l:=by
 have H:=Tg (ι x) (ι y) (ι z);have J:=Sz (ι x) (ι y) (ι z);have E:=SL (ι x) (ι y) (ι z);have n:∃t,Ti w tb #[ι T.r,ι T.ql,t,ι T.count] 229/\T.ql<=3:=by obtain⟨t,K,A,_⟩:=h;exact⟨t,A.box,A.deep⟩
 obtain⟨t,n,u⟩:=n;have r:=Th λW a v I=>pR W tb T fp a v (h.u I);clear h;have q:X (uf T [x,y,z]=uV T 0 0 [x,y,z]):=rfl;go_enter func83,ntmps83;go_wp2;go_loopw [6,12] (λB o wr=>∃k a:Nat,k<=3/\o=ι k/\B=ι a/\X (uV T 0 0 [x,y,z]=uV T a k ([x,y,z].drop k))/\μ w wr) (λ_ o _=>3-(intOf o).D);exact⟨0,0,η,rfl,rfl,rfl,γ⟩;obtain⟨k,a,C,rfl,rfl,m,c⟩:=hrel;have s:=n.u c;obtain⟨D,F,G⟩:=s.e;match k,C with
 |0,_=>
  rcases g:zJ T a x with _|b
  .have i:X (uV T a 0 [x,y,z]=Y):=by rw[X];simp only[uV];rw[g]
   have f:=r.l wr a x c;rw[g] at f;simp only[j8,kF,kK] at f;have j:=Th f;clear f g;go_wp2_with (go_at_call 130;refine j.l.y ?_;rintro e l ⟨rfl,d⟩;obtain rfl:=d.z)
   go_ret2
   exact⟨by rw[q.l,m.l];simp only[List.drop];rw[i.l];rfl,c⟩
  have f:=r.l wr a x c;rw[g] at f;simp only[j8,uE,j6] at f;have j:=Th f;clear f;by_cases p:T.ql<=1
  .have i:X (uV T a 0 [x,y,z]=Z b):=by rw[X];simp only[uV];rw[g];simp only;rw[zb η]
   clear g;go_wp2_with (go_at_call 130;refine j.l.y ?_;rintro e l ⟨rfl,d⟩;obtain rfl:=d.z)
   go_ret2
   exact⟨by rw[q.l,m.l];simp only[List.drop];rw[i.l];rfl,c⟩
  have i:X (uV T a 0 [x,y,z]=uV T b 1 [y,z]):=by rw[X];simp only[uV];rw[g];simp only;rw[za η]
  clear g;go_wp2_with (go_at_call 130;refine j.l.y ?_;rintro e l ⟨rfl,d⟩;obtain rfl:=d.z)
  go_roundw;exact⟨1,b,η,rfl,rfl,(by rw[m.l];exact i.l),c⟩;simp[intOf]
 |1,_=>
  rcases g:zJ T a y with _|b
  .have i:X (uV T a 1 [y,z]=Y):=by rw[X];simp only[uV];rw[g]
   have f:=r.l wr a y c;rw[g] at f;simp only[j8,kF,kK] at f;have j:=Th f;clear f g;go_wp2_with (go_at_call 130;refine j.l.y ?_;rintro e l ⟨rfl,d⟩;obtain rfl:=d.z)
   go_ret2
   exact⟨by rw[q.l,m.l];simp only[List.drop];rw[i.l];rfl,c⟩
  have f:=r.l wr a y c;rw[g] at f;simp only[j8,uE,j6] at f;have j:=Th f;clear f;by_cases p:T.ql<=2
  .have i:X (uV T a 1 [y,z]=Z b):=by rw[X];simp only[uV];rw[g];simp only;rw[zb η]
   clear g;go_wp2_with (go_at_call 130;refine j.l.y ?_;rintro e l ⟨rfl,d⟩;obtain rfl:=d.z)
   go_ret2
   exact⟨by rw[q.l,m.l];simp only[List.drop];rw[i.l];rfl,c⟩
  have i:X (uV T a 1 [y,z]=uV T b 2 [z]):=by rw[X];simp only[uV];rw[g];simp only;rw[za η]
  clear g;go_wp2_with (go_at_call 130;refine j.l.y ?_;rintro e l ⟨rfl,d⟩;obtain rfl:=d.z)
  go_roundw;exact⟨2,b,η,rfl,rfl,(by rw[m.l];exact i.l),c⟩;simp[intOf]
 |2,_=>
  rcases g:zJ T a z with _|b
  .have i:X (uV T a 2 [z]=Y):=by rw[X];simp only[uV];rw[g]
   have f:=r.l wr a z c;rw[g] at f;simp only[j8,kF,kK] at f;have j:=Th f;clear f g;go_wp2_with (go_at_call 130;refine j.l.y ?_;rintro e l ⟨rfl,d⟩;obtain rfl:=d.z)
   go_ret2
   exact⟨by rw[q.l,m.l];simp only[List.drop];rw[i.l];rfl,c⟩
  have f:=r.l wr a z c;rw[g] at f;simp only[j8,uE,j6] at f;have j:=Th f;clear f;by_cases p:T.ql<=3
  .have i:X (uV T a 2 [z]=Z b):=by rw[X];simp only[uV];rw[g];simp only;rw[zb η]
   clear g;go_wp2_with (go_at_call 130;refine j.l.y ?_;rintro e l ⟨rfl,d⟩;obtain rfl:=d.z)
   go_ret2
   exact⟨by rw[q.l,m.l];simp only[List.drop];rw[i.l];rfl,c⟩
  exact zC u p
 |3,_=>
  have i:X (uV T a 3 []=Y):=by rw[X];simp only[uV]
  go_wp2;go_ret2
  exact⟨by rw[q.l,m.l];simp only[List.drop];rw[i.l];rfl,c⟩
def SI:(prog.info? 165).map (λi=>(i.zero,i.q,i.bytes))=Z (Z (.agg #[ι 0,ι 0,ι 0]),3,24):=χ
def jT(rs:List zk):List Value:=rs.flatMap (·.map TO)
def Tx(lo:Nat)(w:U)(v:O)(rs:List zk):Prop:=w.r lo 165 3 v rs.j (jT rs)/\∀r∈rs,r.j=3
def uS(B:Nat)(w:U)(c tb:Nat)(row:zk)(a:List zk):Prop:=∃(x y z:Nat) (b:O),row=[x,y,z]/\B<=c/\Ti w c #[(π tb),ι x,ι y,ι z,b] 223/\Tx B w b a
def uS.u{B:Nat}{w w':U}{b tb:Nat}{row:zk}{a:List zk}(h:uS B w b tb row a)(c:μ w w'):uS B w' b tb row a:=by
 obtain⟨x,y,z,e,d,g,f,i,j⟩:=h;exact⟨x,y,z,e,d,g,f.u c,zy i c,j⟩
def ew{T:zl}{a f v:Nat}(h:yG T a f=Z v):v<T.r:=by
 unfold yG at h;split at h;simp only at h;split at h;cases h;simp only[zt] at h;omega;cases h
def mB(T:zl):∀(n a level f:Nat) (row:zk) (b:List zk) (c:zk×List zk),ub T n a level f row b=Z c->b.j<=c.2.j
 |0,_,_,_,_,_,_,h=>by simp[ub] at h
 |n+1,a,level,f,row,b,c,h=>by
  unfold ub at h;split at h
  .simp at h;subst h;simp
  .rename_i v j;simp only at h;split at h
   .have:=mB T n _ _ _ _ _ _ h;simp at this;omega
   .split at h
    .exact mB T n _ _ _ _ _ _ h
    .split at h
     .cases h
     .rename_i e d i;have g:=mB T n _ _ _ _ _ _ i;have k:=mB T n _ _ _ _ _ _ h;simp at g;omega
def OT(c:U)(tb:Nat)(T:zl)(fp:Φ)(ht:yb lo c tb T fp)(d n:Nat)(ih:(∀m,m<n->∀(w:U) (a level:Nat) (row:zk) (h:List zk) (g:zk×List zk),ub T m a level 0 row h=Z g->level<3->g.2.j<=1048576->μ c w->uS c.o.q w d tb row h->Calls prog 127 #[(π d),ι a,ι level] w λe j=>e=ε (.B #[])/\uS c.o.q j d tb g.1 g.2/\μ c j))(w:U)(a:Nat)(row:zk)(h:List zk)(g:zk×List zk)(P:ub T n a 0 0 row h=Z g)(a9:g.2.j<=1048576)(aa:μ c w)(E:uS c.o.q w d tb row h):
  Calls prog 127 #[(π d),ι a,ι 0] w λe j=>e=ε (.B #[])/\uS c.o.q j d tb g.1 g.2/\μ c j:=by
 have HI:=Th ih;clear ih;have HL:X (∀W f,μ c W->Calls prog 167 #[(π tb),ι a,ι ((f:Nat):Int)] W λe j=>e=ε (.B #[ι (((yG T a f).g 0:Nat):Int),.i (yG T a f).I])/\j=W):=λW f hW=>wm W tb T fp a f (ht.u hW);have HD:X (∀W v,μ c W->Calls prog 130 #[(π tb),ι a,ι ((v:Nat):Int)] W λe j=>e=ε (.B #[ι (((zJ T a v).g 0:Nat):Int),.i (zJ T a v).I])/\j=W):=λW v hW=>pR W tb T fp a v (ht.u hW);have aH:T.ql<=3:=by obtain⟨nv,ns,h1,_⟩:=ht;exact h1.deep
 have aI:T.r<=1000:=by obtain⟨nv,ns,h1,_⟩:=ht;exact h1.wide
 have B:∃nv,Ti c tb #[ι T.r,ι T.ql,nv,ι T.count] 229:=by obtain⟨nv,ns,h1,_⟩:=ht;exact⟨nv,h1.box⟩
 obtain⟨nv,B⟩:=B;clear ht;have am:=Th E;have S:=Th P;obtain⟨x,y,z,rv,au,t,s,a3,a1⟩:=E;clear au a3 a1 P;obtain⟨M,K,ac⟩:=s.e;go_enter func127,ntmps127;go_wp2_with (go_at_call 167;refine(HL.l w 0 aa).y ?_;rintro e j ⟨rfl,o⟩;obtain rfl:=o.z;clear o)
 clear M K ac s;go_loopg [6,7] n (λk v6 v7 wr=>∃(f:Nat) (I:zk) (b:List zk),v6=ι (((yG T a f).g 0:Nat):Int)/\v7=.i (yG T a f).I/\X (uS c.o.q wr d tb I b)/\X (ub T k a 0 f I b=Z g)/\k<=n/\μ c wr)
 case atStart=>exact⟨0,row,h,rfl,rfl,am,S,zf _,aa⟩
 clear am S aa t;obtain⟨f,I,b,rfl,rfl,ab,HQ,aG,L⟩:=hrel;have aw:=ab.l;obtain⟨x,y,z,rv,V,t,s,A,ak⟩:=aw;subst V;obtain⟨M,K,ac⟩:=s.e;rcases gk with _|m;have:=HQ.l;simp[ub] at this;have C:=HQ.l;unfold ub at C;rcases hl:yG T a f with _|v
 .rw[hl] at C;simp only[zt] at C;have HE:X (g=([x,y,z],b)):=C.z;clear C hl HQ;simp only[kF,kK];go_wp2;go_end0
  exact⟨rfl,by rw[HE.l];exact ab.l,L⟩
 rw[hl] at C;simp only at C;have aC:v<=1000:=by have:=ew hl;omega
 clear hl HQ;simp only[uE,j6];have aq:X (∀W,μ c W->Calls prog 167 #[(π tb),ι a,ι ((v:Int)+1)] W λe j=>e=ε (.B #[ι (((yG T a (v+1)).g 0:Nat):Int),.i (yG T a (v+1)).I])/\j=W):=λW hW=>by
  have q:=HL.l W (v+1) hW;rw[show((v+1:Nat):Int)=(v:Int)+1 from by omega] at q;exact q
 have l:=s.set 1 (ι v);simp at l;have ag:=B.u L;obtain⟨ax,a2,a4⟩:=ag.e;have aJ:d≠tb:=(λe=>by have:=B.lt;omega);by_cases hd:T.ql<=1
 .rw[zb η] at C;have J:X (ub T m a 0 (v+1) [v,y,z] (b++[[v,y,z]])=Z g):=C;have ae:=mB T m _ _ _ _ _ _ C;simp at ae;clear C HI HD HL;obtain⟨i0,hi,ar,az,a0⟩:=info_parts SI;obtain⟨ao,an,rfl⟩:=zr A;have u:(wr.x (ω d 1) (ι v)).r c.o.q 165 3 (.k ao b.j an) b.j (jT b):=xP A ((Tv.refl d wr).x 1 _) s θ;have F:μ c (wr.x (ω d 1) (ι v)):=L.x (p:=(ω d 1)) t _;have ay:=F.q;go_wp2;clear M K s A ax a2 a4 ag ab ac;generalize wr.x (ω d 1) (ι v)=wS at *;obtain⟨M,K,a5⟩:=l.e;go_region_law (first|(refine m4 wS _ [ι v,ι y,ι z] 165 rfl (.tmp 42) (.tmp 47) 161 rfl c.o.q 165 i0 _ 3 24 underlying161 hi ar az a0 rfl θ (.k ao b.j an) b.j (jT b) (by simp[Act.eval]) u γ wS.o.q 1 (by simp[Act.eval]) (by exact Ti.drew (Ti.new _ _ _)) rfl a_ η η η ?_;intro v' w2 af ap aA aL a7;obtain⟨D,i,rfl⟩:=zr af;have H:=l.save ap (jt u l θ);obtain⟨aD,aK,aF⟩:=H.e))
  all_goals
   have ad:Tx c.o.q (w2.x (ω d 4) (.k D (b.j+1) i)) (.k D (b.j+1) i) (b++[[v,y,z]]):=by
    refine⟨?_,λr hr=>?_⟩;have:=xP af ((Tv.refl d w2).x 4 (.k D (b.j+1) i)) H θ;simpa [jT,TO] using this;rcases ya.1 hr with q|q;exact ak r q;simp at q;rw[q];rfl
   have R:=H.set 4 (.k D (b.j+1) i);simp at R;have al:μ c (w2.x (ω d 4) (.k D (b.j+1) i)):=(F.A (ap.u (λx hx=>yW u (xb hx)) ay)).x (p:=(ω d 4)) t _;have G:X (uS c.o.q (w2.x (ω d 4) (.k D (b.j+1) i)) d tb [v,y,z] (b++[[v,y,z]])):=⟨_,_,_,_,rfl,t,R,ad⟩;go_wp2_with (go_at_call 167;refine(aq.l _ (by exact al)).y ?_;rintro e j ⟨rfl,o⟩;obtain rfl:=o.z)
   go_roundg m
   case measure=>omega
   exact⟨v+1,_,_,rfl,rfl,G,J,η,al⟩
 have J:=C;rw[za η,za η] at J;have F:μ c (wr.x (ω d 1) (ι v)):=L.x (p:=(ω d 1)) t _;have aj:uS c.o.q (wr.x (ω d 1) (ι v)) d tb [v,y,z] b:=⟨_,_,_,rv,rfl,t,l,xP A ((Tv.refl d wr).x 1 _) s θ,ak⟩;rcases N:ub T m ((zJ T a v).g 0) 1 0 [v,y,z] b with _|rr;rw[show [x,y,z].set 0 v=[v,y,z] from rfl] at J;rw[N] at J;cases J;rw[show [x,y,z].set 0 v=[v,y,z] from rfl] at J;rw[N] at J;have H3:ub T m a 0 (v+1) rr.1 rr.2=Z g:=J;have HW:X (Calls prog 127 #[(π d),ι (((zJ T a v).g 0:Nat):Int),ι 1] (wr.x (ω d 1) (ι v)) λe j=>e=ε (.B #[])/\uS c.o.q j d tb rr.1 rr.2/\μ c j):=by
  have q:=HI.l m η _ _ _ _ _ rr N η (by have:=mB T m _ _ _ _ _ _ H3;omega) F aj;rw[show((1:Nat):Int)=1 from rfl] at q;exact q
 have H4:=Th H3;clear C J H3 N;have av:=Th (HD.l _ v F);generalize (zJ T a v).g 0=dn at *;generalize (zJ T a v).I=ds at *;clear HD HI HL;go_wp2_with (first|(go_at_call 130;refine av.l.y ?_;rintro e j ⟨rfl,o⟩;obtain rfl:=o.z)|(go_at_call 127;refine HW.l.y ?_;rintro e w3 ⟨rfl,Q,ai⟩;have G:=Th Q;obtain⟨x3,y3,z3,aE,_,_,ah,_,_⟩:=Q;obtain⟨aB,a6,a8⟩:=ah.e)|(go_at_call 167;refine(aq.l _ ai).y ?_;rintro e j ⟨rfl,o⟩;obtain rfl:=o.z))
 go_roundg m
 case measure=>omega
 exact⟨v+1,rr.1,rr.2,rfl,rfl,G,H4,η,ai⟩
def Qn(c:U)(tb:Nat)(T:zl)(fp:Φ)(ht:yb lo c tb T fp)(d n:Nat)(ih:(∀m,m<n->∀(w:U) (a level:Nat) (row:zk) (h:List zk) (g:zk×List zk),ub T m a level 0 row h=Z g->level<3->g.2.j<=1048576->μ c w->uS c.o.q w d tb row h->Calls prog 127 #[(π d),ι a,ι level] w λe j=>e=ε (.B #[])/\uS c.o.q j d tb g.1 g.2/\μ c j))(w:U)(a:Nat)(row:zk)(h:List zk)(g:zk×List zk)(P:ub T n a 1 0 row h=Z g)(a9:g.2.j<=1048576)(aa:μ c w)(E:uS c.o.q w d tb row h):
  Calls prog 127 #[(π d),ι a,ι 1] w λe j=>e=ε (.B #[])/\uS c.o.q j d tb g.1 g.2/\μ c j:=by
 have HI:=Th ih;clear ih;have HL:X (∀W f,μ c W->Calls prog 167 #[(π tb),ι a,ι ((f:Nat):Int)] W λe j=>e=ε (.B #[ι (((yG T a f).g 0:Nat):Int),.i (yG T a f).I])/\j=W):=λW f hW=>wm W tb T fp a f (ht.u hW);have HD:X (∀W v,μ c W->Calls prog 130 #[(π tb),ι a,ι ((v:Nat):Int)] W λe j=>e=ε (.B #[ι (((zJ T a v).g 0:Nat):Int),.i (zJ T a v).I])/\j=W):=λW v hW=>pR W tb T fp a v (ht.u hW);have aH:T.ql<=3:=by obtain⟨nv,ns,h1,_⟩:=ht;exact h1.deep
 have aI:T.r<=1000:=by obtain⟨nv,ns,h1,_⟩:=ht;exact h1.wide
 have B:∃nv,Ti c tb #[ι T.r,ι T.ql,nv,ι T.count] 229:=by obtain⟨nv,ns,h1,_⟩:=ht;exact⟨nv,h1.box⟩
 obtain⟨nv,B⟩:=B;clear ht;have am:=Th E;have S:=Th P;obtain⟨x,y,z,rv,au,t,s,a3,a1⟩:=E;clear au a3 a1 P;obtain⟨M,K,ac⟩:=s.e;go_enter func127,ntmps127;go_wp2_with (go_at_call 167;refine(HL.l w 0 aa).y ?_;rintro e j ⟨rfl,o⟩;obtain rfl:=o.z;clear o)
 clear M K ac s;go_loopg [6,7] n (λk v6 v7 wr=>∃(f:Nat) (I:zk) (b:List zk),v6=ι (((yG T a f).g 0:Nat):Int)/\v7=.i (yG T a f).I/\X (uS c.o.q wr d tb I b)/\X (ub T k a 1 f I b=Z g)/\k<=n/\μ c wr)
 case atStart=>exact⟨0,row,h,rfl,rfl,am,S,zf _,aa⟩
 clear am S aa t;obtain⟨f,I,b,rfl,rfl,ab,HQ,aG,L⟩:=hrel;have aw:=ab.l;obtain⟨x,y,z,rv,V,t,s,A,ak⟩:=aw;subst V;obtain⟨M,K,ac⟩:=s.e;rcases gk with _|m;have:=HQ.l;simp[ub] at this;have C:=HQ.l;unfold ub at C;rcases hl:yG T a f with _|v
 .rw[hl] at C;simp only[zt] at C;have HE:X (g=([x,y,z],b)):=C.z;clear C hl HQ;simp only[kF,kK];go_wp2;go_end0
  exact⟨rfl,by rw[HE.l];exact ab.l,L⟩
 rw[hl] at C;simp only at C;have aC:v<=1000:=by have:=ew hl;omega
 clear hl HQ;simp only[uE,j6];have aq:X (∀W,μ c W->Calls prog 167 #[(π tb),ι a,ι ((v:Int)+1)] W λe j=>e=ε (.B #[ι (((yG T a (v+1)).g 0:Nat):Int),.i (yG T a (v+1)).I])/\j=W):=λW hW=>by
  have q:=HL.l W (v+1) hW;rw[show((v+1:Nat):Int)=(v:Int)+1 from by omega] at q;exact q
 have l:=s.set 2 (ι v);simp at l;have ag:=B.u L;obtain⟨ax,a2,a4⟩:=ag.e;have aJ:d≠tb:=(λe=>by have:=B.lt;omega);by_cases hd:T.ql<=2
 .rw[zb η] at C;have J:X (ub T m a 1 (v+1) [x,v,z] (b++[[x,v,z]])=Z g):=C;have ae:=mB T m _ _ _ _ _ _ C;simp at ae;clear C HI HD HL;obtain⟨i0,hi,ar,az,a0⟩:=info_parts SI;obtain⟨ao,an,rfl⟩:=zr A;have u:(wr.x (ω d 2) (ι v)).r c.o.q 165 3 (.k ao b.j an) b.j (jT b):=xP A ((Tv.refl d wr).x 2 _) s θ;have F:μ c (wr.x (ω d 2) (ι v)):=L.x (p:=(ω d 2)) t _;have ay:=F.q;go_wp2;clear M K s A ax a2 a4 ag ab ac;generalize wr.x (ω d 2) (ι v)=wS at *;obtain⟨M,K,a5⟩:=l.e;go_region_law (first|(refine m4 wS _ [ι x,ι v,ι z] 165 rfl (.tmp 42) (.tmp 47) 161 rfl c.o.q 165 i0 _ 3 24 underlying161 hi ar az a0 rfl θ (.k ao b.j an) b.j (jT b) (by simp[Act.eval]) u γ wS.o.q 1 (by simp[Act.eval]) (by exact Ti.drew (Ti.new _ _ _)) rfl a_ η η η ?_;intro v' w2 af ap aA aL a7;obtain⟨D,i,rfl⟩:=zr af;have H:=l.save ap (jt u l θ);obtain⟨aD,aK,aF⟩:=H.e))
  all_goals
   have ad:Tx c.o.q (w2.x (ω d 4) (.k D (b.j+1) i)) (.k D (b.j+1) i) (b++[[x,v,z]]):=by
    refine⟨?_,λr hr=>?_⟩;have:=xP af ((Tv.refl d w2).x 4 (.k D (b.j+1) i)) H θ;simpa [jT,TO] using this;rcases ya.1 hr with q|q;exact ak r q;simp at q;rw[q];rfl
   have R:=H.set 4 (.k D (b.j+1) i);simp at R;have al:μ c (w2.x (ω d 4) (.k D (b.j+1) i)):=(F.A (ap.u (λx hx=>yW u (xb hx)) ay)).x (p:=(ω d 4)) t _;have G:X (uS c.o.q (w2.x (ω d 4) (.k D (b.j+1) i)) d tb [x,v,z] (b++[[x,v,z]])):=⟨_,_,_,_,rfl,t,R,ad⟩;go_wp2_with (go_at_call 167;refine(aq.l _ (by exact al)).y ?_;rintro e j ⟨rfl,o⟩;obtain rfl:=o.z)
   go_roundg m
   case measure=>omega
   exact⟨v+1,_,_,rfl,rfl,G,J,η,al⟩
 have J:=C;rw[za η,za η] at J;have F:μ c (wr.x (ω d 2) (ι v)):=L.x (p:=(ω d 2)) t _;have aj:uS c.o.q (wr.x (ω d 2) (ι v)) d tb [x,v,z] b:=⟨_,_,_,rv,rfl,t,l,xP A ((Tv.refl d wr).x 2 _) s θ,ak⟩;rcases N:ub T m ((zJ T a v).g 0) 2 0 [x,v,z] b with _|rr;rw[show [x,y,z].set 1 v=[x,v,z] from rfl] at J;rw[N] at J;cases J;rw[show [x,y,z].set 1 v=[x,v,z] from rfl] at J;rw[N] at J;have H3:ub T m a 1 (v+1) rr.1 rr.2=Z g:=J;have HW:X (Calls prog 127 #[(π d),ι (((zJ T a v).g 0:Nat):Int),ι 2] (wr.x (ω d 2) (ι v)) λe j=>e=ε (.B #[])/\uS c.o.q j d tb rr.1 rr.2/\μ c j):=by
  have q:=HI.l m η _ _ _ _ _ rr N η (by have:=mB T m _ _ _ _ _ _ H3;omega) F aj;rw[show((2:Nat):Int)=2 from rfl] at q;exact q
 have H4:=Th H3;clear C J H3 N;have av:=Th (HD.l _ v F);generalize (zJ T a v).g 0=dn at *;generalize (zJ T a v).I=ds at *;clear HD HI HL;go_wp2_with (first|(go_at_call 130;refine av.l.y ?_;rintro e j ⟨rfl,o⟩;obtain rfl:=o.z)|(go_at_call 127;refine HW.l.y ?_;rintro e w3 ⟨rfl,Q,ai⟩;have G:=Th Q;obtain⟨x3,y3,z3,aE,_,_,ah,_,_⟩:=Q;obtain⟨aB,a6,a8⟩:=ah.e)|(go_at_call 167;refine(aq.l _ ai).y ?_;rintro e j ⟨rfl,o⟩;obtain rfl:=o.z))
 go_roundg m
 case measure=>omega
 exact⟨v+1,rr.1,rr.2,rfl,rfl,G,H4,η,ai⟩
def M4(c:U)(tb:Nat)(T:zl)(fp:Φ)(ht:yb lo c tb T fp)(i n:Nat)(ih:(∀m,m<n->∀(w:U) (a level:Nat) (row:zk) (g:List zk) (d:zk×List zk),ub T m a level 0 row g=Z d->level<3->d.2.j<=1048576->μ c w->uS c.o.q w i tb row g->Calls prog 127 #[(π i),ι a,ι level] w λe u=>e=ε (.B #[])/\uS c.o.q u i tb d.1 d.2/\μ c u))(w:U)(a:Nat)(row:zk)(g:List zk)(d:zk×List zk)(J:ub T n a 2 0 row g=Z d)(a1:d.2.j<=1048576)(N:μ c w)(B:uS c.o.q w i tb row g):
  Calls prog 127 #[(π i),ι a,ι 2] w λe u=>e=ε (.B #[])/\uS c.o.q u i tb d.1 d.2/\μ c u:=by
 have HI:=Th ih;clear ih;have HL:X (∀W f,μ c W->Calls prog 167 #[(π tb),ι a,ι ((f:Nat):Int)] W λe u=>e=ε (.B #[ι (((yG T a f).g 0:Nat):Int),.i (yG T a f).I])/\u=W):=λW f hW=>wm W tb T fp a f (ht.u hW);have HD:X (∀W v,μ c W->Calls prog 130 #[(π tb),ι a,ι ((v:Nat):Int)] W λe u=>e=ε (.B #[ι (((zJ T a v).g 0:Nat):Int),.i (zJ T a v).I])/\u=W):=λW v hW=>pR W tb T fp a v (ht.u hW);have aq:T.ql<=3:=by obtain⟨nv,ns,h1,_⟩:=ht;exact h1.deep
 have a7:T.r<=1000:=by obtain⟨nv,ns,h1,_⟩:=ht;exact h1.wide
 have s:∃nv,Ti c tb #[ι T.r,ι T.ql,nv,ι T.count] 229:=by obtain⟨nv,ns,h1,_⟩:=ht;exact⟨nv,h1.box⟩
 obtain⟨nv,s⟩:=s;clear ht;have ad:=Th B;have L:=Th J;obtain⟨x,y,z,rv,aj,D,l,aw,au⟩:=B;clear aj aw au J;obtain⟨I,G,R⟩:=l.e;go_enter func127,ntmps127;go_wp2_with (go_at_call 167;refine(HL.l w 0 N).y ?_;rintro e u ⟨rfl,H⟩;obtain rfl:=H.z;clear H)
 clear I G R l;go_loopg [6,7] n (λk v6 v7 wr=>∃(f:Nat) (F:zk) (b:List zk),v6=ι (((yG T a f).g 0:Nat):Int)/\v7=.i (yG T a f).I/\X (uS c.o.q wr i tb F b)/\X (ub T k a 2 f F b=Z d)/\k<=n/\μ c wr)
 case atStart=>exact⟨0,row,g,rfl,rfl,ad,L,zf _,N⟩
 clear ad L N D;obtain⟨f,F,b,rfl,rfl,Q,HQ,a6,P⟩:=hrel;have ak:=Q.l;obtain⟨x,y,z,rv,M,D,l,A,an⟩:=ak;subst M;obtain⟨I,G,R⟩:=l.e;rcases gk with _|m;have:=HQ.l;simp[ub] at this;have C:=HQ.l;unfold ub at C;rcases hl:yG T a f with _|v
 .rw[hl] at C;simp only[zt] at C;have HE:X (d=([x,y,z],b)):=C.z;clear C hl HQ;simp only[kF,kK];go_wp2;go_end0
  exact⟨rfl,by rw[HE.l];exact Q.l,P⟩
 rw[hl] at C;simp only at C;have a3:v<=1000:=by have:=ew hl;omega
 clear hl HQ;simp only[uE,j6];have ax:X (∀W,μ c W->Calls prog 167 #[(π tb),ι a,ι ((v:Int)+1)] W λe u=>e=ε (.B #[ι (((yG T a (v+1)).g 0:Nat):Int),.i (yG T a (v+1)).I])/\u=W):=λW hW=>by
  have q:=HL.l W (v+1) hW;rw[show((v+1:Nat):Int)=(v:Int)+1 from by omega] at q;exact q
 have o:=l.set 3 (ι v);simp at o;have ab:=s.u P;obtain⟨al,av,ay⟩:=ab.e;have a8:i≠tb:=(λe=>by have:=s.lt;omega);by_cases hd:T.ql<=3
 .rw[zb η] at C;have H2:X (ub T m a 2 (v+1) [x,y,v] (b++[[x,y,v]])=Z d):=C;have V:=mB T m _ _ _ _ _ _ C;simp at V;clear C HI HD HL;obtain⟨i0,hi,ai,ap,ar⟩:=info_parts SI;obtain⟨ao,ag,rfl⟩:=zr A;have j:(wr.x (ω i 3) (ι v)).r c.o.q 165 3 (.k ao b.j ag) b.j (jT b):=xP A ((Tv.refl i wr).x 3 _) l θ;have ae:μ c (wr.x (ω i 3) (ι v)):=P.x (p:=(ω i 3)) D _;have am:=ae.q;go_wp2;clear I G l A al av ay ab Q R;generalize wr.x (ω i 3) (ι v)=wS at *;obtain⟨I,G,az⟩:=o.e;go_region_law (first|(refine m4 wS _ [ι x,ι y,ι v] 165 rfl (.tmp 42) (.tmp 47) 161 rfl c.o.q 165 i0 _ 3 24 underlying161 hi ai ap ar rfl θ (.k ao b.j ag) b.j (jT b) (by simp[Act.eval]) j γ wS.o.q 1 (by simp[Act.eval]) (by exact Ti.drew (Ti.new _ _ _)) rfl a_ η η η ?_;intro v' w2 aa ah a2 aA a0;obtain⟨t,h,rfl⟩:=zr aa;have E:=o.save ah (jt j o θ);obtain⟨a4,a9,a5⟩:=E.e))
  all_goals
   have S:Tx c.o.q (w2.x (ω i 4) (.k t (b.j+1) h)) (.k t (b.j+1) h) (b++[[x,y,v]]):=by
    refine⟨?_,λr hr=>?_⟩;have:=xP aa ((Tv.refl i w2).x 4 (.k t (b.j+1) h)) E θ;simpa [jT,TO] using this;rcases ya.1 hr with q|q;exact an r q;simp at q;rw[q];rfl
   have K:=E.set 4 (.k t (b.j+1) h);simp at K;have ac:μ c (w2.x (ω i 4) (.k t (b.j+1) h)):=(ae.A (ah.u (λx hx=>yW j (xb hx)) am)).x (p:=(ω i 4)) D _;have af:X (uS c.o.q (w2.x (ω i 4) (.k t (b.j+1) h)) i tb [x,y,v] (b++[[x,y,v]])):=⟨_,_,_,_,rfl,D,K,S⟩;go_wp2_with (go_at_call 167;refine(ax.l _ (by exact ac)).y ?_;rintro e u ⟨rfl,H⟩;obtain rfl:=H.z)
   go_roundg m
   case measure=>omega
   exact⟨v+1,_,_,rfl,rfl,af,H2,η,ac⟩
 exact zC aq η
def UU(h:U)(tb:Nat)(T:zl)(fp:Φ)(k:yb lo h tb T fp)(j:Nat):∀(n:Nat) (w:U) (a level:Nat) (row:zk) (b:List zk) (c:zk×List zk),ub T n a level 0 row b=Z c->level<3->c.2.j<=1048576->μ h w->uS h.o.q w j tb row b →
  Calls prog 127 #[(π j),ι a,ι level] w λe o=>e=ε (.B #[])/\uS h.o.q o j tb c.1 c.2/\μ h o:=by
 intro n;induction n using Nat.strongRecOn with
 |_ n l=>
  intro w a level row b c g m f i d;obtain rfl|rfl|rfl:level=0∨level=1∨level=2:=η
  exact OT h tb T fp k j n l w a row b c g f i d;exact Qn h tb T fp k j n l w a row b c g f i d;exact M4 h tb T fp k j n l w a row b c g f i d
def CF(w:U)(tb:Nat)(T:zl)(fp:Φ)(l:yb lo w tb T fp)(n:Nat)(rs:List zk)(a:mY n T=Z rs)(b:rs.j<=1048576):
  Calls prog 78 #[(π tb)] w λe k=>∃v,e=.returned v/\Tx w.o.q k v rs/\μ w k:=by
 unfold mY at a;rcases h:ub T n 0 0 0 [0,0,0] [] with _|i;rw[h] at a;cases a;rw[h] at a;simp only[jL,zt] at a;subst a;have hrel:uS w.o.q (w.C (.E #[(π tb),ι 0,ι 0,ι 0,ν] 223)) w.o.q tb [0,0,0] []:=⟨0,0,0,_,rfl,zf _,Ti.new _ _ _,xo _ _ _ _,ζ⟩;have o:=Th (UU w tb T fp l w.o.q n _ 0 0 _ _ i h η b zO hrel);go_enter func78,ntmps78;go_wp2_with (go_at_call 127;refine o.l.y ?_;rintro e r ⟨rfl,f,g⟩;obtain⟨x,y,z,s,_,_,j,c⟩:=f;have d:=Th c;clear c;obtain⟨m,q,p⟩:=j.e)
 go_ret;exact⟨_,rfl,d.l,g⟩
def kA(t:yh):O×O×Value:=(.i t.var,ι t.z,ι t.w)
structure yt (lo:Nat) (w:U) (v:O) (ts:List yh):Prop where
 own:w.r lo 284 3 v ts.j (T4 (ts.map kA))
 len:ts.j<=1000
 z:∀t∈ts,t.z<=1000000/\t.w<=1000000
def yt.u{w w':U}{v:O}{ts:List yh}(h:yt lo w v ts)(a:μ w w'):yt lo w' v ts:=⟨zy h.own a,h.len,h.z⟩
def yt.qy{w:U}{v:O}{ts:List yh}(h:yt lo w v ts):∃b a,v=.k b ts.j a:=zr h.own
def yt.cell{w:U}{c:Option Addr}{n cap:Nat}{ts:List yh}(h:yt lo w (.k c n cap) ts)(k:Nat)(i:k<ts.j):∃g,c=Z (δ g)/\g<w.o.q/\w.p (ω g (k*3))=Z (.i ts[k].var)/\w.p (ω g (k*3+1))=Z (ι (ts[k].z:Nat))/\w.p (ω g (k*3+2))=Z (ι (ts[k].w:Nat)):=by
 obtain⟨g,f,d,_,j,_⟩:=yq h.own η;simp only[O.slice.injEq] at d;obtain⟨rfl,_,_⟩:=d;obtain⟨_,b,a,e⟩:=iv h.own k (by simpa using i);simp only[ue,kA] at b a e;exact⟨g,rfl,j,b,a,e⟩
def Ub{α:Type}(l:List α)(p:α->Bool)(k:Nat)(a:k<l.j):(l.G (k+1)).any p=((l.G k).any p||p l[k]):=by
 rw[yN a,List.any_append];simp
def Di{α:Type}(l:List α)(p:α->Bool)(k:Nat)(a:k<l.j)(h:p l[k]=true):l.any p=true:=fg.2 ⟨_,zq a,h⟩
def F3(w:U)(v:O)(f c:Nat)(ts:List yh)(h:yt lo w v ts):
  Calls prog 202 #[.agg #[ι f,v],ι c] w λe F=>e=ε (.i (zK ⟨f,ts⟩ c))/\μ w F:=by
 obtain⟨H,A,rfl⟩:=h.qy;have I:=h.len;go_enter func202,ntmps202;go_wp2;go_loopw [10] (λq wr=>∃k:Nat,k<=ts.j/\q=ι k/\X ((ts.G k).any (λt=>t.var&&t.z == c)=false)/\μ w wr) (λi _=>ts.j-(intOf i).D);exact⟨0,zs _,rfl,rfl,γ⟩;obtain⟨k,G,rfl,j,a⟩:=hrel;have b:=a.q;by_cases d:k<ts.j
 .obtain⟨g,rfl,p,C,B,D⟩:=h.cell k d;have o:=zi a p C;have y:=zi a p B;have x:=zi a p D;have m:=Th (Ub ts (λt=>t.var&&t.z == c) k d);have E:=Th (Di ts (λt=>t.var&&t.z == c) k d);generalize ts[k]=t at *;cases u:t.var
  .rw[u] at o m;go_wp2;go_roundw;exact⟨k+1,η,ξ,(by rw[m.l,j.l];rfl),a.C b _⟩;simp[intOf];omega
  by_cases s:t.z=c
  .have n:X (zK ⟨f,ts⟩ c=true):=E.l (by simp[u,s]);subst s;go_wp2;go_ret;exact⟨by rw[n.l];rfl,a.C b _⟩
  have r:X ((t.var&&t.z == c)=false):=by simp[X,s]
  have l:X ((ts.G (k+1)).any (λt=>t.var&&t.z == c)=false):=by rw[X,m.l,j.l,r.l];rfl
  go_wp2;go_roundw;exact⟨k+1,η,ξ,l,a.C b _⟩;simp[intOf];omega
 have z:X (zK ⟨f,ts⟩ c=false):=by
  have:=j.l;rw[yV η] at this;exact this
 go_wp2;go_ret;exact⟨by rw[z.l];rfl,a⟩
def Er(p:Nat->Bool)(k:Nat):(List.range (k+1)).countP p=(List.range k).countP p+(if p k then 1 else 0):=by
 rw[oG,List.countP_append];simp[List.countP_cons]
def D9(w:U)(v:O)(a b:Nat)(ts:List yh)(h:yt lo w v ts)(J:b<=1000000):
  Calls prog 187 #[.agg #[ι a,v],ι b] w λe F=>e=ε (j8 (xd ⟨a,ts⟩ b))/\μ w F:=by
 have z:=Th λW p r=>F3 W v a p ts (h.u r);cases g:zK ⟨a,ts⟩ b
 .have y:X (xd ⟨a,ts⟩ b=Y):=by simp[X,xd,g]
  have A:=Th λW r=>by have q:=z.l W b r;rw[g] at q;exact q
  go_enter func187,ntmps187;go_wp2_with (go_at_call 202;refine(A.l _ γ).y ?_;rintro e n ⟨rfl,c⟩;have i:μ w n:=zT γ c (zf _))
  go_ret2
  exact⟨by rw[y.l];rfl,i⟩
 have y:X (xd ⟨a,ts⟩ b=Z ((List.range b).countP (zK ⟨a,ts⟩))):=by simp[X,xd,g]
 have A:=Th λW r=>by have q:=z.l W b r;rw[g] at q;exact q
 go_enter func187,ntmps187;go_wp2_with (go_at_call 202;refine(A.l _ γ).y ?_;rintro e n ⟨rfl,c⟩;have i:μ w n:=zT γ c (zf _);have u:=(Ti.new w #[ι a,v] 204).u c)
 go_loopw [6,7] (λC x wr=>∃k:Nat,k<=b/\x=ι k/\C=ι ((List.range k).countP (zK ⟨a,ts⟩):Nat)/\μ n wr) (λ_ x _=>b-(intOf x).D);exact⟨0,zs _,rfl,rfl,zn _ _⟩;obtain⟨k,G,rfl,rfl,d⟩:=hrel;have m:=Tl i d;have o:=u.u d;obtain⟨I,H⟩:=o.H;have B:(List.range k).countP (zK ⟨a,ts⟩)<=k:=by have:=tV (p:=zK ⟨a,ts⟩) (l:=List.range k);simpa using this
 by_cases E:k<b
 .have t:=Er (zK ⟨a,ts⟩) k;have s:=Th (z.l wr k m);cases g:zK ⟨a,ts⟩ k
  .rw[g] at t s;have f:X ((List.range (k+1)).countP (zK ⟨a,ts⟩)=(List.range k).countP (zK ⟨a,ts⟩)):=by rw[X,t];simp
   go_wp2_with (go_at_call 202;refine s.l.y ?_;rintro e D ⟨rfl,j⟩)
   go_roundw;exact⟨k+1,η,ξ,by rw[f.l],Tl d j⟩;simp[intOf];omega
  rw[g] at t s;have f:X ((List.range (k+1)).countP (zK ⟨a,ts⟩)=(List.range k).countP (zK ⟨a,ts⟩)+1):=by rw[X,t];simp
  go_wp2_with (go_at_call 202;refine s.l.y ?_;rintro e D ⟨rfl,j⟩)
  go_roundw;exact⟨k+1,η,ξ,by rw[f.l];go_num,Tl d j⟩;simp[intOf];omega
 obtain rfl:k=b:=η;go_wp2;go_ret2
 exact⟨by rw[y.l];rfl,m⟩
def Gb(w:U)(v:O)(a:Nat)(ts:List yh)(h:yt lo w v ts):
  Calls prog 212 #[.agg #[ι a,v]] w λe A=>e=ε (ι (xe ⟨a,ts⟩:Nat))/\μ w A:=by
 have x:=Th λW p z=>F3 W v a p ts (h.u z);have n:=Ti.new w #[ι a,v] 204;have t:X (xe ⟨a,ts⟩=(List.range 5).countP (zK ⟨a,ts⟩)):=rfl;go_enter func212,ntmps212;go_wp2;go_loopw [3,4] (λs o wr=>∃k:Nat,k<=5/\o=ι k/\s=ι ((List.range k).countP (zK ⟨a,ts⟩):Nat)/\Below (w.o.q+1) (w.C (.E #[ι a,v] 204)) wr) (λ_ o _=>5-(intOf o).D);exact⟨0,zs _,rfl,rfl,zn _ _⟩;obtain⟨k,B,rfl,rfl,b⟩:=hrel;have g:Below (w.C (.E #[ι a,v] 204)).o.q (w.C (.E #[ι a,v] 204)) wr:=by simpa using b
 have f:μ w wr:=zT γ g (zf _);have i:=n.u g;obtain⟨D,C⟩:=i.H;have r:(List.range k).countP (zK ⟨a,ts⟩)<=k:=by have:=tV (p:=zK ⟨a,ts⟩) (l:=List.range k);simpa using this
 by_cases y:k<5
 .have m:=Er (zK ⟨a,ts⟩) k;have j:=Th (x.l wr k f);cases q:zK ⟨a,ts⟩ k
  .rw[q] at m j;have c:X ((List.range (k+1)).countP (zK ⟨a,ts⟩)=(List.range k).countP (zK ⟨a,ts⟩)):=by rw[X,m];simp
   go_wp2_with (go_at_call 202;refine j.l.y ?_;rintro e u ⟨rfl,d⟩)
   go_roundw;exact⟨k+1,η,ξ,by rw[c.l],zT b d ζ⟩;simp[intOf];omega
  rw[q] at m j;have c:X ((List.range (k+1)).countP (zK ⟨a,ts⟩)=(List.range k).countP (zK ⟨a,ts⟩)+1):=by rw[X,m];simp
  go_wp2_with (go_at_call 202;refine j.l.y ?_;rintro e u ⟨rfl,d⟩)
  go_roundw;exact⟨k+1,η,ξ,by rw[c.l];go_num,zT b d ζ⟩;simp[intOf];omega
 obtain rfl:k=5:=η;go_wp2;go_ret;exact⟨by rw[t.l];rfl,f⟩
def wk{α β:Type}(l:List α)(f:β->α->β)(b:β)(k:Nat)(a:k<l.j):(l.G (k+1)).H f b=f ((l.G k).H f b) l[k]:=by
 rw[yN a,qZ];rfl
def lx(k:Nat)(t:yh):Nat:=if t.var&&decide (t.z≥k) then t.z+1 else k
def Kq(l:zw):vm l=l.v.H lx 0:=rfl
def Da(w:U)(v:O)(m:Nat)(ts:List yh)(h:yt lo w v ts):
  Calls prog 222 #[.agg #[ι m,v]] w λe D=>e=ε (ι (vm ⟨m,ts⟩:Nat))/\μ w D:=by
 obtain⟨F,x,rfl⟩:=h.qy;have G:=h.len;have u:X (vm ⟨m,ts⟩=ts.H lx 0):=Kq _;go_enter func222,ntmps222;go_wp2;go_loopw [3,9] (λs p wr=>∃k:Nat,k<=ts.j/\p=ι k/\s=ι ((ts.G k).H lx 0:Nat)/\μ w wr) (λ_ i _=>ts.j-(intOf i).D);exact⟨0,zs _,rfl,rfl,γ⟩;obtain⟨k,E,rfl,rfl,a⟩:=hrel;have c:=a.q;by_cases d:k<ts.j
 .obtain⟨g,rfl,l,B,A,C⟩:=h.cell k d;have y:=zi a l B;have r:=zi a l A;have q:=zi a l C;have z:=(h.z _ (zq d)).1;have j:=Th (wk ts lx 0 k d);generalize ts[k]=t at *;generalize (ts.G k).H lx 0=f at *;cases n:t.var
  .have b:X ((ts.G (k+1)).H lx 0=f):=by rw[X,j.l];simp[lx,n]
   go_wp2;go_roundw;exact⟨k+1,η,ξ,by rw[b.l],a.C c _⟩;simp[intOf];omega
  by_cases o:t.z≥f
  .have b:X ((ts.G (k+1)).H lx 0=t.z+1):=by rw[X,j.l];simp[lx,n,o]
   go_wp2;go_roundw;exact⟨k+1,η,ξ,by rw[b.l];go_num,a.C c _⟩;simp[intOf];omega
  have b:X ((ts.G (k+1)).H lx 0=f):=by rw[X,j.l];simp[lx,o]
  go_wp2;go_roundw;exact⟨k+1,η,ξ,by rw[b.l],a.C c _⟩;simp[intOf];omega
 rw[yV η];go_wp2;go_ret;exact⟨by rw[u.l];rfl,a⟩
def dW(je k:Int)(t:yh):Int:=if t.var&&decide ((t.z:Int)<je)&&decide ((t.z:Int)>k) then(t.z:Int) else k
def JN(l:zw)(je:Int):ky l je=l.v.H (dW je) (-1):=rfl
def DX(w:U)(v:O)(o:Nat)(d:Int)(ts:List yh)(h:yt lo w v ts):
  Calls prog 225 #[.agg #[ι o,v],ι d] w λe E=>e=ε (ι (ky ⟨o,ts⟩ d))/\μ w E:=by
 obtain⟨G,y,rfl⟩:=h.qy;have H:=h.len;have x:X (ky ⟨o,ts⟩ d=ts.H (dW d) (-1)):=JN _ _;go_enter func225,ntmps225;go_wp2;go_loopw [5,11] (λC n wr=>∃k:Nat,k<=ts.j/\n=ι k/\C=ι ((ts.G k).H (dW d) (-1))/\μ w wr) (λ_ i _=>ts.j-(intOf i).D);exact⟨0,zs _,rfl,rfl,γ⟩;obtain⟨k,F,rfl,rfl,a⟩:=hrel;have c:=a.q;by_cases f:k<ts.j
 .obtain⟨g,rfl,m,B,A,D⟩:=h.cell k f;have z:=zi a m B;have u:=zi a m A;have s:=zi a m D;have j:=Th (wk ts (dW d) (-1) k f);generalize ts[k]=t at *;generalize (ts.G k).H (dW d) (-1)=l at *;cases p:t.var
  .have b:X ((ts.G (k+1)).H (dW d) (-1)=l):=by rw[X,j.l];simp[dW,p]
   go_wp2;go_roundw;exact⟨k+1,η,ξ,by rw[b.l],a.C c _⟩;simp[intOf];omega
  by_cases r:(t.z:Int)<d
  .by_cases q:(t.z:Int)>l
   .have b:X ((ts.G (k+1)).H (dW d) (-1)=(t.z:Int)):=by rw[X,j.l];simp[dW,p,r,q]
    go_wp2;go_roundw;exact⟨k+1,η,ξ,by rw[b.l],a.C c _⟩;simp[intOf];omega
   have b:X ((ts.G (k+1)).H (dW d) (-1)=l):=by rw[X,j.l];simp[dW,q]
   go_wp2;go_roundw;exact⟨k+1,η,ξ,by rw[b.l],a.C c _⟩;simp[intOf];omega
  have b:X ((ts.G (k+1)).H (dW d) (-1)=l):=by rw[X,j.l];simp[dW,r]
  go_wp2;go_roundw;exact⟨k+1,η,ξ,by rw[b.l],a.C c _⟩;simp[intOf];omega
 rw[yV η];go_wp2;go_ret;exact⟨by rw[x.l];rfl,a⟩
def C7(w:U)(v:O)(c:Nat)(d:Int)(ts:List yh)(h:yt lo w v ts):
  Calls prog 226 #[.agg #[ι c,v],ι d] w λe p=>e=ε (ι (qL ⟨c,ts⟩ d))/\μ w p:=by
 have m:=Th λW j=>Da W v c ts (h.u j);have n:=Th λW j=>DX W v c d ts (h.u j);have f:X (qL ⟨c,ts⟩ d=if (vm ⟨c,ts⟩:Int)<=d then -1 else ky ⟨c,ts⟩ d):=rfl;generalize vm ⟨c,ts⟩=o at *;by_cases l:(o:Int)<=d
 .rw[zb l] at f;go_enter func226,ntmps226;go_wp2_with (go_at_call 222;refine(m.l _ γ).y ?_;rintro e g ⟨rfl,a⟩;have b:μ w g:=zT γ a (zf _))
  go_ret;exact⟨by rw[f.l];rfl,b⟩
 rw[za l] at f;go_enter func226,ntmps226;go_wp2_with (first|(go_at_call 222;refine(m.l _ γ).y ?_;rintro e g ⟨rfl,a⟩;have b:μ w g:=zT γ a (zf _);have i:=(Ti.new w #[ι c,v] 204).u a;obtain⟨s,t,q⟩:=i.e)|(go_at_call 225;refine(n.l _ b).y ?_;rintro e r ⟨rfl,k⟩))
 go_ret;exact⟨by rw[f.l];rfl,Tl b k⟩
end
end Go.Proofs.YteampbddflhngaaGreat
