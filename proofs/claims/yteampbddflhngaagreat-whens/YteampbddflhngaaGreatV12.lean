import Derived.Deep.RegionWith
import Derived.Laws.CopyOwn
import Derived.Maps.AppendAt
import Derived.Test.YteampbddflhngaaGreatV07
namespace Go.Proofs.YteampbddflhngaaGreat
set_option maxRecDepth 100000
set_option maxHeartbeats 2000000
open Go.RowKit
section
variable {lo:Nat}{w:World}{base cap:Nat}{ys:List (Value×Value×Value)}
def nw(t:Value×Value×Value):List Value:=[t.1,t.2.1,t.2.2]
def Pz(ys:List (Value×Value×Value)):List Value:=ys.flatMap nw
theorem pX(ys:List (Value×Value×Value)):(Pz ys).length=ys.length*3:=by
 induction ys with
 |nil=>rfl
 |cons a l b=>simp[Pz,nw] at b ⊢;omega
theorem wY:∀(ys:List (Value×Value×Value)) (k:Nat) (_:k<ys.length) (a b c:Value),(((Pz ys).set (k*3) a).set (k*3+1) b).set (k*3+2) c=Pz (ys.set k (a,b,c))
 |[],k,d,_,_,_=>by simp at d
 |y::r,0,_,a,b,c=>by simp[Pz,nw]
 |y::r,k+1,d,a,b,c=>by
  have:=wY r k (by simpa using d) a b c;simp only[Pz,us,p8,nw] at this ⊢;rw[show(k+1)*3=k*3+1+1+1 from by omega,show k*3+1+1+1+1=k*3+1+1+1+1 from rfl,show k*3+1+1+1+2=k*3+2+1+1+1 from by omega];simpa using this
theorem t7:∀(ys:List (Value×Value×Value)) (k:Nat) (a:k<ys.length),(Pz ys)[k*3]?=some ys[k].1/\(Pz ys)[k*3+1]?=some ys[k].2.1/\(Pz ys)[k*3+2]?=some ys[k].2.2
 |[],k,a=>by simp at a
 |y::r,0,_=>by simp[Pz,nw]
 |y::r,k+1,a=>by
  have:=t7 r k (by simpa using a);simp only[Pz,us,nw] at this ⊢;rw[show(k+1)*3=k*3+1+1+1 from by omega,show k*3+1+1+1+1=k*3+1+1+1+1 from rfl,show k*3+1+1+1+2=k*3+2+1+1+1 from by omega];simpa using this
theorem Kg(b c a:Value):∀(n i:Nat),i<n*3->(madeCells #[b,c,a] (n*3))[i]?=(Pz (List.replicate n (b,c,a)))[i]?:=by
 intro n i h;obtain⟨k,j,g,rfl⟩:∃k j,j<3/\i=k*3+j:=⟨i / 3,i%3,Nat.mod_lt _ (by decide),by omega⟩;have m:k<n:=by omega
 obtain⟨e,f,d⟩:=t7 (List.replicate n (b,c,a)) k (by simpa using m);simp only[we] at e f d;have l:(k*3+j)%3=j:=by omega
 simp only[madeCells,Array.getElem?_map,Array.getElem?_range];rw[zb h];simp only[jZ];have o:(#[b,c,a]:Array Value).size=3:=rfl;rw[o,l];match j,g with
 |0,_=>rw[uI,e];rfl
 |1,_=>rw[f];rfl
 |2,_=>rw[d];rfl
theorem F6(w:World)(n:Nat)(T:TypeId)(c d b:Value)(e:n<=maxLen):(w.alloc (.cells (madeCells #[c,d,b] (n*3)) T)).ownsRow w.heap.size T 3 (.slice (some ⟨w.heap.size,0,none⟩) n n) n (Pz (List.replicate n (c,d,b))):=by
 refine⟨by rw[pX];simp,ze ⟨w.heap.size,n,madeCells #[c,d,b] (n*3),rfl,zh _,?_,zh _,e,by rw[size_madeCells],?_⟩⟩
 ·show(w.heap.push _)[w.heap.size]?=_;simp
 ·apply mo;intro i;by_cases a:i<n*3
  ·rw[l9,zb a,Array.getElem?_toList,Kg _ _ _ n i a]
  ·rw[l9,za a,kR (by rw[pX];simp;omega)]
theorem Mw{e:TypeId}{g n m:Nat}(h:w.ownsRow base e 3 (.slice (some ⟨g,0,none⟩) n cap) m (Pz ys))(k:Nat)(j:k<ys.length)(a b c:Value):
  (((w.setCell ⟨g,k*3,none⟩ a).setCell ⟨g,k*3+1,none⟩ b).setCell ⟨g,k*3+2,none⟩ c).ownsRow base e 3 (.slice (some ⟨g,0,none⟩) n cap) m (Pz (ys.set k (a,b,c))):=by
 have l:=pX ys;have i:=uK h (k*3) (by omega) a;have f:=uK i (k*3+1) (by simp;omega) b;have d:=uK f (k*3+2) (by simp;omega) c;rw[wY ys k j] at d;exact d
theorem iZ{e:TypeId}{g n m:Nat}(h:w.ownsRow base e 3 (.slice (some ⟨g,0,none⟩) n cap) m (Pz ys))(k:Nat)(o:k<ys.length):
  g<w.heap.size/\w.cell? ⟨g,k*3,none⟩=some ys[k].1/\w.cell? ⟨g,k*3+1,none⟩=some ys[k].2.1/\w.cell? ⟨g,k*3+2,none⟩=some ys[k].2.2:=by
 have j:0<m:=by have:=h.1;rw[pX] at this;omega
 obtain⟨p,c,b,_,l,a⟩:=y7 h j;simp at b;obtain⟨rfl,_⟩:=b;obtain⟨f,i,d⟩:=t7 ys k o;exact⟨l,a _ _ f,a _ _ i,a _ _ d⟩
theorem Le{e:TypeId}{b g n m:Nat}{f:List Value}(h:w.ownsRow base e b (.slice (some ⟨g,0,none⟩) n cap) m f):∃a,w.heap[g]?=some (.cells a e (0,0)):=by
 obtain⟨_,⟨c,_⟩|⟨j,d,a,c,_,i,_⟩⟩:=h
 ·cases c
 ·simp at c;obtain⟨rfl,_⟩:=c;exact⟨a,i⟩
end
section
open Go.Proofs.Tryz
variable {lo:Nat}{M:List Nat}{w w':World}{b base n:Nat}{c:Array Value}{v:Value}{xs xs1:List Value}
structure zd (M:List Nat) (w w':World):Prop where
 os:w'.os=w.os
 tape:w'.tape=w.tape
 output:w'.output=w.output
 size:w.heap.size<=w'.heap.size
 block:∀k,k<w.heap.size->k∉M->w'.heap[k]?=w.heap[k]?
theorem zd.refl(M:List Nat)(w:World):zd M w w:=⟨rfl,rfl,rfl,zh _,fun _ _ _=>rfl⟩
theorem zd.of(h:Below w.heap.size w w'):zd M w w':=⟨h.os,h.tape,h.output,h.size,fun k a _=>h.block k a⟩
theorem zd.trans{M:List Nat}{a b c:World}(h:zd M a b)(k:zd M b c):zd M a c:=
 ⟨k.os.trans h.os,k.tape.trans h.tape,k.output.trans h.output,zT h.size k.size,fun x d e=>(k.block x (xo d h.size) e).trans (h.block x d e)⟩
theorem zd.more{N:List Nat}(h:zd M w w')(a:∀x∈M,x∈N):zd N w w':=⟨h.os,h.tape,h.output,h.size,fun k f e=>h.block k f fun d=>e (a k d)⟩
theorem zd.newer{N:List Nat}{a b c:World}(h:zd M a b)(k:zd N b c)(g:∀x∈N,x∈M∨a.heap.size<=x):zd M a c:=
 ⟨k.os.trans h.os,k.tape.trans h.tape,k.output.trans h.output,zT h.size k.size,fun x e f=>(k.block x (xo e h.size) fun d=>(g x d).elim f fun i=>by omega).trans (h.block x e f)⟩
theorem zd.below{B:Nat}(h:zd M w w')(a:∀x∈M,B<=x)(e:B<=w.heap.size):Below B w w':=
 ⟨h.os,h.tape,h.output,h.size,fun k f=>h.block k (by omega) fun d=>by have:=a k d;omega⟩
theorem yI{e:TypeId}{a:Nat}(h:w.ownsRow base e a v n xs)(p:zd M w w')(m:∀b,v.ownBlock=some b->b∉M):w'.ownsRow base e a v n xs:=by
 obtain⟨o,d⟩:=h;refine⟨o,?_⟩;rcases d with d|⟨g,i,f,j,q,k,l⟩
 ·exact zf d
 ·refine ze ⟨g,i,f,j,q,?_,l⟩;rw[p.block g (kD.1 k).1 (m g (by rw[j];rfl))];exact k
theorem OZ.save{T:TypeId}(h:OZ w b c T)(a:zd M w w')(d:b∉M):OZ w' b c T:=by
 have:=h.lt;unfold OZ at *;rw[a.block b this d];exact h
section
variable {P:Program} {ops:Array Oper} {rest:List Oper} {o:Oper} {a:Act} {Q:Exit->Act->World->Prop}
theorem d8(C A:World)(l:List Value)(L:TypeId)(hg:o.guard=none)(s x:Operand)(t:TypeId)
  (O:o.op=.call {callee:=.builtin .append,args:=#[s,x],argTypes:=#[t,t]})
  (base:Nat) (e:TypeId) (i:TypeInfo) (z:Value) (d f:Nat) (R:P.underlying t=some (.slice e)) (Z:P.info? e=some i) (S:i.zero=some z)
  (y:i.size=d) (G:i.bytes=f) (E:z.cells.size=d) (J:0<d)
  (v:Value) (n:Nat) (xs:List Value) (T:a.eval s=v) (D:C.ownsRow base e d v n xs) (m:Below C.heap.size C A)
  (b c:Nat) (N:a.eval x=.slice (some ⟨b,0,none⟩) 1 c) (hb:b=A.heap.size) (hl:l.length=d) (X:∀u∈l,u.oneCell'=true)
  (hn:n<=10000000000) (q:f<=1000) (F:base<=C.heap.size)
  (h:∀B w',w'.ownsRow base e d B (n+1) (xs++l)->zd v.ownBlock.toList C w'->(B.ownBlock=v.ownBlock∨∃g,B.ownBlock=some g/\C.heap.size<=g)->wpList P ops Q rest (a.put o.dst B) w'):
  wpList P ops Q (o::rest) a (A.alloc (.cells l.toArray L)):=by
 have r:=zE D m;have K:=m.size;subst hb;refine wpList_append_own_at _ hg s x t O base e i z d f R Z S y G E J v n xs T (r.alloc _) ⟨A.heap.size,0,none⟩ 1 c l N (by omega) ?_ X ?_ ?_ ?_ ?_
 ·intro j u V;rw[Addr.add_lit,uL,World.cell?_alloc_mark];simpa using V
 ·unfold maxLen;omega
 ·have:(n+1)*f<=10000000001*1000:=Nat.mul_le_mul (by omega) q;omega
 ·simp;omega
 ·intro B w' W p _ H;refine h B w' W ⟨p.os.trans m.os,p.tape.trans m.tape,p.output.trans m.output,?_,fun k U Y=>?_⟩ ?_
  ·have:=p.size;simp at this;omega
  ·rw[p.block k (by simp;omega) (fun e=>Y (by rw[←e];simp))];rw[show(A.alloc (.cells l.toArray L)).heap[k]?=A.heap[k]? from Below.heap_alloc _ _ _ (by omega)];exact m.block k U
  ·rcases H with I|I
   ·exact zf I
   ·exact ze ⟨_,I,by simp;omega⟩
end
theorem yO{e:TypeId}{d:Nat}(h:w.ownsRow base e d v n xs)(i:v.ownBlock=some b):b<w.heap.size:=by
 obtain⟨_,⟨f,_⟩|⟨g,l,j,f,_,k,_⟩⟩:=h
 ·subst f;cases i
 ·subst f;simp only[Value.ownBlock,zs] at i;subst i;exact(kD.1 k).1
theorem zd.set(w:World)(b o:Nat)(u:Value):zd [b] w (w.setCell ⟨b,o,none⟩ u):=
 ⟨rfl,rfl,rfl,by simp[World.setCell],fun k _ d=>Below.heap_setCell _ _ _ _ (by simp at d;exact d)⟩
theorem yv(h:b∈v.ownBlock.toList):v.ownBlock=some b:=by simpa using h
theorem qD{e T:TypeId}{d:Nat}(h:w.ownsRow base e d v n xs)(i:OZ w b c T)(f:e≠T):b∉v.ownBlock.toList:=by
 intro g;have:=fg h i f;exact this (by simpa [eq_comm] using g)
def sl(g n:Nat):Value:=.slice (some ⟨g,0,none⟩) n n
theorem fS{A s:Nat}{p r:TypeId}{F y:Nat}{m k:Value}{C x:Nat}{h:List Value}(B:w.ownsRow A p F m C xs1)(z:w.ownsRow s r y k x h)(E:p≠r)(j:m.ownBlock=some b):k.ownBlock≠some b:=by
 intro f;obtain⟨_,⟨i,_⟩|⟨g,u,D,i,_,t,_⟩⟩:=B
 ·subst i;cases j
 ·obtain⟨_,⟨e,_⟩|⟨G,l,q,e,_,d,_⟩⟩:=z
  ·subst e;cases f
  ·subst i;subst e;simp only[Value.ownBlock,zs] at j f;subst j;subst f;rw[t] at d;simp at d;exact E d.2
theorem xL{j:Nat}{e T:TypeId}{m:Nat}{f:Value}{g:Nat}(k:w.ownsRow j e m f g xs1){d:Nat}(h:OZ w d c T)(l:e≠T)(i:f.ownBlock=some b):b≠d:=by
 rintro rfl;exact fg k h l i.symm
theorem yW{e:TypeId}{d:Nat}(h:w.ownsRow base e d v n xs)(i:v.ownBlock=some b):base<=b:=by
 obtain⟨_,⟨f,_⟩|⟨g,k,j,f,l,_,_⟩⟩:=h
 ·subst f;cases i
 ·subst f;simp only[Value.ownBlock,zs] at i;omega
theorem GV{α:Type}{f:α->Nat}{l:List α}(h:(l.map f).Nodup){i j:Nat}(g:i<l.length)(k:j<l.length)(d:i≠j):f l[i]≠f l[j]:=by
 intro e;have:=(List.getElem_inj (h₀:=by simpa using g) (h₁:=by simpa using k) h).1 (by simpa using e);exact d this
theorem ON:(prog.info? 3).map (fun i=>(i.zero,i.size,i.bytes))=some (some (.int .i64 0),1,8):=by kernel_rfl
def PF(s:Nat):Value:=.int .i64 (s:Int)
theorem Dw(w:World)(n:Nat)(T:TypeId)(e:n<=maxLen):(w.alloc (.cells (madeCells #[.int .i64 0] n) T)).ownsRow w.heap.size T 1 (.slice (some ⟨w.heap.size,0,none⟩) n n) n ((List.replicate n 0).map PF):=by
 refine⟨by simp,ze ⟨w.heap.size,n,madeCells #[.int .i64 0] n,rfl,zh _,?_,zh _,e,by rw[size_madeCells];omega,?_⟩⟩
 ·show(w.heap.push _)[w.heap.size]?=_;simp
 ·apply mo;intro i;by_cases d:i<n
  ·simp[d,madeCells,PF,Nat.mod_one]
  ·simp[List.getElem?_take,d]
end
section
open Go.Proofs.Tryz
variable {lo:Nat}{w:World}{tb:Nat}{T:zi}{nv:Value}{ns:List (Nat×Nat)}
def ft(wd:Nat)(ns:List (Nat×Nat)):List Value:=ns.flatMap fun x=>[sl x.1 wd,sl x.2 wd]
theorem wI(wd:Nat):∀(ns:List (Nat×Nat)) (k:Nat) (a:k<ns.length),(ft wd ns)[k*2]?=some (sl ns[k].1 wd)/\(ft wd ns)[k*2+1]?=some (sl ns[k].2 wd)
 |[],k,a=>by simp at a
 |p::r,0,_=>by simp[ft]
 |p::r,k+1,a=>by
  have:=wI wd r k (by simpa using a);simp only[ft,us] at this ⊢;rw[show(k+1)*2=k*2+1+1 from by omega,show k*2+1+1+1=k*2+1+1+1 from rfl];simpa using this
def P4(ns:List (Nat×Nat)):List Nat:=ns.flatMap fun x=>[x.1,x.2]
structure uS (lo:Nat) (w:World) (tb:Nat) (T:zi) (nv:Value) (ns:List (Nat×Nat)):Prop where
 low:lo<=tb
 box:OZ w tb #[.int .i64 T.qf,.int .i64 T.ql,nv,.int .i64 T.count] 229
 qi:w.ownsRow lo 273 2 nv T.qi.length (ft T.qf ns)
 len:ns.length=T.qi.length
 leap:∀i (h:i<T.qi.length) (h2:i<ns.length),w.ownsRow lo 3 1 (sl ns[i].1 T.qf) T.qf (T.qi[i].leap.map PF)
 down:∀i (h:i<T.qi.length) (h2:i<ns.length),w.ownsRow lo 3 1 (sl ns[i].2 T.qf) T.qf (T.qi[i].down.map PF)
 apart:(P4 ns).Nodup
 wide:T.qf<=1000
 many:T.qi.length<=100000000
 deep:T.ql<=3
 few:T.count<=1000000000
def PX(tb:Nat)(nv:Value)(ns:List (Nat×Nat)):List Nat:=tb::(nv.ownBlock.toList++P4 ns)
def zX(lo:Nat)(w:World)(tb:Nat)(T:zi)(fp:List Nat):Prop:=∃nv ns,uS lo w tb T nv ns/\fp=PX tb nv ns
theorem uS.leapLen(h:uS lo w tb T nv ns)(i:Nat)(a:i<T.qi.length):T.qi[i].leap.length=T.qf:=by
 have:=(h.leap i a (by rw[h.len];exact a)).1;simpa using this
theorem uS.downLen(h:uS lo w tb T nv ns)(i:Nat)(a:i<T.qi.length):T.qi[i].down.length=T.qf:=by
 have:=(h.down i a (by rw[h.len];exact a)).1;simpa using this
theorem wR{b:Nat}(h:b∈P4 ns):∃i,∃h:i<ns.length,b=ns[i].1∨b=ns[i].2:=by
 simp only[P4,uX,zw,lB,or_false] at h;obtain⟨x,d,c⟩:=h;obtain⟨i,a,rfl⟩:=vl d;exact⟨i,a,c⟩
theorem sM{i:Nat}(h:i<ns.length):ns[i].1∈P4 ns/\ns[i].2∈P4 ns:=by
 simp only[P4,uX,zw,lB,or_false];exact⟨⟨_,zu h,zf rfl⟩,⟨_,zu h,ze rfl⟩⟩
theorem uS.lt{w:World}{tb:Nat}{T:zi}{nv:Value}{ns:List (Nat×Nat)}(h:uS lo w tb T nv ns):∀b∈PX tb nv ns,lo<=b/\b<w.heap.size:=by
 intro b c;simp only[PX,zw,zW] at c;rcases c with rfl|c|c
 ·exact⟨h.low,h.box.lt⟩
 ·exact⟨yW h.qi (yv c),yO h.qi (yv c)⟩
 ·obtain⟨i,a,rfl|rfl⟩:=wR c
  ·exact⟨yW (h.leap i (by rw[←h.len];exact a) a) rfl,yO (h.leap i (by rw[←h.len];exact a) a) rfl⟩
  ·exact⟨yW (h.down i (by rw[←h.len];exact a) a) rfl,yO (h.down i (by rw[←h.len];exact a) a) rfl⟩
theorem zX.lt{w:World}{tb:Nat}{T:zi}{fp:List Nat}(h:zX lo w tb T fp):∀b∈fp,lo<=b/\b<w.heap.size:=by
 obtain⟨nv,ns,a,rfl⟩:=h;exact a.lt
theorem zX.save{w j:World}{tb:Nat}{T:zi}{fp N:List Nat}(h:zX lo w tb T fp)(f:zd N w j)(k:∀b∈fp,b∉N):zX lo j tb T fp:=by
 obtain⟨nv,ns,c,rfl⟩:=h;have e:=k;refine⟨nv,ns,⟨c.low,c.box.save f (e tb (by simp[PX])),yI c.qi f fun b d=>e b ?_,c.len,fun i g a=>yI (c.leap i g a) f fun b d=>e b ?_,fun i g a=>yI (c.down i g a) f fun b d=>e b ?_,c.apart,c.wide,c.many,c.deep,c.few⟩,rfl⟩
 ·simp[PX,d]
 ·simp only[sl,Value.ownBlock,zs] at d;subst d;simp only[PX,zw,zW];exact ze (ze (sM a).1)
 ·simp only[sl,Value.ownBlock,zs] at d;subst d;simp only[PX,zw,zW];exact ze (ze (sM a).2)
theorem zX.below{a:World}{fp:List Nat}(h:zX lo w tb T fp)(b:Below w.heap.size w a):zX lo a tb T fp:=h.save (zd.of (M:=[]) b) (by simp)
def qK(o:Option Nat):Value:=.tuple #[.int .i64 ((o.getD 0:Nat):Int),.bool o.isSome]
theorem uS.leapAt(h:uS lo w tb T nv ns)(a f:Nat)(k:a<T.qi.length)(s:f<T.qf):
  ∃c n d,nv=.slice (some ⟨c,0,none⟩) T.qi.length n/\c<w.heap.size/\d<w.heap.size/\(∃r:a<ns.length,d=ns[a].1)/\w.cell? ⟨c,a*2,none⟩=some (.slice (some ⟨d,0,none⟩) T.qf T.qf)/\w.cell? ⟨d,f,none⟩=some (.int .i64 ((T.qi[a].leap.getD f 0:Nat):Int)):=by
 have b:a<ns.length:=by rw[h.len];exact k
 obtain⟨c,e,q,_,j,g⟩:=y7 h.qi (by omega);obtain⟨d,l,m,_,i,o⟩:=y7 (h.leap a k b) (by omega);obtain⟨⟨rfl,_⟩,_,_⟩:=m;have p:=h.leapLen a k;refine⟨c,e,_,q,j,i,⟨b,rfl⟩,g _ _ (wI T.qf ns a b).1,o f _ ?_⟩;rw[hX,yq (by omega),gV,yq (by omega)];rfl
theorem uS.downAt(h:uS lo w tb T nv ns)(a f:Nat)(k:a<T.qi.length)(s:f<T.qf):
  ∃c n d,nv=.slice (some ⟨c,0,none⟩) T.qi.length n/\c<w.heap.size/\d<w.heap.size/\(∃r:a<ns.length,d=ns[a].2)/\w.cell? ⟨c,a*2+1,none⟩=some (.slice (some ⟨d,0,none⟩) T.qf T.qf)/\w.cell? ⟨d,f,none⟩=some (.int .i64 ((T.qi[a].down.getD f 0:Nat):Int)):=by
 have b:a<ns.length:=by rw[h.len];exact k
 obtain⟨c,e,q,_,j,g⟩:=y7 h.qi (by omega);obtain⟨d,l,m,_,i,o⟩:=y7 (h.down a k b) (by omega);obtain⟨⟨rfl,_⟩,_,_⟩:=m;have p:=h.downLen a k;refine⟨c,e,_,q,j,i,⟨b,rfl⟩,g _ _ (wI T.qf ns a b).2,o f _ ?_⟩;rw[hX,yq (by omega),gV,yq (by omega)];rfl
theorem rn(w:World)(tb:Nat)(T:zi)(fp:List Nat)(a f:Nat)(h:zX lo w tb T fp):
  Calls prog 167 #[.pointer (some ⟨tb,0,none⟩),.int .i64 a,.int .i64 f] w fun e r=>e=.returned (qK (yF T a f))/\r=w:=by
 obtain⟨nv,ns,d,rfl⟩:=h;obtain⟨u,n⟩:=d.box.rules;by_cases i:a<T.qi.length
 ·by_cases k:f<T.qf
  ·obtain⟨s,c,t,rfl,m,l,_,p,q⟩:=d.leapAt a f i k;have g:yF T a f=if T.qi[a].leap.getD f 0≥T.qf then none else some (T.qi[a].leap.getD f 0):=by
    unfold yF;rw[zb ⟨i,k⟩];simp[List.getD_eq_getElem?_getD,i]
   generalize T.qi[a].leap.getD f 0=v at *;by_cases j:v≥T.qf
   ·rw[zb j] at g;have b:=OY g;go_enter func167,ntmps167;go_wp2;go_ret2
    exact⟨by rw[b.out];rfl,rfl⟩
   ·rw[za j] at g;have b:=OY g;go_enter func167,ntmps167;go_wp2;go_ret2
    exact⟨by rw[b.out];rfl,rfl⟩
  ·have b:Hid (yF T a f=none):=by unfold yF;rw[Hid,za (by omega)]
   obtain⟨o,c,rfl⟩:=zq d.qi;go_enter func167,ntmps167;go_wp2;go_ret2
   exact⟨by rw[b.out];rfl,rfl⟩
 ·have b:Hid (yF T a f=none):=by unfold yF;rw[Hid,za (by omega)]
  obtain⟨o,c,rfl⟩:=zq d.qi;go_enter func167,ntmps167;go_wp2;go_ret2
  exact⟨by rw[b.out];rfl,rfl⟩
theorem m8(w:World)(tb:Nat)(T:zi)(fp:List Nat)(a f:Nat)(h:zX lo w tb T fp):
  Calls prog 130 #[.pointer (some ⟨tb,0,none⟩),.int .i64 a,.int .i64 f] w fun e j=>e=.returned (qK (zH T a f))/\j=w:=by
 have d:=OY (rn w tb T fp a f h);obtain⟨nv,ns,m,rfl⟩:=h;obtain⟨x,q⟩:=m.box.rules;cases g:yF T a f with
 |none=>
  have i:Hid (zH T a f=none):=by unfold zH;rw[Hid,g]
  rw[g] at d;simp only[qK,kc,jW] at d;go_enter func130,ntmps130;go_wp2_with (first|(go_at_call 167;refine d.out.mono ?_;rintro e j ⟨rfl,b⟩;obtain rfl:=b.symm))
  go_ret2
  exact⟨by rw[i.out];rfl,rfl⟩
 |some u=>
  have c:a<T.qi.length/\f<T.qf:=by
   unfold yF at g;split at g
   ·assumption
   ·cases g
  obtain⟨t,n,v,rfl,p,o,_,r,s⟩:=m.downAt a f c.1 c.2;have k:zH T a f=if u=f then some (T.qi[a].down.getD f 0) else none:=by
   unfold zH;rw[g];simp[List.getD_eq_getElem?_getD,c.1]
  rw[g] at d;simp only[qK,uo,qJ] at d;by_cases l:u=f
  ·subst l;have i:=OY k;go_enter func130,ntmps130;go_wp2_with (first|(go_at_call 167;refine d.out.mono ?_;rintro e j ⟨rfl,b⟩;obtain rfl:=b.symm))
   go_ret2
   exact⟨by rw[i.out];rfl,rfl⟩
  ·rw[za l] at k;have i:=OY k;go_enter func130,ntmps130;go_wp2_with (first|(go_at_call 167;refine d.out.mono ?_;rintro e j ⟨rfl,b⟩;obtain rfl:=b.symm))
   go_ret2
   exact⟨by rw[i.out];rfl,rfl⟩
theorem Ev(w:World)(tb:Nat)(T:zi)(fp:List Nat)(h:zX lo w tb T fp):
  Calls prog 209 #[.pointer (some ⟨tb,0,none⟩)] w fun e d=>e=.returned (.int .i64 T.count)/\d=w:=by
 obtain⟨nv,ns,a,rfl⟩:=h;obtain⟨f,b,c⟩:=a.box.boxed;clear a;go_enter func209,ntmps209;go_wp2;go_ret;exact⟨rfl,rfl⟩
end
end Go.Proofs.YteampbddflhngaaGreat
