import Derived.Deep.CutRange
import Derived.Test.YteampbddflhngaaGreatV12
namespace Go.Proofs.YteampbddflhngaaGreat
set_option maxRecDepth 100000
set_option maxHeartbeats 4000000
open Go.Proofs.Tryz Go.RowKit
section
variable {lo:Nat}{ns:List (Nat×Nat)}
theorem PI:∀(ns:List (Nat×Nat)) (k:Nat) (a:k<ns.length),(P4 ns)[k*2]?=some ns[k].1/\(P4 ns)[k*2+1]?=some ns[k].2
 |[],k,a=>by simp at a
 |p::r,0,_=>by simp[P4]
 |p::r,k+1,a=>by
  have:=PI r k (by simpa using a);simp only[P4,us] at this ⊢;rw[show(k+1)*2=k*2+1+1 from by omega,show k*2+1+1+1=k*2+1+1+1 from rfl];simpa using this
theorem ox{l:List Nat}(h:l.Nodup){i j x y:Nat}(b:l[i]?=some x)(c:l[j]?=some y)(a:i≠j):x≠y:=by
 obtain⟨e,rfl⟩:=jG.1 b;obtain⟨d,rfl⟩:=jG.1 c;exact GV (f:=id) (by simpa using h) e d a
theorem rP(h:(P4 ns).Nodup){i j:Nat}(a:i<ns.length)(b:j<ns.length):(i≠j->ns[i].1≠ns[j].1/\ns[i].2≠ns[j].2)/\ns[i].1≠ns[j].2:=
 ⟨fun c=>⟨ox h (PI ns i a).1 (PI ns j b).1 (by omega),ox h (PI ns i a).2 (PI ns j b).2 (by omega)⟩,ox h (PI ns i a).1 (PI ns j b).2 (by omega)⟩
def setNode(T:zi)(a:Nat)(n:vI):zi:={T with qi:=T.qi.set a n}
theorem uS.setLeap{w:World}{tb:Nat}{T:zi}{o:Value}(h:uS lo w tb T o ns)(a u x:Nat)(n:a<T.qi.length)(m:a<ns.length)(p:u<T.qf):
  uS lo (w.setCell ⟨ns[a].1,u,none⟩ (.int .i64 x)) tb (setNode T a ⟨T.qi[a].leap.set u x,T.qi[a].down⟩) o ns:=by
 have r:=h.leapLen a n;have j:=zd.set w ns[a].1 u (.int .i64 x);have l:=h.leap a n m;refine⟨h.low,h.box.save j (by have:=xL l h.box (by decide) rfl;simpa using Ne.symm this),?_,by simpa [setNode] using h.len,fun i k c=>?_,fun i k c=>?_,h.apart,h.wide,by simpa [setNode] using h.many,h.deep,h.few⟩
 ·have:=yI h.qi j (fun b g d=>fS l h.qi (by decide) rfl (by simp at d;rw[←d];exact g));simpa [setNode] using this
 ·have f:i<T.qi.length:=by simpa [setNode] using k
  by_cases e:i=a
  ·subst e;have q:=uK l u (by simp;omega) (.int .i64 x);simp only[setNode,mV];rw[fu];exact q
  ·simp only[setNode,mU (Ne.symm e)];exact yI (h.leap i f c) j (fun b g d=>by simp[sl,Value.ownBlock] at g d;exact((rP h.apart c m).1 e).1 (g.trans d))
 ·have f:i<T.qi.length:=by simpa [setNode] using k
  have q:=yI (h.down i f c) j (fun b g d=>by simp[sl,Value.ownBlock] at g d;exact(rP h.apart m c).2 (d.symm.trans g.symm));by_cases e:i=a
  ·subst e;simp only[setNode,mV];exact q
  ·simp only[setNode,mU (Ne.symm e)];exact q
theorem uS.setDown{w:World}{tb:Nat}{T:zi}{o:Value}(h:uS lo w tb T o ns)(a u x:Nat)(n:a<T.qi.length)(m:a<ns.length)(p:u<T.qf):
  uS lo (w.setCell ⟨ns[a].2,u,none⟩ (.int .i64 x)) tb (setNode T a ⟨T.qi[a].leap,T.qi[a].down.set u x⟩) o ns:=by
 have r:=h.downLen a n;have j:=zd.set w ns[a].2 u (.int .i64 x);have l:=h.down a n m;refine⟨h.low,h.box.save j (by have:=xL l h.box (by decide) rfl;simpa using Ne.symm this),?_,by simpa [setNode] using h.len,fun i k c=>?_,fun i k c=>?_,h.apart,h.wide,by simpa [setNode] using h.many,h.deep,h.few⟩
 ·have:=yI h.qi j (fun b g d=>fS l h.qi (by decide) rfl (by simp at d;rw[←d];exact g));simpa [setNode] using this
 ·have f:i<T.qi.length:=by simpa [setNode] using k
  have q:=yI (h.leap i f c) j (fun b g d=>by simp[sl,Value.ownBlock] at g d;exact(rP h.apart c m).2 (g.trans d));by_cases e:i=a
  ·subst e;simp only[setNode,mV];exact q
  ·simp only[setNode,mU (Ne.symm e)];exact q
 ·have f:i<T.qi.length:=by simpa [setNode] using k
  by_cases e:i=a
  ·subst e;have q:=uK l u (by simp;omega) (.int .i64 x);simp only[setNode,mV];rw[fu];exact q
  ·simp only[setNode,mU (Ne.symm e)];exact yI (h.down i f c) j (fun b g d=>by simp[sl,Value.ownBlock] at g d;exact((rP h.apart c m).1 e).2 (g.trans d))
structure P3 (lo:Nat) (w w':World) (tb:Nat) (T:zi) (fp:List Nat) (fp':List Nat):Prop where
 trie:zX lo w' tb T fp'
 save:zd fp w w'
 qo:∀b∈fp',b∈fp∨w.heap.size<=b
theorem LK(T:zi)(a:Nat)(n m:vI):setNode (setNode T a n) a m=setNode T a m:=by simp[setNode]
theorem FU{T:zi}{a v d:Nat}(b:a<T.qi.length)(c:v<T.qf):ya T a v d=setNode T a ⟨jJ v (v+1) T.qi[a].leap,T.qi[a].down.set v d⟩:=by
 unfold ya;rw[zb ⟨b,c⟩];simp[setNode,fU,List.getD_eq_getElem?_getD,b]
theorem Q1(w:World)(tb:Nat)(T:zi)(fp:List Nat)(a v d:Nat)(h:zX lo w tb T fp):
  Calls prog 203 #[.pointer (some ⟨tb,0,none⟩),.int .i64 a,.int .i64 v,.int .i64 d] w fun e w'=>e=.returned (.tuple #[])/\P3 lo w w' tb (ya T a v d) fp fp:=by
 have Q:=h;obtain⟨nv,ns,f,rfl⟩:=h;have ab:=f.wide;have Z:=f.many;by_cases A:a<T.qi.length
 ·by_cases U:v<T.qf
  ·have i:a<ns.length:=by rw[f.len];exact A
   have G:Hid (ya T a v d=setNode T a ⟨jJ v (v+1) T.qi[a].leap,T.qi[a].down.set v d⟩):=FU A U;obtain⟨H,j,gl,rfl,I,F,⟨_,rfl⟩,B,q⟩:=f.downAt a v A U;obtain⟨M,r,p⟩:=f.box.boxed;have R:=qt (f.down a A i);have D:=qt (f.leap a A i);have y:=f.setDown a v d A i U;have H1:=OY f;clear f Q;have N:T.qi[a].down.set v d=T.qi[a].down.set v d:=rfl;generalize P:T.qi[a].down.set v d=C at *;generalize O:T.qi[a].leap=W at *;clear N P O;go_enter func203,ntmps203;go_wp2;clear B q M r p R D F I;go_loopw [8] (fun V wr=>∃(n:Nat) (l:List Nat),n<=v+1/\V=.int .i64 ((n:Int)-1)/\uS lo wr tb (setNode T a ⟨l,C⟩) (.slice (some ⟨H,0,none⟩) T.qi.length j) ns/\Hid (jJ v (v+1) W=jJ v n l)/\zd (PX tb (.slice (some ⟨H,0,none⟩) T.qi.length j) ns) w wr) (fun V _=>(intOf V+1).toNat)
   case atStart=>
    refine⟨v+1,W,zh _,by go_num,y,rfl,(zd.set _ _ _ _).more fun x t=>?_⟩;simp only[ud] at t;subst t;simp only[PX,zw,zW];exact ze (ze (sM i).2)
   case round=>
    clear y;obtain⟨n,l,hn,rfl,c,u,J⟩:=hrel;have s:a<(setNode T a ⟨l,C⟩).qi.length:=by simpa [setNode] using A
    have g:(setNode T a ⟨l,C⟩).qi[a]=⟨l,C⟩:=by simp[setNode]
    have k:(setNode T a ⟨l,C⟩).qf=T.qf:=rfl;obtain⟨M,r,p⟩:=c.box.boxed;have D:=qt (c.leap a s i);have o:Hid (jJ v n l=l->P3 lo w wr tb (ya T a v d) (PX tb (.slice (some ⟨H,0,none⟩) T.qi.length j) ns) (PX tb (.slice (some ⟨H,0,none⟩) T.qi.length j) ns)):=fun e=>⟨⟨_,ns,by rw[G.out,u.out,e];exact c,rfl⟩,J,fun b K=>zf K⟩;cases n with
    |zero=>
     clear c;go_wp2;go_end0
     exact⟨rfl,o.out rfl⟩
    |succ m=>
     have e:((m+1:Nat):Int)-1=(m:Int):=by omega
     rw[e];have X:m<T.qf:=by omega
     obtain⟨ac,Y,gl,E,I,F,⟨_,rfl⟩,B,q⟩:=c.leapAt a m s (by rw[k];exact X);simp only[Value.slice.injEq,zs,Addr.mk.injEq] at E;obtain⟨⟨rfl,_⟩,_,rfl⟩:=E;rw[g] at q;rw[k] at B;have z:=c.setLeap a m v s i (by rw[k];exact X);rw[g,LK] at z;have L:Hid (jJ v (m+1) l=if l.getD m 0>v then jJ v m (l.set m v) else l):=by rw[Hid,jJ]
     have aa:=OY c;clear c s g e;have S:Hid (uS lo (wr.setCell ⟨ns[a].1,m,none⟩ (.int .i64 v)) tb (setNode T a ⟨l.set m v,C⟩) (.slice (some ⟨H,0,none⟩) T.qi.length j) ns):=z;clear z;simp only at q;generalize l.getD m 0=x at *;by_cases t:x>v
     ·rw[zb t] at L;go_wp2;go_roundw
      case rel=>
       refine⟨m,l.set m v,by omega,by go_num,S.out,u.trans L,J.trans ((zd.set _ _ _ _).more fun x t=>?_)⟩;simp only[ud] at t;subst t;simp only[PX,zw,zW];exact ze (ze (sM i).1)
      case measure=>simp[intOf]
     ·rw[za t] at L;go_wp2;go_end0
      exact⟨rfl,o.out L.out⟩
  ·have G:Hid (ya T a v d=T):=by unfold ya;rw[Hid,za (by omega)]
   obtain⟨ao,j,rfl⟩:=zq f.qi;obtain⟨M,r,p⟩:=f.box.boxed;clear f;go_enter func203,ntmps203;go_wp2
   (try simp only[Exit.inBlock,Exit.then]);refine zJ (results_none rfl _ _ _) rfl ?_
   exact⟨rfl,by rw[G.out];exact⟨Q,zd.refl _ _,fun b K=>zf K⟩⟩
 ·have G:Hid (ya T a v d=T):=by unfold ya;rw[Hid,za (by omega)]
  obtain⟨ao,j,rfl⟩:=zq f.qi;obtain⟨M,r,p⟩:=f.box.boxed;clear f;go_enter func203,ntmps203;go_wp2
  (try simp only[Exit.inBlock,Exit.then]);refine zJ (results_none rfl _ _ _) rfl ?_
  exact⟨rfl,by rw[G.out];exact⟨Q,zd.refl _ _,fun b K=>zf K⟩⟩
end
section
variable {lo:Nat}
theorem OT:(prog.info? 273).map (fun i=>(i.zero,i.size,i.bytes))=some (some (.agg #[.slice none 0 0,.slice none 0 0]),2,48):=by kernel_rfl
section
variable {P:Program} {ops:Array Oper} {o:Oper} {a:Act} {K:Act->World->Prop} {Q:Exit->Act->World->Prop}
theorem dX{E:Prop}(D B:World)(l:List Value)(te:TypeId)(hg:o.guard=none)(s x:Operand)(t:TypeId)
  (U:o.op=.call {callee:=.builtin .append,args:=#[s,x],argTypes:=#[t,t]})
  (p:Nat) (e:TypeId) (i:TypeInfo) (z:Value) (d f:Nat) (V:P.underlying t=some (.slice e)) (hi:P.info? e=some i) (W:i.zero=some z)
  (A:i.size=d) (M:i.bytes=f) (H:z.cells.size=d) (R:0<d)
  (v:Value) (n:Nat) (I:List Value) (X:a.eval s=v) (F:D.ownsRow p e d v n I) (q:Below D.heap.size D B)
  (b c:Nat) (T:a.eval x=.slice (some ⟨b,0,none⟩) 1 c) (hb:OZ B b l.toArray te) (hl:l.length=d) (h1:∀u∈l,u.oneCell'=true)
  (hn:n<=10000000000) (r:f<=1000) (J:p<=D.heap.size)
  (h:∀C w,w.ownsRow p e d C (n+1) (I++l)->zd v.ownBlock.toList D w->(C.ownBlock=v.ownBlock∨∃g,C.ownBlock=some g/\D.heap.size<=g)->(∀k,k<B.heap.size->some k≠v.ownBlock->w.heap[k]?=B.heap[k]?)->B.heap.size<=w.heap.size->K (a.put o.dst C) w):
  if Region.wanted o (yielded ops a.tmps)=true then Oper.wp P o a B K Q else E:=by
 have Z:Region.wanted o (yielded ops a.tmps)=true:=by simp[Region.wanted,hg]
 rw[zb Z];have y:=zE F q;have S:=q.size;obtain⟨C,w,hr,h2,m,_,N⟩:=run_append_own_at (P:=P) B p t o.type e i z d f V hi W A M H R v n I y ⟨b,0,none⟩ 1 c l (by omega) (by
  intro j u Y;rw[Addr.add_lit,uL,hb.rules.1];simpa using Y) h1 (by unfold maxLen;omega) (by
  have:(n+1)*f<=10000000001*1000:=Nat.mul_le_mul (by omega) r;omega) (by omega)
 unfold Oper.wp execOp;simp only[U,resolve,invoke,builtin,Sem.run_bind,Sem.run_pure,Result.andThen_ok,List.map_toArray,jx,List.map_nil,X,T,hr];refine h C w h2 ⟨m.os.trans q.os,m.tape.trans q.tape,m.output.trans q.output,by have:=m.size;omega,fun k L hm=>?_⟩ ?_ (fun k L G=>m.block k L G) m.size
 ·rw[m.block k (by omega) (fun e=>hm (by rw[←e];simp))];exact q.block k L
 ·rcases N with O|O
  ·exact zf O
  ·exact ze ⟨_,O,by omega⟩
end
theorem CO{W:World}{g n:Nat}{T:TypeId}(h:W.heap[g]?=some (.cells (madeCells #[.int .i64 0] n) T (0,0)))(c:lo<=g)(d:n<=maxLen):W.ownsRow lo T 1 (sl g n) n ((List.replicate n 0).map PF):=by
 refine⟨by simp,ze ⟨g,n,madeCells #[.int .i64 0] n,rfl,c,h,zh _,d,by rw[size_madeCells];omega,?_⟩⟩;apply mo;intro i;by_cases b:i<n
 ·simp[b,madeCells,PF,Nat.mod_one]
 ·simp[List.getElem?_take,b]
theorem l7(w:World)(a b c:Obj):((((w.alloc a).alloc b).alloc c).drew).heap[w.heap.size]?=some a/\((((w.alloc a).alloc b).alloc c).drew).heap[w.heap.size+1]?=some b/\((((w.alloc a).alloc b).alloc c).drew).heap[w.heap.size+1+1]?=some c:=by
 refine⟨?_,?_,?_⟩
 ·show(((w.heap.push a).push b).push c)[w.heap.size]?=_;simp[Array.getElem?_push];omega
 ·show(((w.heap.push a).push b).push c)[w.heap.size+1]?=_;rw[Array.getElem?_push,za (by simp),Array.getElem?_push,zb (by simp)]
 ·show(((w.heap.push a).push b).push c)[w.heap.size+1+1]?=_;rw[Array.getElem?_push,zb (by simp)]
theorem MC(wd:Nat)(ns:List (Nat×Nat))(x:Nat×Nat):ft wd (ns++[x])=ft wd ns++[sl x.1 wd,sl x.2 wd]:=by simp[ft]
theorem Ef(ns:List (Nat×Nat))(x:Nat×Nat):P4 (ns++[x])=P4 ns++[x.1,x.2]:=by simp[P4]
theorem uS.grow{w wr s:World}{tb:Nat}{T:zi}{t c:Value}{ns:List (Nat×Nat)}{n l:Nat}(h:uS lo w tb T t ns)(u:Below w.heap.size w wr)(W:w.heap.size<=n)(V:w.heap.size<=l)(H:n≠l)
  (h1:wr.ownsRow w.heap.size 3 1 (sl n T.qf) T.qf ((List.replicate T.qf T.qf).map PF)) (Z:wr.ownsRow w.heap.size 3 1 (sl l T.qf) T.qf ((List.replicate T.qf 0).map PF))
  (L:zd t.ownBlock.toList wr s) (B:s.ownsRow lo 273 2 c (T.qi.length+1) (ft T.qf ns++[sl n T.qf,sl l T.qf])) (N:c.ownBlock=t.ownBlock∨∃g,c.ownBlock=some g/\wr.heap.size<=g) (F:T.qi.length<100000000):
  ∃I,P3 lo w (s.setCell ⟨tb,2,none⟩ c) tb (yx T) (PX tb t ns) I:=by
 have z:lo<=w.heap.size:=by have:=h.low;have:=h.box.lt;omega
 have y:=h.box.below u;have A:=zE h.qi u;have p:=y.save L (qD A y (by decide));have j:=zd.set s tb 2 c;have U:∀{E:Nat} {e:TypeId} {s1:Nat} {v:Value} {G:Nat} {D:List Value},s.ownsRow E e s1 v G D->e≠229->∀b,v.ownBlock=some b->b∉[tb]:=fun B hT b r F=>xL B p hT r (by simpa using F);have m:∀{E:Nat} {v:Value} {G:Nat} {D:List Value},wr.ownsRow E 3 1 v G D->(s.setCell ⟨tb,2,none⟩ c).ownsRow E 3 1 v G D:=fun q=>by
  have S:=yI q L (fun b r F=>fS q A (by decide) r (yv F));exact yI S j (U S (by decide))
 have O:zd (PX tb t ns) w (s.setCell ⟨tb,2,none⟩ c):=((zd.of (M:=PX tb t ns) u).newer L (fun x C=>zf (by simp only[PX,zw,zW];exact ze (zf C)))).newer j (fun x C=>zf (by simp at C;simp[PX,C]));refine⟨_,⟨c,ns++[(n,l)],⟨h.low,?_,?_,by simp[yx,h.len],fun i R J=>?_,fun i R J=>?_,?_,h.wide,by simp[yx];omega,h.deep,h.few⟩,rfl⟩,O,fun b k=>?_⟩
 ·have X:=p.set 2 c;simpa [yx] using X
 ·rw[MC];have:=yI B j (U B (by decide));simpa [yx] using this
 ·simp[yx] at R;by_cases d:i<T.qi.length
  ·have f:i<ns.length:=by rw[h.len];exact d
   simp only[yx,uT d,uT f];exact m (zE (h.leap i d f) u)
  ·obtain rfl:i=T.qi.length:=by omega
   have e:(ns++[(n,l)])[T.qi.length]=(n,l):=by simp[←h.len]
   rw[e];simp only[yx,pR];exact m (yr h1 z)
 ·simp[yx] at R;by_cases d:i<T.qi.length
  ·have f:i<ns.length:=by rw[h.len];exact d
   simp only[yx,uT d,uT f];exact m (zE (h.down i d f) u)
  ·obtain rfl:i=T.qi.length:=by omega
   have e:(ns++[(n,l)])[T.qi.length]=(n,l):=by simp[←h.len]
   rw[e];simp only[yx,pR];exact m (yr Z z)
 ·rw[Ef,nY];refine⟨h.apart,by simp[H],fun a Y b k e=>?_⟩;have:=(h.lt a (by simp only[PX,zw,zW];exact ze (ze Y))).2;simp at k;omega
 ·simp only[PX,zw,zW,Ef] at k ⊢;rcases k with q|q|q|q
  ·simp[q]
  ·rcases N with e|⟨g,e,hg⟩
   ·rw[e] at q;simp[q]
   ·rw[e] at q;simp at q;have:=u.size;right;omega
  ·simp[q]
  ·simp at q;right;omega
theorem G6(k n x:Nat)(c:k<n):((List.replicate k x++List.replicate (n-k) 0).map PF)[k]?=some (.int .i64 (0:Int)):=by
 obtain⟨m,b⟩:∃m,n-k=m+1:=⟨n-k-1,by omega⟩;rw[b,hX,g6 (by simp),List.length_replicate,jK];rfl
theorem GZ(k n x:Nat)(c:k<n):((List.replicate k x++List.replicate (n-k) 0).map PF).set k (.int .i64 x)=(List.replicate (k+1) x++List.replicate (n-(k+1)) 0).map PF:=by
 obtain⟨m,b⟩:∃m,n-k=m+1:=⟨n-k-1,by omega⟩;rw[show n-(k+1)=m from by omega,b,show Value.int .i64 x=PF x from rfl,←fu,fA _ _ (by simp),List.length_replicate,jK,List.replicate_succ' (n:=k),ki];rfl
def sY(w b:World)(wd:Nat)(s:Value):Prop:=∃e c d,s=.pointer (some ⟨e,0,none⟩)/\c≠d/\w.heap.size<=e/\OZ b e #[.slice (some ⟨c,0,none⟩) wd wd,.slice (some ⟨d,0,none⟩) wd wd] 273/\b.ownsRow w.heap.size 3 1 (sl c wd) wd ((List.replicate wd 0).map PF)/\b.ownsRow w.heap.size 3 1 (sl d wd) wd ((List.replicate wd 0).map PF)/\Below w.heap.size w b
theorem sY.mk'{w d:World}{wd e b c:Nat}(f:OZ d e #[.slice (some ⟨b,0,none⟩) wd wd,.slice (some ⟨c,0,none⟩) wd wd] 273)(m:d.heap[b]?=some (.cells (madeCells #[.int .i64 0] wd) 3 (0,0)))(k:d.heap[c]?=some (.cells (madeCells #[.int .i64 0] wd) 3 (0,0)))(g:b≠c)(h:w.heap.size<=e)(l:w.heap.size<=b)(i:w.heap.size<=c)(n:wd<=1000)(j:Below w.heap.size w d):sY w d wd (.pointer (some ⟨e,0,none⟩)):=
 ⟨e,b,c,rfl,g,h,f,CO m l (by unfold maxLen;omega),CO k i (by unfold maxLen;omega),j⟩
theorem DJ(w:World)(tb:Nat)(T:zi)(fp:List Nat)(h:zX lo w tb T fp)(hm:T.qi.length<100000000):
  Calls prog 162 #[.pointer (some ⟨tb,0,none⟩)] w fun e R=>e=.returned (.int .i64 T.qi.length)/\∃r,P3 lo w R tb (yx T) fp r:=by
 obtain⟨nv,ns,H,rfl⟩:=h;have ad:=H.wide;have aj:=H.many;have U:=fun W:World=>run_make_row' (P:=prog) (w:=W) 24 3 (.int .i64 0) 8 underlying24 ON rfl .i64 .i64 T.qf (by omega) (by omega);obtain⟨y,m,l⟩:=H.box.boxed;have t:=OY H;clear H;have L:w.cell? ⟨tb,0,none⟩=some (.int .i64 T.qf):=by simp[y]
 go_enter func162,ntmps162;go_upto_region 1 with fail
 go_cut [3] from 5 to 15 (fun s3 wx=>sY w wx T.qf s3)
 case first=>
  go_region_held3 (fun R=>R.cell? ⟨tb,0,none⟩=some (.int .i64 T.qf)) (exact(Below.cell (w:=w) (p:=⟨tb,0,none⟩) (show Below w.heap.size w _ from(by go_grown)) l).trans L) (fail)
  all_goals
   go_wp2_with fail
   go_meet
   case rel=>
    apply sY.mk'
    ·first|exact(l7 w _ _ _).1|exact(l7 w _ _ _).2.1|exact(l7 w _ _ _).2.2
    ·first|exact(l7 w _ _ _).1|exact(l7 w _ _ _).2.1|exact(l7 w _ _ _).2.2
    ·first|exact(l7 w _ _ _).1|exact(l7 w _ _ _).2.1|exact(l7 w _ _ _).2.2
    ·omega
    ·omega
    ·omega
    ·omega
    ·exact ad
    ·exact(by go_grown)
 case rest=>
  obtain⟨nb,s,Y,rfl,M,ar,g,c,j,f⟩:=hcut;clear U L y m l;obtain⟨x,D,J⟩:=g.boxed;have d:=t.out.box.below f;obtain⟨y,m,l⟩:=d.boxed;go_wp2;clear x D J y m l;go_loopw [19] (fun ab wr=>∃k:Nat,k<=T.qf/\ab=.int .i64 k/\OZ wr nb #[.slice (some ⟨s,0,none⟩) T.qf T.qf,.slice (some ⟨Y,0,none⟩) T.qf T.qf] 273/\OZ wr tb #[.int .i64 T.qf,.int .i64 T.ql,nv,.int .i64 T.count] 229/\wr.ownsRow w.heap.size 3 1 (sl s T.qf) T.qf ((List.replicate k T.qf++List.replicate (T.qf-k) 0).map PF)/\wr.ownsRow w.heap.size 3 1 (sl Y T.qf) T.qf ((List.replicate T.qf 0).map PF)/\Below w.heap.size w wr) (fun i _=>T.qf-(intOf i).toNat)
  case atStart=>exact⟨0,zv _,rfl,g,d,by simpa using c,j,f⟩
  case round=>
   clear g c j f d;obtain⟨k,hk,rfl,g,d,c,j,f⟩:=hrel;obtain⟨x,D,J⟩:=g.boxed;obtain⟨y,m,l⟩:=d.boxed;by_cases E:k<T.qf
   ·have am:=yO c rfl;have z:=yW c rfl;have ai:=qt c;obtain⟨an,ag,hv,_,_,A⟩:=y7 c (by omega);simp only[sl,Value.slice.injEq,zs,Addr.mk.injEq] at hv;obtain⟨⟨rfl,_⟩,_,C⟩:=hv;clear C;have Z:=A k _ (G6 k T.qf T.qf E);have n:=uK c k (by simp;omega) (.int .i64 T.qf);rw[GZ k T.qf T.qf E] at n;have O:s≠nb:=xL c g (by decide) rfl;have ac:s≠tb:=xL c d (by decide) rfl;have v:=yI j (zd.set wr s k (.int .i64 T.qf)) (fun b hb hm=>by simp[sl,Value.ownBlock] at hb hm;omega);have I:=g.set_ne (Ne.symm O) k (.int .i64 T.qf);have G:=d.set_ne (Ne.symm ac) k (.int .i64 T.qf);have aa:=f.setCell (p:=⟨s,k,none⟩) z (.int .i64 T.qf);clear A;go_wp2;go_region
    all_goals
     go_wp2;go_roundw
     case rel=>exact⟨k+1,by omega,by go_num,OZ.drew I,OZ.drew G,zE n (zo _ _).drew,zE v (zo _ _).drew,aa.drew⟩
     case measure=>simp[intOf];omega
   ·obtain rfl:k=T.qf:=by omega
    rw[jK,List.replicate_zero,qA] at c;obtain⟨i0,hi,V,N,S⟩:=info_parts OT;obtain⟨ao,X,rfl⟩:=zq t.out.qi;have q:=zE t.out.qi f;have av:lo<=w.heap.size:=by have:=t.out.low;have:=t.out.box.lt;omega
    have ak:=f.size;go_wp2;go_region_law (first|(refine dX wr _ [.slice (some ⟨s,0,none⟩) T.qf T.qf,.slice (some ⟨Y,0,none⟩) T.qf T.qf] 273 rfl (.tmp 35) (.tmp 37) 227 rfl lo 273 i0 _ 2 48 underlying227 hi V N S rfl (by decide) (.slice ao T.qi.length X) T.qi.length (ft T.qf ns) (by simp[Act.eval]) q (by exact(by go_grown)) wr.heap.size 1 (by simp[Act.eval]) (by exact OZ.drew (OZ.new _ _ _)) rfl (by simp[Value.oneCell']) (by omega) (by omega) (by omega) ?_;intro v' w2 B F u aw ah;obtain⟨ap,af,rfl⟩:=zq B;have ae:=d.save F (qD q d (by decide));obtain⟨au,aq,al⟩:=ae.boxed))
    all_goals
     obtain⟨r,hW⟩:=t.out.grow f (yW c rfl) (yW j rfl) M c j F B u hm;have HW:=OY hW;clear hW;go_wp2;go_ret;exact⟨by simp,r,HW.out⟩
theorem NV(d:Nat):yY d<=3:=by unfold yY;(repeat' split)<;>omega
theorem iw(w:World)(wd c:Nat)(z:wd<=1000)(t:c<=100000000):
  Calls prog 119 #[.int .i64 wd,.int .i64 c] w fun e m=>∃r g,e=.returned (.pointer (some ⟨r,0,none⟩))/\zX w.heap.size m r (yS wd c) g/\Below w.heap.size w m:=by
 have n:∀a b:Nat,a=yn wd->b=yY c->uS w.heap.size (w.alloc (.cells #[.int .i64 a,.int .i64 b,.slice none 0 0,.int .i64 0] 229)) w.heap.size ⟨yn wd,yY c,[],0⟩ (.slice none 0 0) []:=by
  rintro a b rfl rfl;refine⟨zh _,OZ.new _ _ _,yK _ _ _ _,rfl,fun i h=>by simp at h,fun i h=>by simp at h,by simp[P4],?_,by simp,?_,by simp⟩
  ·simp only[yn];split<;>omega
  ·exact NV c
 have k:Hid (∀a b:Nat,a=yn wd->b=yY c->Calls prog 162 #[.pointer (some ⟨w.heap.size,0,none⟩)] (w.alloc (.cells #[.int .i64 a,.int .i64 b,.slice none 0 0,.int .i64 0] 229)) fun e m=>∃g,e=.returned (.int .i64 0)/\zX w.heap.size m w.heap.size (yS wd c) g/\Below w.heap.size w m):=fun a b v j=>by
  refine(DJ _ _ _ _ ⟨_,_,n a b v j,rfl⟩ (by simp)).mono fun e m ⟨u,q,s⟩=>⟨q,u,s.trie,?_⟩;exact((zo w.heap.size w).alloc (zh _) _).trans (s.save.below (by simp[PX,P4,Value.ownBlock]) (by simp))
 clear n;by_cases A:wd<1
 ·by_cases x:c<1
  ·have d:1=yn wd:=by unfold yn;split<;>omega
   have f:1=yY c:=by unfold yY;(repeat' split)<;>omega
   have H:=OY (k.out _ _ d f);clear d f k;go_enter func119,ntmps119;go_wp2_with (first|(go_at_call 162;refine H.out.mono ?_;rintro e p ⟨g,rfl,l,j⟩))
   go_ret;exact⟨_,g,rfl,l,j⟩
  ·by_cases y:c>3
   ·have d:1=yn wd:=by unfold yn;split<;>omega
    have f:3=yY c:=by unfold yY;(repeat' split)<;>omega
    have H:=OY (k.out _ _ d f);clear d f k;go_enter func119,ntmps119;go_wp2_with (first|(go_at_call 162;refine H.out.mono ?_;rintro e p ⟨g,rfl,l,j⟩))
    go_ret;exact⟨_,g,rfl,l,j⟩
   ·have d:1=yn wd:=by unfold yn;split<;>omega
    have f:c=yY c:=by unfold yY;(repeat' split)<;>omega
    have H:=OY (k.out _ _ d f);clear d f k;go_enter func119,ntmps119;go_wp2_with (first|(go_at_call 162;refine H.out.mono ?_;rintro e p ⟨g,rfl,l,j⟩))
    go_ret;exact⟨_,g,rfl,l,j⟩
 ·by_cases x:c<1
  ·have d:wd=yn wd:=by unfold yn;split<;>omega
   have f:1=yY c:=by unfold yY;(repeat' split)<;>omega
   have H:=OY (k.out _ _ d f);clear d f k;go_enter func119,ntmps119;go_wp2_with (first|(go_at_call 162;refine H.out.mono ?_;rintro e p ⟨g,rfl,l,j⟩))
   go_ret;exact⟨_,g,rfl,l,j⟩
  ·by_cases y:c>3
   ·have d:wd=yn wd:=by unfold yn;split<;>omega
    have f:3=yY c:=by unfold yY;(repeat' split)<;>omega
    have H:=OY (k.out _ _ d f);clear d f k;go_enter func119,ntmps119;go_wp2_with (first|(go_at_call 162;refine H.out.mono ?_;rintro e p ⟨g,rfl,l,j⟩))
    go_ret;exact⟨_,g,rfl,l,j⟩
   ·have d:wd=yn wd:=by unfold yn;split<;>omega
    have f:c=yY c:=by unfold yY;(repeat' split)<;>omega
    have H:=OY (k.out _ _ d f);clear d f k;go_enter func119,ntmps119;go_wp2_with (first|(go_at_call 162;refine H.out.mono ?_;rintro e p ⟨g,rfl,l,j⟩))
    go_ret;exact⟨_,g,rfl,l,j⟩
theorem O0(x y z:Value)(w:World):(Instr.index 165 (.agg #[x,y,z]) (.int .i64 0)).run prog w=.ok x w:=by kernel_rfl
theorem OF(x y z:Value)(w:World):(Instr.index 165 (.agg #[x,y,z]) (.int .i64 1)).run prog w=.ok y w:=by kernel_rfl
theorem Ox(x y z:Value)(w:World):(Instr.index 165 (.agg #[x,y,z]) (.int .i64 2)).run prog w=.ok z w:=by kernel_rfl
theorem P3.trans{w e d:World}{tb:Nat}{g f:zi}{fp a c:List Nat}(h:P3 lo w e tb g fp a)(k:P3 lo e d tb f a c):P3 lo w d tb f fp c:=
 ⟨k.trie,h.save.newer k.save h.qo,fun b i=>(k.qo b i).elim (h.qo b) fun q=>ze (zT h.save.size q)⟩
theorem P3.refl{w:World}{tb:Nat}{T:zi}{fp:List Nat}(h:zX lo w tb T fp):P3 lo w w tb T fp fp:=⟨h,zd.refl _ _,fun _ a=>zf a⟩
theorem P3.below{w b:World}{tb:Nat}{T:zi}{fp:List Nat}(h:zX lo w tb T fp)(a:Below w.heap.size w b):P3 lo w b tb T fp fp:=⟨h.below a,zd.of a,fun _ a=>zf a⟩
theorem Ah(T:zi)(a v d:Nat):(ya T a v d).qi.length=T.qi.length/\(ya T a v d).count=T.count/\(ya T a v d).ql=T.ql/\(ya T a v d).qf=T.qf:=by
 unfold ya;split<;>simp
theorem oG(T:zi)(a v:Nat):(qk T a v).1.qi.length<=T.qi.length+1/\(qk T a v).1.count=T.count/\(qk T a v).1.ql=T.ql/\(qk T a v).1.qf=T.qf:=by
 unfold qk;split
 ·simp
 ·obtain⟨d,c,e,b⟩:=Ah (yx T) a v T.qi.length;simp only[d,c,e,b];simp[yx]
theorem Bv(w:World)(tb:Nat)(T:zi)(fp:List Nat)(a v:Nat)(h:zX lo w tb T fp)(r:T.qi.length<100000000):
  Calls prog 191 #[.pointer (some ⟨tb,0,none⟩),.int .i64 a,.int .i64 v] w fun e o=>e=.returned (.int .i64 ((qk T a v).2:Nat))/\∃m,P3 lo w o tb (qk T a v).1 fp m:=by
 have d:=OY (m8 w tb T fp a v h);cases l:zH T a v with
 |some b=>
  have f:Hid (qk T a v=(T,b)):=by unfold qk;rw[Hid,l]
  rw[l] at d;simp only[qK,uo,qJ] at d;have s:=OY h;go_enter func191,ntmps191;go_wp2_with (first|(go_at_call 130;refine d.out.mono ?_;rintro e o ⟨rfl,c⟩;obtain rfl:=c.symm))
  go_ret;exact⟨by rw[f.out];rfl,fp,by rw[f.out];exact P3.refl s.out⟩
 |none=>
  have f:Hid (qk T a v=(ya (yx T) a v T.qi.length,T.qi.length)):=by unfold qk;rw[Hid,l]
  rw[l] at d;simp only[qK,kc,jW] at d;have p:=OY (DJ w tb T fp h r);go_enter func191,ntmps191;go_wp2_with (first|(go_at_call 130;refine d.out.mono ?_;rintro e o ⟨rfl,c⟩;obtain rfl:=c.symm)|(go_at_call 162;refine p.out.mono ?_;rintro e q ⟨rfl,i,j⟩;have g:=OY j;clear j)|(go_at_call 203;refine(Q1 q tb (yx T) i a v T.qi.length g.out.trie).mono ?_;rintro e t ⟨rfl,k⟩;have n:=OY k;clear k))
  go_ret;exact⟨by rw[f.out];rfl,i,by rw[f.out];exact g.out.trans n.out⟩
theorem uS.setCount{w:World}{tb:Nat}{T:zi}{f:Value}{ns:List (Nat×Nat)}(h:uS lo w tb T f ns)(n:Nat)(o:n<=1000000000):P3 lo w (w.setCell ⟨tb,3,none⟩ (.int .i64 n)) tb {T with count:=n} (PX tb f ns) (PX tb f ns):=by
 have a:=zd.set w tb 3 (.int .i64 n);have g:∀{q:Nat} {e:TypeId} {u:Nat} {v:Value} {k:Nat} {l:List Value},w.ownsRow q e u v k l->e≠229->∀b,v.ownBlock=some b->b∉[tb]:=fun m t b j s=>xL m h.box t j (by simpa using s);refine⟨⟨f,ns,⟨h.low,?_,yI h.qi a (g h.qi (by decide)),h.len,fun i d c=>yI (h.leap i d c) a (g (h.leap i d c) (by decide)),fun i d c=>yI (h.down i d c) a (g (h.down i d c) (by decide)),h.apart,h.wide,h.many,h.deep,o⟩,rfl⟩,a.more (by simp[PX]),fun b r=>zf r⟩;have p:=h.box.set 3 (.int .i64 n);simpa using p
theorem io(w:World)(tb:Nat)(T:zi)(fp:List Nat)(a v m:Nat)(h:zX lo w tb T fp)(u:T.count<1000000000):
  Calls prog 190 #[.pointer (some ⟨tb,0,none⟩),.int .i64 a,.int .i64 v,.int .i64 m] w fun e n=>e=.returned (.bool (fe T a v m).2)/\∃o,P3 lo w n tb (fe T a v m).1 fp o:=by
 have g:=OY (m8 w tb T fp a v h);cases l:zH T a v with
 |some b=>
  have i:Hid (fe T a v m=(T,false)):=by unfold fe;rw[Hid,l]
  rw[l] at g;simp only[qK,uo,qJ] at g;have t:=OY h;go_enter func190,ntmps190;go_wp2_with (first|(go_at_call 130;refine g.out.mono ?_;rintro e n ⟨rfl,c⟩;obtain rfl:=c.symm))
  go_ret;exact⟨by rw[i.out];rfl,fp,by rw[i.out];exact P3.refl t.out⟩
 |none=>
  have i:Hid (fe T a v m=({ya T a v m with count:=(ya T a v m).count+1},true)):=by unfold fe;rw[Hid,l]
  rw[l] at g;simp only[qK,kc,jW] at g;have y:=OY (Q1 w tb T fp a v m h);have j:=(Ah T a v m).2.1;generalize ya T a v m=k at *;rw[←j] at u;clear h j;go_enter func190,ntmps190;go_wp2_with (first|(go_at_call 130;refine g.out.mono ?_;rintro e n ⟨rfl,c⟩;obtain rfl:=c.symm)|(go_at_call 203;refine y.out.mono ?_;rintro e s ⟨rfl,f⟩;obtain⟨C,D,d,q⟩:=f.trie;have r:=OY f;have x:Hid (P3 lo s (s.setCell ⟨tb,3,none⟩ (.int .i64 ((k.count+1:Nat)))) tb {k with count:=k.count+1} fp fp):=(by rw[q];exact d.setCount (k.count+1) (by omega));have p:=d.box;clear f d;obtain⟨z,A,B⟩:=p.boxed))
  go_ret;exact⟨by rw[i.out];rfl,fp,by rw[i.out];exact r.out.trans x.out⟩
theorem QA(w:World)(tb:Nat)(T:zi)(fp:List Nat)(x y z:Nat)(h:zX lo w tb T fp):
  Calls prog 189 #[.pointer (some ⟨tb,0,none⟩),.agg #[.int .i64 x,.int .i64 y,.int .i64 z]] w fun e o=>e=.returned (.bool (fx T [x,y,z]))/\Below w.heap.size w o:=by
 obtain⟨A,B,f,rfl⟩:=h;have l:=f.box;have r:=O0 (.int .i64 x) (.int .i64 y) (.int .i64 z);have n:=OF (.int .i64 x) (.int .i64 y) (.int .i64 z);have p:=Ox (.int .i64 x) (.int .i64 y) (.int .i64 z);have j:Hid (fx T [x,y,z]=(decide (x<T.qf)&&(decide (y<T.qf)&&decide (z<T.qf)))):=by simp[Hid,fx]
 go_enter func189,ntmps189;go_wp2;go_loopw [8] (fun u wr=>∃k:Nat,k<=3/\u=.int .i64 k/\(1<=k->x<T.qf)/\(2<=k->y<T.qf)/\(3<=k->z<T.qf)/\Below w.heap.size w wr) (fun i _=>3-(intOf i).toNat)
 case atStart=>exact⟨0,by omega,rfl,by omega,by omega,by omega,(by go_grown)⟩
 case round=>
  obtain⟨k,q,rfl,f,m,s,a⟩:=hrel;have d:=l.below a;obtain⟨v,t⟩:=d.rules;match k,q with
  |0,_=>
   by_cases b:x<T.qf
   ·go_wp2;go_roundw
    case rel=>exact⟨1,by omega,rfl,fun _=>b,by omega,by omega,a⟩
    case measure=>simp[intOf]
   ·go_wp2;go_ret;exact⟨by rw[j.out];simp[b],a⟩
  |1,_=>
   have b:=f (by omega);by_cases c:y<T.qf
   ·go_wp2;go_roundw
    case rel=>exact⟨2,by omega,rfl,fun _=>b,fun _=>c,by omega,a⟩
    case measure=>simp[intOf]
   ·go_wp2;go_ret;exact⟨by rw[j.out];simp[c],a⟩
  |2,_=>
   have b:=f (by omega);have c:=m (by omega);by_cases g:z<T.qf
   ·go_wp2;go_roundw
    case rel=>exact⟨3,by omega,rfl,fun _=>b,fun _=>c,fun _=>g,a⟩
    case measure=>simp[intOf]
   ·go_wp2;go_ret;exact⟨by rw[j.out];simp[g],a⟩
  |3,_=>
   have b:=f (by omega);have c:=m (by omega);have g:=s (by omega);go_wp2;go_ret;exact⟨by rw[j.out];simp[b,c,g],a⟩
theorem N0(w:World)(tb:Nat)(T:zi)(fp:List Nat)(x y z m:Nat)(h:zX lo w tb T fp)(hn:T.qi.length<=90000000)(hc:T.count<1000000000):
  Calls prog 163 #[.pointer (some ⟨tb,0,none⟩),.agg #[.int .i64 x,.int .i64 y,.int .i64 z],.int .i64 m] w fun e Q=>e=.returned (.bool (addP T [x,y,z] m).2)/\∃F,P3 lo w Q tb (addP T [x,y,z] m).1 fp F:=by
 have Y:=O0 (.int .i64 x) (.int .i64 y) (.int .i64 z);have N:=OF (.int .i64 x) (.int .i64 y) (.int .i64 z);have R:=Ox (.int .i64 x) (.int .i64 y) (.int .i64 z);have G:T.ql<=3:=by obtain⟨v,ns,H,_⟩:=h;exact H.deep
 have B:=OY fun W X=>QA W tb T fp x y z (h.below X);have M:=OY h;clear h;cases t:fx T [x,y,z] with
 |false=>
  have n:Hid (addP T [x,y,z] m=(T,false)):=by simp[Hid,addP,t]
  rw[t] at B;clear t;go_enter func163,ntmps163;go_wp2_with (first|(go_at_call 189;refine(B.out _ (by exact(by go_grown))).mono ?_;rintro e J ⟨rfl,l⟩;have s:Below w.heap.size w J:=zM (by go_grown) l (zh _)))
  go_ret;exact⟨by rw[n.out];rfl,fp,by rw[n.out];exact P3.below M.out s⟩
 |true=>
  have n:Hid (addP T [x,y,z] m=vC m T 0 0 [x,y,z]):=by simp[Hid,addP,t]
  rw[t] at B;clear t;go_enter func163,ntmps163;go_wp2_with (first|(go_at_call 189;refine(B.out _ (by exact(by go_grown))).mono ?_;rintro e J ⟨rfl,l⟩;have s:Below w.heap.size w J:=zM (by go_grown) l (zh _);have A:=(OZ.new w #[.int .i64 x,.int .i64 y,.int .i64 z] 165).below l;obtain⟨I,D,E⟩:=A.boxed))
  clear I D E A l B;go_loopw [7,15] (fun P r wr=>∃(k a:Nat) (b:zi) (g:List Nat),k<=3/\r=.int .i64 k/\P=.int .i64 a/\Hid (P3 lo w wr tb b fp g)/\Hid (vC m T 0 0 [x,y,z]=vC m b a k ([x,y,z].drop k))/\b.qi.length<=T.qi.length+k/\b.count=T.count/\b.ql=T.ql) (fun _ r _=>3-(intOf r).toNat)
  case atStart=>exact⟨0,0,T,fp,by omega,rfl,rfl,P3.below M.out s,rfl,by omega,rfl,rfl⟩
  case round=>
   obtain⟨k,a,b,g,V,rfl,rfl,j,o,O,ab,K⟩:=hrel;have p:∃v,OZ wr tb #[.int .i64 b.qf,.int .i64 b.ql,v,.int .i64 b.count] 229:=by obtain⟨v,ns,H,_⟩:=j.out.trie;exact⟨v,H.box⟩
   obtain⟨v,p⟩:=p;rw[K] at p;obtain⟨S,Z,aa⟩:=p.boxed;match k,V with
   |0,_=>
    by_cases L:T.ql<=1
    ·have i:Hid (vC m b a 0 [x,y,z]=fe b a x m):=by rw[Hid];simp only[vC];rw[zb (by omega)]
     have q:=OY (io wr tb b g a x m j.out.trie (by omega));go_wp2_with (first|(go_at_call 190;refine q.out.mono ?_;rintro e C ⟨rfl,f,c⟩;have d:=OY c;clear c))
     go_ret;exact⟨by rw[n.out,o.out];simp only[List.drop];rw[i.out];rfl,f,by rw[n.out,o.out];simp only[List.drop];rw[i.out];exact j.out.trans d.out⟩
    ·have i:Hid (vC m b a 0 [x,y,z]=vC m (qk b a x).1 (qk b a x).2 1 [y,z]):=by rw[Hid];simp only[vC];rw[za (by omega)]
     obtain⟨q1,q2,U,q4⟩:=oG b a x;have q:=OY (Bv wr tb b g a x j.out.trie (by omega));generalize qk b a x=u at *;go_wp2_with (first|(go_at_call 191;refine q.out.mono ?_;rintro e C ⟨rfl,f,c⟩;have d:=OY c;clear c))
     go_roundw
     case rel=>exact⟨1,u.2,u.1,f,by omega,rfl,rfl,j.out.trans d.out,(by rw[o.out];exact i.out),by omega,by omega,by omega⟩
     case measure=>simp[intOf]
   |1,_=>
    by_cases L:T.ql<=2
    ·have i:Hid (vC m b a 1 [y,z]=fe b a y m):=by rw[Hid];simp only[vC];rw[zb (by omega)]
     have q:=OY (io wr tb b g a y m j.out.trie (by omega));go_wp2_with (first|(go_at_call 190;refine q.out.mono ?_;rintro e C ⟨rfl,f,c⟩;have d:=OY c;clear c))
     go_ret;exact⟨by rw[n.out,o.out];simp only[List.drop];rw[i.out];rfl,f,by rw[n.out,o.out];simp only[List.drop];rw[i.out];exact j.out.trans d.out⟩
    ·have i:Hid (vC m b a 1 [y,z]=vC m (qk b a y).1 (qk b a y).2 2 [z]):=by rw[Hid];simp only[vC];rw[za (by omega)]
     obtain⟨q1,q2,U,q4⟩:=oG b a y;have q:=OY (Bv wr tb b g a y j.out.trie (by omega));generalize qk b a y=u at *;go_wp2_with (first|(go_at_call 191;refine q.out.mono ?_;rintro e C ⟨rfl,f,c⟩;have d:=OY c;clear c))
     go_roundw
     case rel=>exact⟨2,u.2,u.1,f,by omega,rfl,rfl,j.out.trans d.out,(by rw[o.out];exact i.out),by omega,by omega,by omega⟩
     case measure=>simp[intOf]
   |2,_=>
    by_cases L:T.ql<=3
    ·have i:Hid (vC m b a 2 [z]=fe b a z m):=by rw[Hid];simp only[vC];rw[zb (by omega)]
     have q:=OY (io wr tb b g a z m j.out.trie (by omega));go_wp2_with (first|(go_at_call 190;refine q.out.mono ?_;rintro e C ⟨rfl,f,c⟩;have d:=OY c;clear c))
     go_ret;exact⟨by rw[n.out,o.out];simp only[List.drop];rw[i.out];rfl,f,by rw[n.out,o.out];simp only[List.drop];rw[i.out];exact j.out.trans d.out⟩
    ·exact zC G L
   |3,_=>
    have i:Hid (vC m b a 3 []=(b,false)):=by rw[Hid];simp only[vC]
    go_wp2;go_ret;exact⟨by rw[n.out,o.out];simp only[List.drop];rw[i.out];rfl,g,by rw[n.out,o.out];simp only[List.drop];rw[i.out];exact j.out⟩
theorem Ey(w:World)(tb:Nat)(T:zi)(fp:List Nat)(x y z:Nat)(h:zX lo w tb T fp):
  Calls prog 83 #[.pointer (some ⟨tb,0,none⟩),.agg #[.int .i64 x,.int .i64 y,.int .i64 z]] w fun e m=>e=.returned (qK (xB T [x,y,z]))/\Below w.heap.size w m:=by
 have H:=O0 (.int .i64 x) (.int .i64 y) (.int .i64 z);have B:=OF (.int .i64 x) (.int .i64 y) (.int .i64 z);have D:=Ox (.int .i64 x) (.int .i64 y) (.int .i64 z);have o:∃t,OZ w tb #[.int .i64 T.qf,.int .i64 T.ql,t,.int .i64 T.count] 229/\T.ql<=3:=by obtain⟨t,K,A,_⟩:=h;exact⟨t,A.box,A.deep⟩
 obtain⟨t,o,u⟩:=o;have r:=OY fun W a v G=>m8 W tb T fp a v (h.below G);clear h;have n:Hid (xB T [x,y,z]=uw T 0 0 [x,y,z]):=rfl;go_enter func83,ntmps83;go_wp2;go_loopw [6,12] (fun C q wr=>∃k a:Nat,k<=3/\q=.int .i64 k/\C=.int .i64 a/\Hid (uw T 0 0 [x,y,z]=uw T a k ([x,y,z].drop k))/\Below w.heap.size w wr) (fun _ q _=>3-(intOf q).toNat)
 case atStart=>exact⟨0,0,by omega,rfl,rfl,rfl,(by go_grown)⟩
 case round=>
  obtain⟨k,a,F,rfl,rfl,l,c⟩:=hrel;have s:=o.below c;obtain⟨E,I,J⟩:=s.boxed;match k,F with
  |0,_=>
   cases g:zH T a x with
   |none=>
    have i:Hid (uw T a 0 [x,y,z]=none):=by rw[Hid];simp only[uw];rw[g]
    have f:=r.out wr a x c;rw[g] at f;simp only[qK,kc,jW] at f;have j:=OY f;clear f g;go_wp2_with (first|(go_at_call 130;refine j.out.mono ?_;rintro e m ⟨rfl,d⟩;obtain rfl:=d.symm))
    go_ret2
    exact⟨by rw[n.out,l.out];simp only[List.drop];rw[i.out];rfl,c⟩
   |some b=>
    have f:=r.out wr a x c;rw[g] at f;simp only[qK,uo,qJ] at f;have j:=OY f;clear f;by_cases p:T.ql<=1
    ·have i:Hid (uw T a 0 [x,y,z]=some b):=by rw[Hid];simp only[uw];rw[g];simp only;rw[zb (by omega)]
     clear g;go_wp2_with (first|(go_at_call 130;refine j.out.mono ?_;rintro e m ⟨rfl,d⟩;obtain rfl:=d.symm))
     go_ret2
     exact⟨by rw[n.out,l.out];simp only[List.drop];rw[i.out];rfl,c⟩
    ·have i:Hid (uw T a 0 [x,y,z]=uw T b 1 [y,z]):=by rw[Hid];simp only[uw];rw[g];simp only;rw[za (by omega)]
     clear g;go_wp2_with (first|(go_at_call 130;refine j.out.mono ?_;rintro e m ⟨rfl,d⟩;obtain rfl:=d.symm))
     go_roundw
     case rel=>exact⟨1,b,by omega,rfl,rfl,(by rw[l.out];exact i.out),c⟩
     case measure=>simp[intOf]
  |1,_=>
   cases g:zH T a y with
   |none=>
    have i:Hid (uw T a 1 [y,z]=none):=by rw[Hid];simp only[uw];rw[g]
    have f:=r.out wr a y c;rw[g] at f;simp only[qK,kc,jW] at f;have j:=OY f;clear f g;go_wp2_with (first|(go_at_call 130;refine j.out.mono ?_;rintro e m ⟨rfl,d⟩;obtain rfl:=d.symm))
    go_ret2
    exact⟨by rw[n.out,l.out];simp only[List.drop];rw[i.out];rfl,c⟩
   |some b=>
    have f:=r.out wr a y c;rw[g] at f;simp only[qK,uo,qJ] at f;have j:=OY f;clear f;by_cases p:T.ql<=2
    ·have i:Hid (uw T a 1 [y,z]=some b):=by rw[Hid];simp only[uw];rw[g];simp only;rw[zb (by omega)]
     clear g;go_wp2_with (first|(go_at_call 130;refine j.out.mono ?_;rintro e m ⟨rfl,d⟩;obtain rfl:=d.symm))
     go_ret2
     exact⟨by rw[n.out,l.out];simp only[List.drop];rw[i.out];rfl,c⟩
    ·have i:Hid (uw T a 1 [y,z]=uw T b 2 [z]):=by rw[Hid];simp only[uw];rw[g];simp only;rw[za (by omega)]
     clear g;go_wp2_with (first|(go_at_call 130;refine j.out.mono ?_;rintro e m ⟨rfl,d⟩;obtain rfl:=d.symm))
     go_roundw
     case rel=>exact⟨2,b,by omega,rfl,rfl,(by rw[l.out];exact i.out),c⟩
     case measure=>simp[intOf]
  |2,_=>
   cases g:zH T a z with
   |none=>
    have i:Hid (uw T a 2 [z]=none):=by rw[Hid];simp only[uw];rw[g]
    have f:=r.out wr a z c;rw[g] at f;simp only[qK,kc,jW] at f;have j:=OY f;clear f g;go_wp2_with (first|(go_at_call 130;refine j.out.mono ?_;rintro e m ⟨rfl,d⟩;obtain rfl:=d.symm))
    go_ret2
    exact⟨by rw[n.out,l.out];simp only[List.drop];rw[i.out];rfl,c⟩
   |some b=>
    have f:=r.out wr a z c;rw[g] at f;simp only[qK,uo,qJ] at f;have j:=OY f;clear f;by_cases p:T.ql<=3
    ·have i:Hid (uw T a 2 [z]=some b):=by rw[Hid];simp only[uw];rw[g];simp only;rw[zb (by omega)]
     clear g;go_wp2_with (first|(go_at_call 130;refine j.out.mono ?_;rintro e m ⟨rfl,d⟩;obtain rfl:=d.symm))
     go_ret2
     exact⟨by rw[n.out,l.out];simp only[List.drop];rw[i.out];rfl,c⟩
    ·exact zC u p
  |3,_=>
   have i:Hid (uw T a 3 []=none):=by rw[Hid];simp only[uw]
   go_wp2;go_ret2
   exact⟨by rw[n.out,l.out];simp only[List.drop];rw[i.out];rfl,c⟩
end
end Go.Proofs.YteampbddflhngaaGreat
