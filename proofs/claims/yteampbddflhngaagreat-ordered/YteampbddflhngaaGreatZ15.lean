import Derived.Test.YteampbddflhngaaGreatZ09
namespace Go.Proofs.YteampbddflhngaaGreat
set_option linter.all false
section
variable {a b:ByteArray}
theorem Er:∀a:List UInt8,Op.bytesLess a a=false
 |[]=>rfl
 |x::a=>by simp[Op.bytesLess,Er a]
theorem Eo:∀a b:List UInt8,Op.bytesLess a b=false->Op.bytesLess b a=false->a=b
 |[],[],_,_=>rfl
 |[],_::_,h,_=>by simp[Op.bytesLess] at h
 |_::_,[],_,h=>by simp[Op.bytesLess] at h
 |x::a,y::b,e,c=>by
  simp only[Op.bytesLess,nK,decide_eq_false_iff_not,wt,beq_eq_false_iff_ne] at e c;have d:x=y:=by
   have g:=e.1;have f:=c.1;rw[UInt8.not_lt] at g f;exact UInt8.le_antisymm f g
  subst d;rw[Eo a b (e.2.resolve_left fun h=>h rfl) (c.2.resolve_left fun h=>h rfl)]
theorem BS:∀a b c:List UInt8,Op.bytesLess a b=true->Op.bytesLess b c=true->Op.bytesLess a c=true
 |_,[],_,h,_=>by cases ‹List UInt8›<;>simp[Op.bytesLess] at h
 |_,_::_,[],_,h=>by simp[Op.bytesLess] at h
 |[],_::_,_::_,_,_=>rfl
 |x::a,y::b,z::c,e,d=>by
  simp only[Op.bytesLess,dX,decide_eq_true_eq,uw,beq_iff_eq] at e d ⊢;rcases e with e|⟨rfl,e⟩
  ·rcases d with d|⟨rfl,d⟩
   ·exact zf (UInt8.lt_trans e d)
   ·exact zf e
  ·rcases d with d|⟨rfl,d⟩
   ·exact zf d
   ·exact zb ⟨rfl,BS a b c e d⟩
theorem QM(a:ByteArray):Ra a a=false:=Er _
theorem t9(c:Ra a b=false)(d:Ra b a=false):a=b:=RB (Eo _ _ c d)
theorem lt_trans{c:ByteArray}(d:Ra a b=true)(e:Ra b c=true):Ra a c=true:=BS _ _ _ d e
theorem P2(h:Ra a b=true):Ra b a=false:=by
 cases c:Ra b a with
 |false=>rfl
 |true=>have:=lt_trans h c;rw[QM] at this;cases this
def yC(l:κ):Prop:=l.Pairwise fun a b=>Ra a b=true
theorem Fj:∀{a b:κ},yC a->yC b->(∀x,x∈a↔x∈b)->a=b
 |[],[],_,_,_=>rfl
 |[],y::b,_,_,h=>by have:=(h y).2 (by simp);cases this
 |x::a,[],_,_,h=>by have:=(h x).1 (by simp);cases this
 |x::a,y::b,r,q,h=>by
  obtain⟨f,l⟩:=nZ.1 r;obtain⟨i,m⟩:=nZ.1 q;have n:x=y:=by
   have d:=(h x).1 (by simp);have g:=(h y).2 (by simp);rcases zx.1 d with d|d
   ·exact d
   ·rcases zx.1 g with g|g
    ·exact g.symm
    ·have p:=i x d;have s:=f y g;have:=lt_trans p s;rw[QM] at this;cases this
  subst n;have o:x∉a:=fun c=>by have:=f x c;rw[QM] at this;cases this
  have k:x∉b:=fun c=>by have:=i x c;rw[QM] at this;cases this
  rw[Fj l m (fun z=>?_)];have j:=h z;simp only[zx] at j;constructor
  ·intro c;rcases j.1 (zb c) with e|e
   ·subst e;exact zC c o
   ·exact e
  ·intro c;rcases j.2 (zb c) with e|e
   ·subst e;exact zC c k
   ·exact e
def hX(l c:κ):Nat:=(l.filter fun y=>!xf y c).length
theorem Oy{l c:κ}{x:ByteArray}(n:x∈l)(m:x∉c):hX l (c++[x])<hX l c:=by
 unfold hX;have j:∀l:κ,(l.filter fun y=>!xf y (c++[x])).length<=(l.filter fun y=>!xf y c).length/\(x∈l->(l.filter fun y=>!xf y (c++[x])).length<(l.filter fun y=>!xf y c).length):=by
  intro l;induction l with
  |nil=>simp
  |cons y l k=>
   have f:xf y c=true->xf y (c++[x])=true:=fun h=>jQ.2 (zI.2 (zf (jQ.1 h)));cases g:xf y c with
   |true=>
    have d:=f g;simp only[List.filter_cons,g,d,m4,gJ,if_false];refine⟨k.1,fun i=>k.2 ?_⟩;rcases zx.1 i with e|e
    ·subst e;exact zC (jQ.1 g) m
    ·exact e
   |false=>
    cases d:xf y (c++[x]) with
    |true=>
     simp only[List.filter_cons,g,d,m4,Bool.not_false,gJ,if_false,if_true,xi];exact⟨by omega,fun _=>by omega⟩
    |false=>
     simp only[List.filter_cons,g,d,Bool.not_false,if_true,xi];refine⟨by omega,fun i=>?_⟩;rcases zx.1 i with e|e
     ·subst e;rw[rf] at d;simp at d
     ·have:=k.2 e;omega
 exact(j l).2 n
theorem D1(l:κ):hX l []=l.length:=by
 simp[hX,xf]
end
end Go.Proofs.YteampbddflhngaaGreat
