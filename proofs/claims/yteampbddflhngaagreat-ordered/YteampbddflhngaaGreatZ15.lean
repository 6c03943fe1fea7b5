import Derived.Test.YteampbddflhngaaGreatZ09
namespace Go.Proofs.YteampbddflhngaaGreat
set_option linter.all false
section
variable {a b:ByteArray}
theorem A0:∀a:List UInt8,Op.bytesLess a a=false
 |[]=>rfl
 |x::a=>by simp[Op.bytesLess,A0 a]
theorem Cw:∀a b:List UInt8,Op.bytesLess a b=false->Op.bytesLess b a=false->a=b
 |[],[],_,_=>rfl
 |[],_::_,h,_=>by simp[Op.bytesLess] at h
 |_::_,[],_,h=>by simp[Op.bytesLess] at h
 |x::a,y::b,d,e=>by
  simp only[Op.bytesLess,nX,decide_eq_false_iff_not,tX,beq_eq_false_iff_ne] at d e;have c:x=y:=by
   have g:=d.1;have f:=e.1;rw[UInt8.not_lt] at g f;exact UInt8.le_antisymm f g
  subst c;rw[Cw a b (d.2.resolve_left fun h=>h rfl) (e.2.resolve_left fun h=>h rfl)]
theorem AJ:∀a b c:List UInt8,Op.bytesLess a b=true->Op.bytesLess b c=true->Op.bytesLess a c=true
 |_,[],_,h,_=>by cases ‹List UInt8›<;>simp[Op.bytesLess] at h
 |_,_::_,[],_,h=>by simp[Op.bytesLess] at h
 |[],_::_,_::_,_,_=>rfl
 |x::a,y::b,z::c,e,d=>by
  simp only[Op.bytesLess,dX,decide_eq_true_eq,ux,beq_iff_eq] at e d ⊢;rcases e with e|⟨rfl,e⟩
  ·rcases d with d|⟨rfl,d⟩
   ·exact zf (UInt8.lt_trans e d)
   ·exact zf e
  ·rcases d with d|⟨rfl,d⟩
   ·exact zf d
   ·exact zb ⟨rfl,AJ a b c e d⟩
theorem QK(a:ByteArray):QY a a=false:=A0 _
theorem tO(c:QY a b=false)(d:QY b a=false):a=b:=RC (Cw _ _ c d)
theorem lt_trans{c:ByteArray}(d:QY a b=true)(e:QY b c=true):QY a c=true:=AJ _ _ _ d e
theorem NL(h:QY a b=true):QY b a=false:=by
 cases c:QY b a with
 |false=>rfl
 |true=>have:=lt_trans h c;rw[QK] at this;cases this
def yB(l:κ):Prop:=l.Pairwise fun a b=>QY a b=true
theorem Fv:∀{a b:κ},yB a->yB b->(∀x,x∈a↔x∈b)->a=b
 |[],[],_,_,_=>rfl
 |[],y::b,_,_,h=>by have:=(h y).2 (by simp);cases this
 |x::a,[],_,_,h=>by have:=(h x).1 (by simp);cases this
 |x::a,y::b,r,p,h=>by
  obtain⟨d,m⟩:=pF.1 r;obtain⟨f,k⟩:=pF.1 p;have j:x=y:=by
   have g:=(h x).1 (by simp);have i:=(h y).2 (by simp);rcases zx.1 g with g|g
   ·exact g
   ·rcases zx.1 i with i|i
    ·exact i.symm
    ·have s:=f x g;have q:=d y i;have:=lt_trans s q;rw[QK] at this;cases this
  subst j;have o:x∉a:=fun c=>by have:=d x c;rw[QK] at this;cases this
  have l:x∉b:=fun c=>by have:=f x c;rw[QK] at this;cases this
  rw[Fv m k (fun z=>?_)];have n:=h z;simp only[zx] at n;constructor
  ·intro c;rcases n.1 (zb c) with e|e
   ·subst e;exact zC c o
   ·exact e
  ·intro c;rcases n.2 (zb c) with e|e
   ·subst e;exact zC c l
   ·exact e
def li(l c:κ):Nat:=(l.filter fun y=>!xf y c).length
theorem O4{l c:κ}{x:ByteArray}(n:x∈l)(m:x∉c):li l (c++[x])<li l c:=by
 unfold li;have j:∀l:κ,(l.filter fun y=>!xf y (c++[x])).length<=(l.filter fun y=>!xf y c).length/\(x∈l->(l.filter fun y=>!xf y (c++[x])).length<(l.filter fun y=>!xf y c).length):=by
  intro l;induction l with
  |nil=>simp
  |cons y l k=>
   have f:xf y c=true->xf y (c++[x])=true:=fun h=>ka.2 (zI.2 (zf (ka.1 h)));cases g:xf y c with
   |true=>
    have d:=f g;simp only[List.filter_cons,g,d,mm,gL,if_false];refine⟨k.1,fun i=>k.2 ?_⟩;rcases zx.1 i with e|e
    ·subst e;exact zC (ka.1 g) m
    ·exact e
   |false=>
    cases d:xf y (c++[x]) with
    |true=>
     simp only[List.filter_cons,g,d,mm,Bool.not_false,gL,if_false,if_true,xd];exact⟨by omega,fun _=>by omega⟩
    |false=>
     simp only[List.filter_cons,g,d,Bool.not_false,if_true,xd];refine⟨by omega,fun i=>?_⟩;rcases zx.1 i with e|e
     ·subst e;rw[ru] at d;simp at d
     ·have:=k.2 e;omega
 exact(j l).2 n
theorem BC(l:κ):li l []=l.length:=by
 simp[li,xf]
end
end Go.Proofs.YteampbddflhngaaGreat
