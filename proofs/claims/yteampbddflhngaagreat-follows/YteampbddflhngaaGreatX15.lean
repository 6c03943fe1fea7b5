import Derived.Test.YteampbddflhngaaGreatX09
namespace Go.Proofs.YteampbddflhngaaGreat
set_option linter.all false
section
variable {a b:ByteArray}
theorem Dz:∀a:List UInt8,Op.bytesLess a a=false
 |[]=>rfl
 |x::a=>by simp[Op.bytesLess,Dz a]
theorem E2:∀a b:List UInt8,Op.bytesLess a b=false->Op.bytesLess b a=false->a=b
 |[],[],_,_=>rfl
 |[],_::_,h,_=>by simp[Op.bytesLess] at h
 |_::_,[],_,h=>by simp[Op.bytesLess] at h
 |x::a,y::b,e,c=>by
  simp only[Op.bytesLess,np,decide_eq_false_iff_not,Bool.and_eq_false_iff,beq_eq_false_iff_ne] at e c;have d:x=y:=by
   have g:=e.1;have f:=c.1;rw[UInt8.not_lt] at g f;exact UInt8.le_antisymm f g
  subst d;rw[E2 a b (e.2.resolve_left fun h=>h rfl) (c.2.resolve_left fun h=>h rfl)]
theorem Bu:∀a b c:List UInt8,Op.bytesLess a b=true->Op.bytesLess b c=true->Op.bytesLess a c=true
 |_,[],_,h,_=>by cases ‹List UInt8›<;>simp[Op.bytesLess] at h
 |_,_::_,[],_,h=>by simp[Op.bytesLess] at h
 |[],_::_,_::_,_,_=>rfl
 |x::a,y::b,z::c,e,d=>by
  simp only[Op.bytesLess,dX,decide_eq_true_eq,vq,beq_iff_eq] at e d ⊢;rcases e with e|⟨rfl,e⟩
  ·rcases d with d|⟨rfl,d⟩
   ·exact zg (UInt8.lt_trans e d)
   ·exact zg e
  ·rcases d with d|⟨rfl,d⟩
   ·exact zg d
   ·exact ze ⟨rfl,Bu a b c e d⟩
theorem PE(a:ByteArray):PS a a=false:=Dz _
theorem r8(d:PS a b=false)(c:PS b a=false):a=b:=Qz (E2 _ _ d c)
theorem lt_trans{c:ByteArray}(e:PS a b=true)(d:PS b c=true):PS a c=true:=Bu _ _ _ e d
theorem Id(h:PS a b=true):PS b a=false:=by
 cases c:PS b a with
 |false=>rfl
 |true=>have:=lt_trans h c;rw[PE] at this;cases this
def y5(l:List ByteArray):Prop:=l.Pairwise fun a b=>PS a b=true
theorem Ek:∀{a b:List ByteArray},y5 a->y5 b->(∀x,x∈a↔x∈b)->a=b
 |[],[],_,_,_=>rfl
 |[],y::b,_,_,h=>by have:=(h y).2 (by simp);cases this
 |x::a,[],_,_,h=>by have:=(h x).1 (by simp);cases this
 |x::a,y::b,r,q,h=>by
  obtain⟨i,m⟩:=nN.1 r;obtain⟨f,l⟩:=nN.1 q;have j:x=y:=by
   have g:=(h x).1 (by simp);have d:=(h y).2 (by simp);rcases zu.1 g with g|g
   ·exact g
   ·rcases zu.1 d with d|d
    ·exact d.symm
    ·have s:=f x g;have p:=i y d;have:=lt_trans s p;rw[PE] at this;cases this
  subst j;have k:x∉a:=fun c=>by have:=i x c;rw[PE] at this;cases this
  have n:x∉b:=fun c=>by have:=f x c;rw[PE] at this;cases this
  rw[Ek m l (fun z=>?_)];have o:=h z;simp only[zu] at o;constructor
  ·intro c;rcases o.1 (ze c) with e|e
   ·subst e;exact zB c k
   ·exact e
  ·intro c;rcases o.2 (ze c) with e|e
   ·subst e;exact zB c n
   ·exact e
def fz(l c:List ByteArray):Nat:=(l.filter fun y=>!yZ y c).length
theorem Ng{l c:List ByteArray}{x:ByteArray}(n:x∈l)(m:x∉c):fz l (c++[x])<fz l c:=by
 unfold fz;have i:∀l:List ByteArray,(l.filter fun y=>!yZ y (c++[x])).length<=(l.filter fun y=>!yZ y c).length/\(x∈l->(l.filter fun y=>!yZ y (c++[x])).length<(l.filter fun y=>!yZ y c).length):=by
  intro l;induction l with
  |nil=>simp
  |cons y l k=>
   have f:yZ y c=true->yZ y (c++[x])=true:=fun h=>j7.2 (zX.2 (zg (j7.1 h)));cases g:yZ y c with
   |true=>
    have d:=f g;simp only[List.filter_cons,g,d,mj,gx,if_false];refine⟨k.1,fun j=>k.2 ?_⟩;rcases zu.1 j with e|e
    ·subst e;exact zB (j7.1 g) m
    ·exact e
   |false=>
    cases d:yZ y (c++[x]) with
    |true=>
     simp only[List.filter_cons,g,d,mj,Bool.not_false,gx,if_false,if_true,xd];exact⟨by omega,fun _=>by omega⟩
    |false=>
     simp only[List.filter_cons,g,d,Bool.not_false,if_true,xd];refine⟨by omega,fun j=>?_⟩;rcases zu.1 j with e|e
     ·subst e;rw[pM] at d;simp at d
     ·have:=k.2 e;omega
 exact(i l).2 n
theorem A9(l:List ByteArray):fz l []=l.length:=by
 simp[fz,yZ]
end
end Go.Proofs.YteampbddflhngaaGreat
