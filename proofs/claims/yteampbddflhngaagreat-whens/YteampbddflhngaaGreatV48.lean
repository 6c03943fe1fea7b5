import Derived.Test.YteampbddflhngaaGreatV44
namespace Go.Proofs.YteampbddflhngaaGreat
set_option linter.all false
open Go.RowKit
theorem Hx{s:ByteArray}{cs:List zc}{t:List zg}(h:uu s=.ok (cs,t)):∀c∈cs,mZ c:=by
 unfold uu at h;split at h
 ·cases h
 ·split at h
  ·cases h
  ·rename_i l f;split at h
   ·cases h
   ·rename_i d e;have b:=DQ _ e (EW f);have a:d=cs:=by
     repeat'(split at h)
     all_goals first|(cases h;done)|(simp only[Except.ok.injEq,yo] at h;exact h.1)
    subst a;exact b
theorem nm.sz{x:ByteArray}(h:nm (bl x)):0<x.size/\x.size<=6:=by
 have d:=h.ne;have b:=h.six;have e:(bl x).length=x.size:=rfl;cases c:bl x with
 |nil=>exact zC c d
 |cons a r=>rw[c] at e b;simp only[yZ] at e b;omega
theorem lQ.fine{l:zj}(h:lQ l)(b:l.args.length<=3):Da l:=
 ⟨h.1.1.sz.2,h.1.1.sz.1,by omega,fun x a=>h.2 x a |>.sz⟩
theorem mZ.fine{c:zc}(h:mZ c)(b:yG c=false):ex c:=by
 unfold yG at b;simp only[m9,decide_eq_false_iff_not] at b;obtain⟨⟨⟨f,e⟩,d⟩,_⟩:=b;refine⟨fun l a=>?_,by omega⟩;rcases zw.1 a with rfl|a
 ·exact h.2.1.fine (by omega)
 ·have:=List.any_eq_false.1 d l a;simp only[decide_eq_true_eq] at this;exact(h.2.2 l a).fine (by omega)
end Go.Proofs.YteampbddflhngaaGreat
