import Derived.Test.YteampbddflhngaaGreatZ30
namespace Go.Proofs.YteampbddflhngaaGreat
set_option linter.all false
open Classical
def Ob(a:List Nat)(n:Nat)(D:DB):Prop:=∀p x,QH D p x->∀i,i<a.getD p 0->x.getD i 0<n
theorem nG{ns:κ}(n:yC ns){d:Nat}(o:d<=3){r:zm}(j:QP d r)(m:∀i,i<d->r.getD i 0<ns.length):fL ns (uk ns r d 3) 0 [0,0,0]=some r:=by
 obtain⟨x,y,z,rfl⟩:∃x y z,r=[x,y,z]:=by
  match r,j.1 with
  |[x,y,z],_=>exact⟨x,y,z,rfl⟩
 have f:=j.2;have e:=fun i (q:i<d)=>rJ n (m i q);have l:d=0∨d=1∨d=2∨d=3:=by omega
 rcases l with rfl|rfl|rfl|rfl
 ·have a:=f 0 (by omega);have b:=f 1 (by omega);have c:=f 2 (by omega);simp at a b c;subst a;subst b;subst c;rfl
 ·have b:=f 1 (by omega);have c:=f 2 (by omega);simp at b c;subst b;subst c;have g:ur ns (ns[x]?.getD ByteArray.empty)=some x:=by have:=e 0 (by omega);simpa using this
  simp[uk,fL,g]
 ·have c:=f 2 (by omega);simp at c;subst c;have g:ur ns (ns[x]?.getD ByteArray.empty)=some x:=by have:=e 0 (by omega);simpa using this
  have h:ur ns (ns[y]?.getD ByteArray.empty)=some y:=by have:=e 1 (by omega);simpa using this
  simp[uk,fL,g,h,List.range_succ]
 ·have g:ur ns (ns[x]?.getD ByteArray.empty)=some x:=by have:=e 0 (by omega);simpa using this
  have h:ur ns (ns[y]?.getD ByteArray.empty)=some y:=by have:=e 1 (by omega);simpa using this
  have k:ur ns (ns[z]?.getD ByteArray.empty)=some z:=by have:=e 2 (by omega);simpa using this
  simp[uk,fL,g,h,k,List.range_succ]
end Go.Proofs.YteampbddflhngaaGreat
