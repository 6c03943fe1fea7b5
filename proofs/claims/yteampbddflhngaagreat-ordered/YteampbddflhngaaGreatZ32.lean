import Derived.Test.YteampbddflhngaaGreatZ30
namespace Go.Proofs.YteampbddflhngaaGreat
set_option linter.all false
open Classical
def LM(a:List Nat)(n:Nat)(D:DB):Prop:=∀p x,QF D p x->∀i,i<a.getD p 0->x.getD i 0<n
theorem nT{ns:κ}(n:yB ns){d:Nat}(o:d<=3){r:zm}(j:QN d r)(l:∀i,i<d->r.getD i 0<ns.length):fZ ns (ug ns r d 3) 0 [0,0,0]=some r:=by
 obtain⟨x,y,z,rfl⟩:∃x y z,r=[x,y,z]:=by
  match r,j.1 with
  |[x,y,z],_=>exact⟨x,y,z,rfl⟩
 have e:=j.2;have f:=fun i (q:i<d)=>rf n (l i q);have k:d=0∨d=1∨d=2∨d=3:=by omega
 rcases k with rfl|rfl|rfl|rfl
 ·have a:=e 0 (by omega);have b:=e 1 (by omega);have c:=e 2 (by omega);simp at a b c;subst a;subst b;subst c;rfl
 ·have b:=e 1 (by omega);have c:=e 2 (by omega);simp at b c;subst b;subst c;have g:um ns (ns[x]?.getD ByteArray.empty)=some x:=by have:=f 0 (by omega);simpa using this
  simp[ug,fZ,g]
 ·have c:=e 2 (by omega);simp at c;subst c;have g:um ns (ns[x]?.getD ByteArray.empty)=some x:=by have:=f 0 (by omega);simpa using this
  have h:um ns (ns[y]?.getD ByteArray.empty)=some y:=by have:=f 1 (by omega);simpa using this
  simp[ug,fZ,g,h,List.range_succ]
 ·have g:um ns (ns[x]?.getD ByteArray.empty)=some x:=by have:=f 0 (by omega);simpa using this
  have h:um ns (ns[y]?.getD ByteArray.empty)=some y:=by have:=f 1 (by omega);simpa using this
  have m:um ns (ns[z]?.getD ByteArray.empty)=some z:=by have:=f 2 (by omega);simpa using this
  simp[ug,fZ,g,h,m,List.range_succ]
end Go.Proofs.YteampbddflhngaaGreat
