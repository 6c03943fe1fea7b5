import Derived.Laws.AppendOwnNone
import Derived.Test.YteampbddflhngaaGreatV44
namespace Go.Proofs.YteampbddflhngaaGreat
set_option linter.all false
open Go.Proofs.Tryz Go.RowKit
section
section
variable {ops:Array Oper} {rest:List Oper} {o:Oper} {a:Act} {Q:Exit->Act->World->Prop}
theorem Dc{lo:Nat}{w:World}(c:o.guard=none)(s x:Operand)
  (z:o.op=.call {callee:=.builtin .append,args:=#[s,x],argTypes:=#[30,30]})
  (b:List ByteArray) (v:Value) (B:a.eval s=.slice none 0 0) (A:a.eval x=v) (G:Pg lo w v b) (P:b.length<=1000000)
  (h:∀t i,Pg w.heap.size i t b->Below w.heap.size w i->wpList prog ops Q rest (a.put o.dst t) i):
  wpList prog ops Q (o::rest) a w:=by
 obtain⟨D,E,m,f,l⟩:=info_parts O4;obtain⟨_,⟨r,F⟩|⟨C,d,N,r,J,I,H,M,L,y⟩⟩:=G
 ·have n:b=[]:=pT F;refine wpList_append_own_none c s x 30 z w.heap.size 9 D 1 underlying30 E _ 0 [] B (yK _ _ _ _) (by rw[A,r]) ?_;refine h _ _ ?_ (zo _ _);rw[n];exact yK _ _ _ _
 ·have g:∀j u,(b.map Value.string)[j]?=some u->w.cell? (Addr.add ⟨C,0,none⟩ j)=some u:=fun j u e=>by
   rw[Addr.add_lit,uL];unfold World.cell?;rw[I];simp only;rw[←y,l9] at e;split at e
   ·simpa using e
   ·simp at e
  refine wpList_append_own _ c s x 30 z w.heap.size 9 D _ 1 16 underlying30 E m f l rfl (by decide) _ 0 [] B (yK _ _ _ _) ⟨C,0,none⟩ b.length d (b.map Value.string) (by rw[A,r]) (by simp) g (by simp[Value.oneCell']) (by unfold maxLen;omega) (by omega) (zh _) ?_;intro t O q p _;refine h _ _ ?_ ((zo _ _).grown p (zh _) (fun k K=>by cases K));simpa [Pg] using q
end
theorem wH{w:World}{b:Nat}{c:Array Value}{T:TypeId}(h:OZ w b c T)(o:Obj):OZ (w.alloc o) b c T:=h.below ((zo _ _).alloc (zh _) o)
theorem i4(B:y6):(xj B).length=B.length:=by simp[xj]
theorem wk(B:y6):(xP B).length=B.length:=by simp[xP]
theorem Fd{B:y6}{args row:List ByteArray}{k:Nat}(c:k<args.length)(b:k<row.length):xn B (args.drop k) (row.drop k)=if yc B args[k]=ByteArray.empty then xn (B++[(args[k],row[k])]) (args.drop (k+1)) (row.drop (k+1)) else if yc B args[k]=row[k] then xn B (args.drop (k+1)) (row.drop (k+1)) else none:=by
 rw[xg c,xg b];rfl
end
end Go.Proofs.YteampbddflhngaaGreat
