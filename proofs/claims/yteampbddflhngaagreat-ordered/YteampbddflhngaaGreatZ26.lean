import Derived.Test.YteampbddflhngaaGreatZ19
namespace Go.Proofs.YteampbddflhngaaGreat
set_option linter.all false
open Go.RowKit
theorem A7(w:World)(a:List Value)(T:TypeId)(b:a.length<=1000):(w.alloc (.cells a.toArray T)).ownsRow w.heap.size T 1 (.slice (some ⟨w.heap.size,0,none⟩) a.length a.length) a.length a:=by
 refine⟨by simp,zb ⟨w.heap.size,a.length,a.toArray,rfl,zg _,?_,zg _,by unfold maxLen;omega,by simp,by simp⟩⟩;show(w.heap.push _)[w.heap.size]?=_;simp
end Go.Proofs.YteampbddflhngaaGreat
