import Derived.Test.YteampbddflhngaaGreatV07
import Derived.Test.YteampbddflhngaaGreatV10
namespace Go.Proofs.YteampbddflhngaaGreat
set_option maxRecDepth 100000
set_option maxHeartbeats 2000000
open Go.Proofs.Tryz Go.RowKit
section
variable {lo:Nat}
theorem EF(w:World)(q j:Value)(l:List ByteArray)(m:Pg lo w q l){h:Nat}(r:Pg h w j l)(E:l.length<=281474976710656):
  Calls prog 44 #[q,j] w fun e u=>e=.returned (.bool true)/\Below w.heap.size w u:=by
 obtain⟨C,z,rfl⟩:=m.qw;obtain⟨v,o,rfl⟩:=r.qw;go_enter func44,ntmps44;go_wp2;go_loopw [5] (fun i wr=>∃k:Nat,k<=l.length/\i=.int .i64 k/\Below w.heap.size w wr) (fun i _=>l.length-(intOf i).toNat)
 case atStart=>exact⟨0,zv _,rfl,zo _ _⟩
 case round=>
  obtain⟨k,F,rfl,a⟩:=hrel;have p:=a.size;by_cases c:k<l.length
  ·obtain⟨g,rfl,B,d⟩:=m.cell k c;obtain⟨t,rfl,f,b⟩:=r.cell k c;have y:=zl a B d;have s:=zl a f b;have A:g<wr.heap.size:=by omega
   have n:t<wr.heap.size:=by omega
   have D:=ka (rfl:l[k]=l[k]);clear d b;generalize l[k]=x at *;go_wp2;go_quiet (fail)
   go_wp2;go_roundw
   case rel=>exact⟨k+1,by omega,by go_num,zI a _⟩
   case measure=>simp[intOf];omega
  ·go_wp2;go_ret;exact⟨rfl,a⟩
end
end Go.Proofs.YteampbddflhngaaGreat
