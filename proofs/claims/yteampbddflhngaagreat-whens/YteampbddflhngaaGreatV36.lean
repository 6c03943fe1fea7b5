import Derived.Test.YteampbddflhngaaGreatV31
namespace Go.Proofs.YteampbddflhngaaGreat
set_option linter.all false
set_option maxRecDepth 100000
set_option maxHeartbeats 2000000
open Go.RowKit
section
open Go.Proofs.Tryz
variable {lo:Nat}
def lm(c:Int)(n:Nat):Nat:=if c<0 then(-(c+1)).toNat%n else c.toNat%n
theorem AZ(c:Int){n:Nat}(a:0<n):lm c n<n:=by unfold lm;split<;>exact Nat.mod_lt _ a
theorem A4(w:World)(c:Int)(n:Nat)(j:0<n)(h:n<=281474976710656)(g:-9223372036854775808<=c/\c<=9223372036854775807):
  Calls prog 95 #[.int .i64 c,.int .i64 n] w fun e i=>e=.returned (.int .i64 (lm c n:Int))/\i=w:=by
 obtain⟨d,f⟩:=g;by_cases b:c<0
 ·have a:Hid (-(c+1).tmod (n:Int)=(lm c n:Int)):=by
   unfold lm;rw[Hid,zb b,←Int.neg_tmod,Int.tmod_eq_emod_of_nonneg (by omega),Int.natCast_emod,Int.toNat_of_nonneg (by omega)]
  go_enter func95,ntmps95;go_wp2;exact zJ (v:=.int .i64 (-(c+1).tmod (n:Int))) (by simp[results,results95,go_sem]) rfl ⟨by rw[a.out],rfl⟩
 ·have a:Hid (c%(n:Int)=(lm c n:Int)):=by unfold lm;rw[Hid,za b,Int.natCast_emod,Int.toNat_of_nonneg (by omega)]
  go_enter func95,ntmps95;go_wp2;exact zJ (v:=.int .i64 (c%(n:Int))) (by simp[results,results95,go_sem]) rfl ⟨by rw[a.out],rfl⟩
end
section
variable {lo:Nat}
section
variable {P:Program} {ops:Array Oper} {o:Oper} {a:Act} {K:Act->World->Prop} {Q:Exit->Act->World->Prop}
end
end
end Go.Proofs.YteampbddflhngaaGreat
