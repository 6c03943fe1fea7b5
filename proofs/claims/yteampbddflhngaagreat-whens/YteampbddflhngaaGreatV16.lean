import Derived.Test.YteampbddflhngaaGreatV07
import Derived.Test.YteampbddflhngaaGreatV10
namespace Go.Proofs.YteampbddflhngaaGreat
set_option maxRecDepth 100000
set_option maxHeartbeats 2000000
open Go.Proofs.Tryz Go.RowKit
theorem II(w:World)(d:Nat)(a b c:Int)(s:ByteArray):
  Calls prog 94 #[.pointer (some ⟨d,0,none⟩),.agg #[.int .i64 1,.int .i64 a,.int .i64 b,.int .i64 c,.string s]] w fun e f=>e=.returned (.bool false)/\Below w.heap.size w f:=by
 go_enter func94,ntmps94;go_wp2;go_ret;exact⟨rfl,(by go_grown)⟩
theorem KD(w:World)(h:Nat)(a b c:Int)(s:ByteArray)(c0 o l k t q j i r m f d g:Value)(p:OZ w h #[c0,o,l,k,t,q,j,i,r,m,.slice none 0 0,f,d,g] 35):
  Calls prog 94 #[.pointer (some ⟨h,0,none⟩),.agg #[.int .i64 17,.int .i64 a,.int .i64 b,.int .i64 c,.string s]] w fun e u=>e=.returned (.bool true)/\Below w.heap.size w u:=by
 obtain⟨v,x,n⟩:=p.boxed;go_enter func94,ntmps94;go_wp2;go_ret;exact⟨rfl,(by go_grown)⟩
end Go.Proofs.YteampbddflhngaaGreat
