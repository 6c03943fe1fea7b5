import Derived.Test.YteampbddflhngaaGreatCKeepS
import Derived.Test.YteampbddflhngaaGreatCPx6

namespace Go.Proofs.YteampbddflhngaaGreat
set_option maxRecDepth 100000
set_option maxHeartbeats 4000000
open Go.RowKit
theorem zz0.refl(t:List zaq)(ns:List ByteArray)(A:Option (DB × Nat)):zz0 t ns A t ns A:=by
 cases A with
 |none=>trivial
 |some x=>exact⟨rfl,fun f=>Iff.rfl⟩
theorem zv5{lp:Nat}(w:World)(db pb:Nat)(s:ByteArray){cs:List zaa}{t0 t:List zaq}(hd:Box w db #[.pointer (some ⟨pb,0,none⟩),.string s] 98)(hP:zfu lp w pb cs t)(h:Parts cs t0 t)(hlp:lp<=w.heap.size)(hf:∀ c∈cs,znn c)(hct:(zd5 cs).size<=500->zia (zd5 cs)=.ok (cs,t))(hsz:(zd5 cs).size<=9223372036854775807) :
  Calls Tryz.prog 26 #[.pointer (some ⟨db,0,none⟩)] w fun e w'=>e=.returned (.bool true)/\Below w.heap.size w w':=by
 obtain⟨hk,_⟩:=h.runok
 have hcl:=hk.len
 have HT1:Hid (Calls Tryz.prog 47 #[.pointer (some ⟨pb,0,none⟩)] w fun e w'=>e=.returned (.string (zd5 cs))/\Hid (Below w.heap.size w w')):=zvz w pb cs t hP hcl hf
 have HT2:Hid (∀ W lo qb,zfu lo W qb cs t->Calls Tryz.prog 47 #[.pointer (some ⟨qb,0,none⟩)] W fun e w'=>e=.returned (.string (zd5 cs))/\Hid (Below W.heap.size W w')):=fun W lo qb hq=>zvz W qb cs t hq hcl hf
 have HCO:Hid (∀ W,(zd5 cs).size<=500->Calls Tryz.prog 32 #[.string (zd5 cs)] W fun e w'=>∃ qb,e=.returned (.tuple #[.pointer (some ⟨qb,0,none⟩),.int .i64 0])/\Hid (zfu W.heap.size w' qb cs t)/\Hid (Below W.heap.size W w')):=fun W hs=>by
  refine(zg1 (zd5 cs) W hsz).mono ?_
  rintro e w' ⟨hb,q2⟩
  rw[hct hs] at q2
  obtain⟨qb,v,pv,h3,h4,h5,h6,h7⟩:=q2
  exact⟨qb,h3,⟨h7,v,pv,h4,h5,h6⟩,hb⟩
 have HOT:Hid (∀ W,Below w.heap.size w W->Calls Tryz.prog 56 #[.pointer (some ⟨db,0,none⟩),.string (zd5 cs)] W fun e w'=>e=.returned (.bool true)/\Hid (Below W.heap.size W w')):=fun W hb=>z4m W db pb s (zd5 cs) (hd.below hb) (hP.below hb) h (Nat.le_trans hlp hb.size) hsz fun hs=>⟨cs,t,hct hs,zz0.refl _ _ _⟩
 have c0:w.cell? ⟨db,0,none⟩=some (.pointer (some ⟨pb,0,none⟩)):=by rw[hd.rules.1];rfl
 have hl0:=hd.lt
 clear hd hP h hct hf
 generalize zd5 cs=x at *
 by_cases h5:x.size<=500
 ·have h5i:¬ (500:Int) < (x.size:Int):=by omega
  have HC1:Hid (∀ W,Calls Tryz.prog 32 #[.string x] W fun e w'=>∃ qb,e=.returned (.tuple #[.pointer (some ⟨qb,0,none⟩),.int .i64 0])/\Hid (zfu W.heap.size w' qb cs t)/\Hid (Below W.heap.size W w')):=fun W=>HCO.out W h5
  clear HCO
  go_enter Tryz.func26,Tryz.ntmps26
  go_wp2_with (first|(go_at_call 32;refine(HC1.out _).mono ?_;rintro e w2 ⟨qb,rfl,HP2,HB2⟩)|(go_at_call 56;refine(HOT.out _ (zad (zad HB1.out HB2.out (Nat.le_refl _)) HB3.out (Nat.le_refl _))).mono ?_;rintro e w4 ⟨rfl,HB4⟩)|(go_at_call 47;refine(HT2.out _ _ _ HP2.out).mono ?_;rintro e w3 ⟨rfl,HB3⟩)|(go_at_call 47;refine HT1.out.mono ?_;rintro e w1 ⟨rfl,HB1⟩))
  go_ret
  exact⟨by simp,zad (zad (zad HB1.out HB2.out (Nat.le_refl _)) HB3.out (Nat.le_refl _)) HB4.out (Nat.le_refl _)⟩
 ·have h5i:(500:Int) < (x.size:Int):=by omega
  go_enter Tryz.func26,Tryz.ntmps26
  go_wp2_with (first|(go_at_call 47;refine HT1.out.mono ?_;rintro e w1 ⟨rfl,HB1⟩))
  go_ret
  exact⟨rfl,HB1.out⟩
end Go.Proofs.YteampbddflhngaaGreat
