import Derived.Test.YteampbddflhngaaGreatB48

namespace Go.Proofs.YteampbddflhngaaGreat
set_option maxRecDepth 100000
set_option maxHeartbeats 4000000
open Go.RowKit
theorem comp_err {s:ByteArray} {n:Int} (h:compB s=.error n):n≠0:=by
  unfold compB at h
  repeat' (split at h)
  all_goals (simp only [Except.error.injEq,reduceCtorEq] at h)
  all_goals (subst h;decide)
def bPa:ByteArray:=⟨#[112,40,97,41,46]⟩
theorem comp_pa:∃ x,compB bPa=.ok x:=by
  have h:(match compB bPa with | .ok _=>true | .error _=>false)=true:=by decide +kernel
  cases hq:compB bPa with
  | ok x=>exact ⟨x,rfl⟩
  | error n=>rw [hq] at h;cases h
def ReadKeep (s:ByteArray) (w:World) (e:Ending) (w':World):Prop:=match compB s with
  | .error _=>e=.returned (.tuple #[.pointer none,.bool true])/\Below w.heap.size w w'
  | .ok (cs,t)=>∃ db pb,w.heap.size<=db/\e=.returned (.tuple #[.pointer (some ⟨db,0,none⟩),.bool true])/\Box w' db #[.pointer (some ⟨pb,0,none⟩),.string s] 98/\PProg w.heap.size w' pb cs t/\Below w.heap.size w w'
theorem kread_any (w:World) (s:ByteArray) (hs:s.size<=9223372036854775807) :
    Calls Tryz.prog 23 #[.string s] w fun e w'=>ReadKeep s w e w':=by
  unfold ReadKeep
  cases hc:compB s with
  | error n =>
    have hn:=comp_err hc
    have HCO:Hid (Calls Tryz.prog 32 #[.string s] w fun e w'=>e=.returned (.tuple #[.pointer none,.int .i64 n])/\Below w.heap.size w w'):=by
      refine (compile_any s w hs).mono ?_
      rintro e w' ⟨hb,h2⟩
      rw [hc] at h2
      exact ⟨h2,hb⟩
    have HPA:Hid (∀ W,Calls Tryz.prog 32 #[.string ⟨#[112,40,97,41,46]⟩] W fun e w'=>∃ pb,e=.returned (.tuple #[.pointer (some ⟨pb,0,none⟩),.int .i64 0])/\Below W.heap.size W w'):=fun W=>by
      obtain ⟨⟨cs,t⟩,hx⟩:=comp_pa
      refine (compile_any bPa W (by decide)).mono ?_
      rintro e w' ⟨hb,h2⟩
      rw [hx] at h2
      obtain ⟨pb,v,pv,h3,_⟩:=h2
      exact ⟨pb,h3,hb⟩
    have hnb:(n == 0)=false:=by simp [hn]
    clear hc
    go_enter Tryz.func23,Tryz.ntmps23
    go_upto_region 2 with (first | (go_at_call 32;refine HCO.out.mono ?_;rintro e w1 ⟨rfl,hb1⟩))
    go_wp2_with (first | (go_at_call 32;refine (HPA.out _).mono ?_;rintro e w2 ⟨pb,rfl,hb2⟩))
    go_ret2
    exact ⟨by simp [hn],bnext hb1 hb2 (Nat.le_refl _)⟩
  | ok x =>
    obtain ⟨cs,t⟩:=x
    have HCO:Hid (Calls Tryz.prog 32 #[.string s] w fun e w'=>∃ pb,e=.returned (.tuple #[.pointer (some ⟨pb,0,none⟩),.int .i64 0])/\Hid (PProg w.heap.size w' pb cs t)/\Below w.heap.size w w'):=by
      refine (compile_any s w hs).mono ?_
      rintro e w' ⟨hb,h2⟩
      rw [hc] at h2
      obtain ⟨pb,v,pv,h3,h4,h5,h6,h7⟩:=h2
      exact ⟨pb,h3,⟨h7,v,pv,h4,h5,h6⟩,hb⟩
    clear hc
    go_enter Tryz.func23,Tryz.ntmps23
    go_wp2_with (first | (go_at_call 32;refine HCO.out.mono ?_;rintro e w1 ⟨pb,rfl,HP1,hb1⟩))
    have hg:Below w1.heap.size w1 (w1.alloc (.cells #[.pointer (some ⟨pb,0,none⟩),.string s] 98)):=(by repeat' (first | with_reducible (first | exact Below.refl _ _ | assumption | refine bdrewN ?_ _ | refine Below.alloc ?_ ?_ _ | refine Below.drew ?_ | refine Below.setCell ?_ ?_ _) | go_size))
    go_ret2
    exact ⟨w1.heap.size,pb,hb1.size,rfl,Box.new _ _ _,HP1.out.below hg,bnext hb1 hg (Nat.le_refl _)⟩
end Go.Proofs.YteampbddflhngaaGreat
