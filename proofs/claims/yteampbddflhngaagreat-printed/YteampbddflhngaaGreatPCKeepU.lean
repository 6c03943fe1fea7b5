import Derived.Test.YteampbddflhngaaGreatPCPx6
import Derived.Test.YteampbddflhngaaGreatP41

namespace Go.Proofs.YteampbddflhngaaGreat
set_option maxRecDepth 100000
set_option maxHeartbeats 4000000
open Go.RowKit
theorem ybq.refl(t:List zas)(ns:List ByteArray)(A:Option (DB × Nat)):ybq t ns A t ns A:=by
 cases A with
 |none=>trivial
 |some x=>exact⟨rfl,fun f=>Iff.rfl⟩
theorem ybk{lp:Nat}(w:World)(db pb:Nat)(s:ByteArray){cs:List zab}{t0 t:List zas}(hd:Box w db #[.pointer (some ⟨pb,0,none⟩),.string s] 98)(hP:zjq lp w pb cs t)(h:Parts cs t0 t)(hlp:lp<=w.heap.size)(hf:∀ c∈cs,zxo c)(hct:(zxi cs).size<=500->znz (zxi cs)=.ok (cs,t))(hsz:(zxi cs).size<=9223372036854775807) :
  Calls Tryz.prog 26 #[.pointer (some ⟨db,0,none⟩)] w fun e w'=>e=.returned (.bool true)/\Below w.heap.size w w':=by
 obtain⟨hk,_⟩:=h.runok
 have hcl:=hk.len
 have HT1:Hid (Calls Tryz.prog 47 #[.pointer (some ⟨pb,0,none⟩)] w fun e w'=>e=.returned (.string (zxi cs))/\Hid (Below w.heap.size w w')):=z92 w pb cs t hP hcl hf
 have HT2:Hid (∀ W lo qb,zjq lo W qb cs t->Calls Tryz.prog 47 #[.pointer (some ⟨qb,0,none⟩)] W fun e w'=>e=.returned (.string (zxi cs))/\Hid (Below W.heap.size W w')):=fun W lo qb hq=>z92 W qb cs t hq hcl hf
 have HCO:Hid (∀ W,(zxi cs).size<=500->Calls Tryz.prog 32 #[.string (zxi cs)] W fun e w'=>∃ qb,e=.returned (.tuple #[.pointer (some ⟨qb,0,none⟩),.int .i64 0])/\Hid (zjq W.heap.size w' qb cs t)/\Hid (Below W.heap.size W w')):=fun W hs=>by
  refine(zke (zxi cs) W hsz).mono ?_
  rintro e w' ⟨hb,q2⟩
  rw[hct hs] at q2
  obtain⟨qb,v,pv,h3,h4,h5,h6,h7⟩:=q2
  exact⟨qb,h3,⟨h7,v,pv,h4,h5,h6⟩,hb⟩
 have HOT:Hid (∀ W,Below w.heap.size w W->Calls Tryz.prog 56 #[.pointer (some ⟨db,0,none⟩),.string (zxi cs)] W fun e w'=>e=.returned (.bool true)/\Hid (Below W.heap.size W w')):=fun W hb=>yb3 W db pb s (zxi cs) (hd.below hb) (hP.below hb) h (Nat.le_trans hlp hb.size) hsz fun hs=>⟨cs,t,hct hs,ybq.refl _ _ _⟩
 have c0:w.cell? ⟨db,0,none⟩=some (.pointer (some ⟨pb,0,none⟩)):=by rw[hd.rules.1];rfl
 have hl0:=hd.lt
 clear hd hP h hct hf
 generalize zxi cs=x at *
 by_cases h5:x.size<=500
 ·have h5i:¬ (500:Int) < (x.size:Int):=by omega
  have HC1:Hid (∀ W,Calls Tryz.prog 32 #[.string x] W fun e w'=>∃ qb,e=.returned (.tuple #[.pointer (some ⟨qb,0,none⟩),.int .i64 0])/\Hid (zjq W.heap.size w' qb cs t)/\Hid (Below W.heap.size W w')):=fun W=>HCO.out W h5
  clear HCO
  go_enter Tryz.func26,Tryz.ntmps26
  go_wp2_with (first|(go_at_call 32;refine(HC1.out _).mono ?_;rintro e w2 ⟨qb,rfl,HP2,HB2⟩)|(go_at_call 56;refine(HOT.out _ (zae (zae HB1.out HB2.out (Nat.le_refl _)) HB3.out (Nat.le_refl _))).mono ?_;rintro e w4 ⟨rfl,HB4⟩)|(go_at_call 47;refine(HT2.out _ _ _ HP2.out).mono ?_;rintro e w3 ⟨rfl,HB3⟩)|(go_at_call 47;refine HT1.out.mono ?_;rintro e w1 ⟨rfl,HB1⟩))
  go_ret
  exact⟨by simp,zae (zae (zae HB1.out HB2.out (Nat.le_refl _)) HB3.out (Nat.le_refl _)) HB4.out (Nat.le_refl _)⟩
 ·have h5i:(500:Int) < (x.size:Int):=by omega
  go_enter Tryz.func26,Tryz.ntmps26
  go_wp2_with (first|(go_at_call 47;refine HT1.out.mono ?_;rintro e w1 ⟨rfl,HB1⟩))
  go_ret
  exact⟨rfl,HB1.out⟩
theorem ybc:∀(cs:List zab) (a:ByteArray),(∀ c∈cs,zxo c)->(cs.foldl (fun s c=>s++(clT c++zzb)) a).size<=a.size+10000001 * cs.length
 |[],a,_=>by simp
 |c::cs,a,h=>by
  have h1:=z6d (h c (by simp))
  have h2:=ybc cs (a++(clT c++zzb)) fun d hd=>h d (List.mem_cons_of_mem _ hd)
  rw[ByteArray.size_append,ByteArray.size_append,show zzb.size=1 from rfl] at h2
  rw[List.foldl_cons,List.length_cons]
  omega
theorem ybv{s:ByteArray}{cs:List zab}{t:List zas}(h:znz s=.ok (cs,t)):∀ c∈cs,yar c:=by
 unfold znz at h
 split at h
 ·cases h
 ·split at h
  ·cases h
  ·rename_i l hl
   split at h
   ·cases h
   ·rename_i ds hd
    have hw:=yaw _ hd (ya6 hl)
    have hcs:ds=cs:=by
     repeat'(split at h)
     all_goals first|(cases h;done)|(simp only[Except.ok.injEq,Prod.mk.injEq] at h;exact h.1)
    subst hcs
    exact hw
theorem ya1.sz{x:ByteArray}(h:ya1 (bl x)):0 < x.size/\x.size<=6:=by
 have h1:=h.ne
 have h2:=h.six
 have e:(bl x).length=x.size:=rfl
 cases hb:bl x with
 |nil=>exact absurd hb h1
 |cons a r=>rw[hb] at e h2;simp only[List.length_cons] at e h2;omega
theorem yam.fine{l:zbv}(h:yam l)(ha:l.args.length<=3):zrm l :=
 ⟨h.1.1.sz.2,h.1.1.sz.1,by omega,fun x hx=>h.2 x hx |>.sz⟩
theorem yar.fine{c:zab}(h:yar c)(hm:zel c=false):zxo c:=by
 unfold zel at hm
 simp only[Bool.or_eq_false_iff,decide_eq_false_iff_not] at hm
 obtain⟨⟨⟨h1,h2⟩,h3⟩,_⟩:=hm
 refine⟨fun l hl=>?_,by omega⟩
 rcases List.mem_cons.1 hl with rfl|hl
 ·exact h.2.1.fine (by omega)
 ·have:=List.any_eq_false.1 h3 l hl
  simp only[decide_eq_true_eq] at this
  exact(h.2.2 l hl).fine (by omega)
theorem ybn(w:World)(s:ByteArray)(hs:s.size<=9223372036854775807) :
  Calls Tryz.prog 13 #[.string s] w fun e w'=>e=.returned (.bool true)/\Below w.heap.size w w':=by
 have HRE:Hid (Calls Tryz.prog 23 #[.string s] w fun e w'=>zxr s w e w'):=z9y w s hs
 unfold zxr at HRE
 cases hc:znz s with
 |error n =>
  rw[hc] at HRE
  have HR2:Hid (Calls Tryz.prog 23 #[.string s] w fun e w'=>e=.returned (.tuple #[.pointer none,.bool true])/\Below w.heap.size w w'):=HRE
  clear HRE hc
  go_enter Tryz.func13,Tryz.ntmps13
  go_wp2_with (first|(go_at_call 23;refine HR2.out.mono ?_;rintro e w1 ⟨rfl,hb1⟩))
  go_ret
  exact⟨rfl,hb1⟩
 |ok x =>
  obtain⟨cs,t⟩:=x
  obtain⟨t0,hp⟩:=z9o hc
  have hcw:=ybv hc
  have hfi:∀ c∈cs,zxo c:=fun c h=>(hcw c h).fine (hp.many c h)
  have hln:=hp.runok.1.len
  have hsz:(zxi cs).size<=9223372036854775807:=by
   have:=ybc cs ByteArray.empty hfi
   have e:ByteArray.empty.size=0:=rfl
   unfold zxi
   omega
  have hct:=fun hs=>yb0 hc hs
  rw[hc] at HRE
  have HR2:Hid (Calls Tryz.prog 23 #[.string s] w fun e w'=>∃ db,e=.returned (.tuple #[.pointer (some ⟨db,0,none⟩),.bool true])/\Hid (∃ pb,Box w' db #[.pointer (some ⟨pb,0,none⟩),.string s] 98/\zjq w.heap.size w' pb cs t)/\Below w.heap.size w w'):=by
   refine HRE.out.mono ?_
   rintro e w' ⟨db,pb,q1,q2,q3,q4,q5⟩
   exact⟨db,q2,⟨pb,q3,q4⟩,q5⟩
  have HLI:Hid (∀ W db,w.heap.size<=W.heap.size->(∃ pb,Box W db #[.pointer (some ⟨pb,0,none⟩),.string s] 98/\zjq w.heap.size W pb cs t)->Calls Tryz.prog 26 #[.pointer (some ⟨db,0,none⟩)] W fun e w'=>e=.returned (.bool true)/\Below W.heap.size W w'):=fun W db hl ⟨pb,q1,q2⟩=>ybk W db pb s q1 q2 hp hl hfi hct hsz
  clear HRE hc hp hcw hfi hsz hct hln
  go_enter Tryz.func13,Tryz.ntmps13
  go_wp2_with (first|(go_at_call 23;refine HR2.out.mono ?_;rintro e w1 ⟨db,rfl,HX1,hb1⟩)|(go_at_call 26;refine(HLI.out _ _ hb1.size HX1.out).mono ?_;rintro e w2 ⟨rfl,hb2⟩))
  go_ret
  exact⟨rfl,zae hb1 hb2 (Nat.le_refl _)⟩
end Go.Proofs.YteampbddflhngaaGreat
