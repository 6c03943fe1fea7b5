import Derived.Test.YteampbddflhngaaGreatCKeepT
import Derived.Test.YteampbddflhngaaGreatB46

namespace Go.Proofs.YteampbddflhngaaGreat
set_option maxRecDepth 100000
set_option maxHeartbeats 4000000
open Go.RowKit
theorem zrl:∀(cs:List zaa) (a:ByteArray),(∀ c∈cs,znn c)->(cs.foldl (fun s c=>s++(clT c++zlk)) a).size<=a.size+10000001 * cs.length
 |[],a,_=>by simp
 |c::cs,a,h=>by
  have h1:=zzp (h c (by simp))
  have h2:=zrl cs (a++(clT c++zlk)) fun d hd=>h d (List.mem_cons_of_mem _ hd)
  rw[ByteArray.size_append,ByteArray.size_append,show zlk.size=1 from rfl] at h2
  rw[List.foldl_cons,List.length_cons]
  omega
theorem z1p{s:ByteArray}{cs:List zaa}{t:List zaq}(h:zia s=.ok (cs,t)):∀ c∈cs,zkl c:=by
 unfold zia at h
 split at h
 ·cases h
 ·split at h
  ·cases h
  ·rename_i l hl
   split at h
   ·cases h
   ·rename_i ds hd
    have hw:=zmj _ hd (zpf hl)
    have hcs:ds=cs:=by
     repeat'(split at h)
     all_goals first|(cases h;done)|(simp only[Except.ok.injEq,Prod.mk.injEq] at h;exact h.1)
    subst hcs
    exact hw
theorem zok.sz{x:ByteArray}(h:zok (bl x)):0 < x.size/\x.size<=6:=by
 have h1:=h.ne
 have h2:=h.six
 have e:(bl x).length=x.size:=rfl
 cases hb:bl x with
 |nil=>exact absurd hb h1
 |cons a r=>rw[hb] at e h2;simp only[List.length_cons] at e h2;omega
theorem zij.fine{l:zbc}(h:zij l)(ha:l.args.length<=3):zou l :=
 ⟨h.1.1.sz.2,h.1.1.sz.1,by omega,fun x hx=>h.2 x hx |>.sz⟩
theorem zkl.fine{c:zaa}(h:zkl c)(hm:zec c=false):znn c:=by
 unfold zec at hm
 simp only[Bool.or_eq_false_iff,decide_eq_false_iff_not] at hm
 obtain⟨⟨⟨h1,h2⟩,h3⟩,_⟩:=hm
 refine⟨fun l hl=>?_,by omega⟩
 rcases List.mem_cons.1 hl with rfl|hl
 ·exact h.2.1.fine (by omega)
 ·have:=List.any_eq_false.1 h3 l hl
  simp only[decide_eq_true_eq] at this
  exact(h.2.2 l hl).fine (by omega)
theorem zxh(w:World)(s:ByteArray)(hs:s.size<=9223372036854775807) :
  Calls Tryz.prog 13 #[.string s] w fun e w'=>e=.returned (.bool true)/\Below w.heap.size w w':=by
 have HRE:Hid (Calls Tryz.prog 23 #[.string s] w fun e w'=>zny s w e w'):=z7j w s hs
 unfold zny at HRE
 cases hc:zia s with
 |error n =>
  rw[hc] at HRE
  have HR2:Hid (Calls Tryz.prog 23 #[.string s] w fun e w'=>e=.returned (.tuple #[.pointer none,.bool true])/\Below w.heap.size w w'):=HRE
  clear HRE hc
  go_enter Tryz.func13,Tryz.ntmps13
  go_wp2_with (first|(go_at_call 23;refine HR2.out.mono ?_;rintro e w1 ⟨rfl,hb1⟩))
  go_ret
  exact⟨rfl,hb1⟩
 |ok x =>
  obtain⟨cs,t⟩:=x
  obtain⟨t0,hp⟩:=zrr hc
  have hcw:=z1p hc
  have hfi:∀ c∈cs,znn c:=fun c h=>(hcw c h).fine (hp.many c h)
  have hln:=hp.runok.1.len
  have hsz:(zd5 cs).size<=9223372036854775807:=by
   have:=zrl cs ByteArray.empty hfi
   have e:ByteArray.empty.size=0:=rfl
   unfold zd5
   omega
  have hct:=fun hs=>z5h hc hs
  rw[hc] at HRE
  have HR2:Hid (Calls Tryz.prog 23 #[.string s] w fun e w'=>∃ db,e=.returned (.tuple #[.pointer (some ⟨db,0,none⟩),.bool true])/\Hid (∃ pb,Box w' db #[.pointer (some ⟨pb,0,none⟩),.string s] 98/\zfu w.heap.size w' pb cs t)/\Below w.heap.size w w'):=by
   refine HRE.out.mono ?_
   rintro e w' ⟨db,pb,q1,q2,q3,q4,q5⟩
   exact⟨db,q2,⟨pb,q3,q4⟩,q5⟩
  have HLI:Hid (∀ W db,w.heap.size<=W.heap.size->(∃ pb,Box W db #[.pointer (some ⟨pb,0,none⟩),.string s] 98/\zfu w.heap.size W pb cs t)->Calls Tryz.prog 26 #[.pointer (some ⟨db,0,none⟩)] W fun e w'=>e=.returned (.bool true)/\Below W.heap.size W w'):=fun W db hl ⟨pb,q1,q2⟩=>zv5 W db pb s q1 q2 hp hl hfi hct hsz
  clear HRE hc hp hcw hfi hsz hct hln
  go_enter Tryz.func13,Tryz.ntmps13
  go_wp2_with (first|(go_at_call 23;refine HR2.out.mono ?_;rintro e w1 ⟨db,rfl,HX1,hb1⟩)|(go_at_call 26;refine(HLI.out _ _ hb1.size HX1.out).mono ?_;rintro e w2 ⟨rfl,hb2⟩))
  go_ret
  exact⟨rfl,zad hb1 hb2 (Nat.le_refl _)⟩
end Go.Proofs.YteampbddflhngaaGreat
