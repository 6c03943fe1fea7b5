import Derived.Test.YteampbddflhngaaGreatB48
import Derived.Test.YteampbddflhngaaGreatB46
import Derived.Test.YteampbddflhngaaGreatCPx6


namespace Go.Proofs.YteampbddflhngaaGreat
set_option maxRecDepth 100000
set_option maxHeartbeats 4000000
open Go.RowKit
def yai(t:List zaq)(ns:List ByteArray)(D:DB)(f:zgf):Prop:=∃ p,p < t.length/\∃ r m,D p r=some m/\f=(zis t p,za0 ns r (za1 t p) 3,m)
def zz0(t:List zaq)(ns:List ByteArray)(A:Option (DB × Nat))(t2:List zaq)(ns2:List ByteArray)(B:Option (DB × Nat)):Prop:=match A,B with
 |none,none=>True
 |some (D,k),some (E,l)=>k=l/\∀ f,yai t ns D f↔yai t2 ns2 E f
 |_,_=>False
theorem zop{t:List zaq}{ns:List ByteArray}{R:zbd}(h:Told t ns R):(za5 t ns R t.length).length=R.count:=by
 unfold za5
 rw[List.length_flatMap,h.inv.cnt]
 congr 1
 refine List.ext_getElem (by simp[h.len]) fun i h1 h2=>?_
 have hi:i < R.rows.length:=by simpa using h2
 simp only[List.getElem_map,List.getElem_range,List.length_map,zc1]
 rw[getD_lt _ hi,((h.inv.tries i hi).1).cnt]
theorem z4m{lp:Nat}(w:World)(db pb:Nat)(s0 s:ByteArray){cs:List zaa}{t0 t:List zaq}(hd:Box w db #[.pointer (some ⟨pb,0,none⟩),.string s0] 98)(hP:zfu lp w pb cs t)(h:Parts cs t0 t)(hlp:lp<=w.heap.size)(hsz:s.size<=9223372036854775807)
  (hs:s.size<=500->∃ cs2 t2,zia s=.ok (cs2,t2)/\zz0 t (zaf cs) (zgi (zg8 t (zaf cs) none cs) 4096 4096) t2 (zaf cs2) (zgi (zg8 t2 (zaf cs2) none cs2) 4096 4096)) :
  Calls Tryz.prog 56 #[.pointer (some ⟨db,0,none⟩),.string s] w fun e w'=>e=.returned (.bool true)/\Below w.heap.size w w':=by
 by_cases hlen:s.size<=500
 ·obtain⟨cs2,t2,hc,hal⟩:=hs hlen
  obtain⟨t20,h2⟩:=zrr hc
  have HCEL:Hid (∀ W,Below w.heap.size w W->W.cell? ⟨db,0,none⟩=some (.pointer (some ⟨pb,0,none⟩))/\db < W.heap.size):=fun W hb=>⟨by rw[(hd.below hb).rules.1];rfl,(hd.below hb).lt⟩
  have hlni:¬ (500:Int) < (s.size:Int):=by omega
  have HCO:Hid (Calls Tryz.prog 32 #[.string s] w fun e w'=>∃ qb,e=.returned (.tuple #[.pointer (some ⟨qb,0,none⟩),.int .i64 0])/\Hid (zfu w.heap.size w' qb cs2 t2)/\Hid (Below w.heap.size w w')/\w'.cell? ⟨db,0,none⟩=some (.pointer (some ⟨pb,0,none⟩))/\db < w'.heap.size):=by
   refine(zg1 s w hsz).mono ?_
   rintro e w' ⟨hb,q2⟩
   rw[hc] at q2
   obtain⟨qb,v,pv,h3,h4,h5,h6,h7⟩:=q2
   exact⟨qb,h3,⟨h7,v,pv,h4,h5,h6⟩,hb,HCEL.out w' hb⟩
  have HR1:Hid (∀ W,Below w.heap.size w W->Calls Tryz.prog 35 #[.pointer (some ⟨pb,0,none⟩),.slice none 0 0,.int .i64 4096,.int .i64 4096] W fun e w'=>z8k lp t (zaf cs) (zgi (zg8 t (zaf cs) none cs) 4096 4096) W e w'):=fun W hb=>zze W pb (hP.below hb) h (Nat.le_trans hlp hb.size) 4096 4096 (by omega) (by omega)
  have HR2:Hid (∀ W W2 qb,Below w.heap.size w W->zfu w.heap.size W qb cs2 t2->Below W.heap.size W W2->Calls Tryz.prog 35 #[.pointer (some ⟨qb,0,none⟩),.slice none 0 0,.int .i64 4096,.int .i64 4096] W2 fun e w'=>z8k w.heap.size t2 (zaf cs2) (zgi (zg8 t2 (zaf cs2) none cs2) 4096 4096) W2 e w'):=fun W W2 qb hb hq hb2=>zze W2 qb (hq.below hb2) h2 (Nat.le_trans hb.size hb2.size) 4096 4096 (by omega) (by omega)
  obtain⟨c0,hl0⟩:=HCEL.out w (Below.refl _ _)
  cases hA:zgi (zg8 t (zaf cs) none cs) 4096 4096 with
  |none =>
   cases hB:zgi (zg8 t2 (zaf cs2) none cs2) 4096 4096 with
   |some y=>rw[hA,hB] at hal;exact hal.elim
   |none =>
    have K1:Hid (∀ W,Below w.heap.size w W->Calls Tryz.prog 35 #[.pointer (some ⟨pb,0,none⟩),.slice none 0 0,.int .i64 4096,.int .i64 4096] W fun e w'=>e=.returned (.tuple #[.pointer none,.int .i64 10])/\Hid (Below W.heap.size W w')):=fun W hb=>by
     refine(HR1.out W hb).mono ?_
     intro e w' q
     rw[hA] at q
     exact q
    have K2:Hid (∀ W W2 qb,Below w.heap.size w W->zfu w.heap.size W qb cs2 t2->Below W.heap.size W W2->Calls Tryz.prog 35 #[.pointer (some ⟨qb,0,none⟩),.slice none 0 0,.int .i64 4096,.int .i64 4096] W2 fun e w'=>e=.returned (.tuple #[.pointer none,.int .i64 10])/\Hid (Below w.heap.size w w')):=fun W W2 qb hb hq hb2=>by
     refine(HR2.out W W2 qb hb hq hb2).mono ?_
     intro e w' q
     rw[hB] at q
     exact⟨q.1,zad (zad hb hb2 (Nat.le_refl _)) q.2 (Nat.le_refl _)⟩
    clear hal hA hB HR1 HR2 hd hP h h2 hs hc
    go_enter Tryz.func56,Tryz.ntmps56
    go_wp2_with (first|(go_at_call 32;refine HCO.out.mono ?_;rintro e w1 ⟨qb,rfl,HP1,HB1,c1,hl1⟩)|(go_at_call 35;refine(K2.out _ _ _ HB1.out HP1.out HB2.out).mono ?_;rintro e w3 ⟨rfl,HB3⟩)|(go_at_call 35;refine(K1.out _ HB1.out).mono ?_;rintro e w2 ⟨rfl,HB2⟩))
    go_ret
    exact⟨rfl,HB3.out⟩
  |some x =>
   cases hB:zgi (zg8 t2 (zaf cs2) none cs2) 4096 4096 with
   |none=>rw[hA,hB] at hal;exact hal.elim
   |some y =>
    obtain⟨D,kk⟩:=x
    obtain⟨E,ll⟩:=y
    rw[hA,hB] at hal
    have hkl:kk=ll:=hal.1
    have hfs:∀ f,yai t (zaf cs) D f↔yai t2 (zaf cs2) E f:=hal.2
    have K1:Hid (∀ W,Below w.heap.size w W->Calls Tryz.prog 35 #[.pointer (some ⟨pb,0,none⟩),.slice none 0 0,.int .i64 4096,.int .i64 4096] W fun e w'=>∃ rb,e=.returned (.tuple #[.pointer (some ⟨rb,0,none⟩),.int .i64 0])/\Hid (∃(R:zbd) (pv nv rv:Value) (tbs:List Nat) (lo:Nat),zqk lo lp w' rb t (zaf cs) R pv nv rv tbs/\Told t (zaf cs) R/\zcs (t.map (·.arity)) R=D/\R.rounds=kk)/\Hid (Below W.heap.size W w')):=fun W hb=>by
     refine(HR1.out W hb).mono ?_
     intro e w' q
     rw[hA] at q
     obtain⟨R,rb,pv,nv,rv,tbs,q1,q2,q3,q4,q5,q6,q7,q8,q9⟩:=q
     exact⟨rb,q2,⟨R,pv,nv,rv,tbs,_,q3,h.told q4 q5 hA q8,q5,q6⟩,q9⟩
    have K2:Hid (∀ W W2 qb,Below w.heap.size w W->zfu w.heap.size W qb cs2 t2->Below W.heap.size W W2->Calls Tryz.prog 35 #[.pointer (some ⟨qb,0,none⟩),.slice none 0 0,.int .i64 4096,.int .i64 4096] W2 fun e w'=>∃ rb,e=.returned (.tuple #[.pointer (some ⟨rb,0,none⟩),.int .i64 0])/\Hid (∃(R:zbd) (pv nv rv:Value) (tbs:List Nat) (lo:Nat),zqk lo w.heap.size w' rb t2 (zaf cs2) R pv nv rv tbs/\Told t2 (zaf cs2) R/\zcs (t2.map (·.arity)) R=E/\R.rounds=ll)/\Hid (Below W2.heap.size W2 w')/\w'.cell? ⟨db,0,none⟩=some (.pointer (some ⟨pb,0,none⟩))/\db < w'.heap.size):=fun W W2 qb hb hq hb2=>by
     refine(HR2.out W W2 qb hb hq hb2).mono ?_
     intro e w' q
     rw[hB] at q
     obtain⟨R,rb,pv,nv,rv,tbs,q1,q2,q3,q4,q5,q6,q7,q8,q9⟩:=q
     exact⟨rb,q2,⟨R,pv,nv,rv,tbs,_,q3,h2.told q4 q5 hB q8,q5,q6⟩,q9,HCEL.out w' (zad (zad hb hb2 (Nat.le_refl _)) q9 (Nat.le_refl _))⟩
    have HAK:Hid (∀ W1 W2 W3 qb rb sb,Below w.heap.size w W1->zfu w.heap.size W1 qb cs2 t2->Below W1.heap.size W1 W2->Below W2.heap.size W2 W3->(∃(R:zbd) (pv nv rv:Value) (tbs:List Nat) (lo:Nat),zqk lo lp W2 rb t (zaf cs) R pv nv rv tbs/\Told t (zaf cs) R/\zcs (t.map (·.arity)) R=D/\R.rounds=kk)->(∃(R:zbd) (pv nv rv:Value) (tbs:List Nat) (lo:Nat),zqk lo w.heap.size W3 sb t2 (zaf cs2) R pv nv rv tbs/\Told t2 (zaf cs2) R/\zcs (t2.map (·.arity)) R=E/\R.rounds=ll)->Calls Tryz.prog 93 #[.pointer (some ⟨pb,0,none⟩),.pointer (some ⟨rb,0,none⟩),.pointer (some ⟨qb,0,none⟩),.pointer (some ⟨sb,0,none⟩)] W3 fun e w'=>e=.returned (.bool true)/\Hid (Below w.heap.size w w')):=fun W1 W2 W3 qb rb sb hb1 hq hb2 hb3 ⟨R,pv,nv,rv,tbs,lo,r1,r2,r3,r4⟩ ⟨R',pv',nv',rv',tbs',lo',s1,s2,s3,s4⟩=>by
     have hb13:=zad hb2 hb3 (Nat.le_refl _)
     have hbw:=zad hb1 hb13 (Nat.le_refl _)
     have hmem:∀ f,f∈za5 t (zaf cs) R t.length↔f∈za5 t2 (zaf cs2) R' t2.length:=fun f=>by
      rw[zmf r2,zmf s2,r3,s3]
      exact hfs f
     have hal:=z8x r2 s2 hmem
     have hcnt:R.count=R'.count:=by rw[← zop r2,← zop s2];exact hal.1
     refine(z2y W3 pb rb qb sb cs cs2 t t2 (zaf cs) (zaf cs2) R R' pv nv rv pv' nv' rv' tbs tbs' (hP.below hbw) (r1.below hb3) r2 (zq5 r2) (hq.below hb13) s1 s2 (zq5 s2) hal hcnt (by omega)).mono ?_
     rintro e w' ⟨q1,q2⟩
     exact⟨q1,zad hbw q2 (Nat.le_refl _)⟩
    clear hal hA hB HR1 HR2 hd hP h h2 hs hc hfs hkl
    go_enter Tryz.func56,Tryz.ntmps56
    go_wp2_with (first|(go_at_call 32;refine HCO.out.mono ?_;rintro e w1 ⟨qb,rfl,HP1,HB1,c1,hl1⟩)|(go_at_call 93;refine(HAK.out _ _ _ _ _ _ HB1.out HP1.out HB2.out HB3.out HX2.out HX3.out).mono ?_;rintro e w4 ⟨rfl,HB4⟩)|(go_at_call 35;refine(K2.out _ _ _ HB1.out HP1.out HB2.out).mono ?_;rintro e w3 ⟨sb,rfl,HX3,HB3,c3,hl3⟩)|(go_at_call 35;refine(K1.out _ HB1.out).mono ?_;rintro e w2 ⟨rb,rfl,HX2,HB2⟩))
    go_ret
    exact⟨rfl,HB4.out⟩
 ·have hlni:(500:Int) < (s.size:Int):=by omega
  clear hd hP h hs
  go_enter Tryz.func56,Tryz.ntmps56
  go_wp2
  go_ret
  exact⟨rfl,Below.refl _ _⟩
end Go.Proofs.YteampbddflhngaaGreat


namespace Go.Proofs.YteampbddflhngaaGreat
set_option maxRecDepth 100000
set_option maxHeartbeats 4000000
open Go.RowKit
theorem zz0.refl(t:List zaq)(ns:List ByteArray)(A:Option (DB × Nat)):zz0 t ns A t ns A:=by
 cases A with
 |none=>trivial
 |some x=>exact⟨rfl,fun f=>Iff.rfl⟩
theorem zv5{lp:Nat}(w:World)(db pb:Nat)(s:ByteArray){cs:List zaa}{t0 t:List zaq}(hd:Box w db #[.pointer (some ⟨pb,0,none⟩),.string s] 98)(hP:zfu lp w pb cs t)(h:Parts cs t0 t)(hlp:lp<=w.heap.size)(hf:∀ c∈cs,znn c)(hct:(zd5 cs).size<=500->zia (zd5 cs)=.ok (cs,t))(hsz:(zd5 cs).size<=9223372036854775807) :
  Calls Tryz.prog 26 #[.pointer (some ⟨db,0,none⟩)] w fun e w'=>e=.returned (.bool true)/\Below w.heap.size w w':=by
 obtain⟨hk,_⟩:=h.runok
 have hcl:=hk.len
 have HT1:Hid (Calls Tryz.prog 47 #[.pointer (some ⟨pb,0,none⟩)] w fun e w'=>e=.returned (.string (zd5 cs))/\Hid (Below w.heap.size w w')):=zvz w pb cs t hP hcl hf
 have HT2:Hid (∀ W lo qb,zfu lo W qb cs t->Calls Tryz.prog 47 #[.pointer (some ⟨qb,0,none⟩)] W fun e w'=>e=.returned (.string (zd5 cs))/\Hid (Below W.heap.size W w')):=fun W lo qb hq=>zvz W qb cs t hq hcl hf
 have HCO:Hid (∀ W,(zd5 cs).size<=500->Calls Tryz.prog 32 #[.string (zd5 cs)] W fun e w'=>∃ qb,e=.returned (.tuple #[.pointer (some ⟨qb,0,none⟩),.int .i64 0])/\Hid (zfu W.heap.size w' qb cs t)/\Hid (Below W.heap.size W w')):=fun W hs=>by
  refine(zg1 (zd5 cs) W hsz).mono ?_
  rintro e w' ⟨hb,q2⟩
  rw[hct hs] at q2
  obtain⟨qb,v,pv,h3,h4,h5,h6,h7⟩:=q2
  exact⟨qb,h3,⟨h7,v,pv,h4,h5,h6⟩,hb⟩
 have HOT:Hid (∀ W,Below w.heap.size w W->Calls Tryz.prog 56 #[.pointer (some ⟨db,0,none⟩),.string (zd5 cs)] W fun e w'=>e=.returned (.bool true)/\Hid (Below W.heap.size W w')):=fun W hb=>z4m W db pb s (zd5 cs) (hd.below hb) (hP.below hb) h (Nat.le_trans hlp hb.size) hsz fun hs=>⟨cs,t,hct hs,zz0.refl _ _ _⟩
 have c0:w.cell? ⟨db,0,none⟩=some (.pointer (some ⟨pb,0,none⟩)):=by rw[hd.rules.1];rfl
 have hl0:=hd.lt
 clear hd hP h hct hf
 generalize zd5 cs=x at *
 by_cases h5:x.size<=500
 ·have h5i:¬ (500:Int) < (x.size:Int):=by omega
  have HC1:Hid (∀ W,Calls Tryz.prog 32 #[.string x] W fun e w'=>∃ qb,e=.returned (.tuple #[.pointer (some ⟨qb,0,none⟩),.int .i64 0])/\Hid (zfu W.heap.size w' qb cs t)/\Hid (Below W.heap.size W w')):=fun W=>HCO.out W h5
  clear HCO
  go_enter Tryz.func26,Tryz.ntmps26
  go_wp2_with (first|(go_at_call 32;refine(HC1.out _).mono ?_;rintro e w2 ⟨qb,rfl,HP2,HB2⟩)|(go_at_call 56;refine(HOT.out _ (zad (zad HB1.out HB2.out (Nat.le_refl _)) HB3.out (Nat.le_refl _))).mono ?_;rintro e w4 ⟨rfl,HB4⟩)|(go_at_call 47;refine(HT2.out _ _ _ HP2.out).mono ?_;rintro e w3 ⟨rfl,HB3⟩)|(go_at_call 47;refine HT1.out.mono ?_;rintro e w1 ⟨rfl,HB1⟩))
  go_ret
  exact⟨by simp,zad (zad (zad HB1.out HB2.out (Nat.le_refl _)) HB3.out (Nat.le_refl _)) HB4.out (Nat.le_refl _)⟩
 ·have h5i:(500:Int) < (x.size:Int):=by omega
  go_enter Tryz.func26,Tryz.ntmps26
  go_wp2_with (first|(go_at_call 47;refine HT1.out.mono ?_;rintro e w1 ⟨rfl,HB1⟩))
  go_ret
  exact⟨rfl,HB1.out⟩
end Go.Proofs.YteampbddflhngaaGreat


namespace Go.Proofs.YteampbddflhngaaGreat
set_option maxRecDepth 100000
set_option maxHeartbeats 4000000
open Go.RowKit
theorem zrl:∀(cs:List zaa) (a:ByteArray),(∀ c∈cs,znn c)->(cs.foldl (fun s c=>s++(clT c++zlk)) a).size<=a.size+10000001 * cs.length
 |[],a,_=>by simp
 |c::cs,a,h=>by
  have h1:=zzp (h c (by simp))
  have h2:=zrl cs (a++(clT c++zlk)) fun d hd=>h d (List.mem_cons_of_mem _ hd)
  rw[ByteArray.size_append,ByteArray.size_append,show zlk.size=1 from rfl] at h2
  rw[List.foldl_cons,List.length_cons]
  omega
theorem z1p{s:ByteArray}{cs:List zaa}{t:List zaq}(h:zia s=.ok (cs,t)):∀ c∈cs,zkl c:=by
 unfold zia at h
 split at h
 ·cases h
 ·split at h
  ·cases h
  ·rename_i l hl
   split at h
   ·cases h
   ·rename_i ds hd
    have hw:=zmj _ hd (zpf hl)
    have hcs:ds=cs:=by
     repeat'(split at h)
     all_goals first|(cases h;done)|(simp only[Except.ok.injEq,Prod.mk.injEq] at h;exact h.1)
    subst hcs
    exact hw
theorem zok.sz{x:ByteArray}(h:zok (bl x)):0 < x.size/\x.size<=6:=by
 have h1:=h.ne
 have h2:=h.six
 have e:(bl x).length=x.size:=rfl
 cases hb:bl x with
 |nil=>exact absurd hb h1
 |cons a r=>rw[hb] at e h2;simp only[List.length_cons] at e h2;omega
theorem zij.fine{l:zbc}(h:zij l)(ha:l.args.length<=3):zou l :=
 ⟨h.1.1.sz.2,h.1.1.sz.1,by omega,fun x hx=>h.2 x hx |>.sz⟩
theorem zkl.fine{c:zaa}(h:zkl c)(hm:zec c=false):znn c:=by
 unfold zec at hm
 simp only[Bool.or_eq_false_iff,decide_eq_false_iff_not] at hm
 obtain⟨⟨⟨h1,h2⟩,h3⟩,_⟩:=hm
 refine⟨fun l hl=>?_,by omega⟩
 rcases List.mem_cons.1 hl with rfl|hl
 ·exact h.2.1.fine (by omega)
 ·have:=List.any_eq_false.1 h3 l hl
  simp only[decide_eq_true_eq] at this
  exact(h.2.2 l hl).fine (by omega)
theorem zxh(w:World)(s:ByteArray)(hs:s.size<=9223372036854775807) :
  Calls Tryz.prog 13 #[.string s] w fun e w'=>e=.returned (.bool true)/\Below w.heap.size w w':=by
 have HRE:Hid (Calls Tryz.prog 23 #[.string s] w fun e w'=>zny s w e w'):=z7j w s hs
 unfold zny at HRE
 cases hc:zia s with
 |error n =>
  rw[hc] at HRE
  have HR2:Hid (Calls Tryz.prog 23 #[.string s] w fun e w'=>e=.returned (.tuple #[.pointer none,.bool true])/\Below w.heap.size w w'):=HRE
  clear HRE hc
  go_enter Tryz.func13,Tryz.ntmps13
  go_wp2_with (first|(go_at_call 23;refine HR2.out.mono ?_;rintro e w1 ⟨rfl,hb1⟩))
  go_ret
  exact⟨rfl,hb1⟩
 |ok x =>
  obtain⟨cs,t⟩:=x
  obtain⟨t0,hp⟩:=zrr hc
  have hcw:=z1p hc
  have hfi:∀ c∈cs,znn c:=fun c h=>(hcw c h).fine (hp.many c h)
  have hln:=hp.runok.1.len
  have hsz:(zd5 cs).size<=9223372036854775807:=by
   have:=zrl cs ByteArray.empty hfi
   have e:ByteArray.empty.size=0:=rfl
   unfold zd5
   omega
  have hct:=fun hs=>z5h hc hs
  rw[hc] at HRE
  have HR2:Hid (Calls Tryz.prog 23 #[.string s] w fun e w'=>∃ db,e=.returned (.tuple #[.pointer (some ⟨db,0,none⟩),.bool true])/\Hid (∃ pb,Box w' db #[.pointer (some ⟨pb,0,none⟩),.string s] 98/\zfu w.heap.size w' pb cs t)/\Below w.heap.size w w'):=by
   refine HRE.out.mono ?_
   rintro e w' ⟨db,pb,q1,q2,q3,q4,q5⟩
   exact⟨db,q2,⟨pb,q3,q4⟩,q5⟩
  have HLI:Hid (∀ W db,w.heap.size<=W.heap.size->(∃ pb,Box W db #[.pointer (some ⟨pb,0,none⟩),.string s] 98/\zfu w.heap.size W pb cs t)->Calls Tryz.prog 26 #[.pointer (some ⟨db,0,none⟩)] W fun e w'=>e=.returned (.bool true)/\Below W.heap.size W w'):=fun W db hl ⟨pb,q1,q2⟩=>zv5 W db pb s q1 q2 hp hl hfi hct hsz
  clear HRE hc hp hcw hfi hsz hct hln
  go_enter Tryz.func13,Tryz.ntmps13
  go_wp2_with (first|(go_at_call 23;refine HR2.out.mono ?_;rintro e w1 ⟨db,rfl,HX1,hb1⟩)|(go_at_call 26;refine(HLI.out _ _ hb1.size HX1.out).mono ?_;rintro e w2 ⟨rfl,hb2⟩))
  go_ret
  exact⟨rfl,zad hb1 hb2 (Nat.le_refl _)⟩
end Go.Proofs.YteampbddflhngaaGreat
