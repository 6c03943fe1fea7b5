import Derived.Test.YteampbddflhngaaGreatCKeepR
import Derived.Test.YteampbddflhngaaGreatB37

namespace Go.Proofs.YteampbddflhngaaGreat
set_option maxRecDepth 100000
set_option maxHeartbeats 4000000
open Go.RowKit
theorem limits_any {lp:Nat} (w:World) (db pb:Nat) (s:ByteArray) {cs:List PClause} {t0 t:List PEnt} (hd:Box w db #[.pointer (some ⟨pb,0,none⟩),.string s] 98) (hP:PProg lp w pb cs t) (h:Parts cs t0 t) (hlp:lp<=w.heap.size) :
    Calls Tryz.prog 27 #[.pointer (some ⟨db,0,none⟩)] w fun e w'=>e=.returned (.bool true)/\Below w.heap.size w w':=by
  have HD:Hid (Box w db #[.pointer (some ⟨pb,0,none⟩),.string s] 98):=hd
  have HCEL:Hid (∀ W,Below w.heap.size w W->W.cell? ⟨db,0,none⟩=some (.pointer (some ⟨pb,0,none⟩))/\db < W.heap.size):=fun W hb=>⟨by rw [(hd.below hb).rules.1];rfl,(hd.below hb).lt⟩
  have hlow:∀ W,Below w.heap.size w W->lp<=W.heap.size:=fun W hb=>Nat.le_trans hlp hb.size
  have HRU:Hid (∀ W mr mx,Below w.heap.size w W->mr<=1048576->mx<=1048576->Calls Tryz.prog 35 #[.pointer (some ⟨pb,0,none⟩),.slice none 0 0,.int .i64 (mr:Nat),.int .i64 (mx:Nat)] W fun e w'=>RunAbs lp t (collectC cs) (absRun (makeM t (collectC cs) none cs) mr mx) W e w'):=fun W mr mx hb h1 h2=>prun_abs W pb (hP.below hb) h (hlow W hb) mr mx h1 h2
  obtain ⟨c0,hl0⟩:=HCEL.out w (Below.refl _ _)
  clear hd hP h
  cases hA:absRun (makeM t (collectC cs) none cs) 4096 4096 with
  | none =>
    have H1:Hid (Calls Tryz.prog 35 #[.pointer (some ⟨pb,0,none⟩),.slice none 0 0,.int .i64 4096,.int .i64 4096] w fun e w'=>e=.returned (.tuple #[.pointer none,.int .i64 10])/\Below w.heap.size w w'):=by
      refine (HRU.out w 4096 4096 (Below.refl _ _) (by omega) (by omega)).mono ?_
      intro e w' q
      rw [hA] at q
      exact q
    clear hA HRU
    go_enter Tryz.func27,Tryz.ntmps27
    go_wp2_with (first | (go_at_call 35;refine H1.out.mono ?_;rintro e w1 ⟨rfl,hb1⟩))
    go_ret
    exact ⟨rfl,hb1⟩
  | some x =>
    obtain ⟨D,k⟩:=x
    obtain ⟨r1,r2,r3⟩:=run_some hA
    obtain ⟨c,n1,n2⟩:=r2
    obtain ⟨l1,l2,l3⟩:=limits_pure hA n2
    have H1:Hid (Calls Tryz.prog 35 #[.pointer (some ⟨pb,0,none⟩),.slice none 0 0,.int .i64 4096,.int .i64 4096] w fun e w'=>∃ (R:PRun) (rb:Nat) (pv nv rv:Value),e=.returned (.tuple #[.pointer (some ⟨rb,0,none⟩),.int .i64 0])/\Hid (Box w' rb #[pv,nv,rv,.int .i64 (c:Nat),.int .i64 (k:Nat),.int .i64 R.moves] 156)/\Hid (Below w.heap.size w w')):=by
      refine (HRU.out w 4096 4096 (Below.refl _ _) (by omega) (by omega)).mono ?_
      intro e w' q
      rw [hA] at q
      obtain ⟨R,rb,pv,nv,rv,tbs,q1,q2,q3,q4,q5,q6,q7,_,q8⟩:=q
      have hcc:=card_eq q7 n2
      have hb:=q3.box
      rw [hcc,q6] at hb
      exact ⟨R,rb,pv,nv,rv,q2,hb,q8⟩
    have HCT:Hid (∀ W (R:PRun) rb pv nv rv,Below w.heap.size w W->Box W rb #[pv,nv,rv,.int .i64 (c:Nat),.int .i64 (k:Nat),.int .i64 R.moves] 156->Calls Tryz.prog 42 #[.pointer (some ⟨rb,0,none⟩)] W fun e w'=>e=.returned (.tuple #[.int .i64 (c:Nat),.int .i64 (k:Nat),.int .i64 R.moves])/\w'.cell? ⟨db,0,none⟩=some (.pointer (some ⟨pb,0,none⟩))/\db < w'.heap.size/\Hid (Below w.heap.size w w')):=fun W R rb pv nv rv hb hx=>by
      refine (counts_any W rb pv nv rv { R with count:=c,rounds:=k } hx).mono ?_
      rintro e w' ⟨q1,m,rfl⟩
      have hb2:Below w.heap.size w (W.drewN m):=bdrewN hb m
      exact ⟨q1,(HCEL.out _ hb2).1,(HCEL.out _ hb2).2,hb2⟩
    have H2:Hid (∀ W,Below w.heap.size w W->Calls Tryz.prog 35 #[.pointer (some ⟨pb,0,none⟩),.slice none 0 0,.int .i64 (c:Nat),.int .i64 (k:Nat)] W fun e w'=>∃ rb,e=.returned (.tuple #[.pointer (some ⟨rb,0,none⟩),.int .i64 0])/\w'.cell? ⟨db,0,none⟩=some (.pointer (some ⟨pb,0,none⟩))/\db < w'.heap.size/\Hid (Below w.heap.size w w')):=fun W hb=>by
      refine (HRU.out W c k hb (by omega) (by omega)).mono ?_
      intro e w' q
      rw [l1] at q
      obtain ⟨R,rb,pv,nv,rv,tbs,q1,q2,q3,q4,q5,q6,q7,_,q8⟩:=q
      have hb2:=bnext hb q8 (Nat.le_refl _)
      exact ⟨rb,q2,(HCEL.out _ hb2).1,(HCEL.out _ hb2).2,hb2⟩
    have H3:Hid (0 < c->∀ W,Below w.heap.size w W->Calls Tryz.prog 35 #[.pointer (some ⟨pb,0,none⟩),.slice none 0 0,.int .i64 ((c:Int) - 1),.int .i64 (k:Nat)] W fun e w'=>e=.returned (.tuple #[.pointer none,.int .i64 10])/\w'.cell? ⟨db,0,none⟩=some (.pointer (some ⟨pb,0,none⟩))/\db < w'.heap.size/\Hid (Below w.heap.size w w')):=fun h0 W hb=>by
      have q:=HRU.out W (c - 1) k hb (by omega) (by omega)
      rw [show ((c - 1:Nat):Int)=(c:Int) - 1 by omega] at q
      refine q.mono ?_
      intro e w' q
      rw [l2 h0] at q
      have hb2:=bnext hb q.2 (Nat.le_refl _)
      exact ⟨q.1,(HCEL.out _ hb2).1,(HCEL.out _ hb2).2,hb2⟩
    have H4:Hid (0 < k->∀ W,Below w.heap.size w W->Calls Tryz.prog 35 #[.pointer (some ⟨pb,0,none⟩),.slice none 0 0,.int .i64 (c:Nat),.int .i64 ((k:Int) - 1)] W fun e w'=>e=.returned (.tuple #[.pointer none,.int .i64 10])/\w'.cell? ⟨db,0,none⟩=some (.pointer (some ⟨pb,0,none⟩))/\db < w'.heap.size/\Hid (Below w.heap.size w w')):=fun h0 W hb=>by
      have q:=HRU.out W c (k - 1) hb (by omega) (by omega)
      rw [show ((k - 1:Nat):Int)=(k:Int) - 1 by omega] at q
      refine q.mono ?_
      intro e w' q
      rw [l3 h0] at q
      have hb2:=bnext hb q.2 (Nat.le_refl _)
      exact ⟨q.1,(HCEL.out _ hb2).1,(HCEL.out _ hb2).2,hb2⟩
    have H5:Hid (∀ W,Below w.heap.size w W->Calls Tryz.prog 35 #[.pointer (some ⟨pb,0,none⟩),.slice none 0 0,.int .i64 (-1),.int .i64 5] W fun e w'=>e=.returned (.tuple #[.pointer none,.int .i64 8])/\w'=W):=fun W _=>prun_arg W _ _ (-1) 5 (by omega) (by omega) (by omega)
    have H6:Hid (∀ W,Below w.heap.size w W->Calls Tryz.prog 35 #[.pointer (some ⟨pb,0,none⟩),.slice none 0 0,.int .i64 5,.int .i64 1048577] W fun e w'=>e=.returned (.tuple #[.pointer none,.int .i64 8])/\w'=W):=fun W _=>prun_arg W _ _ 5 1048577 (by omega) (by omega) (by omega)
    clear hA HRU l1 l2 l3 r3 n2 hlow
    by_cases hc0:0 < c
    · have hci:(0:Int) < (c:Int):=by omega
      by_cases hk0:0 < k
      · have hki:(0:Int) < (k:Int):=by omega
        go_enter Tryz.func27,Tryz.ntmps27
        go_wp2_with (first | (go_at_call 35;refine (H6.out _ hf5.out).mono ?_;rintro e w7 ⟨rfl,hww⟩;obtain rfl:=hww.symm) | (go_at_call 35;refine (H5.out _ HB5.out).mono ?_;rintro e w6 ⟨rfl,hww⟩;obtain rfl:=hww.symm;have hf5:=HB5) | (go_at_call 35;refine (H4.out hk0 _ HB4.out).mono ?_;rintro e w5 ⟨rfl,c5,hl5,HB5⟩) | (go_at_call 35;refine (H3.out hc0 _ HB3.out).mono ?_;rintro e w4 ⟨rfl,c4,hl4,HB4⟩) | (go_at_call 35;refine (H2.out _ HB2.out).mono ?_;rintro e w3 ⟨rb3,rfl,c3,hl3,HB3⟩) | (go_at_call 42;refine (HCT.out _ _ _ _ _ _ HB1.out HX1.out).mono ?_;rintro e w2 ⟨rfl,c2,hl2,HB2⟩) | (go_at_call 35;refine H1.out.mono ?_;rintro e w1 ⟨R,rb,pv,nv,rv,rfl,HX1,HB1⟩))
        go_ret
        exact ⟨rfl,HB5.out⟩
      · have hki:¬ (0:Int) < (k:Int):=by omega
        go_enter Tryz.func27,Tryz.ntmps27
        go_wp2_with (first | (go_at_call 35;refine (H6.out _ hf5.out).mono ?_;rintro e w7 ⟨rfl,hww⟩;obtain rfl:=hww.symm) | (go_at_call 35;refine (H5.out _ HB4.out).mono ?_;rintro e w6 ⟨rfl,hww⟩;obtain rfl:=hww.symm;have hf5:=HB4) | (go_at_call 35;refine (H3.out hc0 _ HB3.out).mono ?_;rintro e w4 ⟨rfl,c4,hl4,HB4⟩) | (go_at_call 35;refine (H2.out _ HB2.out).mono ?_;rintro e w3 ⟨rb3,rfl,c3,hl3,HB3⟩) | (go_at_call 42;refine (HCT.out _ _ _ _ _ _ HB1.out HX1.out).mono ?_;rintro e w2 ⟨rfl,c2,hl2,HB2⟩) | (go_at_call 35;refine H1.out.mono ?_;rintro e w1 ⟨R,rb,pv,nv,rv,rfl,HX1,HB1⟩))
        go_ret
        exact ⟨rfl,HB4.out⟩
    · have hci:¬ (0:Int) < (c:Int):=by omega
      by_cases hk0:0 < k
      · have hki:(0:Int) < (k:Int):=by omega
        go_enter Tryz.func27,Tryz.ntmps27
        go_wp2_with (first | (go_at_call 35;refine (H6.out _ hf5.out).mono ?_;rintro e w7 ⟨rfl,hww⟩;obtain rfl:=hww.symm) | (go_at_call 35;refine (H5.out _ HB5.out).mono ?_;rintro e w6 ⟨rfl,hww⟩;obtain rfl:=hww.symm;have hf5:=HB5) | (go_at_call 35;refine (H4.out hk0 _ HB3.out).mono ?_;rintro e w5 ⟨rfl,c5,hl5,HB5⟩) | (go_at_call 35;refine (H2.out _ HB2.out).mono ?_;rintro e w3 ⟨rb3,rfl,c3,hl3,HB3⟩) | (go_at_call 42;refine (HCT.out _ _ _ _ _ _ HB1.out HX1.out).mono ?_;rintro e w2 ⟨rfl,c2,hl2,HB2⟩) | (go_at_call 35;refine H1.out.mono ?_;rintro e w1 ⟨R,rb,pv,nv,rv,rfl,HX1,HB1⟩))
        go_ret
        exact ⟨rfl,HB5.out⟩
      · have hki:¬ (0:Int) < (k:Int):=by omega
        go_enter Tryz.func27,Tryz.ntmps27
        go_wp2_with (first | (go_at_call 35;refine (H6.out _ hf5.out).mono ?_;rintro e w7 ⟨rfl,hww⟩;obtain rfl:=hww.symm) | (go_at_call 35;refine (H5.out _ HB3.out).mono ?_;rintro e w6 ⟨rfl,hww⟩;obtain rfl:=hww.symm;have hf5:=HB3) | (go_at_call 35;refine (H2.out _ HB2.out).mono ?_;rintro e w3 ⟨rb3,rfl,c3,hl3,HB3⟩) | (go_at_call 42;refine (HCT.out _ _ _ _ _ _ HB1.out HX1.out).mono ?_;rintro e w2 ⟨rfl,c2,hl2,HB2⟩) | (go_at_call 35;refine H1.out.mono ?_;rintro e w1 ⟨R,rb,pv,nv,rv,rfl,HX1,HB1⟩))
        go_ret
        exact ⟨rfl,HB3.out⟩
theorem Limits_any (w:World) (s:ByteArray) (hs:s.size<=9223372036854775807) :
    Calls Tryz.prog 14 #[.string s] w fun e w'=>e=.returned (.bool true)/\Below w.heap.size w w':=by
  have HRE:Hid (Calls Tryz.prog 23 #[.string s] w fun e w'=>ReadKeep s w e w'):=kread_any w s hs
  unfold ReadKeep at HRE
  cases hc:compB s with
  | error n =>
    rw [hc] at HRE
    have HR2:Hid (Calls Tryz.prog 23 #[.string s] w fun e w'=>e=.returned (.tuple #[.pointer none,.bool true])/\Below w.heap.size w w'):=HRE
    clear HRE hc
    go_enter Tryz.func14,Tryz.ntmps14
    go_wp2_with (first | (go_at_call 23;refine HR2.out.mono ?_;rintro e w1 ⟨rfl,hb1⟩))
    go_ret
    exact ⟨rfl,hb1⟩
  | ok x =>
    obtain ⟨cs,t⟩:=x
    obtain ⟨t0,hp⟩:=comp_parts hc
    rw [hc] at HRE
    have HR2:Hid (Calls Tryz.prog 23 #[.string s] w fun e w'=>∃ db,e=.returned (.tuple #[.pointer (some ⟨db,0,none⟩),.bool true])/\Hid (∃ pb,Box w' db #[.pointer (some ⟨pb,0,none⟩),.string s] 98/\PProg w.heap.size w' pb cs t)/\Below w.heap.size w w'):=by
      refine HRE.out.mono ?_
      rintro e w' ⟨db,pb,q1,q2,q3,q4,q5⟩
      exact ⟨db,q2,⟨pb,q3,q4⟩,q5⟩
    have HLI:Hid (∀ W db,w.heap.size<=W.heap.size->(∃ pb,Box W db #[.pointer (some ⟨pb,0,none⟩),.string s] 98/\PProg w.heap.size W pb cs t)->Calls Tryz.prog 27 #[.pointer (some ⟨db,0,none⟩)] W fun e w'=>e=.returned (.bool true)/\Below W.heap.size W w'):=fun W db hl ⟨pb,q1,q2⟩=>limits_any W db pb s q1 q2 hp hl
    clear HRE hc hp
    go_enter Tryz.func14,Tryz.ntmps14
    go_wp2_with (first | (go_at_call 23;refine HR2.out.mono ?_;rintro e w1 ⟨db,rfl,HX1,hb1⟩) | (go_at_call 27;refine (HLI.out _ _ hb1.size HX1.out).mono ?_;rintro e w2 ⟨rfl,hb2⟩))
    go_ret
    exact ⟨rfl,bnext hb1 hb2 (Nat.le_refl _)⟩
end Go.Proofs.YteampbddflhngaaGreat
