import Derived.Test.YteampbddflhngaaGreatB14
import Derived.Deep.RegionWith

namespace Go.Proofs.YteampbddflhngaaGreat
set_option maxRecDepth 100000
set_option maxHeartbeats 4000000
open Go.RowKit
variable {lo:Nat}
theorem nat_beq2 (a b:Nat):((a:Int) == (b:Int))=(a == b):=by
  by_cases h:a=b
  · subst h;rw [beq_self_eq_true,beq_self_eq_true]
  · rw [beq_eq_false_iff_ne.2 (by omega:(a:Int)≠(b:Int)),beq_eq_false_iff_ne.2 h]
def termV (t:PTerm):Value:=.agg #[.bool t.var,.int .i64 (t.num:Nat),.int .i64 (t.level:Nat)]
def row3 (x y z:Nat):Value:=.agg #[.int .i64 (x:Nat),.int .i64 (y:Nat),.int .i64 (z:Nat)]
def vals5 (a b c d e:Nat):Value:=.agg #[.int .i64 (a:Nat),.int .i64 (b:Nat),.int .i64 (c:Nat),.int .i64 (d:Nat),.int .i64 (e:Nat)]
theorem at_term (w:World) (t:PTerm) (a b c d e:Nat) :
    Calls Tryz.prog 188 #[termV t,vals5 a b c d e] w fun r w'=>r=.returned (.int .i64 (atT t [a,b,c,d,e]:Nat))/\Below w.heap.size w w':=by
  obtain ⟨vr,n,lv⟩:=t
  unfold termV vals5
  simp only
  cases vr with
  | false =>
    have HE:Hid (atT ⟨false,n,lv⟩ [a,b,c,d,e]=n):=rfl
    go_enter Tryz.func188,Tryz.ntmps188
    go_wp2
    go_ret
    exact ⟨by rw [HE.out];rfl,(by repeat' (first | with_reducible (first | exact Below.refl _ _ | assumption | refine bdrewN ?_ _ | refine Below.alloc ?_ ?_ _ | refine Below.drew ?_ | refine Below.setCell ?_ ?_ _) | go_size))⟩
  | true =>
    by_cases h5:n < 5
    · have HE:Hid (atT ⟨true,n,lv⟩ [a,b,c,d,e]=[a,b,c,d,e].getD n 0):=by simp [Hid,atT,h5]
      obtain rfl | rfl | rfl | rfl | rfl:n=0∨n=1∨n=2∨n=3∨n=4:=by omega
      all_goals
        go_enter Tryz.func188,Tryz.ntmps188
        go_wp2
        go_ret
        exact ⟨by rw [HE.out];rfl,(by repeat' (first | with_reducible (first | exact Below.refl _ _ | assumption | refine bdrewN ?_ _ | refine Below.alloc ?_ ?_ _ | refine Below.drew ?_ | refine Below.setCell ?_ ?_ _) | go_size))⟩
    · have HE:Hid (atT ⟨true,n,lv⟩ [a,b,c,d,e]=n):=by simp [Hid,atT,h5]
      go_enter Tryz.func188,Tryz.ntmps188
      go_wp2
      go_ret
      exact ⟨by rw [HE.out];rfl,(by repeat' (first | with_reducible (first | exact Below.refl _ _ | assumption | refine bdrewN ?_ _ | refine Below.alloc ?_ ?_ _ | refine Below.drew ?_ | refine Below.setCell ?_ ?_ _) | go_size))⟩
theorem leveled_term (w:World) (t:PTerm) :
    Calls Tryz.prog 218 #[termV t] w fun r w'=>r=.returned (.bool (leveled t))/\Below w.heap.size w w':=by
  obtain ⟨vr,n,lv⟩:=t
  unfold termV
  simp only
  cases vr with
  | false =>
    have HE:Hid (leveled ⟨false,n,lv⟩=false):=rfl
    go_enter Tryz.func218,Tryz.ntmps218
    go_wp2
    go_ret
    exact ⟨by rw [HE.out];rfl,(by repeat' (first | with_reducible (first | exact Below.refl _ _ | assumption | refine bdrewN ?_ _ | refine Below.alloc ?_ ?_ _ | refine Below.drew ?_ | refine Below.setCell ?_ ?_ _) | go_size))⟩
  | true =>
    by_cases h3:lv < 3
    · have HE:Hid (leveled ⟨true,n,lv⟩=true):=by simp [Hid,leveled,h3]
      go_enter Tryz.func218,Tryz.ntmps218
      go_wp2
      go_ret
      exact ⟨by rw [HE.out];simp;omega,(by repeat' (first | with_reducible (first | exact Below.refl _ _ | assumption | refine bdrewN ?_ _ | refine Below.alloc ?_ ?_ _ | refine Below.drew ?_ | refine Below.setCell ?_ ?_ _) | go_size))⟩
    · have HE:Hid (leveled ⟨true,n,lv⟩=false):=by simp [Hid,leveled,h3]
      go_enter Tryz.func218,Tryz.ntmps218
      go_wp2
      go_ret
      exact ⟨by rw [HE.out];simp;omega,(by repeat' (first | with_reducible (first | exact Below.refl _ _ | assumption | refine bdrewN ?_ _ | refine Below.alloc ?_ ?_ _ | refine Below.drew ?_ | refine Below.setCell ?_ ?_ _) | go_size))⟩
theorem allows_term (w:World) (t:PTerm) (v x y z:Nat) :
    Calls Tryz.prog 219 #[termV t,.int .i64 v,row3 x y z] w fun r w'=>r=.returned (.bool (allowsT t v [x,y,z]))/\Below w.heap.size w w':=by
  have HL:Hid (∀ W,Calls Tryz.prog 218 #[termV t] W fun r w'=>r=.returned (.bool (leveled t))/\Below W.heap.size W w'):=fun W=>leveled_term W t
  have HA:Hid (allowsT t v [x,y,z]=if leveled t then [x,y,z].getD t.level 0 == v else t.num == v):=rfl
  have hlv:leveled t=true->t.level < 3:=by simp [leveled]
  generalize leveled t=lb at *
  obtain ⟨vr,n,lv⟩:=t
  unfold termV at HL ⊢
  unfold row3
  simp only at HL hlv HA ⊢
  cases lb with
  | false =>
    go_enter Tryz.func219,Tryz.ntmps219
    go_wp2_with (first | (go_at_call 218;refine (HL.out _).mono ?_;rintro r w1 ⟨rfl,hb1⟩;have hB1:Below w.heap.size w w1:=bnext (by repeat' (first | with_reducible (first | exact Below.refl _ _ | assumption | refine bdrewN ?_ _ | refine Below.alloc ?_ ?_ _ | refine Below.drew ?_ | refine Below.setCell ?_ ?_ _) | go_size)) hb1 (Nat.le_refl _);have hbx:=((Box.new w #[.bool vr,.int .i64 (n:Nat),.int .i64 (lv:Nat)] 284).below ((Below.refl _ _).alloc (Nat.le_refl _) (.cells #[.int .i64 (x:Nat),.int .i64 (y:Nat),.int .i64 (z:Nat)] 165))).below hb1;obtain ⟨hc,hf⟩:=hbx.rules;have hl:=hbx.lt))
    go_ret
    exact ⟨by rw [HA.out];simp [nat_beq2],hB1⟩
  | true =>
    have hl3:=hlv rfl
    clear hlv
    obtain rfl | rfl | rfl:lv=0∨lv=1∨lv=2:=by omega
    all_goals
      go_enter Tryz.func219,Tryz.ntmps219
      go_wp2_with (first | (go_at_call 218;refine (HL.out _).mono ?_;rintro r w1 ⟨rfl,hb1⟩;have hB1:Below w.heap.size w w1:=bnext (by repeat' (first | with_reducible (first | exact Below.refl _ _ | assumption | refine bdrewN ?_ _ | refine Below.alloc ?_ ?_ _ | refine Below.drew ?_ | refine Below.setCell ?_ ?_ _) | go_size)) hb1 (Nat.le_refl _);have hbx:=((Box.new w #[.bool vr,.int .i64 (n:Nat),.int .i64 _] 284).below ((Below.refl _ _).alloc (Nat.le_refl _) (.cells #[.int .i64 (x:Nat),.int .i64 (y:Nat),.int .i64 (z:Nat)] 165))).below hb1;obtain ⟨hc,hf⟩:=hbx.rules;have hl:=hbx.lt;have hbr:=(Box.newAt (w.alloc (.cells #[.bool vr,.int .i64 (n:Nat),.int .i64 _] 284)) (w.heap.size+1) #[.int .i64 (x:Nat),.int .i64 (y:Nat),.int .i64 (z:Nat)] 165 (by simp)).below hb1;obtain ⟨hrc,hrf⟩:=hbr.rules;have hrl:=hbr.lt))
      go_ret
      exact ⟨by rw [HA.out];simp [nat_beq2],hB1⟩
def rowAcc (l:PRLit) (vals:List Nat):Nat->Array Value
  | 0=>#[.int .i64 0,.int .i64 0,.int .i64 0]
  | 1=>#[.int .i64 ((rowCell l vals 0:Nat):Int),.int .i64 0,.int .i64 0]
  | 2=>#[.int .i64 ((rowCell l vals 0:Nat):Int),.int .i64 ((rowCell l vals 1:Nat):Int),.int .i64 0]
  | _=>#[.int .i64 ((rowCell l vals 0:Nat):Int),.int .i64 ((rowCell l vals 1:Nat):Int),.int .i64 ((rowCell l vals 2:Nat):Int)]
theorem row_lit (w:World) (v:Value) (pr:Nat) (ts:List PTerm) (a b c d e:Nat) (h:TermsIn lo w v ts) :
    Calls Tryz.prog 161 #[.agg #[.int .i64 pr,v],vals5 a b c d e] w fun r w'=>r=.returned (.agg #[.int .i64 ((rowCell ⟨pr,ts⟩ [a,b,c,d,e] 0:Nat):Int),.int .i64 ((rowCell ⟨pr,ts⟩ [a,b,c,d,e] 1:Nat):Int),.int .i64 ((rowCell ⟨pr,ts⟩ [a,b,c,d,e] 2:Nat):Int)])/\Below w.heap.size w w':=by
  obtain ⟨ao,cap,rfl⟩:=h.shape
  have hl:=h.len
  unfold vals5
  go_enter Tryz.func161,Tryz.ntmps161
  go_wp2
  go_loopw [7] (fun v7 wr=>∃ k:Nat,k<=3/\v7=.int .i64 k/\Box wr w.heap.size #[.int .i64 pr,.slice ao ts.length cap] 204/\Box wr (w.heap.size+1) #[.int .i64 (a:Nat),.int .i64 (b:Nat),.int .i64 (c:Nat),.int .i64 (d:Nat),.int .i64 (e:Nat)] 262/\Box wr (w.heap.size+2) #[.int .i64 0,.int .i64 0,.int .i64 0] 165/\Box wr (w.heap.size+3) (rowAcc ⟨pr,ts⟩ [a,b,c,d,e] k) 165/\Below w.heap.size w wr) (fun i _=>3 - (intOf i).toNat)
  case atStart=>exact ⟨0,by omega,rfl,(((Box.new w _ _).below ((Below.refl _ _).alloc (Nat.le_refl _) _)).below ((Below.refl _ _).alloc (Nat.le_refl _) _)).below ((Below.refl _ _).alloc (Nat.le_refl _) _),((Box.newAt _ _ _ _ (by simp)).below ((Below.refl _ _).alloc (Nat.le_refl _) _)).below ((Below.refl _ _).alloc (Nat.le_refl _) _),(Box.newAt _ _ _ _ (by simp)).below ((Below.refl _ _).alloc (Nat.le_refl _) _),Box.newAt _ _ _ _ (by simp),(by repeat' (first | with_reducible (first | exact Below.refl _ _ | assumption | refine bdrewN ?_ _ | refine Below.alloc ?_ ?_ _ | refine Below.drew ?_ | refine Below.setCell ?_ ?_ _) | go_size))⟩
  case round =>
    obtain ⟨k,hk,rfl,hlb,hvb,hr0,hrb,hbk⟩:=hrel
    obtain ⟨hlc,hlf⟩:=hlb.rules
    have hll:=hlb.lt
    obtain ⟨hvc,hvf⟩:=hvb.rules
    have hvl:=hvb.lt
    have hszk:=hbk.size
    match k,hk with
    | 0,_ =>
      have hrow:Box wr (w.heap.size+3) #[.int .i64 0,.int .i64 0,.int .i64 0] 165:=hrb
      obtain ⟨hqc,hqf⟩:=hrow.rules
      have hql:=hrow.lt
      by_cases hlt:0 < ts.length
      · obtain ⟨g,hao,hg,h0,h1,h2⟩:=h.cell 0 hlt
        subst hao
        have hx0:=(hbk.cell (p:=⟨g,0 * 3,none⟩) hg).trans h0
        have hx1:=(hbk.cell (p:=⟨g,0 * 3+1,none⟩) hg).trans h1
        have hx2:=(hbk.cell (p:=⟨g,0 * 3+2,none⟩) hg).trans h2
        simp only [Nat.reduceMul,Nat.reduceAdd] at hx0 hx1 hx2
        have hgr:g < wr.heap.size:=by omega
        have HE:Hid (rowCell ⟨pr,ts⟩ [a,b,c,d,e] 0=atT ts[0] [a,b,c,d,e]):=by simp [Hid,rowCell,hlt,List.getD_eq_getElem?_getD]
        have HAT:Hid (∀ W,Calls Tryz.prog 188 #[.agg #[.bool ts[0].var,.int .i64 (ts[0].num:Nat),.int .i64 (ts[0].level:Nat)],.agg #[.int .i64 (a:Nat),.int .i64 (b:Nat),.int .i64 (c:Nat),.int .i64 (d:Nat),.int .i64 (e:Nat)]] W fun r w'=>r=.returned (.int .i64 ((rowCell ⟨pr,ts⟩ [a,b,c,d,e] 0:Nat):Int))/\Below W.heap.size W w'):=fun W=>by rw [HE.out];exact at_term W ts[0] a b c d e
        clear h0 h1 h2 HE
        generalize ts[0]=t at *
        obtain ⟨rc,hrc⟩:∃ rc,rc=rowCell ⟨pr,ts⟩ [a,b,c,d,e] 0:=⟨_,rfl⟩
        rw [← hrc] at HAT
        have HRC:Hid (rowCell ⟨pr,ts⟩ [a,b,c,d,e] 0=rc):=hrc.symm
        clear hrc
        go_wp2
        go_region_with (go_at_call 188;refine (HAT.out _).mono ?_;rintro r w2 ⟨rfl,hb2⟩;have hB2:Below wr.heap.size wr w2:=(bnext (by repeat' (first | with_reducible (first | exact Below.refl _ _ | assumption | refine bdrewN ?_ _ | refine Below.alloc ?_ ?_ _ | refine Below.drew ?_ | refine Below.setCell ?_ ?_ _) | go_size)) hb2 (Nat.le_refl _));have hrow2:=hrow.below hB2;obtain ⟨hqc2,hqf2⟩:=hrow2.rules;have hql2:=hrow2.lt)
        all_goals
          have hset:=hrow2.set 0 (.int .i64 (rc:Nat))
          simp at hset
          have hl2:=(hlb.below hB2).set_ne (show w.heap.size≠w.heap.size+3 from by omega) 0 (.int .i64 (rc:Nat))
          have hv2:=(hvb.below hB2).set_ne (show w.heap.size+1≠w.heap.size+3 from by omega) 0 (.int .i64 (rc:Nat))
          have h02:=(hr0.below hB2).set_ne (show w.heap.size+2≠w.heap.size+3 from by omega) 0 (.int .i64 (rc:Nat))
          have hB3:=(bnext hbk hB2 (Nat.le_refl _)).setCell (p:=⟨w.heap.size+3,0,none⟩) (by simp) (.int .i64 (rc:Nat))
          go_wp2
          go_roundw
          case rel=>exact ⟨1,by omega,rfl,hl2,hv2,h02,(by simp only [rowAcc,HRC.out];exact hset),hB3⟩
          case measure=>simp [intOf]
      · have HE:Hid (rowCell ⟨pr,ts⟩ [a,b,c,d,e] 0=0):=by simp [Hid,rowCell,hlt]
        have hlt2:ts.length<=0:=by omega
        go_wp2
        go_roundw
        case rel=>exact ⟨1,by omega,rfl,hlb,hvb,hr0,(by have q:=hrow;simp only [rowAcc,HE.out];exact q),hbk⟩
        case measure=>simp [intOf]
    | 1,_ =>
      have hrow:Box wr (w.heap.size+3) #[.int .i64 ((rowCell ⟨pr,ts⟩ [a,b,c,d,e] 0:Nat):Int),.int .i64 0,.int .i64 0] 165:=hrb
      obtain ⟨hqc,hqf⟩:=hrow.rules
      have hql:=hrow.lt
      by_cases hlt:1 < ts.length
      · obtain ⟨g,hao,hg,h0,h1,h2⟩:=h.cell 1 hlt
        subst hao
        have hx0:=(hbk.cell (p:=⟨g,1 * 3,none⟩) hg).trans h0
        have hx1:=(hbk.cell (p:=⟨g,1 * 3+1,none⟩) hg).trans h1
        have hx2:=(hbk.cell (p:=⟨g,1 * 3+2,none⟩) hg).trans h2
        simp only [Nat.reduceMul,Nat.reduceAdd] at hx0 hx1 hx2
        have hgr:g < wr.heap.size:=by omega
        have HE:Hid (rowCell ⟨pr,ts⟩ [a,b,c,d,e] 1=atT ts[1] [a,b,c,d,e]):=by simp [Hid,rowCell,hlt,List.getD_eq_getElem?_getD]
        have HAT:Hid (∀ W,Calls Tryz.prog 188 #[.agg #[.bool ts[1].var,.int .i64 (ts[1].num:Nat),.int .i64 (ts[1].level:Nat)],.agg #[.int .i64 (a:Nat),.int .i64 (b:Nat),.int .i64 (c:Nat),.int .i64 (d:Nat),.int .i64 (e:Nat)]] W fun r w'=>r=.returned (.int .i64 ((rowCell ⟨pr,ts⟩ [a,b,c,d,e] 1:Nat):Int))/\Below W.heap.size W w'):=fun W=>by rw [HE.out];exact at_term W ts[1] a b c d e
        clear h0 h1 h2 HE
        generalize ts[1]=t at *
        obtain ⟨rc,hrc⟩:∃ rc,rc=rowCell ⟨pr,ts⟩ [a,b,c,d,e] 1:=⟨_,rfl⟩
        rw [← hrc] at HAT
        have HRC:Hid (rowCell ⟨pr,ts⟩ [a,b,c,d,e] 1=rc):=hrc.symm
        clear hrc
        go_wp2
        go_region_with (go_at_call 188;refine (HAT.out _).mono ?_;rintro r w2 ⟨rfl,hb2⟩;have hB2:Below wr.heap.size wr w2:=(bnext (by repeat' (first | with_reducible (first | exact Below.refl _ _ | assumption | refine bdrewN ?_ _ | refine Below.alloc ?_ ?_ _ | refine Below.drew ?_ | refine Below.setCell ?_ ?_ _) | go_size)) hb2 (Nat.le_refl _));have hrow2:=hrow.below hB2;obtain ⟨hqc2,hqf2⟩:=hrow2.rules;have hql2:=hrow2.lt)
        all_goals
          have hset:=hrow2.set 1 (.int .i64 (rc:Nat))
          simp at hset
          have hl2:=(hlb.below hB2).set_ne (show w.heap.size≠w.heap.size+3 from by omega) 1 (.int .i64 (rc:Nat))
          have hv2:=(hvb.below hB2).set_ne (show w.heap.size+1≠w.heap.size+3 from by omega) 1 (.int .i64 (rc:Nat))
          have h02:=(hr0.below hB2).set_ne (show w.heap.size+2≠w.heap.size+3 from by omega) 1 (.int .i64 (rc:Nat))
          have hB3:=(bnext hbk hB2 (Nat.le_refl _)).setCell (p:=⟨w.heap.size+3,1,none⟩) (by simp) (.int .i64 (rc:Nat))
          go_wp2
          go_roundw
          case rel=>exact ⟨2,by omega,rfl,hl2,hv2,h02,(by simp only [rowAcc,HRC.out];exact hset),hB3⟩
          case measure=>simp [intOf]
      · have HE:Hid (rowCell ⟨pr,ts⟩ [a,b,c,d,e] 1=0):=by simp [Hid,rowCell,hlt]
        have hlt2:ts.length<=1:=by omega
        go_wp2
        go_roundw
        case rel=>exact ⟨2,by omega,rfl,hlb,hvb,hr0,(by have q:=hrow;simp only [rowAcc,HE.out];exact q),hbk⟩
        case measure=>simp [intOf]
    | 2,_ =>
      have hrow:Box wr (w.heap.size+3) #[.int .i64 ((rowCell ⟨pr,ts⟩ [a,b,c,d,e] 0:Nat):Int),.int .i64 ((rowCell ⟨pr,ts⟩ [a,b,c,d,e] 1:Nat):Int),.int .i64 0] 165:=hrb
      obtain ⟨hqc,hqf⟩:=hrow.rules
      have hql:=hrow.lt
      by_cases hlt:2 < ts.length
      · obtain ⟨g,hao,hg,h0,h1,h2⟩:=h.cell 2 hlt
        subst hao
        have hx0:=(hbk.cell (p:=⟨g,2 * 3,none⟩) hg).trans h0
        have hx1:=(hbk.cell (p:=⟨g,2 * 3+1,none⟩) hg).trans h1
        have hx2:=(hbk.cell (p:=⟨g,2 * 3+2,none⟩) hg).trans h2
        simp only [Nat.reduceMul,Nat.reduceAdd] at hx0 hx1 hx2
        have hgr:g < wr.heap.size:=by omega
        have HE:Hid (rowCell ⟨pr,ts⟩ [a,b,c,d,e] 2=atT ts[2] [a,b,c,d,e]):=by simp [Hid,rowCell,hlt,List.getD_eq_getElem?_getD]
        have HAT:Hid (∀ W,Calls Tryz.prog 188 #[.agg #[.bool ts[2].var,.int .i64 (ts[2].num:Nat),.int .i64 (ts[2].level:Nat)],.agg #[.int .i64 (a:Nat),.int .i64 (b:Nat),.int .i64 (c:Nat),.int .i64 (d:Nat),.int .i64 (e:Nat)]] W fun r w'=>r=.returned (.int .i64 ((rowCell ⟨pr,ts⟩ [a,b,c,d,e] 2:Nat):Int))/\Below W.heap.size W w'):=fun W=>by rw [HE.out];exact at_term W ts[2] a b c d e
        clear h0 h1 h2 HE
        generalize ts[2]=t at *
        obtain ⟨rc,hrc⟩:∃ rc,rc=rowCell ⟨pr,ts⟩ [a,b,c,d,e] 2:=⟨_,rfl⟩
        rw [← hrc] at HAT
        have HRC:Hid (rowCell ⟨pr,ts⟩ [a,b,c,d,e] 2=rc):=hrc.symm
        clear hrc
        go_wp2
        go_region_with (go_at_call 188;refine (HAT.out _).mono ?_;rintro r w2 ⟨rfl,hb2⟩;have hB2:Below wr.heap.size wr w2:=(bnext (by repeat' (first | with_reducible (first | exact Below.refl _ _ | assumption | refine bdrewN ?_ _ | refine Below.alloc ?_ ?_ _ | refine Below.drew ?_ | refine Below.setCell ?_ ?_ _) | go_size)) hb2 (Nat.le_refl _));have hrow2:=hrow.below hB2;obtain ⟨hqc2,hqf2⟩:=hrow2.rules;have hql2:=hrow2.lt)
        all_goals
          have hset:=hrow2.set 2 (.int .i64 (rc:Nat))
          simp at hset
          have hl2:=(hlb.below hB2).set_ne (show w.heap.size≠w.heap.size+3 from by omega) 2 (.int .i64 (rc:Nat))
          have hv2:=(hvb.below hB2).set_ne (show w.heap.size+1≠w.heap.size+3 from by omega) 2 (.int .i64 (rc:Nat))
          have h02:=(hr0.below hB2).set_ne (show w.heap.size+2≠w.heap.size+3 from by omega) 2 (.int .i64 (rc:Nat))
          have hB3:=(bnext hbk hB2 (Nat.le_refl _)).setCell (p:=⟨w.heap.size+3,2,none⟩) (by simp) (.int .i64 (rc:Nat))
          go_wp2
          go_roundw
          case rel=>exact ⟨3,by omega,rfl,hl2,hv2,h02,(by simp only [rowAcc,HRC.out];exact hset),hB3⟩
          case measure=>simp [intOf]
      · have HE:Hid (rowCell ⟨pr,ts⟩ [a,b,c,d,e] 2=0):=by simp [Hid,rowCell,hlt]
        have hlt2:ts.length<=2:=by omega
        go_wp2
        go_roundw
        case rel=>exact ⟨3,by omega,rfl,hlb,hvb,hr0,(by have q:=hrow;simp only [rowAcc,HE.out];exact q),hbk⟩
        case measure=>simp [intOf]
    | 3,_ =>
      simp only [rowAcc] at hrb
      obtain ⟨hqc,hqf⟩:=hrb.rules
      have hql:=hrb.lt
      obtain ⟨hzc,hzf⟩:=hr0.rules
      have hzl:=hr0.lt
      go_wp2
      exact bodyPost_ret (v:=.agg #[.int .i64 ((rowCell ⟨pr,ts⟩ [a,b,c,d,e] 0:Nat):Int),.int .i64 ((rowCell ⟨pr,ts⟩ [a,b,c,d,e] 1:Nat):Int),.int .i64 ((rowCell ⟨pr,ts⟩ [a,b,c,d,e] 2:Nat):Int)]) (by simp [results,Tryz.results161,go_sem,hzc]) rfl ⟨rfl,((hbk.setCell (p:=⟨w.heap.size+2,0,none⟩) (by simp) _).setCell (p:=⟨w.heap.size+2,1,none⟩) (by simp) _).setCell (p:=⟨w.heap.size+2,2,none⟩) (by simp) _⟩
end Go.Proofs.YteampbddflhngaaGreat
