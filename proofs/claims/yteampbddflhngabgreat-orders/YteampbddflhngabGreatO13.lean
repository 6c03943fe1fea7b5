import Derived.Test.YteampbddflhngabGreatO12

namespace Go.Proofs.YteampbddflhngabGreat
set_option maxRecDepth 100000
set_option maxHeartbeats 8000000
open Go.RowKit
variable {lo:Nat}
def zea(l:zak)(row:zaq):Nat->zaq
 |0=>[0,0,0]
 |k+1=>zbz l row (zea l row k) k
theorem z4b{l:zak}{row f:zaq}(hf:zdb l row=f):zb0 l row=if (za0 l row f 0 && za0 l row f 1 && za0 l row f 2)=true then some f else none:=by unfold zb0;rw[hf]
theorem z3b(l:zak)(row:zaq):zdb l row=zea l row 3:=rfl
theorem z4c(w:World)(v:Value)(pr:Nat)(ts:List zbo)(r0 r1 r2:Nat)(h:zar lo w v ts) :
  Calls Tryz.prog 142 #[.agg #[.int .i64 pr,v],row3 r0 r1 r2] w fun r w'=>(∃ x y z:Nat,r=.returned (.tuple #[row3 x y z,.bool (zb0 ⟨pr,ts⟩ [r0,r1,r2]).isSome])/\[x,y,z]=(zb0 ⟨pr,ts⟩ [r0,r1,r2]).getD [0,0,0])/\Below w.heap.size w w':=by
 obtain⟨ao,cap,rfl⟩:=h.shape
 have hl:=h.len
 have hi0:=Tryz.row0 (.int .i64 r0) (.int .i64 r1) (.int .i64 r2)
 have hi1:=Tryz.row1 (.int .i64 r0) (.int .i64 r1) (.int .i64 r2)
 have hi2:=Tryz.row2 (.int .i64 r0) (.int .i64 r1) (.int .i64 r2)
 unfold row3
 go_enter Tryz.func142,Tryz.ntmps142
 go_wp2
 go_loopw [12] (fun v12 wr=>∃ k x y z:Nat,k<=3/\v12=.int .i64 k/\Box wr w.heap.size #[.int .i64 pr,.slice ao ts.length cap] 147/\Box wr (w.heap.size+1) #[.int .i64 (r0:Nat),.int .i64 (r1:Nat),.int .i64 (r2:Nat)] 116/\Box wr (w.heap.size+2) #[.int .i64 0,.int .i64 0,.int .i64 0] 116/\Box wr (w.heap.size+3) #[.int .i64 (x:Nat),.int .i64 (y:Nat),.int .i64 (z:Nat)] 116/\Hid (zea ⟨pr,ts⟩ [r0,r1,r2] k=[x,y,z])/\Below w.heap.size w wr) (fun i _=>3 - (intOf i).toNat)
 case atStart=>exact⟨0,0,0,0,by omega,rfl,(((Box.new w _ _).below ((Below.refl _ _).alloc (Nat.le_refl _) _)).below ((Below.refl _ _).alloc (Nat.le_refl _) _)).below ((Below.refl _ _).alloc (Nat.le_refl _) _),((Box.newAt _ _ _ _ (by simp)).below ((Below.refl _ _).alloc (Nat.le_refl _) _)).below ((Below.refl _ _).alloc (Nat.le_refl _) _),(Box.newAt _ _ _ _ (by simp)).below ((Below.refl _ _).alloc (Nat.le_refl _) _),Box.newAt _ _ _ _ (by simp),rfl,(by go_grown)⟩
 case round =>
  obtain⟨k,x,y,z,hk,rfl,hlb,hvb,hr0,hfb,HN,hbk⟩:=hrel
  obtain⟨hlc,hlf⟩:=hlb.rules
  have hll:=hlb.lt
  obtain⟨hvc,hvf⟩:=hvb.rules
  have hvl:=hvb.lt
  obtain⟨hfc,hff⟩:=hfb.rules
  have hfl:=hfb.lt
  have hszk:=hbk.size
  match k,hk with
  |0,_ =>
   by_cases hlt:0 < ts.length
   ·have HST:Hid (zea ⟨pr,ts⟩ [r0,r1,r2] 1=if leveled ts[0]=true then [x,y,z].set ts[0].level r0 else [x,y,z]):=by
     rw[Hid,zea,HN.out]
     simp[zbz,hlt,List.getD_eq_getElem?_getD]
    obtain⟨g,hao,hg,h0,h1,h2⟩:=h.cell 0 hlt
    subst hao
    have hx0:=(hbk.cell (p:=⟨g,0 * 3,none⟩) hg).trans h0
    have hx1:=(hbk.cell (p:=⟨g,0 * 3+1,none⟩) hg).trans h1
    have hx2:=(hbk.cell (p:=⟨g,0 * 3+2,none⟩) hg).trans h2
    simp only[Nat.reduceMul,Nat.reduceAdd] at hx0 hx1 hx2
    have hgr:g < wr.heap.size:=by omega
    have HLV:Hid (∀ W,Calls Tryz.prog 147 #[.agg #[.bool ts[0].var,.int .i64 (ts[0].num:Nat),.int .i64 (ts[0].level:Nat)]] W fun r w'=>r=.returned (.bool (leveled ts[0]))/\Below W.heap.size W w'):=fun W=>zhf W ts[0]
    have hlv3:leveled ts[0]=true->ts[0].level < 3:=by simp[leveled]
    clear h0 h1 h2
    generalize ts[0]=t at *
    generalize leveled t=lb at *
    cases lb with
    |false =>
     simp only[Bool.false_eq_true,if_false] at HST
     go_wp2_with (first|(go_at_call 147;refine(HLV.out _).mono ?_;rintro r w2 ⟨rfl,hb2⟩))
     go_roundw
     case rel=>exact⟨1,x,y,z,by omega,rfl,hlb.below hb2,hvb.below hb2,hr0.below hb2,hfb.below hb2,HST,zae hbk hb2 (Nat.le_refl _)⟩
     case measure=>simp[intOf]
    |true =>
     simp only[if_true] at HST
     have hl3:=hlv3 rfl
     clear hlv3
     generalize hlq:t.level=lv at *
     clear hlq
     go_wp2_with (first|(go_at_call 147;refine(HLV.out _).mono ?_;rintro r w2 ⟨rfl,hb2⟩;have hb2':=hb2;have hlb2:=hlb.below hb2;obtain⟨hlc2,hlf2⟩:=hlb2.rules;have hll2:=hlb2.lt;have hy2:=(hb2.cell (p:=⟨g,2,none⟩) hgr).trans hx2;have hfb2:=hfb.below hb2;obtain⟨hfc2,hff2⟩:=hfb2.rules;have hfl2:=hfb2.lt;have hgr2:g < w2.heap.size:=(Nat.lt_of_lt_of_le hgr hb2.size);obtain rfl|rfl|rfl:lv=0∨lv=1∨lv=2:=(by omega)))
     ·have HN2:Hid (zea ⟨pr,ts⟩ [r0,r1,r2] 1=[r0,y,z]):=by rw[Hid,HST.out];rfl
      have hset:=(hfb.below hb2').set 0 (.int .i64 (r0:Nat))
      simp at hset
      have hl2:=(hlb.below hb2').set_ne (show w.heap.size≠w.heap.size+3 from by omega) 0 (.int .i64 (r0:Nat))
      have hv2:=(hvb.below hb2').set_ne (show w.heap.size+1≠w.heap.size+3 from by omega) 0 (.int .i64 (r0:Nat))
      have h02:=(hr0.below hb2').set_ne (show w.heap.size+2≠w.heap.size+3 from by omega) 0 (.int .i64 (r0:Nat))
      have hB3:=(zae hbk hb2' (Nat.le_refl _)).setCell (p:=⟨w.heap.size+3,0,none⟩) (by simp) (.int .i64 (r0:Nat))
      go_wp2
      go_roundw
      case rel=>exact⟨1,r0,y,z,by omega,rfl,hl2,hv2,h02,hset,HN2,hB3⟩
      case measure=>simp[intOf]
     ·have HN2:Hid (zea ⟨pr,ts⟩ [r0,r1,r2] 1=[x,r0,z]):=by rw[Hid,HST.out];rfl
      have hset:=(hfb.below hb2').set 1 (.int .i64 (r0:Nat))
      simp at hset
      have hl2:=(hlb.below hb2').set_ne (show w.heap.size≠w.heap.size+3 from by omega) 1 (.int .i64 (r0:Nat))
      have hv2:=(hvb.below hb2').set_ne (show w.heap.size+1≠w.heap.size+3 from by omega) 1 (.int .i64 (r0:Nat))
      have h02:=(hr0.below hb2').set_ne (show w.heap.size+2≠w.heap.size+3 from by omega) 1 (.int .i64 (r0:Nat))
      have hB3:=(zae hbk hb2' (Nat.le_refl _)).setCell (p:=⟨w.heap.size+3,1,none⟩) (by simp) (.int .i64 (r0:Nat))
      go_wp2
      go_roundw
      case rel=>exact⟨1,x,r0,z,by omega,rfl,hl2,hv2,h02,hset,HN2,hB3⟩
      case measure=>simp[intOf]
     ·have HN2:Hid (zea ⟨pr,ts⟩ [r0,r1,r2] 1=[x,y,r0]):=by rw[Hid,HST.out];rfl
      have hset:=(hfb.below hb2').set 2 (.int .i64 (r0:Nat))
      simp at hset
      have hl2:=(hlb.below hb2').set_ne (show w.heap.size≠w.heap.size+3 from by omega) 2 (.int .i64 (r0:Nat))
      have hv2:=(hvb.below hb2').set_ne (show w.heap.size+1≠w.heap.size+3 from by omega) 2 (.int .i64 (r0:Nat))
      have h02:=(hr0.below hb2').set_ne (show w.heap.size+2≠w.heap.size+3 from by omega) 2 (.int .i64 (r0:Nat))
      have hB3:=(zae hbk hb2' (Nat.le_refl _)).setCell (p:=⟨w.heap.size+3,2,none⟩) (by simp) (.int .i64 (r0:Nat))
      go_wp2
      go_roundw
      case rel=>exact⟨1,x,y,r0,by omega,rfl,hl2,hv2,h02,hset,HN2,hB3⟩
      case measure=>simp[intOf]
   ·have HST:Hid (zea ⟨pr,ts⟩ [r0,r1,r2] 1=[x,y,z]):=by
     rw[Hid,zea,HN.out]
     simp[zbz,hlt]
    have hlt2:ts.length<=0:=by omega
    go_wp2
    go_roundw
    case rel=>exact⟨1,x,y,z,by omega,rfl,hlb,hvb,hr0,hfb,HST,hbk⟩
    case measure=>simp[intOf]
  |1,_ =>
   by_cases hlt:1 < ts.length
   ·have HST:Hid (zea ⟨pr,ts⟩ [r0,r1,r2] 2=if leveled ts[1]=true then [x,y,z].set ts[1].level r1 else [x,y,z]):=by
     rw[Hid,zea,HN.out]
     simp[zbz,hlt,List.getD_eq_getElem?_getD]
    obtain⟨g,hao,hg,h0,h1,h2⟩:=h.cell 1 hlt
    subst hao
    have hx0:=(hbk.cell (p:=⟨g,1 * 3,none⟩) hg).trans h0
    have hx1:=(hbk.cell (p:=⟨g,1 * 3+1,none⟩) hg).trans h1
    have hx2:=(hbk.cell (p:=⟨g,1 * 3+2,none⟩) hg).trans h2
    simp only[Nat.reduceMul,Nat.reduceAdd] at hx0 hx1 hx2
    have hgr:g < wr.heap.size:=by omega
    have HLV:Hid (∀ W,Calls Tryz.prog 147 #[.agg #[.bool ts[1].var,.int .i64 (ts[1].num:Nat),.int .i64 (ts[1].level:Nat)]] W fun r w'=>r=.returned (.bool (leveled ts[1]))/\Below W.heap.size W w'):=fun W=>zhf W ts[1]
    have hlv3:leveled ts[1]=true->ts[1].level < 3:=by simp[leveled]
    clear h0 h1 h2
    generalize ts[1]=t at *
    generalize leveled t=lb at *
    cases lb with
    |false =>
     simp only[Bool.false_eq_true,if_false] at HST
     go_wp2_with (first|(go_at_call 147;refine(HLV.out _).mono ?_;rintro r w2 ⟨rfl,hb2⟩))
     go_roundw
     case rel=>exact⟨2,x,y,z,by omega,rfl,hlb.below hb2,hvb.below hb2,hr0.below hb2,hfb.below hb2,HST,zae hbk hb2 (Nat.le_refl _)⟩
     case measure=>simp[intOf]
    |true =>
     simp only[if_true] at HST
     have hl3:=hlv3 rfl
     clear hlv3
     generalize hlq:t.level=lv at *
     clear hlq
     go_wp2_with (first|(go_at_call 147;refine(HLV.out _).mono ?_;rintro r w2 ⟨rfl,hb2⟩;have hb2':=hb2;have hlb2:=hlb.below hb2;obtain⟨hlc2,hlf2⟩:=hlb2.rules;have hll2:=hlb2.lt;have hy2:=(hb2.cell (p:=⟨g,5,none⟩) hgr).trans hx2;have hfb2:=hfb.below hb2;obtain⟨hfc2,hff2⟩:=hfb2.rules;have hfl2:=hfb2.lt;have hgr2:g < w2.heap.size:=(Nat.lt_of_lt_of_le hgr hb2.size);obtain rfl|rfl|rfl:lv=0∨lv=1∨lv=2:=(by omega)))
     ·have HN2:Hid (zea ⟨pr,ts⟩ [r0,r1,r2] 2=[r1,y,z]):=by rw[Hid,HST.out];rfl
      have hset:=(hfb.below hb2').set 0 (.int .i64 (r1:Nat))
      simp at hset
      have hl2:=(hlb.below hb2').set_ne (show w.heap.size≠w.heap.size+3 from by omega) 0 (.int .i64 (r1:Nat))
      have hv2:=(hvb.below hb2').set_ne (show w.heap.size+1≠w.heap.size+3 from by omega) 0 (.int .i64 (r1:Nat))
      have h02:=(hr0.below hb2').set_ne (show w.heap.size+2≠w.heap.size+3 from by omega) 0 (.int .i64 (r1:Nat))
      have hB3:=(zae hbk hb2' (Nat.le_refl _)).setCell (p:=⟨w.heap.size+3,0,none⟩) (by simp) (.int .i64 (r1:Nat))
      go_wp2
      go_roundw
      case rel=>exact⟨2,r1,y,z,by omega,rfl,hl2,hv2,h02,hset,HN2,hB3⟩
      case measure=>simp[intOf]
     ·have HN2:Hid (zea ⟨pr,ts⟩ [r0,r1,r2] 2=[x,r1,z]):=by rw[Hid,HST.out];rfl
      have hset:=(hfb.below hb2').set 1 (.int .i64 (r1:Nat))
      simp at hset
      have hl2:=(hlb.below hb2').set_ne (show w.heap.size≠w.heap.size+3 from by omega) 1 (.int .i64 (r1:Nat))
      have hv2:=(hvb.below hb2').set_ne (show w.heap.size+1≠w.heap.size+3 from by omega) 1 (.int .i64 (r1:Nat))
      have h02:=(hr0.below hb2').set_ne (show w.heap.size+2≠w.heap.size+3 from by omega) 1 (.int .i64 (r1:Nat))
      have hB3:=(zae hbk hb2' (Nat.le_refl _)).setCell (p:=⟨w.heap.size+3,1,none⟩) (by simp) (.int .i64 (r1:Nat))
      go_wp2
      go_roundw
      case rel=>exact⟨2,x,r1,z,by omega,rfl,hl2,hv2,h02,hset,HN2,hB3⟩
      case measure=>simp[intOf]
     ·have HN2:Hid (zea ⟨pr,ts⟩ [r0,r1,r2] 2=[x,y,r1]):=by rw[Hid,HST.out];rfl
      have hset:=(hfb.below hb2').set 2 (.int .i64 (r1:Nat))
      simp at hset
      have hl2:=(hlb.below hb2').set_ne (show w.heap.size≠w.heap.size+3 from by omega) 2 (.int .i64 (r1:Nat))
      have hv2:=(hvb.below hb2').set_ne (show w.heap.size+1≠w.heap.size+3 from by omega) 2 (.int .i64 (r1:Nat))
      have h02:=(hr0.below hb2').set_ne (show w.heap.size+2≠w.heap.size+3 from by omega) 2 (.int .i64 (r1:Nat))
      have hB3:=(zae hbk hb2' (Nat.le_refl _)).setCell (p:=⟨w.heap.size+3,2,none⟩) (by simp) (.int .i64 (r1:Nat))
      go_wp2
      go_roundw
      case rel=>exact⟨2,x,y,r1,by omega,rfl,hl2,hv2,h02,hset,HN2,hB3⟩
      case measure=>simp[intOf]
   ·have HST:Hid (zea ⟨pr,ts⟩ [r0,r1,r2] 2=[x,y,z]):=by
     rw[Hid,zea,HN.out]
     simp[zbz,hlt]
    have hlt2:ts.length<=1:=by omega
    go_wp2
    go_roundw
    case rel=>exact⟨2,x,y,z,by omega,rfl,hlb,hvb,hr0,hfb,HST,hbk⟩
    case measure=>simp[intOf]
  |2,_ =>
   by_cases hlt:2 < ts.length
   ·have HST:Hid (zea ⟨pr,ts⟩ [r0,r1,r2] 3=if leveled ts[2]=true then [x,y,z].set ts[2].level r2 else [x,y,z]):=by
     rw[Hid,zea,HN.out]
     simp[zbz,hlt,List.getD_eq_getElem?_getD]
    obtain⟨g,hao,hg,h0,h1,h2⟩:=h.cell 2 hlt
    subst hao
    have hx0:=(hbk.cell (p:=⟨g,2 * 3,none⟩) hg).trans h0
    have hx1:=(hbk.cell (p:=⟨g,2 * 3+1,none⟩) hg).trans h1
    have hx2:=(hbk.cell (p:=⟨g,2 * 3+2,none⟩) hg).trans h2
    simp only[Nat.reduceMul,Nat.reduceAdd] at hx0 hx1 hx2
    have hgr:g < wr.heap.size:=by omega
    have HLV:Hid (∀ W,Calls Tryz.prog 147 #[.agg #[.bool ts[2].var,.int .i64 (ts[2].num:Nat),.int .i64 (ts[2].level:Nat)]] W fun r w'=>r=.returned (.bool (leveled ts[2]))/\Below W.heap.size W w'):=fun W=>zhf W ts[2]
    have hlv3:leveled ts[2]=true->ts[2].level < 3:=by simp[leveled]
    clear h0 h1 h2
    generalize ts[2]=t at *
    generalize leveled t=lb at *
    cases lb with
    |false =>
     simp only[Bool.false_eq_true,if_false] at HST
     go_wp2_with (first|(go_at_call 147;refine(HLV.out _).mono ?_;rintro r w2 ⟨rfl,hb2⟩))
     go_roundw
     case rel=>exact⟨3,x,y,z,by omega,rfl,hlb.below hb2,hvb.below hb2,hr0.below hb2,hfb.below hb2,HST,zae hbk hb2 (Nat.le_refl _)⟩
     case measure=>simp[intOf]
    |true =>
     simp only[if_true] at HST
     have hl3:=hlv3 rfl
     clear hlv3
     generalize hlq:t.level=lv at *
     clear hlq
     go_wp2_with (first|(go_at_call 147;refine(HLV.out _).mono ?_;rintro r w2 ⟨rfl,hb2⟩;have hb2':=hb2;have hlb2:=hlb.below hb2;obtain⟨hlc2,hlf2⟩:=hlb2.rules;have hll2:=hlb2.lt;have hy2:=(hb2.cell (p:=⟨g,8,none⟩) hgr).trans hx2;have hfb2:=hfb.below hb2;obtain⟨hfc2,hff2⟩:=hfb2.rules;have hfl2:=hfb2.lt;have hgr2:g < w2.heap.size:=(Nat.lt_of_lt_of_le hgr hb2.size);obtain rfl|rfl|rfl:lv=0∨lv=1∨lv=2:=(by omega)))
     ·have HN2:Hid (zea ⟨pr,ts⟩ [r0,r1,r2] 3=[r2,y,z]):=by rw[Hid,HST.out];rfl
      have hset:=(hfb.below hb2').set 0 (.int .i64 (r2:Nat))
      simp at hset
      have hl2:=(hlb.below hb2').set_ne (show w.heap.size≠w.heap.size+3 from by omega) 0 (.int .i64 (r2:Nat))
      have hv2:=(hvb.below hb2').set_ne (show w.heap.size+1≠w.heap.size+3 from by omega) 0 (.int .i64 (r2:Nat))
      have h02:=(hr0.below hb2').set_ne (show w.heap.size+2≠w.heap.size+3 from by omega) 0 (.int .i64 (r2:Nat))
      have hB3:=(zae hbk hb2' (Nat.le_refl _)).setCell (p:=⟨w.heap.size+3,0,none⟩) (by simp) (.int .i64 (r2:Nat))
      go_wp2
      go_roundw
      case rel=>exact⟨3,r2,y,z,by omega,rfl,hl2,hv2,h02,hset,HN2,hB3⟩
      case measure=>simp[intOf]
     ·have HN2:Hid (zea ⟨pr,ts⟩ [r0,r1,r2] 3=[x,r2,z]):=by rw[Hid,HST.out];rfl
      have hset:=(hfb.below hb2').set 1 (.int .i64 (r2:Nat))
      simp at hset
      have hl2:=(hlb.below hb2').set_ne (show w.heap.size≠w.heap.size+3 from by omega) 1 (.int .i64 (r2:Nat))
      have hv2:=(hvb.below hb2').set_ne (show w.heap.size+1≠w.heap.size+3 from by omega) 1 (.int .i64 (r2:Nat))
      have h02:=(hr0.below hb2').set_ne (show w.heap.size+2≠w.heap.size+3 from by omega) 1 (.int .i64 (r2:Nat))
      have hB3:=(zae hbk hb2' (Nat.le_refl _)).setCell (p:=⟨w.heap.size+3,1,none⟩) (by simp) (.int .i64 (r2:Nat))
      go_wp2
      go_roundw
      case rel=>exact⟨3,x,r2,z,by omega,rfl,hl2,hv2,h02,hset,HN2,hB3⟩
      case measure=>simp[intOf]
     ·have HN2:Hid (zea ⟨pr,ts⟩ [r0,r1,r2] 3=[x,y,r2]):=by rw[Hid,HST.out];rfl
      have hset:=(hfb.below hb2').set 2 (.int .i64 (r2:Nat))
      simp at hset
      have hl2:=(hlb.below hb2').set_ne (show w.heap.size≠w.heap.size+3 from by omega) 2 (.int .i64 (r2:Nat))
      have hv2:=(hvb.below hb2').set_ne (show w.heap.size+1≠w.heap.size+3 from by omega) 2 (.int .i64 (r2:Nat))
      have h02:=(hr0.below hb2').set_ne (show w.heap.size+2≠w.heap.size+3 from by omega) 2 (.int .i64 (r2:Nat))
      have hB3:=(zae hbk hb2' (Nat.le_refl _)).setCell (p:=⟨w.heap.size+3,2,none⟩) (by simp) (.int .i64 (r2:Nat))
      go_wp2
      go_roundw
      case rel=>exact⟨3,x,y,r2,by omega,rfl,hl2,hv2,h02,hset,HN2,hB3⟩
      case measure=>simp[intOf]
   ·have HST:Hid (zea ⟨pr,ts⟩ [r0,r1,r2] 3=[x,y,z]):=by
     rw[Hid,zea,HN.out]
     simp[zbz,hlt]
    have hlt2:ts.length<=2:=by omega
    go_wp2
    go_roundw
    case rel=>exact⟨3,x,y,z,by omega,rfl,hlb,hvb,hr0,hfb,HST,hbk⟩
    case measure=>simp[intOf]
  |3,_ =>
   have HM:Hid (zb0 ⟨pr,ts⟩ [r0,r1,r2]=if (za0 ⟨pr,ts⟩ [r0,r1,r2] [x,y,z] 0 && za0 ⟨pr,ts⟩ [r0,r1,r2] [x,y,z] 1 && za0 ⟨pr,ts⟩ [r0,r1,r2] [x,y,z] 2)=true then some [x,y,z] else none):=z4b ((z3b _ _).trans HN.out)
   clear HN
   rw[show((3:Nat):Int)=3 from rfl]
   go_wp2
   have HST:Hid (Box wr w.heap.size #[.int .i64 pr,.slice ao ts.length cap] 147/\Box wr (w.heap.size+1) #[.int .i64 (r0:Nat),.int .i64 (r1:Nat),.int .i64 (r2:Nat)] 116/\Box wr (w.heap.size+2) #[.int .i64 0,.int .i64 0,.int .i64 0] 116/\Box wr (w.heap.size+3) #[.int .i64 (x:Nat),.int .i64 (y:Nat),.int .i64 (z:Nat)] 116/\Below w.heap.size w wr):=⟨hlb,hvb,hr0,hfb,hbk⟩
   clear hlc hlf hll hvc hvf hvl hfc hff hfl hszk hlb hvb hr0 hfb hbk
   go_loopw [39] (fun v39 wr=>∃ k:Nat,k<=3/\v39=.int .i64 k/\Box wr w.heap.size #[.int .i64 pr,.slice ao ts.length cap] 147/\Box wr (w.heap.size+1) #[.int .i64 (r0:Nat),.int .i64 (r1:Nat),.int .i64 (r2:Nat)] 116/\Box wr (w.heap.size+2) #[.int .i64 0,.int .i64 0,.int .i64 0] 116/\Box wr (w.heap.size+3) #[.int .i64 (x:Nat),.int .i64 (y:Nat),.int .i64 (z:Nat)] 116/\Hid (∀ i,i < k->za0 ⟨pr,ts⟩ [r0,r1,r2] [x,y,z] i=true)/\Below w.heap.size w wr) (fun i _=>3 - (intOf i).toNat)
   case atStart =>
    obtain⟨q1,q2,q3,q4,q5⟩:=HST.out
    exact⟨0,by omega,rfl,q1,q2,q3,q4,(fun i hi=>by omega),q5⟩
   case round =>
    clear HST
    obtain⟨k,hk,rfl,hlb,hvb,hr0,hfb,HA,hbk⟩:=hrel
    obtain⟨hlc,hlf⟩:=hlb.rules
    have hll:=hlb.lt
    obtain⟨hvc,hvf⟩:=hvb.rules
    have hvl:=hvb.lt
    obtain⟨hfc,hff⟩:=hfb.rules
    have hfl:=hfb.lt
    obtain⟨hzc,hzf⟩:=hr0.rules
    have hzl:=hr0.lt
    have hszk:=hbk.size
    match k,hk with
    |0,_ =>
     by_cases hlt:0 < ts.length
     ·have HAE:Hid (za0 ⟨pr,ts⟩ [r0,r1,r2] [x,y,z] 0=zee ts[0] r0 [x,y,z]):=by unfold za0;rw[Hid,decide_eq_false (show ¬ ts.length<=0 by omega)];simp[List.getD_eq_getElem?_getD,hlt]
      obtain⟨g,hao,hg,h0,h1,h2⟩:=h.cell 0 hlt
      subst hao
      have hx0:=(hbk.cell (p:=⟨g,0 * 3,none⟩) hg).trans h0
      have hx1:=(hbk.cell (p:=⟨g,0 * 3+1,none⟩) hg).trans h1
      have hx2:=(hbk.cell (p:=⟨g,0 * 3+2,none⟩) hg).trans h2
      simp only[Nat.reduceMul,Nat.reduceAdd] at hx0 hx1 hx2
      have hgr:g < wr.heap.size:=by omega
      have hltI:(0:Int) < (ts.length:Int):=by omega
      have HAL:Hid (∀ W,Calls Tryz.prog 148 #[.agg #[.bool ts[0].var,.int .i64 (ts[0].num:Nat),.int .i64 (ts[0].level:Nat)],.int .i64 r0,.agg #[.int .i64 (x:Nat),.int .i64 (y:Nat),.int .i64 (z:Nat)]] W fun r w'=>r=.returned (.bool (zee ts[0] r0 [x,y,z]))/\Below W.heap.size W w'):=fun W=>zkm W ts[0] r0 x y z
      clear h0 h1 h2
      generalize ts[0]=t at *
      generalize zee t r0 [x,y,z]=ab at *
      go_wp2
      go_region_held3 (fun w'=>w'.cell? ⟨w.heap.size,1,none⟩=some (.slice (some ⟨g,0,none⟩) ts.length cap)/\w'.cell? ⟨g,0,none⟩=some (.bool t.var)/\w'.cell? ⟨g,1,none⟩=some (.int .i64 (t.num:Nat))/\w'.cell? ⟨g,2,none⟩=some (.int .i64 (t.level:Nat))/\w'.cell? ⟨w.heap.size+1+1+1,0,none⟩=some (.int .i64 (x:Nat))/\w'.cell? ⟨w.heap.size+1+1+1,1,none⟩=some (.int .i64 (y:Nat))/\w'.cell? ⟨w.heap.size+1+1+1,2,none⟩=some (.int .i64 (z:Nat))) (first|go_keep|(go_simp;done)) (first|(go_at_call 148;refine(HAL.out _).mono ?_;rintro r w2 ⟨rfl,hb2⟩;have hB2:Below wr.heap.size wr w2:=(zae (by go_grown) hb2 (Nat.le_refl _));have hlb2:=hlb.below hB2;obtain⟨hlc2,hlf2⟩:=hlb2.rules;have hll2:=hlb2.lt;have hfb2:=hfb.below hB2;obtain⟨hfc2,hff2⟩:=hfb2.rules;have hfl2:=hfb2.lt;have hy0:=(hB2.cell (p:=⟨g,0,none⟩) hgr).trans hx0;have hy1:=(hB2.cell (p:=⟨g,1,none⟩) hgr).trans hx1;have hy2:=(hB2.cell (p:=⟨g,2,none⟩) hgr).trans hx2))
      cases ab with
      |true =>
       have HA2:Hid (∀ i,i < 1->za0 ⟨pr,ts⟩ [r0,r1,r2] [x,y,z] i=true):=fun i hi=>by
        by_cases e:i=0
        ·subst e;exact HAE.out
        ·exact HA.out i (by omega)
       go_wp2
       go_roundw
       case rel=>exact⟨1,by omega,rfl,hlb2,hvb.below hB2,hr0.below hB2,hfb2,HA2,zae hbk hB2 (Nat.le_refl _)⟩
       case measure=>simp[intOf]
      |false =>
       have HN:Hid (zb0 ⟨pr,ts⟩ [r0,r1,r2]=none):=by rw[Hid,HM.out,HAE.out];simp
       have hr2:=hr0.below hB2
       obtain⟨hzc2,hzf2⟩:=hr2.rules
       have hzl2:=hr2.lt
       go_wp2
       exact bodyPost_ret (v:=.tuple #[.agg #[.int .i64 0,.int .i64 0,.int .i64 0],.bool false]) (by simp[results,Tryz.results142,go_sem,hzc2]) rfl ⟨⟨0,0,0,by rw[HN.out];rfl,by rw[HN.out];rfl⟩,(((zae hbk hB2 (Nat.le_refl _)).setCell (p:=⟨w.heap.size+2,0,none⟩) (by simp) _).setCell (p:=⟨w.heap.size+2,1,none⟩) (by simp) _).setCell (p:=⟨w.heap.size+2,2,none⟩) (by simp) _⟩
     ·have HAE:Hid (za0 ⟨pr,ts⟩ [r0,r1,r2] [x,y,z] 0=true):=by unfold za0;rw[Hid,decide_eq_true (show ts.length<=0 by omega)];rfl
      have HA2:Hid (∀ i,i < 1->za0 ⟨pr,ts⟩ [r0,r1,r2] [x,y,z] i=true):=fun i hi=>by
       by_cases e:i=0
       ·subst e;exact HAE.out
       ·exact HA.out i (by omega)
      have hdec:decide ((0:Int) < (ts.length:Int))=false:=decide_eq_false (by omega)
      go_wp2
      go_quiet (fail)
      go_wp2
      go_roundw
      case rel=>exact⟨1,by omega,rfl,hlb.below (zav (Below.refl _ _) _),hvb.below (zav (Below.refl _ _) _),hr0.below (zav (Below.refl _ _) _),hfb.below (zav (Below.refl _ _) _),HA2,zav hbk _⟩
      case measure=>simp[intOf]
    |1,_ =>
     by_cases hlt:1 < ts.length
     ·have HAE:Hid (za0 ⟨pr,ts⟩ [r0,r1,r2] [x,y,z] 1=zee ts[1] r1 [x,y,z]):=by unfold za0;rw[Hid,decide_eq_false (show ¬ ts.length<=1 by omega)];simp[List.getD_eq_getElem?_getD,hlt]
      obtain⟨g,hao,hg,h0,h1,h2⟩:=h.cell 1 hlt
      subst hao
      have hx0:=(hbk.cell (p:=⟨g,1 * 3,none⟩) hg).trans h0
      have hx1:=(hbk.cell (p:=⟨g,1 * 3+1,none⟩) hg).trans h1
      have hx2:=(hbk.cell (p:=⟨g,1 * 3+2,none⟩) hg).trans h2
      simp only[Nat.reduceMul,Nat.reduceAdd] at hx0 hx1 hx2
      have hgr:g < wr.heap.size:=by omega
      have hltI:(1:Int) < (ts.length:Int):=by omega
      have HAL:Hid (∀ W,Calls Tryz.prog 148 #[.agg #[.bool ts[1].var,.int .i64 (ts[1].num:Nat),.int .i64 (ts[1].level:Nat)],.int .i64 r1,.agg #[.int .i64 (x:Nat),.int .i64 (y:Nat),.int .i64 (z:Nat)]] W fun r w'=>r=.returned (.bool (zee ts[1] r1 [x,y,z]))/\Below W.heap.size W w'):=fun W=>zkm W ts[1] r1 x y z
      clear h0 h1 h2
      generalize ts[1]=t at *
      generalize zee t r1 [x,y,z]=ab at *
      go_wp2
      go_region_held3 (fun w'=>w'.cell? ⟨w.heap.size,1,none⟩=some (.slice (some ⟨g,0,none⟩) ts.length cap)/\w'.cell? ⟨g,3,none⟩=some (.bool t.var)/\w'.cell? ⟨g,4,none⟩=some (.int .i64 (t.num:Nat))/\w'.cell? ⟨g,5,none⟩=some (.int .i64 (t.level:Nat))/\w'.cell? ⟨w.heap.size+1+1+1,0,none⟩=some (.int .i64 (x:Nat))/\w'.cell? ⟨w.heap.size+1+1+1,1,none⟩=some (.int .i64 (y:Nat))/\w'.cell? ⟨w.heap.size+1+1+1,2,none⟩=some (.int .i64 (z:Nat))) (first|go_keep|(go_simp;done)) (first|(go_at_call 148;refine(HAL.out _).mono ?_;rintro r w2 ⟨rfl,hb2⟩;have hB2:Below wr.heap.size wr w2:=(zae (by go_grown) hb2 (Nat.le_refl _));have hlb2:=hlb.below hB2;obtain⟨hlc2,hlf2⟩:=hlb2.rules;have hll2:=hlb2.lt;have hfb2:=hfb.below hB2;obtain⟨hfc2,hff2⟩:=hfb2.rules;have hfl2:=hfb2.lt;have hy0:=(hB2.cell (p:=⟨g,3,none⟩) hgr).trans hx0;have hy1:=(hB2.cell (p:=⟨g,4,none⟩) hgr).trans hx1;have hy2:=(hB2.cell (p:=⟨g,5,none⟩) hgr).trans hx2))
      cases ab with
      |true =>
       have HA2:Hid (∀ i,i < 2->za0 ⟨pr,ts⟩ [r0,r1,r2] [x,y,z] i=true):=fun i hi=>by
        by_cases e:i=1
        ·subst e;exact HAE.out
        ·exact HA.out i (by omega)
       go_wp2
       go_roundw
       case rel=>exact⟨2,by omega,rfl,hlb2,hvb.below hB2,hr0.below hB2,hfb2,HA2,zae hbk hB2 (Nat.le_refl _)⟩
       case measure=>simp[intOf]
      |false =>
       have HN:Hid (zb0 ⟨pr,ts⟩ [r0,r1,r2]=none):=by rw[Hid,HM.out,HAE.out];simp
       have hr2:=hr0.below hB2
       obtain⟨hzc2,hzf2⟩:=hr2.rules
       have hzl2:=hr2.lt
       go_wp2
       exact bodyPost_ret (v:=.tuple #[.agg #[.int .i64 0,.int .i64 0,.int .i64 0],.bool false]) (by simp[results,Tryz.results142,go_sem,hzc2]) rfl ⟨⟨0,0,0,by rw[HN.out];rfl,by rw[HN.out];rfl⟩,(((zae hbk hB2 (Nat.le_refl _)).setCell (p:=⟨w.heap.size+2,0,none⟩) (by simp) _).setCell (p:=⟨w.heap.size+2,1,none⟩) (by simp) _).setCell (p:=⟨w.heap.size+2,2,none⟩) (by simp) _⟩
     ·have HAE:Hid (za0 ⟨pr,ts⟩ [r0,r1,r2] [x,y,z] 1=true):=by unfold za0;rw[Hid,decide_eq_true (show ts.length<=1 by omega)];rfl
      have HA2:Hid (∀ i,i < 2->za0 ⟨pr,ts⟩ [r0,r1,r2] [x,y,z] i=true):=fun i hi=>by
       by_cases e:i=1
       ·subst e;exact HAE.out
       ·exact HA.out i (by omega)
      have hdec:decide ((1:Int) < (ts.length:Int))=false:=decide_eq_false (by omega)
      go_wp2
      go_quiet (fail)
      go_wp2
      go_roundw
      case rel=>exact⟨2,by omega,rfl,hlb.below (zav (Below.refl _ _) _),hvb.below (zav (Below.refl _ _) _),hr0.below (zav (Below.refl _ _) _),hfb.below (zav (Below.refl _ _) _),HA2,zav hbk _⟩
      case measure=>simp[intOf]
    |2,_ =>
     by_cases hlt:2 < ts.length
     ·have HAE:Hid (za0 ⟨pr,ts⟩ [r0,r1,r2] [x,y,z] 2=zee ts[2] r2 [x,y,z]):=by unfold za0;rw[Hid,decide_eq_false (show ¬ ts.length<=2 by omega)];simp[List.getD_eq_getElem?_getD,hlt]
      obtain⟨g,hao,hg,h0,h1,h2⟩:=h.cell 2 hlt
      subst hao
      have hx0:=(hbk.cell (p:=⟨g,2 * 3,none⟩) hg).trans h0
      have hx1:=(hbk.cell (p:=⟨g,2 * 3+1,none⟩) hg).trans h1
      have hx2:=(hbk.cell (p:=⟨g,2 * 3+2,none⟩) hg).trans h2
      simp only[Nat.reduceMul,Nat.reduceAdd] at hx0 hx1 hx2
      have hgr:g < wr.heap.size:=by omega
      have hltI:(2:Int) < (ts.length:Int):=by omega
      have HAL:Hid (∀ W,Calls Tryz.prog 148 #[.agg #[.bool ts[2].var,.int .i64 (ts[2].num:Nat),.int .i64 (ts[2].level:Nat)],.int .i64 r2,.agg #[.int .i64 (x:Nat),.int .i64 (y:Nat),.int .i64 (z:Nat)]] W fun r w'=>r=.returned (.bool (zee ts[2] r2 [x,y,z]))/\Below W.heap.size W w'):=fun W=>zkm W ts[2] r2 x y z
      clear h0 h1 h2
      generalize ts[2]=t at *
      generalize zee t r2 [x,y,z]=ab at *
      go_wp2
      go_region_held3 (fun w'=>w'.cell? ⟨w.heap.size,1,none⟩=some (.slice (some ⟨g,0,none⟩) ts.length cap)/\w'.cell? ⟨g,6,none⟩=some (.bool t.var)/\w'.cell? ⟨g,7,none⟩=some (.int .i64 (t.num:Nat))/\w'.cell? ⟨g,8,none⟩=some (.int .i64 (t.level:Nat))/\w'.cell? ⟨w.heap.size+1+1+1,0,none⟩=some (.int .i64 (x:Nat))/\w'.cell? ⟨w.heap.size+1+1+1,1,none⟩=some (.int .i64 (y:Nat))/\w'.cell? ⟨w.heap.size+1+1+1,2,none⟩=some (.int .i64 (z:Nat))) (first|go_keep|(go_simp;done)) (first|(go_at_call 148;refine(HAL.out _).mono ?_;rintro r w2 ⟨rfl,hb2⟩;have hB2:Below wr.heap.size wr w2:=(zae (by go_grown) hb2 (Nat.le_refl _));have hlb2:=hlb.below hB2;obtain⟨hlc2,hlf2⟩:=hlb2.rules;have hll2:=hlb2.lt;have hfb2:=hfb.below hB2;obtain⟨hfc2,hff2⟩:=hfb2.rules;have hfl2:=hfb2.lt;have hy0:=(hB2.cell (p:=⟨g,6,none⟩) hgr).trans hx0;have hy1:=(hB2.cell (p:=⟨g,7,none⟩) hgr).trans hx1;have hy2:=(hB2.cell (p:=⟨g,8,none⟩) hgr).trans hx2))
      cases ab with
      |true =>
       have HA2:Hid (∀ i,i < 3->za0 ⟨pr,ts⟩ [r0,r1,r2] [x,y,z] i=true):=fun i hi=>by
        by_cases e:i=2
        ·subst e;exact HAE.out
        ·exact HA.out i (by omega)
       go_wp2
       go_roundw
       case rel=>exact⟨3,by omega,rfl,hlb2,hvb.below hB2,hr0.below hB2,hfb2,HA2,zae hbk hB2 (Nat.le_refl _)⟩
       case measure=>simp[intOf]
      |false =>
       have HN:Hid (zb0 ⟨pr,ts⟩ [r0,r1,r2]=none):=by rw[Hid,HM.out,HAE.out];simp
       have hr2:=hr0.below hB2
       obtain⟨hzc2,hzf2⟩:=hr2.rules
       have hzl2:=hr2.lt
       go_wp2
       exact bodyPost_ret (v:=.tuple #[.agg #[.int .i64 0,.int .i64 0,.int .i64 0],.bool false]) (by simp[results,Tryz.results142,go_sem,hzc2]) rfl ⟨⟨0,0,0,by rw[HN.out];rfl,by rw[HN.out];rfl⟩,(((zae hbk hB2 (Nat.le_refl _)).setCell (p:=⟨w.heap.size+2,0,none⟩) (by simp) _).setCell (p:=⟨w.heap.size+2,1,none⟩) (by simp) _).setCell (p:=⟨w.heap.size+2,2,none⟩) (by simp) _⟩
     ·have HAE:Hid (za0 ⟨pr,ts⟩ [r0,r1,r2] [x,y,z] 2=true):=by unfold za0;rw[Hid,decide_eq_true (show ts.length<=2 by omega)];rfl
      have HA2:Hid (∀ i,i < 3->za0 ⟨pr,ts⟩ [r0,r1,r2] [x,y,z] i=true):=fun i hi=>by
       by_cases e:i=2
       ·subst e;exact HAE.out
       ·exact HA.out i (by omega)
      have hdec:decide ((2:Int) < (ts.length:Int))=false:=decide_eq_false (by omega)
      go_wp2
      go_quiet (fail)
      go_wp2
      go_roundw
      case rel=>exact⟨3,by omega,rfl,hlb.below (zav (Below.refl _ _) _),hvb.below (zav (Below.refl _ _) _),hr0.below (zav (Below.refl _ _) _),hfb.below (zav (Below.refl _ _) _),HA2,zav hbk _⟩
      case measure=>simp[intOf]
    |3,_ =>
     have HN:Hid (zb0 ⟨pr,ts⟩ [r0,r1,r2]=some [x,y,z]):=by rw[Hid,HM.out,HA.out 0 (by omega),HA.out 1 (by omega),HA.out 2 (by omega)];rfl
     go_wp2
     exact bodyPost_ret (v:=.tuple #[.agg #[.int .i64 (x:Nat),.int .i64 (y:Nat),.int .i64 (z:Nat)],.bool true]) (by simp[results,Tryz.results142,go_sem,hzc]) rfl ⟨⟨x,y,z,by rw[HN.out];rfl,by rw[HN.out];rfl⟩,((hbk.setCell (p:=⟨w.heap.size+2,0,none⟩) (by simp) _).setCell (p:=⟨w.heap.size+2,1,none⟩) (by simp) _).setCell (p:=⟨w.heap.size+2,2,none⟩) (by simp) _⟩
set_option maxHeartbeats 4000000
def zd6(ps:List (Nat × Value)):List Value:=ps.flatMap fun x=>[.int .i64 (x.1:Nat),x.2]
theorem zm4:∀(ps:List (Nat × Value)) (k:Nat) (hk:k < ps.length),(zd6 ps)[k * 2]?=some (.int .i64 (ps[k].1:Nat))/\(zd6 ps)[k * 2+1]?=some ps[k].2
 |[],k,hk=>by simp at hk
 |p::r,0,_=>by simp[zd6]
 |p::r,k+1,hk=>by
  have:=zm4 r k (by simpa using hk)
  simp only[zd6,List.flatMap_cons] at this ⊢
  rw[show(k+1) * 2=k * 2+1+1 from by omega,show k * 2+1+1+1=k * 2+1+1+1 from rfl]
  simpa using this
def zbp(lo:Nat)(w:World)(v:Value)(ls:List zak):Prop:=∃ ps:List (Nat × Value),w.ownsRow lo 147 2 v ls.length (zd6 ps)/\ps.length=ls.length/\ls.length<=1000/\∀ k (h1:k < ls.length) (h2:k < ps.length),ps[k].1=ls[k].pred/\zar lo w ps[k].2 ls[k].terms/\ls[k].pred<=1000000
theorem zbp.below{w w':World}{v:Value}{ls:List zak}(h:zbp lo w v ls)(hb:Below w.heap.size w w'):zbp lo w' v ls:=by
 obtain⟨ps,h1,h2,h3,h4⟩:=h
 exact⟨ps,zaa h1 hb,h2,h3,fun k a b=>⟨(h4 k a b).1,(h4 k a b).2.1.below hb,(h4 k a b).2.2⟩⟩
theorem zbp.shape{w:World}{v:Value}{ls:List zak}(h:zbp lo w v ls):∃ ao cap,v=.slice ao ls.length cap:=by obtain⟨ps,h1,_⟩:=h;exact zac h1
theorem zbp.len{w:World}{v:Value}{ls:List zak}(h:zbp lo w v ls):ls.length<=1000:=by obtain⟨ps,_,_,h3,_⟩:=h;exact h3
theorem zbp.cell{w:World}{ao:Option Addr}{n cap:Nat}{ls:List zak}(h:zbp lo w (.slice ao n cap) ls)(k:Nat)(hk:k < ls.length):∃ g ao2 cap2,ao=some ⟨g,0,none⟩/\g < w.heap.size/\w.cell? ⟨g,k * 2,none⟩=some (.int .i64 (ls[k].pred:Nat))/\w.cell? ⟨g,k * 2+1,none⟩=some (.slice ao2 ls[k].terms.length cap2)/\zar lo w (.slice ao2 ls[k].terms.length cap2) ls[k].terms:=by
 obtain⟨ps,h1,h2,h3,h4⟩:=h
 obtain⟨g,cap',hv,_,hg,hc⟩:=zal h1 (by omega)
 simp only[Value.slice.injEq] at hv
 obtain⟨rfl,_,_⟩:=hv
 obtain⟨c0,c1⟩:=zm4 ps k (by omega)
 obtain⟨e1,e2,_⟩:=h4 k hk (by omega)
 obtain⟨ao2,cap2,e3⟩:=e2.shape
 have q0:=hc _ _ c0
 have q1:=hc _ _ c1
 rw[e1] at q0
 rw[e3] at q1 e2
 exact⟨g,ao2,cap2,rfl,hg,q0,q1,e2⟩
structure zdu (lo:Nat) (w:World) (tv pv nv:Value) (r:zah):Prop where
 head:zar lo w tv r.head.terms
 plain:zbp lo w pv r.plain
 nots:zbp lo w nv r.nots
 small:r.stratum<=1000000/\r.vars<=1000000/\r.head.pred<=1000000
theorem zdu.below{w w':World}{tv pv nv:Value}{r:zah}(h:zdu lo w tv pv nv r)(hb:Below w.heap.size w w'):zdu lo w' tv pv nv r:=⟨h.head.below hb,h.plain.below hb,h.nots.below hb,h.small⟩
def zl1(r:zah)(tv pv nv:Value):Value:=.agg #[.int .i64 (r.stratum:Nat),.int .i64 (r.vars:Nat),.int .i64 (r.head.pred:Nat),tv,pv,nv]
theorem z18(w:World)(tv pv nv:Value)(r:zah)(kn:Int)(h:zdu lo w tv pv nv r) :
  Calls Tryz.prog 149 #[zl1 r tv pv nv,.int .i64 kn] w fun e w'=>e=.returned (.int .i64 (zec r kn))/\Below w.heap.size w w':=by
 obtain⟨aot,capt,rfl⟩:=h.head.shape
 obtain⟨aop,capp,rfl⟩:=h.plain.shape
 obtain⟨aon,capn,rfl⟩:=h.nots.shape
 have hpl:=h.plain.len
 have hnl:=h.nots.len
 have HLA:Hid (∀ W,Below w.heap.size w W->Calls Tryz.prog 154 #[.agg #[.int .i64 (r.head.pred:Nat),.slice aot r.head.terms.length capt],.int .i64 kn] W fun e w'=>e=.returned (.int .i64 (ziw r.head kn))/\Below W.heap.size W w'):=fun W hW=>zyb W _ r.head.pred kn r.head.terms (h.head.below hW)
 have hP:=h.plain
 have hN:=h.nots
 have HE:Hid (zec r kn=r.nots.foldl (zbe kn) (r.plain.foldl (zbe kn) (ziw r.head kn))):=rfl
 unfold zl1
 clear h
 have hbx:=Box.new w #[.int .i64 (r.stratum:Nat),.int .i64 (r.vars:Nat),.int .i64 (r.head.pred:Nat),.slice aot r.head.terms.length capt,.slice aop r.plain.length capp,.slice aon r.nots.length capn] 150
 generalize ziw r.head kn=la at *
 generalize r.plain=pls at *
 generalize r.nots=nts at *
 go_enter Tryz.func149,Tryz.ntmps149
 go_wp2_with (first|(go_at_call 154;refine(HLA.out _ (by exact(by go_grown))).mono ?_;rintro e w1 ⟨rfl,hb1⟩;have hB1:Below w.heap.size w w1:=zae (by go_grown) hb1 (Nat.le_refl _);have hbx1:=hbx.below hb1;obtain⟨hc1,hf1⟩:=hbx1.rules;have hl1:=hbx1.lt))
 clear hc1 hf1 hl1 hbx hb1
 go_loopw [5,19] (fun v5 v19 wr=>∃ k:Nat,k<=pls.length/\v19=.int .i64 k/\v5=.int .i64 ((pls.take k).foldl (zbe kn) la)/\Below w1.heap.size w1 wr) (fun _ i _=>pls.length - (intOf i).toNat)
 case atStart=>exact⟨0,Nat.zero_le _,rfl,rfl,Below.refl _ _⟩
 case round =>
  obtain⟨k,hk,rfl,rfl,hbk⟩:=hrel
  have hBk:=zae hB1 hbk (Nat.le_refl _)
  have hszk:=hBk.size
  by_cases hlt:k < pls.length
  ·obtain⟨g,ao2,cap2,hao,hg,h0,h1,hT⟩:=hP.cell k hlt
   subst hao
   have hx0:=(hBk.cell (p:=⟨g,k * 2,none⟩) hg).trans h0
   have hx1:=(hBk.cell (p:=⟨g,k * 2+1,none⟩) hg).trans h1
   have hgr:g < wr.heap.size:=by omega
   have HS:Hid ((pls.take (k+1)).foldl (zbe kn) la=zbe kn ((pls.take k).foldl (zbe kn) la) pls[k]):=zdr pls (zbe kn) la k hlt
   have HTI:Hid (∀ W,Below w.heap.size w W->Calls Tryz.prog 155 #[.agg #[.int .i64 (pls[k].pred:Nat),.slice ao2 pls[k].terms.length cap2],.int .i64 kn] W fun e w'=>e=.returned (.int .i64 (zh8 pls[k] kn))/\Below W.heap.size W w'):=fun W hW=>zy4 W _ pls[k].pred kn pls[k].terms (hT.below hW)
   clear h0 h1 hT
   generalize pls[k]=l at *
   generalize (pls.take k).foldl (zbe kn) la=bk at *
   have HST:Hid (zbe kn bk l=if zh8 l kn > bk then zh8 l kn else bk):=rfl
   generalize zh8 l kn=ti at *
   by_cases hgt:ti > bk
   ·rw[if_pos hgt] at HST
    go_wp2_with (first|(go_at_call 155;refine(HTI.out _ (by exact(by go_grown))).mono ?_;rintro e w2 ⟨rfl,hb2⟩;have hB2:Below wr.heap.size wr w2:=(zae (by go_grown) hb2 (Nat.le_refl _))))
    go_roundw
    case rel=>exact⟨k+1,by omega,by go_num,by rw[HS.out,HST.out],zae hbk hB2 (Nat.le_refl _)⟩
    case measure=>simp[intOf];omega
   ·rw[if_neg hgt] at HST
    go_wp2_with (first|(go_at_call 155;refine(HTI.out _ (by exact(by go_grown))).mono ?_;rintro e w2 ⟨rfl,hb2⟩;have hB2:Below wr.heap.size wr w2:=(zae (by go_grown) hb2 (Nat.le_refl _))))
    go_roundw
    case rel=>exact⟨k+1,by omega,by go_num,by rw[HS.out,HST.out],zae hbk hB2 (Nat.le_refl _)⟩
    case measure=>simp[intOf];omega
  ·obtain rfl:k=pls.length:=by omega
   rw[List.take_length]
   generalize pls.foldl (zbe kn) la=pb at *
   have hbx2:=hbx1.below hbk
   obtain⟨hc2,hf2⟩:=hbx2.rules
   have hl2:=hbx2.lt
   go_wp2
   clear hc2 hf2 hl2
   obtain⟨w2,hw2⟩:∃ w2,w2=wr:=⟨wr,rfl⟩
   subst hw2
   go_loopw [5,34] (fun v5 v34 wr=>∃ k:Nat,k<=nts.length/\v34=.int .i64 k/\v5=.int .i64 ((nts.take k).foldl (zbe kn) pb)/\Below w.heap.size w wr) (fun _ i _=>nts.length - (intOf i).toNat)
   case atStart=>exact⟨0,Nat.zero_le _,rfl,rfl,hBk⟩
   case round =>
    obtain⟨k,hk,rfl,rfl,hbk2⟩:=hrel
    have hszk2:=hbk2.size
    by_cases hlt2:k < nts.length
    ·obtain⟨g,ao2,cap2,hao,hg,h0,h1,hT⟩:=hN.cell k hlt2
     subst hao
     have hx0:=(hbk2.cell (p:=⟨g,k * 2,none⟩) hg).trans h0
     have hx1:=(hbk2.cell (p:=⟨g,k * 2+1,none⟩) hg).trans h1
     have hgr:g < wr.heap.size:=by omega
     have HS:Hid ((nts.take (k+1)).foldl (zbe kn) pb=zbe kn ((nts.take k).foldl (zbe kn) pb) nts[k]):=zdr nts (zbe kn) pb k hlt2
     have HTI:Hid (∀ W,Below w.heap.size w W->Calls Tryz.prog 155 #[.agg #[.int .i64 (nts[k].pred:Nat),.slice ao2 nts[k].terms.length cap2],.int .i64 kn] W fun e w'=>e=.returned (.int .i64 (zh8 nts[k] kn))/\Below W.heap.size W w'):=fun W hW=>zy4 W _ nts[k].pred kn nts[k].terms (hT.below hW)
     clear h0 h1 hT
     generalize nts[k]=l at *
     generalize (nts.take k).foldl (zbe kn) pb=bk at *
     have HST:Hid (zbe kn bk l=if zh8 l kn > bk then zh8 l kn else bk):=rfl
     generalize zh8 l kn=ti at *
     by_cases hgt:ti > bk
     ·rw[if_pos hgt] at HST
      go_wp2_with (first|(go_at_call 155;refine(HTI.out _ (by exact(by go_grown))).mono ?_;rintro e w3 ⟨rfl,hb3⟩;have hB3:Below wr.heap.size wr w3:=(zae (by go_grown) hb3 (Nat.le_refl _))))
      go_roundw
      case rel=>exact⟨k+1,by omega,by go_num,by rw[HS.out,HST.out],zae hbk2 hB3 (Nat.le_refl _)⟩
      case measure=>simp[intOf];omega
     ·rw[if_neg hgt] at HST
      go_wp2_with (first|(go_at_call 155;refine(HTI.out _ (by exact(by go_grown))).mono ?_;rintro e w3 ⟨rfl,hb3⟩;have hB3:Below wr.heap.size wr w3:=(zae (by go_grown) hb3 (Nat.le_refl _))))
      go_roundw
      case rel=>exact⟨k+1,by omega,by go_num,by rw[HS.out,HST.out],zae hbk2 hB3 (Nat.le_refl _)⟩
      case measure=>simp[intOf];omega
    ·obtain rfl:k=nts.length:=by omega
     rw[List.take_length]
     go_wp2
     go_ret
     exact⟨by rw[HE.out];rfl,hbk2⟩
end Go.Proofs.YteampbddflhngabGreat
