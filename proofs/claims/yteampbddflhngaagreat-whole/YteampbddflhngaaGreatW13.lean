import Derived.Test.YteampbddflhngaaGreatW12

namespace Go.Proofs.YteampbddflhngaaGreat
set_option maxRecDepth 100000
set_option maxHeartbeats 8000000
open Go.RowKit
variable {lo:Nat}
def zd4(l:zak)(row:zao):Nat->zao
 |0=>[0,0,0]
 |k+1=>zbz l row (zd4 l row k) k
theorem z2x{l:zak}{row f:zao}(hf:zc9 l row=f):zb0 l row=if (zaz l row f 0 && zaz l row f 1 && zaz l row f 2)=true then some f else none:=by unfold zb0;rw[hf]
theorem z16(l:zak)(row:zao):zc9 l row=zd4 l row 3:=rfl
theorem z2y(w:World)(v:Value)(pr:Nat)(ts:List zbn)(r0 r1 r2:Nat)(h:zaq lo w v ts) :
  Calls Tryz.prog 213 #[.agg #[.int .i64 pr,v],row3 r0 r1 r2] w fun r w'=>(∃ x y z:Nat,r=.returned (.tuple #[row3 x y z,.bool (zb0 ⟨pr,ts⟩ [r0,r1,r2]).isSome])/\[x,y,z]=(zb0 ⟨pr,ts⟩ [r0,r1,r2]).getD [0,0,0])/\Below w.heap.size w w':=by
 obtain⟨ao,cap,rfl⟩:=h.shape
 have hl:=h.len
 have hi0:=Tryz.row0 (.int .i64 r0) (.int .i64 r1) (.int .i64 r2)
 have hi1:=Tryz.row1 (.int .i64 r0) (.int .i64 r1) (.int .i64 r2)
 have hi2:=Tryz.row2 (.int .i64 r0) (.int .i64 r1) (.int .i64 r2)
 unfold row3
 go_enter Tryz.func213,Tryz.ntmps213
 go_wp2
 go_loopw [12] (fun v12 wr=>∃ k x y z:Nat,k<=3/\v12=.int .i64 k/\Box wr w.heap.size #[.int .i64 pr,.slice ao ts.length cap] 204/\Box wr (w.heap.size+1) #[.int .i64 (r0:Nat),.int .i64 (r1:Nat),.int .i64 (r2:Nat)] 165/\Box wr (w.heap.size+2) #[.int .i64 0,.int .i64 0,.int .i64 0] 165/\Box wr (w.heap.size+3) #[.int .i64 (x:Nat),.int .i64 (y:Nat),.int .i64 (z:Nat)] 165/\Hid (zd4 ⟨pr,ts⟩ [r0,r1,r2] k=[x,y,z])/\Below w.heap.size w wr) (fun i _=>3 - (intOf i).toNat)
 case atStart=>exact⟨0,0,0,0,by omega,rfl,(((Box.new w _ _).below ((Below.refl _ _).alloc (uaa _) _)).below ((Below.refl _ _).alloc (uaa _) _)).below ((Below.refl _ _).alloc (uaa _) _),((Box.newAt _ _ _ _ (by simp)).below ((Below.refl _ _).alloc (uaa _) _)).below ((Below.refl _ _).alloc (uaa _) _),(Box.newAt _ _ _ _ (by simp)).below ((Below.refl _ _).alloc (uaa _) _),Box.newAt _ _ _ _ (by simp),rfl,(by go_grown)⟩
 case round =>
  obtain⟨k,x,y,z,hk,rfl,hlb,hvb,hr0,hfb,HN,hbk⟩:=hrel
  obtain⟨hlc,hlf⟩:=hlb.rules
  have hll:=hlb.lt
  obtain⟨hvc,hvf⟩:=hvb.rules
  have hvl:=hvb.lt
  obtain⟨hfc,hff⟩:=hfb.rules
  have hfl:=hfb.lt
  have hszk:=hbk.size
  match k,hk with
  |0,_ =>
   by_cases hlt:0 < ts.length
   ·have HST:Hid (zd4 ⟨pr,ts⟩ [r0,r1,r2] 1=if leveled ts[0]=true then [x,y,z].set ts[0].level r0 else [x,y,z]):=by
     rw[Hid,zd4,HN.out]
     simp[zbz,hlt,List.getD_eq_getElem?_getD]
    obtain⟨g,hao,hg,h0,h1,h2⟩:=h.cell 0 hlt
    subst hao
    have hx0:=(hbk.cell (p:=⟨g,0 * 3,none⟩) hg).trans h0
    have hx1:=(hbk.cell (p:=⟨g,0 * 3+1,none⟩) hg).trans h1
    have hx2:=(hbk.cell (p:=⟨g,0 * 3+2,none⟩) hg).trans h2
    simp only[Nat.reduceMul,Nat.reduceAdd] at hx0 hx1 hx2
    have hgr:g < wr.heap.size:=by omega
    have HLV:Hid (∀ W,Calls Tryz.prog 218 #[.agg #[.bool ts[0].var,.int .i64 (ts[0].num:Nat),.int .i64 (ts[0].level:Nat)]] W fun r w'=>r=.returned (.bool (leveled ts[0]))/\Below W.heap.size W w'):=fun W=>zha W ts[0]
    have hlv3:leveled ts[0]=true->ts[0].level < 3:=by simp[leveled]
    clear h0 h1 h2
    generalize ts[0]=t at *
    generalize leveled t=lb at *
    cases lb with
    |false =>
     simp only[ubr,if_false] at HST
     go_wp2_with (first|(go_at_call 218;refine(HLV.out _).mono ?_;rintro r w2 ⟨rfl,hb2⟩))
     go_roundw
     case rel=>exact⟨1,x,y,z,by omega,rfl,hlb.below hb2,hvb.below hb2,hr0.below hb2,hfb.below hb2,HST,zae hbk hb2 (uaa _)⟩
     case measure=>simp[intOf]
    |true =>
     simp only[if_true] at HST
     have hl3:=hlv3 rfl
     clear hlv3
     generalize hlq:t.level=lv at *
     clear hlq
     go_wp2_with (first|(go_at_call 218;refine(HLV.out _).mono ?_;rintro r w2 ⟨rfl,hb2⟩;have hb2':=hb2;have hlb2:=hlb.below hb2;obtain⟨hlc2,hlf2⟩:=hlb2.rules;have hll2:=hlb2.lt;have hy2:=(hb2.cell (p:=⟨g,2,none⟩) hgr).trans hx2;have hfb2:=hfb.below hb2;obtain⟨hfc2,hff2⟩:=hfb2.rules;have hfl2:=hfb2.lt;have hgr2:g < w2.heap.size:=(ual hgr hb2.size);obtain rfl|rfl|rfl:lv=0∨lv=1∨lv=2:=(by omega)))
     ·have HN2:Hid (zd4 ⟨pr,ts⟩ [r0,r1,r2] 1=[r0,y,z]):=by rw[Hid,HST.out];rfl
      have hset:=(hfb.below hb2').set 0 (.int .i64 (r0:Nat))
      simp at hset
      have hl2:=(hlb.below hb2').set_ne (show w.heap.size≠w.heap.size+3 from by omega) 0 (.int .i64 (r0:Nat))
      have hv2:=(hvb.below hb2').set_ne (show w.heap.size+1≠w.heap.size+3 from by omega) 0 (.int .i64 (r0:Nat))
      have h02:=(hr0.below hb2').set_ne (show w.heap.size+2≠w.heap.size+3 from by omega) 0 (.int .i64 (r0:Nat))
      have hB3:=(zae hbk hb2' (uaa _)).setCell (p:=⟨w.heap.size+3,0,none⟩) (by simp) (.int .i64 (r0:Nat))
      go_wp2
      go_roundw
      case rel=>exact⟨1,r0,y,z,by omega,rfl,hl2,hv2,h02,hset,HN2,hB3⟩
      case measure=>simp[intOf]
     ·have HN2:Hid (zd4 ⟨pr,ts⟩ [r0,r1,r2] 1=[x,r0,z]):=by rw[Hid,HST.out];rfl
      have hset:=(hfb.below hb2').set 1 (.int .i64 (r0:Nat))
      simp at hset
      have hl2:=(hlb.below hb2').set_ne (show w.heap.size≠w.heap.size+3 from by omega) 1 (.int .i64 (r0:Nat))
      have hv2:=(hvb.below hb2').set_ne (show w.heap.size+1≠w.heap.size+3 from by omega) 1 (.int .i64 (r0:Nat))
      have h02:=(hr0.below hb2').set_ne (show w.heap.size+2≠w.heap.size+3 from by omega) 1 (.int .i64 (r0:Nat))
      have hB3:=(zae hbk hb2' (uaa _)).setCell (p:=⟨w.heap.size+3,1,none⟩) (by simp) (.int .i64 (r0:Nat))
      go_wp2
      go_roundw
      case rel=>exact⟨1,x,r0,z,by omega,rfl,hl2,hv2,h02,hset,HN2,hB3⟩
      case measure=>simp[intOf]
     ·have HN2:Hid (zd4 ⟨pr,ts⟩ [r0,r1,r2] 1=[x,y,r0]):=by rw[Hid,HST.out];rfl
      have hset:=(hfb.below hb2').set 2 (.int .i64 (r0:Nat))
      simp at hset
      have hl2:=(hlb.below hb2').set_ne (show w.heap.size≠w.heap.size+3 from by omega) 2 (.int .i64 (r0:Nat))
      have hv2:=(hvb.below hb2').set_ne (show w.heap.size+1≠w.heap.size+3 from by omega) 2 (.int .i64 (r0:Nat))
      have h02:=(hr0.below hb2').set_ne (show w.heap.size+2≠w.heap.size+3 from by omega) 2 (.int .i64 (r0:Nat))
      have hB3:=(zae hbk hb2' (uaa _)).setCell (p:=⟨w.heap.size+3,2,none⟩) (by simp) (.int .i64 (r0:Nat))
      go_wp2
      go_roundw
      case rel=>exact⟨1,x,y,r0,by omega,rfl,hl2,hv2,h02,hset,HN2,hB3⟩
      case measure=>simp[intOf]
   ·have HST:Hid (zd4 ⟨pr,ts⟩ [r0,r1,r2] 1=[x,y,z]):=by
     rw[Hid,zd4,HN.out]
     simp[zbz,hlt]
    have hlt2:ts.length<=0:=by omega
    go_wp2
    go_roundw
    case rel=>exact⟨1,x,y,z,by omega,rfl,hlb,hvb,hr0,hfb,HST,hbk⟩
    case measure=>simp[intOf]
  |1,_ =>
   by_cases hlt:1 < ts.length
   ·have HST:Hid (zd4 ⟨pr,ts⟩ [r0,r1,r2] 2=if leveled ts[1]=true then [x,y,z].set ts[1].level r1 else [x,y,z]):=by
     rw[Hid,zd4,HN.out]
     simp[zbz,hlt,List.getD_eq_getElem?_getD]
    obtain⟨g,hao,hg,h0,h1,h2⟩:=h.cell 1 hlt
    subst hao
    have hx0:=(hbk.cell (p:=⟨g,1 * 3,none⟩) hg).trans h0
    have hx1:=(hbk.cell (p:=⟨g,1 * 3+1,none⟩) hg).trans h1
    have hx2:=(hbk.cell (p:=⟨g,1 * 3+2,none⟩) hg).trans h2
    simp only[Nat.reduceMul,Nat.reduceAdd] at hx0 hx1 hx2
    have hgr:g < wr.heap.size:=by omega
    have HLV:Hid (∀ W,Calls Tryz.prog 218 #[.agg #[.bool ts[1].var,.int .i64 (ts[1].num:Nat),.int .i64 (ts[1].level:Nat)]] W fun r w'=>r=.returned (.bool (leveled ts[1]))/\Below W.heap.size W w'):=fun W=>zha W ts[1]
    have hlv3:leveled ts[1]=true->ts[1].level < 3:=by simp[leveled]
    clear h0 h1 h2
    generalize ts[1]=t at *
    generalize leveled t=lb at *
    cases lb with
    |false =>
     simp only[ubr,if_false] at HST
     go_wp2_with (first|(go_at_call 218;refine(HLV.out _).mono ?_;rintro r w2 ⟨rfl,hb2⟩))
     go_roundw
     case rel=>exact⟨2,x,y,z,by omega,rfl,hlb.below hb2,hvb.below hb2,hr0.below hb2,hfb.below hb2,HST,zae hbk hb2 (uaa _)⟩
     case measure=>simp[intOf]
    |true =>
     simp only[if_true] at HST
     have hl3:=hlv3 rfl
     clear hlv3
     generalize hlq:t.level=lv at *
     clear hlq
     go_wp2_with (first|(go_at_call 218;refine(HLV.out _).mono ?_;rintro r w2 ⟨rfl,hb2⟩;have hb2':=hb2;have hlb2:=hlb.below hb2;obtain⟨hlc2,hlf2⟩:=hlb2.rules;have hll2:=hlb2.lt;have hy2:=(hb2.cell (p:=⟨g,5,none⟩) hgr).trans hx2;have hfb2:=hfb.below hb2;obtain⟨hfc2,hff2⟩:=hfb2.rules;have hfl2:=hfb2.lt;have hgr2:g < w2.heap.size:=(ual hgr hb2.size);obtain rfl|rfl|rfl:lv=0∨lv=1∨lv=2:=(by omega)))
     ·have HN2:Hid (zd4 ⟨pr,ts⟩ [r0,r1,r2] 2=[r1,y,z]):=by rw[Hid,HST.out];rfl
      have hset:=(hfb.below hb2').set 0 (.int .i64 (r1:Nat))
      simp at hset
      have hl2:=(hlb.below hb2').set_ne (show w.heap.size≠w.heap.size+3 from by omega) 0 (.int .i64 (r1:Nat))
      have hv2:=(hvb.below hb2').set_ne (show w.heap.size+1≠w.heap.size+3 from by omega) 0 (.int .i64 (r1:Nat))
      have h02:=(hr0.below hb2').set_ne (show w.heap.size+2≠w.heap.size+3 from by omega) 0 (.int .i64 (r1:Nat))
      have hB3:=(zae hbk hb2' (uaa _)).setCell (p:=⟨w.heap.size+3,0,none⟩) (by simp) (.int .i64 (r1:Nat))
      go_wp2
      go_roundw
      case rel=>exact⟨2,r1,y,z,by omega,rfl,hl2,hv2,h02,hset,HN2,hB3⟩
      case measure=>simp[intOf]
     ·have HN2:Hid (zd4 ⟨pr,ts⟩ [r0,r1,r2] 2=[x,r1,z]):=by rw[Hid,HST.out];rfl
      have hset:=(hfb.below hb2').set 1 (.int .i64 (r1:Nat))
      simp at hset
      have hl2:=(hlb.below hb2').set_ne (show w.heap.size≠w.heap.size+3 from by omega) 1 (.int .i64 (r1:Nat))
      have hv2:=(hvb.below hb2').set_ne (show w.heap.size+1≠w.heap.size+3 from by omega) 1 (.int .i64 (r1:Nat))
      have h02:=(hr0.below hb2').set_ne (show w.heap.size+2≠w.heap.size+3 from by omega) 1 (.int .i64 (r1:Nat))
      have hB3:=(zae hbk hb2' (uaa _)).setCell (p:=⟨w.heap.size+3,1,none⟩) (by simp) (.int .i64 (r1:Nat))
      go_wp2
      go_roundw
      case rel=>exact⟨2,x,r1,z,by omega,rfl,hl2,hv2,h02,hset,HN2,hB3⟩
      case measure=>simp[intOf]
     ·have HN2:Hid (zd4 ⟨pr,ts⟩ [r0,r1,r2] 2=[x,y,r1]):=by rw[Hid,HST.out];rfl
      have hset:=(hfb.below hb2').set 2 (.int .i64 (r1:Nat))
      simp at hset
      have hl2:=(hlb.below hb2').set_ne (show w.heap.size≠w.heap.size+3 from by omega) 2 (.int .i64 (r1:Nat))
      have hv2:=(hvb.below hb2').set_ne (show w.heap.size+1≠w.heap.size+3 from by omega) 2 (.int .i64 (r1:Nat))
      have h02:=(hr0.below hb2').set_ne (show w.heap.size+2≠w.heap.size+3 from by omega) 2 (.int .i64 (r1:Nat))
      have hB3:=(zae hbk hb2' (uaa _)).setCell (p:=⟨w.heap.size+3,2,none⟩) (by simp) (.int .i64 (r1:Nat))
      go_wp2
      go_roundw
      case rel=>exact⟨2,x,y,r1,by omega,rfl,hl2,hv2,h02,hset,HN2,hB3⟩
      case measure=>simp[intOf]
   ·have HST:Hid (zd4 ⟨pr,ts⟩ [r0,r1,r2] 2=[x,y,z]):=by
     rw[Hid,zd4,HN.out]
     simp[zbz,hlt]
    have hlt2:ts.length<=1:=by omega
    go_wp2
    go_roundw
    case rel=>exact⟨2,x,y,z,by omega,rfl,hlb,hvb,hr0,hfb,HST,hbk⟩
    case measure=>simp[intOf]
  |2,_ =>
   by_cases hlt:2 < ts.length
   ·have HST:Hid (zd4 ⟨pr,ts⟩ [r0,r1,r2] 3=if leveled ts[2]=true then [x,y,z].set ts[2].level r2 else [x,y,z]):=by
     rw[Hid,zd4,HN.out]
     simp[zbz,hlt,List.getD_eq_getElem?_getD]
    obtain⟨g,hao,hg,h0,h1,h2⟩:=h.cell 2 hlt
    subst hao
    have hx0:=(hbk.cell (p:=⟨g,2 * 3,none⟩) hg).trans h0
    have hx1:=(hbk.cell (p:=⟨g,2 * 3+1,none⟩) hg).trans h1
    have hx2:=(hbk.cell (p:=⟨g,2 * 3+2,none⟩) hg).trans h2
    simp only[Nat.reduceMul,Nat.reduceAdd] at hx0 hx1 hx2
    have hgr:g < wr.heap.size:=by omega
    have HLV:Hid (∀ W,Calls Tryz.prog 218 #[.agg #[.bool ts[2].var,.int .i64 (ts[2].num:Nat),.int .i64 (ts[2].level:Nat)]] W fun r w'=>r=.returned (.bool (leveled ts[2]))/\Below W.heap.size W w'):=fun W=>zha W ts[2]
    have hlv3:leveled ts[2]=true->ts[2].level < 3:=by simp[leveled]
    clear h0 h1 h2
    generalize ts[2]=t at *
    generalize leveled t=lb at *
    cases lb with
    |false =>
     simp only[ubr,if_false] at HST
     go_wp2_with (first|(go_at_call 218;refine(HLV.out _).mono ?_;rintro r w2 ⟨rfl,hb2⟩))
     go_roundw
     case rel=>exact⟨3,x,y,z,by omega,rfl,hlb.below hb2,hvb.below hb2,hr0.below hb2,hfb.below hb2,HST,zae hbk hb2 (uaa _)⟩
     case measure=>simp[intOf]
    |true =>
     simp only[if_true] at HST
     have hl3:=hlv3 rfl
     clear hlv3
     generalize hlq:t.level=lv at *
     clear hlq
     go_wp2_with (first|(go_at_call 218;refine(HLV.out _).mono ?_;rintro r w2 ⟨rfl,hb2⟩;have hb2':=hb2;have hlb2:=hlb.below hb2;obtain⟨hlc2,hlf2⟩:=hlb2.rules;have hll2:=hlb2.lt;have hy2:=(hb2.cell (p:=⟨g,8,none⟩) hgr).trans hx2;have hfb2:=hfb.below hb2;obtain⟨hfc2,hff2⟩:=hfb2.rules;have hfl2:=hfb2.lt;have hgr2:g < w2.heap.size:=(ual hgr hb2.size);obtain rfl|rfl|rfl:lv=0∨lv=1∨lv=2:=(by omega)))
     ·have HN2:Hid (zd4 ⟨pr,ts⟩ [r0,r1,r2] 3=[r2,y,z]):=by rw[Hid,HST.out];rfl
      have hset:=(hfb.below hb2').set 0 (.int .i64 (r2:Nat))
      simp at hset
      have hl2:=(hlb.below hb2').set_ne (show w.heap.size≠w.heap.size+3 from by omega) 0 (.int .i64 (r2:Nat))
      have hv2:=(hvb.below hb2').set_ne (show w.heap.size+1≠w.heap.size+3 from by omega) 0 (.int .i64 (r2:Nat))
      have h02:=(hr0.below hb2').set_ne (show w.heap.size+2≠w.heap.size+3 from by omega) 0 (.int .i64 (r2:Nat))
      have hB3:=(zae hbk hb2' (uaa _)).setCell (p:=⟨w.heap.size+3,0,none⟩) (by simp) (.int .i64 (r2:Nat))
      go_wp2
      go_roundw
      case rel=>exact⟨3,r2,y,z,by omega,rfl,hl2,hv2,h02,hset,HN2,hB3⟩
      case measure=>simp[intOf]
     ·have HN2:Hid (zd4 ⟨pr,ts⟩ [r0,r1,r2] 3=[x,r2,z]):=by rw[Hid,HST.out];rfl
      have hset:=(hfb.below hb2').set 1 (.int .i64 (r2:Nat))
      simp at hset
      have hl2:=(hlb.below hb2').set_ne (show w.heap.size≠w.heap.size+3 from by omega) 1 (.int .i64 (r2:Nat))
      have hv2:=(hvb.below hb2').set_ne (show w.heap.size+1≠w.heap.size+3 from by omega) 1 (.int .i64 (r2:Nat))
      have h02:=(hr0.below hb2').set_ne (show w.heap.size+2≠w.heap.size+3 from by omega) 1 (.int .i64 (r2:Nat))
      have hB3:=(zae hbk hb2' (uaa _)).setCell (p:=⟨w.heap.size+3,1,none⟩) (by simp) (.int .i64 (r2:Nat))
      go_wp2
      go_roundw
      case rel=>exact⟨3,x,r2,z,by omega,rfl,hl2,hv2,h02,hset,HN2,hB3⟩
      case measure=>simp[intOf]
     ·have HN2:Hid (zd4 ⟨pr,ts⟩ [r0,r1,r2] 3=[x,y,r2]):=by rw[Hid,HST.out];rfl
      have hset:=(hfb.below hb2').set 2 (.int .i64 (r2:Nat))
      simp at hset
      have hl2:=(hlb.below hb2').set_ne (show w.heap.size≠w.heap.size+3 from by omega) 2 (.int .i64 (r2:Nat))
      have hv2:=(hvb.below hb2').set_ne (show w.heap.size+1≠w.heap.size+3 from by omega) 2 (.int .i64 (r2:Nat))
      have h02:=(hr0.below hb2').set_ne (show w.heap.size+2≠w.heap.size+3 from by omega) 2 (.int .i64 (r2:Nat))
      have hB3:=(zae hbk hb2' (uaa _)).setCell (p:=⟨w.heap.size+3,2,none⟩) (by simp) (.int .i64 (r2:Nat))
      go_wp2
      go_roundw
      case rel=>exact⟨3,x,y,r2,by omega,rfl,hl2,hv2,h02,hset,HN2,hB3⟩
      case measure=>simp[intOf]
   ·have HST:Hid (zd4 ⟨pr,ts⟩ [r0,r1,r2] 3=[x,y,z]):=by
     rw[Hid,zd4,HN.out]
     simp[zbz,hlt]
    have hlt2:ts.length<=2:=by omega
    go_wp2
    go_roundw
    case rel=>exact⟨3,x,y,z,by omega,rfl,hlb,hvb,hr0,hfb,HST,hbk⟩
    case measure=>simp[intOf]
  |3,_ =>
   have HM:Hid (zb0 ⟨pr,ts⟩ [r0,r1,r2]=if (zaz ⟨pr,ts⟩ [r0,r1,r2] [x,y,z] 0 && zaz ⟨pr,ts⟩ [r0,r1,r2] [x,y,z] 1 && zaz ⟨pr,ts⟩ [r0,r1,r2] [x,y,z] 2)=true then some [x,y,z] else none):=z2x ((z16 _ _).trans HN.out)
   clear HN
   rw[show((3:Nat):Int)=3 from rfl]
   go_wp2
   have HST:Hid (Box wr w.heap.size #[.int .i64 pr,.slice ao ts.length cap] 204/\Box wr (w.heap.size+1) #[.int .i64 (r0:Nat),.int .i64 (r1:Nat),.int .i64 (r2:Nat)] 165/\Box wr (w.heap.size+2) #[.int .i64 0,.int .i64 0,.int .i64 0] 165/\Box wr (w.heap.size+3) #[.int .i64 (x:Nat),.int .i64 (y:Nat),.int .i64 (z:Nat)] 165/\Below w.heap.size w wr):=⟨hlb,hvb,hr0,hfb,hbk⟩
   clear hlc hlf hll hvc hvf hvl hfc hff hfl hszk hlb hvb hr0 hfb hbk
   go_loopw [39] (fun v39 wr=>∃ k:Nat,k<=3/\v39=.int .i64 k/\Box wr w.heap.size #[.int .i64 pr,.slice ao ts.length cap] 204/\Box wr (w.heap.size+1) #[.int .i64 (r0:Nat),.int .i64 (r1:Nat),.int .i64 (r2:Nat)] 165/\Box wr (w.heap.size+2) #[.int .i64 0,.int .i64 0,.int .i64 0] 165/\Box wr (w.heap.size+3) #[.int .i64 (x:Nat),.int .i64 (y:Nat),.int .i64 (z:Nat)] 165/\Hid (∀ i,i < k->zaz ⟨pr,ts⟩ [r0,r1,r2] [x,y,z] i=true)/\Below w.heap.size w wr) (fun i _=>3 - (intOf i).toNat)
   case atStart =>
    obtain⟨q1,q2,q3,q4,q5⟩:=HST.out
    exact⟨0,by omega,rfl,q1,q2,q3,q4,(fun i hi=>by omega),q5⟩
   case round =>
    clear HST
    obtain⟨k,hk,rfl,hlb,hvb,hr0,hfb,HA,hbk⟩:=hrel
    obtain⟨hlc,hlf⟩:=hlb.rules
    have hll:=hlb.lt
    obtain⟨hvc,hvf⟩:=hvb.rules
    have hvl:=hvb.lt
    obtain⟨hfc,hff⟩:=hfb.rules
    have hfl:=hfb.lt
    obtain⟨hzc,hzf⟩:=hr0.rules
    have hzl:=hr0.lt
    have hszk:=hbk.size
    match k,hk with
    |0,_ =>
     by_cases hlt:0 < ts.length
     ·have HAE:Hid (zaz ⟨pr,ts⟩ [r0,r1,r2] [x,y,z] 0=zea ts[0] r0 [x,y,z]):=by unfold zaz;rw[Hid,decide_eq_false (show ¬ ts.length<=0 by omega)];simp[List.getD_eq_getElem?_getD,hlt]
      obtain⟨g,hao,hg,h0,h1,h2⟩:=h.cell 0 hlt
      subst hao
      have hx0:=(hbk.cell (p:=⟨g,0 * 3,none⟩) hg).trans h0
      have hx1:=(hbk.cell (p:=⟨g,0 * 3+1,none⟩) hg).trans h1
      have hx2:=(hbk.cell (p:=⟨g,0 * 3+2,none⟩) hg).trans h2
      simp only[Nat.reduceMul,Nat.reduceAdd] at hx0 hx1 hx2
      have hgr:g < wr.heap.size:=by omega
      have hltI:(0:Int) < (ts.length:Int):=by omega
      have HAL:Hid (∀ W,Calls Tryz.prog 219 #[.agg #[.bool ts[0].var,.int .i64 (ts[0].num:Nat),.int .i64 (ts[0].level:Nat)],.int .i64 r0,.agg #[.int .i64 (x:Nat),.int .i64 (y:Nat),.int .i64 (z:Nat)]] W fun r w'=>r=.returned (.bool (zea ts[0] r0 [x,y,z]))/\Below W.heap.size W w'):=fun W=>zj8 W ts[0] r0 x y z
      clear h0 h1 h2
      generalize ts[0]=t at *
      generalize zea t r0 [x,y,z]=ab at *
      go_wp2
      go_region_held3 (fun w'=>w'.cell? ⟨w.heap.size,1,none⟩=some (.slice (some ⟨g,0,none⟩) ts.length cap)/\w'.cell? ⟨g,0,none⟩=some (.bool t.var)/\w'.cell? ⟨g,1,none⟩=some (.int .i64 (t.num:Nat))/\w'.cell? ⟨g,2,none⟩=some (.int .i64 (t.level:Nat))/\w'.cell? ⟨w.heap.size+1+1+1,0,none⟩=some (.int .i64 (x:Nat))/\w'.cell? ⟨w.heap.size+1+1+1,1,none⟩=some (.int .i64 (y:Nat))/\w'.cell? ⟨w.heap.size+1+1+1,2,none⟩=some (.int .i64 (z:Nat))) (first|go_keep|(go_simp;done)) (first|(go_at_call 219;refine(HAL.out _).mono ?_;rintro r w2 ⟨rfl,hb2⟩;have hB2:Below wr.heap.size wr w2:=(zae (by go_grown) hb2 (uaa _));have hlb2:=hlb.below hB2;obtain⟨hlc2,hlf2⟩:=hlb2.rules;have hll2:=hlb2.lt;have hfb2:=hfb.below hB2;obtain⟨hfc2,hff2⟩:=hfb2.rules;have hfl2:=hfb2.lt;have hy0:=(hB2.cell (p:=⟨g,0,none⟩) hgr).trans hx0;have hy1:=(hB2.cell (p:=⟨g,1,none⟩) hgr).trans hx1;have hy2:=(hB2.cell (p:=⟨g,2,none⟩) hgr).trans hx2))
      cases ab with
      |true =>
       have HA2:Hid (∀ i,i < 1->zaz ⟨pr,ts⟩ [r0,r1,r2] [x,y,z] i=true):=fun i hi=>by
        by_cases e:i=0
        ·subst e;exact HAE.out
        ·exact HA.out i (by omega)
       go_wp2
       go_roundw
       case rel=>exact⟨1,by omega,rfl,hlb2,hvb.below hB2,hr0.below hB2,hfb2,HA2,zae hbk hB2 (uaa _)⟩
       case measure=>simp[intOf]
      |false =>
       have HN:Hid (zb0 ⟨pr,ts⟩ [r0,r1,r2]=none):=by rw[Hid,HM.out,HAE.out];simp
       have hr2:=hr0.below hB2
       obtain⟨hzc2,hzf2⟩:=hr2.rules
       have hzl2:=hr2.lt
       go_wp2
       exact bodyPost_ret (v:=.tuple #[.agg #[.int .i64 0,.int .i64 0,.int .i64 0],.bool false]) (by simp[results,Tryz.results213,go_sem,hzc2]) rfl ⟨⟨0,0,0,by rw[HN.out];rfl,by rw[HN.out];rfl⟩,(((zae hbk hB2 (uaa _)).setCell (p:=⟨w.heap.size+2,0,none⟩) (by simp) _).setCell (p:=⟨w.heap.size+2,1,none⟩) (by simp) _).setCell (p:=⟨w.heap.size+2,2,none⟩) (by simp) _⟩
     ·have HAE:Hid (zaz ⟨pr,ts⟩ [r0,r1,r2] [x,y,z] 0=true):=by unfold zaz;rw[Hid,decide_eq_true (show ts.length<=0 by omega)];rfl
      have HA2:Hid (∀ i,i < 1->zaz ⟨pr,ts⟩ [r0,r1,r2] [x,y,z] i=true):=fun i hi=>by
       by_cases e:i=0
       ·subst e;exact HAE.out
       ·exact HA.out i (by omega)
      have hdec:decide ((0:Int) < (ts.length:Int))=false:=decide_eq_false (by omega)
      go_wp2
      go_quiet (fail)
      go_wp2
      go_roundw
      case rel=>exact⟨1,by omega,rfl,hlb.below (zau (Below.refl _ _) _),hvb.below (zau (Below.refl _ _) _),hr0.below (zau (Below.refl _ _) _),hfb.below (zau (Below.refl _ _) _),HA2,zau hbk _⟩
      case measure=>simp[intOf]
    |1,_ =>
     by_cases hlt:1 < ts.length
     ·have HAE:Hid (zaz ⟨pr,ts⟩ [r0,r1,r2] [x,y,z] 1=zea ts[1] r1 [x,y,z]):=by unfold zaz;rw[Hid,decide_eq_false (show ¬ ts.length<=1 by omega)];simp[List.getD_eq_getElem?_getD,hlt]
      obtain⟨g,hao,hg,h0,h1,h2⟩:=h.cell 1 hlt
      subst hao
      have hx0:=(hbk.cell (p:=⟨g,1 * 3,none⟩) hg).trans h0
      have hx1:=(hbk.cell (p:=⟨g,1 * 3+1,none⟩) hg).trans h1
      have hx2:=(hbk.cell (p:=⟨g,1 * 3+2,none⟩) hg).trans h2
      simp only[Nat.reduceMul,Nat.reduceAdd] at hx0 hx1 hx2
      have hgr:g < wr.heap.size:=by omega
      have hltI:(1:Int) < (ts.length:Int):=by omega
      have HAL:Hid (∀ W,Calls Tryz.prog 219 #[.agg #[.bool ts[1].var,.int .i64 (ts[1].num:Nat),.int .i64 (ts[1].level:Nat)],.int .i64 r1,.agg #[.int .i64 (x:Nat),.int .i64 (y:Nat),.int .i64 (z:Nat)]] W fun r w'=>r=.returned (.bool (zea ts[1] r1 [x,y,z]))/\Below W.heap.size W w'):=fun W=>zj8 W ts[1] r1 x y z
      clear h0 h1 h2
      generalize ts[1]=t at *
      generalize zea t r1 [x,y,z]=ab at *
      go_wp2
      go_region_held3 (fun w'=>w'.cell? ⟨w.heap.size,1,none⟩=some (.slice (some ⟨g,0,none⟩) ts.length cap)/\w'.cell? ⟨g,3,none⟩=some (.bool t.var)/\w'.cell? ⟨g,4,none⟩=some (.int .i64 (t.num:Nat))/\w'.cell? ⟨g,5,none⟩=some (.int .i64 (t.level:Nat))/\w'.cell? ⟨w.heap.size+1+1+1,0,none⟩=some (.int .i64 (x:Nat))/\w'.cell? ⟨w.heap.size+1+1+1,1,none⟩=some (.int .i64 (y:Nat))/\w'.cell? ⟨w.heap.size+1+1+1,2,none⟩=some (.int .i64 (z:Nat))) (first|go_keep|(go_simp;done)) (first|(go_at_call 219;refine(HAL.out _).mono ?_;rintro r w2 ⟨rfl,hb2⟩;have hB2:Below wr.heap.size wr w2:=(zae (by go_grown) hb2 (uaa _));have hlb2:=hlb.below hB2;obtain⟨hlc2,hlf2⟩:=hlb2.rules;have hll2:=hlb2.lt;have hfb2:=hfb.below hB2;obtain⟨hfc2,hff2⟩:=hfb2.rules;have hfl2:=hfb2.lt;have hy0:=(hB2.cell (p:=⟨g,3,none⟩) hgr).trans hx0;have hy1:=(hB2.cell (p:=⟨g,4,none⟩) hgr).trans hx1;have hy2:=(hB2.cell (p:=⟨g,5,none⟩) hgr).trans hx2))
      cases ab with
      |true =>
       have HA2:Hid (∀ i,i < 2->zaz ⟨pr,ts⟩ [r0,r1,r2] [x,y,z] i=true):=fun i hi=>by
        by_cases e:i=1
        ·subst e;exact HAE.out
        ·exact HA.out i (by omega)
       go_wp2
       go_roundw
       case rel=>exact⟨2,by omega,rfl,hlb2,hvb.below hB2,hr0.below hB2,hfb2,HA2,zae hbk hB2 (uaa _)⟩
       case measure=>simp[intOf]
      |false =>
       have HN:Hid (zb0 ⟨pr,ts⟩ [r0,r1,r2]=none):=by rw[Hid,HM.out,HAE.out];simp
       have hr2:=hr0.below hB2
       obtain⟨hzc2,hzf2⟩:=hr2.rules
       have hzl2:=hr2.lt
       go_wp2
       exact bodyPost_ret (v:=.tuple #[.agg #[.int .i64 0,.int .i64 0,.int .i64 0],.bool false]) (by simp[results,Tryz.results213,go_sem,hzc2]) rfl ⟨⟨0,0,0,by rw[HN.out];rfl,by rw[HN.out];rfl⟩,(((zae hbk hB2 (uaa _)).setCell (p:=⟨w.heap.size+2,0,none⟩) (by simp) _).setCell (p:=⟨w.heap.size+2,1,none⟩) (by simp) _).setCell (p:=⟨w.heap.size+2,2,none⟩) (by simp) _⟩
     ·have HAE:Hid (zaz ⟨pr,ts⟩ [r0,r1,r2] [x,y,z] 1=true):=by unfold zaz;rw[Hid,decide_eq_true (show ts.length<=1 by omega)];rfl
      have HA2:Hid (∀ i,i < 2->zaz ⟨pr,ts⟩ [r0,r1,r2] [x,y,z] i=true):=fun i hi=>by
       by_cases e:i=1
       ·subst e;exact HAE.out
       ·exact HA.out i (by omega)
      have hdec:decide ((1:Int) < (ts.length:Int))=false:=decide_eq_false (by omega)
      go_wp2
      go_quiet (fail)
      go_wp2
      go_roundw
      case rel=>exact⟨2,by omega,rfl,hlb.below (zau (Below.refl _ _) _),hvb.below (zau (Below.refl _ _) _),hr0.below (zau (Below.refl _ _) _),hfb.below (zau (Below.refl _ _) _),HA2,zau hbk _⟩
      case measure=>simp[intOf]
    |2,_ =>
     by_cases hlt:2 < ts.length
     ·have HAE:Hid (zaz ⟨pr,ts⟩ [r0,r1,r2] [x,y,z] 2=zea ts[2] r2 [x,y,z]):=by unfold zaz;rw[Hid,decide_eq_false (show ¬ ts.length<=2 by omega)];simp[List.getD_eq_getElem?_getD,hlt]
      obtain⟨g,hao,hg,h0,h1,h2⟩:=h.cell 2 hlt
      subst hao
      have hx0:=(hbk.cell (p:=⟨g,2 * 3,none⟩) hg).trans h0
      have hx1:=(hbk.cell (p:=⟨g,2 * 3+1,none⟩) hg).trans h1
      have hx2:=(hbk.cell (p:=⟨g,2 * 3+2,none⟩) hg).trans h2
      simp only[Nat.reduceMul,Nat.reduceAdd] at hx0 hx1 hx2
      have hgr:g < wr.heap.size:=by omega
      have hltI:(2:Int) < (ts.length:Int):=by omega
      have HAL:Hid (∀ W,Calls Tryz.prog 219 #[.agg #[.bool ts[2].var,.int .i64 (ts[2].num:Nat),.int .i64 (ts[2].level:Nat)],.int .i64 r2,.agg #[.int .i64 (x:Nat),.int .i64 (y:Nat),.int .i64 (z:Nat)]] W fun r w'=>r=.returned (.bool (zea ts[2] r2 [x,y,z]))/\Below W.heap.size W w'):=fun W=>zj8 W ts[2] r2 x y z
      clear h0 h1 h2
      generalize ts[2]=t at *
      generalize zea t r2 [x,y,z]=ab at *
      go_wp2
      go_region_held3 (fun w'=>w'.cell? ⟨w.heap.size,1,none⟩=some (.slice (some ⟨g,0,none⟩) ts.length cap)/\w'.cell? ⟨g,6,none⟩=some (.bool t.var)/\w'.cell? ⟨g,7,none⟩=some (.int .i64 (t.num:Nat))/\w'.cell? ⟨g,8,none⟩=some (.int .i64 (t.level:Nat))/\w'.cell? ⟨w.heap.size+1+1+1,0,none⟩=some (.int .i64 (x:Nat))/\w'.cell? ⟨w.heap.size+1+1+1,1,none⟩=some (.int .i64 (y:Nat))/\w'.cell? ⟨w.heap.size+1+1+1,2,none⟩=some (.int .i64 (z:Nat))) (first|go_keep|(go_simp;done)) (first|(go_at_call 219;refine(HAL.out _).mono ?_;rintro r w2 ⟨rfl,hb2⟩;have hB2:Below wr.heap.size wr w2:=(zae (by go_grown) hb2 (uaa _));have hlb2:=hlb.below hB2;obtain⟨hlc2,hlf2⟩:=hlb2.rules;have hll2:=hlb2.lt;have hfb2:=hfb.below hB2;obtain⟨hfc2,hff2⟩:=hfb2.rules;have hfl2:=hfb2.lt;have hy0:=(hB2.cell (p:=⟨g,6,none⟩) hgr).trans hx0;have hy1:=(hB2.cell (p:=⟨g,7,none⟩) hgr).trans hx1;have hy2:=(hB2.cell (p:=⟨g,8,none⟩) hgr).trans hx2))
      cases ab with
      |true =>
       have HA2:Hid (∀ i,i < 3->zaz ⟨pr,ts⟩ [r0,r1,r2] [x,y,z] i=true):=fun i hi=>by
        by_cases e:i=2
        ·subst e;exact HAE.out
        ·exact HA.out i (by omega)
       go_wp2
       go_roundw
       case rel=>exact⟨3,by omega,rfl,hlb2,hvb.below hB2,hr0.below hB2,hfb2,HA2,zae hbk hB2 (uaa _)⟩
       case measure=>simp[intOf]
      |false =>
       have HN:Hid (zb0 ⟨pr,ts⟩ [r0,r1,r2]=none):=by rw[Hid,HM.out,HAE.out];simp
       have hr2:=hr0.below hB2
       obtain⟨hzc2,hzf2⟩:=hr2.rules
       have hzl2:=hr2.lt
       go_wp2
       exact bodyPost_ret (v:=.tuple #[.agg #[.int .i64 0,.int .i64 0,.int .i64 0],.bool false]) (by simp[results,Tryz.results213,go_sem,hzc2]) rfl ⟨⟨0,0,0,by rw[HN.out];rfl,by rw[HN.out];rfl⟩,(((zae hbk hB2 (uaa _)).setCell (p:=⟨w.heap.size+2,0,none⟩) (by simp) _).setCell (p:=⟨w.heap.size+2,1,none⟩) (by simp) _).setCell (p:=⟨w.heap.size+2,2,none⟩) (by simp) _⟩
     ·have HAE:Hid (zaz ⟨pr,ts⟩ [r0,r1,r2] [x,y,z] 2=true):=by unfold zaz;rw[Hid,decide_eq_true (show ts.length<=2 by omega)];rfl
      have HA2:Hid (∀ i,i < 3->zaz ⟨pr,ts⟩ [r0,r1,r2] [x,y,z] i=true):=fun i hi=>by
       by_cases e:i=2
       ·subst e;exact HAE.out
       ·exact HA.out i (by omega)
      have hdec:decide ((2:Int) < (ts.length:Int))=false:=decide_eq_false (by omega)
      go_wp2
      go_quiet (fail)
      go_wp2
      go_roundw
      case rel=>exact⟨3,by omega,rfl,hlb.below (zau (Below.refl _ _) _),hvb.below (zau (Below.refl _ _) _),hr0.below (zau (Below.refl _ _) _),hfb.below (zau (Below.refl _ _) _),HA2,zau hbk _⟩
      case measure=>simp[intOf]
    |3,_ =>
     have HN:Hid (zb0 ⟨pr,ts⟩ [r0,r1,r2]=some [x,y,z]):=by rw[Hid,HM.out,HA.out 0 (by omega),HA.out 1 (by omega),HA.out 2 (by omega)];rfl
     go_wp2
     exact bodyPost_ret (v:=.tuple #[.agg #[.int .i64 (x:Nat),.int .i64 (y:Nat),.int .i64 (z:Nat)],.bool true]) (by simp[results,Tryz.results213,go_sem,hzc]) rfl ⟨⟨x,y,z,by rw[HN.out];rfl,by rw[HN.out];rfl⟩,((hbk.setCell (p:=⟨w.heap.size+2,0,none⟩) (by simp) _).setCell (p:=⟨w.heap.size+2,1,none⟩) (by simp) _).setCell (p:=⟨w.heap.size+2,2,none⟩) (by simp) _⟩
end Go.Proofs.YteampbddflhngaaGreat
