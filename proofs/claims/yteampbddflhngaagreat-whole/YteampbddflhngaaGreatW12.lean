import Derived.Test.YteampbddflhngaaGreatW11
import Derived.Deep.RegionWith

namespace Go.Proofs.YteampbddflhngaaGreat
set_option maxRecDepth 100000
set_option maxHeartbeats 2000000
open Go.RowKit
variable {lo:Nat}
def zdj(t:zbn):Value × Value × Value:=(.bool t.var,.int .i64 (t.num:Nat),.int .i64 (t.level:Nat))
structure zaq (lo:Nat) (w:World) (v:Value) (ts:List zbn):Prop where
 own:w.ownsRow lo 284 3 v ts.length (flat3 (ts.map zdj))
 len:ts.length<=1000
 num:∀ t∈ts,t.num<=1000000/\t.level<=1000000
theorem zaq.below{w w':World}{v:Value}{ts:List zbn}(h:zaq lo w v ts)(hb:Below w.heap.size w w'):zaq lo w' v ts:=⟨zaa h.own hb,h.len,h.num⟩
theorem zaq.shape{w:World}{v:Value}{ts:List zbn}(h:zaq lo w v ts):∃ ao cap,v=.slice ao ts.length cap:=zac h.own
theorem zaq.cell{w:World}{ao:Option Addr}{n cap:Nat}{ts:List zbn}(h:zaq lo w (.slice ao n cap) ts)(k:Nat)(hk:k < ts.length):∃ g,ao=some ⟨g,0,none⟩/\g < w.heap.size/\w.cell? ⟨g,k * 3,none⟩=some (.bool ts[k].var)/\w.cell? ⟨g,k * 3+1,none⟩=some (.int .i64 (ts[k].num:Nat))/\w.cell? ⟨g,k * 3+2,none⟩=some (.int .i64 (ts[k].level:Nat)):=by
 obtain⟨g,cap',hv,_,hg,_⟩:=zal h.own (by omega)
 simp only[Value.slice.injEq] at hv
 obtain⟨rfl,_,_⟩:=hv
 obtain⟨_,h0,h1,h2⟩:=zop h.own k (by simpa using hk)
 simp only[uaw,zdj] at h0 h1 h2
 exact⟨g,rfl,hg,h0,h1,h2⟩
theorem any_take_succ{α:Type}(l:List α)(p:α->Bool)(k:Nat)(hk:k < l.length):(l.take (k+1)).any p=((l.take k).any p || p l[k]):=by
 rw[uae hk,List.any_append];simp
theorem zsp{α:Type}(l:List α)(p:α->Bool)(k:Nat)(hk:k < l.length)(h:p l[k]=true):l.any p=true:=ub4.2 ⟨_,uad hk,h⟩
theorem z2e(w:World)(v:Value)(pr pl:Nat)(ts:List zbn)(h:zaq lo w v ts) :
  Calls Tryz.prog 202 #[.agg #[.int .i64 pr,v],.int .i64 pl] w fun e w'=>e=.returned (.bool (zde ⟨pr,ts⟩ pl))/\Below w.heap.size w w':=by
 obtain⟨ao,cap,rfl⟩:=h.shape
 have hl:=h.len
 go_enter Tryz.func202,Tryz.ntmps202
 go_wp2
 go_loopw [10] (fun v10 wr=>∃ k:Nat,k<=ts.length/\v10=.int .i64 k/\Hid ((ts.take k).any (fun t=>t.var && t.num == pl)=false)/\Below w.heap.size w wr) (fun i _=>ts.length - (intOf i).toNat)
 case atStart=>exact⟨0,uaj _,rfl,rfl,(by go_grown)⟩
 case round =>
  obtain⟨k,hk,rfl,HA,hbk⟩:=hrel
  have hszk:=hbk.size
  by_cases hlt:k < ts.length
  ·obtain⟨g,rfl,hg,h0,h1,h2⟩:=h.cell k hlt
   have hx0:=(hbk.cell (p:=⟨g,k * 3,none⟩) hg).trans h0
   have hx1:=(hbk.cell (p:=⟨g,k * 3+1,none⟩) hg).trans h1
   have hx2:=(hbk.cell (p:=⟨g,k * 3+2,none⟩) hg).trans h2
   have hgr:g < wr.heap.size:=by omega
   have hnn:=(h.num _ (uad hlt)).1
   clear h0 h1 h2
   have HS:Hid ((ts.take (k+1)).any (fun t=>t.var && t.num == pl)=((ts.take k).any (fun t=>t.var && t.num == pl) || (ts[k].var && ts[k].num == pl))):=any_take_succ ts (fun t=>t.var && t.num == pl) k hlt
   have HT:Hid ((ts[k].var && ts[k].num == pl)=true->zde ⟨pr,ts⟩ pl=true):=zsp ts (fun t=>t.var && t.num == pl) k hlt
   generalize ts[k]=t at *
   cases hv:t.var with
   |false =>
    rw[hv] at hx0 HS
    clear hv
    go_wp2
    go_roundw
    case rel=>exact⟨k+1,by omega,by go_num,(by rw[HS.out,HA.out];rfl),hbk.alloc hszk _⟩
    case measure=>simp[intOf];omega
   |true =>
    by_cases hn:t.num=pl
    ·have HT2:Hid (zde ⟨pr,ts⟩ pl=true):=HT.out (by simp[hv,hn])
     rw[hv] at hx0
     clear hv
     subst hn
     go_wp2
     go_ret
     exact⟨by rw[HT2.out];rfl,hbk.alloc hszk _⟩
    ·have HS2:Hid ((t.var && t.num == pl)=false):=by simp[Hid,hn]
     have HS3:Hid ((ts.take (k+1)).any (fun t=>t.var && t.num == pl)=false):=by rw[Hid,HS.out,HA.out,HS2.out];rfl
     rw[hv] at hx0
     clear hv
     go_wp2
     go_roundw
     case rel=>exact⟨k+1,by omega,by go_num,HS3,hbk.alloc hszk _⟩
     case measure=>simp[intOf];omega
  ·have HE:Hid (zde ⟨pr,ts⟩ pl=false):=by
    have:=HA.out
    rw[uam (by omega)] at this
    exact this
   go_wp2
   go_ret
   exact⟨by rw[HE.out];rfl,hbk⟩
theorem zhs(p:Nat->Bool)(k:Nat):(List.range (k+1)).countP p=(List.range k).countP p+(if p k then 1 else 0):=by
 rw[List.range_succ,List.countP_append];simp[List.countP_cons]
theorem zt3(w:World)(v:Value)(pr pl:Nat)(ts:List zbn)(h:zaq lo w v ts)(hp:pl<=1000000) :
  Calls Tryz.prog 187 #[.agg #[.int .i64 pr,v],.int .i64 pl] w fun e w'=>e=.returned (zpc (zbq ⟨pr,ts⟩ pl))/\Below w.heap.size w w':=by
 have HH:Hid (∀ W p,Below w.heap.size w W->Calls Tryz.prog 202 #[.agg #[.int .i64 pr,v],.int .i64 ((p:Nat):Int)] W fun e w'=>e=.returned (.bool (zde ⟨pr,ts⟩ p))/\Below W.heap.size W w'):=fun W p hW=>z2e W v pr p ts (h.below hW)
 clear h
 cases hh:zde ⟨pr,ts⟩ pl with
 |false =>
  have HE:Hid (zbq ⟨pr,ts⟩ pl=none):=by simp[Hid,zbq,hh]
  have H1:Hid (∀ W,Below w.heap.size w W->Calls Tryz.prog 202 #[.agg #[.int .i64 pr,v],.int .i64 pl] W fun e w'=>e=.returned (.bool false)/\Below W.heap.size W w'):=fun W hW=>by have q:=HH.out W pl hW;rw[hh] at q;exact q
  clear hh HH
  go_enter Tryz.func187,Tryz.ntmps187
  go_wp2_with (first|(go_at_call 202;refine(H1.out _ (by exact(by go_grown))).mono ?_;rintro e w1 ⟨rfl,hb1⟩;have hB1:Below w.heap.size w w1:=zae (by go_grown) hb1 (uaa _)))
  go_ret2
  exact⟨by rw[HE.out];rfl,hB1⟩
 |true =>
  have HE:Hid (zbq ⟨pr,ts⟩ pl=some ((List.range pl).countP (zde ⟨pr,ts⟩))):=by simp[Hid,zbq,hh]
  have H1:Hid (∀ W,Below w.heap.size w W->Calls Tryz.prog 202 #[.agg #[.int .i64 pr,v],.int .i64 pl] W fun e w'=>e=.returned (.bool true)/\Below W.heap.size W w'):=fun W hW=>by have q:=HH.out W pl hW;rw[hh] at q;exact q
  clear hh
  go_enter Tryz.func187,Tryz.ntmps187
  go_wp2_with (first|(go_at_call 202;refine(H1.out _ (by exact(by go_grown))).mono ?_;rintro e w1 ⟨rfl,hb1⟩;have hB1:Below w.heap.size w w1:=zae (by go_grown) hb1 (uaa _);have hbx:=(Box.new w #[.int .i64 pr,v] 204).below hb1))
  clear hb1
  go_loopw [6,7] (fun v6 v7 wr=>∃ k:Nat,k<=pl/\v7=.int .i64 k/\v6=.int .i64 ((List.range k).countP (zde ⟨pr,ts⟩):Nat)/\Below w1.heap.size w1 wr) (fun _ v7 _=>pl - (intOf v7).toNat)
  case atStart=>exact⟨0,uaj _,rfl,rfl,Below.refl _ _⟩
  case round =>
   obtain⟨k,hk,rfl,rfl,hbk⟩:=hrel
   have hBk:=zae hB1 hbk (uaa _)
   have hbxk:=hbx.below hbk
   obtain⟨hc,hf⟩:=hbxk.rules
   have hl:=hbxk.lt
   have hcl:(List.range k).countP (zde ⟨pr,ts⟩)<=k:=by have:=ucx (p:=zde ⟨pr,ts⟩) (l:=List.range k);simpa using this
   by_cases hlt:k < pl
   ·have HC:=zhs (zde ⟨pr,ts⟩) k
    have H2:Hid (Calls Tryz.prog 202 #[.agg #[.int .i64 pr,v],.int .i64 k] wr fun e w'=>e=.returned (.bool (zde ⟨pr,ts⟩ k))/\Below wr.heap.size wr w'):=HH.out wr k hBk
    cases hh:zde ⟨pr,ts⟩ k with
    |false =>
     rw[hh] at HC H2
     have HC2:Hid ((List.range (k+1)).countP (zde ⟨pr,ts⟩)=(List.range k).countP (zde ⟨pr,ts⟩)):=by rw[Hid,HC];simp
     clear hh HC
     generalize (List.range k).countP (zde ⟨pr,ts⟩)=cn at *
     go_wp2_with (first|(go_at_call 202;refine H2.out.mono ?_;rintro e w2 ⟨rfl,hb2⟩))
     go_roundw
     case rel=>exact⟨k+1,by omega,by go_num,by rw[HC2.out],zae hbk hb2 (uaa _)⟩
     case measure=>simp[intOf];omega
    |true =>
     rw[hh] at HC H2
     have HC2:Hid ((List.range (k+1)).countP (zde ⟨pr,ts⟩)=(List.range k).countP (zde ⟨pr,ts⟩)+1):=by rw[Hid,HC];simp
     clear hh HC
     generalize (List.range k).countP (zde ⟨pr,ts⟩)=cn at *
     go_wp2_with (first|(go_at_call 202;refine H2.out.mono ?_;rintro e w2 ⟨rfl,hb2⟩))
     go_roundw
     case rel=>exact⟨k+1,by omega,by go_num,by rw[HC2.out];go_num,zae hbk hb2 (uaa _)⟩
     case measure=>simp[intOf];omega
   ·obtain rfl:k=pl:=by omega
    go_wp2
    go_ret2
    exact⟨by rw[HE.out];rfl,hBk⟩
theorem zs6(w:World)(v:Value)(pr:Nat)(ts:List zbn)(h:zaq lo w v ts) :
  Calls Tryz.prog 212 #[.agg #[.int .i64 pr,v]] w fun e w'=>e=.returned (.int .i64 (zbb ⟨pr,ts⟩:Nat))/\Below w.heap.size w w':=by
 have HH:Hid (∀ W p,Below w.heap.size w W->Calls Tryz.prog 202 #[.agg #[.int .i64 pr,v],.int .i64 ((p:Nat):Int)] W fun e w'=>e=.returned (.bool (zde ⟨pr,ts⟩ p))/\Below W.heap.size W w'):=fun W p hW=>z2e W v pr p ts (h.below hW)
 clear h
 have hbx:=Box.new w #[.int .i64 pr,v] 204
 have HE:Hid (zbb ⟨pr,ts⟩=(List.range 5).countP (zde ⟨pr,ts⟩)):=rfl
 go_enter Tryz.func212,Tryz.ntmps212
 go_wp2
 go_loopw [3,4] (fun v3 v4 wr=>∃ k:Nat,k<=5/\v4=.int .i64 k/\v3=.int .i64 ((List.range k).countP (zde ⟨pr,ts⟩):Nat)/\Below (w.heap.size+1) (w.alloc (.cells #[.int .i64 pr,v] 204)) wr) (fun _ v4 _=>5 - (intOf v4).toNat)
 case atStart=>exact⟨0,uaj _,rfl,rfl,Below.refl _ _⟩
 case round =>
  obtain⟨k,hk,rfl,rfl,hbk0⟩:=hrel
  have hbk:Below (w.alloc (.cells #[.int .i64 pr,v] 204)).heap.size (w.alloc (.cells #[.int .i64 pr,v] 204)) wr:=by simpa using hbk0
  have hBk:Below w.heap.size w wr:=zae (by go_grown) hbk (uaa _)
  have hbxk:=hbx.below hbk
  obtain⟨hc,hf⟩:=hbxk.rules
  have hl:=hbxk.lt
  have hcl:(List.range k).countP (zde ⟨pr,ts⟩)<=k:=by have:=ucx (p:=zde ⟨pr,ts⟩) (l:=List.range k);simpa using this
  by_cases hlt:k < 5
  ·have HC:=zhs (zde ⟨pr,ts⟩) k
   have H2:Hid (Calls Tryz.prog 202 #[.agg #[.int .i64 pr,v],.int .i64 k] wr fun e w'=>e=.returned (.bool (zde ⟨pr,ts⟩ k))/\Below wr.heap.size wr w'):=HH.out wr k hBk
   cases hh:zde ⟨pr,ts⟩ k with
   |false =>
    rw[hh] at HC H2
    have HC2:Hid ((List.range (k+1)).countP (zde ⟨pr,ts⟩)=(List.range k).countP (zde ⟨pr,ts⟩)):=by rw[Hid,HC];simp
    clear hh HC
    generalize (List.range k).countP (zde ⟨pr,ts⟩)=cn at *
    go_wp2_with (first|(go_at_call 202;refine H2.out.mono ?_;rintro e w2 ⟨rfl,hb2⟩))
    go_roundw
    case rel=>exact⟨k+1,by omega,by go_num,by rw[HC2.out],zae hbk0 hb2 (by simp)⟩
    case measure=>simp[intOf];omega
   |true =>
    rw[hh] at HC H2
    have HC2:Hid ((List.range (k+1)).countP (zde ⟨pr,ts⟩)=(List.range k).countP (zde ⟨pr,ts⟩)+1):=by rw[Hid,HC];simp
    clear hh HC
    generalize (List.range k).countP (zde ⟨pr,ts⟩)=cn at *
    go_wp2_with (first|(go_at_call 202;refine H2.out.mono ?_;rintro e w2 ⟨rfl,hb2⟩))
    go_roundw
    case rel=>exact⟨k+1,by omega,by go_num,by rw[HC2.out];go_num,zae hbk0 hb2 (by simp)⟩
    case measure=>simp[intOf];omega
  ·obtain rfl:k=5:=by omega
   go_wp2
   go_ret
   exact⟨by rw[HE.out];rfl,hBk⟩
theorem zdm{α β:Type}(l:List α)(f:β->α->β)(b:β)(k:Nat)(hk:k < l.length):(l.take (k+1)).foldl f b=f ((l.take k).foldl f b) l[k]:=by
 rw[uae hk,ubj];rfl
def zg9(k:Nat)(t:zbn):Nat:=if t.var && decide (t.num ≥ k) then t.num+1 else k
theorem z2l(l:zak):zdn l=l.qf.foldl zg9 0:=rfl
theorem zts(w:World)(v:Value)(pr:Nat)(ts:List zbn)(h:zaq lo w v ts) :
  Calls Tryz.prog 222 #[.agg #[.int .i64 pr,v]] w fun e w'=>e=.returned (.int .i64 (zdn ⟨pr,ts⟩:Nat))/\Below w.heap.size w w':=by
 obtain⟨ao,cap,rfl⟩:=h.shape
 have hl:=h.len
 have HE:Hid (zdn ⟨pr,ts⟩=ts.foldl zg9 0):=z2l _
 go_enter Tryz.func222,Tryz.ntmps222
 go_wp2
 go_loopw [3,9] (fun v3 v9 wr=>∃ k:Nat,k<=ts.length/\v9=.int .i64 k/\v3=.int .i64 ((ts.take k).foldl zg9 0:Nat)/\Below w.heap.size w wr) (fun _ i _=>ts.length - (intOf i).toNat)
 case atStart=>exact⟨0,uaj _,rfl,rfl,(by go_grown)⟩
 case round =>
  obtain⟨k,hk,rfl,rfl,hbk⟩:=hrel
  have hszk:=hbk.size
  by_cases hlt:k < ts.length
  ·obtain⟨g,rfl,hg,h0,h1,h2⟩:=h.cell k hlt
   have hx0:=(hbk.cell (p:=⟨g,k * 3,none⟩) hg).trans h0
   have hx1:=(hbk.cell (p:=⟨g,k * 3+1,none⟩) hg).trans h1
   have hx2:=(hbk.cell (p:=⟨g,k * 3+2,none⟩) hg).trans h2
   have hgr:g < wr.heap.size:=by omega
   have hnn:=(h.num _ (uad hlt)).1
   clear h0 h1 h2
   have HS:Hid ((ts.take (k+1)).foldl zg9 0=zg9 ((ts.take k).foldl zg9 0) ts[k]):=zdm ts zg9 0 k hlt
   generalize ts[k]=t at *
   generalize (ts.take k).foldl zg9 0=kn at *
   cases hv:t.var with
   |false =>
    have HS2:Hid ((ts.take (k+1)).foldl zg9 0=kn):=by rw[Hid,HS.out];simp[zg9,hv]
    rw[hv] at hx0
    clear hv HS
    go_wp2
    go_roundw
    case rel=>exact⟨k+1,by omega,by go_num,by rw[HS2.out],hbk.alloc hszk _⟩
    case measure=>simp[intOf];omega
   |true =>
    by_cases hn:t.num ≥ kn
    ·have HS2:Hid ((ts.take (k+1)).foldl zg9 0=t.num+1):=by rw[Hid,HS.out];simp[zg9,hv,hn]
     rw[hv] at hx0
     clear hv HS
     go_wp2
     go_roundw
     case rel=>exact⟨k+1,by omega,by go_num,by rw[HS2.out];go_num,hbk.alloc hszk _⟩
     case measure=>simp[intOf];omega
    ·have HS2:Hid ((ts.take (k+1)).foldl zg9 0=kn):=by rw[Hid,HS.out];simp[zg9,hn]
     rw[hv] at hx0
     clear hv HS
     go_wp2
     go_roundw
     case rel=>exact⟨k+1,by omega,by go_num,by rw[HS2.out],hbk.alloc hszk _⟩
     case measure=>simp[intOf];omega
  ·rw[uam (by omega)]
   go_wp2
   go_ret
   exact⟨by rw[HE.out];rfl,hbk⟩
def zju(jd:Int)(k:Int)(t:zbn):Int:=if t.var && decide ((t.num:Int) < jd) && decide ((t.num:Int) > k) then(t.num:Int) else k
theorem z5y(l:zak)(jd:Int):zij l jd=l.qf.foldl (zju jd) (-1):=rfl
theorem zxu(w:World)(v:Value)(pr:Nat)(kn:Int)(ts:List zbn)(h:zaq lo w v ts) :
  Calls Tryz.prog 225 #[.agg #[.int .i64 pr,v],.int .i64 kn] w fun e w'=>e=.returned (.int .i64 (zij ⟨pr,ts⟩ kn))/\Below w.heap.size w w':=by
 obtain⟨ao,cap,rfl⟩:=h.shape
 have hl:=h.len
 have HE:Hid (zij ⟨pr,ts⟩ kn=ts.foldl (zju kn) (-1)):=z5y _ _
 go_enter Tryz.func225,Tryz.ntmps225
 go_wp2
 go_loopw [5,11] (fun v5 v11 wr=>∃ k:Nat,k<=ts.length/\v11=.int .i64 k/\v5=.int .i64 ((ts.take k).foldl (zju kn) (-1))/\Below w.heap.size w wr) (fun _ i _=>ts.length - (intOf i).toNat)
 case atStart=>exact⟨0,uaj _,rfl,rfl,(by go_grown)⟩
 case round =>
  obtain⟨k,hk,rfl,rfl,hbk⟩:=hrel
  have hszk:=hbk.size
  by_cases hlt:k < ts.length
  ·obtain⟨g,rfl,hg,h0,h1,h2⟩:=h.cell k hlt
   have hx0:=(hbk.cell (p:=⟨g,k * 3,none⟩) hg).trans h0
   have hx1:=(hbk.cell (p:=⟨g,k * 3+1,none⟩) hg).trans h1
   have hx2:=(hbk.cell (p:=⟨g,k * 3+2,none⟩) hg).trans h2
   have hgr:g < wr.heap.size:=by omega
   have hnn:=(h.num _ (uad hlt)).1
   clear h0 h1 h2
   have HS:Hid ((ts.take (k+1)).foldl (zju kn) (-1)=zju kn ((ts.take k).foldl (zju kn) (-1)) ts[k]):=zdm ts (zju kn) (-1) k hlt
   generalize ts[k]=t at *
   generalize (ts.take k).foldl (zju kn) (-1)=la at *
   cases hv:t.var with
   |false =>
    have HS2:Hid ((ts.take (k+1)).foldl (zju kn) (-1)=la):=by rw[Hid,HS.out];simp[zju,hv]
    rw[hv] at hx0
    clear hv HS
    go_wp2
    go_roundw
    case rel=>exact⟨k+1,by omega,by go_num,by rw[HS2.out],hbk.alloc hszk _⟩
    case measure=>simp[intOf];omega
   |true =>
    by_cases hn:(t.num:Int) < kn
    ·by_cases hm:(t.num:Int) > la
     ·have HS2:Hid ((ts.take (k+1)).foldl (zju kn) (-1)=(t.num:Int)):=by rw[Hid,HS.out];simp[zju,hv,hn,hm]
      rw[hv] at hx0
      clear hv HS
      go_wp2
      go_roundw
      case rel=>exact⟨k+1,by omega,by go_num,by rw[HS2.out],hbk.alloc hszk _⟩
      case measure=>simp[intOf];omega
     ·have HS2:Hid ((ts.take (k+1)).foldl (zju kn) (-1)=la):=by rw[Hid,HS.out];simp[zju,hm]
      rw[hv] at hx0
      clear hv HS
      go_wp2
      go_roundw
      case rel=>exact⟨k+1,by omega,by go_num,by rw[HS2.out],hbk.alloc hszk _⟩
      case measure=>simp[intOf];omega
    ·have HS2:Hid ((ts.take (k+1)).foldl (zju kn) (-1)=la):=by rw[Hid,HS.out];simp[zju,hn]
     rw[hv] at hx0
     clear hv HS
     go_wp2
     go_roundw
     case rel=>exact⟨k+1,by omega,by go_num,by rw[HS2.out],hbk.alloc hszk _⟩
     case measure=>simp[intOf];omega
  ·rw[uam (by omega)]
   go_wp2
   go_ret
   exact⟨by rw[HE.out];rfl,hbk⟩
theorem zyj(w:World)(v:Value)(pr:Nat)(kn:Int)(ts:List zbn)(h:zaq lo w v ts) :
  Calls Tryz.prog 226 #[.agg #[.int .i64 pr,v],.int .i64 kn] w fun e w'=>e=.returned (.int .i64 (zh0 ⟨pr,ts⟩ kn))/\Below w.heap.size w w':=by
 have HK:Hid (∀ W,Below w.heap.size w W->Calls Tryz.prog 222 #[.agg #[.int .i64 pr,v]] W fun e w'=>e=.returned (.int .i64 (zdn ⟨pr,ts⟩:Nat))/\Below W.heap.size W w'):=fun W hW=>zts W v pr ts (h.below hW)
 have HL:Hid (∀ W,Below w.heap.size w W->Calls Tryz.prog 225 #[.agg #[.int .i64 pr,v],.int .i64 kn] W fun e w'=>e=.returned (.int .i64 (zij ⟨pr,ts⟩ kn))/\Below W.heap.size W w'):=fun W hW=>zxu W v pr kn ts (h.below hW)
 clear h
 have HE:Hid (zh0 ⟨pr,ts⟩ kn=if (zdn ⟨pr,ts⟩:Int)<=kn then -1 else zij ⟨pr,ts⟩ kn):=rfl
 generalize zdn ⟨pr,ts⟩=kk at *
 generalize zij ⟨pr,ts⟩ kn=ll at *
 by_cases hn:(kk:Int)<=kn
 ·rw[if_pos hn] at HE
  go_enter Tryz.func226,Tryz.ntmps226
  go_wp2_with (first|(go_at_call 222;refine(HK.out _ (by exact(by go_grown))).mono ?_;rintro e w1 ⟨rfl,hb1⟩;have hB1:Below w.heap.size w w1:=zae (by go_grown) hb1 (uaa _)))
  go_ret
  exact⟨by rw[HE.out];rfl,hB1⟩
 ·rw[if_neg hn] at HE
  go_enter Tryz.func226,Tryz.ntmps226
  go_wp2_with (first|(go_at_call 222;refine(HK.out _ (by exact(by go_grown))).mono ?_;rintro e w1 ⟨rfl,hb1⟩;have hB1:Below w.heap.size w w1:=zae (by go_grown) hb1 (uaa _);have hbx:=(Box.new w #[.int .i64 pr,v] 204).below hb1;obtain⟨hc,hf⟩:=hbx.rules;have hl:=hbx.lt)|(go_at_call 225;refine(HL.out _ hB1).mono ?_;rintro e w2 ⟨rfl,hb2⟩))
  go_ret
  exact⟨by rw[HE.out];rfl,zae hB1 hb2 (uaa _)⟩
set_option maxHeartbeats 4000000
theorem zx2(a b:Nat):((a:Int) == (b:Int))=(a == b):=by
 by_cases h:a=b
 ·subst h;rw[beq_self_eq_true,beq_self_eq_true]
 ·rw[beq_eq_false_iff_ne.2 (by omega:(a:Int)≠(b:Int)),beq_eq_false_iff_ne.2 h]
def zr6(t:zbn):Value:=.agg #[.bool t.var,.int .i64 (t.num:Nat),.int .i64 (t.level:Nat)]
def row3(x y z:Nat):Value:=.agg #[.int .i64 (x:Nat),.int .i64 (y:Nat),.int .i64 (z:Nat)]
def z4j(a b c d e:Nat):Value:=.agg #[.int .i64 (a:Nat),.int .i64 (b:Nat),.int .i64 (c:Nat),.int .i64 (d:Nat),.int .i64 (e:Nat)]
theorem zvn(w:World)(t:zbn)(a b c d e:Nat) :
  Calls Tryz.prog 188 #[zr6 t,z4j a b c d e] w fun r w'=>r=.returned (.int .i64 (atT t [a,b,c,d,e]:Nat))/\Below w.heap.size w w':=by
 obtain⟨vr,n,lv⟩:=t
 unfold zr6 z4j
 simp only
 cases vr with
 |false =>
  have HE:Hid (atT ⟨false,n,lv⟩ [a,b,c,d,e]=n):=rfl
  go_enter Tryz.func188,Tryz.ntmps188
  go_wp2
  go_ret
  exact⟨by rw[HE.out];rfl,(by go_grown)⟩
 |true =>
  by_cases h5:n < 5
  ·have HE:Hid (atT ⟨true,n,lv⟩ [a,b,c,d,e]=[a,b,c,d,e].getD n 0):=by simp[Hid,atT,h5]
   obtain rfl|rfl|rfl|rfl|rfl:n=0∨n=1∨n=2∨n=3∨n=4:=by omega
   all_goals
    go_enter Tryz.func188,Tryz.ntmps188
    go_wp2
    go_ret
    exact⟨by rw[HE.out];rfl,(by go_grown)⟩
  ·have HE:Hid (atT ⟨true,n,lv⟩ [a,b,c,d,e]=n):=by simp[Hid,atT,h5]
   go_enter Tryz.func188,Tryz.ntmps188
   go_wp2
   go_ret
   exact⟨by rw[HE.out];rfl,(by go_grown)⟩
theorem zha(w:World)(t:zbn) :
  Calls Tryz.prog 218 #[zr6 t] w fun r w'=>r=.returned (.bool (leveled t))/\Below w.heap.size w w':=by
 obtain⟨vr,n,lv⟩:=t
 unfold zr6
 simp only
 cases vr with
 |false =>
  have HE:Hid (leveled ⟨false,n,lv⟩=false):=rfl
  go_enter Tryz.func218,Tryz.ntmps218
  go_wp2
  go_ret
  exact⟨by rw[HE.out];rfl,(by go_grown)⟩
 |true =>
  by_cases h3:lv < 3
  ·have HE:Hid (leveled ⟨true,n,lv⟩=true):=by simp[Hid,leveled,h3]
   go_enter Tryz.func218,Tryz.ntmps218
   go_wp2
   go_ret
   exact⟨by rw[HE.out];simp;omega,(by go_grown)⟩
  ·have HE:Hid (leveled ⟨true,n,lv⟩=false):=by simp[Hid,leveled,h3]
   go_enter Tryz.func218,Tryz.ntmps218
   go_wp2
   go_ret
   exact⟨by rw[HE.out];simp;omega,(by go_grown)⟩
theorem zj8(w:World)(t:zbn)(v x y z:Nat) :
  Calls Tryz.prog 219 #[zr6 t,.int .i64 v,row3 x y z] w fun r w'=>r=.returned (.bool (zea t v [x,y,z]))/\Below w.heap.size w w':=by
 have HL:Hid (∀ W,Calls Tryz.prog 218 #[zr6 t] W fun r w'=>r=.returned (.bool (leveled t))/\Below W.heap.size W w'):=fun W=>zha W t
 have HA:Hid (zea t v [x,y,z]=if leveled t then [x,y,z].getD t.level 0 == v else t.num == v):=rfl
 have hlv:leveled t=true->t.level < 3:=by simp[leveled]
 generalize leveled t=lb at *
 obtain⟨vr,n,lv⟩:=t
 unfold zr6 at HL ⊢
 unfold row3
 simp only at HL hlv HA ⊢
 cases lb with
 |false =>
  go_enter Tryz.func219,Tryz.ntmps219
  go_wp2_with (first|(go_at_call 218;refine(HL.out _).mono ?_;rintro r w1 ⟨rfl,hb1⟩;have hB1:Below w.heap.size w w1:=zae (by go_grown) hb1 (uaa _);have hbx:=((Box.new w #[.bool vr,.int .i64 (n:Nat),.int .i64 (lv:Nat)] 284).below ((Below.refl _ _).alloc (uaa _) (.cells #[.int .i64 (x:Nat),.int .i64 (y:Nat),.int .i64 (z:Nat)] 165))).below hb1;obtain⟨hc,hf⟩:=hbx.rules;have hl:=hbx.lt))
  go_ret
  exact⟨by rw[HA.out];simp[zx2],hB1⟩
 |true =>
  have hl3:=hlv rfl
  clear hlv
  obtain rfl|rfl|rfl:lv=0∨lv=1∨lv=2:=by omega
  all_goals
   go_enter Tryz.func219,Tryz.ntmps219
   go_wp2_with (first|(go_at_call 218;refine(HL.out _).mono ?_;rintro r w1 ⟨rfl,hb1⟩;have hB1:Below w.heap.size w w1:=zae (by go_grown) hb1 (uaa _);have hbx:=((Box.new w #[.bool vr,.int .i64 (n:Nat),.int .i64 _] 284).below ((Below.refl _ _).alloc (uaa _) (.cells #[.int .i64 (x:Nat),.int .i64 (y:Nat),.int .i64 (z:Nat)] 165))).below hb1;obtain⟨hc,hf⟩:=hbx.rules;have hl:=hbx.lt;have hbr:=(Box.newAt (w.alloc (.cells #[.bool vr,.int .i64 (n:Nat),.int .i64 _] 284)) (w.heap.size+1) #[.int .i64 (x:Nat),.int .i64 (y:Nat),.int .i64 (z:Nat)] 165 (by simp)).below hb1;obtain⟨hrc,hrf⟩:=hbr.rules;have hrl:=hbr.lt))
   go_ret
   exact⟨by rw[HA.out];simp[zx2],hB1⟩
def zmw(l:zak)(vals:List Nat):Nat->Array Value
 |0=>#[.int .i64 0,.int .i64 0,.int .i64 0]
 |1=>#[.int .i64 ((rowCell l vals 0:Nat):Int),.int .i64 0,.int .i64 0]
 |2=>#[.int .i64 ((rowCell l vals 0:Nat):Int),.int .i64 ((rowCell l vals 1:Nat):Int),.int .i64 0]
 |_=>#[.int .i64 ((rowCell l vals 0:Nat):Int),.int .i64 ((rowCell l vals 1:Nat):Int),.int .i64 ((rowCell l vals 2:Nat):Int)]
theorem zwp(w:World)(v:Value)(pr:Nat)(ts:List zbn)(a b c d e:Nat)(h:zaq lo w v ts) :
  Calls Tryz.prog 161 #[.agg #[.int .i64 pr,v],z4j a b c d e] w fun r w'=>r=.returned (.agg #[.int .i64 ((rowCell ⟨pr,ts⟩ [a,b,c,d,e] 0:Nat):Int),.int .i64 ((rowCell ⟨pr,ts⟩ [a,b,c,d,e] 1:Nat):Int),.int .i64 ((rowCell ⟨pr,ts⟩ [a,b,c,d,e] 2:Nat):Int)])/\Below w.heap.size w w':=by
 obtain⟨ao,cap,rfl⟩:=h.shape
 have hl:=h.len
 unfold z4j
 go_enter Tryz.func161,Tryz.ntmps161
 go_wp2
 go_loopw [7] (fun v7 wr=>∃ k:Nat,k<=3/\v7=.int .i64 k/\Box wr w.heap.size #[.int .i64 pr,.slice ao ts.length cap] 204/\Box wr (w.heap.size+1) #[.int .i64 (a:Nat),.int .i64 (b:Nat),.int .i64 (c:Nat),.int .i64 (d:Nat),.int .i64 (e:Nat)] 262/\Box wr (w.heap.size+2) #[.int .i64 0,.int .i64 0,.int .i64 0] 165/\Box wr (w.heap.size+3) (zmw ⟨pr,ts⟩ [a,b,c,d,e] k) 165/\Below w.heap.size w wr) (fun i _=>3 - (intOf i).toNat)
 case atStart=>exact⟨0,by omega,rfl,(((Box.new w _ _).below ((Below.refl _ _).alloc (uaa _) _)).below ((Below.refl _ _).alloc (uaa _) _)).below ((Below.refl _ _).alloc (uaa _) _),((Box.newAt _ _ _ _ (by simp)).below ((Below.refl _ _).alloc (uaa _) _)).below ((Below.refl _ _).alloc (uaa _) _),(Box.newAt _ _ _ _ (by simp)).below ((Below.refl _ _).alloc (uaa _) _),Box.newAt _ _ _ _ (by simp),(by go_grown)⟩
 case round =>
  obtain⟨k,hk,rfl,hlb,hvb,hr0,hrb,hbk⟩:=hrel
  obtain⟨hlc,hlf⟩:=hlb.rules
  have hll:=hlb.lt
  obtain⟨hvc,hvf⟩:=hvb.rules
  have hvl:=hvb.lt
  have hszk:=hbk.size
  match k,hk with
  |0,_ =>
   have hrow:Box wr (w.heap.size+3) #[.int .i64 0,.int .i64 0,.int .i64 0] 165:=hrb
   obtain⟨hqc,hqf⟩:=hrow.rules
   have hql:=hrow.lt
   by_cases hlt:0 < ts.length
   ·obtain⟨g,hao,hg,h0,h1,h2⟩:=h.cell 0 hlt
    subst hao
    have hx0:=(hbk.cell (p:=⟨g,0 * 3,none⟩) hg).trans h0
    have hx1:=(hbk.cell (p:=⟨g,0 * 3+1,none⟩) hg).trans h1
    have hx2:=(hbk.cell (p:=⟨g,0 * 3+2,none⟩) hg).trans h2
    simp only[Nat.reduceMul,Nat.reduceAdd] at hx0 hx1 hx2
    have hgr:g < wr.heap.size:=by omega
    have HE:Hid (rowCell ⟨pr,ts⟩ [a,b,c,d,e] 0=atT ts[0] [a,b,c,d,e]):=by simp[Hid,rowCell,hlt,List.getD_eq_getElem?_getD]
    have HAT:Hid (∀ W,Calls Tryz.prog 188 #[.agg #[.bool ts[0].var,.int .i64 (ts[0].num:Nat),.int .i64 (ts[0].level:Nat)],.agg #[.int .i64 (a:Nat),.int .i64 (b:Nat),.int .i64 (c:Nat),.int .i64 (d:Nat),.int .i64 (e:Nat)]] W fun r w'=>r=.returned (.int .i64 ((rowCell ⟨pr,ts⟩ [a,b,c,d,e] 0:Nat):Int))/\Below W.heap.size W w'):=fun W=>by rw[HE.out];exact zvn W ts[0] a b c d e
    clear h0 h1 h2 HE
    generalize ts[0]=t at *
    obtain⟨rc,hrc⟩:∃ rc,rc=rowCell ⟨pr,ts⟩ [a,b,c,d,e] 0:=⟨_,rfl⟩
    rw[← hrc] at HAT
    have HRC:Hid (rowCell ⟨pr,ts⟩ [a,b,c,d,e] 0=rc):=hrc.symm
    clear hrc
    go_wp2
    go_region_with (go_at_call 188;refine(HAT.out _).mono ?_;rintro r w2 ⟨rfl,hb2⟩;have hB2:Below wr.heap.size wr w2:=(zae (by go_grown) hb2 (uaa _));have hrow2:=hrow.below hB2;obtain⟨hqc2,hqf2⟩:=hrow2.rules;have hql2:=hrow2.lt)
    all_goals
     have hset:=hrow2.set 0 (.int .i64 (rc:Nat))
     simp at hset
     have hl2:=(hlb.below hB2).set_ne (show w.heap.size≠w.heap.size+3 from by omega) 0 (.int .i64 (rc:Nat))
     have hv2:=(hvb.below hB2).set_ne (show w.heap.size+1≠w.heap.size+3 from by omega) 0 (.int .i64 (rc:Nat))
     have h02:=(hr0.below hB2).set_ne (show w.heap.size+2≠w.heap.size+3 from by omega) 0 (.int .i64 (rc:Nat))
     have hB3:=(zae hbk hB2 (uaa _)).setCell (p:=⟨w.heap.size+3,0,none⟩) (by simp) (.int .i64 (rc:Nat))
     go_wp2
     go_roundw
     case rel=>exact⟨1,by omega,rfl,hl2,hv2,h02,(by simp only[zmw,HRC.out];exact hset),hB3⟩
     case measure=>simp[intOf]
   ·have HE:Hid (rowCell ⟨pr,ts⟩ [a,b,c,d,e] 0=0):=by simp[Hid,rowCell,hlt]
    have hlt2:ts.length<=0:=by omega
    go_wp2
    go_roundw
    case rel=>exact⟨1,by omega,rfl,hlb,hvb,hr0,(by have q:=hrow;simp only[zmw,HE.out];exact q),hbk⟩
    case measure=>simp[intOf]
  |1,_ =>
   have hrow:Box wr (w.heap.size+3) #[.int .i64 ((rowCell ⟨pr,ts⟩ [a,b,c,d,e] 0:Nat):Int),.int .i64 0,.int .i64 0] 165:=hrb
   obtain⟨hqc,hqf⟩:=hrow.rules
   have hql:=hrow.lt
   by_cases hlt:1 < ts.length
   ·obtain⟨g,hao,hg,h0,h1,h2⟩:=h.cell 1 hlt
    subst hao
    have hx0:=(hbk.cell (p:=⟨g,1 * 3,none⟩) hg).trans h0
    have hx1:=(hbk.cell (p:=⟨g,1 * 3+1,none⟩) hg).trans h1
    have hx2:=(hbk.cell (p:=⟨g,1 * 3+2,none⟩) hg).trans h2
    simp only[Nat.reduceMul,Nat.reduceAdd] at hx0 hx1 hx2
    have hgr:g < wr.heap.size:=by omega
    have HE:Hid (rowCell ⟨pr,ts⟩ [a,b,c,d,e] 1=atT ts[1] [a,b,c,d,e]):=by simp[Hid,rowCell,hlt,List.getD_eq_getElem?_getD]
    have HAT:Hid (∀ W,Calls Tryz.prog 188 #[.agg #[.bool ts[1].var,.int .i64 (ts[1].num:Nat),.int .i64 (ts[1].level:Nat)],.agg #[.int .i64 (a:Nat),.int .i64 (b:Nat),.int .i64 (c:Nat),.int .i64 (d:Nat),.int .i64 (e:Nat)]] W fun r w'=>r=.returned (.int .i64 ((rowCell ⟨pr,ts⟩ [a,b,c,d,e] 1:Nat):Int))/\Below W.heap.size W w'):=fun W=>by rw[HE.out];exact zvn W ts[1] a b c d e
    clear h0 h1 h2 HE
    generalize ts[1]=t at *
    obtain⟨rc,hrc⟩:∃ rc,rc=rowCell ⟨pr,ts⟩ [a,b,c,d,e] 1:=⟨_,rfl⟩
    rw[← hrc] at HAT
    have HRC:Hid (rowCell ⟨pr,ts⟩ [a,b,c,d,e] 1=rc):=hrc.symm
    clear hrc
    go_wp2
    go_region_with (go_at_call 188;refine(HAT.out _).mono ?_;rintro r w2 ⟨rfl,hb2⟩;have hB2:Below wr.heap.size wr w2:=(zae (by go_grown) hb2 (uaa _));have hrow2:=hrow.below hB2;obtain⟨hqc2,hqf2⟩:=hrow2.rules;have hql2:=hrow2.lt)
    all_goals
     have hset:=hrow2.set 1 (.int .i64 (rc:Nat))
     simp at hset
     have hl2:=(hlb.below hB2).set_ne (show w.heap.size≠w.heap.size+3 from by omega) 1 (.int .i64 (rc:Nat))
     have hv2:=(hvb.below hB2).set_ne (show w.heap.size+1≠w.heap.size+3 from by omega) 1 (.int .i64 (rc:Nat))
     have h02:=(hr0.below hB2).set_ne (show w.heap.size+2≠w.heap.size+3 from by omega) 1 (.int .i64 (rc:Nat))
     have hB3:=(zae hbk hB2 (uaa _)).setCell (p:=⟨w.heap.size+3,1,none⟩) (by simp) (.int .i64 (rc:Nat))
     go_wp2
     go_roundw
     case rel=>exact⟨2,by omega,rfl,hl2,hv2,h02,(by simp only[zmw,HRC.out];exact hset),hB3⟩
     case measure=>simp[intOf]
   ·have HE:Hid (rowCell ⟨pr,ts⟩ [a,b,c,d,e] 1=0):=by simp[Hid,rowCell,hlt]
    have hlt2:ts.length<=1:=by omega
    go_wp2
    go_roundw
    case rel=>exact⟨2,by omega,rfl,hlb,hvb,hr0,(by have q:=hrow;simp only[zmw,HE.out];exact q),hbk⟩
    case measure=>simp[intOf]
  |2,_ =>
   have hrow:Box wr (w.heap.size+3) #[.int .i64 ((rowCell ⟨pr,ts⟩ [a,b,c,d,e] 0:Nat):Int),.int .i64 ((rowCell ⟨pr,ts⟩ [a,b,c,d,e] 1:Nat):Int),.int .i64 0] 165:=hrb
   obtain⟨hqc,hqf⟩:=hrow.rules
   have hql:=hrow.lt
   by_cases hlt:2 < ts.length
   ·obtain⟨g,hao,hg,h0,h1,h2⟩:=h.cell 2 hlt
    subst hao
    have hx0:=(hbk.cell (p:=⟨g,2 * 3,none⟩) hg).trans h0
    have hx1:=(hbk.cell (p:=⟨g,2 * 3+1,none⟩) hg).trans h1
    have hx2:=(hbk.cell (p:=⟨g,2 * 3+2,none⟩) hg).trans h2
    simp only[Nat.reduceMul,Nat.reduceAdd] at hx0 hx1 hx2
    have hgr:g < wr.heap.size:=by omega
    have HE:Hid (rowCell ⟨pr,ts⟩ [a,b,c,d,e] 2=atT ts[2] [a,b,c,d,e]):=by simp[Hid,rowCell,hlt,List.getD_eq_getElem?_getD]
    have HAT:Hid (∀ W,Calls Tryz.prog 188 #[.agg #[.bool ts[2].var,.int .i64 (ts[2].num:Nat),.int .i64 (ts[2].level:Nat)],.agg #[.int .i64 (a:Nat),.int .i64 (b:Nat),.int .i64 (c:Nat),.int .i64 (d:Nat),.int .i64 (e:Nat)]] W fun r w'=>r=.returned (.int .i64 ((rowCell ⟨pr,ts⟩ [a,b,c,d,e] 2:Nat):Int))/\Below W.heap.size W w'):=fun W=>by rw[HE.out];exact zvn W ts[2] a b c d e
    clear h0 h1 h2 HE
    generalize ts[2]=t at *
    obtain⟨rc,hrc⟩:∃ rc,rc=rowCell ⟨pr,ts⟩ [a,b,c,d,e] 2:=⟨_,rfl⟩
    rw[← hrc] at HAT
    have HRC:Hid (rowCell ⟨pr,ts⟩ [a,b,c,d,e] 2=rc):=hrc.symm
    clear hrc
    go_wp2
    go_region_with (go_at_call 188;refine(HAT.out _).mono ?_;rintro r w2 ⟨rfl,hb2⟩;have hB2:Below wr.heap.size wr w2:=(zae (by go_grown) hb2 (uaa _));have hrow2:=hrow.below hB2;obtain⟨hqc2,hqf2⟩:=hrow2.rules;have hql2:=hrow2.lt)
    all_goals
     have hset:=hrow2.set 2 (.int .i64 (rc:Nat))
     simp at hset
     have hl2:=(hlb.below hB2).set_ne (show w.heap.size≠w.heap.size+3 from by omega) 2 (.int .i64 (rc:Nat))
     have hv2:=(hvb.below hB2).set_ne (show w.heap.size+1≠w.heap.size+3 from by omega) 2 (.int .i64 (rc:Nat))
     have h02:=(hr0.below hB2).set_ne (show w.heap.size+2≠w.heap.size+3 from by omega) 2 (.int .i64 (rc:Nat))
     have hB3:=(zae hbk hB2 (uaa _)).setCell (p:=⟨w.heap.size+3,2,none⟩) (by simp) (.int .i64 (rc:Nat))
     go_wp2
     go_roundw
     case rel=>exact⟨3,by omega,rfl,hl2,hv2,h02,(by simp only[zmw,HRC.out];exact hset),hB3⟩
     case measure=>simp[intOf]
   ·have HE:Hid (rowCell ⟨pr,ts⟩ [a,b,c,d,e] 2=0):=by simp[Hid,rowCell,hlt]
    have hlt2:ts.length<=2:=by omega
    go_wp2
    go_roundw
    case rel=>exact⟨3,by omega,rfl,hlb,hvb,hr0,(by have q:=hrow;simp only[zmw,HE.out];exact q),hbk⟩
    case measure=>simp[intOf]
  |3,_ =>
   simp only[zmw] at hrb
   obtain⟨hqc,hqf⟩:=hrb.rules
   have hql:=hrb.lt
   obtain⟨hzc,hzf⟩:=hr0.rules
   have hzl:=hr0.lt
   go_wp2
   exact bodyPost_ret (v:=.agg #[.int .i64 ((rowCell ⟨pr,ts⟩ [a,b,c,d,e] 0:Nat):Int),.int .i64 ((rowCell ⟨pr,ts⟩ [a,b,c,d,e] 1:Nat):Int),.int .i64 ((rowCell ⟨pr,ts⟩ [a,b,c,d,e] 2:Nat):Int)]) (by simp[results,Tryz.results161,go_sem,hzc]) rfl ⟨rfl,((hbk.setCell (p:=⟨w.heap.size+2,0,none⟩) (by simp) _).setCell (p:=⟨w.heap.size+2,1,none⟩) (by simp) _).setCell (p:=⟨w.heap.size+2,2,none⟩) (by simp) _⟩
end Go.Proofs.YteampbddflhngaaGreat
