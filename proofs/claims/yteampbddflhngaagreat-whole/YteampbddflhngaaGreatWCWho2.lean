import Derived.Test.YteampbddflhngaaGreatWCKeepI
import Derived.Test.YteampbddflhngaaGreatW09
import Derived.Laws.AppendOwnNone
import Derived.Test.YteampbddflhngaaGreatW08

namespace Go.Proofs.YteampbddflhngaaGreat
set_option maxRecDepth 100000
set_option maxHeartbeats 4000000
open Go.RowKit
variable {lo:Nat}{w:World}
section
variable {ops:Array Oper} {rest:List Oper} {o:Oper} {a:Act} {Q:Exit->Act->World->Prop}
theorem yao(hgd:o.guard=none)(s x:Operand)
  (ho:o.op=.call { callee:=.builtin .append,args:=#[s,x],argTypes:=#[30,30] })
  (src:List ByteArray) (v:Value) (hs:a.eval s=.slice none 0 0) (hx:a.eval x=v) (hS:SIn lo w v src) (hl:src.length<=1000000)
  (h:∀ v' w',SIn w.heap.size w' v' src->Below w.heap.size w w'->wpList Tryz.prog ops Q rest (a.put o.dst v') w') :
  wpList Tryz.prog ops Q (o::rest) a w:=by
 obtain⟨i0,hi,hz0,hzs,hzb⟩:=info_parts Tryz.infoString
 obtain⟨_,⟨hv,hn⟩|⟨g',cap',cur,hv,hg',hh,hc1,hc2,hc3,hxs⟩⟩:=hS
 ·have hn':src=[]:=List.eq_nil_of_length_eq_zero hn
  refine wpList_append_own_none hgd s x 30 ho w.heap.size 9 i0 1 Tryz.underlying30 hi _ 0 [] hs (World.ownsRow_nil _ _ _ _) (by rw[hx,hv]) ?_
  refine h _ _ ?_ (Below.refl _ _)
  rw[hn']
  exact World.ownsRow_nil _ _ _ _
 ·have hcl:∀ j u,(src.map Value.string)[j]?=some u->w.cell? (Addr.add ⟨g',0,none⟩ j)=some u:=fun j u hj=>by
   rw[Addr.add_lit,ubl]
   unfold World.cell?
   rw[hh]
   simp only
   rw[← hxs,ubq] at hj
   split at hj
   ·simpa using hj
   ·simp at hj
  refine wpList_append_own _ hgd s x 30 ho w.heap.size 9 i0 _ 1 16 Tryz.underlying30 hi hz0 hzs hzb rfl (by decide) _ 0 [] hs (World.ownsRow_nil _ _ _ _) ⟨g',0,none⟩ src.length cap' (src.map Value.string) (by rw[hx,hv]) (by simp) hcl (by simp[Value.oneCell']) (by unfold maxLen;omega) (by omega) (uaa _) ?_
  intro v' w2 ho2 hgr _
  refine h _ _ ?_ ((Below.refl _ _).grown hgr (uaa _) (fun k hk=>by cases hk))
  simpa [SIn] using ho2
end
theorem ych{b:Nat}{c:Array Value}{T:TypeId}(h:Box w b c T)(o:Obj):Box (w.alloc o) b c T:=h.below ((Below.refl _ _).alloc (uaa _) o)
structure CB (lo:Nat) (w:World) (cb:Nat) (B:z99) (v1 v2:Value):Prop where
 box:Box w cb #[v1,v2] 111
 fst:w.ownsRow lo 9 1 v1 B.length ((yak B).map Value.string)
 snd:w.ownsRow lo 9 1 v2 B.length ((yan B).map Value.string)
 ne:∀ b,v1.ownBlock=some b->v2.ownBlock≠some b
theorem ybv(B:z99):(yak B).length=B.length:=by simp[yak]
theorem ybw(B:z99):(yan B).length=B.length:=by simp[yan]
theorem CB.sf{cb:Nat}{B:z99}{v1 v2:Value}(h:CB lo w cb B v1 v2):SIn lo w v1 (yak B):=by unfold SIn;rw[ybv];exact h.fst
theorem CB.ss{cb:Nat}{B:z99}{v1 v2:Value}(h:CB lo w cb B v1 v2):SIn lo w v2 (yan B):=by unfold SIn;rw[ybw];exact h.snd
theorem CB.below{lo:Nat}{w w':World}{cb:Nat}{B:z99}{v1 v2:Value}(h:CB lo w cb B v1 v2)(hb:Below w.heap.size w w'):CB lo w' cb B v1 v2:=⟨h.box.below hb,zaa h.fst hb,zaa h.snd hb,h.ne⟩
theorem ybf(l:List UInt8):l.isEmpty=(l == []):=by cases l <;> rfl
theorem yb6{x:ByteArray}(h:x=ByteArray.empty):x.toList.isEmpty=true:=(ybf _).trans (by have:=zfm h;simpa using this)
theorem ybu{x:ByteArray}(h:x≠ByteArray.empty):x.toList.isEmpty=false:=(ybf _).trans (by have:=zei h;simpa using this)
theorem ycs{B:z99}{args row:List ByteArray}{k:Nat}(h1:k < args.length)(h2:k < row.length):yab B (args.drop k) (row.drop k)=if yag B args[k]=ByteArray.empty then yab (B++[(args[k],row[k])]) (args.drop (k+1)) (row.drop (k+1)) else if yag B args[k]=row[k] then yab B (args.drop (k+1)) (row.drop (k+1)) else none:=by
 rw[uah h1,uah h2]
 rfl
theorem yc2{lo2 lo3 lo4:Nat}(w:World)(vv lv av rv:Value)(B:z99)(args row:List ByteArray)(h1:SIn lo w vv (yak B))(h2:SIn lo2 w lv (yan B))(h3:SIn lo3 w av args)(h4:SIn lo4 w rv row)(hl:B.length<=100)(ha:args.length<=100)(hr:row.length=args.length)(hne:∀ a∈args,0 < a.size) :
  Calls Tryz.prog 90 #[.agg #[vv,lv],av,rv] w fun e w'=>∃(n1 c1:Nat) (o1:Option Addr) (n2 c2:Nat) (o2:Option Addr),e=.returned (.tuple #[.agg #[.slice o1 n1 c1,.slice o2 n2 c2],.bool (yab B args row).isSome])/\Hid (∀ B',yab B args row=some B'->SIn w.heap.size w' (.slice o1 n1 c1) (yak B')/\SIn w.heap.size w' (.slice o2 n2 c2) (yan B')/\B'.length<=B.length+args.length)/\Hid (Below w.heap.size w w'):=by
 obtain⟨i0,hi,hz0,hzs,hzb⟩:=info_parts Tryz.infoString
 have HSB:Hid (∀ W,Below w.heap.size w W->SIn lo W vv (yak B)/\SIn lo2 W lv (yan B)):=fun W hb=>⟨h1.below hb,h2.below hb⟩
 obtain⟨ao,cap,rfl⟩:=h3.shape
 obtain⟨aor,capr,rfl⟩:=h4.shape
 have HA:Hid (∀ W k (hk:k < args.length),Below w.heap.size w W->∃ g,ao=some ⟨g,0,none⟩/\g < W.heap.size/\W.cell? ⟨g,k,none⟩=some (.string args[k])):=fun W k hk hb=>(h3.below hb).cell k hk
 have HR:Hid (∀ W k (hk:k < row.length),Below w.heap.size w W->∃ g,aor=some ⟨g,0,none⟩/\g < W.heap.size/\W.cell? ⟨g,k,none⟩=some (.string row[k])):=fun W k hk hb=>(h4.below hb).cell k hk
 have e1:(yak B).length<=1000000:=by simp[yak];omega
 have e2:(yan B).length<=1000000:=by simp[yan];omega
 clear h1 h2 h3 h4
 go_enter Tryz.func90,Tryz.ntmps90
 go_upto_region 2 with fail
 have HB0:Hid (Below w.heap.size w (((w.alloc (.cells #[vv,lv] 111)).alloc (.cells #[.slice none 0 0,.slice none 0 0] 111)).alloc (.cells #[.slice none 0 0,.slice none 0 0] 111))):=(((Below.refl _ _).alloc (uaa _) _).alloc (by simp) _).alloc (by simp;omega) _
 have hx0:=ych (ych (Box.new w #[vv,lv] 111) (.cells #[.slice none 0 0,.slice none 0 0] 111)) (.cells #[.slice none 0 0,.slice none 0 0] 111)
 have hx1:=ych (Box.newAt (w.alloc (.cells #[vv,lv] 111)) (w.heap.size+1) #[.slice none 0 0,.slice none 0 0] 111 (by simp)) (.cells #[.slice none 0 0,.slice none 0 0] 111)
 have hx2:=Box.newAt ((w.alloc (.cells #[vv,lv] 111)).alloc (.cells #[.slice none 0 0,.slice none 0 0] 111)) (w.heap.size+1+1) #[.slice none 0 0,.slice none 0 0] 111 (by simp)
 have hzA:(((w.alloc (.cells #[vv,lv] 111)).alloc (.cells #[.slice none 0 0,.slice none 0 0] 111)).alloc (.cells #[.slice none 0 0,.slice none 0 0] 111)).heap.size=w.heap.size+1+1+1:=by simp
 generalize hwA:((w.alloc (.cells #[vv,lv] 111)).alloc (.cells #[.slice none 0 0,.slice none 0 0] 111)).alloc (.cells #[.slice none 0 0,.slice none 0 0] 111)=wA at *
 clear hwA
 obtain⟨c0,f0⟩:=hx0.rules
 obtain⟨c2,f2⟩:=hx2.rules
 go_upto_region 3 with (first|(at_builtin;refine yao rfl (.tmp 13) (.tmp 15) rfl (yak B) vv rfl rfl (HSB.out _ HB0.out).1 e1 ?_;intro v1 w1 hS1 hB1;have hy2:=hx2.below hB1;obtain⟨d2,g2⟩:=hy2.rules;have hl2:=hy2.lt;have hz1:=hB1.size;obtain⟨ao1,cap1,rfl⟩:=hS1.shape))
 have hl0:=hx0.lt
 have HY0:Hid (Box (w1.setCell ⟨w.heap.size+1+1,0,none⟩ (.slice ao1 (yak B).length cap1)) w.heap.size #[vv,lv] 111):=(hx0.below hB1).set_ne (by omega) 0 _
 have HY1:Hid (Box (w1.setCell ⟨w.heap.size+1+1,0,none⟩ (.slice ao1 (yak B).length cap1)) (w.heap.size+1) #[.slice none 0 0,.slice none 0 0] 111):=(hx1.below hB1).set_ne (by omega) 0 _
 have HY2:Hid (Box (w1.setCell ⟨w.heap.size+1+1,0,none⟩ (.slice ao1 (yak B).length cap1)) (w.heap.size+1+1) #[.slice ao1 (yak B).length cap1,.slice none 0 0] 111):=hy2.set 0 _
 have HBB:Hid (Below w.heap.size w (w1.setCell ⟨w.heap.size+1+1,0,none⟩ (.slice ao1 (yak B).length cap1))):=(zae HB0.out hB1 (by omega)).setCell (p:=⟨w.heap.size+1+1,0,none⟩) (by show w.heap.size<=w.heap.size+1+1;omega) _
 have HSC:Hid (SIn wA.heap.size (w1.setCell ⟨w.heap.size+1+1,0,none⟩ (.slice ao1 (yak B).length cap1)) (.slice ao1 (yak B).length cap1) (yak B)):=zbl hS1 (zas.set w1 (w.heap.size+1+1) 0 (.slice ao1 (yak B).length cap1)) (fun b hb hm=>by have:=zeg hS1 hb;simp at hm;omega)
 have hzB:w1.heap.size<=(w1.setCell ⟨w.heap.size+1+1,0,none⟩ (.slice ao1 (yak B).length cap1)).heap.size:=by simp[World.setCell]
 clear c0 f0 c2 f2 d2 g2 hl2 hy2 hx0 hx1 hx2 hB1 hS1 hl0
 generalize w1.setCell ⟨w.heap.size+1+1,0,none⟩ (.slice ao1 (yak B).length cap1)=wB at *
 obtain⟨c0,f0⟩:=HY0.out.rules
 obtain⟨c2,f2⟩:=HY2.out.rules
 have hl0:=HY0.out.lt
 have hl2:=HY2.out.lt
 go_upto_region 4 with (first|(at_builtin;refine yao rfl (.tmp 19) (.tmp 21) rfl (yan B) lv rfl rfl (HSB.out _ HBB.out).2 e2 ?_;intro v2 w2 hS2 hB2;have hy2:=HY2.out.below hB2;obtain⟨d2,g2⟩:=hy2.rules;have hl3:=hy2.lt;have hz2:=hB2.size;obtain⟨ao2,cap2,rfl⟩:=hS2.shape))
 have hL:∀ b,w.heap.size+1+1≠b->True:=fun _ _=>trivial
 have HC:Hid (CB w.heap.size (w2.setCell ⟨w.heap.size+1+1,1,none⟩ (.slice ao2 (yan B).length cap2)) (w.heap.size+1+1) B (.slice ao1 (yak B).length cap1) (.slice ao2 (yan B).length cap2)):=⟨hy2.set 1 _,by rw[← ybv B];exact zbl (zbf (zaa HSC.out hB2) (by omega)) (zas.set w2 (w.heap.size+1+1) 1 (.slice ao2 (yan B).length cap2)) (fun b hb hm=>by have:=zeg HSC.out hb;simp at hm;omega),by rw[← ybw B];exact zbl (zbf hS2 (by omega)) (zas.set w2 (w.heap.size+1+1) 1 (.slice ao2 (yan B).length cap2)) (fun b hb hm=>by have:=zeg hS2 hb;simp at hm;omega),fun b hb hm=>by have:=zdq HSC.out hb;have:=zeg hS2 hm;omega⟩
 have HZ1:Hid (Box (w2.setCell ⟨w.heap.size+1+1,1,none⟩ (.slice ao2 (yan B).length cap2)) (w.heap.size+1) #[.slice none 0 0,.slice none 0 0] 111):=(HY1.out.below hB2).set_ne (by omega) 1 _
 have HBC:Hid (Below w.heap.size w (w2.setCell ⟨w.heap.size+1+1,1,none⟩ (.slice ao2 (yan B).length cap2))):=(zae HBB.out hB2 (by omega)).setCell (p:=⟨w.heap.size+1+1,1,none⟩) (by show w.heap.size<=w.heap.size+1+1;omega) _
 clear c0 f0 c2 f2 d2 g2 hl0 hl2 hl3 hy2 hB2 hS2 HSC HY0 HY1 HY2 HBB hL hzB hz1 hz2 hzA HB0
 generalize w2.setCell ⟨w.heap.size+1+1,1,none⟩ (.slice ao2 (yan B).length cap2)=wC at *
 clear w1 w2 wA wB
 rw[ybv,ybw] at HC
 go_wp2
 go_loopw [9] (fun v9 wr=>∃(k:Nat) (Bk:z99) (ao7:Option Addr) (cap7:Nat) (ao8:Option Addr) (cap8:Nat),k<=args.length/\v9=.int .i64 k/\Hid (CB w.heap.size wr (w.heap.size+1+1) Bk (.slice ao7 Bk.length cap7) (.slice ao8 Bk.length cap8))/\Hid (yab B args row=yab Bk (args.drop k) (row.drop k))/\Bk.length<=B.length+k/\Hid (Box wr (w.heap.size+1) #[.slice none 0 0,.slice none 0 0] 111)/\Hid (Below w.heap.size w wr)) (fun v9 _=>args.length - (intOf v9).toNat)
 case atStart=>exact⟨0,B,ao1,cap1,ao2,cap2,uaj _,rfl,HC,rfl,uaa _,HZ1,HBC⟩
 case round =>
  clear HC HZ1 HBC e1 e2
  obtain⟨k,Bk,ao7,cap7,ao8,cap8,hk,rfl,HC,HW,hbl,HZ,HBw⟩:=hrel
  have hwz:=HBw.out.size
  have hbx:=HC.out.box
  obtain⟨hc,hf⟩:=hbx.rules
  have hlt:=hbx.lt
  obtain⟨hcz,hfz⟩:=HZ.out.rules
  have hltz:=HZ.out.lt
  by_cases hkl:k < args.length
  ·have hki:(k:Int) < (args.length:Int):=by omega
   have hkr:k < row.length:=by omega
   obtain⟨g,rfl,hg,hca⟩:=HA.out _ k hkl HBw.out
   obtain⟨gr,rfl,hgr,hcr⟩:=HR.out _ k hkr HBw.out
   have ht:=hne _ (uad hkl)
   have hwd:=ycs (B:=Bk) hkl hkr
   have HV:Hid (∀ W,Below wr.heap.size wr W->Calls Tryz.prog 134 #[.agg #[.slice ao7 Bk.length cap7,.slice ao8 Bk.length cap8],.string args[k]] W fun e w'=>e=.returned (.string (yag Bk args[k]))/\Hid (Below wr.heap.size wr w')/\w'.cell? ⟨g,k,none⟩=some (.string args[k])/\w'.cell? ⟨w.heap.size+1+1,0,none⟩=some (.slice ao7 Bk.length cap7)/\w'.cell? ⟨w.heap.size+1+1,1,none⟩=some (.slice ao8 Bk.length cap8)):=fun W hb=>by
    refine(ybp W _ _ Bk args[k] (HC.out.sf.below hb) (HC.out.ss.below hb) (by omega) ht).mono ?_
    rintro e w' ⟨q1,q2⟩
    have hb3:=zae hb q2.out (uaa _)
    have hb4:=hbx.below hb3
    exact⟨q1,hb3,(hb3.cell (p:=⟨g,k,none⟩) hg).trans hca,by rw[hb4.rules.1];rfl,by rw[hb4.rules.1];rfl⟩
   have HXC:Hid (∀ W,Below wr.heap.size wr W->W.cell? ⟨g,k,none⟩=some (.string args[k])/\g < W.heap.size/\W.cell? ⟨gr,k,none⟩=some (.string row[k])/\gr < W.heap.size):=fun W hb=>⟨(hb.cell (p:=⟨g,k,none⟩) hg).trans hca,ual hg hb.size,(hb.cell (p:=⟨gr,k,none⟩) hgr).trans hcr,ual hgr hb.size⟩
   have HXR:Hid (∀ W,Below w.heap.size w W->W.cell? ⟨gr,k,none⟩=some (.string row[k])/\gr < W.heap.size):=fun W hb=>by
    obtain⟨g',e,q1,q2⟩:=HR.out W k hkr hb
    cases e
    exact⟨q2,q1⟩
   have HD:Hid (yab B args row=if yag Bk args[k]=ByteArray.empty then yab (Bk++[(args[k],row[k])]) (args.drop (k+1)) (row.drop (k+1)) else if yag Bk args[k]=row[k] then yab Bk (args.drop (k+1)) (row.drop (k+1)) else none):=HW.out.trans hwd
   clear hwd HW ht hne hbx
   generalize yag Bk args[k]=x at *
   generalize args[k]=y at *
   generalize row[k]=z at *
   go_upto_region 7 with fail
   go_cut [10] from 30 to 35 (fun s10 wx=>s10=.string x/\Hid (Below wr.heap.size wr wx))
   case first =>
    go_region_held3 (fun w'=>w'.cell? ⟨g,k,none⟩=some (.string y)/\w'.cell? ⟨w.heap.size+1+1,0,none⟩=some (.slice ao7 Bk.length cap7)/\w'.cell? ⟨w.heap.size+1+1,1,none⟩=some (.slice ao8 Bk.length cap8)) (first|go_keep|(go_simp;done)) (first|(go_at_call 134;refine(HV.out _ (by exact(by repeat'(first|with_reducible(first|exact zR _ _|assumption|refine zN ?_ _|refine zA ?_ ?_ _|refine zD ?_|refine zS ?_ ?_ _)|go_size)))).mono ?_;rintro e w5 ⟨rfl,HB5,z0,z1,z2⟩))
    go_wp2
    go_meet
    case rel=>exact⟨rfl,HB5⟩
   case rest =>
    obtain⟨rfl,HBx⟩:=hcut
    have hszx:=HBx.out.size
    obtain⟨hca2,hg2,hcr2,hgr2⟩:=HXC.out _ HBx.out
    have HZx:Hid (Box wc (w.heap.size+1) #[.slice none 0 0,.slice none 0 0] 111):=HZ.out.below HBx.out
    have HBwx:Hid (Below w.heap.size w wc):=zae HBw.out HBx.out (by omega)
    have HCx:Hid (CB w.heap.size wc (w.heap.size+1+1) Bk (.slice ao7 Bk.length cap7) (.slice ao8 Bk.length cap8)):=HC.out.below HBx.out
    clear hc hf hca hcr hlt hcz hfz hltz HV HXC HC HZ HBw HBx
    obtain⟨hc,hf⟩:=HCx.out.box.rules
    have hlt:=HCx.out.box.lt
    obtain⟨hcz,hfz⟩:=HZx.out.rules
    have hltz:=HZx.out.lt
    by_cases hx:x=ByteArray.empty
    ·have hs:=yb6 hx
     have HD2:Hid (yab B args row=yab (Bk++[(y,z)]) (args.drop (k+1)) (row.drop (k+1))):=by rw[Hid,HD.out,if_pos hx]
     have hown1:=HCx.out.fst
     have hown2:=HCx.out.snd
     clear HD hx
     go_upto_region 9 with fail
     go_cut [10] from 38 to 46 (fun s10 wx=>∃ ao9 cap9,s10=.string x/\Hid (Box wx (w.heap.size+1+1) #[.slice ao9 (Bk.length+1) cap9,.slice ao8 Bk.length cap8] 111)/\Hid (wx.ownsRow w.heap.size 9 1 (.slice ao9 (Bk.length+1) cap9) (Bk.length+1) ((yak Bk).map Value.string++[.string y]))/\Hid (wx.ownsRow w.heap.size 9 1 (.slice ao8 Bk.length cap8) Bk.length ((yan Bk).map Value.string))/\Hid (∀ b,(Value.slice ao9 (Bk.length+1) cap9).ownBlock=some b->(Value.slice ao8 Bk.length cap8).ownBlock≠some b)/\Hid (Box wx (w.heap.size+1) #[.slice none 0 0,.slice none 0 0] 111)/\Hid (Below w.heap.size w wx))
     case first =>
      go_region_law (first|(refine zfz wc _ [.string y] 9 rfl (.tmp 39) (.tmp 44) 30 rfl w.heap.size 9 i0 _ 1 16 Tryz.underlying30 hi hz0 hzs hzb rfl (by decide) (.slice ao7 Bk.length cap7) Bk.length ((yak Bk).map Value.string) (by simp[Act.eval]) hown1 (by exact(by repeat'(first|with_reducible(first|exact zR _ _|assumption|refine zN ?_ _|refine zA ?_ ?_ _|refine zD ?_|refine zS ?_ ?_ _)|go_size))) wc.heap.size 1 (by simp[Act.eval]) (by exact Box.drew (Box.new _ _ _)) rfl (by simp[Value.oneCell']) (by omega) (by omega) (by omega) ?_;intro v' w2 ho3 hS2 hat2 hk2 hz2';obtain⟨ao9,cap9,rfl⟩:=zac ho3;have hb2:=HCx.out.box.save hS2 (zdu hown1 HCx.out.box (by decide));obtain⟨hc2,hf2⟩:=hb2.rules;have hl2:=hb2.lt))
      all_goals
       have hSv:=zbl hown2 hS2 (fun b hb hm=>HCx.out.ne b (zcy hm) hb)
       have hzx:=HZx.out.save hS2 (zdu hown1 HZx.out (by decide))
       have hbw:=hS2.below (B:=w.heap.size) (fun b hb=>zeg hown1 (zcy hb)) (by omega)
       have hne9:∀ b,(Value.slice ao9 (Bk.length+1) cap9).ownBlock=some b->(Value.slice ao8 Bk.length cap8).ownBlock≠some b:=fun b hb hq=>by
        rcases hat2 with q|⟨g9,q,q2⟩
        ·exact HCx.out.ne b (q ▸ hb) hq
        ·rw[hb] at q
         cases q
         have:=zdq hown2 hq
         omega
       have HR1:Hid (Box (w2.setCell ⟨w.heap.size+1+1,0,none⟩ (.slice ao9 (Bk.length+1) cap9)) (w.heap.size+1+1) #[.slice ao9 (Bk.length+1) cap9,.slice ao8 Bk.length cap8] 111):=hb2.set 0 _
       have HR2:Hid ((w2.setCell ⟨w.heap.size+1+1,0,none⟩ (.slice ao9 (Bk.length+1) cap9)).ownsRow w.heap.size 9 1 (.slice ao9 (Bk.length+1) cap9) (Bk.length+1) ((yak Bk).map Value.string++[.string y])):=zbl ho3 (zas.set _ _ _ _) (fun b hb hm=>zbr ho3 hb2 (by decide) hb (by simpa using hm))
       have HR3:Hid ((w2.setCell ⟨w.heap.size+1+1,0,none⟩ (.slice ao9 (Bk.length+1) cap9)).ownsRow w.heap.size 9 1 (.slice ao8 Bk.length cap8) Bk.length ((yan Bk).map Value.string)):=zbl hSv (zas.set _ _ _ _) (fun b hb hm=>zbr hSv hb2 (by decide) hb (by simpa using hm))
       have HR4:Hid (Box (w2.setCell ⟨w.heap.size+1+1,0,none⟩ (.slice ao9 (Bk.length+1) cap9)) (w.heap.size+1) #[.slice none 0 0,.slice none 0 0] 111):=hzx.set_ne (by omega) 0 _
       have HR5:Hid (Below w.heap.size w (w2.setCell ⟨w.heap.size+1+1,0,none⟩ (.slice ao9 (Bk.length+1) cap9))):=(HBwx.out.trans hbw).setCell (p:=⟨w.heap.size+1+1,0,none⟩) (by show w.heap.size<=w.heap.size+1+1;omega) _
       go_wp2
       go_meet
       case rel=>exact⟨ao9,cap9,rfl,HR1,HR2,HR3,hne9,HR4,HR5⟩
     case rest =>
      obtain⟨ao9,cap9,rfl,HR1,HR2,HR3,HR6,HR4,HR5⟩:=hcut
      clear hc hf hcz hfz hlt hltz hca2 hcr2 HZx HBwx HCx hown1 hown2 hg2 hgr2
      obtain⟨hcr2,hgr2⟩:=HXR.out _ HR5.out
      obtain⟨hc,hf⟩:=HR1.out.rules
      have hlt:=HR1.out.lt
      have hown2:=HR3.out
      go_upto_region 10 with fail
      go_region_law (first|(refine zfz wc _ [.string z] 9 rfl (.tmp 48) (.tmp 53) 30 rfl w.heap.size 9 i0 _ 1 16 Tryz.underlying30 hi hz0 hzs hzb rfl (by decide) (.slice ao8 Bk.length cap8) Bk.length ((yan Bk).map Value.string) (by simp[Act.eval]) hown2 (by exact(by repeat'(first|with_reducible(first|exact zR _ _|assumption|refine zN ?_ _|refine zA ?_ ?_ _|refine zD ?_|refine zS ?_ ?_ _)|go_size))) wc.heap.size 1 (by simp[Act.eval]) (by exact Box.drew (Box.new _ _ _)) rfl (by simp[Value.oneCell']) (by omega) (by omega) (by omega) ?_;intro v' w2 ho3 hS2 hat2 hk2 hz2';obtain⟨ao6,cap6,rfl⟩:=zac ho3;have hb2:=HR1.out.save hS2 (zdu hown2 HR1.out (by decide));obtain⟨hc2,hf2⟩:=hb2.rules;have hl2:=hb2.lt))
      all_goals
       have hSv:=zbl HR2.out hS2 (fun b hb hm=>HR6.out b hb (zcy hm))
       have hzx:=HR4.out.save hS2 (zdu hown2 HR4.out (by decide))
       have hbw:=hS2.below (B:=w.heap.size) (fun b hb=>zeg hown2 (zcy hb)) (by omega)
       have hne9:∀ b,(Value.slice ao9 (Bk.length+1) cap9).ownBlock=some b->(Value.slice ao6 (Bk.length+1) cap6).ownBlock≠some b:=fun b hb hq=>by
        rcases hat2 with q|⟨g9,q,q2⟩
        ·exact HR6.out b hb (q ▸ hq)
        ·rw[hq] at q
         cases q
         have:=zdq HR2.out hb
         omega
       have HT1:Hid (CB w.heap.size (w2.setCell ⟨w.heap.size+1+1,1,none⟩ (.slice ao6 (Bk.length+1) cap6)) (w.heap.size+1+1) (Bk++[(y,z)]) (.slice ao9 (Bk.length+1) cap9) (.slice ao6 (Bk.length+1) cap6)):=by
        refine⟨hb2.set 1 _,?_,?_,hne9⟩
        ·have q:=zbl hSv (zas.set w2 (w.heap.size+1+1) 1 (.slice ao6 (Bk.length+1) cap6)) (fun b hb hm=>zbr hSv hb2 (by decide) hb (by simpa using hm))
         rw[uar]
         simpa [yak] using q
        ·have q:=zbl ho3 (zas.set w2 (w.heap.size+1+1) 1 (.slice ao6 (Bk.length+1) cap6)) (fun b hb hm=>zbr ho3 hb2 (by decide) hb (by simpa using hm))
         rw[uar]
         simpa [yan] using q
       have HT4:Hid (Box (w2.setCell ⟨w.heap.size+1+1,1,none⟩ (.slice ao6 (Bk.length+1) cap6)) (w.heap.size+1) #[.slice none 0 0,.slice none 0 0] 111):=hzx.set_ne (by omega) 1 _
       have HT5:Hid (Below w.heap.size w (w2.setCell ⟨w.heap.size+1+1,1,none⟩ (.slice ao6 (Bk.length+1) cap6))):=(HR5.out.trans hbw).setCell (p:=⟨w.heap.size+1+1,1,none⟩) (by show w.heap.size<=w.heap.size+1+1;omega) _
       clear hc2 hf2
       generalize w2.setCell ⟨w.heap.size+1+1,1,none⟩ (.slice ao6 (Bk.length+1) cap6)=wN at *
       go_wp2
       go_roundw
       case rel=>exact⟨k+1,Bk++[(y,z)],ao9,cap9,ao6,cap6,by omega,by go_num,by rw[uar];exact HT1,HD2,by simp;omega,HT4,HT5⟩
       case measure=>simp[intOf];omega
    ·have hs:=ybu hx
     by_cases hy:x=z
     ·have hs2:=zfm hy
      have HD2:Hid (yab B args row=yab Bk (args.drop (k+1)) (row.drop (k+1))):=by rw[Hid,HD.out,if_neg hx,if_pos hy]
      clear HD hx hy
      go_wp2
      go_roundw
      case rel=>exact⟨k+1,Bk,ao7,cap7,ao8,cap8,by omega,by go_num,HCx,HD2,by omega,HZx,HBwx⟩
      case measure=>simp[intOf];omega
     ·have hs2:=zei hy
      have HD2:Hid (yab B args row=none):=by rw[Hid,HD.out,if_neg hx,if_neg hy]
      clear HD hx hy
      go_wp2
      have HBN:Hid (Below w.heap.size w ((wc.setCell ⟨w.heap.size+1,0,none⟩ (.slice ao7 Bk.length cap7)).setCell ⟨w.heap.size+1,1,none⟩ (.slice ao8 Bk.length cap8))):=(HBwx.out.setCell (p:=⟨w.heap.size+1,0,none⟩) (by show w.heap.size<=w.heap.size+1;omega) _).setCell (p:=⟨w.heap.size+1,1,none⟩) (by show w.heap.size<=w.heap.size+1;omega) _
      have hbn:=(HZx.out.set 0 (.slice ao7 Bk.length cap7)).set 1 (.slice ao8 Bk.length cap8)
      have n0:=hbn.rules.1 0
      have n1:=hbn.rules.1 1
      clear hc hf hcz hfz hca2 hcr2 hbn
      generalize (wc.setCell ⟨w.heap.size+1,0,none⟩ (.slice ao7 Bk.length cap7)).setCell ⟨w.heap.size+1,1,none⟩ (.slice ao8 Bk.length cap8)=wN at *
      (try simp only[Exit.inBlock,Exit.then])
      refine bodyPost_ret (by simp[results,Tryz.results90,go_sem,n0,n1];try rfl) rfl ?_
      refine⟨_,_,_,_,_,_,by rw[HD2.out];rfl,fun B' hB'=>(by rw[HD2.out] at hB';cases hB'),?_⟩
      exact HBN
  ·have hki:¬ (k:Int) < (args.length:Int):=by omega
   have HD2:Hid (yab B args row=some Bk):=by
    rw[Hid,HW.out,uaq (by omega)]
    rfl
   clear HW
   go_wp2
   have HBN:Hid (Below w.heap.size w ((wr.setCell ⟨w.heap.size+1,0,none⟩ (.slice ao7 Bk.length cap7)).setCell ⟨w.heap.size+1,1,none⟩ (.slice ao8 Bk.length cap8))):=(HBw.out.setCell (p:=⟨w.heap.size+1,0,none⟩) (by show w.heap.size<=w.heap.size+1;omega) _).setCell (p:=⟨w.heap.size+1,1,none⟩) (by show w.heap.size<=w.heap.size+1;omega) _
   have q:∀ {v:Value} {l:List ByteArray} (h:SIn w.heap.size wr v l),SIn w.heap.size ((wr.setCell ⟨w.heap.size+1,0,none⟩ (.slice ao7 Bk.length cap7)).setCell ⟨w.heap.size+1,1,none⟩ (.slice ao8 Bk.length cap8)) v l:=fun h=>zbl h ((zas.set wr (w.heap.size+1) 0 _).trans (zas.set _ (w.heap.size+1) 1 _)) (fun b hb hm=>zbr h HZ.out (by decide) hb (by simpa using hm))
   have q1:=q HC.out.sf
   have q2:=q HC.out.ss
   have hbn:=(HZ.out.set 0 (.slice ao7 Bk.length cap7)).set 1 (.slice ao8 Bk.length cap8)
   have n0:=hbn.rules.1 0
   have n1:=hbn.rules.1 1
   clear hc hf hcz hfz hbn q hbx
   generalize (wr.setCell ⟨w.heap.size+1,0,none⟩ (.slice ao7 Bk.length cap7)).setCell ⟨w.heap.size+1,1,none⟩ (.slice ao8 Bk.length cap8)=wN at *
   (try simp only[Exit.inBlock,Exit.then])
   refine bodyPost_ret (by simp[results,Tryz.results90,go_sem,n0,n1];try rfl) rfl ?_
   refine⟨_,_,_,_,_,_,by rw[HD2.out];rfl,fun B' hB'=>?_,?_⟩
   ·rw[HD2.out] at hB'
    cases hB'
    exact⟨q1,q2,by omega⟩
   ·exact HBN
end Go.Proofs.YteampbddflhngaaGreat
namespace Go.Proofs.YteampbddflhngaaGreat
set_option maxRecDepth 100000
set_option maxHeartbeats 2000000
open Go.RowKit
variable {lo:Nat}
def zero3:Value × Value × Value:=(.bool false,.string ByteArray.empty,.slice none 0 0)
def yb0(c:zab)(w:World)(e:Ending)(w':World):Prop:=∃ g gs,w.heap.size<=g/\e=.returned (.slice (some ⟨g,0,none⟩) (1+c.body.length) (1+c.body.length))/\w'.ownsRow w.heap.size 90 3 (.slice (some ⟨g,0,none⟩) (1+c.body.length) (1+c.body.length)) (1+c.body.length) (flat3 (List.zipWith z9r (za2 c) gs))/\Copies w.heap.size w' (za2 c) gs/\Below w.heap.size w w'
theorem ycy(w:World)(c:zab)(va vb:Value)(hs:SIn lo w va c.head.args)(hb:LIn lo w vb c.body)(hf:z95 c) :
  Calls Tryz.prog 88 #[.agg #[.bool c.head.neg,.string c.head.pred,va,vb]] w fun e w'=>yb0 c w e w':=by
 obtain⟨i0,hi,hz0,hzs,hzb⟩:=info_parts Tryz.infoLit
 obtain⟨ao,cap,rfl⟩:=hs.shape
 obtain⟨aob,capb,rfl⟩:=hb.shape
 obtain⟨hf1,hf2⟩:=hf
 have hmk:=fun W:World=>run_make (P:=Tryz.prog) (w:=W) 91 90 i0 _ Tryz.underlying91 hi hz0 .i64 .i64 (1+(c.body.length:Int)) (1+(c.body.length:Int)) (by omega) (Int.le_refl _) (by rw[hzb];omega) (by omega)
 rw[hzs] at hmk
 have HH:Hid (∀ W,Below w.heap.size w W->Calls Tryz.prog 133 #[.agg #[.bool c.head.neg,.string c.head.pred,.slice ao c.head.args.length cap]] W fun e w'=>∃ g,W.heap.size<=g/\e=.returned (.agg #[.bool c.head.neg,.string c.head.pred,.slice (some ⟨g,0,none⟩) c.head.args.length c.head.args.length])/\SIn W.heap.size w' (.slice (some ⟨g,0,none⟩) c.head.args.length c.head.args.length) c.head.args/\Below W.heap.size W w'):=fun W hW=>z8h W c.head _ (hs.below hW) (hf1 c.head (by simp[za2])).2.2.1
 go_enter Tryz.func88,Tryz.ntmps88
 go_wp2_with (first|(go_at_call 133;refine(HH.out _ (by exact(by go_grown))).mono ?_;rintro e w1 ⟨g,hg,rfl,hs1,hb1⟩;have hro1:=zaa (z3k (w.alloc (.cells #[.bool c.head.neg,.string c.head.pred,.slice ao c.head.args.length cap,.slice aob c.body.length capb] 171)) (1+c.body.length) 90 (.bool false) (.string ByteArray.empty) (.slice none 0 0) (by unfold maxLen;omega)) hb1;simp only[World.size_alloc] at hro1;obtain⟨hl1,hq0,hq1,hq2⟩:=zop hro1 0 (by simp;omega);simp only[Nat.zero_mul,ubl] at hq0 hq1 hq2;have hfz1:=zbt hro1;have hbx1:=((Box.new w #[.bool c.head.neg,.string c.head.pred,.slice ao c.head.args.length cap,.slice aob c.body.length capb] 171).below ((Below.refl _ _).alloc (uaa _) (.cells (madeCells #[.bool false,.string ByteArray.empty,.slice none 0 0] ((1+c.body.length) * 3)) 90))).below hb1;obtain⟨hbc1,hbf1⟩:=hbx1.rules;have hbl1:=hbx1.lt))
 have hB1:Below w.heap.size w w1:=zae (by go_grown) hb1 (uaa _)
 have hz1:=hB1.size
 have hg1:w.heap.size<=g:=by simp only[World.size_alloc] at hg;omega
 have hs1':=hs1.low (show w.heap.size<=_ by simp only[World.size_alloc];omega)
 have hro2:=z6n (zbf hro1 (show w.heap.size<=w.heap.size+1 by omega)) 0 (by simp;omega) (.bool c.head.neg) (.string c.head.pred) (.slice (some ⟨g,0,none⟩) c.head.args.length c.head.args.length)
 have hs2:=hs1'.sets hro1 0 1 2 (.bool c.head.neg) (.string c.head.pred) (.slice (some ⟨g,0,none⟩) c.head.args.length c.head.args.length)
 have hB2:Below w.heap.size w (((w1.setCell ⟨w.heap.size+1,0,none⟩ (.bool c.head.neg)).setCell ⟨w.heap.size+1,1,none⟩ (.string c.head.pred)).setCell ⟨w.heap.size+1,2,none⟩ (.slice (some ⟨g,0,none⟩) c.head.args.length c.head.args.length)):=(((hB1.setCell (by simp) _).setCell (by simp) _).setCell (by simp) _)
 simp only[Nat.zero_mul,ubl] at hro2
 generalize ((w1.setCell ⟨w.heap.size+1,0,none⟩ (.bool c.head.neg)).setCell ⟨w.heap.size+1,1,none⟩ (.string c.head.pred)).setCell ⟨w.heap.size+1,2,none⟩ (.slice (some ⟨g,0,none⟩) c.head.args.length c.head.args.length)=w2 at *
 clear hq0 hq1 hq2 hfz1 hbc1 hbf1 hmk hro1 hbx1 hs1 hs1' hb1 hg
 have HF:Hid (∀ l∈za2 c,z7t l):=hf1
 clear hf1
 go_loopw [19] (fun i wr=>∃(k:Nat) (gs:List Nat),k<=c.body.length/\i=.int .i64 k/\Below w.heap.size w wr/\wr.ownsRow w.heap.size 90 3 (.slice (some ⟨w.heap.size+1,0,none⟩) (1+c.body.length) (1+c.body.length)) (1+c.body.length) (flat3 (List.zipWith z9r (c.head::c.body.take k) gs++List.replicate (c.body.length - k) zero3))/\Copies w.heap.size wr (c.head::c.body.take k) gs) (fun i _=>c.body.length - (intOf i).toNat)
 case atStart =>
  refine⟨0,[g],uaj _,rfl,hB2,?_,?_⟩
  ·have e:(List.replicate (1+c.body.length) (Value.bool false,Value.string ByteArray.empty,Value.slice none 0 0)).set 0 (.bool c.head.neg,.string c.head.pred,.slice (some ⟨g,0,none⟩) c.head.args.length c.head.args.length)=List.zipWith z9r (c.head::c.body.take 0) [g]++List.replicate (c.body.length - 0) zero3:=by
    rw[Nat.add_comm 1,ucc];rfl
   rw[← e];exact hro2
  ·exact(Copies.nil _).snoc (ls:=[]) (gs:=[]) (by simp) hg1 hs2
 case round =>
  clear hro2 hs2
  obtain⟨k,gs,hk,rfl,hbk,hrow,hcop⟩:=hrel
  have hszk:=hbk.size
  by_cases hlt:k < c.body.length
  ·obtain⟨gl,aol,capl,rfl,hgl,hl0,hl1,hl2,hsl⟩:=hb.cell k hlt
   have he0:=(hbk.cell (p:=⟨gl,k * 3,none⟩) hgl).trans hl0
   have he1:=(hbk.cell (p:=⟨gl,k * 3+1,none⟩) hgl).trans hl1
   have he2:=(hbk.cell (p:=⟨gl,k * 3+2,none⟩) hgl).trans hl2
   have hgr:gl < wr.heap.size:=by omega
   have hfl:=HF.out c.body[k] (by simp[za2])
   have hslr:=hsl.below hbk
   have HT:Hid (c.head::c.body.take (k+1)=(c.head::c.body.take k)++[c.body[k]]):=by rw[Hid,uae hlt];rfl
   have hlen:(c.head::c.body.take k).length=1+k:=by rw[ua7,ua2];omega
   clear hl0 hl1 hl2 hsl
   generalize c.body[k]=a at *
   have HL:Hid (∀ W,Below wr.heap.size wr W->Calls Tryz.prog 133 #[.agg #[.bool a.neg,.string a.pred,.slice aol a.args.length capl]] W fun e w'=>∃ g,W.heap.size<=g/\e=.returned (.agg #[.bool a.neg,.string a.pred,.slice (some ⟨g,0,none⟩) a.args.length a.args.length])/\SIn W.heap.size w' (.slice (some ⟨g,0,none⟩) a.args.length a.args.length) a.args/\Below W.heap.size W w'):=fun W hW=>z8h W a _ (hslr.below hW) hfl.2.2.1
   clear hslr hfl
   have HG:Hid (gs.length=(c.head::c.body.take k).length):=hcop.1
   obtain⟨m,hm⟩:∃ m,c.body.length - k=m+1:=⟨c.body.length - k - 1,by omega⟩
   have hm2:c.body.length - (k+1)=m:=by omega
   rw[hm] at hrow
   have HM2:Hid (c.body.length - (k+1)=m):=hm2
   clear hm hm2
   generalize c.head::c.body.take k=pre at *
   have hyl:1+k < (List.zipWith z9r pre gs++List.replicate (m+1) zero3).length:=by rw[uar,List.length_zipWith,HG.out,udd];omega
   generalize hys:List.zipWith z9r pre gs++List.replicate (m+1) zero3=ys at *
   have HYS:Hid (List.zipWith z9r pre gs++List.replicate (m+1) zero3=ys):=hys
   clear hys
   go_wp2_with (first|(go_at_call 133;refine(HL.out _ (by exact(by go_grown))).mono ?_;rintro e w3 ⟨g3,hg3,rfl,hs3,hb3⟩;have hb3':=zae ((Below.refl wr.heap.size wr).alloc (uaa _) (.cells #[.bool a.neg,.string a.pred,.slice aol a.args.length capl] 90)) hb3 (uaa _);have hrow3:=zaa hrow hb3';have hcop3:=hcop.mono (fun _ _ q=>q.below hb3');obtain⟨hl3,hq0,hq1,hq2⟩:=zop hrow3 (1+k) hyl;have hfz3:=zbt hrow3))
   have hset:=z6n hrow3 (1+k) hyl (.bool a.neg) (.string a.pred) (.slice (some ⟨g3,0,none⟩) a.args.length a.args.length)
   have hys2:ys.set (1+k) (.bool a.neg,.string a.pred,.slice (some ⟨g3,0,none⟩) a.args.length a.args.length)=List.zipWith z9r (pre++[a]) (gs++[g3])++List.replicate m zero3:=by rw[← HYS.out,← hlen];exact z9w HG.out a g3 m zero3
   rw[hys2] at hset
   have hg3':wr.heap.size<=g3:=by simp only[World.size_alloc] at hg3;omega
   have hcop4:=(hcop3.snoc (l:=a) (g:=g3) (fun x hx=>by have:=hcop.lt x hx;omega) (by omega) (hs3.low (by simp only[World.size_alloc];omega))).mono (fun _ _ q=>q.sets hrow3 ((1+k) * 3) ((1+k) * 3+1) ((1+k) * 3+2) (.bool a.neg) (.string a.pred) (.slice (some ⟨g3,0,none⟩) a.args.length a.args.length))
   have hB3:=zae hbk hb3' (uaa _)
   go_roundw
   case rel=>exact⟨k+1,gs++[g3],by omega,by go_num,(((hB3.setCell (by simp) _).setCell (by simp) _).setCell (by simp) _),by rw[HT.out,HM2.out];exact hset,by rw[HT.out];exact hcop4⟩
   case measure=>simp[intOf];omega
  ·have e1:c.body.length - k=0:=by omega
   have e2:c.body.take k=c.body:=uam (by omega)
   rw[e1,e2,List.replicate_zero,ub3] at hrow
   rw[e2] at hcop
   go_wp2
   go_ret
   exact⟨w.heap.size+1,gs,by omega,rfl,hrow,hcop,hbk⟩
theorem ycu(w:World)(pb:Nat)(cs:List zab)(t:List zar)(i:Int)(h:zkr lo w pb cs t)(hl:cs.length<=1000)(hi:i < 0∨(cs.length:Int)<=i) :
  Calls Tryz.prog 50 #[.pointer (some ⟨pb,0,none⟩),.int .i64 i] w fun e w'=>e=.returned (.tuple #[.slice none 0 0,.int .i64 11])/\Below w.heap.size w w':=by
 obtain⟨_,v,pv,h1,h2,_⟩:=h
 obtain⟨ao,cap,rfl⟩:=h2.shape
 obtain⟨hc,hf⟩:=h1.rules
 have hlt:=h1.lt
 rcases hi with hi|hi
 ·go_enter Tryz.func50,Tryz.ntmps50
  go_wp2
  go_ret2
  exact⟨rfl,(by go_grown)⟩
 ·have hi0:¬ i < 0:=by omega
  go_enter Tryz.func50,Tryz.ntmps50
  go_wp2
  go_ret2
  exact⟨rfl,(by go_grown)⟩
theorem ya6(w:World)(pb:Nat)(cs:List zab)(t:List zar)(k:Nat)(h:zkr lo w pb cs t)(_hl:cs.length<=1000)(hk:k < cs.length)(hf:z95 cs[k]) :
  Calls Tryz.prog 50 #[.pointer (some ⟨pb,0,none⟩),.int .i64 k] w fun e w'=>∃ g gs,w.heap.size<=g/\e=.returned (.tuple #[.slice (some ⟨g,0,none⟩) (1+cs[k].body.length) (1+cs[k].body.length),.int .i64 0])/\w'.ownsRow w.heap.size 90 3 (.slice (some ⟨g,0,none⟩) (1+cs[k].body.length) (1+cs[k].body.length)) (1+cs[k].body.length) (flat3 (List.zipWith z9r (za2 cs[k]) gs))/\Copies w.heap.size w' (za2 cs[k]) gs/\Below w.heap.size w w':=by
 obtain⟨_,v,pv,h1,h2,_⟩:=h
 obtain⟨ao,cap,rfl⟩:=h2.shape
 obtain⟨hc,hfz⟩:=h1.rules
 have hlt:=h1.lt
 obtain⟨g,ao2,cap2,ao3,cap3,rfl,hg,hd0,hd1,hd2,hd3,hsk,hlk⟩:=h2.cell k hk
 generalize cs[k]=c at *
 have HP:Hid (∀ W,Below w.heap.size w W->Calls Tryz.prog 88 #[.agg #[.bool c.head.neg,.string c.head.pred,.slice ao2 c.head.args.length cap2,.slice ao3 c.body.length cap3]] W fun e w'=>yb0 c W e w'):=fun W hW=>ycy W c _ _ (hsk.below hW) (hlk.below hW) hf
 go_enter Tryz.func50,Tryz.ntmps50
 go_wp2_with (first|(go_at_call 88;refine(HP.out _ (by exact(by go_grown))).mono ?_;rintro e w1 ⟨g1,gs,hg1,rfl,hr1,hc1,hb1⟩))
 go_ret2
 exact⟨g1,gs,hg1,rfl,hr1,hc1,hb1⟩
set_option maxHeartbeats 4000000
def yaf(lo:Nat)(w:World)(g:Nat)(ls:List zbu):Prop:=lo<=g/\g < w.heap.size/\∀ j (hj:j < ls.length),w.cell? ⟨g,j * 3,none⟩=some (.bool ls[j].neg)/\w.cell? ⟨g,j * 3+1,none⟩=some (.string ls[j].pred)/\∃ ga,w.cell? ⟨g,j * 3+2,none⟩=some (.slice (some ⟨ga,0,none⟩) ls[j].args.length ls[j].args.length)/\SIn lo w (.slice (some ⟨ga,0,none⟩) ls[j].args.length ls[j].args.length) ls[j].args
theorem yaf.save{w w':World}{g:Nat}{ls:List zbu}{M:List Nat}(h:yaf lo w g ls)(hs:zas M w w')(hM:∀ m∈M,m < lo):yaf lo w' g ls:=by
 obtain⟨h1,h2,h3⟩:=h
 have hg:w'.heap[g]?=w.heap[g]?:=hs.block g h2 fun hm=>by have:=hM g hm;omega
 have hc:∀ o,w'.cell? ⟨g,o,none⟩=w.cell? ⟨g,o,none⟩:=fun o=>by simp[World.cell?,hg]
 refine⟨h1,ual h2 hs.size,fun j hj=>?_⟩
 obtain⟨q1,q2,ga,q3,q4⟩:=h3 j hj
 exact⟨(hc _).trans q1,(hc _).trans q2,ga,(hc _).trans q3,zbl q4 hs fun b hb hm=>by have:=zeg q4 hb;have:=hM b hm;omega⟩
theorem yaf.below{w w':World}{g:Nat}{ls:List zbu}(h:yaf lo w g ls)(hb:Below w.heap.size w w'):yaf lo w' g ls:=h.save (zas.of (M:=[]) hb) (fun m hm=>by cases hm)
theorem ybt(w:World)(pb:Nat)(cs:List zab)(t:List zar)(k:Nat)(h:zkr lo w pb cs t)(hl:cs.length<=1000)(hk:k < cs.length)(hf:z95 cs[k]) :
  Calls Tryz.prog 50 #[.pointer (some ⟨pb,0,none⟩),.int .i64 k] w fun e w'=>∃ g,e=.returned (.tuple #[.slice (some ⟨g,0,none⟩) (1+cs[k].body.length) (1+cs[k].body.length),.int .i64 0])/\Hid (yaf w.heap.size w' g (za2 cs[k]))/\Hid (Below w.heap.size w w'):=by
 refine(ya6 w pb cs t k h hl hk hf).mono ?_
 rintro e w' ⟨g,gs,h1,h2,h3,h4,h5⟩
 obtain⟨g',cap,hv,hg,hlt,hcl⟩:=zal h3 (by omega)
 simp only[Value.slice.injEq,uab,Addr.mk.injEq,and_true,true_and] at hv
 obtain⟨rfl,_⟩:=hv
 refine⟨g,h2,⟨h1,hlt,fun j hj=>?_⟩,h5⟩
 have hgl:gs.length=(za2 cs[k]).length:=h4.1
 have hz:j < (List.zipWith z9r (za2 cs[k]) gs).length:=by rw[List.length_zipWith];omega
 obtain⟨q0,q1,q2⟩:=zm9 _ j hz
 rw[uc1] at q0 q1 q2
 exact⟨hcl _ _ q0,hcl _ _ q1,gs[j],hcl _ _ q2,(h4.2.2 j hj (by omega)).2⟩
def IsB(e:Ending):Prop:=∃ b,e=.returned (.bool b)
theorem ycz(w:World)(g:Nat)(ls:List zbu)(fv:Value)(fs:List zg4)(h:yaf lo w g ls)(hf:znk w fv fs)(hl:ls.length<=100)(hfl:fs.length<=300) :
  Calls Tryz.prog 51 #[.slice (some ⟨g,0,none⟩) ls.length ls.length,fv] w fun e w'=>IsB e/\Hid (Below w.heap.size w w'):=by
 have HL:Hid (∀ W j (hj:j < ls.length),Below w.heap.size w W->g < W.heap.size/\W.cell? ⟨g,j * 3,none⟩=some (.bool ls[j].neg)/\W.cell? ⟨g,j * 3+1,none⟩=some (.string ls[j].pred)):=fun W j hj hb=>by
  obtain⟨_,q1,q2⟩:=h.below hb
  exact⟨q1,(q2 j hj).1,(q2 j hj).2.1⟩
 obtain⟨ao,cap,rfl,hcells⟩:=hf
 have HF:Hid (∀ W i (hi:i < fs.length),Below w.heap.size w W->∃ g,ao=some ⟨g,0,none⟩/\g < W.heap.size/\W.cell? ⟨g,i * 3,none⟩=some (.string fs[i].1)):=fun W i hi hb=>by
  obtain⟨g,gi,lo,q1,q2,q3,_⟩:=hcells i hi
  exact⟨g,q1,ual q2 hb.size,(hb.cell (p:=⟨g,i * 3,none⟩) q2).trans q3⟩
 clear h hcells
 go_enter Tryz.func51,Tryz.ntmps51
 go_wp2
 go_loopw [5,6] (fun v5 v6 wr=>∃ n k:Nat,n<=200000/\1<=k/\v5=.int .i64 n/\v6=.int .i64 k/\Hid (Below w.heap.size w wr)) (fun _ v6 _=>ls.length - (intOf v6).toNat)
 case atStart=>exact⟨1,1,by omega,by omega,rfl,rfl,Below.refl _ _⟩
 case round =>
  obtain⟨n,k,hn,hk1,rfl,rfl,HBk⟩:=hrel
  by_cases hkl:k < ls.length
  ·have hki:(k:Int) < (ls.length:Int):=by omega
   obtain⟨hg,c0,c1⟩:=HL.out _ k hkl HBk.out
   cases hneg:ls[k].neg with
   |true =>
    rw[hneg] at c0
    go_wp2
    go_roundw
    case rel=>exact⟨n,k+1,hn,by omega,rfl,by go_num,HBk⟩
    case measure=>simp[intOf];omega
   |false =>
    rw[hneg] at c0
    clear c1
    go_wp2
    go_loopw [7,8] (fun v7 v8 wq=>∃ m i:Nat,m<=i/\i<=fs.length/\v7=.int .i64 m/\v8=.int .i64 i/\Hid (Below w.heap.size w wq)) (fun _ v8 _=>fs.length - (intOf v8).toNat)
    case atStart=>exact⟨0,0,by omega,by omega,rfl,rfl,HBk⟩
    case round =>
     obtain⟨m,i,hm,hi,rfl,rfl,HBi⟩:=hrel
     clear c0 hg
     by_cases hil:i < fs.length
     ·have hii:(i:Int) < (fs.length:Int):=by omega
      obtain⟨hg,_,c1⟩:=HL.out _ k hkl HBi.out
      obtain⟨gf,rfl,hgf,cf⟩:=HF.out _ i hil HBi.out
      by_cases he:fs[i].1=ls[k].pred
      ·have heq:=zfm he
       clear he
       generalize fs[i].1=x at *
       generalize ls[k].pred=y at *
       go_wp2
       go_quiet (fail)
       go_wp2
       go_roundw
       case rel=>exact⟨m+1,i+1,by omega,by omega,by go_num,by go_num,zau HBi.out _⟩
       case measure=>simp[intOf];omega
      ·have heq:=zei he
       clear he
       generalize fs[i].1=x at *
       generalize ls[k].pred=y at *
       go_wp2
       go_quiet (fail)
       go_wp2
       go_roundw
       case rel=>exact⟨m,i+1,by omega,by omega,by go_num,by go_num,zau HBi.out _⟩
       case measure=>simp[intOf];omega
     ·have hii:¬ (i:Int) < (fs.length:Int):=by omega
      have hp:n * m<=200000 * 300:=Nat.mul_le_mul hn (by omega)
      have hcast:(n:Int) * (m:Int)=((n * m:Nat):Int):=by simp
      generalize n * m=p at *
      by_cases hb:p > 200000
      ·have hbi:(p:Int) > 200000:=by omega
       go_wp2
       go_ret
       exact⟨⟨_,rfl⟩,HBi⟩
      ·have hbi:¬ (p:Int) > 200000:=by omega
       go_wp2
       go_roundw
       case rel=>exact⟨p,k+1,by omega,by omega,by go_num,by go_num,HBi⟩
       case measure=>simp[intOf];omega
  ·have hki:¬ (k:Int) < (ls.length:Int):=by omega
   go_wp2
   go_ret
   exact⟨⟨_,rfl⟩,HBk⟩
end Go.Proofs.YteampbddflhngaaGreat
