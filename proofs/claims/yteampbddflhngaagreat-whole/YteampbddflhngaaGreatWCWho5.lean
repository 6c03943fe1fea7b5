import Derived.Test.YteampbddflhngaaGreatWCKeepU

namespace Go.Proofs.YteampbddflhngaaGreat
set_option maxRecDepth 100000
set_option maxHeartbeats 8000000
open Go.RowKit
theorem Tryz.infoBoolK:(Tryz.prog.info? 4).map (fun i=>(i.zero,i.size,i.bytes))=some (some (.bool false),1,1):=by kernel_rfl
theorem ycb(n:Nat):madeCells #[.bool false] n=((List.replicate n false).map Value.bool).toArray:=by
 unfold madeCells
 apply Array.ext
 ·simp
 ·intro i h1 h2
  simp[Nat.mod_one]
theorem yam.new(w:World)(pv fv:Value)(n:Nat):yam ((w.alloc (.cells (madeCells #[.bool false] n) 4)).alloc (.cells #[pv,fv,.slice (some ⟨w.heap.size,0,none⟩) n n,.bool false] 105)) (w.heap.size+1) w.heap.size pv fv (List.replicate n false,false):=by
 refine⟨?_,?_⟩
 ·have:=Box.new (w.alloc (.cells (madeCells #[.bool false] n) 4)) #[pv,fv,.slice (some ⟨w.heap.size,0,none⟩) n n,.bool false] 105
  simpa using this
 ·have:=(Box.new w (madeCells #[.bool false] n) 4).up (.cells #[pv,fv,.slice (some ⟨w.heap.size,0,none⟩) n n,.bool false] 105)
  rw[ycb] at this ⊢
  exact this
theorem yca{lp:Nat}(w:World)(db pb:Nat)(s:ByteArray){cs:List zab}{t0 t:List zar}(hd:Box w db #[.pointer (some ⟨pb,0,none⟩),.string s] 98)(hP:zkr lp w pb cs t)(h:Parts cs t0 t)(hlp:lp<=w.heap.size)(hw:∀ c∈cs,ya3 c) :
  Calls Tryz.prog 24 #[.pointer (some ⟨db,0,none⟩)] w fun e w'=>e=.returned (.bool true)/\Hid (Below w.heap.size w w'):=by
 have HCEL:Hid (∀ W,Below w.heap.size w W->W.cell? ⟨db,0,none⟩=some (.pointer (some ⟨pb,0,none⟩))/\db < W.heap.size):=fun W hb=>⟨by rw[(hd.below hb).rules.1];rfl,(hd.below hb).lt⟩
 obtain⟨hk,_⟩:=h.runok
 have hcl:=hk.len
 have hfi:∀ c∈cs,z95 c:=fun c q=>(hw c q).fine (h.many c q)
 have har:∀ c∈cs,(za2 c).length<=7/\∀ l∈za2 c,l.args.length<=3/\∀ a∈l.args,0 < a.size:=fun c hc=>by
  have hm:=h.many c hc
  have hf:=(hfi c hc).1
  unfold zem at hm
  simp only[uc3,decide_eq_false_iff_not] at hm
  obtain⟨⟨⟨h1,h2⟩,h3⟩,_⟩:=hm
  refine⟨by simp[za2];omega,fun l hl=>⟨?_,fun a ha=>?_⟩⟩
  ·rcases uag.1 hl with rfl|hl
   ·omega
   ·have:=List.any_eq_false.1 h3 l hl
    simp only[decide_eq_true_eq] at this
    omega
  ·exact((hf l hl).2.2.2 a ha).1
 have HRN:Hid (Calls Tryz.prog 35 #[.pointer (some ⟨pb,0,none⟩),.slice none 0 0,.int .i64 4096,.int .i64 4096] w fun e w'=>z9b lp t (zaw cs) (zjw (zjv t (zaw cs) none cs) 4096 4096) w e w'):=z9s w pb hP h hlp 4096 4096 (by omega) (by omega)
 have HCS:Hid (∀ W,Below w.heap.size w W->Calls Tryz.prog 48 #[.pointer (some ⟨pb,0,none⟩)] W fun e w'=>e=.returned (.int .i64 cs.length)/\w'=W):=fun W hb=>z7q W pb cs t (hP.below hb)
 have HCL:Hid (∀ W (i:Nat) (hi:i < cs.length),Below w.heap.size w W->Calls Tryz.prog 50 #[.pointer (some ⟨pb,0,none⟩),.int .i64 i] W fun e w'=>∃ g,e=.returned (.tuple #[.slice (some ⟨g,0,none⟩) (za2 cs[i]).length (za2 cs[i]).length,.int .i64 0])/\Hid (yaf W.heap.size w' g (za2 cs[i]))/\Hid (Below W.heap.size W w')/\w'.cell? ⟨db,0,none⟩=some (.pointer (some ⟨pb,0,none⟩))):=fun W i hi hb=>by
  refine(ybt W pb cs t i (hP.below hb) hcl hi (hfi _ (uad hi))).mono ?_
  rintro e w' ⟨g,q1,q2,q3⟩
  have e1:1+cs[i].body.length=(za2 cs[i]).length:=by simp[za2];omega
  rw[e1] at q1
  exact⟨g,q1,q2,q3,(HCEL.out w' (zae hb q3.out (uaa _))).1⟩
 cases hA:zjw (zjv t (zaw cs) none cs) 4096 4096 with
 |none =>
  have H1:Hid (Calls Tryz.prog 35 #[.pointer (some ⟨pb,0,none⟩),.slice none 0 0,.int .i64 4096,.int .i64 4096] w fun e w'=>e=.returned (.tuple #[.pointer none,.int .i64 10])/\Hid (Below w.heap.size w w')):=by
   refine HRN.out.mono ?_
   intro e w' q
   rw[hA] at q
   exact⟨q.1,q.2⟩
  obtain⟨c0,hl0⟩:=HCEL.out w (Below.refl _ _)
  clear hA HRN hd hP h hw hfi har
  go_enter Tryz.func24,Tryz.ntmps24
  go_wp2_with (first|(go_at_call 35;refine H1.out.mono ?_;rintro e w1 ⟨rfl,HB1⟩))
  go_ret
  exact⟨rfl,HB1⟩
 |some x =>
  obtain⟨D,kk⟩:=x
  have H1:Hid (Calls Tryz.prog 35 #[.pointer (some ⟨pb,0,none⟩),.slice none 0 0,.int .i64 4096,.int .i64 4096] w fun e w'=>∃ rb,e=.returned (.tuple #[.pointer (some ⟨rb,0,none⟩),.int .i64 0])/\Hid (∃(R:zbg) (pv nv rv:Value) (tbs:List Nat) (lo:Nat),zva lo lp w' rb t (zaw cs) R pv nv rv tbs/\Told t (zaw cs) R/\zc2 (t.map (·.je)) R=D)/\Hid (Below w.heap.size w w')/\w'.cell? ⟨db,0,none⟩=some (.pointer (some ⟨pb,0,none⟩))/\db < w'.heap.size):=by
   refine HRN.out.mono ?_
   intro e w' q
   rw[hA] at q
   obtain⟨R,rb,pv,nv,rv,tbs,q1,q2,q3,q4,q5,q6,q7,q8,q9⟩:=q
   exact⟨rb,q2,⟨R,pv,nv,rv,tbs,_,q3,h.told q4 q5 hA q8,q5⟩,q9,HCEL.out w' q9⟩
  have H2:Hid (∀ W rb,Below w.heap.size w W->(∃(R:zbg) (pv nv rv:Value) (tbs:List Nat) (lo:Nat),zva lo lp W rb t (zaw cs) R pv nv rv tbs/\Told t (zaw cs) R/\zc2 (t.map (·.je)) R=D)->Calls Tryz.prog 49 #[.pointer (some ⟨pb,0,none⟩),.pointer (some ⟨rb,0,none⟩)] W fun e w'=>∃(fs:List zg4) (ao:Option Addr) (cap:Nat),e=.returned (.tuple #[.slice ao fs.length cap,.bool true])/\Hid (znk w' (.slice ao fs.length cap) fs/\ya2 cs fs/\∀ f∈fs,f.2.1.length<=1000000)/\Hid (Below w.heap.size w w')/\w'.cell? ⟨db,0,none⟩=some (.pointer (some ⟨pb,0,none⟩))/\db < w'.heap.size):=fun W rb hb ⟨R,pv,nv,rv,tbs,lo,r1,r2,r3⟩=>by
   refine(z9a W pb rb cs t (zaw cs) R pv nv rv tbs (hP.below hb) r1 r2 (z88 r2)).mono ?_
   rintro e w' ⟨v,gs,q1,q2,q3⟩
   have hF:=q2.facts
   obtain⟨ao,cap,rfl,_⟩:=id hF
   have hbw:=zae hb q3 (uaa _)
   exact⟨_,ao,cap,q1,⟨hF,ybz hw h r2 (by rw[r3];exact hA),fun f hf=>by have:=z9h r2 f hf;omega⟩,hbw,HCEL.out w' hbw⟩
  have HCOV:Hid ((∀ c∈cs,∀ l∈za2 c,∀ a∈l.args,a≠ByteArray.empty)/\∀ c∈cs,∀ l∈za2 c,∀ y∈l.args,za8 y=true->y∈zaf c):=⟨fun c hc l hl a ha e=>by have:=((har c hc).2 l hl).2 a ha;rw[e] at this;exact absurd this (by decide),fun c hc=>h.covered hc⟩
  have HAR:Hid (∀ c∈cs,(za2 c).length<=7/\∀ l∈za2 c,l.args.length<=3/\∀ a∈l.args,0 < a.size):=har
  obtain⟨c0,hl0⟩:=HCEL.out w (Below.refl _ _)
  clear hA HRN hd hP h hw hfi har hk
  go_enter Tryz.func24,Tryz.ntmps24
  go_upto_region 7 with (first|(go_at_call 49;refine(H2.out _ _ HB1.out HR1.out).mono ?_;rintro e w2 ⟨fs,ao,cap,rfl,HF,HB2,c2,hl2⟩)|(go_at_call 35;refine H1.out.mono ?_;rintro e w1 ⟨rb,rfl,HR1,HB1,c1,hl1⟩))
  clear H1 H2 HR1 HB1 c1 hl1 c0 hl0
  by_cases hfl:fs.length<=300
  ·have hfi:¬ (300:Int) < (fs.length:Int):=by omega
   have hmk:=fun W:World=>run_make_row' (P:=Tryz.prog) (w:=W) 103 4 (.bool false) 1 Tryz.underlying103 Tryz.infoBoolK rfl .i64 .i64 fs.length (by omega) (by omega)
   go_upto_region 9 with fail
   go_cut [7] from 44 to 53 (fun s7 wx=>∃ xb hb,s7=.pointer (some ⟨xb,0,none⟩)/\Hid (yam wx xb hb (.pointer (some ⟨pb,0,none⟩)) (.slice ao fs.length cap) (List.replicate fs.length false,false))/\Hid (w2.heap.size<=xb/\w2.heap.size<=hb)/\Hid (Below w2.heap.size w2 wx))
   case first =>
    go_region
    go_wp2_with fail
    go_meet
    case rel=>exact⟨_,_,rfl,(yam.new w2 _ _ _).below (zau (Below.refl _ _) 1),⟨Nat.le_succ _,uaa _⟩,(show Below w2.heap.size w2 _ from(by repeat'(first|with_reducible(first|exact zR _ _|assumption|refine zN ?_ _|refine zA ?_ ?_ _|refine zD ?_|refine zS ?_ ?_ _)|go_size)))⟩
   case rest =>
    obtain⟨xb,hb,rfl,HD,HXB,HBc⟩:=hcut
    have HBw:Hid (∀ W,Below w2.heap.size w2 W->Below w.heap.size w W):=fun W q=>zae HB2.out q (uaa _)
    have HCw:Hid (∀ W,Below w2.heap.size w2 W->W.cell? ⟨db,0,none⟩=some (.pointer (some ⟨pb,0,none⟩))/\db < W.heap.size):=fun W q=>HCEL.out W (HBw.out W q)
    have HC2:Hid (Calls Tryz.prog 48 #[.pointer (some ⟨pb,0,none⟩)] wc fun e w'=>e=.returned (.int .i64 cs.length)/\w'=wc):=HCS.out wc (HBw.out wc HBc.out)
    obtain⟨cc,hlc⟩:=HCw.out wc HBc.out
    clear hmk c2 hl2 HCEL HCS
    have HFC:Hid (∀ W i (hi:i < fs.length),Below w2.heap.size w2 W->∃ gf,ao=some ⟨gf,0,none⟩/\gf < W.heap.size/\W.cell? ⟨gf,i * 3+2,none⟩=some (.int .i64 (fs[i].2.2:Nat))):=fun W i hi q=>by
     obtain⟨ao',cap',e,q2⟩:=HF.out.1.below q
     cases e
     obtain⟨gf,gi,lo,r1,r2,r3,r4,r5,r6⟩:=q2 i hi
     exact⟨gf,r1,r2,r5⟩
    have HWP:Hid ((cs.foldl (stepW fs) (List.replicate fs.length false,false)).2=false/\∀ k,k < fs.length->(cs.foldl (stepW fs) (List.replicate fs.length false,false)).1.getD k false=true):=ycd HF.out.2.1 HCOV.out.1 HCOV.out.2
    have HLEN:Hid (∀ i,((cs.take i).foldl (stepW fs) (List.replicate fs.length false,false)).1.length=fs.length):=fun i=>by
     have:=(yap (yby fs) (cs.take i) (List.replicate fs.length false,false)).1
     rw[this]
     simp
    go_wp2_with (first|(go_at_call 48;refine HC2.out.mono ?_;rintro e w3 ⟨rfl,hww⟩;obtain rfl:=hww.symm))
    clear HC2 cc hlc
    go_loopw [9,10,11,12,13] (fun v9 _ _ _ _ wr=>∃ i:Nat,i<=cs.length/\v9=.int .i64 i/\Hid (yam wr xb hb (.pointer (some ⟨pb,0,none⟩)) (.slice ao fs.length cap) ((cs.take i).foldl (stepW fs) (List.replicate fs.length false,false)))/\Hid (Below w2.heap.size w2 wr)) (fun v9 _ _ _ _ _=>cs.length - (intOf v9).toNat)
    case atStart=>exact⟨0,uaj _,rfl,HD,HBc⟩
    case round =>
     obtain⟨i,hi,rfl,HDi,HBi⟩:=hrel
     clear HD HBc
     by_cases hil:i < cs.length
     ·have hii:(i:Int) < (cs.length:Int):=by omega
      have HTF:Hid ((cs.take (i+1)).foldl (stepW fs) (List.replicate fs.length false,false)=stepW fs ((cs.take i).foldl (stepW fs) (List.replicate fs.length false,false)) cs[i]):=ybo _ _ _ hil
      have HLi:Hid (((cs.take i).foldl (stepW fs) (List.replicate fs.length false,false)).1.length=fs.length):=HLEN.out i
      have hmem:=uad hil
      have HCi:Hid (Calls Tryz.prog 50 #[.pointer (some ⟨pb,0,none⟩),.int .i64 i] wr fun e w'=>∃ g,e=.returned (.tuple #[.slice (some ⟨g,0,none⟩) (za2 cs[i]).length (za2 cs[i]).length,.int .i64 0])/\Hid (yaf wr.heap.size w' g (za2 cs[i]))/\Hid (Below wr.heap.size wr w')/\w'.cell? ⟨db,0,none⟩=some (.pointer (some ⟨pb,0,none⟩))):=HCL.out wr i hil (HBw.out wr HBi.out)
      obtain⟨ci,hli⟩:=HCw.out wr HBi.out
      obtain⟨sn,hsn⟩:∃ sn,(cs.take (i+1)).foldl (stepW fs) (List.replicate fs.length false,false)=sn:=⟨_,rfl⟩
      rw[hsn] at HTF
      have HSN:Hid ((cs.take (i+1)).foldl (stepW fs) (List.replicate fs.length false,false)=sn):=hsn
      clear hsn
      have HMEM:Hid (cs[i]∈cs):=hmem
      generalize (cs.take i).foldl (stepW fs) (List.replicate fs.length false,false)=si at *
      have HLS:Hid ((za2 cs[i]).length=1+cs[i].body.length):=by unfold Hid;simp[za2];omega
      have hl7:=(HAR.out _ hmem).1
      have HLG:Hid (∀ W lo g,yaf lo W g (za2 cs[i])->Below w2.heap.size w2 W->Calls Tryz.prog 51 #[.slice (some ⟨g,0,none⟩) (za2 cs[i]).length (za2 cs[i]).length,.slice ao fs.length cap] W fun e w'=>IsB e/\Hid (Below W.heap.size W w')):=fun W lo g q1 q2=>ycz W g (za2 cs[i]) _ fs q1 (HF.out.1.below q2) (by omega) (by omega)
      have HFI:Hid (∀ W g,0 < cs[i].body.length->yaf wr.heap.size W g (za2 cs[i])->Below wr.heap.size wr W->Calls Tryz.prog 52 #[.pointer (some ⟨xb,0,none⟩),.slice (some ⟨g,0,none⟩) (za2 cs[i]).length (za2 cs[i]).length,.int .i64 1,.agg #[.slice none 0 0,.slice none 0 0],.int .i64 0] W fun e w'=>e=.returned (.tuple #[])/\Hid (yam w' xb hb (.pointer (some ⟨pb,0,none⟩)) (.slice ao fs.length cap) sn)/\Hid (Below w2.heap.size w2 w')):=fun W g q0 q1 q2=>by
       have q3:=zae HBi.out q2 (uaa _)
       have hI:yac w2 W wr.heap.size g xb hb (.pointer (some ⟨pb,0,none⟩)) (.slice ao fs.length cap) (.slice none 0 0) (.slice none 0 0) (za2 cs[i]) fs [] si:=⟨q1,SIn.nil W,SIn.nil W,HDi.out.below q2,HF.out.1,q3,HXB.out.1,HXB.out.2,HDi.out.x.lt,HDi.out.has.lt,q2.size,HLi.out⟩
       refine(ybl w2 wr.heap.size g xb hb _ _ (za2 cs[i]) cs[i].head cs[i].body fs rfl (by omega) (HAR.out _ HMEM.out).2 hfl HF.out.2.2 (fun f hf l hl e=>HF.out.2.1.je f hf _ HMEM.out l hl e.symm) cs[i].body 1 W _ _ [] 0 si (uaa _) (by rw[HLS.out];omega) rfl (by simp) hI).mono ?_
       rintro e w' ⟨r1,r2,r3⟩
       refine⟨r1,?_,q3.trans (r3.out.below (fun m hm=>?_) q3.size)⟩
       ·rw[Hid,HTF.out,stepW,if_pos q0]
        exact r2.out
       ·simp only[uag,ucs,or_false] at hm
        rcases hm with rfl|rfl
        ·exact HXB.out.1
        ·exact HXB.out.2
      have HFK:Hid (¬ 0 < cs[i].body.length->∃ k,k < fs.length/\zl5 cs[i].head.pred cs[i].head.args fs=some k/\(∀(hk:k < fs.length),fs[k].2.2=0)/\sn=(si.1.set k true,si.2)):=fun q0=>by
       have hb0:=HF.out.2.1.base _ HMEM.out (by omega)
       cases hq:zl5 cs[i].head.pred cs[i].head.args fs with
       |none=>exact absurd hb0 (yah hq 0)
       |some k =>
        obtain⟨k1,k2,k3⟩:=yai hq
        refine⟨k,k1,rfl,fun hk=>?_,?_⟩
        ·have:=HF.out.2.1.one _ (uad k1) _ hb0 k2 k3
         rw[this]
        ·rw[HTF.out,stepW,if_neg q0,hq]
      have HFN:Hid (∀ W k (rv:Value) lo,zl5 cs[i].head.pred cs[i].head.args fs=some k->SIn lo W rv cs[i].head.args->Below w2.heap.size w2 W->Calls Tryz.prog 53 #[.slice ao fs.length cap,.string cs[i].head.pred,rv] W fun e w'=>e=.returned (.int .i64 (k:Nat))/\Hid (Below W.heap.size W w')):=fun W k rv lo q0 q1 q2=>by
       have:=z9j W _ fs cs[i].head.pred rv cs[i].head.args (HF.out.1.below q2) q1 (by omega) (by have:=((HAR.out _ HMEM.out).2 cs[i].head (by simp[za2])).1;omega) HF.out.2.2
       rw[ybe q0] at this
       exact this
      have HL0:Hid (∀ W g lo,yaf lo W g (za2 cs[i])->g < W.heap.size/\W.cell? ⟨g,1,none⟩=some (.string cs[i].head.pred)/\∃ ga,W.cell? ⟨g,2,none⟩=some (.slice (some ⟨ga,0,none⟩) cs[i].head.args.length cs[i].head.args.length)/\SIn lo W (.slice (some ⟨ga,0,none⟩) cs[i].head.args.length cs[i].head.args.length) cs[i].head.args):=fun W g lo q=>by
       obtain⟨_,q1,q2⟩:=q
       have:=q2 0 (by simp[za2])
       exact⟨q1,this.2⟩
      clear HLEN HWP HCL HMEM hmem HAR HCOV HTF
      generalize (za2 cs[i]).length=n at *
      go_upto_region 18 with (first|(go_at_call 51;refine(HLG.out _ _ _ HL4.out (zae HBi.out HB4.out (uaa _))).mono ?_;rintro e w5 ⟨hIB,HB5⟩;obtain⟨b,rfl⟩:=hIB)|(go_at_call 50;refine HCi.out.mono ?_;rintro e w4 ⟨g,rfl,HL4,HB4,c4⟩))
      have HB45:Hid (Below wr.heap.size wr w5):=zae HB4.out HB5.out (uaa _)
      have HB25:Hid (Below w2.heap.size w2 w5):=zae HBi.out HB45.out (uaa _)
      have HL5:Hid (yaf wr.heap.size w5 g (za2 cs[i])):=HL4.out.below HB5.out
      clear HL4 HCi HLG c4 ci hli HB4 HB5
      cases b with
      |true =>
       go_wp2
       go_ret
       exact⟨rfl,HBw.out _ HB25.out⟩
      |false =>
       have hn1:=HLS.out
       by_cases hbd:0 < cs[i].body.length
       ·have hni:(1:Int) < (n:Int):=by omega
        have HFW:Hid (Calls Tryz.prog 52 #[.pointer (some ⟨xb,0,none⟩),.slice (some ⟨g,0,none⟩) n n,.int .i64 1,.agg #[.slice none 0 0,.slice none 0 0],.int .i64 0] w5 fun e w'=>e=.returned (.tuple #[])/\Hid (yam w' xb hb (.pointer (some ⟨pb,0,none⟩)) (.slice ao fs.length cap) sn)/\Hid (Below w2.heap.size w2 w')):=HFI.out w5 g hbd HL5.out HB45.out
        clear hn1 hbd
        go_wp2_with (first|(go_at_call 52;refine HFW.out.mono ?_;rintro e w6 ⟨rfl,HD6,HB6⟩))
        go_roundw
        case rel=>exact⟨i+1,by omega,by go_num,by rw[HSN.out];exact HD6,HB6⟩
        case measure=>simp[intOf];omega
       ·obtain rfl:n=1:=by omega
        obtain⟨k,hk,hfk,hf0,hsn⟩:=HFK.out hbd
        have HFK2:Hid (zl5 cs[i].head.pred cs[i].head.args fs=some k):=hfk
        have HSN2:Hid (sn=(si.1.set k true,si.2)):=hsn
        obtain⟨hg,d1,ga,d2,hSa⟩:=HL0.out _ _ _ HL5.out
        have HF1:Hid (∀ W,Below w5.heap.size w5 W->Calls Tryz.prog 53 #[.slice ao fs.length cap,.string cs[i].head.pred,.slice (some ⟨ga,0,none⟩) cs[i].head.args.length cs[i].head.args.length] W fun e w'=>e=.returned (.int .i64 (k:Nat))/\Hid (Below w5.heap.size w5 w')/\w'.cell? ⟨g,1,none⟩=some (.string cs[i].head.pred)/\w'.cell? ⟨g,2,none⟩=some (.slice (some ⟨ga,0,none⟩) cs[i].head.args.length cs[i].head.args.length)):=fun W q=>by
         refine(HFN.out W k _ _ HFK2.out (hSa.below q) (zae HB25.out q (uaa _))).mono ?_
         rintro e w' ⟨r1,r2⟩
         have r3:=zae q r2.out (uaa _)
         exact⟨r1,r3,(r3.cell (p:=⟨g,1,none⟩) hg).trans d1,(r3.cell (p:=⟨g,2,none⟩) hg).trans d2⟩
        have hwn:fs[k].2.2=0:=hf0 hk
        have HW0:Hid (∀ W,Below w2.heap.size w2 W->∃ gf,ao=some ⟨gf,0,none⟩/\gf < W.heap.size/\W.cell? ⟨gf,k * 3+2,none⟩=some (.int .i64 0)):=fun W q=>by
         obtain⟨gf,r1,r2,r3⟩:=HFC.out W k hk q
         rw[hwn] at r3
         exact⟨gf,r1,r2,r3⟩
        clear hfk hsn HFK HFN hf0 hwn HFI HL0 HLS hn1 hSa HFC
        generalize cs[i].head.args.length=an at *
        generalize cs[i].head.pred=pr at *
        go_upto_region 22 with fail
        go_cut [13] from 86 to 95 (fun s13 wx=>s13=.int .i64 (k:Nat)/\Hid (Below w5.heap.size w5 wx))
        case first =>
         go_region_held3 (fun w'=>w'.cell? ⟨g,1,none⟩=some (.string pr)/\w'.cell? ⟨g,2,none⟩=some (.slice (some ⟨ga,0,none⟩) an an)) (first|go_keep|(go_simp;done)) (first|(go_at_call 53;refine(HF1.out _ (by exact(by repeat'(first|with_reducible(first|exact zR _ _|assumption|refine zN ?_ _|refine zA ?_ ?_ _|refine zD ?_|refine zS ?_ ?_ _)|go_size)))).mono ?_;rintro e w6 ⟨rfl,HB6,z1,z2⟩))
         all_goals
          go_wp2_with fail
          go_meet
          case rel=>exact⟨rfl,HB6⟩
        case rest =>
         obtain⟨rfl,HB6⟩:=hcut
         have HB26:Hid (Below w2.heap.size w2 wc):=zae HB25.out HB6.out (uaa _)
         have HD6:Hid (yam wc xb hb (.pointer (some ⟨pb,0,none⟩)) (.slice ao fs.length cap) si):=HDi.out.below (zae HB45.out HB6.out (uaa _))
         clear HF1 d1 d2 hg HB6 HDi
         obtain⟨gf,rfl,hgf,cf⟩:=HW0.out wc HB26.out
         have x2:wc.cell? ⟨xb,2,none⟩=some (.slice (some ⟨hb,0,none⟩) fs.length fs.length):=by rw[HD6.out.x.rules.1,← HLi.out];rfl
         have hlx:=HD6.out.x.lt
         have hlh:=HD6.out.has.lt
         have hfz:=HD6.out.has.rules.2
         obtain⟨u,hu⟩:∃ u,wc.cell? ⟨hb,k,none⟩=some u:=⟨.bool (si.1.getD k false),by
          rw[HD6.out.has.rules.1]
          have:k < si.1.length:=by rw[HLi.out];exact hk
          simp[this,List.getD]⟩
         have hki:(k:Int) < (fs.length:Int):=by omega
         have HD7:Hid (yam (wc.setCell ⟨hb,k,none⟩ (.bool true)) xb hb (.pointer (some ⟨pb,0,none⟩)) (.slice (some ⟨gf,0,none⟩) fs.length cap) sn):=by
          rw[Hid,HSN2.out]
          exact HD6.out.mark k
         have HB7:Hid (Below w2.heap.size w2 (wc.setCell ⟨hb,k,none⟩ (.bool true))):=HB26.out.setCell HXB.out.2 _
         clear HW0
         go_wp2
         go_roundw
         case rel=>exact⟨i+1,by omega,by go_num,by rw[HSN.out];exact HD7,HB7⟩
         case measure=>simp[intOf];omega
     ·have hii:¬ (i:Int) < (cs.length:Int):=by omega
      obtain rfl:i=cs.length:=by omega
      have HWP2:Hid (((cs.take cs.length).foldl (stepW fs) (List.replicate fs.length false,false)).2=false/\∀ k,k < fs.length->((cs.take cs.length).foldl (stepW fs) (List.replicate fs.length false,false)).1.getD k false=true):=by
       rw[Hid,ubw]
       exact HWP.out
      have HLi:Hid (((cs.take cs.length).foldl (stepW fs) (List.replicate fs.length false,false)).1.length=fs.length):=HLEN.out _
      clear HWP HLEN
      generalize (cs.take cs.length).foldl (stepW fs) (List.replicate fs.length false,false)=si at *
      obtain⟨s1,s2⟩:=si
      dsimp only at HWP2 HLi
      obtain rfl:s2=false:=HWP2.out.1
      have HRD:Hid (∀ k,k < fs.length->wr.cell? ⟨hb,k,none⟩=some (.bool true)):=fun k hk=>by
       rw[HDi.out.has.rules.1]
       have h1:k < s1.length:=by rw[HLi.out];exact hk
       have h2:=HWP2.out.2 k hk
       simp only[List.getD,uac h1,uas] at h2
       simp[h1,h2]
      have x2:wr.cell? ⟨xb,2,none⟩=some (.slice (some ⟨hb,0,none⟩) fs.length fs.length):=by rw[HDi.out.x.rules.1,← HLi.out];rfl
      have x3:wr.cell? ⟨xb,3,none⟩=some (.bool false):=by rw[HDi.out.x.rules.1];rfl
      have hlx:=HDi.out.x.lt
      have hlh:=HDi.out.has.lt
      go_wp2
      go_loopw [14] (fun v14 wz=>∃ j:Nat,j<=fs.length/\v14=.int .i64 j/\Hid (wz=wr)) (fun v14 _=>fs.length - (intOf v14).toNat)
      case atStart=>exact⟨0,uaj _,rfl,rfl⟩
      case round =>
       obtain⟨j,hj,rfl,hwz⟩:=hrel
       obtain rfl:=hwz.out.symm
       by_cases hjl:j < fs.length
       ·have hji:(j:Int) < (fs.length:Int):=by omega
        have hcj:=HRD.out j hjl
        go_wp2
        go_roundw
        case rel=>exact⟨j+1,by omega,by go_num,trivial⟩
        case measure=>simp[intOf];omega
       ·have hji:¬ (j:Int) < (fs.length:Int):=by omega
        go_wp2
        go_ret
        exact⟨rfl,HBw.out _ HBi.out⟩
  ·have hfi:(300:Int) < (fs.length:Int):=by omega
   go_wp2
   go_ret
   exact⟨rfl,HB2⟩
theorem ycg(w:World)(s:ByteArray)(hs:s.size<=9223372036854775807) :
  Calls Tryz.prog 11 #[.string s] w fun e w'=>e=.returned (.bool true)/\Below w.heap.size w w':=by
 have HRE:Hid (Calls Tryz.prog 23 #[.string s] w fun e w'=>zxc s w e w'):=z9k w s hs
 unfold zxc at HRE
 cases hc:znz s with
 |error n =>
  rw[hc] at HRE
  have HR2:Hid (Calls Tryz.prog 23 #[.string s] w fun e w'=>e=.returned (.tuple #[.pointer none,.bool true])/\Below w.heap.size w w'):=HRE
  clear HRE hc
  go_enter Tryz.func11,Tryz.ntmps11
  go_wp2_with (first|(go_at_call 23;refine HR2.out.mono ?_;rintro e w1 ⟨rfl,hb1⟩))
  go_ret
  exact⟨rfl,hb1⟩
 |ok x =>
  obtain⟨cs,t⟩:=x
  obtain⟨t0,hp⟩:=z81 hc
  have hcw:=yb5 hc
  rw[hc] at HRE
  have HR2:Hid (Calls Tryz.prog 23 #[.string s] w fun e w'=>∃ db,e=.returned (.tuple #[.pointer (some ⟨db,0,none⟩),.bool true])/\Hid (∃ pb,Box w' db #[.pointer (some ⟨pb,0,none⟩),.string s] 98/\zkr w.heap.size w' pb cs t)/\Below w.heap.size w w'):=by
   refine HRE.out.mono ?_
   rintro e w' ⟨db,pb,q1,q2,q3,q4,q5⟩
   exact⟨db,q2,⟨pb,q3,q4⟩,q5⟩
  have HLI:Hid (∀ W db,w.heap.size<=W.heap.size->(∃ pb,Box W db #[.pointer (some ⟨pb,0,none⟩),.string s] 98/\zkr w.heap.size W pb cs t)->Calls Tryz.prog 24 #[.pointer (some ⟨db,0,none⟩)] W fun e w'=>e=.returned (.bool true)/\Below W.heap.size W w'):=fun W db hl ⟨pb,q1,q2⟩=>yca W db pb s q1 q2 hp hl hcw
  clear HRE hc hp hcw
  go_enter Tryz.func11,Tryz.ntmps11
  go_wp2_with (first|(go_at_call 23;refine HR2.out.mono ?_;rintro e w1 ⟨db,rfl,HX1,hb1⟩)|(go_at_call 24;refine(HLI.out _ _ hb1.size HX1.out).mono ?_;rintro e w2 ⟨rfl,hb2⟩))
  go_ret
  exact⟨rfl,zae hb1 hb2 (uaa _)⟩
end Go.Proofs.YteampbddflhngaaGreat
