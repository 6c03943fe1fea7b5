import Derived.Test.YteampbddflhngaaGreatWCWho2

namespace Go.Proofs.YteampbddflhngaaGreat
set_option maxRecDepth 100000
set_option maxHeartbeats 8000000
open Go.RowKit
variable {w:World}{xb hb:Nat}{pv fv:Value}{st:StW}{r:List ByteArray}
structure yam (w:World) (xb hb:Nat) (pv fv:Value) (st:StW):Prop where
 x:Box w xb #[pv,fv,.slice (some ⟨hb,0,none⟩) st.1.length st.1.length,.bool st.2] 105
 has:Box w hb (st.1.map Value.bool).toArray 4
theorem yam.below{w w':World}{xb hb:Nat}{pv fv:Value}{st:StW}(h:yam w xb hb pv fv st)(hb':Below w.heap.size w w'):yam w' xb hb pv fv st:=⟨h.x.below hb',h.has.below hb'⟩
theorem yam.ne(h:yam w xb hb pv fv st):xb≠hb:=by
 rintro rfl
 exact absurd (h.x.type h.has) (by decide)
theorem yam.miss(h:yam w xb hb pv fv st):yam (w.setCell ⟨xb,3,none⟩ (.bool true)) xb hb pv fv (st.1,true):=⟨h.x.set 3 (.bool true),h.has.set_ne (Ne.symm h.ne) 3 _⟩
theorem yam.mark(h:yam w xb hb pv fv st)(k:Nat):yam (w.setCell ⟨hb,k,none⟩ (.bool true)) xb hb pv fv (st.1.set k true,st.2):=by
 refine⟨?_,?_⟩
 ·have:=h.x.set_ne h.ne k (.bool true)
  simpa using this
 ·have:=h.has.set k (.bool true)
  simpa [List.map_set] using this
structure yac (w0 w:World) (lo g xb hb:Nat) (pv fv vv lv:Value) (ls:List zbu) (fs:List zg4) (B:z99) (st:StW):Prop where
 lits:yaf lo w g ls
 fst:SIn lo w vv (yak B)
 snd:SIn lo w lv (yan B)
 der:yam w xb hb pv fv st
 facts:znk w0 fv fs
 old:Below w0.heap.size w0 w
 ox:w0.heap.size<=xb
 oh:w0.heap.size<=hb
 lx:xb < lo
 lh:hb < lo
 low:lo<=w.heap.size
 len:st.1.length=fs.length
theorem yac.below{w0 w w':World}{lo g xb hb:Nat}{pv fv vv lv:Value}{ls:List zbu}{fs:List zg4}{B:z99}{st:StW}(h:yac w0 w lo g xb hb pv fv vv lv ls fs B st)(hw:Below w.heap.size w w'):yac w0 w' lo g xb hb pv fv vv lv ls fs B st :=
 ⟨h.lits.below hw,h.fst.below hw,h.snd.below hw,h.der.below hw,h.facts,zae h.old hw (uaa _),h.ox,h.oh,h.lx,h.lh,uap h.low hw.size,h.len⟩
theorem yac.save{w0 w w':World}{lo g xb hb:Nat}{pv fv vv lv:Value}{ls:List zbu}{fs:List zg4}{B:z99}{st st':StW}(h:yac w0 w lo g xb hb pv fv vv lv ls fs B st)(hs:zas [xb,hb] w w')(hd:yam w' xb hb pv fv st')(hl:st'.1.length=st.1.length):yac w0 w' lo g xb hb pv fv vv lv ls fs B st':=by
 have hM:∀ m∈[xb,hb],m < lo:=by
  intro m hm
  simp only[uag,ucs,or_false] at hm
  rcases hm with rfl|rfl
  ·exact h.lx
  ·exact h.lh
 have hsv:∀ {v:Value} {l:List ByteArray},SIn lo w v l->SIn lo w' v l:=fun q=>zbl q hs fun b hb hm=>by have:=zeg q hb;have:=hM b hm;omega
 refine⟨h.lits.save hs hM,hsv h.fst,hsv h.snd,hd,h.facts,h.old.trans (hs.below (fun m hm=>?_) h.old.size),h.ox,h.oh,h.lx,h.lh,uap h.low hs.size,hl.trans h.len⟩
 simp only[uag,ucs,or_false] at hm
 rcases hm with rfl|rfl
 ·exact h.ox
 ·exact h.oh
theorem ybe{p:ByteArray}{fs:List zg4}{k:Nat}(h:zl5 p r fs=some k):z5q p r fs=(k:Int):=by unfold z5q;rw[h]
theorem yb7{p:ByteArray}{fs:List zg4}(h:zl5 p r fs=none):z5q p r fs=-1:=by unfold z5q;rw[h]
theorem yb9(w0 w:World)(lo g xb hb:Nat)(pv fv vv lv:Value)(ls:List zbu)(h:zbu)(body:List zbu)(fs:List zg4)(B:z99)(last:Nat)(st:StW)(hI:yac w0 w lo g xb hb pv fv vv lv ls fs B st)(hls:ls=h::body)(hl:ls.length<=30)(hBl:B.length<=100)(har:∀ l∈ls,l.args.length<=100/\∀ a∈l.args,0 < a.size)(hfl:fs.length<=300)(hfr:∀ f∈fs,f.2.1.length<=1000000) :
  Calls Tryz.prog 52 #[.pointer (some ⟨xb,0,none⟩),.slice (some ⟨g,0,none⟩) ls.length ls.length,.int .i64 ls.length,.agg #[vv,lv],.int .i64 last] w fun e w'=>e=.returned (.tuple #[])/\Hid (yam w' xb hb pv fv (yaw fs h body B last st))/\Hid (zas [xb,hb] w w'):=by
 have hl0:0 < ls.length:=by rw[hls];simp
 have HIW:Hid (∀ W,Below w.heap.size w W->yac w0 W lo g xb hb pv fv vv lv ls fs B st):=fun W hb=>hI.below hb
 have HLT:Hid (∀ W j (hj:j < ls.length),Below w.heap.size w W->g < W.heap.size/\W.cell? ⟨g,j * 3,none⟩=some (.bool ls[j].neg)/\W.cell? ⟨g,j * 3+1,none⟩=some (.string ls[j].pred)/\∃ ga,W.cell? ⟨g,j * 3+2,none⟩=some (.slice (some ⟨ga,0,none⟩) ls[j].args.length ls[j].args.length)/\SIn lo W (.slice (some ⟨ga,0,none⟩) ls[j].args.length ls[j].args.length) ls[j].args):=fun W j hj hb=>by
  obtain⟨_,q1,q2⟩:=(HIW.out W hb).lits
  exact⟨q1,q2 j hj⟩
 have HXC:Hid (∀ W,Below w.heap.size w W->(∀ o,W.cell? ⟨xb,o,none⟩=#[pv,fv,.slice (some ⟨hb,0,none⟩) st.1.length st.1.length,.bool st.2][o]?)/\(∀ o,W.frozen? ⟨xb,o,none⟩=false)/\xb < W.heap.size):=fun W hb=>⟨(HIW.out W hb).der.x.rules.1,(HIW.out W hb).der.x.rules.2,(HIW.out W hb).der.x.lt⟩
 have HROW:Hid (∀ W j (hj:j < ls.length) av lo2,Below w.heap.size w W->SIn lo2 W av ls[j].args->Calls Tryz.prog 89 #[.agg #[vv,lv],av] W fun e w'=>∃ v,e=.returned v/\Hid (SIn W.heap.size w' v (yae B ls[j].args))/\Hid (Below W.heap.size W w')):=fun W j hj av lo2 hb ha=>ycw W vv lv av B ls[j].args (HIW.out W hb).fst (HIW.out W hb).snd ha (by omega) (by have:=(har _ (uad hj)).1;omega) (har _ (uad hj)).2
 have HFIND:Hid (∀ W j (hj:j < ls.length) rv lo2,Below w.heap.size w W->SIn lo2 W rv (yae B ls[j].args)->Calls Tryz.prog 53 #[fv,.string ls[j].pred,rv] W fun e w'=>e=.returned (.int .i64 (z5q ls[j].pred (yae B ls[j].args) fs))/\Below W.heap.size W w'):=fun W j hj rv lo2 hb hr=>z9j W fv fs _ rv _ (hI.facts.below (zae hI.old hb (uaa _))) hr (by omega) (by have:=(har _ (uad hj)).1;simp[yae];omega) hfr
 have HLEAF:Hid (∀ k (hk:k < ls.length),1<=k->ls[k].neg=true->(zl5 ls[k].pred (yae B ls[k].args) fs).isSome=true->yaw fs h body B last st=st):=fun k hk h1 hn hs=>by
  unfold yaw
  rw[if_pos]
  rw[ub4]
  subst hls
  obtain⟨j,rfl⟩:∃ j,k=j+1:=⟨k - 1,by omega⟩
  refine⟨body[j]'(by simpa using hk),uad _,?_⟩
  simp only[ub8] at hn hs
  rw[hn,hs]
  rfl
 have HREST:Hid ((∀ k (hk:k < ls.length),1<=k->¬ (ls[k].neg=true/\(zl5 ls[k].pred (yae B ls[k].args) fs).isSome=true))->yaw fs h body B last st=match zl5 ls[0].pred (yae B ls[0].args) fs with|none=>(st.1,true)|some k=>if last < ((fs[k]?).map (·.2.2)).getD 0 then(st.1.set k true,st.2) else st):=fun q=>by
  unfold yaw
  subst hls
  rw[if_neg]
  ·rfl
  ·intro hq
   rw[ub4] at hq
   obtain⟨l,hl,hq⟩:=hq
   obtain⟨j,hj,rfl⟩:=uau hl
   rw[ubb] at hq
   exact q (j+1) (by simpa using hj) (by omega) (by simpa using hq)
 have HFC:Hid (znk w0 fv fs/\Below w0.heap.size w0 w):=⟨hI.facts,hI.old⟩
 have HDER:Hid (∀ W,Below w.heap.size w W->yam W xb hb pv fv st):=fun W hb=>(HIW.out W hb).der
 have hlen:=hI.len
 have HFV:Hid (∃ ao cap,fv=.slice ao fs.length cap):=by
  obtain⟨ao,cap,efv,_⟩:=hI.facts
  exact⟨ao,cap,efv⟩
 clear hI HIW har hfr hls
 generalize yaw fs h body B last st=res at *
 go_enter Tryz.func52,Tryz.ntmps52
 go_upto_region 2 with fail
 have HB0:Hid (Below w.heap.size w (w.alloc (.cells #[vv,lv] 111))):=(Below.refl _ _).alloc (uaa _) _
 have HBX:Hid (∀ W,Below (w.alloc (.cells #[vv,lv] 111)).heap.size (w.alloc (.cells #[vv,lv] 111)) W->W.cell? ⟨w.heap.size,0,none⟩=some vv/\W.cell? ⟨w.heap.size,1,none⟩=some lv/\w.heap.size < W.heap.size):=fun W hb=>by
  have q:=(Box.new w #[vv,lv] 111).below hb
  exact⟨by rw[q.rules.1];rfl,by rw[q.rules.1];rfl,q.lt⟩
 generalize hwA:w.alloc (.cells #[vv,lv] 111)=wA at *
 clear hwA
 go_wp2
 go_loopw [10] (fun v10 wr=>∃ k:Nat,1<=k/\k<=ls.length/\v10=.int .i64 k/\Hid (∀ j (hj:j < ls.length),1<=j->j < k->¬ (ls[j].neg=true/\(zl5 ls[j].pred (yae B ls[j].args) fs).isSome=true))/\Hid (Below wA.heap.size wA wr)) (fun v10 _=>ls.length - (intOf v10).toNat)
 case atStart=>exact⟨1,by omega,by omega,rfl,fun j hj h1 h2=>by omega,Below.refl _ _⟩
 case round =>
  obtain⟨k,hk1,hk,rfl,HN,HBk⟩:=hrel
  have HBw:Hid (Below w.heap.size w wr):=zae HB0.out HBk.out (uaa _)
  by_cases hkl:k < ls.length
  ·have hki:(k:Int) < (ls.length:Int):=by omega
   have hlt:=HLT.out _ k hkl HBw.out
   have hg:=hlt.1
   obtain⟨ga,c2,hSa⟩:=hlt.2.2.2
   clear hlt
   obtain⟨b0,b1,hlb⟩:=HBX.out _ HBk.out
   have HRC:Hid (∀ W,Below wr.heap.size wr W->Calls Tryz.prog 89 #[.agg #[vv,lv],.slice (some ⟨ga,0,none⟩) ls[k].args.length ls[k].args.length] W fun e w'=>∃ v,e=.returned v/\Hid (SIn w.heap.size w' v (yae B ls[k].args))/\Hid (Below wr.heap.size wr w')/\w'.cell? ⟨g,k * 3+2,none⟩=some (.slice (some ⟨ga,0,none⟩) ls[k].args.length ls[k].args.length)/\w'.cell? ⟨w.heap.size,0,none⟩=some vv/\w'.cell? ⟨w.heap.size,1,none⟩=some lv):=fun W hb=>by
    have hbw:=zae HBw.out hb (uaa _)
    refine(HROW.out W k hkl _ lo hbw (hSa.below hb)).mono ?_
    rintro e w' ⟨v,q1,q2,q3⟩
    have hb3:=zae hb q3.out (uaa _)
    obtain⟨b0,b1,_⟩:=HBX.out w' (zae HBk.out hb3 (uaa _))
    exact⟨v,q1,zbf q2.out hbw.size,hb3,(hb3.cell (p:=⟨g,k * 3+2,none⟩) hg).trans c2,b0,b1⟩
   clear hSa
   generalize ls[k].args.length=al at *
   go_upto_region 5 with fail
   go_cut [11] from 29 to 35 (fun s11 wx=>∃ v,s11=v/\Hid (SIn w.heap.size wx v (yae B ls[k].args))/\Hid (Below wr.heap.size wr wx))
   case first =>
    go_region_held3 (fun w'=>w'.cell? ⟨g,k * 3+2,none⟩=some (.slice (some ⟨ga,0,none⟩) al al)/\w'.cell? ⟨w.heap.size,0,none⟩=some vv/\w'.cell? ⟨w.heap.size,1,none⟩=some lv) (first|go_keep|(go_simp;done)) (first|(go_at_call 89;refine(HRC.out _ (by exact(by repeat'(first|with_reducible(first|exact zR _ _|assumption|refine zN ?_ _|refine zA ?_ ?_ _|refine zD ?_|refine zS ?_ ?_ _)|go_size)))).mono ?_;rintro e w5 ⟨v5,rfl,HS5,HB5,z0,z1,z2⟩))
    go_wp2
    go_meet
    case rel=>exact⟨_,rfl,HS5,HB5⟩
   case rest =>
    obtain⟨v11,hv11,HSx,HBx⟩:=hcut
    obtain rfl:=hv11.symm
    clear hv11
    clear c2 hg b0 b1 hlb HRC
    have HBw2:Hid (Below w.heap.size w wc):=zae HBw.out HBx.out (uaa _)
    have HBk2:Hid (Below wA.heap.size wA wc):=zae HBk.out HBx.out (uaa _)
    have hg:=(HLT.out _ k hkl HBw2.out).1
    have c1:=(HLT.out _ k hkl HBw2.out).2.2.1
    obtain⟨x0,hfx,hlx⟩:=HXC.out _ HBw2.out
    have HFC2:Hid (∀ W,Below wc.heap.size wc W->Calls Tryz.prog 53 #[fv,.string ls[k].pred,v11] W fun e w'=>e=.returned (.int .i64 (z5q ls[k].pred (yae B ls[k].args) fs))/\Hid (Below wc.heap.size wc w')/\w'.cell? ⟨g,k * 3+1,none⟩=some (.string ls[k].pred)/\w'.cell? ⟨xb,1,none⟩=some fv):=fun W hb=>by
     refine(HFIND.out W k hkl v11 _ (zae HBw2.out hb (uaa _)) (HSx.out.below hb)).mono ?_
     rintro e w' ⟨q1,q3⟩
     have hb3:=zae hb q3 (uaa _)
     obtain⟨y0,_,_⟩:=HXC.out w' (zae HBw2.out hb3 (uaa _))
     exact⟨q1,hb3,(hb3.cell (p:=⟨g,k * 3+1,none⟩) hg).trans c1,by rw[y0];rfl⟩
    have x1:wc.cell? ⟨xb,1,none⟩=some fv:=by rw[x0];rfl
    have HNK:Hid (¬ (ls[k].neg=true/\(zl5 ls[k].pred (yae B ls[k].args) fs).isSome=true)->∀ j (hj:j < ls.length),1<=j->j < k+1->¬ (ls[j].neg=true/\(zl5 ls[j].pred (yae B ls[j].args) fs).isSome=true)):=fun q j hj h1 h2=>by
     by_cases hjk:j=k
     ·subst hjk;exact q
     ·exact HN.out j hj h1 (by omega)
    have HLK:Hid (ls[k].neg=true->(zl5 ls[k].pred (yae B ls[k].args) fs).isSome=true->res=st):=HLEAF.out k hkl hk1
    have HCNEG:Hid (∀ W,Below w.heap.size w W->g < W.heap.size/\W.cell? ⟨g,k * 3,none⟩=some (.bool ls[k].neg)):=fun W hb=>⟨(HLT.out W k hkl hb).1,(HLT.out W k hkl hb).2.1⟩
    have HFI1:Hid ((zl5 ls[k].pred (yae B ls[k].args) fs).isSome=true↔0<=z5q ls[k].pred (yae B ls[k].args) fs):=by
     unfold Hid
     cases hq:zl5 ls[k].pred (yae B ls[k].args) fs with
     |none=>rw[yb7 hq];simp
     |some z=>rw[ybe hq];simp
    clear x0
    generalize z5q ls[k].pred (yae B ls[k].args) fs=fi at *
    generalize (zl5 ls[k].pred (yae B ls[k].args) fs).isSome=fb at *
    generalize ls[k].pred=pr at *
    generalize ls[k].neg=ng at *
    go_upto_region 6 with fail
    go_cut [12] from 36 to 46 (fun s12 wx=>s12=.int .i64 fi/\Hid (Below wc.heap.size wc wx))
    case first =>
     go_region_held3 (fun w'=>w'.cell? ⟨g,k * 3+1,none⟩=some (.string pr)/\w'.cell? ⟨xb,1,none⟩=some fv) (first|go_keep|(go_simp;done)) (first|(go_at_call 53;refine(HFC2.out _ (by exact(by repeat'(first|with_reducible(first|exact zR _ _|assumption|refine zN ?_ _|refine zA ?_ ?_ _|refine zD ?_|refine zS ?_ ?_ _)|go_size)))).mono ?_;rintro e w5 ⟨rfl,HB5,z0,z1⟩))
     go_wp2
     go_meet
     case rel=>exact⟨rfl,HB5⟩
    case rest =>
     obtain⟨rfl,HBy⟩:=hcut
     have HBw3:Hid (Below w.heap.size w wc):=zae HBw2.out HBy.out (uaa _)
     have HBk3:Hid (Below wA.heap.size wA wc):=zae HBk2.out HBy.out (uaa _)
     clear hg c1 hfx hlx x1 HFC2
     obtain⟨hg,c0⟩:=HCNEG.out _ HBw3.out
     cases ng with
     |false =>
      have HN2:=HNK.out (by simp)
      have HN3:Hid (∀ j (hj:j < ls.length),1<=j->j < k+1->¬ (ls[j].neg=true/\(zl5 ls[j].pred (yae B ls[j].args) fs).isSome=true)):=HN2
      clear HN2
      go_wp2
      go_roundw
      case rel=>exact⟨k+1,by omega,by omega,by go_num,HN3,HBk3⟩
      case measure=>simp[intOf];omega
     |true =>
      by_cases hfi:0<=fi
      ·have HR:Hid (res=st):=HLK.out rfl (HFI1.out.2 hfi)
       go_wp2
       (try simp only[Exit.inBlock,Exit.then])
       refine bodyPost_ret (results_none rfl _ _ _) rfl ?_
       exact⟨rfl,by rw[Hid,HR.out];exact HDER.out _ HBw3.out,zas.of HBw3.out⟩
      ·have HN3:Hid (∀ j (hj:j < ls.length),1<=j->j < k+1->¬ (ls[j].neg=true/\(zl5 ls[j].pred (yae B ls[j].args) fs).isSome=true)):=HNK.out (fun q=>hfi (HFI1.out.1 q.2))
       go_wp2
       go_roundw
       case rel=>exact⟨k+1,by omega,by omega,by go_num,HN3,HBk3⟩
       case measure=>simp[intOf];omega
  ·have hki:¬ (k:Int) < (ls.length:Int):=by omega
   have HRS:Hid (res=match zl5 ls[0].pred (yae B ls[0].args) fs with|none=>(st.1,true)|some k=>if last < ((fs[k]?).map (·.2.2)).getD 0 then(st.1.set k true,st.2) else st):=HREST.out fun j hj h1=>HN.out j hj h1 (by omega)
   clear HN HREST HLEAF
   have hlt:=HLT.out _ 0 hl0 HBw.out
   have hg:=hlt.1
   obtain⟨ga,c2,hSa⟩:=hlt.2.2.2
   clear hlt
   obtain⟨b0,b1,hlb⟩:=HBX.out _ HBk.out
   have HRC:Hid (∀ W,Below wr.heap.size wr W->Calls Tryz.prog 89 #[.agg #[vv,lv],.slice (some ⟨ga,0,none⟩) ls[0].args.length ls[0].args.length] W fun e w'=>∃ v,e=.returned v/\Hid (SIn w.heap.size w' v (yae B ls[0].args))/\Hid (Below wr.heap.size wr w')/\w'.cell? ⟨g,2,none⟩=some (.slice (some ⟨ga,0,none⟩) ls[0].args.length ls[0].args.length)/\w'.cell? ⟨w.heap.size,0,none⟩=some vv/\w'.cell? ⟨w.heap.size,1,none⟩=some lv):=fun W hb=>by
    have hbw:=zae HBw.out hb (uaa _)
    refine(HROW.out W 0 hl0 _ lo hbw (hSa.below hb)).mono ?_
    rintro e w' ⟨v,q1,q2,q3⟩
    have hb3:=zae hb q3.out (uaa _)
    obtain⟨b0,b1,_⟩:=HBX.out w' (zae HBk.out hb3 (uaa _))
    exact⟨v,q1,zbf q2.out hbw.size,hb3,(hb3.cell (p:=⟨g,2,none⟩) hg).trans c2,b0,b1⟩
   clear hSa
   simp only[Nat.zero_mul,ubl] at c2
   have hli:(0:Int) < (ls.length:Int):=by omega
   generalize ls[0].args.length=al at *
   go_upto_region 8 with fail
   go_cut [13] from 56 to 61 (fun s13 wx=>∃ v,s13=v/\Hid (SIn w.heap.size wx v (yae B ls[0].args))/\Hid (Below wr.heap.size wr wx))
   case first =>
    go_region_held3 (fun w'=>w'.cell? ⟨g,2,none⟩=some (.slice (some ⟨ga,0,none⟩) al al)/\w'.cell? ⟨w.heap.size,0,none⟩=some vv/\w'.cell? ⟨w.heap.size,1,none⟩=some lv) (first|go_keep|(go_simp;done)) (first|(go_at_call 89;refine(HRC.out _ (by exact(by repeat'(first|with_reducible(first|exact zR _ _|assumption|refine zN ?_ _|refine zA ?_ ?_ _|refine zD ?_|refine zS ?_ ?_ _)|go_size)))).mono ?_;rintro e w5 ⟨v5,rfl,HS5,HB5,z0,z1,z2⟩))
    go_wp2
    go_meet
    case rel=>exact⟨_,rfl,HS5,HB5⟩
   case rest =>
    obtain⟨v13,hv13,HSx,HBx⟩:=hcut
    obtain rfl:=hv13.symm
    clear hv13 c2 hg b0 b1 hlb HRC
    have HBw2:Hid (Below w.heap.size w wc):=zae HBw.out HBx.out (uaa _)
    have HBk2:Hid (Below wA.heap.size wA wc):=zae HBk.out HBx.out (uaa _)
    have hg:=(HLT.out _ 0 hl0 HBw2.out).1
    have c1:=(HLT.out _ 0 hl0 HBw2.out).2.2.1
    simp only[Nat.zero_mul,ubl] at c1
    obtain⟨x0,hfx,hlx⟩:=HXC.out _ HBw2.out
    have HFC2:Hid (∀ W,Below wc.heap.size wc W->Calls Tryz.prog 53 #[fv,.string ls[0].pred,v13] W fun e w'=>e=.returned (.int .i64 (z5q ls[0].pred (yae B ls[0].args) fs))/\Hid (Below wc.heap.size wc w')/\w'.cell? ⟨g,1,none⟩=some (.string ls[0].pred)/\w'.cell? ⟨xb,1,none⟩=some fv):=fun W hb=>by
     refine(HFIND.out W 0 hl0 v13 _ (zae HBw2.out hb (uaa _)) (HSx.out.below hb)).mono ?_
     rintro e w' ⟨q1,q3⟩
     have hb3:=zae hb q3 (uaa _)
     obtain⟨y0,_,_⟩:=HXC.out w' (zae HBw2.out hb3 (uaa _))
     exact⟨q1,hb3,(hb3.cell (p:=⟨g,1,none⟩) hg).trans c1,by rw[y0];rfl⟩
    have x1:wc.cell? ⟨xb,1,none⟩=some fv:=by rw[x0];rfl
    have HFI1:Hid (z5q ls[0].pred (yae B ls[0].args) fs=match zl5 ls[0].pred (yae B ls[0].args) fs with|none=>-1|some k=>(k:Int)):=rfl
    have HFI2:Hid (∀ z,zl5 ls[0].pred (yae B ls[0].args) fs=some z->z < fs.length):=fun z hz=>(yai hz).1
    clear x0
    generalize z5q ls[0].pred (yae B ls[0].args) fs=fi at *
    generalize zl5 ls[0].pred (yae B ls[0].args) fs=ff at *
    generalize ls[0].pred=pr at *
    go_upto_region 9 with fail
    go_cut [14] from 62 to 71 (fun s14 wx=>s14=.int .i64 fi/\Hid (Below wc.heap.size wc wx))
    case first =>
     go_region_held3 (fun w'=>w'.cell? ⟨g,1,none⟩=some (.string pr)/\w'.cell? ⟨xb,1,none⟩=some fv) (first|go_keep|(go_simp;done)) (first|(go_at_call 53;refine(HFC2.out _ (by exact(by repeat'(first|with_reducible(first|exact zR _ _|assumption|refine zN ?_ _|refine zA ?_ ?_ _|refine zD ?_|refine zS ?_ ?_ _)|go_size)))).mono ?_;rintro e w5 ⟨rfl,HB5,z0,z1⟩))
     go_wp2
     go_meet
     case rel=>exact⟨rfl,HB5⟩
    case rest =>
     obtain⟨rfl,HBy⟩:=hcut
     have HBw3:Hid (Below w.heap.size w wc):=zae HBw2.out HBy.out (uaa _)
     clear hg c1 hfx hlx x1 HFC2 HBk2 HBx HBy
     have HD3:Hid (yam wc xb hb pv fv st):=HDER.out _ HBw3.out
     obtain⟨x0,hfx,hlx⟩:=HXC.out _ HBw3.out
     cases ff with
     |none =>
      have HR:Hid (res=(st.1,true)):=HRS.out
      obtain rfl:fi=-1:=HFI1.out
      go_wp2
      (try simp only[Exit.inBlock,Exit.then])
      refine bodyPost_ret (results_none rfl _ _ _) rfl ?_
      exact⟨rfl,by rw[Hid,HR.out];exact HD3.out.miss,((zas.of HBw3.out).trans ((zas.set wc xb 3 (.bool true)).more (by simp)))⟩
     |some z =>
      have hz:=HFI2.out z rfl
      obtain rfl:fi=(z:Int):=HFI1.out
      have hF:=HFC.out.1.below (zae HFC.out.2 HBw3.out (uaa _))
      obtain⟨ao,cap,rfl,hcells⟩:=hF
      obtain⟨gf,gi,lof,rfl,hgf,_,_,cw,_⟩:=hcells z hz
      have HR:Hid (res=if last < fs[z].2.2 then(st.1.set z true,st.2) else st):=by
       rw[Hid,HRS.out]
       simp[List.getElem?_eq_getElem hz]
      have hzn:¬ (z:Int) < 0:=by omega
      have hzi:(z:Int) < (fs.length:Int):=by omega
      have hzs:(z:Int) < (st.1.length:Int):=by omega
      have hzl:z < st.1.length:=by omega
      obtain⟨hh,hhf⟩:=HD3.out.has.rules
      have hhl:=HD3.out.has.lt
      have hhz:wc.cell? ⟨hb,z,none⟩=some (.bool st.1[z]):=by rw[hh];simp[hzl]
      have hhz2:=hhf z
      clear hcells hh hhf
      by_cases hw:last < fs[z].2.2
      ·rw[if_pos hw] at HR
       have hwi:(fs[z].2.2:Int) > (last:Int):=by omega
       clear hw
       generalize fs[z].2.2=fw at *
       generalize st.1[z]=ob at *
       go_wp2
       (try simp only[Exit.inBlock,Exit.then])
       refine bodyPost_ret (results_none rfl _ _ _) rfl ?_
       exact⟨rfl,by rw[Hid,HR.out];exact HD3.out.mark z,((zas.of HBw3.out).trans ((zas.set wc hb z (.bool true)).more (by simp)))⟩
      ·rw[if_neg hw] at HR
       have hwi:¬ (fs[z].2.2:Int) > (last:Int):=by omega
       clear hw
       generalize fs[z].2.2=fw at *
       go_wp2
       (try simp only[Exit.inBlock,Exit.then])
       refine bodyPost_ret (results_none rfl _ _ _) rfl ?_
       exact⟨rfl,by rw[Hid,HR.out];exact HD3.out,zas.of HBw3.out⟩
end Go.Proofs.YteampbddflhngaaGreat
