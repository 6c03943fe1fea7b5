import Derived.Test.YteampbddflhngaaGreatB36
import Derived.Test.YteampbddflhngaaGreatB10
import Derived.Test.YteampbddflhngaaGreatB45
import Derived.Test.YteampbddflhngaaGreatB38

namespace Go.Proofs.YteampbddflhngaaGreat
set_option maxRecDepth 100000
set_option maxHeartbeats 4000000
open Go.RowKit
variable {lo lp:Nat}
theorem Tryz.infoSS:(Tryz.prog.info? 30).map (fun i=>(i.zero,i.size,i.bytes))=some (some (.slice none 0 0),1,24):=by kernel_rfl
theorem yb6(w:World)(tb:Nat)(T:zae)(fp:List Nat)(n:Nat)(rs:List zas)(h:zau lo w tb T fp)(hr:rowsG n T=some rs) :
  Calls Tryz.prog 78 #[.pointer (some ⟨tb,0,none⟩)] w fun e w'=>∃ v,e=.returned v/\RowsIn w.heap.size w' v rs/\Below w.heap.size w w':=by
 unfold rowsG at hr
 cases hf:zs5 n T with
 |none=>rw[hf] at hr;cases hr
 |some rs' =>
  rw[hf] at hr
  simp only at hr
  split at hr
  ·simp only[Option.some.injEq] at hr
   subst hr
   exact z0d w tb T fp h n rs' hf (by assumption)
  ·cases hr
theorem z4n{n:Nat}{T:zae}{rs:List zas}(hr:rowsG n T=some rs):rs.length<=1048576:=by
 unfold rowsG at hr
 cases hf:zs5 n T with
 |none=>rw[hf] at hr;cases hr
 |some rs' =>
  rw[hf] at hr
  simp only at hr
  split at hr
  ·simp only[Option.some.injEq] at hr
   subst hr
   assumption
  ·cases hr
def zry(ns:List ByteArray)(ar:Nat)(r:zas):zbc:=⟨false,ByteArray.empty,za0 ns r ar 3⟩
def zmh(ar g:Nat):Value:=.slice (some ⟨g,0,none⟩) ar ar
def zzm(ns:List ByteArray)(ar:Nat)(rs:List zas)(w:World)(e:Ending)(w':World):Prop:=∃ g gs,w.heap.size<=g/\e=.returned (.tuple #[.slice (some ⟨g,0,none⟩) rs.length rs.length,.int .i64 0])/\w'.ownsRow w.heap.size 30 1 (.slice (some ⟨g,0,none⟩) rs.length rs.length) rs.length (gs.map (zmh ar))/\Copies w.heap.size w' (rs.map (zry ns ar)) gs/\Below w.heap.size w w'
theorem z4c(w:World)(rb:Nat)(t:List zaq)(ns:List ByteArray)(R:zbd)(pv nv rv:Value)(tbs:List Nat)(pred:ByteArray)(h:zqk lo lp w rb t ns R pv nv rv tbs)(hs':(zbh t pred).isSome=true)(hfi:zbi t pred < R.rows.length)(n:Nat)(rs:List zas)(hr:rowsG n R.rows[zbi t pred]=some rs)(har:za1 t (zbi t pred)<=1000) :
  Calls Tryz.prog 38 #[.pointer (some ⟨rb,0,none⟩),.string pred] w fun e w'=>zzm ns (za1 t (zbi t pred)) rs w e w':=by
 have HFI:Hid (Calls Tryz.prog 77 #[.pointer (some ⟨rb,0,none⟩),.string pred] w fun e w'=>e=.returned (.tuple #[.int .i64 (zbi t pred:Nat),.bool (zbh t pred).isSome])/\w'=w):=zoo lp w rb 0 t pred h.tg h.few.1
 rw[hs'] at HFI
 have HRE:Hid (zqk lo lp w rb t ns R pv nv rv tbs):=h
 obtain⟨hc,hf⟩:=h.box.rules
 have hlt:=h.box.lt
 obtain⟨aor,capr,hrv⟩:=zac h.rows
 subst hrv
 have d2:=hc 2
 have hfew:=h.few.2.2
 have hgi:¬ (R.rows.length:Int)<=(zbi t pred:Int):=by omega
 clear h hc hs'
 have HAR:Hid (∀ W,Below w.heap.size w W->Calls Tryz.prog 80 #[.pointer (some ⟨rb,0,none⟩),.int .i64 (zbi t pred:Nat)] W fun e w'=>e=.returned (.int .i64 (za1 t (zbi t pred):Nat))/\w'=W):=fun W hb=>zmw lp W rb 0 t _ (HRE.out.below hb).tg
 generalize zbi t pred=fi at *
 have hft:fi < tbs.length:=by rw[HRE.out.tlen];exact hfi
 obtain⟨gr,capr',hvr,_,hgr,hcr⟩:=zam HRE.out.rows (by omega)
 simp only[Value.slice.injEq] at hvr
 have hgg:=hvr.1
 clear hvr
 subst hgg
 have hcp:=hcr fi (.pointer (some ⟨tbs[fi],0,none⟩)) (by simp[pts,hft,pt])
 have HRS:Hid (Calls Tryz.prog 78 #[.pointer (some ⟨tbs[fi],0,none⟩)] w fun e w'=>∃ v,e=.returned v/\RowsIn w.heap.size w' v rs/\Below w.heap.size w w'):=by
  obtain⟨fp,q⟩:=HRE.out.tries fi hfi hft
  exact yb6 w _ _ fp n rs q hr
 have hrl:=z4n hr
 have hfii:(fi:Int) < (R.rows.length:Int):=by omega
 obtain⟨i0,hi,hz0,hzs,hzb⟩:=info_parts Tryz.infoSS
 have hmk:=fun W0:World=>run_make (P:=Tryz.prog) (w:=W0) 31 30 i0 _ Tryz.underlying31 hi hz0 .i64 .i64 (rs.length:Int) (rs.length:Int) (by omega) (Int.le_refl _) (by rw[hzb];omega) (by omega)
 rw[hzs] at hmk
 have HTE:Hid (∀ W (x y z:Nat),Below w.heap.size w W->Calls Tryz.prog 79 #[.pointer (some ⟨rb,0,none⟩),.agg #[.int .i64 (x:Nat),.int .i64 (y:Nat),.int .i64 (z:Nat)],.int .i64 (za1 t fi)] W fun e w'=>∃ g,W.heap.size<=g/\e=.returned (.slice (some ⟨g,0,none⟩) (za1 t fi) (za1 t fi))/\SIn W.heap.size w' (.slice (some ⟨g,0,none⟩) (za1 t fi) (za1 t fi)) (za0 ns [x,y,z] (za1 t fi) 3)/\Below W.heap.size W w'):=fun W x y z hb=>z3b W rb _ x y z ns (HRE.out.below hb).cat har
 generalize za1 t fi=ar at *
 generalize tbs[fi]=tb at *
 clear hcr hr
 go_enter Tryz.func38,Tryz.ntmps38
 go_wp2_with (first|(go_at_call 77;refine HFI.out.mono ?_;rintro e w1 ⟨rfl,hww⟩;obtain rfl:=hww.symm)|(go_at_call 78;refine HRS.out.mono ?_;rintro e w1 ⟨v1,rfl,HV1,hb1⟩;obtain⟨aov,capv,rfl⟩:=zac HV1.1))
 have hg1:Below w1.heap.size w1 (w1.alloc (.cells (madeCells #[.slice none 0 0] rs.length) 30)):=(by repeat'(first|with_reducible(first|exact zR _ _|assumption|refine zN ?_ _|refine zA ?_ ?_ _|refine zD ?_|refine zS ?_ ?_ _)|go_size))
 have hB1:Below w.heap.size w (w1.alloc (.cells (madeCells #[.slice none 0 0] rs.length) 30)):=zad hb1 hg1 (Nat.le_refl _)
 have hrow:=zbf (zh2 w1 rs.length 30 (.slice none 0 0) (by unfold maxLen;omega)) hb1.size
 have HR0:Hid (World.ownsRow (w1.alloc (.cells (madeCells #[.slice none 0 0] rs.length) 30)) w.heap.size 30 1 (.slice (some ⟨w1.heap.size,0,none⟩) rs.length rs.length) rs.length (([]:List Nat).map (zmh ar)++List.replicate (rs.length - 0) (.slice none 0 0))):=hrow
 have HV2:Hid (RowsIn w.heap.size (w1.alloc (.cells (madeCells #[.slice none 0 0] rs.length) 30)) (.slice aov rs.length capv) rs):=⟨zab HV1.1 hg1,HV1.2⟩
 have hgl:w.heap.size<=w1.heap.size:=hb1.size
 clear hrow hmk HRS HV1 hg1 HFI
 generalize w1.alloc (.cells (madeCells #[.slice none 0 0] rs.length) 30)=w2 at *
 generalize w1.heap.size=g at *
 clear hb1
 go_loopw [46] (fun v46 wr=>∃(m:Nat) (gs:List Nat),m<=rs.length/\v46=.int .i64 m/\Below w.heap.size w wr/\gs.length=m/\Hid (wr.ownsRow w.heap.size 30 1 (.slice (some ⟨g,0,none⟩) rs.length rs.length) rs.length (gs.map (zmh ar)++List.replicate (rs.length - m) (.slice none 0 0)))/\Hid (Copies w.heap.size wr ((rs.take m).map (zry ns ar)) gs)/\Hid (RowsIn w.heap.size wr (.slice aov rs.length capv) rs)) (fun i _=>rs.length - (intOf i).toNat)
 case atStart=>exact⟨0,[],Nat.zero_le _,rfl,hB1,rfl,HR0,Copies.nil _,HV2⟩
 case round =>
  clear HR0 HV2 hB1
  obtain⟨m,gs,hm,rfl,hbk,hgs,HR,HC,HV⟩:=hrel
  have HGS:Hid (gs.length=m):=hgs
  clear hgs
  have hgwr:g < wr.heap.size:=zdr HR.out rfl
  have hfz:=zbv HR.out
  have hrl2:rb < wr.heap.size:=Nat.lt_of_lt_of_le hlt hbk.size
  by_cases hml:m < rs.length
  ·obtain⟨gv,cv,x,y,z,hv,hgv,hxyz,c0,c1,c2⟩:=HV.out.cell m hml
   simp only[Value.slice.injEq] at hv
   have hgg:=hv.1
   clear hv
   subst hgg
   have hmi:(m:Int) < (rs.length:Int):=by omega
   have HTK:Hid (rs.take (m+1)=rs.take m++[[x,y,z]]):=show rs.take (m+1)=rs.take m++[[x,y,z]] by rw[List.take_succ_eq_append_getElem hml,hxyz]
   clear hxyz
   have HTE2:Hid (∀ W,Below wr.heap.size wr W->Calls Tryz.prog 79 #[.pointer (some ⟨rb,0,none⟩),.agg #[.int .i64 (x:Nat),.int .i64 (y:Nat),.int .i64 (z:Nat)],.int .i64 ar] W fun e w'=>∃ g,W.heap.size<=g/\e=.returned (.slice (some ⟨g,0,none⟩) ar ar)/\Hid (SIn W.heap.size w' (.slice (some ⟨g,0,none⟩) ar ar) (za0 ns [x,y,z] ar 3))/\Below W.heap.size W w'):=fun W hb=>HTE.out W x y z (zad hbk hb (Nat.le_refl _))
   have HAR2:Hid (∀ W,Below wr.heap.size wr W->Calls Tryz.prog 80 #[.pointer (some ⟨rb,0,none⟩),.int .i64 (fi:Nat)] W fun e w'=>e=.returned (.int .i64 (ar:Nat))/\w'=W):=fun W hb=>HAR.out W (zad hbk hb (Nat.le_refl _))
   go_upto_region 9 with fail
   have hg4:Below wr.heap.size wr (wr.alloc (.cells #[.int .i64 (x:Nat),.int .i64 (y:Nat),.int .i64 (z:Nat)] 165)):=(by repeat'(first|with_reducible(first|exact zR _ _|assumption|refine zN ?_ _|refine zA ?_ ?_ _|refine zD ?_|refine zS ?_ ?_ _)|go_size))
   have hb10:=Box.new wr #[.int .i64 (x:Nat),.int .i64 (y:Nat),.int .i64 (z:Nat)] 165
   generalize wr.alloc (.cells #[.int .i64 (x:Nat),.int .i64 (y:Nat),.int .i64 (z:Nat)] 165)=W4 at *
   have v0:W4.cell? ⟨wr.heap.size,0,none⟩=some (.int .i64 (x:Nat)):=by rw[hb10.rules.1];rfl
   have v1:W4.cell? ⟨wr.heap.size,1,none⟩=some (.int .i64 (y:Nat)):=by rw[hb10.rules.1];rfl
   have v2:W4.cell? ⟨wr.heap.size,2,none⟩=some (.int .i64 (z:Nat)):=by rw[hb10.rules.1];rfl
   have hl3:wr.heap.size < W4.heap.size:=hb10.lt
   have hR4:=zab HR.out hg4
   have hgW:g < W4.heap.size:=zdr hR4 rfl
   obtain⟨sx,hsx⟩:∃ sx,W4.cell? ⟨g,m,none⟩=some sx:=by
    obtain⟨g',cap',hv',_,_,hcl'⟩:=zam hR4 (by omega)
    simp only[Value.slice.injEq,Option.some.injEq,Addr.mk.injEq,and_true] at hv'
    have e:=hv'.1
    subst e
    exact⟨_,hcl' m _ (List.getElem?_eq_getElem (by simp[HGS.out];omega))⟩
   have hfW:=zbv hR4
   have HR4:Hid (W4.ownsRow w.heap.size 30 1 (.slice (some ⟨g,0,none⟩) rs.length rs.length) rs.length (gs.map (zmh ar)++List.replicate (rs.length - m) (.slice none 0 0))):=hR4
   have HC4:Hid (Copies w.heap.size W4 ((rs.take m).map (zry ns ar)) gs):=HC.out.mono (fun _ _ q=>q.below hg4)
   have HV4:Hid (RowsIn w.heap.size W4 (.slice (some ⟨gv,0,none⟩) rs.length capv) rs):=HV.out.below' hg4
   have hB4:Below w.heap.size w W4:=zad hbk hg4 (Nat.le_refl _)
   have HTE3:Hid (∀ W,Below W4.heap.size W4 W->Calls Tryz.prog 79 #[.pointer (some ⟨rb,0,none⟩),.agg #[.int .i64 (x:Nat),.int .i64 (y:Nat),.int .i64 (z:Nat)],.int .i64 ar] W fun e w'=>∃ gt,W4.heap.size<=gt/\e=.returned (.slice (some ⟨gt,0,none⟩) ar ar)/\Hid (SIn W4.heap.size w' (.slice (some ⟨gt,0,none⟩) ar ar) (za0 ns [x,y,z] ar 3))/\Hid (Below W4.heap.size W4 w')/\w'.cell? ⟨wr.heap.size,0,none⟩=some (.int .i64 (x:Nat))/\w'.cell? ⟨wr.heap.size,1,none⟩=some (.int .i64 (y:Nat))/\w'.cell? ⟨wr.heap.size,2,none⟩=some (.int .i64 (z:Nat))/\w'.cell? ⟨g,m,none⟩=some sx/\g < w'.heap.size/\∀ o,w'.frozen? ⟨g,o,none⟩=false):=fun W hb=>by
    refine(HTE2.out W (zad hg4 hb (Nat.le_refl _))).mono ?_
    rintro e w' ⟨gt,h1,h2,h3,h4⟩
    have hq:=zad hb h4 (Nat.le_refl _)
    have hs:=hb.size
    exact⟨gt,by omega,h2,h3.out.low hb.size,hq,(hq.cell hl3).trans v0,(hq.cell hl3).trans v1,(hq.cell hl3).trans v2,(hq.cell hgW).trans hsx,Nat.lt_of_lt_of_le hgW hq.size,zbv (zab HR4.out hq)⟩
   have HAR3:Hid (∀ W,Below W4.heap.size W4 W->Calls Tryz.prog 80 #[.pointer (some ⟨rb,0,none⟩),.int .i64 (fi:Nat)] W fun e w'=>e=.returned (.int .i64 (ar:Nat))/\w'=W):=fun W hb=>HAR2.out W (zad hg4 hb (Nat.le_refl _))
   clear HTE2 HAR2 hR4 hb10 hg4 HR HC HV c0 c1 c2 hgv hfz
   go_region_held3 (fun w'=>w'.cell? ⟨wr.heap.size,0,none⟩=some (.int .i64 (x:Nat))/\w'.cell? ⟨wr.heap.size,1,none⟩=some (.int .i64 (y:Nat))/\w'.cell? ⟨wr.heap.size,2,none⟩=some (.int .i64 (z:Nat))) (first|go_keep|(go_simp;done)) (first|(go_at_call 79;refine(HTE3.out _ (by exact(by repeat'(first|with_reducible(first|exact zR _ _|assumption|refine zN ?_ _|refine zA ?_ ?_ _|refine zD ?_|refine zS ?_ ?_ _)|go_size)))).mono ?_;rintro e w5 ⟨gt,hgt,rfl,HS5,HB5,a0,a1,a2,ax,ag,af⟩)|(go_at_call 80;refine(HAR3.out _ (by exact(by repeat'(first|with_reducible(first|exact zR _ _|assumption|refine zN ?_ _|refine zA ?_ ?_ _|refine zD ?_|refine zS ?_ ?_ _)|go_size)))).mono ?_;rintro e w6 ⟨rfl,hww⟩;obtain rfl:=hww.symm))
   have hR5:=zab HR4.out HB5.out
   have hML:Hid ((gs.map (zmh ar)++List.replicate (rs.length - m) (Value.slice none 0 0)).set m (zmh ar gt)=(gs++[gt]).map (zmh ar)++List.replicate (rs.length - (m+1)) (Value.slice none 0 0)):=show _=_ by
    obtain⟨k,hk⟩:∃ k,rs.length - m=k+1:=⟨rs.length - m - 1,by omega⟩
    have hk2:rs.length - (m+1)=k:=by omega
    rw[List.set_append,if_neg (by simp[HGS.out]),hk,hk2,List.replicate_succ]
    simp[HGS.out]
   have hset:=zb4 hR5 m (by simp[HGS.out];omega) (zmh ar gt)
   rw[hML.out] at hset
   have hsv:zat [g] w5 (w5.setCell ⟨g,m,none⟩ (.slice (some ⟨gt,0,none⟩) ar ar)):=zat.set _ _ _ _
   obtain⟨cg,hcg⟩:=zeg hR5 (b:=g) rfl
   have hOf:=OfT.box hcg
   have HR6:Hid (World.ownsRow (w5.setCell ⟨g,m,none⟩ (.slice (some ⟨gt,0,none⟩) ar ar)) w.heap.size 30 1 (.slice (some ⟨g,0,none⟩) rs.length rs.length) rs.length ((gs++[gt]).map (zmh ar)++List.replicate (rs.length - (m+1)) (.slice none 0 0))):=hset
   have HC6:Hid (Copies w.heap.size (w5.setCell ⟨g,m,none⟩ (.slice (some ⟨gt,0,none⟩) ar ar)) ((rs.take (m+1)).map (zry ns ar)) (gs++[gt])):=show Copies _ _ _ _ by
    rw[HTK.out,List.map_append]
    have hz:=hB4.size
    refine Copies.mono (w:=w5) ?_ (fun _ _ q=>zak q hsv hOf (by decide))
    refine(HC4.out.mono (fun _ _ q=>q.below HB5.out)).snoc (l:=zry ns ar [x,y,z]) (fun a ha=>by have:=HC4.out.lt a ha;omega) (by omega) ?_
    show SIn w.heap.size w5 (.slice (some ⟨gt,0,none⟩) (za0 ns [x,y,z] ar 3).length (za0 ns [x,y,z] ar 3).length) (za0 ns [x,y,z] ar 3)
    rw[zdk]
    exact HS5.out.low (by omega)
   have HV6:Hid (RowsIn w.heap.size (w5.setCell ⟨g,m,none⟩ (.slice (some ⟨gt,0,none⟩) ar ar)) (.slice (some ⟨gv,0,none⟩) rs.length capv) rs):=⟨zak (HV4.out.below' HB5.out).1 hsv hOf (by decide),HV4.out.2⟩
   have hB6:Below w.heap.size w (w5.setCell ⟨g,m,none⟩ (.slice (some ⟨gt,0,none⟩) ar ar)):=(zad hB4 HB5.out (Nat.le_refl _)).setCell (by simpa using hgl) _
   have HGS6:Hid ((gs++[gt]).length=m+1):=show(gs++[gt]).length=m+1 by simp[HGS.out]
   clear hset hR5 hsv hOf HR4 HC4 HV4 HS5 HB5 a0 a1 a2 ax ag af v0 v1 v2
   generalize w5.setCell ⟨g,m,none⟩ (.slice (some ⟨gt,0,none⟩) ar ar)=w7 at *
   go_wp2
   go_roundw
   case rel=>exact⟨m+1,gs++[gt],by omega,by go_num,hB6,HGS6.out,HR6,HC6,HV6⟩
   case measure=>simp[intOf];omega
  ·obtain rfl:m=rs.length:=by omega
   have q1:=HR.out
   have q2:=HC.out
   rw[Nat.sub_self,List.replicate_zero,List.append_nil] at q1
   rw[List.take_length] at q2
   have HQ:Hid (_/\_):=And.intro q1 q2
   clear q1 q2 HR HC HV HGS
   go_wp2
   go_ret2
   exact⟨g,gs,hgl,rfl,HQ.out.1,HQ.out.2,hbk⟩
end Go.Proofs.YteampbddflhngaaGreat

namespace Go.Proofs.YteampbddflhngaaGreat
open Classical
end Go.Proofs.YteampbddflhngaaGreat

namespace Go.Proofs.YteampbddflhngaaGreat
theorem zlq{ns:List ByteArray}(h:zcj ns){i j:Nat}(hij:i < j)(hj:j < ns.length):ltB (ns.getD i ByteArray.empty) (ns.getD j ByteArray.empty)=true:=by
 have hi:i < ns.length:=by omega
 rw[getD_lt _ hi,getD_lt _ hj]
 exact List.pairwise_iff_getElem.1 h i j hi hj hij
theorem zyo{ns:List ByteArray}(h:zcj ns)(x:ByteArray):∀(n l hh:Nat),l<=hh->hh<=ns.length->hh - l < n->(∀ i,i < l->ltB (ns.getD i ByteArray.empty) x=true)->(∀ i,hh<=i->i < ns.length->ltB (ns.getD i ByteArray.empty) x=false)->halves ns x n l hh<=ns.length/\(∀ i,i < halves ns x n l hh->ltB (ns.getD i ByteArray.empty) x=true)/\∀ i,halves ns x n l hh<=i->i < ns.length->ltB (ns.getD i ByteArray.empty) x=false:=by
 intro n
 induction n with
 |zero=>intro l hh _ _ q;omega
 |succ n ih =>
  intro l hh h1 h2 h3 h4 h5
  unfold halves
  by_cases hlt:l < hh
  ·rw[if_pos hlt]
   have hm:l+(hh - l) / 2 < hh:=by omega
   have hml:l<=l+(hh - l) / 2:=by omega
   generalize l+(hh - l) / 2=m at *
   by_cases hL:ltB (ns.getD m ByteArray.empty) x=true
   ·rw[if_pos hL]
    refine ih (m+1) hh (by omega) h2 (by omega) (fun i hi=>?_) h5
    by_cases him:i=m
    ·rw[him];exact hL
    ·exact lt_trans (zlq h (show i < m by omega) (by omega)) hL
   ·rw[if_neg hL]
    have hL':ltB (ns.getD m ByteArray.empty) x=false:=by simpa using hL
    refine ih l m hml (by omega) (by omega) h4 (fun i hi hn=>?_)
    by_cases him:i=m
    ·rw[him];exact hL'
    ·cases hq:ltB (ns.getD i ByteArray.empty) x with
     |false=>rfl
     |true =>
      have:=lt_trans (zlq h (show m < i by omega) hn) hq
      rw[this] at hL'
      cases hL'
  ·rw[if_neg hlt]
   exact⟨by omega,h4,fun i hi hn=>h5 i (by omega) hn⟩
theorem zpq{ns:List ByteArray}(h:zcj ns)(x:ByteArray):zbr ns x<=ns.length/\(∀ i,i < zbr ns x->ltB (ns.getD i ByteArray.empty) x=true)/\∀ i,zbr ns x<=i->i < ns.length->ltB (ns.getD i ByteArray.empty) x=false :=
 zyo h x _ 0 ns.length (Nat.zero_le _) (Nat.le_refl _) (by omega) (fun i hi=>by omega) (fun i hi hn=>by omega)
theorem zvg{ns:List ByteArray}(h:zcj ns){v:Nat}(hv:v < ns.length):zc4 ns (ns.getD v ByteArray.empty)=some v:=by
 obtain⟨p1,p2,p3⟩:=zpq h (ns.getD v ByteArray.empty)
 have hp:zbr ns (ns.getD v ByteArray.empty)=v:=by
  rcases Nat.lt_trichotomy (zbr ns (ns.getD v ByteArray.empty)) v with q|q|q
  ·have:=p3 _ (Nat.le_refl _) (by omega)
   rw[zlq h q hv] at this
   cases this
  ·exact q
  ·have:=p2 v q
   rw[lt_irrefl] at this
   cases this
 unfold zc4
 rw[hp,if_pos ⟨hv,rfl⟩]
theorem z2t{ns:List ByteArray}(h:zcj ns){x:ByteArray}(hx:x∈ns):∃ v,zc4 ns x=some v/\v < ns.length:=by
 obtain⟨v,hv,rfl⟩:=List.getElem_of_mem hx
 have:=zvg h hv
 rw[getD_lt _ hv] at this
 exact⟨v,this,hv⟩
theorem z6a{ns:List ByteArray}(h:zcj ns)(x:ByteArray):zcj (z7z ns x)/\∀ y,y∈z7z ns x↔y=x∨y∈ns:=by
 unfold z7z
 obtain⟨p1,p2,p3⟩:=zpq h x
 by_cases hc:zbr ns x < ns.length/\ns.getD (zbr ns x) ByteArray.empty=x
 ·rw[if_pos hc]
  refine⟨h,fun y=>⟨Or.inr,fun q=>q.elim (fun e=>?_) id⟩⟩
  rw[e,← hc.2,getD_lt _ hc.1]
  exact List.getElem_mem hc.1
 ·rw[if_neg hc]
  generalize zbr ns x=p at *
  refine⟨?_,fun y=>?_⟩
  ·unfold zcj
   have hsp:ns.take p++ns.drop p=ns:=List.take_append_drop p ns
   have hall:=h
   unfold zcj at hall
   rw[← hsp,List.pairwise_append] at hall
   rw[List.pairwise_append,List.pairwise_cons]
   have hlo:∀ a∈ns.take p,ltB a x=true:=fun a ha=>by
    obtain⟨i,hi,rfl⟩:=List.getElem_of_mem ha
    have hi':i < p:=by simp at hi;omega
    have hin:i < ns.length:=by omega
    have:=p2 i hi'
    rw[getD_lt _ hin] at this
    simpa using this
   have hhi:∀ b∈ns.drop p,ltB x b=true:=fun b hb=>by
    obtain⟨i,hi,rfl⟩:=List.getElem_of_mem hb
    have hin:p+i < ns.length:=by simp at hi;omega
    have h1:=p3 (p+i) (by omega) hin
    rw[getD_lt _ hin] at h1
    rw[List.getElem_drop]
    cases hq:ltB x ns[p+i] with
    |true=>rfl
    |false =>
     exfalso
     have e:=zy7 h1 hq
     by_cases hi0:i=0
     ·subst hi0
      exact hc ⟨by omega,by rw[getD_lt _ (by omega)];simpa using e⟩
     ·have h2:=zlq h (show p < p+i by omega) hin
      rw[getD_lt _ hin,e] at h2
      have h3:=p3 p (Nat.le_refl _) (by omega)
      rw[h3] at h2
      cases h2
   refine⟨hall.1,⟨hhi,hall.2.1⟩,fun a ha b hb=>?_⟩
   rcases List.mem_cons.1 hb with rfl|hb
   ·exact hlo a ha
   ·exact hall.2.2 a ha b hb
  ·have:y∈ns↔y∈ns.take p∨y∈ns.drop p:=by
    rw[← List.mem_append,List.take_append_drop]
   rw[this]
   simp only[List.mem_append,List.mem_cons]
   constructor
   ·rintro(q|q|q)
    ·exact Or.inr (Or.inl q)
    ·exact Or.inl q
    ·exact Or.inr (Or.inr q)
   ·rintro(q|q|q)
    ·exact Or.inr (Or.inl q)
    ·exact Or.inl q
    ·exact Or.inr (Or.inr q)
theorem z15{ns:List ByteArray}(h:zcj ns)(x:ByteArray):zcj (zh9 ns x)/\∀ y,y∈zh9 ns x↔(y=x/\zbj x=false)∨y∈ns:=by
 unfold zh9
 cases hv:zbj x with
 |true=>simp[h]
 |false=>simpa using z6a h x
theorem zk0:∀(xs:List ByteArray) {ns:List ByteArray},zcj ns->zcj (xs.foldl zh9 ns)/\∀ y,y∈xs.foldl zh9 ns↔(y∈xs/\zbj y=false)∨y∈ns
 |[],ns,h=>⟨h,fun y=>by simp⟩
 |x::xs,ns,h=>by
  obtain⟨s1,s2⟩:=z15 h x
  obtain⟨i1,i2⟩:=zk0 xs s1
  refine⟨i1,fun y=>?_⟩
  rw[List.foldl_cons,i2,s2]
  simp only[List.mem_cons]
  constructor
  ·rintro(⟨q1,q2⟩|⟨rfl,q2⟩|q)
   ·exact Or.inl ⟨Or.inr q1,q2⟩
   ·exact Or.inl ⟨Or.inl rfl,q2⟩
   ·exact Or.inr q
  ·rintro(⟨rfl|q1,q2⟩|q)
   ·exact Or.inr (Or.inl ⟨rfl,q2⟩)
   ·exact Or.inl ⟨q1,q2⟩
   ·exact Or.inr (Or.inr q)
theorem zrt:∀(ls:List zbc) {ns:List ByteArray},zcj ns->zcj (ls.foldl zj6 ns)/\∀ y,y∈ls.foldl zj6 ns↔(∃ l∈ls,y∈l.args/\zbj y=false)∨y∈ns
 |[],ns,h=>⟨h,fun y=>by simp⟩
 |l::ls,ns,h=>by
  obtain⟨s1,s2⟩:=zk0 l.args h
  obtain⟨i1,i2⟩:=zrt ls (ns:=zj6 ns l) s1
  refine⟨i1,fun y=>?_⟩
  have s2':∀ y,y∈zj6 ns l↔(y∈l.args/\zbj y=false)∨y∈ns:=s2
  rw[List.foldl_cons,i2,s2']
  simp only[List.mem_cons,exists_eq_or_imp]
  constructor
  ·rintro(q|q|q)
   ·exact Or.inl (Or.inr q)
   ·exact Or.inl (Or.inl q)
   ·exact Or.inr q
  ·rintro((q|q)|q)
   ·exact Or.inr (Or.inl q)
   ·exact Or.inl q
   ·exact Or.inr (Or.inr q)
theorem zl8:∀(cs:List zaa) {ns:List ByteArray},zcj ns->zcj (cs.foldl zdf ns)/\∀ y,y∈cs.foldl zdf ns↔(∃ c∈cs,∃ l∈za2 c,y∈l.args/\zbj y=false)∨y∈ns
 |[],ns,h=>⟨h,fun y=>by simp⟩
 |c::cs,ns,h=>by
  obtain⟨s1,s2⟩:=zk0 c.head.args h
  obtain⟨b1,b2⟩:=zrt c.body (ns:=zj6 ns c.head) s1
  obtain⟨i1,i2⟩:=zl8 cs (ns:=zdf ns c) b1
  refine⟨i1,fun y=>?_⟩
  have s2':∀ y,y∈zj6 ns c.head↔(y∈c.head.args/\zbj y=false)∨y∈ns:=s2
  have b2':∀ y,y∈zdf ns c↔(∃ l∈c.body,y∈l.args/\zbj y=false)∨y∈zj6 ns c.head:=b2
  rw[List.foldl_cons,i2,b2',s2']
  simp only[List.mem_cons,exists_eq_or_imp,za2]
  constructor
  ·rintro(q|q|q|q)
   ·exact Or.inl (Or.inr q)
   ·exact Or.inl (Or.inl (Or.inr q))
   ·exact Or.inl (Or.inl (Or.inl q))
   ·exact Or.inr q
  ·rintro(((q|q)|q)|q)
   ·exact Or.inr (Or.inr (Or.inl q))
   ·exact Or.inr (Or.inl q)
   ·exact Or.inl q
   ·exact Or.inr (Or.inr (Or.inr q))
theorem zlj(cs:List zaa):zcj (zaf cs)/\∀ y,y∈zaf cs↔∃ c∈cs,∃ l∈za2 c,y∈l.args/\zbj y=false:=by
 obtain⟨h1,h2⟩:=zl8 cs (ns:=[]) List.Pairwise.nil
 exact⟨h1,fun y=>by rw[show zaf cs=cs.foldl zdf [] from rfl,h2];simp⟩
end Go.Proofs.YteampbddflhngaaGreat

namespace Go.Proofs.YteampbddflhngaaGreat
open Classical
theorem z2u{S:zt5}(P:DB->Prop)(h0:P (zkh S.facts))(hs:∀ s k D,P D->P (zhf (S.rules.filter fun r=>decide (r.stratum=s)) k D)){mr mx:Nat}{D:DB}{k:Nat}(h:zgi S mr mx=some (D,k)):P D:=by
 have hr:∀ s (left k:Nat) (D D':DB) (k':Nat),P D->zef (S.rules.filter fun r=>decide (r.stratum=s)) mr left k D=some (D',k')->P D':=by
  intro s left
  induction left with
  |zero=>intro k D D' k' _ h;cases h
  |succ left ih =>
   intro k D D' k' hD h
   unfold zef at h
   split at h
   ·split at h
    ·simp only[Option.some.injEq,Prod.mk.injEq] at h
     rw[← h.1];exact hs s _ D hD
    ·exact ih (k+1) _ D' k' (hs s _ D hD) h
   ·cases h
 have ht:∀(n s k:Nat) (D D':DB) (k':Nat),P D->ze4 S.rules mr mx n s k D=some (D',k')->P D':=by
  intro n
  induction n with
  |zero =>
   intro s k D D' k' hD h
   unfold ze4 at h
   simp only[Option.some.injEq,Prod.mk.injEq] at h
   rw[← h.1];exact hD
  |succ n ih =>
   intro s k D D' k' hD h
   unfold ze4 at h
   split at h
   ·exact ih (s+1) k D D' k' hD h
   ·split at h
    ·cases h
    ·rename_i D1 k1 hq
     exact ih (s+1) k1 D1 D' k' (hr s _ k D D1 k1 hD hq) h
 unfold zgi at h
 split at h
 ·exact ht _ 0 0 _ D k h0 h
 ·cases h
def zyw(ar:List Nat)(n:Nat)(D:DB):Prop:=∀ p x,InD D p x->∀ i,i < ar.getD p 0->x.getD i 0 < n
theorem zzu{cs:List zaa}{c:zaa}(hc:c∈cs){l:zbc}(hl:l∈za2 c)(t:List zaq)(vs:List ByteArray)(pl:List Nat):∀ x∈(zd6 t (zaf cs) vs pl l).terms,x.var=false->x.num < (zaf cs).length:=by
 intro x hx hv
 unfold zd6 at hx
 simp only[List.mem_map] at hx
 obtain⟨z,hz,rfl⟩:=hx
 unfold zbg at hz
 obtain⟨y,hy,rfl⟩:=List.mem_map.1 hz
 obtain⟨e1,e2⟩:=zgg 0 (zbg (zaf cs) vs pl l) (zgq (zaf cs) vs pl y)
 rw[e1] at hv
 rw[e2]
 obtain⟨r1,r2⟩:=zlj cs
 unfold zgq at hv ⊢
 by_cases hq:zbj y=true
 ·rw[if_pos hq] at hv;cases hv
 ·rw[if_neg hq]
  obtain⟨v,v1,v2⟩:=z2t r1 ((r2 y).2 ⟨c,hc,l,hl,hy,by simpa using hq⟩)
  rw[v1];exact v2
theorem zsf{l:zal}{a W n:Nat}(h:zht l a W)(hcon:∀ x∈l.terms,x.var=false->x.num < n){y:List Nat}(hy:∀ p,zde l p=true->y.getD p 0 < n):∀ i,i < a->(zc3 l y).getD i 0 < n:=by
 intro i hi
 have hil:i < l.terms.length:=by rw[h.len];exact hi
 rw[zlc l y (by have:=h.le3;omega)]
 unfold rowCell
 rw[if_pos hil,show l.terms.getD i ⟨false,0,0⟩=l.terms[i] by simp[List.getD,hil]]
 have hm:=List.getElem_mem hil
 unfold atT
 cases hq:l.terms[i].var with
 |true =>
  rw[if_pos (by simp[(h.lev _ hm hq).1])]
  exact hy _ ((zfg l _).2 ⟨_,hm,hq,rfl⟩)
 |false =>
  rw[if_neg (by simp)]
  exact hcon _ hm hq
theorem zye{cs:List zaa}{t0 t:List zaq}(h:Parts cs t0 t)(os:Option (List (Option (List Int))))(hp:∀ i (hi:i < cs.length),zoh (zb9 ((zez os i).getD [])) (zai cs[i]).length){mr mx:Nat}{D:DB}{k:Nat}(hr:zgi (zg8 t (zaf cs) os cs) mr mx=some (D,k)):zyw (t.map (·.arity)) (zaf cs).length D:=by
 have hset:=z4o h (zaf cs) os hp
 refine z2u (S:=zg8 t (zaf cs) os cs) (fun D=>zyw (t.map (·.arity)) (zaf cs).length D) ?_ ?_ hr
 ·intro p x hx i hi
  unfold InD zkh at hx
  split at hx
  ·rename_i hf
   obtain⟨f,f1,rfl,rfl⟩:=hf
   have f1':f∈zex t (zaf cs) cs:=f1
   unfold zex at f1'
   obtain⟨c,hc,rfl⟩:=List.mem_map.1 f1'
   have hcm:=(List.mem_filter.1 hc).1
   have hb:c.body=[]:=by
    have:=(List.mem_filter.1 hc).2
    simp at this
    exact this
   obtain⟨e,_,_,q3,q4,_⟩:=h.lit hcm (l:=c.head) (by simp[za2])
   have hi':i < c.head.args.length:=by
    have hi2:i < (t.map (·.arity)).getD (zbi t c.head.pred) 0:=hi
    rw[q4] at hi2
    exact hi2
   have hwf:zht (zd6 t (zaf cs) [] [0,0,0,0,0] c.head) c.head.args.length (za3 (zaf cs).length):=zsz t _ [] _ c.head (fun k=>by
    by_cases hk:k < 5
    ·have:k=0∨k=1∨k=2∨k=3∨k=4:=by omega
     rcases this with rfl|rfl|rfl|rfl|rfl <;> decide
    ·simp[List.getD,List.getElem?_eq_none (show([0,0,0,0,0]:List Nat).length<=k by simp;omega)]) (zfw (h.many c hcm)).1
   refine zsf hwf (zzu hcm (by simp[za2]) t [] _) (fun p hpp=>?_) i hi'
   obtain⟨y,y1,y2,_⟩:=zoz.1 hpp
   have hs:=h.safe c hcm
   simp only[zff,Bool.and_eq_true] at hs
   have:=zor.1 hs.1 y y1 y2
   have hnil:zai c=[]:=by unfold zai;rw[hb];rfl
   rw[hnil] at this
   cases this
  ·cases hx
 ·intro s k D hD p x hx i hi
  unfold InD zhf at hx
  cases hq:D p x with
  |some m=>exact hD p x (by unfold InD;rw[hq];rfl) i hi
  |none =>
   rw[hq] at hx
   simp only at hx
   split at hx
   ·rename_i hst
    obtain⟨r,hr1,rfl,y,y1,y2,rfl⟩:=hst
    have hrm:r∈zfh t (zaf cs) os cs:=(List.mem_filter.1 hr1).1
    have hwf:=hset.rules.rules r hrm
    unfold zfh at hrm
    obtain⟨⟨c,j⟩,h1,h2⟩:=List.mem_filterMap.1 hrm
    have h3:=List.mem_zipIdx_iff_getElem?.1 h1
    simp only at h2 h3
    have hcm:=List.mem_of_getElem? h3
    split at h2
    ·simp only[Option.some.injEq] at h2
     subst h2
     refine zsf hwf.head (zzu hcm (by simp[za2]) t _ _) (fun p hpp=>?_) i hi
     obtain⟨l,l1,l2⟩:=hwf.fine.safe p (hwf.fine.head p hpp)
     obtain⟨tm,t1,t2,t3⟩:=(zfg l p).1 l2
     obtain⟨i2,hi2,rfl⟩:=List.getElem_of_mem t1
     obtain⟨w1,w2⟩:=hwf.plain l l1
     have:=hD l.pred (zc3 l y) (y1 l l1) i2 (by have:=w2.len;have hq:i2 < l.terms.length:=hi2;rw[this] at hq;exact hq)
     rw[zlc l y (by have:=w2.len;have:=w2.le3;omega)] at this
     unfold rowCell at this
     rw[if_pos hi2,show l.terms.getD i2 ⟨false,0,0⟩=l.terms[i2] by simp[List.getD,hi2]] at this
     unfold atT at this
     rw[if_pos (by simp[t2,(w2.lev _ t1 t2).1]),t3] at this
     exact this
    ·cases h2
   ·cases hx
theorem zmr{ns:List ByteArray}(hr:zcj ns){ar:Nat}(h3:ar<=3){r:zas}(hc:Canon ar r)(hi:∀ i,i < ar->r.getD i 0 < ns.length):zs3 ns (za0 ns r ar 3) 0 [0,0,0]=some r:=by
 obtain⟨x,y,z,rfl⟩:∃ x y z,r=[x,y,z]:=by
  match r,hc.1 with
  |[x,y,z],_=>exact⟨x,y,z,rfl⟩
 have e0:∀ i,ar<=i->([x,y,z]:zas).getD i 0=0:=hc.2
 have hv:∀ i,i < ar->zc4 ns (ns.getD (([x,y,z]:zas).getD i 0) ByteArray.empty)=some (([x,y,z]:zas).getD i 0):=fun i q=>zvg hr (hi i q)
 have h4:ar=0∨ar=1∨ar=2∨ar=3:=by omega
 rcases h4 with rfl|rfl|rfl|rfl
 ·have a:=e0 0 (by omega);have b:=e0 1 (by omega);have c:=e0 2 (by omega)
  simp at a b c
  subst a;subst b;subst c
  rfl
 ·have b:=e0 1 (by omega);have c:=e0 2 (by omega)
  simp at b c
  subst b;subst c
  have v0:zc4 ns (ns[x]?.getD ByteArray.empty)=some x:=by have:=hv 0 (by omega);simpa using this
  simp[za0,zs3,v0]
 ·have c:=e0 2 (by omega)
  simp at c
  subst c
  have v0:zc4 ns (ns[x]?.getD ByteArray.empty)=some x:=by have:=hv 0 (by omega);simpa using this
  have v1:zc4 ns (ns[y]?.getD ByteArray.empty)=some y:=by have:=hv 1 (by omega);simpa using this
  simp[za0,zs3,v0,v1,List.range_succ]
 ·have v0:zc4 ns (ns[x]?.getD ByteArray.empty)=some x:=by have:=hv 0 (by omega);simpa using this
  have v1:zc4 ns (ns[y]?.getD ByteArray.empty)=some y:=by have:=hv 1 (by omega);simpa using this
  have v2:zc4 ns (ns[z]?.getD ByteArray.empty)=some z:=by have:=hv 2 (by omega);simpa using this
  simp[za0,zs3,v0,v1,v2,List.range_succ]
end Go.Proofs.YteampbddflhngaaGreat

namespace Go.Proofs.YteampbddflhngaaGreat
set_option maxRecDepth 100000
set_option maxHeartbeats 4000000
open Go.RowKit
theorem z9c{s:ByteArray}{n:Int}(h:zia s=.error n):n≠0:=by
 unfold zia at h
 repeat'(split at h)
 all_goals (simp only[Except.error.injEq,reduceCtorEq] at h)
 all_goals (subst h;decide)
def bPa:ByteArray:=⟨#[112,40,97,41,46]⟩
theorem yb0:∃ x,zia bPa=.ok x:=by
 have h:(match zia bPa with|.ok _=>true|.error _=>false)=true:=by decide +kernel
 cases hq:zia bPa with
 |ok x=>exact⟨x,rfl⟩
 |error n=>rw[hq] at h;cases h
def zny(s:ByteArray)(w:World)(e:Ending)(w':World):Prop:=match zia s with
 |.error _=>e=.returned (.tuple #[.pointer none,.bool true])/\Below w.heap.size w w'
 |.ok (cs,t)=>∃ db pb,w.heap.size<=db/\e=.returned (.tuple #[.pointer (some ⟨db,0,none⟩),.bool true])/\Box w' db #[.pointer (some ⟨pb,0,none⟩),.string s] 98/\zfu w.heap.size w' pb cs t/\Below w.heap.size w w'
theorem z7j(w:World)(s:ByteArray)(hs:s.size<=9223372036854775807) :
  Calls Tryz.prog 23 #[.string s] w fun e w'=>zny s w e w':=by
 unfold zny
 cases hc:zia s with
 |error n =>
  have hn:=z9c hc
  have HCO:Hid (Calls Tryz.prog 32 #[.string s] w fun e w'=>e=.returned (.tuple #[.pointer none,.int .i64 n])/\Below w.heap.size w w'):=by
   refine(zg1 s w hs).mono ?_
   rintro e w' ⟨hb,h2⟩
   rw[hc] at h2
   exact⟨h2,hb⟩
  have HPA:Hid (∀ W,Calls Tryz.prog 32 #[.string ⟨#[112,40,97,41,46]⟩] W fun e w'=>∃ pb,e=.returned (.tuple #[.pointer (some ⟨pb,0,none⟩),.int .i64 0])/\Below W.heap.size W w'):=fun W=>by
   obtain⟨⟨cs,t⟩,hx⟩:=yb0
   refine(zg1 bPa W (by decide)).mono ?_
   rintro e w' ⟨hb,h2⟩
   rw[hx] at h2
   obtain⟨pb,v,pv,h3,_⟩:=h2
   exact⟨pb,h3,hb⟩
  have hnb:(n == 0)=false:=by simp[hn]
  clear hc
  go_enter Tryz.func23,Tryz.ntmps23
  go_upto_region 2 with (first|(go_at_call 32;refine HCO.out.mono ?_;rintro e w1 ⟨rfl,hb1⟩))
  go_wp2_with (first|(go_at_call 32;refine(HPA.out _).mono ?_;rintro e w2 ⟨pb,rfl,hb2⟩))
  go_ret2
  exact⟨by simp[hn],zad hb1 hb2 (Nat.le_refl _)⟩
 |ok x =>
  obtain⟨cs,t⟩:=x
  have HCO:Hid (Calls Tryz.prog 32 #[.string s] w fun e w'=>∃ pb,e=.returned (.tuple #[.pointer (some ⟨pb,0,none⟩),.int .i64 0])/\Hid (zfu w.heap.size w' pb cs t)/\Below w.heap.size w w'):=by
   refine(zg1 s w hs).mono ?_
   rintro e w' ⟨hb,h2⟩
   rw[hc] at h2
   obtain⟨pb,v,pv,h3,h4,h5,h6,h7⟩:=h2
   exact⟨pb,h3,⟨h7,v,pv,h4,h5,h6⟩,hb⟩
  clear hc
  go_enter Tryz.func23,Tryz.ntmps23
  go_wp2_with (first|(go_at_call 32;refine HCO.out.mono ?_;rintro e w1 ⟨pb,rfl,HP1,hb1⟩))
  have hg:Below w1.heap.size w1 (w1.alloc (.cells #[.pointer (some ⟨pb,0,none⟩),.string s] 98)):=(by repeat'(first|with_reducible(first|exact zR _ _|assumption|refine zN ?_ _|refine zA ?_ ?_ _|refine zD ?_|refine zS ?_ ?_ _)|go_size))
  go_ret2
  exact⟨w1.heap.size,pb,hb1.size,rfl,Box.new _ _ _,HP1.out.below hg,zad hb1 hg (Nat.le_refl _)⟩
end Go.Proofs.YteampbddflhngaaGreat
