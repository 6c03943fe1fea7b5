import Derived.Test.YteampbddflhngabGreatO31
import Derived.Test.YteampbddflhngabGreatO08
import Derived.Test.YteampbddflhngabGreatO39
import Derived.Test.YteampbddflhngabGreatO32

namespace Go.Proofs.YteampbddflhngabGreat
set_option maxRecDepth 100000
set_option maxHeartbeats 4000000
open Go.RowKit
variable {lo lp:Nat}
theorem Tryz.infoSS:(Tryz.prog.info? 38).map (fun i=>(i.zero,i.size,i.bytes))=some (some (.slice none 0 0),1,24):=by kernel_rfl
theorem yae(w:World)(tb:Nat)(T:zad)(fp:List Nat)(n:Nat)(rs:List zaq)(h:zau lo w tb T fp)(hr:rowsG n T=some rs) :
  Calls Tryz.prog 51 #[.pointer (some ⟨tb,0,none⟩)] w fun e w'=>∃ v,e=.returned v/\RowsIn w.heap.size w' v rs/\Below w.heap.size w w':=by
 unfold rowsG at hr
 cases hf:zsh n T with
 |none=>rw[hf] at hr;cases hr
 |some rs' =>
  rw[hf] at hr
  simp only at hr
  split at hr
  ·simp only[Option.some.injEq] at hr
   subst hr
   exact zyu w tb T fp h n rs' hf (by assumption)
  ·cases hr
theorem z4y{n:Nat}{T:zad}{rs:List zaq}(hr:rowsG n T=some rs):rs.length<=1048576:=by
 unfold rowsG at hr
 cases hf:zsh n T with
 |none=>rw[hf] at hr;cases hr
 |some rs' =>
  rw[hf] at hr
  simp only at hr
  split at hr
  ·simp only[Option.some.injEq] at hr
   subst hr
   assumption
  ·cases hr
def zre(ns:List ByteArray)(ar:Nat)(r:zaq):zb2:=⟨false,ByteArray.empty,za2 ns r ar 3⟩
def zl7(ar g:Nat):Value:=.slice (some ⟨g,0,none⟩) ar ar
def zxv(ns:List ByteArray)(ar:Nat)(rs:List zaq)(w:World)(e:Ending)(w':World):Prop:=∃ g gs,w.heap.size<=g/\e=.returned (.tuple #[.slice (some ⟨g,0,none⟩) rs.length rs.length,.int .i64 0])/\w'.ownsRow w.heap.size 38 1 (.slice (some ⟨g,0,none⟩) rs.length rs.length) rs.length (gs.map (zl7 ar))/\Copies w.heap.size w' (rs.map (zre ns ar)) gs/\Below w.heap.size w w'
theorem z4z(w:World)(rb:Nat)(t:List zan)(ns:List ByteArray)(R:zbh)(pv nv rv:Value)(tbs:List Nat)(pred:ByteArray)(h:zsp lo lp w rb t ns R pv nv rv tbs)(hs':(zbj t pred).isSome=true)(hfi:zbf t pred < R.rows.length)(n:Nat)(rs:List zaq)(hr:rowsG n R.rows[zbf t pred]=some rs)(har:za1 t (zbf t pred)<=1000) :
  Calls Tryz.prog 28 #[.pointer (some ⟨rb,0,none⟩),.string pred] w fun e w'=>zxv ns (za1 t (zbf t pred)) rs w e w':=by
 have HFI:Hid (Calls Tryz.prog 50 #[.pointer (some ⟨rb,0,none⟩),.string pred] w fun e w'=>e=.returned (.tuple #[.int .i64 (zbf t pred:Nat),.bool (zbj t pred).isSome])/\w'=w):=zop lp w rb 0 t pred h.tg h.few.1
 rw[hs'] at HFI
 have HRE:Hid (zsp lo lp w rb t ns R pv nv rv tbs):=h
 obtain⟨hc,hf⟩:=h.box.rules
 have hlt:=h.box.lt
 obtain⟨aor,capr,hrv⟩:=zac h.rows
 subst hrv
 have d2:=hc 2
 have hfew:=h.few.2.2
 have hgi:¬ (R.rows.length:Int)<=(zbf t pred:Int):=by omega
 clear h hc hs'
 have HAR:Hid (∀ W,Below w.heap.size w W->Calls Tryz.prog 53 #[.pointer (some ⟨rb,0,none⟩),.int .i64 (zbf t pred:Nat)] W fun e w'=>e=.returned (.int .i64 (za1 t (zbf t pred):Nat))/\w'=W):=fun W hb=>zml lp W rb 0 t _ (HRE.out.below hb).tg
 generalize zbf t pred=fi at *
 have hft:fi < tbs.length:=by rw[HRE.out.tlen];exact hfi
 obtain⟨gr,capr',hvr,_,hgr,hcr⟩:=zal HRE.out.rows (by omega)
 simp only[Value.slice.injEq] at hvr
 have hgg:=hvr.1
 clear hvr
 subst hgg
 have hcp:=hcr fi (.pointer (some ⟨tbs[fi],0,none⟩)) (by simp[pts,hft,pt])
 have HRS:Hid (Calls Tryz.prog 51 #[.pointer (some ⟨tbs[fi],0,none⟩)] w fun e w'=>∃ v,e=.returned v/\RowsIn w.heap.size w' v rs/\Below w.heap.size w w'):=by
  obtain⟨fp,q⟩:=HRE.out.tries fi hfi hft
  exact yae w _ _ fp n rs q hr
 have hrl:=z4y hr
 have hfii:(fi:Int) < (R.rows.length:Int):=by omega
 obtain⟨i0,hi,hz0,hzs,hzb⟩:=info_parts Tryz.infoSS
 have hmk:=fun W0:World=>run_make (P:=Tryz.prog) (w:=W0) 59 38 i0 _ Tryz.underlying59 hi hz0 .i64 .i64 (rs.length:Int) (rs.length:Int) (by omega) (Int.le_refl _) (by rw[hzb];omega) (by omega)
 rw[hzs] at hmk
 have HTE:Hid (∀ W (x y z:Nat),Below w.heap.size w W->Calls Tryz.prog 52 #[.pointer (some ⟨rb,0,none⟩),.agg #[.int .i64 (x:Nat),.int .i64 (y:Nat),.int .i64 (z:Nat)],.int .i64 (za1 t fi)] W fun e w'=>∃ g,W.heap.size<=g/\e=.returned (.slice (some ⟨g,0,none⟩) (za1 t fi) (za1 t fi))/\SIn W.heap.size w' (.slice (some ⟨g,0,none⟩) (za1 t fi) (za1 t fi)) (za2 ns [x,y,z] (za1 t fi) 3)/\Below W.heap.size W w'):=fun W x y z hb=>z02 W rb _ x y z ns (HRE.out.below hb).cat har
 generalize za1 t fi=ar at *
 generalize tbs[fi]=tb at *
 clear hcr hr
 go_enter Tryz.func28,Tryz.ntmps28
 go_wp2_with (first|(go_at_call 50;refine HFI.out.mono ?_;rintro e w1 ⟨rfl,hww⟩;obtain rfl:=hww.symm)|(go_at_call 51;refine HRS.out.mono ?_;rintro e w1 ⟨v1,rfl,HV1,hb1⟩;obtain⟨aov,capv,rfl⟩:=zac HV1.1))
 have hg1:Below w1.heap.size w1 (w1.alloc (.cells (madeCells #[.slice none 0 0] rs.length) 38)):=(by go_grown)
 have hB1:Below w.heap.size w (w1.alloc (.cells (madeCells #[.slice none 0 0] rs.length) 38)):=zae hb1 hg1 (Nat.le_refl _)
 have hrow:=zbi (zh1 w1 rs.length 38 (.slice none 0 0) (by unfold maxLen;omega)) hb1.size
 have HR0:Hid (World.ownsRow (w1.alloc (.cells (madeCells #[.slice none 0 0] rs.length) 38)) w.heap.size 38 1 (.slice (some ⟨w1.heap.size,0,none⟩) rs.length rs.length) rs.length (([]:List Nat).map (zl7 ar)++List.replicate (rs.length - 0) (.slice none 0 0))):=hrow
 have HV2:Hid (RowsIn w.heap.size (w1.alloc (.cells (madeCells #[.slice none 0 0] rs.length) 38)) (.slice aov rs.length capv) rs):=⟨zaa HV1.1 hg1,HV1.2⟩
 have hgl:w.heap.size<=w1.heap.size:=hb1.size
 clear hrow hmk HRS HV1 hg1 HFI
 generalize w1.alloc (.cells (madeCells #[.slice none 0 0] rs.length) 38)=w2 at *
 generalize w1.heap.size=g at *
 clear hb1
 go_loopw [46] (fun v46 wr=>∃(m:Nat) (gs:List Nat),m<=rs.length/\v46=.int .i64 m/\Below w.heap.size w wr/\gs.length=m/\Hid (wr.ownsRow w.heap.size 38 1 (.slice (some ⟨g,0,none⟩) rs.length rs.length) rs.length (gs.map (zl7 ar)++List.replicate (rs.length - m) (.slice none 0 0)))/\Hid (Copies w.heap.size wr ((rs.take m).map (zre ns ar)) gs)/\Hid (RowsIn w.heap.size wr (.slice aov rs.length capv) rs)) (fun i _=>rs.length - (intOf i).toNat)
 case atStart=>exact⟨0,[],Nat.zero_le _,rfl,hB1,rfl,HR0,Copies.nil _,HV2⟩
 case round =>
  clear HR0 HV2 hB1
  obtain⟨m,gs,hm,rfl,hbk,hgs,HR,HC,HV⟩:=hrel
  have HGS:Hid (gs.length=m):=hgs
  clear hgs
  have hgwr:g < wr.heap.size:=zdv HR.out rfl
  have hfz:=zbu HR.out
  have hrl2:rb < wr.heap.size:=Nat.lt_of_lt_of_le hlt hbk.size
  by_cases hml:m < rs.length
  ·obtain⟨gv,cv,x,y,z,hv,hgv,hxyz,c0,c1,c2⟩:=HV.out.cell m hml
   simp only[Value.slice.injEq] at hv
   have hgg:=hv.1
   clear hv
   subst hgg
   have hmi:(m:Int) < (rs.length:Int):=by omega
   have HTK:Hid (rs.take (m+1)=rs.take m++[[x,y,z]]):=show rs.take (m+1)=rs.take m++[[x,y,z]] by rw[List.take_succ_eq_append_getElem hml,hxyz]
   clear hxyz
   have HTE2:Hid (∀ W,Below wr.heap.size wr W->Calls Tryz.prog 52 #[.pointer (some ⟨rb,0,none⟩),.agg #[.int .i64 (x:Nat),.int .i64 (y:Nat),.int .i64 (z:Nat)],.int .i64 ar] W fun e w'=>∃ g,W.heap.size<=g/\e=.returned (.slice (some ⟨g,0,none⟩) ar ar)/\Hid (SIn W.heap.size w' (.slice (some ⟨g,0,none⟩) ar ar) (za2 ns [x,y,z] ar 3))/\Below W.heap.size W w'):=fun W hb=>HTE.out W x y z (zae hbk hb (Nat.le_refl _))
   have HAR2:Hid (∀ W,Below wr.heap.size wr W->Calls Tryz.prog 53 #[.pointer (some ⟨rb,0,none⟩),.int .i64 (fi:Nat)] W fun e w'=>e=.returned (.int .i64 (ar:Nat))/\w'=W):=fun W hb=>HAR.out W (zae hbk hb (Nat.le_refl _))
   go_upto_region 9 with fail
   have hg4:Below wr.heap.size wr (wr.alloc (.cells #[.int .i64 (x:Nat),.int .i64 (y:Nat),.int .i64 (z:Nat)] 116)):=(by go_grown)
   have hb10:=Box.new wr #[.int .i64 (x:Nat),.int .i64 (y:Nat),.int .i64 (z:Nat)] 116
   generalize wr.alloc (.cells #[.int .i64 (x:Nat),.int .i64 (y:Nat),.int .i64 (z:Nat)] 116)=W4 at *
   have v0:W4.cell? ⟨wr.heap.size,0,none⟩=some (.int .i64 (x:Nat)):=by rw[hb10.rules.1];rfl
   have v1:W4.cell? ⟨wr.heap.size,1,none⟩=some (.int .i64 (y:Nat)):=by rw[hb10.rules.1];rfl
   have v2:W4.cell? ⟨wr.heap.size,2,none⟩=some (.int .i64 (z:Nat)):=by rw[hb10.rules.1];rfl
   have hl3:wr.heap.size < W4.heap.size:=hb10.lt
   have hR4:=zaa HR.out hg4
   have hgW:g < W4.heap.size:=zdv hR4 rfl
   obtain⟨sx,hsx⟩:∃ sx,W4.cell? ⟨g,m,none⟩=some sx:=by
    obtain⟨g',cap',hv',_,_,hcl'⟩:=zal hR4 (by omega)
    simp only[Value.slice.injEq,Option.some.injEq,Addr.mk.injEq,and_true] at hv'
    have e:=hv'.1
    subst e
    exact⟨_,hcl' m _ (List.getElem?_eq_getElem (by simp[HGS.out];omega))⟩
   have hfW:=zbu hR4
   have HR4:Hid (W4.ownsRow w.heap.size 38 1 (.slice (some ⟨g,0,none⟩) rs.length rs.length) rs.length (gs.map (zl7 ar)++List.replicate (rs.length - m) (.slice none 0 0))):=hR4
   have HC4:Hid (Copies w.heap.size W4 ((rs.take m).map (zre ns ar)) gs):=HC.out.mono (fun _ _ q=>q.below hg4)
   have HV4:Hid (RowsIn w.heap.size W4 (.slice (some ⟨gv,0,none⟩) rs.length capv) rs):=HV.out.below' hg4
   have hB4:Below w.heap.size w W4:=zae hbk hg4 (Nat.le_refl _)
   have HTE3:Hid (∀ W,Below W4.heap.size W4 W->Calls Tryz.prog 52 #[.pointer (some ⟨rb,0,none⟩),.agg #[.int .i64 (x:Nat),.int .i64 (y:Nat),.int .i64 (z:Nat)],.int .i64 ar] W fun e w'=>∃ gt,W4.heap.size<=gt/\e=.returned (.slice (some ⟨gt,0,none⟩) ar ar)/\Hid (SIn W4.heap.size w' (.slice (some ⟨gt,0,none⟩) ar ar) (za2 ns [x,y,z] ar 3))/\Hid (Below W4.heap.size W4 w')/\w'.cell? ⟨wr.heap.size,0,none⟩=some (.int .i64 (x:Nat))/\w'.cell? ⟨wr.heap.size,1,none⟩=some (.int .i64 (y:Nat))/\w'.cell? ⟨wr.heap.size,2,none⟩=some (.int .i64 (z:Nat))/\w'.cell? ⟨g,m,none⟩=some sx/\g < w'.heap.size/\∀ o,w'.frozen? ⟨g,o,none⟩=false):=fun W hb=>by
    refine(HTE2.out W (zae hg4 hb (Nat.le_refl _))).mono ?_
    rintro e w' ⟨gt,h1,h2,h3,h4⟩
    have hq:=zae hb h4 (Nat.le_refl _)
    have hs:=hb.size
    exact⟨gt,by omega,h2,h3.out.low hb.size,hq,(hq.cell hl3).trans v0,(hq.cell hl3).trans v1,(hq.cell hl3).trans v2,(hq.cell hgW).trans hsx,Nat.lt_of_lt_of_le hgW hq.size,zbu (zaa HR4.out hq)⟩
   have HAR3:Hid (∀ W,Below W4.heap.size W4 W->Calls Tryz.prog 53 #[.pointer (some ⟨rb,0,none⟩),.int .i64 (fi:Nat)] W fun e w'=>e=.returned (.int .i64 (ar:Nat))/\w'=W):=fun W hb=>HAR2.out W (zae hg4 hb (Nat.le_refl _))
   clear HTE2 HAR2 hR4 hb10 hg4 HR HC HV c0 c1 c2 hgv hfz
   go_region_held3 (fun w'=>w'.cell? ⟨wr.heap.size,0,none⟩=some (.int .i64 (x:Nat))/\w'.cell? ⟨wr.heap.size,1,none⟩=some (.int .i64 (y:Nat))/\w'.cell? ⟨wr.heap.size,2,none⟩=some (.int .i64 (z:Nat))) (first|go_keep|(go_simp;done)) (first|(go_at_call 52;refine(HTE3.out _ (by exact(by go_grown))).mono ?_;rintro e w5 ⟨gt,hgt,rfl,HS5,HB5,a0,a1,a2,ax,ag,af⟩)|(go_at_call 53;refine(HAR3.out _ (by exact(by go_grown))).mono ?_;rintro e w6 ⟨rfl,hww⟩;obtain rfl:=hww.symm))
   have hR5:=zaa HR4.out HB5.out
   have hML:Hid ((gs.map (zl7 ar)++List.replicate (rs.length - m) (Value.slice none 0 0)).set m (zl7 ar gt)=(gs++[gt]).map (zl7 ar)++List.replicate (rs.length - (m+1)) (Value.slice none 0 0)):=show _=_ by
    obtain⟨k,hk⟩:∃ k,rs.length - m=k+1:=⟨rs.length - m - 1,by omega⟩
    have hk2:rs.length - (m+1)=k:=by omega
    rw[List.set_append,if_neg (by simp[HGS.out]),hk,hk2,List.replicate_succ]
    simp[HGS.out]
   have hset:=zb5 hR5 m (by simp[HGS.out];omega) (zl7 ar gt)
   rw[hML.out] at hset
   have hsv:zat [g] w5 (w5.setCell ⟨g,m,none⟩ (.slice (some ⟨gt,0,none⟩) ar ar)):=zat.set _ _ _ _
   obtain⟨cg,hcg⟩:=zek hR5 (b:=g) rfl
   have hOf:=OfT.box hcg
   have HR6:Hid (World.ownsRow (w5.setCell ⟨g,m,none⟩ (.slice (some ⟨gt,0,none⟩) ar ar)) w.heap.size 38 1 (.slice (some ⟨g,0,none⟩) rs.length rs.length) rs.length ((gs++[gt]).map (zl7 ar)++List.replicate (rs.length - (m+1)) (.slice none 0 0))):=hset
   have HC6:Hid (Copies w.heap.size (w5.setCell ⟨g,m,none⟩ (.slice (some ⟨gt,0,none⟩) ar ar)) ((rs.take (m+1)).map (zre ns ar)) (gs++[gt])):=show Copies _ _ _ _ by
    rw[HTK.out,List.map_append]
    have hz:=hB4.size
    refine Copies.mono (w:=w5) ?_ (fun _ _ q=>zaj q hsv hOf (by decide))
    refine(HC4.out.mono (fun _ _ q=>q.below HB5.out)).snoc (l:=zre ns ar [x,y,z]) (fun a ha=>by have:=HC4.out.lt a ha;omega) (by omega) ?_
    show SIn w.heap.size w5 (.slice (some ⟨gt,0,none⟩) (za2 ns [x,y,z] ar 3).length (za2 ns [x,y,z] ar 3).length) (za2 ns [x,y,z] ar 3)
    rw[zdt]
    exact HS5.out.low (by omega)
   have HV6:Hid (RowsIn w.heap.size (w5.setCell ⟨g,m,none⟩ (.slice (some ⟨gt,0,none⟩) ar ar)) (.slice (some ⟨gv,0,none⟩) rs.length capv) rs):=⟨zaj (HV4.out.below' HB5.out).1 hsv hOf (by decide),HV4.out.2⟩
   have hB6:Below w.heap.size w (w5.setCell ⟨g,m,none⟩ (.slice (some ⟨gt,0,none⟩) ar ar)):=(zae hB4 HB5.out (Nat.le_refl _)).setCell (by simpa using hgl) _
   have HGS6:Hid ((gs++[gt]).length=m+1):=show(gs++[gt]).length=m+1 by simp[HGS.out]
   clear hset hR5 hsv hOf HR4 HC4 HV4 HS5 HB5 a0 a1 a2 ax ag af v0 v1 v2
   generalize w5.setCell ⟨g,m,none⟩ (.slice (some ⟨gt,0,none⟩) ar ar)=w7 at *
   go_wp2
   go_roundw
   case rel=>exact⟨m+1,gs++[gt],by omega,by go_num,hB6,HGS6.out,HR6,HC6,HV6⟩
   case measure=>simp[intOf];omega
  ·obtain rfl:m=rs.length:=by omega
   have q1:=HR.out
   have q2:=HC.out
   rw[Nat.sub_self,List.replicate_zero,List.append_nil] at q1
   rw[List.take_length] at q2
   have HQ:Hid (_/\_):=And.intro q1 q2
   clear q1 q2 HR HC HV HGS
   go_wp2
   go_ret2
   exact⟨g,gs,hgl,rfl,HQ.out.1,HQ.out.2,hbk⟩
end Go.Proofs.YteampbddflhngabGreat
namespace Go.Proofs.YteampbddflhngabGreat
open Classical
def zte(ns:List ByteArray)(σ:ByteArray->Nat)(l:zb2)(i:Nat):Nat:=match l.args[i]? with
 |none=>0
 |some y=>if zba y=true then σ y else(zc1 ns y).getD 0
def z7y(ns:List ByteArray)(σ:ByteArray->Nat)(l:zb2):zaq:=[zte ns σ l 0,zte ns σ l 1,zte ns σ l 2]
theorem zpc{vs:List ByteArray}{pl:List Nat}(hp:∀ k,pl.getD k 0 < 5)(n:ByteArray):zdj vs pl n < 5:=by
 unfold zdj
 split
 ·omega
 ·split
  ·omega
  ·exact hp _
theorem z2e(t:List zan)(ns vs:List ByteArray){pl:List Nat}(hp:∀ k,pl.getD k 0 < 5)(l:zb2)(y:List Nat)(i:Nat):rowCell (zdi t ns vs pl l) y i=zte ns (fun v=>y.getD (zdj vs pl v) 0) l i:=by
 unfold rowCell zte
 by_cases h:i < l.args.length
 ·have h2:i < (zdi t ns vs pl l).terms.length:=by simp[zdi,za8];exact h
  rw[if_pos h2,List.getElem?_eq_getElem h,getD_lt _ h2]
  have e:(zdi t ns vs pl l).terms[i]=zc3 0 (za8 ns vs pl l) (zfr ns vs pl l.args[i]):=by simp[zdi,za8]
  obtain⟨e1,e2⟩:=zff 0 (za8 ns vs pl l) (zfr ns vs pl l.args[i])
  rw[e]
  unfold atT
  rw[e1,e2]
  unfold zfr
  by_cases hv:zba l.args[i]=true
  ·have:=zpc (vs:=vs) hp l.args[i]
   simp[hv,this]
  ·simp[hv]
 ·have h2:¬ i < (zdi t ns vs pl l).terms.length:=by simp[zdi,za8];omega
  rw[if_neg h2,List.getElem?_eq_none (by omega)]
theorem znw(t:List zan)(ns vs:List ByteArray){pl:List Nat}(hp:∀ k,pl.getD k 0 < 5)(l:zb2)(y:List Nat):zcs (zdi t ns vs pl l) y=z7y ns (fun v=>y.getD (zdj vs pl v) 0) l:=by
 simp only[zcs,z7y,z2e t ns vs hp]
theorem z00{ns:List ByteArray}{σ τ:ByteArray->Nat}{l:zb2}(h:∀ y∈l.args,zba y=true->σ y=τ y):z7y ns σ l=z7y ns τ l:=by
 have:∀ i,zte ns σ l i=zte ns τ l i:=by
  intro i
  unfold zte
  cases hq:l.args[i]? with
  |none=>rfl
  |some y =>
   have hm:=List.mem_of_getElem? hq
   by_cases hv:zba y=true
   ·simp only[hv,if_true];exact h y hm hv
   ·simp[hv]
 simp only[z7y,this]
def yat(t:List zan)(ns:List ByteArray)(c:zab)(D:DB)(x:zaq):Prop:=∃ σ,(∀ l∈c.body,l.neg=false->InD D (zbf t l.pred) (z7y ns σ l))/\(∀ l∈c.body,l.neg=true->D (zbf t l.pred) (z7y ns σ l)=none)/\x=z7y ns σ c.head
theorem z7q{k:Nat}{f:Nat->Nat}(h:∀ p,p < k->∃ i,i < k/\f i=p){i j:Nat}(hi:i < k)(hj:j < k)(e:f i=f j):i=j:=by
 by_cases hne:i=j
 ·exact hne
 ·have:=zgu (l1:=List.range k) (l2:=((List.range k).erase j).map f) List.nodup_range (fun p hp=>by
   obtain⟨a,ha,hf⟩:=h p (List.mem_range.1 hp)
   by_cases haj:a=j
   ·exact List.mem_map.2 ⟨i,(List.mem_erase_of_ne hne).2 (List.mem_range.2 hi),by rw[e,← haj,hf]⟩
   ·exact List.mem_map.2 ⟨a,(List.mem_erase_of_ne haj).2 (List.mem_range.2 ha),hf⟩)
  rw[List.length_map,List.length_erase_of_mem (List.mem_range.2 hj),List.length_range] at this
  omega
theorem z0p{vs:List ByteArray}{pl:List Nat}(h5:vs.length<=5)(hp:zfv pl vs.length){u v:ByteArray}(hu:u∈vs)(hv:v∈vs)(e:zdj vs pl u=zdj vs pl v):u=v:=by
 obtain⟨i,i1,i2⟩:=zij hu
 obtain⟨j,j1,j2⟩:=zij hv
 unfold zdj at e
 rw[i2,j2] at e
 simp only at e
 rw[if_neg (by omega),if_neg (by omega)] at e
 have:=z7q hp.onto i1 j1 e
 subst this
 obtain⟨_,a⟩:=zjj i2
 obtain⟨_,b⟩:=zjj j2
 rw[← a,← b]
theorem z2t{t:List zan}{ns:List ByteArray}{c:zab}{o:Option (List Int)}{D:DB}{x:zaq}(hv:∀ l∈za4 c,∀ y∈l.args,zba y=true->y∈zaf c)(h5:(zaf c).length<=5)(hp:zfv (zaz (o.getD [])) (zaf c).length):Der (zl0 t ns c o) D x↔yat t ns c D x:=by
 constructor
 ·rintro⟨y,h1,h2,h3⟩
  refine⟨fun v=>y.getD (zdj (zaf c) (zaz (o.getD [])) v) 0,fun l hl hn=>?_,fun l hl hn=>?_,?_⟩
  ·have:=h1 (zdi t ns (zaf c) (zaz (o.getD [])) l) (List.mem_map.2 ⟨l,List.mem_filter.2 ⟨hl,by simp[hn]⟩,rfl⟩)
   rw[znw t ns _ hp.five] at this
   exact this
  ·have:=h2 (zdi t ns (zaf c) (zaz (o.getD [])) l) (List.mem_map.2 ⟨l,List.mem_filter.2 ⟨hl,by simp[hn]⟩,rfl⟩)
   rw[znw t ns _ hp.five] at this
   exact this
  ·rw[h3]
   exact znw t ns _ hp.five _ _
 ·rintro⟨σ,h1,h2,h3⟩
  let yf:Nat->Nat:=fun p=>if hq:∃ v,v∈zaf c/\zdj (zaf c) (zaz (o.getD [])) v=p then σ hq.choose else 0
  have hyf:∀ v∈zaf c,yf (zdj (zaf c) (zaz (o.getD [])) v)=σ v:=by
   intro v hv'
   have hq:∃ u,u∈zaf c/\zdj (zaf c) (zaz (o.getD [])) u=zdj (zaf c) (zaz (o.getD [])) v:=⟨v,hv',rfl⟩
   show(if hq:∃ u,u∈zaf c/\zdj (zaf c) (zaz (o.getD [])) u=zdj (zaf c) (zaz (o.getD [])) v then σ hq.choose else 0)=σ v
   rw[dif_pos hq,z0p h5 hp hq.choose_spec.1 hv' hq.choose_spec.2]
  have hy:∀ p,p < 5->((List.range 5).map yf).getD p 0=yf p:=by
   intro p hp5
   rw[getD_lt _ (by simp;exact hp5)]
   simp
  have hrow:∀ l∈za4 c,zcs (zdi t ns (zaf c) (zaz (o.getD [])) l) ((List.range 5).map yf)=z7y ns σ l:=by
   intro l hl
   rw[znw t ns _ hp.five]
   refine z00 fun y hy' hvy=>?_
   rw[hy _ (zpc hp.five _),hyf y (hv l hl y hy' hvy)]
  refine⟨(List.range 5).map yf,fun l hl=>?_,fun l hl=>?_,?_⟩
  ·obtain⟨z,hz,rfl⟩:=List.mem_map.1 hl
   obtain⟨z1,z2⟩:=List.mem_filter.1 hz
   rw[hrow z (by simp[za4,z1])]
   exact h1 z z1 (by simpa using z2)
  ·obtain⟨z,hz,rfl⟩:=List.mem_map.1 hl
   obtain⟨z1,z2⟩:=List.mem_filter.1 hz
   rw[hrow z (by simp[za4,z1])]
   exact h2 z z1 (by simpa using z2)
  ·rw[h3]
   exact(hrow c.head (by simp[za4])).symm
theorem Parts.covered{cs:List zab}{t0 t:List zan}(h:Parts cs t0 t){c:zab}(hc:c∈cs):∀ l∈za4 c,∀ y∈l.args,zba y=true->y∈zaf c:=by
 have hs:=h.safe c hc
 simp only[ze9,Bool.and_eq_true,List.all_eq_true,Bool.or_eq_true,Bool.not_eq_true'] at hs
 intro l hl y hy hv
 rcases List.mem_cons.1 hl with rfl|hl
 ·exact zi6.1 hs.1 y hy hv
 ·cases hn:l.neg with
  |false=>exact zif.2 ⟨hv,l,hl,hn,hy⟩
  |true =>
   rcases hs.2 l hl with q|q
   ·rw[hn] at q;cases q
   ·exact zi6.1 q y hy hv
def yam(t:List zan)(ns:List ByteArray)(cs:List zab)(s:Nat)(D:DB)(p:Nat)(x:zaq):Prop:=∃ c∈cs,0 < c.body.length/\zdn t c.head.pred=s/\p=zbf t c.head.pred/\yat t ns c D x
theorem zju{t:List zan}{ns:List ByteArray}{os:Option (List (Option (List Int)))}{cs:List zab}{r:zah}:r∈zd7 t ns os cs↔∃ i,∃ hi:i < cs.length,0 < cs[i].body.length/\r=zl0 t ns cs[i] (zc5 os i):=by
 unfold zd7
 rw[List.mem_filterMap]
 constructor
 ·rintro⟨⟨c,i⟩,h1,h2⟩
  have h3:=List.mem_zipIdx_iff_getElem?.1 h1
  simp only at h2 h3
  obtain⟨hi,rfl⟩:=List.getElem?_eq_some_iff.1 h3
  split at h2
  ·rename_i hb
   simp only[Option.some.injEq] at h2
   exact⟨i,hi,hb,h2.symm⟩
  ·cases h2
 ·rintro⟨i,hi,hb,rfl⟩
  refine⟨(cs[i],i),List.mem_zipIdx_iff_getElem?.2 (by simp[hi]),?_⟩
  simp only
  rw[if_pos hb]
theorem zyy{cs:List zab}{t0 t:List zan}(h:Parts cs t0 t)(ns:List ByteArray)(os:Option (List (Option (List Int))))(hp:∀ i (hi:i < cs.length),zfv (zaz ((zc5 os i).getD [])) (zaf cs[i]).length)(s:Nat)(D:DB)(p:Nat)(x:zaq):zk5 ((zd7 t ns os cs).filter fun r=>decide (r.stratum=s)) D p x↔yam t ns cs s D p x:=by
 constructor
 ·rintro⟨r,hr,h1,h2⟩
  obtain⟨r1,r2⟩:=List.mem_filter.1 hr
  obtain⟨i,hi,hb,rfl⟩:=zju.1 r1
  have hc:=List.getElem_mem hi
  exact⟨cs[i],hc,hb,of_decide_eq_true r2,h1,(z2t (h.covered hc) (zdw (h.many _ hc)) (hp i hi)).1 h2⟩
 ·rintro⟨c,hc,hb,h1,h2,h3⟩
  obtain⟨i,hi,rfl⟩:=List.mem_iff_getElem.1 hc
  exact⟨zl0 t ns cs[i] (zc5 os i),List.mem_filter.2 ⟨zju.2 ⟨i,hi,hb,rfl⟩,decide_eq_true h1⟩,h2,(z2t (h.covered hc) (zdw (h.many _ hc)) (hp i hi)).2 h3⟩
theorem zw4{rs rs':List zah}(h:∀ D p x,zk5 rs D p x↔zk5 rs' D p x)(k:Nat)(D:DB):zfs rs k D=zfs rs' k D:=by
 funext p x
 unfold zfs
 cases D p x with
 |some m=>rfl
 |none=>simp only[h D p x]
theorem zka{rs rs':List zah}(h:∀ D p x,zk5 rs D p x↔zk5 rs' D p x)(mr:Nat):∀ left k D,zda rs mr left k D=zda rs' mr left k D
 |0,_,_=>rfl
 |left+1,k,D=>by
  unfold zda
  rw[zw4 h,zka h mr left]
theorem zkb{rs rs':List zah}(h:∀ s D p x,zk5 (rs.filter fun r=>decide (r.stratum=s)) D p x↔zk5 (rs'.filter fun r=>decide (r.stratum=s)) D p x)(he:∀ s,(rs.filter fun r=>decide (r.stratum=s))=[]↔(rs'.filter fun r=>decide (r.stratum=s))=[])(mr mx:Nat):∀ n s k D,zcx rs mr mx n s k D=zcx rs' mr mx n s k D
 |0,_,_,_=>rfl
 |n+1,s,k,D=>by
  unfold zcx
  simp only[he s,zka (h s) mr,zkb h he mr mx n]
theorem zvw{cs:List zab}{t0 t:List zan}(h:Parts cs t0 t)(ns:List ByteArray)(os os':Option (List (Option (List Int))))(hp:∀ i (hi:i < cs.length),zfv (zaz ((zc5 os i).getD [])) (zaf cs[i]).length)(hp':∀ i (hi:i < cs.length),zfv (zaz ((zc5 os' i).getD [])) (zaf cs[i]).length)(mr mx:Nat):zhc (zhp t ns os cs) mr mx=zhc (zhp t ns os' cs) mr mx:=by
 have he:∀(os:Option (List (Option (List Int)))) s,((zd7 t ns os cs).filter fun r=>decide (r.stratum=s))=[]↔∀ c∈cs,0 < c.body.length->¬ zdn t c.head.pred=s:=by
  intro os s
  rw[List.filter_eq_nil_iff]
  constructor
  ·intro q c hc hb hs
   obtain⟨i,hi,rfl⟩:=List.mem_iff_getElem.1 hc
   have:=q _ (zju.2 ⟨i,hi,hb,rfl⟩)
   exact this (decide_eq_true hs)
  ·intro q r hr
   obtain⟨i,hi,hb,rfl⟩:=zju.1 hr
   exact fun e=>q _ (List.getElem_mem hi) hb (of_decide_eq_true e)
 unfold zhc
 show(if zl9 (ziq (zd9 t ns cs)) mr then zcx (zd7 t ns os cs) mr mx _ 0 0 _ else none)=(if zl9 (ziq (zd9 t ns cs)) mr then zcx (zd7 t ns os' cs) mr mx _ 0 0 _ else none)
 rw[zkb (fun s D p x=>(zyy h ns os hp s D p x).trans (zyy h ns os' hp' s D p x).symm) (fun s=>(he os s).trans (he os' s).symm)]
 rfl
theorem zur{n:Nat}:∀ {l:List Int} {seen:List Bool},zje n l seen=true->seen.length=5->l.Nodup/\∀ x∈l,0<=x/\x < n/\x < 5/\seen.getD x.toNat false=false
 |[],_,_,_=>⟨List.nodup_nil,by simp⟩
 |x::r,seen,h,h5=>by
  unfold zje at h
  split at h
  ·cases h
  ·rename_i h0
   split at h
   ·cases h
   ·rename_i h1
    obtain⟨i1,i2⟩:=zur h (by simp[h5])
    have hx5:x.toNat < seen.length:=by omega
    have hne:∀ y∈r,y≠x:=by
     rintro y hy rfl
     have:=(i2 y hy).2.2.2
     rw[zhz,if_pos ⟨rfl,hx5⟩] at this
     cases this
    refine⟨List.nodup_cons.2 ⟨fun q=>hne x q rfl,i1⟩,fun y hy=>?_⟩
    rcases List.mem_cons.1 hy with rfl|hy
    ·exact⟨by omega,by omega,by omega,by simpa using h1⟩
    ·obtain⟨a,b,c,d⟩:=i2 y hy
     have hn:¬ x.toNat=y.toNat:=fun q=>hne y hy (by omega)
     rw[zhz,if_neg (fun q=>hn q.1)] at d
     exact⟨a,b,c,d⟩
theorem z0q{l:List Int}(h5:l.length<=5)(h:zwt l=true):zfv (zaz l) l.length:=by
 obtain⟨hn,hx⟩:=zur h rfl
 have hstep:∀ m,m<=l.length->(∀ j (hj:j < m) (hjl:j < l.length),((l.take m).zipIdx.foldl za7 [0,1,2,3,4]).getD l[j].toNat 0=j)/\∀ i,(∀ j (hj:j < m) (hjl:j < l.length),l[j].toNat≠i)->((l.take m).zipIdx.foldl za7 [0,1,2,3,4]).getD i 0 < 5:=by
  intro m
  induction m with
  |zero =>
   intro _
   refine⟨fun j hj=>by omega,fun i _=>?_⟩
   have:=(zh2 (k:=5) (Nat.le_refl _)).five i
   exact this
  |succ m ih =>
   intro hm
   have hml:m < l.length:=by omega
   obtain⟨a,b⟩:=ih (by omega)
   obtain⟨q1,q2,q3,_⟩:=hx l[m] (List.getElem_mem hml)
   have hl5:((l.take m).zipIdx.foldl za7 [0,1,2,3,4]).length=5:=zik (l.take m)
   rw[zl6 hml]
   have ep:∀ X:List Nat,za7 X (l[m],m)=X.set l[m].toNat m:=fun X=>by unfold za7;exact if_pos ⟨q1,q3⟩
   rw[ep]
   refine⟨fun j hj hjl=>?_,fun i hi=>?_⟩
   ·rw[zhz]
    by_cases hjm:j=m
    ·subst hjm
     rw[if_pos ⟨rfl,by rw[hl5];omega⟩]
    ·rw[if_neg,a j (by omega) hjl]
     intro q
     obtain⟨p1,_⟩:=hx l[j] (List.getElem_mem hjl)
     have:l[m]=l[j]:=by omega
     exact hjm ((List.getElem_inj hn).1 this.symm)
   ·rw[zhz]
    split
    ·omega
    ·exact b i fun j hj hjl=>hi j (by omega) hjl
 obtain⟨a,b⟩:=hstep l.length (Nat.le_refl _)
 rw[List.take_length] at a b
 have honto:∀ i,i < l.length->∃ j,∃ hj:j < l.length,l[j].toNat=i:=by
  intro i hi
  by_cases hq:∃ j,∃ hj:j < l.length,l[j].toNat=i
  ·exact hq
  ·exfalso
   have hnd:(l.map Int.toNat).Nodup:=by
    refine List.pairwise_map.2 (List.Pairwise.imp_of_mem (fun ha hb hne e=>hne ?_) hn)
    have h1:=hx _ ha
    have h2:=hx _ hb
    omega
   have:=zgu (l1:=l.map Int.toNat) (l2:=(List.range l.length).erase i) hnd (fun y hy=>by
    obtain⟨z,hz,rfl⟩:=List.mem_map.1 hy
    obtain⟨p1,p2,_⟩:=hx z hz
    obtain⟨j,hj,rfl⟩:=List.mem_iff_getElem.1 hz
    exact(List.mem_erase_of_ne (fun q=>hq ⟨j,hj,q⟩)).2 (List.mem_range.2 (by omega)))
   rw[List.length_map,List.length_erase_of_mem (List.mem_range.2 hi),List.length_range] at this
   omega
 refine⟨fun i=>?_,fun i hi=>?_,fun p hp=>?_⟩
 ·by_cases hq:∃ j,∃ hj:j < l.length,l[j].toNat=i
  ·obtain⟨j,hj,rfl⟩:=hq
   have:=a j hj hj
   unfold zaz
   omega
  ·exact b i fun j _ hj e=>hq ⟨j,hj,e⟩
 ·obtain⟨j,hj,rfl⟩:=honto i hi
  have:=a j hj hj
  unfold zaz
  omega
 ·obtain⟨q1,q2,_⟩:=hx l[p] (List.getElem_mem hp)
  exact⟨l[p].toNat,by omega,a p hp hp⟩
theorem zjf{cs:List zab}{os:Option (List (Option (List Int)))}(h:zei cs os=true)(h5:∀ c∈cs,(zaf c).length<=5):∀ i (hi:i < cs.length),zfv (zaz ((zc5 os i).getD [])) (zaf cs[i]).length:=by
 intro i hi
 have hc5:=h5 _ (List.getElem_mem hi)
 cases os with
 |none=>exact zh2 hc5
 |some l =>
  unfold zei at h
  simp only[Bool.and_eq_true,beq_iff_eq,List.all_eq_true] at h
  have hil:i < l.length:=by omega
  have ho:=h.2 (cs[i],l[i]) (by
   rw[List.mem_iff_getElem]
   exact⟨i,by simp;omega,by simp⟩)
  have e:zc5 (some l) i=l[i]:=by simp[zc5,hil]
  rw[e]
  cases hq:l[i] with
  |none=>exact zh2 hc5
  |some o =>
   rw[hq] at ho
   simp only[zdm,Bool.and_eq_true,beq_iff_eq] at ho
   show zfv (zaz o) _
   rw[← ho.1]
   exact z0q (by omega) ho.2
end Go.Proofs.YteampbddflhngabGreat
namespace Go.Proofs.YteampbddflhngabGreat
theorem zly{ns:List ByteArray}(h:zch ns){i j:Nat}(hij:i < j)(hj:j < ns.length):ltB (ns.getD i ByteArray.empty) (ns.getD j ByteArray.empty)=true:=by
 have hi:i < ns.length:=by omega
 rw[getD_lt _ hi,getD_lt _ hj]
 exact List.pairwise_iff_getElem.1 h i j hi hj hij
theorem zwh{ns:List ByteArray}(h:zch ns)(x:ByteArray):∀(n l hh:Nat),l<=hh->hh<=ns.length->hh - l < n->(∀ i,i < l->ltB (ns.getD i ByteArray.empty) x=true)->(∀ i,hh<=i->i < ns.length->ltB (ns.getD i ByteArray.empty) x=false)->halves ns x n l hh<=ns.length/\(∀ i,i < halves ns x n l hh->ltB (ns.getD i ByteArray.empty) x=true)/\∀ i,halves ns x n l hh<=i->i < ns.length->ltB (ns.getD i ByteArray.empty) x=false:=by
 intro n
 induction n with
 |zero=>intro l hh _ _ q;omega
 |succ n ih =>
  intro l hh h1 h2 h3 h4 h5
  unfold halves
  by_cases hlt:l < hh
  ·rw[if_pos hlt]
   have hm:l+(hh - l) / 2 < hh:=by omega
   have hml:l<=l+(hh - l) / 2:=by omega
   generalize l+(hh - l) / 2=m at *
   by_cases hL:ltB (ns.getD m ByteArray.empty) x=true
   ·rw[if_pos hL]
    refine ih (m+1) hh (by omega) h2 (by omega) (fun i hi=>?_) h5
    by_cases him:i=m
    ·rw[him];exact hL
    ·exact lt_trans (zly h (show i < m by omega) (by omega)) hL
   ·rw[if_neg hL]
    have hL':ltB (ns.getD m ByteArray.empty) x=false:=by simpa using hL
    refine ih l m hml (by omega) (by omega) h4 (fun i hi hn=>?_)
    by_cases him:i=m
    ·rw[him];exact hL'
    ·cases hq:ltB (ns.getD i ByteArray.empty) x with
     |false=>rfl
     |true =>
      have:=lt_trans (zly h (show m < i by omega) hn) hq
      rw[this] at hL'
      cases hL'
  ·rw[if_neg hlt]
   exact⟨by omega,h4,fun i hi hn=>h5 i (by omega) hn⟩
theorem zo9{ns:List ByteArray}(h:zch ns)(x:ByteArray):zbt ns x<=ns.length/\(∀ i,i < zbt ns x->ltB (ns.getD i ByteArray.empty) x=true)/\∀ i,zbt ns x<=i->i < ns.length->ltB (ns.getD i ByteArray.empty) x=false :=
 zwh h x _ 0 ns.length (Nat.zero_le _) (Nat.le_refl _) (by omega) (fun i hi=>by omega) (fun i hi hn=>by omega)
theorem zvh{ns:List ByteArray}(h:zch ns){v:Nat}(hv:v < ns.length):zc1 ns (ns.getD v ByteArray.empty)=some v:=by
 obtain⟨p1,p2,p3⟩:=zo9 h (ns.getD v ByteArray.empty)
 have hp:zbt ns (ns.getD v ByteArray.empty)=v:=by
  rcases Nat.lt_trichotomy (zbt ns (ns.getD v ByteArray.empty)) v with q|q|q
  ·have:=p3 _ (Nat.le_refl _) (by omega)
   rw[zly h q hv] at this
   cases this
  ·exact q
  ·have:=p2 v q
   rw[lt_irrefl] at this
   cases this
 unfold zc1
 rw[hp,if_pos ⟨hv,rfl⟩]
theorem z1d{ns:List ByteArray}(h:zch ns){x:ByteArray}(hx:x∈ns):∃ v,zc1 ns x=some v/\v < ns.length:=by
 obtain⟨v,hv,rfl⟩:=List.getElem_of_mem hx
 have:=zvh h hv
 rw[getD_lt _ hv] at this
 exact⟨v,this,hv⟩
theorem z3l{ns:List ByteArray}(h:zch ns)(x:ByteArray):zch (z3k ns x)/\∀ y,y∈z3k ns x↔y=x∨y∈ns:=by
 unfold z3k
 obtain⟨p1,p2,p3⟩:=zo9 h x
 by_cases hc:zbt ns x < ns.length/\ns.getD (zbt ns x) ByteArray.empty=x
 ·rw[if_pos hc]
  refine⟨h,fun y=>⟨Or.inr,fun q=>q.elim (fun e=>?_) id⟩⟩
  rw[e,← hc.2,getD_lt _ hc.1]
  exact List.getElem_mem hc.1
 ·rw[if_neg hc]
  generalize zbt ns x=p at *
  refine⟨?_,fun y=>?_⟩
  ·unfold zch
   have hsp:ns.take p++ns.drop p=ns:=List.take_append_drop p ns
   have hall:=h
   unfold zch at hall
   rw[← hsp,List.pairwise_append] at hall
   rw[List.pairwise_append,List.pairwise_cons]
   have hlo:∀ a∈ns.take p,ltB a x=true:=fun a ha=>by
    obtain⟨i,hi,rfl⟩:=List.getElem_of_mem ha
    have hi':i < p:=by simp at hi;omega
    have hin:i < ns.length:=by omega
    have:=p2 i hi'
    rw[getD_lt _ hin] at this
    simpa using this
   have hhi:∀ b∈ns.drop p,ltB x b=true:=fun b hb=>by
    obtain⟨i,hi,rfl⟩:=List.getElem_of_mem hb
    have hin:p+i < ns.length:=by simp at hi;omega
    have h1:=p3 (p+i) (by omega) hin
    rw[getD_lt _ hin] at h1
    rw[List.getElem_drop]
    cases hq:ltB x ns[p+i] with
    |true=>rfl
    |false =>
     exfalso
     have e:=zyf h1 hq
     by_cases hi0:i=0
     ·subst hi0
      exact hc ⟨by omega,by rw[getD_lt _ (by omega)];simpa using e⟩
     ·have h2:=zly h (show p < p+i by omega) hin
      rw[getD_lt _ hin,e] at h2
      have h3:=p3 p (Nat.le_refl _) (by omega)
      rw[h3] at h2
      cases h2
   refine⟨hall.1,⟨hhi,hall.2.1⟩,fun a ha b hb=>?_⟩
   rcases List.mem_cons.1 hb with rfl|hb
   ·exact hlo a ha
   ·exact hall.2.2 a ha b hb
  ·have:y∈ns↔y∈ns.take p∨y∈ns.drop p:=by
    rw[← List.mem_append,List.take_append_drop]
   rw[this]
   simp only[List.mem_append,List.mem_cons]
   constructor
   ·rintro(q|q|q)
    ·exact Or.inr (Or.inl q)
    ·exact Or.inl q
    ·exact Or.inr (Or.inr q)
   ·rintro(q|q|q)
    ·exact Or.inr (Or.inl q)
    ·exact Or.inl q
    ·exact Or.inr (Or.inr q)
theorem z09{ns:List ByteArray}(h:zch ns)(x:ByteArray):zch (zh6 ns x)/\∀ y,y∈zh6 ns x↔(y=x/\zba x=false)∨y∈ns:=by
 unfold zh6
 cases hv:zba x with
 |true=>simp[h]
 |false=>simpa using z3l h x
theorem zkz:∀(xs:List ByteArray) {ns:List ByteArray},zch ns->zch (xs.foldl zh6 ns)/\∀ y,y∈xs.foldl zh6 ns↔(y∈xs/\zba y=false)∨y∈ns
 |[],ns,h=>⟨h,fun y=>by simp⟩
 |x::xs,ns,h=>by
  obtain⟨s1,s2⟩:=z09 h x
  obtain⟨i1,i2⟩:=zkz xs s1
  refine⟨i1,fun y=>?_⟩
  rw[List.foldl_cons,i2,s2]
  simp only[List.mem_cons]
  constructor
  ·rintro(⟨q1,q2⟩|⟨rfl,q2⟩|q)
   ·exact Or.inl ⟨Or.inr q1,q2⟩
   ·exact Or.inl ⟨Or.inl rfl,q2⟩
   ·exact Or.inr q
  ·rintro(⟨rfl|q1,q2⟩|q)
   ·exact Or.inr (Or.inl ⟨rfl,q2⟩)
   ·exact Or.inl ⟨q1,q2⟩
   ·exact Or.inr (Or.inr q)
theorem zp8:∀(ls:List zb2) {ns:List ByteArray},zch ns->zch (ls.foldl zj6 ns)/\∀ y,y∈ls.foldl zj6 ns↔(∃ l∈ls,y∈l.args/\zba y=false)∨y∈ns
 |[],ns,h=>⟨h,fun y=>by simp⟩
 |l::ls,ns,h=>by
  obtain⟨s1,s2⟩:=zkz l.args h
  obtain⟨i1,i2⟩:=zp8 ls (ns:=zj6 ns l) s1
  refine⟨i1,fun y=>?_⟩
  have s2':∀ y,y∈zj6 ns l↔(y∈l.args/\zba y=false)∨y∈ns:=s2
  rw[List.foldl_cons,i2,s2']
  simp only[List.mem_cons,exists_eq_or_imp]
  constructor
  ·rintro(q|q|q)
   ·exact Or.inl (Or.inr q)
   ·exact Or.inl (Or.inl q)
   ·exact Or.inr q
  ·rintro((q|q)|q)
   ·exact Or.inr (Or.inl q)
   ·exact Or.inl q
   ·exact Or.inr (Or.inr q)
theorem zk8:∀(cs:List zab) {ns:List ByteArray},zch ns->zch (cs.foldl zdg ns)/\∀ y,y∈cs.foldl zdg ns↔(∃ c∈cs,∃ l∈za4 c,y∈l.args/\zba y=false)∨y∈ns
 |[],ns,h=>⟨h,fun y=>by simp⟩
 |c::cs,ns,h=>by
  obtain⟨s1,s2⟩:=zkz c.head.args h
  obtain⟨b1,b2⟩:=zp8 c.body (ns:=zj6 ns c.head) s1
  obtain⟨i1,i2⟩:=zk8 cs (ns:=zdg ns c) b1
  refine⟨i1,fun y=>?_⟩
  have s2':∀ y,y∈zj6 ns c.head↔(y∈c.head.args/\zba y=false)∨y∈ns:=s2
  have b2':∀ y,y∈zdg ns c↔(∃ l∈c.body,y∈l.args/\zba y=false)∨y∈zj6 ns c.head:=b2
  rw[List.foldl_cons,i2,b2',s2']
  simp only[List.mem_cons,exists_eq_or_imp,za4]
  constructor
  ·rintro(q|q|q|q)
   ·exact Or.inl (Or.inr q)
   ·exact Or.inl (Or.inl (Or.inr q))
   ·exact Or.inl (Or.inl (Or.inl q))
   ·exact Or.inr q
  ·rintro(((q|q)|q)|q)
   ·exact Or.inr (Or.inr (Or.inl q))
   ·exact Or.inr (Or.inl q)
   ·exact Or.inl q
   ·exact Or.inr (Or.inr (Or.inr q))
theorem zk9(cs:List zab):zch (zas cs)/\∀ y,y∈zas cs↔∃ c∈cs,∃ l∈za4 c,y∈l.args/\zba y=false:=by
 obtain⟨h1,h2⟩:=zk8 cs (ns:=[]) List.Pairwise.nil
 exact⟨h1,fun y=>by rw[show zas cs=cs.foldl zdg [] from rfl,h2];simp⟩
end Go.Proofs.YteampbddflhngabGreat
