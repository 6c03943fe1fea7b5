import Derived.Test.YteampbddflhngabGreatJ34
import Derived.Test.YteampbddflhngabGreatJ08
import Derived.Test.YteampbddflhngabGreatJ42
import Derived.Test.YteampbddflhngabGreatJ35
import Derived.Test.YteampbddflhngabGreatJ04
import Derived.Test.YteampbddflhngabGreatJ10
import Derived.Deep.RegionLaw

namespace Go.Proofs.YteampbddflhngabGreat
set_option maxRecDepth 100000
set_option maxHeartbeats 4000000
open Go.RowKit
variable {lo lp:Nat}
theorem Tryz.infoSS:(Tryz.prog.info? 38).map (fun i=>(i.zero,i.size,i.bytes))=some (some (.slice none 0 0),1,24):=by kernel_rfl
theorem z7f(w:World)(tb:Nat)(T:zad)(fp:List Nat)(n:Nat)(rs:List zaq)(h:zar lo w tb T fp)(hr:rowsG n T=some rs) :
  Calls Tryz.prog 51 #[.pointer (some ⟨tb,0,none⟩)] w fun e w'=>∃ v,e=.returned v/\RowsIn w.heap.size w' v rs/\Below w.heap.size w w':=by
 unfold rowsG at hr
 cases hf:zq5 n T with
 |none=>rw[hf] at hr;cases hr
 |some rs' =>
  rw[hf] at hr
  simp only at hr
  split at hr
  ·simp only[Option.some.injEq] at hr
   subst hr
   exact zw4 w tb T fp h n rs' hf (by assumption)
  ·cases hr
theorem z1y{n:Nat}{T:zad}{rs:List zaq}(hr:rowsG n T=some rs):rs.length<=1048576:=by
 unfold rowsG at hr
 cases hf:zq5 n T with
 |none=>rw[hf] at hr;cases hr
 |some rs' =>
  rw[hf] at hr
  simp only at hr
  split at hr
  ·simp only[Option.some.injEq] at hr
   subst hr
   assumption
  ·cases hr
def ztn(ns:List ByteArray)(ar:Nat)(r:zaq):zbv:=⟨false,ByteArray.empty,zdi ns r ar 3⟩
def z4w(ar g:Nat):Value:=.slice (some ⟨g,0,none⟩) ar ar
def z2z(ns:List ByteArray)(ar:Nat)(rs:List zaq)(w:World)(e:Ending)(w':World):Prop:=∃ g gs,w.heap.size<=g/\e=.returned (.tuple #[.slice (some ⟨g,0,none⟩) rs.length rs.length,.int .i64 0])/\w'.ownsRow w.heap.size 38 1 (.slice (some ⟨g,0,none⟩) rs.length rs.length) rs.length (gs.map (z4w ar))/\Copies w.heap.size w' (rs.map (ztn ns ar)) gs/\Below w.heap.size w w'
theorem z7e(w:World)(rb:Nat)(t:List zav)(ns:List ByteArray)(R:zbt)(pv nv rv:Value)(tbs:List Nat)(pred:ByteArray)(h:zzm lo lp w rb t ns R pv nv rv tbs)(hs':(zbu t pred).isSome=true)(hfi:zcf t pred < R.rows.length)(n:Nat)(rs:List zaq)(hr:rowsG n R.rows[zcf t pred]=some rs)(har:zd3 t (zcf t pred)<=1000) :
  Calls Tryz.prog 28 #[.pointer (some ⟨rb,0,none⟩),.string pred] w fun e w'=>z2z ns (zd3 t (zcf t pred)) rs w e w':=by
 have HFI:Hid (Calls Tryz.prog 50 #[.pointer (some ⟨rb,0,none⟩),.string pred] w fun e w'=>e=.returned (.tuple #[.int .i64 (zcf t pred:Nat),.bool (zbu t pred).isSome])/\w'=w):=zr9 lp w rb 0 t pred h.tg h.few.1
 rw[hs'] at HFI
 have HRE:Hid (zzm lo lp w rb t ns R pv nv rv tbs):=h
 obtain⟨hc,hf⟩:=h.box.rules
 have hlt:=h.box.lt
 obtain⟨aor,capr,hrv⟩:=zab h.rows
 subst hrv
 have d2:=hc 2
 have hfew:=h.few.2.2
 have hgi:¬ (R.rows.length:Int)<=(zcf t pred:Int):=by omega
 clear h hc hs'
 have HAR:Hid (∀ W,Below w.heap.size w W->Calls Tryz.prog 53 #[.pointer (some ⟨rb,0,none⟩),.int .i64 (zcf t pred:Nat)] W fun e w'=>e=.returned (.int .i64 (zd3 t (zcf t pred):Nat))/\w'=W):=fun W hb=>zpa lp W rb 0 t _ (HRE.out.below hb).tg
 generalize zcf t pred=fi at *
 have hft:fi < tbs.length:=by rw[HRE.out.tlen];exact hfi
 obtain⟨gr,capr',hvr,_,hgr,hcr⟩:=zas HRE.out.rows (by omega)
 simp only[Value.slice.injEq] at hvr
 have hgg:=hvr.1
 clear hvr
 subst hgg
 have hcp:=hcr fi (.pointer (some ⟨tbs[fi],0,none⟩)) (by simp[pts,hft,pt])
 have HRS:Hid (Calls Tryz.prog 51 #[.pointer (some ⟨tbs[fi],0,none⟩)] w fun e w'=>∃ v,e=.returned v/\RowsIn w.heap.size w' v rs/\Below w.heap.size w w'):=by
  obtain⟨fp,q⟩:=HRE.out.tries fi hfi hft
  exact z7f w _ _ fp n rs q hr
 have hrl:=z1y hr
 have hfii:(fi:Int) < (R.rows.length:Int):=by omega
 obtain⟨i0,hi,hz0,hzs,hzb⟩:=info_parts Tryz.infoSS
 have hmk:=fun W0:World=>run_make (P:=Tryz.prog) (w:=W0) 59 38 i0 _ Tryz.underlying59 hi hz0 .i64 .i64 (rs.length:Int) (rs.length:Int) (by omega) (Int.le_refl _) (by rw[hzb];omega) (by omega)
 rw[hzs] at hmk
 have HTE:Hid (∀ W (x y z:Nat),Below w.heap.size w W->Calls Tryz.prog 52 #[.pointer (some ⟨rb,0,none⟩),.agg #[.int .i64 (x:Nat),.int .i64 (y:Nat),.int .i64 (z:Nat)],.int .i64 (zd3 t fi)] W fun e w'=>∃ g,W.heap.size<=g/\e=.returned (.slice (some ⟨g,0,none⟩) (zd3 t fi) (zd3 t fi))/\SIn W.heap.size w' (.slice (some ⟨g,0,none⟩) (zd3 t fi) (zd3 t fi)) (zdi ns [x,y,z] (zd3 t fi) 3)/\Below W.heap.size W w'):=fun W x y z hb=>zy1 W rb _ x y z ns (HRE.out.below hb).cat har
 generalize zd3 t fi=ar at *
 generalize tbs[fi]=tb at *
 clear hcr hr
 go_enter Tryz.func28,Tryz.ntmps28
 go_wp2_with (first|(go_at_call 50;refine HFI.out.mono ?_;rintro e w1 ⟨rfl,hww⟩;obtain rfl:=hww.symm)|(go_at_call 51;refine HRS.out.mono ?_;rintro e w1 ⟨v1,rfl,HV1,hb1⟩;obtain⟨aov,capv,rfl⟩:=zab HV1.1))
 have hg1:Below w1.heap.size w1 (w1.alloc (.cells (madeCells #[.slice none 0 0] rs.length) 38)):=(by go_grown)
 have hB1:Below w.heap.size w (w1.alloc (.cells (madeCells #[.slice none 0 0] rs.length) 38)):=zae hb1 hg1 (Nat.le_refl _)
 have hrow:=zbb (zhn w1 rs.length 38 (.slice none 0 0) (by unfold maxLen;omega)) hb1.size
 have HR0:Hid (World.ownsRow (w1.alloc (.cells (madeCells #[.slice none 0 0] rs.length) 38)) w.heap.size 38 1 (.slice (some ⟨w1.heap.size,0,none⟩) rs.length rs.length) rs.length (([]:List Nat).map (z4w ar)++List.replicate (rs.length - 0) (.slice none 0 0))):=hrow
 have HV2:Hid (RowsIn w.heap.size (w1.alloc (.cells (madeCells #[.slice none 0 0] rs.length) 38)) (.slice aov rs.length capv) rs):=⟨zaa HV1.1 hg1,HV1.2⟩
 have hgl:w.heap.size<=w1.heap.size:=hb1.size
 clear hrow hmk HRS HV1 hg1 HFI
 generalize w1.alloc (.cells (madeCells #[.slice none 0 0] rs.length) 38)=w2 at *
 generalize w1.heap.size=g at *
 clear hb1
 go_loopw [46] (fun v46 wr=>∃(m:Nat) (gs:List Nat),m<=rs.length/\v46=.int .i64 m/\Below w.heap.size w wr/\gs.length=m/\Hid (wr.ownsRow w.heap.size 38 1 (.slice (some ⟨g,0,none⟩) rs.length rs.length) rs.length (gs.map (z4w ar)++List.replicate (rs.length - m) (.slice none 0 0)))/\Hid (Copies w.heap.size wr ((rs.take m).map (ztn ns ar)) gs)/\Hid (RowsIn w.heap.size wr (.slice aov rs.length capv) rs)) (fun i _=>rs.length - (intOf i).toNat)
 case atStart=>exact⟨0,[],Nat.zero_le _,rfl,hB1,rfl,HR0,Copies.nil _,HV2⟩
 case round =>
  clear HR0 HV2 hB1
  obtain⟨m,gs,hm,rfl,hbk,hgs,HR,HC,HV⟩:=hrel
  have HGS:Hid (gs.length=m):=hgs
  clear hgs
  have hgwr:g < wr.heap.size:=zdk HR.out rfl
  have hfz:=zby HR.out
  have hrl2:rb < wr.heap.size:=Nat.lt_of_lt_of_le hlt hbk.size
  by_cases hml:m < rs.length
  ·obtain⟨gv,cv,x,y,z,hv,hgv,hxyz,c0,c1,c2⟩:=HV.out.cell m hml
   simp only[Value.slice.injEq] at hv
   have hgg:=hv.1
   clear hv
   subst hgg
   have hmi:(m:Int) < (rs.length:Int):=by omega
   have HTK:Hid (rs.take (m+1)=rs.take m++[[x,y,z]]):=show rs.take (m+1)=rs.take m++[[x,y,z]] by rw[List.take_succ_eq_append_getElem hml,hxyz]
   clear hxyz
   have HTE2:Hid (∀ W,Below wr.heap.size wr W->Calls Tryz.prog 52 #[.pointer (some ⟨rb,0,none⟩),.agg #[.int .i64 (x:Nat),.int .i64 (y:Nat),.int .i64 (z:Nat)],.int .i64 ar] W fun e w'=>∃ g,W.heap.size<=g/\e=.returned (.slice (some ⟨g,0,none⟩) ar ar)/\Hid (SIn W.heap.size w' (.slice (some ⟨g,0,none⟩) ar ar) (zdi ns [x,y,z] ar 3))/\Below W.heap.size W w'):=fun W hb=>HTE.out W x y z (zae hbk hb (Nat.le_refl _))
   have HAR2:Hid (∀ W,Below wr.heap.size wr W->Calls Tryz.prog 53 #[.pointer (some ⟨rb,0,none⟩),.int .i64 (fi:Nat)] W fun e w'=>e=.returned (.int .i64 (ar:Nat))/\w'=W):=fun W hb=>HAR.out W (zae hbk hb (Nat.le_refl _))
   go_upto_region 9 with fail
   have hg4:Below wr.heap.size wr (wr.alloc (.cells #[.int .i64 (x:Nat),.int .i64 (y:Nat),.int .i64 (z:Nat)] 116)):=(by go_grown)
   have hb10:=Box.new wr #[.int .i64 (x:Nat),.int .i64 (y:Nat),.int .i64 (z:Nat)] 116
   generalize wr.alloc (.cells #[.int .i64 (x:Nat),.int .i64 (y:Nat),.int .i64 (z:Nat)] 116)=W4 at *
   have v0:W4.cell? ⟨wr.heap.size,0,none⟩=some (.int .i64 (x:Nat)):=by rw[hb10.rules.1];rfl
   have v1:W4.cell? ⟨wr.heap.size,1,none⟩=some (.int .i64 (y:Nat)):=by rw[hb10.rules.1];rfl
   have v2:W4.cell? ⟨wr.heap.size,2,none⟩=some (.int .i64 (z:Nat)):=by rw[hb10.rules.1];rfl
   have hl3:wr.heap.size < W4.heap.size:=hb10.lt
   have hR4:=zaa HR.out hg4
   have hgW:g < W4.heap.size:=zdk hR4 rfl
   obtain⟨sx,hsx⟩:∃ sx,W4.cell? ⟨g,m,none⟩=some sx:=by
    obtain⟨g',cap',hv',_,_,hcl'⟩:=zas hR4 (by omega)
    simp only[Value.slice.injEq,Option.some.injEq,Addr.mk.injEq,and_true] at hv'
    have e:=hv'.1
    subst e
    exact⟨_,hcl' m _ (List.getElem?_eq_getElem (by simp[HGS.out];omega))⟩
   have hfW:=zby hR4
   have HR4:Hid (W4.ownsRow w.heap.size 38 1 (.slice (some ⟨g,0,none⟩) rs.length rs.length) rs.length (gs.map (z4w ar)++List.replicate (rs.length - m) (.slice none 0 0))):=hR4
   have HC4:Hid (Copies w.heap.size W4 ((rs.take m).map (ztn ns ar)) gs):=HC.out.mono (fun _ _ q=>q.below hg4)
   have HV4:Hid (RowsIn w.heap.size W4 (.slice (some ⟨gv,0,none⟩) rs.length capv) rs):=HV.out.below' hg4
   have hB4:Below w.heap.size w W4:=zae hbk hg4 (Nat.le_refl _)
   have HTE3:Hid (∀ W,Below W4.heap.size W4 W->Calls Tryz.prog 52 #[.pointer (some ⟨rb,0,none⟩),.agg #[.int .i64 (x:Nat),.int .i64 (y:Nat),.int .i64 (z:Nat)],.int .i64 ar] W fun e w'=>∃ gt,W4.heap.size<=gt/\e=.returned (.slice (some ⟨gt,0,none⟩) ar ar)/\Hid (SIn W4.heap.size w' (.slice (some ⟨gt,0,none⟩) ar ar) (zdi ns [x,y,z] ar 3))/\Hid (Below W4.heap.size W4 w')/\w'.cell? ⟨wr.heap.size,0,none⟩=some (.int .i64 (x:Nat))/\w'.cell? ⟨wr.heap.size,1,none⟩=some (.int .i64 (y:Nat))/\w'.cell? ⟨wr.heap.size,2,none⟩=some (.int .i64 (z:Nat))/\w'.cell? ⟨g,m,none⟩=some sx/\g < w'.heap.size/\∀ o,w'.frozen? ⟨g,o,none⟩=false):=fun W hb=>by
    refine(HTE2.out W (zae hg4 hb (Nat.le_refl _))).mono ?_
    rintro e w' ⟨gt,h1,h2,h3,h4⟩
    have hq:=zae hb h4 (Nat.le_refl _)
    have hs:=hb.size
    exact⟨gt,by omega,h2,h3.out.low hb.size,hq,(hq.cell hl3).trans v0,(hq.cell hl3).trans v1,(hq.cell hl3).trans v2,(hq.cell hgW).trans hsx,Nat.lt_of_lt_of_le hgW hq.size,zby (zaa HR4.out hq)⟩
   have HAR3:Hid (∀ W,Below W4.heap.size W4 W->Calls Tryz.prog 53 #[.pointer (some ⟨rb,0,none⟩),.int .i64 (fi:Nat)] W fun e w'=>e=.returned (.int .i64 (ar:Nat))/\w'=W):=fun W hb=>HAR2.out W (zae hg4 hb (Nat.le_refl _))
   clear HTE2 HAR2 hR4 hb10 hg4 HR HC HV c0 c1 c2 hgv hfz
   go_region_held3 (fun w'=>w'.cell? ⟨wr.heap.size,0,none⟩=some (.int .i64 (x:Nat))/\w'.cell? ⟨wr.heap.size,1,none⟩=some (.int .i64 (y:Nat))/\w'.cell? ⟨wr.heap.size,2,none⟩=some (.int .i64 (z:Nat))) (first|go_keep|(go_simp;done)) (first|(go_at_call 52;refine(HTE3.out _ (by exact(by go_grown))).mono ?_;rintro e w5 ⟨gt,hgt,rfl,HS5,HB5,a0,a1,a2,ax,ag,af⟩)|(go_at_call 53;refine(HAR3.out _ (by exact(by go_grown))).mono ?_;rintro e w6 ⟨rfl,hww⟩;obtain rfl:=hww.symm))
   have hR5:=zaa HR4.out HB5.out
   have hML:Hid ((gs.map (z4w ar)++List.replicate (rs.length - m) (Value.slice none 0 0)).set m (z4w ar gt)=(gs++[gt]).map (z4w ar)++List.replicate (rs.length - (m+1)) (Value.slice none 0 0)):=show _=_ by
    obtain⟨k,hk⟩:∃ k,rs.length - m=k+1:=⟨rs.length - m - 1,by omega⟩
    have hk2:rs.length - (m+1)=k:=by omega
    rw[List.set_append,if_neg (by simp[HGS.out]),hk,hk2,List.replicate_succ]
    simp[HGS.out]
   have hset:=zb7 hR5 m (by simp[HGS.out];omega) (z4w ar gt)
   rw[hML.out] at hset
   have hsv:zao [g] w5 (w5.setCell ⟨g,m,none⟩ (.slice (some ⟨gt,0,none⟩) ar ar)):=zao.set _ _ _ _
   obtain⟨cg,hcg⟩:=zd8 hR5 (b:=g) rfl
   have hOf:=OfT.box hcg
   have HR6:Hid (World.ownsRow (w5.setCell ⟨g,m,none⟩ (.slice (some ⟨gt,0,none⟩) ar ar)) w.heap.size 38 1 (.slice (some ⟨g,0,none⟩) rs.length rs.length) rs.length ((gs++[gt]).map (z4w ar)++List.replicate (rs.length - (m+1)) (.slice none 0 0))):=hset
   have HC6:Hid (Copies w.heap.size (w5.setCell ⟨g,m,none⟩ (.slice (some ⟨gt,0,none⟩) ar ar)) ((rs.take (m+1)).map (ztn ns ar)) (gs++[gt])):=show Copies _ _ _ _ by
    rw[HTK.out,List.map_append]
    have hz:=hB4.size
    refine Copies.mono (w:=w5) ?_ (fun _ _ q=>zak q hsv hOf (by decide))
    refine(HC4.out.mono (fun _ _ q=>q.below HB5.out)).snoc (l:=ztn ns ar [x,y,z]) (fun a ha=>by have:=HC4.out.lt a ha;omega) (by omega) ?_
    show SIn w.heap.size w5 (.slice (some ⟨gt,0,none⟩) (zdi ns [x,y,z] ar 3).length (zdi ns [x,y,z] ar 3).length) (zdi ns [x,y,z] ar 3)
    rw[zls]
    exact HS5.out.low (by omega)
   have HV6:Hid (RowsIn w.heap.size (w5.setCell ⟨g,m,none⟩ (.slice (some ⟨gt,0,none⟩) ar ar)) (.slice (some ⟨gv,0,none⟩) rs.length capv) rs):=⟨zak (HV4.out.below' HB5.out).1 hsv hOf (by decide),HV4.out.2⟩
   have hB6:Below w.heap.size w (w5.setCell ⟨g,m,none⟩ (.slice (some ⟨gt,0,none⟩) ar ar)):=(zae hB4 HB5.out (Nat.le_refl _)).setCell (by simpa using hgl) _
   have HGS6:Hid ((gs++[gt]).length=m+1):=show(gs++[gt]).length=m+1 by simp[HGS.out]
   clear hset hR5 hsv hOf HR4 HC4 HV4 HS5 HB5 a0 a1 a2 ax ag af v0 v1 v2
   generalize w5.setCell ⟨g,m,none⟩ (.slice (some ⟨gt,0,none⟩) ar ar)=w7 at *
   go_wp2
   go_roundw
   case rel=>exact⟨m+1,gs++[gt],by omega,by go_num,hB6,HGS6.out,HR6,HC6,HV6⟩
   case measure=>simp[intOf];omega
  ·obtain rfl:m=rs.length:=by omega
   have q1:=HR.out
   have q2:=HC.out
   rw[Nat.sub_self,List.replicate_zero,List.append_nil] at q1
   rw[List.take_length] at q2
   have HQ:Hid (_/\_):=And.intro q1 q2
   clear q1 q2 HR HC HV HGS
   go_wp2
   go_ret2
   exact⟨g,gs,hgl,rfl,HQ.out.1,HQ.out.2,hbk⟩
end Go.Proofs.YteampbddflhngabGreat
namespace Go.Proofs.YteampbddflhngabGreat
open Classical
def zz5(ns:List ByteArray)(σ:ByteArray->Nat)(l:zbv)(i:Nat):Nat:=match l.args[i]? with
 |none=>0
 |some y=>if zba y=true then σ y else(ze6 ns y).getD 0
def z7u(ns:List ByteArray)(σ:ByteArray->Nat)(l:zbv):zaq:=[zz5 ns σ l 0,zz5 ns σ l 1,zz5 ns σ l 2]
theorem zvj{vs:List ByteArray}{pl:List Nat}(hp:∀ k,pl.getD k 0 < 5)(n:ByteArray):zfj vs pl n < 5:=by
 unfold zfj
 split
 ·omega
 ·split
  ·omega
  ·exact hp _
theorem zz6(t:List zav)(ns vs:List ByteArray){pl:List Nat}(hp:∀ k,pl.getD k 0 < 5)(l:zbv)(y:List Nat)(i:Nat):rowCell (zdh t ns vs pl l) y i=zz5 ns (fun v=>y.getD (zfj vs pl v) 0) l i:=by
 unfold rowCell zz5
 by_cases h:i < l.args.length
 ·have h2:i < (zdh t ns vs pl l).terms.length:=by simp[zdh,za2];exact h
  rw[if_pos h2,List.getElem?_eq_getElem h,getD_lt _ h2]
  have e:(zdh t ns vs pl l).terms[i]=zcx 0 (za2 ns vs pl l) (zfi ns vs pl l.args[i]):=by simp[zdh,za2]
  obtain⟨e1,e2⟩:=ze5 0 (za2 ns vs pl l) (zfi ns vs pl l.args[i])
  rw[e]
  unfold atT
  rw[e1,e2]
  unfold zfi
  by_cases hv:zba l.args[i]=true
  ·have:=zvj (vs:=vs) hp l.args[i]
   simp[hv,this]
  ·simp[hv]
 ·have h2:¬ i < (zdh t ns vs pl l).terms.length:=by simp[zdh,za2];omega
  rw[if_neg h2,List.getElem?_eq_none (by omega)]
theorem z7l(t:List zav)(ns vs:List ByteArray){pl:List Nat}(hp:∀ k,pl.getD k 0 < 5)(l:zbv)(y:List Nat):zcp (zdh t ns vs pl l) y=z7u ns (fun v=>y.getD (zfj vs pl v) 0) l:=by
 simp only[zcp,z7u,zz6 t ns vs hp]
end Go.Proofs.YteampbddflhngabGreat
namespace Go.Proofs.YteampbddflhngabGreat
theorem zmn{ns:List ByteArray}(h:zcc ns){i j:Nat}(hij:i < j)(hj:j < ns.length):ltB (ns.getD i ByteArray.empty) (ns.getD j ByteArray.empty)=true:=by
 have hi:i < ns.length:=by omega
 rw[getD_lt _ hi,getD_lt _ hj]
 exact List.pairwise_iff_getElem.1 h i j hi hj hij
theorem zuy{ns:List ByteArray}(h:zcc ns)(x:ByteArray):∀(n l hh:Nat),l<=hh->hh<=ns.length->hh - l < n->(∀ i,i < l->ltB (ns.getD i ByteArray.empty) x=true)->(∀ i,hh<=i->i < ns.length->ltB (ns.getD i ByteArray.empty) x=false)->halves ns x n l hh<=ns.length/\(∀ i,i < halves ns x n l hh->ltB (ns.getD i ByteArray.empty) x=true)/\∀ i,halves ns x n l hh<=i->i < ns.length->ltB (ns.getD i ByteArray.empty) x=false:=by
 intro n
 induction n with
 |zero=>intro l hh _ _ q;omega
 |succ n ih =>
  intro l hh h1 h2 h3 h4 h5
  unfold halves
  by_cases hlt:l < hh
  ·rw[if_pos hlt]
   have hm:l+(hh - l) / 2 < hh:=by omega
   have hml:l<=l+(hh - l) / 2:=by omega
   generalize l+(hh - l) / 2=m at *
   by_cases hL:ltB (ns.getD m ByteArray.empty) x=true
   ·rw[if_pos hL]
    refine ih (m+1) hh (by omega) h2 (by omega) (fun i hi=>?_) h5
    by_cases him:i=m
    ·rw[him];exact hL
    ·exact lt_trans (zmn h (show i < m by omega) (by omega)) hL
   ·rw[if_neg hL]
    have hL':ltB (ns.getD m ByteArray.empty) x=false:=by simpa using hL
    refine ih l m hml (by omega) (by omega) h4 (fun i hi hn=>?_)
    by_cases him:i=m
    ·rw[him];exact hL'
    ·cases hq:ltB (ns.getD i ByteArray.empty) x with
     |false=>rfl
     |true =>
      have:=lt_trans (zmn h (show m < i by omega) hn) hq
      rw[this] at hL'
      cases hL'
  ·rw[if_neg hlt]
   exact⟨by omega,h4,fun i hi hn=>h5 i (by omega) hn⟩
theorem znu{ns:List ByteArray}(h:zcc ns)(x:ByteArray):zbl ns x<=ns.length/\(∀ i,i < zbl ns x->ltB (ns.getD i ByteArray.empty) x=true)/\∀ i,zbl ns x<=i->i < ns.length->ltB (ns.getD i ByteArray.empty) x=false :=
 zuy h x _ 0 ns.length (Nat.zero_le _) (Nat.le_refl _) (by omega) (fun i hi=>by omega) (fun i hi hn=>by omega)
theorem z2k{ns:List ByteArray}(h:zcc ns){v:Nat}(hv:v < ns.length):ze6 ns (ns.getD v ByteArray.empty)=some v:=by
 obtain⟨p1,p2,p3⟩:=znu h (ns.getD v ByteArray.empty)
 have hp:zbl ns (ns.getD v ByteArray.empty)=v:=by
  rcases Nat.lt_trichotomy (zbl ns (ns.getD v ByteArray.empty)) v with q|q|q
  ·have:=p3 _ (Nat.le_refl _) (by omega)
   rw[zmn h q hv] at this
   cases this
  ·exact q
  ·have:=p2 v q
   rw[lt_irrefl] at this
   cases this
 unfold ze6
 rw[hp,if_pos ⟨hv,rfl⟩]
theorem zza{ns:List ByteArray}(h:zcc ns){x:ByteArray}(hx:x∈ns):∃ v,ze6 ns x=some v/\v < ns.length:=by
 obtain⟨v,hv,rfl⟩:=List.getElem_of_mem hx
 have:=z2k h hv
 rw[getD_lt _ hv] at this
 exact⟨v,this,hv⟩
theorem z0x{ns:List ByteArray}(h:zcc ns)(x:ByteArray):zcc (z0w ns x)/\∀ y,y∈z0w ns x↔y=x∨y∈ns:=by
 unfold z0w
 obtain⟨p1,p2,p3⟩:=znu h x
 by_cases hc:zbl ns x < ns.length/\ns.getD (zbl ns x) ByteArray.empty=x
 ·rw[if_pos hc]
  refine⟨h,fun y=>⟨Or.inr,fun q=>q.elim (fun e=>?_) id⟩⟩
  rw[e,← hc.2,getD_lt _ hc.1]
  exact List.getElem_mem hc.1
 ·rw[if_neg hc]
  generalize zbl ns x=p at *
  refine⟨?_,fun y=>?_⟩
  ·unfold zcc
   have hsp:ns.take p++ns.drop p=ns:=List.take_append_drop p ns
   have hall:=h
   unfold zcc at hall
   rw[← hsp,List.pairwise_append] at hall
   rw[List.pairwise_append,List.pairwise_cons]
   have hlo:∀ a∈ns.take p,ltB a x=true:=fun a ha=>by
    obtain⟨i,hi,rfl⟩:=List.getElem_of_mem ha
    have hi':i < p:=by simp at hi;omega
    have hin:i < ns.length:=by omega
    have:=p2 i hi'
    rw[getD_lt _ hin] at this
    simpa using this
   have hhi:∀ b∈ns.drop p,ltB x b=true:=fun b hb=>by
    obtain⟨i,hi,rfl⟩:=List.getElem_of_mem hb
    have hin:p+i < ns.length:=by simp at hi;omega
    have h1:=p3 (p+i) (by omega) hin
    rw[getD_lt _ hin] at h1
    rw[List.getElem_drop]
    cases hq:ltB x ns[p+i] with
    |true=>rfl
    |false =>
     exfalso
     have e:=zwr h1 hq
     by_cases hi0:i=0
     ·subst hi0
      exact hc ⟨by omega,by rw[getD_lt _ (by omega)];simpa using e⟩
     ·have h2:=zmn h (show p < p+i by omega) hin
      rw[getD_lt _ hin,e] at h2
      have h3:=p3 p (Nat.le_refl _) (by omega)
      rw[h3] at h2
      cases h2
   refine⟨hall.1,⟨hhi,hall.2.1⟩,fun a ha b hb=>?_⟩
   rcases List.mem_cons.1 hb with rfl|hb
   ·exact hlo a ha
   ·exact hall.2.2 a ha b hb
  ·have:y∈ns↔y∈ns.take p∨y∈ns.drop p:=by
    rw[← List.mem_append,List.take_append_drop]
   rw[this]
   simp only[List.mem_append,List.mem_cons]
   constructor
   ·rintro(q|q|q)
    ·exact Or.inr (Or.inl q)
    ·exact Or.inl q
    ·exact Or.inr (Or.inr q)
   ·rintro(q|q|q)
    ·exact Or.inr (Or.inl q)
    ·exact Or.inl q
    ·exact Or.inr (Or.inr q)
theorem zy8{ns:List ByteArray}(h:zcc ns)(x:ByteArray):zcc (zhq ns x)/\∀ y,y∈zhq ns x↔(y=x/\zba x=false)∨y∈ns:=by
 unfold zhq
 cases hv:zba x with
 |true=>simp[h]
 |false=>simpa using z0x h x
theorem zj5:∀(xs:List ByteArray) {ns:List ByteArray},zcc ns->zcc (xs.foldl zhq ns)/\∀ y,y∈xs.foldl zhq ns↔(y∈xs/\zba y=false)∨y∈ns
 |[],ns,h=>⟨h,fun y=>by simp⟩
 |x::xs,ns,h=>by
  obtain⟨s1,s2⟩:=zy8 h x
  obtain⟨i1,i2⟩:=zj5 xs s1
  refine⟨i1,fun y=>?_⟩
  rw[List.foldl_cons,i2,s2]
  simp only[List.mem_cons]
  constructor
  ·rintro(⟨q1,q2⟩|⟨rfl,q2⟩|q)
   ·exact Or.inl ⟨Or.inr q1,q2⟩
   ·exact Or.inl ⟨Or.inl rfl,q2⟩
   ·exact Or.inr q
  ·rintro(⟨rfl|q1,q2⟩|q)
   ·exact Or.inr (Or.inl ⟨rfl,q2⟩)
   ·exact Or.inl ⟨q1,q2⟩
   ·exact Or.inr (Or.inr q)
theorem zov:∀(ls:List zbv) {ns:List ByteArray},zcc ns->zcc (ls.foldl zjb ns)/\∀ y,y∈ls.foldl zjb ns↔(∃ l∈ls,y∈l.args/\zba y=false)∨y∈ns
 |[],ns,h=>⟨h,fun y=>by simp⟩
 |l::ls,ns,h=>by
  obtain⟨s1,s2⟩:=zj5 l.args h
  obtain⟨i1,i2⟩:=zov ls (ns:=zjb ns l) s1
  refine⟨i1,fun y=>?_⟩
  have s2':∀ y,y∈zjb ns l↔(y∈l.args/\zba y=false)∨y∈ns:=s2
  rw[List.foldl_cons,i2,s2']
  simp only[List.mem_cons,exists_eq_or_imp]
  constructor
  ·rintro(q|q|q)
   ·exact Or.inl (Or.inr q)
   ·exact Or.inl (Or.inl q)
   ·exact Or.inr q
  ·rintro((q|q)|q)
   ·exact Or.inr (Or.inl q)
   ·exact Or.inl q
   ·exact Or.inr (Or.inr q)
theorem zke:∀(cs:List zac) {ns:List ByteArray},zcc ns->zcc (cs.foldl zc7 ns)/\∀ y,y∈cs.foldl zc7 ns↔(∃ c∈cs,∃ l∈za5 c,y∈l.args/\zba y=false)∨y∈ns
 |[],ns,h=>⟨h,fun y=>by simp⟩
 |c::cs,ns,h=>by
  obtain⟨s1,s2⟩:=zj5 c.head.args h
  obtain⟨b1,b2⟩:=zov c.body (ns:=zjb ns c.head) s1
  obtain⟨i1,i2⟩:=zke cs (ns:=zc7 ns c) b1
  refine⟨i1,fun y=>?_⟩
  have s2':∀ y,y∈zjb ns c.head↔(y∈c.head.args/\zba y=false)∨y∈ns:=s2
  have b2':∀ y,y∈zc7 ns c↔(∃ l∈c.body,y∈l.args/\zba y=false)∨y∈zjb ns c.head:=b2
  rw[List.foldl_cons,i2,b2',s2']
  simp only[List.mem_cons,exists_eq_or_imp,za5]
  constructor
  ·rintro(q|q|q|q)
   ·exact Or.inl (Or.inr q)
   ·exact Or.inl (Or.inl (Or.inr q))
   ·exact Or.inl (Or.inl (Or.inl q))
   ·exact Or.inr q
  ·rintro(((q|q)|q)|q)
   ·exact Or.inr (Or.inr (Or.inl q))
   ·exact Or.inr (Or.inl q)
   ·exact Or.inl q
   ·exact Or.inr (Or.inr (Or.inr q))
theorem zkf(cs:List zac):zcc (zau cs)/\∀ y,y∈zau cs↔∃ c∈cs,∃ l∈za5 c,y∈l.args/\zba y=false:=by
 obtain⟨h1,h2⟩:=zke cs (ns:=[]) List.Pairwise.nil
 exact⟨h1,fun y=>by rw[show zau cs=cs.foldl zc7 [] from rfl,h2];simp⟩
end Go.Proofs.YteampbddflhngabGreat
namespace Go.Proofs.YteampbddflhngabGreat
open Classical
theorem zxf{S:zre}(P:DB->Prop)(h0:P (zje S.facts))(hs:∀ s k D,P D->P (zgu (S.rules.filter fun r=>decide (r.stratum=s)) k D)){mr mx:Nat}{D:DB}{k:Nat}(h:zkb S mr mx=some (D,k)):P D:=by
 have hr:∀ s (left k:Nat) (D D':DB) (k':Nat),P D->zd1 (S.rules.filter fun r=>decide (r.stratum=s)) mr left k D=some (D',k')->P D':=by
  intro s left
  induction left with
  |zero=>intro k D D' k' _ h;cases h
  |succ left ih =>
   intro k D D' k' hD h
   unfold zd1 at h
   split at h
   ·split at h
    ·simp only[Option.some.injEq,Prod.mk.injEq] at h
     rw[← h.1];exact hs s _ D hD
    ·exact ih (k+1) _ D' k' (hs s _ D hD) h
   ·cases h
 have ht:∀(n s k:Nat) (D D':DB) (k':Nat),P D->zeq S.rules mr mx n s k D=some (D',k')->P D':=by
  intro n
  induction n with
  |zero =>
   intro s k D D' k' hD h
   unfold zeq at h
   simp only[Option.some.injEq,Prod.mk.injEq] at h
   rw[← h.1];exact hD
  |succ n ih =>
   intro s k D D' k' hD h
   unfold zeq at h
   split at h
   ·exact ih (s+1) k D D' k' hD h
   ·split at h
    ·cases h
    ·rename_i D1 k1 hq
     exact ih (s+1) k1 D1 D' k' (hr s _ k D D1 k1 hD hq) h
 unfold zkb at h
 split at h
 ·exact ht _ 0 0 _ D k h0 h
 ·cases h
def zt7(ar:List Nat)(n:Nat)(D:DB):Prop:=∀ p x,InD D p x->∀ i,i < ar.getD p 0->x.getD i 0 < n
theorem zwq{cs:List zac}{c:zac}(hc:c∈cs){l:zbv}(hl:l∈za5 c)(t:List zav)(vs:List ByteArray)(pl:List Nat):∀ x∈(zdh t (zau cs) vs pl l).terms,x.var=false->x.num < (zau cs).length:=by
 intro x hx hv
 unfold zdh at hx
 simp only[List.mem_map] at hx
 obtain⟨z,hz,rfl⟩:=hx
 unfold za2 at hz
 obtain⟨y,hy,rfl⟩:=List.mem_map.1 hz
 obtain⟨e1,e2⟩:=ze5 0 (za2 (zau cs) vs pl l) (zfi (zau cs) vs pl y)
 rw[e1] at hv
 rw[e2]
 obtain⟨r1,r2⟩:=zkf cs
 unfold zfi at hv ⊢
 by_cases hq:zba y=true
 ·rw[if_pos hq] at hv;cases hv
 ·rw[if_neg hq]
  obtain⟨v,v1,v2⟩:=zza r1 ((r2 y).2 ⟨c,hc,l,hl,hy,by simpa using hq⟩)
  rw[v1];exact v2
theorem zp1{l:zai}{a W n:Nat}(h:zg9 l a W)(hcon:∀ x∈l.terms,x.var=false->x.num < n){y:List Nat}(hy:∀ p,zc8 l p=true->y.getD p 0 < n):∀ i,i < a->(zcp l y).getD i 0 < n:=by
 intro i hi
 have hil:i < l.terms.length:=by rw[h.len];exact hi
 rw[zk2 l y (by have:=h.le3;omega)]
 unfold rowCell
 rw[if_pos hil,show l.terms.getD i ⟨false,0,0⟩=l.terms[i] by simp[List.getD,hil]]
 have hm:=List.getElem_mem hil
 unfold atT
 cases hq:l.terms[i].var with
 |true =>
  rw[if_pos (by simp[(h.lev _ hm hq).1])]
  exact hy _ ((ze9 l _).2 ⟨_,hm,hq,rfl⟩)
 |false =>
  rw[if_neg (by simp)]
  exact hcon _ hm hq
theorem zu0{cs:List zac}{t0 t:List zav}(h:Parts cs t0 t)(os:Option (List (Option (List Int))))(hp:∀ i (hi:i < cs.length),zms (zb5 ((zei os i).getD [])) (zah cs[i]).length){mr mx:Nat}{D:DB}{k:Nat}(hr:zkb (zjx t (zau cs) os cs) mr mx=some (D,k)):zt7 (t.map (·.arity)) (zau cs).length D:=by
 have hset:=z16 h (zau cs) os hp
 refine zxf (S:=zjx t (zau cs) os cs) (fun D=>zt7 (t.map (·.arity)) (zau cs).length D) ?_ ?_ hr
 ·intro p x hx i hi
  unfold InD zje at hx
  split at hx
  ·rename_i hf
   obtain⟨f,f1,rfl,rfl⟩:=hf
   have f1':f∈zeh t (zau cs) cs:=f1
   unfold zeh at f1'
   obtain⟨c,hc,rfl⟩:=List.mem_map.1 f1'
   have hcm:=(List.mem_filter.1 hc).1
   have hb:c.body=[]:=by
    have:=(List.mem_filter.1 hc).2
    simp at this
    exact this
   obtain⟨e,_,_,q3,q4,_⟩:=h.lit hcm (l:=c.head) (by simp[za5])
   have hi':i < c.head.args.length:=by
    have hi2:i < (t.map (·.arity)).getD (zcf t c.head.pred) 0:=hi
    rw[q4] at hi2
    exact hi2
   have hwf:zg9 (zdh t (zau cs) [] [0,0,0,0,0] c.head) c.head.args.length (za1 (zau cs).length):=zqv t _ [] _ c.head (fun k=>by
    by_cases hk:k < 5
    ·have:k=0∨k=1∨k=2∨k=3∨k=4:=by omega
     rcases this with rfl|rfl|rfl|rfl|rfl <;> decide
    ·simp[List.getD,List.getElem?_eq_none (show([0,0,0,0,0]:List Nat).length<=k by simp;omega)]) (zfo (h.many c hcm)).1
   refine zp1 hwf (zwq hcm (by simp[za5]) t [] _) (fun p hpp=>?_) i hi'
   obtain⟨y,y1,y2,_⟩:=zni.1 hpp
   have hs:=h.safe c hcm
   simp only[ze7,Bool.and_eq_true] at hs
   have:=zm6.1 hs.1 y y1 y2
   have hnil:zah c=[]:=by unfold zah;rw[hb];rfl
   rw[hnil] at this
   cases this
  ·cases hx
 ·intro s k D hD p x hx i hi
  unfold InD zgu at hx
  cases hq:D p x with
  |some m=>exact hD p x (by unfold InD;rw[hq];rfl) i hi
  |none =>
   rw[hq] at hx
   simp only at hx
   split at hx
   ·rename_i hst
    obtain⟨r,hr1,rfl,y,y1,y2,rfl⟩:=hst
    have hrm:r∈zfe t (zau cs) os cs:=(List.mem_filter.1 hr1).1
    have hwf:=hset.rules.rules r hrm
    unfold zfe at hrm
    obtain⟨⟨c,j⟩,h1,h2⟩:=List.mem_filterMap.1 hrm
    have h3:=List.mem_zipIdx_iff_getElem?.1 h1
    simp only at h2 h3
    have hcm:=List.mem_of_getElem? h3
    split at h2
    ·simp only[Option.some.injEq] at h2
     subst h2
     refine zp1 hwf.head (zwq hcm (by simp[za5]) t _ _) (fun p hpp=>?_) i hi
     obtain⟨l,l1,l2⟩:=hwf.fine.safe p (hwf.fine.head p hpp)
     obtain⟨tm,t1,t2,t3⟩:=(ze9 l p).1 l2
     obtain⟨i2,hi2,rfl⟩:=List.getElem_of_mem t1
     obtain⟨w1,w2⟩:=hwf.plain l l1
     have:=hD l.pred (zcp l y) (y1 l l1) i2 (by have:=w2.len;have hq:i2 < l.terms.length:=hi2;rw[this] at hq;exact hq)
     rw[zk2 l y (by have:=w2.len;have:=w2.le3;omega)] at this
     unfold rowCell at this
     rw[if_pos hi2,show l.terms.getD i2 ⟨false,0,0⟩=l.terms[i2] by simp[List.getD,hi2]] at this
     unfold atT at this
     rw[if_pos (by simp[t2,(w2.lev _ t1 t2).1]),t3] at this
     exact this
    ·cases h2
   ·cases hx
end Go.Proofs.YteampbddflhngabGreat
namespace Go.Proofs.YteampbddflhngabGreat
structure Told (t:List zav) (ns:List ByteArray) (R:zbt):Prop where
 rise:zcc (namesT t)
 nrise:zcc ns
 inv:ze1 (t.map (·.arity)) (za1 ns.length) R
 small:∀ a∈t.map (·.arity),a<=3
 inside:zt7 (t.map (·.arity)) ns.length (zdb (t.map (·.arity)) R)
 few:R.count<=1048576/\t.length<=1000/\ns.length<=1000
def z4t(R:zbt)(p:Nat):List zaq:=(keysT (R.rows.getD p zad.zero)).map fun k=>pad k (R.rows.getD p zad.zero).depth
theorem Told.len{t:List zav}{ns:List ByteArray}{R:zbt}(h:Told t ns R):R.rows.length=t.length:=by have:=h.inv.len;simpa using this
theorem Told.rows{t:List zav}{ns:List ByteArray}{R:zbt}(h:Told t ns R){p:Nat}(hp:p < R.rows.length):∃ fuel,rowsG fuel R.rows[p]=some (z4t R p)/\(z4t R p).length<=1048576:=by
 obtain⟨t1,t2,t3,t4⟩:=h.inv.tries p hp
 have hge:=zw6 R.rows p hp
 rw[← h.inv.cnt] at hge
 have:=h.few.1
 refine⟨3 * (R.rows[p].width+1),?_,?_⟩
 ·rw[t1.rowsG _ (Nat.le_refl _) (by omega)]
  unfold z4t
  rw[getD_lt _ hp]
 ·unfold z4t
  rw[getD_lt _ hp,List.length_map,t1.cnt]
  omega
open Go.RowKit
theorem Parts.told{cs:List zac}{t0 t:List zav}(h:Parts cs t0 t){R:zbt}{D:DB}{k mr mx:Nat}(hi:ze1 (t.map (·.arity)) (za1 (zau cs).length) R)(ha:zdb (t.map (·.arity)) R=D)(hr:zkb (zjx t (zau cs) none cs) mr mx=some (D,k))(hc:R.count<=1048576):Told t (zau cs) R:=by
 have hp:∀ i (hi:i < cs.length),zms (zb5 ((zei none i).getD [])) (zah cs[i]).length:=fun i hi=>zpu (zit (h.many _ (List.getElem_mem hi)))
 have hset:=z16 h (zau cs) none hp
 have hAr:arT t=arT t0:=by have:=zii (t0.length+1) t0 cs;rw[h.strat] at this;exact this
 have hN:namesT t=namesT t0:=by
  have:=congrArg (List.map Prod.fst) hAr
  simpa [arT,namesT,Function.comp_def] using this
 obtain⟨_,hl,_⟩:=h.low
 have hf:=h.few
 have hargs:=zzw cs
 have hvals:(zau cs).length<=500:=by
  have:=zjs cs []
  simp only[List.length_nil,Nat.zero_add] at this
  show(cs.foldl zc7 []).length<=500
  omega
 exact⟨by rw[hN];exact h.tab.rise,(zkf cs).1,hi,hset.small,by rw[ha];exact zu0 h none hp hr,hc,by omega,by omega⟩
end Go.Proofs.YteampbddflhngabGreat
