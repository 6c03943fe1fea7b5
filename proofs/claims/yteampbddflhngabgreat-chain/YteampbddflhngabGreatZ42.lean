import Derived.Test.YteampbddflhngabGreatZ32
import Derived.Test.YteampbddflhngabGreatZ08
import Derived.Test.YteampbddflhngabGreatZ41
import Derived.Test.YteampbddflhngabGreatZ33

namespace Go.Proofs.YteampbddflhngabGreat
set_option maxRecDepth 100000
set_option maxHeartbeats 4000000
open Go.RowKit
variable {lo lp:Nat}
theorem Tryz.infoSS:(Tryz.prog.info? 38).map (fun i=>(i.zero,i.size,i.bytes))=some (some (.slice none 0 0),1,24):=by kernel_rfl
theorem z8f(w:World)(tb:Nat)(T:zad)(fp:List Nat)(n:Nat)(rs:List zao)(h:zat lo w tb T fp)(hr:rowsG n T=some rs) :
  Calls Tryz.prog 51 #[.pointer (some ⟨tb,0,none⟩)] w fun e w'=>∃ v,e=.returned v/\RowsIn w.heap.size w' v rs/\Below w.heap.size w w':=by
 unfold rowsG at hr
 cases hf:zrf n T with
 |none=>rw[hf] at hr;cases hr
 |some rs' =>
  rw[hf] at hr
  simp only at hr
  split at hr
  ·simp only[Option.some.injEq] at hr
   subst hr
   exact zxm w tb T fp h n rs' hf (by assumption)
  ·cases hr
theorem z2s{n:Nat}{T:zad}{rs:List zao}(hr:rowsG n T=some rs):rs.length<=1048576:=by
 unfold rowsG at hr
 cases hf:zrf n T with
 |none=>rw[hf] at hr;cases hr
 |some rs' =>
  rw[hf] at hr
  simp only at hr
  split at hr
  ·simp only[Option.some.injEq] at hr
   subst hr
   assumption
  ·cases hr
def zt1(ns:List ByteArray)(ar:Nat)(r:zao):zbz:=⟨false,ByteArray.empty,zci ns r ar 3⟩
def z5w(ar g:Nat):Value:=.slice (some ⟨g,0,none⟩) ar ar
def z3v(ns:List ByteArray)(ar:Nat)(rs:List zao)(w:World)(e:Ending)(w':World):Prop:=∃ g gs,w.heap.size<=g/\e=.returned (.tuple #[.slice (some ⟨g,0,none⟩) rs.length rs.length,.int .i64 0])/\w'.ownsRow w.heap.size 38 1 (.slice (some ⟨g,0,none⟩) rs.length rs.length) rs.length (gs.map (z5w ar))/\Copies w.heap.size w' (rs.map (zt1 ns ar)) gs/\Below w.heap.size w w'
theorem z8e(w:World)(rb:Nat)(t:List zar)(ns:List ByteArray)(R:zbk)(pv nv rv:Value)(tbs:List Nat)(pred:ByteArray)(h:zwp lo lp w rb t ns R pv nv rv tbs)(hs':(zbb t pred).isSome=true)(hfi:zbd t pred < R.rows.length)(n:Nat)(rs:List zao)(hr:rowsG n R.rows[zbd t pred]=some rs)(har:zbn t (zbd t pred)<=1000) :
  Calls Tryz.prog 28 #[.pointer (some ⟨rb,0,none⟩),.string pred] w fun e w'=>z3v ns (zbn t (zbd t pred)) rs w e w':=by
 have HFI:Hid (Calls Tryz.prog 50 #[.pointer (some ⟨rb,0,none⟩),.string pred] w fun e w'=>e=.returned (.tuple #[.int .i64 (zbd t pred:Nat),.bool (zbb t pred).isSome])/\w'=w):=znp lp w rb 0 t pred h.tg h.few.1
 rw[hs'] at HFI
 have HRE:Hid (zwp lo lp w rb t ns R pv nv rv tbs):=h
 obtain⟨hc,hf⟩:=h.box.rules
 have hlt:=h.box.lt
 obtain⟨aor,capr,hrv⟩:=zac h.rows
 subst hrv
 have d2:=hc 2
 have hfew:=h.few.2.2
 have hgi:¬ (R.rows.length:Int)<=(zbd t pred:Int):=by omega
 clear h hc hs'
 have HAR:Hid (∀ W,Below w.heap.size w W->Calls Tryz.prog 53 #[.pointer (some ⟨rb,0,none⟩),.int .i64 (zbd t pred:Nat)] W fun e w'=>e=.returned (.int .i64 (zbn t (zbd t pred):Nat))/\w'=W):=fun W hb=>zls lp W rb 0 t _ (HRE.out.below hb).tg
 generalize zbd t pred=fi at *
 have hft:fi < tbs.length:=by rw[HRE.out.tlen];exact hfi
 obtain⟨gr,capr',hvr,_,hgr,hcr⟩:=zas HRE.out.rows (by omega)
 simp only[Value.slice.injEq] at hvr
 have hgg:=hvr.1
 clear hvr
 subst hgg
 have hcp:=hcr fi (.pointer (some ⟨tbs[fi],0,none⟩)) (by simp[pts,hft,pt])
 have HRS:Hid (Calls Tryz.prog 51 #[.pointer (some ⟨tbs[fi],0,none⟩)] w fun e w'=>∃ v,e=.returned v/\RowsIn w.heap.size w' v rs/\Below w.heap.size w w'):=by
  obtain⟨fp,q⟩:=HRE.out.tries fi hfi hft
  exact z8f w _ _ fp n rs q hr
 have hrl:=z2s hr
 have hfii:(fi:Int) < (R.rows.length:Int):=by omega
 obtain⟨i0,hi,hz0,hzs,hzb⟩:=info_parts Tryz.infoSS
 have hmk:=fun W0:World=>run_make (P:=Tryz.prog) (w:=W0) 59 38 i0 _ Tryz.underlying59 hi hz0 .i64 .i64 (rs.length:Int) (rs.length:Int) (by omega) (Int.le_refl _) (by rw[hzb];omega) (by omega)
 rw[hzs] at hmk
 have HTE:Hid (∀ W (x y z:Nat),Below w.heap.size w W->Calls Tryz.prog 52 #[.pointer (some ⟨rb,0,none⟩),.agg #[.int .i64 (x:Nat),.int .i64 (y:Nat),.int .i64 (z:Nat)],.int .i64 (zbn t fi)] W fun e w'=>∃ g,W.heap.size<=g/\e=.returned (.slice (some ⟨g,0,none⟩) (zbn t fi) (zbn t fi))/\SIn W.heap.size w' (.slice (some ⟨g,0,none⟩) (zbn t fi) (zbn t fi)) (zci ns [x,y,z] (zbn t fi) 3)/\Below W.heap.size W w'):=fun W x y z hb=>zzm W rb _ x y z ns (HRE.out.below hb).cat har
 generalize zbn t fi=ar at *
 generalize tbs[fi]=tb at *
 clear hcr hr
 go_enter Tryz.func28,Tryz.ntmps28
 go_wp2_with (first|(go_at_call 50;refine HFI.out.mono ?_;rintro e w1 ⟨rfl,hww⟩;obtain rfl:=hww.symm)|(go_at_call 51;refine HRS.out.mono ?_;rintro e w1 ⟨v1,rfl,HV1,hb1⟩;obtain⟨aov,capv,rfl⟩:=zac HV1.1))
 have hg1:Below w1.heap.size w1 (w1.alloc (.cells (madeCells #[.slice none 0 0] rs.length) 38)):=(by go_grown)
 have hB1:Below w.heap.size w (w1.alloc (.cells (madeCells #[.slice none 0 0] rs.length) 38)):=zae hb1 hg1 (Nat.le_refl _)
 have hrow:=zbe (zho w1 rs.length 38 (.slice none 0 0) (by unfold maxLen;omega)) hb1.size
 have HR0:Hid (World.ownsRow (w1.alloc (.cells (madeCells #[.slice none 0 0] rs.length) 38)) w.heap.size 38 1 (.slice (some ⟨w1.heap.size,0,none⟩) rs.length rs.length) rs.length (([]:List Nat).map (z5w ar)++List.replicate (rs.length - 0) (.slice none 0 0))):=hrow
 have HV2:Hid (RowsIn w.heap.size (w1.alloc (.cells (madeCells #[.slice none 0 0] rs.length) 38)) (.slice aov rs.length capv) rs):=⟨zaa HV1.1 hg1,HV1.2⟩
 have hgl:w.heap.size<=w1.heap.size:=hb1.size
 clear hrow hmk HRS HV1 hg1 HFI
 generalize w1.alloc (.cells (madeCells #[.slice none 0 0] rs.length) 38)=w2 at *
 generalize w1.heap.size=g at *
 clear hb1
 go_loopw [46] (fun v46 wr=>∃(m:Nat) (gs:List Nat),m<=rs.length/\v46=.int .i64 m/\Below w.heap.size w wr/\gs.length=m/\Hid (wr.ownsRow w.heap.size 38 1 (.slice (some ⟨g,0,none⟩) rs.length rs.length) rs.length (gs.map (z5w ar)++List.replicate (rs.length - m) (.slice none 0 0)))/\Hid (Copies w.heap.size wr ((rs.take m).map (zt1 ns ar)) gs)/\Hid (RowsIn w.heap.size wr (.slice aov rs.length capv) rs)) (fun i _=>rs.length - (intOf i).toNat)
 case atStart=>exact⟨0,[],Nat.zero_le _,rfl,hB1,rfl,HR0,Copies.nil _,HV2⟩
 case round =>
  clear HR0 HV2 hB1
  obtain⟨m,gs,hm,rfl,hbk,hgs,HR,HC,HV⟩:=hrel
  have HGS:Hid (gs.length=m):=hgs
  clear hgs
  have hgwr:g < wr.heap.size:=zdo HR.out rfl
  have hfz:=zb2 HR.out
  have hrl2:rb < wr.heap.size:=Nat.lt_of_lt_of_le hlt hbk.size
  by_cases hml:m < rs.length
  ·obtain⟨gv,cv,x,y,z,hv,hgv,hxyz,c0,c1,c2⟩:=HV.out.cell m hml
   simp only[Value.slice.injEq] at hv
   have hgg:=hv.1
   clear hv
   subst hgg
   have hmi:(m:Int) < (rs.length:Int):=by omega
   have HTK:Hid (rs.take (m+1)=rs.take m++[[x,y,z]]):=show rs.take (m+1)=rs.take m++[[x,y,z]] by rw[List.take_succ_eq_append_getElem hml,hxyz]
   clear hxyz
   have HTE2:Hid (∀ W,Below wr.heap.size wr W->Calls Tryz.prog 52 #[.pointer (some ⟨rb,0,none⟩),.agg #[.int .i64 (x:Nat),.int .i64 (y:Nat),.int .i64 (z:Nat)],.int .i64 ar] W fun e w'=>∃ g,W.heap.size<=g/\e=.returned (.slice (some ⟨g,0,none⟩) ar ar)/\Hid (SIn W.heap.size w' (.slice (some ⟨g,0,none⟩) ar ar) (zci ns [x,y,z] ar 3))/\Below W.heap.size W w'):=fun W hb=>HTE.out W x y z (zae hbk hb (Nat.le_refl _))
   have HAR2:Hid (∀ W,Below wr.heap.size wr W->Calls Tryz.prog 53 #[.pointer (some ⟨rb,0,none⟩),.int .i64 (fi:Nat)] W fun e w'=>e=.returned (.int .i64 (ar:Nat))/\w'=W):=fun W hb=>HAR.out W (zae hbk hb (Nat.le_refl _))
   go_upto_region 9 with fail
   have hg4:Below wr.heap.size wr (wr.alloc (.cells #[.int .i64 (x:Nat),.int .i64 (y:Nat),.int .i64 (z:Nat)] 116)):=(by go_grown)
   have hb10:=Box.new wr #[.int .i64 (x:Nat),.int .i64 (y:Nat),.int .i64 (z:Nat)] 116
   generalize wr.alloc (.cells #[.int .i64 (x:Nat),.int .i64 (y:Nat),.int .i64 (z:Nat)] 116)=W4 at *
   have v0:W4.cell? ⟨wr.heap.size,0,none⟩=some (.int .i64 (x:Nat)):=by rw[hb10.rules.1];rfl
   have v1:W4.cell? ⟨wr.heap.size,1,none⟩=some (.int .i64 (y:Nat)):=by rw[hb10.rules.1];rfl
   have v2:W4.cell? ⟨wr.heap.size,2,none⟩=some (.int .i64 (z:Nat)):=by rw[hb10.rules.1];rfl
   have hl3:wr.heap.size < W4.heap.size:=hb10.lt
   have hR4:=zaa HR.out hg4
   have hgW:g < W4.heap.size:=zdo hR4 rfl
   obtain⟨sx,hsx⟩:∃ sx,W4.cell? ⟨g,m,none⟩=some sx:=by
    obtain⟨g',cap',hv',_,_,hcl'⟩:=zas hR4 (by omega)
    simp only[Value.slice.injEq,Option.some.injEq,Addr.mk.injEq,and_true] at hv'
    have e:=hv'.1
    subst e
    exact⟨_,hcl' m _ (List.getElem?_eq_getElem (by simp[HGS.out];omega))⟩
   have hfW:=zb2 hR4
   have HR4:Hid (W4.ownsRow w.heap.size 38 1 (.slice (some ⟨g,0,none⟩) rs.length rs.length) rs.length (gs.map (z5w ar)++List.replicate (rs.length - m) (.slice none 0 0))):=hR4
   have HC4:Hid (Copies w.heap.size W4 ((rs.take m).map (zt1 ns ar)) gs):=HC.out.mono (fun _ _ q=>q.below hg4)
   have HV4:Hid (RowsIn w.heap.size W4 (.slice (some ⟨gv,0,none⟩) rs.length capv) rs):=HV.out.below' hg4
   have hB4:Below w.heap.size w W4:=zae hbk hg4 (Nat.le_refl _)
   have HTE3:Hid (∀ W,Below W4.heap.size W4 W->Calls Tryz.prog 52 #[.pointer (some ⟨rb,0,none⟩),.agg #[.int .i64 (x:Nat),.int .i64 (y:Nat),.int .i64 (z:Nat)],.int .i64 ar] W fun e w'=>∃ gt,W4.heap.size<=gt/\e=.returned (.slice (some ⟨gt,0,none⟩) ar ar)/\Hid (SIn W4.heap.size w' (.slice (some ⟨gt,0,none⟩) ar ar) (zci ns [x,y,z] ar 3))/\Hid (Below W4.heap.size W4 w')/\w'.cell? ⟨wr.heap.size,0,none⟩=some (.int .i64 (x:Nat))/\w'.cell? ⟨wr.heap.size,1,none⟩=some (.int .i64 (y:Nat))/\w'.cell? ⟨wr.heap.size,2,none⟩=some (.int .i64 (z:Nat))/\w'.cell? ⟨g,m,none⟩=some sx/\g < w'.heap.size/\∀ o,w'.frozen? ⟨g,o,none⟩=false):=fun W hb=>by
    refine(HTE2.out W (zae hg4 hb (Nat.le_refl _))).mono ?_
    rintro e w' ⟨gt,h1,h2,h3,h4⟩
    have hq:=zae hb h4 (Nat.le_refl _)
    have hs:=hb.size
    exact⟨gt,by omega,h2,h3.out.low hb.size,hq,(hq.cell hl3).trans v0,(hq.cell hl3).trans v1,(hq.cell hl3).trans v2,(hq.cell hgW).trans hsx,Nat.lt_of_lt_of_le hgW hq.size,zb2 (zaa HR4.out hq)⟩
   have HAR3:Hid (∀ W,Below W4.heap.size W4 W->Calls Tryz.prog 53 #[.pointer (some ⟨rb,0,none⟩),.int .i64 (fi:Nat)] W fun e w'=>e=.returned (.int .i64 (ar:Nat))/\w'=W):=fun W hb=>HAR2.out W (zae hg4 hb (Nat.le_refl _))
   clear HTE2 HAR2 hR4 hb10 hg4 HR HC HV c0 c1 c2 hgv hfz
   go_region_held3 (fun w'=>w'.cell? ⟨wr.heap.size,0,none⟩=some (.int .i64 (x:Nat))/\w'.cell? ⟨wr.heap.size,1,none⟩=some (.int .i64 (y:Nat))/\w'.cell? ⟨wr.heap.size,2,none⟩=some (.int .i64 (z:Nat))) (first|go_keep|(go_simp;done)) (first|(go_at_call 52;refine(HTE3.out _ (by exact(by go_grown))).mono ?_;rintro e w5 ⟨gt,hgt,rfl,HS5,HB5,a0,a1,a2,ax,ag,af⟩)|(go_at_call 53;refine(HAR3.out _ (by exact(by go_grown))).mono ?_;rintro e w6 ⟨rfl,hww⟩;obtain rfl:=hww.symm))
   have hR5:=zaa HR4.out HB5.out
   have hML:Hid ((gs.map (z5w ar)++List.replicate (rs.length - m) (Value.slice none 0 0)).set m (z5w ar gt)=(gs++[gt]).map (z5w ar)++List.replicate (rs.length - (m+1)) (Value.slice none 0 0)):=show _=_ by
    obtain⟨k,hk⟩:∃ k,rs.length - m=k+1:=⟨rs.length - m - 1,by omega⟩
    have hk2:rs.length - (m+1)=k:=by omega
    rw[List.set_append,if_neg (by simp[HGS.out]),hk,hk2,List.replicate_succ]
    simp[HGS.out]
   have hset:=zcb hR5 m (by simp[HGS.out];omega) (z5w ar gt)
   rw[hML.out] at hset
   have hsv:zaq [g] w5 (w5.setCell ⟨g,m,none⟩ (.slice (some ⟨gt,0,none⟩) ar ar)):=zaq.set _ _ _ _
   obtain⟨cg,hcg⟩:=zec hR5 (b:=g) rfl
   have hOf:=OfT.box hcg
   have HR6:Hid (World.ownsRow (w5.setCell ⟨g,m,none⟩ (.slice (some ⟨gt,0,none⟩) ar ar)) w.heap.size 38 1 (.slice (some ⟨g,0,none⟩) rs.length rs.length) rs.length ((gs++[gt]).map (z5w ar)++List.replicate (rs.length - (m+1)) (.slice none 0 0))):=hset
   have HC6:Hid (Copies w.heap.size (w5.setCell ⟨g,m,none⟩ (.slice (some ⟨gt,0,none⟩) ar ar)) ((rs.take (m+1)).map (zt1 ns ar)) (gs++[gt])):=show Copies _ _ _ _ by
    rw[HTK.out,List.map_append]
    have hz:=hB4.size
    refine Copies.mono (w:=w5) ?_ (fun _ _ q=>zak q hsv hOf (by decide))
    refine(HC4.out.mono (fun _ _ q=>q.below HB5.out)).snoc (l:=zt1 ns ar [x,y,z]) (fun a ha=>by have:=HC4.out.lt a ha;omega) (by omega) ?_
    show SIn w.heap.size w5 (.slice (some ⟨gt,0,none⟩) (zci ns [x,y,z] ar 3).length (zci ns [x,y,z] ar 3).length) (zci ns [x,y,z] ar 3)
    rw[zjf]
    exact HS5.out.low (by omega)
   have HV6:Hid (RowsIn w.heap.size (w5.setCell ⟨g,m,none⟩ (.slice (some ⟨gt,0,none⟩) ar ar)) (.slice (some ⟨gv,0,none⟩) rs.length capv) rs):=⟨zak (HV4.out.below' HB5.out).1 hsv hOf (by decide),HV4.out.2⟩
   have hB6:Below w.heap.size w (w5.setCell ⟨g,m,none⟩ (.slice (some ⟨gt,0,none⟩) ar ar)):=(zae hB4 HB5.out (Nat.le_refl _)).setCell (by simpa using hgl) _
   have HGS6:Hid ((gs++[gt]).length=m+1):=show(gs++[gt]).length=m+1 by simp[HGS.out]
   clear hset hR5 hsv hOf HR4 HC4 HV4 HS5 HB5 a0 a1 a2 ax ag af v0 v1 v2
   generalize w5.setCell ⟨g,m,none⟩ (.slice (some ⟨gt,0,none⟩) ar ar)=w7 at *
   go_wp2
   go_roundw
   case rel=>exact⟨m+1,gs++[gt],by omega,by go_num,hB6,HGS6.out,HR6,HC6,HV6⟩
   case measure=>simp[intOf];omega
  ·obtain rfl:m=rs.length:=by omega
   have q1:=HR.out
   have q2:=HC.out
   rw[Nat.sub_self,List.replicate_zero,List.append_nil] at q1
   rw[List.take_length] at q2
   have HQ:Hid (_/\_):=And.intro q1 q2
   clear q1 q2 HR HC HV HGS
   go_wp2
   go_ret2
   exact⟨g,gs,hgl,rfl,HQ.out.1,HQ.out.2,hbk⟩
end Go.Proofs.YteampbddflhngabGreat
namespace Go.Proofs.YteampbddflhngabGreat
open Classical
def zsb(ns:List ByteArray)(σ:ByteArray->Nat)(l:zbz)(i:Nat):Nat:=match l.args[i]? with
 |none=>0
 |some y=>if za6 y=true then σ y else(zcy ns y).getD 0
def z5q(ns:List ByteArray)(σ:ByteArray->Nat)(l:zbz):zao:=[zsb ns σ l 0,zsb ns σ l 1,zsb ns σ l 2]
theorem zoa{vs:List ByteArray}{pl:List Nat}(hp:∀ k,pl.getD k 0 < 5)(n:ByteArray):zdf vs pl n < 5:=by
 unfold zdf
 split
 ·omega
 ·split
  ·omega
  ·exact hp _
theorem z0p(t:List zar)(ns vs:List ByteArray){pl:List Nat}(hp:∀ k,pl.getD k 0 < 5)(l:zbz)(y:List Nat)(i:Nat):rowCell (zde t ns vs pl l) y i=zsb ns (fun v=>y.getD (zdf vs pl v) 0) l i:=by
 unfold rowCell zsb
 by_cases h:i < l.args.length
 ·have h2:i < (zde t ns vs pl l).terms.length:=by simp[zde,za3];exact h
  rw[if_pos h2,List.getElem?_eq_getElem h,getD_lt _ h2]
  have e:(zde t ns vs pl l).terms[i]=zc1 0 (za3 ns vs pl l) (zfk ns vs pl l.args[i]):=by simp[zde,za3]
  obtain⟨e1,e2⟩:=zfa 0 (za3 ns vs pl l) (zfk ns vs pl l.args[i])
  rw[e]
  unfold atT
  rw[e1,e2]
  unfold zfk
  by_cases hv:za6 l.args[i]=true
  ·have:=zoa (vs:=vs) hp l.args[i]
   simp[hv,this]
  ·simp[hv]
 ·have h2:¬ i < (zde t ns vs pl l).terms.length:=by simp[zde,za3];omega
  rw[if_neg h2,List.getElem?_eq_none (by omega)]
theorem zm2(t:List zar)(ns vs:List ByteArray){pl:List Nat}(hp:∀ k,pl.getD k 0 < 5)(l:zbz)(y:List Nat):zcr (zde t ns vs pl l) y=z5q ns (fun v=>y.getD (zdf vs pl v) 0) l:=by
 simp only[zcr,z5q,z0p t ns vs hp]
theorem zzk{ns:List ByteArray}{σ τ:ByteArray->Nat}{l:zbz}(h:∀ y∈l.args,za6 y=true->σ y=τ y):z5q ns σ l=z5q ns τ l:=by
 have:∀ i,zsb ns σ l i=zsb ns τ l i:=by
  intro i
  unfold zsb
  cases hq:l.args[i]? with
  |none=>rfl
  |some y =>
   have hm:=List.mem_of_getElem? hq
   by_cases hv:za6 y=true
   ·simp only[hv,if_true];exact h y hm hv
   ·simp[hv]
 simp only[z5q,this]
def z8u(t:List zar)(ns:List ByteArray)(c:zab)(D:DB)(x:zao):Prop:=∃ σ,(∀ l∈c.body,l.neg=false->InD D (zbd t l.pred) (z5q ns σ l))/\(∀ l∈c.body,l.neg=true->D (zbd t l.pred) (z5q ns σ l)=none)/\x=z5q ns σ c.head
theorem z5j{k:Nat}{f:Nat->Nat}(h:∀ p,p < k->∃ i,i < k/\f i=p){i j:Nat}(hi:i < k)(hj:j < k)(e:f i=f j):i=j:=by
 by_cases hne:i=j
 ·exact hne
 ·have:=zlu (l1:=List.range k) (l2:=((List.range k).erase j).map f) List.nodup_range (fun p hp=>by
   obtain⟨a,ha,hf⟩:=h p (List.mem_range.1 hp)
   by_cases haj:a=j
   ·exact List.mem_map.2 ⟨i,(List.mem_erase_of_ne hne).2 (List.mem_range.2 hi),by rw[e,← haj,hf]⟩
   ·exact List.mem_map.2 ⟨a,(List.mem_erase_of_ne haj).2 (List.mem_range.2 ha),hf⟩)
  rw[List.length_map,List.length_erase_of_mem (List.mem_range.2 hj),List.length_range] at this
  omega
theorem zzb{vs:List ByteArray}{pl:List Nat}(h5:vs.length<=5)(hp:zif pl vs.length){u v:ByteArray}(hu:u∈vs)(hv:v∈vs)(e:zdf vs pl u=zdf vs pl v):u=v:=by
 obtain⟨i,i1,i2⟩:=zh3 hu
 obtain⟨j,j1,j2⟩:=zh3 hv
 unfold zdf at e
 rw[i2,j2] at e
 simp only at e
 rw[if_neg (by omega),if_neg (by omega)] at e
 have:=z5j hp.onto i1 j1 e
 subst this
 obtain⟨_,a⟩:=ziy i2
 obtain⟨_,b⟩:=ziy j2
 rw[← a,← b]
theorem z03{t:List zar}{ns:List ByteArray}{c:zab}{o:Option (List Int)}{D:DB}{x:zao}(hv:∀ l∈za1 c,∀ y∈l.args,za6 y=true->y∈zaf c)(h5:(zaf c).length<=5)(hp:zif (za4 (o.getD [])) (zaf c).length):Der (zlb t ns c o) D x↔z8u t ns c D x:=by
 constructor
 ·rintro⟨y,h1,h2,h3⟩
  refine⟨fun v=>y.getD (zdf (zaf c) (za4 (o.getD [])) v) 0,fun l hl hn=>?_,fun l hl hn=>?_,?_⟩
  ·have:=h1 (zde t ns (zaf c) (za4 (o.getD [])) l) (List.mem_map.2 ⟨l,List.mem_filter.2 ⟨hl,by simp[hn]⟩,rfl⟩)
   rw[zm2 t ns _ hp.five] at this
   exact this
  ·have:=h2 (zde t ns (zaf c) (za4 (o.getD [])) l) (List.mem_map.2 ⟨l,List.mem_filter.2 ⟨hl,by simp[hn]⟩,rfl⟩)
   rw[zm2 t ns _ hp.five] at this
   exact this
  ·rw[h3]
   exact zm2 t ns _ hp.five _ _
 ·rintro⟨σ,h1,h2,h3⟩
  let yf:Nat->Nat:=fun p=>if hq:∃ v,v∈zaf c/\zdf (zaf c) (za4 (o.getD [])) v=p then σ hq.choose else 0
  have hyf:∀ v∈zaf c,yf (zdf (zaf c) (za4 (o.getD [])) v)=σ v:=by
   intro v hv'
   have hq:∃ u,u∈zaf c/\zdf (zaf c) (za4 (o.getD [])) u=zdf (zaf c) (za4 (o.getD [])) v:=⟨v,hv',rfl⟩
   show(if hq:∃ u,u∈zaf c/\zdf (zaf c) (za4 (o.getD [])) u=zdf (zaf c) (za4 (o.getD [])) v then σ hq.choose else 0)=σ v
   rw[dif_pos hq,zzb h5 hp hq.choose_spec.1 hv' hq.choose_spec.2]
  have hy:∀ p,p < 5->((List.range 5).map yf).getD p 0=yf p:=by
   intro p hp5
   rw[getD_lt _ (by simp;exact hp5)]
   simp
  have hrow:∀ l∈za1 c,zcr (zde t ns (zaf c) (za4 (o.getD [])) l) ((List.range 5).map yf)=z5q ns σ l:=by
   intro l hl
   rw[zm2 t ns _ hp.five]
   refine zzk fun y hy' hvy=>?_
   rw[hy _ (zoa hp.five _),hyf y (hv l hl y hy' hvy)]
  refine⟨(List.range 5).map yf,fun l hl=>?_,fun l hl=>?_,?_⟩
  ·obtain⟨z,hz,rfl⟩:=List.mem_map.1 hl
   obtain⟨z1,z2⟩:=List.mem_filter.1 hz
   rw[hrow z (by simp[za1,z1])]
   exact h1 z z1 (by simpa using z2)
  ·obtain⟨z,hz,rfl⟩:=List.mem_map.1 hl
   obtain⟨z1,z2⟩:=List.mem_filter.1 hz
   rw[hrow z (by simp[za1,z1])]
   exact h2 z z1 (by simpa using z2)
  ·rw[h3]
   exact(hrow c.head (by simp[za1])).symm
theorem Parts.covered{cs:List zab}{t0 t:List zar}(h:Parts cs t0 t){c:zab}(hc:c∈cs):∀ l∈za1 c,∀ y∈l.args,za6 y=true->y∈zaf c:=by
 have hs:=h.safe c hc
 simp only[ze4,Bool.and_eq_true,List.all_eq_true,Bool.or_eq_true,Bool.not_eq_true'] at hs
 intro l hl y hy hv
 rcases List.mem_cons.1 hl with rfl|hl
 ·exact zin.1 hs.1 y hy hv
 ·cases hn:l.neg with
  |false=>exact zh0.2 ⟨hv,l,hl,hn,hy⟩
  |true =>
   rcases hs.2 l hl with q|q
   ·rw[hn] at q;cases q
   ·exact zin.1 q y hy hv
def z8p(t:List zar)(ns:List ByteArray)(cs:List zab)(s:Nat)(D:DB)(p:Nat)(x:zao):Prop:=∃ c∈cs,0 < c.body.length/\zds t c.head.pred=s/\p=zbd t c.head.pred/\z8u t ns c D x
theorem zpx{t:List zar}{ns:List ByteArray}{os:Option (List (Option (List Int)))}{cs:List zab}{r:zah}:r∈zep t ns os cs↔∃ i,∃ hi:i < cs.length,0 < cs[i].body.length/\r=zlb t ns cs[i] (zdz os i):=by
 unfold zep
 rw[List.mem_filterMap]
 constructor
 ·rintro⟨⟨c,i⟩,h1,h2⟩
  have h3:=List.mem_zipIdx_iff_getElem?.1 h1
  simp only at h2 h3
  obtain⟨hi,rfl⟩:=List.getElem?_eq_some_iff.1 h3
  split at h2
  ·rename_i hb
   simp only[Option.some.injEq] at h2
   exact⟨i,hi,hb,h2.symm⟩
  ·cases h2
 ·rintro⟨i,hi,hb,rfl⟩
  refine⟨(cs[i],i),List.mem_zipIdx_iff_getElem?.2 (by simp[hi]),?_⟩
  simp only
  rw[if_pos hb]
theorem z8m{cs:List zab}{t0 t:List zar}(h:Parts cs t0 t)(ns:List ByteArray)(os:Option (List (Option (List Int))))(hp:∀ i (hi:i < cs.length),zif (za4 ((zdz os i).getD [])) (zaf cs[i]).length)(s:Nat)(D:DB)(p:Nat)(x:zao):zrx ((zep t ns os cs).filter fun r=>decide (r.stratum=s)) D p x↔z8p t ns cs s D p x:=by
 constructor
 ·rintro⟨r,hr,h1,h2⟩
  obtain⟨r1,r2⟩:=List.mem_filter.1 hr
  obtain⟨i,hi,hb,rfl⟩:=zpx.1 r1
  have hc:=List.getElem_mem hi
  exact⟨cs[i],hc,hb,of_decide_eq_true r2,h1,(z03 (h.covered hc) (zf5 (h.many _ hc)) (hp i hi)).1 h2⟩
 ·rintro⟨c,hc,hb,h1,h2,h3⟩
  obtain⟨i,hi,rfl⟩:=List.mem_iff_getElem.1 hc
  exact⟨zlb t ns cs[i] (zdz os i),List.mem_filter.2 ⟨zpx.2 ⟨i,hi,hb,rfl⟩,decide_eq_true h1⟩,h2,(z03 (h.covered hc) (zf5 (h.many _ hc)) (hp i hi)).2 h3⟩
end Go.Proofs.YteampbddflhngabGreat
namespace Go.Proofs.YteampbddflhngabGreat
theorem zm1{ns:List ByteArray}(h:zb9 ns){i j:Nat}(hij:i < j)(hj:j < ns.length):ltB (ns.getD i ByteArray.empty) (ns.getD j ByteArray.empty)=true:=by
 have hi:i < ns.length:=by omega
 rw[getD_lt _ hi,getD_lt _ hj]
 exact List.pairwise_iff_getElem.1 h i j hi hj hij
theorem zve{ns:List ByteArray}(h:zb9 ns)(x:ByteArray):∀(n l hh:Nat),l<=hh->hh<=ns.length->hh - l < n->(∀ i,i < l->ltB (ns.getD i ByteArray.empty) x=true)->(∀ i,hh<=i->i < ns.length->ltB (ns.getD i ByteArray.empty) x=false)->halves ns x n l hh<=ns.length/\(∀ i,i < halves ns x n l hh->ltB (ns.getD i ByteArray.empty) x=true)/\∀ i,halves ns x n l hh<=i->i < ns.length->ltB (ns.getD i ByteArray.empty) x=false:=by
 intro n
 induction n with
 |zero=>intro l hh _ _ q;omega
 |succ n ih =>
  intro l hh h1 h2 h3 h4 h5
  unfold halves
  by_cases hlt:l < hh
  ·rw[if_pos hlt]
   have hm:l+(hh - l) / 2 < hh:=by omega
   have hml:l<=l+(hh - l) / 2:=by omega
   generalize l+(hh - l) / 2=m at *
   by_cases hL:ltB (ns.getD m ByteArray.empty) x=true
   ·rw[if_pos hL]
    refine ih (m+1) hh (by omega) h2 (by omega) (fun i hi=>?_) h5
    by_cases him:i=m
    ·rw[him];exact hL
    ·exact lt_trans (zm1 h (show i < m by omega) (by omega)) hL
   ·rw[if_neg hL]
    have hL':ltB (ns.getD m ByteArray.empty) x=false:=by simpa using hL
    refine ih l m hml (by omega) (by omega) h4 (fun i hi hn=>?_)
    by_cases him:i=m
    ·rw[him];exact hL'
    ·cases hq:ltB (ns.getD i ByteArray.empty) x with
     |false=>rfl
     |true =>
      have:=lt_trans (zm1 h (show m < i by omega) hn) hq
      rw[this] at hL'
      cases hL'
  ·rw[if_neg hlt]
   exact⟨by omega,h4,fun i hi hn=>h5 i (by omega) hn⟩
theorem zn7{ns:List ByteArray}(h:zb9 ns)(x:ByteArray):zbq ns x<=ns.length/\(∀ i,i < zbq ns x->ltB (ns.getD i ByteArray.empty) x=true)/\∀ i,zbq ns x<=i->i < ns.length->ltB (ns.getD i ByteArray.empty) x=false :=
 zve h x _ 0 ns.length (Nat.zero_le _) (Nat.le_refl _) (by omega) (fun i hi=>by omega) (fun i hi hn=>by omega)
theorem zuh{ns:List ByteArray}(h:zb9 ns){v:Nat}(hv:v < ns.length):zcy ns (ns.getD v ByteArray.empty)=some v:=by
 obtain⟨p1,p2,p3⟩:=zn7 h (ns.getD v ByteArray.empty)
 have hp:zbq ns (ns.getD v ByteArray.empty)=v:=by
  rcases Nat.lt_trichotomy (zbq ns (ns.getD v ByteArray.empty)) v with q|q|q
  ·have:=p3 _ (Nat.le_refl _) (by omega)
   rw[zm1 h q hv] at this
   cases this
  ·exact q
  ·have:=p2 v q
   rw[lt_irrefl] at this
   cases this
 unfold zcy
 rw[hp,if_pos ⟨hv,rfl⟩]
theorem zzv{ns:List ByteArray}(h:zb9 ns){x:ByteArray}(hx:x∈ns):∃ v,zcy ns x=some v/\v < ns.length:=by
 obtain⟨v,hv,rfl⟩:=List.getElem_of_mem hx
 have:=zuh h hv
 rw[getD_lt _ hv] at this
 exact⟨v,this,hv⟩
theorem z1j{ns:List ByteArray}(h:zb9 ns)(x:ByteArray):zb9 (z1i ns x)/\∀ y,y∈z1i ns x↔y=x∨y∈ns:=by
 unfold z1i
 obtain⟨p1,p2,p3⟩:=zn7 h x
 by_cases hc:zbq ns x < ns.length/\ns.getD (zbq ns x) ByteArray.empty=x
 ·rw[if_pos hc]
  refine⟨h,fun y=>⟨Or.inr,fun q=>q.elim (fun e=>?_) id⟩⟩
  rw[e,← hc.2,getD_lt _ hc.1]
  exact List.getElem_mem hc.1
 ·rw[if_neg hc]
  generalize zbq ns x=p at *
  refine⟨?_,fun y=>?_⟩
  ·unfold zb9
   have hsp:ns.take p++ns.drop p=ns:=List.take_append_drop p ns
   have hall:=h
   unfold zb9 at hall
   rw[← hsp,List.pairwise_append] at hall
   rw[List.pairwise_append,List.pairwise_cons]
   have hlo:∀ a∈ns.take p,ltB a x=true:=fun a ha=>by
    obtain⟨i,hi,rfl⟩:=List.getElem_of_mem ha
    have hi':i < p:=by simp at hi;omega
    have hin:i < ns.length:=by omega
    have:=p2 i hi'
    rw[getD_lt _ hin] at this
    simpa using this
   have hhi:∀ b∈ns.drop p,ltB x b=true:=fun b hb=>by
    obtain⟨i,hi,rfl⟩:=List.getElem_of_mem hb
    have hin:p+i < ns.length:=by simp at hi;omega
    have h1:=p3 (p+i) (by omega) hin
    rw[getD_lt _ hin] at h1
    rw[List.getElem_drop]
    cases hq:ltB x ns[p+i] with
    |true=>rfl
    |false =>
     exfalso
     have e:=zw9 h1 hq
     by_cases hi0:i=0
     ·subst hi0
      exact hc ⟨by omega,by rw[getD_lt _ (by omega)];simpa using e⟩
     ·have h2:=zm1 h (show p < p+i by omega) hin
      rw[getD_lt _ hin,e] at h2
      have h3:=p3 p (Nat.le_refl _) (by omega)
      rw[h3] at h2
      cases h2
   refine⟨hall.1,⟨hhi,hall.2.1⟩,fun a ha b hb=>?_⟩
   rcases List.mem_cons.1 hb with rfl|hb
   ·exact hlo a ha
   ·exact hall.2.2 a ha b hb
  ·have:y∈ns↔y∈ns.take p∨y∈ns.drop p:=by
    rw[← List.mem_append,List.take_append_drop]
   rw[this]
   simp only[List.mem_append,List.mem_cons]
   constructor
   ·rintro(q|q|q)
    ·exact Or.inr (Or.inl q)
    ·exact Or.inl q
    ·exact Or.inr (Or.inr q)
   ·rintro(q|q|q)
    ·exact Or.inr (Or.inl q)
    ·exact Or.inl q
    ·exact Or.inr (Or.inr q)
theorem zzt{ns:List ByteArray}(h:zb9 ns)(x:ByteArray):zb9 (zhr ns x)/\∀ y,y∈zhr ns x↔(y=x/\za6 x=false)∨y∈ns:=by
 unfold zhr
 cases hv:za6 x with
 |true=>simp[h]
 |false=>simpa using z1j h x
theorem zke:∀(xs:List ByteArray) {ns:List ByteArray},zb9 ns->zb9 (xs.foldl zhr ns)/\∀ y,y∈xs.foldl zhr ns↔(y∈xs/\za6 y=false)∨y∈ns
 |[],ns,h=>⟨h,fun y=>by simp⟩
 |x::xs,ns,h=>by
  obtain⟨s1,s2⟩:=zzt h x
  obtain⟨i1,i2⟩:=zke xs s1
  refine⟨i1,fun y=>?_⟩
  rw[List.foldl_cons,i2,s2]
  simp only[List.mem_cons]
  constructor
  ·rintro(⟨q1,q2⟩|⟨rfl,q2⟩|q)
   ·exact Or.inl ⟨Or.inr q1,q2⟩
   ·exact Or.inl ⟨Or.inl rfl,q2⟩
   ·exact Or.inr q
  ·rintro(⟨rfl|q1,q2⟩|q)
   ·exact Or.inr (Or.inl ⟨rfl,q2⟩)
   ·exact Or.inl ⟨q1,q2⟩
   ·exact Or.inr (Or.inr q)
theorem zo8:∀(ls:List zbz) {ns:List ByteArray},zb9 ns->zb9 (ls.foldl zji ns)/\∀ y,y∈ls.foldl zji ns↔(∃ l∈ls,y∈l.args/\za6 y=false)∨y∈ns
 |[],ns,h=>⟨h,fun y=>by simp⟩
 |l::ls,ns,h=>by
  obtain⟨s1,s2⟩:=zke l.args h
  obtain⟨i1,i2⟩:=zo8 ls (ns:=zji ns l) s1
  refine⟨i1,fun y=>?_⟩
  have s2':∀ y,y∈zji ns l↔(y∈l.args/\za6 y=false)∨y∈ns:=s2
  rw[List.foldl_cons,i2,s2']
  simp only[List.mem_cons,exists_eq_or_imp]
  constructor
  ·rintro(q|q|q)
   ·exact Or.inl (Or.inr q)
   ·exact Or.inl (Or.inl q)
   ·exact Or.inr q
  ·rintro((q|q)|q)
   ·exact Or.inr (Or.inl q)
   ·exact Or.inl q
   ·exact Or.inr (Or.inr q)
theorem zkm:∀(cs:List zab) {ns:List ByteArray},zb9 ns->zb9 (cs.foldl zdc ns)/\∀ y,y∈cs.foldl zdc ns↔(∃ c∈cs,∃ l∈za1 c,y∈l.args/\za6 y=false)∨y∈ns
 |[],ns,h=>⟨h,fun y=>by simp⟩
 |c::cs,ns,h=>by
  obtain⟨s1,s2⟩:=zke c.head.args h
  obtain⟨b1,b2⟩:=zo8 c.body (ns:=zji ns c.head) s1
  obtain⟨i1,i2⟩:=zkm cs (ns:=zdc ns c) b1
  refine⟨i1,fun y=>?_⟩
  have s2':∀ y,y∈zji ns c.head↔(y∈c.head.args/\za6 y=false)∨y∈ns:=s2
  have b2':∀ y,y∈zdc ns c↔(∃ l∈c.body,y∈l.args/\za6 y=false)∨y∈zji ns c.head:=b2
  rw[List.foldl_cons,i2,b2',s2']
  simp only[List.mem_cons,exists_eq_or_imp,za1]
  constructor
  ·rintro(q|q|q|q)
   ·exact Or.inl (Or.inr q)
   ·exact Or.inl (Or.inl (Or.inr q))
   ·exact Or.inl (Or.inl (Or.inl q))
   ·exact Or.inr q
  ·rintro(((q|q)|q)|q)
   ·exact Or.inr (Or.inr (Or.inl q))
   ·exact Or.inr (Or.inl q)
   ·exact Or.inl q
   ·exact Or.inr (Or.inr (Or.inr q))
theorem zkn(cs:List zab):zb9 (zav cs)/\∀ y,y∈zav cs↔∃ c∈cs,∃ l∈za1 c,y∈l.args/\za6 y=false:=by
 obtain⟨h1,h2⟩:=zkm cs (ns:=[]) List.Pairwise.nil
 exact⟨h1,fun y=>by rw[show zav cs=cs.foldl zdc [] from rfl,h2];simp⟩
end Go.Proofs.YteampbddflhngabGreat
namespace Go.Proofs.YteampbddflhngabGreat
open Classical
theorem zxx{S:zro}(P:DB->Prop)(h0:P (zjn S.facts))(hs:∀ s k D,P D->P (zgw (S.rules.filter fun r=>decide (r.stratum=s)) k D)){mr mx:Nat}{D:DB}{k:Nat}(h:zjm S mr mx=some (D,k)):P D:=by
 have hr:∀ s (left k:Nat) (D D':DB) (k':Nat),P D->zd6 (S.rules.filter fun r=>decide (r.stratum=s)) mr left k D=some (D',k')->P D':=by
  intro s left
  induction left with
  |zero=>intro k D D' k' _ h;cases h
  |succ left ih =>
   intro k D D' k' hD h
   unfold zd6 at h
   split at h
   ·split at h
    ·simp only[Option.some.injEq,Prod.mk.injEq] at h
     rw[← h.1];exact hs s _ D hD
    ·exact ih (k+1) _ D' k' (hs s _ D hD) h
   ·cases h
 have ht:∀(n s k:Nat) (D D':DB) (k':Nat),P D->zev S.rules mr mx n s k D=some (D',k')->P D':=by
  intro n
  induction n with
  |zero =>
   intro s k D D' k' hD h
   unfold zev at h
   simp only[Option.some.injEq,Prod.mk.injEq] at h
   rw[← h.1];exact hD
  |succ n ih =>
   intro s k D D' k' hD h
   unfold zev at h
   split at h
   ·exact ih (s+1) k D D' k' hD h
   ·split at h
    ·cases h
    ·rename_i D1 k1 hq
     exact ih (s+1) k1 D1 D' k' (hr s _ k D D1 k1 hD hq) h
 unfold zjm at h
 split at h
 ·exact ht _ 0 0 _ D k h0 h
 ·cases h
def zuq(ar:List Nat)(n:Nat)(D:DB):Prop:=∀ p x,InD D p x->∀ i,i < ar.getD p 0->x.getD i 0 < n
theorem zw8{cs:List zab}{c:zab}(hc:c∈cs){l:zbz}(hl:l∈za1 c)(t:List zar)(vs:List ByteArray)(pl:List Nat):∀ x∈(zde t (zav cs) vs pl l).terms,x.var=false->x.num < (zav cs).length:=by
 intro x hx hv
 unfold zde at hx
 simp only[List.mem_map] at hx
 obtain⟨z,hz,rfl⟩:=hx
 unfold za3 at hz
 obtain⟨y,hy,rfl⟩:=List.mem_map.1 hz
 obtain⟨e1,e2⟩:=zfa 0 (za3 (zav cs) vs pl l) (zfk (zav cs) vs pl y)
 rw[e1] at hv
 rw[e2]
 obtain⟨r1,r2⟩:=zkn cs
 unfold zfk at hv ⊢
 by_cases hq:za6 y=true
 ·rw[if_pos hq] at hv;cases hv
 ·rw[if_neg hq]
  obtain⟨v,v1,v2⟩:=zzv r1 ((r2 y).2 ⟨c,hc,l,hl,hy,by simpa using hq⟩)
  rw[v1];exact v2
theorem zqc{l:zaj}{a W n:Nat}(h:zha l a W)(hcon:∀ x∈l.terms,x.var=false->x.num < n){y:List Nat}(hy:∀ p,zdd l p=true->y.getD p 0 < n):∀ i,i < a->(zcr l y).getD i 0 < n:=by
 intro i hi
 have hil:i < l.terms.length:=by rw[h.len];exact hi
 rw[zla l y (by have:=h.le3;omega)]
 unfold rowCell
 rw[if_pos hil,show l.terms.getD i ⟨false,0,0⟩=l.terms[i] by simp[List.getD,hil]]
 have hm:=List.getElem_mem hil
 unfold atT
 cases hq:l.terms[i].var with
 |true =>
  rw[if_pos (by simp[(h.lev _ hm hq).1])]
  exact hy _ ((zfc l _).2 ⟨_,hm,hq,rfl⟩)
 |false =>
  rw[if_neg (by simp)]
  exact hcon _ hm hq
theorem zvg{cs:List zab}{t0 t:List zar}(h:Parts cs t0 t)(os:Option (List (Option (List Int))))(hp:∀ i (hi:i < cs.length),zif (za4 ((zdz os i).getD [])) (zaf cs[i]).length){mr mx:Nat}{D:DB}{k:Nat}(hr:zjm (zjl t (zav cs) os cs) mr mx=some (D,k)):zuq (t.map (·.arity)) (zav cs).length D:=by
 have hset:=z2w h (zav cs) os hp
 refine zxx (S:=zjl t (zav cs) os cs) (fun D=>zuq (t.map (·.arity)) (zav cs).length D) ?_ ?_ hr
 ·intro p x hx i hi
  unfold InD zjn at hx
  split at hx
  ·rename_i hf
   obtain⟨f,f1,rfl,rfl⟩:=hf
   have f1':f∈zel t (zav cs) cs:=f1
   unfold zel at f1'
   obtain⟨c,hc,rfl⟩:=List.mem_map.1 f1'
   have hcm:=(List.mem_filter.1 hc).1
   have hb:c.body=[]:=by
    have:=(List.mem_filter.1 hc).2
    simp at this
    exact this
   obtain⟨e,_,_,q3,q4,_⟩:=h.lit hcm (l:=c.head) (by simp[za1])
   have hi':i < c.head.args.length:=by
    have hi2:i < (t.map (·.arity)).getD (zbd t c.head.pred) 0:=hi
    rw[q4] at hi2
    exact hi2
   have hwf:zha (zde t (zav cs) [] [0,0,0,0,0] c.head) c.head.args.length (za2 (zav cs).length):=zq6 t _ [] _ c.head (fun k=>by
    by_cases hk:k < 5
    ·have:k=0∨k=1∨k=2∨k=3∨k=4:=by omega
     rcases this with rfl|rfl|rfl|rfl|rfl <;> decide
    ·simp[List.getD,List.getElem?_eq_none (show([0,0,0,0,0]:List Nat).length<=k by simp;omega)]) (zfp (h.many c hcm)).1
   refine zqc hwf (zw8 hcm (by simp[za1]) t [] _) (fun p hpp=>?_) i hi'
   obtain⟨y,y1,y2,_⟩:=znw.1 hpp
   have hs:=h.safe c hcm
   simp only[ze4,Bool.and_eq_true] at hs
   have:=zin.1 hs.1 y y1 y2
   have hnil:zaf c=[]:=by unfold zaf;rw[hb];rfl
   rw[hnil] at this
   cases this
  ·cases hx
 ·intro s k D hD p x hx i hi
  unfold InD zgw at hx
  cases hq:D p x with
  |some m=>exact hD p x (by unfold InD;rw[hq];rfl) i hi
  |none =>
   rw[hq] at hx
   simp only at hx
   split at hx
   ·rename_i hst
    obtain⟨r,hr1,rfl,y,y1,y2,rfl⟩:=hst
    have hrm:r∈zep t (zav cs) os cs:=(List.mem_filter.1 hr1).1
    have hwf:=hset.rules.rules r hrm
    unfold zep at hrm
    obtain⟨⟨c,j⟩,h1,h2⟩:=List.mem_filterMap.1 hrm
    have h3:=List.mem_zipIdx_iff_getElem?.1 h1
    simp only at h2 h3
    have hcm:=List.mem_of_getElem? h3
    split at h2
    ·simp only[Option.some.injEq] at h2
     subst h2
     refine zqc hwf.head (zw8 hcm (by simp[za1]) t _ _) (fun p hpp=>?_) i hi
     obtain⟨l,l1,l2⟩:=hwf.fine.safe p (hwf.fine.head p hpp)
     obtain⟨tm,t1,t2,t3⟩:=(zfc l p).1 l2
     obtain⟨i2,hi2,rfl⟩:=List.getElem_of_mem t1
     obtain⟨w1,w2⟩:=hwf.plain l l1
     have:=hD l.pred (zcr l y) (y1 l l1) i2 (by have:=w2.len;have hq:i2 < l.terms.length:=hi2;rw[this] at hq;exact hq)
     rw[zla l y (by have:=w2.len;have:=w2.le3;omega)] at this
     unfold rowCell at this
     rw[if_pos hi2,show l.terms.getD i2 ⟨false,0,0⟩=l.terms[i2] by simp[List.getD,hi2]] at this
     unfold atT at this
     rw[if_pos (by simp[t2,(w2.lev _ t1 t2).1]),t3] at this
     exact this
    ·cases h2
   ·cases hx
theorem zl2{ns:List ByteArray}(hr:zb9 ns){ar:Nat}(h3:ar<=3){r:zao}(hc:Canon ar r)(hi:∀ i,i < ar->r.getD i 0 < ns.length):zre ns (zci ns r ar 3) 0 [0,0,0]=some r:=by
 obtain⟨x,y,z,rfl⟩:∃ x y z,r=[x,y,z]:=by
  match r,hc.1 with
  |[x,y,z],_=>exact⟨x,y,z,rfl⟩
 have e0:∀ i,ar<=i->([x,y,z]:zao).getD i 0=0:=hc.2
 have hv:∀ i,i < ar->zcy ns (ns.getD (([x,y,z]:zao).getD i 0) ByteArray.empty)=some (([x,y,z]:zao).getD i 0):=fun i q=>zuh hr (hi i q)
 have h4:ar=0∨ar=1∨ar=2∨ar=3:=by omega
 rcases h4 with rfl|rfl|rfl|rfl
 ·have a:=e0 0 (by omega);have b:=e0 1 (by omega);have c:=e0 2 (by omega)
  simp at a b c
  subst a;subst b;subst c
  rfl
 ·have b:=e0 1 (by omega);have c:=e0 2 (by omega)
  simp at b c
  subst b;subst c
  have v0:zcy ns (ns[x]?.getD ByteArray.empty)=some x:=by have:=hv 0 (by omega);simpa using this
  simp[zci,zre,v0]
 ·have c:=e0 2 (by omega)
  simp at c
  subst c
  have v0:zcy ns (ns[x]?.getD ByteArray.empty)=some x:=by have:=hv 0 (by omega);simpa using this
  have v1:zcy ns (ns[y]?.getD ByteArray.empty)=some y:=by have:=hv 1 (by omega);simpa using this
  simp[zci,zre,v0,v1,List.range_succ]
 ·have v0:zcy ns (ns[x]?.getD ByteArray.empty)=some x:=by have:=hv 0 (by omega);simpa using this
  have v1:zcy ns (ns[y]?.getD ByteArray.empty)=some y:=by have:=hv 1 (by omega);simpa using this
  have v2:zcy ns (ns[z]?.getD ByteArray.empty)=some z:=by have:=hv 2 (by omega);simpa using this
  simp[zci,zre,v0,v1,v2,List.range_succ]
end Go.Proofs.YteampbddflhngabGreat
