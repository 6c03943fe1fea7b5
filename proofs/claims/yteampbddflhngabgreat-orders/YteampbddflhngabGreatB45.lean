import Derived.Test.YteampbddflhngabGreatB35
import Derived.Test.YteampbddflhngabGreatB10
import Derived.Test.YteampbddflhngabGreatB44
import Derived.Test.YteampbddflhngabGreatB37

namespace Go.Proofs.YteampbddflhngabGreat
set_option maxRecDepth 100000
set_option maxHeartbeats 4000000
open Go.RowKit
variable{lo lp:Nat}
theorem Tryz.infoSS:(Tryz.prog.info? 38).map(fun i=>(i.zero,i.size,i.bytes))=some(some(.slice none 0 0),1,24):=by kernel_rfl
theorem trowsG(w:World)(tb:Nat)(T:PTrie)(fp:List Nat)(n:Nat)(rs:List PRow)(h:TrieAt lo w tb T fp)(hr:rowsG n T=some rs) :
  Calls Tryz.prog 51 #[.pointer(some⟨tb,0,none⟩)] w fun e w'=>∃ v,e=.returned v/\RowsIn w.heap.size w' v rs/\Below w.heap.size w w':=by
 unfold rowsG at hr
 cases hf:rowsF n T with
 |none=>rw [hf] at hr;cases hr
 |some rs' =>
  rw [hf] at hr
  simp only at hr
  split at hr
  ·simp only [Option.some.injEq] at hr
   subst hr
   exact rows_any w tb T fp h n rs' hf(by assumption)
  ·cases hr
theorem rowsG_few{n:Nat}{T:PTrie}{rs:List PRow}(hr:rowsG n T=some rs):rs.length<=1048576:=by
 unfold rowsG at hr
 cases hf:rowsF n T with
 |none=>rw [hf] at hr;cases hr
 |some rs' =>
  rw [hf] at hr
  simp only at hr
  split at hr
  ·simp only [Option.some.injEq] at hr
   subst hr
   assumption
  ·cases hr
def rowLit(ns:List ByteArray)(ar:Nat)(r:PRow):PLit:=⟨false,ByteArray.empty,termsK ns r ar 3⟩
def slOf(ar g:Nat):Value:=.slice(some⟨g,0,none⟩) ar ar
def RowsPost(ns:List ByteArray)(ar:Nat)(rs:List PRow)(w:World)(e:Ending)(w':World):Prop:=∃ g gs,w.heap.size<=g/\e=.returned(.tuple #[.slice(some⟨g,0,none⟩) rs.length rs.length,.int .i64 0])/\w'.ownsRow w.heap.size 38 1(.slice(some⟨g,0,none⟩) rs.length rs.length) rs.length(gs.map(slOf ar))/\Copies w.heap.size w'(rs.map(rowLit ns ar)) gs/\Below w.heap.size w w'
theorem rrows_any(w:World)(rb:Nat)(t:List PEnt)(ns:List ByteArray)(R:PRun)(pv nv rv:Value)(tbs:List Nat)(pred:ByteArray)(h:ResO lo lp w rb t ns R pv nv rv tbs)(hs':(entAt t pred).isSome=true)(hfi:findN t pred < R.rows.length)(n:Nat)(rs:List PRow)(hr:rowsG n R.rows[findN t pred]=some rs)(har:arityN t(findN t pred)<=1000) :
  Calls Tryz.prog 28 #[.pointer(some⟨rb,0,none⟩),.string pred] w fun e w'=>RowsPost ns(arityN t(findN t pred)) rs w e w':=by
 have HFI:Hid(Calls Tryz.prog 50 #[.pointer(some⟨rb,0,none⟩),.string pred] w fun e w'=>e=.returned(.tuple #[.int .i64(findN t pred:Nat),.bool(entAt t pred).isSome])/\w'=w):=gfind_any lp w rb 0 t pred h.tg h.few.1
 rw [hs'] at HFI
 have HRE:Hid(ResO lo lp w rb t ns R pv nv rv tbs):=h
 obtain⟨hc,hf⟩:=h.box.rules
 have hlt:=h.box.lt
 obtain⟨aor,capr,hrv⟩:=own_view h.rows
 subst hrv
 have d2:=hc 2
 have hfew:=h.few.2.2
 have hgi:¬ (R.rows.length:Int)<=(findN t pred:Int):=by omega
 clear h hc hs'
 have HAR:Hid(∀ W,Below w.heap.size w W->Calls Tryz.prog 53 #[.pointer(some⟨rb,0,none⟩),.int .i64(findN t pred:Nat)] W fun e w'=>e=.returned(.int .i64(arityN t(findN t pred):Nat))/\w'=W):=fun W hb=>garity_any lp W rb 0 t _(HRE.out.below hb).tg
 generalize findN t pred=fi at *
 have hft:fi < tbs.length:=by rw [HRE.out.tlen];exact hfi
 obtain⟨gr,capr',hvr,_,hgr,hcr⟩:=own_cells HRE.out.rows(by omega)
 simp only [Value.slice.injEq] at hvr
 have hgg:=hvr.1
 clear hvr
 subst hgg
 have hcp:=hcr fi(.pointer(some⟨tbs[fi],0,none⟩))(by simp [pts,hft,pt])
 have HRS:Hid(Calls Tryz.prog 51 #[.pointer(some⟨tbs[fi],0,none⟩)] w fun e w'=>∃ v,e=.returned v/\RowsIn w.heap.size w' v rs/\Below w.heap.size w w'):=by
  obtain⟨fp,q⟩:=HRE.out.tries fi hfi hft
  exact trowsG w _ _ fp n rs q hr
 have hrl:=rowsG_few hr
 have hfii:(fi:Int) < (R.rows.length:Int):=by omega
 obtain⟨i0,hi,hz0,hzs,hzb⟩:=info_parts Tryz.infoSS
 have hmk:=fun W0:World=>run_make(P:=Tryz.prog)(w:=W0) 59 38 i0 _ Tryz.underlying59 hi hz0 .i64 .i64(rs.length:Int)(rs.length:Int)(by omega)(Int.le_refl _)(by rw [hzb];omega)(by omega)
 rw [hzs] at hmk
 have HTE:Hid(∀ W(x y z:Nat),Below w.heap.size w W->Calls Tryz.prog 52 #[.pointer(some⟨rb,0,none⟩),.agg #[.int .i64(x:Nat),.int .i64(y:Nat),.int .i64(z:Nat)],.int .i64(arityN t fi)] W fun e w'=>∃ g,W.heap.size<=g/\e=.returned(.slice(some⟨g,0,none⟩)(arityN t fi)(arityN t fi))/\SIn W.heap.size w'(.slice(some⟨g,0,none⟩)(arityN t fi)(arityN t fi))(termsK ns [x,y,z](arityN t fi) 3)/\Below W.heap.size W w'):=fun W x y z hb=>rterms_any W rb _ x y z ns(HRE.out.below hb).cat har
 generalize arityN t fi=ar at *
 generalize tbs[fi]=tb at *
 clear hcr hr
 go_enter Tryz.func28,Tryz.ntmps28
 go_wp2_with(first|(go_at_call 50;refine HFI.out.mono ?_;rintro e w1⟨rfl,hww⟩;obtain rfl:=hww.symm)|(go_at_call 51;refine HRS.out.mono ?_;rintro e w1⟨v1,rfl,HV1,hb1⟩;obtain⟨aov,capv,rfl⟩:=own_view HV1.1))
 have hg1:Below w1.heap.size w1(w1.alloc(.cells(madeCells #[.slice none 0 0] rs.length) 38)):=(by repeat'(first|with_reducible(first|exact zR _ _|assumption|refine zN ?_ _|refine zA ?_ ?_ _|refine zD ?_|refine zS ?_ ?_ _)|go_size))
 have hB1:Below w.heap.size w(w1.alloc(.cells(madeCells #[.slice none 0 0] rs.length) 38)):=bnext hb1 hg1(Nat.le_refl _)
 have hrow:=own_low(own_madeV w1 rs.length 38(.slice none 0 0)(by unfold maxLen;omega)) hb1.size
 have HR0:Hid(World.ownsRow(w1.alloc(.cells(madeCells #[.slice none 0 0] rs.length) 38)) w.heap.size 38 1(.slice(some⟨w1.heap.size,0,none⟩) rs.length rs.length) rs.length(([]:List Nat).map(slOf ar)++List.replicate(rs.length - 0)(.slice none 0 0))):=hrow
 have HV2:Hid(RowsIn w.heap.size(w1.alloc(.cells(madeCells #[.slice none 0 0] rs.length) 38))(.slice aov rs.length capv) rs):=⟨owns_below HV1.1 hg1,HV1.2⟩
 have hgl:w.heap.size<=w1.heap.size:=hb1.size
 clear hrow hmk HRS HV1 hg1 HFI
 generalize w1.alloc(.cells(madeCells #[.slice none 0 0] rs.length) 38)=w2 at *
 generalize w1.heap.size=g at *
 clear hb1
 go_loopw [46](fun v46 wr=>∃ (m:Nat)(gs:List Nat),m<=rs.length/\v46=.int .i64 m/\Below w.heap.size w wr/\gs.length=m/\Hid(wr.ownsRow w.heap.size 38 1(.slice(some⟨g,0,none⟩) rs.length rs.length) rs.length(gs.map(slOf ar)++List.replicate(rs.length - m)(.slice none 0 0)))/\Hid(Copies w.heap.size wr((rs.take m).map(rowLit ns ar)) gs)/\Hid(RowsIn w.heap.size wr(.slice aov rs.length capv) rs))(fun i _=>rs.length - (intOf i).toNat)
 case atStart=>exact⟨0,[],Nat.zero_le _,rfl,hB1,rfl,HR0,Copies.nil _,HV2⟩
 case round =>
  clear HR0 HV2 hB1
  obtain⟨m,gs,hm,rfl,hbk,hgs,HR,HC,HV⟩:=hrel
  have HGS:Hid(gs.length=m):=hgs
  clear hgs
  have hgwr:g < wr.heap.size:=own_lt HR.out rfl
  have hfz:=own_free HR.out
  have hrl2:rb < wr.heap.size:=Nat.lt_of_lt_of_le hlt hbk.size
  by_cases hml:m < rs.length
  ·obtain⟨gv,cv,x,y,z,hv,hgv,hxyz,c0,c1,c2⟩:=HV.out.cell m hml
   simp only [Value.slice.injEq] at hv
   have hgg:=hv.1
   clear hv
   subst hgg
   have hmi:(m:Int) < (rs.length:Int):=by omega
   have HTK:Hid(rs.take(m+1)=rs.take m++[[x,y,z]]):=show rs.take(m+1)=rs.take m++[[x,y,z]] by rw [List.take_succ_eq_append_getElem hml,hxyz]
   clear hxyz
   have HTE2:Hid(∀ W,Below wr.heap.size wr W->Calls Tryz.prog 52 #[.pointer(some⟨rb,0,none⟩),.agg #[.int .i64(x:Nat),.int .i64(y:Nat),.int .i64(z:Nat)],.int .i64 ar] W fun e w'=>∃ g,W.heap.size<=g/\e=.returned(.slice(some⟨g,0,none⟩) ar ar)/\Hid(SIn W.heap.size w'(.slice(some⟨g,0,none⟩) ar ar)(termsK ns [x,y,z] ar 3))/\Below W.heap.size W w'):=fun W hb=>HTE.out W x y z(bnext hbk hb(Nat.le_refl _))
   have HAR2:Hid(∀ W,Below wr.heap.size wr W->Calls Tryz.prog 53 #[.pointer(some⟨rb,0,none⟩),.int .i64(fi:Nat)] W fun e w'=>e=.returned(.int .i64(ar:Nat))/\w'=W):=fun W hb=>HAR.out W(bnext hbk hb(Nat.le_refl _))
   go_upto_region 9 with fail
   have hg4:Below wr.heap.size wr(wr.alloc(.cells #[.int .i64(x:Nat),.int .i64(y:Nat),.int .i64(z:Nat)] 116)):=(by repeat'(first|with_reducible(first|exact zR _ _|assumption|refine zN ?_ _|refine zA ?_ ?_ _|refine zD ?_|refine zS ?_ ?_ _)|go_size))
   have hb10:=Box.new wr #[.int .i64(x:Nat),.int .i64(y:Nat),.int .i64(z:Nat)] 116
   generalize wr.alloc(.cells #[.int .i64(x:Nat),.int .i64(y:Nat),.int .i64(z:Nat)] 116)=W4 at *
   have v0:W4.cell?⟨wr.heap.size,0,none⟩=some(.int .i64(x:Nat)):=by rw [hb10.rules.1];rfl
   have v1:W4.cell?⟨wr.heap.size,1,none⟩=some(.int .i64(y:Nat)):=by rw [hb10.rules.1];rfl
   have v2:W4.cell?⟨wr.heap.size,2,none⟩=some(.int .i64(z:Nat)):=by rw [hb10.rules.1];rfl
   have hl3:wr.heap.size < W4.heap.size:=hb10.lt
   have hR4:=owns_below HR.out hg4
   have hgW:g < W4.heap.size:=own_lt hR4 rfl
   obtain⟨sx,hsx⟩:∃ sx,W4.cell?⟨g,m,none⟩=some sx:=by
    obtain⟨g',cap',hv',_,_,hcl'⟩:=own_cells hR4(by omega)
    simp only [Value.slice.injEq,Option.some.injEq,Addr.mk.injEq,and_true] at hv'
    have e:=hv'.1
    subst e
    exact⟨_,hcl' m _(List.getElem?_eq_getElem(by simp [HGS.out];omega))⟩
   have hfW:=own_free hR4
   have HR4:Hid(W4.ownsRow w.heap.size 38 1(.slice(some⟨g,0,none⟩) rs.length rs.length) rs.length(gs.map(slOf ar)++List.replicate(rs.length - m)(.slice none 0 0))):=hR4
   have HC4:Hid(Copies w.heap.size W4((rs.take m).map(rowLit ns ar)) gs):=HC.out.mono(fun _ _ q=>q.below hg4)
   have HV4:Hid(RowsIn w.heap.size W4(.slice(some⟨gv,0,none⟩) rs.length capv) rs):=HV.out.below' hg4
   have hB4:Below w.heap.size w W4:=bnext hbk hg4(Nat.le_refl _)
   have HTE3:Hid(∀ W,Below W4.heap.size W4 W->Calls Tryz.prog 52 #[.pointer(some⟨rb,0,none⟩),.agg #[.int .i64(x:Nat),.int .i64(y:Nat),.int .i64(z:Nat)],.int .i64 ar] W fun e w'=>∃ gt,W4.heap.size<=gt/\e=.returned(.slice(some⟨gt,0,none⟩) ar ar)/\Hid(SIn W4.heap.size w'(.slice(some⟨gt,0,none⟩) ar ar)(termsK ns [x,y,z] ar 3))/\Hid(Below W4.heap.size W4 w')/\w'.cell?⟨wr.heap.size,0,none⟩=some(.int .i64(x:Nat))/\w'.cell?⟨wr.heap.size,1,none⟩=some(.int .i64(y:Nat))/\w'.cell?⟨wr.heap.size,2,none⟩=some(.int .i64(z:Nat))/\w'.cell?⟨g,m,none⟩=some sx/\g < w'.heap.size/\∀ o,w'.frozen?⟨g,o,none⟩=false):=fun W hb=>by
    refine(HTE2.out W(bnext hg4 hb(Nat.le_refl _))).mono ?_
    rintro e w'⟨gt,h1,h2,h3,h4⟩
    have hq:=bnext hb h4(Nat.le_refl _)
    have hs:=hb.size
    exact⟨gt,by omega,h2,h3.out.low hb.size,hq,(hq.cell hl3).trans v0,(hq.cell hl3).trans v1,(hq.cell hl3).trans v2,(hq.cell hgW).trans hsx,Nat.lt_of_lt_of_le hgW hq.size,own_free(owns_below HR4.out hq)⟩
   have HAR3:Hid(∀ W,Below W4.heap.size W4 W->Calls Tryz.prog 53 #[.pointer(some⟨rb,0,none⟩),.int .i64(fi:Nat)] W fun e w'=>e=.returned(.int .i64(ar:Nat))/\w'=W):=fun W hb=>HAR2.out W(bnext hg4 hb(Nat.le_refl _))
   clear HTE2 HAR2 hR4 hb10 hg4 HR HC HV c0 c1 c2 hgv hfz
   go_region_held3(fun w'=>w'.cell?⟨wr.heap.size,0,none⟩=some(.int .i64(x:Nat))/\w'.cell?⟨wr.heap.size,1,none⟩=some(.int .i64(y:Nat))/\w'.cell?⟨wr.heap.size,2,none⟩=some(.int .i64(z:Nat)))(first|go_keep|(go_simp;done))(first|(go_at_call 52;refine(HTE3.out _(by exact(by repeat'(first|with_reducible(first|exact zR _ _|assumption|refine zN ?_ _|refine zA ?_ ?_ _|refine zD ?_|refine zS ?_ ?_ _)|go_size)))).mono ?_;rintro e w5⟨gt,hgt,rfl,HS5,HB5,a0,a1,a2,ax,ag,af⟩)|(go_at_call 53;refine(HAR3.out _(by exact(by repeat'(first|with_reducible(first|exact zR _ _|assumption|refine zN ?_ _|refine zA ?_ ?_ _|refine zD ?_|refine zS ?_ ?_ _)|go_size)))).mono ?_;rintro e w6⟨rfl,hww⟩;obtain rfl:=hww.symm))
   have hR5:=owns_below HR4.out HB5.out
   have hML:Hid((gs.map(slOf ar)++List.replicate(rs.length - m)(Value.slice none 0 0)).set m(slOf ar gt)=(gs++[gt]).map(slOf ar)++List.replicate(rs.length - (m+1))(Value.slice none 0 0)):=show _=_ by
    obtain⟨k,hk⟩:∃ k,rs.length - m=k+1:=⟨rs.length - m - 1,by omega⟩
    have hk2:rs.length - (m+1)=k:=by omega
    rw [List.set_append,if_neg(by simp [HGS.out]),hk,hk2,List.replicate_succ]
    simp [HGS.out]
   have hset:=own_set hR5 m(by simp [HGS.out];omega)(slOf ar gt)
   rw [hML.out] at hset
   have hsv:Save [g] w5(w5.setCell⟨g,m,none⟩(.slice(some⟨gt,0,none⟩) ar ar)):=Save.set _ _ _ _
   obtain⟨cg,hcg⟩:=own_box hR5(b:=g) rfl
   have hOf:=OfT.box hcg
   have HR6:Hid(World.ownsRow(w5.setCell⟨g,m,none⟩(.slice(some⟨gt,0,none⟩) ar ar)) w.heap.size 38 1(.slice(some⟨g,0,none⟩) rs.length rs.length) rs.length((gs++[gt]).map(slOf ar)++List.replicate(rs.length - (m+1))(.slice none 0 0))):=hset
   have HC6:Hid(Copies w.heap.size(w5.setCell⟨g,m,none⟩(.slice(some⟨gt,0,none⟩) ar ar))((rs.take(m+1)).map(rowLit ns ar))(gs++[gt])):=show Copies _ _ _ _ by
    rw [HTK.out,List.map_append]
    have hz:=hB4.size
    refine Copies.mono(w:=w5) ?_(fun _ _ q=>own_saveT q hsv hOf(by decide))
    refine(HC4.out.mono(fun _ _ q=>q.below HB5.out)).snoc(l:=rowLit ns ar [x,y,z])(fun a ha=>by have:=HC4.out.lt a ha;omega)(by omega) ?_
    show SIn w.heap.size w5(.slice(some⟨gt,0,none⟩)(termsK ns [x,y,z] ar 3).length(termsK ns [x,y,z] ar 3).length)(termsK ns [x,y,z] ar 3)
    rw [termsK_len]
    exact HS5.out.low(by omega)
   have HV6:Hid(RowsIn w.heap.size(w5.setCell⟨g,m,none⟩(.slice(some⟨gt,0,none⟩) ar ar))(.slice(some⟨gv,0,none⟩) rs.length capv) rs):=⟨own_saveT(HV4.out.below' HB5.out).1 hsv hOf(by decide),HV4.out.2⟩
   have hB6:Below w.heap.size w(w5.setCell⟨g,m,none⟩(.slice(some⟨gt,0,none⟩) ar ar)):=(bnext hB4 HB5.out(Nat.le_refl _)).setCell(by simpa using hgl) _
   have HGS6:Hid((gs++[gt]).length=m+1):=show(gs++[gt]).length=m+1 by simp [HGS.out]
   clear hset hR5 hsv hOf HR4 HC4 HV4 HS5 HB5 a0 a1 a2 ax ag af v0 v1 v2
   generalize w5.setCell⟨g,m,none⟩(.slice(some⟨gt,0,none⟩) ar ar)=w7 at *
   go_wp2
   go_roundw
   case rel=>exact⟨m+1,gs++[gt],by omega,by go_num,hB6,HGS6.out,HR6,HC6,HV6⟩
   case measure=>simp [intOf];omega
  ·obtain rfl:m=rs.length:=by omega
   have q1:=HR.out
   have q2:=HC.out
   rw [Nat.sub_self,List.replicate_zero,List.append_nil] at q1
   rw [List.take_length] at q2
   have HQ:Hid(_/\_):=And.intro q1 q2
   clear q1 q2 HR HC HV HGS
   go_wp2
   go_ret2
   exact⟨g,gs,hgl,rfl,HQ.out.1,HQ.out.2,hbk⟩
end Go.Proofs.YteampbddflhngabGreat

namespace Go.Proofs.YteampbddflhngabGreat
open Classical
def cellN(ns:List ByteArray)(σ:ByteArray->Nat)(l:PLit)(i:Nat):Nat:=match l.args[i]? with
 |none=>0
 |some y=>if isVarB y=true then σ y else(valueC ns y).getD 0
def rowN(ns:List ByteArray)(σ:ByteArray->Nat)(l:PLit):PRow:=[cellN ns σ l 0,cellN ns σ l 1,cellN ns σ l 2]
theorem placeS_five{vs:List ByteArray}{pl:List Nat}(hp:∀ k,pl.getD k 0 < 5)(n:ByteArray):placeS vs pl n < 5:=by
 unfold placeS
 split
 ·omega
 ·split
  ·omega
  ·exact hp _
theorem cell_litM(t:List PEnt)(ns vs:List ByteArray){pl:List Nat}(hp:∀ k,pl.getD k 0 < 5)(l:PLit)(y:List Nat)(i:Nat):rowCell(litM t ns vs pl l) y i=cellN ns(fun v=>y.getD(placeS vs pl v) 0) l i:=by
 unfold rowCell cellN
 by_cases h:i < l.args.length
 ·have h2:i < (litM t ns vs pl l).terms.length:=by simp [litM,litTerms];exact h
  rw [if_pos h2,List.getElem?_eq_getElem h,getD_lt _ h2]
  have e:(litM t ns vs pl l).terms[i]=leveledM 0(litTerms ns vs pl l)(termM ns vs pl l.args[i]):=by simp [litM,litTerms]
  obtain⟨e1,e2⟩:=leveledM_var 0(litTerms ns vs pl l)(termM ns vs pl l.args[i])
  rw [e]
  unfold atT
  rw [e1,e2]
  unfold termM
  by_cases hv:isVarB l.args[i]=true
  ·have:=placeS_five(vs:=vs) hp l.args[i]
   simp [hv,this]
  ·simp [hv]
 ·have h2:¬ i < (litM t ns vs pl l).terms.length:=by simp [litM,litTerms];omega
  rw [if_neg h2,List.getElem?_eq_none(by omega)]
theorem row_litM(t:List PEnt)(ns vs:List ByteArray){pl:List Nat}(hp:∀ k,pl.getD k 0 < 5)(l:PLit)(y:List Nat):rowL(litM t ns vs pl l) y=rowN ns(fun v=>y.getD(placeS vs pl v) 0) l:=by
 simp only [rowL,rowN,cell_litM t ns vs hp]
theorem rowN_congr{ns:List ByteArray}{σ τ:ByteArray->Nat}{l:PLit}(h:∀ y∈l.args,isVarB y=true->σ y=τ y):rowN ns σ l=rowN ns τ l:=by
 have:∀ i,cellN ns σ l i=cellN ns τ l i:=by
  intro i
  unfold cellN
  cases hq:l.args[i]? with
  |none=>rfl
  |some y =>
   have hm:=List.mem_of_getElem? hq
   by_cases hv:isVarB y=true
   ·simp only [hv,if_true];exact h y hm hv
   ·simp [hv]
 simp only [rowN,this]
def DerN(t:List PEnt)(ns:List ByteArray)(c:PClause)(D:DB)(x:PRow):Prop:=∃ σ,(∀ l∈c.body,l.neg=false->InD D(findN t l.pred)(rowN ns σ l))/\(∀ l∈c.body,l.neg=true->D(findN t l.pred)(rowN ns σ l)=none)/\x=rowN ns σ c.head
theorem onto_inj{k:Nat}{f:Nat->Nat}(h:∀ p,p < k->∃ i,i < k/\f i=p){i j:Nat}(hi:i < k)(hj:j < k)(e:f i=f j):i=j:=by
 by_cases hne:i=j
 ·exact hne
 ·have:=nodup_lenG(l1:=List.range k)(l2:=((List.range k).erase j).map f) List.nodup_range(fun p hp=>by
   obtain⟨a,ha,hf⟩:=h p(List.mem_range.1 hp)
   by_cases haj:a=j
   ·exact List.mem_map.2⟨i,(List.mem_erase_of_ne hne).2(List.mem_range.2 hi),by rw [e,← haj,hf]⟩
   ·exact List.mem_map.2⟨a,(List.mem_erase_of_ne haj).2(List.mem_range.2 ha),hf⟩)
  rw [List.length_map,List.length_erase_of_mem(List.mem_range.2 hj),List.length_range] at this
  omega
theorem placeS_inj{vs:List ByteArray}{pl:List Nat}(h5:vs.length<=5)(hp:PlaceOK pl vs.length){u v:ByteArray}(hu:u∈vs)(hv:v∈vs)(e:placeS vs pl u=placeS vs pl v):u=v:=by
 obtain⟨i,i1,i2⟩:=placeR_of_mem hu
 obtain⟨j,j1,j2⟩:=placeR_of_mem hv
 unfold placeS at e
 rw [i2,j2] at e
 simp only at e
 rw [if_neg(by omega),if_neg(by omega)] at e
 have:=onto_inj hp.onto i1 j1 e
 subst this
 obtain⟨_,a⟩:=placeR_lt i2
 obtain⟨_,b⟩:=placeR_lt j2
 rw [← a,← b]
theorem der_iff{t:List PEnt}{ns:List ByteArray}{c:PClause}{o:Option(List Int)}{D:DB}{x:PRow}(hv:∀ l∈litsOf c,∀ y∈l.args,isVarB y=true->y∈plainVs c)(h5:(plainVs c).length<=5)(hp:PlaceOK(placesM(o.getD []))(plainVs c).length):Der(ruleM t ns c o) D x↔DerN t ns c D x:=by
 constructor
 ·rintro⟨y,h1,h2,h3⟩
  refine⟨fun v=>y.getD(placeS(plainVs c)(placesM(o.getD [])) v) 0,fun l hl hn=>?_,fun l hl hn=>?_,?_⟩
  ·have:=h1(litM t ns(plainVs c)(placesM(o.getD [])) l)(List.mem_map.2⟨l,List.mem_filter.2⟨hl,by simp [hn]⟩,rfl⟩)
   rw [row_litM t ns _ hp.five] at this
   exact this
  ·have:=h2(litM t ns(plainVs c)(placesM(o.getD [])) l)(List.mem_map.2⟨l,List.mem_filter.2⟨hl,by simp [hn]⟩,rfl⟩)
   rw [row_litM t ns _ hp.five] at this
   exact this
  ·rw [h3]
   exact row_litM t ns _ hp.five _ _
 ·rintro⟨σ,h1,h2,h3⟩
  let yf:Nat->Nat:=fun p=>if hq:∃ v,v∈plainVs c/\placeS(plainVs c)(placesM(o.getD [])) v=p then σ hq.choose else 0
  have hyf:∀ v∈plainVs c,yf(placeS(plainVs c)(placesM(o.getD [])) v)=σ v:=by
   intro v hv'
   have hq:∃ u,u∈plainVs c/\placeS(plainVs c)(placesM(o.getD [])) u=placeS(plainVs c)(placesM(o.getD [])) v:=⟨v,hv',rfl⟩
   show(if hq:∃ u,u∈plainVs c/\placeS(plainVs c)(placesM(o.getD [])) u=placeS(plainVs c)(placesM(o.getD [])) v then σ hq.choose else 0)=σ v
   rw [dif_pos hq,placeS_inj h5 hp hq.choose_spec.1 hv' hq.choose_spec.2]
  have hy:∀ p,p < 5->((List.range 5).map yf).getD p 0=yf p:=by
   intro p hp5
   rw [getD_lt _(by simp;exact hp5)]
   simp
  have hrow:∀ l∈litsOf c,rowL(litM t ns(plainVs c)(placesM(o.getD [])) l)((List.range 5).map yf)=rowN ns σ l:=by
   intro l hl
   rw [row_litM t ns _ hp.five]
   refine rowN_congr fun y hy' hvy=>?_
   rw [hy _(placeS_five hp.five _),hyf y(hv l hl y hy' hvy)]
  refine⟨(List.range 5).map yf,fun l hl=>?_,fun l hl=>?_,?_⟩
  ·obtain⟨z,hz,rfl⟩:=List.mem_map.1 hl
   obtain⟨z1,z2⟩:=List.mem_filter.1 hz
   rw [hrow z(by simp [litsOf,z1])]
   exact h1 z z1(by simpa using z2)
  ·obtain⟨z,hz,rfl⟩:=List.mem_map.1 hl
   obtain⟨z1,z2⟩:=List.mem_filter.1 hz
   rw [hrow z(by simp [litsOf,z1])]
   exact h2 z z1(by simpa using z2)
  ·rw [h3]
   exact(hrow c.head(by simp [litsOf])).symm
theorem Parts.covered{cs:List PClause}{t0 t:List PEnt}(h:Parts cs t0 t){c:PClause}(hc:c∈cs):∀ l∈litsOf c,∀ y∈l.args,isVarB y=true->y∈plainVs c:=by
 have hs:=h.safe c hc
 simp only [safeC,Bool.and_eq_true,List.all_eq_true,Bool.or_eq_true,Bool.not_eq_true'] at hs
 intro l hl y hy hv
 rcases List.mem_cons.1 hl with rfl|hl
 ·exact cover_iff.1 hs.1 y hy hv
 ·cases hn:l.neg with
  |false=>exact mem_plainVs.2⟨hv,l,hl,hn,hy⟩
  |true =>
   rcases hs.2 l hl with q|q
   ·rw [hn] at q;cases q
   ·exact cover_iff.1 q y hy hv
def StepN(t:List PEnt)(ns:List ByteArray)(cs:List PClause)(s:Nat)(D:DB)(p:Nat)(x:PRow):Prop:=∃ c∈cs,0 < c.body.length/\stratumN t c.head.pred=s/\p=findN t c.head.pred/\DerN t ns c D x
theorem mem_rulesM{t:List PEnt}{ns:List ByteArray}{os:Option(List(Option(List Int)))}{cs:List PClause}{r:PRule}:r∈rulesM t ns os cs↔∃ i,∃ hi:i < cs.length,0 < cs[i].body.length/\r=ruleM t ns cs[i](orderM os i):=by
 unfold rulesM
 rw [List.mem_filterMap]
 constructor
 ·rintro⟨⟨c,i⟩,h1,h2⟩
  have h3:=List.mem_zipIdx_iff_getElem?.1 h1
  simp only at h2 h3
  obtain⟨hi,rfl⟩:=List.getElem?_eq_some_iff.1 h3
  split at h2
  ·rename_i hb
   simp only [Option.some.injEq] at h2
   exact⟨i,hi,hb,h2.symm⟩
  ·cases h2
 ·rintro⟨i,hi,hb,rfl⟩
  refine⟨(cs[i],i),List.mem_zipIdx_iff_getElem?.2(by simp [hi]),?_⟩
  simp only
  rw [if_pos hb]
theorem step_iff{cs:List PClause}{t0 t:List PEnt}(h:Parts cs t0 t)(ns:List ByteArray)(os:Option(List(Option(List Int))))(hp:∀ i(hi:i < cs.length),PlaceOK(placesM((orderM os i).getD []))(plainVs cs[i]).length)(s:Nat)(D:DB)(p:Nat)(x:PRow):StepD((rulesM t ns os cs).filter fun r=>decide(r.stratum=s)) D p x↔StepN t ns cs s D p x:=by
 constructor
 ·rintro⟨r,hr,h1,h2⟩
  obtain⟨r1,r2⟩:=List.mem_filter.1 hr
  obtain⟨i,hi,hb,rfl⟩:=mem_rulesM.1 r1
  have hc:=List.getElem_mem hi
  exact⟨cs[i],hc,hb,of_decide_eq_true r2,h1,(der_iff(h.covered hc)(plainVs_five(h.many _ hc))(hp i hi)).1 h2⟩
 ·rintro⟨c,hc,hb,h1,h2,h3⟩
  obtain⟨i,hi,rfl⟩:=List.mem_iff_getElem.1 hc
  exact⟨ruleM t ns cs[i](orderM os i),List.mem_filter.2⟨mem_rulesM.2⟨i,hi,hb,rfl⟩,decide_eq_true h1⟩,h2,(der_iff(h.covered hc)(plainVs_five(h.many _ hc))(hp i hi)).2 h3⟩
theorem roundD_same{rs rs':List PRule}(h:∀ D p x,StepD rs D p x↔StepD rs' D p x)(k:Nat)(D:DB):roundD rs k D=roundD rs' k D:=by
 funext p x
 unfold roundD
 cases D p x with
 |some m=>rfl
 |none=>simp only [h D p x]
theorem absRounds_same{rs rs':List PRule}(h:∀ D p x,StepD rs D p x↔StepD rs' D p x)(mr:Nat):∀ left k D,absRounds rs mr left k D=absRounds rs' mr left k D
 |0,_,_=>rfl
 |left+1,k,D=>by
  unfold absRounds
  rw [roundD_same h,absRounds_same h mr left]
theorem absStrata_same{rs rs':List PRule}(h:∀ s D p x,StepD(rs.filter fun r=>decide(r.stratum=s)) D p x↔StepD(rs'.filter fun r=>decide(r.stratum=s)) D p x)(he:∀ s,(rs.filter fun r=>decide(r.stratum=s))=[]↔(rs'.filter fun r=>decide(r.stratum=s))=[])(mr mx:Nat):∀ n s k D,absStrata rs mr mx n s k D=absStrata rs' mr mx n s k D
 |0,_,_,_=>rfl
 |n+1,s,k,D=>by
  unfold absStrata
  simp only [he s,absRounds_same(h s) mr,absStrata_same h he mr mx n]
theorem absRun_same{cs:List PClause}{t0 t:List PEnt}(h:Parts cs t0 t)(ns:List ByteArray)(os os':Option(List(Option(List Int))))(hp:∀ i(hi:i < cs.length),PlaceOK(placesM((orderM os i).getD []))(plainVs cs[i]).length)(hp':∀ i(hi:i < cs.length),PlaceOK(placesM((orderM os' i).getD []))(plainVs cs[i]).length)(mr mx:Nat):absRun(makeM t ns os cs) mr mx=absRun(makeM t ns os' cs) mr mx:=by
 have he:∀ (os:Option(List(Option(List Int)))) s,((rulesM t ns os cs).filter fun r=>decide(r.stratum=s))=[]↔∀ c∈cs,0 < c.body.length->¬ stratumN t c.head.pred=s:=by
  intro os s
  rw [List.filter_eq_nil_iff]
  constructor
  ·intro q c hc hb hs
   obtain⟨i,hi,rfl⟩:=List.mem_iff_getElem.1 hc
   have:=q _(mem_rulesM.2⟨i,hi,hb,rfl⟩)
   exact this(decide_eq_true hs)
  ·intro q r hr
   obtain⟨i,hi,hb,rfl⟩:=mem_rulesM.1 hr
   exact fun e=>q _(List.getElem_mem hi) hb(of_decide_eq_true e)
 unfold absRun
 show(if SmallDB(factsD(factsM t ns cs)) mr then absStrata(rulesM t ns os cs) mr mx _ 0 0 _ else none)=(if SmallDB(factsD(factsM t ns cs)) mr then absStrata(rulesM t ns os' cs) mr mx _ 0 0 _ else none)
 rw [absStrata_same(fun s D p x=>(step_iff h ns os hp s D p x).trans(step_iff h ns os' hp' s D p x).symm)(fun s=>(he os s).trans(he os' s).symm)]
 rfl
theorem once_spec{n:Nat}:∀ {l:List Int}{seen:List Bool},onceN n l seen=true->seen.length=5->l.Nodup/\∀ x∈l,0<=x/\x < n/\x < 5/\seen.getD x.toNat false=false
 |[],_,_,_=>⟨List.nodup_nil,by simp⟩
 |x::r,seen,h,h5=>by
  unfold onceN at h
  split at h
  ·cases h
  ·rename_i h0
   split at h
   ·cases h
   ·rename_i h1
    obtain⟨i1,i2⟩:=once_spec h(by simp [h5])
    have hx5:x.toNat < seen.length:=by omega
    have hne:∀ y∈r,y≠x:=by
     rintro y hy rfl
     have:=(i2 y hy).2.2.2
     rw [getD_setL,if_pos⟨rfl,hx5⟩] at this
     cases this
    refine⟨List.nodup_cons.2⟨fun q=>hne x q rfl,i1⟩,fun y hy=>?_⟩
    rcases List.mem_cons.1 hy with rfl|hy
    ·exact⟨by omega,by omega,by omega,by simpa using h1⟩
    ·obtain⟨a,b,c,d⟩:=i2 y hy
     have hn:¬ x.toNat=y.toNat:=fun q=>hne y hy(by omega)
     rw [getD_setL,if_neg(fun q=>hn q.1)] at d
     exact⟨a,b,c,d⟩
theorem place_once{l:List Int}(h5:l.length<=5)(h:onceB l=true):PlaceOK(placesM l) l.length:=by
 obtain⟨hn,hx⟩:=once_spec h rfl
 have hstep:∀ m,m<=l.length->(∀ j(hj:j < m)(hjl:j < l.length),((l.take m).zipIdx.foldl placeStep [0,1,2,3,4]).getD l[j].toNat 0=j)/\∀ i,(∀ j(hj:j < m)(hjl:j < l.length),l[j].toNat≠i)->((l.take m).zipIdx.foldl placeStep [0,1,2,3,4]).getD i 0 < 5:=by
  intro m
  induction m with
  |zero =>
   intro _
   refine⟨fun j hj=>by omega,fun i _=>?_⟩
   have:=(place_none(k:=5)(Nat.le_refl _)).five i
   exact this
  |succ m ih =>
   intro hm
   have hml:m < l.length:=by omega
   obtain⟨a,b⟩:=ih(by omega)
   obtain⟨q1,q2,q3,_⟩:=hx l[m](List.getElem_mem hml)
   have hl5:((l.take m).zipIdx.foldl placeStep [0,1,2,3,4]).length=5:=placesM_len(l.take m)
   rw [zip_take_succ hml]
   have ep:∀ X:List Nat,placeStep X(l[m],m)=X.set l[m].toNat m:=fun X=>by unfold placeStep;exact if_pos⟨q1,q3⟩
   rw [ep]
   refine⟨fun j hj hjl=>?_,fun i hi=>?_⟩
   ·rw [getD_setL]
    by_cases hjm:j=m
    ·subst hjm
     rw [if_pos⟨rfl,by rw [hl5];omega⟩]
    ·rw [if_neg,a j(by omega) hjl]
     intro q
     obtain⟨p1,_⟩:=hx l[j](List.getElem_mem hjl)
     have:l[m]=l[j]:=by omega
     exact hjm((List.getElem_inj hn).1 this.symm)
   ·rw [getD_setL]
    split
    ·omega
    ·exact b i fun j hj hjl=>hi j(by omega) hjl
 obtain⟨a,b⟩:=hstep l.length(Nat.le_refl _)
 rw [List.take_length] at a b
 have honto:∀ i,i < l.length->∃ j,∃ hj:j < l.length,l[j].toNat=i:=by
  intro i hi
  by_cases hq:∃ j,∃ hj:j < l.length,l[j].toNat=i
  ·exact hq
  ·exfalso
   have hnd:(l.map Int.toNat).Nodup:=by
    refine List.pairwise_map.2(List.Pairwise.imp_of_mem(fun ha hb hne e=>hne ?_) hn)
    have h1:=hx _ ha
    have h2:=hx _ hb
    omega
   have:=nodup_lenG(l1:=l.map Int.toNat)(l2:=(List.range l.length).erase i) hnd(fun y hy=>by
    obtain⟨z,hz,rfl⟩:=List.mem_map.1 hy
    obtain⟨p1,p2,_⟩:=hx z hz
    obtain⟨j,hj,rfl⟩:=List.mem_iff_getElem.1 hz
    exact(List.mem_erase_of_ne(fun q=>hq⟨j,hj,q⟩)).2(List.mem_range.2(by omega)))
   rw [List.length_map,List.length_erase_of_mem(List.mem_range.2 hi),List.length_range] at this
   omega
 refine⟨fun i=>?_,fun i hi=>?_,fun p hp=>?_⟩
 ·by_cases hq:∃ j,∃ hj:j < l.length,l[j].toNat=i
  ·obtain⟨j,hj,rfl⟩:=hq
   have:=a j hj hj
   unfold placesM
   omega
  ·exact b i fun j _ hj e=>hq⟨j,hj,e⟩
 ·obtain⟨j,hj,rfl⟩:=honto i hi
  have:=a j hj hj
  unfold placesM
  omega
 ·obtain⟨q1,q2,_⟩:=hx l[p](List.getElem_mem hp)
  exact⟨l[p].toNat,by omega,a p hp hp⟩
theorem orders_place{cs:List PClause}{os:Option(List(Option(List Int)))}(h:ordersB cs os=true)(h5:∀ c∈cs,(plainVs c).length<=5):∀ i(hi:i < cs.length),PlaceOK(placesM((orderM os i).getD []))(plainVs cs[i]).length:=by
 intro i hi
 have hc5:=h5 _(List.getElem_mem hi)
 cases os with
 |none=>exact place_none hc5
 |some l =>
  unfold ordersB at h
  simp only [Bool.and_eq_true,beq_iff_eq,List.all_eq_true] at h
  have hil:i < l.length:=by omega
  have ho:=h.2(cs[i],l[i])(by
   rw [List.mem_iff_getElem]
   exact⟨i,by simp;omega,by simp⟩)
  have e:orderM(some l) i=l[i]:=by simp [orderM,hil]
  rw [e]
  cases hq:l[i] with
  |none=>exact place_none hc5
  |some o =>
   rw [hq] at ho
   simp only [orderOfB,Bool.and_eq_true,beq_iff_eq] at ho
   show PlaceOK(placesM o) _
   rw [← ho.1]
   exact place_once(by omega) ho.2
end Go.Proofs.YteampbddflhngabGreat
