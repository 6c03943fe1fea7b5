import Derived.Test.YteampbddflhngaaGreatB34
import Derived.Test.YteampbddflhngaaGreatB06

namespace Go.Proofs.YteampbddflhngaaGreat
set_option maxRecDepth 100000
set_option maxHeartbeats 4000000
open Go.RowKit
variable {lo:Nat}
def zzk(w:World)(S:zt5)(e:Ending)(w':World):Prop:=∃ av fv rv ps,e=.returned (.agg #[.int .i64 (S.width:Nat),av,fv,rv])/\zmg w.heap.size w' av fv rv S ps/\Below w.heap.size w w'
def arK(t:List zaq)(k:Nat):List Nat:=(t.take k).map (·.arity)++List.replicate (t.length - k) 0
theorem zy1(t:List zaq)(k:Nat)(hk:k<=t.length):(arK t k).length=t.length:=by simp[arK];omega
theorem ybt(t:List zaq)(k:Nat)(hk:k < t.length):(arK t k).set k (za1 t k)=arK t (k+1):=by
 have e:za1 t k=t[k].arity:=by simp[za1,hk]
 obtain⟨m,hm⟩:∃ m,t.length - k=m+1:=⟨t.length - k - 1,by omega⟩
 unfold arK
 rw[e,List.set_append_right _ _ (by simp;omega),List.length_map,List.length_take,Nat.min_eq_left (by omega),Nat.sub_self,hm,List.replicate_succ,List.set_cons_zero,List.take_succ_eq_append_getElem hk,List.map_append,show t.length - (k+1)=m from by omega,List.append_assoc]
 rfl
theorem ybf(t:List zaq):arK t t.length=t.map (·.arity):=by simp[arK]
theorem z9y{lo2:Nat}(w:World)(tb o cb:Nat)(t:List zaq)(ns:List ByteArray)(cs:List zaa)(cv ov:Value)(os:Option (List (Option (List Int))))(hT:TG lo w tb o t)(hC:z8n lo w cb ns)(htl:t.length<=1000)(hnl:ns.length<=1000)(hcs:CIn lo2 171 w cv cs)(hok:∀ c∈cs,c.head.args.length+zcf c.body<=1000/\c.body.length<=900)(hcl:cs.length<=1000)(ho:zh8 w ov os)(hol:(os.getD []).length<=2000000)(hoi:∀ o∈os.getD [],(o.getD []).length<=1000)(hst:∀ n,zeb t n<=1000000) :
  Calls Tryz.prog 73 #[cv,.pointer (some ⟨tb,o,none⟩),.pointer (some ⟨cb,0,none⟩),ov] w fun e w'=>zzk w (zg8 t ns os cs) e w':=by
 obtain⟨iI,hiI,hzI,hzsI,hzbI⟩:=info_parts Tryz.infoInt
 obtain⟨iF,hiF,hzF,hzsF,hzbF⟩:=info_parts Tryz.infoFact
 obtain⟨iR,hiR,hzR,hzsR,hzbR⟩:=info_parts Tryz.infoRule
 obtain⟨aoc,capc,rfl⟩:=hcs.shape
 obtain⟨aoo,capo,rfl⟩:=ho.shape
 have HCC:Hid (∀ W,Below w.heap.size w W->Calls Tryz.prog 114 #[.pointer (some ⟨cb,0,none⟩)] W fun e w'=>e=.returned (.int .i64 (ns.length:Nat))/\w'=W):=fun W hW=>z0k W cb ns (hC.below hW)
 have HPC:Hid (∀ W,Below w.heap.size w W->Calls Tryz.prog 115 #[.pointer (some ⟨tb,o,none⟩)] W fun e w'=>e=.returned (.int .i64 (t.length:Nat))/\w'=W):=fun W hW=>z2f lo W tb o t (hT.below hW)
 have HPA:Hid (∀ W (i:Nat),Below w.heap.size w W->Calls Tryz.prog 80 #[.pointer (some ⟨tb,o,none⟩),.int .i64 i] W fun e w'=>e=.returned (.int .i64 (za1 t i:Nat))/\w'=W):=fun W i hW=>zmw lo W tb o t i (hT.below hW)
 have HOA:Hid (∀ W (k:Nat),Below w.heap.size w W->Calls Tryz.prog 116 #[.slice aoo (os.getD []).length capo,.int .i64 k] W fun e w'=>∃ u,e=.returned u/\zih W u (zez os k)/\w'=W):=fun W k hW=>zw8 W _ os k (ho.below hW) hol
 have HOL:Hid (∀ k,((zez os k).getD []).length<=1000):=fun k=>by
  unfold zez
  by_cases hk:k < (os.getD []).length
  ·rw[List.getD_eq_getElem?_getD,List.getElem?_eq_getElem hk];exact hoi _ (List.getElem_mem hk)
  ·rw[List.getD_eq_getElem?_getD,List.getElem?_eq_none (by omega)];simp
 have HMI:Hid (∀ W mb,Below w.heap.size w W->Box W mb #[.pointer (some ⟨tb,o,none⟩),.pointer (some ⟨cb,0,none⟩)] 200->zjb lo W mb tb o cb t ns):=fun W mb hW hb=>⟨hb,hT.below hW,hC.below hW,htl,hnl⟩
 have HCI:Hid (CIn lo2 171 w (.slice aoc cs.length capc) cs):=hcs
 have HOK:Hid (∀ c∈cs,c.head.args.length+zcf c.body<=1000/\c.body.length<=900):=hok
 have HSN:Hid (∀ n,zeb t n<=1000000):=hst
 have HE:Hid (zg8 t ns os cs={ width:=ns.length,arities:=t.map (·.arity),facts:=zex t ns cs,rules:=zfh t ns os cs }):=rfl
 have hmk:=fun W:World=>run_make (P:=Tryz.prog) (w:=W) 24 3 iI _ Tryz.underlying24 hiI hzI .i64 .i64 (t.length:Int) (t.length:Int) (by omega) (Int.le_refl _) (by rw[hzbI];omega) (by omega)
 rw[hzsI] at hmk
 clear hT hC hcs ho hok hoi hst
 go_enter Tryz.func73,Tryz.ntmps73
 go_upto_region 3 with (first|(go_at_call 114;refine(HCC.out _ (by exact(by repeat'(first|with_reducible(first|exact zR _ _|assumption|refine zN ?_ _|refine zA ?_ ?_ _|refine zD ?_|refine zS ?_ ?_ _)|go_size)))).mono ?_;rintro e w1 ⟨rfl,hww⟩;obtain rfl:=hww.symm)|(go_at_call 115;refine(HPC.out _ (by exact(by repeat'(first|with_reducible(first|exact zR _ _|assumption|refine zN ?_ _|refine zA ?_ ?_ _|refine zD ?_|refine zS ?_ ?_ _)|go_size)))).mono ?_;rintro e w1 ⟨rfl,hww⟩;obtain rfl:=hww.symm))
 have hM:zkb w.heap.size w ((((w.alloc (.cells #[.int .i64 0,.slice none 0 0,.slice none 0 0,.slice none 0 0] 146)).alloc (.cells #[.pointer (some ⟨tb,o,none⟩),.pointer (some ⟨cb,0,none⟩)] 200)).alloc (.cells (madeCells #[.int .i64 0] t.length) 3)).alloc (.cells #[.int .i64 (ns.length:Nat),.slice (some ⟨w.heap.size+1+1,0,none⟩) t.length t.length,.slice none 0 0,.slice none 0 0] 146)) (w.heap.size+1+1+1) w.heap.size (w.heap.size+1) (.pointer (some ⟨tb,o,none⟩)) (.pointer (some ⟨cb,0,none⟩)) (.slice (some ⟨w.heap.size+1+1,0,none⟩) t.length t.length) (.slice none 0 0) (.slice none 0 0) ns.length (arK t 0) [] [] []:=by
  refine⟨(Box.new _ _ _).at' (by simp),((((Box.new w _ _).up _).up _).up _),((((Box.new _ _ _).up _).up _).at' (by simp)),?_,World.ownsRow_nil _ _ _ _,⟨World.ownsRow_nil _ _ _ _,rfl,fun k a=>by simp at a,by simp⟩,(by repeat'(first|with_reducible(first|exact zR _ _|assumption|refine zN ?_ _|refine zA ?_ ?_ _|refine zD ?_|refine zS ?_ ?_ _)|go_size)),by omega,by omega,by omega⟩
  have q:=yaf ((w.alloc (.cells #[.int .i64 0,.slice none 0 0,.slice none 0 0,.slice none 0 0] 146)).alloc (.cells #[.pointer (some ⟨tb,o,none⟩),.pointer (some ⟨cb,0,none⟩)] 200)) t.length 3 (by unfold maxLen;omega)
  simp only[World.size_alloc] at q
  have q2:=zab (zbf q (show w.heap.size<=w.heap.size+1+1 by omega)) ((Below.refl _ _).alloc (Nat.le_refl _) (.cells #[.int .i64 (ns.length:Nat),.slice (some ⟨w.heap.size+1+1,0,none⟩) t.length t.length,.slice none 0 0,.slice none 0 0] 146))
  rw[zy1 t 0 (by omega),show arK t 0=List.replicate t.length 0 from by simp[arK]]
  exact q2
 generalize (((w.alloc (.cells #[.int .i64 0,.slice none 0 0,.slice none 0 0,.slice none 0 0] 146)).alloc (.cells #[.pointer (some ⟨tb,o,none⟩),.pointer (some ⟨cb,0,none⟩)] 200)).alloc (.cells (madeCells #[.int .i64 0] t.length) 3)).alloc (.cells #[.int .i64 (ns.length:Nat),.slice (some ⟨w.heap.size+1+1,0,none⟩) t.length t.length,.slice none 0 0,.slice none 0 0] 146)=w3 at *
 clear hmk HCC HPC
 have hM0:=hM.box
 obtain⟨hsc,hsf⟩:=hM0.rules
 have hsl:=hM0.lt
 go_wp2
 clear hsc hsf hsl hM0
 have HM:Hid (zkb _ _ _ _ _ _ _ _ _ _ _ _ _ _ _ _):=hM
 clear hM
 go_loopw [29] (fun v29 wr=>∃ k:Nat,k<=t.length/\v29=.int .i64 k/\Hid (zkb w.heap.size w wr (w.heap.size+1+1+1) w.heap.size (w.heap.size+1) (.pointer (some ⟨tb,o,none⟩)) (.pointer (some ⟨cb,0,none⟩)) (.slice (some ⟨w.heap.size+1+1,0,none⟩) t.length t.length) (.slice none 0 0) (.slice none 0 0) ns.length (arK t k) [] [] [])) (fun i _=>t.length - (intOf i).toNat)
 case atStart=>exact⟨0,Nat.zero_le _,rfl,HM⟩
 case round =>
  clear HM
  obtain⟨k,hk,rfl,HM⟩:=hrel
  have hbk:=HM.out.below
  have hszk:=hbk.size
  by_cases hlt:k < t.length
  ·have hbx:=HM.out.box
   obtain⟨hsc,hsf⟩:=hbx.rules
   have hsl:=hbx.lt
   have hs1:wr.cell? ⟨w.heap.size+1+1+1,1,none⟩=some (.slice (some ⟨w.heap.size+1+1,0,none⟩) t.length t.length):=by rw[hsc];rfl
   have hari:=HM.out.ari
   have hal:=zy1 t k hk
   have hkk:(k:Int) < (t.length:Int):=by omega
   obtain⟨g',cap',hv',_,hg',hcl'⟩:=zam hari (by omega)
   simp only[Value.slice.injEq,Option.some.injEq,Addr.mk.injEq,and_true] at hv'
   have hgg:=hv'.1
   clear hv'
   subst hgg
   obtain⟨ax,hax⟩:∃ ax:Nat,wr.cell? ⟨w.heap.size+1+1,k,none⟩=some (.int .i64 (ax:Nat)):=⟨_,hcl' k (.int .i64 ((arK t k)[k]'(by omega):Nat)) (by simp[ivN,hal,hlt])⟩
   have haf:=zbv hari
   have hset:=zb4 hari k (by simp;omega) (.int .i64 (za1 t k:Nat))
   have HSET:Hid (((arK t k).map ivN).set k (.int .i64 (za1 t k:Nat))=(arK t (k+1)).map ivN):=by rw[Hid,← ybt t k hlt,List.map_set];rfl
   rw[HSET.out,hal] at hset
   have HPA1:Hid (∀ W,Below wr.heap.size wr W->Calls Tryz.prog 80 #[.pointer (some ⟨tb,o,none⟩),.int .i64 k] W fun e w'=>e=.returned (.int .i64 (za1 t k:Nat))/\w'=W):=fun W hW=>HPA.out W k (zad hbk hW (Nat.le_refl _))
   clear hcl' hal
   generalize za1 t k=ar at *
   go_wp2
   go_region_held3 (fun w'=>w'.cell? ⟨w.heap.size+1+1+1,1,none⟩=some (.slice (some ⟨w.heap.size+1+1,0,none⟩) t.length t.length)) (first|go_keep|(go_simp;done)) (first|(go_at_call 80;refine(HPA1.out _ (by exact(by repeat'(first|with_reducible(first|exact zR _ _|assumption|refine zN ?_ _|refine zA ?_ ?_ _|refine zD ?_|refine zS ?_ ?_ _)|go_size)))).mono ?_;rintro e w4 ⟨rfl,hww⟩;obtain rfl:=hww.symm))
   go_wp2
   have HMN:zkb w.heap.size w (wr.setCell ⟨w.heap.size+1+1,k,none⟩ (.int .i64 (ar:Nat))) (w.heap.size+1+1+1) w.heap.size (w.heap.size+1) (.pointer (some ⟨tb,o,none⟩)) (.pointer (some ⟨cb,0,none⟩)) (.slice (some ⟨w.heap.size+1+1,0,none⟩) t.length t.length) (.slice none 0 0) (.slice none 0 0) ns.length (arK t (k+1)) [] [] [] :=
    ⟨HM.out.box.set_ne (by omega) _ _,HM.out.res.set_ne (by omega) _ _,HM.out.mak.set_ne (by omega) _ _,by rw[zy1 t (k+1) (by omega)];exact hset,World.ownsRow_nil _ _ _ _,⟨World.ownsRow_nil _ _ _ _,rfl,fun k a=>by simp at a,by simp⟩,hbk.setCell (by simp;omega) _,HM.out.low⟩
   go_roundw
   case rel=>exact⟨k+1,by omega,by go_num,HMN.next ((Below.refl _ _).drew) (Nat.le_refl _)⟩
   case measure=>simp[intOf];omega
  ·have hke:k=t.length:=by omega
   subst hke
   rw[ybf] at HM
   clear hk hlt HPA
   go_wp2
   go_loopw [42] (fun v42 wr=>∃(k:Nat) (fv rv:Value) (ps:List (Value × Value × Value)),k<=cs.length/\v42=.int .i64 k/\Hid (zkb w.heap.size w wr (w.heap.size+1+1+1) w.heap.size (w.heap.size+1) (.pointer (some ⟨tb,o,none⟩)) (.pointer (some ⟨cb,0,none⟩)) (.slice (some ⟨w.heap.size+1+1,0,none⟩) t.length t.length) fv rv ns.length (t.map (·.arity)) (zex t ns (cs.take k)) (zfh t ns os (cs.take k)) ps)) (fun i _=>cs.length - (intOf i).toNat)
   case atStart=>exact⟨0,_,_,_,Nat.zero_le _,rfl,HM⟩
   case round =>
    clear HM hbk hszk
    obtain⟨k,fv,rv,ps,hk,rfl,HM⟩:=hrel
    have hbk:=HM.out.below
    have hszk:=hbk.size
    by_cases hlt:k < cs.length
    ·obtain⟨g,ao2,cap2,ao3,cap3,hao,hg,hd0,hd1,hd2,hd3,hsk,hlk⟩:=HCI.out.cell k hlt
     subst hao
     have hx0:=(hbk.cell (p:=⟨g,k * 4,none⟩) hg).trans hd0
     have hx1:=(hbk.cell (p:=⟨g,k * 4+1,none⟩) hg).trans hd1
     have hx2:=(hbk.cell (p:=⟨g,k * 4+2,none⟩) hg).trans hd2
     have hx3:=(hbk.cell (p:=⟨g,k * 4+3,none⟩) hg).trans hd3
     have hgr:g < wr.heap.size:=by omega
     obtain⟨hc1,hc2⟩:=HOK.out cs[k] (List.getElem_mem hlt)
     have HF1:=zxt t ns cs k hlt
     have HR1:=zx4 t ns os cs k hlt
     have HSK:Hid (SIn lo2 w _ _):=hsk
     have HLK:Hid (LIn lo2 w _ _):=hlk
     have hfl:=z2j t ns (cs.take k)
     have hrl:=z07 t ns os (cs.take k)
     rw[List.length_take,Nat.min_eq_left (by omega)] at hfl hrl
     clear hd0 hd1 hd2 hd3 hsk hlk
     generalize cs[k]=c at *
     by_cases hb0:c.body.length > 0
     ·have hb0':(c.body.length:Int) > 0:=by omega
      simp only[hb0,if_true,List.append_nil] at HF1 HR1
      have HF2:Hid (zex t ns (cs.take (k+1))=zex t ns (cs.take k)):=HF1
      have HR2:Hid (zfh t ns os (cs.take (k+1))=zfh t ns os (cs.take k)++[zod t ns c (zez os k)]):=HR1
      clear HF1 HR1
      generalize zex t ns (cs.take k)=fs at *
      generalize zfh t ns os (cs.take k)=rs at *
      have HRU:Hid (∀ W u,Below wr.heap.size wr W->zih W u (zez os k)->Calls Tryz.prog 117 #[.pointer (some ⟨w.heap.size+1,0,none⟩),.agg #[.bool c.head.neg,.string c.head.pred,.slice ao2 c.head.args.length cap2,.slice ao3 c.body.length cap3],u] W fun e w'=>z0b W (zod t ns c (zez os k)) e w'):=fun W u hW hu=>z9k W (w.heap.size+1) tb o cb t ns c _ _ u (zez os k) (HMI.out W _ (zad hbk hW (Nat.le_refl _)) (HM.out.mak.below hW)) (HSK.out.below (zad hbk hW (Nat.le_refl _))) (HLK.out.below (zad hbk hW (Nat.le_refl _))) hc1 hc2 hu (HOL.out k) (HSN.out _)
      have HOA1:Hid (∀ W,Below wr.heap.size wr W->Calls Tryz.prog 116 #[.slice aoo (os.getD []).length capo,.int .i64 k] W fun e w'=>∃ u,e=.returned u/\zih W u (zez os k)/\w'=W):=fun W hW=>HOA.out W k (zad hbk hW (Nat.le_refl _))
      generalize zod t ns c (zez os k)=r at *
      have hown:=HM.out.rul.own
      obtain⟨aor,capr,hrv⟩:=zac hown
      subst hrv
      have HRU2:Hid (∀ W u,Below wr.heap.size wr W->zih W u (zez os k)->Calls Tryz.prog 117 #[.pointer (some ⟨w.heap.size+1,0,none⟩),.agg #[.bool c.head.neg,.string c.head.pred,.slice ao2 c.head.args.length cap2,.slice ao3 c.body.length cap3],u] W fun e w'=>∃ tv pv nv,e=.returned (.agg #[.int .i64 (r.stratum:Nat),.int .i64 (r.vars:Nat),.int .i64 (r.head.pred:Nat),tv,pv,nv])/\zds W.heap.size w' tv pv nv r/\Below W.heap.size W w'):=HRU
      clear HRU
      go_wp2_with (first|(go_at_call 116;refine(HOA1.out _ (by exact(by repeat'(first|with_reducible(first|exact zR _ _|assumption|refine zN ?_ _|refine zA ?_ ?_ _|refine zD ?_|refine zS ?_ ?_ _)|go_size)))).mono ?_;rintro e w1 ⟨u,rfl,hu,hww⟩;obtain rfl:=hww.symm;obtain⟨aou,capu,rfl⟩:=hu.shape)|(go_at_call 117;refine(HRU2.out _ _ (by exact(by repeat'(first|with_reducible(first|exact zR _ _|assumption|refine zN ?_ _|refine zA ?_ ?_ _|refine zD ?_|refine zS ?_ ?_ _)|go_size))) hu).mono ?_;rintro e w2 ⟨tv,pv,nv,rfl,hR2,hb2⟩;obtain⟨ao6,cap6,rfl⟩:=hR2.head.shape;obtain⟨ao7,cap7,rfl⟩:=hR2.plain.shape;obtain⟨ao8,cap8,rfl⟩:=hR2.nots.shape;have hB2:Below wr.heap.size wr w2:=(zad (by repeat'(first|with_reducible(first|exact zR _ _|assumption|refine zN ?_ _|refine zA ?_ ?_ _|refine zD ?_|refine zS ?_ ?_ _)|go_size)) hb2 (Nat.le_refl _));have hbx2:=HM.out.box.below hB2;obtain⟨hbx2c,hbx2f⟩:=hbx2.rules;have hbx2l:=hbx2.lt;have hz2:=hB2.size;have hown2:=zab hown hB2)|(at_builtin;refine zcb w2 _ [.int .i64 (r.stratum:Nat),.int .i64 (r.vars:Nat),.int .i64 (r.head.pred:Nat),.slice ao6 r.head.terms.length cap6,.slice ao7 r.plain.length cap7,.slice ao8 r.nots.length cap8] _ rfl (.tmp 58) (.tmp 60) 144 rfl w.heap.size 207 iR _ 6 96 Tryz.underlying144 hiR hzR hzsR hzbR rfl (by decide) (.slice aor rs.length capr) rs.length (zc9 rs ps) rfl hown2 (by exact(by repeat'(first|with_reducible(first|exact zR _ _|assumption|refine zN ?_ _|refine zA ?_ ?_ _|refine zD ?_|refine zS ?_ ?_ _)|go_size))) _ _ rfl (by simp) rfl (by simp[Value.oneCell']) (by omega) (by omega) (by omega) ?_;intro v' w3 ho3 hS3 hat3;obtain⟨aov,capv,rfl⟩:=zac ho3;have hbx3:=hbx2.saveT hS3 (OfT.own hown2) (by decide);obtain⟨hbx3c,hbx3f⟩:=hbx3.rules;have hbx3l:=hbx3.lt))
      have hR2':zds w.heap.size w2 _ _ _ r:=hR2.low (show w.heap.size<=_ by simp;omega)
      have HMN:zkb _ _ _ _ _ _ _ _ _ _ _ _ _ _ _ _:=(HM.out.next hB2 (Nat.le_refl _)).pushR hS3 (zcy.push (r:=r) (p:=(.slice ao6 r.head.terms.length cap6,.slice ao7 r.plain.length cap7,.slice ao8 r.nots.length cap8)) (HM.out.rul.below hB2) (by omega) hR2' ho3 hS3) (by omega)
      go_roundw
      case rel=>exact⟨k+1,_,_,_,by omega,by go_num,by rw[HF2.out,HR2.out];exact HMN⟩
      case measure=>simp[intOf];omega
     ·have hb0':¬ (c.body.length:Int) > 0:=by omega
      simp only[hb0,if_false,List.append_nil] at HF1 HR1
      have HF2:Hid (zex t ns (cs.take (k+1))=zex t ns (cs.take k)++[zi1 t ns c]):=HF1
      have HR2:Hid (zfh t ns os (cs.take (k+1))=zfh t ns os (cs.take k)):=HR1
      clear HF1 HR1
      generalize zex t ns (cs.take k)=fs at *
      generalize zfh t ns os (cs.take k)=rs at *
      have HFA:Hid (∀ W,Below wr.heap.size wr W->Calls Tryz.prog 118 #[.pointer (some ⟨w.heap.size+1,0,none⟩),.agg #[.bool c.head.neg,.string c.head.pred,.slice ao2 c.head.args.length cap2,.slice ao3 c.body.length cap3]] W fun e w'=>e=.returned (ya9 (zi1 t ns c))/\Below W.heap.size W w'):=fun W hW=>yav W (w.heap.size+1) tb o cb t ns c _ _ (HMI.out W _ (zad hbk hW (Nat.le_refl _)) (HM.out.mak.below hW)) (HSK.out.below (zad hbk hW (Nat.le_refl _))) (HLK.out.below (zad hbk hW (Nat.le_refl _))) (by omega)
      generalize zi1 t ns c=f at *
      have HFA2:Hid (∀ W,Below wr.heap.size wr W->Calls Tryz.prog 118 #[.pointer (some ⟨w.heap.size+1,0,none⟩),.agg #[.bool c.head.neg,.string c.head.pred,.slice ao2 c.head.args.length cap2,.slice ao3 c.body.length cap3]] W fun e w'=>e=.returned (.agg #[.int .i64 (f.pred:Nat),.int .i64 (f.row.getD 0 0:Nat),.int .i64 (f.row.getD 1 0:Nat),.int .i64 (f.row.getD 2 0:Nat)])/\Below W.heap.size W w'):=HFA
      have HFC:Hid (zc0 (fs++[f])=zc0 fs++[.int .i64 (f.pred:Nat),.int .i64 (f.row.getD 0 0:Nat),.int .i64 (f.row.getD 1 0:Nat),.int .i64 (f.row.getD 2 0:Nat)]):=zqy fs f
      clear HFA
      generalize f.row.getD 0 0=f0 at *
      generalize f.row.getD 1 0=f1 at *
      generalize f.row.getD 2 0=f2 at *
      have hown:wr.ownsRow w.heap.size 210 4 fv fs.length (zc0 fs):=HM.out.fac
      obtain⟨aof,capf,hfv⟩:=zac hown
      subst hfv
      go_wp2_with (first|(go_at_call 118;refine(HFA2.out _ (by exact(by repeat'(first|with_reducible(first|exact zR _ _|assumption|refine zN ?_ _|refine zA ?_ ?_ _|refine zD ?_|refine zS ?_ ?_ _)|go_size)))).mono ?_;rintro e w2 ⟨rfl,hb2⟩;have hB2:Below wr.heap.size wr w2:=(zad (by repeat'(first|with_reducible(first|exact zR _ _|assumption|refine zN ?_ _|refine zA ?_ ?_ _|refine zD ?_|refine zS ?_ ?_ _)|go_size)) hb2 (Nat.le_refl _));have hbx2:=HM.out.box.below hB2;obtain⟨hbx2c,hbx2f⟩:=hbx2.rules;have hbx2l:=hbx2.lt;have hz2:=hB2.size;have hown2:=zab hown hB2)|(at_builtin;refine zcb w2 _ [.int .i64 (f.pred:Nat),.int .i64 (f0:Nat),.int .i64 (f1:Nat),.int .i64 (f2:Nat)] _ rfl (.tmp 66) (.tmp 68) 143 rfl w.heap.size 210 iF _ 4 32 Tryz.underlying143 hiF hzF hzsF hzbF rfl (by decide) (.slice aof fs.length capf) fs.length (zc0 fs) rfl hown2 (by exact(by repeat'(first|with_reducible(first|exact zR _ _|assumption|refine zN ?_ _|refine zA ?_ ?_ _|refine zD ?_|refine zS ?_ ?_ _)|go_size))) _ _ rfl (by simp) rfl (by simp[Value.oneCell']) (by omega) (by omega) (by omega) ?_;intro v' w3 ho3 hS3 hat3;obtain⟨aov,capv,rfl⟩:=zac ho3;have hbx3:=hbx2.saveT hS3 (OfT.own hown2) (by decide);obtain⟨hbx3c,hbx3f⟩:=hbx3.rules;have hbx3l:=hbx3.lt))
      have hF3:zpy w.heap.size w3 (.slice aov (fs.length+1) capv) (fs++[f]):=by
       unfold zpy
       rw[HFC.out,List.length_append]
       exact ho3
      have HMN:zkb _ _ _ _ _ _ _ _ _ _ _ _ _ _ _ _:=(HM.out.next hB2 (Nat.le_refl _)).pushF hS3 hF3 (by omega)
      go_roundw
      case rel=>exact⟨k+1,_,_,_,by omega,by go_num,by rw[HF2.out,HR2.out];exact HMN⟩
      case measure=>simp[intOf];omega
    ·have HP3:Hid (cs.take k=cs):=by rw[Hid,List.take_of_length_le (by omega)]
     rw[HP3.out] at HM
     have hbx:=HM.out.box
     have hrs:=HM.out.res
     obtain⟨hbc,hbf⟩:=hbx.rules
     have hbl:=hbx.lt
     obtain⟨hrc,hrf⟩:=hrs.rules
     have hrl:=hrs.lt
     obtain⟨aof,capf,hfv⟩:=zac HM.out.fac
     obtain⟨aor,capr,hrv⟩:=zac HM.out.rul.own
     subst hfv
     subst hrv
     generalize zex t ns cs=fs at *
     generalize zfh t ns os cs=rs at *
     go_wp2
     (try simp only[Exit.inBlock,Exit.then])
     refine bodyPost_ret (v:=.agg #[.int .i64 (ns.length:Nat),.slice (some ⟨w.heap.size+1+1,0,none⟩) t.length t.length,.slice aof fs.length capf,.slice aor rs.length capr]) (by simp[results,Tryz.results73,go_sem,hrc]) rfl ⟨_,_,_,ps,by rw[HE.out],?_,?_⟩
     ·have hs4:zat [w.heap.size] wr ((((wr.setCell ⟨w.heap.size,0,none⟩ (.int .i64 (ns.length:Nat))).setCell ⟨w.heap.size,1,none⟩ (.slice (some ⟨w.heap.size+1+1,0,none⟩) t.length t.length)).setCell ⟨w.heap.size,2,none⟩ (.slice aof fs.length capf)).setCell ⟨w.heap.size,3,none⟩ (.slice aor rs.length capr)):=(((zat.set _ _ _ _).trans (zat.set _ _ _ _)).trans (zat.set _ _ _ _)).trans (zat.set _ _ _ _)
      have hMr:=OfT.box hrs
      rw[HE.out]
      exact⟨zak HM.out.ari hs4 hMr (by decide),zak HM.out.fac hs4 hMr (by decide),HM.out.rul.saveT hs4 hMr (by decide) (by decide) (by decide)⟩
     ·exact(((hbk.setCell (by simp) _).setCell (by simp) _).setCell (by simp) _).setCell (by simp) _
end Go.Proofs.YteampbddflhngaaGreat
