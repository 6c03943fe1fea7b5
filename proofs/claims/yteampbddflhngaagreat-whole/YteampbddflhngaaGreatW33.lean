import Derived.Test.YteampbddflhngaaGreatW29
import Derived.Test.YteampbddflhngaaGreatW05
import Derived.Test.YteampbddflhngaaGreatW28
import Derived.Deep.RegionHeld3

namespace Go.Proofs.YteampbddflhngaaGreat
set_option maxRecDepth 100000
set_option maxHeartbeats 4000000
open Go.RowKit
variable {lo:Nat}
def zxb(w:World)(S:zsb)(e:Ending)(w':World):Prop:=∃ av fv rv ps,e=.returned (.agg #[.int .i64 (S.qg:Nat),av,fv,rv])/\zkt w.heap.size w' av fv rv S ps/\Below w.heap.size w w'
def arK(t:List zar)(k:Nat):List Nat:=(t.take k).map (·.je)++List.replicate (t.length - k) 0
theorem zvm(t:List zar)(k:Nat)(hk:k<=t.length):(arK t k).length=t.length:=by simp[arK];omega
theorem z7z(t:List zar)(k:Nat)(hk:k < t.length):(arK t k).set k (za0 t k)=arK t (k+1):=by
 have e:za0 t k=t[k].je:=by simp[za0,hk]
 obtain⟨m,hm⟩:∃ m,t.length - k=m+1:=⟨t.length - k - 1,by omega⟩
 unfold arK
 rw[e,ubd _ _ (by simp;omega),ua0,ua2,ubv (by omega),ubs,hm,ucc,uda,uae hk,ua8,show t.length - (k+1)=m from by omega,uba]
 rfl
theorem z7y(t:List zar):arK t t.length=t.map (·.je):=by simp[arK]
theorem z6f{lo2:Nat}(w:World)(tb o cb:Nat)(t:List zar)(ns:List ByteArray)(cs:List zab)(cv ov:Value)(os:Option (List (Option (List Int))))(hT:TG lo w tb o t)(hC:z4t lo w cb ns)(htl:t.length<=1000)(hnl:ns.length<=1000)(hcs:CIn lo2 171 w cv cs)(hok:∀ c∈cs,c.head.args.length+zcd c.body<=1000/\c.body.length<=900)(hcl:cs.length<=1000)(ho:zhq w ov os)(hol:(os.getD []).length<=2000000)(hoi:∀ o∈os.getD [],(o.getD []).length<=1000)(hst:∀ n,zdv t n<=1000000) :
  Calls Tryz.prog 73 #[cv,.pointer (some ⟨tb,o,none⟩),.pointer (some ⟨cb,0,none⟩),ov] w fun e w'=>zxb w (zjv t ns os cs) e w':=by
 obtain⟨iI,hiI,hzI,hzsI,hzbI⟩:=info_parts Tryz.infoInt
 obtain⟨iF,hiF,hzF,hzsF,hzbF⟩:=info_parts Tryz.infoFact
 obtain⟨iR,hiR,hzR,hzsR,hzbR⟩:=info_parts Tryz.infoRule
 obtain⟨aoc,capc,rfl⟩:=hcs.shape
 obtain⟨aoo,capo,rfl⟩:=ho.shape
 have HCC:Hid (∀ W,Below w.heap.size w W->Calls Tryz.prog 114 #[.pointer (some ⟨cb,0,none⟩)] W fun e w'=>e=.returned (.int .i64 (ns.length:Nat))/\w'=W):=fun W hW=>zy1 W cb ns (hC.below hW)
 have HPC:Hid (∀ W,Below w.heap.size w W->Calls Tryz.prog 115 #[.pointer (some ⟨tb,o,none⟩)] W fun e w'=>e=.returned (.int .i64 (t.length:Nat))/\w'=W):=fun W hW=>zzf lo W tb o t (hT.below hW)
 have HPA:Hid (∀ W (i:Nat),Below w.heap.size w W->Calls Tryz.prog 80 #[.pointer (some ⟨tb,o,none⟩),.int .i64 i] W fun e w'=>e=.returned (.int .i64 (za0 t i:Nat))/\w'=W):=fun W i hW=>zl7 lo W tb o t i (hT.below hW)
 have HOA:Hid (∀ W (k:Nat),Below w.heap.size w W->Calls Tryz.prog 116 #[.slice aoo (os.getD []).length capo,.int .i64 k] W fun e w'=>∃ u,e=.returned u/\zhp W u (zd2 os k)/\w'=W):=fun W k hW=>zwd W _ os k (ho.below hW) hol
 have HOL:Hid (∀ k,((zd2 os k).getD []).length<=1000):=fun k=>by
  unfold zd2
  by_cases hk:k < (os.getD []).length
  ·rw[uaf,uac hk];exact hoi _ (uad hk)
  ·rw[uaf,uav (by omega)];simp
 have HMI:Hid (∀ W mb,Below w.heap.size w W->Box W mb #[.pointer (some ⟨tb,o,none⟩),.pointer (some ⟨cb,0,none⟩)] 200->zil lo W mb tb o cb t ns):=fun W mb hW hb=>⟨hb,hT.below hW,hC.below hW,htl,hnl⟩
 have HCI:Hid (CIn lo2 171 w (.slice aoc cs.length capc) cs):=hcs
 have HOK:Hid (∀ c∈cs,c.head.args.length+zcd c.body<=1000/\c.body.length<=900):=hok
 have HSN:Hid (∀ n,zdv t n<=1000000):=hst
 have HE:Hid (zjv t ns os cs={ qg:=ns.length,qh:=t.map (·.je),facts:=zeq t ns cs,rules:=zet t ns os cs }):=rfl
 have hmk:=fun W:World=>run_make (P:=Tryz.prog) (w:=W) 24 3 iI _ Tryz.underlying24 hiI hzI .i64 .i64 (t.length:Int) (t.length:Int) (by omega) (Int.le_refl _) (by rw[hzbI];omega) (by omega)
 rw[hzsI] at hmk
 clear hT hC hcs ho hok hoi hst
 go_enter Tryz.func73,Tryz.ntmps73
 go_upto_region 3 with (first|(go_at_call 114;refine(HCC.out _ (by exact(by go_grown))).mono ?_;rintro e w1 ⟨rfl,hww⟩;obtain rfl:=hww.symm)|(go_at_call 115;refine(HPC.out _ (by exact(by go_grown))).mono ?_;rintro e w1 ⟨rfl,hww⟩;obtain rfl:=hww.symm))
 have hM:zjr w.heap.size w ((((w.alloc (.cells #[.int .i64 0,.slice none 0 0,.slice none 0 0,.slice none 0 0] 146)).alloc (.cells #[.pointer (some ⟨tb,o,none⟩),.pointer (some ⟨cb,0,none⟩)] 200)).alloc (.cells (madeCells #[.int .i64 0] t.length) 3)).alloc (.cells #[.int .i64 (ns.length:Nat),.slice (some ⟨w.heap.size+1+1,0,none⟩) t.length t.length,.slice none 0 0,.slice none 0 0] 146)) (w.heap.size+1+1+1) w.heap.size (w.heap.size+1) (.pointer (some ⟨tb,o,none⟩)) (.pointer (some ⟨cb,0,none⟩)) (.slice (some ⟨w.heap.size+1+1,0,none⟩) t.length t.length) (.slice none 0 0) (.slice none 0 0) ns.length (arK t 0) [] [] []:=by
  refine⟨(Box.new _ _ _).at' (by simp),((((Box.new w _ _).up _).up _).up _),((((Box.new _ _ _).up _).up _).at' (by simp)),?_,World.ownsRow_nil _ _ _ _,⟨World.ownsRow_nil _ _ _ _,rfl,fun k a=>by simp at a,by simp⟩,(by go_grown),by omega,by omega,by omega⟩
  have q:=z6m ((w.alloc (.cells #[.int .i64 0,.slice none 0 0,.slice none 0 0,.slice none 0 0] 146)).alloc (.cells #[.pointer (some ⟨tb,o,none⟩),.pointer (some ⟨cb,0,none⟩)] 200)) t.length 3 (by unfold maxLen;omega)
  simp only[World.size_alloc] at q
  have q2:=zaa (zbf q (show w.heap.size<=w.heap.size+1+1 by omega)) ((Below.refl _ _).alloc (uaa _) (.cells #[.int .i64 (ns.length:Nat),.slice (some ⟨w.heap.size+1+1,0,none⟩) t.length t.length,.slice none 0 0,.slice none 0 0] 146))
  rw[zvm t 0 (by omega),show arK t 0=List.replicate t.length 0 from by simp[arK]]
  exact q2
 generalize (((w.alloc (.cells #[.int .i64 0,.slice none 0 0,.slice none 0 0,.slice none 0 0] 146)).alloc (.cells #[.pointer (some ⟨tb,o,none⟩),.pointer (some ⟨cb,0,none⟩)] 200)).alloc (.cells (madeCells #[.int .i64 0] t.length) 3)).alloc (.cells #[.int .i64 (ns.length:Nat),.slice (some ⟨w.heap.size+1+1,0,none⟩) t.length t.length,.slice none 0 0,.slice none 0 0] 146)=w3 at *
 clear hmk HCC HPC
 have hM0:=hM.box
 obtain⟨hsc,hsf⟩:=hM0.rules
 have hsl:=hM0.lt
 go_wp2
 clear hsc hsf hsl hM0
 have HM:Hid (zjr _ _ _ _ _ _ _ _ _ _ _ _ _ _ _ _):=hM
 clear hM
 go_loopw [29] (fun v29 wr=>∃ k:Nat,k<=t.length/\v29=.int .i64 k/\Hid (zjr w.heap.size w wr (w.heap.size+1+1+1) w.heap.size (w.heap.size+1) (.pointer (some ⟨tb,o,none⟩)) (.pointer (some ⟨cb,0,none⟩)) (.slice (some ⟨w.heap.size+1+1,0,none⟩) t.length t.length) (.slice none 0 0) (.slice none 0 0) ns.length (arK t k) [] [] [])) (fun i _=>t.length - (intOf i).toNat)
 case atStart=>exact⟨0,uaj _,rfl,HM⟩
 case round =>
  clear HM
  obtain⟨k,hk,rfl,HM⟩:=hrel
  have hbk:=HM.out.below
  have hszk:=hbk.size
  by_cases hlt:k < t.length
  ·have hbx:=HM.out.box
   obtain⟨hsc,hsf⟩:=hbx.rules
   have hsl:=hbx.lt
   have hs1:wr.cell? ⟨w.heap.size+1+1+1,1,none⟩=some (.slice (some ⟨w.heap.size+1+1,0,none⟩) t.length t.length):=by rw[hsc];rfl
   have hari:=HM.out.ari
   have hal:=zvm t k hk
   have hkk:(k:Int) < (t.length:Int):=by omega
   obtain⟨g',cap',hv',_,hg',hcl'⟩:=zal hari (by omega)
   simp only[Value.slice.injEq,uab,Addr.mk.injEq,and_true] at hv'
   have hgg:=hv'.1
   clear hv'
   subst hgg
   obtain⟨ax,hax⟩:∃ ax:Nat,wr.cell? ⟨w.heap.size+1+1,k,none⟩=some (.int .i64 (ax:Nat)):=⟨_,hcl' k (.int .i64 ((arK t k)[k]'(by omega):Nat)) (by simp[ivN,hal,hlt])⟩
   have haf:=zbt hari
   have hset:=zb4 hari k (by simp;omega) (.int .i64 (za0 t k:Nat))
   have HSET:Hid (((arK t k).map ivN).set k (.int .i64 (za0 t k:Nat))=(arK t (k+1)).map ivN):=by rw[Hid,← z7z t k hlt,ucj];rfl
   rw[HSET.out,hal] at hset
   have HPA1:Hid (∀ W,Below wr.heap.size wr W->Calls Tryz.prog 80 #[.pointer (some ⟨tb,o,none⟩),.int .i64 k] W fun e w'=>e=.returned (.int .i64 (za0 t k:Nat))/\w'=W):=fun W hW=>HPA.out W k (zae hbk hW (uaa _))
   clear hcl' hal
   generalize za0 t k=ar at *
   go_wp2
   go_region_held3 (fun w'=>w'.cell? ⟨w.heap.size+1+1+1,1,none⟩=some (.slice (some ⟨w.heap.size+1+1,0,none⟩) t.length t.length)) (first|go_keep|(go_simp;done)) (first|(go_at_call 80;refine(HPA1.out _ (by exact(by go_grown))).mono ?_;rintro e w4 ⟨rfl,hww⟩;obtain rfl:=hww.symm))
   go_wp2
   have HMN:zjr w.heap.size w (wr.setCell ⟨w.heap.size+1+1,k,none⟩ (.int .i64 (ar:Nat))) (w.heap.size+1+1+1) w.heap.size (w.heap.size+1) (.pointer (some ⟨tb,o,none⟩)) (.pointer (some ⟨cb,0,none⟩)) (.slice (some ⟨w.heap.size+1+1,0,none⟩) t.length t.length) (.slice none 0 0) (.slice none 0 0) ns.length (arK t (k+1)) [] [] [] :=
    ⟨HM.out.box.set_ne (by omega) _ _,HM.out.res.set_ne (by omega) _ _,HM.out.mak.set_ne (by omega) _ _,by rw[zvm t (k+1) (by omega)];exact hset,World.ownsRow_nil _ _ _ _,⟨World.ownsRow_nil _ _ _ _,rfl,fun k a=>by simp at a,by simp⟩,hbk.setCell (by simp;omega) _,HM.out.low⟩
   go_roundw
   case rel=>exact⟨k+1,by omega,by go_num,HMN.next ((Below.refl _ _).drew) (uaa _)⟩
   case measure=>simp[intOf];omega
  ·have hke:k=t.length:=by omega
   subst hke
   rw[z7y] at HM
   clear hk hlt HPA
   go_wp2
   go_loopw [42] (fun v42 wr=>∃(k:Nat) (fv rv:Value) (ps:List (Value × Value × Value)),k<=cs.length/\v42=.int .i64 k/\Hid (zjr w.heap.size w wr (w.heap.size+1+1+1) w.heap.size (w.heap.size+1) (.pointer (some ⟨tb,o,none⟩)) (.pointer (some ⟨cb,0,none⟩)) (.slice (some ⟨w.heap.size+1+1,0,none⟩) t.length t.length) fv rv ns.length (t.map (·.je)) (zeq t ns (cs.take k)) (zet t ns os (cs.take k)) ps)) (fun i _=>cs.length - (intOf i).toNat)
   case atStart=>exact⟨0,_,_,_,uaj _,rfl,HM⟩
   case round =>
    clear HM hbk hszk
    obtain⟨k,fv,rv,ps,hk,rfl,HM⟩:=hrel
    have hbk:=HM.out.below
    have hszk:=hbk.size
    by_cases hlt:k < cs.length
    ·obtain⟨g,ao2,cap2,ao3,cap3,hao,hg,hd0,hd1,hd2,hd3,hsk,hlk⟩:=HCI.out.cell k hlt
     subst hao
     have hx0:=(hbk.cell (p:=⟨g,k * 4,none⟩) hg).trans hd0
     have hx1:=(hbk.cell (p:=⟨g,k * 4+1,none⟩) hg).trans hd1
     have hx2:=(hbk.cell (p:=⟨g,k * 4+2,none⟩) hg).trans hd2
     have hx3:=(hbk.cell (p:=⟨g,k * 4+3,none⟩) hg).trans hd3
     have hgr:g < wr.heap.size:=by omega
     obtain⟨hc1,hc2⟩:=HOK.out cs[k] (uad hlt)
     have HF1:=zvz t ns cs k hlt
     have HR1:=zwq t ns os cs k hlt
     have HSK:Hid (SIn lo2 w _ _):=hsk
     have HLK:Hid (LIn lo2 w _ _):=hlk
     have hfl:=zy9 t ns (cs.take k)
     have hrl:=z0h t ns os (cs.take k)
     rw[ua2,ubv (by omega)] at hfl hrl
     clear hd0 hd1 hd2 hd3 hsk hlk
     generalize cs[k]=c at *
     by_cases hb0:c.body.length > 0
     ·have hb0':(c.body.length:Int) > 0:=by omega
      simp only[hb0,if_true,ub3] at HF1 HR1
      have HF2:Hid (zeq t ns (cs.take (k+1))=zeq t ns (cs.take k)):=HF1
      have HR2:Hid (zet t ns os (cs.take (k+1))=zet t ns os (cs.take k)++[zln t ns c (zd2 os k)]):=HR1
      clear HF1 HR1
      generalize zeq t ns (cs.take k)=fs at *
      generalize zet t ns os (cs.take k)=rs at *
      have HRU:Hid (∀ W u,Below wr.heap.size wr W->zhp W u (zd2 os k)->Calls Tryz.prog 117 #[.pointer (some ⟨w.heap.size+1,0,none⟩),.agg #[.bool c.head.neg,.string c.head.pred,.slice ao2 c.head.args.length cap2,.slice ao3 c.body.length cap3],u] W fun e w'=>zxf W (zln t ns c (zd2 os k)) e w'):=fun W u hW hu=>z6w W (w.heap.size+1) tb o cb t ns c _ _ u (zd2 os k) (HMI.out W _ (zae hbk hW (uaa _)) (HM.out.mak.below hW)) (HSK.out.below (zae hbk hW (uaa _))) (HLK.out.below (zae hbk hW (uaa _))) hc1 hc2 hu (HOL.out k) (HSN.out _)
      have HOA1:Hid (∀ W,Below wr.heap.size wr W->Calls Tryz.prog 116 #[.slice aoo (os.getD []).length capo,.int .i64 k] W fun e w'=>∃ u,e=.returned u/\zhp W u (zd2 os k)/\w'=W):=fun W hW=>HOA.out W k (zae hbk hW (uaa _))
      generalize zln t ns c (zd2 os k)=r at *
      have hown:=HM.out.rul.own
      obtain⟨aor,capr,hrv⟩:=zac hown
      subst hrv
      have HRU2:Hid (∀ W u,Below wr.heap.size wr W->zhp W u (zd2 os k)->Calls Tryz.prog 117 #[.pointer (some ⟨w.heap.size+1,0,none⟩),.agg #[.bool c.head.neg,.string c.head.pred,.slice ao2 c.head.args.length cap2,.slice ao3 c.body.length cap3],u] W fun e w'=>∃ tv pv nv,e=.returned (.agg #[.int .i64 (r.qi:Nat),.int .i64 (r.vars:Nat),.int .i64 (r.head.pred:Nat),tv,pv,nv])/\zdp W.heap.size w' tv pv nv r/\Below W.heap.size W w'):=HRU
      clear HRU
      go_wp2_with (first|(go_at_call 116;refine(HOA1.out _ (by exact(by go_grown))).mono ?_;rintro e w1 ⟨u,rfl,hu,hww⟩;obtain rfl:=hww.symm;obtain⟨aou,capu,rfl⟩:=hu.shape)|(go_at_call 117;refine(HRU2.out _ _ (by exact(by go_grown)) hu).mono ?_;rintro e w2 ⟨tv,pv,nv,rfl,hR2,hb2⟩;obtain⟨ao6,cap6,rfl⟩:=hR2.head.shape;obtain⟨ao7,cap7,rfl⟩:=hR2.qc.shape;obtain⟨ao8,cap8,rfl⟩:=hR2.qm.shape;have hB2:Below wr.heap.size wr w2:=(zae (by go_grown) hb2 (uaa _));have hbx2:=HM.out.box.below hB2;obtain⟨hbx2c,hbx2f⟩:=hbx2.rules;have hbx2l:=hbx2.lt;have hz2:=hB2.size;have hown2:=zaa hown hB2)|(at_builtin;refine zce w2 _ [.int .i64 (r.qi:Nat),.int .i64 (r.vars:Nat),.int .i64 (r.head.pred:Nat),.slice ao6 r.head.qf.length cap6,.slice ao7 r.qc.length cap7,.slice ao8 r.qm.length cap8] _ rfl (.tmp 58) (.tmp 60) 144 rfl w.heap.size 207 iR _ 6 96 Tryz.underlying144 hiR hzR hzsR hzbR rfl (by decide) (.slice aor rs.length capr) rs.length (zdb rs ps) rfl hown2 (by exact(by go_grown)) _ _ rfl (by simp) rfl (by simp[Value.oneCell']) (by omega) (by omega) (by omega) ?_;intro v' w3 ho3 hS3 hat3;obtain⟨aov,capv,rfl⟩:=zac ho3;have hbx3:=hbx2.saveT hS3 (OfT.own hown2) (by decide);obtain⟨hbx3c,hbx3f⟩:=hbx3.rules;have hbx3l:=hbx3.lt))
      have hR2':zdp w.heap.size w2 _ _ _ r:=hR2.low (show w.heap.size<=_ by simp;omega)
      have HMN:zjr _ _ _ _ _ _ _ _ _ _ _ _ _ _ _ _:=(HM.out.next hB2 (uaa _)).pushR hS3 (zcv.push (r:=r) (p:=(.slice ao6 r.head.qf.length cap6,.slice ao7 r.qc.length cap7,.slice ao8 r.qm.length cap8)) (HM.out.rul.below hB2) (by omega) hR2' ho3 hS3) (by omega)
      go_roundw
      case rel=>exact⟨k+1,_,_,_,by omega,by go_num,by rw[HF2.out,HR2.out];exact HMN⟩
      case measure=>simp[intOf];omega
     ·have hb0':¬ (c.body.length:Int) > 0:=by omega
      simp only[hb0,if_false,ub3] at HF1 HR1
      have HF2:Hid (zeq t ns (cs.take (k+1))=zeq t ns (cs.take k)++[ziw t ns c]):=HF1
      have HR2:Hid (zet t ns os (cs.take (k+1))=zet t ns os (cs.take k)):=HR1
      clear HF1 HR1
      generalize zeq t ns (cs.take k)=fs at *
      generalize zet t ns os (cs.take k)=rs at *
      have HFA:Hid (∀ W,Below wr.heap.size wr W->Calls Tryz.prog 118 #[.pointer (some ⟨w.heap.size+1,0,none⟩),.agg #[.bool c.head.neg,.string c.head.pred,.slice ao2 c.head.args.length cap2,.slice ao3 c.body.length cap3]] W fun e w'=>e=.returned (z8i (ziw t ns c))/\Below W.heap.size W w'):=fun W hW=>z5p W (w.heap.size+1) tb o cb t ns c _ _ (HMI.out W _ (zae hbk hW (uaa _)) (HM.out.mak.below hW)) (HSK.out.below (zae hbk hW (uaa _))) (HLK.out.below (zae hbk hW (uaa _))) (by omega)
      generalize ziw t ns c=f at *
      have HFA2:Hid (∀ W,Below wr.heap.size wr W->Calls Tryz.prog 118 #[.pointer (some ⟨w.heap.size+1,0,none⟩),.agg #[.bool c.head.neg,.string c.head.pred,.slice ao2 c.head.args.length cap2,.slice ao3 c.body.length cap3]] W fun e w'=>e=.returned (.agg #[.int .i64 (f.pred:Nat),.int .i64 (f.row.getD 0 0:Nat),.int .i64 (f.row.getD 1 0:Nat),.int .i64 (f.row.getD 2 0:Nat)])/\Below W.heap.size W w'):=HFA
      have HFC:Hid (zcx (fs++[f])=zcx fs++[.int .i64 (f.pred:Nat),.int .i64 (f.row.getD 0 0:Nat),.int .i64 (f.row.getD 1 0:Nat),.int .i64 (f.row.getD 2 0:Nat)]):=zpi fs f
      clear HFA
      generalize f.row.getD 0 0=f0 at *
      generalize f.row.getD 1 0=f1 at *
      generalize f.row.getD 2 0=f2 at *
      have hown:wr.ownsRow w.heap.size 210 4 fv fs.length (zcx fs):=HM.out.fac
      obtain⟨aof,capf,hfv⟩:=zac hown
      subst hfv
      go_wp2_with (first|(go_at_call 118;refine(HFA2.out _ (by exact(by go_grown))).mono ?_;rintro e w2 ⟨rfl,hb2⟩;have hB2:Below wr.heap.size wr w2:=(zae (by go_grown) hb2 (uaa _));have hbx2:=HM.out.box.below hB2;obtain⟨hbx2c,hbx2f⟩:=hbx2.rules;have hbx2l:=hbx2.lt;have hz2:=hB2.size;have hown2:=zaa hown hB2)|(at_builtin;refine zce w2 _ [.int .i64 (f.pred:Nat),.int .i64 (f0:Nat),.int .i64 (f1:Nat),.int .i64 (f2:Nat)] _ rfl (.tmp 66) (.tmp 68) 143 rfl w.heap.size 210 iF _ 4 32 Tryz.underlying143 hiF hzF hzsF hzbF rfl (by decide) (.slice aof fs.length capf) fs.length (zcx fs) rfl hown2 (by exact(by go_grown)) _ _ rfl (by simp) rfl (by simp[Value.oneCell']) (by omega) (by omega) (by omega) ?_;intro v' w3 ho3 hS3 hat3;obtain⟨aov,capv,rfl⟩:=zac ho3;have hbx3:=hbx2.saveT hS3 (OfT.own hown2) (by decide);obtain⟨hbx3c,hbx3f⟩:=hbx3.rules;have hbx3l:=hbx3.lt))
      have hF3:znl w.heap.size w3 (.slice aov (fs.length+1) capv) (fs++[f]):=by
       unfold znl
       rw[HFC.out,uar]
       exact ho3
      have HMN:zjr _ _ _ _ _ _ _ _ _ _ _ _ _ _ _ _:=(HM.out.next hB2 (uaa _)).pushF hS3 hF3 (by omega)
      go_roundw
      case rel=>exact⟨k+1,_,_,_,by omega,by go_num,by rw[HF2.out,HR2.out];exact HMN⟩
      case measure=>simp[intOf];omega
    ·have HP3:Hid (cs.take k=cs):=by rw[Hid,uam (by omega)]
     rw[HP3.out] at HM
     have hbx:=HM.out.box
     have hrs:=HM.out.res
     obtain⟨hbc,hbf⟩:=hbx.rules
     have hbl:=hbx.lt
     obtain⟨hrc,hrf⟩:=hrs.rules
     have hrl:=hrs.lt
     obtain⟨aof,capf,hfv⟩:=zac HM.out.fac
     obtain⟨aor,capr,hrv⟩:=zac HM.out.rul.own
     subst hfv
     subst hrv
     generalize zeq t ns cs=fs at *
     generalize zet t ns os cs=rs at *
     go_wp2
     (try simp only[Exit.inBlock,Exit.then])
     refine bodyPost_ret (v:=.agg #[.int .i64 (ns.length:Nat),.slice (some ⟨w.heap.size+1+1,0,none⟩) t.length t.length,.slice aof fs.length capf,.slice aor rs.length capr]) (by simp[results,Tryz.results73,go_sem,hrc]) rfl ⟨_,_,_,ps,by rw[HE.out],?_,?_⟩
     ·have hs4:zas [w.heap.size] wr ((((wr.setCell ⟨w.heap.size,0,none⟩ (.int .i64 (ns.length:Nat))).setCell ⟨w.heap.size,1,none⟩ (.slice (some ⟨w.heap.size+1+1,0,none⟩) t.length t.length)).setCell ⟨w.heap.size,2,none⟩ (.slice aof fs.length capf)).setCell ⟨w.heap.size,3,none⟩ (.slice aor rs.length capr)):=(((zas.set _ _ _ _).trans (zas.set _ _ _ _)).trans (zas.set _ _ _ _)).trans (zas.set _ _ _ _)
      have hMr:=OfT.box hrs
      rw[HE.out]
      exact⟨zaj HM.out.ari hs4 hMr (by decide),zaj HM.out.fac hs4 hMr (by decide),HM.out.rul.saveT hs4 hMr (by decide) (by decide) (by decide)⟩
     ·exact(((hbk.setCell (by simp) _).setCell (by simp) _).setCell (by simp) _).setCell (by simp) _
end Go.Proofs.YteampbddflhngaaGreat
namespace Go.Proofs.YteampbddflhngaaGreat
set_option maxRecDepth 100000
set_option maxHeartbeats 2000000
open Go.RowKit
variable {lo:Nat}
variable {l:List Int}{seen:List Bool}
def zkj(n:Nat):List Int->List Bool->Bool
 |[],_=>true
 |x::r,seen=>if x < 0∨(n:Int)<=x∨5<=x then false else if seen.getD x.toNat false then false else zkj n r (seen.set x.toNat true)
def zzy(l:List Int):Bool:=zkj l.length l [false,false,false,false,false]
theorem z6k{n:Nat}{k:Nat}(hk:k < l.length)(h:l[k] < 0∨(n:Int)<=l[k]∨5<=l[k]):zkj n (l.drop k) seen=false:=by
 rw[uah hk,zkj,if_pos h]
theorem zzz{n:Nat}{k:Nat}(hk:k < l.length)(h:seen.getD l[k].toNat false=true):zkj n (l.drop k) seen=false:=by
 rw[uah hk,zkj]
 split
 ·rfl
 ·simp
theorem z3j{n:Nat}{k:Nat}(hk:k < l.length)(h:¬ (l[k] < 0∨(n:Int)<=l[k]∨5<=l[k]))(h2:seen.getD l[k].toNat false=false):zkj n (l.drop k) seen=zkj n (l.drop (k+1)) (seen.set l[k].toNat true):=by
 rw[uah hk,zkj,if_neg h,if_neg (by rw[h2];decide)]
theorem zs7(w:World)(v:Value)(l:List Int)(h:zhp w v (some l))(hl:l.length<=2000000) :
  Calls Tryz.prog 155 #[v] w fun e w'=>e=.returned (.bool (zzy l))/\Below w.heap.size w w':=by
 obtain⟨g,f,cap,rfl,hg,hcl⟩:=h
 have HC:Hid (∀ k (h:k < l.length),w.cell? ⟨g,f+k,none⟩=some (.int .i64 l[k])):=hcl
 clear hcl
 go_enter Tryz.func155,Tryz.ntmps155
 go_wp2
 go_loopw [8] (fun v8 wr=>∃(k:Nat) (seen:List Bool),k<=l.length/\v8=.int .i64 k/\seen.length=5/\Box wr w.heap.size (seen.map Value.bool).toArray 282/\Hid (zzy l=zkj l.length (l.drop k) seen)/\Below w.heap.size w wr) (fun i _=>l.length - (intOf i).toNat)
 case atStart=>exact⟨0,[false,false,false,false,false],uaj _,rfl,rfl,Box.new _ _ _,rfl,(by go_grown)⟩
 case round =>
  obtain⟨k,seen,hk,rfl,hs5,hbx,HE,hbk⟩:=hrel
  have hszk:=hbk.size
  by_cases hlt:k < l.length
  ·have hx0:=(hbk.cell (p:=⟨g,f+k,none⟩) hg).trans (HC.out k hlt)
   have hgr:g < wr.heap.size:=by omega
   have HO:Hid ((l[k] < 0∨(l.length:Int)<=l[k]∨5<=l[k])->zkj l.length (l.drop k) seen=false):=fun h=>z6k hlt h
   have HT:Hid (seen.getD l[k].toNat false=true->zkj l.length (l.drop k) seen=false):=fun h=>zzz hlt h
   have HX:Hid (¬ (l[k] < 0∨(l.length:Int)<=l[k]∨5<=l[k])->seen.getD l[k].toNat false=false->zkj l.length (l.drop k) seen=zkj l.length (l.drop (k+1)) (seen.set l[k].toNat true)):=fun h h2=>z3j hlt h h2
   generalize l[k]=x at *
   by_cases h0:x < 0
   ·go_wp2
    go_ret
    exact⟨by rw[HE.out,HO.out (Or.inl h0)];rfl,hbk⟩
   ·obtain⟨n,rfl⟩:=Int.eq_ofNat_of_zero_le (Int.not_lt.1 h0)
    by_cases h1:(l.length:Int)<=(n:Int)
    ·go_wp2
     go_ret
     exact⟨by rw[HE.out,HO.out (Or.inr (Or.inl h1))];rfl,hbk⟩
    ·by_cases h5:(5:Int)<=(n:Int)
     ·go_wp2
      go_ret
      exact⟨by rw[HE.out,HO.out (Or.inr (Or.inr h5))];rfl,hbk⟩
     ·have hn5:n < 5:=by omega
      obtain⟨hc,hf⟩:=hbx.rules
      have hbl:=hbx.lt
      have hcn:wr.cell? ⟨w.heap.size,n,none⟩=some (.bool (seen.getD n false)):=by
       rw[hc];simp[hs5,hn5,List.getD_eq_getElem?_getD]
      have hset:=hbx.set n (.bool true)
      have HS:Hid (((seen.map Value.bool).toArray.setIfInBounds n (.bool true))=((seen.set n true).map Value.bool).toArray):=by simp[Hid,List.map_set]
      rw[HS.out] at hset
      simp only[Int.toNat_natCast] at HT HX
      clear hc
      generalize hq:seen.getD n false=b at *
      have HQ:Hid (seen.getD n false=b):=hq
      clear hq
      cases b with
      |true =>
       go_wp2
       go_ret
       exact⟨by rw[HE.out,HT.out (by trivial)];rfl,hbk⟩
      |false =>
       go_wp2
       go_roundw
       case rel=>exact⟨k+1,seen.set n true,by omega,by go_num,by simpa using hs5,hset,by rw[Hid,HE.out,HX.out (by omega) (by trivial)],hbk.setCell (by simp) _⟩
       case measure=>simp[intOf];omega
  ·have HZ:Hid (zkj l.length (l.drop k) seen=true):=by rw[uaq (by omega)];rfl
   go_wp2
   go_ret
   exact⟨by rw[HE.out,HZ.out];rfl,hbk⟩
def zd5(c:zab):Option (List Int)->Bool
 |none=>true
 |some l=>l.length == (zaf c).length && zzy l
theorem zwe(w:World)(c:zab)(va vb ov:Value)(o:Option (List Int))(hs:SIn lo w va c.head.args)(hb:LIn lo w vb c.body)(hl:c.head.args.length+zcd c.body<=1000)(hl2:c.body.length<=1000)(ho:zhp w ov o)(hol:(o.getD []).length<=2000000) :
  Calls Tryz.prog 112 #[.agg #[.bool c.head.neg,.string c.head.pred,va,vb],ov] w fun e w'=>e=.returned (.bool (zd5 c o))/\Below w.heap.size w w':=by
 obtain⟨ao,cap,rfl⟩:=hs.shape
 obtain⟨aob,capb,rfl⟩:=hb.shape
 have HP:Hid (∀ W,Below w.heap.size w W->Calls Tryz.prog 148 #[.agg #[.bool c.head.neg,.string c.head.pred,.slice ao c.head.args.length cap,.slice aob c.body.length capb]] W fun e w'=>∃ nv,e=.returned (.agg #[nv])/\w'.ownsRow W.heap.size 9 1 nv (zaf c).length ((zaf c).map Value.string)/\Below W.heap.size W w'):=fun W hW=>zow W c _ _ (hs.below hW) (hb.below hW) hl hl2
 have hpl:(zaf c).length<=1000:=by have:=zjh c.body [];unfold zaf;simp at this;omega
 clear hs hb
 cases o with
 |none =>
  have h0:ov=.slice none 0 0:=ho
  subst h0
  have hnil:∀ W:World,(binOp .eql 24 (.slice none 0 0) (.slice none 0 0)).run Tryz.prog W=.ok (.bool true) W:=fun W=>by
   have:=run_equal_slice_nil W 24 3 none 0 0 Tryz.underlying24
   simp[binOp,this]
  go_enter Tryz.func112,Tryz.ntmps112
  go_wp2
  go_ret
  exact⟨rfl,(by go_grown)⟩
 |some l =>
  have HO:Hid (∀ W,Below w.heap.size w W->Calls Tryz.prog 155 #[ov] W fun e w'=>e=.returned (.bool (zzy l))/\Below W.heap.size W w'):=fun W hW=>zs7 W ov l (ho.below hW) hol
  have HE:Hid (zd5 c (some l)=(l.length == (zaf c).length && zzy l)):=rfl
  obtain⟨g,f,capo,rfl,_,_⟩:=ho
  simp only[uas] at hol
  have hnil:∀ W:World,(binOp .eql 24 (.slice (some ⟨g,f,none⟩) l.length capo) (.slice none 0 0)).run Tryz.prog W=.ok (.bool false) W:=fun W=>by
   have:=run_equal_slice_nil W 24 3 (some ⟨g,f,none⟩) l.length capo Tryz.underlying24
   simp[binOp,this]
  generalize zaf c=vs at *
  generalize zzy l=ob at *
  by_cases he:l.length=vs.length
  ·have hne:((l.length:Int) != (vs.length:Int))=false:=by rw[he];simp
   have HEQ:Hid (l.length=vs.length):=he
   clear he
   go_enter Tryz.func112,Tryz.ntmps112
   go_wp2_with (first|(go_at_call 148;refine(HP.out _ (by exact(by go_grown))).mono ?_;rintro e w1 ⟨nv,rfl,hown,hb1⟩;obtain⟨ao4,cap4,rfl⟩:=zac hown;have hB1:Below w.heap.size w w1:=(zae (by go_grown) hb1 (uaa _));have hz1:=hB1.size)|(go_at_call 146;refine(zke _ _ _ vs (by exact(Box.new _ _ _).rules.1 0) (by exact zaa hown (by go_grown))).mono ?_;rintro e w2 ⟨rfl,hww⟩;obtain rfl:=hww.symm)|(go_at_call 155;refine(HO.out _ (by exact(hB1.alloc hz1 _))).mono ?_;rintro e w3 ⟨rfl,hb3⟩))
   go_ret
   exact⟨by rw[HE.out];simp[HEQ.out],zae (hB1.alloc hz1 _) hb3 (uaa _)⟩
  ·have hne:((l.length:Int) != (vs.length:Int))=true:=by rw[bne_iff_ne];omega
   go_enter Tryz.func112,Tryz.ntmps112
   go_wp2_with (first|(go_at_call 148;refine(HP.out _ (by exact(by go_grown))).mono ?_;rintro e w1 ⟨nv,rfl,hown,hb1⟩;obtain⟨ao4,cap4,rfl⟩:=zac hown;have hB1:Below w.heap.size w w1:=(zae (by go_grown) hb1 (uaa _));have hz1:=hB1.size)|(go_at_call 146;refine(zke _ _ _ vs (by exact(Box.new _ _ _).rules.1 0) (by exact zaa hown (by go_grown))).mono ?_;rintro e w2 ⟨rfl,hww⟩;obtain rfl:=hww.symm))
   go_ret
   exact⟨by rw[HE.out];simp[he],hB1.alloc hz1 _⟩
def zge(cs:List zab):Option (List (Option (List Int)))->Bool
 |none=>true
 |some l=>l.length == cs.length && (cs.zip l).all fun x=>zd5 x.1 x.2
theorem zu9(cs:List zab)(l:List (Option (List Int)))(h:l.length=cs.length)(k:Nat)(hk:k < cs.length):((cs.drop k).zip (l.drop k)).all (fun x=>zd5 x.1 x.2)=(zd5 cs[k] (l[k]'(by omega)) && ((cs.drop (k+1)).zip (l.drop (k+1))).all fun x=>zd5 x.1 x.2):=by
 rw[uah hk,uah (l:=l) (i:=k) (by omega),List.zip_cons_cons,List.all_cons]
theorem zqk(w:World)(cv ov:Value)(cs:List zab)(os:Option (List (Option (List Int))))(hc:CIn lo 171 w cv cs)(hok:∀ c∈cs,zpb c)(hl:cs.length<=1000)(ho:zhq w ov os)(hol:(os.getD []).length<=2000000)(hoi:∀ o∈os.getD [],(o.getD []).length<=2000000) :
  Calls Tryz.prog 71 #[cv,ov] w fun e w'=>e=.returned (.bool (zge cs os))/\Below w.heap.size w w':=by
 obtain⟨aoc,capc,rfl⟩:=hc.shape
 cases os with
 |none =>
  have h0:ov=.slice none 0 0:=ho
  subst h0
  have hnil:∀ W:World,(binOp .eql 26 (.slice none 0 0) (.slice none 0 0)).run Tryz.prog W=.ok (.bool true) W:=fun W=>by
   have:=run_equal_slice_nil W 26 24 none 0 0 Tryz.underlying26
   simp[binOp,this]
  go_enter Tryz.func71,Tryz.ntmps71
  go_wp2
  go_ret
  exact⟨rfl,(by go_grown)⟩
 |some l =>
  simp only[uas] at hol hoi
  have HO:Hid (zhq w ov (some l)):=ho
  have HCI:Hid (CIn lo 171 w (.slice aoc cs.length capc) cs):=hc
  have HE:Hid (zge cs (some l)=(l.length == cs.length && (cs.zip l).all fun x=>zd5 x.1 x.2)):=rfl
  have HOI:Hid (∀ o∈l,(o.getD []).length<=2000000):=hoi
  have HOK:Hid (∀ c∈cs,zpb c):=hok
  obtain⟨g,f,capo,rfl,hg,_⟩:=ho
  have hnil:∀ W:World,(binOp .eql 26 (.slice (some ⟨g,f,none⟩) l.length capo) (.slice none 0 0)).run Tryz.prog W=.ok (.bool false) W:=fun W=>by
   have:=run_equal_slice_nil W 26 24 (some ⟨g,f,none⟩) l.length capo Tryz.underlying26
   simp[binOp,this]
  clear hc hoi hok
  by_cases hll:l.length=cs.length
  ·have hne:((l.length:Int) != (cs.length:Int))=false:=by rw[hll];simp
   have HLL:Hid (l.length=cs.length):=hll
   have hle:l.length<=1000:=by omega
   have H0:Hid (zge cs (some l)=((cs.drop 0).zip (l.drop 0)).all fun x=>zd5 x.1 x.2):=by rw[Hid,HE.out];simp[hll]
   clear hll HE
   go_enter Tryz.func71,Tryz.ntmps71
   go_wp2
   clear hne hnil
   go_loopw [16] (fun v16 wr=>∃ k:Nat,k<=cs.length/\v16=.int .i64 k/\Hid (zge cs (some l)=((cs.drop k).zip (l.drop k)).all fun x=>zd5 x.1 x.2)/\Below w.heap.size w wr) (fun i _=>cs.length - (intOf i).toNat)
   case atStart=>exact⟨0,uaj _,rfl,H0,(by go_grown)⟩
   case round =>
    clear H0
    obtain⟨k,hk,rfl,HE,hbk⟩:=hrel
    have hszk:=hbk.size
    by_cases hlt:k < cs.length
    ·have hkl:k < l.length:=by rw[HLL.out];exact hlt
     obtain⟨g0,ao2,cap2,ao3,cap3,rfl,hg0,hd0,hd1,hd2,hd3,hsk,hlk⟩:=HCI.out.cell k hlt
     obtain⟨hk1,hk2⟩:=HOK.out cs[k] (uad hlt)
     obtain⟨_,_,u,hao,_,hu,hui⟩:=HO.out.cell k hkl
     simp only[uab,Addr.mk.injEq,and_true] at hao
     obtain⟨rfl,rfl⟩:=hao
     have hlo:=HOI.out l[k] (uad hkl)
     have HOO:Hid (∀ W,Below w.heap.size w W->Calls Tryz.prog 112 #[.agg #[.bool cs[k].head.neg,.string cs[k].head.pred,.slice ao2 cs[k].head.args.length cap2,.slice ao3 cs[k].body.length cap3],u] W fun e w'=>e=.returned (.bool (zd5 cs[k] l[k]))/\Below W.heap.size W w'):=fun W hW=>zwe W cs[k] _ _ u l[k] (hsk.below hW) (hlk.below hW) hk1 hk2 (hui.below hW) hlo
     have HST:Hid (((cs.drop k).zip (l.drop k)).all (fun x=>zd5 x.1 x.2)=(zd5 cs[k] l[k] && ((cs.drop (k+1)).zip (l.drop (k+1))).all fun x=>zd5 x.1 x.2)):=zu9 cs l HLL.out k hlt
     have e0:=(hbk.cell (p:=⟨g0,k * 4,none⟩) hg0).trans hd0
     have e1:=(hbk.cell (p:=⟨g0,k * 4+1,none⟩) hg0).trans hd1
     have e2:=(hbk.cell (p:=⟨g0,k * 4+2,none⟩) hg0).trans hd2
     have e3:=(hbk.cell (p:=⟨g0,k * 4+3,none⟩) hg0).trans hd3
     have eu:=(hbk.cell (p:=⟨g,f+k,none⟩) hg).trans hu
     have hgr0:g0 < wr.heap.size:=by omega
     have hgr:g < wr.heap.size:=by omega
     clear hd0 hd1 hd2 hd3 hu hui hsk hlk hk1 hk2 hlo
     generalize cs[k]=c at *
     generalize zd5 c l[k]=b at *
     have hbn:=Box.new wr #[.bool c.head.neg,.string c.head.pred,.slice ao2 c.head.args.length cap2,.slice ao3 c.body.length cap3] 171
     cases b with
     |true =>
      go_wp2
      go_region_held3 (fun w'=>w'.cell? ⟨wr.heap.size,0,none⟩=some (.bool c.head.neg)/\w'.cell? ⟨wr.heap.size,1,none⟩=some (.string c.head.pred)/\w'.cell? ⟨wr.heap.size,2,none⟩=some (.slice ao2 c.head.args.length cap2)/\w'.cell? ⟨wr.heap.size,3,none⟩=some (.slice ao3 c.body.length cap3)/\w'.cell? ⟨g,f+k,none⟩=some u) (first|go_keep|(go_split_ands;refine⟨?_,?_,?_,?_,?_⟩ <;> go_keep)) (first|(go_at_call 112;refine(HOO.out _ (by exact(zae hbk (by go_grown) (uaa _)))).mono ?_;rintro e w4 ⟨rfl,hb4⟩;have hB4:Below wr.heap.size wr w4:=(zae (by go_grown) hb4 (uaa _));have hn4:=hbn.below (by first|exact hb4|exact(zau (Below.refl _ _) _).trans hb4);obtain⟨hn4c,hn4f⟩:=hn4.rules;have eu4:=(hB4.cell (p:=⟨g,f+k,none⟩) hgr).trans eu))
      go_wp2
      go_roundw
      case rel=>exact⟨k+1,by omega,by go_num,by rw[Hid,HE.out,HST.out];simp,zae hbk hB4 (uaa _)⟩
      case measure=>simp[intOf];omega
     |false =>
      go_wp2
      go_region_held3 (fun w'=>w'.cell? ⟨wr.heap.size,0,none⟩=some (.bool c.head.neg)/\w'.cell? ⟨wr.heap.size,1,none⟩=some (.string c.head.pred)/\w'.cell? ⟨wr.heap.size,2,none⟩=some (.slice ao2 c.head.args.length cap2)/\w'.cell? ⟨wr.heap.size,3,none⟩=some (.slice ao3 c.body.length cap3)/\w'.cell? ⟨g,f+k,none⟩=some u) (first|go_keep|(go_split_ands;refine⟨?_,?_,?_,?_,?_⟩ <;> go_keep)) (first|(go_at_call 112;refine(HOO.out _ (by exact(zae hbk (by go_grown) (uaa _)))).mono ?_;rintro e w4 ⟨rfl,hb4⟩;have hB4:Below wr.heap.size wr w4:=(zae (by go_grown) hb4 (uaa _));have hn4:=hbn.below (by first|exact hb4|exact(zau (Below.refl _ _) _).trans hb4);obtain⟨hn4c,hn4f⟩:=hn4.rules;have eu4:=(hB4.cell (p:=⟨g,f+k,none⟩) hgr).trans eu))
      go_wp2
      go_ret
      exact⟨by rw[HE.out,HST.out];rfl,zae hbk hB4 (uaa _)⟩
    ·have HZ:Hid (zge cs (some l)=true):=by rw[Hid,HE.out,uaq (by omega)];rfl
     go_wp2
     go_ret
     exact⟨by rw[HZ.out];rfl,hbk⟩
  ·have hne:((l.length:Int) != (cs.length:Int))=true:=by rw[bne_iff_ne];omega
   have H0:Hid (zge cs (some l)=false):=by rw[Hid,HE.out];simp[hll]
   go_enter Tryz.func71,Tryz.ntmps71
   go_wp2
   go_ret
   exact⟨by rw[H0.out];rfl,(by go_grown)⟩
end Go.Proofs.YteampbddflhngaaGreat
