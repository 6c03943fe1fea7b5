import Derived.Test.YteampbddflhngabGreatJ29
import Derived.Test.YteampbddflhngabGreatJ05
import Derived.Test.YteampbddflhngabGreatJ15

namespace Go.Proofs.YteampbddflhngabGreat
set_option maxRecDepth 100000
set_option maxHeartbeats 4000000
open Go.RowKit
variable {lo:Nat}
theorem Tryz.infoTerm:(Tryz.prog.info? 208).map (fun i=>(i.zero,i.size,i.bytes))=some (some (.agg #[.bool false,.int .i64 0,.int .i64 0]),3,24):=by kernel_rfl
def zcx(p:Nat)(ts:List zbh)(t:zbh):zbh:=if t.var then{ t with level:=(zbj ⟨p,ts⟩ t.num).getD 0 } else t
def za2(ns vs:List ByteArray)(pl:List Nat)(l:zbv):List zbh:=l.args.map (zfi ns vs pl)
def zdh(t:List zav)(ns vs:List ByteArray)(pl:List Nat)(l:zbv):zai:=⟨zcf t l.pred,(za2 ns vs pl l).map (zcx 0 (za2 ns vs pl l))⟩
def z2h(t:zbh):Bool × Nat:=(t.var,t.num)
theorem z0s{ts ts':List zbh}(h:ts.map z2h=ts'.map z2h)(p p' q:Nat):zc8 ⟨p,ts⟩ q=zc8 ⟨p',ts'⟩ q:=by
 have e:∀ l:List zbh,(l.any fun t=>t.var && t.num == q)=(l.map z2h).any fun x=>x.1 && x.2 == q:=fun l=>by
  rw[List.any_map];rfl
 simp only[zc8]
 rw[e,e,h]
theorem zu4{ts ts':List zbh}(h:ts.map z2h=ts'.map z2h)(p p' q:Nat):zbj ⟨p,ts⟩ q=zbj ⟨p',ts'⟩ q:=by
 unfold zbj
 have:zc8 ⟨p,ts⟩=zc8 ⟨p',ts'⟩:=funext (z0s h p p')
 rw[this]
theorem ztx(p:Nat)(ts:List zbh)(t:zbh):z2h (zcx p ts t)=z2h t:=by
 unfold zcx;split <;> rfl
def zf1(ts:List zbh)(k:Nat):List zbh:=(ts.take k).map (zcx 0 ts)++ts.drop k
theorem zpc(ts:List zbh)(k:Nat):(zf1 ts k).map z2h=ts.map z2h:=by
 unfold zf1
 rw[List.map_append,List.map_map,List.map_drop,show(z2h ∘ zcx 0 ts)=z2h from funext (ztx 0 ts),List.map_take,List.take_append_drop]
theorem z0q(ts:List zbh)(k:Nat):(zf1 ts k).length=ts.length:=by
 have:=congrArg List.length (zpc ts k)
 simpa using this
theorem z3u(ts:List zbh)(k:Nat)(hk:k < ts.length):(zf1 ts k)[k]?=some ts[k]:=by
 unfold zf1
 rw[List.getElem?_append_right (by simp;omega),List.length_map,List.length_take,Nat.min_eq_left (by omega),Nat.sub_self,List.getElem?_drop]
 simp[hk]
theorem z0r(ts:List zbh)(k:Nat)(hk:k < ts.length):(zf1 ts k).set k (zcx 0 ts ts[k])=zf1 ts (k+1):=by
 unfold zf1
 rw[List.set_append_right _ _ (by simp;omega),List.length_map,List.length_take,Nat.min_eq_left (by omega),Nat.sub_self,List.drop_eq_getElem_cons hk,List.set_cons_zero,List.take_succ_eq_append_getElem hk,List.map_append,List.append_assoc]
 rfl
theorem zx7(ts:List zbh):zf1 ts 0=ts:=by simp[zf1]
theorem zsd(ts:List zbh):zf1 ts ts.length=ts.map (zcx 0 ts):=by simp[zf1]
theorem zsz{l:zai}{q:Nat}(hq:q<=1000000):(zbj l q).getD 0<=1000000:=by
 unfold zbj
 split
 ·have:=List.countP_le_length (p:=zc8 l) (l:=List.range q)
  simp at this ⊢
  omega
 ·simp
theorem zys(ns:List ByteArray)(x:ByteArray):(ze6 ns x).getD 0<=ns.length:=by
 unfold ze6
 split
 ·simp;omega
 ·simp
theorem ztj(vs:List ByteArray)(pl:List Nat)(n:ByteArray)(h:∀ x∈pl,x<=1000):zfj vs pl n<=1000:=by
 unfold zfj
 split
 ·omega
 ·split
  ·omega
  ·rename_i k _ _
   by_cases hk:k < pl.length
   ·rw[List.getD_eq_getElem?_getD,List.getElem?_eq_getElem hk];exact h _ (List.getElem_mem hk)
   ·rw[List.getD_eq_getElem?_getD,List.getElem?_eq_none (by omega)];simp
theorem zvz(ns vs:List ByteArray)(pl:List Nat)(x:ByteArray)(h:∀ y∈pl,y<=1000)(hn:ns.length<=1000):(zfi ns vs pl x).num<=1000/\(zfi ns vs pl x).level=0:=by
 unfold zfi
 split
 ·exact⟨ztj vs pl x h,rfl⟩
 ·have:=zys ns x
  exact⟨by simp only;omega,rfl⟩
theorem zq7{α:Type}{l:List α}{k:Nat}{x:α}(h:l[k]?=some x):l.set k x=l:=by
 obtain⟨hk,e⟩:=List.getElem?_eq_some_iff.1 h
 rw[← e];exact List.set_getElem_self hk
theorem z0l(ts:List zbh)(k:Nat)(t:zbh)(lv:Nat)(h:ts[k]?=some t):(flat3 (ts.map zdc)).set (k * 3+2) (.int .i64 (lv:Nat))=flat3 ((ts.set k { t with level:=lv }).map zdc):=by
 obtain⟨hk,e⟩:=List.getElem?_eq_some_iff.1 h
 have hk2:k < (ts.map zdc).length:=by simpa using hk
 have q:=zna (ts.map zdc) k hk2 (.bool t.var) (.int .i64 (t.num:Nat)) (.int .i64 (lv:Nat))
 obtain⟨a0,a1,_⟩:=zmh (ts.map zdc) k hk2
 simp only[List.getElem_map,e,zdc] at a0 a1
 rw[zq7 a0,zq7 a1] at q
 rw[q,List.map_set]
 rfl
def zkr(ts:List zbh)(k:Nat):List zbh:=ts.take k++List.replicate (ts.length - k) ⟨false,0,0⟩
theorem z02(ts:List zbh)(k:Nat)(hk:k<=ts.length):(zkr ts k).length=ts.length:=by simp[zkr];omega
theorem z03(ts:List zbh)(k:Nat)(hk:k < ts.length):(zkr ts k).set k ts[k]=zkr ts (k+1):=by
 unfold zkr
 obtain⟨m,hm⟩:∃ m,ts.length - k=m+1:=⟨ts.length - k - 1,by omega⟩
 rw[List.set_append_right _ _ (by simp;omega),List.length_take,Nat.min_eq_left (by omega),Nat.sub_self,hm,List.replicate_succ,List.set_cons_zero,show ts.length - (k+1)=m from by omega,List.take_succ_eq_append_getElem hk,List.append_assoc]
 rfl
theorem z01(ts:List zbh):zkr ts ts.length=ts:=by simp[zkr]
theorem znc(ts:List zbh)(k:Nat)(h:∀ x∈ts,x.num<=1000/\x.level=0):∀ x∈zf1 ts k,x.num<=1000000/\x.level<=1000000:=by
 intro x hx
 unfold zf1 at hx
 rw[List.mem_append] at hx
 rcases hx with hx|hx
 ·rw[List.mem_map] at hx
  obtain⟨y,hy,rfl⟩:=hx
  have:=h y (List.mem_of_mem_take hy)
  unfold zcx
  split
  ·exact⟨by simp only;omega,zsz (by omega)⟩
  ·omega
 ·have:=h x (List.mem_of_mem_drop hx)
  omega
theorem zll{w:World}{base:Nat}{e:TypeId}{g n cap m:Nat}{ys:List (Value × Value × Value)}(h:w.ownsRow base e 3 (.slice (some ⟨g,0,none⟩) n cap) m (flat3 ys))(k:Nat)(hk:k < ys.length) :
  ∃ a b c,g < w.heap.size/\w.cell? ⟨g,k * 3,none⟩=some a/\w.cell? ⟨g,k * 3+1,none⟩=some b/\w.cell? ⟨g,k * 3+2,none⟩=some c:=⟨_,_,_,znr h k hk⟩
theorem z08{lo2 lo3:Nat}(w:World)(mb tb o cb sb:Nat)(t:List zav)(ns vs:List ByteArray)(pl:List Nat)(l:zbv)(va:Value)(h:zia lo w mb tb o cb t ns)(hs:zfm lo2 w sb vs pl)(hl:vs.length<=1000)(hpl:∀ y∈pl,y<=1000)(ha:SIn lo3 w va l.args)(hal:l.args.length<=1000) :
  Calls Tryz.prog 101 #[.pointer (some ⟨mb,0,none⟩),.agg #[.bool l.neg,.string l.pred,va],.pointer (some ⟨sb,0,none⟩)] w fun e w'=>∃ tv,e=.returned (.agg #[.int .i64 (zcf t l.pred:Nat),tv])/\zan w.heap.size w' tv (zdh t ns vs pl l).terms/\Below w.heap.size w w':=by
 obtain⟨i0,hi,hz0,hzs,hzb⟩:=info_parts Tryz.infoTerm
 obtain⟨ao,cap,rfl⟩:=ha.shape
 have hmk:=fun W:World=>run_make (P:=Tryz.prog) (w:=W) 145 208 i0 _ Tryz.underlying145 hi hz0 .i64 .i64 (l.args.length:Int) (l.args.length:Int) (by omega) (Int.le_refl _) (by rw[hzb];omega) (by omega)
 rw[hzs] at hmk
 have HF:Hid (∀ W,Below w.heap.size w W->Calls Tryz.prog 50 #[.pointer (some ⟨tb,o,none⟩),.string l.pred] W fun e w'=>e=.returned (.tuple #[.int .i64 (zcf t l.pred:Nat),.bool (zbu t l.pred).isSome])/\w'=W):=fun W hW=>zr9 lo W tb o t l.pred (h.2.1.below hW) h.2.2.2.1
 have HT:Hid (∀ W x,Below w.heap.size w W->Calls Tryz.prog 119 #[.pointer (some ⟨mb,0,none⟩),.string x,.pointer (some ⟨sb,0,none⟩)] W fun e w'=>e=.returned (zq8 (zfi ns vs pl x))/\Below W.heap.size W w'):=fun W x hW=>z5d W mb tb o cb sb t ns vs pl x (h.below hW) (hs.below hW) hl
 have HSM:Hid (∀ x∈za2 ns vs pl l,x.num<=1000/\x.level=0):=fun x hx=>by
  simp only[za2,List.mem_map] at hx
  obtain⟨y,_,rfl⟩:=hx
  exact zvz ns vs pl y hpl h.2.2.2.2
 have HE:Hid ((zdh t ns vs pl l).terms=(za2 ns vs pl l).map (zcx 0 (za2 ns vs pl l))):=rfl
 have hlen:(za2 ns vs pl l).length=l.args.length:=by simp[za2]
 have HAT:Hid (∀ k (hk:k < l.args.length) (hk2:k < (za2 ns vs pl l).length),zfi ns vs pl l.args[k]=(za2 ns vs pl l)[k]):=fun k hk hk2=>by simp[za2]
 obtain⟨hmc,hmf⟩:=h.1.rules
 have hml:=h.1.lt
 have hm0:w.cell? ⟨mb,0,none⟩=some (.pointer (some ⟨tb,o,none⟩)):=by rw[hmc];rfl
 clear h hs hmc
 generalize za2 ns vs pl l=ts at *
 generalize zcf t l.pred=fn at *
 generalize (zbu t l.pred).isSome=fb at *
 go_enter Tryz.func101,Tryz.ntmps101
 go_upto_region 1 with fail
 go_quiet ((go_at_call 50;exact Calls.quiet_of_same (HF.out _ (by exact(by repeat'(first|with_reducible(first|exact zR _ _|assumption|refine zN ?_ _|refine zA ?_ ?_ _|refine zD ?_|refine zS ?_ ?_ _)|go_size))))))
 go_upto_region 4 with fail
 have hrow:=zaa (z1o ((((w.alloc (.cells #[.bool l.neg,.string l.pred,.slice ao l.args.length cap] 45)).alloc (.cells #[.int .i64 0,.slice none 0 0] 147)).drewN nq)) l.args.length 208 (.bool false) (.int .i64 0) (.int .i64 0) (by unfold maxLen;omega)) ((Below.refl _ _).alloc (Nat.le_refl _) (.cells #[.int .i64 (fn:Nat),.slice (some ⟨w.heap.size+1+1,0,none⟩) l.args.length l.args.length] 147))
 have hb9:=Box.new ((((w.alloc (.cells #[.bool l.neg,.string l.pred,.slice ao l.args.length cap] 45)).alloc (.cells #[.int .i64 0,.slice none 0 0] 147)).drewN nq).alloc (.cells (madeCells #[.bool false,.int .i64 0,.int .i64 0] (l.args.length * 3)) 208)) #[.int .i64 (fn:Nat),.slice (some ⟨w.heap.size+1+1,0,none⟩) l.args.length l.args.length] 147
 have hb6:=(((Box.new (w.alloc (.cells #[.bool l.neg,.string l.pred,.slice ao l.args.length cap] 45)) #[.int .i64 0,.slice none 0 0] 147).below (zax (Below.refl _ _) nq)).below ((Below.refl _ _).alloc (Nat.le_refl _) (.cells (madeCells #[.bool false,.int .i64 0,.int .i64 0] (l.args.length * 3)) 208))).below ((Below.refl _ _).alloc (Nat.le_refl _) (.cells #[.int .i64 (fn:Nat),.slice (some ⟨w.heap.size+1+1,0,none⟩) l.args.length l.args.length] 147))
 have hB3:Below w.heap.size w (((((w.alloc (.cells #[.bool l.neg,.string l.pred,.slice ao l.args.length cap] 45)).alloc (.cells #[.int .i64 0,.slice none 0 0] 147)).drewN nq).alloc (.cells (madeCells #[.bool false,.int .i64 0,.int .i64 0] (l.args.length * 3)) 208)).alloc (.cells #[.int .i64 (fn:Nat),.slice (some ⟨w.heap.size+1+1,0,none⟩) l.args.length l.args.length] 147)):=(by repeat'(first|with_reducible(first|exact zR _ _|assumption|refine zN ?_ _|refine zA ?_ ?_ _|refine zD ?_|refine zS ?_ ?_ _)|go_size))
 have hsz2:(((w.alloc (.cells #[.bool l.neg,.string l.pred,.slice ao l.args.length cap] 45)).alloc (.cells #[.int .i64 0,.slice none 0 0] 147)).drewN nq).heap.size=w.heap.size+1+1:=by simp
 simp only[World.size_alloc,hsz2] at hrow hb9 hb6
 clear hsz2
 generalize ((((w.alloc (.cells #[.bool l.neg,.string l.pred,.slice ao l.args.length cap] 45)).alloc (.cells #[.int .i64 0,.slice none 0 0] 147)).drewN nq).alloc (.cells (madeCells #[.bool false,.int .i64 0,.int .i64 0] (l.args.length * 3)) 208)).alloc (.cells #[.int .i64 (fn:Nat),.slice (some ⟨w.heap.size+1+1,0,none⟩) l.args.length l.args.length] 147)=w3 at *
 have hz3:=hB3.size
 have H0:Hid (flat3 (List.replicate l.args.length (Value.bool false,Value.int .i64 0,Value.int .i64 0))=flat3 ((zkr ts 0).map zdc)):=by
  rw[Hid,zkr,List.take_zero,List.nil_append,Nat.sub_zero,hlen,List.map_replicate];rfl
 rw[H0.out] at hrow
 clear H0 hmk hm0 hmf HF
 have hrow:=zbb hrow (show w.heap.size<=w.heap.size+1+1 by omega)
 go_loopw [35] (fun v35 wr=>∃ k:Nat,k<=l.args.length/\v35=.int .i64 k/\Box wr (w.heap.size+1+1+1) #[.int .i64 (fn:Nat),.slice (some ⟨w.heap.size+1+1,0,none⟩) l.args.length l.args.length] 147/\Box wr (w.heap.size+1) #[.int .i64 0,.slice none 0 0] 147/\wr.ownsRow w.heap.size 208 3 (.slice (some ⟨w.heap.size+1+1,0,none⟩) l.args.length l.args.length) l.args.length (flat3 ((zkr ts k).map zdc))/\Below w.heap.size w wr) (fun i _=>l.args.length - (intOf i).toNat)
 case atStart=>exact⟨0,Nat.zero_le _,rfl,hb9,hb6,hrow,hB3⟩
 case round =>
  clear hrow hb9 hb6
  obtain⟨k,hk,rfl,hb9,hb6,hrow,hbk⟩:=hrel
  have hszk:=hbk.size
  by_cases hlt:k < l.args.length
  ·obtain⟨g,rfl,hg,hcell⟩:=ha.cell k hlt
   have hx0:=(hbk.cell (p:=⟨g,k,none⟩) hg).trans hcell
   have hgr:g < wr.heap.size:=by omega
   have HSET:Hid ((zkr ts k).set k ts[k]=zkr ts (k+1)):=z03 ts k (by omega)
   have HTX:Hid (zfi ns vs pl l.args[k]=ts[k]):=HAT.out k hlt (by omega)
   have hll:=z02 ts k (by omega)
   obtain⟨e0,e1,e2,hg3,hq0,hq1,hq2⟩:=zll hrow k (by simp;omega)
   have hfz:=zby hrow
   obtain⟨h9c,h9f⟩:=hb9.rules
   have h9l:=hb9.lt
   have h9c1:wr.cell? ⟨w.heap.size+1+1+1,1,none⟩=some (.slice (some ⟨w.heap.size+1+1,0,none⟩) l.args.length l.args.length):=by rw[h9c];rfl
   clear hcell
   have HT1:Hid (∀ W,Below wr.heap.size wr W->Calls Tryz.prog 119 #[.pointer (some ⟨mb,0,none⟩),.string l.args[k],.pointer (some ⟨sb,0,none⟩)] W fun e w'=>e=.returned (.agg #[.bool ts[k].var,.int .i64 (ts[k].num:Nat),.int .i64 (ts[k].level:Nat)])/\Below W.heap.size W w'):=fun W hW=>by
    have q:=HT.out W l.args[k] (zae hbk hW (Nat.le_refl _))
    rw[HTX.out] at q
    exact q
   generalize ts[k]=tk at *
   generalize l.args[k]=x at *
   generalize (zkr ts k)=lk at *
   go_wp2
   go_region_held3 (fun w'=>w'.cell? ⟨w.heap.size+1+1+1,1,none⟩=some (.slice (some ⟨w.heap.size+1+1,0,none⟩) l.args.length l.args.length)) (first|go_keep|(go_simp;done)) (first|(go_at_call 119;refine(HT1.out _ (by exact(by repeat'(first|with_reducible(first|exact zR _ _|assumption|refine zN ?_ _|refine zA ?_ ?_ _|refine zD ?_|refine zS ?_ ?_ _)|go_size)))).mono ?_;rintro e w4 ⟨rfl,hb4⟩;have hB4:Below wr.heap.size wr w4:=(zae (by repeat'(first|with_reducible(first|exact zR _ _|assumption|refine zN ?_ _|refine zA ?_ ?_ _|refine zD ?_|refine zS ?_ ?_ _)|go_size)) hb4 (Nat.le_refl _));have h94:=hb9.below hB4;have h64:=hb6.below hB4;have hr4:=zaa hrow hB4;obtain⟨h94c,h94f⟩:=h94.rules;have h94l:=h94.lt;obtain⟨f0,f1,f2,hg4,hp0,hp1,hp2⟩:=zll hr4 k (by simp;omega);have hfz4:=zby hr4;have hz4:=hB4.size))
   have hset3:=z4o hr4 k (by simp;omega) (.bool tk.var) (.int .i64 (tk.num:Nat)) (.int .i64 (tk.level:Nat))
   have HM:(lk.map zdc).set k (.bool tk.var,.int .i64 (tk.num:Nat),.int .i64 (tk.level:Nat))=(zkr ts (k+1)).map zdc:=by rw[← HSET.out,List.map_set];rfl
   rw[HM] at hset3
   have h95:=((h94.set_ne (show w.heap.size+1+1+1≠w.heap.size+1+1 by omega) (k * 3) (.bool tk.var)).set_ne (show w.heap.size+1+1+1≠w.heap.size+1+1 by omega) (k * 3+1) (.int .i64 (tk.num:Nat))).set_ne (show w.heap.size+1+1+1≠w.heap.size+1+1 by omega) (k * 3+2) (.int .i64 (tk.level:Nat))
   have h65:=((h64.set_ne (show w.heap.size+1≠w.heap.size+1+1 by omega) (k * 3) (.bool tk.var)).set_ne (show w.heap.size+1≠w.heap.size+1+1 by omega) (k * 3+1) (.int .i64 (tk.num:Nat))).set_ne (show w.heap.size+1≠w.heap.size+1+1 by omega) (k * 3+2) (.int .i64 (tk.level:Nat))
   have hB5:Below w.heap.size w (((w4.setCell ⟨w.heap.size+1+1,k * 3,none⟩ (.bool tk.var)).setCell ⟨w.heap.size+1+1,k * 3+1,none⟩ (.int .i64 (tk.num:Nat))).setCell ⟨w.heap.size+1+1,k * 3+2,none⟩ (.int .i64 (tk.level:Nat))):=(((zae hbk hB4 (Nat.le_refl _)).setCell (by simp;omega) _).setCell (by simp;omega) _).setCell (by simp;omega) _
   generalize ((w4.setCell ⟨w.heap.size+1+1,k * 3,none⟩ (.bool tk.var)).setCell ⟨w.heap.size+1+1,k * 3+1,none⟩ (.int .i64 (tk.num:Nat))).setCell ⟨w.heap.size+1+1,k * 3+2,none⟩ (.int .i64 (tk.level:Nat))=w5 at *
   go_wp2
   go_roundw
   case rel=>exact⟨k+1,by omega,by go_num,h95,h65,hset3,hB5⟩
   case measure=>simp[intOf];omega
  ·obtain rfl:k=l.args.length:=by omega
   rw[← hlen,z01] at hrow
   rw[← hlen] at hb9
   clear hlt hk
   obtain⟨h9c,h9f⟩:=hb9.rules
   have h9l:=hb9.lt
   go_wp2
   clear h9c h9f h9l
   rw[← hlen] at hal ⊢
   clear hB3 hz3 HT HAT hlen
   go_loopw [52] (fun v52 wr=>∃ k:Nat,k<=ts.length/\v52=.int .i64 k/\Box wr (w.heap.size+1+1+1) #[.int .i64 (fn:Nat),.slice (some ⟨w.heap.size+1+1,0,none⟩) ts.length ts.length] 147/\Box wr (w.heap.size+1) #[.int .i64 0,.slice none 0 0] 147/\wr.ownsRow w.heap.size 208 3 (.slice (some ⟨w.heap.size+1+1,0,none⟩) ts.length ts.length) ts.length (flat3 ((zf1 ts k).map zdc))/\Below w.heap.size w wr) (fun i _=>ts.length - (intOf i).toNat)
   case atStart=>exact⟨0,Nat.zero_le _,rfl,hb9,hb6,by rw[zx7];exact hrow,hbk⟩
   case round =>
    clear hrow hb9 hb6 hbk hszk
    obtain⟨k,hk,rfl,hb9,hb6,hrow,hbk⟩:=hrel
    have hszk:=hbk.size
    by_cases hlt:k < ts.length
    ·have hhl:=z0q ts k
     have HAT2:Hid ((zf1 ts k)[k]?=some ts[k]):=z3u ts k hlt
     have HSET:Hid ((zf1 ts k).set k (zcx 0 ts ts[k])=zf1 ts (k+1)):=z0r ts k hlt
     have HLV:Hid (zbj ⟨fn,zf1 ts k⟩ ts[k].num=zbj ⟨0,ts⟩ ts[k].num):=zu4 (zpc ts k) _ _ _
     have HLM:Hid (zcx 0 ts ts[k]=if ts[k].var then{ ts[k] with level:=(zbj ⟨0,ts⟩ ts[k].num).getD 0 } else ts[k]):=rfl
     have HSM2:=znc ts k HSM.out
     have hnum:=(HSM.out ts[k] (List.getElem_mem hlt)).1
     obtain⟨hg3,hq0,hq1,hq2⟩:=znr hrow k (by simp;omega)
     have hkk:k < (zf1 ts k).length:=by omega
     have hee:(zf1 ts k)[k]=ts[k]:=by have q:=HAT2.out;rw[List.getElem?_eq_getElem hkk] at q;simpa using q
     simp only[List.getElem_map,hee,zdc] at hq0 hq1 hq2
     have hfz:=zby hrow
     obtain⟨h9c,h9f⟩:=hb9.rules
     have h9l:=hb9.lt
     have HTI:Hid (zan w.heap.size wr (.slice (some ⟨w.heap.size+1+1,0,none⟩) ts.length ts.length) (zf1 ts k)):=⟨by rw[hhl];exact hrow,by omega,HSM2⟩
     have HLL:Hid (∀ W,Below wr.heap.size wr W->Calls Tryz.prog 120 #[.agg #[.int .i64 (fn:Nat),.slice (some ⟨w.heap.size+1+1,0,none⟩) ts.length ts.length],.int .i64 (ts[k].num:Nat)] W fun e w'=>e=.returned (.tuple #[.int .i64 (((zbj ⟨0,ts⟩ ts[k].num).getD 0:Nat):Int),.bool (zbj ⟨0,ts⟩ ts[k].num).isSome])/\Below W.heap.size W w'):=fun W hW=>by
      have q:=zs3 W _ fn ts[k].num (zf1 ts k) (HTI.out.below hW) (by omega)
      rw[HLV.out] at q
      exact q
     clear hkk hee HLV HSM2 HTI
     generalize ts[k]=tk at *
     generalize zf1 ts k=hk0 at *
     generalize (zbj ⟨0,ts⟩ tk.num).getD 0=lv at *
     generalize (zbj ⟨0,ts⟩ tk.num).isSome=lb at *
     cases hv:tk.var with
     |false =>
      rw[hv] at hq0 HLM
      simp only[Bool.false_eq_true,if_false] at HLM
      go_wp2
      have HS1:Hid (hk0=zf1 ts (k+1)):=by
       rw[Hid,← HSET.out,HLM.out]
       exact(zq7 HAT2.out).symm
      go_roundw
      case rel=>exact⟨k+1,by omega,by go_num,hb9.below (by repeat'(first|with_reducible(first|exact zR _ _|assumption|refine zN ?_ _|refine zA ?_ ?_ _|refine zD ?_|refine zS ?_ ?_ _)|go_size)),hb6.below (by repeat'(first|with_reducible(first|exact zR _ _|assumption|refine zN ?_ _|refine zA ?_ ?_ _|refine zD ?_|refine zS ?_ ?_ _)|go_size)),by rw[← HS1.out];exact zaa hrow (by repeat'(first|with_reducible(first|exact zR _ _|assumption|refine zN ?_ _|refine zA ?_ ?_ _|refine zD ?_|refine zS ?_ ?_ _)|go_size)),zae hbk (by repeat'(first|with_reducible(first|exact zR _ _|assumption|refine zN ?_ _|refine zA ?_ ?_ _|refine zD ?_|refine zS ?_ ?_ _)|go_size)) (Nat.le_refl _)⟩
      case measure=>simp[intOf];omega
     |true =>
      rw[hv] at hq0 HLM
      simp only[if_true] at HLM
      have hnl:wr.heap.size≠w.heap.size+1+1:=by omega
      go_upto_region 13 with (first|(go_at_call 120;refine(HLL.out _ (by exact(by repeat'(first|with_reducible(first|exact zR _ _|assumption|refine zN ?_ _|refine zA ?_ ?_ _|refine zD ?_|refine zS ?_ ?_ _)|go_size)))).mono ?_;rintro e w4 ⟨rfl,hb4⟩;have hB4:Below wr.heap.size wr w4:=(zae (by repeat'(first|with_reducible(first|exact zR _ _|assumption|refine zN ?_ _|refine zA ?_ ?_ _|refine zD ?_|refine zS ?_ ?_ _)|go_size)) hb4 (Nat.le_refl _));have h94:=hb9.below hB4;have h64:=hb6.below hB4;have hr4:=zaa hrow hB4;obtain⟨h94c,h94f⟩:=h94.rules;have h94l:=h94.lt;obtain⟨f0,f1,f2,hg4,hp0,hp1,hp2⟩:=zll hr4 k (by simp;omega);have hfz4:=zby hr4;have hz4:=hB4.size))
      have hset3:=zb7 hr4 (k * 3+2) (by rw[zik];simp;omega) (.int .i64 (lv:Nat))
      have h95:=h94.set_ne (show w.heap.size+1+1+1≠w.heap.size+1+1 by omega) (k * 3+2) (.int .i64 (lv:Nat))
      have h65:=h64.set_ne (show w.heap.size+1≠w.heap.size+1+1 by omega) (k * 3+2) (.int .i64 (lv:Nat))
      have hB5:Below w.heap.size w (w4.setCell ⟨w.heap.size+1+1,k * 3+2,none⟩ (.int .i64 (lv:Nat))):=((zae hbk hB4 (Nat.le_refl _)).setCell (by simp;omega) _)
      have HM:Hid ((flat3 (hk0.map zdc)).set (k * 3+2) (.int .i64 (lv:Nat))=flat3 ((zf1 ts (k+1)).map zdc)):=by
       rw[Hid,← HSET.out,HLM.out]
       exact z0l hk0 k tk lv HAT2.out
      rw[HM.out] at hset3
      clear hq0 hq1 hq2
      go_wp2
      generalize w4.setCell ⟨w.heap.size+1+1,k * 3+2,none⟩ (.int .i64 (lv:Nat))=w5 at *
      go_roundw
      case rel=>exact⟨k+1,by omega,by go_num,h95,h65,hset3,hB5⟩
      case measure=>simp[intOf];omega
    ·obtain rfl:k=ts.length:=by omega
     rw[zsd] at hrow
     obtain⟨h9c,h9f⟩:=hb9.rules
     have h9l:=hb9.lt
     obtain⟨h6c,h6f⟩:=hb6.rules
     have h6l:=hb6.lt
     have HSF:Hid (∀ x∈ts.map (zcx 0 ts),x.num<=1000000/\x.level<=1000000):=by rw[← zsd];exact znc ts _ HSM.out
     go_wp2
     (try simp only[Exit.inBlock,Exit.then])
     refine bodyPost_ret (v:=.agg #[.int .i64 (fn:Nat),.slice (some ⟨w.heap.size+1+1,0,none⟩) ts.length ts.length]) (by simp[results,Tryz.results101,go_sem,h6c]) rfl ⟨_,rfl,?_,(hbk.setCell (by simp) _).setCell (by simp) _⟩
     rw[HE.out]
     refine⟨?_,by simpa using hal,HSF.out⟩
     rw[List.length_map]
     exact zb4 hrow (((But.refl (w.heap.size+1) wr).setCell 0 _).setCell 1 _) hb6 (by decide)
def zhh(w:World)(v:Value)(o:Option (List Int)):Prop:=match o with
 |none=>v=.slice none 0 0
 |some l=>∃ g f cap,v=.slice (some ⟨g,f,none⟩) l.length cap/\g < w.heap.size/\∀ k (h:k < l.length),w.cell? ⟨g,f+k,none⟩=some (.int .i64 l[k])
theorem zhh.below{w w':World}{v:Value}{o:Option (List Int)}(h:zhh w v o)(hb:Below w.heap.size w w'):zhh w' v o:=by
 cases o with
 |none=>exact h
 |some l =>
  obtain⟨g,f,cap,h1,h2,h3⟩:=h
  exact⟨g,f,cap,h1,by have:=hb.size;omega,fun k hk=>(hb.cell (p:=⟨g,f+k,none⟩) h2).trans (h3 k hk)⟩
theorem zhh.shape{w:World}{v:Value}{o:Option (List Int)}(h:zhh w v o):∃ ao cap,v=.slice ao (o.getD []).length cap:=by
 cases o with
 |none=>exact⟨none,0,h⟩
 |some l=>obtain⟨g,f,cap,h1,_⟩:=h;exact⟨_,cap,h1⟩
theorem zhh.cell{w:World}{ao:Option Addr}{n cap:Nat}{o:Option (List Int)}(h:zhh w (.slice ao n cap) o)(k:Nat)(hk:k < (o.getD []).length):∃ g f,ao=some ⟨g,f,none⟩/\g < w.heap.size/\w.cell? ⟨g,f+k,none⟩=some (.int .i64 (o.getD [])[k]):=by
 cases o with
 |none=>simp at hk
 |some l =>
  obtain⟨g,f,cap,h1,h2,h3⟩:=h
  simp only[Value.slice.injEq] at h1
  exact⟨g,f,h1.1,h2,h3 k hk⟩
def zhi(w:World)(v:Value)(os:Option (List (Option (List Int)))):Prop:=match os with
 |none=>v=.slice none 0 0
 |some l=>∃ g f cap,v=.slice (some ⟨g,f,none⟩) l.length cap/\g < w.heap.size/\∀ k (h:k < l.length),∃ u,w.cell? ⟨g,f+k,none⟩=some u/\zhh w u l[k]
theorem zhi.below{w w':World}{v:Value}{os:Option (List (Option (List Int)))}(h:zhi w v os)(hb:Below w.heap.size w w'):zhi w' v os:=by
 cases os with
 |none=>exact h
 |some l =>
  obtain⟨g,f,cap,h1,h2,h3⟩:=h
  refine⟨g,f,cap,h1,by have:=hb.size;omega,fun k hk=>?_⟩
  obtain⟨u,h4,h5⟩:=h3 k hk
  exact⟨u,(hb.cell (p:=⟨g,f+k,none⟩) h2).trans h4,h5.below hb⟩
theorem zhi.shape{w:World}{v:Value}{os:Option (List (Option (List Int)))}(h:zhi w v os):∃ ao cap,v=.slice ao (os.getD []).length cap:=by
 cases os with
 |none=>exact⟨none,0,h⟩
 |some l=>obtain⟨g,f,cap,h1,_⟩:=h;exact⟨_,cap,h1⟩
theorem zhi.cell{w:World}{ao:Option Addr}{n cap:Nat}{os:Option (List (Option (List Int)))}(h:zhi w (.slice ao n cap) os)(k:Nat)(hk:k < (os.getD []).length):∃ g f u,ao=some ⟨g,f,none⟩/\g < w.heap.size/\w.cell? ⟨g,f+k,none⟩=some u/\zhh w u (os.getD [])[k]:=by
 cases os with
 |none=>simp at hk
 |some l =>
  obtain⟨g,f,cap,h1,h2,h3⟩:=h
  simp only[Value.slice.injEq] at h1
  obtain⟨u,h4,h5⟩:=h3 k hk
  exact⟨g,f,u,h1.1,h2,h4,h5⟩
def zbd(pl:List Nat)(x:Int × Nat):List Nat:=if 0<=x.1/\x.1 < 5 then pl.set x.1.toNat x.2 else pl
def zb5(os:List Int):List Nat:=os.zipIdx.foldl zbd [0,1,2,3,4]
theorem zq1(pl:List Nat)(x:Int × Nat):(zbd pl x).length=pl.length:=by unfold zbd;split <;> simp
theorem zj4(os:List Int):(zb5 os).length=5:=by
 have:∀(l:List (Int × Nat)) (pl:List Nat),(l.foldl zbd pl).length=pl.length:=by
  intro l
  induction l with
  |nil=>intro pl;rfl
  |cons x l ih=>intro pl;rw[List.foldl_cons,ih,zq1]
 exact this _ _
theorem zrd{os:List Int}{k:Nat}(hk:k < os.length):(os.take (k+1)).zipIdx.foldl zbd [0,1,2,3,4]=zbd ((os.take k).zipIdx.foldl zbd [0,1,2,3,4]) (os[k],k):=by
 rw[List.take_succ_eq_append_getElem hk,List.zipIdx_append,List.foldl_append]
 simp only[List.zipIdx_singleton,List.length_take,Nat.zero_add,List.foldl_cons,List.foldl_nil]
 rw[Nat.min_eq_left (by omega)]
def zez(nv:Value)(pl:List Nat):List Value:=nv::pl.map ivN
theorem zn4(nv:Value)(pl:List Nat)(k x:Nat):(zez nv pl).toArray.setIfInBounds (1+k) (.int .i64 (x:Nat))=(zez nv (pl.set k x)).toArray:=by
 rw[Nat.add_comm]
 simp[zez,List.map_set,ivN]
def zkj(k:Nat):List Nat:=(List.range 5).map fun i=>if i < k then i else 0
theorem zx2(k:Nat)(hk:k < 5):(zkj k).set k k=zkj (k+1):=by
 obtain rfl|rfl|rfl|rfl|rfl:k=0∨k=1∨k=2∨k=3∨k=4:=by omega
 all_goals rfl
theorem z15{w:World}{sb:Nat}{nv:Value}{pl:List Nat}(hl:pl.length=5)(h:Box w sb (zez nv pl).toArray 187):sb < w.heap.size/\(∀ o,w.frozen? ⟨sb,o,none⟩=false)/\∀ k,k < 5->∃ x:Nat,w.cell? ⟨sb,1+k,none⟩=some (.int .i64 (x:Nat)):=by
 obtain⟨hc,hf⟩:=h.rules
 refine⟨h.lt,hf,fun k hk=>⟨pl[k]'(by omega),?_⟩⟩
 rw[hc,Nat.add_comm]
 simp[zez,hl,hk,ivN]
def zrk(w:World)(vs:List ByteArray)(pl:List Nat)(e:Ending)(w':World):Prop:=∃ nv,e=.returned (.agg (zez nv pl).toArray)/\SIn w.heap.size w' nv vs/\Below w.heap.size w w'
theorem zvp(w:World)(c:zac)(va vb ov:Value)(o:Option (List Int))(hs:SIn lo w va c.head.args)(hb:LIn lo w vb c.body)(hl:c.head.args.length+zb9 c.body<=1000)(hl2:c.body.length<=1000)(ho:zhh w ov o)(hol:(o.getD []).length<=1000) :
  Calls Tryz.prog 100 #[.agg #[.bool c.head.neg,.string c.head.pred,va,vb],ov] w fun e w'=>zrk w (zah c) (zb5 (o.getD [])) e w':=by
 obtain⟨ao,cap,rfl⟩:=hs.shape
 obtain⟨aob,capb,rfl⟩:=hb.shape
 obtain⟨aoo,capo,rfl⟩:=ho.shape
 have HP:Hid (∀ W,Below w.heap.size w W->Calls Tryz.prog 57 #[.agg #[.bool c.head.neg,.string c.head.pred,.slice ao c.head.args.length cap,.slice aob c.body.length capb]] W fun e w'=>∃ nv,e=.returned (.agg #[nv])/\w'.ownsRow W.heap.size 9 1 nv (zah c).length ((zah c).map Value.string)/\Below W.heap.size W w'):=fun W hW=>zny W c _ _ (hs.below hW) (hb.below hW) hl hl2
 have HO:Hid (zhh w (.slice aoo (o.getD []).length capo) o):=ho
 clear hs hb hl hl2 ho
 go_enter Tryz.func100,Tryz.ntmps100
 go_upto_region 2 with (first|(go_at_call 57;refine(HP.out _ (by exact(by go_grown))).mono ?_;rintro e w1 ⟨nv,rfl,hown,hb1⟩;obtain⟨ao4,cap4,rfl⟩:=zab hown))
 have hB1:Below w.heap.size w w1:=zae (by go_grown) hb1 (Nat.le_refl _)
 have hz1:=hB1.size
 have hs1:SIn w.heap.size w1 (.slice ao4 (zah c).length cap4) (zah c):=zbb hown (by simp;omega)
 have hr1:=(Box.new (w.alloc (.cells #[.bool c.head.neg,.string c.head.pred,.slice ao c.head.args.length cap,.slice aob c.body.length capb] 90)) #[.slice none 0 0,.int .i64 0,.int .i64 0,.int .i64 0,.int .i64 0,.int .i64 0] 187).below hb1
 rw[World.size_alloc] at hr1
 have hne:w.heap.size+1 < w1.heap.size:=hr1.lt
 have hbs:=Box.new w1 (zez (.slice ao4 (zah c).length cap4) (zkj 0)).toArray 187
 have hgr:Below w1.heap.size w1 (w1.alloc (.cells (zez (.slice ao4 (zah c).length cap4) (zkj 0)).toArray 187)):=(by go_grown)
 have hs2:=hs1.below hgr
 have hr2:=hr1.below hgr
 have hB2:=zae hB1 hgr (Nat.le_refl _)
 rw[show(zez (.slice ao4 (zah c).length cap4) (zkj 0)).toArray=#[.slice ao4 (zah c).length cap4,.int .i64 0,.int .i64 0,.int .i64 0,.int .i64 0,.int .i64 0] from rfl] at hs2 hr2 hB2
 rw[show(w1.alloc (.cells (zez (.slice ao4 (zah c).length cap4) (zkj 0)).toArray 187))=(w1.alloc (.cells #[.slice ao4 (zah c).length cap4,.int .i64 0,.int .i64 0,.int .i64 0,.int .i64 0,.int .i64 0] 187)) from rfl] at hbs
 clear hown hb1 hr1 hs1 HP hgr
 generalize hvs:zah c=vs at *
 have HVS:Hid (zah c=vs):=hvs
 clear hvs
 generalize hnv:Value.slice ao4 vs.length cap4=nv at *
 generalize w1.alloc (.cells #[nv,.int .i64 0,.int .i64 0,.int .i64 0,.int .i64 0,.int .i64 0] 187)=w2 at *
 generalize w1.heap.size=sb at *
 clear hB1 w1
 have HNV:Hid (Value.slice ao4 vs.length cap4=nv):=hnv
 clear hnv
 go_wp2
 go_loopw [12] (fun v12 wr=>∃ k:Nat,k<=5/\v12=.int .i64 k/\Box wr sb (zez nv (zkj k)).toArray 187/\Box wr (w.heap.size+1) #[.slice none 0 0,.int .i64 0,.int .i64 0,.int .i64 0,.int .i64 0,.int .i64 0] 187/\SIn w.heap.size wr nv vs/\Below w.heap.size w wr) (fun i _=>5 - (intOf i).toNat)
 case atStart=>exact⟨0,by omega,rfl,hbs,hr2,hs2,hB2⟩
 case round =>
  clear hbs hr2 hs2 hB2
  obtain⟨k,hk,rfl,hbs,hr2,hs2,hB2⟩:=hrel
  have hsz:=hB2.size
  by_cases hlt:k < 5
  ·have hlt2:(k:Int) < 5:=by omega
   obtain⟨hsl,hsf,hsc⟩:=z15 (by simp[zkj]) hbs
   obtain⟨x,hx⟩:=hsc k hlt
   have hset:=hbs.set (1+k) (.int .i64 (k:Nat))
   rw[zn4,zx2 k hlt] at hset
   clear hsc
   go_wp2
   go_roundw
   case rel=>exact⟨k+1,by omega,by go_num,hset,hr2.set_ne (by omega) _ _,zb4 hs2 ((But.refl _ _).setCell _ _) hbs (by decide),hB2.setCell (by simp;omega) _⟩
   case measure=>simp[intOf];omega
  ·obtain rfl:k=5:=by omega
   clear hk hlt
   have HF:Hid (zkj 5=((o.getD []).take 0).zipIdx.foldl zbd [0,1,2,3,4]):=rfl
   rw[HF.out] at hbs
   clear HF
   go_wp2
   go_loopw [22] (fun v22 wr=>∃ k:Nat,k<=(o.getD []).length/\v22=.int .i64 k/\Box wr sb (zez nv (((o.getD []).take k).zipIdx.foldl zbd [0,1,2,3,4])).toArray 187/\Box wr (w.heap.size+1) #[.slice none 0 0,.int .i64 0,.int .i64 0,.int .i64 0,.int .i64 0,.int .i64 0] 187/\SIn w.heap.size wr nv vs/\Below w.heap.size w wr) (fun i _=>(o.getD []).length - (intOf i).toNat)
   case atStart=>exact⟨0,by omega,rfl,hbs,hr2,hs2,hB2⟩
   case round =>
    clear hbs hr2 hs2 hB2 hsz
    obtain⟨k,hk,rfl,hbs,hr2,hs2,hB2⟩:=hrel
    have hsz:=hB2.size
    have hl5:(((o.getD []).take k).zipIdx.foldl zbd [0,1,2,3,4]).length=5:=zj4 _
    by_cases hlt:k < (o.getD []).length
    ·obtain⟨g,f,rfl,hg,hc⟩:=HO.out.cell k hlt
     have hx0:=(hB2.cell (p:=⟨g,f+k,none⟩) hg).trans hc
     have hgr:g < wr.heap.size:=by omega
     have HST:Hid (((o.getD []).take (k+1)).zipIdx.foldl zbd [0,1,2,3,4]=zbd (((o.getD []).take k).zipIdx.foldl zbd [0,1,2,3,4]) ((o.getD [])[k],k)):=zrd hlt
     clear hc
     generalize (o.getD [])[k]=x at *
     generalize ((o.getD []).take k).zipIdx.foldl zbd [0,1,2,3,4]=pl at *
     by_cases hin:0<=x/\x < 5
     ·obtain⟨n,rfl⟩:=Int.eq_ofNat_of_zero_le hin.1
      have hn2:=hin.2
      have hn:n < 5:=by omega
      obtain⟨hsl,hsf,hsc⟩:=z15 hl5 hbs
      obtain⟨y,hy⟩:=hsc n hn
      have hset:=hbs.set (1+n) (.int .i64 (k:Nat))
      rw[zn4] at hset
      have HST2:Hid (((o.getD []).take (k+1)).zipIdx.foldl zbd [0,1,2,3,4]=pl.set n k):=by rw[Hid,HST.out,zbd,if_pos hin];rfl
      clear hsc HST hin
      go_wp2
      go_roundw
      case rel=>exact⟨k+1,by omega,by go_num,by rw[HST2.out];exact hset,hr2.set_ne (by omega) _ _,zb4 hs2 ((But.refl _ _).setCell _ _) hbs (by decide),hB2.setCell (by simp;omega) _⟩
      case measure=>simp[intOf];omega
     ·have HST2:Hid (((o.getD []).take (k+1)).zipIdx.foldl zbd [0,1,2,3,4]=pl):=by rw[Hid,HST.out,zbd,if_neg hin]
      clear HST
      rcases Int.lt_or_le x 0 with h0|h0
      ·clear hin
       go_wp2
       exact⟨⟨_,_,_,⟨k+1,by omega,by go_num,by rw[HST2.out];exact hbs⟩,rfl,rfl,rfl⟩,by simp[intOf];omega⟩
      ·have h5:5<=x:=by omega
       clear hin
       go_wp2
       go_roundw
       case rel=>exact⟨k+1,by omega,by go_num,by rw[HST2.out];exact hbs,hr2,hs2,hB2⟩
       case measure=>simp[intOf];omega
    ·have HPL:Hid (((o.getD []).take k).zipIdx.foldl zbd [0,1,2,3,4]=zb5 (o.getD [])):=by rw[Hid,List.take_of_length_le (by omega)];rfl
     rw[HPL.out] at hbs
     have H5:=zj4 (o.getD [])
     generalize hpl:zb5 (o.getD [])=pl at *
     obtain⟨p0,p1,p2,p3,p4,rfl⟩:=five H5
     have HPE:Hid (zb5 (o.getD [])=[p0,p1,p2,p3,p4]):=hpl
     clear hpl
     rw[show(zez nv [p0,p1,p2,p3,p4]).toArray=#[nv,.int .i64 (p0:Nat),.int .i64 (p1:Nat),.int .i64 (p2:Nat),.int .i64 (p3:Nat),.int .i64 (p4:Nat)] from rfl] at hbs
     obtain⟨hsc,hsf⟩:=hbs.rules
     have hsl:=hbs.lt
     obtain⟨hrc,hrf⟩:=hr2.rules
     have hrl:=hr2.lt
     have hnv:=HNV.out
     subst hnv
     clear hl5 H5 HPL
     go_wp2
     (try simp only[Exit.inBlock,Exit.then])
     refine bodyPost_ret (v:=.agg (zez (.slice ao4 vs.length cap4) [p0,p1,p2,p3,p4]).toArray) (by simp[results,Tryz.results100,go_sem,hrc,zez,ivN]) rfl ⟨_,by rw[HPE.out],?_,?_⟩
     ·rw[HVS.out]
      exact zb4 hs2 (by repeat'(first|(with_reducible exact But.refl _ _)|(with_reducible assumption)|(with_reducible refine But.drewN ?_ _)|(with_reducible refine But.alloc ?_ _)|(with_reducible refine But.drew ?_)|(with_reducible refine But.setCell ?_ _ _)|(with_reducible refine But.setNew ?_ ?_ _)|go_size)) hr2 (by decide)
     ·exact(((((hB2.setCell (by simp) _).setCell (by simp) _).setCell (by simp) _).setCell (by simp) _).setCell (by simp) _).setCell (by simp) _
def zei(os:Option (List (Option (List Int))))(k:Nat):Option (List Int):=(os.getD []).getD k none
theorem zva(w:World)(ov:Value)(os:Option (List (Option (List Int))))(k:Nat)(h:zhi w ov os)(_hl:(os.getD []).length<=2000000) :
  Calls Tryz.prog 71 #[ov,.int .i64 k] w fun e w'=>∃ u,e=.returned u/\zhh w u (zei os k)/\w'=w:=by
 obtain⟨ao,cap,rfl⟩:=h.shape
 by_cases hk:k < (os.getD []).length
 ·obtain⟨g,f,u,rfl,hg,hc,hu⟩:=h.cell k hk
  have HE:Hid (zei os k=(os.getD [])[k]):=by simp[Hid,zei,hk]
  have HU:Hid (zhh w u (os.getD [])[k]):=hu
  have hkk:(k:Int) < ((os.getD []).length:Int):=by omega
  obtain⟨aou,capu,rfl⟩:=hu.shape
  clear h hu
  go_enter Tryz.func71,Tryz.ntmps71
  go_wp2
  go_ret
  exact⟨_,rfl,by rw[HE.out];exact HU.out,rfl⟩
 ·have HE:Hid (zei os k=none):=by simp[Hid,zei,List.getD_eq_getElem?_getD,List.getElem?_eq_none (Nat.not_lt.1 hk)]
  have hkk:((os.getD []).length:Int)<=(k:Int):=by omega
  clear h
  go_enter Tryz.func71,Tryz.ntmps71
  go_wp2
  go_ret
  exact⟨_,rfl,by rw[HE.out];rfl,rfl⟩
end Go.Proofs.YteampbddflhngabGreat
