import Derived.Test.YteampbddflhngaaGreatB32
import Derived.Test.YteampbddflhngaaGreatB05

namespace Go.Proofs.YteampbddflhngaaGreat
set_option maxRecDepth 100000
set_option maxHeartbeats 4000000
open Go.RowKit
variable {lo:Nat}
theorem Tryz.infoTerm:(Tryz.prog.info? 284).map (fun i=>(i.zero,i.size,i.bytes))=some (some (.agg #[.bool false,.int .i64 0,.int .i64 0]),3,24):=by kernel_rfl
def leveledM (p:Nat) (ts:List PTerm) (t:PTerm):PTerm:=if t.var then { t with level:=(levelL ⟨p,ts⟩ t.num).getD 0 } else t
def litTerms (ns vs:List ByteArray) (pl:List Nat) (l:PLit):List PTerm:=l.args.map (termM ns vs pl)
def litM (t:List PEnt) (ns vs:List ByteArray) (pl:List Nat) (l:PLit):PRLit:=⟨findN t l.pred,(litTerms ns vs pl l).map (leveledM 0 (litTerms ns vs pl l))⟩
def tnum (t:PTerm):Bool × Nat:=(t.var,t.num)
theorem hasL_tnum {ts ts':List PTerm} (h:ts.map tnum=ts'.map tnum) (p p' q:Nat):hasL ⟨p,ts⟩ q=hasL ⟨p',ts'⟩ q:=by
  have e:∀ l:List PTerm,(l.any fun t=>t.var && t.num == q)=(l.map tnum).any fun x=>x.1 && x.2 == q:=fun l=>by
    rw [List.any_map];rfl
  simp only [hasL]
  rw [e,e,h]
theorem levelL_tnum {ts ts':List PTerm} (h:ts.map tnum=ts'.map tnum) (p p' q:Nat):levelL ⟨p,ts⟩ q=levelL ⟨p',ts'⟩ q:=by
  unfold levelL
  have:hasL ⟨p,ts⟩=hasL ⟨p',ts'⟩:=funext (hasL_tnum h p p')
  rw [this]
theorem tnum_leveled (p:Nat) (ts:List PTerm) (t:PTerm):tnum (leveledM p ts t)=tnum t:=by
  unfold leveledM;split <;> rfl
def halfM (ts:List PTerm) (k:Nat):List PTerm:=(ts.take k).map (leveledM 0 ts)++ts.drop k
theorem halfM_tnum (ts:List PTerm) (k:Nat):(halfM ts k).map tnum=ts.map tnum:=by
  unfold halfM
  rw [List.map_append,List.map_map,List.map_drop,show (tnum ∘ leveledM 0 ts)=tnum from funext (tnum_leveled 0 ts),List.map_take,List.take_append_drop]
theorem halfM_len (ts:List PTerm) (k:Nat):(halfM ts k).length=ts.length:=by
  have:=congrArg List.length (halfM_tnum ts k)
  simpa using this
theorem halfM_at (ts:List PTerm) (k:Nat) (hk:k < ts.length):(halfM ts k)[k]?=some ts[k]:=by
  unfold halfM
  rw [List.getElem?_append_right (by simp;omega),List.length_map,List.length_take,Nat.min_eq_left (by omega),Nat.sub_self,List.getElem?_drop]
  simp [hk]
theorem halfM_set (ts:List PTerm) (k:Nat) (hk:k < ts.length):(halfM ts k).set k (leveledM 0 ts ts[k])=halfM ts (k+1):=by
  unfold halfM
  rw [List.set_append_right _ _ (by simp;omega),List.length_map,List.length_take,Nat.min_eq_left (by omega),Nat.sub_self,List.drop_eq_getElem_cons hk,List.set_cons_zero,List.take_succ_eq_append_getElem hk,List.map_append,List.append_assoc]
  rfl
theorem halfM_zero (ts:List PTerm):halfM ts 0=ts:=by simp [halfM]
theorem halfM_all (ts:List PTerm):halfM ts ts.length=ts.map (leveledM 0 ts):=by simp [halfM]
theorem levelL_small {l:PRLit} {q:Nat} (hq:q<=1000000):(levelL l q).getD 0<=1000000:=by
  unfold levelL
  split
  · have:=List.countP_le_length (p:=hasL l) (l:=List.range q)
    simp at this ⊢
    omega
  · simp
theorem placeC_len (ns:List ByteArray) (x:ByteArray):(valueC ns x).getD 0<=ns.length:=by
  unfold valueC
  split
  · simp;omega
  · simp
theorem placeS_small (vs:List ByteArray) (pl:List Nat) (n:ByteArray) (h:∀ x∈pl,x<=1000):placeS vs pl n<=1000:=by
  unfold placeS
  split
  · omega
  · split
    · omega
    · rename_i k _ _
      by_cases hk:k < pl.length
      · rw [List.getD_eq_getElem?_getD,List.getElem?_eq_getElem hk];exact h _ (List.getElem_mem hk)
      · rw [List.getD_eq_getElem?_getD,List.getElem?_eq_none (by omega)];simp
theorem termM_small (ns vs:List ByteArray) (pl:List Nat) (x:ByteArray) (h:∀ y∈pl,y<=1000) (hn:ns.length<=1000):(termM ns vs pl x).num<=1000/\(termM ns vs pl x).level=0:=by
  unfold termM
  split
  · exact ⟨placeS_small vs pl x h,rfl⟩
  · have:=placeC_len ns x
    exact ⟨by simp only;omega,rfl⟩
theorem set_same {α:Type} {l:List α} {k:Nat} {x:α} (h:l[k]?=some x):l.set k x=l:=by
  obtain ⟨hk,e⟩:=List.getElem?_eq_some_iff.1 h
  rw [← e];exact List.set_getElem_self hk
theorem flat3_lev (ts:List PTerm) (k:Nat) (t:PTerm) (lv:Nat) (h:ts[k]?=some t):(flat3 (ts.map termCell)).set (k * 3+2) (.int .i64 (lv:Nat))=flat3 ((ts.set k { t with level:=lv }).map termCell):=by
  obtain ⟨hk,e⟩:=List.getElem?_eq_some_iff.1 h
  have hk2:k < (ts.map termCell).length:=by simpa using hk
  have q:=flat3_set (ts.map termCell) k hk2 (.bool t.var) (.int .i64 (t.num:Nat)) (.int .i64 (lv:Nat))
  obtain ⟨a0,a1,_⟩:=flat3_at (ts.map termCell) k hk2
  simp only [List.getElem_map,e,termCell] at a0 a1
  rw [set_same a0,set_same a1] at q
  rw [q,List.map_set]
  rfl
def laidM (ts:List PTerm) (k:Nat):List PTerm:=ts.take k++List.replicate (ts.length - k) ⟨false,0,0⟩
theorem laidM_len (ts:List PTerm) (k:Nat) (hk:k<=ts.length):(laidM ts k).length=ts.length:=by simp [laidM];omega
theorem laidM_set (ts:List PTerm) (k:Nat) (hk:k < ts.length):(laidM ts k).set k ts[k]=laidM ts (k+1):=by
  unfold laidM
  obtain ⟨m,hm⟩:∃ m,ts.length - k=m+1:=⟨ts.length - k - 1,by omega⟩
  rw [List.set_append_right _ _ (by simp;omega),List.length_take,Nat.min_eq_left (by omega),Nat.sub_self,hm,List.replicate_succ,List.set_cons_zero,show ts.length - (k+1)=m from by omega,List.take_succ_eq_append_getElem hk,List.append_assoc]
  rfl
theorem laidM_all (ts:List PTerm):laidM ts ts.length=ts:=by simp [laidM]
theorem halfM_small (ts:List PTerm) (k:Nat) (h:∀ x∈ts,x.num<=1000/\x.level=0):∀ x∈halfM ts k,x.num<=1000000/\x.level<=1000000:=by
  intro x hx
  unfold halfM at hx
  rw [List.mem_append] at hx
  rcases hx with hx | hx
  · rw [List.mem_map] at hx
    obtain ⟨y,hy,rfl⟩:=hx
    have:=h y (List.mem_of_mem_take hy)
    unfold leveledM
    split
    · exact ⟨by simp only;omega,levelL_small (by omega)⟩
    · omega
  · have:=h x (List.mem_of_mem_drop hx)
    omega
theorem own_cell3e {w:World} {base:Nat} {e:TypeId} {g n cap m:Nat} {ys:List (Value × Value × Value)} (h:w.ownsRow base e 3 (.slice (some ⟨g,0,none⟩) n cap) m (flat3 ys)) (k:Nat) (hk:k < ys.length) :
    ∃ a b c,g < w.heap.size/\w.cell? ⟨g,k * 3,none⟩=some a/\w.cell? ⟨g,k * 3+1,none⟩=some b/\w.cell? ⟨g,k * 3+2,none⟩=some c:=⟨_,_,_,own_cell3 h k hk⟩
theorem lit_any {lo2 lo3:Nat} (w:World) (mb tb o cb sb:Nat) (t:List PEnt) (ns vs:List ByteArray) (pl:List Nat) (l:PLit) (va:Value) (h:MakerIn lo w mb tb o cb t ns) (hs:ScopeIn lo2 w sb vs pl) (hl:vs.length<=1000) (hpl:∀ y∈pl,y<=1000) (ha:SIn lo3 w va l.args) (hal:l.args.length<=1000) :
    Calls Tryz.prog 160 #[.pointer (some ⟨mb,0,none⟩),.agg #[.bool l.neg,.string l.pred,va],.pointer (some ⟨sb,0,none⟩)] w fun e w'=>∃ tv,e=.returned (.agg #[.int .i64 (findN t l.pred:Nat),tv])/\TermsIn w.heap.size w' tv (litM t ns vs pl l).terms/\Below w.heap.size w w':=by
  obtain ⟨i0,hi,hz0,hzs,hzb⟩:=info_parts Tryz.infoTerm
  obtain ⟨ao,cap,rfl⟩:=ha.shape
  have hmk:=fun W:World=>run_make (P:=Tryz.prog) (w:=W) 202 284 i0 _ Tryz.underlying202 hi hz0 .i64 .i64 (l.args.length:Int) (l.args.length:Int) (by omega) (Int.le_refl _) (by rw [hzb];omega) (by omega)
  rw [hzs] at hmk
  have HF:Hid (∀ W,Below w.heap.size w W->Calls Tryz.prog 77 #[.pointer (some ⟨tb,o,none⟩),.string l.pred] W fun e w'=>e=.returned (.tuple #[.int .i64 (findN t l.pred:Nat),.bool (entAt t l.pred).isSome])/\w'=W):=fun W hW=>gfind_any lo W tb o t l.pred (h.2.1.below hW) h.2.2.2.1
  have HT:Hid (∀ W x,Below w.heap.size w W->Calls Tryz.prog 186 #[.pointer (some ⟨mb,0,none⟩),.string x,.pointer (some ⟨sb,0,none⟩)] W fun e w'=>e=.returned (termV (termM ns vs pl x))/\Below W.heap.size W w'):=fun W x hW=>term_any W mb tb o cb sb t ns vs pl x (h.below hW) (hs.below hW) hl
  have HSM:Hid (∀ x∈litTerms ns vs pl l,x.num<=1000/\x.level=0):=fun x hx=>by
    simp only [litTerms,List.mem_map] at hx
    obtain ⟨y,_,rfl⟩:=hx
    exact termM_small ns vs pl y hpl h.2.2.2.2
  have HE:Hid ((litM t ns vs pl l).terms=(litTerms ns vs pl l).map (leveledM 0 (litTerms ns vs pl l))):=rfl
  have hlen:(litTerms ns vs pl l).length=l.args.length:=by simp [litTerms]
  have HAT:Hid (∀ k (hk:k < l.args.length) (hk2:k < (litTerms ns vs pl l).length),termM ns vs pl l.args[k]=(litTerms ns vs pl l)[k]):=fun k hk hk2=>by simp [litTerms]
  obtain ⟨hmc,hmf⟩:=h.1.rules
  have hml:=h.1.lt
  have hm0:w.cell? ⟨mb,0,none⟩=some (.pointer (some ⟨tb,o,none⟩)):=by rw [hmc];rfl
  clear h hs hmc
  generalize litTerms ns vs pl l=ts at *
  generalize findN t l.pred=fn at *
  generalize (entAt t l.pred).isSome=fb at *
  go_enter Tryz.func160,Tryz.ntmps160
  go_upto_region 1 with fail
  go_quiet ((go_at_call 77;exact Calls.quiet_of_same (HF.out _ (by exact (by repeat' (first | with_reducible (first | exact Below.refl _ _ | assumption | refine bdrewN ?_ _ | refine Below.alloc ?_ ?_ _ | refine Below.drew ?_ | refine Below.setCell ?_ ?_ _) | go_size))))))
  go_upto_region 4 with fail
  have hrow:=owns_below (own_make3 ((((w.alloc (.cells #[.bool l.neg,.string l.pred,.slice ao l.args.length cap] 90)).alloc (.cells #[.int .i64 0,.slice none 0 0] 204)).drewN nq)) l.args.length 284 (.bool false) (.int .i64 0) (.int .i64 0) (by unfold maxLen;omega)) ((Below.refl _ _).alloc (Nat.le_refl _) (.cells #[.int .i64 (fn:Nat),.slice (some ⟨w.heap.size+1+1,0,none⟩) l.args.length l.args.length] 204))
  have hb9:=Box.new ((((w.alloc (.cells #[.bool l.neg,.string l.pred,.slice ao l.args.length cap] 90)).alloc (.cells #[.int .i64 0,.slice none 0 0] 204)).drewN nq).alloc (.cells (madeCells #[.bool false,.int .i64 0,.int .i64 0] (l.args.length * 3)) 284)) #[.int .i64 (fn:Nat),.slice (some ⟨w.heap.size+1+1,0,none⟩) l.args.length l.args.length] 204
  have hb6:=(((Box.new (w.alloc (.cells #[.bool l.neg,.string l.pred,.slice ao l.args.length cap] 90)) #[.int .i64 0,.slice none 0 0] 204).below (bdrewN (Below.refl _ _) nq)).below ((Below.refl _ _).alloc (Nat.le_refl _) (.cells (madeCells #[.bool false,.int .i64 0,.int .i64 0] (l.args.length * 3)) 284))).below ((Below.refl _ _).alloc (Nat.le_refl _) (.cells #[.int .i64 (fn:Nat),.slice (some ⟨w.heap.size+1+1,0,none⟩) l.args.length l.args.length] 204))
  have hB3:Below w.heap.size w (((((w.alloc (.cells #[.bool l.neg,.string l.pred,.slice ao l.args.length cap] 90)).alloc (.cells #[.int .i64 0,.slice none 0 0] 204)).drewN nq).alloc (.cells (madeCells #[.bool false,.int .i64 0,.int .i64 0] (l.args.length * 3)) 284)).alloc (.cells #[.int .i64 (fn:Nat),.slice (some ⟨w.heap.size+1+1,0,none⟩) l.args.length l.args.length] 204)):=(by repeat' (first | with_reducible (first | exact Below.refl _ _ | assumption | refine bdrewN ?_ _ | refine Below.alloc ?_ ?_ _ | refine Below.drew ?_ | refine Below.setCell ?_ ?_ _) | go_size))
  have hsz2:(((w.alloc (.cells #[.bool l.neg,.string l.pred,.slice ao l.args.length cap] 90)).alloc (.cells #[.int .i64 0,.slice none 0 0] 204)).drewN nq).heap.size=w.heap.size+1+1:=by simp
  simp only [World.size_alloc,hsz2] at hrow hb9 hb6
  clear hsz2
  generalize ((((w.alloc (.cells #[.bool l.neg,.string l.pred,.slice ao l.args.length cap] 90)).alloc (.cells #[.int .i64 0,.slice none 0 0] 204)).drewN nq).alloc (.cells (madeCells #[.bool false,.int .i64 0,.int .i64 0] (l.args.length * 3)) 284)).alloc (.cells #[.int .i64 (fn:Nat),.slice (some ⟨w.heap.size+1+1,0,none⟩) l.args.length l.args.length] 204)=w3 at *
  have hz3:=hB3.size
  have H0:Hid (flat3 (List.replicate l.args.length (Value.bool false,Value.int .i64 0,Value.int .i64 0))=flat3 ((laidM ts 0).map termCell)):=by
    rw [Hid,laidM,List.take_zero,List.nil_append,Nat.sub_zero,hlen,List.map_replicate];rfl
  rw [H0.out] at hrow
  clear H0 hmk hm0 hmf HF
  have hrow:=own_low hrow (show w.heap.size<=w.heap.size+1+1 by omega)
  go_loopw [35] (fun v35 wr=>∃ k:Nat,k<=l.args.length/\v35=.int .i64 k/\Box wr (w.heap.size+1+1+1) #[.int .i64 (fn:Nat),.slice (some ⟨w.heap.size+1+1,0,none⟩) l.args.length l.args.length] 204/\Box wr (w.heap.size+1) #[.int .i64 0,.slice none 0 0] 204/\wr.ownsRow w.heap.size 284 3 (.slice (some ⟨w.heap.size+1+1,0,none⟩) l.args.length l.args.length) l.args.length (flat3 ((laidM ts k).map termCell))/\Below w.heap.size w wr) (fun i _=>l.args.length - (intOf i).toNat)
  case atStart=>exact ⟨0,Nat.zero_le _,rfl,hb9,hb6,hrow,hB3⟩
  case round =>
    clear hrow hb9 hb6
    obtain ⟨k,hk,rfl,hb9,hb6,hrow,hbk⟩:=hrel
    have hszk:=hbk.size
    by_cases hlt:k < l.args.length
    · obtain ⟨g,rfl,hg,hcell⟩:=ha.cell k hlt
      have hx0:=(hbk.cell (p:=⟨g,k,none⟩) hg).trans hcell
      have hgr:g < wr.heap.size:=by omega
      have HSET:Hid ((laidM ts k).set k ts[k]=laidM ts (k+1)):=laidM_set ts k (by omega)
      have HTX:Hid (termM ns vs pl l.args[k]=ts[k]):=HAT.out k hlt (by omega)
      have hll:=laidM_len ts k (by omega)
      obtain ⟨e0,e1,e2,hg3,hq0,hq1,hq2⟩:=own_cell3e hrow k (by simp;omega)
      have hfz:=own_free hrow
      obtain ⟨h9c,h9f⟩:=hb9.rules
      have h9l:=hb9.lt
      have h9c1:wr.cell? ⟨w.heap.size+1+1+1,1,none⟩=some (.slice (some ⟨w.heap.size+1+1,0,none⟩) l.args.length l.args.length):=by rw [h9c];rfl
      clear hcell
      have HT1:Hid (∀ W,Below wr.heap.size wr W->Calls Tryz.prog 186 #[.pointer (some ⟨mb,0,none⟩),.string l.args[k],.pointer (some ⟨sb,0,none⟩)] W fun e w'=>e=.returned (.agg #[.bool ts[k].var,.int .i64 (ts[k].num:Nat),.int .i64 (ts[k].level:Nat)])/\Below W.heap.size W w'):=fun W hW=>by
        have q:=HT.out W l.args[k] (bnext hbk hW (Nat.le_refl _))
        rw [HTX.out] at q
        exact q
      generalize ts[k]=tk at *
      generalize l.args[k]=x at *
      generalize (laidM ts k)=lk at *
      go_wp2
      go_region_held3 (fun w'=>w'.cell? ⟨w.heap.size+1+1+1,1,none⟩=some (.slice (some ⟨w.heap.size+1+1,0,none⟩) l.args.length l.args.length)) (first | go_keep | (go_simp;done)) (first | (go_at_call 186;refine (HT1.out _ (by exact (by repeat' (first | with_reducible (first | exact Below.refl _ _ | assumption | refine bdrewN ?_ _ | refine Below.alloc ?_ ?_ _ | refine Below.drew ?_ | refine Below.setCell ?_ ?_ _) | go_size)))).mono ?_;rintro e w4 ⟨rfl,hb4⟩;have hB4:Below wr.heap.size wr w4:=(bnext (by repeat' (first | with_reducible (first | exact Below.refl _ _ | assumption | refine bdrewN ?_ _ | refine Below.alloc ?_ ?_ _ | refine Below.drew ?_ | refine Below.setCell ?_ ?_ _) | go_size)) hb4 (Nat.le_refl _));have h94:=hb9.below hB4;have h64:=hb6.below hB4;have hr4:=owns_below hrow hB4;obtain ⟨h94c,h94f⟩:=h94.rules;have h94l:=h94.lt;obtain ⟨f0,f1,f2,hg4,hp0,hp1,hp2⟩:=own_cell3e hr4 k (by simp;omega);have hfz4:=own_free hr4;have hz4:=hB4.size))
      have hset3:=own_set3 hr4 k (by simp;omega) (.bool tk.var) (.int .i64 (tk.num:Nat)) (.int .i64 (tk.level:Nat))
      have HM:(lk.map termCell).set k (.bool tk.var,.int .i64 (tk.num:Nat),.int .i64 (tk.level:Nat))=(laidM ts (k+1)).map termCell:=by rw [← HSET.out,List.map_set];rfl
      rw [HM] at hset3
      have h95:=((h94.set_ne (show w.heap.size+1+1+1≠w.heap.size+1+1 by omega) (k * 3) (.bool tk.var)).set_ne (show w.heap.size+1+1+1≠w.heap.size+1+1 by omega) (k * 3+1) (.int .i64 (tk.num:Nat))).set_ne (show w.heap.size+1+1+1≠w.heap.size+1+1 by omega) (k * 3+2) (.int .i64 (tk.level:Nat))
      have h65:=((h64.set_ne (show w.heap.size+1≠w.heap.size+1+1 by omega) (k * 3) (.bool tk.var)).set_ne (show w.heap.size+1≠w.heap.size+1+1 by omega) (k * 3+1) (.int .i64 (tk.num:Nat))).set_ne (show w.heap.size+1≠w.heap.size+1+1 by omega) (k * 3+2) (.int .i64 (tk.level:Nat))
      have hB5:Below w.heap.size w (((w4.setCell ⟨w.heap.size+1+1,k * 3,none⟩ (.bool tk.var)).setCell ⟨w.heap.size+1+1,k * 3+1,none⟩ (.int .i64 (tk.num:Nat))).setCell ⟨w.heap.size+1+1,k * 3+2,none⟩ (.int .i64 (tk.level:Nat))):=(((bnext hbk hB4 (Nat.le_refl _)).setCell (by simp;omega) _).setCell (by simp;omega) _).setCell (by simp;omega) _
      generalize ((w4.setCell ⟨w.heap.size+1+1,k * 3,none⟩ (.bool tk.var)).setCell ⟨w.heap.size+1+1,k * 3+1,none⟩ (.int .i64 (tk.num:Nat))).setCell ⟨w.heap.size+1+1,k * 3+2,none⟩ (.int .i64 (tk.level:Nat))=w5 at *
      go_wp2
      go_roundw
      case rel=>exact ⟨k+1,by omega,by go_num,h95,h65,hset3,hB5⟩
      case measure=>simp [intOf];omega
    · obtain rfl:k=l.args.length:=by omega
      rw [← hlen,laidM_all] at hrow
      rw [← hlen] at hb9
      clear hlt hk
      obtain ⟨h9c,h9f⟩:=hb9.rules
      have h9l:=hb9.lt
      go_wp2
      clear h9c h9f h9l
      rw [← hlen] at hal ⊢
      clear hB3 hz3 HT HAT hlen
      go_loopw [52] (fun v52 wr=>∃ k:Nat,k<=ts.length/\v52=.int .i64 k/\Box wr (w.heap.size+1+1+1) #[.int .i64 (fn:Nat),.slice (some ⟨w.heap.size+1+1,0,none⟩) ts.length ts.length] 204/\Box wr (w.heap.size+1) #[.int .i64 0,.slice none 0 0] 204/\wr.ownsRow w.heap.size 284 3 (.slice (some ⟨w.heap.size+1+1,0,none⟩) ts.length ts.length) ts.length (flat3 ((halfM ts k).map termCell))/\Below w.heap.size w wr) (fun i _=>ts.length - (intOf i).toNat)
      case atStart=>exact ⟨0,Nat.zero_le _,rfl,hb9,hb6,by rw [halfM_zero];exact hrow,hbk⟩
      case round =>
        clear hrow hb9 hb6 hbk hszk
        obtain ⟨k,hk,rfl,hb9,hb6,hrow,hbk⟩:=hrel
        have hszk:=hbk.size
        by_cases hlt:k < ts.length
        · have hhl:=halfM_len ts k
          have HAT2:Hid ((halfM ts k)[k]?=some ts[k]):=halfM_at ts k hlt
          have HSET:Hid ((halfM ts k).set k (leveledM 0 ts ts[k])=halfM ts (k+1)):=halfM_set ts k hlt
          have HLV:Hid (levelL ⟨fn,halfM ts k⟩ ts[k].num=levelL ⟨0,ts⟩ ts[k].num):=levelL_tnum (halfM_tnum ts k) _ _ _
          have HLM:Hid (leveledM 0 ts ts[k]=if ts[k].var then { ts[k] with level:=(levelL ⟨0,ts⟩ ts[k].num).getD 0 } else ts[k]):=rfl
          have HSM2:=halfM_small ts k HSM.out
          have hnum:=(HSM.out ts[k] (List.getElem_mem hlt)).1
          obtain ⟨hg3,hq0,hq1,hq2⟩:=own_cell3 hrow k (by simp;omega)
          have hkk:k < (halfM ts k).length:=by omega
          have hee:(halfM ts k)[k]=ts[k]:=by have q:=HAT2.out;rw [List.getElem?_eq_getElem hkk] at q;simpa using q
          simp only [List.getElem_map,hee,termCell] at hq0 hq1 hq2
          have hfz:=own_free hrow
          obtain ⟨h9c,h9f⟩:=hb9.rules
          have h9l:=hb9.lt
          have HTI:Hid (TermsIn w.heap.size wr (.slice (some ⟨w.heap.size+1+1,0,none⟩) ts.length ts.length) (halfM ts k)):=⟨by rw [hhl];exact hrow,by omega,HSM2⟩
          have HLL:Hid (∀ W,Below wr.heap.size wr W->Calls Tryz.prog 187 #[.agg #[.int .i64 (fn:Nat),.slice (some ⟨w.heap.size+1+1,0,none⟩) ts.length ts.length],.int .i64 (ts[k].num:Nat)] W fun e w'=>e=.returned (.tuple #[.int .i64 (((levelL ⟨0,ts⟩ ts[k].num).getD 0:Nat):Int),.bool (levelL ⟨0,ts⟩ ts[k].num).isSome])/\Below W.heap.size W w'):=fun W hW=>by
            have q:=level_lit W _ fn ts[k].num (halfM ts k) (HTI.out.below hW) (by omega)
            rw [HLV.out] at q
            exact q
          clear hkk hee HLV HSM2 HTI
          generalize ts[k]=tk at *
          generalize halfM ts k=hk0 at *
          generalize (levelL ⟨0,ts⟩ tk.num).getD 0=lv at *
          generalize (levelL ⟨0,ts⟩ tk.num).isSome=lb at *
          cases hv:tk.var with
          | false =>
            rw [hv] at hq0 HLM
            simp only [Bool.false_eq_true,if_false] at HLM
            go_wp2
            have HS1:Hid (hk0=halfM ts (k+1)):=by
              rw [Hid,← HSET.out,HLM.out]
              exact (set_same HAT2.out).symm
            go_roundw
            case rel=>exact ⟨k+1,by omega,by go_num,hb9.below (by repeat' (first | with_reducible (first | exact Below.refl _ _ | assumption | refine bdrewN ?_ _ | refine Below.alloc ?_ ?_ _ | refine Below.drew ?_ | refine Below.setCell ?_ ?_ _) | go_size)),hb6.below (by repeat' (first | with_reducible (first | exact Below.refl _ _ | assumption | refine bdrewN ?_ _ | refine Below.alloc ?_ ?_ _ | refine Below.drew ?_ | refine Below.setCell ?_ ?_ _) | go_size)),by rw [← HS1.out];exact owns_below hrow (by repeat' (first | with_reducible (first | exact Below.refl _ _ | assumption | refine bdrewN ?_ _ | refine Below.alloc ?_ ?_ _ | refine Below.drew ?_ | refine Below.setCell ?_ ?_ _) | go_size)),bnext hbk (by repeat' (first | with_reducible (first | exact Below.refl _ _ | assumption | refine bdrewN ?_ _ | refine Below.alloc ?_ ?_ _ | refine Below.drew ?_ | refine Below.setCell ?_ ?_ _) | go_size)) (Nat.le_refl _)⟩
            case measure=>simp [intOf];omega
          | true =>
            rw [hv] at hq0 HLM
            simp only [if_true] at HLM
            have hnl:wr.heap.size≠w.heap.size+1+1:=by omega
            go_upto_region 13 with (first | (go_at_call 187;refine (HLL.out _ (by exact (by repeat' (first | with_reducible (first | exact Below.refl _ _ | assumption | refine bdrewN ?_ _ | refine Below.alloc ?_ ?_ _ | refine Below.drew ?_ | refine Below.setCell ?_ ?_ _) | go_size)))).mono ?_;rintro e w4 ⟨rfl,hb4⟩;have hB4:Below wr.heap.size wr w4:=(bnext (by repeat' (first | with_reducible (first | exact Below.refl _ _ | assumption | refine bdrewN ?_ _ | refine Below.alloc ?_ ?_ _ | refine Below.drew ?_ | refine Below.setCell ?_ ?_ _) | go_size)) hb4 (Nat.le_refl _));have h94:=hb9.below hB4;have h64:=hb6.below hB4;have hr4:=owns_below hrow hB4;obtain ⟨h94c,h94f⟩:=h94.rules;have h94l:=h94.lt;obtain ⟨f0,f1,f2,hg4,hp0,hp1,hp2⟩:=own_cell3e hr4 k (by simp;omega);have hfz4:=own_free hr4;have hz4:=hB4.size))
            have hset3:=own_set hr4 (k * 3+2) (by rw [flat3_len];simp;omega) (.int .i64 (lv:Nat))
            have h95:=h94.set_ne (show w.heap.size+1+1+1≠w.heap.size+1+1 by omega) (k * 3+2) (.int .i64 (lv:Nat))
            have h65:=h64.set_ne (show w.heap.size+1≠w.heap.size+1+1 by omega) (k * 3+2) (.int .i64 (lv:Nat))
            have hB5:Below w.heap.size w (w4.setCell ⟨w.heap.size+1+1,k * 3+2,none⟩ (.int .i64 (lv:Nat))):=((bnext hbk hB4 (Nat.le_refl _)).setCell (by simp;omega) _)
            have HM:Hid ((flat3 (hk0.map termCell)).set (k * 3+2) (.int .i64 (lv:Nat))=flat3 ((halfM ts (k+1)).map termCell)):=by
              rw [Hid,← HSET.out,HLM.out]
              exact flat3_lev hk0 k tk lv HAT2.out
            rw [HM.out] at hset3
            clear hq0 hq1 hq2
            go_wp2
            generalize w4.setCell ⟨w.heap.size+1+1,k * 3+2,none⟩ (.int .i64 (lv:Nat))=w5 at *
            go_roundw
            case rel=>exact ⟨k+1,by omega,by go_num,h95,h65,hset3,hB5⟩
            case measure=>simp [intOf];omega
        · obtain rfl:k=ts.length:=by omega
          rw [halfM_all] at hrow
          obtain ⟨h9c,h9f⟩:=hb9.rules
          have h9l:=hb9.lt
          obtain ⟨h6c,h6f⟩:=hb6.rules
          have h6l:=hb6.lt
          have HSF:Hid (∀ x∈ts.map (leveledM 0 ts),x.num<=1000000/\x.level<=1000000):=by rw [← halfM_all];exact halfM_small ts _ HSM.out
          go_wp2
          (try simp only [Exit.inBlock,Exit.then])
          refine bodyPost_ret (v:=.agg #[.int .i64 (fn:Nat),.slice (some ⟨w.heap.size+1+1,0,none⟩) ts.length ts.length]) (by simp [results,Tryz.results160,go_sem,h6c]) rfl ⟨_,rfl,?_,(hbk.setCell (by simp) _).setCell (by simp) _⟩
          rw [HE.out]
          refine ⟨?_,by simpa using hal,HSF.out⟩
          rw [List.length_map]
          exact own_but hrow (((But.refl (w.heap.size+1) wr).setCell 0 _).setCell 1 _) hb6 (by decide)
end Go.Proofs.YteampbddflhngaaGreat

namespace Go.Proofs.YteampbddflhngaaGreat
open Go.RowKit
variable {lo:Nat}
def OrdIn (w:World) (v:Value) (o:Option (List Int)):Prop:=match o with
  | none=>v=.slice none 0 0
  | some l=>∃ g f cap,v=.slice (some ⟨g,f,none⟩) l.length cap/\g < w.heap.size/\∀ k (h:k < l.length),w.cell? ⟨g,f+k,none⟩=some (.int .i64 l[k])
theorem OrdIn.below {w w':World} {v:Value} {o:Option (List Int)} (h:OrdIn w v o) (hb:Below w.heap.size w w'):OrdIn w' v o:=by
  cases o with
  | none=>exact h
  | some l =>
    obtain ⟨g,f,cap,h1,h2,h3⟩:=h
    exact ⟨g,f,cap,h1,by have:=hb.size;omega,fun k hk=>(hb.cell (p:=⟨g,f+k,none⟩) h2).trans (h3 k hk)⟩
theorem OrdIn.shape {w:World} {v:Value} {o:Option (List Int)} (h:OrdIn w v o):∃ ao cap,v=.slice ao (o.getD []).length cap:=by
  cases o with
  | none=>exact ⟨none,0,h⟩
  | some l=>obtain ⟨g,f,cap,h1,_⟩:=h;exact ⟨_,cap,h1⟩
theorem OrdIn.cell {w:World} {ao:Option Addr} {n cap:Nat} {o:Option (List Int)} (h:OrdIn w (.slice ao n cap) o) (k:Nat) (hk:k < (o.getD []).length):∃ g f,ao=some ⟨g,f,none⟩/\g < w.heap.size/\w.cell? ⟨g,f+k,none⟩=some (.int .i64 (o.getD [])[k]):=by
  cases o with
  | none=>simp at hk
  | some l =>
    obtain ⟨g,f,cap,h1,h2,h3⟩:=h
    simp only [Value.slice.injEq] at h1
    exact ⟨g,f,h1.1,h2,h3 k hk⟩
def OrdsIn (w:World) (v:Value) (os:Option (List (Option (List Int)))):Prop:=match os with
  | none=>v=.slice none 0 0
  | some l=>∃ g f cap,v=.slice (some ⟨g,f,none⟩) l.length cap/\g < w.heap.size/\∀ k (h:k < l.length),∃ u,w.cell? ⟨g,f+k,none⟩=some u/\OrdIn w u l[k]
theorem OrdsIn.below {w w':World} {v:Value} {os:Option (List (Option (List Int)))} (h:OrdsIn w v os) (hb:Below w.heap.size w w'):OrdsIn w' v os:=by
  cases os with
  | none=>exact h
  | some l =>
    obtain ⟨g,f,cap,h1,h2,h3⟩:=h
    refine ⟨g,f,cap,h1,by have:=hb.size;omega,fun k hk=>?_⟩
    obtain ⟨u,h4,h5⟩:=h3 k hk
    exact ⟨u,(hb.cell (p:=⟨g,f+k,none⟩) h2).trans h4,h5.below hb⟩
theorem OrdsIn.shape {w:World} {v:Value} {os:Option (List (Option (List Int)))} (h:OrdsIn w v os):∃ ao cap,v=.slice ao (os.getD []).length cap:=by
  cases os with
  | none=>exact ⟨none,0,h⟩
  | some l=>obtain ⟨g,f,cap,h1,_⟩:=h;exact ⟨_,cap,h1⟩
theorem OrdsIn.cell {w:World} {ao:Option Addr} {n cap:Nat} {os:Option (List (Option (List Int)))} (h:OrdsIn w (.slice ao n cap) os) (k:Nat) (hk:k < (os.getD []).length):∃ g f u,ao=some ⟨g,f,none⟩/\g < w.heap.size/\w.cell? ⟨g,f+k,none⟩=some u/\OrdIn w u (os.getD [])[k]:=by
  cases os with
  | none=>simp at hk
  | some l =>
    obtain ⟨g,f,cap,h1,h2,h3⟩:=h
    simp only [Value.slice.injEq] at h1
    obtain ⟨u,h4,h5⟩:=h3 k hk
    exact ⟨g,f,u,h1.1,h2,h4,h5⟩
end Go.Proofs.YteampbddflhngaaGreat
