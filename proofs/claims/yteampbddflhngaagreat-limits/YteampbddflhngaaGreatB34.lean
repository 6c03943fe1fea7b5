import Derived.Test.YteampbddflhngaaGreatB33
import Derived.Test.YteampbddflhngaaGreatB17
import Derived.Test.YteampbddflhngaaGreatB19

namespace Go.Proofs.YteampbddflhngaaGreat
set_option maxRecDepth 100000
set_option maxHeartbeats 4000000
open Go.RowKit
variable {lo:Nat}
def placeStep (pl:List Nat) (x:Int × Nat):List Nat:=if 0<=x.1/\x.1 < 5 then pl.set x.1.toNat x.2 else pl
def placesM (os:List Int):List Nat:=os.zipIdx.foldl placeStep [0,1,2,3,4]
theorem placeStep_len (pl:List Nat) (x:Int × Nat):(placeStep pl x).length=pl.length:=by unfold placeStep;split <;> simp
theorem placesM_len (os:List Int):(placesM os).length=5:=by
  have:∀ (l:List (Int × Nat)) (pl:List Nat),(l.foldl placeStep pl).length=pl.length:=by
    intro l
    induction l with
    | nil=>intro pl;rfl
    | cons x l ih=>intro pl;rw [List.foldl_cons,ih,placeStep_len]
  exact this _ _
theorem zip_take_succ {os:List Int} {k:Nat} (hk:k < os.length):(os.take (k+1)).zipIdx.foldl placeStep [0,1,2,3,4]=placeStep ((os.take k).zipIdx.foldl placeStep [0,1,2,3,4]) (os[k],k):=by
  rw [List.take_succ_eq_append_getElem hk,List.zipIdx_append,List.foldl_append]
  simp only [List.zipIdx_singleton,List.length_take,Nat.zero_add,List.foldl_cons,List.foldl_nil]
  rw [Nat.min_eq_left (by omega)]
def scCells (nv:Value) (pl:List Nat):List Value:=nv::pl.map ivN
theorem scCells_set (nv:Value) (pl:List Nat) (k x:Nat):(scCells nv pl).toArray.setIfInBounds (1+k) (.int .i64 (x:Nat))=(scCells nv (pl.set k x)).toArray:=by
  rw [Nat.add_comm]
  simp [scCells,List.map_set,ivN]
def first5 (k:Nat):List Nat:=(List.range 5).map fun i=>if i < k then i else 0
theorem first5_set (k:Nat) (hk:k < 5):(first5 k).set k k=first5 (k+1):=by
  obtain rfl | rfl | rfl | rfl | rfl:k=0∨k=1∨k=2∨k=3∨k=4:=by omega
  all_goals rfl
theorem sc_cell {w:World} {sb:Nat} {nv:Value} {pl:List Nat} (hl:pl.length=5) (h:Box w sb (scCells nv pl).toArray 257):sb < w.heap.size/\(∀ o,w.frozen? ⟨sb,o,none⟩=false)/\∀ k,k < 5->∃ x:Nat,w.cell? ⟨sb,1+k,none⟩=some (.int .i64 (x:Nat)):=by
  obtain ⟨hc,hf⟩:=h.rules
  refine ⟨h.lt,hf,fun k hk=>⟨pl[k]'(by omega),?_⟩⟩
  rw [hc,Nat.add_comm]
  simp [scCells,hl,hk,ivN]
def ScopePost (w:World) (vs:List ByteArray) (pl:List Nat) (e:Ending) (w':World):Prop:=∃ nv,e=.returned (.agg (scCells nv pl).toArray)/\SIn w.heap.size w' nv vs/\Below w.heap.size w w'
theorem scopeOf_any (w:World) (c:PClause) (va vb ov:Value) (o:Option (List Int)) (hs:SIn lo w va c.head.args) (hb:LIn lo w vb c.body) (hl:c.head.args.length+sumArgs c.body<=1000) (hl2:c.body.length<=1000) (ho:OrdIn w ov o) (hol:(o.getD []).length<=1000) :
    Calls Tryz.prog 158 #[.agg #[.bool c.head.neg,.string c.head.pred,va,vb],ov] w fun e w'=>ScopePost w (plainVs c) (placesM (o.getD [])) e w':=by
  obtain ⟨ao,cap,rfl⟩:=hs.shape
  obtain ⟨aob,capb,rfl⟩:=hb.shape
  obtain ⟨aoo,capo,rfl⟩:=ho.shape
  have HP:Hid (∀ W,Below w.heap.size w W->Calls Tryz.prog 148 #[.agg #[.bool c.head.neg,.string c.head.pred,.slice ao c.head.args.length cap,.slice aob c.body.length capb]] W fun e w'=>∃ nv,e=.returned (.agg #[nv])/\w'.ownsRow W.heap.size 9 1 nv (plainVs c).length ((plainVs c).map Value.string)/\Below W.heap.size W w'):=fun W hW=>plain_any W c _ _ (hs.below hW) (hb.below hW) hl hl2
  have HO:Hid (OrdIn w (.slice aoo (o.getD []).length capo) o):=ho
  clear hs hb hl hl2 ho
  go_enter Tryz.func158,Tryz.ntmps158
  go_upto_region 2 with (first | (go_at_call 148;refine (HP.out _ (by exact (by repeat' (first | with_reducible (first | exact Below.refl _ _ | assumption | refine bdrewN ?_ _ | refine Below.alloc ?_ ?_ _ | refine Below.drew ?_ | refine Below.setCell ?_ ?_ _) | go_size)))).mono ?_;rintro e w1 ⟨nv,rfl,hown,hb1⟩;obtain ⟨ao4,cap4,rfl⟩:=own_view hown))
  have hB1:Below w.heap.size w w1:=bnext (by repeat' (first | with_reducible (first | exact Below.refl _ _ | assumption | refine bdrewN ?_ _ | refine Below.alloc ?_ ?_ _ | refine Below.drew ?_ | refine Below.setCell ?_ ?_ _) | go_size)) hb1 (Nat.le_refl _)
  have hz1:=hB1.size
  have hs1:SIn w.heap.size w1 (.slice ao4 (plainVs c).length cap4) (plainVs c):=own_low hown (by simp;omega)
  have hr1:=(Box.new (w.alloc (.cells #[.bool c.head.neg,.string c.head.pred,.slice ao c.head.args.length cap,.slice aob c.body.length capb] 171)) #[.slice none 0 0,.int .i64 0,.int .i64 0,.int .i64 0,.int .i64 0,.int .i64 0] 257).below hb1
  rw [World.size_alloc] at hr1
  have hne:w.heap.size+1 < w1.heap.size:=hr1.lt
  have hbs:=Box.new w1 (scCells (.slice ao4 (plainVs c).length cap4) (first5 0)).toArray 257
  have hgr:Below w1.heap.size w1 (w1.alloc (.cells (scCells (.slice ao4 (plainVs c).length cap4) (first5 0)).toArray 257)):=(by repeat' (first | with_reducible (first | exact Below.refl _ _ | assumption | refine bdrewN ?_ _ | refine Below.alloc ?_ ?_ _ | refine Below.drew ?_ | refine Below.setCell ?_ ?_ _) | go_size))
  have hs2:=hs1.below hgr
  have hr2:=hr1.below hgr
  have hB2:=bnext hB1 hgr (Nat.le_refl _)
  rw [show (scCells (.slice ao4 (plainVs c).length cap4) (first5 0)).toArray=#[.slice ao4 (plainVs c).length cap4,.int .i64 0,.int .i64 0,.int .i64 0,.int .i64 0,.int .i64 0] from rfl] at hs2 hr2 hB2
  rw [show (w1.alloc (.cells (scCells (.slice ao4 (plainVs c).length cap4) (first5 0)).toArray 257))=(w1.alloc (.cells #[.slice ao4 (plainVs c).length cap4,.int .i64 0,.int .i64 0,.int .i64 0,.int .i64 0,.int .i64 0] 257)) from rfl] at hbs
  clear hown hb1 hr1 hs1 HP hgr
  generalize hvs:plainVs c=vs at *
  have HVS:Hid (plainVs c=vs):=hvs
  clear hvs
  generalize hnv:Value.slice ao4 vs.length cap4=nv at *
  generalize w1.alloc (.cells #[nv,.int .i64 0,.int .i64 0,.int .i64 0,.int .i64 0,.int .i64 0] 257)=w2 at *
  generalize w1.heap.size=sb at *
  clear hB1 w1
  have HNV:Hid (Value.slice ao4 vs.length cap4=nv):=hnv
  clear hnv
  go_wp2
  go_loopw [12] (fun v12 wr=>∃ k:Nat,k<=5/\v12=.int .i64 k/\Box wr sb (scCells nv (first5 k)).toArray 257/\Box wr (w.heap.size+1) #[.slice none 0 0,.int .i64 0,.int .i64 0,.int .i64 0,.int .i64 0,.int .i64 0] 257/\SIn w.heap.size wr nv vs/\Below w.heap.size w wr) (fun i _=>5 - (intOf i).toNat)
  case atStart=>exact ⟨0,by omega,rfl,hbs,hr2,hs2,hB2⟩
  case round =>
    clear hbs hr2 hs2 hB2
    obtain ⟨k,hk,rfl,hbs,hr2,hs2,hB2⟩:=hrel
    have hsz:=hB2.size
    by_cases hlt:k < 5
    · have hlt2:(k:Int) < 5:=by omega
      obtain ⟨hsl,hsf,hsc⟩:=sc_cell (by simp [first5]) hbs
      obtain ⟨x,hx⟩:=hsc k hlt
      have hset:=hbs.set (1+k) (.int .i64 (k:Nat))
      rw [scCells_set,first5_set k hlt] at hset
      clear hsc
      go_wp2
      go_roundw
      case rel=>exact ⟨k+1,by omega,by go_num,hset,hr2.set_ne (by omega) _ _,own_but hs2 ((But.refl _ _).setCell _ _) hbs (by decide),hB2.setCell (by simp;omega) _⟩
      case measure=>simp [intOf];omega
    · obtain rfl:k=5:=by omega
      clear hk hlt
      have HF:Hid (first5 5=((o.getD []).take 0).zipIdx.foldl placeStep [0,1,2,3,4]):=rfl
      rw [HF.out] at hbs
      clear HF
      go_wp2
      go_loopw [22] (fun v22 wr=>∃ k:Nat,k<=(o.getD []).length/\v22=.int .i64 k/\Box wr sb (scCells nv (((o.getD []).take k).zipIdx.foldl placeStep [0,1,2,3,4])).toArray 257/\Box wr (w.heap.size+1) #[.slice none 0 0,.int .i64 0,.int .i64 0,.int .i64 0,.int .i64 0,.int .i64 0] 257/\SIn w.heap.size wr nv vs/\Below w.heap.size w wr) (fun i _=>(o.getD []).length - (intOf i).toNat)
      case atStart=>exact ⟨0,by omega,rfl,hbs,hr2,hs2,hB2⟩
      case round =>
        clear hbs hr2 hs2 hB2 hsz
        obtain ⟨k,hk,rfl,hbs,hr2,hs2,hB2⟩:=hrel
        have hsz:=hB2.size
        have hl5:(((o.getD []).take k).zipIdx.foldl placeStep [0,1,2,3,4]).length=5:=placesM_len _
        by_cases hlt:k < (o.getD []).length
        · obtain ⟨g,f,rfl,hg,hc⟩:=HO.out.cell k hlt
          have hx0:=(hB2.cell (p:=⟨g,f+k,none⟩) hg).trans hc
          have hgr:g < wr.heap.size:=by omega
          have HST:Hid (((o.getD []).take (k+1)).zipIdx.foldl placeStep [0,1,2,3,4]=placeStep (((o.getD []).take k).zipIdx.foldl placeStep [0,1,2,3,4]) ((o.getD [])[k],k)):=zip_take_succ hlt
          clear hc
          generalize (o.getD [])[k]=x at *
          generalize ((o.getD []).take k).zipIdx.foldl placeStep [0,1,2,3,4]=pl at *
          by_cases hin:0<=x/\x < 5
          · obtain ⟨n,rfl⟩:=Int.eq_ofNat_of_zero_le hin.1
            have hn2:=hin.2
            have hn:n < 5:=by omega
            obtain ⟨hsl,hsf,hsc⟩:=sc_cell hl5 hbs
            obtain ⟨y,hy⟩:=hsc n hn
            have hset:=hbs.set (1+n) (.int .i64 (k:Nat))
            rw [scCells_set] at hset
            have HST2:Hid (((o.getD []).take (k+1)).zipIdx.foldl placeStep [0,1,2,3,4]=pl.set n k):=by rw [Hid,HST.out,placeStep,if_pos hin];rfl
            clear hsc HST hin
            go_wp2
            go_roundw
            case rel=>exact ⟨k+1,by omega,by go_num,by rw [HST2.out];exact hset,hr2.set_ne (by omega) _ _,own_but hs2 ((But.refl _ _).setCell _ _) hbs (by decide),hB2.setCell (by simp;omega) _⟩
            case measure=>simp [intOf];omega
          · have HST2:Hid (((o.getD []).take (k+1)).zipIdx.foldl placeStep [0,1,2,3,4]=pl):=by rw [Hid,HST.out,placeStep,if_neg hin]
            clear HST
            rcases Int.lt_or_le x 0 with h0 | h0
            · clear hin
              go_wp2
              exact ⟨⟨_,_,_,⟨k+1,by omega,by go_num,by rw [HST2.out];exact hbs⟩,rfl,rfl,rfl⟩,by simp [intOf];omega⟩
            · have h5:5<=x:=by omega
              clear hin
              go_wp2
              go_roundw
              case rel=>exact ⟨k+1,by omega,by go_num,by rw [HST2.out];exact hbs,hr2,hs2,hB2⟩
              case measure=>simp [intOf];omega
        · have HPL:Hid (((o.getD []).take k).zipIdx.foldl placeStep [0,1,2,3,4]=placesM (o.getD [])):=by rw [Hid,List.take_of_length_le (by omega)];rfl
          rw [HPL.out] at hbs
          have H5:=placesM_len (o.getD [])
          generalize hpl:placesM (o.getD [])=pl at *
          obtain ⟨p0,p1,p2,p3,p4,rfl⟩:=five H5
          have HPE:Hid (placesM (o.getD [])=[p0,p1,p2,p3,p4]):=hpl
          clear hpl
          rw [show (scCells nv [p0,p1,p2,p3,p4]).toArray=#[nv,.int .i64 (p0:Nat),.int .i64 (p1:Nat),.int .i64 (p2:Nat),.int .i64 (p3:Nat),.int .i64 (p4:Nat)] from rfl] at hbs
          obtain ⟨hsc,hsf⟩:=hbs.rules
          have hsl:=hbs.lt
          obtain ⟨hrc,hrf⟩:=hr2.rules
          have hrl:=hr2.lt
          have hnv:=HNV.out
          subst hnv
          clear hl5 H5 HPL
          go_wp2
          (try simp only [Exit.inBlock,Exit.then])
          refine bodyPost_ret (v:=.agg (scCells (.slice ao4 vs.length cap4) [p0,p1,p2,p3,p4]).toArray) (by simp [results,Tryz.results158,go_sem,hrc,scCells,ivN]) rfl ⟨_,by rw [HPE.out],?_,?_⟩
          · rw [HVS.out]
            exact own_but hs2 (by repeat' (first | (with_reducible exact But.refl _ _) | (with_reducible assumption) | (with_reducible refine But.drewN ?_ _) | (with_reducible refine But.alloc ?_ _) | (with_reducible refine But.drew ?_) | (with_reducible refine But.setCell ?_ _ _) | (with_reducible refine But.setNew ?_ ?_ _) | go_size)) hr2 (by decide)
          · exact (((((hB2.setCell (by simp) _).setCell (by simp) _).setCell (by simp) _).setCell (by simp) _).setCell (by simp) _).setCell (by simp) _
def orderM (os:Option (List (Option (List Int)))) (k:Nat):Option (List Int):=(os.getD []).getD k none
theorem orderAt_any (w:World) (ov:Value) (os:Option (List (Option (List Int)))) (k:Nat) (h:OrdsIn w ov os) (_hl:(os.getD []).length<=2000000) :
    Calls Tryz.prog 116 #[ov,.int .i64 k] w fun e w'=>∃ u,e=.returned u/\OrdIn w u (orderM os k)/\w'=w:=by
  obtain ⟨ao,cap,rfl⟩:=h.shape
  by_cases hk:k < (os.getD []).length
  · obtain ⟨g,f,u,rfl,hg,hc,hu⟩:=h.cell k hk
    have HE:Hid (orderM os k=(os.getD [])[k]):=by simp [Hid,orderM,hk]
    have HU:Hid (OrdIn w u (os.getD [])[k]):=hu
    have hkk:(k:Int) < ((os.getD []).length:Int):=by omega
    obtain ⟨aou,capu,rfl⟩:=hu.shape
    clear h hu
    go_enter Tryz.func116,Tryz.ntmps116
    go_wp2
    go_ret
    exact ⟨_,rfl,by rw [HE.out];exact HU.out,rfl⟩
  · have HE:Hid (orderM os k=none):=by simp [Hid,orderM,List.getD_eq_getElem?_getD,List.getElem?_eq_none (Nat.not_lt.1 hk)]
    have hkk:((os.getD []).length:Int)<=(k:Int):=by omega
    clear h
    go_enter Tryz.func116,Tryz.ntmps116
    go_wp2
    go_ret
    exact ⟨_,rfl,by rw [HE.out];rfl,rfl⟩
end Go.Proofs.YteampbddflhngaaGreat

namespace Go.Proofs.YteampbddflhngaaGreat
set_option maxRecDepth 100000
set_option maxHeartbeats 2000000
open Go.RowKit
variable {lo:Nat}
def factM (t:List PEnt) (ns:List ByteArray) (c:PClause):PFact:=⟨findN t c.head.pred,rowL (litM t ns [] [0,0,0,0,0] c.head) [0,0,0,0,0]⟩
def factV (f:PFact):Value:=.agg #[.int .i64 (f.pred:Nat),.int .i64 (f.row.getD 0 0:Nat),.int .i64 (f.row.getD 1 0:Nat),.int .i64 (f.row.getD 2 0:Nat)]
theorem fact_any {lo2:Nat} (w:World) (mb tb o cb:Nat) (t:List PEnt) (ns:List ByteArray) (c:PClause) (va vb:Value) (h:MakerIn lo w mb tb o cb t ns) (hs:SIn lo2 w va c.head.args) (hb:LIn lo2 w vb c.body) (hal:c.head.args.length<=1000) :
    Calls Tryz.prog 118 #[.pointer (some ⟨mb,0,none⟩),.agg #[.bool c.head.neg,.string c.head.pred,va,vb]] w fun e w'=>e=.returned (factV (factM t ns c))/\Below w.heap.size w w':=by
  obtain ⟨ao,cap,rfl⟩:=hs.shape
  obtain ⟨aob,capb,rfl⟩:=hb.shape
  have HL:Hid (∀ W sb,Below w.heap.size w W->ScopeIn 0 W sb [] [0,0,0,0,0]->Calls Tryz.prog 160 #[.pointer (some ⟨mb,0,none⟩),.agg #[.bool c.head.neg,.string c.head.pred,.slice ao c.head.args.length cap],.pointer (some ⟨sb,0,none⟩)] W fun e w'=>∃ tv,e=.returned (.agg #[.int .i64 (findN t c.head.pred:Nat),tv])/\TermsIn W.heap.size w' tv (litM t ns [] [0,0,0,0,0] c.head).terms/\Below W.heap.size W w'):=fun W sb hW hsc=>lit_any W mb tb o cb sb t ns [] [0,0,0,0,0] c.head _ (h.below hW) hsc (by simp) (by simp) (hs.below hW) hal
  have HR:Hid (∀ W v (b0:Nat),TermsIn b0 W v (litM t ns [] [0,0,0,0,0] c.head).terms->Calls Tryz.prog 161 #[.agg #[.int .i64 (findN t c.head.pred:Nat),v],vals5 0 0 0 0 0] W fun r w'=>r=.returned (.agg #[.int .i64 (((factM t ns c).row.getD 0 0:Nat):Int),.int .i64 (((factM t ns c).row.getD 1 0:Nat):Int),.int .i64 (((factM t ns c).row.getD 2 0:Nat):Int)])/\Below W.heap.size W w'):=fun W v b0 hT=>row_lit W v (findN t c.head.pred) _ 0 0 0 0 0 hT
  have HE:Hid (factV (factM t ns c)=.agg #[.int .i64 (findN t c.head.pred:Nat),.int .i64 ((factM t ns c).row.getD 0 0:Nat),.int .i64 ((factM t ns c).row.getD 1 0:Nat),.int .i64 ((factM t ns c).row.getD 2 0:Nat)]):=rfl
  clear h hs hb
  have hsc:=Box.new ((w.alloc (.cells #[.bool c.head.neg,.string c.head.pred,.slice ao c.head.args.length cap,.slice aob c.body.length capb] 171)).alloc (.cells #[.int .i64 0,.int .i64 0,.int .i64 0,.int .i64 0] 210)) #[.slice none 0 0,.int .i64 0,.int .i64 0,.int .i64 0,.int .i64 0,.int .i64 0] 257
  have hrf:=(Box.new (w.alloc (.cells #[.bool c.head.neg,.string c.head.pred,.slice ao c.head.args.length cap,.slice aob c.body.length capb] 171)) #[.int .i64 0,.int .i64 0,.int .i64 0,.int .i64 0] 210).below ((Below.refl _ _).alloc (Nat.le_refl _) (.cells #[.slice none 0 0,.int .i64 0,.int .i64 0,.int .i64 0,.int .i64 0,.int .i64 0] 257))
  simp only [World.size_alloc] at hsc hrf
  generalize (factM t ns c).row.getD 0 0=x at *
  generalize (factM t ns c).row.getD 1 0=y at *
  generalize (factM t ns c).row.getD 2 0=z at *
  generalize (litM t ns [] [0,0,0,0,0] c.head).terms=ts at *
  generalize findN t c.head.pred=fp at *
  go_enter Tryz.func118,Tryz.ntmps118
  go_upto_region 3 with (first | (go_at_call 160;refine (HL.out _ _ (by exact (by repeat' (first | with_reducible (first | exact Below.refl _ _ | assumption | refine bdrewN ?_ _ | refine Below.alloc ?_ ?_ _ | refine Below.drew ?_ | refine Below.setCell ?_ ?_ _) | go_size))) (by exact ⟨_,0,0,0,0,0,rfl,hsc,SIn.nil _⟩)).mono ?_;rintro e w1 ⟨tv,rfl,hT,hb1⟩;obtain ⟨ao4,cap4,rfl⟩:=hT.shape))
  have hB1:Below w.heap.size w w1:=bnext (by repeat' (first | with_reducible (first | exact Below.refl _ _ | assumption | refine bdrewN ?_ _ | refine Below.alloc ?_ ?_ _ | refine Below.drew ?_ | refine Below.setCell ?_ ?_ _) | go_size)) hb1 (Nat.le_refl _)
  have hr1:=hrf.below hb1
  clear hsc hrf HL
  have hne:w.heap.size+1 < w1.heap.size:=hr1.lt
  have hgr:Below w1.heap.size w1 (w1.alloc (.cells #[.int .i64 (fp:Nat),.slice ao4 ts.length cap4] 204)):=(by repeat' (first | with_reducible (first | exact Below.refl _ _ | assumption | refine bdrewN ?_ _ | refine Below.alloc ?_ ?_ _ | refine Below.drew ?_ | refine Below.setCell ?_ ?_ _) | go_size))
  have hl2:=Box.new w1 #[.int .i64 (fp:Nat),.slice ao4 ts.length cap4] 204
  have hr2:=hr1.below hgr
  have HT2:Hid (TermsIn _ _ _ ts):=hT.below hgr
  have hB2:=bnext hB1 hgr (Nat.le_refl _)
  clear hT hr1 hb1 hgr
  generalize w1.alloc (.cells #[.int .i64 (fp:Nat),.slice ao4 ts.length cap4] 204)=w2 at *
  generalize w1.heap.size=lb at *
  clear hB1 w1
  obtain ⟨hl2c,hl2f⟩:=hl2.rules
  have hl2l:=hl2.lt
  have hz2:=hB2.size
  go_region_held3 (fun w'=>w'.cell? ⟨lb,0,none⟩=some (.int .i64 (fp:Nat))/\w'.cell? ⟨lb,1,none⟩=some (.slice ao4 ts.length cap4)) (first | go_keep | (go_simp;done)) (first | (go_at_call 161;refine (HR.out _ _ _ (by exact HT2.out.below (by repeat' (first | with_reducible (first | exact Below.refl _ _ | assumption | refine bdrewN ?_ _ | refine Below.alloc ?_ ?_ _ | refine Below.drew ?_ | refine Below.setCell ?_ ?_ _) | go_size)))).mono ?_;rintro e w3 ⟨rfl,hb3⟩;have hB3:Below w2.heap.size w2 w3:=(bnext (by repeat' (first | with_reducible (first | exact Below.refl _ _ | assumption | refine bdrewN ?_ _ | refine Below.alloc ?_ ?_ _ | refine Below.drew ?_ | refine Below.setCell ?_ ?_ _) | go_size)) hb3 (Nat.le_refl _));have hl3:=hl2.below hB3;have hr3:=hr2.below hB3;obtain ⟨hl3c,hl3f⟩:=hl3.rules;obtain ⟨hr3c,hr3f⟩:=hr3.rules;have hr3l:=hr3.lt))
  all_goals
    go_wp2
    (try simp only [Exit.inBlock,Exit.then])
    exact bodyPost_ret (v:=.agg #[.int .i64 (fp:Nat),.int .i64 (x:Nat),.int .i64 (y:Nat),.int .i64 (z:Nat)]) (by simp [results,Tryz.results118,go_sem,hr3c]) rfl ⟨by rw [HE.out],((((bnext hB2 hB3 (Nat.le_refl _)).setCell (by simp) _).setCell (by simp) _).setCell (by simp) _).setCell (by simp) _⟩
end Go.Proofs.YteampbddflhngaaGreat
