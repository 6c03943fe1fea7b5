import Derived.Test.YteampbddflhngaaGreatB26

namespace Go.Proofs.YteampbddflhngaaGreat
set_option maxRecDepth 100000
set_option maxHeartbeats 4000000
open Go.RowKit
variable {lo:Nat}
def partB (ps:List VParts) (place:Nat):List Nat:=ps.zipIdx.map fun x=>if x.2 < place then x.1.bb else if x.2=place then x.1.fb else x.1.ab
theorem partly_len (vs:List PView) (pl:Nat):(partly vs pl).length=vs.length:=by simp [partly]
theorem part_trie {w:World} {own:Nat->Role} {k wd p:Nat} {W:PWork} {P:WParts} (h:WorkO lo w own k wd W P) (pl i:Nat) (h1:i < W.views.length) (h2:i < P.vps.length) (h3:i < (partly W.views pl).length) (h4:i < (partB P.vps pl).length):∃ ρ,ρ≠(0,p,0)/\TrieO lo w own ρ (partB P.vps pl)[i] (partly W.views pl)[i]:=by
  have hv:=h.view i h1 h2
  simp only [partB,partly,List.getElem_map,List.getElem_zipIdx,Nat.zero_add]
  split
  · exact ⟨_,by simp,hv.before⟩
  · split
    · exact ⟨_,by simp,hv.fresh⟩
    · exact ⟨_,by simp,hv.all⟩
attribute [local go_sem] bj_fold
theorem partly_any (w:World) (own:Nat->Role) (k wd p gw o pl:Nat) (W:PWork) (P:WParts) (nots:List PTrie) (h:WorkO lo w own k wd W P) (hc:WC w gw o W.rule P) (hlo:lo<=w.heap.size) (hpl:pl<=1000000) (hn:nots.length=W.rule.nots.length) (hnt:∀ i (h1:i < nots.length) (h2:i < P.nbs.length),∃ ρ,ρ≠(0,p,0)/\TrieO lo w own ρ P.nbs[i] nots[i]) :
    Calls Tryz.prog 210 #[.pointer (some ⟨gw,o,none⟩),.int .i64 pl] w fun e w'=>JoinPost lo w own p (joinNew W.rule (partly W.views pl) nots) e w':=by
  obtain ⟨i0,hi,hz0,hzs,hzb⟩:=info_parts Tryz.infoTP
  have HNEW:Hid (∀ W' pb,Below w.heap.size w W'->W'.ownsRow w.heap.size 162 1 (.slice (some ⟨pb,0,none⟩) W.views.length W.views.length) W.views.length (pts (partB P.vps pl))->Calls Tryz.prog 214 #[ruleV W.rule P.tv P.pv P.nv,.slice (some ⟨pb,0,none⟩) W.views.length W.views.length,P.ntv] W' fun e w'=>JoinPost lo W' own p (joinNew W.rule (partly W.views pl) nots) e w'):=fun W' pb hB hrow=>by
    have q:=joinNew_any (p:=p) (pb:=pb) (plain:=partly W.views pl) (bs:=partB P.vps pl) (nots:=nots) (W':=W') h hlo (by simp [partly]) (by simp [partB,partly,h.vlen]) (fun i h1 h2=>part_trie h pl i (by simpa [partly] using h1) (by simpa [partB] using h2) h1 h2) hn hnt hB (by rw [partly_len];exact hrow)
    rw [partly_len] at q
    exact q
  have HJ0:Hid (∀ i (h1:i < W.views.length) (h2:i < P.vps.length),∃ g cap,P.vv=.slice (some ⟨g,0,none⟩) W.views.length cap/\g < w.heap.size/\w.cell? ⟨g,i * 6,none⟩=some (.int .i64 (W.views[i].lit.pred:Nat))/\w.cell? ⟨g,i * 6+1,none⟩=some P.vps[i].tv/\w.cell? ⟨g,i * 6+2,none⟩=some (.int .i64 (wd:Nat))/\w.cell? ⟨g,i * 6+3,none⟩=some (.pointer (some ⟨P.vps[i].bb,0,none⟩))/\w.cell? ⟨g,i * 6+4,none⟩=some (.pointer (some ⟨P.vps[i].fb,0,none⟩))/\w.cell? ⟨g,i * 6+5,none⟩=some (.pointer (some ⟨P.vps[i].ab,0,none⟩))):=fun i a b=>h.viewAt i a b
  have HTV:Hid (∀ i (h1:i < W.views.length) (h2:i < P.vps.length),∃ ao cap,P.vps[i].tv=.slice ao W.views[i].lit.terms.length cap):=fun i a b=>(h.view i a b).terms.shape
  have HVL:Hid (P.vps.length=W.views.length):=h.vlen
  have hfew:=h.few
  obtain ⟨aov,capv,hvv⟩:=own_view h.views
  obtain ⟨aot,capt,htv⟩:=h.rule.head.shape
  obtain ⟨aop,capp,hpv⟩:=h.rule.plain.shape
  obtain ⟨aon,capn,hnv⟩:=h.rule.nots.shape
  obtain ⟨aob,capb,hntv⟩:=own_view h.nots
  have HW:Hid (WC w gw o W.rule P):=hc
  have HVV:Hid (P.vv=.slice aov W.views.length capv):=hvv
  have HTT:Hid (P.tv=.slice aot W.rule.head.terms.length capt/\P.pv=.slice aop W.rule.plain.length capp/\P.nv=.slice aon W.rule.nots.length capn/\P.ntv=.slice aob W.rule.nots.length capb):=⟨htv,hpv,hnv,hntv⟩
  have hmk:=fun W0:World=>run_make (P:=Tryz.prog) (w:=W0) 150 162 i0 _ Tryz.underlying150 hi hz0 .i64 .i64 (W.views.length:Int) (W.views.length:Int) (by omega) (Int.le_refl _) (by rw [hzb];omega) (by omega)
  rw [hzs] at hmk
  have hc6:=hc.c6
  rw [hvv] at hc6
  have hcl:=hc.lt
  have hcf:=hc.free
  clear h hc hnt hvv htv hpv hnv hntv
  go_enter Tryz.func210,Tryz.ntmps210
  go_upto_region 3 with fail
  have hB1:Below w.heap.size w ((w.alloc (.cells (bj 0 0 0 none none 0 0 0 0).toArray 310)).alloc (.cells (madeCells #[.pointer none] W.views.length) 162)):=(by repeat' (first | with_reducible (first | exact Below.refl _ _ | assumption | refine bdrewN ?_ _ | refine Below.alloc ?_ ?_ _ | refine Below.drew ?_ | refine Below.setCell ?_ ?_ _) | go_size))
  have hrow:=own_madeV (w.alloc (.cells (bj 0 0 0 none none 0 0 0 0).toArray 310)) W.views.length 162 (.pointer none) (by unfold maxLen;omega)
  rw [World.size_alloc] at hrow
  have hth:thereJ ((w.alloc (.cells (bj 0 0 0 none none 0 0 0 0).toArray 310)).alloc (.cells (madeCells #[.pointer none] W.views.length) 162)) w.heap.size:=thereJ_new2 _ _ _ _ _ _ _ _ _ _ _
  have hbl:(partB P.vps pl).length=W.views.length:=by simp [partB,HVL.out]
  have HR0:Hid (((w.alloc (.cells (bj 0 0 0 none none 0 0 0 0).toArray 310)).alloc (.cells (madeCells #[.pointer none] W.views.length) 162)).ownsRow w.heap.size 162 1 (.slice (some ⟨w.heap.size+1,0,none⟩) W.views.length W.views.length) W.views.length (laidT (partB P.vps pl) 0)):=by
    have e:laidT (partB P.vps pl) 0=List.replicate W.views.length (.pointer none):=by simp [laidT,partB,HVL.out]
    rw [Hid,e]
    exact own_low hrow (by omega)
  have HBE:Hid ((partB P.vps pl).length=W.views.length):=hbl
  have HBI:Hid (∀ i (h1:i < P.vps.length) (h2:i < (partB P.vps pl).length),(partB P.vps pl)[i]=if i < pl then P.vps[i].bb else if i=pl then P.vps[i].fb else P.vps[i].ab):=fun i a b=>by simp [partB]
  clear hrow hbl hc6 hcl hcf hmk
  generalize (w.alloc (.cells (bj 0 0 0 none none 0 0 0 0).toArray 310)).alloc (.cells (madeCells #[.pointer none] W.views.length) 162)=w1 at *
  generalize partB P.vps pl=bs at *
  have HTH:Hid (thereJ w1 w.heap.size):=hth
  clear hth
  go_loopw [19] (fun v17 wr=>∃ m:Nat,m<=W.views.length/\v17=.int .i64 m/\Below w.heap.size w wr/\Hid (thereJ wr w.heap.size)/\Hid (wr.ownsRow w.heap.size 162 1 (.slice (some ⟨w.heap.size+1,0,none⟩) W.views.length W.views.length) W.views.length (laidT bs m))) (fun i _=>W.views.length - (intOf i).toNat)
  case atStart=>exact ⟨0,Nat.zero_le _,rfl,hB1,HTH,HR0⟩
  case round =>
    clear HR0 HTH hB1
    obtain ⟨m,hm,rfl,hbk,HTH,HR⟩:=hrel
    have hszk:=hbk.size
    by_cases hlt:m < W.views.length
    · have hm2:m < P.vps.length:=by rw [HVL.out];exact hlt
      have hmb:m < bs.length:=by rw [HBE.out];exact hlt
      obtain ⟨gv,capv',hvv',hgv,q0,q1,q2,q3,q4,q5⟩:=HJ0.out m hlt hm2
      rw [HVV.out] at hvv'
      simp only [Value.slice.injEq] at hvv'
      have hgg:=hvv'.1
      clear hvv'
      subst hgg
      obtain ⟨aoq,capq,hq⟩:=HTV.out m hlt hm2
      rw [hq] at q1
      have x0:=(hbk.cell (p:=⟨gv,m * 6,none⟩) hgv).trans q0
      have x1:=(hbk.cell (p:=⟨gv,m * 6+1,none⟩) hgv).trans q1
      have x2:=(hbk.cell (p:=⟨gv,m * 6+2,none⟩) hgv).trans q2
      have x3:=(hbk.cell (p:=⟨gv,m * 6+3,none⟩) hgv).trans q3
      have x4:=(hbk.cell (p:=⟨gv,m * 6+4,none⟩) hgv).trans q4
      have x5:=(hbk.cell (p:=⟨gv,m * 6+5,none⟩) hgv).trans q5
      have hgr:gv < wr.heap.size:=by omega
      have hrow:=HR.out
      have hll:=laidT_len bs m (by omega)
      obtain ⟨sx,hsx⟩:∃ sx,wr.cell? ⟨w.heap.size+1,m,none⟩=some sx:=by
        obtain ⟨g',cap',hv',_,_,hcl'⟩:=own_cells hrow (by omega)
        simp only [Value.slice.injEq,Option.some.injEq,Addr.mk.injEq,and_true] at hv'
        have e:=hv'.1
        subst e
        exact ⟨_,hcl' m _ (List.getElem?_eq_getElem (by omega))⟩
      have hsf:=own_free hrow
      have hpl:w.heap.size+1 < wr.heap.size:=own_lt hrow rfl
      obtain ⟨xb,hxb⟩:∃ xb,xb=(if m < pl then P.vps[m].bb else if m=pl then P.vps[m].fb else P.vps[m].ab):=⟨_,rfl⟩
      have HSS:Hid ((laidT bs m).set m (.pointer (some ⟨xb,0,none⟩))=laidT bs (m+1)):=by
        have q:=laidT_set bs m hmb
        rw [HBI.out m hm2 hmb,← hxb] at q
        exact q
      have hgrow:Below (wr.setCell ⟨w.heap.size+1,m,none⟩ (.pointer (some ⟨xb,0,none⟩))).heap.size (wr.setCell ⟨w.heap.size+1,m,none⟩ (.pointer (some ⟨xb,0,none⟩))) ((wr.setCell ⟨w.heap.size+1,m,none⟩ (.pointer (some ⟨xb,0,none⟩))).alloc (.cells #[.int .i64 (W.views[m].lit.pred:Nat),.slice aoq W.views[m].lit.terms.length capq,.int .i64 (wd:Nat),.pointer (some ⟨P.vps[m].bb,0,none⟩),.pointer (some ⟨P.vps[m].fb,0,none⟩),.pointer (some ⟨P.vps[m].ab,0,none⟩)] 301)):=(by repeat' (first | with_reducible (first | exact Below.refl _ _ | assumption | refine bdrewN ?_ _ | refine Below.alloc ?_ ?_ _ | refine Below.drew ?_ | refine Below.setCell ?_ ?_ _) | go_size))
      have hth2:=thereJ_below (thereJ_set (o:=m) (u:=.pointer (some ⟨xb,0,none⟩)) HTH.out (show w.heap.size≠w.heap.size+1 by omega)) hgrow
      have hset0:=own_set hrow m (by omega) (.pointer (some ⟨xb,0,none⟩))
      rw [HSS.out] at hset0
      have hset:=owns_below hset0 hgrow
      have hb5:Below w.heap.size w ((wr.setCell ⟨w.heap.size+1,m,none⟩ (.pointer (some ⟨xb,0,none⟩))).alloc (.cells #[.int .i64 (W.views[m].lit.pred:Nat),.slice aoq W.views[m].lit.terms.length capq,.int .i64 (wd:Nat),.pointer (some ⟨P.vps[m].bb,0,none⟩),.pointer (some ⟨P.vps[m].fb,0,none⟩),.pointer (some ⟨P.vps[m].ab,0,none⟩)] 301)):=bnext (hbk.setCell (by simp) _) hgrow (Nat.le_refl _)
      clear hset0
      have hmkk:(m:Int) < (W.views.length:Int):=by omega
      clear q0 q1 q2 q3 q4 q5 hll hq HSS
      generalize W.views[m].lit.pred=vp at *
      generalize W.views[m].lit.terms.length=vt at *
      generalize P.vps[m].bb=bbm at *
      generalize P.vps[m].fb=fbm at *
      generalize P.vps[m].ab=abm at *
      have HXB:Hid (xb=(if m < pl then bbm else if m=pl then fbm else abm)):=hxb
      clear hxb
      by_cases g1:m < pl
      · have g1':(m:Int) < (pl:Int):=by omega
        obtain rfl:xb=bbm:=by rw [HXB.out,if_pos g1]
        clear HXB
        go_wp2
        exact ⟨⟨m+1,by omega,by go_num,hb5,hth2,hset⟩,by simp [intOf];omega⟩
      · have g1':¬ (m:Int) < (pl:Int):=by omega
        by_cases g2:m=pl
        · have g2':((m:Int) == (pl:Int))=true:=by rw [beq_iff_eq];omega
          obtain rfl:xb=fbm:=by rw [HXB.out,if_neg g1,if_pos g2]
          have HG2:Hid (m=pl):=g2
          clear HXB g2
          go_wp2
          exact ⟨⟨m+1,by omega,by go_num,hb5,hth2,hset⟩,by simp [intOf];omega⟩
        · have g2':((m:Int) == (pl:Int))=false:=by rw [beq_eq_false_iff_ne];omega
          obtain rfl:xb=abm:=by rw [HXB.out,if_neg g1,if_neg g2]
          clear HXB
          go_wp2
          exact ⟨⟨m+1,by omega,by go_num,hb5,hth2,hset⟩,by simp [intOf];omega⟩
    · obtain rfl:m=W.views.length:=by omega
      have HRA:Hid (wr.ownsRow w.heap.size 162 1 (.slice (some ⟨w.heap.size+1,0,none⟩) W.views.length W.views.length) W.views.length (pts bs)):=by
        have q:=HR.out
        rw [← HBE.out,laidT_all,HBE.out] at q
        exact q
      have hw2:=HW.out.below hbk
      obtain ⟨t1,t2,t3,t4⟩:=HTT.out
      obtain ⟨hgl,hgf,d0,d1,d2,d3,d4,d5,d6,d7⟩:=hw2
      rw [t1] at d3
      rw [t2] at d4
      rw [t3] at d5
      rw [t4] at d7
      have hgne:gw≠w.heap.size:=by have:=HW.out.lt;omega
      have HNW:Hid (∀ W0,Below wr.heap.size wr W0->Calls Tryz.prog 214 #[.agg #[.int .i64 (W.rule.stratum:Nat),.int .i64 (W.rule.vars:Nat),.int .i64 (W.rule.head.pred:Nat),.slice aot W.rule.head.terms.length capt,.slice aop W.rule.plain.length capp,.slice aon W.rule.nots.length capn],.slice (some ⟨w.heap.size+1,0,none⟩) W.views.length W.views.length,.slice aob W.rule.nots.length capb] W0 fun e w'=>JoinPost lo W0 own p (joinNew W.rule (partly W.views pl) nots) e w'):=fun W0 hW0=>by
        have q:=HNEW.out W0 (w.heap.size+1) (bnext hbk hW0 (Nat.le_refl _)) (owns_below HRA.out hW0)
        rw [ruleV,t1,t2,t3,t4] at q
        exact q
      clear t1 t2 t3 t4 d6 HNEW hlt hm
      generalize hJe:joinNew W.rule (partly W.views pl) nots=J at *
      have HJE:Hid (joinNew W.rule (partly W.views pl) nots=J):=hJe
      clear hJe
      go_wp2
      go_region_held3 (fun w'=>w'.cell? ⟨gw,o,none⟩=some (.int .i64 (W.rule.stratum:Nat))/\w'.cell? ⟨gw,o+1,none⟩=some (.int .i64 (W.rule.vars:Nat))/\w'.cell? ⟨gw,o+2,none⟩=some (.int .i64 (W.rule.head.pred:Nat))/\w'.cell? ⟨gw,o+3,none⟩=some (.slice aot W.rule.head.terms.length capt)/\w'.cell? ⟨gw,o+4,none⟩=some (.slice aop W.rule.plain.length capp)/\w'.cell? ⟨gw,o+5,none⟩=some (.slice aon W.rule.nots.length capn)/\w'.cell? ⟨gw,o+7,none⟩=some (.slice aob W.rule.nots.length capb)) (first | (exact ⟨d20,d21,d22,d23,d24,d25,d27⟩) | (exact ⟨(putJ_cell _ _ _ _ _ hgne).trans d20,(putJ_cell _ _ _ _ _ hgne).trans d21,(putJ_cell _ _ _ _ _ hgne).trans d22,(putJ_cell _ _ _ _ _ hgne).trans d23,(putJ_cell _ _ _ _ _ hgne).trans d24,(putJ_cell _ _ _ _ _ hgne).trans d25,(putJ_cell _ _ _ _ _ hgne).trans d27⟩) | go_keep | (go_simp;done)) (first | (go_at_call 214;refine (HNW.out _ (by exact (by repeat' (first | with_reducible (first | exact Below.refl _ _ | assumption | refine bdrewN ?_ _ | refine Below.alloc ?_ ?_ _ | refine Below.drew ?_ | refine Below.setCell ?_ ?_ _) | go_size)))).mono ?_;rintro e w2 ⟨PJ,rfl,hJM,hJR,hb2⟩;have hB2:Below wr.heap.size wr w2:=(bnext (by repeat' (first | with_reducible (first | exact Below.refl _ _ | assumption | refine bdrewN ?_ _ | refine Below.alloc ?_ ?_ _ | refine Below.drew ?_ | refine Below.setCell ?_ ?_ _) | go_size)) hb2 (Nat.le_refl _));have hw3:=HW.out.below (bnext hbk hB2 (Nat.le_refl _));obtain ⟨hgl2,hgf2,d20,d21,d22,d23,d24,d25,_,d27⟩:=hw3;rw [HTT.out.1] at d23;rw [HTT.out.2.1] at d24;rw [HTT.out.2.2.1] at d25;rw [HTT.out.2.2.2] at d27;have hth2:=thereJ_below HTH.out hB2;have hst:=run_storeJ hJM hth2;have hlen:=jcells_len J PJ hJM.hlen.1 hJM.fives;have HJM:Hid (JMade lo w2 J PJ):=hJM;have HJR:Hid (JRole own PJ p):=hJR;clear hJM hJR;generalize hcs:jcells J PJ=cs at *;have HCS:Hid (jcells J PJ=cs):=hcs;clear hcs))
      have hb6:=putJ_box (cs:=cs) hth2 hlen
      have hs6:=putJ_save w2 w.heap.size cs
      have hJ4:=HJM.out.saveJ hs6 (OfT.box hth2.choose_spec.1)
      have hb4:Below w.heap.size w (putJ w2 w.heap.size cs):=(bnext hbk hB2 (Nat.le_refl _)).trans (hs6.below (by simp) (by have:=hB2.size;omega))
      clear hst d0 d1 d2 d3 d4 d5 d7 d20 d21 d22 d23 d24 d25 d27 hgf hgf2
      generalize putJ w2 w.heap.size cs=w5 at *
      go_wp2
      (try simp only [Exit.inBlock,Exit.then])
      exact bodyPost_ret (v:=.agg cs.toArray) (results_cell rfl _ _ _ _ _ (by rfl) (run_loadVar_mid w5 w.heap.size 0 310 cs _ hb6.range Tryz.underlying310 rfl (by rw [hlen];exact Tryz.infoJoin))) rfl ⟨PJ,by rw [HJE.out,HCS.out],by rw [HJE.out];exact hJ4,HJR.out,hb4⟩
end Go.Proofs.YteampbddflhngaaGreat

namespace Go.Proofs.YteampbddflhngaaGreat
set_option maxRecDepth 100000
set_option maxHeartbeats 4000000
open Go.RowKit
variable {lo:Nat}
structure WCc (c:Array Value) (o:Nat) (r:PRule) (P:WParts):Prop where
  c0:c[o]?=some (.int .i64 (r.stratum:Nat))
  c1:c[o+1]?=some (.int .i64 (r.vars:Nat))
  c2:c[o+2]?=some (.int .i64 (r.head.pred:Nat))
  c3:c[o+3]?=some P.tv
  c4:c[o+4]?=some P.pv
  c5:c[o+5]?=some P.nv
  c6:c[o+6]?=some P.vv
  c7:c[o+7]?=some P.ntv
theorem WCc.at {w:World} {gw o:Nat} {T:TypeId} {c:Array Value} {r:PRule} {P:WParts} (h:WCc c o r P) (hb:Box w gw c T):WC w gw o r P:=by
  obtain ⟨hc,hf⟩:=hb.rules
  exact ⟨hb.lt,hf,(hc _).trans h.c0,(hc _).trans h.c1,(hc _).trans h.c2,(hc _).trans h.c3,(hc _).trans h.c4,(hc _).trans h.c5,(hc _).trans h.c6,(hc _).trans h.c7⟩
theorem WorkO.mod {ok:TypeId->Role->Prop} {w w':World} {own own':Nat->Role} {k wd:Nat} {W:PWork} {P:WParts} (h:WorkO lo w own k wd W P) (m:Mod lo ok w own w' own') (h1:∀ ρ,¬ ok 284 ρ) (h2:∀ ρ,¬ ok 204 ρ) (h3:¬ ok 301 (k+1,0,9)) (h4:∀ ρ,¬ ok 162 ρ) (h5:∀ i j t,¬ NoT t->¬ ok t (k+1,i,j)):WorkO lo w' own' k wd W P :=
  ⟨h.rule.mod m h1 h2,ownModR h.views m fun b hb=>by rw [h.vrole b hb];exact h3,h.vlen,fun i a b=>(h.view i a b).mod m (h5 i) h1,fun b hb=>by rw [m.old b (own_lt h.views hb)];exact h.vrole b hb,ownMod h.nots m h4,h.nlen,h.few⟩
theorem okAll_no {p:Nat} {t:TypeId} (h0:NoT t) (h:t∉[214,161,165,310,323]):∀ ρ,¬ okAll p t ρ:=fun ρ q=>by
  rcases q with (q | q | q | q) | q
  · exact q.1 h0
  · subst q;exact h (by decide)
  · subst q;exact h (by decide)
  · rw [q.1] at h;exact h (by decide)
  · rcases List.mem_cons.1 q with rfl | q
    · exact h (by decide)
    · rcases List.mem_cons.1 q with rfl | q
      · exact h (by decide)
      · cases q
theorem okAll_t {p:Nat} {t:TypeId} {ρ:Role} (h0:¬ NoT t) (h:ρ≠(0,p,0)):¬ okAll p t ρ:=fun q=>by
  rcases q with (q | q | q | q) | q
  · exact h q.2
  · subst q;exact h0 (by decide)
  · subst q;exact h0 (by decide)
  · rw [q.1] at h0;exact h0 (by decide)
  · rcases List.mem_cons.1 q with rfl | q
    · exact h0 (by decide)
    · rcases List.mem_cons.1 q with rfl | q
      · exact h0 (by decide)
      · cases q
theorem WorkO.all {w w':World} {own own':Nat->Role} {k wd p:Nat} {W:PWork} {P:WParts} (h:WorkO lo w own k wd W P) (m:Mod lo (okAll p) w own w' own'):WorkO lo w' own' k wd W P :=
  h.mod m (okAll_no (by decide) (by decide)) (okAll_no (by decide) (by decide)) (okAll_no (by decide) (by decide) _) (okAll_no (by decide) (by decide)) (fun _ _ _ ht=>okAll_t ht (by simp))
def NotsAt (tbs:List Nat) (n:Nat) (r:PRule) (nbs:List Nat):Prop:=∀ i (h1:i < r.nots.length) (h2:i < nbs.length),r.nots[i].pred≠r.head.pred/\r.nots[i].pred < n/\∃ h3:r.nots[i].pred < tbs.length,nbs[i]=tbs[r.nots[i].pred]
theorem notsR_len (wd:Nat) (R:PRun) (r:PRule):(notsR wd R r).length=r.nots.length:=by simp [notsR]
theorem NotsAt.tries {w:World} {own:Nat->Role} {rb:Nat} {R:PRun} {wd mr mx:Nat} {Q:RParts} {r:PRule} {nbs:List Nat} (h:NotsAt Q.tbs R.rows.length r nbs) (hR:RunO lo w own rb R wd mr mx Q) (hl:nbs.length=r.nots.length):∀ i (h1:i < (notsR wd R r).length) (h2:i < nbs.length),∃ ρ,ρ≠(0,r.head.pred,0)/\TrieO lo w own ρ nbs[i] (notsR wd R r)[i]:=by
  intro i h1 h2
  obtain ⟨q1,q2,q3,q4⟩:=h i (by omega) h2
  refine ⟨(0,r.nots[i].pred,0),by simp [q1],?_⟩
  have e:(notsR wd R r)[i]=R.rows[r.nots[i].pred]:=by
    simp only [notsR,List.getElem_map,rowsOfR]
    rw [if_neg (by omega)]
    simp [q2]
  rw [e,q4]
  exact hR.tries _ q2 q3
theorem addR_len {mr:Nat} {R R':PRun} {p:Nat} {row:PRow} {b:Bool} (h:addR mr R p row=some (R',b)):R'.rows.length=R.rows.length:=by
  obtain ⟨_,_,_,_,_,hc⟩:=addR_some h
  rcases hc with ⟨_,rfl,_⟩ | ⟨_,rfl,_⟩ <;> simp
theorem addAllN_len {mr p:Nat}:∀ (n:Nat) (R R':PRun) (J:PJoin) (b:Bool),addAllN mr p n R J=some (R',b)->R'.rows.length=R.rows.length
  | 0,R,R',J,b,h=>by simp [addAllN] at h
  | n+1,R,R',J,b,h=>by
    unfold addAllN at h
    cases hn:nextJ n J with
    | none=>rw [hn] at h;cases h
    | some ar =>
      obtain ⟨J2,bn⟩:=ar
      rw [hn] at h
      cases bn with
      | false =>
        simp only [Option.some.injEq,Prod.mk.injEq] at h
        rw [← h.1]
      | true =>
        dsimp only at h
        cases ha:addR mr R p (rowL J2.head J2.values) with
        | none=>rw [ha] at h;cases h
        | some ar2 =>
          obtain ⟨R3,b3⟩:=ar2
          rw [ha] at h
          cases b3 with
          | false =>
            simp only [Option.some.injEq,Prod.mk.injEq] at h
            rw [← h.1]
            exact addR_len ha
          | true=>exact (addAllN_len n R3 R' J2 b h).trans (addR_len ha)
attribute [local go_sem] bj_fold
theorem JMade.laid {w:World} {J:PJoin} {PJ:JParts} (h:JMade lo w J PJ) (hl:lo<=w.heap.size):JIn lo (putJ (w.alloc (.cells (bj 0 0 0 none none 0 0 0 0).toArray 310)) w.heap.size (jcells J PJ)) w.heap.size J PJ/\Below w.heap.size w (putJ (w.alloc (.cells (bj 0 0 0 none none 0 0 0 0).toArray 310)) w.heap.size (jcells J PJ)):=by
  have hgr:Below w.heap.size w (w.alloc (.cells (bj 0 0 0 none none 0 0 0 0).toArray 310)):=(Below.refl _ _).alloc (Nat.le_refl _) _
  have ht:=thereJ_new0 w 0 0 0 none none 0 0 0 0
  have hbx:=putJ_box ht (jcells_len J PJ h.hlen.1 h.fives)
  have hs:=putJ_save (w.alloc (.cells (bj 0 0 0 none none 0 0 0 0).toArray 310)) w.heap.size (jcells J PJ)
  obtain ⟨c0,hc0,_⟩:=ht
  exact ⟨((h.below hgr).saveJ hs (OfT.box hc0)).join hl hbx,hgr.trans (hs.below (fun x hx=>by simp at hx;omega) (by simp))⟩
theorem apply_first (w:World) (own:Nat->Role) (rb gw o k:Nat) (c:Array Value) (R R':PRun) (W:PWork) (P:WParts) (wd mr mx:Nat) (Q:RParts) (n:Nat) (b:Bool) (h:RunO lo w own rb R wd mr mx Q) (hw:WorkO lo w own k wd W P) (hbx:Box w gw c 292) (hcc:WCc c o W.rule P) (hna:NotsAt Q.tbs R.rows.length W.rule P.nbs) (hlo:lo<=w.heap.size) (hr:applyR n wd mr true R W=some (R',b)) :
    Calls Tryz.prog 193 #[.pointer (some ⟨rb,0,none⟩),.pointer (some ⟨gw,o,none⟩),.bool true] w fun e w'=>AllPost lo w own rb W.rule.head.pred R' b wd mr mx Q e w':=by
  have hr2:addAllN mr W.rule.head.pred n R (joinNew W.rule (W.views.map (·.all)) (notsR wd R W.rule))=some (R',b):=hr
  have HWH:Hid (Calls Tryz.prog 207 #[.pointer (some ⟨gw,o,none⟩)] w fun e w'=>JoinPost lo w own W.rule.head.pred (joinNew W.rule (W.views.map (·.all)) (notsR wd R W.rule)) e w'):=whole_any w own k wd W.rule.head.pred gw o W P _ hw (hcc.at hbx) hlo (notsR_len _ _ _) (hna.tries h hw.nlen)
  have HAL:Hid (∀ W0 jb PJ,Below w.heap.size w W0->JIn lo W0 jb (joinNew W.rule (W.views.map (·.all)) (notsR wd R W.rule)) PJ->JRole own PJ W.rule.head.pred->Calls Tryz.prog 208 #[.pointer (some ⟨rb,0,none⟩),.int .i64 (W.rule.head.pred:Nat),.pointer (some ⟨jb,0,none⟩)] W0 fun e w'=>AllPost lo W0 own rb W.rule.head.pred R' b wd mr mx Q e w'):=fun W0 jb PJ hW0 hj hro=>addAll_any W0 own rb jb R R' _ PJ wd mr mx Q W.rule.head.pred n b (h.below hW0) hj hro (by have:=hW0.size;omega) hr2
  have hwc:=hcc.at hbx
  have HWC:Hid (WC w gw o W.rule P):=hwc
  have HLO:Hid (lo<=w.heap.size):=hlo
  clear hr hr2 hna hw h hcc hlo hwc
  generalize joinNew W.rule (W.views.map (·.all)) (notsR wd R W.rule)=J at *
  generalize hpe:W.rule.head.pred=p at *
  have HPE:Hid (W.rule.head.pred=p):=hpe
  clear hpe
  go_enter Tryz.func193,Tryz.ntmps193
  go_upto_region 3 with (first | (go_at_call 207;refine HWH.out.mono ?_;rintro e w2 ⟨PJ,rfl,hJM,hJR,hb2⟩;have hgr:Below w2.heap.size w2 (w2.alloc (.cells (bj 0 0 0 none none 0 0 0 0).toArray 310)):=(by repeat' (first | with_reducible (first | exact Below.refl _ _ | assumption | refine bdrewN ?_ _ | refine Below.alloc ?_ ?_ _ | refine Below.drew ?_ | refine Below.setCell ?_ ?_ _) | go_size));have hst:=run_storeJ hJM (thereJ_new0 w2 0 0 0 none none 0 0 0 0);have hlen:=jcells_len J PJ hJM.hlen.1 hJM.fives;have HJM:Hid (JMade lo w2 J PJ):=hJM;have HJR:Hid (JRole own PJ p):=hJR;clear hJM hJR;generalize hcs:jcells J PJ=cs at *;have HCS:Hid (jcells J PJ=cs):=hcs;clear hcs))
  have hlw:lo<=w2.heap.size:=Nat.le_trans HLO.out hb2.size
  have hlaid:=HJM.out.laid hlw
  rw [HCS.out] at hlaid
  obtain ⟨hJI,hbl⟩:=hlaid
  generalize putJ (w2.alloc (.cells (bj 0 0 0 none none 0 0 0 0).toArray 310)) w2.heap.size cs=W3 at *
  have hBW:Below w.heap.size w W3:=hb2.trans (hbl.mono hb2.size)
  have HC2:W3.cell? ⟨gw,o+2,none⟩=some (.int .i64 (p:Nat)):=by rw [← HPE.out];exact (hBW.cell HWC.out.lt).trans HWC.out.c2
  have HAL2:=HAL.out W3 _ PJ hBW hJI HJR.out
  have HBW:Hid (Below w.heap.size w W3):=hBW
  clear hJI hbl hBW HJM HJR HCS hst hlen hgr hb2 hlw HAL HWH
  generalize w2.heap.size=jb at *
  go_wp2_with (first | (go_at_call 208;refine HAL2.mono ?_;rintro e w4 ⟨rfl,own',fvs',hro',hm⟩))
  go_ret
  exact ⟨rfl,own',fvs',hro',(Mod.of own HBW.out).trans hm⟩
end Go.Proofs.YteampbddflhngaaGreat

namespace Go.Proofs.YteampbddflhngaaGreat
set_option maxRecDepth 100000
set_option maxHeartbeats 4000000
open Go.RowKit
variable {lo:Nat}
attribute [local go_sem] bj_fold
theorem apply_rest (w:World) (own:Nat->Role) (rb gw o k:Nat) (c:Array Value) (R R':PRun) (W:PWork) (P:WParts) (wd mr mx:Nat) (Q:RParts) (n:Nat) (b:Bool) (h:RunO lo w own rb R wd mr mx Q) (hw:WorkO lo w own k wd W P) (hbx:Box w gw c 292) (hcc:WCc c o W.rule P) (hna:NotsAt Q.tbs R.rows.length W.rule P.nbs) (hlo:lo<=w.heap.size) (hr:applyR n wd mr false R W=some (R',b)) :
    Calls Tryz.prog 193 #[.pointer (some ⟨rb,0,none⟩),.pointer (some ⟨gw,o,none⟩),.bool false] w fun e w'=>AllPost lo w own rb W.rule.head.pred R' b wd mr mx Q e w':=by
  have HR2:Hid (applyN n wd mr W (W.views.length - 0) 0 R=some (R',b)):=hr
  have HH:Hid (RunO lo w own rb R wd mr mx Q):=h
  have HWO:Hid (WorkO lo w own k wd W P):=hw
  have HBX:Hid (Box w gw c 292):=hbx
  have HCC:Hid (WCc c o W.rule P):=hcc
  have HNA:Hid (NotsAt Q.tbs R.rows.length W.rule P.nbs):=hna
  have HLO:Hid (lo<=w.heap.size):=hlo
  have hfew:=hw.few
  obtain ⟨aov,capv,hvv⟩:=own_view hw.views
  have HVV:Hid (P.vv=.slice aov W.views.length capv):=hvv
  have hwc:=hcc.at hbx
  have hcl:=hwc.lt
  have hc6:=hwc.c6
  rw [hvv] at hc6
  clear hr h hw hbx hcc hna hlo hvv hwc
  go_enter Tryz.func193,Tryz.ntmps193
  go_upto_region 5 with fail
  go_loopw [27] (fun v27 wr=>∃ m:Nat,m<=W.views.length/\v27=.int .i64 m/\∃ Rk ownk fvk,Hid (RunO lo wr ownk rb Rk wd mr mx ⟨Q.rv,Q.tbs,Q.fv,fvk⟩)/\Hid (Mod lo (okAll W.rule.head.pred) w own wr ownk)/\Hid (Rk.rows.length=R.rows.length)/\Hid (applyN n wd mr W (W.views.length - m) m Rk=some (R',b))) (fun i _=>W.views.length - (intOf i).toNat)
  case atStart=>exact ⟨0,Nat.zero_le _,rfl,R,own,Q.fvs,HH,Mod.refl _ _,rfl,HR2⟩
  case round =>
    clear HR2
    obtain ⟨m,hm,rfl,Rk,ownk,fvk,HRO,HMO,HRL,HAP⟩:=hrel
    have hszk:=HMO.out.size
    have hlok:lo<=wr.heap.size:=Nat.le_trans HLO.out hszk
    by_cases hlt:m < W.views.length
    · have HWK:Hid (WorkO lo wr ownk k wd W P):=HWO.out.all HMO.out
      have HBK:Hid (Box wr gw c 292):=HBX.out.mod HMO.out (okAll_no (by decide) (by decide) _)
      have hwk:=HWK.out
      have hm2:m < P.vps.length:=by rw [hwk.vlen];exact hlt
      obtain ⟨gv,capv',hvv',hgv,q0,q1,q2,q3,q4,q5⟩:=hwk.viewAt m hlt hm2
      rw [HVV.out] at hvv'
      simp only [Value.slice.injEq] at hvv'
      have hgg:=hvv'.1
      clear hvv'
      subst hgg
      have hvm:=hwk.view m hlt hm2
      obtain ⟨aoq,capq,hq⟩:=hvm.terms.shape
      rw [hq] at q1
      have hq2:=HAP.out
      rw [show W.views.length - m=(W.views.length - (m+1))+1 from by omega] at hq2
      unfold applyN at hq2
      rw [show W.views.getD m ⟨⟨0,[]⟩,PTrie.zero,PTrie.zero,PTrie.zero⟩=W.views[m] by simp [List.getD,hlt]] at hq2
      obtain ⟨fpf,htf,_⟩:=hvm.fresh
      have HCT:Hid (∀ W0,Below wr.heap.size wr W0->Calls Tryz.prog 209 #[.pointer (some ⟨P.vps[m].fb,0,none⟩)] W0 fun e w'=>e=.returned (.int .i64 (W.views[m].fresh.count:Nat))/\w'=W0):=fun W0 hb=>tcount_any W0 _ _ fpf (htf.below hb)
      have hcwk:=(HCC.out.at HBK.out)
      have hgl:=hcwk.lt
      have hmkk:(m:Int) < (W.views.length:Int):=by omega
      clear htf hvm hq hwk
      by_cases hct:W.views[m].fresh.count > 0
      · rw [if_pos hct] at hq2
        cases ha:addAllN mr W.rule.head.pred n Rk (joinNew W.rule (partly W.views m) (notsR wd Rk W.rule)) with
        | none=>rw [ha] at hq2;cases hq2
        | some ar =>
          obtain ⟨R3,b3⟩:=ar
          rw [ha] at hq2
          have hlen3:=addAllN_len _ _ _ _ _ ha
          have HL3:Hid (R3.rows.length=R.rows.length):=hlen3.trans HRL.out
          have HPA:Hid (∀ W0,Below wr.heap.size wr W0->Calls Tryz.prog 210 #[.pointer (some ⟨gw,o,none⟩),.int .i64 m] W0 fun e w'=>JoinPost lo W0 ownk W.rule.head.pred (joinNew W.rule (partly W.views m) (notsR wd Rk W.rule)) e w'):=fun W0 hb=>by
            have hm0:=Mod.of (lo:=lo) (ok:=okAll W.rule.head.pred) ownk hb
            exact partly_any W0 ownk k wd W.rule.head.pred gw o m W P _ (HWK.out.all hm0) ((HCC.out.at HBK.out).below hb) (Nat.le_trans hlok hb.size) (by omega) (notsR_len _ _ _) (NotsAt.tries (by rw [HRL.out];exact HNA.out) (HRO.out.below hb) HWK.out.nlen)
          have HAL:Hid (∀ W0 jb PJ,Below wr.heap.size wr W0->JIn lo W0 jb (joinNew W.rule (partly W.views m) (notsR wd Rk W.rule)) PJ->JRole ownk PJ W.rule.head.pred->Calls Tryz.prog 208 #[.pointer (some ⟨rb,0,none⟩),.int .i64 (W.rule.head.pred:Nat),.pointer (some ⟨jb,0,none⟩)] W0 fun e w'=>AllPost lo W0 ownk rb W.rule.head.pred R3 b3 wd mr mx ⟨Q.rv,Q.tbs,Q.fv,fvk⟩ e w'):=fun W0 jb PJ hW0 hj hro=>addAll_any W0 ownk rb jb Rk R3 _ PJ wd mr mx _ W.rule.head.pred n b3 (HRO.out.below hW0) hj hro (Nat.le_trans hlok hW0.size) ha
          have HC2:Hid (wr.cell? ⟨gw,o+2,none⟩=some (.int .i64 (W.rule.head.pred:Nat))):=hcwk.c2
          clear hcwk ha hlen3
          generalize joinNew W.rule (partly W.views m) (notsR wd Rk W.rule)=J at *
          have hc0:(0:Int) < (W.views[m].fresh.count:Nat):=by omega
          have HQ2:Hid ((match (some (R3,b3):Option (PRun × Bool)) with | none=>none | some (R,false)=>some (R,false) | some (R,true)=>applyN n wd mr W (W.views.length - (m+1)) (m+1) R)=some (R',b)):=hq2
          clear hq2
          generalize W.views[m].fresh.count=ct at *
          generalize W.views[m].lit.pred=vp at *
          generalize W.views[m].lit.terms.length=vt at *
          generalize P.vps[m].bb=bbm at *
          generalize P.vps[m].fb=fbm at *
          generalize P.vps[m].ab=abm at *
          generalize hpe:W.rule.head.pred=p at *
          have HPE:Hid (W.rule.head.pred=p):=hpe
          clear hpe
          have hgrow:Below wr.heap.size wr (wr.alloc (.cells #[.int .i64 (vp:Nat),.slice aoq vt capq,.int .i64 (wd:Nat),.pointer (some ⟨bbm,0,none⟩),.pointer (some ⟨fbm,0,none⟩),.pointer (some ⟨abm,0,none⟩)] 301)):=(by repeat' (first | with_reducible (first | exact Below.refl _ _ | assumption | refine bdrewN ?_ _ | refine Below.alloc ?_ ?_ _ | refine Below.drew ?_ | refine Below.setCell ?_ ?_ _) | go_size))
          have HGR:Hid (Below wr.heap.size wr (wr.alloc (.cells #[.int .i64 (vp:Nat),.slice aoq vt capq,.int .i64 (wd:Nat),.pointer (some ⟨bbm,0,none⟩),.pointer (some ⟨fbm,0,none⟩),.pointer (some ⟨abm,0,none⟩)] 301))):=hgrow
          clear hgrow
          go_upto_region 9 with (first | (go_at_call 209;refine (HCT.out _ HGR.out).mono ?_;rintro e w2 ⟨rfl,hww⟩;obtain rfl:=hww.symm) | (go_at_call 210;refine (HPA.out _ HGR.out).mono ?_;rintro e w2 ⟨PJ,rfl,hJM,hJR,hb2⟩;have hB2:Below wr.heap.size wr w2:=bnext HGR.out hb2 (Nat.le_refl _);clear hb2;have hgr:Below w2.heap.size w2 (w2.alloc (.cells (bj 0 0 0 none none 0 0 0 0).toArray 310)):=(by repeat' (first | with_reducible (first | exact Below.refl _ _ | assumption | refine bdrewN ?_ _ | refine Below.alloc ?_ ?_ _ | refine Below.drew ?_ | refine Below.setCell ?_ ?_ _) | go_size));have hst:=run_storeJ hJM (thereJ_new0 w2 0 0 0 none none 0 0 0 0);have hlen:=jcells_len J PJ hJM.hlen.1 hJM.fives;have HJM:Hid (JMade lo w2 J PJ):=hJM;have HJR:Hid (JRole ownk PJ p):=hJR;clear hJM hJR;generalize hcs:jcells J PJ=cs at *;have HCS:Hid (jcells J PJ=cs):=hcs;clear hcs))
          have hlaid:=HJM.out.laid (Nat.le_trans hlok hB2.size)
          rw [HCS.out] at hlaid
          obtain ⟨hJI,hbl⟩:=hlaid
          generalize putJ (w2.alloc (.cells (bj 0 0 0 none none 0 0 0 0).toArray 310)) w2.heap.size cs=W3 at *
          have hBW:Below wr.heap.size wr W3:=bnext hB2 hbl (Nat.le_refl _)
          have hd2:=(hBW.cell (p:=⟨gw,o+2,none⟩) hgl).trans HC2.out
          have HAL2:=HAL.out W3 _ PJ hBW hJI HJR.out
          have HBW:Hid (Below wr.heap.size wr W3):=hBW
          clear hJI hbl hBW HJM HJR HCS hst hlen hgr HAL HPA hB2
          generalize w2.heap.size=jb at *
          cases b3 with
          | false =>
            have HE:Hid (R3=R'/\false=b):=by have q:=HQ2.out;simp only [Option.some.injEq,Prod.mk.injEq] at q;exact q
            go_wp2_with (first | (go_at_call 208;refine HAL2.mono ?_;rintro e w4 ⟨rfl,own',fvs',hro',hm4⟩))
            go_ret
            exact ⟨by rw [← HE.out.2];rfl,own',fvs',by rw [← HE.out.1];exact hro',by rw [HPE.out];exact HMO.out.trans ((Mod.of ownk HBW.out).trans hm4)⟩
          | true =>
            have HE:Hid (applyN n wd mr W (W.views.length - (m+1)) (m+1) R3=some (R',b)):=HQ2.out
            clear HQ2
            go_wp2_with (first | (go_at_call 208;refine HAL2.mono ?_;rintro e w4 ⟨rfl,own',fvs',hro',hm4⟩))
            exact ⟨⟨m+1,by omega,by go_num,R3,own',fvs',hro',HMO.out.trans ((Mod.of ownk HBW.out).trans hm4),HL3,HE⟩,by simp [intOf];omega⟩
      · rw [if_neg hct] at hq2
        have HQ2:Hid (applyN n wd mr W (W.views.length - (m+1)) (m+1) Rk=some (R',b)):=hq2
        clear hq2 hcwk
        have hc0:¬ (0:Int) < (W.views[m].fresh.count:Nat):=by omega
        generalize W.views[m].fresh.count=ct at *
        generalize W.views[m].lit.pred=vp at *
        generalize W.views[m].lit.terms.length=vt at *
        generalize P.vps[m].bb=bbm at *
        generalize P.vps[m].fb=fbm at *
        generalize P.vps[m].ab=abm at *
        have hgrow:Below wr.heap.size wr (wr.alloc (.cells #[.int .i64 (vp:Nat),.slice aoq vt capq,.int .i64 (wd:Nat),.pointer (some ⟨bbm,0,none⟩),.pointer (some ⟨fbm,0,none⟩),.pointer (some ⟨abm,0,none⟩)] 301)):=(by repeat' (first | with_reducible (first | exact Below.refl _ _ | assumption | refine bdrewN ?_ _ | refine Below.alloc ?_ ?_ _ | refine Below.drew ?_ | refine Below.setCell ?_ ?_ _) | go_size))
        have HGR:Hid (Below wr.heap.size wr (wr.alloc (.cells #[.int .i64 (vp:Nat),.slice aoq vt capq,.int .i64 (wd:Nat),.pointer (some ⟨bbm,0,none⟩),.pointer (some ⟨fbm,0,none⟩),.pointer (some ⟨abm,0,none⟩)] 301))):=hgrow
        clear hgrow
        go_wp2_with (first | (go_at_call 209;refine (HCT.out _ HGR.out).mono ?_;rintro e w2 ⟨rfl,hww⟩;obtain rfl:=hww.symm))
        exact ⟨⟨m+1,by omega,by go_num,Rk,ownk,fvk,HRO.out.below HGR.out,HMO.out.trans (Mod.of ownk HGR.out),HRL,HQ2⟩,by simp [intOf];omega⟩
    · obtain rfl:m=W.views.length:=by omega
      have hq2:=HAP.out
      rw [Nat.sub_self] at hq2
      simp only [applyN,Option.some.injEq,Prod.mk.injEq] at hq2
      have HE:Hid (Rk=R'/\true=b):=hq2
      clear hq2
      go_wp2
      go_ret
      exact ⟨by rw [← HE.out.2];rfl,ownk,fvk,by rw [← HE.out.1];exact HRO.out,HMO.out⟩
theorem apply_any (w:World) (own:Nat->Role) (rb gw o k:Nat) (c:Array Value) (R R':PRun) (W:PWork) (P:WParts) (wd mr mx:Nat) (Q:RParts) (n:Nat) (first b:Bool) (h:RunO lo w own rb R wd mr mx Q) (hw:WorkO lo w own k wd W P) (hbx:Box w gw c 292) (hcc:WCc c o W.rule P) (hna:NotsAt Q.tbs R.rows.length W.rule P.nbs) (hlo:lo<=w.heap.size) (hr:applyR n wd mr first R W=some (R',b)) :
    Calls Tryz.prog 193 #[.pointer (some ⟨rb,0,none⟩),.pointer (some ⟨gw,o,none⟩),.bool first] w fun e w'=>AllPost lo w own rb W.rule.head.pred R' b wd mr mx Q e w':=by
  cases first with
  | true=>exact apply_first w own rb gw o k c R R' W P wd mr mx Q n b h hw hbx hcc hna hlo hr
  | false=>exact apply_rest w own rb gw o k c R R' W P wd mr mx Q n b h hw hbx hcc hna hlo hr
end Go.Proofs.YteampbddflhngaaGreat
