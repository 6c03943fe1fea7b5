import Derived.Test.YteampbddflhngabGreatJ21
import Derived.Test.YteampbddflhngabGreatJ22

namespace Go.Proofs.YteampbddflhngabGreat
open Go.RowKit
variable {lo:Nat}
structure za6 where
 tv:Value
 pv:Value
 nv:Value
 vv:Value
 ntv:Value
 vps:List zfz
 nbs:List Nat
def zb2(r:zaf)(P:za6):List Value:=[.int .i64 (r.stratum:Nat),.int .i64 (r.vars:Nat),.int .i64 (r.head.pred:Nat),P.tv,P.pv,P.nv,P.vv,P.ntv]
def zgx(wd:Nat)(vs:List zco)(ps:List zfz):List Value:=(List.zipWith (zcw wd) vs ps).flatten
structure zdy (lo:Nat) (w:World) (own:Nat->zay) (k wd:Nat) (W:zbe) (P:za6):Prop where
 rule:zdj lo w P.tv P.pv P.nv W.rule
 views:w.ownsRow lo 223 6 P.vv W.views.length (zgx wd W.views P.vps)
 vlen:P.vps.length=W.views.length
 view:∀ i (_:i < W.views.length) (_:i < P.vps.length),zf0 lo w own k i W.views[i] P.vps[i]
 vrole:∀ b,P.vv.ownBlock=some b->own b=(k+1,0,9)
 nots:w.ownsRow lo 113 1 P.ntv W.rule.nots.length (pts P.nbs)
 nlen:P.nbs.length=W.rule.nots.length
 few:W.views.length<=1000
theorem zxc(wd:Nat):∀(vs:List zco) (ps:List zfz) (i:Nat) (h1:i < vs.length) (h2:i < ps.length),(zgx wd vs ps)[i * 6]?=some (.int .i64 (vs[i].lit.pred:Nat))/\(zgx wd vs ps)[i * 6+1]?=some ps[i].tv/\(zgx wd vs ps)[i * 6+2]?=some (.int .i64 (wd:Nat))/\(zgx wd vs ps)[i * 6+3]?=some (pt ps[i].bb)/\(zgx wd vs ps)[i * 6+4]?=some (pt ps[i].fb)/\(zgx wd vs ps)[i * 6+5]?=some (pt ps[i].ab)
 |[],_,i,h1,_=>by simp at h1
 |v::vs,[],i,_,h2=>by simp at h2
 |v::vs,p::ps,0,_,_=>by simp[zgx,zcw]
 |v::vs,p::ps,i+1,h1,h2=>by
  have:=zxc wd vs ps i (by simpa using h1) (by simpa using h2)
  simp only[zgx,List.zipWith_cons_cons,List.flatten_cons] at this ⊢
  rw[show(i+1) * 6=i * 6+6 from by omega]
  have e0:i * 6+6=(zcw wd v p).length+i * 6:=by simp[zcw];omega
  rw[e0]
  simp only[Nat.add_assoc,List.getElem?_append_right (Nat.le_add_right _ _),Nat.add_sub_cancel_left]
  simpa using this
theorem zdy.viewAt{w:World}{own:Nat->zay}{k wd:Nat}{W:zbe}{P:za6}(h:zdy lo w own k wd W P)(i:Nat)(h1:i < W.views.length)(h2:i < P.vps.length):∃ g cap,P.vv=.slice (some ⟨g,0,none⟩) W.views.length cap/\g < w.heap.size/\w.cell? ⟨g,i * 6,none⟩=some (.int .i64 (W.views[i].lit.pred:Nat))/\w.cell? ⟨g,i * 6+1,none⟩=some P.vps[i].tv/\w.cell? ⟨g,i * 6+2,none⟩=some (.int .i64 (wd:Nat))/\w.cell? ⟨g,i * 6+3,none⟩=some (.pointer (some ⟨P.vps[i].bb,0,none⟩))/\w.cell? ⟨g,i * 6+4,none⟩=some (.pointer (some ⟨P.vps[i].fb,0,none⟩))/\w.cell? ⟨g,i * 6+5,none⟩=some (.pointer (some ⟨P.vps[i].ab,0,none⟩)):=by
 obtain⟨g,cap,hv,_,hg,hc⟩:=zas h.views (by omega)
 obtain⟨q0,q1,q2,q3,q4,q5⟩:=zxc wd W.views P.vps i h1 h2
 exact⟨g,cap,hv,hg,hc _ _ q0,hc _ _ q1,hc _ _ q2,hc _ _ q3,hc _ _ q4,hc _ _ q5⟩
theorem zn9{w:World}{own:Nat->zay}{S:zay->Prop}:∀(Ts:List zad) (bs:List Nat),bs.length=Ts.length->(∀ i (h1:i < Ts.length) (h2:i < bs.length),∃ ρ,S ρ/\zcs lo w own ρ bs[i] Ts[i])->∃ ps:List (Nat × List Nat),ps.map (·.1)=bs/\(∀ i (h1:i < Ts.length) (h2:i < ps.length),zar lo w ps[i].1 Ts[i] ps[i].2)/\∀ x∈ps,∀ b∈x.2,S (own b)
 |[],[],_,_=>⟨[],rfl,fun i h=>by simp at h,fun x hx=>by simp at hx⟩
 |[],b::bs,h,_=>by simp at h
 |T::Ts,[],h,_=>by simp at h
 |T::Ts,b::bs,h,hh=>by
  obtain⟨ρ,hS,fp,h1,h2⟩:=hh 0 (by simp) (by simp)
  obtain⟨ps,q1,q2,q3⟩:=zn9 Ts bs (by simpa using h) fun i a c=>by
   have:=hh (i+1) (by simpa using a) (by simpa using c)
   simpa using this
  refine⟨(b,fp)::ps,by simp[q1],fun i a c=>?_,fun x hx y hy=>?_⟩
  ·match i,a,c with
   |0,_,_=>exact h1
   |i+1,a,c=>exact q2 i (by simpa using a) (by simpa using c)
  ·rcases List.mem_cons.1 hx with rfl|hx
   ·rw[h2 y hy];exact hS
   ·exact q3 x hx y hy
def zge(lo:Nat)(w:World)(own:Nat->zay)(p:Nat)(J:zat)(e:Ending)(w':World):Prop:=∃ P,e=.returned (.agg (zb6 J P).toArray)/\zg7 lo w' J P/\zjl own P p/\Below w.heap.size w w'
theorem zyd{w:World}{J:zat}{P:zbo}(h:zg7 lo w J P):∀ u∈zb6 J P,u.oneCell'=true:=by
 intro u hu
 obtain⟨a1,c1,e1⟩:=h.head.shape
 obtain⟨a2,c2,e2⟩:=zab h.sides
 obtain⟨a3,c3,e3⟩:=zab h.bars
 simp only[zb6,List.mem_append,List.mem_cons,List.mem_map,List.not_mem_nil,or_false] at hu
 rcases hu with ((((((hu|hu)|⟨_,_,hu⟩)|hu)|⟨_,_,hu⟩)|⟨_,_,hu⟩)|hu)
 ·rcases hu with rfl|rfl|rfl|rfl|rfl
  ·rfl
  ·rw[e1];rfl
  ·rfl
  ·rw[e2];rfl
  ·rw[e3];rfl
 ·obtain⟨p,hp,rfl⟩:=List.getElem_of_mem hu
  have h5:=h.hlen
  obtain⟨ao,cap,e⟩:=zab (h.holds p (by omega) hp).1
  rw[e];rfl
 ·subst hu;rfl
 ·subst hu;rfl
 ·subst hu;rfl
 ·subst hu;rfl
 ·rcases hu with rfl|rfl <;> rfl
def zhy(bs:List Nat)(k:Nat):List Value:=(bs.take k).map pt++List.replicate (bs.length - k) (.pointer none)
theorem zsr(bs:List Nat)(k:Nat)(hk:k<=bs.length):(zhy bs k).length=bs.length:=by simp[zhy];omega
theorem zss(bs:List Nat)(k:Nat)(hk:k < bs.length):(zhy bs k).set k (.pointer (some ⟨bs[k],0,none⟩))=zhy bs (k+1):=by
 obtain⟨m,hm⟩:∃ m,bs.length - k=m+1:=⟨bs.length - k - 1,by omega⟩
 unfold zhy
 rw[List.set_append_right _ _ (by simp;omega),List.length_map,List.length_take,Nat.min_eq_left (by omega),Nat.sub_self,hm,List.replicate_succ,List.set_cons_zero,List.take_succ_eq_append_getElem hk,List.map_append,show bs.length - (k+1)=m from by omega,List.append_assoc]
 rfl
theorem zsq(bs:List Nat):zhy bs bs.length=pts bs:=by simp[zhy,pts]
theorem Tryz.infoTP:(Tryz.prog.info? 113).map (fun i=>(i.zero,i.size,i.bytes))=some (some (.pointer none),1,8):=by kernel_rfl
theorem znf{w W':World}{own:Nat->zay}{k wd p pb:Nat}{W:zbe}{P:za6}{plain nots:List zad}{bs:List Nat}(hw:zdy lo w own k wd W P)(hlo:lo<=w.heap.size)(hp:plain.length=W.views.length)(hb:bs.length=plain.length)(hpl:∀ i (h1:i < plain.length) (h2:i < bs.length),∃ ρ,ρ≠(0,p,0)/\zcs lo w own ρ bs[i] plain[i])(hn:nots.length=W.rule.nots.length)(hnt:∀ i (h1:i < nots.length) (h2:i < P.nbs.length),∃ ρ,ρ≠(0,p,0)/\zcs lo w own ρ P.nbs[i] nots[i])(hB:Below w.heap.size w W')(hrow:W'.ownsRow w.heap.size 113 1 (.slice (some ⟨pb,0,none⟩) plain.length plain.length) plain.length (pts bs)) :
  Calls Tryz.prog 143 #[zk3 W.rule P.tv P.pv P.nv,.slice (some ⟨pb,0,none⟩) plain.length plain.length,P.ntv] W' fun e w'=>zge lo W' own p (za0 W.rule plain nots) e w':=by
 obtain⟨ps,q1,q2,q3⟩:=zn9 plain bs hb hpl
 obtain⟨ns,s1,s2,s3⟩:=zn9 nots P.nbs (by rw[hw.nlen,hn]) hnt
 have hpsl:ps.length=plain.length:=by rw[← hb,← q1,List.length_map]
 have hnsl:ns.length=nots.length:=by rw[hn,← hw.nlen,← s1,List.length_map]
 have e1:pts bs=ps.map fun x=>pt0 x.1:=by rw[← q1];simp[pts];exact fun _ _ _=>rfl
 have e2:pts P.nbs=ns.map fun x=>pt0 x.1:=by rw[← s1];simp[pts];exact fun _ _ _=>rfl
 have hfew:=hw.few
 have hnl:=hw.rule.nots.len
 have h1:z2w w.heap.size lo W' (.slice (some ⟨pb,0,none⟩) plain.length plain.length) plain ps:=⟨by rw[← e1];exact hrow,hpsl,fun i a b=>(q2 i a b).below hB,by omega⟩
 have h2:z2w lo lo W' P.ntv nots ns:=⟨by rw[hn,← e2];exact zaa hw.nots hB,hnsl,fun i a b=>(s2 i a b).below hB,by omega⟩
 refine(z3z W' W.rule P.tv P.pv P.nv _ _ plain nots ps ns (hw.rule.below hB) h1 h2 hn (by have:=hB.size;omega)).mono ?_
 rintro e w' ⟨PJ,rfl,hJ,ht,hb',hB'⟩
 refine⟨PJ,rfl,hJ,⟨fun x hx b hb2=>q3 x (by rw[← ht];exact hx) b hb2,fun x hx b hb2=>s3 x.2 (by rw[← hb'];exact List.mem_map_of_mem hx) b hb2⟩,hB'⟩
set_option maxRecDepth 100000
set_option maxHeartbeats 4000000
theorem zg6{w w':World}{b:Nat}(h:zcz w b)(hb:Below w.heap.size w w'):zcz w' b:=by obtain⟨c,h1,h2⟩:=h;exact⟨c,h1.below hb,h2⟩
theorem zp9{w:World}{b b' o:Nat}{u:Value}(h:zcz w b)(hn:b≠b'):zcz (w.setCell ⟨b',o,none⟩ u) b:=by obtain⟨c,h1,h2⟩:=h;exact⟨c,h1.set_ne hn _ _,h2⟩
structure WC (w:World) (gw o:Nat) (r:zaf) (P:za6):Prop where
 lt:gw < w.heap.size
 free:∀ q,w.frozen? ⟨gw,q,none⟩=false
 c0:w.cell? ⟨gw,o,none⟩=some (.int .i64 (r.stratum:Nat))
 c1:w.cell? ⟨gw,o+1,none⟩=some (.int .i64 (r.vars:Nat))
 c2:w.cell? ⟨gw,o+2,none⟩=some (.int .i64 (r.head.pred:Nat))
 c3:w.cell? ⟨gw,o+3,none⟩=some P.tv
 c4:w.cell? ⟨gw,o+4,none⟩=some P.pv
 c5:w.cell? ⟨gw,o+5,none⟩=some P.nv
 c6:w.cell? ⟨gw,o+6,none⟩=some P.vv
 c7:w.cell? ⟨gw,o+7,none⟩=some P.ntv
theorem WC.below{w w':World}{gw o:Nat}{r:zaf}{P:za6}(h:WC w gw o r P)(hb:Below w.heap.size w w'):WC w' gw o r P:=by
 have e:=fun q=>hb.cell (p:=⟨gw,q,none⟩) h.lt
 exact⟨by have:=hb.size;have:=h.lt;omega,fun q=>(hb.frozen (p:=⟨gw,q,none⟩) h.lt).trans (h.free q),(e _).trans h.c0,(e _).trans h.c1,(e _).trans h.c2,(e _).trans h.c3,(e _).trans h.c4,(e _).trans h.c5,(e _).trans h.c6,(e _).trans h.c7⟩
theorem zi8{w:World}{b:Nat}{J:zat}{P:zbo}{w0:World}(hm:zg7 lo w0 J P)(h:zcz w b):(storeCells ⟨b,0,none⟩ (zb6 J P)).run Tryz.prog w=.ok () (zvk w b (zb6 J P)):=by
 have hl:=zgi J P hm.hlen.1 hm.fives
 exact run_storeCells_cells (P:=Tryz.prog) b 0 (zb6 J P) 0 w (fun j hj=>(h.there j (by omega)).1) (fun j hj=>(h.there j (by omega)).2) (zyd hm)
attribute [local go_sem] zm1
theorem z2s(w:World)(own:Nat->zay)(k wd p gw o:Nat)(W:zbe)(P:za6)(nots:List zad)(h:zdy lo w own k wd W P)(hc:WC w gw o W.rule P)(hlo:lo<=w.heap.size)(hn:nots.length=W.rule.nots.length)(hnt:∀ i (h1:i < nots.length) (h2:i < P.nbs.length),∃ ρ,ρ≠(0,p,0)/\zcs lo w own ρ P.nbs[i] nots[i]) :
  Calls Tryz.prog 137 #[.pointer (some ⟨gw,o,none⟩)] w fun e w'=>zge lo w own p (za0 W.rule (W.views.map (·.all)) nots) e w':=by
 obtain⟨i0,hi,hz0,hzs,hzb⟩:=info_parts Tryz.infoTP
 have HNEW:Hid (∀ W' pb,Below w.heap.size w W'->W'.ownsRow w.heap.size 113 1 (.slice (some ⟨pb,0,none⟩) W.views.length W.views.length) W.views.length (pts (P.vps.map (·.ab)))->Calls Tryz.prog 143 #[zk3 W.rule P.tv P.pv P.nv,.slice (some ⟨pb,0,none⟩) W.views.length W.views.length,P.ntv] W' fun e w'=>zge lo W' own p (za0 W.rule (W.views.map (·.all)) nots) e w'):=fun W' pb hB hrow=>by
  have q:=znf (p:=p) (pb:=pb) (plain:=W.views.map (·.all)) (bs:=P.vps.map (·.ab)) (nots:=nots) (W':=W') h hlo (by simp) (by simp[h.vlen]) (fun i h1 h2=>⟨(k+1,i,2),by simp,by simp only[List.getElem_map];exact(h.view i (by simpa using h1) (by simpa using h2)).all⟩) hn hnt hB (by simpa using hrow)
  simpa using q
 have HJ0:Hid (∀ i (h1:i < W.views.length) (h2:i < P.vps.length),∃ g cap,P.vv=.slice (some ⟨g,0,none⟩) W.views.length cap/\g < w.heap.size/\w.cell? ⟨g,i * 6,none⟩=some (.int .i64 (W.views[i].lit.pred:Nat))/\w.cell? ⟨g,i * 6+1,none⟩=some P.vps[i].tv/\w.cell? ⟨g,i * 6+2,none⟩=some (.int .i64 (wd:Nat))/\w.cell? ⟨g,i * 6+3,none⟩=some (.pointer (some ⟨P.vps[i].bb,0,none⟩))/\w.cell? ⟨g,i * 6+4,none⟩=some (.pointer (some ⟨P.vps[i].fb,0,none⟩))/\w.cell? ⟨g,i * 6+5,none⟩=some (.pointer (some ⟨P.vps[i].ab,0,none⟩))):=fun i a b=>h.viewAt i a b
 have HTV:Hid (∀ i (h1:i < W.views.length) (h2:i < P.vps.length),∃ ao cap,P.vps[i].tv=.slice ao W.views[i].lit.terms.length cap):=fun i a b=>(h.view i a b).terms.shape
 have HVL:Hid (P.vps.length=W.views.length):=h.vlen
 have hfew:=h.few
 obtain⟨aov,capv,hvv⟩:=zab h.views
 obtain⟨aot,capt,htv⟩:=h.rule.head.shape
 obtain⟨aop,capp,hpv⟩:=h.rule.plain.shape
 obtain⟨aon,capn,hnv⟩:=h.rule.nots.shape
 obtain⟨aob,capb,hntv⟩:=zab h.nots
 have HW:Hid (WC w gw o W.rule P):=hc
 have HVV:Hid (P.vv=.slice aov W.views.length capv):=hvv
 have HTT:Hid (P.tv=.slice aot W.rule.head.terms.length capt/\P.pv=.slice aop W.rule.plain.length capp/\P.nv=.slice aon W.rule.nots.length capn/\P.ntv=.slice aob W.rule.nots.length capb):=⟨htv,hpv,hnv,hntv⟩
 have hmk:=fun W0:World=>run_make (P:=Tryz.prog) (w:=W0) 103 113 i0 _ Tryz.underlying103 hi hz0 .i64 .i64 (W.views.length:Int) (W.views.length:Int) (by omega) (Int.le_refl _) (by rw[hzb];omega) (by omega)
 rw[hzs] at hmk
 have hc6:=hc.c6
 rw[hvv] at hc6
 have hcl:=hc.lt
 have hcf:=hc.free
 clear h hc hnt hvv htv hpv hnv hntv
 go_enter Tryz.func137,Tryz.ntmps137
 go_upto_region 3 with fail
 have hB1:Below w.heap.size w ((w.alloc (.cells (bj 0 0 0 none none 0 0 0 0).toArray 232)).alloc (.cells (madeCells #[.pointer none] W.views.length) 113)):=(by go_grown)
 have hrow:=zhn (w.alloc (.cells (bj 0 0 0 none none 0 0 0 0).toArray 232)) W.views.length 113 (.pointer none) (by unfold maxLen;omega)
 rw[World.size_alloc] at hrow
 have hth:zcz ((w.alloc (.cells (bj 0 0 0 none none 0 0 0 0).toArray 232)).alloc (.cells (madeCells #[.pointer none] W.views.length) 113)) w.heap.size:=zh3 _ _ _ _ _ _ _ _ _ _ _
 have hbl:(P.vps.map (·.ab)).length=W.views.length:=by simp[HVL.out]
 have HR0:Hid (((w.alloc (.cells (bj 0 0 0 none none 0 0 0 0).toArray 232)).alloc (.cells (madeCells #[.pointer none] W.views.length) 113)).ownsRow w.heap.size 113 1 (.slice (some ⟨w.heap.size+1,0,none⟩) W.views.length W.views.length) W.views.length (zhy (P.vps.map (·.ab)) 0)):=by
  have e:zhy (P.vps.map (·.ab)) 0=List.replicate W.views.length (.pointer none):=by simp[zhy,HVL.out]
  rw[Hid,e]
  exact zbb hrow (by omega)
 have HBE:Hid ((P.vps.map (·.ab)).length=W.views.length):=hbl
 have HBI:Hid (∀ i (h1:i < P.vps.length) (h2:i < (P.vps.map (·.ab)).length),(P.vps.map (·.ab))[i]=P.vps[i].ab):=fun i a b=>by simp
 clear hrow hbl hc6 hcl hcf hmk
 generalize (w.alloc (.cells (bj 0 0 0 none none 0 0 0 0).toArray 232)).alloc (.cells (madeCells #[.pointer none] W.views.length) 113)=w1 at *
 generalize P.vps.map (·.ab)=bs at *
 have HTH:Hid (zcz w1 w.heap.size):=hth
 clear hth
 go_loopw [17] (fun v17 wr=>∃ m:Nat,m<=W.views.length/\v17=.int .i64 m/\Below w.heap.size w wr/\Hid (zcz wr w.heap.size)/\Hid (wr.ownsRow w.heap.size 113 1 (.slice (some ⟨w.heap.size+1,0,none⟩) W.views.length W.views.length) W.views.length (zhy bs m))) (fun i _=>W.views.length - (intOf i).toNat)
 case atStart=>exact⟨0,Nat.zero_le _,rfl,hB1,HTH,HR0⟩
 case round =>
  clear HR0 HTH hB1
  obtain⟨m,hm,rfl,hbk,HTH,HR⟩:=hrel
  have hszk:=hbk.size
  by_cases hlt:m < W.views.length
  ·have hm2:m < P.vps.length:=by rw[HVL.out];exact hlt
   have hmb:m < bs.length:=by rw[HBE.out];exact hlt
   obtain⟨gv,capv',hvv',hgv,q0,q1,q2,q3,q4,q5⟩:=HJ0.out m hlt hm2
   rw[HVV.out] at hvv'
   simp only[Value.slice.injEq] at hvv'
   have hgg:=hvv'.1
   clear hvv'
   subst hgg
   obtain⟨aoq,capq,hq⟩:=HTV.out m hlt hm2
   rw[hq] at q1
   have x0:=(hbk.cell (p:=⟨gv,m * 6,none⟩) hgv).trans q0
   have x1:=(hbk.cell (p:=⟨gv,m * 6+1,none⟩) hgv).trans q1
   have x2:=(hbk.cell (p:=⟨gv,m * 6+2,none⟩) hgv).trans q2
   have x3:=(hbk.cell (p:=⟨gv,m * 6+3,none⟩) hgv).trans q3
   have x4:=(hbk.cell (p:=⟨gv,m * 6+4,none⟩) hgv).trans q4
   have x5:=(hbk.cell (p:=⟨gv,m * 6+5,none⟩) hgv).trans q5
   have hgr:gv < wr.heap.size:=by omega
   have hrow:=HR.out
   have hll:=zsr bs m (by omega)
   obtain⟨sx,hsx⟩:∃ sx,wr.cell? ⟨w.heap.size+1,m,none⟩=some sx:=by
    obtain⟨g',cap',hv',_,_,hcl'⟩:=zas hrow (by omega)
    simp only[Value.slice.injEq,Option.some.injEq,Addr.mk.injEq,and_true] at hv'
    have e:=hv'.1
    subst e
    exact⟨_,hcl' m _ (List.getElem?_eq_getElem (by omega))⟩
   have hsf:=zby hrow
   have hpl:w.heap.size+1 < wr.heap.size:=zdk hrow rfl
   have HSS:Hid ((zhy bs m).set m (.pointer (some ⟨P.vps[m].ab,0,none⟩))=zhy bs (m+1)):=by
    have q:=zss bs m hmb
    rw[HBI.out m hm2 hmb] at q
    exact q
   have hgrow:Below (wr.setCell ⟨w.heap.size+1,m,none⟩ (.pointer (some ⟨P.vps[m].ab,0,none⟩))).heap.size (wr.setCell ⟨w.heap.size+1,m,none⟩ (.pointer (some ⟨P.vps[m].ab,0,none⟩))) ((wr.setCell ⟨w.heap.size+1,m,none⟩ (.pointer (some ⟨P.vps[m].ab,0,none⟩))).alloc (.cells #[.int .i64 (W.views[m].lit.pred:Nat),.slice aoq W.views[m].lit.terms.length capq,.int .i64 (wd:Nat),.pointer (some ⟨P.vps[m].bb,0,none⟩),.pointer (some ⟨P.vps[m].fb,0,none⟩),.pointer (some ⟨P.vps[m].ab,0,none⟩)] 223)):=(by go_grown)
   have hth2:=zg6 (zp9 (o:=m) (u:=.pointer (some ⟨P.vps[m].ab,0,none⟩)) HTH.out (show w.heap.size≠w.heap.size+1 by omega)) hgrow
   have hset0:=zb7 hrow m (by omega) (.pointer (some ⟨P.vps[m].ab,0,none⟩))
   rw[HSS.out] at hset0
   have hset:=zaa hset0 hgrow
   have hb5:Below w.heap.size w ((wr.setCell ⟨w.heap.size+1,m,none⟩ (.pointer (some ⟨P.vps[m].ab,0,none⟩))).alloc (.cells #[.int .i64 (W.views[m].lit.pred:Nat),.slice aoq W.views[m].lit.terms.length capq,.int .i64 (wd:Nat),.pointer (some ⟨P.vps[m].bb,0,none⟩),.pointer (some ⟨P.vps[m].fb,0,none⟩),.pointer (some ⟨P.vps[m].ab,0,none⟩)] 223)):=zae (hbk.setCell (by simp) _) hgrow (Nat.le_refl _)
   clear hset0
   have hmkk:(m:Int) < (W.views.length:Int):=by omega
   clear q0 q1 q2 q3 q4 q5 hll hq HSS
   generalize W.views[m].lit.pred=vp at *
   generalize W.views[m].lit.terms.length=vt at *
   generalize P.vps[m].bb=bbm at *
   generalize P.vps[m].fb=fbm at *
   generalize P.vps[m].ab=abm at *
   go_wp2
   exact⟨⟨m+1,by omega,by go_num,hb5,hth2,hset⟩,by simp[intOf];omega⟩
  ·obtain rfl:m=W.views.length:=by omega
   have HRA:Hid (wr.ownsRow w.heap.size 113 1 (.slice (some ⟨w.heap.size+1,0,none⟩) W.views.length W.views.length) W.views.length (pts bs)):=by
    have q:=HR.out
    rw[← HBE.out,zsq,HBE.out] at q
    exact q
   have hw2:=HW.out.below hbk
   obtain⟨t1,t2,t3,t4⟩:=HTT.out
   obtain⟨hgl,hgf,d0,d1,d2,d3,d4,d5,d6,d7⟩:=hw2
   rw[t1] at d3
   rw[t2] at d4
   rw[t3] at d5
   rw[t4] at d7
   have hgne:gw≠w.heap.size:=by have:=HW.out.lt;omega
   have HNW:Hid (∀ W0,Below wr.heap.size wr W0->Calls Tryz.prog 143 #[.agg #[.int .i64 (W.rule.stratum:Nat),.int .i64 (W.rule.vars:Nat),.int .i64 (W.rule.head.pred:Nat),.slice aot W.rule.head.terms.length capt,.slice aop W.rule.plain.length capp,.slice aon W.rule.nots.length capn],.slice (some ⟨w.heap.size+1,0,none⟩) W.views.length W.views.length,.slice aob W.rule.nots.length capb] W0 fun e w'=>zge lo W0 own p (za0 W.rule (W.views.map (·.all)) nots) e w'):=fun W0 hW0=>by
    have q:=HNEW.out W0 (w.heap.size+1) (zae hbk hW0 (Nat.le_refl _)) (zaa HRA.out hW0)
    rw[zk3,t1,t2,t3,t4] at q
    exact q
   clear t1 t2 t3 t4 d6 HNEW hlt hm
   generalize hJe:za0 W.rule (W.views.map (·.all)) nots=J at *
   have HJE:Hid (za0 W.rule (W.views.map (·.all)) nots=J):=hJe
   clear hJe
   go_wp2
   go_region_held3 (fun w'=>w'.cell? ⟨gw,o,none⟩=some (.int .i64 (W.rule.stratum:Nat))/\w'.cell? ⟨gw,o+1,none⟩=some (.int .i64 (W.rule.vars:Nat))/\w'.cell? ⟨gw,o+2,none⟩=some (.int .i64 (W.rule.head.pred:Nat))/\w'.cell? ⟨gw,o+3,none⟩=some (.slice aot W.rule.head.terms.length capt)/\w'.cell? ⟨gw,o+4,none⟩=some (.slice aop W.rule.plain.length capp)/\w'.cell? ⟨gw,o+5,none⟩=some (.slice aon W.rule.nots.length capn)/\w'.cell? ⟨gw,o+7,none⟩=some (.slice aob W.rule.nots.length capb)) (first|(exact⟨d20,d21,d22,d23,d24,d25,d27⟩)|(exact⟨(zcu _ _ _ _ _ hgne).trans d20,(zcu _ _ _ _ _ hgne).trans d21,(zcu _ _ _ _ _ hgne).trans d22,(zcu _ _ _ _ _ hgne).trans d23,(zcu _ _ _ _ _ hgne).trans d24,(zcu _ _ _ _ _ hgne).trans d25,(zcu _ _ _ _ _ hgne).trans d27⟩)|go_keep|(go_simp;done)) (first|(go_at_call 143;refine(HNW.out _ (by exact(by go_grown))).mono ?_;rintro e w2 ⟨PJ,rfl,hJM,hJR,hb2⟩;have hB2:Below wr.heap.size wr w2:=(zae (by go_grown) hb2 (Nat.le_refl _));have hw3:=HW.out.below (zae hbk hB2 (Nat.le_refl _));obtain⟨hgl2,hgf2,d20,d21,d22,d23,d24,d25,_,d27⟩:=hw3;rw[HTT.out.1] at d23;rw[HTT.out.2.1] at d24;rw[HTT.out.2.2.1] at d25;rw[HTT.out.2.2.2] at d27;have hth2:=zg6 HTH.out hB2;have hst:=zi8 hJM hth2;have hlen:=zgi J PJ hJM.hlen.1 hJM.fives;have HJM:Hid (zg7 lo w2 J PJ):=hJM;have HJR:Hid (zjl own PJ p):=hJR;clear hJM hJR;generalize hcs:zb6 J PJ=cs at *;have HCS:Hid (zb6 J PJ=cs):=hcs;clear hcs))
   have hb6:=zi4 (cs:=cs) hth2 hlen
   have hs6:=ziv w2 w.heap.size cs
   have hJ4:=HJM.out.saveJ hs6 (OfT.box hth2.choose_spec.1)
   have hb4:Below w.heap.size w (zvk w2 w.heap.size cs):=(zae hbk hB2 (Nat.le_refl _)).trans (hs6.below (by simp) (by have:=hB2.size;omega))
   clear hst d0 d1 d2 d3 d4 d5 d7 d20 d21 d22 d23 d24 d25 d27 hgf hgf2
   generalize zvk w2 w.heap.size cs=w5 at *
   go_wp2
   (try simp only[Exit.inBlock,Exit.then])
   exact bodyPost_ret (v:=.agg cs.toArray) (zg3 rfl _ _ _ _ _ (by rfl) (run_loadVar_mid w5 w.heap.size 0 232 cs _ hb6.range Tryz.underlying232 rfl (by rw[hlen];exact Tryz.infoJoin))) rfl ⟨PJ,by rw[HJE.out,HCS.out],by rw[HJE.out];exact hJ4,HJR.out,hb4⟩
def zir(ps:List zfz)(place:Nat):List Nat:=ps.zipIdx.map fun x=>if x.2 < place then x.1.bb else if x.2=place then x.1.fb else x.1.ab
theorem zpq(vs:List zco)(pl:Nat):(partly vs pl).length=vs.length:=by simp[partly]
theorem z1u{w:World}{own:Nat->zay}{k wd p:Nat}{W:zbe}{P:za6}(h:zdy lo w own k wd W P)(pl i:Nat)(h1:i < W.views.length)(h2:i < P.vps.length)(h3:i < (partly W.views pl).length)(h4:i < (zir P.vps pl).length):∃ ρ,ρ≠(0,p,0)/\zcs lo w own ρ (zir P.vps pl)[i] (partly W.views pl)[i]:=by
 have hv:=h.view i h1 h2
 simp only[zir,partly,List.getElem_map,List.getElem_zipIdx,Nat.zero_add]
 split
 ·exact⟨_,by simp,hv.before⟩
 ·split
  ·exact⟨_,by simp,hv.fresh⟩
  ·exact⟨_,by simp,hv.all⟩
attribute [local go_sem] zm1
theorem zyr(w:World)(own:Nat->zay)(k wd p gw o pl:Nat)(W:zbe)(P:za6)(nots:List zad)(h:zdy lo w own k wd W P)(hc:WC w gw o W.rule P)(hlo:lo<=w.heap.size)(hpl:pl<=1000000)(hn:nots.length=W.rule.nots.length)(hnt:∀ i (h1:i < nots.length) (h2:i < P.nbs.length),∃ ρ,ρ≠(0,p,0)/\zcs lo w own ρ P.nbs[i] nots[i]) :
  Calls Tryz.prog 140 #[.pointer (some ⟨gw,o,none⟩),.int .i64 pl] w fun e w'=>zge lo w own p (za0 W.rule (partly W.views pl) nots) e w':=by
 obtain⟨i0,hi,hz0,hzs,hzb⟩:=info_parts Tryz.infoTP
 have HNEW:Hid (∀ W' pb,Below w.heap.size w W'->W'.ownsRow w.heap.size 113 1 (.slice (some ⟨pb,0,none⟩) W.views.length W.views.length) W.views.length (pts (zir P.vps pl))->Calls Tryz.prog 143 #[zk3 W.rule P.tv P.pv P.nv,.slice (some ⟨pb,0,none⟩) W.views.length W.views.length,P.ntv] W' fun e w'=>zge lo W' own p (za0 W.rule (partly W.views pl) nots) e w'):=fun W' pb hB hrow=>by
  have q:=znf (p:=p) (pb:=pb) (plain:=partly W.views pl) (bs:=zir P.vps pl) (nots:=nots) (W':=W') h hlo (by simp[partly]) (by simp[zir,partly,h.vlen]) (fun i h1 h2=>z1u h pl i (by simpa [partly] using h1) (by simpa [zir] using h2) h1 h2) hn hnt hB (by rw[zpq];exact hrow)
  rw[zpq] at q
  exact q
 have HJ0:Hid (∀ i (h1:i < W.views.length) (h2:i < P.vps.length),∃ g cap,P.vv=.slice (some ⟨g,0,none⟩) W.views.length cap/\g < w.heap.size/\w.cell? ⟨g,i * 6,none⟩=some (.int .i64 (W.views[i].lit.pred:Nat))/\w.cell? ⟨g,i * 6+1,none⟩=some P.vps[i].tv/\w.cell? ⟨g,i * 6+2,none⟩=some (.int .i64 (wd:Nat))/\w.cell? ⟨g,i * 6+3,none⟩=some (.pointer (some ⟨P.vps[i].bb,0,none⟩))/\w.cell? ⟨g,i * 6+4,none⟩=some (.pointer (some ⟨P.vps[i].fb,0,none⟩))/\w.cell? ⟨g,i * 6+5,none⟩=some (.pointer (some ⟨P.vps[i].ab,0,none⟩))):=fun i a b=>h.viewAt i a b
 have HTV:Hid (∀ i (h1:i < W.views.length) (h2:i < P.vps.length),∃ ao cap,P.vps[i].tv=.slice ao W.views[i].lit.terms.length cap):=fun i a b=>(h.view i a b).terms.shape
 have HVL:Hid (P.vps.length=W.views.length):=h.vlen
 have hfew:=h.few
 obtain⟨aov,capv,hvv⟩:=zab h.views
 obtain⟨aot,capt,htv⟩:=h.rule.head.shape
 obtain⟨aop,capp,hpv⟩:=h.rule.plain.shape
 obtain⟨aon,capn,hnv⟩:=h.rule.nots.shape
 obtain⟨aob,capb,hntv⟩:=zab h.nots
 have HW:Hid (WC w gw o W.rule P):=hc
 have HVV:Hid (P.vv=.slice aov W.views.length capv):=hvv
 have HTT:Hid (P.tv=.slice aot W.rule.head.terms.length capt/\P.pv=.slice aop W.rule.plain.length capp/\P.nv=.slice aon W.rule.nots.length capn/\P.ntv=.slice aob W.rule.nots.length capb):=⟨htv,hpv,hnv,hntv⟩
 have hmk:=fun W0:World=>run_make (P:=Tryz.prog) (w:=W0) 103 113 i0 _ Tryz.underlying103 hi hz0 .i64 .i64 (W.views.length:Int) (W.views.length:Int) (by omega) (Int.le_refl _) (by rw[hzb];omega) (by omega)
 rw[hzs] at hmk
 have hc6:=hc.c6
 rw[hvv] at hc6
 have hcl:=hc.lt
 have hcf:=hc.free
 clear h hc hnt hvv htv hpv hnv hntv
 go_enter Tryz.func140,Tryz.ntmps140
 go_upto_region 3 with fail
 have hB1:Below w.heap.size w ((w.alloc (.cells (bj 0 0 0 none none 0 0 0 0).toArray 232)).alloc (.cells (madeCells #[.pointer none] W.views.length) 113)):=(by go_grown)
 have hrow:=zhn (w.alloc (.cells (bj 0 0 0 none none 0 0 0 0).toArray 232)) W.views.length 113 (.pointer none) (by unfold maxLen;omega)
 rw[World.size_alloc] at hrow
 have hth:zcz ((w.alloc (.cells (bj 0 0 0 none none 0 0 0 0).toArray 232)).alloc (.cells (madeCells #[.pointer none] W.views.length) 113)) w.heap.size:=zh3 _ _ _ _ _ _ _ _ _ _ _
 have hbl:(zir P.vps pl).length=W.views.length:=by simp[zir,HVL.out]
 have HR0:Hid (((w.alloc (.cells (bj 0 0 0 none none 0 0 0 0).toArray 232)).alloc (.cells (madeCells #[.pointer none] W.views.length) 113)).ownsRow w.heap.size 113 1 (.slice (some ⟨w.heap.size+1,0,none⟩) W.views.length W.views.length) W.views.length (zhy (zir P.vps pl) 0)):=by
  have e:zhy (zir P.vps pl) 0=List.replicate W.views.length (.pointer none):=by simp[zhy,zir,HVL.out]
  rw[Hid,e]
  exact zbb hrow (by omega)
 have HBE:Hid ((zir P.vps pl).length=W.views.length):=hbl
 have HBI:Hid (∀ i (h1:i < P.vps.length) (h2:i < (zir P.vps pl).length),(zir P.vps pl)[i]=if i < pl then P.vps[i].bb else if i=pl then P.vps[i].fb else P.vps[i].ab):=fun i a b=>by simp[zir]
 clear hrow hbl hc6 hcl hcf hmk
 generalize (w.alloc (.cells (bj 0 0 0 none none 0 0 0 0).toArray 232)).alloc (.cells (madeCells #[.pointer none] W.views.length) 113)=w1 at *
 generalize zir P.vps pl=bs at *
 have HTH:Hid (zcz w1 w.heap.size):=hth
 clear hth
 go_loopw [19] (fun v17 wr=>∃ m:Nat,m<=W.views.length/\v17=.int .i64 m/\Below w.heap.size w wr/\Hid (zcz wr w.heap.size)/\Hid (wr.ownsRow w.heap.size 113 1 (.slice (some ⟨w.heap.size+1,0,none⟩) W.views.length W.views.length) W.views.length (zhy bs m))) (fun i _=>W.views.length - (intOf i).toNat)
 case atStart=>exact⟨0,Nat.zero_le _,rfl,hB1,HTH,HR0⟩
 case round =>
  clear HR0 HTH hB1
  obtain⟨m,hm,rfl,hbk,HTH,HR⟩:=hrel
  have hszk:=hbk.size
  by_cases hlt:m < W.views.length
  ·have hm2:m < P.vps.length:=by rw[HVL.out];exact hlt
   have hmb:m < bs.length:=by rw[HBE.out];exact hlt
   obtain⟨gv,capv',hvv',hgv,q0,q1,q2,q3,q4,q5⟩:=HJ0.out m hlt hm2
   rw[HVV.out] at hvv'
   simp only[Value.slice.injEq] at hvv'
   have hgg:=hvv'.1
   clear hvv'
   subst hgg
   obtain⟨aoq,capq,hq⟩:=HTV.out m hlt hm2
   rw[hq] at q1
   have x0:=(hbk.cell (p:=⟨gv,m * 6,none⟩) hgv).trans q0
   have x1:=(hbk.cell (p:=⟨gv,m * 6+1,none⟩) hgv).trans q1
   have x2:=(hbk.cell (p:=⟨gv,m * 6+2,none⟩) hgv).trans q2
   have x3:=(hbk.cell (p:=⟨gv,m * 6+3,none⟩) hgv).trans q3
   have x4:=(hbk.cell (p:=⟨gv,m * 6+4,none⟩) hgv).trans q4
   have x5:=(hbk.cell (p:=⟨gv,m * 6+5,none⟩) hgv).trans q5
   have hgr:gv < wr.heap.size:=by omega
   have hrow:=HR.out
   have hll:=zsr bs m (by omega)
   obtain⟨sx,hsx⟩:∃ sx,wr.cell? ⟨w.heap.size+1,m,none⟩=some sx:=by
    obtain⟨g',cap',hv',_,_,hcl'⟩:=zas hrow (by omega)
    simp only[Value.slice.injEq,Option.some.injEq,Addr.mk.injEq,and_true] at hv'
    have e:=hv'.1
    subst e
    exact⟨_,hcl' m _ (List.getElem?_eq_getElem (by omega))⟩
   have hsf:=zby hrow
   have hpl:w.heap.size+1 < wr.heap.size:=zdk hrow rfl
   obtain⟨xb,hxb⟩:∃ xb,xb=(if m < pl then P.vps[m].bb else if m=pl then P.vps[m].fb else P.vps[m].ab):=⟨_,rfl⟩
   have HSS:Hid ((zhy bs m).set m (.pointer (some ⟨xb,0,none⟩))=zhy bs (m+1)):=by
    have q:=zss bs m hmb
    rw[HBI.out m hm2 hmb,← hxb] at q
    exact q
   have hgrow:Below (wr.setCell ⟨w.heap.size+1,m,none⟩ (.pointer (some ⟨xb,0,none⟩))).heap.size (wr.setCell ⟨w.heap.size+1,m,none⟩ (.pointer (some ⟨xb,0,none⟩))) ((wr.setCell ⟨w.heap.size+1,m,none⟩ (.pointer (some ⟨xb,0,none⟩))).alloc (.cells #[.int .i64 (W.views[m].lit.pred:Nat),.slice aoq W.views[m].lit.terms.length capq,.int .i64 (wd:Nat),.pointer (some ⟨P.vps[m].bb,0,none⟩),.pointer (some ⟨P.vps[m].fb,0,none⟩),.pointer (some ⟨P.vps[m].ab,0,none⟩)] 223)):=(by go_grown)
   have hth2:=zg6 (zp9 (o:=m) (u:=.pointer (some ⟨xb,0,none⟩)) HTH.out (show w.heap.size≠w.heap.size+1 by omega)) hgrow
   have hset0:=zb7 hrow m (by omega) (.pointer (some ⟨xb,0,none⟩))
   rw[HSS.out] at hset0
   have hset:=zaa hset0 hgrow
   have hb5:Below w.heap.size w ((wr.setCell ⟨w.heap.size+1,m,none⟩ (.pointer (some ⟨xb,0,none⟩))).alloc (.cells #[.int .i64 (W.views[m].lit.pred:Nat),.slice aoq W.views[m].lit.terms.length capq,.int .i64 (wd:Nat),.pointer (some ⟨P.vps[m].bb,0,none⟩),.pointer (some ⟨P.vps[m].fb,0,none⟩),.pointer (some ⟨P.vps[m].ab,0,none⟩)] 223)):=zae (hbk.setCell (by simp) _) hgrow (Nat.le_refl _)
   clear hset0
   have hmkk:(m:Int) < (W.views.length:Int):=by omega
   clear q0 q1 q2 q3 q4 q5 hll hq HSS
   generalize W.views[m].lit.pred=vp at *
   generalize W.views[m].lit.terms.length=vt at *
   generalize P.vps[m].bb=bbm at *
   generalize P.vps[m].fb=fbm at *
   generalize P.vps[m].ab=abm at *
   have HXB:Hid (xb=(if m < pl then bbm else if m=pl then fbm else abm)):=hxb
   clear hxb
   by_cases g1:m < pl
   ·have g1':(m:Int) < (pl:Int):=by omega
    obtain rfl:xb=bbm:=by rw[HXB.out,if_pos g1]
    clear HXB
    go_wp2
    exact⟨⟨m+1,by omega,by go_num,hb5,hth2,hset⟩,by simp[intOf];omega⟩
   ·have g1':¬ (m:Int) < (pl:Int):=by omega
    by_cases g2:m=pl
    ·have g2':((m:Int) == (pl:Int))=true:=by rw[beq_iff_eq];omega
     obtain rfl:xb=fbm:=by rw[HXB.out,if_neg g1,if_pos g2]
     have HG2:Hid (m=pl):=g2
     clear HXB g2
     go_wp2
     exact⟨⟨m+1,by omega,by go_num,hb5,hth2,hset⟩,by simp[intOf];omega⟩
    ·have g2':((m:Int) == (pl:Int))=false:=by rw[beq_eq_false_iff_ne];omega
     obtain rfl:xb=abm:=by rw[HXB.out,if_neg g1,if_neg g2]
     clear HXB
     go_wp2
     exact⟨⟨m+1,by omega,by go_num,hb5,hth2,hset⟩,by simp[intOf];omega⟩
  ·obtain rfl:m=W.views.length:=by omega
   have HRA:Hid (wr.ownsRow w.heap.size 113 1 (.slice (some ⟨w.heap.size+1,0,none⟩) W.views.length W.views.length) W.views.length (pts bs)):=by
    have q:=HR.out
    rw[← HBE.out,zsq,HBE.out] at q
    exact q
   have hw2:=HW.out.below hbk
   obtain⟨t1,t2,t3,t4⟩:=HTT.out
   obtain⟨hgl,hgf,d0,d1,d2,d3,d4,d5,d6,d7⟩:=hw2
   rw[t1] at d3
   rw[t2] at d4
   rw[t3] at d5
   rw[t4] at d7
   have hgne:gw≠w.heap.size:=by have:=HW.out.lt;omega
   have HNW:Hid (∀ W0,Below wr.heap.size wr W0->Calls Tryz.prog 143 #[.agg #[.int .i64 (W.rule.stratum:Nat),.int .i64 (W.rule.vars:Nat),.int .i64 (W.rule.head.pred:Nat),.slice aot W.rule.head.terms.length capt,.slice aop W.rule.plain.length capp,.slice aon W.rule.nots.length capn],.slice (some ⟨w.heap.size+1,0,none⟩) W.views.length W.views.length,.slice aob W.rule.nots.length capb] W0 fun e w'=>zge lo W0 own p (za0 W.rule (partly W.views pl) nots) e w'):=fun W0 hW0=>by
    have q:=HNEW.out W0 (w.heap.size+1) (zae hbk hW0 (Nat.le_refl _)) (zaa HRA.out hW0)
    rw[zk3,t1,t2,t3,t4] at q
    exact q
   clear t1 t2 t3 t4 d6 HNEW hlt hm
   generalize hJe:za0 W.rule (partly W.views pl) nots=J at *
   have HJE:Hid (za0 W.rule (partly W.views pl) nots=J):=hJe
   clear hJe
   go_wp2
   go_region_held3 (fun w'=>w'.cell? ⟨gw,o,none⟩=some (.int .i64 (W.rule.stratum:Nat))/\w'.cell? ⟨gw,o+1,none⟩=some (.int .i64 (W.rule.vars:Nat))/\w'.cell? ⟨gw,o+2,none⟩=some (.int .i64 (W.rule.head.pred:Nat))/\w'.cell? ⟨gw,o+3,none⟩=some (.slice aot W.rule.head.terms.length capt)/\w'.cell? ⟨gw,o+4,none⟩=some (.slice aop W.rule.plain.length capp)/\w'.cell? ⟨gw,o+5,none⟩=some (.slice aon W.rule.nots.length capn)/\w'.cell? ⟨gw,o+7,none⟩=some (.slice aob W.rule.nots.length capb)) (first|(exact⟨d20,d21,d22,d23,d24,d25,d27⟩)|(exact⟨(zcu _ _ _ _ _ hgne).trans d20,(zcu _ _ _ _ _ hgne).trans d21,(zcu _ _ _ _ _ hgne).trans d22,(zcu _ _ _ _ _ hgne).trans d23,(zcu _ _ _ _ _ hgne).trans d24,(zcu _ _ _ _ _ hgne).trans d25,(zcu _ _ _ _ _ hgne).trans d27⟩)|go_keep|(go_simp;done)) (first|(go_at_call 143;refine(HNW.out _ (by exact(by go_grown))).mono ?_;rintro e w2 ⟨PJ,rfl,hJM,hJR,hb2⟩;have hB2:Below wr.heap.size wr w2:=(zae (by go_grown) hb2 (Nat.le_refl _));have hw3:=HW.out.below (zae hbk hB2 (Nat.le_refl _));obtain⟨hgl2,hgf2,d20,d21,d22,d23,d24,d25,_,d27⟩:=hw3;rw[HTT.out.1] at d23;rw[HTT.out.2.1] at d24;rw[HTT.out.2.2.1] at d25;rw[HTT.out.2.2.2] at d27;have hth2:=zg6 HTH.out hB2;have hst:=zi8 hJM hth2;have hlen:=zgi J PJ hJM.hlen.1 hJM.fives;have HJM:Hid (zg7 lo w2 J PJ):=hJM;have HJR:Hid (zjl own PJ p):=hJR;clear hJM hJR;generalize hcs:zb6 J PJ=cs at *;have HCS:Hid (zb6 J PJ=cs):=hcs;clear hcs))
   have hb6:=zi4 (cs:=cs) hth2 hlen
   have hs6:=ziv w2 w.heap.size cs
   have hJ4:=HJM.out.saveJ hs6 (OfT.box hth2.choose_spec.1)
   have hb4:Below w.heap.size w (zvk w2 w.heap.size cs):=(zae hbk hB2 (Nat.le_refl _)).trans (hs6.below (by simp) (by have:=hB2.size;omega))
   clear hst d0 d1 d2 d3 d4 d5 d7 d20 d21 d22 d23 d24 d25 d27 hgf hgf2
   generalize zvk w2 w.heap.size cs=w5 at *
   go_wp2
   (try simp only[Exit.inBlock,Exit.then])
   exact bodyPost_ret (v:=.agg cs.toArray) (zg3 rfl _ _ _ _ _ (by rfl) (run_loadVar_mid w5 w.heap.size 0 232 cs _ hb6.range Tryz.underlying232 rfl (by rw[hlen];exact Tryz.infoJoin))) rfl ⟨PJ,by rw[HJE.out,HCS.out],by rw[HJE.out];exact hJ4,HJR.out,hb4⟩
end Go.Proofs.YteampbddflhngabGreat
