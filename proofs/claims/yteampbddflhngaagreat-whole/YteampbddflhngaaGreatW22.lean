import Derived.Test.YteampbddflhngaaGreatW20
import Derived.Test.YteampbddflhngaaGreatW21

namespace Go.Proofs.YteampbddflhngaaGreat
open Go.RowKit
variable {lo:Nat}
variable {w:World}
structure zba where
 tv:Value
 pv:Value
 nv:Value
 vv:Value
 ntv:Value
 vps:List zf6
 nbs:List Nat
def zb7(r:zah)(P:zba):List Value:=[.int .i64 (r.qi:Nat),.int .i64 (r.vars:Nat),.int .i64 (r.head.pred:Nat),P.tv,P.pv,P.nv,P.vv,P.ntv]
def zg5(wd:Nat)(vs:List zcs)(ps:List zf6):List Value:=(List.zipWith (zc1 wd) vs ps).flatten
structure zd6 (lo:Nat) (w:World) (own:Nat->zay) (k wd:Nat) (W:zbk) (P:zba):Prop where
 rule:zdp lo w P.tv P.pv P.nv W.rule
 qj:w.ownsRow lo 301 6 P.vv W.qj.length (zg5 wd W.qj P.vps)
 vlen:P.vps.length=W.qj.length
 view:∀ i (_:i < W.qj.length) (_:i < P.vps.length),zf7 lo w own k i W.qj[i] P.vps[i]
 vrole:∀ b,P.vv.ownBlock=some b->own b=(k+1,0,9)
 qm:w.ownsRow lo 162 1 P.ntv W.rule.qm.length (pts P.nbs)
 nlen:P.nbs.length=W.rule.qm.length
 few:W.qj.length<=1000
theorem zyk(wd:Nat):∀(vs:List zcs) (ps:List zf6) (i:Nat) (h1:i < vs.length) (h2:i < ps.length),(zg5 wd vs ps)[i * 6]?=some (.int .i64 (vs[i].lit.pred:Nat))/\(zg5 wd vs ps)[i * 6+1]?=some ps[i].tv/\(zg5 wd vs ps)[i * 6+2]?=some (.int .i64 (wd:Nat))/\(zg5 wd vs ps)[i * 6+3]?=some (pt ps[i].bb)/\(zg5 wd vs ps)[i * 6+4]?=some (pt ps[i].fb)/\(zg5 wd vs ps)[i * 6+5]?=some (pt ps[i].ab)
 |[],_,i,h1,_=>by simp at h1
 |v::vs,[],i,_,h2=>by simp at h2
 |v::vs,p::ps,0,_,_=>by simp[zg5,zc1]
 |v::vs,p::ps,i+1,h1,h2=>by
  have:=zyk wd vs ps i (by simpa using h1) (by simpa using h2)
  simp only[zg5,ubz,ucu] at this ⊢
  rw[show(i+1) * 6=i * 6+6 from by omega]
  have e0:i * 6+6=(zc1 wd v p).length+i * 6:=by simp[zc1];omega
  rw[e0]
  simp only[Nat.add_assoc,ua1 (Nat.le_add_right _ _),uc6]
  simpa using this
theorem zd6.viewAt{own:Nat->zay}{k wd:Nat}{W:zbk}{P:zba}(h:zd6 lo w own k wd W P)(i:Nat)(h1:i < W.qj.length)(h2:i < P.vps.length):∃ g cap,P.vv=.slice (some ⟨g,0,none⟩) W.qj.length cap/\g < w.heap.size/\w.cell? ⟨g,i * 6,none⟩=some (.int .i64 (W.qj[i].lit.pred:Nat))/\w.cell? ⟨g,i * 6+1,none⟩=some P.vps[i].tv/\w.cell? ⟨g,i * 6+2,none⟩=some (.int .i64 (wd:Nat))/\w.cell? ⟨g,i * 6+3,none⟩=some (.pointer (some ⟨P.vps[i].bb,0,none⟩))/\w.cell? ⟨g,i * 6+4,none⟩=some (.pointer (some ⟨P.vps[i].fb,0,none⟩))/\w.cell? ⟨g,i * 6+5,none⟩=some (.pointer (some ⟨P.vps[i].ab,0,none⟩)):=by
 obtain⟨g,cap,hv,_,hg,hc⟩:=zal h.qj (by omega)
 obtain⟨q0,q1,q2,q3,q4,q5⟩:=zyk wd W.qj P.vps i h1 h2
 exact⟨g,cap,hv,hg,hc _ _ q0,hc _ _ q1,hc _ _ q2,hc _ _ q3,hc _ _ q4,hc _ _ q5⟩
theorem zo6{w:World}{own:Nat->zay}{S:zay->Prop}:∀(Ts:List zad) (bs:List Nat),bs.length=Ts.length->(∀ i (h1:i < Ts.length) (h2:i < bs.length),∃ ρ,S ρ/\zcw lo w own ρ bs[i] Ts[i])->∃ ps:List (Nat × List Nat),ps.map (·.1)=bs/\(∀ i (h1:i < Ts.length) (h2:i < ps.length),zat lo w ps[i].1 Ts[i] ps[i].2)/\∀ x∈ps,∀ b∈x.2,S (own b)
 |[],[],_,_=>⟨[],rfl,fun i h=>by simp at h,fun x hx=>by simp at hx⟩
 |[],b::bs,h,_=>by simp at h
 |T::Ts,[],h,_=>by simp at h
 |T::Ts,b::bs,h,hh=>by
  obtain⟨ρ,hS,fp,h1,h2⟩:=hh 0 (by simp) (by simp)
  obtain⟨ps,q1,q2,q3⟩:=zo6 Ts bs (by simpa using h) fun i a c=>by
   have:=hh (i+1) (by simpa using a) (by simpa using c)
   simpa using this
  refine⟨(b,fp)::ps,by simp[q1],fun i a c=>?_,fun x hx y hy=>?_⟩
  ·match i,a,c with
   |0,_,_=>exact h1
   |i+1,a,c=>exact q2 i (by simpa using a) (by simpa using c)
  ·rcases uag.1 hx with rfl|hx
   ·rw[h2 y hy];exact hS
   ·exact q3 x hx y hy
def zgl(lo:Nat)(w:World)(own:Nat->zay)(p:Nat)(J:zav)(e:Ending)(w':World):Prop:=∃ P,e=.returned (.agg (zca J P).toArray)/\zhf lo w' J P/\zj5 own P p/\Below w.heap.size w w'
theorem zzn{J:zav}{P:zbx}(h:zhf lo w J P):∀ u∈zca J P,u.oneCell'=true:=by
 intro u hu
 obtain⟨a1,c1,e1⟩:=h.head.shape
 obtain⟨a2,c2,e2⟩:=zac h.qy
 obtain⟨a3,c3,e3⟩:=zac h.bars
 simp only[zca,uao,uag,uai,ucs,or_false] at hu
 rcases hu with ((((((hu|hu)|⟨_,_,hu⟩)|hu)|⟨_,_,hu⟩)|⟨_,_,hu⟩)|hu)
 ·rcases hu with rfl|rfl|rfl|rfl|rfl
  ·rfl
  ·rw[e1];rfl
  ·rfl
  ·rw[e2];rfl
  ·rw[e3];rfl
 ·obtain⟨p,hp,rfl⟩:=uau hu
  have h5:=h.hlen
  obtain⟨ao,cap,e⟩:=zac (h.ja p (by omega) hp).1
  rw[e];rfl
 ·subst hu;rfl
 ·subst hu;rfl
 ·subst hu;rfl
 ·subst hu;rfl
 ·rcases hu with rfl|rfl <;> rfl
def zh5(bs:List Nat)(k:Nat):List Value:=(bs.take k).map pt++List.replicate (bs.length - k) (.pointer none)
theorem ztu(bs:List Nat)(k:Nat)(hk:k<=bs.length):(zh5 bs k).length=bs.length:=by simp[zh5];omega
theorem ztv(bs:List Nat)(k:Nat)(hk:k < bs.length):(zh5 bs k).set k (.pointer (some ⟨bs[k],0,none⟩))=zh5 bs (k+1):=by
 obtain⟨m,hm⟩:∃ m,bs.length - k=m+1:=⟨bs.length - k - 1,by omega⟩
 unfold zh5
 rw[ubd _ _ (by simp;omega),ua0,ua2,ubv (by omega),ubs,hm,ucc,uda,uae hk,ua8,show bs.length - (k+1)=m from by omega,uba]
 rfl
theorem ztt(bs:List Nat):zh5 bs bs.length=pts bs:=by simp[zh5,pts]
theorem Tryz.infoTP:(Tryz.prog.info? 162).map (fun i=>(i.zero,i.size,i.bytes))=some (some (.pointer none),1,8):=by kernel_rfl
theorem zoc{W':World}{own:Nat->zay}{k wd p pb:Nat}{W:zbk}{P:zba}{qc qm:List zad}{bs:List Nat}(hw:zd6 lo w own k wd W P)(hlo:lo<=w.heap.size)(hp:qc.length=W.qj.length)(hb:bs.length=qc.length)(hpl:∀ i (h1:i < qc.length) (h2:i < bs.length),∃ ρ,ρ≠(0,p,0)/\zcw lo w own ρ bs[i] qc[i])(hn:qm.length=W.rule.qm.length)(hnt:∀ i (h1:i < qm.length) (h2:i < P.nbs.length),∃ ρ,ρ≠(0,p,0)/\zcw lo w own ρ P.nbs[i] qm[i])(hB:Below w.heap.size w W')(hrow:W'.ownsRow w.heap.size 162 1 (.slice (some ⟨pb,0,none⟩) qc.length qc.length) qc.length (pts bs)) :
  Calls Tryz.prog 214 #[zlo W.rule P.tv P.pv P.nv,.slice (some ⟨pb,0,none⟩) qc.length qc.length,P.ntv] W' fun e w'=>zgl lo W' own p (za3 W.rule qc qm) e w':=by
 obtain⟨ps,q1,q2,q3⟩:=zo6 qc bs hb hpl
 obtain⟨ns,s1,s2,s3⟩:=zo6 qm P.nbs (by rw[hw.nlen,hn]) hnt
 have hpsl:ps.length=qc.length:=by rw[← hb,← q1,ua0]
 have hnsl:ns.length=qm.length:=by rw[hn,← hw.nlen,← s1,ua0]
 have e1:pts bs=ps.map fun x=>pt0 x.1:=by rw[← q1];simp[pts];exact fun _ _ _=>rfl
 have e2:pts P.nbs=ns.map fun x=>pt0 x.1:=by rw[← s1];simp[pts];exact fun _ _ _=>rfl
 have hfew:=hw.few
 have hnl:=hw.rule.qm.len
 have h1:z4u w.heap.size lo W' (.slice (some ⟨pb,0,none⟩) qc.length qc.length) qc ps:=⟨by rw[← e1];exact hrow,hpsl,fun i a b=>(q2 i a b).below hB,by omega⟩
 have h2:z4u lo lo W' P.ntv qm ns:=⟨by rw[hn,← e2];exact zaa hw.qm hB,hnsl,fun i a b=>(s2 i a b).below hB,by omega⟩
 refine(z5x W' W.rule P.tv P.pv P.nv _ _ qc qm ps ns (hw.rule.below hB) h1 h2 hn (by have:=hB.size;omega)).mono ?_
 rintro e w' ⟨PJ,rfl,hJ,ht,hb',hB'⟩
 refine⟨PJ,rfl,hJ,⟨fun x hx b hb2=>q3 x (by rw[← ht];exact hx) b hb2,fun x hx b hb2=>s3 x.2 (by rw[← hb'];exact List.mem_map_of_mem hx) b hb2⟩,hB'⟩
set_option maxRecDepth 100000
set_option maxHeartbeats 4000000
theorem zhe{w':World}{b:Nat}(h:zc6 w b)(hb:Below w.heap.size w w'):zc6 w' b:=by obtain⟨c,h1,h2⟩:=h;exact⟨c,h1.below hb,h2⟩
theorem zq8{b b' o:Nat}{u:Value}(h:zc6 w b)(hn:b≠b'):zc6 (w.setCell ⟨b',o,none⟩ u) b:=by obtain⟨c,h1,h2⟩:=h;exact⟨c,h1.set_ne hn _ _,h2⟩
structure WC (w:World) (gw o:Nat) (r:zah) (P:zba):Prop where
 lt:gw < w.heap.size
 free:∀ q,w.frozen? ⟨gw,q,none⟩=false
 c0:w.cell? ⟨gw,o,none⟩=some (.int .i64 (r.qi:Nat))
 c1:w.cell? ⟨gw,o+1,none⟩=some (.int .i64 (r.vars:Nat))
 c2:w.cell? ⟨gw,o+2,none⟩=some (.int .i64 (r.head.pred:Nat))
 c3:w.cell? ⟨gw,o+3,none⟩=some P.tv
 c4:w.cell? ⟨gw,o+4,none⟩=some P.pv
 c5:w.cell? ⟨gw,o+5,none⟩=some P.nv
 c6:w.cell? ⟨gw,o+6,none⟩=some P.vv
 c7:w.cell? ⟨gw,o+7,none⟩=some P.ntv
theorem WC.below{w':World}{gw o:Nat}{r:zah}{P:zba}(h:WC w gw o r P)(hb:Below w.heap.size w w'):WC w' gw o r P:=by
 have e:=fun q=>hb.cell (p:=⟨gw,q,none⟩) h.lt
 exact⟨by have:=hb.size;have:=h.lt;omega,fun q=>(hb.frozen (p:=⟨gw,q,none⟩) h.lt).trans (h.free q),(e _).trans h.c0,(e _).trans h.c1,(e _).trans h.c2,(e _).trans h.c3,(e _).trans h.c4,(e _).trans h.c5,(e _).trans h.c6,(e _).trans h.c7⟩
theorem zjn{b:Nat}{J:zav}{P:zbx}{w0:World}(hm:zhf lo w0 J P)(h:zc6 w b):(storeCells ⟨b,0,none⟩ (zca J P)).run Tryz.prog w=.ok () (zwm w b (zca J P)):=by
 have hl:=zgp J P hm.hlen.1 hm.ji
 exact run_storeCells_cells (P:=Tryz.prog) b 0 (zca J P) 0 w (fun j hj=>(h.there j (by omega)).1) (fun j hj=>(h.there j (by omega)).2) (zzn hm)
attribute [local go_sem] znv
theorem z4q(w:World)(own:Nat->zay)(k wd p gw o:Nat)(W:zbk)(P:zba)(qm:List zad)(h:zd6 lo w own k wd W P)(hc:WC w gw o W.rule P)(hlo:lo<=w.heap.size)(hn:qm.length=W.rule.qm.length)(hnt:∀ i (h1:i < qm.length) (h2:i < P.nbs.length),∃ ρ,ρ≠(0,p,0)/\zcw lo w own ρ P.nbs[i] qm[i]) :
  Calls Tryz.prog 207 #[.pointer (some ⟨gw,o,none⟩)] w fun e w'=>zgl lo w own p (za3 W.rule (W.qj.map (·.all)) qm) e w':=by
 obtain⟨i0,hi,hz0,hzs,hzb⟩:=info_parts Tryz.infoTP
 have HNEW:Hid (∀ W' pb,Below w.heap.size w W'->W'.ownsRow w.heap.size 162 1 (.slice (some ⟨pb,0,none⟩) W.qj.length W.qj.length) W.qj.length (pts (P.vps.map (·.ab)))->Calls Tryz.prog 214 #[zlo W.rule P.tv P.pv P.nv,.slice (some ⟨pb,0,none⟩) W.qj.length W.qj.length,P.ntv] W' fun e w'=>zgl lo W' own p (za3 W.rule (W.qj.map (·.all)) qm) e w'):=fun W' pb hB hrow=>by
  have q:=zoc (p:=p) (pb:=pb) (qc:=W.qj.map (·.all)) (bs:=P.vps.map (·.ab)) (qm:=qm) (W':=W') h hlo (by simp) (by simp[h.vlen]) (fun i h1 h2=>⟨(k+1,i,2),by simp,by simp only[uaw];exact(h.view i (by simpa using h1) (by simpa using h2)).all⟩) hn hnt hB (by simpa using hrow)
  simpa using q
 have HJ0:Hid (∀ i (h1:i < W.qj.length) (h2:i < P.vps.length),∃ g cap,P.vv=.slice (some ⟨g,0,none⟩) W.qj.length cap/\g < w.heap.size/\w.cell? ⟨g,i * 6,none⟩=some (.int .i64 (W.qj[i].lit.pred:Nat))/\w.cell? ⟨g,i * 6+1,none⟩=some P.vps[i].tv/\w.cell? ⟨g,i * 6+2,none⟩=some (.int .i64 (wd:Nat))/\w.cell? ⟨g,i * 6+3,none⟩=some (.pointer (some ⟨P.vps[i].bb,0,none⟩))/\w.cell? ⟨g,i * 6+4,none⟩=some (.pointer (some ⟨P.vps[i].fb,0,none⟩))/\w.cell? ⟨g,i * 6+5,none⟩=some (.pointer (some ⟨P.vps[i].ab,0,none⟩))):=fun i a b=>h.viewAt i a b
 have HTV:Hid (∀ i (h1:i < W.qj.length) (h2:i < P.vps.length),∃ ao cap,P.vps[i].tv=.slice ao W.qj[i].lit.qf.length cap):=fun i a b=>(h.view i a b).qf.shape
 have HVL:Hid (P.vps.length=W.qj.length):=h.vlen
 have hfew:=h.few
 obtain⟨aov,capv,hvv⟩:=zac h.qj
 obtain⟨aot,capt,htv⟩:=h.rule.head.shape
 obtain⟨aop,capp,hpv⟩:=h.rule.qc.shape
 obtain⟨aon,capn,hnv⟩:=h.rule.qm.shape
 obtain⟨aob,capb,hntv⟩:=zac h.qm
 have HW:Hid (WC w gw o W.rule P):=hc
 have HVV:Hid (P.vv=.slice aov W.qj.length capv):=hvv
 have HTT:Hid (P.tv=.slice aot W.rule.head.qf.length capt/\P.pv=.slice aop W.rule.qc.length capp/\P.nv=.slice aon W.rule.qm.length capn/\P.ntv=.slice aob W.rule.qm.length capb):=⟨htv,hpv,hnv,hntv⟩
 have hmk:=fun W0:World=>run_make (P:=Tryz.prog) (w:=W0) 150 162 i0 _ Tryz.underlying150 hi hz0 .i64 .i64 (W.qj.length:Int) (W.qj.length:Int) (by omega) (Int.le_refl _) (by rw[hzb];omega) (by omega)
 rw[hzs] at hmk
 have hc6:=hc.c6
 rw[hvv] at hc6
 have hcl:=hc.lt
 have hcf:=hc.free
 clear h hc hnt hvv htv hpv hnv hntv
 go_enter Tryz.func207,Tryz.ntmps207
 go_upto_region 3 with fail
 have hB1:Below w.heap.size w ((w.alloc (.cells (bj 0 0 0 none none 0 0 0 0).toArray 310)).alloc (.cells (madeCells #[.pointer none] W.qj.length) 162)):=(by go_grown)
 have hrow:=zhv (w.alloc (.cells (bj 0 0 0 none none 0 0 0 0).toArray 310)) W.qj.length 162 (.pointer none) (by unfold maxLen;omega)
 rw[World.size_alloc] at hrow
 have hth:zc6 ((w.alloc (.cells (bj 0 0 0 none none 0 0 0 0).toArray 310)).alloc (.cells (madeCells #[.pointer none] W.qj.length) 162)) w.heap.size:=zic _ _ _ _ _ _ _ _ _ _ _
 have hbl:(P.vps.map (·.ab)).length=W.qj.length:=by simp[HVL.out]
 have HR0:Hid (((w.alloc (.cells (bj 0 0 0 none none 0 0 0 0).toArray 310)).alloc (.cells (madeCells #[.pointer none] W.qj.length) 162)).ownsRow w.heap.size 162 1 (.slice (some ⟨w.heap.size+1,0,none⟩) W.qj.length W.qj.length) W.qj.length (zh5 (P.vps.map (·.ab)) 0)):=by
  have e:zh5 (P.vps.map (·.ab)) 0=List.replicate W.qj.length (.pointer none):=by simp[zh5,HVL.out]
  rw[Hid,e]
  exact zbf hrow (by omega)
 have HBE:Hid ((P.vps.map (·.ab)).length=W.qj.length):=hbl
 have HBI:Hid (∀ i (h1:i < P.vps.length) (h2:i < (P.vps.map (·.ab)).length),(P.vps.map (·.ab))[i]=P.vps[i].ab):=fun i a b=>by simp
 clear hrow hbl hc6 hcl hcf hmk
 generalize (w.alloc (.cells (bj 0 0 0 none none 0 0 0 0).toArray 310)).alloc (.cells (madeCells #[.pointer none] W.qj.length) 162)=w1 at *
 generalize P.vps.map (·.ab)=bs at *
 have HTH:Hid (zc6 w1 w.heap.size):=hth
 clear hth
 go_loopw [17] (fun v17 wr=>∃ m:Nat,m<=W.qj.length/\v17=.int .i64 m/\Below w.heap.size w wr/\Hid (zc6 wr w.heap.size)/\Hid (wr.ownsRow w.heap.size 162 1 (.slice (some ⟨w.heap.size+1,0,none⟩) W.qj.length W.qj.length) W.qj.length (zh5 bs m))) (fun i _=>W.qj.length - (intOf i).toNat)
 case atStart=>exact⟨0,uaj _,rfl,hB1,HTH,HR0⟩
 case round =>
  clear HR0 HTH hB1
  obtain⟨m,hm,rfl,hbk,HTH,HR⟩:=hrel
  have hszk:=hbk.size
  by_cases hlt:m < W.qj.length
  ·have hm2:m < P.vps.length:=by rw[HVL.out];exact hlt
   have hmb:m < bs.length:=by rw[HBE.out];exact hlt
   obtain⟨gv,capv',hvv',hgv,q0,q1,q2,q3,q4,q5⟩:=HJ0.out m hlt hm2
   rw[HVV.out] at hvv'
   simp only[Value.slice.injEq] at hvv'
   have hgg:=hvv'.1
   clear hvv'
   subst hgg
   obtain⟨aoq,capq,hq⟩:=HTV.out m hlt hm2
   rw[hq] at q1
   have x0:=(hbk.cell (p:=⟨gv,m * 6,none⟩) hgv).trans q0
   have x1:=(hbk.cell (p:=⟨gv,m * 6+1,none⟩) hgv).trans q1
   have x2:=(hbk.cell (p:=⟨gv,m * 6+2,none⟩) hgv).trans q2
   have x3:=(hbk.cell (p:=⟨gv,m * 6+3,none⟩) hgv).trans q3
   have x4:=(hbk.cell (p:=⟨gv,m * 6+4,none⟩) hgv).trans q4
   have x5:=(hbk.cell (p:=⟨gv,m * 6+5,none⟩) hgv).trans q5
   have hgr:gv < wr.heap.size:=by omega
   have hrow:=HR.out
   have hll:=ztu bs m (by omega)
   obtain⟨sx,hsx⟩:∃ sx,wr.cell? ⟨w.heap.size+1,m,none⟩=some sx:=by
    obtain⟨g',cap',hv',_,_,hcl'⟩:=zal hrow (by omega)
    simp only[Value.slice.injEq,uab,Addr.mk.injEq,and_true] at hv'
    have e:=hv'.1
    subst e
    exact⟨_,hcl' m _ (uac (by omega))⟩
   have hsf:=zbt hrow
   have hpl:w.heap.size+1 < wr.heap.size:=zdq hrow rfl
   have HSS:Hid ((zh5 bs m).set m (.pointer (some ⟨P.vps[m].ab,0,none⟩))=zh5 bs (m+1)):=by
    have q:=ztv bs m hmb
    rw[HBI.out m hm2 hmb] at q
    exact q
   have hgrow:Below (wr.setCell ⟨w.heap.size+1,m,none⟩ (.pointer (some ⟨P.vps[m].ab,0,none⟩))).heap.size (wr.setCell ⟨w.heap.size+1,m,none⟩ (.pointer (some ⟨P.vps[m].ab,0,none⟩))) ((wr.setCell ⟨w.heap.size+1,m,none⟩ (.pointer (some ⟨P.vps[m].ab,0,none⟩))).alloc (.cells #[.int .i64 (W.qj[m].lit.pred:Nat),.slice aoq W.qj[m].lit.qf.length capq,.int .i64 (wd:Nat),.pointer (some ⟨P.vps[m].bb,0,none⟩),.pointer (some ⟨P.vps[m].fb,0,none⟩),.pointer (some ⟨P.vps[m].ab,0,none⟩)] 301)):=(by go_grown)
   have hth2:=zhe (zq8 (o:=m) (u:=.pointer (some ⟨P.vps[m].ab,0,none⟩)) HTH.out (show w.heap.size≠w.heap.size+1 by omega)) hgrow
   have hset0:=zb4 hrow m (by omega) (.pointer (some ⟨P.vps[m].ab,0,none⟩))
   rw[HSS.out] at hset0
   have hset:=zaa hset0 hgrow
   have hb5:Below w.heap.size w ((wr.setCell ⟨w.heap.size+1,m,none⟩ (.pointer (some ⟨P.vps[m].ab,0,none⟩))).alloc (.cells #[.int .i64 (W.qj[m].lit.pred:Nat),.slice aoq W.qj[m].lit.qf.length capq,.int .i64 (wd:Nat),.pointer (some ⟨P.vps[m].bb,0,none⟩),.pointer (some ⟨P.vps[m].fb,0,none⟩),.pointer (some ⟨P.vps[m].ab,0,none⟩)] 301)):=zae (hbk.setCell (by simp) _) hgrow (uaa _)
   clear hset0
   have hmkk:(m:Int) < (W.qj.length:Int):=by omega
   clear q0 q1 q2 q3 q4 q5 hll hq HSS
   generalize W.qj[m].lit.pred=vp at *
   generalize W.qj[m].lit.qf.length=vt at *
   generalize P.vps[m].bb=bbm at *
   generalize P.vps[m].fb=fbm at *
   generalize P.vps[m].ab=abm at *
   go_wp2
   exact⟨⟨m+1,by omega,by go_num,hb5,hth2,hset⟩,by simp[intOf];omega⟩
  ·obtain rfl:m=W.qj.length:=by omega
   have HRA:Hid (wr.ownsRow w.heap.size 162 1 (.slice (some ⟨w.heap.size+1,0,none⟩) W.qj.length W.qj.length) W.qj.length (pts bs)):=by
    have q:=HR.out
    rw[← HBE.out,ztt,HBE.out] at q
    exact q
   have hw2:=HW.out.below hbk
   obtain⟨t1,t2,t3,t4⟩:=HTT.out
   obtain⟨hgl,hgf,d0,d1,d2,d3,d4,d5,d6,d7⟩:=hw2
   rw[t1] at d3
   rw[t2] at d4
   rw[t3] at d5
   rw[t4] at d7
   have hgne:gw≠w.heap.size:=by have:=HW.out.lt;omega
   have HNW:Hid (∀ W0,Below wr.heap.size wr W0->Calls Tryz.prog 214 #[.agg #[.int .i64 (W.rule.qi:Nat),.int .i64 (W.rule.vars:Nat),.int .i64 (W.rule.head.pred:Nat),.slice aot W.rule.head.qf.length capt,.slice aop W.rule.qc.length capp,.slice aon W.rule.qm.length capn],.slice (some ⟨w.heap.size+1,0,none⟩) W.qj.length W.qj.length,.slice aob W.rule.qm.length capb] W0 fun e w'=>zgl lo W0 own p (za3 W.rule (W.qj.map (·.all)) qm) e w'):=fun W0 hW0=>by
    have q:=HNEW.out W0 (w.heap.size+1) (zae hbk hW0 (uaa _)) (zaa HRA.out hW0)
    rw[zlo,t1,t2,t3,t4] at q
    exact q
   clear t1 t2 t3 t4 d6 HNEW hlt hm
   generalize hJe:za3 W.rule (W.qj.map (·.all)) qm=J at *
   have HJE:Hid (za3 W.rule (W.qj.map (·.all)) qm=J):=hJe
   clear hJe
   go_wp2
   go_region_held3 (fun w'=>w'.cell? ⟨gw,o,none⟩=some (.int .i64 (W.rule.qi:Nat))/\w'.cell? ⟨gw,o+1,none⟩=some (.int .i64 (W.rule.vars:Nat))/\w'.cell? ⟨gw,o+2,none⟩=some (.int .i64 (W.rule.head.pred:Nat))/\w'.cell? ⟨gw,o+3,none⟩=some (.slice aot W.rule.head.qf.length capt)/\w'.cell? ⟨gw,o+4,none⟩=some (.slice aop W.rule.qc.length capp)/\w'.cell? ⟨gw,o+5,none⟩=some (.slice aon W.rule.qm.length capn)/\w'.cell? ⟨gw,o+7,none⟩=some (.slice aob W.rule.qm.length capb)) (first|(exact⟨d20,d21,d22,d23,d24,d25,d27⟩)|(exact⟨(zcz _ _ _ _ _ hgne).trans d20,(zcz _ _ _ _ _ hgne).trans d21,(zcz _ _ _ _ _ hgne).trans d22,(zcz _ _ _ _ _ hgne).trans d23,(zcz _ _ _ _ _ hgne).trans d24,(zcz _ _ _ _ _ hgne).trans d25,(zcz _ _ _ _ _ hgne).trans d27⟩)|go_keep|(go_simp;done)) (first|(go_at_call 214;refine(HNW.out _ (by exact(by go_grown))).mono ?_;rintro e w2 ⟨PJ,rfl,hJM,hJR,hb2⟩;have hB2:Below wr.heap.size wr w2:=(zae (by go_grown) hb2 (uaa _));have hw3:=HW.out.below (zae hbk hB2 (uaa _));obtain⟨hgl2,hgf2,d20,d21,d22,d23,d24,d25,_,d27⟩:=hw3;rw[HTT.out.1] at d23;rw[HTT.out.2.1] at d24;rw[HTT.out.2.2.1] at d25;rw[HTT.out.2.2.2] at d27;have hth2:=zhe HTH.out hB2;have hst:=zjn hJM hth2;have hlen:=zgp J PJ hJM.hlen.1 hJM.ji;have HJM:Hid (zhf lo w2 J PJ):=hJM;have HJR:Hid (zj5 own PJ p):=hJR;clear hJM hJR;generalize hcs:zca J PJ=cs at *;have HCS:Hid (zca J PJ=cs):=hcs;clear hcs))
   have hb6:=zji (cs:=cs) hth2 hlen
   have hs6:=zi8 w2 w.heap.size cs
   have hJ4:=HJM.out.saveJ hs6 (OfT.box hth2.choose_spec.1)
   have hb4:Below w.heap.size w (zwm w2 w.heap.size cs):=(zae hbk hB2 (uaa _)).trans (hs6.below (by simp) (by have:=hB2.size;omega))
   clear hst d0 d1 d2 d3 d4 d5 d7 d20 d21 d22 d23 d24 d25 d27 hgf hgf2
   generalize zwm w2 w.heap.size cs=w5 at *
   go_wp2
   (try simp only[Exit.inBlock,Exit.then])
   exact bodyPost_ret (v:=.agg cs.toArray) (zhc rfl _ _ _ _ _ (by rfl) (run_loadVar_mid w5 w.heap.size 0 310 cs _ hb6.range Tryz.underlying310 rfl (by rw[hlen];exact Tryz.infoJoin))) rfl ⟨PJ,by rw[HJE.out,HCS.out],by rw[HJE.out];exact hJ4,HJR.out,hb4⟩
end Go.Proofs.YteampbddflhngaaGreat
namespace Go.Proofs.YteampbddflhngaaGreat
set_option maxRecDepth 100000
set_option maxHeartbeats 4000000
open Go.RowKit
variable {lo:Nat}
def zi4(ps:List zf6)(place:Nat):List Nat:=ps.zipIdx.map fun x=>if x.2 < place then x.1.bb else if x.2=place then x.1.fb else x.1.ab
theorem zqm(vs:List zcs)(pl:Nat):(partly vs pl).length=vs.length:=by simp[partly]
theorem z3q{w:World}{own:Nat->zay}{k wd p:Nat}{W:zbk}{P:zba}(h:zd6 lo w own k wd W P)(pl i:Nat)(h1:i < W.qj.length)(h2:i < P.vps.length)(h3:i < (partly W.qj pl).length)(h4:i < (zi4 P.vps pl).length):∃ ρ,ρ≠(0,p,0)/\zcw lo w own ρ (zi4 P.vps pl)[i] (partly W.qj pl)[i]:=by
 have hv:=h.view i h1 h2
 simp only[zi4,partly,uaw,List.getElem_zipIdx,ubl]
 split
 ·exact⟨_,by simp,hv.before⟩
 ·split
  ·exact⟨_,by simp,hv.qo⟩
  ·exact⟨_,by simp,hv.all⟩
attribute [local go_sem] znv
theorem zz2(w:World)(own:Nat->zay)(k wd p gw o pl:Nat)(W:zbk)(P:zba)(qm:List zad)(h:zd6 lo w own k wd W P)(hc:WC w gw o W.rule P)(hlo:lo<=w.heap.size)(hpl:pl<=1000000)(hn:qm.length=W.rule.qm.length)(hnt:∀ i (h1:i < qm.length) (h2:i < P.nbs.length),∃ ρ,ρ≠(0,p,0)/\zcw lo w own ρ P.nbs[i] qm[i]) :
  Calls Tryz.prog 210 #[.pointer (some ⟨gw,o,none⟩),.int .i64 pl] w fun e w'=>zgl lo w own p (za3 W.rule (partly W.qj pl) qm) e w':=by
 obtain⟨i0,hi,hz0,hzs,hzb⟩:=info_parts Tryz.infoTP
 have HNEW:Hid (∀ W' pb,Below w.heap.size w W'->W'.ownsRow w.heap.size 162 1 (.slice (some ⟨pb,0,none⟩) W.qj.length W.qj.length) W.qj.length (pts (zi4 P.vps pl))->Calls Tryz.prog 214 #[zlo W.rule P.tv P.pv P.nv,.slice (some ⟨pb,0,none⟩) W.qj.length W.qj.length,P.ntv] W' fun e w'=>zgl lo W' own p (za3 W.rule (partly W.qj pl) qm) e w'):=fun W' pb hB hrow=>by
  have q:=zoc (p:=p) (pb:=pb) (qc:=partly W.qj pl) (bs:=zi4 P.vps pl) (qm:=qm) (W':=W') h hlo (by simp[partly]) (by simp[zi4,partly,h.vlen]) (fun i h1 h2=>z3q h pl i (by simpa [partly] using h1) (by simpa [zi4] using h2) h1 h2) hn hnt hB (by rw[zqm];exact hrow)
  rw[zqm] at q
  exact q
 have HJ0:Hid (∀ i (h1:i < W.qj.length) (h2:i < P.vps.length),∃ g cap,P.vv=.slice (some ⟨g,0,none⟩) W.qj.length cap/\g < w.heap.size/\w.cell? ⟨g,i * 6,none⟩=some (.int .i64 (W.qj[i].lit.pred:Nat))/\w.cell? ⟨g,i * 6+1,none⟩=some P.vps[i].tv/\w.cell? ⟨g,i * 6+2,none⟩=some (.int .i64 (wd:Nat))/\w.cell? ⟨g,i * 6+3,none⟩=some (.pointer (some ⟨P.vps[i].bb,0,none⟩))/\w.cell? ⟨g,i * 6+4,none⟩=some (.pointer (some ⟨P.vps[i].fb,0,none⟩))/\w.cell? ⟨g,i * 6+5,none⟩=some (.pointer (some ⟨P.vps[i].ab,0,none⟩))):=fun i a b=>h.viewAt i a b
 have HTV:Hid (∀ i (h1:i < W.qj.length) (h2:i < P.vps.length),∃ ao cap,P.vps[i].tv=.slice ao W.qj[i].lit.qf.length cap):=fun i a b=>(h.view i a b).qf.shape
 have HVL:Hid (P.vps.length=W.qj.length):=h.vlen
 have hfew:=h.few
 obtain⟨aov,capv,hvv⟩:=zac h.qj
 obtain⟨aot,capt,htv⟩:=h.rule.head.shape
 obtain⟨aop,capp,hpv⟩:=h.rule.qc.shape
 obtain⟨aon,capn,hnv⟩:=h.rule.qm.shape
 obtain⟨aob,capb,hntv⟩:=zac h.qm
 have HW:Hid (WC w gw o W.rule P):=hc
 have HVV:Hid (P.vv=.slice aov W.qj.length capv):=hvv
 have HTT:Hid (P.tv=.slice aot W.rule.head.qf.length capt/\P.pv=.slice aop W.rule.qc.length capp/\P.nv=.slice aon W.rule.qm.length capn/\P.ntv=.slice aob W.rule.qm.length capb):=⟨htv,hpv,hnv,hntv⟩
 have hmk:=fun W0:World=>run_make (P:=Tryz.prog) (w:=W0) 150 162 i0 _ Tryz.underlying150 hi hz0 .i64 .i64 (W.qj.length:Int) (W.qj.length:Int) (by omega) (Int.le_refl _) (by rw[hzb];omega) (by omega)
 rw[hzs] at hmk
 have hc6:=hc.c6
 rw[hvv] at hc6
 have hcl:=hc.lt
 have hcf:=hc.free
 clear h hc hnt hvv htv hpv hnv hntv
 go_enter Tryz.func210,Tryz.ntmps210
 go_upto_region 3 with fail
 have hB1:Below w.heap.size w ((w.alloc (.cells (bj 0 0 0 none none 0 0 0 0).toArray 310)).alloc (.cells (madeCells #[.pointer none] W.qj.length) 162)):=(by go_grown)
 have hrow:=zhv (w.alloc (.cells (bj 0 0 0 none none 0 0 0 0).toArray 310)) W.qj.length 162 (.pointer none) (by unfold maxLen;omega)
 rw[World.size_alloc] at hrow
 have hth:zc6 ((w.alloc (.cells (bj 0 0 0 none none 0 0 0 0).toArray 310)).alloc (.cells (madeCells #[.pointer none] W.qj.length) 162)) w.heap.size:=zic _ _ _ _ _ _ _ _ _ _ _
 have hbl:(zi4 P.vps pl).length=W.qj.length:=by simp[zi4,HVL.out]
 have HR0:Hid (((w.alloc (.cells (bj 0 0 0 none none 0 0 0 0).toArray 310)).alloc (.cells (madeCells #[.pointer none] W.qj.length) 162)).ownsRow w.heap.size 162 1 (.slice (some ⟨w.heap.size+1,0,none⟩) W.qj.length W.qj.length) W.qj.length (zh5 (zi4 P.vps pl) 0)):=by
  have e:zh5 (zi4 P.vps pl) 0=List.replicate W.qj.length (.pointer none):=by simp[zh5,zi4,HVL.out]
  rw[Hid,e]
  exact zbf hrow (by omega)
 have HBE:Hid ((zi4 P.vps pl).length=W.qj.length):=hbl
 have HBI:Hid (∀ i (h1:i < P.vps.length) (h2:i < (zi4 P.vps pl).length),(zi4 P.vps pl)[i]=if i < pl then P.vps[i].bb else if i=pl then P.vps[i].fb else P.vps[i].ab):=fun i a b=>by simp[zi4]
 clear hrow hbl hc6 hcl hcf hmk
 generalize (w.alloc (.cells (bj 0 0 0 none none 0 0 0 0).toArray 310)).alloc (.cells (madeCells #[.pointer none] W.qj.length) 162)=w1 at *
 generalize zi4 P.vps pl=bs at *
 have HTH:Hid (zc6 w1 w.heap.size):=hth
 clear hth
 go_loopw [19] (fun v17 wr=>∃ m:Nat,m<=W.qj.length/\v17=.int .i64 m/\Below w.heap.size w wr/\Hid (zc6 wr w.heap.size)/\Hid (wr.ownsRow w.heap.size 162 1 (.slice (some ⟨w.heap.size+1,0,none⟩) W.qj.length W.qj.length) W.qj.length (zh5 bs m))) (fun i _=>W.qj.length - (intOf i).toNat)
 case atStart=>exact⟨0,uaj _,rfl,hB1,HTH,HR0⟩
 case round =>
  clear HR0 HTH hB1
  obtain⟨m,hm,rfl,hbk,HTH,HR⟩:=hrel
  have hszk:=hbk.size
  by_cases hlt:m < W.qj.length
  ·have hm2:m < P.vps.length:=by rw[HVL.out];exact hlt
   have hmb:m < bs.length:=by rw[HBE.out];exact hlt
   obtain⟨gv,capv',hvv',hgv,q0,q1,q2,q3,q4,q5⟩:=HJ0.out m hlt hm2
   rw[HVV.out] at hvv'
   simp only[Value.slice.injEq] at hvv'
   have hgg:=hvv'.1
   clear hvv'
   subst hgg
   obtain⟨aoq,capq,hq⟩:=HTV.out m hlt hm2
   rw[hq] at q1
   have x0:=(hbk.cell (p:=⟨gv,m * 6,none⟩) hgv).trans q0
   have x1:=(hbk.cell (p:=⟨gv,m * 6+1,none⟩) hgv).trans q1
   have x2:=(hbk.cell (p:=⟨gv,m * 6+2,none⟩) hgv).trans q2
   have x3:=(hbk.cell (p:=⟨gv,m * 6+3,none⟩) hgv).trans q3
   have x4:=(hbk.cell (p:=⟨gv,m * 6+4,none⟩) hgv).trans q4
   have x5:=(hbk.cell (p:=⟨gv,m * 6+5,none⟩) hgv).trans q5
   have hgr:gv < wr.heap.size:=by omega
   have hrow:=HR.out
   have hll:=ztu bs m (by omega)
   obtain⟨sx,hsx⟩:∃ sx,wr.cell? ⟨w.heap.size+1,m,none⟩=some sx:=by
    obtain⟨g',cap',hv',_,_,hcl'⟩:=zal hrow (by omega)
    simp only[Value.slice.injEq,uab,Addr.mk.injEq,and_true] at hv'
    have e:=hv'.1
    subst e
    exact⟨_,hcl' m _ (uac (by omega))⟩
   have hsf:=zbt hrow
   have hpl:w.heap.size+1 < wr.heap.size:=zdq hrow rfl
   obtain⟨xb,hxb⟩:∃ xb,xb=(if m < pl then P.vps[m].bb else if m=pl then P.vps[m].fb else P.vps[m].ab):=⟨_,rfl⟩
   have HSS:Hid ((zh5 bs m).set m (.pointer (some ⟨xb,0,none⟩))=zh5 bs (m+1)):=by
    have q:=ztv bs m hmb
    rw[HBI.out m hm2 hmb,← hxb] at q
    exact q
   have hgrow:Below (wr.setCell ⟨w.heap.size+1,m,none⟩ (.pointer (some ⟨xb,0,none⟩))).heap.size (wr.setCell ⟨w.heap.size+1,m,none⟩ (.pointer (some ⟨xb,0,none⟩))) ((wr.setCell ⟨w.heap.size+1,m,none⟩ (.pointer (some ⟨xb,0,none⟩))).alloc (.cells #[.int .i64 (W.qj[m].lit.pred:Nat),.slice aoq W.qj[m].lit.qf.length capq,.int .i64 (wd:Nat),.pointer (some ⟨P.vps[m].bb,0,none⟩),.pointer (some ⟨P.vps[m].fb,0,none⟩),.pointer (some ⟨P.vps[m].ab,0,none⟩)] 301)):=(by go_grown)
   have hth2:=zhe (zq8 (o:=m) (u:=.pointer (some ⟨xb,0,none⟩)) HTH.out (show w.heap.size≠w.heap.size+1 by omega)) hgrow
   have hset0:=zb4 hrow m (by omega) (.pointer (some ⟨xb,0,none⟩))
   rw[HSS.out] at hset0
   have hset:=zaa hset0 hgrow
   have hb5:Below w.heap.size w ((wr.setCell ⟨w.heap.size+1,m,none⟩ (.pointer (some ⟨xb,0,none⟩))).alloc (.cells #[.int .i64 (W.qj[m].lit.pred:Nat),.slice aoq W.qj[m].lit.qf.length capq,.int .i64 (wd:Nat),.pointer (some ⟨P.vps[m].bb,0,none⟩),.pointer (some ⟨P.vps[m].fb,0,none⟩),.pointer (some ⟨P.vps[m].ab,0,none⟩)] 301)):=zae (hbk.setCell (by simp) _) hgrow (uaa _)
   clear hset0
   have hmkk:(m:Int) < (W.qj.length:Int):=by omega
   clear q0 q1 q2 q3 q4 q5 hll hq HSS
   generalize W.qj[m].lit.pred=vp at *
   generalize W.qj[m].lit.qf.length=vt at *
   generalize P.vps[m].bb=bbm at *
   generalize P.vps[m].fb=fbm at *
   generalize P.vps[m].ab=abm at *
   have HXB:Hid (xb=(if m < pl then bbm else if m=pl then fbm else abm)):=hxb
   clear hxb
   by_cases g1:m < pl
   ·have g1':(m:Int) < (pl:Int):=by omega
    obtain rfl:xb=bbm:=by rw[HXB.out,if_pos g1]
    clear HXB
    go_wp2
    exact⟨⟨m+1,by omega,by go_num,hb5,hth2,hset⟩,by simp[intOf];omega⟩
   ·have g1':¬ (m:Int) < (pl:Int):=by omega
    by_cases g2:m=pl
    ·have g2':((m:Int) == (pl:Int))=true:=by rw[beq_iff_eq];omega
     obtain rfl:xb=fbm:=by rw[HXB.out,if_neg g1,if_pos g2]
     have HG2:Hid (m=pl):=g2
     clear HXB g2
     go_wp2
     exact⟨⟨m+1,by omega,by go_num,hb5,hth2,hset⟩,by simp[intOf];omega⟩
    ·have g2':((m:Int) == (pl:Int))=false:=by rw[beq_eq_false_iff_ne];omega
     obtain rfl:xb=abm:=by rw[HXB.out,if_neg g1,if_neg g2]
     clear HXB
     go_wp2
     exact⟨⟨m+1,by omega,by go_num,hb5,hth2,hset⟩,by simp[intOf];omega⟩
  ·obtain rfl:m=W.qj.length:=by omega
   have HRA:Hid (wr.ownsRow w.heap.size 162 1 (.slice (some ⟨w.heap.size+1,0,none⟩) W.qj.length W.qj.length) W.qj.length (pts bs)):=by
    have q:=HR.out
    rw[← HBE.out,ztt,HBE.out] at q
    exact q
   have hw2:=HW.out.below hbk
   obtain⟨t1,t2,t3,t4⟩:=HTT.out
   obtain⟨hgl,hgf,d0,d1,d2,d3,d4,d5,d6,d7⟩:=hw2
   rw[t1] at d3
   rw[t2] at d4
   rw[t3] at d5
   rw[t4] at d7
   have hgne:gw≠w.heap.size:=by have:=HW.out.lt;omega
   have HNW:Hid (∀ W0,Below wr.heap.size wr W0->Calls Tryz.prog 214 #[.agg #[.int .i64 (W.rule.qi:Nat),.int .i64 (W.rule.vars:Nat),.int .i64 (W.rule.head.pred:Nat),.slice aot W.rule.head.qf.length capt,.slice aop W.rule.qc.length capp,.slice aon W.rule.qm.length capn],.slice (some ⟨w.heap.size+1,0,none⟩) W.qj.length W.qj.length,.slice aob W.rule.qm.length capb] W0 fun e w'=>zgl lo W0 own p (za3 W.rule (partly W.qj pl) qm) e w'):=fun W0 hW0=>by
    have q:=HNEW.out W0 (w.heap.size+1) (zae hbk hW0 (uaa _)) (zaa HRA.out hW0)
    rw[zlo,t1,t2,t3,t4] at q
    exact q
   clear t1 t2 t3 t4 d6 HNEW hlt hm
   generalize hJe:za3 W.rule (partly W.qj pl) qm=J at *
   have HJE:Hid (za3 W.rule (partly W.qj pl) qm=J):=hJe
   clear hJe
   go_wp2
   go_region_held3 (fun w'=>w'.cell? ⟨gw,o,none⟩=some (.int .i64 (W.rule.qi:Nat))/\w'.cell? ⟨gw,o+1,none⟩=some (.int .i64 (W.rule.vars:Nat))/\w'.cell? ⟨gw,o+2,none⟩=some (.int .i64 (W.rule.head.pred:Nat))/\w'.cell? ⟨gw,o+3,none⟩=some (.slice aot W.rule.head.qf.length capt)/\w'.cell? ⟨gw,o+4,none⟩=some (.slice aop W.rule.qc.length capp)/\w'.cell? ⟨gw,o+5,none⟩=some (.slice aon W.rule.qm.length capn)/\w'.cell? ⟨gw,o+7,none⟩=some (.slice aob W.rule.qm.length capb)) (first|(exact⟨d20,d21,d22,d23,d24,d25,d27⟩)|(exact⟨(zcz _ _ _ _ _ hgne).trans d20,(zcz _ _ _ _ _ hgne).trans d21,(zcz _ _ _ _ _ hgne).trans d22,(zcz _ _ _ _ _ hgne).trans d23,(zcz _ _ _ _ _ hgne).trans d24,(zcz _ _ _ _ _ hgne).trans d25,(zcz _ _ _ _ _ hgne).trans d27⟩)|go_keep|(go_simp;done)) (first|(go_at_call 214;refine(HNW.out _ (by exact(by go_grown))).mono ?_;rintro e w2 ⟨PJ,rfl,hJM,hJR,hb2⟩;have hB2:Below wr.heap.size wr w2:=(zae (by go_grown) hb2 (uaa _));have hw3:=HW.out.below (zae hbk hB2 (uaa _));obtain⟨hgl2,hgf2,d20,d21,d22,d23,d24,d25,_,d27⟩:=hw3;rw[HTT.out.1] at d23;rw[HTT.out.2.1] at d24;rw[HTT.out.2.2.1] at d25;rw[HTT.out.2.2.2] at d27;have hth2:=zhe HTH.out hB2;have hst:=zjn hJM hth2;have hlen:=zgp J PJ hJM.hlen.1 hJM.ji;have HJM:Hid (zhf lo w2 J PJ):=hJM;have HJR:Hid (zj5 own PJ p):=hJR;clear hJM hJR;generalize hcs:zca J PJ=cs at *;have HCS:Hid (zca J PJ=cs):=hcs;clear hcs))
   have hb6:=zji (cs:=cs) hth2 hlen
   have hs6:=zi8 w2 w.heap.size cs
   have hJ4:=HJM.out.saveJ hs6 (OfT.box hth2.choose_spec.1)
   have hb4:Below w.heap.size w (zwm w2 w.heap.size cs):=(zae hbk hB2 (uaa _)).trans (hs6.below (by simp) (by have:=hB2.size;omega))
   clear hst d0 d1 d2 d3 d4 d5 d7 d20 d21 d22 d23 d24 d25 d27 hgf hgf2
   generalize zwm w2 w.heap.size cs=w5 at *
   go_wp2
   (try simp only[Exit.inBlock,Exit.then])
   exact bodyPost_ret (v:=.agg cs.toArray) (zhc rfl _ _ _ _ _ (by rfl) (run_loadVar_mid w5 w.heap.size 0 310 cs _ hb6.range Tryz.underlying310 rfl (by rw[hlen];exact Tryz.infoJoin))) rfl ⟨PJ,by rw[HJE.out,HCS.out],by rw[HJE.out];exact hJ4,HJR.out,hb4⟩
end Go.Proofs.YteampbddflhngaaGreat
