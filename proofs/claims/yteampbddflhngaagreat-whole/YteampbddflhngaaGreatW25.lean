import Derived.Test.YteampbddflhngaaGreatW24
import Derived.Deep.RegionHeld3

namespace Go.Proofs.YteampbddflhngaaGreat
set_option maxRecDepth 100000
set_option maxHeartbeats 4000000
open Go.RowKit
variable {lo:Nat}
variable {ownk own1:Nat->zay}{wd:Nat}
def z4w(lo:Nat)(w:World)(own:Nat->zay)(k wd:Nat)(r:zah)(vs:List zcs)(tbs:List Nat)(n:Nat)(e:Ending)(w':World):Prop:=∃ P own',e=.returned (.agg (zb7 r P).toArray)/\zd6 lo w' own' k wd ⟨r,vs⟩ P/\zho tbs n r P.nbs/\Mod lo (zie k) w own w' own'
def z8:List Value:=[.int .i64 0,.int .i64 0,.int .i64 0,.slice none 0 0,.slice none 0 0,.slice none 0 0,.slice none 0 0,.slice none 0 0]
theorem Tryz.infoView:(Tryz.prog.info? 301).map (fun i=>(i.zero,i.size,i.bytes))=some (some (.agg #[.int .i64 0,.slice none 0 0,.int .i64 0,.pointer none,.pointer none,.pointer none]),6,64):=by kernel_rfl
def vcs(pr wd:Nat)(tv:Value)(bb fb ab:Nat):Array Value:=#[.int .i64 (pr:Nat),tv,.int .i64 (wd:Nat),.pointer (some ⟨bb,0,none⟩),.pointer (some ⟨fb,0,none⟩),.pointer (some ⟨ab,0,none⟩)]
structure NVP (lo:Nat) (wr W3:World) (ownk own2:Nat->zay) (k m wd g8:Nat) (l:zak) (tv:Value) (bb fb ab:Nat):Prop where
 view:zf7 lo W3 own2 k m (zex wd l) ⟨tv,bb,fb,ab⟩
 role:own2 g8=(0,0,5)
 old:∀ b,b < wr.heap.size->own2 b=ownk b
 box:Box W3 g8 (vcs l.pred wd tv bb fb ab) 301
 lbox:Box W3 wr.heap.size #[.int .i64 (l.pred:Nat),tv] 204
 below:Below wr.heap.size wr W3
 ge:wr.heap.size<=g8
theorem NVP.one{wr W1 w2:World}{k m:Nat}{l:zak}{tv:Value}{bb fb ab:Nat}(hB1:Below wr.heap.size wr W1)(hb7:Box W1 wr.heap.size #[.int .i64 (l.pred:Nat),tv] 204)(hb2:Below W1.heap.size W1 w2)(hv:zf7 lo w2 own1 k m (zex wd l) ⟨tv,bb,fb,ab⟩)(ho:∀ b,b < W1.heap.size->own1 b=ext ownk wr.heap.size (0,0,5) b):NVP lo wr (w2.alloc (.cells (vcs l.pred wd tv bb fb ab) 301)) ownk (ext own1 w2.heap.size (0,0,5)) k m wd w2.heap.size l tv bb fb ab:=by
 have hg:Below w2.heap.size w2 (w2.alloc (.cells (vcs l.pred wd tv bb fb ab) 301)):=(Below.refl _ _).alloc (uaa _) _
 have z1:=hB1.size
 have z2:=hb2.size
 refine⟨hv.mod (Mod.extNew (ok:=fun _ _=>False) own1 (0,0,5) hg) (fun _ _ _=>id) (fun _=>id),by simp[ext],fun b hb=>?_,Box.new _ _ _,(hb7.below hb2).below hg,zae (zae hB1 hb2 (uaa _)) hg (uaa _),by omega⟩
 rw[zgb _ _ _ b (by omega),ho b (by omega),zgb _ _ _ b hb]
theorem NVP.two{wr W1 w2:World}{k m:Nat}{l:zak}{tv:Value}{bb fb ab:Nat}{z:Array Value}(hB1:Below wr.heap.size wr W1)(hb7:Box W1 wr.heap.size #[.int .i64 (l.pred:Nat),tv] 204)(hb2:Below (W1.alloc (.cells z 301)).heap.size (W1.alloc (.cells z 301)) w2)(hz:Box w2 W1.heap.size #[.int .i64 0,.slice none 0 0,.int .i64 0,.pointer none,.pointer none,.pointer none] 301)(hv:zf7 lo w2 own1 k m (zex wd l) ⟨tv,bb,fb,ab⟩)(ho:∀ b,b < (W1.alloc (.cells z 301)).heap.size->own1 b=ext ownk wr.heap.size (0,0,5) b):NVP lo wr ((((((w2.setCell ⟨W1.heap.size,0,none⟩ (.int .i64 (l.pred:Nat))).setCell ⟨W1.heap.size,1,none⟩ tv).setCell ⟨W1.heap.size,2,none⟩ (.int .i64 (wd:Nat))).setCell ⟨W1.heap.size,3,none⟩ (.pointer (some ⟨bb,0,none⟩))).setCell ⟨W1.heap.size,4,none⟩ (.pointer (some ⟨fb,0,none⟩))).setCell ⟨W1.heap.size,5,none⟩ (.pointer (some ⟨ab,0,none⟩))) ownk own1 k m wd W1.heap.size l tv bb fb ab:=by
 have z1:=hB1.size
 have hg:Below W1.heap.size W1 (W1.alloc (.cells z 301)):=(Below.refl _ _).alloc (uaa _) _
 have hs:zas [W1.heap.size] w2 ((((((w2.setCell ⟨W1.heap.size,0,none⟩ (.int .i64 (l.pred:Nat))).setCell ⟨W1.heap.size,1,none⟩ tv).setCell ⟨W1.heap.size,2,none⟩ (.int .i64 (wd:Nat))).setCell ⟨W1.heap.size,3,none⟩ (.pointer (some ⟨bb,0,none⟩))).setCell ⟨W1.heap.size,4,none⟩ (.pointer (some ⟨fb,0,none⟩))).setCell ⟨W1.heap.size,5,none⟩ (.pointer (some ⟨ab,0,none⟩))):=zas.sets W1.heap.size [.int .i64 (l.pred:Nat),tv,.int .i64 (wd:Nat),.pointer (some ⟨bb,0,none⟩),.pointer (some ⟨fb,0,none⟩),.pointer (some ⟨ab,0,none⟩)] 0 w2
 have hbx:=(((((hz.set 0 (.int .i64 (l.pred:Nat))).set 1 tv).set 2 (.int .i64 (wd:Nat))).set 3 (.pointer (some ⟨bb,0,none⟩))).set 4 (.pointer (some ⟨fb,0,none⟩))).set 5 (.pointer (some ⟨ab,0,none⟩))
 have hT:=OfT.box hz
 have hB2:=zae (zae hB1 hg (uaa _)) hb2 (uaa _)
 have hb7':=(hb7.below hg).below hb2
 have hsz:(W1.alloc (.cells z 301)).heap.size=W1.heap.size+1:=by simp
 refine⟨hv.saveT hs hT (by decide) (by decide),?_,fun b hb=>?_,by simpa [vcs] using hbx,hb7'.saveT hs hT (by decide),?_,z1⟩
 ·rw[ho _ (by omega)]
  simp[ext,Nat.not_lt.2 z1]
 ·rw[ho b (by omega),zgb _ _ _ b hb]
 ·exact hB2.trans (hs.below (fun x hx=>by simp at hx;omega) (by have:=hB2.size;omega))
theorem znq.done{w0 w w':World}{own0 own:Nat->zay}{k t5 t3 t4:Nat}{c4:Array Value}{r:zah}{P:zba}{vs:List zcs}(h:znq lo w0 w own0 own k wd t5 t3 r P vs)(hb:Box w t4 c4 292)(hl:w0.heap.size<=t4)(hs:zas [t4] w w')(hn:P.nbs.length=r.qm.length)(hf:vs.length<=1000):zd6 lo w' own k wd ⟨r,vs⟩ P/\Mod lo (zie k) w0 own0 w' own:=by
 have hT:=OfT.box hb
 have q:=zaj h.qm hs hT (by decide)
 rw[hn] at q
 exact⟨⟨h.rule.saveT hs hT (by decide) (by decide),zaj h.qj hs hT (by decide),h.vlen,fun i a b=>(h.view i a b).saveT hs hT (by decide) (by decide),h.vrole,q,hn,hf⟩,h.mod.newer hs fun b hb=>by simp at hb;omega⟩
theorem zup{f:Nat}{T:zad}{rows:List zao}(h:rowsG f T=some rows):rows.length<=1048577:=by
 unfold rowsG at h
 split at h
 ·cases h
 ·split at h
  ·simp at h;subst h;omega
  ·cases h
theorem z7j(w:World)(own:Nat->zay)(rb k:Nat)(R:zbg)(r:zah)(tv pv nv:Value)(vs:List zcs)(wd mr mx:Nat)(Q:zcu)(fuel:Nat)(h:zdc lo w own rb R wd mr mx Q)(hr:zdp lo w tv pv nv r)(hlo:lo<=w.heap.size)(hpl:∀ l∈r.qc,l.pred < R.rows.length)(hnt:∀ l∈r.qm,l.pred < R.rows.length/\l.pred≠r.head.pred)(hv:zls fuel wd R r.qc=some vs) :
  Calls Tryz.prog 192 #[.pointer (some ⟨rb,0,none⟩),zlo r tv pv nv] w fun e w'=>z4w lo w own k wd r vs Q.tbs R.rows.length e w':=by
 obtain⟨i0,hi,hz0,hzs,hzb⟩:=info_parts Tryz.infoView
 obtain⟨i1,hi1,hz1',hzs1,hzb1⟩:=info_parts Tryz.infoTP
 obtain⟨hvl,hva⟩:=zu5 hv
 have HVL:Hid (vs.length=r.qc.length):=hvl
 have HVA:Hid (∀ i (h1:i < r.qc.length) (h2:i < vs.length),∃ rows,rowsG fuel (zgf wd R r.qc[i].pred)=some rows/\zif fuel wd (zex wd r.qc[i]) rows=some vs[i]):=hva
 have HH:Hid (zdc lo w own rb R wd mr mx Q):=h
 have HRU:Hid (zdp lo w tv pv nv r):=hr
 have HLO:Hid (lo<=w.heap.size):=hlo
 have HPL:Hid (∀ l∈r.qc,l.pred < R.rows.length):=hpl
 have HNT:Hid (∀ l∈r.qm,l.pred < R.rows.length/\l.pred≠r.head.pred):=hnt
 obtain⟨aot,capt,htv⟩:=hr.head.shape
 obtain⟨aop,capp,hpv⟩:=hr.qc.shape
 obtain⟨aon,capn,hnv⟩:=hr.qm.shape
 have hpf:r.qc.length<=1000:=by obtain⟨_,_,_,q,_⟩:=hr.qc;exact q
 have hnf:r.qm.length<=1000:=by obtain⟨_,_,_,q,_⟩:=hr.qm;exact q
 subst htv hpv hnv
 clear h hr hlo hpl hnt hv hvl hva
 simp only[zlo]
 go_enter Tryz.func192,Tryz.ntmps192
 go_upto_region 3 with fail
 have hB1:Below w.heap.size w (((w.alloc (.cells #[.int .i64 (r.qi:Nat),.int .i64 (r.vars:Nat),.int .i64 (r.head.pred:Nat),.slice aot r.head.qf.length capt,.slice aop r.qc.length capp,.slice aon r.qm.length capn] 207)).alloc (.cells #[.int .i64 0,.int .i64 0,.int .i64 0,.slice none 0 0,.slice none 0 0,.slice none 0 0,.slice none 0 0,.slice none 0 0] 292)).alloc (.cells #[.int .i64 (r.qi:Nat),.int .i64 (r.vars:Nat),.int .i64 (r.head.pred:Nat),.slice aot r.head.qf.length capt,.slice aop r.qc.length capp,.slice aon r.qm.length capn,.slice none 0 0,.slice none 0 0] 292)):=(by go_grown)
 have hb3:=((Box.new w #[.int .i64 (r.qi:Nat),.int .i64 (r.vars:Nat),.int .i64 (r.head.pred:Nat),.slice aot r.head.qf.length capt,.slice aop r.qc.length capp,.slice aon r.qm.length capn] 207).up (.cells #[.int .i64 0,.int .i64 0,.int .i64 0,.slice none 0 0,.slice none 0 0,.slice none 0 0,.slice none 0 0,.slice none 0 0] 292)).up (.cells #[.int .i64 (r.qi:Nat),.int .i64 (r.vars:Nat),.int .i64 (r.head.pred:Nat),.slice aot r.head.qf.length capt,.slice aop r.qc.length capp,.slice aon r.qm.length capn,.slice none 0 0,.slice none 0 0] 292)
 have hb4:=((Box.new (w.alloc (.cells #[.int .i64 (r.qi:Nat),.int .i64 (r.vars:Nat),.int .i64 (r.head.pred:Nat),.slice aot r.head.qf.length capt,.slice aop r.qc.length capp,.slice aon r.qm.length capn] 207)) z8.toArray 292).up (.cells #[.int .i64 (r.qi:Nat),.int .i64 (r.vars:Nat),.int .i64 (r.head.pred:Nat),.slice aot r.head.qf.length capt,.slice aop r.qc.length capp,.slice aon r.qm.length capn,.slice none 0 0,.slice none 0 0] 292)).at' (b':=w.heap.size+1) (by simp)
 have hb5:=(Box.new ((w.alloc (.cells #[.int .i64 (r.qi:Nat),.int .i64 (r.vars:Nat),.int .i64 (r.head.pred:Nat),.slice aot r.head.qf.length capt,.slice aop r.qc.length capp,.slice aon r.qm.length capn] 207)).alloc (.cells z8.toArray 292)) #[.int .i64 (r.qi:Nat),.int .i64 (r.vars:Nat),.int .i64 (r.head.pred:Nat),.slice aot r.head.qf.length capt,.slice aop r.qc.length capp,.slice aon r.qm.length capn,.slice none 0 0,.slice none 0 0] 292).at' (b':=w.heap.size+1+1) (by simp)
 have HMK:znq lo w (((w.alloc (.cells #[.int .i64 (r.qi:Nat),.int .i64 (r.vars:Nat),.int .i64 (r.head.pred:Nat),.slice aot r.head.qf.length capt,.slice aop r.qc.length capp,.slice aon r.qm.length capn] 207)).alloc (.cells #[.int .i64 0,.int .i64 0,.int .i64 0,.slice none 0 0,.slice none 0 0,.slice none 0 0,.slice none 0 0,.slice none 0 0] 292)).alloc (.cells #[.int .i64 (r.qi:Nat),.int .i64 (r.vars:Nat),.int .i64 (r.head.pred:Nat),.slice aot r.head.qf.length capt,.slice aop r.qc.length capp,.slice aon r.qm.length capn,.slice none 0 0,.slice none 0 0] 292)) own own k wd (w.heap.size+1+1) w.heap.size r ⟨.slice aot r.head.qf.length capt,.slice aop r.qc.length capp,.slice aon r.qm.length capn,.slice none 0 0,.slice none 0 0,[],[]⟩ []:=⟨by omega,HLO.out,hb5,hb3,HRU.out.below hB1,World.ownsRow_nil _ _ _ _,rfl,(fun i a=>by simp at a),(fun b hb=>by cases hb),World.ownsRow_nil _ _ _ _,Mod.of own hB1⟩
 have HB4:Hid (Box (((w.alloc (.cells #[.int .i64 (r.qi:Nat),.int .i64 (r.vars:Nat),.int .i64 (r.head.pred:Nat),.slice aot r.head.qf.length capt,.slice aop r.qc.length capp,.slice aon r.qm.length capn] 207)).alloc (.cells #[.int .i64 0,.int .i64 0,.int .i64 0,.slice none 0 0,.slice none 0 0,.slice none 0 0,.slice none 0 0,.slice none 0 0] 292)).alloc (.cells #[.int .i64 (r.qi:Nat),.int .i64 (r.vars:Nat),.int .i64 (r.head.pred:Nat),.slice aot r.head.qf.length capt,.slice aop r.qc.length capp,.slice aon r.qm.length capn,.slice none 0 0,.slice none 0 0] 292)) (w.heap.size+1) z8.toArray 292):=hb4
 have HMK0:Hid (znq lo w (((w.alloc (.cells #[.int .i64 (r.qi:Nat),.int .i64 (r.vars:Nat),.int .i64 (r.head.pred:Nat),.slice aot r.head.qf.length capt,.slice aop r.qc.length capp,.slice aon r.qm.length capn] 207)).alloc (.cells #[.int .i64 0,.int .i64 0,.int .i64 0,.slice none 0 0,.slice none 0 0,.slice none 0 0,.slice none 0 0,.slice none 0 0] 292)).alloc (.cells #[.int .i64 (r.qi:Nat),.int .i64 (r.vars:Nat),.int .i64 (r.head.pred:Nat),.slice aot r.head.qf.length capt,.slice aop r.qc.length capp,.slice aon r.qm.length capn,.slice none 0 0,.slice none 0 0] 292)) own own k wd (w.heap.size+1+1) w.heap.size r ⟨.slice aot r.head.qf.length capt,.slice aop r.qc.length capp,.slice aon r.qm.length capn,.slice none 0 0,.slice none 0 0,[],[]⟩ []):=HMK
 clear HMK hb3 hb4 hb5 hB1
 generalize hw1:((w.alloc (.cells #[.int .i64 (r.qi:Nat),.int .i64 (r.vars:Nat),.int .i64 (r.head.pred:Nat),.slice aot r.head.qf.length capt,.slice aop r.qc.length capp,.slice aon r.qm.length capn] 207)).alloc (.cells #[.int .i64 0,.int .i64 0,.int .i64 0,.slice none 0 0,.slice none 0 0,.slice none 0 0,.slice none 0 0,.slice none 0 0] 292)).alloc (.cells #[.int .i64 (r.qi:Nat),.int .i64 (r.vars:Nat),.int .i64 (r.head.pred:Nat),.slice aot r.head.qf.length capt,.slice aop r.qc.length capp,.slice aon r.qm.length capn,.slice none 0 0,.slice none 0 0] 292)=w1 at *
 clear hw1
 generalize h5:w.heap.size+1+1=t5 at *
 generalize h4:w.heap.size+1=t4 at *
 have h45:t4≠t5:=by omega
 have h34:w.heap.size < t4:=by omega
 clear h5 h4
 go_loopw [18] (fun v18 wr=>∃ m:Nat,m<=r.qc.length/\v18=.int .i64 m/\∃ ownk vv vps,Hid (znq lo w wr own ownk k wd t5 w.heap.size r ⟨.slice aot r.head.qf.length capt,.slice aop r.qc.length capp,.slice aon r.qm.length capn,vv,.slice none 0 0,vps,[]⟩ (vs.take m))/\Hid (Box wr t4 z8.toArray 292)) (fun i _=>r.qc.length - (intOf i).toNat)
 case atStart=>exact⟨0,uaj _,rfl,own,_,[],HMK0,HB4⟩
 case round =>
  clear HMK0 HB4
  obtain⟨m,hm,rfl,ownk,vv,vps,HMK,HB4⟩:=hrel
  have hszk:=HMK.out.mod.size
  have hlok:lo<=wr.heap.size:=uap HLO.out hszk
  by_cases hlt:m < r.qc.length
  ·obtain⟨g,aoq,capq,hao,hg,q0,q1,hTI⟩:=HMK.out.rule.qc.cell m hlt
   subst hao
   have hmv:m < vs.length:=by rw[HVL.out];exact hlt
   obtain⟨rows,hrows,hren⟩:=HVA.out m hlt hmv
   have HRO:Hid (zdc lo wr ownk rb R wd mr mx Q):=HH.out.make HMK.out.mod
   have hpr:r.qc[m].pred < R.rows.length:=HPL.out _ (uad _)
   have hpt:r.qc[m].pred < Q.tbs.length:=by rw[HRO.out.tlen];exact hpr
   have HNV:Hid (∀ W0,Below wr.heap.size wr W0->Calls Tryz.prog 204 #[.agg #[.int .i64 (r.qc[m].pred:Nat),.slice aoq r.qc[m].qf.length capq],.int .i64 wd] W0 fun e w'=>∃ bb fb ab own1,e=.returned (.agg #[.int .i64 (r.qc[m].pred:Nat),.slice aoq r.qc[m].qf.length capq,.int .i64 (wd:Nat),.pointer (some ⟨bb,0,none⟩),.pointer (some ⟨fb,0,none⟩),.pointer (some ⟨ab,0,none⟩)])/\Hid (zf7 lo w' own1 k m (zex wd r.qc[m]) ⟨.slice aoq r.qc[m].qf.length capq,bb,fb,ab⟩/\∀ b,b < W0.heap.size->own1 b=ext ownk wr.heap.size (0,0,5) b)/\Below W0.heap.size W0 w'):=fun W0 hb=>by
    refine(zwc W0 (ext ownk wr.heap.size (0,0,5)) k m r.qc[m] (.slice aoq r.qc[m].qf.length capq) wd (hTI.below hb) (uap hlok hb.size) HRO.out.small.1).mono ?_
    rintro e w' ⟨⟨tv0,bb,fb,ab⟩,own1,rfl,rfl,hv0,hold,hb2⟩
    exact⟨bb,fb,ab,own1,rfl,⟨hv0,hold⟩,hb2⟩
   obtain⟨hl,hf,d0,d1,d2,d3,d4,d5,d6,d7⟩:=HRO.out.at
   have hmkk:(m:Int) < (r.qc.length:Int):=by omega
   clear d0 d1 d2 d3 d5 d6 d7
   go_upto_region 5 with fail
   have hB1:Below wr.heap.size wr (wr.alloc (.cells #[.int .i64 (r.qc[m].pred:Nat),.slice aoq r.qc[m].qf.length capq] 204)):=(by go_grown)
   have hb7:=Box.new wr #[.int .i64 (r.qc[m].pred:Nat),.slice aoq r.qc[m].qf.length capq] 204
   have hz1:wr.heap.size < (wr.alloc (.cells #[.int .i64 (r.qc[m].pred:Nat),.slice aoq r.qc[m].qf.length capq] 204)).heap.size:=by simp
   generalize hW1:wr.alloc (.cells #[.int .i64 (r.qc[m].pred:Nat),.slice aoq r.qc[m].qf.length capq] 204)=W1 at *
   clear hW1
   have x4:=(hB1.cell (p:=⟨rb,4,none⟩) hl).trans d4
   have x0:W1.cell? ⟨wr.heap.size,0,none⟩=some (.int .i64 (r.qc[m].pred:Nat)):=by rw[hb7.rules.1];rfl
   have x1:W1.cell? ⟨wr.heap.size,1,none⟩=some (.slice aoq r.qc[m].qf.length capq):=by rw[hb7.rules.1];rfl
   have HNV2:Hid (∀ W0,Below W1.heap.size W1 W0->Calls Tryz.prog 204 #[.agg #[.int .i64 (r.qc[m].pred:Nat),.slice aoq r.qc[m].qf.length capq],.int .i64 wd] W0 fun e w'=>∃ bb fb ab own1,e=.returned (.agg #[.int .i64 (r.qc[m].pred:Nat),.slice aoq r.qc[m].qf.length capq,.int .i64 (wd:Nat),.pointer (some ⟨bb,0,none⟩),.pointer (some ⟨fb,0,none⟩),.pointer (some ⟨ab,0,none⟩)])/\Hid (zf7 lo w' own1 k m (zex wd r.qc[m]) ⟨.slice aoq r.qc[m].qf.length capq,bb,fb,ab⟩/\∀ b,b < W0.heap.size->own1 b=ext ownk wr.heap.size (0,0,5) b)/\Below W0.heap.size W0 w'/\w'.cell? ⟨rb,4,none⟩=some (.int .i64 (wd:Nat))/\w'.cell? ⟨wr.heap.size,0,none⟩=some (.int .i64 (r.qc[m].pred:Nat))/\w'.cell? ⟨wr.heap.size,1,none⟩=some (.slice aoq r.qc[m].qf.length capq)):=fun W0 hb=>by
    refine(HNV.out W0 (zae hB1 hb (uaa _))).mono ?_
    rintro e w' ⟨bb,fb,ab,own1,rfl,HX,hb2⟩
    have hb3:=zae hb hb2 (uaa _)
    exact⟨bb,fb,ab,own1,rfl,HX,hb2,(hb3.cell (by show rb < _;omega)).trans x4,(hb3.cell (by show wr.heap.size < _;omega)).trans x0,(hb3.cell (by show wr.heap.size < _;omega)).trans x1⟩
   clear HNV
   clear q0 q1 d4
   go_region_held3 (fun w'=>w'.cell? ⟨rb,4,none⟩=some (.int .i64 (wd:Nat))/\w'.cell? ⟨wr.heap.size,0,none⟩=some (.int .i64 (r.qc[m].pred:Nat))/\w'.cell? ⟨wr.heap.size,1,none⟩=some (.slice aoq r.qc[m].qf.length capq)) (first|go_keep|(go_simp;done)) (first|(go_at_call 204;refine(HNV2.out _ (by exact(by go_grown))).mono ?_;rintro e w2 ⟨bb,fb,ab,own1,rfl,HX,hb2,y4,y0,y1⟩;(try (with_reducible refine Box.carry (Box.drew (Box.new W1 #[.int .i64 0,.slice none 0 0,.int .i64 0,.pointer none,.pointer none,.pointer none] 301)) hb2 ?_;intro hbz;obtain⟨hbzc,hbzf⟩:=hbz.rules;have hbzl:=hbz.lt))))
   ·obtain⟨own2,HP⟩:∃ own2,Hid (NVP lo wr (w2.alloc (.cells #[.int .i64 (r.qc[m].pred:Nat),.slice aoq r.qc[m].qf.length capq,.int .i64 (wd:Nat),.pointer (some ⟨bb,0,none⟩),.pointer (some ⟨fb,0,none⟩),.pointer (some ⟨ab,0,none⟩)] 301)) ownk own2 k m wd w2.heap.size r.qc[m] (.slice aoq r.qc[m].qf.length capq) bb fb ab):=⟨_,NVP.one hB1 hb7 (zae (zau (Below.refl _ _) 1) hb2 (uaa _)) HX.out.1 HX.out.2⟩
    clear HX hb2 y4 y0 y1 x4 x0 x1 hB1 hb7 hz1 HNV2
    generalize w2.alloc (.cells #[.int .i64 (r.qc[m].pred:Nat),.slice aoq r.qc[m].qf.length capq,.int .i64 (wd:Nat),.pointer (some ⟨bb,0,none⟩),.pointer (some ⟨fb,0,none⟩),.pointer (some ⟨ab,0,none⟩)] 301)=W3 at *
    generalize w2.heap.size=g8 at *
    have hP:=HP.out
    have HRF:Hid (∀ W0,Below wr.heap.size wr W0->Calls Tryz.prog 205 #[.pointer (some ⟨rb,0,none⟩),.int .i64 (r.qc[m].pred:Nat)] W0 fun e w'=>e=.returned (.pointer (some ⟨Q.tbs[r.qc[m].pred],0,none⟩))/\w'=W0):=fun W0 hb=>zmi W0 ownk rb R wd mr mx Q _ (HRO.out.below hb) hpr hpt
    have HTR:Hid (∀ W0,Below wr.heap.size wr W0->Calls Tryz.prog 78 #[.pointer (some ⟨Q.tbs[r.qc[m].pred],0,none⟩)] W0 fun e w'=>∃ aor capr,e=.returned (.slice aor rows.length capr)/\Hid (RowsIn W0.heap.size w' (.slice aor rows.length capr) rows)/\Below W0.heap.size W0 w'):=fun W0 hb=>by
     have q:=z4i W0 ownk (0,r.qc[m].pred,0) Q.tbs[r.qc[m].pred] R.rows[r.qc[m].pred] fuel rows ((HRO.out.below hb).tries _ hpr hpt) (by rw[← hrows,zgf,if_neg (by omega)];simp[List.getD,hpr])
     refine q.mono ?_
     rintro e w' ⟨v,rfl,hri,hb'⟩
     obtain⟨aor,capr,rfl⟩:=zac hri.1
     exact⟨aor,capr,rfl,hri,hb'⟩
    have HRE:Hid (∀ W4 b0 rv,Below W3.heap.size W3 W4->RowsIn b0 W4 rv rows->Calls Tryz.prog 206 #[.pointer (some ⟨g8,0,none⟩),rv] W4 fun e w'=>e=.returned (.tuple #[])/\∃ fb' own4,Hid (zf7 lo w' own4 k m vs[m] ⟨.slice aoq r.qc[m].qf.length capq,bb,fb',ab⟩/\Mod lo (zgd k m (0,0,5)) wr ownk w' own4)/\Box w' g8 #[.int .i64 (r.qc[m].pred:Nat),.slice aoq r.qc[m].qf.length capq,.int .i64 (wd:Nat),.pointer (some ⟨bb,0,none⟩),.pointer (some ⟨fb',0,none⟩),.pointer (some ⟨ab,0,none⟩)] 301):=fun W4 b0 rv hb hri=>by
     have z1:=HP.out.below.size
     have q:=zoz W4 own2 k m g8 0 wd fuel (vcs r.qc[m].pred wd (.slice aoq r.qc[m].qf.length capq) bb fb ab) (zex wd r.qc[m]) vs[m] ⟨.slice aoq r.qc[m].qf.length capq,bb,fb,ab⟩ rv rows (HP.out.box.below hb) ⟨rfl,rfl,rfl,rfl,rfl,rfl⟩ (HP.out.view.below hb) hri (by have:=HP.out.ge;omega) (by have:=hb.size;omega) HRO.out.small.1 (zup hrows) hren
     refine q.mono ?_
     rintro e w' ⟨rfl,fb',own4,hv',hb',hm'⟩
     rw[HP.out.role] at hm'
     exact⟨rfl,fb',own4,⟨hv',((Mod.qo HP.out.below HP.out.old).trans (Mod.of own2 hb)).trans hm'⟩,by simpa [vcs] using hb'⟩
    have hlen:(vs.take m).length=m:=by simp;omega
    have HST:Hid (∀ w5 own4,Mod lo (zgd k m (0,0,5)) wr ownk w5 own4->znq lo w w5 own own4 k wd t5 w.heap.size r ⟨.slice aot r.head.qf.length capt,.slice (some ⟨g,0,none⟩) r.qc.length capp,.slice aon r.qm.length capn,vv,.slice none 0 0,vps,[]⟩ (vs.take m)/\Box w5 t4 z8.toArray 292):=fun w5 own4 hm5=>⟨HMK.out.step (by rw[hlen];exact hm5),HB4.out.mod hm5 (zci (by decide) (by decide) _)⟩
    have HLN:Hid ((vs.take m).length=m):=hlen
    obtain⟨aovv,capvv,hvve⟩:=zac HMK.out.qj
    dsimp only at hvve
    rw[hlen] at hvve
    subst hvve
    have hPb:=hP.below
    have hPl:=hP.lbox
    obtain⟨hPlc,hPlf⟩:=hPl.rules
    have hPll:=hPl.lt
    have HPB:Hid (Below wr.heap.size wr W3):=hPb
    have HXX:Hid (vs[m].lit.pred=r.qc[m].pred):=show vs[m].lit.pred=r.qc[m].pred by rw[zmg hren];rfl
    have HTK:Hid (vs.take (m+1)=vs.take m++[vs[m]]):=uae hmv
    clear hP hPb hPl hlen hren hrows
    generalize hvm:vs[m]=V' at *
    clear hvm
    generalize Q.tbs[r.qc[m].pred]=tb at *
    generalize r.qc[m].pred=vp at *
    generalize r.qc[m].qf.length=vt at *
    go_wp2_with (first|(go_at_call 205;refine(HRF.out _ HPB.out).mono ?_;rintro e w4 ⟨rfl,hww⟩;obtain rfl:=hww.symm)|(go_at_call 78;refine(HTR.out _ HPB.out).mono ?_;rintro e w4 ⟨aor,capr,rfl,HRI,hb4⟩)|(go_at_call 206;refine(HRE.out _ _ _ hb4 HRI.out).mono ?_;rintro e w5 ⟨rfl,fb',own4,HV5,hb8⟩;obtain⟨hmk5,hb45⟩:=HST.out _ _ HV5.out.2;have hbx5:Box w5 t5 #[.int .i64 (r.qi:Nat),.int .i64 (r.vars:Nat),.int .i64 (r.head.pred:Nat),.slice aot r.head.qf.length capt,.slice (some ⟨g,0,none⟩) r.qc.length capp,.slice aon r.qm.length capn,.slice aovv m capvv,.slice none 0 0] 292:=hmk5.box;obtain⟨hc5,hf5⟩:=hbx5.rules;have hl5:=hbx5.lt;obtain⟨hc8,hf8⟩:=hb8.rules;have hl8:=hb8.lt;have hown5:=hmk5.qj;have HM5:Hid (znq lo w w5 own own4 k wd t5 w.heap.size r ⟨.slice aot r.head.qf.length capt,.slice (some ⟨g,0,none⟩) r.qc.length capp,.slice aon r.qm.length capn,.slice aovv m capvv,.slice none 0 0,vps,[]⟩ (vs.take m)):=hmk5;have HB45:Hid (Box w5 t4 z8.toArray 292):=hb45;clear hmk5 hb45 hbx5 hb8)|(at_builtin;refine zce w5 _ [.int .i64 (vp:Nat),.slice aoq vt capq,.int .i64 (wd:Nat),.pointer (some ⟨bb,0,none⟩),.pointer (some ⟨fb',0,none⟩),.pointer (some ⟨ab,0,none⟩)] _ rfl (.tmp 36) (.tmp 38) 290 rfl lo 301 i0 _ 6 64 Tryz.underlying290 hi hz0 hzs hzb rfl (by decide) (.slice aovv m capvv) (vs.take m).length (zg5 wd (vs.take m) vps) rfl hown5 (by exact(by go_grown)) _ _ rfl (by simp) rfl (by simp[Value.oneCell']) (by rw[HLN.out];omega) (by omega) (by exact(uap HM5.out.low0 HM5.out.mod.size)) ?_;intro v' w6 ho6 hS6 ha6;obtain⟨aov',capv',hv'e⟩:=zac ho6;rw[HLN.out] at hv'e;subst hv'e;have hbx6:Box w6 t5 #[.int .i64 (r.qi:Nat),.int .i64 (r.vars:Nat),.int .i64 (r.head.pred:Nat),.slice aot r.head.qf.length capt,.slice (some ⟨g,0,none⟩) r.qc.length capp,.slice aon r.qm.length capn,.slice aovv m capvv,.slice none 0 0] 292:=HM5.out.box.saveT hS6 (OfT.own HM5.out.qj) (by decide);obtain⟨hc6,hf6⟩:=hbx6.rules;have hl6:=hbx6.lt;have HB46:Hid (Box w6 t4 z8.toArray 292):=HB45.out.saveT hS6 (OfT.own HM5.out.qj) (by decide);have HS6:Hid (zas _ w5 w6):=hS6;have HA6:Hid (_∨_):=ha6;have HO6:Hid (World.ownsRow w6 lo 301 6 _ _ _):=ho6;clear hS6 ha6 ho6 hbx6))
    have hve:zc1 wd V' ⟨.slice aoq vt capq,bb,fb',ab⟩=[.int .i64 (vp:Nat),.slice aoq vt capq,.int .i64 (wd:Nat),.pointer (some ⟨bb,0,none⟩),.pointer (some ⟨fb',0,none⟩),.pointer (some ⟨ab,0,none⟩)]:=by simp[zc1,HXX.out,pt]
    have hpush:=HM5.out.pushV (V:=V') (p:=⟨.slice aoq vt capq,bb,fb',ab⟩) (by rw[HLN.out];exact HV5.out.1) (by rw[hve];exact HO6.out) HS6.out HA6.out
    rw[← HTK.out] at hpush
    exact⟨⟨m+1,by omega,by go_num,_,_,_,hpush,HB46.out.set_ne h45 _ _⟩,by simp[intOf];omega⟩
   ·obtain⟨own2,HP⟩:∃ own2,Hid (NVP lo wr ((((((w2.setCell ⟨W1.heap.size,0,none⟩ (.int .i64 (r.qc[m].pred:Nat))).setCell ⟨W1.heap.size,1,none⟩ (.slice aoq r.qc[m].qf.length capq)).setCell ⟨W1.heap.size,2,none⟩ (.int .i64 (wd:Nat))).setCell ⟨W1.heap.size,3,none⟩ (.pointer (some ⟨bb,0,none⟩))).setCell ⟨W1.heap.size,4,none⟩ (.pointer (some ⟨fb,0,none⟩))).setCell ⟨W1.heap.size,5,none⟩ (.pointer (some ⟨ab,0,none⟩))) ownk own2 k m wd W1.heap.size r.qc[m] (.slice aoq r.qc[m].qf.length capq) bb fb ab):=⟨_,NVP.two (z:=#[.int .i64 0,.slice none 0 0,.int .i64 0,.pointer none,.pointer none,.pointer none]) hB1 hb7 (zae (zau (Below.refl _ _) 1) hb2 (uaa _)) hbz HX.out.1 HX.out.2⟩
    clear HX hb2 y4 y0 y1 x4 x0 x1 hB1 hb7 hz1 HNV2 hbz hbzc hbzf hbzl
    generalize ((((((w2.setCell ⟨W1.heap.size,0,none⟩ (.int .i64 (r.qc[m].pred:Nat))).setCell ⟨W1.heap.size,1,none⟩ (.slice aoq r.qc[m].qf.length capq)).setCell ⟨W1.heap.size,2,none⟩ (.int .i64 (wd:Nat))).setCell ⟨W1.heap.size,3,none⟩ (.pointer (some ⟨bb,0,none⟩))).setCell ⟨W1.heap.size,4,none⟩ (.pointer (some ⟨fb,0,none⟩))).setCell ⟨W1.heap.size,5,none⟩ (.pointer (some ⟨ab,0,none⟩)))=W3 at *
    generalize W1.heap.size=g8 at *
    have hP:=HP.out
    have HRF:Hid (∀ W0,Below wr.heap.size wr W0->Calls Tryz.prog 205 #[.pointer (some ⟨rb,0,none⟩),.int .i64 (r.qc[m].pred:Nat)] W0 fun e w'=>e=.returned (.pointer (some ⟨Q.tbs[r.qc[m].pred],0,none⟩))/\w'=W0):=fun W0 hb=>zmi W0 ownk rb R wd mr mx Q _ (HRO.out.below hb) hpr hpt
    have HTR:Hid (∀ W0,Below wr.heap.size wr W0->Calls Tryz.prog 78 #[.pointer (some ⟨Q.tbs[r.qc[m].pred],0,none⟩)] W0 fun e w'=>∃ aor capr,e=.returned (.slice aor rows.length capr)/\Hid (RowsIn W0.heap.size w' (.slice aor rows.length capr) rows)/\Below W0.heap.size W0 w'):=fun W0 hb=>by
     have q:=z4i W0 ownk (0,r.qc[m].pred,0) Q.tbs[r.qc[m].pred] R.rows[r.qc[m].pred] fuel rows ((HRO.out.below hb).tries _ hpr hpt) (by rw[← hrows,zgf,if_neg (by omega)];simp[List.getD,hpr])
     refine q.mono ?_
     rintro e w' ⟨v,rfl,hri,hb'⟩
     obtain⟨aor,capr,rfl⟩:=zac hri.1
     exact⟨aor,capr,rfl,hri,hb'⟩
    have HRE:Hid (∀ W4 b0 rv,Below W3.heap.size W3 W4->RowsIn b0 W4 rv rows->Calls Tryz.prog 206 #[.pointer (some ⟨g8,0,none⟩),rv] W4 fun e w'=>e=.returned (.tuple #[])/\∃ fb' own4,Hid (zf7 lo w' own4 k m vs[m] ⟨.slice aoq r.qc[m].qf.length capq,bb,fb',ab⟩/\Mod lo (zgd k m (0,0,5)) wr ownk w' own4)/\Box w' g8 #[.int .i64 (r.qc[m].pred:Nat),.slice aoq r.qc[m].qf.length capq,.int .i64 (wd:Nat),.pointer (some ⟨bb,0,none⟩),.pointer (some ⟨fb',0,none⟩),.pointer (some ⟨ab,0,none⟩)] 301):=fun W4 b0 rv hb hri=>by
     have z1:=HP.out.below.size
     have q:=zoz W4 own2 k m g8 0 wd fuel (vcs r.qc[m].pred wd (.slice aoq r.qc[m].qf.length capq) bb fb ab) (zex wd r.qc[m]) vs[m] ⟨.slice aoq r.qc[m].qf.length capq,bb,fb,ab⟩ rv rows (HP.out.box.below hb) ⟨rfl,rfl,rfl,rfl,rfl,rfl⟩ (HP.out.view.below hb) hri (by have:=HP.out.ge;omega) (by have:=hb.size;omega) HRO.out.small.1 (zup hrows) hren
     refine q.mono ?_
     rintro e w' ⟨rfl,fb',own4,hv',hb',hm'⟩
     rw[HP.out.role] at hm'
     exact⟨rfl,fb',own4,⟨hv',((Mod.qo HP.out.below HP.out.old).trans (Mod.of own2 hb)).trans hm'⟩,by simpa [vcs] using hb'⟩
    have hlen:(vs.take m).length=m:=by simp;omega
    have HST:Hid (∀ w5 own4,Mod lo (zgd k m (0,0,5)) wr ownk w5 own4->znq lo w w5 own own4 k wd t5 w.heap.size r ⟨.slice aot r.head.qf.length capt,.slice (some ⟨g,0,none⟩) r.qc.length capp,.slice aon r.qm.length capn,vv,.slice none 0 0,vps,[]⟩ (vs.take m)/\Box w5 t4 z8.toArray 292):=fun w5 own4 hm5=>⟨HMK.out.step (by rw[hlen];exact hm5),HB4.out.mod hm5 (zci (by decide) (by decide) _)⟩
    have HLN:Hid ((vs.take m).length=m):=hlen
    obtain⟨aovv,capvv,hvve⟩:=zac HMK.out.qj
    dsimp only at hvve
    rw[hlen] at hvve
    subst hvve
    have hPb:=hP.below
    have hPl:=hP.lbox
    obtain⟨hPlc,hPlf⟩:=hPl.rules
    have hPll:=hPl.lt
    have HPB:Hid (Below wr.heap.size wr W3):=hPb
    have HXX:Hid (vs[m].lit.pred=r.qc[m].pred):=show vs[m].lit.pred=r.qc[m].pred by rw[zmg hren];rfl
    have HTK:Hid (vs.take (m+1)=vs.take m++[vs[m]]):=uae hmv
    clear hP hPb hPl hlen hren hrows
    generalize hvm:vs[m]=V' at *
    clear hvm
    generalize Q.tbs[r.qc[m].pred]=tb at *
    generalize r.qc[m].pred=vp at *
    generalize r.qc[m].qf.length=vt at *
    go_wp2_with (first|(go_at_call 205;refine(HRF.out _ HPB.out).mono ?_;rintro e w4 ⟨rfl,hww⟩;obtain rfl:=hww.symm)|(go_at_call 78;refine(HTR.out _ HPB.out).mono ?_;rintro e w4 ⟨aor,capr,rfl,HRI,hb4⟩)|(go_at_call 206;refine(HRE.out _ _ _ hb4 HRI.out).mono ?_;rintro e w5 ⟨rfl,fb',own4,HV5,hb8⟩;obtain⟨hmk5,hb45⟩:=HST.out _ _ HV5.out.2;have hbx5:Box w5 t5 #[.int .i64 (r.qi:Nat),.int .i64 (r.vars:Nat),.int .i64 (r.head.pred:Nat),.slice aot r.head.qf.length capt,.slice (some ⟨g,0,none⟩) r.qc.length capp,.slice aon r.qm.length capn,.slice aovv m capvv,.slice none 0 0] 292:=hmk5.box;obtain⟨hc5,hf5⟩:=hbx5.rules;have hl5:=hbx5.lt;obtain⟨hc8,hf8⟩:=hb8.rules;have hl8:=hb8.lt;have hown5:=hmk5.qj;have HM5:Hid (znq lo w w5 own own4 k wd t5 w.heap.size r ⟨.slice aot r.head.qf.length capt,.slice (some ⟨g,0,none⟩) r.qc.length capp,.slice aon r.qm.length capn,.slice aovv m capvv,.slice none 0 0,vps,[]⟩ (vs.take m)):=hmk5;have HB45:Hid (Box w5 t4 z8.toArray 292):=hb45;clear hmk5 hb45 hbx5 hb8)|(at_builtin;refine zce w5 _ [.int .i64 (vp:Nat),.slice aoq vt capq,.int .i64 (wd:Nat),.pointer (some ⟨bb,0,none⟩),.pointer (some ⟨fb',0,none⟩),.pointer (some ⟨ab,0,none⟩)] _ rfl (.tmp 36) (.tmp 38) 290 rfl lo 301 i0 _ 6 64 Tryz.underlying290 hi hz0 hzs hzb rfl (by decide) (.slice aovv m capvv) (vs.take m).length (zg5 wd (vs.take m) vps) rfl hown5 (by exact(by go_grown)) _ _ rfl (by simp) rfl (by simp[Value.oneCell']) (by rw[HLN.out];omega) (by omega) (by exact(uap HM5.out.low0 HM5.out.mod.size)) ?_;intro v' w6 ho6 hS6 ha6;obtain⟨aov',capv',hv'e⟩:=zac ho6;rw[HLN.out] at hv'e;subst hv'e;have hbx6:Box w6 t5 #[.int .i64 (r.qi:Nat),.int .i64 (r.vars:Nat),.int .i64 (r.head.pred:Nat),.slice aot r.head.qf.length capt,.slice (some ⟨g,0,none⟩) r.qc.length capp,.slice aon r.qm.length capn,.slice aovv m capvv,.slice none 0 0] 292:=HM5.out.box.saveT hS6 (OfT.own HM5.out.qj) (by decide);obtain⟨hc6,hf6⟩:=hbx6.rules;have hl6:=hbx6.lt;have HB46:Hid (Box w6 t4 z8.toArray 292):=HB45.out.saveT hS6 (OfT.own HM5.out.qj) (by decide);have HS6:Hid (zas _ w5 w6):=hS6;have HA6:Hid (_∨_):=ha6;have HO6:Hid (World.ownsRow w6 lo 301 6 _ _ _):=ho6;clear hS6 ha6 ho6 hbx6))
    have hve:zc1 wd V' ⟨.slice aoq vt capq,bb,fb',ab⟩=[.int .i64 (vp:Nat),.slice aoq vt capq,.int .i64 (wd:Nat),.pointer (some ⟨bb,0,none⟩),.pointer (some ⟨fb',0,none⟩),.pointer (some ⟨ab,0,none⟩)]:=by simp[zc1,HXX.out,pt]
    have hpush:=HM5.out.pushV (V:=V') (p:=⟨.slice aoq vt capq,bb,fb',ab⟩) (by rw[HLN.out];exact HV5.out.1) (by rw[hve];exact HO6.out) HS6.out HA6.out
    rw[← HTK.out] at hpush
    exact⟨⟨m+1,by omega,by go_num,_,_,_,hpush,HB46.out.set_ne h45 _ _⟩,by simp[intOf];omega⟩
  ·obtain rfl:m=r.qc.length:=by omega
   have hta:vs.take r.qc.length=vs:=by rw[← HVL.out];exact ubw
   rw[hta] at HMK
   clear hta
   obtain⟨aovv,capvv,hvve⟩:=zac HMK.out.qj
   dsimp only at hvve
   subst hvve
   obtain⟨hc3,hf3⟩:=HMK.out.rbox.rules
   have hl3:=HMK.out.rbox.lt
   dsimp only at hc3
   go_upto_region 11 with fail
   clear hc3 hf3 hl3 hm hlt
   have HLK:Hid (lo<=wr.heap.size):=hlok
   clear hszk hlok
   generalize hw5:wr=w5 at *
   clear hw5
   go_loopw [45] (fun v45 wr=>∃ m:Nat,m<=r.qm.length/\v45=.int .i64 m/\∃ ntv nbs,Hid (znq lo w wr own ownk k wd t5 w.heap.size r ⟨.slice aot r.head.qf.length capt,.slice aop r.qc.length capp,.slice aon r.qm.length capn,.slice aovv vs.length capvv,ntv,vps,nbs⟩ vs)/\Hid (Box wr t4 z8.toArray 292)/\Hid (nbs.length=m)/\Hid (zho Q.tbs R.rows.length r nbs)/\Hid (∀ b,ntv.ownBlock=some b->w.heap.size<=b)) (fun i _=>r.qm.length - (intOf i).toNat)
   case atStart=>exact⟨0,uaj _,rfl,_,[],HMK,HB4,rfl,fun i _ h2=>by simp at h2,fun b hb=>by cases hb⟩
   case round =>
    clear HMK HB4
    obtain⟨m,hm,rfl,ntv,nbs,HMK,HB4,HNL,HNA,HNW⟩:=hrel
    have hszk:=HMK.out.mod.size
    have hlok:lo<=wr.heap.size:=uap HLO.out hszk
    obtain⟨aont,capnt,hnte⟩:=zac HMK.out.qm
    dsimp only at hnte
    subst hnte
    by_cases hlt:m < r.qm.length
    ·obtain⟨g,aoq,capq,hao,hg,q0,q1,hTI⟩:=HMK.out.rule.qm.cell m hlt
     subst hao
     have HRO:Hid (zdc lo wr ownk rb R wd mr mx Q):=HH.out.make HMK.out.mod
     have hpr:=HNT.out _ (uad hlt)
     have hpt:r.qm[m].pred < Q.tbs.length:=by rw[HRO.out.tlen];exact hpr.1
     have HRF:Hid (∀ W0,Below wr.heap.size wr W0->Calls Tryz.prog 205 #[.pointer (some ⟨rb,0,none⟩),.int .i64 (r.qm[m].pred:Nat)] W0 fun e w'=>e=.returned (.pointer (some ⟨Q.tbs[r.qm[m].pred],0,none⟩))/\w'=W0):=fun W0 hb=>zmi W0 ownk rb R wd mr mx Q _ (HRO.out.below hb) hpr.1 hpt
     have HNP:Hid (zho Q.tbs R.rows.length r (nbs++[Q.tbs[r.qm[m].pred]])):=fun i h1 h2=>by
      by_cases hi:i < nbs.length
      ·have q:=HNA.out i h1 hi
       rw[uan hi]
       exact q
      ·obtain rfl:i=m:=by have:=HNL.out;simp at h2;omega
       refine⟨hpr.2,hpr.1,hpt,?_⟩
       rw[ucp (by omega)]
       simp
     have hgr:Below wr.heap.size wr (wr.alloc (.cells #[.int .i64 (r.qm[m].pred:Nat),.slice aoq r.qm[m].qf.length capq] 204)):=(by go_grown)
     have hmk5:=HMK.out.below hgr
     have hbx5:Box (wr.alloc (.cells #[.int .i64 (r.qm[m].pred:Nat),.slice aoq r.qm[m].qf.length capq] 204)) t5 #[.int .i64 (r.qi:Nat),.int .i64 (r.vars:Nat),.int .i64 (r.head.pred:Nat),.slice aot r.head.qf.length capt,.slice aop r.qc.length capp,.slice (some ⟨g,0,none⟩) r.qm.length capn,.slice aovv vs.length capvv,.slice aont nbs.length capnt] 292:=hmk5.box
     obtain⟨hc5,hf5⟩:=hbx5.rules
     have hl5:=hbx5.lt
     have hown5:=hmk5.qm
     dsimp only at hown5
     have HM5:Hid (znq lo w (wr.alloc (.cells #[.int .i64 (r.qm[m].pred:Nat),.slice aoq r.qm[m].qf.length capq] 204)) own ownk k wd t5 w.heap.size r ⟨.slice aot r.head.qf.length capt,.slice aop r.qc.length capp,.slice (some ⟨g,0,none⟩) r.qm.length capn,.slice aovv vs.length capvv,.slice aont nbs.length capnt,vps,nbs⟩ vs):=hmk5
     have HB45:Hid (Box (wr.alloc (.cells #[.int .i64 (r.qm[m].pred:Nat),.slice aoq r.qm[m].qf.length capq] 204)) t4 z8.toArray 292):=HB4.out.below hgr
     have HGR:Hid (Below wr.heap.size wr (wr.alloc (.cells #[.int .i64 (r.qm[m].pred:Nat),.slice aoq r.qm[m].qf.length capq] 204))):=hgr
     have hmkk:(m:Int) < (r.qm.length:Int):=by omega
     have hnb:nbs.length<=1000:=by rw[HNL.out];omega
     clear hmk5 hbx5 hgr
     generalize Q.tbs[r.qm[m].pred]=tb at *
     generalize r.qm[m].pred=vp at *
     generalize r.qm[m].qf.length=vt at *
     generalize hnl:nbs.length=nl at *
     have HNB:Hid (nbs.length=nl):=hnl
     clear hnl
     go_upto_region 14 with (first|(go_at_call 205;refine(HRF.out _ HGR.out).mono ?_;rintro e w4 ⟨rfl,hww⟩;obtain rfl:=hww.symm))
     generalize wr.alloc (.cells #[.int .i64 (vp:Nat),.slice aoq vt capq] 204)=W5 at *
     go_wp2_with (first|(at_builtin;refine zce W5 _ [.pointer (some ⟨tb,0,none⟩)] _ rfl (.tmp 54) (.tmp 56) 150 rfl lo 162 i1 _ 1 8 Tryz.underlying150 hi1 hz1' hzs1 hzb1 rfl (by decide) (.slice aont nl capnt) nl (pts nbs) rfl hown5 (by exact(by go_grown)) _ _ rfl (by simp) rfl (by simp[Value.oneCell']) (by omega) (by omega) (by exact(uap HM5.out.low0 HM5.out.mod.size)) ?_;intro v' w6 ho6 hS6 ha6;obtain⟨aov',capv',hv'e⟩:=zac ho6;subst hv'e;have hbx6:Box w6 t5 #[.int .i64 (r.qi:Nat),.int .i64 (r.vars:Nat),.int .i64 (r.head.pred:Nat),.slice aot r.head.qf.length capt,.slice aop r.qc.length capp,.slice (some ⟨g,0,none⟩) r.qm.length capn,.slice aovv vs.length capvv,.slice aont nl capnt] 292:=HM5.out.box.saveT hS6 (OfT.own HM5.out.qm) (by decide);obtain⟨hc6,hf6⟩:=hbx6.rules;have hl6:=hbx6.lt;have HB46:Hid (Box w6 t4 z8.toArray 292):=HB45.out.saveT hS6 (OfT.own HM5.out.qm) (by decide);have HS6:Hid (zas _ W5 w6):=hS6;have HA6:Hid (_∨_):=ha6;have HO6:Hid (World.ownsRow w6 lo 162 1 _ _ _):=ho6;clear hS6 ha6 ho6 hbx6))
     have hpush:=HM5.out.pushN (tb:=tb) HNW.out (by rw[HNB.out];exact HO6.out) HS6.out
     exact⟨⟨m+1,by omega,by go_num,_,_,hpush,HB46.out.set_ne h45 _ _,show(nbs++[tb]).length=m+1 by simp[HNB.out,HNL.out],HNP,fun b hb=>by
      rcases HA6.out with e|⟨g',e,hg'⟩
      ·rw[e] at hb;exact HNW.out b hb
      ·rw[e] at hb;simp at hb;have:=HM5.out.mod.size;omega⟩,by simp[intOf];omega⟩
    ·obtain rfl:m=r.qm.length:=by omega
     have hbx5:Box wr t5 #[.int .i64 (r.qi:Nat),.int .i64 (r.vars:Nat),.int .i64 (r.head.pred:Nat),.slice aot r.head.qf.length capt,.slice aop r.qc.length capp,.slice aon r.qm.length capn,.slice aovv vs.length capvv,.slice aont nbs.length capnt] 292:=HMK.out.box
     obtain⟨hc5,hf5⟩:=hbx5.rules
     have hl5:=hbx5.lt
     have hbx4:Box wr t4 #[.int .i64 0,.int .i64 0,.int .i64 0,.slice none 0 0,.slice none 0 0,.slice none 0 0,.slice none 0 0,.slice none 0 0] 292:=HB4.out
     obtain⟨hc4,hf4⟩:=hbx4.rules
     have hl4:=hbx4.lt
     have h54:t5≠t4:=fun e=>h45 e.symm
     clear hbx5 hbx4
     go_wp2
     (try simp only[Exit.inBlock,Exit.then])
     have hs8:zas [t4] wr ((((((((wr.setCell ⟨t4,0,none⟩ (.int .i64 (r.qi:Nat))).setCell ⟨t4,1,none⟩ (.int .i64 (r.vars:Nat))).setCell ⟨t4,2,none⟩ (.int .i64 (r.head.pred:Nat))).setCell ⟨t4,3,none⟩ (.slice aot r.head.qf.length capt)).setCell ⟨t4,4,none⟩ (.slice aop r.qc.length capp)).setCell ⟨t4,5,none⟩ (.slice aon r.qm.length capn)).setCell ⟨t4,6,none⟩ (.slice aovv vs.length capvv)).setCell ⟨t4,7,none⟩ (.slice aont nbs.length capnt)):=zas.sets t4 [.int .i64 (r.qi:Nat),.int .i64 (r.vars:Nat),.int .i64 (r.head.pred:Nat),.slice aot r.head.qf.length capt,.slice aop r.qc.length capp,.slice aon r.qm.length capn,.slice aovv vs.length capvv,.slice aont nbs.length capnt] 0 wr
     have hd:=HMK.out.done HB4.out (by omega) hs8 HNL.out (by rw[HVL.out];exact hpf)
     have HD:Hid (_/\_):=hd
     clear hd hs8
     refine bodyPost_ret (v:=.agg #[.int .i64 (r.qi:Nat),.int .i64 (r.vars:Nat),.int .i64 (r.head.pred:Nat),.slice aot r.head.qf.length capt,.slice aop r.qc.length capp,.slice aon r.qm.length capn,.slice aovv vs.length capvv,.slice aont nbs.length capnt]) ?_ rfl ⟨⟨.slice aot r.head.qf.length capt,.slice aop r.qc.length capp,.slice aon r.qm.length capn,.slice aovv vs.length capvv,.slice aont nbs.length capnt,vps,nbs⟩,ownk,rfl,HD.out.1,HNA.out,HD.out.2⟩
     clear HD hc5 hf5 hl5
     simp[results,Tryz.results192,go_sem,hc4]
end Go.Proofs.YteampbddflhngaaGreat
