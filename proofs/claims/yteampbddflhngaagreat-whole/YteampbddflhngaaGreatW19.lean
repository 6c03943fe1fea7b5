import Derived.Test.YteampbddflhngaaGreatW01
import Derived.Deep.RegionHeld3
import Derived.Test.YteampbddflhngaaGreatW18

namespace Go.Proofs.YteampbddflhngaaGreat
variable {d i:Nat}{listed:Array Bool}{a:Act}{w:World}
section
variable {P:Program} {ops:Array Oper} {Q:Exit->Act->World->Prop} {md:Region.Mode} {S:World->Prop}
def zj2(P:Program)(md:Region.Mode)(ops:Array Oper)(Q:Exit->Act->World->Prop)(S:World->Prop)(d:Nat):Nat->Array Bool->Act->World->Prop
 |0,listed,a,w=>Region.ready md ops listed=[]/\Q .normal a w
 |fuel+1,listed,a,w =>
  (Region.ready md ops listed=[]->Q .normal a w) ∧
  ∀ i∈Region.ready md ops listed,wpOp P ops Q i (fun a' w'=>(i≠d->S w')/\zj2 P md ops Q S d fuel (listed.setIfInBounds i true) a' w') a w
theorem zq9{d:Nat}:∀(fuel:Nat) (listed:Array Bool) (a:Act) (w:World),zj2 P md ops Q S d fuel listed a w->wpAny P md ops Q fuel listed a w
 |0,_,_,_,h=>h
 |fuel+1,_,_,_,h=>⟨h.1,fun i hi=>wpOp_mono (fun a' w' h'=>zq9 fuel _ a' w' h'.2) (h.2 i hi)⟩
def waitsFor(md:Region.Mode)(ops:Array Oper)(d i:Nat):Bool:=match ops[d]? with
 |none=>false
 |some o=>o.after.toList.any fun e=>Region.binds md e && e.on == i
theorem z0t(h:waitsFor md ops d i=true):∃ o,ops[d]?=some o/\∃ e∈o.after,Region.binds md e=true/\e.on=i:=by
 unfold waitsFor at h
 split at h
 ·cases h
 ·rename_i o ho
  obtain⟨e,he,hb⟩:=ub4.1 h
  simp only[ubb,beq_iff_eq] at hb
  exact⟨o,ho,e,by simpa using he,hb⟩
theorem zu8{oi:Oper}{v:Value}(hi:ops[i]?=some oi)(hsel:∀(j:Nat) (o:Oper) cs b,ops[j]?=some o->o.op≠.select cs b)
  (hQ:∀ c a w,Q (.panic c) (a.put oi.dst v) w->Q (.panic c) a w) (hd:waitsFor md ops d i=true) :
  ∀(fuel:Nat) (listed:Array Bool) (a:Act) (w:World),
   (∀ j oj,ops[j]?=some oj->j≠i->listed.getD j true=false->(∀ e∈oj.after,Region.binds md e=true->e.on≠i)->oi.apart ops oj=true) →
   i∈Region.ready md ops listed->YieldsIf P ops S oi v a->S w →
   zj2 P md ops Q S d fuel (listed.setIfInBounds i true) (a.put oi.dst v) w->zj2 P md ops Q S d (fuel+1) listed a w:=by
 intro fuel
 induction fuel with
 |zero =>
  intro listed a w _ hr hy hS H
  refine⟨fun h=>(by rw[h] at hr;cases hr),fun j hj=>?_⟩
  by_cases hji:j=i
  ·subst hji;exact hy.wpOp hi hS ⟨fun _=>hS,H⟩
  ·have:=ready_mono hj hji
   rw[H.1] at this
   cases this
 |succ fuel ih =>
  intro listed a w hfree hr hy hS H
  refine⟨fun h=>(by rw[h] at hr;cases hr),fun j hj=>?_⟩
  by_cases hji:j=i
  ·subst hji;exact hy.wpOp hi hS ⟨fun _=>hS,H⟩
  ·have h1:=H.2 j (ready_mono hj hji)
   obtain⟨hjun,oj,hoj,hall⟩:=mem_ready.1 hj
   have hnot:∀ e∈oj.after,Region.binds md e=true->e.on≠i:=fun e he hb heq=>by
    have h1:=hall e he hb
    have h0:=(mem_ready.1 hr).1
    rw[heq] at h1
    rcases Nat.lt_or_ge i listed.size with h'|h'
    ·simp[h'] at h0 h1;rw[h0] at h1;cases h1
    ·simp[Array.getElem?_eq_none h'] at h1
   have hjd:j≠d:=fun e=>by
    subst e
    obtain⟨od,ho,e,he,hb,hon⟩:=z0t hd
    rw[hoj] at ho
    cases ho
    exact hnot e he hb hon
   have h2:=wpOp_putIf hoj (hfree j oj hoj hji hjun hnot) (fun cs b=>hsel i oi cs b hi) (fun cs b=>hsel j oj cs b hoj) hQ hy h1
   have hfree':∀ k ok,ops[k]?=some ok->k≠i->(listed.setIfInBounds j true).getD k true=false →
     (∀ e∈ok.after,Region.binds md e=true->e.on≠i)->oi.apart ops ok=true:=fun k ok hk hki hun hno=>by
    refine hfree k ok hk hki ?_ hno
    by_cases hjk:j=k
    ·subst hjk;exact hjun
    ·rw[getD_set_ne true hjk] at hun;exact hun
   refine wpOp_mono (fun a' w' h3=>⟨h3.2.1,ih (listed.setIfInBounds j true) a' w' hfree' (ready_mono hr (Ne.symm hji)) h3.1 (h3.2.1 hjd) ?_⟩) h2
   rw[Array.setIfInBounds_comm _ _ hji]
   exact h3.2.2
theorem zan{oi:Oper}{v:Value}{fuel:Nat}(hi:ops[i]?=some oi)
  (hs:Region.noSelect ops=true) (hf:Region.free md ops listed i=true) (hr:(Region.ready md ops listed).contains i=true) (hd:waitsFor md ops d i=true)
  (hQ:∀ c a w,Q (.panic c) (a.put oi.dst v) w->Q (.panic c) a w) (hy:YieldsIf P ops S oi v a) (hS:S w)
  (h:zj2 P md ops Q S d fuel (listed.setIfInBounds i true) (a.put oi.dst v) w):zj2 P md ops Q S d (fuel+1) listed a w :=
 zu8 hi (Region.noSelect_spec hs) hQ hd fuel listed a w (Region.free_spec hi hf) (by simpa using hr) hy hS h
theorem zc8{o:Oper}{fuel:Nat}(hr:Region.ready md ops listed=[i])(ho:ops[i]?=some o)
  (h:∀ K':Act->World->Prop,Shut (∀ a w,(i≠d->S w)->zj2 P md ops Q S d fuel (listed.setIfInBounds i true) a w->K' a w)->if Region.wanted o (yielded ops a.tmps)=true then Oper.wp P o a w K' Q else K' (a.put o.dst undef) w):zj2 P md ops Q S d (fuel+1) listed a w:=by
 refine⟨fun h0=>(by rw[hr] at h0;cases h0),fun j hj=>?_⟩
 rw[hr] at hj
 obtain rfl:j=i:=by simpa using hj
 exact wpOp_step ho (fun K' hK=>h K' (fun a w hS hW=>hK a w ⟨hS,hW⟩))
theorem zkp(hr:Region.ready md ops listed=[])(h:Q .normal a w):∀ fuel,zj2 P md ops Q S d fuel listed a w
 |0=>⟨hr,h⟩
 |_+1=>⟨fun _=>h,by rw[hr];simp⟩
theorem zo9{id:Nat}(hm:P.follows .mixedOrders=true)(hS:S w.drew)
  (h:S w.drew->zj2 P .any ops Q S d ops.size (Array.replicate ops.size false) a w.drew):(Code.region id ops true).wp P Q a w :=
 wp_region_any hm (zq9 _ _ _ _ (h hS))
end
end Go.Proofs.YteampbddflhngaaGreat
namespace Go.Proofs.YteampbddflhngaaGreat
set_option maxRecDepth 100000
set_option maxHeartbeats 4000000
open Go.RowKit
variable {lo:Nat}
variable {w:World}{rb wd mr mx:Nat}{R:zbg}
def z8r(p:Nat):TypeId->zay->Prop:=fun t ρ=>t=165/\ρ=(0,p,1)
def zm3(p:Nat):TypeId->zay->Prop:=fun t ρ=>(¬ NoT t/\ρ=(0,p,0))∨t=214∨t=161∨z8r p t ρ
theorem zdc.setTrie{w':World}{own own':Nat->zay}{Q:zcu}{p:Nat}{T:zad}(h:zdc lo w own rb R wd mr mx Q)(hp:p < R.rows.length)(hp2:p < Q.tbs.length)(hT:zcw lo w' own' (0,p,0) Q.tbs[p] T)(m:Mod lo (onT (·=(0,p,0))) w own w' own'):zdc lo w' own' rb { R with rows:=R.rows.set p T } wd mr mx Q:=by
 have hlen:(R.rows.set p T).length=R.rows.length:=by simp
 refine⟨h.low,h.box.mod m (zd3 (by decide) _),by rw[hlen];exact zee h.rows m (zd3 (by decide)),by rw[hlen];exact h.tlen,fun q a b=>?_,zee h.qo m (zd3 (by decide)),h.flen,fun q a b=>⟨(h.jk q a b).1.mod m (zd3 (by decide)),fun x hx=>?_⟩,by rw[hlen];exact h.few,h.small⟩
 ·by_cases e:q=p
  ·subst e
   simp only[ucf]
   exact hT
  ·simp only[ucn (Ne.symm e)]
   exact(h.tries q (by simpa using a) b).onT m (by simp[e])
 ·rw[m.old x (zdq (h.jk q a b).1.1 hx)]
  exact(h.jk q a b).2 x hx
theorem zdc.rebox{w':World}{own:Nat->zay}{R':zbg}{Q:zcu}(h:zdc lo w own rb R wd mr mx Q)(hs:zas [rb] w w')(hb:Box w' rb #[Q.rv,.int .i64 (R'.count:Nat),.int .i64 (R'.qw:Nat),.int .i64 R'.jf,.int .i64 (wd:Nat),.int .i64 (mr:Nat),.int .i64 (mx:Nat),Q.fv] 214)(e1:R'.rows=R.rows)(e2:R'.qo=R.qo)(hf:R'.count<=1048577/\R'.qw<=1048576):zdc lo w' own rb R' wd mr mx Q:=by
 have hM:=OfT.box h.box
 obtain⟨rows',count',rounds',moves',fresh'⟩:=R'
 simp only at e1 e2
 subst e1
 subst e2
 exact⟨h.low,hb,zaj h.rows hs hM (by decide),h.tlen,fun q a b=>(h.tries q a b).saveT hs hM (by decide),zaj h.qo hs hM (by decide),h.flen,fun q a b=>⟨⟨zaj (h.jk q a b).1.1 hs hM (by decide),(h.jk q a b).1.2⟩,(h.jk q a b).2⟩,⟨h.few.1,h.few.2.1,hf⟩,h.small⟩
theorem zdc.pushFresh{w3:World}{own:Nat->zay}{gf:Nat}{capf:Nat}{Q:zcu}{p:Nat}{v':Value}{rs:List zao}(h:zdc lo w own rb R wd mr mx Q)(hp:p < R.qo.length)(hp2:p < Q.fvs.length)(hgf:Q.fv=.slice (some ⟨gf,0,none⟩) R.qo.length capf)(hS:zas Q.fvs[p].ownBlock.toList w w3)(ho:RowsIn lo w3 v' rs)(hat:v'.ownBlock=Q.fvs[p].ownBlock∨∃ g,v'.ownBlock=some g/\w.heap.size<=g) :
  zdc lo (w3.setCell ⟨gf,p,none⟩ v') (ext own w.heap.size (0,p,1)) rb { R with qo:=R.qo.set p rs } wd mr mx ⟨Q.rv,Q.tbs,Q.fv,Q.fvs.set p v'⟩/\Mod lo (zm3 p) w own (w3.setCell ⟨gf,p,none⟩ v') (ext own w.heap.size (0,p,1)):=by
 have hfp:=h.jk p hp hp2
 have m3:Mod lo (z8r p) w own w3 (ext own w.heap.size (0,p,1)):=⟨fun b hb=>zgb _ _ _ _ hb,_,hS,fun b hb=>by
  have hb':=zcy hb
  obtain⟨c,hc⟩:=zef hfp.1.1 hb'
  exact⟨zeg hfp.1.1 hb',zdq hfp.1.1 hb',c,_,hc,rfl,hfp.2 b hb'⟩⟩
 have nk:∀ {t:TypeId},t≠165->∀ ρ,¬ z8r p t ρ:=fun hn ρ q=>hn q.1
 have hfr3:=zee h.qo m3 (nk (by decide))
 have hfr3':=hfr3
 rw[hgf] at hfr3'
 have hset:=zb4 hfr3' p (by omega) v'
 obtain⟨cg,hcg⟩:=zef hfr3' (b:=gf) rfl
 have hs4:zas [gf] w3 (w3.setCell ⟨gf,p,none⟩ v'):=zas.set _ _ _ _
 have hM4:=OfT.box hcg
 have hlen:(R.qo.set p rs).length=R.qo.length:=by simp
 have hlg:lo<=gf:=zeg hfr3' rfl
 refine⟨⟨h.low,(h.box.mod m3 (nk (by decide) _)).saveT hs4 hM4 (by decide),zaj (zee h.rows m3 (nk (by decide))) hs4 hM4 (by decide),h.tlen,fun q a b=>((h.tries q a b).mod m3 (fun t ht q=>ht (by rw[q.1];decide))).saveT hs4 hM4 (by decide),by rw[hlen,hgf];exact hset,by rw[hlen];simpa using h.flen,fun q a b=>?_,⟨h.few.1,by rw[hlen];exact h.few.2.1,h.few.2.2⟩,h.small⟩,?_⟩
 ·by_cases e:q=p
  ·subst e
   simp only[ucf]
   refine⟨⟨zaj ho.1 hs4 hM4 (by decide),ho.2⟩,fun x hx=>?_⟩
   rcases hat with e|⟨g,e,hg⟩
   ·rw[e] at hx
    rw[zgb _ _ _ _ (zdq hfp.1.1 hx)]
    exact hfp.2 x hx
   ·rw[e] at hx
    simp only[uab] at hx
    subst hx
    simp[ext,Nat.not_lt.2 hg]
  ·simp only[ucn (Ne.symm e)]
   have a':q < R.qo.length:=by simpa using a
   have b':q < Q.fvs.length:=by simpa using b
   have hfq:=h.jk q a' b'
   refine⟨⟨zaj (hfq.1.modR m3 fun x hx q2=>e (by have:=hfq.2 x hx;rw[q2.2] at this;simp at this;exact this.symm)).1 hs4 hM4 (by decide),hfq.1.2⟩,fun x hx=>?_⟩
   rw[zgb _ _ _ _ (zdq hfq.1.1 hx)]
   exact hfq.2 x hx
 ·exact(m3.more fun t ρ q=>Or.inr (Or.inr (Or.inr q))).trans (Mod.set _ hcg hlg (Or.inr (Or.inr (Or.inl rfl))) _ _)
def zvc(lo:Nat)(w:World)(own:Nat->zay)(rb p:Nat)(R':zbg)(b:Bool)(wd mr mx:Nat)(Q:zcu)(e:Ending)(w':World):Prop:=e=.returned (.bool b)/\∃ own' fvs',zdc lo w' own' rb R' wd mr mx ⟨Q.rv,Q.tbs,Q.fv,fvs'⟩/\Mod lo (zm3 p) w own w' own'
theorem zns{R':zbg}{p:Nat}{row:zao}{b:Bool}(h:zyo mr R p row=some (R',b)):p < R.rows.length/\p < R.qo.length/\okT (R.rows.getD p zad.zero)=true/\R.count<=1048576/\(R.qo.getD p []).length<=1048576/\((zfo (R.rows.getD p zad.zero) row R.qw).2=false/\R'={ R with rows:=R.rows.set p (zfo (R.rows.getD p zad.zero) row R.qw).1 }/\b=true∨(zfo (R.rows.getD p zad.zero) row R.qw).2=true/\R'={ R with rows:=R.rows.set p (zfo (R.rows.getD p zad.zero) row R.qw).1,qo:=R.qo.set p (R.qo.getD p []++[row]),count:=R.count+1 }/\b=decide (R.count+1<=mr)):=by
 unfold zyo at h
 split at h
 ·rename_i hc
  obtain⟨h1,h2,h3,h4,h5⟩:=hc
  refine⟨h1,h2,h3,h4,h5,?_⟩
  rcases hq:zfo (R.rows.getD p zad.zero) row R.qw with ⟨T,_|_⟩
  ·rw[hq] at h
   simp only[uab,uak] at h
   exact Or.inl ⟨rfl,h.1.symm,h.2.symm⟩
  ·rw[hq] at h
   simp only[uab,uak] at h
   exact Or.inr ⟨rfl,h.1.symm,h.2.symm⟩
 ·cases h
theorem zya(w:World)(own:Nat->zay)(rb:Nat)(R R':zbg)(wd mr mx:Nat)(Q:zcu)(p x y z:Nat)(b:Bool)(h:zdc lo w own rb R wd mr mx Q)(hlo:lo<=w.heap.size)(hr:zyo mr R p [x,y,z]=some (R',b)) :
  Calls Tryz.prog 121 #[.pointer (some ⟨rb,0,none⟩),.int .i64 p,.agg #[.int .i64 x,.int .i64 y,.int .i64 z]] w fun e w'=>zvc lo w own rb p R' b wd mr mx Q e w':=by
 obtain⟨i0,hi,hz0,hzs,hzb⟩:=info_parts Tryz.infoRow
 obtain⟨hp1,hp2,hok,hcnt,hfl,hcase⟩:=zns hr
 have hp3:p < Q.tbs.length:=by rw[h.tlen];exact hp1
 have hp4:p < Q.fvs.length:=by rw[h.flen];exact hp2
 obtain⟨hl,hf,h0,h1,h2,h3,h4,h5,h6,h7⟩:=h.at
 obtain⟨g,capg,hrv,hg,hc⟩:=h.trie p hp1 hp3
 obtain⟨gf,capf,hfv,hgf,hcf⟩:=h.frow p hp2 hp4
 rw[hrv] at h0
 rw[hfv] at h7
 have HR:Hid (zdc lo w own rb R wd mr mx Q):=h
 have HRV:Hid (Q.rv=.slice (some ⟨g,0,none⟩) R.rows.length capg):=hrv
 have HFV:Hid (Q.fv=.slice (some ⟨gf,0,none⟩) R.qo.length capf):=hfv
 have hgR:R.rows.getD p zad.zero=R.rows[p]:=by simp[hp1]
 have hgF:R.qo.getD p []=R.qo[p]:=by simp[hp2]
 rw[hgR] at hok hcase
 rw[hgF] at hcase hfl
 have HT:Hid (zcw lo w own (0,p,0) Q.tbs[p] R.rows[p]):=h.tries p hp1 hp3
 have HADD:Hid (∀ W,Below w.heap.size w W->Calls Tryz.prog 163 #[.pointer (some ⟨Q.tbs[p],0,none⟩),.agg #[.int .i64 x,.int .i64 y,.int .i64 z],.int .i64 (R.qw:Nat)] W fun e w'=>e=.returned (.bool (zfo R.rows[p] [x,y,z] R.qw).2)/\zcw lo w' (ext own W.heap.size (0,p,0)) (0,p,0) Q.tbs[p] (zfo R.rows[p] [x,y,z] R.qw).1/\Mod lo (onT (·=(0,p,0))) W own w' (ext own W.heap.size (0,p,0))):=fun W hW=>z7a W own (0,p,0) Q.tbs[p] R.rows[p] x y z R.qw (HT.out.below hW) hok
 have hpp1:(p:Int) < (R.rows.length:Int):=by omega
 have hpp2:(p:Int) < (R.qo.length:Int):=by omega
 have hsm:=h.small.2.1
 have hfew1:=h.few.1
 have hfew2:=h.few.2.1
 have HST:Hid (∀ W w' own' (T:zad),Below w.heap.size w W->zcw lo w' own' (0,p,0) Q.tbs[p] T->Mod lo (onT (·=(0,p,0))) W own w' own'->zdc lo w' own' rb { R with rows:=R.rows.set p T } wd mr mx Q):=fun W w' own' T hW hT m=>(HR.out.below hW).setTrie hp1 hp3 hT m
 have HCASE:Hid ((zfo R.rows[p] [x,y,z] R.qw).2=false/\R'={ R with rows:=R.rows.set p (zfo R.rows[p] [x,y,z] R.qw).1 }/\b=true∨(zfo R.rows[p] [x,y,z] R.qw).2=true/\R'={ R with rows:=R.rows.set p (zfo R.rows[p] [x,y,z] R.qw).1,qo:=R.qo.set p (R.qo[p]++[[x,y,z]]),count:=R.count+1 }/\b=decide (R.count+1<=mr)):=hcase
 have HLT:Hid (∀ b,Q.fvs[p].ownBlock=some b->b < w.heap.size):=fun b hb=>zdq (h.jk p hp2 hp4).1.1 hb
 clear h hrv hfv hok hcase hgR hgF h1 h3 h4 h5 h6
 have htb:Hid (Q.tbs[p]=Q.tbs[p]):=rfl
 generalize hT':(zfo R.rows[p] [x,y,z] R.qw).1=T' at *
 clear hT'
 generalize hb':(zfo R.rows[p] [x,y,z] R.qw).2=added at *
 clear hb'
 have hrb:=Box.new w #[.int .i64 (x:Nat),.int .i64 (y:Nat),.int .i64 (z:Nat)] 165
 go_enter Tryz.func121,Tryz.ntmps121
 go_wp2
 go_region_held3 (fun w'=>w'.cell? ⟨rb,0,none⟩=some (.slice (some ⟨g,0,none⟩) R.rows.length capg)/\w'.cell? ⟨g,p,none⟩=some (.pointer (some ⟨Q.tbs[p],0,none⟩))/\w'.cell? ⟨rb,2,none⟩=some (.int .i64 (R.qw:Nat))/\w'.cell? ⟨w.heap.size,0,none⟩=some (.int .i64 (x:Nat))/\w'.cell? ⟨w.heap.size,1,none⟩=some (.int .i64 (y:Nat))/\w'.cell? ⟨w.heap.size,2,none⟩=some (.int .i64 (z:Nat))) (first|(exact⟨h40,hc4,h42,hb40,hb41,hb42⟩)|go_keep|(go_simp;done)) (first|(go_at_call 163;refine(HADD.out _ (by exact(by go_grown))).mono ?_;rintro e w4 ⟨rfl,hT4,hM4⟩;have hBw:Below w.heap.size w _:=(show Below w.heap.size w (w.alloc (.cells #[.int .i64 (x:Nat),.int .i64 (y:Nat),.int .i64 (z:Nat)] 165)).drew from(by go_grown));have hR4:=HST.out _ _ _ _ hBw hT4 hM4;obtain⟨h4l,h4f,h40,h41,h42,h43,h44,h45,h46,h47⟩:=hR4.at;rw[HRV.out] at h40;rw[HFV.out] at h47;have hrb4:=(hrb.drew).mod hM4 (zd3 (by decide) _);have hb40:=hrb4.rules.1 0;have hb41:=hrb4.rules.1 1;have hb42:=hrb4.rules.1 2;simp only[ubt,ubc,ubn] at hb40 hb41 hb42;obtain⟨g',cap',hrv',hg',hc4⟩:=hR4.trie p (by simpa using hp1) hp3;rw[HRV.out] at hrv';simp only[Value.slice.injEq,uab,Addr.mk.injEq,and_true] at hrv';have hgg:=hrv'.1;clear hrv';subst hgg))
 have hM04:Mod lo (zm3 p) w own w4 _:=(Mod.of own hBw).trans (hM4.more fun _ _ q=>Or.inl q)
 have HR4:Hid (zdc lo w4 (ext own (w.alloc (.cells #[.int .i64 (x:Nat),.int .i64 (y:Nat),.int .i64 (z:Nat)] 165)).drew.heap.size (0,p,0)) rb { R with rows:=R.rows.set p T' } wd mr mx Q):=hR4
 have HM04:Hid (Mod lo (zm3 p) w own w4 (ext own (w.alloc (.cells #[.int .i64 (x:Nat),.int .i64 (y:Nat),.int .i64 (z:Nat)] 165)).drew.heap.size (0,p,0))):=hM04
 clear hR4 hM04 hT4 hM4 HT HADD HST hc h0 h2 h7 hcf hl hf hrb hBw HRV
 generalize ext own (w.alloc (.cells #[.int .i64 (x:Nat),.int .i64 (y:Nat),.int .i64 (z:Nat)] 165)).drew.heap.size (0,p,0)=own4 at *
 cases added with
 |false =>
  have hcase:=HCASE.out
  simp only[ubr,false_and,or_false,true_and] at hcase
  obtain⟨rfl,rfl⟩:=hcase
  go_wp2
  go_ret
  exact⟨rfl,own4,Q.fvs,HR4.out,HM04.out⟩
 |true =>
  have hcase:=HCASE.out
  simp only[Bool.true_eq_false,false_and,false_or,true_and] at hcase
  have HRE:Hid (R'={ R with rows:=R.rows.set p T',qo:=R.qo.set p (R.qo[p]++[[x,y,z]]),count:=R.count+1 }):=hcase.1
  have HBE:Hid (b=decide (R.count+1<=mr)):=hcase.2
  clear hcase HCASE
  obtain⟨gf',capf',hfv',hgf',hcf'⟩:=HR4.out.frow p hp2 hp4
  rw[HFV.out] at hfv'
  simp only[Value.slice.injEq,uab,Addr.mk.injEq,and_true] at hfv'
  have hgg:=hfv'.1
  clear hfv'
  subst hgg
  have hown:=(HR4.out.jk p hp2 hp4).1.1
  obtain⟨aow,capw,hwv⟩:=zac hown
  rw[hwv] at hcf'
  have HWV:Hid (Q.fvs[p]=.slice aow R.qo[p].length capw):=hwv
  rw[hwv] at hown
  clear hwv
  have HRL:Hid (∀ r∈R.qo[p],r.length=3):=(HR4.out.jk p hp2 hp4).1.2
  have hz4:=HM04.out.size
  have hrbl:=hrb4.lt
  have HRB4:Hid (Box w4 w.heap.size #[.int .i64 (x:Nat),.int .i64 (y:Nat),.int .i64 (z:Nat)] 165):=hrb4
  generalize hfrl:R.qo[p].length=fl at *
  have HFRL:Hid (R.qo[p].length=fl):=hfrl
  clear hfrl hrb4 h43 h44 h46 hc4
  go_wp2
  refine wp_region_noPanic ?_
  refine zo9 (S:=fun w'=>w'.cell? ⟨rb,7,none⟩=some (.slice (some ⟨gf,0,none⟩) R.qo.length capf)/\w'.cell? ⟨gf,p,none⟩=some (.slice aow fl capw)/\w'.cell? ⟨w.heap.size,0,none⟩=some (.int .i64 (x:Nat))/\w'.cell? ⟨w.heap.size,1,none⟩=some (.int .i64 (y:Nat))/\w'.cell? ⟨w.heap.size,2,none⟩=some (.int .i64 (z:Nat))) (d:=16) (by kernel_rfl) ⟨h47,hcf',hb40,hb41,hb42⟩ (fun hHeld=>?_)
  refine zan (i:=0) (v:=?v0) rfl (by kernel_rfl) (by kernel_rfl) (by kernel_rfl) (by kernel_rfl) (fun _ _ _ h=>h) (Or.inl ⟨by rfl,?hy0⟩) hHeld ?rest0
  case hy0 =>
   intro wq hSw
   go_simp
   (try with_reducible rfl)
  refine zan (i:=1) (v:=?v1) rfl (by kernel_rfl) (by kernel_rfl) (by kernel_rfl) (by kernel_rfl) (fun _ _ _ h=>h) (Or.inl ⟨by rfl,?hy1⟩) hHeld ?rest1
  case hy1 =>
   intro wq hSw
   go_simp
   (try with_reducible rfl)
  refine zan (i:=2) (v:=?v2) rfl (by kernel_rfl) (by kernel_rfl) (by kernel_rfl) (by kernel_rfl) (fun _ _ _ h=>h) (Or.inl ⟨by rfl,?hy2⟩) hHeld ?rest2
  case hy2 =>
   intro wq hSw
   go_simp
   (try with_reducible rfl)
  refine zan (i:=3) (v:=?v3) rfl (by kernel_rfl) (by kernel_rfl) (by kernel_rfl) (by kernel_rfl) (fun _ _ _ h=>h) (Or.inl ⟨by rfl,?hy3⟩) hHeld ?rest3
  case hy3 =>
   intro wq hSw
   go_simp
   (try with_reducible rfl)
  refine zan (i:=4) (v:=?v4) rfl (by kernel_rfl) (by kernel_rfl) (by kernel_rfl) (by kernel_rfl) (fun _ _ _ h=>h) (Or.inl ⟨by rfl,?hy4⟩) hHeld ?rest4
  case hy4 =>
   intro wq hSw
   go_simp
   (try with_reducible rfl)
  refine zan (i:=5) (v:=?v5) rfl (by kernel_rfl) (by kernel_rfl) (by kernel_rfl) (by kernel_rfl) (fun _ _ _ h=>h) (Or.inl ⟨by rfl,?hy5⟩) hHeld ?rest5
  case hy5 =>
   intro wq hSw
   go_simp
   (try with_reducible rfl)
  refine zan (i:=6) (v:=?v6) rfl (by kernel_rfl) (by kernel_rfl) (by kernel_rfl) (by kernel_rfl) (fun _ _ _ h=>h) (Or.inl ⟨by rfl,?hy6⟩) hHeld ?rest6
  case hy6 =>
   intro wq hSw
   go_simp
   (try with_reducible rfl)
  refine zan (i:=7) (v:=?v7) rfl (by kernel_rfl) (by kernel_rfl) (by kernel_rfl) (by kernel_rfl) (fun _ _ _ h=>h) (Or.inl ⟨by rfl,?hy7⟩) hHeld ?rest7
  case hy7 =>
   intro wq hSw
   go_simp
   (try with_reducible rfl)
  refine zan (i:=8) (v:=?v8) rfl (by kernel_rfl) (by kernel_rfl) (by kernel_rfl) (by kernel_rfl) (fun _ _ _ h=>h) (Or.inl ⟨by rfl,?hy8⟩) hHeld ?rest8
  case hy8 =>
   intro wq hSw
   go_simp
   (try with_reducible rfl)
  refine zan (i:=9) (v:=?v9) rfl (by kernel_rfl) (by kernel_rfl) (by kernel_rfl) (by kernel_rfl) (fun _ _ _ h=>h) (Or.inl ⟨by rfl,?hy9⟩) hHeld ?rest9
  case hy9 =>
   intro wq hSw
   go_simp
   (try with_reducible rfl)
  refine zan (i:=10) (v:=?v10) rfl (by kernel_rfl) (by kernel_rfl) (by kernel_rfl) (by kernel_rfl) (fun _ _ _ h=>h) (Or.inl ⟨by rfl,?hy10⟩) hHeld ?rest10
  case hy10 =>
   intro wq hSw
   go_simp
   (try with_reducible rfl)
  refine zan (i:=11) (v:=?v11) rfl (by kernel_rfl) (by kernel_rfl) (by kernel_rfl) (by kernel_rfl) (fun _ _ _ h=>h) (Or.inl ⟨by rfl,?hy11⟩) hHeld ?rest11
  case hy11 =>
   intro wq hSw
   go_simp
   (try with_reducible rfl)
  refine zan (i:=12) (v:=?v12) rfl (by kernel_rfl) (by kernel_rfl) (by kernel_rfl) (by kernel_rfl) (fun _ _ _ h=>h) (Or.inl ⟨by rfl,?hy12⟩) hHeld ?rest12
  case hy12 =>
   intro wq hSw
   go_simp
   (try with_reducible rfl)
  refine zc8 (i:=13) (by kernel_rfl) rfl (fun K hK=>?_)
  go_simp
  have hBa:Below w4.heap.size w4 (w4.alloc (.cells #[.int .i64 (x:Nat),.int .i64 (y:Nat),.int .i64 (z:Nat)] 165)).drew:=(by go_grown)
  refine hK.out _ _ (fun _=>⟨(Below.cell (p:=⟨rb,7,none⟩) hBa (show rb < w4.heap.size by omega)).trans h47,(Below.cell (p:=⟨gf,p,none⟩) hBa (show gf < w4.heap.size by omega)).trans hcf',(Below.cell (p:=⟨w.heap.size,0,none⟩) hBa (show w.heap.size < w4.heap.size by omega)).trans hb40,(Below.cell (p:=⟨w.heap.size,1,none⟩) hBa (show w.heap.size < w4.heap.size by omega)).trans hb41,(Below.cell (p:=⟨w.heap.size,2,none⟩) hBa (show w.heap.size < w4.heap.size by omega)).trans hb42⟩) ?_
  clear hK K hHeld
  refine zc8 (i:=14) (by kernel_rfl) rfl (fun K hK=>?_)
  refine zfz w4 _ [.int .i64 (x:Nat),.int .i64 (y:Nat),.int .i64 (z:Nat)] 165 rfl (.tmp 57) (.tmp 59) 161 rfl lo 165 i0 _ 3 24 Tryz.underlying161 hi hz0 hzs hzb rfl (by decide) (.slice aow fl capw) fl (zda R.qo[p]) (by simp[Act.eval]) hown (by exact hBa) w4.heap.size 1 (by simp[Act.eval]) (by exact Box.drew (Box.new _ _ _)) rfl (by simp[Value.oneCell']) (by omega) (by omega) (by omega) ?_
  intro v' w3 ho3 hS3 hat3 hk3 hz3'
  obtain⟨aov,capv,rfl⟩:=zac ho3
  have hMr:OfT w4 165 (Value.ownBlock (.slice aow fl capw)).toList:=OfT.own hown
  have hbx3:=HR4.out.box.saveT hS3 hMr (by decide)
  have h37:=hbx3.rules.1 7
  simp only[ubt,ubc,ubn] at h37
  rw[HFV.out] at h37
  have hfr3:=zaj HR4.out.qo hS3 hMr (by decide)
  rw[HFV.out] at hfr3
  have hcf3:w3.cell? ⟨gf,p,none⟩=some (.slice aow fl capw):=by
   obtain⟨g'',cap'',hv'',_,_,hcl''⟩:=zal hfr3 (show 0 < R.qo.length by omega)
   simp only[Value.slice.injEq,uab,Addr.mk.injEq,and_true] at hv''
   have e:=hv''.1
   subst e
   have:=hcl'' p Q.fvs[p] (by simp[hp4])
   rw[HWV.out] at this
   exact this
  have hgf3:=zbt hfr3
  have hrb3:=HRB4.out.save hS3 (fun hm=>by
   have:=HLT.out w.heap.size (by rw[HWV.out];exact zcy hm)
   omega)
  have hb30:=hrb3.rules.1 0
  have hb31:=hrb3.rules.1 1
  have hb32:=hrb3.rules.1 2
  simp only[ubt,ubc,ubn] at hb30 hb31 hb32
  have hHeld3:w3.cell? ⟨rb,7,none⟩=some (.slice (some ⟨gf,0,none⟩) R.qo.length capf)/\w3.cell? ⟨gf,p,none⟩=some (.slice aow fl capw)/\w3.cell? ⟨w.heap.size,0,none⟩=some (.int .i64 (x:Nat))/\w3.cell? ⟨w.heap.size,1,none⟩=some (.int .i64 (y:Nat))/\w3.cell? ⟨w.heap.size,2,none⟩=some (.int .i64 (z:Nat)):=⟨h37,hcf3,hb30,hb31,hb32⟩
  refine hK.out _ _ (fun _=>hHeld3) ?_
  clear hK K
  refine zan (i:=15) (v:=?v15) rfl (by kernel_rfl) (by kernel_rfl) (by kernel_rfl) (by kernel_rfl) (fun _ _ _ h=>h) (Or.inl ⟨by rfl,?hy15⟩) hHeld3 ?rest15
  case hy15 =>
   intro wq hSw
   go_simp
   (try with_reducible rfl)
  refine zc8 (i:=16) (by kernel_rfl) rfl (fun K hK=>?_)
  go_simp
  refine hK.out _ _ (fun hq=>absurd rfl hq) ?_
  clear hK K
  refine zkp (by kernel_rfl) ?_ _
  refine NoPanic.normal ?_
  have hP:=zdc.pushFresh (v':=.slice aov (fl+1) capv) (rs:=R.qo[p]++[[x,y,z]]) HR4.out hp2 hp4 HFV.out (by rw[HWV.out];exact hS3) ⟨by rw[uar,HFRL.out];simpa [zda,ivN] using ho3,fun r hr=>by rcases uao.1 hr with q|q;exact HRL.out r q;simp at q;subst q;rfl⟩ (by rw[HWV.out];exact hat3)
  obtain⟨hR5,hM5⟩:=hP
  have HR5:Hid (zdc lo (w3.setCell ⟨gf,p,none⟩ (.slice aov (fl+1) capv)) (ext own4 w4.heap.size (0,p,1)) rb { R with rows:=R.rows.set p T',qo:=R.qo.set p (R.qo[p]++[[x,y,z]]) } wd mr mx ⟨Q.rv,Q.tbs,Q.fv,Q.fvs.set p (.slice aov (fl+1) capv)⟩):=hR5
  have HM5:Hid (Mod lo (zm3 p) w own (w3.setCell ⟨gf,p,none⟩ (.slice aov (fl+1) capv)) (ext own4 w4.heap.size (0,p,1))):=HM04.out.trans hM5
  clear hR5 hM5 hHeld3 h37 hcf3 hgf3 hb30 hb31 hb32 hbx3 hfr3 hrb3 h40 h41 h42 h45 h47 hb40 hb41 hb42 hcf' h4l h4f HR4 HRB4 hown ho3 hS3 hat3 hk3
  generalize ext own4 w4.heap.size (0,p,1)=own5 at *
  generalize w3.setCell ⟨gf,p,none⟩ (.slice aov (fl+1) capv)=w5 at *
  obtain⟨h5l,h5f,h50,h51,h52,h53,h54,h55,h56,h57⟩:=HR5.out.at
  simp only at h51 h55
  clear h50 h52 h53 h54 h56 h57
  have hbx6:=HR5.out.box.set 1 (.int .i64 ((R.count:Int)+1))
  have hs6:zas [rb] w5 (w5.setCell ⟨rb,1,none⟩ (.int .i64 ((R.count:Int)+1))):=zas.set _ _ _ _
  have hM6:Mod lo (zm3 p) w5 own5 (w5.setCell ⟨rb,1,none⟩ (.int .i64 ((R.count:Int)+1))) own5:=Mod.set own5 HR5.out.box HR5.out.low (Or.inr (Or.inl rfl)) _ _
  have hR6:=HR5.out.rebox (R':={ R with rows:=R.rows.set p T',qo:=R.qo.set p (R.qo[p]++[[x,y,z]]),count:=R.count+1 }) hs6 (by simpa using hbx6) rfl rfl ⟨by show R.count+1<=1048577;omega,HR5.out.few.2.2.2⟩
  rw[← HRE.out] at hR6
  have HR6:Hid (zdc lo (w5.setCell ⟨rb,1,none⟩ (.int .i64 ((R.count:Int)+1))) own5 rb R' wd mr mx ⟨Q.rv,Q.tbs,Q.fv,Q.fvs.set p (.slice aov (fl+1) capv)⟩):=hR6
  have HM6:Hid (Mod lo (zm3 p) w own (w5.setCell ⟨rb,1,none⟩ (.int .i64 ((R.count:Int)+1))) own5):=HM5.out.trans hM6
  clear hR6 hM6 hbx6 hs6
  go_upto_region 8 with fail
  generalize w5.setCell ⟨rb,1,none⟩ (.int .i64 ((R.count:Int)+1))=w6 at *
  obtain⟨h6l,h6f,h60,h61,h62,h63,h64,h65,h66,h67⟩:=HR6.out.at
  rw[HRE.out] at h61
  simp only at h61
  have hcc:((R.count+1:Nat):Int)=(R.count:Int)+1:=by omega
  rw[hcc] at h61
  clear h60 h62 h63 h64 h66 h67 h51 h55 h5l h5f hcc
  go_quiet (fail)
  go_wp2
  go_ret
  have hbe:decide ((R.count:Int)+1<=(mr:Int))=b:=by rw[HBE.out];exact decide_eq_decide.2 (by omega)
  exact⟨by rw[← hbe];rfl,own5,_,HR6.out.below (zau (Below.refl _ _) _),HM6.out.trans (Mod.of own5 (zau (Below.refl _ _) _))⟩
end Go.Proofs.YteampbddflhngaaGreat
