import Derived.Test.YteampbddflhngaaGreatB21
import Derived.Test.YteampbddflhngaaGreatB01
import Derived.Deep.RegionHeld3

namespace Go.Proofs.YteampbddflhngaaGreat
set_option maxRecDepth 100000
set_option maxHeartbeats 2000000
open Go.RowKit
variable {lo:Nat}
structure RParts where
  rv:Value
  tbs:List Nat
  fv:Value
  fvs:List Value
def pts (tbs:List Nat):List Value:=tbs.map pt
structure RunO (lo:Nat) (w:World) (own:Nat->Role) (rb:Nat) (R:PRun) (wd mr mx:Nat) (Q:RParts):Prop where
  low:lo<=rb
  box:Box w rb #[Q.rv,.int .i64 (R.count:Nat),.int .i64 (R.rounds:Nat),.int .i64 R.moves,.int .i64 (wd:Nat),.int .i64 (mr:Nat),.int .i64 (mx:Nat),Q.fv] 214
  rows:w.ownsRow lo 162 1 Q.rv R.rows.length (pts Q.tbs)
  tlen:Q.tbs.length=R.rows.length
  tries:∀ p (_:p < R.rows.length) (_:p < Q.tbs.length),TrieO lo w own (0,p,0) Q.tbs[p] R.rows[p]
  fresh:w.ownsRow lo 161 1 Q.fv R.fresh.length Q.fvs
  flen:Q.fvs.length=R.fresh.length
  frows:∀ p (_:p < R.fresh.length) (_:p < Q.fvs.length),RowsIn lo w Q.fvs[p] R.fresh[p]/\∀ b,Q.fvs[p].ownBlock=some b->own b=(0,p,1)
  few:R.rows.length<=1000/\R.fresh.length<=1000/\R.count<=1048577/\R.rounds<=1048576
  small:wd<=1000/\mr<=1048576/\mx<=1048576
theorem RowsIn.modR {b0:Nat} {ok:TypeId->Role->Prop} {w w':World} {own own':Nat->Role} {v:Value} {rows:List PRow} (h:RowsIn b0 w v rows) (p:Mod lo ok w own w' own') (ht:∀ b,v.ownBlock=some b->¬ ok 165 (own b)):RowsIn b0 w' v rows:=⟨ownModR h.1 p ht,h.2⟩
theorem RunO.mod {ok:TypeId->Role->Prop} {w w':World} {own own':Nat->Role} {rb:Nat} {R:PRun} {wd mr mx:Nat} {Q:RParts} (h:RunO lo w own rb R wd mr mx Q) (p:Mod lo ok w own w' own') (h1:∀ ρ,¬ ok 214 ρ) (h2:∀ ρ,¬ ok 162 ρ) (h3:∀ ρ,¬ ok 161 ρ) (h4:∀ q,¬ ok 165 (0,q,1)) (h5:∀ q t,¬ NoT t->¬ ok t (0,q,0)):RunO lo w' own' rb R wd mr mx Q:=by
  refine ⟨h.low,h.box.mod p (h1 _),ownMod h.rows p h2,h.tlen,fun q a b=>(h.tries q a b).mod p (h5 q),ownMod h.fresh p h3,h.flen,fun q a b=>⟨(h.frows q a b).1.modR p fun x hx=>by rw [(h.frows q a b).2 x hx];exact h4 q,fun x hx=>?_⟩,h.few,h.small⟩
  rw [p.old x (own_lt (h.frows q a b).1.1 hx)]
  exact (h.frows q a b).2 x hx
theorem RunO.below {w w':World} {own:Nat->Role} {rb:Nat} {R:PRun} {wd mr mx:Nat} {Q:RParts} (h:RunO lo w own rb R wd mr mx Q) (hb:Below w.heap.size w w'):RunO lo w' own rb R wd mr mx Q:=h.mod (Mod.of (ok:=fun _ _=>False) own hb) (fun _=>id) (fun _=>id) (fun _=>id) (fun _=>id) (fun _ _ _=>id)
theorem RunO.at {w:World} {own:Nat->Role} {rb:Nat} {R:PRun} {wd mr mx:Nat} {Q:RParts} (h:RunO lo w own rb R wd mr mx Q):rb < w.heap.size/\(∀ o,w.frozen? ⟨rb,o,none⟩=false)/\w.cell? ⟨rb,0,none⟩=some Q.rv/\w.cell? ⟨rb,1,none⟩=some (.int .i64 (R.count:Nat))/\w.cell? ⟨rb,2,none⟩=some (.int .i64 (R.rounds:Nat))/\w.cell? ⟨rb,3,none⟩=some (.int .i64 R.moves)/\w.cell? ⟨rb,4,none⟩=some (.int .i64 (wd:Nat))/\w.cell? ⟨rb,5,none⟩=some (.int .i64 (mr:Nat))/\w.cell? ⟨rb,6,none⟩=some (.int .i64 (mx:Nat))/\w.cell? ⟨rb,7,none⟩=some Q.fv:=by
  obtain ⟨hc,hf⟩:=h.box.rules
  exact ⟨h.box.lt,hf,hc 0,hc 1,hc 2,hc 3,hc 4,hc 5,hc 6,hc 7⟩
theorem RunO.trie {w:World} {own:Nat->Role} {rb:Nat} {R:PRun} {wd mr mx:Nat} {Q:RParts} (h:RunO lo w own rb R wd mr mx Q) (p:Nat) (hp:p < R.rows.length) (hp2:p < Q.tbs.length):∃ g cap,Q.rv=.slice (some ⟨g,0,none⟩) R.rows.length cap/\g < w.heap.size/\w.cell? ⟨g,p,none⟩=some (.pointer (some ⟨Q.tbs[p],0,none⟩)):=by
  obtain ⟨g,cap,hv,_,hg,hc⟩:=own_cells h.rows (by omega)
  exact ⟨g,cap,hv,hg,hc p _ (by simp [pts,hp2,pt])⟩
theorem RunO.frow {w:World} {own:Nat->Role} {rb:Nat} {R:PRun} {wd mr mx:Nat} {Q:RParts} (h:RunO lo w own rb R wd mr mx Q) (p:Nat) (hp:p < R.fresh.length) (hp2:p < Q.fvs.length):∃ g cap,Q.fv=.slice (some ⟨g,0,none⟩) R.fresh.length cap/\g < w.heap.size/\w.cell? ⟨g,p,none⟩=some Q.fvs[p]:=by
  obtain ⟨g,cap,hv,_,hg,hc⟩:=own_cells h.fresh (by omega)
  exact ⟨g,cap,hv,hg,hc p _ (by simp [hp2])⟩
theorem Tryz.infoRows:(Tryz.prog.info? 161).map (fun i=>(i.zero,i.size,i.bytes))=some (some (.slice none 0 0),1,24):=by kernel_rfl
theorem own_madeV (w:World) (n:Nat) (T:TypeId) (z:Value) (hn:n<=maxLen):(w.alloc (.cells (madeCells #[z] n) T)).ownsRow w.heap.size T 1 (.slice (some ⟨w.heap.size,0,none⟩) n n) n (List.replicate n z):=by
  refine ⟨by simp,Or.inr ⟨w.heap.size,n,madeCells #[z] n,rfl,Nat.le_refl _,?_,Nat.le_refl _,hn,by rw [size_madeCells];omega,?_⟩⟩
  · show (w.heap.push _)[w.heap.size]?=_
    simp
  · apply List.ext_getElem?
    intro i
    by_cases hi:i < n
    · simp [hi,madeCells,Nat.mod_one]
    · simp [List.getElem?_take,hi]
def ClearPost (lo:Nat) (w:World) (own:Nat->Role) (rb:Nat) (R:PRun) (wd mr mx:Nat) (Q:RParts) (e:Ending) (w':World):Prop:=e=.returned (.tuple #[])/\∃ fv fvs,RunO lo w' own rb (clearR R) wd mr mx ⟨Q.rv,Q.tbs,fv,fvs⟩/\Mod lo (ofTypes [214]) w own w' own
theorem clear_any (w:World) (own:Nat->Role) (rb:Nat) (R:PRun) (wd mr mx:Nat) (Q:RParts) (h:RunO lo w own rb R wd mr mx Q) (hlo:lo<=w.heap.size) :
    Calls Tryz.prog 120 #[.pointer (some ⟨rb,0,none⟩)] w fun e w'=>ClearPost lo w own rb R wd mr mx Q e w':=by
  obtain ⟨i0,hi,hz0,hzs,hzb⟩:=info_parts Tryz.infoRows
  obtain ⟨hl,hf,h0,h1,h2,h3,h4,h5,h6,h7⟩:=h.at
  obtain ⟨aor,capr,hrv⟩:=own_view h.rows
  rw [hrv] at h0
  have hfew:=h.few.1
  have H:Hid (RunO lo w own rb R wd mr mx Q):=h
  have hmk:=fun W:World=>run_make (P:=Tryz.prog) (w:=W) 212 161 i0 _ Tryz.underlying212 hi hz0 .i64 .i64 (R.rows.length:Int) (R.rows.length:Int) (by omega) (Int.le_refl _) (by rw [hzb];omega) (by omega)
  rw [hzs] at hmk
  clear h hrv
  generalize hn:R.rows.length=n at *
  have HN:Hid (R.rows.length=n):=hn
  clear hn
  go_enter Tryz.func120,Tryz.ntmps120
  go_wp2
  refine bodyPost_ret (results_none rfl _ _ _) rfl ⟨rfl,.slice (some ⟨w.heap.size,0,none⟩) n n,List.replicate n (.slice none 0 0),?_,?_⟩
  · have hs1:Save [rb] w (w.setCell ⟨rb,7,none⟩ (.slice (some ⟨w.heap.size,0,none⟩) n n)):=Save.set _ _ _ _
    have hM:=OfT.box H.out.box
    have hz1:(w.setCell ⟨rb,7,none⟩ (.slice (some ⟨w.heap.size,0,none⟩) n n)).heap.size=w.heap.size:=by simp [World.setCell]
    have hbx:=H.out.box.set 7 (.slice (some ⟨w.heap.size,0,none⟩) n n)
    have hrows:=own_saveT H.out.rows hs1 hM (by decide)
    have htr:=fun q a b=>(H.out.tries q a b).saveT hs1 hM (by decide)
    have hnew:=own_madeV (w.setCell ⟨rb,7,none⟩ (.slice (some ⟨w.heap.size,0,none⟩) n n)) n 161 (.slice none 0 0) (by unfold maxLen;omega)
    rw [hz1] at hnew
    have hgr:Below (w.setCell ⟨rb,7,none⟩ (.slice (some ⟨w.heap.size,0,none⟩) n n)).heap.size (w.setCell ⟨rb,7,none⟩ (.slice (some ⟨w.heap.size,0,none⟩) n n)) ((w.setCell ⟨rb,7,none⟩ (.slice (some ⟨w.heap.size,0,none⟩) n n)).alloc (.cells (madeCells #[.slice none 0 0] n) 161)):=(by repeat' (first | with_reducible (first | exact Below.refl _ _ | assumption | refine bdrewN ?_ _ | refine Below.alloc ?_ ?_ _ | refine Below.drew ?_ | refine Below.setCell ?_ ?_ _) | go_size))
    have hfl:(clearR R).fresh=List.replicate n []:=by rw [clearR,HN.out]
    have hfl2:(clearR R).fresh.length=n:=by rw [hfl,List.length_replicate]
    refine ⟨H.out.low,by simpa [clearR] using hbx.below hgr,owns_below hrows hgr,H.out.tlen,fun q a b=>(htr q a b).below hgr,by rw [hfl2];exact own_low hnew hlo,by rw [hfl2];simp,fun q a b=>?_,⟨H.out.few.1,by rw [hfl2];exact hfew,H.out.few.2.2⟩,H.out.small⟩
    have hq:q < n:=by rw [hfl2] at a;exact a
    simp only [hfl,List.getElem_replicate]
    exact ⟨⟨World.ownsRow_nil _ _ _ _,by simp⟩,fun x hx=>by cases hx⟩
  · have hz1:(w.setCell ⟨rb,7,none⟩ (.slice (some ⟨w.heap.size,0,none⟩) n n)).heap.size=w.heap.size:=by simp [World.setCell]
    exact (Mod.set own H.out.box H.out.low (show ofTypes [214] 214 (own rb) from List.mem_singleton.2 rfl) 7 _).trans (Mod.of own (by repeat' (first | with_reducible (first | exact Below.refl _ _ | assumption | refine bdrewN ?_ _ | refine Below.alloc ?_ ?_ _ | refine Below.drew ?_ | refine Below.setCell ?_ ?_ _) | go_size)))
theorem rowsOf_any (w:World) (own:Nat->Role) (rb:Nat) (R:PRun) (wd mr mx:Nat) (Q:RParts) (p:Nat) (h:RunO lo w own rb R wd mr mx Q) (hp:p < R.rows.length) (hp2:p < Q.tbs.length) :
    Calls Tryz.prog 205 #[.pointer (some ⟨rb,0,none⟩),.int .i64 p] w fun e w'=>e=.returned (.pointer (some ⟨Q.tbs[p],0,none⟩))/\w'=w:=by
  obtain ⟨hl,hf,h0,h1,h2,h3,h4,h5,h6,h7⟩:=h.at
  obtain ⟨g,cap,hrv,hg,hc⟩:=h.trie p hp hp2
  rw [hrv] at h0
  have hpp:(p:Int) < (R.rows.length:Int):=by omega
  have hfew:=h.few.1
  clear h hrv h1 h2 h3 h4 h5 h6 h7
  generalize Q.tbs[p]=tb at *
  go_enter Tryz.func205,Tryz.ntmps205
  go_wp2
  go_ret
  exact ⟨rfl,rfl⟩
end Go.Proofs.YteampbddflhngaaGreat

namespace Go.Proofs.YteampbddflhngaaGreat
section
variable {P:Program} {ops:Array Oper} {Q:Exit->Act->World->Prop} {md:Region.Mode} {S:World->Prop}
def wpAnyG (P:Program) (md:Region.Mode) (ops:Array Oper) (Q:Exit->Act->World->Prop) (S:World->Prop) (d:Nat):Nat->Array Bool->Act->World->Prop
  | 0,listed,a,w=>Region.ready md ops listed=[]/\Q .normal a w
  | fuel+1,listed,a,w =>
    (Region.ready md ops listed=[]->Q .normal a w) ∧
    ∀ i∈Region.ready md ops listed,wpOp P ops Q i (fun a' w'=>(i≠d->S w')/\wpAnyG P md ops Q S d fuel (listed.setIfInBounds i true) a' w') a w
theorem wpAny_of_G {d:Nat}:∀ (fuel:Nat) (listed:Array Bool) (a:Act) (w:World),wpAnyG P md ops Q S d fuel listed a w->wpAny P md ops Q fuel listed a w
  | 0,_,_,_,h=>h
  | fuel+1,_,_,_,h=>⟨h.1,fun i hi=>wpOp_mono (fun a' w' h'=>wpAny_of_G fuel _ a' w' h'.2) (h.2 i hi)⟩
def waitsFor (md:Region.Mode) (ops:Array Oper) (d i:Nat):Bool:=match ops[d]? with
  | none=>false
  | some o=>o.after.toList.any fun e=>Region.binds md e && e.on == i
theorem waits_spec {d i:Nat} (h:waitsFor md ops d i=true):∃ o,ops[d]?=some o/\∃ e∈o.after,Region.binds md e=true/\e.on=i:=by
  unfold waitsFor at h
  split at h
  · cases h
  · rename_i o ho
    obtain ⟨e,he,hb⟩:=List.any_eq_true.1 h
    simp only [Bool.and_eq_true,beq_iff_eq] at hb
    exact ⟨o,ho,e,by simpa using he,hb⟩
theorem wpAnyG_first {d i:Nat} {oi:Oper} {v:Value} (hi:ops[i]?=some oi) (hsel:∀ (j:Nat) (o:Oper) cs b,ops[j]?=some o->o.op≠.select cs b)
    (hQ:∀ c a w,Q (.panic c) (a.put oi.dst v) w->Q (.panic c) a w) (hd:waitsFor md ops d i=true) :
    ∀ (fuel:Nat) (listed:Array Bool) (a:Act) (w:World),
      (∀ j oj,ops[j]?=some oj->j≠i->listed.getD j true=false->(∀ e∈oj.after,Region.binds md e=true->e.on≠i)->oi.apart ops oj=true) →
      i∈Region.ready md ops listed->YieldsIf P ops S oi v a->S w →
      wpAnyG P md ops Q S d fuel (listed.setIfInBounds i true) (a.put oi.dst v) w->wpAnyG P md ops Q S d (fuel+1) listed a w:=by
  intro fuel
  induction fuel with
  | zero =>
    intro listed a w _ hr hy hS H
    refine ⟨fun h=>(by rw [h] at hr;cases hr),fun j hj=>?_⟩
    by_cases hji:j=i
    · subst hji;exact hy.wpOp hi hS ⟨fun _=>hS,H⟩
    · have:=ready_mono hj hji
      rw [H.1] at this
      cases this
  | succ fuel ih =>
    intro listed a w hfree hr hy hS H
    refine ⟨fun h=>(by rw [h] at hr;cases hr),fun j hj=>?_⟩
    by_cases hji:j=i
    · subst hji;exact hy.wpOp hi hS ⟨fun _=>hS,H⟩
    · have h1:=H.2 j (ready_mono hj hji)
      obtain ⟨hjun,oj,hoj,hall⟩:=mem_ready.1 hj
      have hnot:∀ e∈oj.after,Region.binds md e=true->e.on≠i:=fun e he hb heq=>by
        have h1:=hall e he hb
        have h0:=(mem_ready.1 hr).1
        rw [heq] at h1
        rcases Nat.lt_or_ge i listed.size with h' | h'
        · simp [h'] at h0 h1;rw [h0] at h1;cases h1
        · simp [Array.getElem?_eq_none h'] at h1
      have hjd:j≠d:=fun e=>by
        subst e
        obtain ⟨od,ho,e,he,hb,hon⟩:=waits_spec hd
        rw [hoj] at ho
        cases ho
        exact hnot e he hb hon
      have h2:=wpOp_putIf hoj (hfree j oj hoj hji hjun hnot) (fun cs b=>hsel i oi cs b hi) (fun cs b=>hsel j oj cs b hoj) hQ hy h1
      have hfree':∀ k ok,ops[k]?=some ok->k≠i->(listed.setIfInBounds j true).getD k true=false →
          (∀ e∈ok.after,Region.binds md e=true->e.on≠i)->oi.apart ops ok=true:=fun k ok hk hki hun hno=>by
        refine hfree k ok hk hki ?_ hno
        by_cases hjk:j=k
        · subst hjk;exact hjun
        · rw [getD_set_ne true hjk] at hun;exact hun
      refine wpOp_mono (fun a' w' h3=>⟨h3.2.1,ih (listed.setIfInBounds j true) a' w' hfree' (ready_mono hr (Ne.symm hji)) h3.1 (h3.2.1 hjd) ?_⟩) h2
      rw [Array.setIfInBounds_comm _ _ hji]
      exact h3.2.2
theorem wpAnyG_take {d i:Nat} {oi:Oper} {v:Value} {fuel:Nat} {listed:Array Bool} {a:Act} {w:World} (hi:ops[i]?=some oi)
    (hs:Region.noSelect ops=true) (hf:Region.free md ops listed i=true) (hr:(Region.ready md ops listed).contains i=true) (hd:waitsFor md ops d i=true)
    (hQ:∀ c a w,Q (.panic c) (a.put oi.dst v) w->Q (.panic c) a w) (hy:YieldsIf P ops S oi v a) (hS:S w)
    (h:wpAnyG P md ops Q S d fuel (listed.setIfInBounds i true) (a.put oi.dst v) w):wpAnyG P md ops Q S d (fuel+1) listed a w :=
  wpAnyG_first hi (Region.noSelect_spec hs) hQ hd fuel listed a w (Region.free_spec hi hf) (by simpa using hr) hy hS h
theorem wpAnyG_one {d i:Nat} {o:Oper} {fuel:Nat} {listed:Array Bool} {a:Act} {w:World} (hr:Region.ready md ops listed=[i]) (ho:ops[i]?=some o)
    (h:∀ K':Act->World->Prop,Shut (∀ a w,(i≠d->S w)->wpAnyG P md ops Q S d fuel (listed.setIfInBounds i true) a w->K' a w)->if Region.wanted o (yielded ops a.tmps)=true then Oper.wp P o a w K' Q else K' (a.put o.dst undef) w):wpAnyG P md ops Q S d (fuel+1) listed a w:=by
  refine ⟨fun h0=>(by rw [hr] at h0;cases h0),fun j hj=>?_⟩
  rw [hr] at hj
  obtain rfl:j=i:=by simpa using hj
  exact wpOp_step ho (fun K' hK=>h K' (fun a w hS hW=>hK a w ⟨hS,hW⟩))
theorem wpAnyG_done {d:Nat} {listed:Array Bool} {a:Act} {w:World} (hr:Region.ready md ops listed=[]) (h:Q .normal a w):∀ fuel,wpAnyG P md ops Q S d fuel listed a w
  | 0=>⟨hr,h⟩
  | _+1=>⟨fun _=>h,by rw [hr];simp⟩
theorem wpG_begin {d id:Nat} {a:Act} {w:World} (hm:P.follows .mixedOrders=true) (hS:S w.drew)
    (h:S w.drew->wpAnyG P .any ops Q S d ops.size (Array.replicate ops.size false) a w.drew):(Code.region id ops true).wp P Q a w :=
  wp_region_any hm (wpAny_of_G _ _ _ _ (h hS))
end
end Go.Proofs.YteampbddflhngaaGreat
