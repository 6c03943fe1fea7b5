import Derived.Test.YteampbddflhngaaGreatB41

namespace Go.Proofs.YteampbddflhngaaGreat
def varsL (l:PRLit) (d:Nat):List Nat:=(List.range d).filter (hasL l)
def projL (l:PRLit) (vals:List Nat) (d:Nat):PRow:=(varsL l d).map fun p=>vals.getD p 0
theorem varsL_succ (l:PRLit) (d:Nat):varsL l (d+1)=if hasL l d then varsL l d++[d] else varsL l d:=by
  unfold varsL
  rw [List.range_succ,List.filter_append]
  by_cases h:hasL l d <;> simp [h]
theorem varsL_mem (l:PRLit) (d p:Nat):p∈varsL l d↔p < d/\hasL l p=true:=by simp [varsL]
theorem varsL_le (l:PRLit) {a b:Nat} (h:a<=b):varsL l a <+: varsL l b:=by
  induction h with
  | refl=>exact List.prefix_rfl
  | step h ih =>
    rw [varsL_succ]
    split
    · exact ih.trans (List.prefix_append _ _)
    · exact ih
theorem levelL_eq (l:PRLit) (p:Nat):levelL l p=if hasL l p then some (varsL l p).length else none:=by
  unfold levelL varsL
  rw [List.countP_eq_length_filter]
theorem depthL_eq (l:PRLit):depthL l=(varsL l 5).length:=by
  unfold depthL varsL
  rw [List.countP_eq_length_filter]
theorem projL_len (l:PRLit) (vals:List Nat) (d:Nat):(projL l vals d).length=(varsL l d).length:=by simp [projL]
theorem projL_congr (l:PRLit) {x y:List Nat} {d:Nat} (h:∀ p,p < d->hasL l p=true->x.getD p 0=y.getD p 0):projL l x d=projL l y d:=by
  unfold projL
  refine List.map_congr_left fun p hp=>?_
  have:=(varsL_mem l d p).1 hp
  exact h p this.1 this.2
theorem projL_prefix (l:PRLit) (vals:List Nat) {a b:Nat} (h:a<=b):projL l vals a=(projL l vals b).take (varsL l a).length:=by
  obtain ⟨t,ht⟩:=varsL_le l h
  unfold projL
  rw [← ht]
  simp
theorem projL_succ (l:PRLit) (vals:List Nat) (d v:Nat) (hd:d < vals.length):projL l (vals.set d v) (d+1)=if hasL l d then projL l vals d++[v] else projL l vals d:=by
  have h0:(varsL l d).map (fun p=>(vals.set d v).getD p 0)=(varsL l d).map fun p=>vals.getD p 0:=by
    refine List.map_congr_left fun p hp=>?_
    have:=(varsL_mem l d p).1 hp
    rw [getD_set_nat,if_neg (by omega)]
  unfold projL
  rw [varsL_succ]
  split
  · rw [List.map_append,h0]
    simp [hd]
  · exact h0
theorem nodup_lenN:∀ {l1 l2:List Nat},l1.Nodup->(∀ x∈l1,x∈l2)->l1.length<=l2.length
  | [],l2,_,_=>by simp
  | a::l1,l2,hn,hs=>by
    have ha:=hs a (by simp)
    have h1:=nodup_lenN (l1:=l1) (l2:=l2.erase a) (List.nodup_cons.1 hn).2 (fun x hx=>by
      have hne:x≠a:=by rintro rfl;exact (List.nodup_cons.1 hn).1 hx
      exact (List.mem_erase_of_ne hne).2 (hs x (by simp [hx])))
    rw [List.length_erase_of_mem ha] at h1
    have:=List.length_pos_of_mem ha
    simp;omega
theorem hasL_iff (l:PRLit) (p:Nat):hasL l p=true↔∃ t∈l.terms,t.var=true/\t.num=p:=by
  unfold hasL
  rw [List.any_eq_true]
  constructor
  · rintro ⟨t,h1,h2⟩
    simp only [Bool.and_eq_true,beq_iff_eq] at h2
    exact ⟨t,h1,h2.1,h2.2⟩
  · rintro ⟨t,h1,h2,h3⟩
    exact ⟨t,h1,by simp [h2,h3]⟩
theorem varsL_terms (l:PRLit) (d:Nat):(varsL l d).length<=l.terms.length:=by
  have:=nodup_lenN (l1:=varsL l d) (l2:=l.terms.map (·.num)) (List.nodup_range.filter _) (fun p hp=>by
    obtain ⟨t,h1,_,h3⟩:=(hasL_iff l p).1 ((varsL_mem l d p).1 hp).2
    exact List.mem_map.2 ⟨t,h1,h3⟩)
  simpa using this
theorem lastF_ge (known:Int):∀ (ts:List PTerm) (k:Int),k<=ts.foldl (fun k t=>if t.var && decide ((t.num:Int) < known) && decide ((t.num:Int) > k) then (t.num:Int) else k) k/\(∀ t∈ts,t.var=true->(t.num:Int) < known->(t.num:Int)<=ts.foldl (fun k t=>if t.var && decide ((t.num:Int) < known) && decide ((t.num:Int) > k) then (t.num:Int) else k) k)/\(k < known->ts.foldl (fun k t=>if t.var && decide ((t.num:Int) < known) && decide ((t.num:Int) > k) then (t.num:Int) else k) k < known)
  | [],k=>⟨Int.le_refl _,fun t h=>(by cases h),fun h=>h⟩
  | t::ts,k=>by
    simp only [List.foldl_cons]
    by_cases hc:(t.var && decide ((t.num:Int) < known) && decide ((t.num:Int) > k))=true
    · rw [if_pos hc]
      simp only [Bool.and_eq_true,decide_eq_true_eq] at hc
      obtain ⟨i1,i2,i3⟩:=lastF_ge known ts (t.num:Int)
      refine ⟨by omega,fun u hu hv hk=>?_,fun _=>i3 (by omega)⟩
      rcases List.mem_cons.1 hu with rfl | hu
      · exact i1
      · exact i2 u hu hv hk
    · rw [if_neg hc]
      obtain ⟨i1,i2,i3⟩:=lastF_ge known ts k
      refine ⟨i1,fun u hu hv hk=>?_,i3⟩
      rcases List.mem_cons.1 hu with rfl | hu
      · have:(u.num:Int)<=k:=by
          simp only [hv,hk,Bool.true_and,decide_true,decide_eq_true_eq] at hc
          omega
        omega
      · exact i2 u hu hv hk
theorem lastL_ge (l:PRLit) {known:Int} {p:Nat} (hp:hasL l p=true) (hk:(p:Int) < known):(p:Int)<=lastL l known:=by
  obtain ⟨t,h1,h2,h3⟩:=(hasL_iff l p).1 hp
  have:=(lastF_ge known l.terms (-1)).2.1 t h1 h2 (by omega)
  unfold lastL
  omega
theorem lastL_lt (l:PRLit) {known:Int} (hk:0<=known):lastL l known < known:=(lastF_ge known l.terms (-1)).2.2 (by omega)
theorem lastL_low (l:PRLit) (known:Int):-1<=lastL l known:=(lastF_ge known l.terms (-1)).1
theorem knownF_ge:∀ (ts:List PTerm) (k:Nat),k<=ts.foldl (fun k t=>if t.var && decide (t.num ≥ k) then t.num+1 else k) k/\(∀ t∈ts,t.var=true->t.num < ts.foldl (fun k t=>if t.var && decide (t.num ≥ k) then t.num+1 else k) k)/\∀ b,k<=b->(∀ t∈ts,t.var=true->t.num < b)->ts.foldl (fun k t=>if t.var && decide (t.num ≥ k) then t.num+1 else k) k<=b
  | [],k=>⟨Nat.le_refl _,fun t h=>(by cases h),fun b h _=>h⟩
  | t::ts,k=>by
    simp only [List.foldl_cons]
    by_cases hc:(t.var && decide (t.num ≥ k))=true
    · rw [if_pos hc]
      simp only [Bool.and_eq_true,decide_eq_true_eq] at hc
      obtain ⟨i1,i2,i3⟩:=knownF_ge ts (t.num+1)
      refine ⟨by omega,fun u hu hv=>?_,fun b hb hq=>i3 b (by have:=hq t (by simp) hc.1;omega) fun u hu=>hq u (by simp [hu])⟩
      rcases List.mem_cons.1 hu with rfl | hu
      · omega
      · exact i2 u hu hv
    · rw [if_neg hc]
      obtain ⟨i1,i2,i3⟩:=knownF_ge ts k
      refine ⟨i1,fun u hu hv=>?_,fun b hb hq=>i3 b hb fun u hu=>hq u (by simp [hu])⟩
      rcases List.mem_cons.1 hu with rfl | hu
      · have:u.num < k:=by simp only [hv,Bool.true_and,decide_eq_true_eq] at hc;omega
        omega
      · exact i2 u hu hv
theorem knownL_gt (l:PRLit) {p:Nat} (hp:hasL l p=true):p < knownL l:=by
  obtain ⟨t,h1,h2,h3⟩:=(hasL_iff l p).1 hp
  have:=(knownF_ge l.terms 0).2.1 t h1 h2
  unfold knownL
  omega
theorem knownL_le (l:PRLit) {k:Nat} (h:∀ p,hasL l p=true->p < k):knownL l<=k :=
  (knownF_ge l.terms 0).2.2 k (by omega) fun t ht hv=>h t.num ((hasL_iff l t.num).2 ⟨t,ht,hv,rfl⟩)
theorem tiedL_lt (l:PRLit) {known:Int} (hk:0<=known):tiedL l known < known:=by
  unfold tiedL;split
  · omega
  · exact lastL_lt l hk
theorem backF_ge (known:Int):∀ (ls:List PRLit) (b:Int),b<=ls.foldl (backStep known) b/\(∀ l∈ls,tiedL l known<=ls.foldl (backStep known) b)/\(0<=known->b < known->ls.foldl (backStep known) b < known)
  | [],b=>⟨Int.le_refl _,fun l h=>(by cases h),fun _ h=>h⟩
  | l::ls,b=>by
    simp only [List.foldl_cons]
    obtain ⟨i1,i2,i3⟩:=backF_ge known ls (backStep known b l)
    have hs:b<=backStep known b l/\tiedL l known<=backStep known b l:=by unfold backStep;split <;> omega
    refine ⟨by omega,fun u hu=>?_,fun h0 hb=>i3 h0 ?_⟩
    · rcases List.mem_cons.1 hu with rfl | hu
      · omega
      · exact i2 u hu
    · have:=tiedL_lt l h0
      unfold backStep;split <;> omega
theorem backR_spec (r:PRule) {known:Int} (hk:0<=known):backR r known < known/\-1<=backR r known/\lastL r.head known<=backR r known/\(∀ l∈r.plain,tiedL l known<=backR r known)/\∀ l∈r.nots,tiedL l known<=backR r known:=by
  unfold backR
  obtain ⟨a1,a2,a3⟩:=backF_ge known r.plain (lastL r.head known)
  obtain ⟨b1,b2,b3⟩:=backF_ge known r.nots (r.plain.foldl (backStep known) (lastL r.head known))
  have:=lastL_low r.head known
  exact ⟨b3 hk (a3 hk (lastL_lt r.head hk)),by omega,by omega,fun l hl=>by have:=a2 l hl;omega,b2⟩
theorem tiedL_le {l:PRLit} {known:Nat} {b:Int} (h:tiedL l known<=b):(∀ p,hasL l p=true->p < known)∨∀ p,hasL l p=true->p < known->(p:Int)<=b:=by
  unfold tiedL at h
  by_cases hc:(knownL l:Int)<=known
  · exact Or.inl fun p hp=>by have:=knownL_gt l hp;omega
  · rw [if_neg hc] at h
    exact Or.inr fun p hp hk=>by have:=lastL_ge l (known:=(known:Int)) hp (by omega);omega
end Go.Proofs.YteampbddflhngaaGreat

namespace Go.Proofs.YteampbddflhngaaGreat
structure RuleFine (r:PRule):Prop where
  vars:r.vars<=5
  terms:∀ l∈r.plain,l.terms.length<=3
  plain:∀ l∈r.plain,∀ p,hasL l p=true->p < r.vars
  nots:∀ l∈r.nots,∀ p,hasL l p=true->p < r.vars
  head:∀ p,hasL r.head p=true->p < r.vars
  safe:∀ p,p < r.vars->∃ l∈r.plain,hasL l p=true
structure SidesFine (r:PRule) (Ts:List PTrie) (W:Nat):Prop where
  len:Ts.length=r.plain.length
  ok:∀ (i:Nat) (l:PRLit) (T:PTrie),r.plain[i]?=some l->Ts[i]?=some T->TrieOK T/\T.depth=depthP (depthL l)/\T.width<=W
structure JStat (r:PRule) (Ts Ns:List PTrie) (J:PJoin):Prop where
  head:J.head=r.head
  vars:J.vars=r.vars
  holds:J.holds=(List.range 5).map (holdsJ r)
  backs:J.backs=(List.range 5).map fun p=>backR r (p:Nat)
  last:J.last=backR r r.vars
  bars:J.bars=(r.nots.zip Ns).map fun x=>⟨x.1,knownL x.1,x.2⟩
  sides:J.sides.map (·.rows)=Ts
  vlen:J.values.length=5
  flen:J.from.length=5
theorem rowL_congr (l:PRLit) {x y:List Nat} (h:∀ p,hasL l p=true->x.getD p 0=y.getD p 0):rowL l x=rowL l y:=by
  have hc:∀ i,rowCell l x i=rowCell l y i:=by
    intro i
    unfold rowCell
    split
    · rename_i hi
      unfold atT
      rw [show l.terms.getD i ⟨false,0,0⟩=l.terms[i] by simp [List.getD,hi]]
      split
      · rename_i hv
        simp only [Bool.and_eq_true,decide_eq_true_eq] at hv
        exact h _ ((hasL_iff l _).2 ⟨_,List.getElem_mem hi,hv.1,rfl⟩)
      · rfl
    · rfl
  unfold rowL
  rw [hc,hc,hc]
def SatL (T:PTrie) (l:PRLit) (y:List Nat):Prop:=(depthL l=0->T.count≠0)/\(depthL l≠0->(semT T (projL l y 5)).isSome=true)
def SolJ (r:PRule) (Ts Ns:List PTrie) (y:List Nat):Prop:=(∀ (i:Nat) (l:PRLit) (T:PTrie),r.plain[i]?=some l->Ts[i]?=some T->SatL T l y)/\∀ x∈r.nots.zip Ns,markP x.2 (rowL x.1 y)=none
theorem varsL_five {r:PRule} {l:PRLit} (hl:∀ p,hasL l p=true->p < r.vars) {d:Nat} (hd:r.vars<=d):varsL l d=varsL l r.vars:=by
  induction hd with
  | refl=>rfl
  | @step m h ih =>
    rw [varsL_succ,if_neg (fun q=>by have:=hl _ q;have:r.vars<=m:=h;omega),ih]
theorem projL_five {r:PRule} (hv:r.vars<=5) {l:PRLit} (hl:∀ p,hasL l p=true->p < r.vars) (y:List Nat):projL l y 5=projL l y r.vars:=by
  unfold projL
  rw [varsL_five hl hv]
def NodesAt (r:PRule) (J:PJoin) (d:Nat):Prop:=∀ (i:Nat) (l:PRLit) (s:PSide),r.plain[i]?=some l->J.sides[i]?=some s->s.nodes.length=3/\(∀ k,k<=(varsL l d).length->k < 3->goT s.rows 0 ((projL l J.values d).take k)=some (s.nodes.getD k 0))/\(goT s.rows 0 (projL l J.values d)).isSome=true
def NoBar (r:PRule) (Ns:List PTrie) (vals:List Nat) (d:Nat):Prop:=∀ x∈r.nots.zip Ns,knownL x.1<=d->markP x.2 (rowL x.1 vals)=none
theorem holds_mem {r:PRule} {d i lv:Nat} (h:(i,lv)∈holdsJ r d):∃ l,r.plain[i]?=some l/\hasL l d=true/\lv=(varsL l d).length:=by
  unfold holdsJ at h
  simp only [List.mem_filterMap,Option.map_eq_some_iff,Prod.mk.injEq] at h
  obtain ⟨⟨l,j⟩,h1,lv',h2,h3,h4⟩:=h
  rw [levelL_eq] at h2
  split at h2
  · rename_i hh
    simp only [Option.some.injEq] at h2
    have:=List.mem_zipIdx_iff_getElem?.1 h1
    simp only at this h3 hh h2
    subst h3
    exact ⟨l,this,hh,by omega⟩
  · cases h2
theorem holds_of {r:PRule} {d i:Nat} {l:PRLit} (h:r.plain[i]?=some l) (hh:hasL l d=true):(i,(varsL l d).length)∈holdsJ r d:=by
  unfold holdsJ
  simp only [List.mem_filterMap,Option.map_eq_some_iff,Prod.mk.injEq]
  refine ⟨(l,i),List.mem_zipIdx_iff_getElem?.2 h,(varsL l d).length,?_,rfl,rfl⟩
  rw [levelL_eq,if_pos hh]
theorem holds_nodup (r:PRule) (d:Nat):((holdsJ r d).map (·.1)).Nodup:=by
  unfold holdsJ
  have key:∀ (ls:List PRLit) (n:Nat),(((ls.zipIdx n).filterMap fun x=>(levelL x.1 d).map fun lv=>(x.2,lv)).map (·.1)).Nodup/\∀ i∈((ls.zipIdx n).filterMap fun x=>(levelL x.1 d).map fun lv=>(x.2,lv)).map (·.1),n<=i:=by
    intro ls
    induction ls with
    | nil=>intro n;simp
    | cons l ls ih =>
      intro n
      obtain ⟨i1,i2⟩:=ih (n+1)
      rw [List.zipIdx_cons,List.filterMap_cons]
      cases hl:(levelL l d).map fun lv=>(n,lv) with
      | none=>exact ⟨i1,fun i hi=>by have:=i2 i hi;omega⟩
      | some x =>
        have hx:x.1=n:=by
          simp only [Option.map_eq_some_iff] at hl
          obtain ⟨a,_,rfl⟩:=hl
          rfl
        simp only [List.map_cons,List.nodup_cons,List.mem_cons]
        refine ⟨⟨fun hm=>by have:=i2 _ hm;omega,i1⟩,?_⟩
        rintro i (rfl | hi)
        · omega
        · have:=i2 i hi;omega
  exact (key r.plain 0).1
def setDown (v lv:Nat) (s:PSide):PSide:=if lv+1 ≥ 3 then s else { s with nodes:=s.nodes.set (lv+1) ((downP s.rows (s.nodes.getD lv 0) v).getD 0) }
theorem downJ_spec {J:PJoin} {v:Nat} {h:Nat × Nat} (hs:standsJ J h=true):downJ v J h={ J with sides:=J.sides.set h.1 (setDown v h.2 (J.sides.getD h.1 PSide.zero)) }:=by
  unfold downJ setDown
  by_cases h3:h.2+1 ≥ 3
  · rw [if_pos (Or.inr h3),if_pos h3]
    have hl:h.1 < J.sides.length:=by simp only [standsJ,Bool.and_eq_true,decide_eq_true_eq] at hs;exact hs.1
    have:J.sides.set h.1 (J.sides.getD h.1 PSide.zero)=J.sides:=by
      rw [show J.sides.getD h.1 PSide.zero=J.sides[h.1] by simp [List.getD,hl]]
      exact List.set_getElem_self _
    rw [this]
  · rw [if_neg (by rintro (q | q);rw [hs] at q;cases q;exact h3 q),if_neg h3]
theorem downs_spec (v:Nat):∀ (hs:List (Nat × Nat)) (J:PJoin),(hs.map (·.1)).Nodup->(∀ h∈hs,standsJ J h=true)->∃ ss,hs.foldl (downJ v) J={ J with sides:=ss }/\ss.length=J.sides.length/\∀ i s,J.sides[i]?=some s->ss[i]?=some (match hs.lookup i with | none=>s | some lv=>setDown v lv s)
  | [],J,_,_=>⟨J.sides,rfl,rfl,fun i s h=>by simpa using h⟩
  | (j,lv)::hs,J,hn,hst=>by
    simp only [List.foldl_cons]
    have h0:=hst (j,lv) (by simp)
    rw [downJ_spec h0]
    simp only
    have hjl:j < J.sides.length:=by simp only [standsJ,Bool.and_eq_true,decide_eq_true_eq] at h0;exact h0.1
    simp only [List.map_cons,List.nodup_cons] at hn
    obtain ⟨ss,e1,e2,e3⟩:=downs_spec v hs { J with sides:=J.sides.set j (setDown v lv (J.sides.getD j PSide.zero)) } hn.2 (fun h hh=>by
      have:=hst h (by simp [hh])
      unfold standsJ at this ⊢
      simpa using this)
    refine ⟨ss,e1,by simpa using e2,fun i s hi=>?_⟩
    by_cases hij:i=j
    · subst hij
      have hg:J.sides.getD i PSide.zero=s:=by simp [List.getD,hi]
      have:=e3 i (setDown v lv s) (by rw [hg];simp [hjl])
      rw [this]
      have hnone:hs.lookup i=none:=by
        rw [List.lookup_eq_none_iff]
        intro x hx
        have:x.1≠i:=by
          rintro rfl
          exact hn.1 (List.mem_map.2 ⟨x,hx,rfl⟩)
        simpa using fun q=>this q.symm
      rw [hnone]
      simp [List.lookup]
    · have:=e3 i s (by simp only [List.getElem?_set,Ne.symm hij,if_false];exact hi)
      rw [this]
      have hb:(i == j)=false:=by simp [hij]
      simp [List.lookup,hb]
theorem lookup_mem {hs:List (Nat × Nat)} {i lv:Nat} (hn:(hs.map (·.1)).Nodup) (hm:(i,lv)∈hs):hs.lookup i=some lv:=by
  induction hs with
  | nil=>cases hm
  | cons a hs ih =>
    obtain ⟨j,m⟩:=a
    simp only [List.map_cons,List.nodup_cons] at hn
    rcases List.mem_cons.1 hm with e | hm2
    · simp only [Prod.mk.injEq] at e
      obtain ⟨rfl,rfl⟩:=e
      simp [List.lookup]
    · have:i≠j:=by
        rintro rfl
        exact hn.1 (List.mem_map.2 ⟨(i,lv),hm2,rfl⟩)
      have hb:(i == j)=false:=by simp [this]
      simp only [List.lookup,hb]
      exact ih hn.2 hm2
theorem lookup_none {hs:List (Nat × Nat)} {i:Nat} (h:∀ lv,(i,lv)∉hs):hs.lookup i=none:=by
  rw [List.lookup_eq_none_iff]
  rintro ⟨j,m⟩ hx
  have:i≠j:=by rintro rfl;exact h m hx
  simpa using this
end Go.Proofs.YteampbddflhngaaGreat

namespace Go.Proofs.YteampbddflhngaaGreat
structure JAt (r:PRule) (Ts Ns:List PTrie) (W:Nat) (J:PJoin) (d:Nat):Prop where
  stat:JStat r Ts Ns J
  nodes:NodesAt r J d
  nob:NoBar r Ns J.values d
  «from» : ∀ i,i < d->J.from.getD i 0=J.values.getD i 0+1
  small:∀ i,i < d->J.values.getD i 0 < W
theorem JStat.same {r:PRule} {Ts Ns:List PTrie} {J J':PJoin} (h:JStat r Ts Ns J) (s:SameJ J J'):JStat r Ts Ns J':=by
  rw [s];exact ⟨h.head,h.vars,h.holds,h.backs,h.last,h.bars,h.sides,h.vlen,h.flen⟩
theorem JAt.same {r:PRule} {Ts Ns:List PTrie} {W:Nat} {J J':PJoin} {d:Nat} (h:JAt r Ts Ns W J d) (s:SameJ J J'):JAt r Ts Ns W J' d:=by
  refine ⟨h.stat.same s,?_,?_,?_,?_⟩
  · rw [s];exact h.nodes
  · rw [s];exact h.nob
  · rw [s];exact h.from
  · rw [s];exact h.small
theorem JAt.back {r:PRule} {Ts Ns:List PTrie} {W:Nat} {J:PJoin} {d b:Nat} (h:JAt r Ts Ns W J d) (hb:b<=d):JAt r Ts Ns W J b:=by
  refine ⟨h.stat,fun i l s hl hs=>?_,fun x hx hk=>h.nob x hx (by omega),fun i hi=>h.from i (by omega),fun i hi=>h.small i (by omega)⟩
  obtain ⟨n1,n2,n3⟩:=h.nodes i l s hl hs
  have hle:(varsL l b).length<=(varsL l d).length:=(varsL_le l hb).length_le
  refine ⟨n1,fun k hk h3=>?_,?_⟩
  · rw [projL_prefix l J.values hb,List.take_take,Nat.min_eq_left hk]
    exact n2 k (by omega) h3
  · rw [projL_prefix l J.values hb]
    have hsp:projL l J.values d=(projL l J.values d).take (varsL l b).length++(projL l J.values d).drop (varsL l b).length:=(List.take_append_drop _ _).symm
    rw [hsp,goT_append] at n3
    cases hg:goT s.rows 0 ((projL l J.values d).take (varsL l b).length) with
    | none=>rw [hg] at n3;cases n3
    | some x=>rfl
theorem JStat.side {r:PRule} {Ts Ns:List PTrie} {J:PJoin} (h:JStat r Ts Ns J) {i:Nat} {s:PSide} (hs:J.sides[i]?=some s):Ts[i]?=some s.rows:=by
  rw [← h.sides];simp [hs]
theorem JStat.some {r:PRule} {Ts Ns:List PTrie} {W:Nat} {J:PJoin} (h:JStat r Ts Ns J) (hf:SidesFine r Ts W) {i:Nat} {l:PRLit} (hl:r.plain[i]?=some l):∃ s,J.sides[i]?=some s:=by
  have h1:J.sides.length=r.plain.length:=by rw [← hf.len,← h.sides];simp
  have h2:i < r.plain.length:=(List.getElem?_eq_some_iff.1 hl).1
  exact ⟨_,List.getElem?_eq_getElem (by omega)⟩
theorem JStat.holdsAt {r:PRule} {Ts Ns:List PTrie} {J:PJoin} (h:JStat r Ts Ns J) {d:Nat} (hd:d < 5):J.holds.getD d []=holdsJ r d:=by
  rw [h.holds];simp [List.getD,hd]
theorem JAt.hold {r:PRule} {Ts Ns:List PTrie} {W:Nat} {J:PJoin} {d:Nat} (h:JAt r Ts Ns W J d) (hr:RuleFine r) (hf:SidesFine r Ts W) {x:Nat × Nat} (hx:x∈holdsJ r d) :
    ∃ l s,r.plain[x.1]?=some l/\J.sides[x.1]?=some s/\hasL l d=true/\x.2=(varsL l d).length/\x.2 < 3/\standsJ J x=true/\TrieOK s.rows/\s.rows.width<=W/\∀ v,goT s.rows 0 (projL l J.values d++[v])=holdD J x v:=by
  obtain ⟨i,lv⟩:=x
  obtain ⟨l,h1,h2,h3⟩:=holds_mem hx
  obtain ⟨s,hs⟩:=h.stat.some hf h1
  have hlv:(varsL l (d+1)).length=lv+1:=by rw [varsL_succ,if_pos h2,h3];simp
  have h4:lv < 3:=by
    have:=varsL_terms l (d+1)
    have:=hr.terms l (List.mem_of_getElem? h1)
    omega
  have hil:i < J.sides.length:=(List.getElem?_eq_some_iff.1 hs).1
  obtain ⟨t1,t2,t3⟩:=hf.ok i l s.rows h1 (h.stat.side hs)
  refine ⟨l,s,h1,hs,h2,h3,h4,by simp [standsJ,hil,h4],t1,t3,fun v=>?_⟩
  obtain ⟨n1,n2,n3⟩:=h.nodes i l s h1 hs
  have:=n2 lv (by omega) h4
  rw [h3,show (projL l J.values d).take (varsL l d).length=projL l J.values d by rw [← projL_len l J.values d];exact List.take_length] at this
  rw [goT_append,this]
  unfold holdD
  simp only [List.getD,hs,Option.getD_some,Option.bind_some,goT,h3]
  cases downP s.rows _ v <;> rfl
theorem bars_eq {r:PRule} {Ts Ns:List PTrie} {J:PJoin} (h:JStat r Ts Ns J) (k:Nat):barredJ J k=true↔∃ x∈r.nots.zip Ns,knownL x.1=k/\(markP x.2 (rowL x.1 J.values)).isSome=true:=by
  unfold barredJ
  rw [h.bars,List.any_map,List.any_eq_true]
  simp
theorem JAt.take {r:PRule} {Ts Ns:List PTrie} {W:Nat} {J:PJoin} {d v:Nat} (h:JAt r Ts Ns W J d) (hr:RuleFine r) (hf:SidesFine r Ts W) (hd:d < r.vars) (hv:∀ x∈holdsJ r d,(holdD J x v).isSome=true) (hW:v < W) :
    (takeJ J d v).values=J.values.set d v/\(∀ i,i < d->(takeJ J d v).from.getD i 0=J.from.getD i 0)/\(takeJ J d v).from.getD d 0=v+1/\(d+1 < 5->(takeJ J d v).from.getD (d+1) 0=0)/\JAt r Ts Ns W (takeJ J d v) d/\(barredJ (takeJ J d v) (d+1)=false->JAt r Ts Ns W (takeJ J d v) (d+1)):=by
  have hv5:=hr.vars
  have hd5:d < 5:=by omega
  have hvl:=h.stat.vlen
  have hfl:=h.stat.flen
  unfold takeJ
  rw [if_neg (by omega),h.stat.holdsAt hd5]
  obtain ⟨ss,e1,e2,e3⟩:=downs_spec v (holdsJ r d) { J with values:=J.values.set d v,«from»:=(if d+1 < 5 then (J.from.set d (v+1)).set (d+1) 0 else J.from.set d (v+1)) } (holds_nodup r d) (fun x hx=>by
    obtain ⟨_,_,_,_,_,_,_,q,_⟩:=h.hold hr hf hx
    unfold standsJ at q ⊢
    exact q)
  rw [e1]
  simp only at e2 e3 ⊢
  have hfr:∀ i,i < d->(if d+1 < 5 then (J.from.set d (v+1)).set (d+1) 0 else J.from.set d (v+1)).getD i 0=J.from.getD i 0:=by
    intro i hi
    split
    · rw [getD_set_nat,if_neg (by omega),getD_set_nat,if_neg (by omega)]
    · rw [getD_set_nat,if_neg (by omega)]
  have hfd:(if d+1 < 5 then (J.from.set d (v+1)).set (d+1) 0 else J.from.set d (v+1)).getD d 0=v+1:=by
    split
    · rw [getD_set_nat,if_neg (by omega),getD_set_nat,if_pos ⟨rfl,by omega⟩]
    · rw [getD_set_nat,if_pos ⟨rfl,by omega⟩]
  have hrows:ss.map (·.rows)=Ts:=by
    rw [← h.stat.sides]
    refine List.ext_getElem? fun i=>?_
    simp only [List.getElem?_map]
    cases hs:J.sides[i]? with
    | none =>
      have:J.sides.length<=i:=List.getElem?_eq_none_iff.1 hs
      rw [List.getElem?_eq_none (by omega)]
    | some s =>
      rw [e3 i s hs]
      simp only [Option.map_some,Option.some.injEq]
      cases (holdsJ r d).lookup i with
      | none=>rfl
      | some lv=>simp only [setDown];split <;> rfl
  have hstat:JStat r Ts Ns { J with sides:=ss,values:=J.values.set d v,«from»:=(if d+1 < 5 then (J.from.set d (v+1)).set (d+1) 0 else J.from.set d (v+1)) }:=⟨h.stat.head,h.stat.vars,h.stat.holds,h.stat.backs,h.stat.last,h.stat.bars,hrows,by simpa using hvl,by show (if d+1 < 5 then (J.from.set d (v+1)).set (d+1) 0 else J.from.set d (v+1)).length=5;split <;> simpa using hfl⟩
  have hlow:∀ l:PRLit,projL l (J.values.set d v) d=projL l J.values d:=fun l=>projL_congr l fun p hp _=>by rw [getD_set_nat,if_neg (by omega)]
  have hnodes:∀ (i:Nat) (l:PRLit) (s s':PSide),r.plain[i]?=some l->J.sides[i]?=some s->ss[i]?=some s'->s'.nodes.length=3/\(∀ k,k<=(varsL l d).length->k < 3->goT s'.rows 0 ((projL l J.values d).take k)=some (s'.nodes.getD k 0))/\(goT s'.rows 0 (projL l J.values d)).isSome=true/\(∀ k,k<=(varsL l (d+1)).length->k < 3->goT s'.rows 0 ((projL l (J.values.set d v) (d+1)).take k)=some (s'.nodes.getD k 0))/\(goT s'.rows 0 (projL l (J.values.set d v) (d+1))).isSome=true:=by
    intro i l s s' hl hs hs'
    obtain ⟨n1,n2,n3⟩:=h.nodes i l s hl hs
    rw [e3 i s hs] at hs'
    by_cases hh:hasL l d=true
    · have hm:=holds_of hl hh
      rw [lookup_mem (holds_nodup r d) hm] at hs'
      simp only [Option.some.injEq] at hs'
      obtain ⟨l',s0,q1,q2,_,q4,q5,_,_,_,q9⟩:=h.hold hr hf hm
      simp only at q1 q2 q5
      rw [hl] at q1;rw [hs] at q2
      simp only [Option.some.injEq] at q1 q2
      subst q1;subst q2
      have hvv:=hv _ hm
      obtain ⟨bb,hbb⟩:=Option.isSome_iff_exists.1 hvv
      have hgo:=q9 v
      rw [hbb] at hgo
      have hp:projL l (J.values.set d v) (d+1)=projL l J.values d++[v]:=by rw [projL_succ l _ _ _ (by omega),if_pos hh]
      have hrow':s'.rows=s.rows:=by rw [← hs'];unfold setDown;split <;> rfl
      have hlen:(projL l J.values d).length=(varsL l d).length:=projL_len _ _ _
      have hnd:∀ k,k<=(varsL l d).length->s'.nodes.getD k 0=s.nodes.getD k 0:=by
        intro k hk
        rw [← hs'];unfold setDown;split
        · rfl
        · rw [getD_set_nat,if_neg (by omega)]
      have hdn:downP s.rows (s.nodes.getD (varsL l d).length 0) v=some bb:=by
        unfold holdD at hbb
        simpa [List.getD,hs] using hbb
      refine ⟨by rw [← hs'];unfold setDown;split <;> simp [n1],fun k hk h3=>by rw [hrow',hnd k hk];exact n2 k hk h3,by rw [hrow'];exact n3,fun k hk h3=>?_,by rw [hrow',hp,hgo];rfl⟩
      rw [hrow',hp]
      rw [varsL_succ,if_pos hh,List.length_append,List.length_singleton] at hk
      by_cases hk2:k<=(varsL l d).length
      · rw [List.take_append_of_le_length (by omega),hnd k hk2]
        exact n2 k hk2 h3
      · have:k=(varsL l d).length+1:=by omega
        subst this
        rw [List.take_of_length_le (by simp [hlen]),hgo,← hs']
        unfold setDown
        rw [if_neg (by omega)]
        simp only
        rw [getD_set_nat,if_pos ⟨rfl,by omega⟩,hdn]
        rfl
    · have hno:∀ lv,(i,lv)∉holdsJ r d:=fun lv hm=>by
        obtain ⟨l',q1,q2,_⟩:=holds_mem hm
        rw [hl] at q1
        simp only [Option.some.injEq] at q1
        subst q1
        exact hh q2
      rw [lookup_none hno] at hs'
      simp only [Option.some.injEq] at hs'
      subst hs'
      have hp:projL l (J.values.set d v) (d+1)=projL l J.values d:=by rw [projL_succ l _ _ _ (by omega),if_neg hh]
      have hvv:varsL l (d+1)=varsL l d:=by rw [varsL_succ,if_neg hh]
      exact ⟨n1,n2,n3,by rw [hp,hvv];exact n2,by rw [hp];exact n3⟩
  have hside:∀ (i:Nat) (l:PRLit) (s':PSide),r.plain[i]?=some l->ss[i]?=some s'->∃ s,J.sides[i]?=some s:=fun i l s' hl _=>h.stat.some hf hl
  have hrl:∀ x∈r.nots.zip Ns,knownL x.1<=d->rowL x.1 (J.values.set d v)=rowL x.1 J.values:=fun x _ hk=>rowL_congr x.1 fun p hp=>by
    have:=knownL_gt x.1 hp
    rw [getD_set_nat,if_neg (by omega)]
  refine ⟨trivial,hfr,hfd,fun h5=>?_,⟨hstat,fun i l s' hl hs'=>?_,fun x hx hk=>?_,fun i hi=>?_,fun i hi=>?_⟩,fun hb=>⟨hstat,fun i l s' hl hs'=>?_,fun x hx hk=>?_,fun i hi=>?_,fun i hi=>?_⟩⟩
  · rw [if_pos h5,getD_set_nat,if_pos ⟨rfl,by simp;omega⟩]
  · obtain ⟨s,hs⟩:=hside i l s' hl hs'
    obtain ⟨a1,a2,a3,_,_⟩:=hnodes i l s s' hl hs hs'
    exact ⟨a1,by rw [hlow];exact a2,by rw [hlow];exact a3⟩
  · show markP x.2 (rowL x.1 (J.values.set d v))=none
    rw [hrl x hx hk];exact h.nob x hx hk
  · show (if d+1 < 5 then _ else _:List Nat).getD i 0=(J.values.set d v).getD i 0+1
    rw [hfr i hi,getD_set_nat,if_neg (by omega)];exact h.from i hi
  · show (J.values.set d v).getD i 0 < W
    rw [getD_set_nat,if_neg (by omega)];exact h.small i hi
  · obtain ⟨s,hs⟩:=hside i l s' hl hs'
    obtain ⟨a1,_,_,a4,a5⟩:=hnodes i l s s' hl hs hs'
    exact ⟨a1,a4,a5⟩
  · show markP x.2 (rowL x.1 (J.values.set d v))=none
    by_cases hkd:knownL x.1<=d
    · rw [hrl x hx hkd];exact h.nob x hx hkd
    · cases hm:markP x.2 (rowL x.1 (J.values.set d v)) with
      | none=>rfl
      | some m =>
        have:=(bars_eq hstat (d+1)).2 ⟨x,hx,by omega,by show (markP x.2 (rowL x.1 (J.values.set d v))).isSome=true;rw [hm];rfl⟩
        rw [hb] at this;cases this
  · show (if d+1 < 5 then _ else _:List Nat).getD i 0=(J.values.set d v).getD i 0+1
    by_cases hi2:i=d
    · subst hi2
      rw [hfd,getD_set_nat,if_pos ⟨rfl,by omega⟩]
    · rw [hfr i (by omega),getD_set_nat,if_neg (by omega)];exact h.from i (by omega)
  · show (J.values.set d v).getD i 0 < W
    by_cases hi2:i=d
    · subst hi2
      rw [getD_set_nat,if_pos ⟨rfl,by omega⟩];exact hW
    · rw [getD_set_nat,if_neg (by omega)];exact h.small i (by omega)
end Go.Proofs.YteampbddflhngaaGreat
