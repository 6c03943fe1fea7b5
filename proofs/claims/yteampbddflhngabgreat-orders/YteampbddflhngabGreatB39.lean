import Derived.Test.YteampbddflhngabGreatB38

namespace Go.Proofs.YteampbddflhngabGreat
def ltR:PRow->PRow->Prop
 |a::x,b::y=>a < b∨a=b/\ltR x y
 |_,_=>False
theorem ltR_irrefl:∀ x:PRow,¬ ltR x x
 |[]=>id
 |a::x=>by
  rintro(h|⟨_,h⟩)
  ·omega
  ·exact ltR_irrefl x h
theorem keysF_sorted(T:PTrie):∀ (d a f:Nat),(keysF T d a f).Pairwise ltR
 |0,a,f=>by simp [keysF]
 |d+1,a,f=>by
  simp only [keysF]
  rw [List.pairwise_flatMap]
  refine⟨fun v _=>?_,?_⟩
  ·cases downP T a v with
   |none=>exact List.Pairwise.nil
   |some b =>
    simp only
    rw [List.pairwise_map]
    exact(keysF_sorted T d b 0).imp fun h=>Or.inr⟨rfl,h⟩
  ·refine List.Pairwise.imp ?_(List.pairwise_lt_range'(s:=f)(n:=T.width - f))
   intro v u hvu x hx y hy
   cases h1:downP T a v with
   |none=>rw [h1] at hx;simp at hx
   |some b =>
    rw [h1] at hx
    cases h2:downP T a u with
    |none=>rw [h2] at hy;simp at hy
    |some c =>
     rw [h2] at hy
     simp only [List.mem_map] at hx hy
     obtain⟨x',_,rfl⟩:=hx
     obtain⟨y',_,rfl⟩:=hy
     exact Or.inl hvu
theorem keysF_nodup(T:PTrie)(d a f:Nat):(keysF T d a f).Nodup:=by
 refine(keysF_sorted T d a f).imp ?_
 rintro x y h rfl
 exact ltR_irrefl x h
theorem nodup_len:∀ {l1 l2:List PRow},l1.Nodup->(∀ x∈l1,x∈l2)->l1.length<=l2.length
 |[],l2,_,_=>by simp
 |a::l1,l2,hn,hs=>by
  have ha:=hs a(by simp)
  have h1:=nodup_len(l1:=l1)(l2:=l2.erase a)(List.nodup_cons.1 hn).2(fun x hx=>by
   have hne:x≠a:=by rintro rfl;exact(List.nodup_cons.1 hn).1 hx
   exact(List.mem_erase_of_ne hne).2(hs x(by simp [hx])))
  rw [List.length_erase_of_mem ha] at h1
  have:=List.length_pos_of_mem ha
  simp;omega
theorem nodup_eq{l1 l2:List PRow}(h1:l1.Nodup)(h2:l2.Nodup)(h:∀ x,x∈l1↔x∈l2):l1.length=l2.length :=
 Nat.le_antisymm(nodup_len h1 fun x hx=>(h x).1 hx)(nodup_len h2 fun x hx=>(h x).2 hx)
def keysT(T:PTrie):List PRow:=keysF T T.depth 0 0
theorem keysT_mem(T:PTrie)(k:PRow):k∈keysT T↔k.length=T.depth/\(semT T k).isSome=true:=by
 unfold keysT
 rw [keysF_mem]
 exact⟨fun h=>⟨h.1,h.2.1⟩,fun h=>⟨h.1,h.2,fun _=>Nat.zero_le _⟩⟩
structure TrieOK(T:PTrie):Prop where
 inv:∃ pth,TrieInv T pth
 cnt:(keysT T).length=T.count
 room:T.nodes.length<=1+2 * T.count
theorem TrieOK.new(w d:Nat):TrieOK(newP w d):=by
 refine⟨⟨_,newP_inv w d⟩,?_,by simp [newP,growP]⟩
 have:keysT(newP w d)=[]:=by
  rw [List.eq_nil_iff_forall_not_mem]
  intro k hk
  obtain⟨h1,h2⟩:=(keysT_mem _ k).1 hk
  rw [newP_sem w d k(by rintro rfl;have:=(depthP_in d).1;rw [newP_depth] at h1;simp at h1;omega)] at h2
  cases h2
 rw [this];rfl
theorem semT_wide{T:PTrie}:∀ (k:PRow)(a:Nat),(goT T a k).isSome=true->∀ v∈k,v < T.width
 |[],_,_,v,hv=>by cases hv
 |u::k,a,h,v,hv=>by
  simp only [goT] at h
  cases hd:downP T a u with
  |none=>rw [hd] at h;simp at h
  |some b =>
   rw [hd] at h
   rcases List.mem_cons.1 hv with rfl|hv
   ·exact(down_lt hd).2
   ·exact semT_wide k b h v hv
theorem TrieOK.add{T:PTrie}(h:TrieOK T)(row:PRow)(m:Nat)(hl:row.length=3)(hf:fitsP T row=true) :
  TrieOK(addP T row m).1/\(addP T row m).1.width=T.width/\(addP T row m).1.depth=T.depth/\(addP T row m).2=(semT T(row.take T.depth)).isNone/\((addP T row m).2=false->(addP T row m).1=T)/\((addP T row m).2=true->(addP T row m).1.count=T.count+1)/\∀ q,q.length=T.depth->semT(addP T row m).1 q=if q=row.take T.depth then some((semT T q).getD m) else semT T q:=by
 obtain⟨pth,hi⟩:=h.inv
 have ha:=addP_spec hi row m hl hf
 have hd:=hi.dep
 refine⟨⟨ha.inv,?_,?_⟩,ha.width,ha.depth,ha.is,ha.same,fun q=>(ha.more q).1,ha.sem⟩
 ·cases hb:(addP T row m).2 with
  |false=>rw [ha.same hb];exact h.cnt
  |true =>
   rw [(ha.more hb).1,← h.cnt]
   have his:=ha.is
   rw [hb] at his
   have hkl:(row.take T.depth).length=T.depth:=by rw [List.length_take,hl];omega
   have hnot:row.take T.depth∉keysT T:=fun hm=>by
    have:=((keysT_mem T _).1 hm).2
    rw [← Option.not_isNone,← his] at this
    cases this
   have:=nodup_eq(l1:=keysT(addP T row m).1)(l2:=row.take T.depth::keysT T)(keysF_nodup _ _ _ _)(List.nodup_cons.2⟨hnot,keysF_nodup _ _ _ _⟩)(fun k=>by
    rw [keysT_mem,ha.depth,List.mem_cons,keysT_mem]
    by_cases hk:k.length=T.depth
    ·rw [ha.sem k hk]
     by_cases e:k=row.take T.depth
     ·simp [e,hkl]
     ·simp [e,hk]
    ·constructor
     ·intro q;exact absurd q.1 hk
     ·rintro(q|q)
      ·rw [q] at hk;exact absurd hkl hk
      ·exact absurd q.1 hk)
   simpa using this
 ·cases hb:(addP T row m).2 with
  |false=>rw [ha.same hb];exact h.room
  |true =>
   have:=ha.more hb
   have:=h.room
   omega
theorem TrieOK.rows{T:PTrie}(h:TrieOK T)(fuel:Nat)(hf:3 * (T.width+1)<=fuel):rowsF fuel T=some((keysT T).map fun k=>pad k T.depth):=by
 obtain⟨pth,hi⟩:=h.inv
 exact rowsF_spec hi fuel hf
theorem TrieOK.rowsG{T:PTrie}(h:TrieOK T)(fuel:Nat)(hf:3 * (T.width+1)<=fuel)(hc:T.count<=1048576):rowsG fuel T=some((keysT T).map fun k=>pad k T.depth):=by
 unfold Go.Proofs.YteampbddflhngabGreat.rowsG
 rw [h.rows fuel hf]
 simp [h.cnt,hc]
theorem TrieOK.okT{T:PTrie}(h:TrieOK T)(hc:T.count<=10000000):okT T=true:=by
 have:=h.room
 simp only [Go.Proofs.YteampbddflhngabGreat.okT,Bool.and_eq_true,decide_eq_true_eq]
 omega
theorem TrieOK.mark{T:PTrie}(h:TrieOK T)(row:PRow)(hl:row.length=3):markP T row=semT T(row.take T.depth):=by
 obtain⟨pth,hi⟩:=h.inv
 exact markP_sem hi row hl
end Go.Proofs.YteampbddflhngabGreat

namespace Go.Proofs.YteampbddflhngabGreat
def holdD(J:PJoin)(h:Nat × Nat)(v:Nat):Option Nat:=downP(J.sides.getD h.1 PSide.zero).rows((J.sides.getD h.1 PSide.zero).nodes.getD h.2 0) v
def SidesOK(J:PJoin):Prop:=∀ i,NodesOK(J.sides.getD i PSide.zero).rows
def SameJ(J J':PJoin):Prop:=J'={ J with moves:=J'.moves }
theorem SameJ.trans{a b c:PJoin}(h:SameJ a b)(k:SameJ b c):SameJ a c:=by
 unfold SameJ at *
 rw [h] at k
 exact k
theorem SameJ.sides{a b:PJoin}(h:SameJ a b):b.sides=a.sides:=by rw [h]
theorem leapJ_spec{J:PJoin}{h:Nat × Nat}{f:Nat}(hs:standsJ J h=true):SameJ J(leapJ J h f).1/\(leapJ J h f).2=leapP(J.sides.getD h.1 PSide.zero).rows((J.sides.getD h.1 PSide.zero).nodes.getD h.2 0) f:=by
 unfold leapJ
 rw [if_pos hs]
 exact⟨rfl,rfl⟩
def inLast(turn same len i:Nat):Prop:=i < turn/\turn<=i+same∨turn<=i/\turn+len<=i+same
def AgreeIs(J:PJoin)(hs:List(Nat × Nat))(f:Nat):Option Nat->Prop
 |none=>∀ u,f<=u->∃ h∈hs,holdD J h u=none
 |some v=>f<=v/\(∀ h∈hs,(holdD J h v).isSome=true)/\∀ u,f<=u->u < v->∃ h∈hs,holdD J h u=none
theorem holdD_same{J J':PJoin}(h:SameJ J J')(x:Nat × Nat)(v:Nat):holdD J' x v=holdD J x v:=by unfold holdD;rw [h.sides]
theorem agreeN_spec(W f:Nat)(hs:List(Nat × Nat))(J0:PJoin)(hok:SidesOK J0)(hst:∀ h∈hs,standsJ J0 h=true)(hw:∀ h∈hs,∀ v,(holdD J0 h v).isSome=true->v < W) :
  ∀ (n:Nat)(J:PJoin)(at' same turn:Nat),SameJ J0 J->f<=at'->turn < hs.length->same<=hs.length->(∀ u,f<=u->u < at'->∃ h∈hs,holdD J0 h u=none)->(∀ i(hi:i < hs.length),inLast turn same hs.length i->(holdD J0 hs[i] at').isSome=true)->(W - at') * (hs.length+1)+(hs.length - same) < n →
  ∃ J' res,agreeN n J hs at' same turn=some(J',res)/\SameJ J0 J'/\AgreeIs J0 hs f res:=by
 intro n
 induction n with
 |zero=>intro J at' same turn _ _ _ _ _ _ h;omega
 |succ n ih =>
  intro J at' same turn hJ hf ht hsm hno hin hn
  unfold agreeN
  by_cases hlt:same < hs.length
  ·rw [if_pos hlt]
   have hg:hs.getD turn(0,0)=hs[turn]:=by simp [List.getD,ht]
   have hmem:hs[turn]∈hs:=List.getElem_mem ht
   have hst':standsJ J hs[turn]=true:=by
    have:=hst _ hmem
    unfold standsJ at this ⊢
    rw [hJ.sides];exact this
   obtain⟨l1,l2⟩:=leapJ_spec(f:=at') hst'
   rw [hJ.sides] at l2
   rw [hg]
   cases hL:leapJ J hs[turn] at' with
   |mk J1 o =>
    rw [hL] at l1 l2
    simp only at l1 l2
    have hJ1:=hJ.trans l1
    have hnd:=hok hs[turn].1
    cases o with
    |none =>
     refine⟨J1,none,rfl,hJ1,fun u hu=>?_⟩
     by_cases hu2:u < at'
     ·exact hno u hu hu2
     ·exact⟨hs[turn],hmem,leap_none hnd l2.symm u(by omega)⟩
    |some v =>
     obtain⟨p1,p2,p3,p4⟩:=leap_some hnd l2.symm
     have hvW:=hw _ hmem v p3
     simp only
     by_cases hgt:v > at'
     ·rw [if_pos hgt,if_pos hgt]
      refine ih J1 v(0+1) _ hJ1(by omega)(by split <;> omega)(by omega)(fun u h1 h2=>?_)(fun i hi hl=>?_) ?_
      ·by_cases hu2:u < at'
       ·exact hno u h1 hu2
       ·exact⟨hs[turn],hmem,p4 u(by omega) h2⟩
      ·have:i=turn:=by
        unfold inLast at hl
        split at hl <;> omega
       subst this
       exact p3
      ·have e:W - at'=(W - v)+(v - at'):=by omega
       have:(W - at') * (hs.length+1)=(W - v) * (hs.length+1)+(v - at') * (hs.length+1):=by rw [e,Nat.add_mul]
       have:1 * (hs.length+1)<=(v - at') * (hs.length+1):=Nat.mul_le_mul_right _(by omega)
       omega
     ·have hv:v=at':=by omega
      subst hv
      rw [if_neg hgt,if_neg hgt]
      refine ih J1 v(same+1) _ hJ1 hf(by split <;> omega)(by omega) hno(fun i hi hl=>?_)(by omega)
      by_cases hi2:i=turn
      ·subst hi2;exact p3
      ·refine hin i hi ?_
       unfold inLast at hl ⊢
       split at hl <;> omega
  ·rw [if_neg hlt]
   refine⟨J,some at',rfl,hJ,hf,fun h hh=>?_,hno⟩
   obtain⟨i,hi,rfl⟩:=List.getElem_of_mem hh
   refine hin i hi ?_
   unfold inLast
   omega
theorem agreeJ_spec(W:Nat)(J:PJoin)(place f n:Nat)(hp:place < 5)(hok:SidesOK J)(hne:J.holds.getD place []≠[])(hst:∀ h∈J.holds.getD place [],standsJ J h=true)(hw:∀ h∈J.holds.getD place [],∀ v,(holdD J h v).isSome=true->v < W)(hn:W * ((J.holds.getD place []).length+1)+(J.holds.getD place []).length < n) :
  ∃ J' res,agreeJ n J place f=some(J',res)/\SameJ J J'/\AgreeIs J(J.holds.getD place []) f res:=by
 have hpos:0 < (J.holds.getD place []).length:=by
  cases hq:J.holds.getD place [] with
  |nil=>exact absurd hq hne
  |cons a l=>simp
 unfold agreeJ
 rw [if_neg(by omega)]
 refine agreeN_spec W f _ J hok hst hw n J f 0 0 rfl(Nat.le_refl _) hpos(by omega)(fun u h1 h2=>by omega)(fun i hi hl=>by unfold inLast at hl;omega) ?_
 have:(W - f) * ((J.holds.getD place []).length+1)<=W * ((J.holds.getD place []).length+1):=Nat.mul_le_mul_right _(by omega)
 omega
end Go.Proofs.YteampbddflhngabGreat

namespace Go.Proofs.YteampbddflhngabGreat
def varsL(l:PRLit)(d:Nat):List Nat:=(List.range d).filter(hasL l)
def projL(l:PRLit)(vals:List Nat)(d:Nat):PRow:=(varsL l d).map fun p=>vals.getD p 0
theorem varsL_succ(l:PRLit)(d:Nat):varsL l(d+1)=if hasL l d then varsL l d++[d] else varsL l d:=by
 unfold varsL
 rw [List.range_succ,List.filter_append]
 by_cases h:hasL l d <;> simp [h]
theorem varsL_mem(l:PRLit)(d p:Nat):p∈varsL l d↔p < d/\hasL l p=true:=by simp [varsL]
theorem varsL_le(l:PRLit){a b:Nat}(h:a<=b):varsL l a <+: varsL l b:=by
 induction h with
 |refl=>exact List.prefix_rfl
 |step h ih =>
  rw [varsL_succ]
  split
  ·exact ih.trans(List.prefix_append _ _)
  ·exact ih
theorem levelL_eq(l:PRLit)(p:Nat):levelL l p=if hasL l p then some(varsL l p).length else none:=by
 unfold levelL varsL
 rw [List.countP_eq_length_filter]
theorem depthL_eq(l:PRLit):depthL l=(varsL l 5).length:=by
 unfold depthL varsL
 rw [List.countP_eq_length_filter]
theorem projL_len(l:PRLit)(vals:List Nat)(d:Nat):(projL l vals d).length=(varsL l d).length:=by simp [projL]
theorem projL_congr(l:PRLit){x y:List Nat}{d:Nat}(h:∀ p,p < d->hasL l p=true->x.getD p 0=y.getD p 0):projL l x d=projL l y d:=by
 unfold projL
 refine List.map_congr_left fun p hp=>?_
 have:=(varsL_mem l d p).1 hp
 exact h p this.1 this.2
theorem projL_prefix(l:PRLit)(vals:List Nat){a b:Nat}(h:a<=b):projL l vals a=(projL l vals b).take(varsL l a).length:=by
 obtain⟨t,ht⟩:=varsL_le l h
 unfold projL
 rw [← ht]
 simp
theorem projL_succ(l:PRLit)(vals:List Nat)(d v:Nat)(hd:d < vals.length):projL l(vals.set d v)(d+1)=if hasL l d then projL l vals d++[v] else projL l vals d:=by
 have h0:(varsL l d).map(fun p=>(vals.set d v).getD p 0)=(varsL l d).map fun p=>vals.getD p 0:=by
  refine List.map_congr_left fun p hp=>?_
  have:=(varsL_mem l d p).1 hp
  rw [getD_set_nat,if_neg(by omega)]
 unfold projL
 rw [varsL_succ]
 split
 ·rw [List.map_append,h0]
  simp [hd]
 ·exact h0
theorem nodup_lenN:∀ {l1 l2:List Nat},l1.Nodup->(∀ x∈l1,x∈l2)->l1.length<=l2.length
 |[],l2,_,_=>by simp
 |a::l1,l2,hn,hs=>by
  have ha:=hs a(by simp)
  have h1:=nodup_lenN(l1:=l1)(l2:=l2.erase a)(List.nodup_cons.1 hn).2(fun x hx=>by
   have hne:x≠a:=by rintro rfl;exact(List.nodup_cons.1 hn).1 hx
   exact(List.mem_erase_of_ne hne).2(hs x(by simp [hx])))
  rw [List.length_erase_of_mem ha] at h1
  have:=List.length_pos_of_mem ha
  simp;omega
theorem hasL_iff(l:PRLit)(p:Nat):hasL l p=true↔∃ t∈l.terms,t.var=true/\t.num=p:=by
 unfold hasL
 rw [List.any_eq_true]
 constructor
 ·rintro⟨t,h1,h2⟩
  simp only [Bool.and_eq_true,beq_iff_eq] at h2
  exact⟨t,h1,h2.1,h2.2⟩
 ·rintro⟨t,h1,h2,h3⟩
  exact⟨t,h1,by simp [h2,h3]⟩
theorem varsL_terms(l:PRLit)(d:Nat):(varsL l d).length<=l.terms.length:=by
 have:=nodup_lenN(l1:=varsL l d)(l2:=l.terms.map(·.num))(List.nodup_range.filter _)(fun p hp=>by
  obtain⟨t,h1,_,h3⟩:=(hasL_iff l p).1((varsL_mem l d p).1 hp).2
  exact List.mem_map.2⟨t,h1,h3⟩)
 simpa using this
theorem lastF_ge(known:Int):∀ (ts:List PTerm)(k:Int),k<=ts.foldl(fun k t=>if t.var && decide((t.num:Int) < known) && decide((t.num:Int) > k) then(t.num:Int) else k) k/\(∀ t∈ts,t.var=true->(t.num:Int) < known->(t.num:Int)<=ts.foldl(fun k t=>if t.var && decide((t.num:Int) < known) && decide((t.num:Int) > k) then(t.num:Int) else k) k)/\(k < known->ts.foldl(fun k t=>if t.var && decide((t.num:Int) < known) && decide((t.num:Int) > k) then(t.num:Int) else k) k < known)
 |[],k=>⟨Int.le_refl _,fun t h=>(by cases h),fun h=>h⟩
 |t::ts,k=>by
  simp only [List.foldl_cons]
  by_cases hc:(t.var && decide((t.num:Int) < known) && decide((t.num:Int) > k))=true
  ·rw [if_pos hc]
   simp only [Bool.and_eq_true,decide_eq_true_eq] at hc
   obtain⟨i1,i2,i3⟩:=lastF_ge known ts(t.num:Int)
   refine⟨by omega,fun u hu hv hk=>?_,fun _=>i3(by omega)⟩
   rcases List.mem_cons.1 hu with rfl|hu
   ·exact i1
   ·exact i2 u hu hv hk
  ·rw [if_neg hc]
   obtain⟨i1,i2,i3⟩:=lastF_ge known ts k
   refine⟨i1,fun u hu hv hk=>?_,i3⟩
   rcases List.mem_cons.1 hu with rfl|hu
   ·have:(u.num:Int)<=k:=by
     simp only [hv,hk,Bool.true_and,decide_true,decide_eq_true_eq] at hc
     omega
    omega
   ·exact i2 u hu hv hk
theorem lastL_ge(l:PRLit){known:Int}{p:Nat}(hp:hasL l p=true)(hk:(p:Int) < known):(p:Int)<=lastL l known:=by
 obtain⟨t,h1,h2,h3⟩:=(hasL_iff l p).1 hp
 have:=(lastF_ge known l.terms(-1)).2.1 t h1 h2(by omega)
 unfold lastL
 omega
theorem lastL_lt(l:PRLit){known:Int}(hk:0<=known):lastL l known < known:=(lastF_ge known l.terms(-1)).2.2(by omega)
theorem lastL_low(l:PRLit)(known:Int):-1<=lastL l known:=(lastF_ge known l.terms(-1)).1
theorem knownF_ge:∀ (ts:List PTerm)(k:Nat),k<=ts.foldl(fun k t=>if t.var && decide(t.num ≥ k) then t.num+1 else k) k/\(∀ t∈ts,t.var=true->t.num < ts.foldl(fun k t=>if t.var && decide(t.num ≥ k) then t.num+1 else k) k)/\∀ b,k<=b->(∀ t∈ts,t.var=true->t.num < b)->ts.foldl(fun k t=>if t.var && decide(t.num ≥ k) then t.num+1 else k) k<=b
 |[],k=>⟨Nat.le_refl _,fun t h=>(by cases h),fun b h _=>h⟩
 |t::ts,k=>by
  simp only [List.foldl_cons]
  by_cases hc:(t.var && decide(t.num ≥ k))=true
  ·rw [if_pos hc]
   simp only [Bool.and_eq_true,decide_eq_true_eq] at hc
   obtain⟨i1,i2,i3⟩:=knownF_ge ts(t.num+1)
   refine⟨by omega,fun u hu hv=>?_,fun b hb hq=>i3 b(by have:=hq t(by simp) hc.1;omega) fun u hu=>hq u(by simp [hu])⟩
   rcases List.mem_cons.1 hu with rfl|hu
   ·omega
   ·exact i2 u hu hv
  ·rw [if_neg hc]
   obtain⟨i1,i2,i3⟩:=knownF_ge ts k
   refine⟨i1,fun u hu hv=>?_,fun b hb hq=>i3 b hb fun u hu=>hq u(by simp [hu])⟩
   rcases List.mem_cons.1 hu with rfl|hu
   ·have:u.num < k:=by simp only [hv,Bool.true_and,decide_eq_true_eq] at hc;omega
    omega
   ·exact i2 u hu hv
theorem knownL_gt(l:PRLit){p:Nat}(hp:hasL l p=true):p < knownL l:=by
 obtain⟨t,h1,h2,h3⟩:=(hasL_iff l p).1 hp
 have:=(knownF_ge l.terms 0).2.1 t h1 h2
 unfold knownL
 omega
theorem knownL_le(l:PRLit){k:Nat}(h:∀ p,hasL l p=true->p < k):knownL l<=k :=
 (knownF_ge l.terms 0).2.2 k(by omega) fun t ht hv=>h t.num((hasL_iff l t.num).2⟨t,ht,hv,rfl⟩)
theorem tiedL_lt(l:PRLit){known:Int}(hk:0<=known):tiedL l known < known:=by
 unfold tiedL;split
 ·omega
 ·exact lastL_lt l hk
theorem backF_ge(known:Int):∀ (ls:List PRLit)(b:Int),b<=ls.foldl(backStep known) b/\(∀ l∈ls,tiedL l known<=ls.foldl(backStep known) b)/\(0<=known->b < known->ls.foldl(backStep known) b < known)
 |[],b=>⟨Int.le_refl _,fun l h=>(by cases h),fun _ h=>h⟩
 |l::ls,b=>by
  simp only [List.foldl_cons]
  obtain⟨i1,i2,i3⟩:=backF_ge known ls(backStep known b l)
  have hs:b<=backStep known b l/\tiedL l known<=backStep known b l:=by unfold backStep;split <;> omega
  refine⟨by omega,fun u hu=>?_,fun h0 hb=>i3 h0 ?_⟩
  ·rcases List.mem_cons.1 hu with rfl|hu
   ·omega
   ·exact i2 u hu
  ·have:=tiedL_lt l h0
   unfold backStep;split <;> omega
theorem backR_spec(r:PRule){known:Int}(hk:0<=known):backR r known < known/\-1<=backR r known/\lastL r.head known<=backR r known/\(∀ l∈r.plain,tiedL l known<=backR r known)/\∀ l∈r.nots,tiedL l known<=backR r known:=by
 unfold backR
 obtain⟨a1,a2,a3⟩:=backF_ge known r.plain(lastL r.head known)
 obtain⟨b1,b2,b3⟩:=backF_ge known r.nots(r.plain.foldl(backStep known)(lastL r.head known))
 have:=lastL_low r.head known
 exact⟨b3 hk(a3 hk(lastL_lt r.head hk)),by omega,by omega,fun l hl=>by have:=a2 l hl;omega,b2⟩
theorem tiedL_le{l:PRLit}{known:Nat}{b:Int}(h:tiedL l known<=b):(∀ p,hasL l p=true->p < known)∨∀ p,hasL l p=true->p < known->(p:Int)<=b:=by
 unfold tiedL at h
 by_cases hc:(knownL l:Int)<=known
 ·exact Or.inl fun p hp=>by have:=knownL_gt l hp;omega
 ·rw [if_neg hc] at h
  exact Or.inr fun p hp hk=>by have:=lastL_ge l(known:=(known:Int)) hp(by omega);omega
end Go.Proofs.YteampbddflhngabGreat

namespace Go.Proofs.YteampbddflhngabGreat
structure RuleFine(r:PRule):Prop where
 vars:r.vars<=5
 terms:∀ l∈r.plain,l.terms.length<=3
 plain:∀ l∈r.plain,∀ p,hasL l p=true->p < r.vars
 nots:∀ l∈r.nots,∀ p,hasL l p=true->p < r.vars
 head:∀ p,hasL r.head p=true->p < r.vars
 safe:∀ p,p < r.vars->∃ l∈r.plain,hasL l p=true
structure SidesFine(r:PRule)(Ts:List PTrie)(W:Nat):Prop where
 len:Ts.length=r.plain.length
 ok:∀ (i:Nat)(l:PRLit)(T:PTrie),r.plain[i]?=some l->Ts[i]?=some T->TrieOK T/\T.depth=depthP(depthL l)/\T.width<=W
structure JStat(r:PRule)(Ts Ns:List PTrie)(J:PJoin):Prop where
 head:J.head=r.head
 vars:J.vars=r.vars
 holds:J.holds=(List.range 5).map(holdsJ r)
 backs:J.backs=(List.range 5).map fun p=>backR r(p:Nat)
 last:J.last=backR r r.vars
 bars:J.bars=(r.nots.zip Ns).map fun x=>⟨x.1,knownL x.1,x.2⟩
 sides:J.sides.map(·.rows)=Ts
 vlen:J.values.length=5
 flen:J.from.length=5
theorem rowL_congr(l:PRLit){x y:List Nat}(h:∀ p,hasL l p=true->x.getD p 0=y.getD p 0):rowL l x=rowL l y:=by
 have hc:∀ i,rowCell l x i=rowCell l y i:=by
  intro i
  unfold rowCell
  split
  ·rename_i hi
   unfold atT
   rw [show l.terms.getD i⟨false,0,0⟩=l.terms[i] by simp [List.getD,hi]]
   split
   ·rename_i hv
    simp only [Bool.and_eq_true,decide_eq_true_eq] at hv
    exact h _((hasL_iff l _).2⟨_,List.getElem_mem hi,hv.1,rfl⟩)
   ·rfl
  ·rfl
 unfold rowL
 rw [hc,hc,hc]
def SatL(T:PTrie)(l:PRLit)(y:List Nat):Prop:=(depthL l=0->T.count≠0)/\(depthL l≠0->(semT T(projL l y 5)).isSome=true)
def SolJ(r:PRule)(Ts Ns:List PTrie)(y:List Nat):Prop:=(∀ (i:Nat)(l:PRLit)(T:PTrie),r.plain[i]?=some l->Ts[i]?=some T->SatL T l y)/\∀ x∈r.nots.zip Ns,markP x.2(rowL x.1 y)=none
theorem varsL_five{r:PRule}{l:PRLit}(hl:∀ p,hasL l p=true->p < r.vars){d:Nat}(hd:r.vars<=d):varsL l d=varsL l r.vars:=by
 induction hd with
 |refl=>rfl
 |@step m h ih =>
  rw [varsL_succ,if_neg(fun q=>by have:=hl _ q;have:r.vars<=m:=h;omega),ih]
theorem projL_five{r:PRule}(hv:r.vars<=5){l:PRLit}(hl:∀ p,hasL l p=true->p < r.vars)(y:List Nat):projL l y 5=projL l y r.vars:=by
 unfold projL
 rw [varsL_five hl hv]
def NodesAt(r:PRule)(J:PJoin)(d:Nat):Prop:=∀ (i:Nat)(l:PRLit)(s:PSide),r.plain[i]?=some l->J.sides[i]?=some s->s.nodes.length=3/\(∀ k,k<=(varsL l d).length->k < 3->goT s.rows 0((projL l J.values d).take k)=some(s.nodes.getD k 0))/\(goT s.rows 0(projL l J.values d)).isSome=true
def NoBar(r:PRule)(Ns:List PTrie)(vals:List Nat)(d:Nat):Prop:=∀ x∈r.nots.zip Ns,knownL x.1<=d->markP x.2(rowL x.1 vals)=none
theorem holds_mem{r:PRule}{d i lv:Nat}(h:(i,lv)∈holdsJ r d):∃ l,r.plain[i]?=some l/\hasL l d=true/\lv=(varsL l d).length:=by
 unfold holdsJ at h
 simp only [List.mem_filterMap,Option.map_eq_some_iff,Prod.mk.injEq] at h
 obtain⟨⟨l,j⟩,h1,lv',h2,h3,h4⟩:=h
 rw [levelL_eq] at h2
 split at h2
 ·rename_i hh
  simp only [Option.some.injEq] at h2
  have:=List.mem_zipIdx_iff_getElem?.1 h1
  simp only at this h3 hh h2
  subst h3
  exact⟨l,this,hh,by omega⟩
 ·cases h2
theorem holds_of{r:PRule}{d i:Nat}{l:PRLit}(h:r.plain[i]?=some l)(hh:hasL l d=true):(i,(varsL l d).length)∈holdsJ r d:=by
 unfold holdsJ
 simp only [List.mem_filterMap,Option.map_eq_some_iff,Prod.mk.injEq]
 refine⟨(l,i),List.mem_zipIdx_iff_getElem?.2 h,(varsL l d).length,?_,rfl,rfl⟩
 rw [levelL_eq,if_pos hh]
theorem holds_nodup(r:PRule)(d:Nat):((holdsJ r d).map(·.1)).Nodup:=by
 unfold holdsJ
 have key:∀ (ls:List PRLit)(n:Nat),(((ls.zipIdx n).filterMap fun x=>(levelL x.1 d).map fun lv=>(x.2,lv)).map(·.1)).Nodup/\∀ i∈((ls.zipIdx n).filterMap fun x=>(levelL x.1 d).map fun lv=>(x.2,lv)).map(·.1),n<=i:=by
  intro ls
  induction ls with
  |nil=>intro n;simp
  |cons l ls ih =>
   intro n
   obtain⟨i1,i2⟩:=ih(n+1)
   rw [List.zipIdx_cons,List.filterMap_cons]
   cases hl:(levelL l d).map fun lv=>(n,lv) with
   |none=>exact⟨i1,fun i hi=>by have:=i2 i hi;omega⟩
   |some x =>
    have hx:x.1=n:=by
     simp only [Option.map_eq_some_iff] at hl
     obtain⟨a,_,rfl⟩:=hl
     rfl
    simp only [List.map_cons,List.nodup_cons,List.mem_cons]
    refine⟨⟨fun hm=>by have:=i2 _ hm;omega,i1⟩,?_⟩
    rintro i(rfl|hi)
    ·omega
    ·have:=i2 i hi;omega
 exact(key r.plain 0).1
def setDown(v lv:Nat)(s:PSide):PSide:=if lv+1 ≥ 3 then s else{ s with nodes:=s.nodes.set(lv+1)((downP s.rows(s.nodes.getD lv 0) v).getD 0) }
theorem downJ_spec{J:PJoin}{v:Nat}{h:Nat × Nat}(hs:standsJ J h=true):downJ v J h={ J with sides:=J.sides.set h.1(setDown v h.2(J.sides.getD h.1 PSide.zero)) }:=by
 unfold downJ setDown
 by_cases h3:h.2+1 ≥ 3
 ·rw [if_pos(Or.inr h3),if_pos h3]
  have hl:h.1 < J.sides.length:=by simp only [standsJ,Bool.and_eq_true,decide_eq_true_eq] at hs;exact hs.1
  have:J.sides.set h.1(J.sides.getD h.1 PSide.zero)=J.sides:=by
   rw [show J.sides.getD h.1 PSide.zero=J.sides[h.1] by simp [List.getD,hl]]
   exact List.set_getElem_self _
  rw [this]
 ·rw [if_neg(by rintro(q|q);rw [hs] at q;cases q;exact h3 q),if_neg h3]
theorem downs_spec(v:Nat):∀ (hs:List(Nat × Nat))(J:PJoin),(hs.map(·.1)).Nodup->(∀ h∈hs,standsJ J h=true)->∃ ss,hs.foldl(downJ v) J={ J with sides:=ss }/\ss.length=J.sides.length/\∀ i s,J.sides[i]?=some s->ss[i]?=some(match hs.lookup i with|none=>s|some lv=>setDown v lv s)
 |[],J,_,_=>⟨J.sides,rfl,rfl,fun i s h=>by simpa using h⟩
 |(j,lv)::hs,J,hn,hst=>by
  simp only [List.foldl_cons]
  have h0:=hst(j,lv)(by simp)
  rw [downJ_spec h0]
  simp only
  have hjl:j < J.sides.length:=by simp only [standsJ,Bool.and_eq_true,decide_eq_true_eq] at h0;exact h0.1
  simp only [List.map_cons,List.nodup_cons] at hn
  obtain⟨ss,e1,e2,e3⟩:=downs_spec v hs{ J with sides:=J.sides.set j(setDown v lv(J.sides.getD j PSide.zero)) } hn.2(fun h hh=>by
   have:=hst h(by simp [hh])
   unfold standsJ at this ⊢
   simpa using this)
  refine⟨ss,e1,by simpa using e2,fun i s hi=>?_⟩
  by_cases hij:i=j
  ·subst hij
   have hg:J.sides.getD i PSide.zero=s:=by simp [List.getD,hi]
   have:=e3 i(setDown v lv s)(by rw [hg];simp [hjl])
   rw [this]
   have hnone:hs.lookup i=none:=by
    rw [List.lookup_eq_none_iff]
    intro x hx
    have:x.1≠i:=by
     rintro rfl
     exact hn.1(List.mem_map.2⟨x,hx,rfl⟩)
    simpa using fun q=>this q.symm
   rw [hnone]
   simp [List.lookup]
  ·have:=e3 i s(by simp only [List.getElem?_set,Ne.symm hij,if_false];exact hi)
   rw [this]
   have hb:(i == j)=false:=by simp [hij]
   simp [List.lookup,hb]
theorem lookup_mem{hs:List(Nat × Nat)}{i lv:Nat}(hn:(hs.map(·.1)).Nodup)(hm:(i,lv)∈hs):hs.lookup i=some lv:=by
 induction hs with
 |nil=>cases hm
 |cons a hs ih =>
  obtain⟨j,m⟩:=a
  simp only [List.map_cons,List.nodup_cons] at hn
  rcases List.mem_cons.1 hm with e|hm2
  ·simp only [Prod.mk.injEq] at e
   obtain⟨rfl,rfl⟩:=e
   simp [List.lookup]
  ·have:i≠j:=by
    rintro rfl
    exact hn.1(List.mem_map.2⟨(i,lv),hm2,rfl⟩)
   have hb:(i == j)=false:=by simp [this]
   simp only [List.lookup,hb]
   exact ih hn.2 hm2
theorem lookup_none{hs:List(Nat × Nat)}{i:Nat}(h:∀ lv,(i,lv)∉hs):hs.lookup i=none:=by
 rw [List.lookup_eq_none_iff]
 rintro⟨j,m⟩ hx
 have:i≠j:=by rintro rfl;exact h m hx
 simpa using this
end Go.Proofs.YteampbddflhngabGreat
