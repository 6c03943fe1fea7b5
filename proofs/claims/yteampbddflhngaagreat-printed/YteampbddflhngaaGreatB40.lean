import Derived.Test.YteampbddflhngaaGreatB39

namespace Go.Proofs.YteampbddflhngaaGreat
def ltR:zas->zas->Prop
 |a::x,b::y=>a < b∨a=b/\ltR x y
 |_,_=>False
theorem zmm:∀ x:zas,¬ ltR x x
 |[]=>id
 |a::x=>by
  rintro(h|⟨_,h⟩)
  ·omega
  ·exact zmm x h
theorem zi4(T:zae):∀(d a f:Nat),(zic T d a f).Pairwise ltR
 |0,a,f=>by simp[zic]
 |d+1,a,f=>by
  simp only[zic]
  rw[List.pairwise_flatMap]
  refine⟨fun v _=>?_,?_⟩
  ·cases zax T a v with
   |none=>exact List.Pairwise.nil
   |some b =>
    simp only
    rw[List.pairwise_map]
    exact(zi4 T d b 0).imp fun h=>Or.inr ⟨rfl,h⟩
  ·refine List.Pairwise.imp ?_ (List.pairwise_lt_range' (s:=f) (n:=T.width - f))
   intro v u hvu x hx y hy
   cases h1:zax T a v with
   |none=>rw[h1] at hx;simp at hx
   |some b =>
    rw[h1] at hx
    cases h2:zax T a u with
    |none=>rw[h2] at hy;simp at hy
    |some c =>
     rw[h2] at hy
     simp only[List.mem_map] at hx hy
     obtain⟨x',_,rfl⟩:=hx
     obtain⟨y',_,rfl⟩:=hy
     exact Or.inl hvu
theorem zkt(T:zae)(d a f:Nat):(zic T d a f).Nodup:=by
 refine(zi4 T d a f).imp ?_
 rintro x y h rfl
 exact zmm x h
theorem zp8:∀ {l1 l2:List zas},l1.Nodup->(∀ x∈l1,x∈l2)->l1.length<=l2.length
 |[],l2,_,_=>by simp
 |a::l1,l2,hn,hs=>by
  have ha:=hs a (by simp)
  have h1:=zp8 (l1:=l1) (l2:=l2.erase a) (List.nodup_cons.1 hn).2 (fun x hx=>by
   have hne:x≠a:=by rintro rfl;exact(List.nodup_cons.1 hn).1 hx
   exact(List.mem_erase_of_ne hne).2 (hs x (by simp[hx])))
  rw[List.length_erase_of_mem ha] at h1
  have:=List.length_pos_of_mem ha
  simp;omega
theorem yab{l1 l2:List zas}(h1:l1.Nodup)(h2:l2.Nodup)(h:∀ x,x∈l1↔x∈l2):l1.length=l2.length :=
 Nat.le_antisymm (zp8 h1 fun x hx=>(h x).1 hx) (zp8 h2 fun x hx=>(h x).2 hx)
def keysT(T:zae):List zas:=zic T T.depth 0 0
theorem zbu(T:zae)(k:zas):k∈keysT T↔k.length=T.depth/\(zke T k).isSome=true:=by
 unfold keysT
 rw[zpm]
 exact⟨fun h=>⟨h.1,h.2.1⟩,fun h=>⟨h.1,h.2,fun _=>Nat.zero_le _⟩⟩
structure zel (T:zae):Prop where
 inv:∃ pth,ze2 T pth
 cnt:(keysT T).length=T.count
 room:T.nodes.length<=1+2 * T.count
theorem zel.new(w d:Nat):zel (zf1 w d):=by
 refine⟨⟨_,z88 w d⟩,?_,by simp[zf1,zca]⟩
 have:keysT (zf1 w d)=[]:=by
  rw[List.eq_nil_iff_forall_not_mem]
  intro k hk
  obtain⟨h1,h2⟩:=(zbu _ k).1 hk
  rw[zn3 w d k (by rintro rfl;have:=(zej d).1;rw[zgz] at h1;simp at h1;omega)] at h2
  cases h2
 rw[this];rfl
theorem zl0{T:zae}:∀(k:zas) (a:Nat),(goT T a k).isSome=true->∀ v∈k,v < T.width
 |[],_,_,v,hv=>by cases hv
 |u::k,a,h,v,hv=>by
  simp only[goT] at h
  cases hd:zax T a u with
  |none=>rw[hd] at h;simp at h
  |some b =>
   rw[hd] at h
   rcases List.mem_cons.1 hv with rfl|hv
   ·exact(zhd hd).2
   ·exact zl0 k b h v hv
theorem zel.add{T:zae}(h:zel T)(row:zas)(m:Nat)(hl:row.length=3)(hf:zpb T row=true) :
  zel (zft T row m).1/\(zft T row m).1.width=T.width/\(zft T row m).1.depth=T.depth/\(zft T row m).2=(zke T (row.take T.depth)).isNone/\((zft T row m).2=false->(zft T row m).1=T)/\((zft T row m).2=true->(zft T row m).1.count=T.count+1)/\∀ q,q.length=T.depth->zke (zft T row m).1 q=if q=row.take T.depth then some ((zke T q).getD m) else zke T q:=by
 obtain⟨pth,hi⟩:=h.inv
 have ha:=z6i hi row m hl hf
 have hd:=hi.dep
 refine⟨⟨ha.inv,?_,?_⟩,ha.width,ha.depth,ha.is,ha.same,fun q=>(ha.more q).1,ha.sem⟩
 ·cases hb:(zft T row m).2 with
  |false=>rw[ha.same hb];exact h.cnt
  |true =>
   rw[(ha.more hb).1,← h.cnt]
   have his:=ha.is
   rw[hb] at his
   have hkl:(row.take T.depth).length=T.depth:=by rw[List.length_take,hl];omega
   have hnot:row.take T.depth∉keysT T:=fun hm=>by
    have:=((zbu T _).1 hm).2
    rw[← Option.not_isNone,← his] at this
    cases this
   have:=yab (l1:=keysT (zft T row m).1) (l2:=row.take T.depth::keysT T) (zkt _ _ _ _) (List.nodup_cons.2 ⟨hnot,zkt _ _ _ _⟩) (fun k=>by
    rw[zbu,ha.depth,List.mem_cons,zbu]
    by_cases hk:k.length=T.depth
    ·rw[ha.sem k hk]
     by_cases e:k=row.take T.depth
     ·simp[e,hkl]
     ·simp[e,hk]
    ·constructor
     ·intro q;exact absurd q.1 hk
     ·rintro(q|q)
      ·rw[q] at hk;exact absurd hkl hk
      ·exact absurd q.1 hk)
   simpa using this
 ·cases hb:(zft T row m).2 with
  |false=>rw[ha.same hb];exact h.room
  |true =>
   have:=ha.more hb
   have:=h.room
   omega
theorem zel.rows{T:zae}(h:zel T)(fuel:Nat)(hf:3 * (T.width+1)<=fuel):zs5 fuel T=some ((keysT T).map fun k=>pad k T.depth):=by
 obtain⟨pth,hi⟩:=h.inv
 exact z1r hi fuel hf
theorem zel.rowsG{T:zae}(h:zel T)(fuel:Nat)(hf:3 * (T.width+1)<=fuel)(hc:T.count<=1048576):rowsG fuel T=some ((keysT T).map fun k=>pad k T.depth):=by
 unfold Go.Proofs.YteampbddflhngaaGreat.rowsG
 rw[h.rows fuel hf]
 simp[h.cnt,hc]
theorem zel.okT{T:zae}(h:zel T)(hc:T.count<=10000000):okT T=true:=by
 have:=h.room
 simp only[Go.Proofs.YteampbddflhngaaGreat.okT,Bool.and_eq_true,decide_eq_true_eq]
 omega
theorem zel.mark{T:zae}(h:zel T)(row:zas)(hl:row.length=3):zdx T row=zke T (row.take T.depth):=by
 obtain⟨pth,hi⟩:=h.inv
 exact z5w hi row hl
end Go.Proofs.YteampbddflhngaaGreat

namespace Go.Proofs.YteampbddflhngaaGreat
def zit(J:zaw)(h:Nat × Nat)(v:Nat):Option Nat:=zax (J.sides.getD h.1 zeq.zero).rows ((J.sides.getD h.1 zeq.zero).nodes.getD h.2 0) v
def zx8(J:zaw):Prop:=∀ i,zhc (J.sides.getD i zeq.zero).rows
def zl6(J J':zaw):Prop:=J'={ J with moves:=J'.moves }
theorem zl6.trans{a b c:zaw}(h:zl6 a b)(k:zl6 b c):zl6 a c:=by
 unfold zl6 at *
 rw[h] at k
 exact k
theorem zl6.sides{a b:zaw}(h:zl6 a b):b.sides=a.sides:=by rw[h]
theorem z3h{J:zaw}{h:Nat × Nat}{f:Nat}(hs:zcr J h=true):zl6 J (zhw J h f).1/\(zhw J h f).2=zco (J.sides.getD h.1 zeq.zero).rows ((J.sides.getD h.1 zeq.zero).nodes.getD h.2 0) f:=by
 unfold zhw
 rw[if_pos hs]
 exact⟨rfl,rfl⟩
def zvf(turn same len i:Nat):Prop:=i < turn/\turn<=i+same∨turn<=i/\turn+len<=i+same
def z8i(J:zaw)(hs:List (Nat × Nat))(f:Nat):Option Nat->Prop
 |none=>∀ u,f<=u->∃ h∈hs,zit J h u=none
 |some v=>f<=v/\(∀ h∈hs,(zit J h v).isSome=true)/\∀ u,f<=u->u < v->∃ h∈hs,zit J h u=none
theorem z0v{J J':zaw}(h:zl6 J J')(x:Nat × Nat)(v:Nat):zit J' x v=zit J x v:=by unfold zit;rw[h.sides]
theorem zyi(W f:Nat)(hs:List (Nat × Nat))(J0:zaw)(hok:zx8 J0)(hst:∀ h∈hs,zcr J0 h=true)(hw:∀ h∈hs,∀ v,(zit J0 h v).isSome=true->v < W) :
  ∀(n:Nat) (J:zaw) (at' same turn:Nat),zl6 J0 J->f<=at'->turn < hs.length->same<=hs.length->(∀ u,f<=u->u < at'->∃ h∈hs,zit J0 h u=none)->(∀ i (hi:i < hs.length),zvf turn same hs.length i->(zit J0 hs[i] at').isSome=true)->(W - at') * (hs.length+1)+(hs.length - same) < n →
  ∃ J' res,zix n J hs at' same turn=some (J',res)/\zl6 J0 J'/\z8i J0 hs f res:=by
 intro n
 induction n with
 |zero=>intro J at' same turn _ _ _ _ _ _ h;omega
 |succ n ih =>
  intro J at' same turn hJ hf ht hsm hno hin hn
  unfold zix
  by_cases hlt:same < hs.length
  ·rw[if_pos hlt]
   have hg:hs.getD turn (0,0)=hs[turn]:=by simp[List.getD,ht]
   have hmem:hs[turn]∈hs:=List.getElem_mem ht
   have hst':zcr J hs[turn]=true:=by
    have:=hst _ hmem
    unfold zcr at this ⊢
    rw[hJ.sides];exact this
   obtain⟨l1,l2⟩:=z3h (f:=at') hst'
   rw[hJ.sides] at l2
   rw[hg]
   cases hL:zhw J hs[turn] at' with
   |mk J1 o =>
    rw[hL] at l1 l2
    simp only at l1 l2
    have hJ1:=hJ.trans l1
    have hnd:=hok hs[turn].1
    cases o with
    |none =>
     refine⟨J1,none,rfl,hJ1,fun u hu=>?_⟩
     by_cases hu2:u < at'
     ·exact hno u hu hu2
     ·exact⟨hs[turn],hmem,zv0 hnd l2.symm u (by omega)⟩
    |some v =>
     obtain⟨p1,p2,p3,p4⟩:=zwb hnd l2.symm
     have hvW:=hw _ hmem v p3
     simp only
     by_cases hgt:v > at'
     ·rw[if_pos hgt,if_pos hgt]
      refine ih J1 v (0+1) _ hJ1 (by omega) (by split <;> omega) (by omega) (fun u h1 h2=>?_) (fun i hi hl=>?_) ?_
      ·by_cases hu2:u < at'
       ·exact hno u h1 hu2
       ·exact⟨hs[turn],hmem,p4 u (by omega) h2⟩
      ·have:i=turn:=by
        unfold zvf at hl
        split at hl <;> omega
       subst this
       exact p3
      ·have e:W - at'=(W - v)+(v - at'):=by omega
       have:(W - at') * (hs.length+1)=(W - v) * (hs.length+1)+(v - at') * (hs.length+1):=by rw[e,Nat.add_mul]
       have:1 * (hs.length+1)<=(v - at') * (hs.length+1):=Nat.mul_le_mul_right _ (by omega)
       omega
     ·have hv:v=at':=by omega
      subst hv
      rw[if_neg hgt,if_neg hgt]
      refine ih J1 v (same+1) _ hJ1 hf (by split <;> omega) (by omega) hno (fun i hi hl=>?_) (by omega)
      by_cases hi2:i=turn
      ·subst hi2;exact p3
      ·refine hin i hi ?_
       unfold zvf at hl ⊢
       split at hl <;> omega
  ·rw[if_neg hlt]
   refine⟨J,some at',rfl,hJ,hf,fun h hh=>?_,hno⟩
   obtain⟨i,hi,rfl⟩:=List.getElem_of_mem hh
   refine hin i hi ?_
   unfold zvf
   omega
theorem zx5(W:Nat)(J:zaw)(place f n:Nat)(hp:place < 5)(hok:zx8 J)(hne:J.holds.getD place []≠[])(hst:∀ h∈J.holds.getD place [],zcr J h=true)(hw:∀ h∈J.holds.getD place [],∀ v,(zit J h v).isSome=true->v < W)(hn:W * ((J.holds.getD place []).length+1)+(J.holds.getD place []).length < n) :
  ∃ J' res,znd n J place f=some (J',res)/\zl6 J J'/\z8i J (J.holds.getD place []) f res:=by
 have hpos:0 < (J.holds.getD place []).length:=by
  cases hq:J.holds.getD place [] with
  |nil=>exact absurd hq hne
  |cons a l=>simp
 unfold znd
 rw[if_neg (by omega)]
 refine zyi W f _ J hok hst hw n J f 0 0 rfl (Nat.le_refl _) hpos (by omega) (fun u h1 h2=>by omega) (fun i hi hl=>by unfold zvf at hl;omega) ?_
 have:(W - f) * ((J.holds.getD place []).length+1)<=W * ((J.holds.getD place []).length+1):=Nat.mul_le_mul_right _ (by omega)
 omega
end Go.Proofs.YteampbddflhngaaGreat

namespace Go.Proofs.YteampbddflhngaaGreat
def zcg(l:zal)(d:Nat):List Nat:=(List.range d).filter (zde l)
def zb7(l:zal)(vals:List Nat)(d:Nat):zas:=(zcg l d).map fun p=>vals.getD p 0
theorem zes(l:zal)(d:Nat):zcg l (d+1)=if zde l d then zcg l d++[d] else zcg l d:=by
 unfold zcg
 rw[List.range_succ,List.filter_append]
 by_cases h:zde l d <;> simp[h]
theorem zh7(l:zal)(d p:Nat):p∈zcg l d↔p < d/\zde l p=true:=by simp[zcg]
theorem ztq(l:zal){a b:Nat}(h:a<=b):zcg l a <+: zcg l b:=by
 induction h with
 |refl=>exact List.prefix_rfl
 |step h ih =>
  rw[zes]
  split
  ·exact ih.trans (List.prefix_append _ _)
  ·exact ih
theorem zpk(l:zal)(p:Nat):zbt l p=if zde l p then some (zcg l p).length else none:=by
 unfold zbt zcg
 rw[List.countP_eq_length_filter]
theorem zem(l:zal):zba l=(zcg l 5).length:=by
 unfold zba zcg
 rw[List.countP_eq_length_filter]
theorem zg9(l:zal)(vals:List Nat)(d:Nat):(zb7 l vals d).length=(zcg l d).length:=by simp[zb7]
theorem ziu(l:zal){x y:List Nat}{d:Nat}(h:∀ p,p < d->zde l p=true->x.getD p 0=y.getD p 0):zb7 l x d=zb7 l y d:=by
 unfold zb7
 refine List.map_congr_left fun p hp=>?_
 have:=(zh7 l d p).1 hp
 exact h p this.1 this.2
theorem zi7(l:zal)(vals:List Nat){a b:Nat}(h:a<=b):zb7 l vals a=(zb7 l vals b).take (zcg l a).length:=by
 obtain⟨t,ht⟩:=ztq l h
 unfold zb7
 rw[← ht]
 simp
theorem zrv(l:zal)(vals:List Nat)(d v:Nat)(hd:d < vals.length):zb7 l (vals.set d v) (d+1)=if zde l d then zb7 l vals d++[v] else zb7 l vals d:=by
 have h0:(zcg l d).map (fun p=>(vals.set d v).getD p 0)=(zcg l d).map fun p=>vals.getD p 0:=by
  refine List.map_congr_left fun p hp=>?_
  have:=(zh7 l d p).1 hp
  rw[zan,if_neg (by omega)]
 unfold zb7
 rw[zes]
 split
 ·rw[List.map_append,h0]
  simp[hd]
 ·exact h0
theorem zsq:∀ {l1 l2:List Nat},l1.Nodup->(∀ x∈l1,x∈l2)->l1.length<=l2.length
 |[],l2,_,_=>by simp
 |a::l1,l2,hn,hs=>by
  have ha:=hs a (by simp)
  have h1:=zsq (l1:=l1) (l2:=l2.erase a) (List.nodup_cons.1 hn).2 (fun x hx=>by
   have hne:x≠a:=by rintro rfl;exact(List.nodup_cons.1 hn).1 hx
   exact(List.mem_erase_of_ne hne).2 (hs x (by simp[hx])))
  rw[List.length_erase_of_mem ha] at h1
  have:=List.length_pos_of_mem ha
  simp;omega
theorem zfg(l:zal)(p:Nat):zde l p=true↔∃ t∈l.terms,t.var=true/\t.num=p:=by
 unfold zde
 rw[List.any_eq_true]
 constructor
 ·rintro⟨t,h1,h2⟩
  simp only[Bool.and_eq_true,beq_iff_eq] at h2
  exact⟨t,h1,h2.1,h2.2⟩
 ·rintro⟨t,h1,h2,h3⟩
  exact⟨t,h1,by simp[h2,h3]⟩
theorem zk6(l:zal)(d:Nat):(zcg l d).length<=l.terms.length:=by
 have:=zsq (l1:=zcg l d) (l2:=l.terms.map (·.num)) (List.nodup_range.filter _) (fun p hp=>by
  obtain⟨t,h1,_,h3⟩:=(zfg l p).1 ((zh7 l d p).1 hp).2
  exact List.mem_map.2 ⟨t,h1,h3⟩)
 simpa using this
theorem zl5(known:Int):∀(ts:List zbp) (k:Int),k<=ts.foldl (fun k t=>if t.var && decide ((t.num:Int) < known) && decide ((t.num:Int) > k) then(t.num:Int) else k) k/\(∀ t∈ts,t.var=true->(t.num:Int) < known->(t.num:Int)<=ts.foldl (fun k t=>if t.var && decide ((t.num:Int) < known) && decide ((t.num:Int) > k) then(t.num:Int) else k) k)/\(k < known->ts.foldl (fun k t=>if t.var && decide ((t.num:Int) < known) && decide ((t.num:Int) > k) then(t.num:Int) else k) k < known)
 |[],k=>⟨Int.le_refl _,fun t h=>(by cases h),fun h=>h⟩
 |t::ts,k=>by
  simp only[List.foldl_cons]
  by_cases hc:(t.var && decide ((t.num:Int) < known) && decide ((t.num:Int) > k))=true
  ·rw[if_pos hc]
   simp only[Bool.and_eq_true,decide_eq_true_eq] at hc
   obtain⟨i1,i2,i3⟩:=zl5 known ts (t.num:Int)
   refine⟨by omega,fun u hu hv hk=>?_,fun _=>i3 (by omega)⟩
   rcases List.mem_cons.1 hu with rfl|hu
   ·exact i1
   ·exact i2 u hu hv hk
  ·rw[if_neg hc]
   obtain⟨i1,i2,i3⟩:=zl5 known ts k
   refine⟨i1,fun u hu hv hk=>?_,i3⟩
   rcases List.mem_cons.1 hu with rfl|hu
   ·have:(u.num:Int)<=k:=by
     simp only[hv,hk,Bool.true_and,decide_true,decide_eq_true_eq] at hc
     omega
    omega
   ·exact i2 u hu hv hk
theorem zts(l:zal){known:Int}{p:Nat}(hp:zde l p=true)(hk:(p:Int) < known):(p:Int)<=ziz l known:=by
 obtain⟨t,h1,h2,h3⟩:=(zfg l p).1 hp
 have:=(zl5 known l.terms (-1)).2.1 t h1 h2 (by omega)
 unfold ziz
 omega
theorem zz7(l:zal){known:Int}(hk:0<=known):ziz l known < known:=(zl5 known l.terms (-1)).2.2 (by omega)
theorem z5c(l:zal)(known:Int):-1<=ziz l known:=(zl5 known l.terms (-1)).1
theorem zly:∀(ts:List zbp) (k:Nat),k<=ts.foldl (fun k t=>if t.var && decide (t.num ≥ k) then t.num+1 else k) k/\(∀ t∈ts,t.var=true->t.num < ts.foldl (fun k t=>if t.var && decide (t.num ≥ k) then t.num+1 else k) k)/\∀ b,k<=b->(∀ t∈ts,t.var=true->t.num < b)->ts.foldl (fun k t=>if t.var && decide (t.num ≥ k) then t.num+1 else k) k<=b
 |[],k=>⟨Nat.le_refl _,fun t h=>(by cases h),fun b h _=>h⟩
 |t::ts,k=>by
  simp only[List.foldl_cons]
  by_cases hc:(t.var && decide (t.num ≥ k))=true
  ·rw[if_pos hc]
   simp only[Bool.and_eq_true,decide_eq_true_eq] at hc
   obtain⟨i1,i2,i3⟩:=zly ts (t.num+1)
   refine⟨by omega,fun u hu hv=>?_,fun b hb hq=>i3 b (by have:=hq t (by simp) hc.1;omega) fun u hu=>hq u (by simp[hu])⟩
   rcases List.mem_cons.1 hu with rfl|hu
   ·omega
   ·exact i2 u hu hv
  ·rw[if_neg hc]
   obtain⟨i1,i2,i3⟩:=zly ts k
   refine⟨i1,fun u hu hv=>?_,fun b hb hq=>i3 b hb fun u hu=>hq u (by simp[hu])⟩
   rcases List.mem_cons.1 hu with rfl|hu
   ·have:u.num < k:=by simp only[hv,Bool.true_and,decide_eq_true_eq] at hc;omega
    omega
   ·exact i2 u hu hv
theorem zl2(l:zal){p:Nat}(hp:zde l p=true):p < zdn l:=by
 obtain⟨t,h1,h2,h3⟩:=(zfg l p).1 hp
 have:=(zly l.terms 0).2.1 t h1 h2
 unfold zdn
 omega
theorem zwx(l:zal){k:Nat}(h:∀ p,zde l p=true->p < k):zdn l<=k :=
 (zly l.terms 0).2.2 k (by omega) fun t ht hv=>h t.num ((zfg l t.num).2 ⟨t,ht,hv,rfl⟩)
theorem z9a(l:zal){known:Int}(hk:0<=known):zif l known < known:=by
 unfold zif;split
 ·omega
 ·exact zz7 l hk
theorem ztk(known:Int):∀(ls:List zal) (b:Int),b<=ls.foldl (zbb known) b/\(∀ l∈ls,zif l known<=ls.foldl (zbb known) b)/\(0<=known->b < known->ls.foldl (zbb known) b < known)
 |[],b=>⟨Int.le_refl _,fun l h=>(by cases h),fun _ h=>h⟩
 |l::ls,b=>by
  simp only[List.foldl_cons]
  obtain⟨i1,i2,i3⟩:=ztk known ls (zbb known b l)
  have hs:b<=zbb known b l/\zif l known<=zbb known b l:=by unfold zbb;split <;> omega
  refine⟨by omega,fun u hu=>?_,fun h0 hb=>i3 h0 ?_⟩
  ·rcases List.mem_cons.1 hu with rfl|hu
   ·omega
   ·exact i2 u hu
  ·have:=z9a l h0
   unfold zbb;split <;> omega
theorem zm4(r:zah){known:Int}(hk:0<=known):zee r known < known/\-1<=zee r known/\ziz r.head known<=zee r known/\(∀ l∈r.plain,zif l known<=zee r known)/\∀ l∈r.nots,zif l known<=zee r known:=by
 unfold zee
 obtain⟨a1,a2,a3⟩:=ztk known r.plain (ziz r.head known)
 obtain⟨b1,b2,b3⟩:=ztk known r.nots (r.plain.foldl (zbb known) (ziz r.head known))
 have:=z5c r.head known
 exact⟨b3 hk (a3 hk (zz7 r.head hk)),by omega,by omega,fun l hl=>by have:=a2 l hl;omega,b2⟩
theorem zzq{l:zal}{known:Nat}{b:Int}(h:zif l known<=b):(∀ p,zde l p=true->p < known)∨∀ p,zde l p=true->p < known->(p:Int)<=b:=by
 unfold zif at h
 by_cases hc:(zdn l:Int)<=known
 ·exact Or.inl fun p hp=>by have:=zl2 l hp;omega
 ·rw[if_neg hc] at h
  exact Or.inr fun p hp hk=>by have:=zts l (known:=(known:Int)) hp (by omega);omega
end Go.Proofs.YteampbddflhngaaGreat

namespace Go.Proofs.YteampbddflhngaaGreat
structure zgc (r:zah):Prop where
 vars:r.vars<=5
 terms:∀ l∈r.plain,l.terms.length<=3
 plain:∀ l∈r.plain,∀ p,zde l p=true->p < r.vars
 nots:∀ l∈r.nots,∀ p,zde l p=true->p < r.vars
 head:∀ p,zde r.head p=true->p < r.vars
 safe:∀ p,p < r.vars->∃ l∈r.plain,zde l p=true
structure zd4 (r:zah) (Ts:List zae) (W:Nat):Prop where
 len:Ts.length=r.plain.length
 ok:∀(i:Nat) (l:zal) (T:zae),r.plain[i]?=some l->Ts[i]?=some T->zel T/\T.depth=zby (zba l)/\T.width<=W
structure ziy (r:zah) (Ts Ns:List zae) (J:zaw):Prop where
 head:J.head=r.head
 vars:J.vars=r.vars
 holds:J.holds=(List.range 5).map (zb2 r)
 backs:J.backs=(List.range 5).map fun p=>zee r (p:Nat)
 last:J.last=zee r r.vars
 bars:J.bars=(r.nots.zip Ns).map fun x=>⟨x.1,zdn x.1,x.2⟩
 sides:J.sides.map (·.rows)=Ts
 vlen:J.values.length=5
 flen:J.from.length=5
theorem zf0(l:zal){x y:List Nat}(h:∀ p,zde l p=true->x.getD p 0=y.getD p 0):zc3 l x=zc3 l y:=by
 have hc:∀ i,rowCell l x i=rowCell l y i:=by
  intro i
  unfold rowCell
  split
  ·rename_i hi
   unfold atT
   rw[show l.terms.getD i ⟨false,0,0⟩=l.terms[i] by simp[List.getD,hi]]
   split
   ·rename_i hv
    simp only[Bool.and_eq_true,decide_eq_true_eq] at hv
    exact h _ ((zfg l _).2 ⟨_,List.getElem_mem hi,hv.1,rfl⟩)
   ·rfl
  ·rfl
 unfold zc3
 rw[hc,hc,hc]
def ycg(T:zae)(l:zal)(y:List Nat):Prop:=(zba l=0->T.count≠0)/\(zba l≠0->(zke T (zb7 l y 5)).isSome=true)
def zt3(r:zah)(Ts Ns:List zae)(y:List Nat):Prop:=(∀(i:Nat) (l:zal) (T:zae),r.plain[i]?=some l->Ts[i]?=some T->ycg T l y)/\∀ x∈r.nots.zip Ns,zdx x.2 (zc3 x.1 y)=none
theorem z16{r:zah}{l:zal}(hl:∀ p,zde l p=true->p < r.vars){d:Nat}(hd:r.vars<=d):zcg l d=zcg l r.vars:=by
 induction hd with
 |refl=>rfl
 |@step m h ih =>
  rw[zes,if_neg (fun q=>by have:=hl _ q;have:r.vars<=m:=h;omega),ih]
theorem z0r{r:zah}(hv:r.vars<=5){l:zal}(hl:∀ p,zde l p=true->p < r.vars)(y:List Nat):zb7 l y 5=zb7 l y r.vars:=by
 unfold zb7
 rw[z16 hl hv]
def ybn(r:zah)(J:zaw)(d:Nat):Prop:=∀(i:Nat) (l:zal) (s:zeq),r.plain[i]?=some l->J.sides[i]?=some s->s.nodes.length=3/\(∀ k,k<=(zcg l d).length->k < 3->goT s.rows 0 ((zb7 l J.values d).take k)=some (s.nodes.getD k 0))/\(goT s.rows 0 (zb7 l J.values d)).isSome=true
def yco(r:zah)(Ns:List zae)(vals:List Nat)(d:Nat):Prop:=∀ x∈r.nots.zip Ns,zdn x.1<=d->zdx x.2 (zc3 x.1 vals)=none
theorem zt8{r:zah}{d i lv:Nat}(h:(i,lv)∈zb2 r d):∃ l,r.plain[i]?=some l/\zde l d=true/\lv=(zcg l d).length:=by
 unfold zb2 at h
 simp only[List.mem_filterMap,Option.map_eq_some_iff,Prod.mk.injEq] at h
 obtain⟨⟨l,j⟩,h1,lv',h2,h3,h4⟩:=h
 rw[zpk] at h2
 split at h2
 ·rename_i hh
  simp only[Option.some.injEq] at h2
  have:=List.mem_zipIdx_iff_getElem?.1 h1
  simp only at this h3 hh h2
  subst h3
  exact⟨l,this,hh,by omega⟩
 ·cases h2
theorem holds_of{r:zah}{d i:Nat}{l:zal}(h:r.plain[i]?=some l)(hh:zde l d=true):(i,(zcg l d).length)∈zb2 r d:=by
 unfold zb2
 simp only[List.mem_filterMap,Option.map_eq_some_iff,Prod.mk.injEq]
 refine⟨(l,i),List.mem_zipIdx_iff_getElem?.2 h,(zcg l d).length,?_,rfl,rfl⟩
 rw[zpk,if_pos hh]
theorem zox(r:zah)(d:Nat):((zb2 r d).map (·.1)).Nodup:=by
 unfold zb2
 have key:∀(ls:List zal) (n:Nat),(((ls.zipIdx n).filterMap fun x=>(zbt x.1 d).map fun lv=>(x.2,lv)).map (·.1)).Nodup/\∀ i∈((ls.zipIdx n).filterMap fun x=>(zbt x.1 d).map fun lv=>(x.2,lv)).map (·.1),n<=i:=by
  intro ls
  induction ls with
  |nil=>intro n;simp
  |cons l ls ih =>
   intro n
   obtain⟨i1,i2⟩:=ih (n+1)
   rw[List.zipIdx_cons,List.filterMap_cons]
   cases hl:(zbt l d).map fun lv=>(n,lv) with
   |none=>exact⟨i1,fun i hi=>by have:=i2 i hi;omega⟩
   |some x =>
    have hx:x.1=n:=by
     simp only[Option.map_eq_some_iff] at hl
     obtain⟨a,_,rfl⟩:=hl
     rfl
    simp only[List.map_cons,List.nodup_cons,List.mem_cons]
    refine⟨⟨fun hm=>by have:=i2 _ hm;omega,i1⟩,?_⟩
    rintro i (rfl|hi)
    ·omega
    ·have:=i2 i hi;omega
 exact(key r.plain 0).1
def setDown(v lv:Nat)(s:zeq):zeq:=if lv+1 ≥ 3 then s else{ s with nodes:=s.nodes.set (lv+1) ((zax s.rows (s.nodes.getD lv 0) v).getD 0) }
theorem z0l{J:zaw}{v:Nat}{h:Nat × Nat}(hs:zcr J h=true):zeu v J h={ J with sides:=J.sides.set h.1 (setDown v h.2 (J.sides.getD h.1 zeq.zero)) }:=by
 unfold zeu setDown
 by_cases h3:h.2+1 ≥ 3
 ·rw[if_pos (Or.inr h3),if_pos h3]
  have hl:h.1 < J.sides.length:=by simp only[zcr,Bool.and_eq_true,decide_eq_true_eq] at hs;exact hs.1
  have:J.sides.set h.1 (J.sides.getD h.1 zeq.zero)=J.sides:=by
   rw[show J.sides.getD h.1 zeq.zero=J.sides[h.1] by simp[List.getD,hl]]
   exact List.set_getElem_self _
  rw[this]
 ·rw[if_neg (by rintro(q|q);rw[hs] at q;cases q;exact h3 q),if_neg h3]
theorem zsl(v:Nat):∀(hs:List (Nat × Nat)) (J:zaw),(hs.map (·.1)).Nodup->(∀ h∈hs,zcr J h=true)->∃ ss,hs.foldl (zeu v) J={ J with sides:=ss }/\ss.length=J.sides.length/\∀ i s,J.sides[i]?=some s->ss[i]?=some (match hs.lookup i with|none=>s|some lv=>setDown v lv s)
 |[],J,_,_=>⟨J.sides,rfl,rfl,fun i s h=>by simpa using h⟩
 |(j,lv)::hs,J,hn,hst=>by
  simp only[List.foldl_cons]
  have h0:=hst (j,lv) (by simp)
  rw[z0l h0]
  simp only
  have hjl:j < J.sides.length:=by simp only[zcr,Bool.and_eq_true,decide_eq_true_eq] at h0;exact h0.1
  simp only[List.map_cons,List.nodup_cons] at hn
  obtain⟨ss,e1,e2,e3⟩:=zsl v hs { J with sides:=J.sides.set j (setDown v lv (J.sides.getD j zeq.zero)) } hn.2 (fun h hh=>by
   have:=hst h (by simp[hh])
   unfold zcr at this ⊢
   simpa using this)
  refine⟨ss,e1,by simpa using e2,fun i s hi=>?_⟩
  by_cases hij:i=j
  ·subst hij
   have hg:J.sides.getD i zeq.zero=s:=by simp[List.getD,hi]
   have:=e3 i (setDown v lv s) (by rw[hg];simp[hjl])
   rw[this]
   have hnone:hs.lookup i=none:=by
    rw[List.lookup_eq_none_iff]
    intro x hx
    have:x.1≠i:=by
     rintro rfl
     exact hn.1 (List.mem_map.2 ⟨x,hx,rfl⟩)
    simpa using fun q=>this q.symm
   rw[hnone]
   simp[List.lookup]
  ·have:=e3 i s (by simp only[List.getElem?_set,Ne.symm hij,if_false];exact hi)
   rw[this]
   have hb:(i == j)=false:=by simp[hij]
   simp[List.lookup,hb]
theorem z1x{hs:List (Nat × Nat)}{i lv:Nat}(hn:(hs.map (·.1)).Nodup)(hm:(i,lv)∈hs):hs.lookup i=some lv:=by
 induction hs with
 |nil=>cases hm
 |cons a hs ih =>
  obtain⟨j,m⟩:=a
  simp only[List.map_cons,List.nodup_cons] at hn
  rcases List.mem_cons.1 hm with e|hm2
  ·simp only[Prod.mk.injEq] at e
   obtain⟨rfl,rfl⟩:=e
   simp[List.lookup]
  ·have:i≠j:=by
    rintro rfl
    exact hn.1 (List.mem_map.2 ⟨(i,lv),hm2,rfl⟩)
   have hb:(i == j)=false:=by simp[this]
   simp only[List.lookup,hb]
   exact ih hn.2 hm2
theorem zxz{hs:List (Nat × Nat)}{i:Nat}(h:∀ lv,(i,lv)∉hs):hs.lookup i=none:=by
 rw[List.lookup_eq_none_iff]
 rintro⟨j,m⟩ hx
 have:i≠j:=by rintro rfl;exact h m hx
 simpa using this
end Go.Proofs.YteampbddflhngaaGreat

namespace Go.Proofs.YteampbddflhngaaGreat
structure JAt (r:zah) (Ts Ns:List zae) (W:Nat) (J:zaw) (d:Nat):Prop where
 stat:ziy r Ts Ns J
 nodes:ybn r J d
 nob:yco r Ns J.values d
 «from» : ∀ i,i < d->J.from.getD i 0=J.values.getD i 0+1
 small:∀ i,i < d->J.values.getD i 0 < W
theorem ziy.same{r:zah}{Ts Ns:List zae}{J J':zaw}(h:ziy r Ts Ns J)(s:zl6 J J'):ziy r Ts Ns J':=by
 rw[s];exact⟨h.head,h.vars,h.holds,h.backs,h.last,h.bars,h.sides,h.vlen,h.flen⟩
theorem JAt.same{r:zah}{Ts Ns:List zae}{W:Nat}{J J':zaw}{d:Nat}(h:JAt r Ts Ns W J d)(s:zl6 J J'):JAt r Ts Ns W J' d:=by
 refine⟨h.stat.same s,?_,?_,?_,?_⟩
 ·rw[s];exact h.nodes
 ·rw[s];exact h.nob
 ·rw[s];exact h.from
 ·rw[s];exact h.small
theorem JAt.back{r:zah}{Ts Ns:List zae}{W:Nat}{J:zaw}{d b:Nat}(h:JAt r Ts Ns W J d)(hb:b<=d):JAt r Ts Ns W J b:=by
 refine⟨h.stat,fun i l s hl hs=>?_,fun x hx hk=>h.nob x hx (by omega),fun i hi=>h.from i (by omega),fun i hi=>h.small i (by omega)⟩
 obtain⟨n1,n2,n3⟩:=h.nodes i l s hl hs
 have hle:(zcg l b).length<=(zcg l d).length:=(ztq l hb).length_le
 refine⟨n1,fun k hk h3=>?_,?_⟩
 ·rw[zi7 l J.values hb,List.take_take,Nat.min_eq_left hk]
  exact n2 k (by omega) h3
 ·rw[zi7 l J.values hb]
  have hsp:zb7 l J.values d=(zb7 l J.values d).take (zcg l b).length++(zb7 l J.values d).drop (zcg l b).length:=(List.take_append_drop _ _).symm
  rw[hsp,zf3] at n3
  cases hg:goT s.rows 0 ((zb7 l J.values d).take (zcg l b).length) with
  |none=>rw[hg] at n3;cases n3
  |some x=>rfl
theorem ziy.side{r:zah}{Ts Ns:List zae}{J:zaw}(h:ziy r Ts Ns J){i:Nat}{s:zeq}(hs:J.sides[i]?=some s):Ts[i]?=some s.rows:=by
 rw[← h.sides];simp[hs]
theorem ziy.some{r:zah}{Ts Ns:List zae}{W:Nat}{J:zaw}(h:ziy r Ts Ns J)(hf:zd4 r Ts W){i:Nat}{l:zal}(hl:r.plain[i]?=some l):∃ s,J.sides[i]?=some s:=by
 have h1:J.sides.length=r.plain.length:=by rw[← hf.len,← h.sides];simp
 have h2:i < r.plain.length:=(List.getElem?_eq_some_iff.1 hl).1
 exact⟨_,List.getElem?_eq_getElem (by omega)⟩
theorem ziy.holdsAt{r:zah}{Ts Ns:List zae}{J:zaw}(h:ziy r Ts Ns J){d:Nat}(hd:d < 5):J.holds.getD d []=zb2 r d:=by
 rw[h.holds];simp[List.getD,hd]
theorem JAt.hold{r:zah}{Ts Ns:List zae}{W:Nat}{J:zaw}{d:Nat}(h:JAt r Ts Ns W J d)(hr:zgc r)(hf:zd4 r Ts W){x:Nat × Nat}(hx:x∈zb2 r d) :
  ∃ l s,r.plain[x.1]?=some l/\J.sides[x.1]?=some s/\zde l d=true/\x.2=(zcg l d).length/\x.2 < 3/\zcr J x=true/\zel s.rows/\s.rows.width<=W/\∀ v,goT s.rows 0 (zb7 l J.values d++[v])=zit J x v:=by
 obtain⟨i,lv⟩:=x
 obtain⟨l,h1,h2,h3⟩:=zt8 hx
 obtain⟨s,hs⟩:=h.stat.some hf h1
 have hlv:(zcg l (d+1)).length=lv+1:=by rw[zes,if_pos h2,h3];simp
 have h4:lv < 3:=by
  have:=zk6 l (d+1)
  have:=hr.terms l (List.mem_of_getElem? h1)
  omega
 have hil:i < J.sides.length:=(List.getElem?_eq_some_iff.1 hs).1
 obtain⟨t1,t2,t3⟩:=hf.ok i l s.rows h1 (h.stat.side hs)
 refine⟨l,s,h1,hs,h2,h3,h4,by simp[zcr,hil,h4],t1,t3,fun v=>?_⟩
 obtain⟨n1,n2,n3⟩:=h.nodes i l s h1 hs
 have:=n2 lv (by omega) h4
 rw[h3,show(zb7 l J.values d).take (zcg l d).length=zb7 l J.values d by rw[← zg9 l J.values d];exact List.take_length] at this
 rw[zf3,this]
 unfold zit
 simp only[List.getD,hs,Option.getD_some,Option.bind_some,goT,h3]
 cases zax s.rows _ v <;> rfl
theorem zt2{r:zah}{Ts Ns:List zae}{J:zaw}(h:ziy r Ts Ns J)(k:Nat):zb3 J k=true↔∃ x∈r.nots.zip Ns,zdn x.1=k/\(zdx x.2 (zc3 x.1 J.values)).isSome=true:=by
 unfold zb3
 rw[h.bars,List.any_map,List.any_eq_true]
 simp
theorem JAt.take{r:zah}{Ts Ns:List zae}{W:Nat}{J:zaw}{d v:Nat}(h:JAt r Ts Ns W J d)(hr:zgc r)(hf:zd4 r Ts W)(hd:d < r.vars)(hv:∀ x∈zb2 r d,(zit J x v).isSome=true)(hW:v < W) :
  (zfx J d v).values=J.values.set d v/\(∀ i,i < d->(zfx J d v).from.getD i 0=J.from.getD i 0)/\(zfx J d v).from.getD d 0=v+1/\(d+1 < 5->(zfx J d v).from.getD (d+1) 0=0)/\JAt r Ts Ns W (zfx J d v) d/\(zb3 (zfx J d v) (d+1)=false->JAt r Ts Ns W (zfx J d v) (d+1)):=by
 have hv5:=hr.vars
 have hd5:d < 5:=by omega
 have hvl:=h.stat.vlen
 have hfl:=h.stat.flen
 unfold zfx
 rw[if_neg (by omega),h.stat.holdsAt hd5]
 obtain⟨ss,e1,e2,e3⟩:=zsl v (zb2 r d) { J with values:=J.values.set d v,«from»:=(if d+1 < 5 then(J.from.set d (v+1)).set (d+1) 0 else J.from.set d (v+1)) } (zox r d) (fun x hx=>by
  obtain⟨_,_,_,_,_,_,_,q,_⟩:=h.hold hr hf hx
  unfold zcr at q ⊢
  exact q)
 rw[e1]
 simp only at e2 e3 ⊢
 have hfr:∀ i,i < d->(if d+1 < 5 then(J.from.set d (v+1)).set (d+1) 0 else J.from.set d (v+1)).getD i 0=J.from.getD i 0:=by
  intro i hi
  split
  ·rw[zan,if_neg (by omega),zan,if_neg (by omega)]
  ·rw[zan,if_neg (by omega)]
 have hfd:(if d+1 < 5 then(J.from.set d (v+1)).set (d+1) 0 else J.from.set d (v+1)).getD d 0=v+1:=by
  split
  ·rw[zan,if_neg (by omega),zan,if_pos ⟨rfl,by omega⟩]
  ·rw[zan,if_pos ⟨rfl,by omega⟩]
 have hrows:ss.map (·.rows)=Ts:=by
  rw[← h.stat.sides]
  refine List.ext_getElem? fun i=>?_
  simp only[List.getElem?_map]
  cases hs:J.sides[i]? with
  |none =>
   have:J.sides.length<=i:=List.getElem?_eq_none_iff.1 hs
   rw[List.getElem?_eq_none (by omega)]
  |some s =>
   rw[e3 i s hs]
   simp only[Option.map_some,Option.some.injEq]
   cases (zb2 r d).lookup i with
   |none=>rfl
   |some lv=>simp only[setDown];split <;> rfl
 have hstat:ziy r Ts Ns { J with sides:=ss,values:=J.values.set d v,«from»:=(if d+1 < 5 then(J.from.set d (v+1)).set (d+1) 0 else J.from.set d (v+1)) }:=⟨h.stat.head,h.stat.vars,h.stat.holds,h.stat.backs,h.stat.last,h.stat.bars,hrows,by simpa using hvl,by show(if d+1 < 5 then(J.from.set d (v+1)).set (d+1) 0 else J.from.set d (v+1)).length=5;split <;> simpa using hfl⟩
 have hlow:∀ l:zal,zb7 l (J.values.set d v) d=zb7 l J.values d:=fun l=>ziu l fun p hp _=>by rw[zan,if_neg (by omega)]
 have hnodes:∀(i:Nat) (l:zal) (s s':zeq),r.plain[i]?=some l->J.sides[i]?=some s->ss[i]?=some s'->s'.nodes.length=3/\(∀ k,k<=(zcg l d).length->k < 3->goT s'.rows 0 ((zb7 l J.values d).take k)=some (s'.nodes.getD k 0))/\(goT s'.rows 0 (zb7 l J.values d)).isSome=true/\(∀ k,k<=(zcg l (d+1)).length->k < 3->goT s'.rows 0 ((zb7 l (J.values.set d v) (d+1)).take k)=some (s'.nodes.getD k 0))/\(goT s'.rows 0 (zb7 l (J.values.set d v) (d+1))).isSome=true:=by
  intro i l s s' hl hs hs'
  obtain⟨n1,n2,n3⟩:=h.nodes i l s hl hs
  rw[e3 i s hs] at hs'
  by_cases hh:zde l d=true
  ·have hm:=holds_of hl hh
   rw[z1x (zox r d) hm] at hs'
   simp only[Option.some.injEq] at hs'
   obtain⟨l',s0,q1,q2,_,q4,q5,_,_,_,q9⟩:=h.hold hr hf hm
   simp only at q1 q2 q5
   rw[hl] at q1;rw[hs] at q2
   simp only[Option.some.injEq] at q1 q2
   subst q1;subst q2
   have hvv:=hv _ hm
   obtain⟨bb,hbb⟩:=Option.isSome_iff_exists.1 hvv
   have hgo:=q9 v
   rw[hbb] at hgo
   have hp:zb7 l (J.values.set d v) (d+1)=zb7 l J.values d++[v]:=by rw[zrv l _ _ _ (by omega),if_pos hh]
   have hrow':s'.rows=s.rows:=by rw[← hs'];unfold setDown;split <;> rfl
   have hlen:(zb7 l J.values d).length=(zcg l d).length:=zg9 _ _ _
   have hnd:∀ k,k<=(zcg l d).length->s'.nodes.getD k 0=s.nodes.getD k 0:=by
    intro k hk
    rw[← hs'];unfold setDown;split
    ·rfl
    ·rw[zan,if_neg (by omega)]
   have hdn:zax s.rows (s.nodes.getD (zcg l d).length 0) v=some bb:=by
    unfold zit at hbb
    simpa [List.getD,hs] using hbb
   refine⟨by rw[← hs'];unfold setDown;split <;> simp[n1],fun k hk h3=>by rw[hrow',hnd k hk];exact n2 k hk h3,by rw[hrow'];exact n3,fun k hk h3=>?_,by rw[hrow',hp,hgo];rfl⟩
   rw[hrow',hp]
   rw[zes,if_pos hh,List.length_append,List.length_singleton] at hk
   by_cases hk2:k<=(zcg l d).length
   ·rw[List.take_append_of_le_length (by omega),hnd k hk2]
    exact n2 k hk2 h3
   ·have:k=(zcg l d).length+1:=by omega
    subst this
    rw[List.take_of_length_le (by simp[hlen]),hgo,← hs']
    unfold setDown
    rw[if_neg (by omega)]
    simp only
    rw[zan,if_pos ⟨rfl,by omega⟩,hdn]
    rfl
  ·have hno:∀ lv,(i,lv)∉zb2 r d:=fun lv hm=>by
    obtain⟨l',q1,q2,_⟩:=zt8 hm
    rw[hl] at q1
    simp only[Option.some.injEq] at q1
    subst q1
    exact hh q2
   rw[zxz hno] at hs'
   simp only[Option.some.injEq] at hs'
   subst hs'
   have hp:zb7 l (J.values.set d v) (d+1)=zb7 l J.values d:=by rw[zrv l _ _ _ (by omega),if_neg hh]
   have hvv:zcg l (d+1)=zcg l d:=by rw[zes,if_neg hh]
   exact⟨n1,n2,n3,by rw[hp,hvv];exact n2,by rw[hp];exact n3⟩
 have hside:∀(i:Nat) (l:zal) (s':zeq),r.plain[i]?=some l->ss[i]?=some s'->∃ s,J.sides[i]?=some s:=fun i l s' hl _=>h.stat.some hf hl
 have hrl:∀ x∈r.nots.zip Ns,zdn x.1<=d->zc3 x.1 (J.values.set d v)=zc3 x.1 J.values:=fun x _ hk=>zf0 x.1 fun p hp=>by
  have:=zl2 x.1 hp
  rw[zan,if_neg (by omega)]
 refine⟨trivial,hfr,hfd,fun h5=>?_,⟨hstat,fun i l s' hl hs'=>?_,fun x hx hk=>?_,fun i hi=>?_,fun i hi=>?_⟩,fun hb=>⟨hstat,fun i l s' hl hs'=>?_,fun x hx hk=>?_,fun i hi=>?_,fun i hi=>?_⟩⟩
 ·rw[if_pos h5,zan,if_pos ⟨rfl,by simp;omega⟩]
 ·obtain⟨s,hs⟩:=hside i l s' hl hs'
  obtain⟨a1,a2,a3,_,_⟩:=hnodes i l s s' hl hs hs'
  exact⟨a1,by rw[hlow];exact a2,by rw[hlow];exact a3⟩
 ·show zdx x.2 (zc3 x.1 (J.values.set d v))=none
  rw[hrl x hx hk];exact h.nob x hx hk
 ·show(if d+1 < 5 then _ else _:List Nat).getD i 0=(J.values.set d v).getD i 0+1
  rw[hfr i hi,zan,if_neg (by omega)];exact h.from i hi
 ·show(J.values.set d v).getD i 0 < W
  rw[zan,if_neg (by omega)];exact h.small i hi
 ·obtain⟨s,hs⟩:=hside i l s' hl hs'
  obtain⟨a1,_,_,a4,a5⟩:=hnodes i l s s' hl hs hs'
  exact⟨a1,a4,a5⟩
 ·show zdx x.2 (zc3 x.1 (J.values.set d v))=none
  by_cases hkd:zdn x.1<=d
  ·rw[hrl x hx hkd];exact h.nob x hx hkd
  ·cases hm:zdx x.2 (zc3 x.1 (J.values.set d v)) with
   |none=>rfl
   |some m =>
    have:=(zt2 hstat (d+1)).2 ⟨x,hx,by omega,by show(zdx x.2 (zc3 x.1 (J.values.set d v))).isSome=true;rw[hm];rfl⟩
    rw[hb] at this;cases this
 ·show(if d+1 < 5 then _ else _:List Nat).getD i 0=(J.values.set d v).getD i 0+1
  by_cases hi2:i=d
  ·subst hi2
   rw[hfd,zan,if_pos ⟨rfl,by omega⟩]
  ·rw[hfr i (by omega),zan,if_neg (by omega)];exact h.from i (by omega)
 ·show(J.values.set d v).getD i 0 < W
  by_cases hi2:i=d
  ·subst hi2
   rw[zan,if_pos ⟨rfl,by omega⟩];exact hW
  ·rw[zan,if_neg (by omega)];exact h.small i (by omega)
end Go.Proofs.YteampbddflhngaaGreat
