import Derived.Test.YteampbddflhngabGreatB38

namespace Go.Proofs.YteampbddflhngabGreat
def ltR:zar->zar->Prop
 |a::x,b::y=>a < b∨a=b/\ltR x y
 |_,_=>False
theorem zmh:∀ x:zar,¬ ltR x x
 |[]=>id
 |a::x=>by
  rintro(h|⟨_,h⟩)
  ·omega
  ·exact zmh x h
theorem zjh(T:zae):∀(d a f:Nat),(zh2 T d a f).Pairwise ltR
 |0,a,f=>by simp[zh2]
 |d+1,a,f=>by
  simp only[zh2]
  rw[List.pairwise_flatMap]
  refine⟨fun v _=>?_,?_⟩
  ·cases zax T a v with
   |none=>exact List.Pairwise.nil
   |some b =>
    simp only
    rw[List.pairwise_map]
    exact(zjh T d b 0).imp fun h=>Or.inr ⟨rfl,h⟩
  ·refine List.Pairwise.imp ?_ (List.pairwise_lt_range' (s:=f) (n:=T.width - f))
   intro v u hvu x hx y hy
   cases h1:zax T a v with
   |none=>rw[h1] at hx;simp at hx
   |some b =>
    rw[h1] at hx
    cases h2:zax T a u with
    |none=>rw[h2] at hy;simp at hy
    |some c =>
     rw[h2] at hy
     simp only[List.mem_map] at hx hy
     obtain⟨x',_,rfl⟩:=hx
     obtain⟨y',_,rfl⟩:=hy
     exact Or.inl hvu
theorem zk0(T:zae)(d a f:Nat):(zh2 T d a f).Nodup:=by
 refine(zjh T d a f).imp ?_
 rintro x y h rfl
 exact zmh x h
theorem zpb:∀ {l1 l2:List zar},l1.Nodup->(∀ x∈l1,x∈l2)->l1.length<=l2.length
 |[],l2,_,_=>by simp
 |a::l1,l2,hn,hs=>by
  have ha:=hs a (by simp)
  have h1:=zpb (l1:=l1) (l2:=l2.erase a) (List.nodup_cons.1 hn).2 (fun x hx=>by
   have hne:x≠a:=by rintro rfl;exact(List.nodup_cons.1 hn).1 hx
   exact(List.mem_erase_of_ne hne).2 (hs x (by simp[hx])))
  rw[List.length_erase_of_mem ha] at h1
  have:=List.length_pos_of_mem ha
  simp;omega
theorem z8m{l1 l2:List zar}(h1:l1.Nodup)(h2:l2.Nodup)(h:∀ x,x∈l1↔x∈l2):l1.length=l2.length :=
 Nat.le_antisymm (zpb h1 fun x hx=>(h x).1 hx) (zpb h2 fun x hx=>(h x).2 hx)
def keysT(T:zae):List zar:=zh2 T T.depth 0 0
theorem zbs(T:zae)(k:zar):k∈keysT T↔k.length=T.depth/\(zkg T k).isSome=true:=by
 unfold keysT
 rw[zpm]
 exact⟨fun h=>⟨h.1,h.2.1⟩,fun h=>⟨h.1,h.2,fun _=>Nat.zero_le _⟩⟩
structure zej (T:zae):Prop where
 inv:∃ pth,ze1 T pth
 cnt:(keysT T).length=T.count
 room:T.nodes.length<=1+2 * T.count
theorem zej.new(w d:Nat):zej (zf4 w d):=by
 refine⟨⟨_,z7g w d⟩,?_,by simp[zf4,zca]⟩
 have:keysT (zf4 w d)=[]:=by
  rw[List.eq_nil_iff_forall_not_mem]
  intro k hk
  obtain⟨h1,h2⟩:=(zbs _ k).1 hk
  rw[znv w d k (by rintro rfl;have:=(zek d).1;rw[zgw] at h1;simp at h1;omega)] at h2
  cases h2
 rw[this];rfl
theorem zli{T:zae}:∀(k:zar) (a:Nat),(goT T a k).isSome=true->∀ v∈k,v < T.width
 |[],_,_,v,hv=>by cases hv
 |u::k,a,h,v,hv=>by
  simp only[goT] at h
  cases hd:zax T a u with
  |none=>rw[hd] at h;simp at h
  |some b =>
   rw[hd] at h
   rcases List.mem_cons.1 hv with rfl|hv
   ·exact(zg7 hd).2
   ·exact zli k b h v hv
theorem zej.add{T:zae}(h:zej T)(row:zar)(m:Nat)(hl:row.length=3)(hf:zor T row=true) :
  zej (zft T row m).1/\(zft T row m).1.width=T.width/\(zft T row m).1.depth=T.depth/\(zft T row m).2=(zkg T (row.take T.depth)).isNone/\((zft T row m).2=false->(zft T row m).1=T)/\((zft T row m).2=true->(zft T row m).1.count=T.count+1)/\∀ q,q.length=T.depth->zkg (zft T row m).1 q=if q=row.take T.depth then some ((zkg T q).getD m) else zkg T q:=by
 obtain⟨pth,hi⟩:=h.inv
 have ha:=z2f hi row m hl hf
 have hd:=hi.dep
 refine⟨⟨ha.inv,?_,?_⟩,ha.width,ha.depth,ha.is,ha.same,fun q=>(ha.more q).1,ha.sem⟩
 ·cases hb:(zft T row m).2 with
  |false=>rw[ha.same hb];exact h.cnt
  |true =>
   rw[(ha.more hb).1,← h.cnt]
   have his:=ha.is
   rw[hb] at his
   have hkl:(row.take T.depth).length=T.depth:=by rw[List.length_take,hl];omega
   have hnot:row.take T.depth∉keysT T:=fun hm=>by
    have:=((zbs T _).1 hm).2
    rw[← Option.not_isNone,← his] at this
    cases this
   have:=z8m (l1:=keysT (zft T row m).1) (l2:=row.take T.depth::keysT T) (zk0 _ _ _ _) (List.nodup_cons.2 ⟨hnot,zk0 _ _ _ _⟩) (fun k=>by
    rw[zbs,ha.depth,List.mem_cons,zbs]
    by_cases hk:k.length=T.depth
    ·rw[ha.sem k hk]
     by_cases e:k=row.take T.depth
     ·simp[e,hkl]
     ·simp[e,hk]
    ·constructor
     ·intro q;exact absurd q.1 hk
     ·rintro(q|q)
      ·rw[q] at hk;exact absurd hkl hk
      ·exact absurd q.1 hk)
   simpa using this
 ·cases hb:(zft T row m).2 with
  |false=>rw[ha.same hb];exact h.room
  |true =>
   have:=ha.more hb
   have:=h.room
   omega
theorem zej.rows{T:zae}(h:zej T)(fuel:Nat)(hf:3 * (T.width+1)<=fuel):zsm fuel T=some ((keysT T).map fun k=>pad k T.depth):=by
 obtain⟨pth,hi⟩:=h.inv
 exact z0d hi fuel hf
theorem zej.rowsG{T:zae}(h:zej T)(fuel:Nat)(hf:3 * (T.width+1)<=fuel)(hc:T.count<=1048576):rowsG fuel T=some ((keysT T).map fun k=>pad k T.depth):=by
 unfold Go.Proofs.YteampbddflhngabGreat.rowsG
 rw[h.rows fuel hf]
 simp[h.cnt,hc]
theorem zej.okT{T:zae}(h:zej T)(hc:T.count<=10000000):okT T=true:=by
 have:=h.room
 simp only[Go.Proofs.YteampbddflhngabGreat.okT,Bool.and_eq_true,decide_eq_true_eq]
 omega
theorem zej.mark{T:zae}(h:zej T)(row:zar)(hl:row.length=3):zdy T row=zkg T (row.take T.depth):=by
 obtain⟨pth,hi⟩:=h.inv
 exact z3n hi row hl
end Go.Proofs.YteampbddflhngabGreat

namespace Go.Proofs.YteampbddflhngabGreat
def zii(J:zaw)(h:Nat × Nat)(v:Nat):Option Nat:=zax (J.sides.getD h.1 zev.zero).rows ((J.sides.getD h.1 zev.zero).nodes.getD h.2 0) v
def zxr(J:zaw):Prop:=∀ i,zha (J.sides.getD i zev.zero).rows
def zlc(J J':zaw):Prop:=J'={ J with moves:=J'.moves }
theorem zlc.trans{a b c:zaw}(h:zlc a b)(k:zlc b c):zlc a c:=by
 unfold zlc at *
 rw[h] at k
 exact k
theorem zlc.sides{a b:zaw}(h:zlc a b):b.sides=a.sides:=by rw[h]
theorem zz7{J:zaw}{h:Nat × Nat}{f:Nat}(hs:zcr J h=true):zlc J (zho J h f).1/\(zho J h f).2=zco (J.sides.getD h.1 zev.zero).rows ((J.sides.getD h.1 zev.zero).nodes.getD h.2 0) f:=by
 unfold zho
 rw[if_pos hs]
 exact⟨rfl,rfl⟩
def zvc(turn same len i:Nat):Prop:=i < turn/\turn<=i+same∨turn<=i/\turn+len<=i+same
def z4m(J:zaw)(hs:List (Nat × Nat))(f:Nat):Option Nat->Prop
 |none=>∀ u,f<=u->∃ h∈hs,zii J h u=none
 |some v=>f<=v/\(∀ h∈hs,(zii J h v).isSome=true)/\∀ u,f<=u->u < v->∃ h∈hs,zii J h u=none
theorem z0n{J J':zaw}(h:zlc J J')(x:Nat × Nat)(v:Nat):zii J' x v=zii J x v:=by unfold zii;rw[h.sides]
theorem zwm(W f:Nat)(hs:List (Nat × Nat))(J0:zaw)(hok:zxr J0)(hst:∀ h∈hs,zcr J0 h=true)(hw:∀ h∈hs,∀ v,(zii J0 h v).isSome=true->v < W) :
  ∀(n:Nat) (J:zaw) (at' same turn:Nat),zlc J0 J->f<=at'->turn < hs.length->same<=hs.length->(∀ u,f<=u->u < at'->∃ h∈hs,zii J0 h u=none)->(∀ i (hi:i < hs.length),zvc turn same hs.length i->(zii J0 hs[i] at').isSome=true)->(W - at') * (hs.length+1)+(hs.length - same) < n →
  ∃ J' res,ziv n J hs at' same turn=some (J',res)/\zlc J0 J'/\z4m J0 hs f res:=by
 intro n
 induction n with
 |zero=>intro J at' same turn _ _ _ _ _ _ h;omega
 |succ n ih =>
  intro J at' same turn hJ hf ht hsm hno hin hn
  unfold ziv
  by_cases hlt:same < hs.length
  ·rw[if_pos hlt]
   have hg:hs.getD turn (0,0)=hs[turn]:=by simp[List.getD,ht]
   have hmem:hs[turn]∈hs:=List.getElem_mem ht
   have hst':zcr J hs[turn]=true:=by
    have:=hst _ hmem
    unfold zcr at this ⊢
    rw[hJ.sides];exact this
   obtain⟨l1,l2⟩:=zz7 (f:=at') hst'
   rw[hJ.sides] at l2
   rw[hg]
   cases hL:zho J hs[turn] at' with
   |mk J1 o =>
    rw[hL] at l1 l2
    simp only at l1 l2
    have hJ1:=hJ.trans l1
    have hnd:=hok hs[turn].1
    cases o with
    |none =>
     refine⟨J1,none,rfl,hJ1,fun u hu=>?_⟩
     by_cases hu2:u < at'
     ·exact hno u hu hu2
     ·exact⟨hs[turn],hmem,zvx hnd l2.symm u (by omega)⟩
    |some v =>
     obtain⟨p1,p2,p3,p4⟩:=zt4 hnd l2.symm
     have hvW:=hw _ hmem v p3
     simp only
     by_cases hgt:v > at'
     ·rw[if_pos hgt,if_pos hgt]
      refine ih J1 v (0+1) _ hJ1 (by omega) (by split <;> omega) (by omega) (fun u h1 h2=>?_) (fun i hi hl=>?_) ?_
      ·by_cases hu2:u < at'
       ·exact hno u h1 hu2
       ·exact⟨hs[turn],hmem,p4 u (by omega) h2⟩
      ·have:i=turn:=by
        unfold zvc at hl
        split at hl <;> omega
       subst this
       exact p3
      ·have e:W - at'=(W - v)+(v - at'):=by omega
       have:(W - at') * (hs.length+1)=(W - v) * (hs.length+1)+(v - at') * (hs.length+1):=by rw[e,Nat.add_mul]
       have:1 * (hs.length+1)<=(v - at') * (hs.length+1):=Nat.mul_le_mul_right _ (by omega)
       omega
     ·have hv:v=at':=by omega
      subst hv
      rw[if_neg hgt,if_neg hgt]
      refine ih J1 v (same+1) _ hJ1 hf (by split <;> omega) (by omega) hno (fun i hi hl=>?_) (by omega)
      by_cases hi2:i=turn
      ·subst hi2;exact p3
      ·refine hin i hi ?_
       unfold zvc at hl ⊢
       split at hl <;> omega
  ·rw[if_neg hlt]
   refine⟨J,some at',rfl,hJ,hf,fun h hh=>?_,hno⟩
   obtain⟨i,hi,rfl⟩:=List.getElem_of_mem hh
   refine hin i hi ?_
   unfold zvc
   omega
theorem zwy(W:Nat)(J:zaw)(place f n:Nat)(hp:place < 5)(hok:zxr J)(hne:J.holds.getD place []≠[])(hst:∀ h∈J.holds.getD place [],zcr J h=true)(hw:∀ h∈J.holds.getD place [],∀ v,(zii J h v).isSome=true->v < W)(hn:W * ((J.holds.getD place []).length+1)+(J.holds.getD place []).length < n) :
  ∃ J' res,zna n J place f=some (J',res)/\zlc J J'/\z4m J (J.holds.getD place []) f res:=by
 have hpos:0 < (J.holds.getD place []).length:=by
  cases hq:J.holds.getD place [] with
  |nil=>exact absurd hq hne
  |cons a l=>simp
 unfold zna
 rw[if_neg (by omega)]
 refine zwm W f _ J hok hst hw n J f 0 0 rfl (Nat.le_refl _) hpos (by omega) (fun u h1 h2=>by omega) (fun i hi hl=>by unfold zvc at hl;omega) ?_
 have:(W - f) * ((J.holds.getD place []).length+1)<=W * ((J.holds.getD place []).length+1):=Nat.mul_le_mul_right _ (by omega)
 omega
end Go.Proofs.YteampbddflhngabGreat

namespace Go.Proofs.YteampbddflhngabGreat
def zch(l:zal)(d:Nat):List Nat:=(List.range d).filter (zdj l)
def zb8(l:zal)(vals:List Nat)(d:Nat):zar:=(zch l d).map fun p=>vals.getD p 0
theorem zet(l:zal)(d:Nat):zch l (d+1)=if zdj l d then zch l d++[d] else zch l d:=by
 unfold zch
 rw[List.range_succ,List.filter_append]
 by_cases h:zdj l d <;> simp[h]
theorem zh6(l:zal)(d p:Nat):p∈zch l d↔p < d/\zdj l p=true:=by simp[zch]
theorem zse(l:zal){a b:Nat}(h:a<=b):zch l a <+: zch l b:=by
 induction h with
 |refl=>exact List.prefix_rfl
 |step h ih =>
  rw[zet]
  split
  ·exact ih.trans (List.prefix_append _ _)
  ·exact ih
theorem zo6(l:zal)(p:Nat):zbq l p=if zdj l p then some (zch l p).length else none:=by
 unfold zbq zch
 rw[List.countP_eq_length_filter]
theorem zen(l:zal):zbd l=(zch l 5).length:=by
 unfold zbd zch
 rw[List.countP_eq_length_filter]
theorem zg9(l:zal)(vals:List Nat)(d:Nat):(zb8 l vals d).length=(zch l d).length:=by simp[zb8]
theorem zid(l:zal){x y:List Nat}{d:Nat}(h:∀ p,p < d->zdj l p=true->x.getD p 0=y.getD p 0):zb8 l x d=zb8 l y d:=by
 unfold zb8
 refine List.map_congr_left fun p hp=>?_
 have:=(zh6 l d p).1 hp
 exact h p this.1 this.2
theorem zja(l:zal)(vals:List Nat){a b:Nat}(h:a<=b):zb8 l vals a=(zb8 l vals b).take (zch l a).length:=by
 obtain⟨t,ht⟩:=zse l h
 unfold zb8
 rw[← ht]
 simp
theorem zra(l:zal)(vals:List Nat)(d v:Nat)(hd:d < vals.length):zb8 l (vals.set d v) (d+1)=if zdj l d then zb8 l vals d++[v] else zb8 l vals d:=by
 have h0:(zch l d).map (fun p=>(vals.set d v).getD p 0)=(zch l d).map fun p=>vals.getD p 0:=by
  refine List.map_congr_left fun p hp=>?_
  have:=(zh6 l d p).1 hp
  rw[zan,if_neg (by omega)]
 unfold zb8
 rw[zet]
 split
 ·rw[List.map_append,h0]
  simp[hd]
 ·exact h0
theorem zqj:∀ {l1 l2:List Nat},l1.Nodup->(∀ x∈l1,x∈l2)->l1.length<=l2.length
 |[],l2,_,_=>by simp
 |a::l1,l2,hn,hs=>by
  have ha:=hs a (by simp)
  have h1:=zqj (l1:=l1) (l2:=l2.erase a) (List.nodup_cons.1 hn).2 (fun x hx=>by
   have hne:x≠a:=by rintro rfl;exact(List.nodup_cons.1 hn).1 hx
   exact(List.mem_erase_of_ne hne).2 (hs x (by simp[hx])))
  rw[List.length_erase_of_mem ha] at h1
  have:=List.length_pos_of_mem ha
  simp;omega
theorem zfn(l:zal)(p:Nat):zdj l p=true↔∃ t∈l.terms,t.var=true/\t.num=p:=by
 unfold zdj
 rw[List.any_eq_true]
 constructor
 ·rintro⟨t,h1,h2⟩
  simp only[Bool.and_eq_true,beq_iff_eq] at h2
  exact⟨t,h1,h2.1,h2.2⟩
 ·rintro⟨t,h1,h2,h3⟩
  exact⟨t,h1,by simp[h2,h3]⟩
theorem zkl(l:zal)(d:Nat):(zch l d).length<=l.terms.length:=by
 have:=zqj (l1:=zch l d) (l2:=l.terms.map (·.num)) (List.nodup_range.filter _) (fun p hp=>by
  obtain⟨t,h1,_,h3⟩:=(zfn l p).1 ((zh6 l d p).1 hp).2
  exact List.mem_map.2 ⟨t,h1,h3⟩)
 simpa using this
theorem zlx(known:Int):∀(ts:List zbp) (k:Int),k<=ts.foldl (fun k t=>if t.var && decide ((t.num:Int) < known) && decide ((t.num:Int) > k) then(t.num:Int) else k) k/\(∀ t∈ts,t.var=true->(t.num:Int) < known->(t.num:Int)<=ts.foldl (fun k t=>if t.var && decide ((t.num:Int) < known) && decide ((t.num:Int) > k) then(t.num:Int) else k) k)/\(k < known->ts.foldl (fun k t=>if t.var && decide ((t.num:Int) < known) && decide ((t.num:Int) > k) then(t.num:Int) else k) k < known)
 |[],k=>⟨Int.le_refl _,fun t h=>(by cases h),fun h=>h⟩
 |t::ts,k=>by
  simp only[List.foldl_cons]
  by_cases hc:(t.var && decide ((t.num:Int) < known) && decide ((t.num:Int) > k))=true
  ·rw[if_pos hc]
   simp only[Bool.and_eq_true,decide_eq_true_eq] at hc
   obtain⟨i1,i2,i3⟩:=zlx known ts (t.num:Int)
   refine⟨by omega,fun u hu hv hk=>?_,fun _=>i3 (by omega)⟩
   rcases List.mem_cons.1 hu with rfl|hu
   ·exact i1
   ·exact i2 u hu hv hk
  ·rw[if_neg hc]
   obtain⟨i1,i2,i3⟩:=zlx known ts k
   refine⟨i1,fun u hu hv hk=>?_,i3⟩
   rcases List.mem_cons.1 hu with rfl|hu
   ·have:(u.num:Int)<=k:=by
     simp only[hv,hk,Bool.true_and,decide_true,decide_eq_true_eq] at hc
     omega
    omega
   ·exact i2 u hu hv hk
theorem zr0(l:zal){known:Int}{p:Nat}(hp:zdj l p=true)(hk:(p:Int) < known):(p:Int)<=ziz l known:=by
 obtain⟨t,h1,h2,h3⟩:=(zfn l p).1 hp
 have:=(zlx known l.terms (-1)).2.1 t h1 h2 (by omega)
 unfold ziz
 omega
theorem zx3(l:zal){known:Int}(hk:0<=known):ziz l known < known:=(zlx known l.terms (-1)).2.2 (by omega)
theorem z3t(l:zal)(known:Int):-1<=ziz l known:=(zlx known l.terms (-1)).1
theorem zlj:∀(ts:List zbp) (k:Nat),k<=ts.foldl (fun k t=>if t.var && decide (t.num ≥ k) then t.num+1 else k) k/\(∀ t∈ts,t.var=true->t.num < ts.foldl (fun k t=>if t.var && decide (t.num ≥ k) then t.num+1 else k) k)/\∀ b,k<=b->(∀ t∈ts,t.var=true->t.num < b)->ts.foldl (fun k t=>if t.var && decide (t.num ≥ k) then t.num+1 else k) k<=b
 |[],k=>⟨Nat.le_refl _,fun t h=>(by cases h),fun b h _=>h⟩
 |t::ts,k=>by
  simp only[List.foldl_cons]
  by_cases hc:(t.var && decide (t.num ≥ k))=true
  ·rw[if_pos hc]
   simp only[Bool.and_eq_true,decide_eq_true_eq] at hc
   obtain⟨i1,i2,i3⟩:=zlj ts (t.num+1)
   refine⟨by omega,fun u hu hv=>?_,fun b hb hq=>i3 b (by have:=hq t (by simp) hc.1;omega) fun u hu=>hq u (by simp[hu])⟩
   rcases List.mem_cons.1 hu with rfl|hu
   ·omega
   ·exact i2 u hu hv
  ·rw[if_neg hc]
   obtain⟨i1,i2,i3⟩:=zlj ts k
   refine⟨i1,fun u hu hv=>?_,fun b hb hq=>i3 b hb fun u hu=>hq u (by simp[hu])⟩
   rcases List.mem_cons.1 hu with rfl|hu
   ·have:u.num < k:=by simp only[hv,Bool.true_and,decide_eq_true_eq] at hc;omega
    omega
   ·exact i2 u hu hv
theorem zle(l:zal){p:Nat}(hp:zdj l p=true):p < zdr l:=by
 obtain⟨t,h1,h2,h3⟩:=(zfn l p).1 hp
 have:=(zlj l.terms 0).2.1 t h1 h2
 unfold zdr
 omega
theorem ztj(l:zal){k:Nat}(h:∀ p,zdj l p=true->p < k):zdr l<=k :=
 (zlj l.terms 0).2.2 k (by omega) fun t ht hv=>h t.num ((zfn l t.num).2 ⟨t,ht,hv,rfl⟩)
theorem z6r(l:zal){known:Int}(hk:0<=known):zh8 l known < known:=by
 unfold zh8;split
 ·omega
 ·exact zx3 l hk
theorem zsu(known:Int):∀(ls:List zal) (b:Int),b<=ls.foldl (zbe known) b/\(∀ l∈ls,zh8 l known<=ls.foldl (zbe known) b)/\(0<=known->b < known->ls.foldl (zbe known) b < known)
 |[],b=>⟨Int.le_refl _,fun l h=>(by cases h),fun _ h=>h⟩
 |l::ls,b=>by
  simp only[List.foldl_cons]
  obtain⟨i1,i2,i3⟩:=zsu known ls (zbe known b l)
  have hs:b<=zbe known b l/\zh8 l known<=zbe known b l:=by unfold zbe;split <;> omega
  refine⟨by omega,fun u hu=>?_,fun h0 hb=>i3 h0 ?_⟩
  ·rcases List.mem_cons.1 hu with rfl|hu
   ·omega
   ·exact i2 u hu
  ·have:=z6r l h0
   unfold zbe;split <;> omega
theorem zmu(r:zah){known:Int}(hk:0<=known):zed r known < known/\-1<=zed r known/\ziz r.head known<=zed r known/\(∀ l∈r.plain,zh8 l known<=zed r known)/\∀ l∈r.nots,zh8 l known<=zed r known:=by
 unfold zed
 obtain⟨a1,a2,a3⟩:=zsu known r.plain (ziz r.head known)
 obtain⟨b1,b2,b3⟩:=zsu known r.nots (r.plain.foldl (zbe known) (ziz r.head known))
 have:=z3t r.head known
 exact⟨b3 hk (a3 hk (zx3 r.head hk)),by omega,by omega,fun l hl=>by have:=a2 l hl;omega,b2⟩
theorem zzg{l:zal}{known:Nat}{b:Int}(h:zh8 l known<=b):(∀ p,zdj l p=true->p < known)∨∀ p,zdj l p=true->p < known->(p:Int)<=b:=by
 unfold zh8 at h
 by_cases hc:(zdr l:Int)<=known
 ·exact Or.inl fun p hp=>by have:=zle l hp;omega
 ·rw[if_neg hc] at h
  exact Or.inr fun p hp hk=>by have:=zr0 l (known:=(known:Int)) hp (by omega);omega
end Go.Proofs.YteampbddflhngabGreat

namespace Go.Proofs.YteampbddflhngabGreat
structure zga (r:zah):Prop where
 vars:r.vars<=5
 terms:∀ l∈r.plain,l.terms.length<=3
 plain:∀ l∈r.plain,∀ p,zdj l p=true->p < r.vars
 nots:∀ l∈r.nots,∀ p,zdj l p=true->p < r.vars
 head:∀ p,zdj r.head p=true->p < r.vars
 safe:∀ p,p < r.vars->∃ l∈r.plain,zdj l p=true
structure zd8 (r:zah) (Ts:List zae) (W:Nat):Prop where
 len:Ts.length=r.plain.length
 ok:∀(i:Nat) (l:zal) (T:zae),r.plain[i]?=some l->Ts[i]?=some T->zej T/\T.depth=zbx (zbd l)/\T.width<=W
structure zi0 (r:zah) (Ts Ns:List zae) (J:zaw):Prop where
 head:J.head=r.head
 vars:J.vars=r.vars
 holds:J.holds=(List.range 5).map (zb3 r)
 backs:J.backs=(List.range 5).map fun p=>zed r (p:Nat)
 last:J.last=zed r r.vars
 bars:J.bars=(r.nots.zip Ns).map fun x=>⟨x.1,zdr x.1,x.2⟩
 sides:J.sides.map (·.rows)=Ts
 vlen:J.values.length=5
 flen:J.from.length=5
theorem zfy(l:zal){x y:List Nat}(h:∀ p,zdj l p=true->x.getD p 0=y.getD p 0):zcu l x=zcu l y:=by
 have hc:∀ i,rowCell l x i=rowCell l y i:=by
  intro i
  unfold rowCell
  split
  ·rename_i hi
   unfold atT
   rw[show l.terms.getD i ⟨false,0,0⟩=l.terms[i] by simp[List.getD,hi]]
   split
   ·rename_i hv
    simp only[Bool.and_eq_true,decide_eq_true_eq] at hv
    exact h _ ((zfn l _).2 ⟨_,List.getElem_mem hi,hv.1,rfl⟩)
   ·rfl
  ·rfl
 unfold zcu
 rw[hc,hc,hc]
def yas(T:zae)(l:zal)(y:List Nat):Prop:=(zbd l=0->T.count≠0)/\(zbd l≠0->(zkg T (zb8 l y 5)).isSome=true)
def zsx(r:zah)(Ts Ns:List zae)(y:List Nat):Prop:=(∀(i:Nat) (l:zal) (T:zae),r.plain[i]?=some l->Ts[i]?=some T->yas T l y)/\∀ x∈r.nots.zip Ns,zdy x.2 (zcu x.1 y)=none
theorem z0m{r:zah}{l:zal}(hl:∀ p,zdj l p=true->p < r.vars){d:Nat}(hd:r.vars<=d):zch l d=zch l r.vars:=by
 induction hd with
 |refl=>rfl
 |@step m h ih =>
  rw[zet,if_neg (fun q=>by have:=hl _ q;have:r.vars<=m:=h;omega),ih]
theorem z1r{r:zah}(hv:r.vars<=5){l:zal}(hl:∀ p,zdj l p=true->p < r.vars)(y:List Nat):zb8 l y 5=zb8 l y r.vars:=by
 unfold zb8
 rw[z0m hl hv]
def z9s(r:zah)(J:zaw)(d:Nat):Prop:=∀(i:Nat) (l:zal) (s:zev),r.plain[i]?=some l->J.sides[i]?=some s->s.nodes.length=3/\(∀ k,k<=(zch l d).length->k < 3->goT s.rows 0 ((zb8 l J.values d).take k)=some (s.nodes.getD k 0))/\(goT s.rows 0 (zb8 l J.values d)).isSome=true
def ya0(r:zah)(Ns:List zae)(vals:List Nat)(d:Nat):Prop:=∀ x∈r.nots.zip Ns,zdr x.1<=d->zdy x.2 (zcu x.1 vals)=none
theorem zvv{r:zah}{d i lv:Nat}(h:(i,lv)∈zb3 r d):∃ l,r.plain[i]?=some l/\zdj l d=true/\lv=(zch l d).length:=by
 unfold zb3 at h
 simp only[List.mem_filterMap,Option.map_eq_some_iff,Prod.mk.injEq] at h
 obtain⟨⟨l,j⟩,h1,lv',h2,h3,h4⟩:=h
 rw[zo6] at h2
 split at h2
 ·rename_i hh
  simp only[Option.some.injEq] at h2
  have:=List.mem_zipIdx_iff_getElem?.1 h1
  simp only at this h3 hh h2
  subst h3
  exact⟨l,this,hh,by omega⟩
 ·cases h2
theorem holds_of{r:zah}{d i:Nat}{l:zal}(h:r.plain[i]?=some l)(hh:zdj l d=true):(i,(zch l d).length)∈zb3 r d:=by
 unfold zb3
 simp only[List.mem_filterMap,Option.map_eq_some_iff,Prod.mk.injEq]
 refine⟨(l,i),List.mem_zipIdx_iff_getElem?.2 h,(zch l d).length,?_,rfl,rfl⟩
 rw[zo6,if_pos hh]
theorem zpn(r:zah)(d:Nat):((zb3 r d).map (·.1)).Nodup:=by
 unfold zb3
 have key:∀(ls:List zal) (n:Nat),(((ls.zipIdx n).filterMap fun x=>(zbq x.1 d).map fun lv=>(x.2,lv)).map (·.1)).Nodup/\∀ i∈((ls.zipIdx n).filterMap fun x=>(zbq x.1 d).map fun lv=>(x.2,lv)).map (·.1),n<=i:=by
  intro ls
  induction ls with
  |nil=>intro n;simp
  |cons l ls ih =>
   intro n
   obtain⟨i1,i2⟩:=ih (n+1)
   rw[List.zipIdx_cons,List.filterMap_cons]
   cases hl:(zbq l d).map fun lv=>(n,lv) with
   |none=>exact⟨i1,fun i hi=>by have:=i2 i hi;omega⟩
   |some x =>
    have hx:x.1=n:=by
     simp only[Option.map_eq_some_iff] at hl
     obtain⟨a,_,rfl⟩:=hl
     rfl
    simp only[List.map_cons,List.nodup_cons,List.mem_cons]
    refine⟨⟨fun hm=>by have:=i2 _ hm;omega,i1⟩,?_⟩
    rintro i (rfl|hi)
    ·omega
    ·have:=i2 i hi;omega
 exact(key r.plain 0).1
def setDown(v lv:Nat)(s:zev):zev:=if lv+1 ≥ 3 then s else{ s with nodes:=s.nodes.set (lv+1) ((zax s.rows (s.nodes.getD lv 0) v).getD 0) }
theorem z1l{J:zaw}{v:Nat}{h:Nat × Nat}(hs:zcr J h=true):zes v J h={ J with sides:=J.sides.set h.1 (setDown v h.2 (J.sides.getD h.1 zev.zero)) }:=by
 unfold zes setDown
 by_cases h3:h.2+1 ≥ 3
 ·rw[if_pos (Or.inr h3),if_pos h3]
  have hl:h.1 < J.sides.length:=by simp only[zcr,Bool.and_eq_true,decide_eq_true_eq] at hs;exact hs.1
  have:J.sides.set h.1 (J.sides.getD h.1 zev.zero)=J.sides:=by
   rw[show J.sides.getD h.1 zev.zero=J.sides[h.1] by simp[List.getD,hl]]
   exact List.set_getElem_self _
  rw[this]
 ·rw[if_neg (by rintro(q|q);rw[hs] at q;cases q;exact h3 q),if_neg h3]
theorem zqm(v:Nat):∀(hs:List (Nat × Nat)) (J:zaw),(hs.map (·.1)).Nodup->(∀ h∈hs,zcr J h=true)->∃ ss,hs.foldl (zes v) J={ J with sides:=ss }/\ss.length=J.sides.length/\∀ i s,J.sides[i]?=some s->ss[i]?=some (match hs.lookup i with|none=>s|some lv=>setDown v lv s)
 |[],J,_,_=>⟨J.sides,rfl,rfl,fun i s h=>by simpa using h⟩
 |(j,lv)::hs,J,hn,hst=>by
  simp only[List.foldl_cons]
  have h0:=hst (j,lv) (by simp)
  rw[z1l h0]
  simp only
  have hjl:j < J.sides.length:=by simp only[zcr,Bool.and_eq_true,decide_eq_true_eq] at h0;exact h0.1
  simp only[List.map_cons,List.nodup_cons] at hn
  obtain⟨ss,e1,e2,e3⟩:=zqm v hs { J with sides:=J.sides.set j (setDown v lv (J.sides.getD j zev.zero)) } hn.2 (fun h hh=>by
   have:=hst h (by simp[hh])
   unfold zcr at this ⊢
   simpa using this)
  refine⟨ss,e1,by simpa using e2,fun i s hi=>?_⟩
  by_cases hij:i=j
  ·subst hij
   have hg:J.sides.getD i zev.zero=s:=by simp[List.getD,hi]
   have:=e3 i (setDown v lv s) (by rw[hg];simp[hjl])
   rw[this]
   have hnone:hs.lookup i=none:=by
    rw[List.lookup_eq_none_iff]
    intro x hx
    have:x.1≠i:=by
     rintro rfl
     exact hn.1 (List.mem_map.2 ⟨x,hx,rfl⟩)
    simpa using fun q=>this q.symm
   rw[hnone]
   simp[List.lookup]
  ·have:=e3 i s (by simp only[List.getElem?_set,Ne.symm hij,if_false];exact hi)
   rw[this]
   have hb:(i == j)=false:=by simp[hij]
   simp[List.lookup,hb]
theorem z1w{hs:List (Nat × Nat)}{i lv:Nat}(hn:(hs.map (·.1)).Nodup)(hm:(i,lv)∈hs):hs.lookup i=some lv:=by
 induction hs with
 |nil=>cases hm
 |cons a hs ih =>
  obtain⟨j,m⟩:=a
  simp only[List.map_cons,List.nodup_cons] at hn
  rcases List.mem_cons.1 hm with e|hm2
  ·simp only[Prod.mk.injEq] at e
   obtain⟨rfl,rfl⟩:=e
   simp[List.lookup]
  ·have:i≠j:=by
    rintro rfl
    exact hn.1 (List.mem_map.2 ⟨(i,lv),hm2,rfl⟩)
   have hb:(i == j)=false:=by simp[this]
   simp only[List.lookup,hb]
   exact ih hn.2 hm2
theorem zxl{hs:List (Nat × Nat)}{i:Nat}(h:∀ lv,(i,lv)∉hs):hs.lookup i=none:=by
 rw[List.lookup_eq_none_iff]
 rintro⟨j,m⟩ hx
 have:i≠j:=by rintro rfl;exact h m hx
 simpa using this
end Go.Proofs.YteampbddflhngabGreat

namespace Go.Proofs.YteampbddflhngabGreat
structure JAt (r:zah) (Ts Ns:List zae) (W:Nat) (J:zaw) (d:Nat):Prop where
 stat:zi0 r Ts Ns J
 nodes:z9s r J d
 nob:ya0 r Ns J.values d
 «from» : ∀ i,i < d->J.from.getD i 0=J.values.getD i 0+1
 small:∀ i,i < d->J.values.getD i 0 < W
theorem zi0.same{r:zah}{Ts Ns:List zae}{J J':zaw}(h:zi0 r Ts Ns J)(s:zlc J J'):zi0 r Ts Ns J':=by
 rw[s];exact⟨h.head,h.vars,h.holds,h.backs,h.last,h.bars,h.sides,h.vlen,h.flen⟩
theorem JAt.same{r:zah}{Ts Ns:List zae}{W:Nat}{J J':zaw}{d:Nat}(h:JAt r Ts Ns W J d)(s:zlc J J'):JAt r Ts Ns W J' d:=by
 refine⟨h.stat.same s,?_,?_,?_,?_⟩
 ·rw[s];exact h.nodes
 ·rw[s];exact h.nob
 ·rw[s];exact h.from
 ·rw[s];exact h.small
theorem JAt.back{r:zah}{Ts Ns:List zae}{W:Nat}{J:zaw}{d b:Nat}(h:JAt r Ts Ns W J d)(hb:b<=d):JAt r Ts Ns W J b:=by
 refine⟨h.stat,fun i l s hl hs=>?_,fun x hx hk=>h.nob x hx (by omega),fun i hi=>h.from i (by omega),fun i hi=>h.small i (by omega)⟩
 obtain⟨n1,n2,n3⟩:=h.nodes i l s hl hs
 have hle:(zch l b).length<=(zch l d).length:=(zse l hb).length_le
 refine⟨n1,fun k hk h3=>?_,?_⟩
 ·rw[zja l J.values hb,List.take_take,Nat.min_eq_left hk]
  exact n2 k (by omega) h3
 ·rw[zja l J.values hb]
  have hsp:zb8 l J.values d=(zb8 l J.values d).take (zch l b).length++(zb8 l J.values d).drop (zch l b).length:=(List.take_append_drop _ _).symm
  rw[hsp,zf3] at n3
  cases hg:goT s.rows 0 ((zb8 l J.values d).take (zch l b).length) with
  |none=>rw[hg] at n3;cases n3
  |some x=>rfl
theorem zi0.side{r:zah}{Ts Ns:List zae}{J:zaw}(h:zi0 r Ts Ns J){i:Nat}{s:zev}(hs:J.sides[i]?=some s):Ts[i]?=some s.rows:=by
 rw[← h.sides];simp[hs]
theorem zi0.some{r:zah}{Ts Ns:List zae}{W:Nat}{J:zaw}(h:zi0 r Ts Ns J)(hf:zd8 r Ts W){i:Nat}{l:zal}(hl:r.plain[i]?=some l):∃ s,J.sides[i]?=some s:=by
 have h1:J.sides.length=r.plain.length:=by rw[← hf.len,← h.sides];simp
 have h2:i < r.plain.length:=(List.getElem?_eq_some_iff.1 hl).1
 exact⟨_,List.getElem?_eq_getElem (by omega)⟩
theorem zi0.holdsAt{r:zah}{Ts Ns:List zae}{J:zaw}(h:zi0 r Ts Ns J){d:Nat}(hd:d < 5):J.holds.getD d []=zb3 r d:=by
 rw[h.holds];simp[List.getD,hd]
theorem JAt.hold{r:zah}{Ts Ns:List zae}{W:Nat}{J:zaw}{d:Nat}(h:JAt r Ts Ns W J d)(hr:zga r)(hf:zd8 r Ts W){x:Nat × Nat}(hx:x∈zb3 r d) :
  ∃ l s,r.plain[x.1]?=some l/\J.sides[x.1]?=some s/\zdj l d=true/\x.2=(zch l d).length/\x.2 < 3/\zcr J x=true/\zej s.rows/\s.rows.width<=W/\∀ v,goT s.rows 0 (zb8 l J.values d++[v])=zii J x v:=by
 obtain⟨i,lv⟩:=x
 obtain⟨l,h1,h2,h3⟩:=zvv hx
 obtain⟨s,hs⟩:=h.stat.some hf h1
 have hlv:(zch l (d+1)).length=lv+1:=by rw[zet,if_pos h2,h3];simp
 have h4:lv < 3:=by
  have:=zkl l (d+1)
  have:=hr.terms l (List.mem_of_getElem? h1)
  omega
 have hil:i < J.sides.length:=(List.getElem?_eq_some_iff.1 hs).1
 obtain⟨t1,t2,t3⟩:=hf.ok i l s.rows h1 (h.stat.side hs)
 refine⟨l,s,h1,hs,h2,h3,h4,by simp[zcr,hil,h4],t1,t3,fun v=>?_⟩
 obtain⟨n1,n2,n3⟩:=h.nodes i l s h1 hs
 have:=n2 lv (by omega) h4
 rw[h3,show(zb8 l J.values d).take (zch l d).length=zb8 l J.values d by rw[← zg9 l J.values d];exact List.take_length] at this
 rw[zf3,this]
 unfold zii
 simp only[List.getD,hs,Option.getD_some,Option.bind_some,goT,h3]
 cases zax s.rows _ v <;> rfl
theorem zry{r:zah}{Ts Ns:List zae}{J:zaw}(h:zi0 r Ts Ns J)(k:Nat):zb4 J k=true↔∃ x∈r.nots.zip Ns,zdr x.1=k/\(zdy x.2 (zcu x.1 J.values)).isSome=true:=by
 unfold zb4
 rw[h.bars,List.any_map,List.any_eq_true]
 simp
theorem JAt.take{r:zah}{Ts Ns:List zae}{W:Nat}{J:zaw}{d v:Nat}(h:JAt r Ts Ns W J d)(hr:zga r)(hf:zd8 r Ts W)(hd:d < r.vars)(hv:∀ x∈zb3 r d,(zii J x v).isSome=true)(hW:v < W) :
  (zfz J d v).values=J.values.set d v/\(∀ i,i < d->(zfz J d v).from.getD i 0=J.from.getD i 0)/\(zfz J d v).from.getD d 0=v+1/\(d+1 < 5->(zfz J d v).from.getD (d+1) 0=0)/\JAt r Ts Ns W (zfz J d v) d/\(zb4 (zfz J d v) (d+1)=false->JAt r Ts Ns W (zfz J d v) (d+1)):=by
 have hv5:=hr.vars
 have hd5:d < 5:=by omega
 have hvl:=h.stat.vlen
 have hfl:=h.stat.flen
 unfold zfz
 rw[if_neg (by omega),h.stat.holdsAt hd5]
 obtain⟨ss,e1,e2,e3⟩:=zqm v (zb3 r d) { J with values:=J.values.set d v,«from»:=(if d+1 < 5 then(J.from.set d (v+1)).set (d+1) 0 else J.from.set d (v+1)) } (zpn r d) (fun x hx=>by
  obtain⟨_,_,_,_,_,_,_,q,_⟩:=h.hold hr hf hx
  unfold zcr at q ⊢
  exact q)
 rw[e1]
 simp only at e2 e3 ⊢
 have hfr:∀ i,i < d->(if d+1 < 5 then(J.from.set d (v+1)).set (d+1) 0 else J.from.set d (v+1)).getD i 0=J.from.getD i 0:=by
  intro i hi
  split
  ·rw[zan,if_neg (by omega),zan,if_neg (by omega)]
  ·rw[zan,if_neg (by omega)]
 have hfd:(if d+1 < 5 then(J.from.set d (v+1)).set (d+1) 0 else J.from.set d (v+1)).getD d 0=v+1:=by
  split
  ·rw[zan,if_neg (by omega),zan,if_pos ⟨rfl,by omega⟩]
  ·rw[zan,if_pos ⟨rfl,by omega⟩]
 have hrows:ss.map (·.rows)=Ts:=by
  rw[← h.stat.sides]
  refine List.ext_getElem? fun i=>?_
  simp only[List.getElem?_map]
  cases hs:J.sides[i]? with
  |none =>
   have:J.sides.length<=i:=List.getElem?_eq_none_iff.1 hs
   rw[List.getElem?_eq_none (by omega)]
  |some s =>
   rw[e3 i s hs]
   simp only[Option.map_some,Option.some.injEq]
   cases (zb3 r d).lookup i with
   |none=>rfl
   |some lv=>simp only[setDown];split <;> rfl
 have hstat:zi0 r Ts Ns { J with sides:=ss,values:=J.values.set d v,«from»:=(if d+1 < 5 then(J.from.set d (v+1)).set (d+1) 0 else J.from.set d (v+1)) }:=⟨h.stat.head,h.stat.vars,h.stat.holds,h.stat.backs,h.stat.last,h.stat.bars,hrows,by simpa using hvl,by show(if d+1 < 5 then(J.from.set d (v+1)).set (d+1) 0 else J.from.set d (v+1)).length=5;split <;> simpa using hfl⟩
 have hlow:∀ l:zal,zb8 l (J.values.set d v) d=zb8 l J.values d:=fun l=>zid l fun p hp _=>by rw[zan,if_neg (by omega)]
 have hnodes:∀(i:Nat) (l:zal) (s s':zev),r.plain[i]?=some l->J.sides[i]?=some s->ss[i]?=some s'->s'.nodes.length=3/\(∀ k,k<=(zch l d).length->k < 3->goT s'.rows 0 ((zb8 l J.values d).take k)=some (s'.nodes.getD k 0))/\(goT s'.rows 0 (zb8 l J.values d)).isSome=true/\(∀ k,k<=(zch l (d+1)).length->k < 3->goT s'.rows 0 ((zb8 l (J.values.set d v) (d+1)).take k)=some (s'.nodes.getD k 0))/\(goT s'.rows 0 (zb8 l (J.values.set d v) (d+1))).isSome=true:=by
  intro i l s s' hl hs hs'
  obtain⟨n1,n2,n3⟩:=h.nodes i l s hl hs
  rw[e3 i s hs] at hs'
  by_cases hh:zdj l d=true
  ·have hm:=holds_of hl hh
   rw[z1w (zpn r d) hm] at hs'
   simp only[Option.some.injEq] at hs'
   obtain⟨l',s0,q1,q2,_,q4,q5,_,_,_,q9⟩:=h.hold hr hf hm
   simp only at q1 q2 q5
   rw[hl] at q1;rw[hs] at q2
   simp only[Option.some.injEq] at q1 q2
   subst q1;subst q2
   have hvv:=hv _ hm
   obtain⟨bb,hbb⟩:=Option.isSome_iff_exists.1 hvv
   have hgo:=q9 v
   rw[hbb] at hgo
   have hp:zb8 l (J.values.set d v) (d+1)=zb8 l J.values d++[v]:=by rw[zra l _ _ _ (by omega),if_pos hh]
   have hrow':s'.rows=s.rows:=by rw[← hs'];unfold setDown;split <;> rfl
   have hlen:(zb8 l J.values d).length=(zch l d).length:=zg9 _ _ _
   have hnd:∀ k,k<=(zch l d).length->s'.nodes.getD k 0=s.nodes.getD k 0:=by
    intro k hk
    rw[← hs'];unfold setDown;split
    ·rfl
    ·rw[zan,if_neg (by omega)]
   have hdn:zax s.rows (s.nodes.getD (zch l d).length 0) v=some bb:=by
    unfold zii at hbb
    simpa [List.getD,hs] using hbb
   refine⟨by rw[← hs'];unfold setDown;split <;> simp[n1],fun k hk h3=>by rw[hrow',hnd k hk];exact n2 k hk h3,by rw[hrow'];exact n3,fun k hk h3=>?_,by rw[hrow',hp,hgo];rfl⟩
   rw[hrow',hp]
   rw[zet,if_pos hh,List.length_append,List.length_singleton] at hk
   by_cases hk2:k<=(zch l d).length
   ·rw[List.take_append_of_le_length (by omega),hnd k hk2]
    exact n2 k hk2 h3
   ·have:k=(zch l d).length+1:=by omega
    subst this
    rw[List.take_of_length_le (by simp[hlen]),hgo,← hs']
    unfold setDown
    rw[if_neg (by omega)]
    simp only
    rw[zan,if_pos ⟨rfl,by omega⟩,hdn]
    rfl
  ·have hno:∀ lv,(i,lv)∉zb3 r d:=fun lv hm=>by
    obtain⟨l',q1,q2,_⟩:=zvv hm
    rw[hl] at q1
    simp only[Option.some.injEq] at q1
    subst q1
    exact hh q2
   rw[zxl hno] at hs'
   simp only[Option.some.injEq] at hs'
   subst hs'
   have hp:zb8 l (J.values.set d v) (d+1)=zb8 l J.values d:=by rw[zra l _ _ _ (by omega),if_neg hh]
   have hvv:zch l (d+1)=zch l d:=by rw[zet,if_neg hh]
   exact⟨n1,n2,n3,by rw[hp,hvv];exact n2,by rw[hp];exact n3⟩
 have hside:∀(i:Nat) (l:zal) (s':zev),r.plain[i]?=some l->ss[i]?=some s'->∃ s,J.sides[i]?=some s:=fun i l s' hl _=>h.stat.some hf hl
 have hrl:∀ x∈r.nots.zip Ns,zdr x.1<=d->zcu x.1 (J.values.set d v)=zcu x.1 J.values:=fun x _ hk=>zfy x.1 fun p hp=>by
  have:=zle x.1 hp
  rw[zan,if_neg (by omega)]
 refine⟨trivial,hfr,hfd,fun h5=>?_,⟨hstat,fun i l s' hl hs'=>?_,fun x hx hk=>?_,fun i hi=>?_,fun i hi=>?_⟩,fun hb=>⟨hstat,fun i l s' hl hs'=>?_,fun x hx hk=>?_,fun i hi=>?_,fun i hi=>?_⟩⟩
 ·rw[if_pos h5,zan,if_pos ⟨rfl,by simp;omega⟩]
 ·obtain⟨s,hs⟩:=hside i l s' hl hs'
  obtain⟨a1,a2,a3,_,_⟩:=hnodes i l s s' hl hs hs'
  exact⟨a1,by rw[hlow];exact a2,by rw[hlow];exact a3⟩
 ·show zdy x.2 (zcu x.1 (J.values.set d v))=none
  rw[hrl x hx hk];exact h.nob x hx hk
 ·show(if d+1 < 5 then _ else _:List Nat).getD i 0=(J.values.set d v).getD i 0+1
  rw[hfr i hi,zan,if_neg (by omega)];exact h.from i hi
 ·show(J.values.set d v).getD i 0 < W
  rw[zan,if_neg (by omega)];exact h.small i hi
 ·obtain⟨s,hs⟩:=hside i l s' hl hs'
  obtain⟨a1,_,_,a4,a5⟩:=hnodes i l s s' hl hs hs'
  exact⟨a1,a4,a5⟩
 ·show zdy x.2 (zcu x.1 (J.values.set d v))=none
  by_cases hkd:zdr x.1<=d
  ·rw[hrl x hx hkd];exact h.nob x hx hkd
  ·cases hm:zdy x.2 (zcu x.1 (J.values.set d v)) with
   |none=>rfl
   |some m =>
    have:=(zry hstat (d+1)).2 ⟨x,hx,by omega,by show(zdy x.2 (zcu x.1 (J.values.set d v))).isSome=true;rw[hm];rfl⟩
    rw[hb] at this;cases this
 ·show(if d+1 < 5 then _ else _:List Nat).getD i 0=(J.values.set d v).getD i 0+1
  by_cases hi2:i=d
  ·subst hi2
   rw[hfd,zan,if_pos ⟨rfl,by omega⟩]
  ·rw[hfr i (by omega),zan,if_neg (by omega)];exact h.from i (by omega)
 ·show(J.values.set d v).getD i 0 < W
  by_cases hi2:i=d
  ·subst hi2
   rw[zan,if_pos ⟨rfl,by omega⟩];exact hW
  ·rw[zan,if_neg (by omega)];exact h.small i (by omega)
end Go.Proofs.YteampbddflhngabGreat
