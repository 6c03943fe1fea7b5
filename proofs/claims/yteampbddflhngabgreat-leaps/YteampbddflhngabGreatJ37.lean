import Derived.Test.YteampbddflhngabGreatJ36

namespace Go.Proofs.YteampbddflhngabGreat
def ltR:zaq->zaq->Prop
 |a::x,b::y=>a < b∨a=b/\ltR x y
 |_,_=>False
theorem zpi:∀ x:zaq,¬ ltR x x
 |[]=>id
 |a::x=>by
  rintro(h|⟨_,h⟩)
  ·omega
  ·exact zpi x h
theorem zlz(T:zad):∀(d a f:Nat),(zhm T d a f).Pairwise ltR
 |0,a,f=>by simp[zhm]
 |d+1,a,f=>by
  simp only[zhm]
  rw[List.pairwise_flatMap]
  refine⟨fun v _=>?_,?_⟩
  ·cases zaw T a v with
   |none=>exact List.Pairwise.nil
   |some b =>
    simp only
    rw[List.pairwise_map]
    exact(zlz T d b 0).imp fun h=>Or.inr ⟨rfl,h⟩
  ·refine List.Pairwise.imp ?_ (List.pairwise_lt_range' (s:=f) (n:=T.width - f))
   intro v u hvu x hx y hy
   cases h1:zaw T a v with
   |none=>rw[h1] at hx;simp at hx
   |some b =>
    rw[h1] at hx
    cases h2:zaw T a u with
    |none=>rw[h2] at hy;simp at hy
    |some c =>
     rw[h2] at hy
     simp only[List.mem_map] at hx hy
     obtain⟨x',_,rfl⟩:=hx
     obtain⟨y',_,rfl⟩:=hy
     exact Or.inl hvu
theorem zjv(T:zad)(d a f:Nat):(zhm T d a f).Nodup:=by
 refine(zlz T d a f).imp ?_
 rintro x y h rfl
 exact zpi x h
theorem zno:∀ {l1 l2:List zaq},l1.Nodup->(∀ x∈l1,x∈l2)->l1.length<=l2.length
 |[],l2,_,_=>by simp
 |a::l1,l2,hn,hs=>by
  have ha:=hs a (by simp)
  have h1:=zno (l1:=l1) (l2:=l2.erase a) (List.nodup_cons.1 hn).2 (fun x hx=>by
   have hne:x≠a:=by rintro rfl;exact(List.nodup_cons.1 hn).1 hx
   exact(List.mem_erase_of_ne hne).2 (hs x (by simp[hx])))
  rw[List.length_erase_of_mem ha] at h1
  have:=List.length_pos_of_mem ha
  simp;omega
theorem z4l{l1 l2:List zaq}(h1:l1.Nodup)(h2:l2.Nodup)(h:∀ x,x∈l1↔x∈l2):l1.length=l2.length :=
 Nat.le_antisymm (zno h1 fun x hx=>(h x).1 hx) (zno h2 fun x hx=>(h x).2 hx)
def keysT(T:zad):List zaq:=zhm T T.depth 0 0
theorem zb0(T:zad)(k:zaq):k∈keysT T↔k.length=T.depth/\(zjg T k).isSome=true:=by
 unfold keysT
 rw[zng]
 exact⟨fun h=>⟨h.1,h.2.1⟩,fun h=>⟨h.1,h.2,fun _=>Nat.zero_le _⟩⟩
structure zd0 (T:zad):Prop where
 inv:∃ pth,zen T pth
 cnt:(keysT T).length=T.count
 room:T.nodes.length<=1+2 * T.count
theorem zd0.new(w d:Nat):zd0 (zfp w d):=by
 refine⟨⟨_,z4j w d⟩,?_,by simp[zfp,zb3]⟩
 have:keysT (zfp w d)=[]:=by
  rw[List.eq_nil_iff_forall_not_mem]
  intro k hk
  obtain⟨h1,h2⟩:=(zb0 _ k).1 hk
  rw[zmm w d k (by rintro rfl;have:=(zd5 d).1;rw[zgj] at h1;simp at h1;omega)] at h2
  cases h2
 rw[this];rfl
theorem zk4{T:zad}:∀(k:zaq) (a:Nat),(goT T a k).isSome=true->∀ v∈k,v < T.width
 |[],_,_,v,hv=>by cases hv
 |u::k,a,h,v,hv=>by
  simp only[goT] at h
  cases hd:zaw T a u with
  |none=>rw[hd] at h;simp at h
  |some b =>
   rw[hd] at h
   rcases List.mem_cons.1 hv with rfl|hv
   ·exact(zgp hd).2
   ·exact zk4 k b h v hv
theorem zd0.add{T:zad}(h:zd0 T)(row:zaq)(m:Nat)(hl:row.length=3)(hf:zm9 T row=true) :
  zd0 (zfh T row m).1/\(zfh T row m).1.width=T.width/\(zfh T row m).1.depth=T.depth/\(zfh T row m).2=(zjg T (row.take T.depth)).isNone/\((zfh T row m).2=false->(zfh T row m).1=T)/\((zfh T row m).2=true->(zfh T row m).1.count=T.count+1)/\∀ q,q.length=T.depth->zjg (zfh T row m).1 q=if q=row.take T.depth then some ((zjg T q).getD m) else zjg T q:=by
 obtain⟨pth,hi⟩:=h.inv
 have ha:=zzp hi row m hl hf
 have hd:=hi.dep
 refine⟨⟨ha.inv,?_,?_⟩,ha.width,ha.depth,ha.is,ha.same,fun q=>(ha.more q).1,ha.sem⟩
 ·cases hb:(zfh T row m).2 with
  |false=>rw[ha.same hb];exact h.cnt
  |true =>
   rw[(ha.more hb).1,← h.cnt]
   have his:=ha.is
   rw[hb] at his
   have hkl:(row.take T.depth).length=T.depth:=by rw[List.length_take,hl];omega
   have hnot:row.take T.depth∉keysT T:=fun hm=>by
    have:=((zb0 T _).1 hm).2
    rw[← Option.not_isNone,← his] at this
    cases this
   have:=z4l (l1:=keysT (zfh T row m).1) (l2:=row.take T.depth::keysT T) (zjv _ _ _ _) (List.nodup_cons.2 ⟨hnot,zjv _ _ _ _⟩) (fun k=>by
    rw[zb0,ha.depth,List.mem_cons,zb0]
    by_cases hk:k.length=T.depth
    ·rw[ha.sem k hk]
     by_cases e:k=row.take T.depth
     ·simp[e,hkl]
     ·simp[e,hk]
    ·constructor
     ·intro q;exact absurd q.1 hk
     ·rintro(q|q)
      ·rw[q] at hk;exact absurd hkl hk
      ·exact absurd q.1 hk)
   simpa using this
 ·cases hb:(zfh T row m).2 with
  |false=>rw[ha.same hb];exact h.room
  |true =>
   have:=ha.more hb
   have:=h.room
   omega
theorem zd0.rows{T:zad}(h:zd0 T)(fuel:Nat)(hf:3 * (T.width+1)<=fuel):zq5 fuel T=some ((keysT T).map fun k=>pad k T.depth):=by
 obtain⟨pth,hi⟩:=h.inv
 exact zy0 hi fuel hf
theorem zd0.rowsG{T:zad}(h:zd0 T)(fuel:Nat)(hf:3 * (T.width+1)<=fuel)(hc:T.count<=1048576):rowsG fuel T=some ((keysT T).map fun k=>pad k T.depth):=by
 unfold Go.Proofs.YteampbddflhngabGreat.rowsG
 rw[h.rows fuel hf]
 simp[h.cnt,hc]
theorem zd0.okT{T:zad}(h:zd0 T)(hc:T.count<=10000000):okT T=true:=by
 have:=h.room
 simp only[Go.Proofs.YteampbddflhngabGreat.okT,Bool.and_eq_true,decide_eq_true_eq]
 omega
theorem zd0.mark{T:zad}(h:zd0 T)(row:zaq)(hl:row.length=3):zes T row=zjg T (row.take T.depth):=by
 obtain⟨pth,hi⟩:=h.inv
 exact z09 hi row hl
def zhw(J:zat)(h:Nat × Nat)(v:Nat):Option Nat:=zaw (J.sides.getD h.1 zea.zero).rows ((J.sides.getD h.1 zea.zero).nodes.getD h.2 0) v
def zua(J:zat):Prop:=∀ i,zgl (J.sides.getD i zea.zero).rows
def zj9(J J':zat):Prop:=J'={ J with moves:=J'.moves }
theorem zj9.trans{a b c:zat}(h:zj9 a b)(k:zj9 b c):zj9 a c:=by
 unfold zj9 at *
 rw[h] at k
 exact k
theorem zj9.sides{a b:zat}(h:zj9 a b):b.sides=a.sides:=by rw[h]
theorem zyj{J:zat}{h:Nat × Nat}{f:Nat}(hs:zcn J h=true):zj9 J (zhb J h f).1/\(zhb J h f).2=zcj (J.sides.getD h.1 zea.zero).rows ((J.sides.getD h.1 zea.zero).nodes.getD h.2 0) f:=by
 unfold zhb
 rw[if_pos hs]
 exact⟨rfl,rfl⟩
def zsh(turn same len i:Nat):Prop:=i < turn/\turn<=i+same∨turn<=i/\turn+len<=i+same
def zzk(J:zat)(hs:List (Nat × Nat))(f:Nat):Option Nat->Prop
 |none=>∀ u,f<=u->∃ h∈hs,zhw J h u=none
 |some v=>f<=v/\(∀ h∈hs,(zhw J h v).isSome=true)/\∀ u,f<=u->u < v->∃ h∈hs,zhw J h u=none
theorem zx8{J J':zat}(h:zj9 J J')(x:Nat × Nat)(v:Nat):zhw J' x v=zhw J x v:=by unfold zhw;rw[h.sides]
theorem zui(W f:Nat)(hs:List (Nat × Nat))(J0:zat)(hok:zua J0)(hst:∀ h∈hs,zcn J0 h=true)(hw:∀ h∈hs,∀ v,(zhw J0 h v).isSome=true->v < W) :
  ∀(n:Nat) (J:zat) (at' same turn:Nat),zj9 J0 J->f<=at'->turn < hs.length->same<=hs.length->(∀ u,f<=u->u < at'->∃ h∈hs,zhw J0 h u=none)->(∀ i (hi:i < hs.length),zsh turn same hs.length i->(zhw J0 hs[i] at').isSome=true)->(W - at') * (hs.length+1)+(hs.length - same) < n →
  ∃ J' res,zh4 n J hs at' same turn=some (J',res)/\zj9 J0 J'/\zzk J0 hs f res:=by
 intro n
 induction n with
 |zero=>intro J at' same turn _ _ _ _ _ _ h;omega
 |succ n ih =>
  intro J at' same turn hJ hf ht hsm hno hin hn
  unfold zh4
  by_cases hlt:same < hs.length
  ·rw[if_pos hlt]
   have hg:hs.getD turn (0,0)=hs[turn]:=by simp[List.getD,ht]
   have hmem:hs[turn]∈hs:=List.getElem_mem ht
   have hst':zcn J hs[turn]=true:=by
    have:=hst _ hmem
    unfold zcn at this ⊢
    rw[hJ.sides];exact this
   obtain⟨l1,l2⟩:=zyj (f:=at') hst'
   rw[hJ.sides] at l2
   rw[hg]
   cases hL:zhb J hs[turn] at' with
   |mk J1 o =>
    rw[hL] at l1 l2
    simp only at l1 l2
    have hJ1:=hJ.trans l1
    have hnd:=hok hs[turn].1
    cases o with
    |none =>
     refine⟨J1,none,rfl,hJ1,fun u hu=>?_⟩
     by_cases hu2:u < at'
     ·exact hno u hu hu2
     ·exact⟨hs[turn],hmem,zsu hnd l2.symm u (by omega)⟩
    |some v =>
     obtain⟨p1,p2,p3,p4⟩:=zsv hnd l2.symm
     have hvW:=hw _ hmem v p3
     simp only
     by_cases hgt:v > at'
     ·rw[if_pos hgt,if_pos hgt]
      refine ih J1 v (0+1) _ hJ1 (by omega) (by split <;> omega) (by omega) (fun u h1 h2=>?_) (fun i hi hl=>?_) ?_
      ·by_cases hu2:u < at'
       ·exact hno u h1 hu2
       ·exact⟨hs[turn],hmem,p4 u (by omega) h2⟩
      ·have:i=turn:=by
        unfold zsh at hl
        split at hl <;> omega
       subst this
       exact p3
      ·have e:W - at'=(W - v)+(v - at'):=by omega
       have:(W - at') * (hs.length+1)=(W - v) * (hs.length+1)+(v - at') * (hs.length+1):=by rw[e,Nat.add_mul]
       have:1 * (hs.length+1)<=(v - at') * (hs.length+1):=Nat.mul_le_mul_right _ (by omega)
       omega
     ·have hv:v=at':=by omega
      subst hv
      rw[if_neg hgt,if_neg hgt]
      refine ih J1 v (same+1) _ hJ1 hf (by split <;> omega) (by omega) hno (fun i hi hl=>?_) (by omega)
      by_cases hi2:i=turn
      ·subst hi2;exact p3
      ·refine hin i hi ?_
       unfold zsh at hl ⊢
       split at hl <;> omega
  ·rw[if_neg hlt]
   refine⟨J,some at',rfl,hJ,hf,fun h hh=>?_,hno⟩
   obtain⟨i,hi,rfl⟩:=List.getElem_of_mem hh
   refine hin i hi ?_
   unfold zsh
   omega
theorem zuh(W:Nat)(J:zat)(place f n:Nat)(hp:place < 5)(hok:zua J)(hne:J.holds.getD place []≠[])(hst:∀ h∈J.holds.getD place [],zcn J h=true)(hw:∀ h∈J.holds.getD place [],∀ v,(zhw J h v).isSome=true->v < W)(hn:W * ((J.holds.getD place []).length+1)+(J.holds.getD place []).length < n) :
  ∃ J' res,zlu n J place f=some (J',res)/\zj9 J J'/\zzk J (J.holds.getD place []) f res:=by
 have hpos:0 < (J.holds.getD place []).length:=by
  cases hq:J.holds.getD place [] with
  |nil=>exact absurd hq hne
  |cons a l=>simp
 unfold zlu
 rw[if_neg (by omega)]
 refine zui W f _ J hok hst hw n J f 0 0 rfl (Nat.le_refl _) hpos (by omega) (fun u h1 h2=>by omega) (fun i hi hl=>by unfold zsh at hl;omega) ?_
 have:(W - f) * ((J.holds.getD place []).length+1)<=W * ((J.holds.getD place []).length+1):=Nat.mul_le_mul_right _ (by omega)
 omega
def zcb(l:zai)(d:Nat):List Nat:=(List.range d).filter (zc8 l)
def zb1(l:zai)(vals:List Nat)(d:Nat):zaq:=(zcb l d).map fun p=>vals.getD p 0
theorem zef(l:zai)(d:Nat):zcb l (d+1)=if zc8 l d then zcb l d++[d] else zcb l d:=by
 unfold zcb
 rw[List.range_succ,List.filter_append]
 by_cases h:zc8 l d <;> simp[h]
theorem zht(l:zai)(d p:Nat):p∈zcb l d↔p < d/\zc8 l p=true:=by simp[zcb]
theorem zra(l:zai){a b:Nat}(h:a<=b):zcb l a <+: zcb l b:=by
 induction h with
 |refl=>exact List.prefix_rfl
 |step h ih =>
  rw[zef]
  split
  ·exact ih.trans (List.prefix_append _ _)
  ·exact ih
theorem znh(l:zai)(p:Nat):zbj l p=if zc8 l p then some (zcb l p).length else none:=by
 unfold zbj zcb
 rw[List.countP_eq_length_filter]
theorem zd4(l:zai):za7 l=(zcb l 5).length:=by
 unfold za7 zcb
 rw[List.countP_eq_length_filter]
theorem zgt(l:zai)(vals:List Nat)(d:Nat):(zb1 l vals d).length=(zcb l d).length:=by simp[zb1]
theorem zh1(l:zai){x y:List Nat}{d:Nat}(h:∀ p,p < d->zc8 l p=true->x.getD p 0=y.getD p 0):zb1 l x d=zb1 l y d:=by
 unfold zb1
 refine List.map_congr_left fun p hp=>?_
 have:=(zht l d p).1 hp
 exact h p this.1 this.2
theorem ziu(l:zai)(vals:List Nat){a b:Nat}(h:a<=b):zb1 l vals a=(zb1 l vals b).take (zcb l a).length:=by
 obtain⟨t,ht⟩:=zra l h
 unfold zb1
 rw[← ht]
 simp
theorem zpv(l:zai)(vals:List Nat)(d v:Nat)(hd:d < vals.length):zb1 l (vals.set d v) (d+1)=if zc8 l d then zb1 l vals d++[v] else zb1 l vals d:=by
 have h0:(zcb l d).map (fun p=>(vals.set d v).getD p 0)=(zcb l d).map fun p=>vals.getD p 0:=by
  refine List.map_congr_left fun p hp=>?_
  have:=(zht l d p).1 hp
  rw[zal,if_neg (by omega)]
 unfold zb1
 rw[zef]
 split
 ·rw[List.map_append,h0]
  simp[hd]
 ·exact h0
theorem zpn:∀ {l1 l2:List Nat},l1.Nodup->(∀ x∈l1,x∈l2)->l1.length<=l2.length
 |[],l2,_,_=>by simp
 |a::l1,l2,hn,hs=>by
  have ha:=hs a (by simp)
  have h1:=zpn (l1:=l1) (l2:=l2.erase a) (List.nodup_cons.1 hn).2 (fun x hx=>by
   have hne:x≠a:=by rintro rfl;exact(List.nodup_cons.1 hn).1 hx
   exact(List.mem_erase_of_ne hne).2 (hs x (by simp[hx])))
  rw[List.length_erase_of_mem ha] at h1
  have:=List.length_pos_of_mem ha
  simp;omega
theorem ze9(l:zai)(p:Nat):zc8 l p=true↔∃ t∈l.terms,t.var=true/\t.num=p:=by
 unfold zc8
 rw[List.any_eq_true]
 constructor
 ·rintro⟨t,h1,h2⟩
  simp only[Bool.and_eq_true,beq_iff_eq] at h2
  exact⟨t,h1,h2.1,h2.2⟩
 ·rintro⟨t,h1,h2,h3⟩
  exact⟨t,h1,by simp[h2,h3]⟩
theorem zj6(l:zai)(d:Nat):(zcb l d).length<=l.terms.length:=by
 have:=zpn (l1:=zcb l d) (l2:=l.terms.map (·.num)) (List.nodup_range.filter _) (fun p hp=>by
  obtain⟨t,h1,_,h3⟩:=(ze9 l p).1 ((zht l d p).1 hp).2
  exact List.mem_map.2 ⟨t,h1,h3⟩)
 simpa using this
theorem zks(known:Int):∀(ts:List zbh) (k:Int),k<=ts.foldl (fun k t=>if t.var && decide ((t.num:Int) < known) && decide ((t.num:Int) > k) then(t.num:Int) else k) k/\(∀ t∈ts,t.var=true->(t.num:Int) < known->(t.num:Int)<=ts.foldl (fun k t=>if t.var && decide ((t.num:Int) < known) && decide ((t.num:Int) > k) then(t.num:Int) else k) k)/\(k < known->ts.foldl (fun k t=>if t.var && decide ((t.num:Int) < known) && decide ((t.num:Int) > k) then(t.num:Int) else k) k < known)
 |[],k=>⟨Int.le_refl _,fun t h=>(by cases h),fun h=>h⟩
 |t::ts,k=>by
  simp only[List.foldl_cons]
  by_cases hc:(t.var && decide ((t.num:Int) < known) && decide ((t.num:Int) > k))=true
  ·rw[if_pos hc]
   simp only[Bool.and_eq_true,decide_eq_true_eq] at hc
   obtain⟨i1,i2,i3⟩:=zks known ts (t.num:Int)
   refine⟨by omega,fun u hu hv hk=>?_,fun _=>i3 (by omega)⟩
   rcases List.mem_cons.1 hu with rfl|hu
   ·exact i1
   ·exact i2 u hu hv hk
  ·rw[if_neg hc]
   obtain⟨i1,i2,i3⟩:=zks known ts k
   refine⟨i1,fun u hu hv hk=>?_,i3⟩
   rcases List.mem_cons.1 hu with rfl|hu
   ·have:(u.num:Int)<=k:=by
     simp only[hv,hk,Bool.true_and,decide_true,decide_eq_true_eq] at hc
     omega
    omega
   ·exact i2 u hu hv hk
theorem zqr(l:zai){known:Int}{p:Nat}(hp:zc8 l p=true)(hk:(p:Int) < known):(p:Int)<=zh9 l known:=by
 obtain⟨t,h1,h2,h3⟩:=(ze9 l p).1 hp
 have:=(zks known l.terms (-1)).2.1 t h1 h2 (by omega)
 unfold zh9
 omega
theorem zwm(l:zai){known:Int}(hk:0<=known):zh9 l known < known:=(zks known l.terms (-1)).2.2 (by omega)
theorem z04(l:zai)(known:Int):-1<=zh9 l known:=(zks known l.terms (-1)).1
theorem zkp:∀(ts:List zbh) (k:Nat),k<=ts.foldl (fun k t=>if t.var && decide (t.num ≥ k) then t.num+1 else k) k/\(∀ t∈ts,t.var=true->t.num < ts.foldl (fun k t=>if t.var && decide (t.num ≥ k) then t.num+1 else k) k)/\∀ b,k<=b->(∀ t∈ts,t.var=true->t.num < b)->ts.foldl (fun k t=>if t.var && decide (t.num ≥ k) then t.num+1 else k) k<=b
 |[],k=>⟨Nat.le_refl _,fun t h=>(by cases h),fun b h _=>h⟩
 |t::ts,k=>by
  simp only[List.foldl_cons]
  by_cases hc:(t.var && decide (t.num ≥ k))=true
  ·rw[if_pos hc]
   simp only[Bool.and_eq_true,decide_eq_true_eq] at hc
   obtain⟨i1,i2,i3⟩:=zkp ts (t.num+1)
   refine⟨by omega,fun u hu hv=>?_,fun b hb hq=>i3 b (by have:=hq t (by simp) hc.1;omega) fun u hu=>hq u (by simp[hu])⟩
   rcases List.mem_cons.1 hu with rfl|hu
   ·omega
   ·exact i2 u hu hv
  ·rw[if_neg hc]
   obtain⟨i1,i2,i3⟩:=zkp ts k
   refine⟨i1,fun u hu hv=>?_,fun b hb hq=>i3 b hb fun u hu=>hq u (by simp[hu])⟩
   rcases List.mem_cons.1 hu with rfl|hu
   ·have:u.num < k:=by simp only[hv,Bool.true_and,decide_eq_true_eq] at hc;omega
    omega
   ·exact i2 u hu hv
theorem zkq(l:zai){p:Nat}(hp:zc8 l p=true):p < zdg l:=by
 obtain⟨t,h1,h2,h3⟩:=(ze9 l p).1 hp
 have:=(zkp l.terms 0).2.1 t h1 h2
 unfold zdg
 omega
theorem zso(l:zai){k:Nat}(h:∀ p,zc8 l p=true->p < k):zdg l<=k :=
 (zkp l.terms 0).2.2 k (by omega) fun t ht hv=>h t.num ((ze9 l t.num).2 ⟨t,ht,hv,rfl⟩)
theorem z5f(l:zai){known:Int}(hk:0<=known):zhs l known < known:=by
 unfold zhs;split
 ·omega
 ·exact zwm l hk
theorem zqm(known:Int):∀(ls:List zai) (b:Int),b<=ls.foldl (za8 known) b/\(∀ l∈ls,zhs l known<=ls.foldl (za8 known) b)/\(0<=known->b < known->ls.foldl (za8 known) b < known)
 |[],b=>⟨Int.le_refl _,fun l h=>(by cases h),fun _ h=>h⟩
 |l::ls,b=>by
  simp only[List.foldl_cons]
  obtain⟨i1,i2,i3⟩:=zqm known ls (za8 known b l)
  have hs:b<=za8 known b l/\zhs l known<=za8 known b l:=by unfold za8;split <;> omega
  refine⟨by omega,fun u hu=>?_,fun h0 hb=>i3 h0 ?_⟩
  ·rcases List.mem_cons.1 hu with rfl|hu
   ·omega
   ·exact i2 u hu
  ·have:=z5f l h0
   unfold za8;split <;> omega
theorem zlf(r:zaf){known:Int}(hk:0<=known):zdz r known < known/\-1<=zdz r known/\zh9 r.head known<=zdz r known/\(∀ l∈r.plain,zhs l known<=zdz r known)/\∀ l∈r.nots,zhs l known<=zdz r known:=by
 unfold zdz
 obtain⟨a1,a2,a3⟩:=zqm known r.plain (zh9 r.head known)
 obtain⟨b1,b2,b3⟩:=zqm known r.nots (r.plain.foldl (za8 known) (zh9 r.head known))
 have:=z04 r.head known
 exact⟨b3 hk (a3 hk (zwm r.head hk)),by omega,by omega,fun l hl=>by have:=a2 l hl;omega,b2⟩
theorem zxa{l:zai}{known:Nat}{b:Int}(h:zhs l known<=b):(∀ p,zc8 l p=true->p < known)∨∀ p,zc8 l p=true->p < known->(p:Int)<=b:=by
 unfold zhs at h
 by_cases hc:(zdg l:Int)<=known
 ·exact Or.inl fun p hp=>by have:=zkq l hp;omega
 ·rw[if_neg hc] at h
  exact Or.inr fun p hp hk=>by have:=zqr l (known:=(known:Int)) hp (by omega);omega
structure zfv (r:zaf):Prop where
 vars:r.vars<=5
 terms:∀ l∈r.plain,l.terms.length<=3
 plain:∀ l∈r.plain,∀ p,zc8 l p=true->p < r.vars
 nots:∀ l∈r.nots,∀ p,zc8 l p=true->p < r.vars
 head:∀ p,zc8 r.head p=true->p < r.vars
 safe:∀ p,p < r.vars->∃ l∈r.plain,zc8 l p=true
structure zdo (r:zaf) (Ts:List zad) (W:Nat):Prop where
 len:Ts.length=r.plain.length
 ok:∀(i:Nat) (l:zai) (T:zad),r.plain[i]?=some l->Ts[i]?=some T->zd0 T/\T.depth=zbp (za7 l)/\T.width<=W
structure zh7 (r:zaf) (Ts Ns:List zad) (J:zat):Prop where
 head:J.head=r.head
 vars:J.vars=r.vars
 holds:J.holds=(List.range 5).map (zbw r)
 backs:J.backs=(List.range 5).map fun p=>zdz r (p:Nat)
 last:J.last=zdz r r.vars
 bars:J.bars=(r.nots.zip Ns).map fun x=>⟨x.1,zdg x.1,x.2⟩
 sides:J.sides.map (·.rows)=Ts
 vlen:J.values.length=5
 flen:J.from.length=5
theorem zfs(l:zai){x y:List Nat}(h:∀ p,zc8 l p=true->x.getD p 0=y.getD p 0):zcp l x=zcp l y:=by
 have hc:∀ i,rowCell l x i=rowCell l y i:=by
  intro i
  unfold rowCell
  split
  ·rename_i hi
   unfold atT
   rw[show l.terms.getD i ⟨false,0,0⟩=l.terms[i] by simp[List.getD,hi]]
   split
   ·rename_i hv
    simp only[Bool.and_eq_true,decide_eq_true_eq] at hv
    exact h _ ((ze9 l _).2 ⟨_,List.getElem_mem hi,hv.1,rfl⟩)
   ·rfl
  ·rfl
 unfold zcp
 rw[hc,hc,hc]
def z7i(T:zad)(l:zai)(y:List Nat):Prop:=(za7 l=0->T.count≠0)/\(za7 l≠0->(zjg T (zb1 l y 5)).isSome=true)
def zrf(r:zaf)(Ts Ns:List zad)(y:List Nat):Prop:=(∀(i:Nat) (l:zai) (T:zad),r.plain[i]?=some l->Ts[i]?=some T->z7i T l y)/\∀ x∈r.nots.zip Ns,zes x.2 (zcp x.1 y)=none
theorem zzb{r:zaf}{l:zai}(hl:∀ p,zc8 l p=true->p < r.vars){d:Nat}(hd:r.vars<=d):zcb l d=zcb l r.vars:=by
 induction hd with
 |refl=>rfl
 |@step m h ih =>
  rw[zef,if_neg (fun q=>by have:=hl _ q;have:r.vars<=m:=h;omega),ih]
theorem zyu{r:zaf}(hv:r.vars<=5){l:zai}(hl:∀ p,zc8 l p=true->p < r.vars)(y:List Nat):zb1 l y 5=zb1 l y r.vars:=by
 unfold zb1
 rw[zzb hl hv]
def z5r(r:zaf)(J:zat)(d:Nat):Prop:=∀(i:Nat) (l:zai) (s:zea),r.plain[i]?=some l->J.sides[i]?=some s->s.nodes.length=3/\(∀ k,k<=(zcb l d).length->k < 3->goT s.rows 0 ((zb1 l J.values d).take k)=some (s.nodes.getD k 0))/\(goT s.rows 0 (zb1 l J.values d)).isSome=true
def z7n(r:zaf)(Ns:List zad)(vals:List Nat)(d:Nat):Prop:=∀ x∈r.nots.zip Ns,zdg x.1<=d->zes x.2 (zcp x.1 vals)=none
theorem zsg{r:zaf}{d i lv:Nat}(h:(i,lv)∈zbw r d):∃ l,r.plain[i]?=some l/\zc8 l d=true/\lv=(zcb l d).length:=by
 unfold zbw at h
 simp only[List.mem_filterMap,Option.map_eq_some_iff,Prod.mk.injEq] at h
 obtain⟨⟨l,j⟩,h1,lv',h2,h3,h4⟩:=h
 rw[znh] at h2
 split at h2
 ·rename_i hh
  simp only[Option.some.injEq] at h2
  have:=List.mem_zipIdx_iff_getElem?.1 h1
  simp only at this h3 hh h2
  subst h3
  exact⟨l,this,hh,by omega⟩
 ·cases h2
theorem holds_of{r:zaf}{d i:Nat}{l:zai}(h:r.plain[i]?=some l)(hh:zc8 l d=true):(i,(zcb l d).length)∈zbw r d:=by
 unfold zbw
 simp only[List.mem_filterMap,Option.map_eq_some_iff,Prod.mk.injEq]
 refine⟨(l,i),List.mem_zipIdx_iff_getElem?.2 h,(zcb l d).length,?_,rfl,rfl⟩
 rw[znh,if_pos hh]
theorem znd(r:zaf)(d:Nat):((zbw r d).map (·.1)).Nodup:=by
 unfold zbw
 have key:∀(ls:List zai) (n:Nat),(((ls.zipIdx n).filterMap fun x=>(zbj x.1 d).map fun lv=>(x.2,lv)).map (·.1)).Nodup/\∀ i∈((ls.zipIdx n).filterMap fun x=>(zbj x.1 d).map fun lv=>(x.2,lv)).map (·.1),n<=i:=by
  intro ls
  induction ls with
  |nil=>intro n;simp
  |cons l ls ih =>
   intro n
   obtain⟨i1,i2⟩:=ih (n+1)
   rw[List.zipIdx_cons,List.filterMap_cons]
   cases hl:(zbj l d).map fun lv=>(n,lv) with
   |none=>exact⟨i1,fun i hi=>by have:=i2 i hi;omega⟩
   |some x =>
    have hx:x.1=n:=by
     simp only[Option.map_eq_some_iff] at hl
     obtain⟨a,_,rfl⟩:=hl
     rfl
    simp only[List.map_cons,List.nodup_cons,List.mem_cons]
    refine⟨⟨fun hm=>by have:=i2 _ hm;omega,i1⟩,?_⟩
    rintro i (rfl|hi)
    ·omega
    ·have:=i2 i hi;omega
 exact(key r.plain 0).1
def setDown(v lv:Nat)(s:zea):zea:=if lv+1 ≥ 3 then s else{ s with nodes:=s.nodes.set (lv+1) ((zaw s.rows (s.nodes.getD lv 0) v).getD 0) }
theorem zxz{J:zat}{v:Nat}{h:Nat × Nat}(hs:zcn J h=true):zeb v J h={ J with sides:=J.sides.set h.1 (setDown v h.2 (J.sides.getD h.1 zea.zero)) }:=by
 unfold zeb setDown
 by_cases h3:h.2+1 ≥ 3
 ·rw[if_pos (Or.inr h3),if_pos h3]
  have hl:h.1 < J.sides.length:=by simp only[zcn,Bool.and_eq_true,decide_eq_true_eq] at hs;exact hs.1
  have:J.sides.set h.1 (J.sides.getD h.1 zea.zero)=J.sides:=by
   rw[show J.sides.getD h.1 zea.zero=J.sides[h.1] by simp[List.getD,hl]]
   exact List.set_getElem_self _
  rw[this]
 ·rw[if_neg (by rintro(q|q);rw[hs] at q;cases q;exact h3 q),if_neg h3]
theorem zo4(v:Nat):∀(hs:List (Nat × Nat)) (J:zat),(hs.map (·.1)).Nodup->(∀ h∈hs,zcn J h=true)->∃ ss,hs.foldl (zeb v) J={ J with sides:=ss }/\ss.length=J.sides.length/\∀ i s,J.sides[i]?=some s->ss[i]?=some (match hs.lookup i with|none=>s|some lv=>setDown v lv s)
 |[],J,_,_=>⟨J.sides,rfl,rfl,fun i s h=>by simpa using h⟩
 |(j,lv)::hs,J,hn,hst=>by
  simp only[List.foldl_cons]
  have h0:=hst (j,lv) (by simp)
  rw[zxz h0]
  simp only
  have hjl:j < J.sides.length:=by simp only[zcn,Bool.and_eq_true,decide_eq_true_eq] at h0;exact h0.1
  simp only[List.map_cons,List.nodup_cons] at hn
  obtain⟨ss,e1,e2,e3⟩:=zo4 v hs { J with sides:=J.sides.set j (setDown v lv (J.sides.getD j zea.zero)) } hn.2 (fun h hh=>by
   have:=hst h (by simp[hh])
   unfold zcn at this ⊢
   simpa using this)
  refine⟨ss,e1,by simpa using e2,fun i s hi=>?_⟩
  by_cases hij:i=j
  ·subst hij
   have hg:J.sides.getD i zea.zero=s:=by simp[List.getD,hi]
   have:=e3 i (setDown v lv s) (by rw[hg];simp[hjl])
   rw[this]
   have hnone:hs.lookup i=none:=by
    rw[List.lookup_eq_none_iff]
    intro x hx
    have:x.1≠i:=by
     rintro rfl
     exact hn.1 (List.mem_map.2 ⟨x,hx,rfl⟩)
    simpa using fun q=>this q.symm
   rw[hnone]
   simp[List.lookup]
  ·have:=e3 i s (by simp only[List.getElem?_set,Ne.symm hij,if_false];exact hi)
   rw[this]
   have hb:(i == j)=false:=by simp[hij]
   simp[List.lookup,hb]
theorem zyl{hs:List (Nat × Nat)}{i lv:Nat}(hn:(hs.map (·.1)).Nodup)(hm:(i,lv)∈hs):hs.lookup i=some lv:=by
 induction hs with
 |nil=>cases hm
 |cons a hs ih =>
  obtain⟨j,m⟩:=a
  simp only[List.map_cons,List.nodup_cons] at hn
  rcases List.mem_cons.1 hm with e|hm2
  ·simp only[Prod.mk.injEq] at e
   obtain⟨rfl,rfl⟩:=e
   simp[List.lookup]
  ·have:i≠j:=by
    rintro rfl
    exact hn.1 (List.mem_map.2 ⟨(i,lv),hm2,rfl⟩)
   have hb:(i == j)=false:=by simp[this]
   simp only[List.lookup,hb]
   exact ih hn.2 hm2
theorem zu5{hs:List (Nat × Nat)}{i:Nat}(h:∀ lv,(i,lv)∉hs):hs.lookup i=none:=by
 rw[List.lookup_eq_none_iff]
 rintro⟨j,m⟩ hx
 have:i≠j:=by rintro rfl;exact h m hx
 simpa using this
structure JAt (r:zaf) (Ts Ns:List zad) (W:Nat) (J:zat) (d:Nat):Prop where
 stat:zh7 r Ts Ns J
 nodes:z5r r J d
 nob:z7n r Ns J.values d
 «from» : ∀ i,i < d->J.from.getD i 0=J.values.getD i 0+1
 small:∀ i,i < d->J.values.getD i 0 < W
theorem zh7.same{r:zaf}{Ts Ns:List zad}{J J':zat}(h:zh7 r Ts Ns J)(s:zj9 J J'):zh7 r Ts Ns J':=by
 rw[s];exact⟨h.head,h.vars,h.holds,h.backs,h.last,h.bars,h.sides,h.vlen,h.flen⟩
theorem JAt.same{r:zaf}{Ts Ns:List zad}{W:Nat}{J J':zat}{d:Nat}(h:JAt r Ts Ns W J d)(s:zj9 J J'):JAt r Ts Ns W J' d:=by
 refine⟨h.stat.same s,?_,?_,?_,?_⟩
 ·rw[s];exact h.nodes
 ·rw[s];exact h.nob
 ·rw[s];exact h.from
 ·rw[s];exact h.small
theorem JAt.back{r:zaf}{Ts Ns:List zad}{W:Nat}{J:zat}{d b:Nat}(h:JAt r Ts Ns W J d)(hb:b<=d):JAt r Ts Ns W J b:=by
 refine⟨h.stat,fun i l s hl hs=>?_,fun x hx hk=>h.nob x hx (by omega),fun i hi=>h.from i (by omega),fun i hi=>h.small i (by omega)⟩
 obtain⟨n1,n2,n3⟩:=h.nodes i l s hl hs
 have hle:(zcb l b).length<=(zcb l d).length:=(zra l hb).length_le
 refine⟨n1,fun k hk h3=>?_,?_⟩
 ·rw[ziu l J.values hb,List.take_take,Nat.min_eq_left hk]
  exact n2 k (by omega) h3
 ·rw[ziu l J.values hb]
  have hsp:zb1 l J.values d=(zb1 l J.values d).take (zcb l b).length++(zb1 l J.values d).drop (zcb l b).length:=(List.take_append_drop _ _).symm
  rw[hsp,zfn] at n3
  cases hg:goT s.rows 0 ((zb1 l J.values d).take (zcb l b).length) with
  |none=>rw[hg] at n3;cases n3
  |some x=>rfl
theorem zh7.side{r:zaf}{Ts Ns:List zad}{J:zat}(h:zh7 r Ts Ns J){i:Nat}{s:zea}(hs:J.sides[i]?=some s):Ts[i]?=some s.rows:=by
 rw[← h.sides];simp[hs]
theorem zh7.some{r:zaf}{Ts Ns:List zad}{W:Nat}{J:zat}(h:zh7 r Ts Ns J)(hf:zdo r Ts W){i:Nat}{l:zai}(hl:r.plain[i]?=some l):∃ s,J.sides[i]?=some s:=by
 have h1:J.sides.length=r.plain.length:=by rw[← hf.len,← h.sides];simp
 have h2:i < r.plain.length:=(List.getElem?_eq_some_iff.1 hl).1
 exact⟨_,List.getElem?_eq_getElem (by omega)⟩
theorem zh7.holdsAt{r:zaf}{Ts Ns:List zad}{J:zat}(h:zh7 r Ts Ns J){d:Nat}(hd:d < 5):J.holds.getD d []=zbw r d:=by
 rw[h.holds];simp[List.getD,hd]
theorem JAt.hold{r:zaf}{Ts Ns:List zad}{W:Nat}{J:zat}{d:Nat}(h:JAt r Ts Ns W J d)(hr:zfv r)(hf:zdo r Ts W){x:Nat × Nat}(hx:x∈zbw r d) :
  ∃ l s,r.plain[x.1]?=some l/\J.sides[x.1]?=some s/\zc8 l d=true/\x.2=(zcb l d).length/\x.2 < 3/\zcn J x=true/\zd0 s.rows/\s.rows.width<=W/\∀ v,goT s.rows 0 (zb1 l J.values d++[v])=zhw J x v:=by
 obtain⟨i,lv⟩:=x
 obtain⟨l,h1,h2,h3⟩:=zsg hx
 obtain⟨s,hs⟩:=h.stat.some hf h1
 have hlv:(zcb l (d+1)).length=lv+1:=by rw[zef,if_pos h2,h3];simp
 have h4:lv < 3:=by
  have:=zj6 l (d+1)
  have:=hr.terms l (List.mem_of_getElem? h1)
  omega
 have hil:i < J.sides.length:=(List.getElem?_eq_some_iff.1 hs).1
 obtain⟨t1,t2,t3⟩:=hf.ok i l s.rows h1 (h.stat.side hs)
 refine⟨l,s,h1,hs,h2,h3,h4,by simp[zcn,hil,h4],t1,t3,fun v=>?_⟩
 obtain⟨n1,n2,n3⟩:=h.nodes i l s h1 hs
 have:=n2 lv (by omega) h4
 rw[h3,show(zb1 l J.values d).take (zcb l d).length=zb1 l J.values d by rw[← zgt l J.values d];exact List.take_length] at this
 rw[zfn,this]
 unfold zhw
 simp only[List.getD,hs,Option.getD_some,Option.bind_some,goT,h3]
 cases zaw s.rows _ v <;> rfl
theorem zqn{r:zaf}{Ts Ns:List zad}{J:zat}(h:zh7 r Ts Ns J)(k:Nat):zbx J k=true↔∃ x∈r.nots.zip Ns,zdg x.1=k/\(zes x.2 (zcp x.1 J.values)).isSome=true:=by
 unfold zbx
 rw[h.bars,List.any_map,List.any_eq_true]
 simp
theorem JAt.take{r:zaf}{Ts Ns:List zad}{W:Nat}{J:zat}{d v:Nat}(h:JAt r Ts Ns W J d)(hr:zfv r)(hf:zdo r Ts W)(hd:d < r.vars)(hv:∀ x∈zbw r d,(zhw J x v).isSome=true)(hW:v < W) :
  (zft J d v).values=J.values.set d v/\(∀ i,i < d->(zft J d v).from.getD i 0=J.from.getD i 0)/\(zft J d v).from.getD d 0=v+1/\(d+1 < 5->(zft J d v).from.getD (d+1) 0=0)/\JAt r Ts Ns W (zft J d v) d/\(zbx (zft J d v) (d+1)=false->JAt r Ts Ns W (zft J d v) (d+1)):=by
 have hv5:=hr.vars
 have hd5:d < 5:=by omega
 have hvl:=h.stat.vlen
 have hfl:=h.stat.flen
 unfold zft
 rw[if_neg (by omega),h.stat.holdsAt hd5]
 obtain⟨ss,e1,e2,e3⟩:=zo4 v (zbw r d) { J with values:=J.values.set d v,«from»:=(if d+1 < 5 then(J.from.set d (v+1)).set (d+1) 0 else J.from.set d (v+1)) } (znd r d) (fun x hx=>by
  obtain⟨_,_,_,_,_,_,_,q,_⟩:=h.hold hr hf hx
  unfold zcn at q ⊢
  exact q)
 rw[e1]
 simp only at e2 e3 ⊢
 have hfr:∀ i,i < d->(if d+1 < 5 then(J.from.set d (v+1)).set (d+1) 0 else J.from.set d (v+1)).getD i 0=J.from.getD i 0:=by
  intro i hi
  split
  ·rw[zal,if_neg (by omega),zal,if_neg (by omega)]
  ·rw[zal,if_neg (by omega)]
 have hfd:(if d+1 < 5 then(J.from.set d (v+1)).set (d+1) 0 else J.from.set d (v+1)).getD d 0=v+1:=by
  split
  ·rw[zal,if_neg (by omega),zal,if_pos ⟨rfl,by omega⟩]
  ·rw[zal,if_pos ⟨rfl,by omega⟩]
 have hrows:ss.map (·.rows)=Ts:=by
  rw[← h.stat.sides]
  refine List.ext_getElem? fun i=>?_
  simp only[List.getElem?_map]
  cases hs:J.sides[i]? with
  |none =>
   have:J.sides.length<=i:=List.getElem?_eq_none_iff.1 hs
   rw[List.getElem?_eq_none (by omega)]
  |some s =>
   rw[e3 i s hs]
   simp only[Option.map_some,Option.some.injEq]
   cases (zbw r d).lookup i with
   |none=>rfl
   |some lv=>simp only[setDown];split <;> rfl
 have hstat:zh7 r Ts Ns { J with sides:=ss,values:=J.values.set d v,«from»:=(if d+1 < 5 then(J.from.set d (v+1)).set (d+1) 0 else J.from.set d (v+1)) }:=⟨h.stat.head,h.stat.vars,h.stat.holds,h.stat.backs,h.stat.last,h.stat.bars,hrows,by simpa using hvl,by show(if d+1 < 5 then(J.from.set d (v+1)).set (d+1) 0 else J.from.set d (v+1)).length=5;split <;> simpa using hfl⟩
 have hlow:∀ l:zai,zb1 l (J.values.set d v) d=zb1 l J.values d:=fun l=>zh1 l fun p hp _=>by rw[zal,if_neg (by omega)]
 have hnodes:∀(i:Nat) (l:zai) (s s':zea),r.plain[i]?=some l->J.sides[i]?=some s->ss[i]?=some s'->s'.nodes.length=3/\(∀ k,k<=(zcb l d).length->k < 3->goT s'.rows 0 ((zb1 l J.values d).take k)=some (s'.nodes.getD k 0))/\(goT s'.rows 0 (zb1 l J.values d)).isSome=true/\(∀ k,k<=(zcb l (d+1)).length->k < 3->goT s'.rows 0 ((zb1 l (J.values.set d v) (d+1)).take k)=some (s'.nodes.getD k 0))/\(goT s'.rows 0 (zb1 l (J.values.set d v) (d+1))).isSome=true:=by
  intro i l s s' hl hs hs'
  obtain⟨n1,n2,n3⟩:=h.nodes i l s hl hs
  rw[e3 i s hs] at hs'
  by_cases hh:zc8 l d=true
  ·have hm:=holds_of hl hh
   rw[zyl (znd r d) hm] at hs'
   simp only[Option.some.injEq] at hs'
   obtain⟨l',s0,q1,q2,_,q4,q5,_,_,_,q9⟩:=h.hold hr hf hm
   simp only at q1 q2 q5
   rw[hl] at q1;rw[hs] at q2
   simp only[Option.some.injEq] at q1 q2
   subst q1;subst q2
   have hvv:=hv _ hm
   obtain⟨bb,hbb⟩:=Option.isSome_iff_exists.1 hvv
   have hgo:=q9 v
   rw[hbb] at hgo
   have hp:zb1 l (J.values.set d v) (d+1)=zb1 l J.values d++[v]:=by rw[zpv l _ _ _ (by omega),if_pos hh]
   have hrow':s'.rows=s.rows:=by rw[← hs'];unfold setDown;split <;> rfl
   have hlen:(zb1 l J.values d).length=(zcb l d).length:=zgt _ _ _
   have hnd:∀ k,k<=(zcb l d).length->s'.nodes.getD k 0=s.nodes.getD k 0:=by
    intro k hk
    rw[← hs'];unfold setDown;split
    ·rfl
    ·rw[zal,if_neg (by omega)]
   have hdn:zaw s.rows (s.nodes.getD (zcb l d).length 0) v=some bb:=by
    unfold zhw at hbb
    simpa [List.getD,hs] using hbb
   refine⟨by rw[← hs'];unfold setDown;split <;> simp[n1],fun k hk h3=>by rw[hrow',hnd k hk];exact n2 k hk h3,by rw[hrow'];exact n3,fun k hk h3=>?_,by rw[hrow',hp,hgo];rfl⟩
   rw[hrow',hp]
   rw[zef,if_pos hh,List.length_append,List.length_singleton] at hk
   by_cases hk2:k<=(zcb l d).length
   ·rw[List.take_append_of_le_length (by omega),hnd k hk2]
    exact n2 k hk2 h3
   ·have:k=(zcb l d).length+1:=by omega
    subst this
    rw[List.take_of_length_le (by simp[hlen]),hgo,← hs']
    unfold setDown
    rw[if_neg (by omega)]
    simp only
    rw[zal,if_pos ⟨rfl,by omega⟩,hdn]
    rfl
  ·have hno:∀ lv,(i,lv)∉zbw r d:=fun lv hm=>by
    obtain⟨l',q1,q2,_⟩:=zsg hm
    rw[hl] at q1
    simp only[Option.some.injEq] at q1
    subst q1
    exact hh q2
   rw[zu5 hno] at hs'
   simp only[Option.some.injEq] at hs'
   subst hs'
   have hp:zb1 l (J.values.set d v) (d+1)=zb1 l J.values d:=by rw[zpv l _ _ _ (by omega),if_neg hh]
   have hvv:zcb l (d+1)=zcb l d:=by rw[zef,if_neg hh]
   exact⟨n1,n2,n3,by rw[hp,hvv];exact n2,by rw[hp];exact n3⟩
 have hside:∀(i:Nat) (l:zai) (s':zea),r.plain[i]?=some l->ss[i]?=some s'->∃ s,J.sides[i]?=some s:=fun i l s' hl _=>h.stat.some hf hl
 have hrl:∀ x∈r.nots.zip Ns,zdg x.1<=d->zcp x.1 (J.values.set d v)=zcp x.1 J.values:=fun x _ hk=>zfs x.1 fun p hp=>by
  have:=zkq x.1 hp
  rw[zal,if_neg (by omega)]
 refine⟨trivial,hfr,hfd,fun h5=>?_,⟨hstat,fun i l s' hl hs'=>?_,fun x hx hk=>?_,fun i hi=>?_,fun i hi=>?_⟩,fun hb=>⟨hstat,fun i l s' hl hs'=>?_,fun x hx hk=>?_,fun i hi=>?_,fun i hi=>?_⟩⟩
 ·rw[if_pos h5,zal,if_pos ⟨rfl,by simp;omega⟩]
 ·obtain⟨s,hs⟩:=hside i l s' hl hs'
  obtain⟨a1,a2,a3,_,_⟩:=hnodes i l s s' hl hs hs'
  exact⟨a1,by rw[hlow];exact a2,by rw[hlow];exact a3⟩
 ·show zes x.2 (zcp x.1 (J.values.set d v))=none
  rw[hrl x hx hk];exact h.nob x hx hk
 ·show(if d+1 < 5 then _ else _:List Nat).getD i 0=(J.values.set d v).getD i 0+1
  rw[hfr i hi,zal,if_neg (by omega)];exact h.from i hi
 ·show(J.values.set d v).getD i 0 < W
  rw[zal,if_neg (by omega)];exact h.small i hi
 ·obtain⟨s,hs⟩:=hside i l s' hl hs'
  obtain⟨a1,_,_,a4,a5⟩:=hnodes i l s s' hl hs hs'
  exact⟨a1,a4,a5⟩
 ·show zes x.2 (zcp x.1 (J.values.set d v))=none
  by_cases hkd:zdg x.1<=d
  ·rw[hrl x hx hkd];exact h.nob x hx hkd
  ·cases hm:zes x.2 (zcp x.1 (J.values.set d v)) with
   |none=>rfl
   |some m =>
    have:=(zqn hstat (d+1)).2 ⟨x,hx,by omega,by show(zes x.2 (zcp x.1 (J.values.set d v))).isSome=true;rw[hm];rfl⟩
    rw[hb] at this;cases this
 ·show(if d+1 < 5 then _ else _:List Nat).getD i 0=(J.values.set d v).getD i 0+1
  by_cases hi2:i=d
  ·subst hi2
   rw[hfd,zal,if_pos ⟨rfl,by omega⟩]
  ·rw[hfr i (by omega),zal,if_neg (by omega)];exact h.from i (by omega)
 ·show(J.values.set d v).getD i 0 < W
  by_cases hi2:i=d
  ·subst hi2
   rw[zal,if_pos ⟨rfl,by omega⟩];exact hW
  ·rw[zal,if_neg (by omega)];exact h.small i (by omega)
end Go.Proofs.YteampbddflhngabGreat
