import Derived.Test.YteampbddflhngabGreatZ40
import Derived.Test.YteampbddflhngabGreatZ33
import Derived.Test.YteampbddflhngabGreatZ34

namespace Go.Proofs.YteampbddflhngabGreat
theorem zpq(t:List zar)(n:ByteArray):(zbb t n).isSome=true↔(namesT t)[zai t n]?=some n:=by
 unfold zbb namesT
 rw[List.getElem?_map]
 cases h:t[zai t n]? with
 |none=>simp
 |some e =>
  simp only[Option.map_some,Option.some.injEq]
  split <;> simp[*]
theorem zma{t t':List zar}(h:namesT t=namesT t')(n:ByteArray):(zbb t n).isSome=true↔(zbb t' n).isSome=true:=by
 rw[zpq,zpq,h,zix h n]
def zlh(t:List zar)(cs:List zab):Prop:=∀ c∈cs,∀ l∈za1 c,(zbb t l.pred).isSome=true
theorem zlh.names{t t':List zar}{cs:List zab}(h:zlh t cs)(hn:namesT t=namesT t'):zlh t' cs:=fun c hc l hl=>(zma hn _).1 (h c hc l hl)
structure z8v (x y:List zar × Bool) (ds:List zab):Prop where
 names:namesT y.1=namesT x.1
 grow:∀ n,val x.1 n<=val y.1 n
 step:∀ c∈ds,∀ l∈c.body,val x.1 l.pred+up l<=val y.1 c.head.pred
 low:∀ f,Sol ds f->(∀ n,val x.1 n<=f n)->∀ n,val y.1 n<=f n
 still:y.2=false->y.1=x.1/\x.2=false
 moved:y.2=true->x.2=true∨∃ n,val x.1 n < val y.1 n
theorem z5n{x:List zar × Bool}{c:zab}(h:zlh x.1 [c]):z8v x (zeo x c) [c]:=by
 have hh:(zbb x.1 c.head.pred).isSome=true:=h c (by simp) c.head (by simp[za1])
 have hl:∀ l∈c.body,zuo x.1 l=val x.1 l.pred+up l:=fun l hl=>z4y (h c (by simp) l (by simp[za1,hl]))
 have hv:=fun m=>zug x.1 c.head.pred (zfd x.1 c) m
 have hf:=zzg x.1 c.head.pred (zfd x.1 c)
 refine⟨ztz _ _ _,fun n=>?_,fun c' hc' l hlb=>?_,fun f hs hlow n=>?_,fun hst=>?_,fun hmv=>?_⟩
 ·show _<=val (zcd _ _ _).1 n
  rw[hv];split
  ·rename_i e;rw[e.1];omega
  ·omega
 ·simp at hc';subst hc'
  show _<=val (zcd _ _ _).1 _
  rw[hv,if_pos ⟨rfl,hh⟩,← hl l hlb]
  have:=(zw6 (t:=x.1) c'.body 0).2 l hlb
  unfold zfd;omega
 ·show val (zcd _ _ _).1 n<=_
  rw[hv]
  split
  ·rename_i e
   rw[e.1]
   have h1:=hlow c.head.pred
   have h2:zfd x.1 c<=f c.head.pred:=by
    unfold zfd
    refine zw7 c.body 0 (Nat.zero_le _) fun l hlb=>?_
    have:=hs c (by simp) l hlb
    have:=hlow l.pred
    rw[hl l hlb];omega
   omega
  ·exact hlow n
 ·have h2:(x.2 || (zcd x.1 c.head.pred (zfd x.1 c)).2)=false:=hst
  rw[Bool.or_eq_false_iff] at h2
  exact⟨hf.1 h2.2,h2.1⟩
 ·have h2:(x.2 || (zcd x.1 c.head.pred (zfd x.1 c)).2)=true:=hmv
  rw[Bool.or_eq_true] at h2
  rcases h2 with h2|h2
  ·exact Or.inl h2
  ·exact Or.inr ⟨_,hf.2 h2⟩
theorem zk7:∀(ds:List zab) (x:List zar × Bool),zlh x.1 ds->z8v x (ds.foldl zeo x) ds
 |[],x,_=>⟨rfl,fun _=>Nat.le_refl _,fun c hc=>by(cases hc),fun _ _ h=>h,fun h=>⟨rfl,h⟩,fun h=>Or.inl h⟩
 |c::ds,x,h=>by
  have p1:=z5n (x:=x) (c:=c) fun c' hc'=>by simp at hc';subst hc';exact h c' (by simp)
  have p2:=zk7 ds (zeo x c) (zlh.names (fun c' hc'=>h c' (by simp[hc'])) p1.names.symm)
  rw[List.foldl_cons]
  refine⟨p2.names.trans p1.names,fun n=>Nat.le_trans (p1.grow n) (p2.grow n),fun c' hc' l hl=>?_,fun f hs hlow=>?_,fun hst=>?_,fun hmv=>?_⟩
  ·rcases List.mem_cons.1 hc' with rfl|hc'
   ·exact Nat.le_trans (p1.step c' (by simp) l hl) (p2.grow _)
   ·have:=p2.step c' hc' l hl
    have:=p1.grow l.pred
    omega
  ·exact p2.low f (fun c' hc'=>hs c' (by simp[hc'])) (p1.low f (fun c' hc'=>by simp at hc';subst hc';exact hs c' (by simp)) hlow)
  ·have h2:=p2.still hst
   have h1:=p1.still h2.2
   exact⟨h2.1.trans h1.1,h1.2⟩
  ·rcases p2.moved hmv with h2|⟨n,h2⟩
   ·rcases p1.moved h2 with h1|⟨n,h1⟩
    ·exact Or.inl h1
    ·exact Or.inr ⟨n,Nat.lt_of_lt_of_le h1 (p2.grow n)⟩
   ·exact Or.inr ⟨n,Nat.lt_of_le_of_lt (p1.grow n) h2⟩
theorem zwi{t:List zar}{n:ByteArray}(h:n∉namesT t):val t n=0:=by
 unfold val
 split
 ·rename_i e he
  obtain⟨hm,hn⟩:=znl he
  exact absurd (List.mem_map.2 ⟨e,hm,hn⟩) h
 ·rfl
def rest(f:ByteArray->Nat)(t:List zar):Nat:=((namesT t).filter fun n=>decide (val t n≠f n)).length
theorem z7p{f:ByteArray->Nat}{t t':List zar}(hn:namesT t'=namesT t)(hmono:∀ n,val t n=f n->val t' n=f n){m:ByteArray}(hm:m∈namesT t)(h1:val t m≠f m)(h2:val t' m=f m):rest f t' < rest f t:=by
 unfold rest
 rw[hn]
 generalize namesT t=ns at hm
 have hle:∀ l:List ByteArray,(l.filter fun n=>decide (val t' n≠f n)).length<=(l.filter fun n=>decide (val t n≠f n)).length:=by
  intro l
  induction l with
  |nil=>simp
  |cons a l ih =>
   by_cases ha:val t a=f a
   ·simp[ha,hmono a ha];simpa using ih
   ·by_cases hb:val t' a=f a
    ·simp[ha,hb];have:=ih;simp at this;omega
    ·simp[ha,hb];simpa using ih
 induction ns with
 |nil=>cases hm
 |cons a ns ih =>
  have hns:=hle ns
  rcases List.mem_cons.1 hm with rfl|hm
  ·simp[h1,h2];simp at hns;omega
  ·have:=ih hm
   by_cases ha:val t a=f a
   ·simp[ha,hmono a ha];simpa using this
   ·by_cases hb:val t' a=f a
    ·simp[ha,hb];simp at this;omega
    ·simp[ha,hb];simpa using this
theorem zwa:∀(m:Nat) (t:List zar) (cs:List zab),zlh t cs->namesT (zcx m t cs).1=namesT t
 |0,_,_,_=>rfl
 |m+1,t,cs,h=>by
  have p:=zk7 cs (t,false) h
  unfold zcx
  split
  ·exact(zwa m _ cs (h.names p.names.symm)).trans p.names
  ·exact p.names
theorem zt7{f:ByteArray->Nat}:∀(m:Nat) (t:List zar) (cs:List zab),zlh t cs->Sol cs f->(∀ n,val t n<=f n)->∀ n,val (zcx m t cs).1 n<=f n
 |0,_,_,_,_,h=>h
 |m+1,t,cs,h,hs,hlow=>by
  have p:=zk7 cs (t,false) h
  have:=p.low f hs hlow
  unfold zcx
  split
  ·exact zt7 m _ cs (h.names p.names.symm) hs this
  ·exact this
theorem zle:∀(m:Nat) (t:List zar) (cs:List zab),zlh t cs->(zcx m t cs).2=true->Sol cs (val (zcx m t cs).1)
 |0,_,_,_,h=>by cases h
 |m+1,t,cs,h,ht=>by
  have p:=zk7 cs (t,false) h
  unfold zcx at ht ⊢
  split at ht
  ·rename_i hc
   rw[if_pos hc]
   exact zle m _ cs (h.names p.names.symm) ht
  ·rename_i hc
   rw[if_neg hc]
   have h1:=(p.still (by simpa [zb3] using hc)).1
   intro c hcc l hl
   have h2:=p.step c hcc l hl
   show val (cs.foldl zeo (t,false)).1 l.pred+up l<=val (cs.foldl zeo (t,false)).1 c.head.pred
   rw[h1] at h2 ⊢
   exact h2
theorem zqh{f:ByteArray->Nat}{cs:List zab}(hf:Least cs f):∀(m:Nat) (t:List zar),zlh t cs->(∀ n,val t n<=f n)->rest f t < m->(zcx m t cs).2=true
 |0,_,_,_,h=>by omega
 |m+1,t,h,hlow,hr=>by
  have p:=zk7 cs (t,false) h
  have hlow2:=p.low f hf.1 hlow
  unfold zcx
  split
  ·rename_i hc
   refine zqh hf m _ (h.names p.names.symm) hlow2 ?_
   have hno:¬ ∀ n,val t n=f n:=by
    intro hall
    rcases p.moved hc with h1|⟨n,h1⟩
    ·cases h1
    ·have:=hlow2 n;have:=hall n;simp only at h1;omega
   have ⟨n,hn1,hn2⟩:∃ n,val (cs.foldl zeo (t,false)).1 n=f n/\val t n≠f n:=by
    apply Classical.byContradiction
    intro hx
    exact hno (zyj hf p.grow hlow2 p.step fun n hb=>Classical.byContradiction fun hc=>hx ⟨n,hb,hc⟩)
   have hm:n∈namesT t:=by
    apply Classical.byContradiction
    intro hx
    have h1:=zwi hx
    have h2:val (cs.foldl zeo (t,false)).1 n=0:=zwi (by rw[p.names];exact hx)
    omega
   have:=z7p (f:=f) (t:=t) p.names (fun k hk=>Nat.le_antisymm (hlow2 k) (by rw[← hk];exact p.grow k)) hm hn2 hn1
   show rest f (cs.foldl zeo (t,false)).1 < m
   omega
  ·rfl
theorem z3c{cs:List zab}{t:List zar}(h:zlh t cs)(h0:∀ n,val t n=0):((zcx (t.length+1) t cs).2=true↔∃ f,Sol cs f)/\((zcx (t.length+1) t cs).2=true->Least cs (val (zcx (t.length+1) t cs).1)):=by
 refine⟨⟨fun e=>⟨_,zle _ t cs h e⟩,?_⟩,fun e=>⟨zle _ t cs h e,fun g hg=>zt7 _ t cs h hg fun n=>by rw[h0];omega⟩⟩
 rintro⟨g,hg⟩
 obtain⟨f,hf⟩:=ztd hg
 refine zqh hf _ t h (fun n=>by rw[h0];omega) ?_
 have:=List.length_filter_le (fun n=>decide (val t n≠f n)) (namesT t)
 have h2:(namesT t).length=t.length:=by simp[namesT]
 unfold rest;omega
structure Parts (cs:List zab) (t0 t:List zar):Prop where
 few:prW cs<=500
 many:∀ c∈cs,zeh c=false
 coll:zgh cs=some t0
 tab:Tab t0 (cs.flatMap za1)
 safe:∀ c∈cs,ze4 c=true
 strat:zcx (t0.length+1) t0 cs=(t,true)
theorem z7t{s:ByteArray}{cs:List zab}{t:List zar}(h:z4m s=.ok (cs,t)):∃ t0,Parts cs t0 t:=by
 unfold z4m at h
 split at h
 ·cases h
 ·rename_i hs
  split at h
  ·cases h
  ·rename_i tl hS
   split at h
   ·cases h
   ·rename_i cs2 hP
    split at h
    ·cases h
    ·rename_i hm
     split at h
     ·cases h
     ·rename_i t0 hC
      split at h
      ·rename_i hsafe
       split at h
       ·rename_i hst
        simp only[Except.ok.injEq,Prod.mk.injEq] at h
        obtain⟨rfl,rfl⟩:=h
        refine⟨t0,?_,fun c hc=>?_,hC,zu7 hC,fun c hc=>List.all_eq_true.1 hsafe c hc,?_⟩
        ·have h1:=zvv hP
         have h2:=zqf hS
         omega
        ·cases hq:zeh c with
         |false=>rfl
         |true=>exact absurd (List.any_eq_true.2 ⟨c,hc,hq⟩) hm
        ·rw[← hst]
       ·cases h
      ·cases h
def arT(t:List zar):List (ByteArray × Nat):=t.map fun e=>(e.name,e.arity)
theorem z0f(t:List zar)(n:ByteArray)(s:Nat):arT (zcd t n s).1=arT t:=by
 unfold zcd
 split
 ·rfl
 ·rename_i e he
  split
  ·rfl
  ·obtain⟨hk,h1,h2⟩:=zby he
   unfold arT
   refine List.ext_getElem (by simp) fun i h3 h4=>?_
   simp only[List.getElem_map,List.getElem_set]
   split
   ·rename_i e2
    subst e2
    rw[h1]
   ·rfl
theorem z0e:∀(cs:List zab) (x:List zar × Bool),arT (cs.foldl zeo x).1=arT x.1
 |[],_=>rfl
 |c::cs,x=>by
  rw[List.foldl_cons,z0e cs]
  exact z0f _ _ _
theorem zim:∀(m:Nat) (t:List zar) (cs:List zab),arT (zcx m t cs).1=arT t
 |0,_,_=>rfl
 |m+1,t,cs=>by
  have h1:arT (zb3 t cs).1=arT t:=z0e cs (t,false)
  unfold zcx
  split
  ·rw[zim m,h1]
  ·exact h1
theorem zr3{t t':List zar}(h:arT t=arT t'):namesT t=namesT t':=by
 have:=congrArg (List.map Prod.fst) h
 simpa [arT,namesT,Function.comp_def] using this
theorem Parts.lit{cs:List zab}{t0 t:List zar}(h:Parts cs t0 t){c:zab}(hc:c∈cs){l:zbz}(hl:l∈za1 c):∃ e,zbb t l.pred=some e/\e.name=l.pred/\zbd t l.pred < t.length/\(t.map (·.arity)).getD (zbd t l.pred) 0=l.args.length/\zbd t l.pred=zai t l.pred:=by
 have hAr:arT t=arT t0:=by have:=zim (t0.length+1) t0 cs;rw[h.strat] at this;exact this
 have hmem:l∈cs.flatMap za1:=List.mem_flatMap.2 ⟨c,hc,hl⟩
 have hin0:(zbb t0 l.pred).isSome=true:=by
  cases he:zbb t0 l.pred with
  |some e=>rfl
  |none =>
   obtain⟨e,hm,hn⟩:=List.mem_map.1 ((h.tab.names l.pred).2 ⟨l,hmem,rfl⟩)
   exact absurd hn (zkp h.tab.rise he e hm)
 have hin:(zbb t l.pred).isSome=true:=(zma (zr3 hAr).symm _).1 hin0
 obtain⟨e,he⟩:=Option.isSome_iff_exists.1 hin
 obtain⟨hk,h1,h2⟩:=zby he
 have hfn:zbd t l.pred=zai t l.pred:=by unfold zbd;rw[if_pos hin]
 refine⟨e,he,h2,by rw[hfn];exact hk,?_,hfn⟩
 rw[hfn]
 have e1:(t.map (·.arity)).getD (zai t l.pred) 0=e.arity:=by simp[List.getD,hk,h1]
 rw[e1]
 have hpair:(e.name,e.arity)∈arT t0:=by
  rw[← hAr]
  exact List.mem_map.2 ⟨e,by rw[← h1];exact List.getElem_mem hk,rfl⟩
 obtain⟨e0,m1,m2⟩:=List.mem_map.1 hpair
 simp only[Prod.mk.injEq] at m2
 rw[← m2.2]
 exact(h.tab.arity e0 m1 l hmem (by rw[m2.1,h2])).symm
theorem Parts.sol{cs:List zab}{t0 t:List zar}(h:Parts cs t0 t):Sol cs (val t):=by
 have hall:zlh t0 cs:=by
  intro c hc l hl
  have hmem:l∈cs.flatMap za1:=List.mem_flatMap.2 ⟨c,hc,hl⟩
  cases he:zbb t0 l.pred with
  |some e=>rfl
  |none =>
   obtain⟨e,hm,hn⟩:=List.mem_map.1 ((h.tab.names l.pred).2 ⟨l,hmem,rfl⟩)
   exact absurd hn (zkp h.tab.rise he e hm)
 have:=zle (t0.length+1) t0 cs hall (by rw[h.strat])
 rw[h.strat] at this
 exact this
theorem zi2(t:List zar)(n:ByteArray):zds t n=val t n:=rfl
theorem z4p{t:List zar}{a b:ByteArray}{ea eb:zar}(h1:zbb t a=some ea)(h2:zbb t b=some eb)(e:zai t a=zai t b):a=b:=by
 obtain⟨ka,a1,a2⟩:=zby h1
 obtain⟨kb,b1,b2⟩:=zby h2
 have:ea=eb:=by rw[← a1,← b1];simp[e]
 rw[← a2,← b2,this]
theorem zfa(p:Nat)(ts:List zbl)(x:zbl):(zc1 p ts x).var=x.var/\(zc1 p ts x).num=x.num:=by unfold zc1;split <;> exact⟨rfl,rfl⟩
theorem zq5(t:List zar)(ns vs:List ByteArray)(pl:List Nat)(l:zbz)(p:Nat):zdd (zde t ns vs pl l) p=zdd ⟨0,za3 ns vs pl l⟩ p:=by
 unfold zdd zde
 simp only[List.any_map]
 congr 1
 funext x
 simp only[Function.comp,(zfa 0 _ x).1,(zfa 0 _ x).2]
theorem zy2(t:List zar)(ns vs:List ByteArray)(pl:List Nat)(l:zbz)(p:Nat):zbo (zde t ns vs pl l) p=zbo ⟨0,za3 ns vs pl l⟩ p:=by
 unfold zbo
 rw[zq5,show zdd (zde t ns vs pl l)=zdd ⟨0,za3 ns vs pl l⟩ from funext (zq5 t ns vs pl l)]
theorem z3h(ns:List ByteArray)(x:ByteArray):(zcy ns x).getD 0 < za2 ns.length:=by
 unfold zcy za2
 split
 ·rename_i h
  simp only[Option.getD_some]
  split <;> omega
 ·simp only[Option.getD_none]
  split <;> omega
theorem zq6(t:List zar)(ns vs:List ByteArray)(pl:List Nat)(l:zbz)(hp:∀ k,pl.getD k 0 < 5)(h3:l.args.length<=3):zha (zde t ns vs pl l) l.args.length (za2 ns.length):=by
 have hterm:∀ x∈(zde t ns vs pl l).terms,∃ y∈l.args,x=zc1 0 (za3 ns vs pl l) (zfk ns vs pl y)/\zfk ns vs pl y∈za3 ns vs pl l:=by
  intro x hx
  unfold zde at hx
  simp only[List.mem_map] at hx
  obtain⟨z,hz,rfl⟩:=hx
  have hz':=hz
  unfold za3 at hz
  obtain⟨y,hy,rfl⟩:=List.mem_map.1 hz
  exact⟨y,hy,rfl,hz'⟩
 refine⟨by simp[zde,za3],h3,fun x hx hv=>?_,fun x hx hv=>?_⟩
 ·obtain⟨y,hy,rfl,hm⟩:=hterm x hx
  obtain⟨e1,e2⟩:=zfa 0 (za3 ns vs pl l) (zfk ns vs pl y)
  rw[e1] at hv
  rw[e2,zy2]
  refine⟨?_,?_⟩
  ·unfold zfk at hv ⊢
   split
   ·unfold zdf
    split
    ·exact Nat.lt_of_sub_eq_succ rfl
    ·split
     ·exact Nat.lt_of_sub_eq_succ rfl
     ·exact hp _
   ·rename_i hn
    rw[if_neg hn] at hv
    cases hv
  ·have hh:zdd ⟨0,za3 ns vs pl l⟩ (zfk ns vs pl y).num=true:=(zfc _ _).2 ⟨_,hm,hv,rfl⟩
   unfold zc1
   rw[if_pos hv]
   simp only
   unfold zbo
   rw[if_pos hh]
   rfl
 ·obtain⟨y,hy,rfl,hm⟩:=hterm x hx
  obtain⟨e1,e2⟩:=zfa 0 (za3 ns vs pl l) (zfk ns vs pl y)
  rw[e1] at hv
  rw[e2]
  unfold zfk at hv ⊢
  split
  ·rename_i hn
   rw[if_pos hn] at hv
   cases hv
  ·exact z3h ns y
theorem znw{t:List zar}{ns vs:List ByteArray}{pl:List Nat}{l:zbz}{p:Nat}:zdd (zde t ns vs pl l) p=true↔∃ y∈l.args,za6 y=true/\zdf vs pl y=p:=by
 rw[zq5,zfc]
 constructor
 ·rintro⟨x,hx,h1,h2⟩
  unfold za3 at hx
  obtain⟨y,hy,rfl⟩:=List.mem_map.1 hx
  unfold zfk at h1 h2
  by_cases hv:za6 y=true
  ·rw[if_pos hv] at h2
   exact⟨y,hy,hv,h2⟩
  ·rw[if_neg hv] at h1;cases h1
 ·rintro⟨y,hy,hv,e⟩
  refine⟨zfk ns vs pl y,List.mem_map.2 ⟨y,hy,rfl⟩,?_,?_⟩
  ·unfold zfk;rw[if_pos hv]
  ·unfold zfk;rw[if_pos hv];exact e
theorem zxz{vs:List ByteArray}(h:vs.Nodup)(x:ByteArray):(zrq vs x).Nodup:=by
 unfold zrq
 split
 ·rename_i hc
  simp only[Bool.and_eq_true,Bool.not_eq_true'] at hc
  rw[List.nodup_append]
  refine⟨h,by simp,fun a ha b hb=>?_⟩
  simp at hb
  subst hb
  rintro rfl
  rw[zfy.2 ha] at hc
  cases hc.2
 ·exact h
theorem znd:∀(args vs:List ByteArray),vs.Nodup->(zew vs args).Nodup
 |[],_,h=>h
 |x::r,vs,h=>znd r (zrq vs x) (zxz h x)
theorem zk9(c:zab):(zaf c).Nodup:=by
 have:∀(ls:List zbz) (vs:List ByteArray),vs.Nodup->(ls.foldl zen vs).Nodup:=by
  intro ls
  induction ls with
  |nil=>intro vs h;exact h
  |cons l ls ih =>
   intro vs h
   rw[List.foldl_cons]
   refine ih _ ?_
   unfold zen
   split
   ·exact h
   ·exact znd _ _ h
 exact this c.body [] List.nodup_nil
theorem zlu{α:Type}[DecidableEq α]:∀ {l1 l2:List α},l1.Nodup->(∀ x∈l1,x∈l2)->l1.length<=l2.length
 |[],l2,_,_=>by simp
 |a::l1,l2,hn,hs=>by
  have ha:=hs a (by simp)
  have h1:=zlu (l1:=l1) (l2:=l2.erase a) (List.nodup_cons.1 hn).2 (fun x hx=>by
   have hne:x≠a:=by rintro rfl;exact(List.nodup_cons.1 hn).1 hx
   exact(List.mem_erase_of_ne hne).2 (hs x (by simp[hx])))
  rw[List.length_erase_of_mem ha] at h1
  have:=List.length_pos_of_mem ha
  simp;omega
theorem zmf:∀ {l:List ByteArray} (_:l.Nodup) {k:Nat} (hk:k < l.length),zbf l l[k]=some k
 |y::r,hn,0,_=>by simp[zbf]
 |y::r,hn,k+1,hk=>by
  have hk':k < r.length:=by simpa using hk
  have hne:y≠r[k]:=by
   rintro e
   exact(List.nodup_cons.1 hn).1 (e ▸ List.getElem_mem hk')
  simp only[List.getElem_cons_succ,zbf,if_neg hne,zmf (List.nodup_cons.1 hn).2 hk',Option.map_some]
theorem zh3:∀ {ps:List ByteArray} {n:ByteArray},n∈ps->∃ k,k < ps.length/\zbf ps n=some k:=fun{ps n} h=>by
 have:(zbf ps n).isSome=true:=by rw[zkc];exact zfy.2 h
 obtain⟨k,hk⟩:=Option.isSome_iff_exists.1 this
 obtain⟨h1,_⟩:=ziy hk
 exact⟨k,h1,hk⟩
theorem zfp{c:zab}(h:zeh c=false):c.head.args.length<=3/\c.body.length<=6/\(∀ l∈c.body,l.args.length<=3)/\(zjy c).length<=5:=by
 simp only[zeh,Bool.or_eq_false_iff,decide_eq_false_iff_not,List.any_eq_false,decide_eq_true_eq] at h
 obtain⟨⟨⟨h1,h2⟩,h3⟩,h4⟩:=h
 exact⟨by omega,by omega,fun l hl=>by have:=h3 l hl;omega,by omega⟩
theorem zf5{c:zab}(h:zeh c=false):(zaf c).length<=5:=by
 have h1:=(zfp h).2.2.2
 have:=zlu (zk9 c) (l2:=zjy c) (fun x hx=>by
  obtain⟨a,l,b,_,d⟩:=zh0.1 hx
  exact z1z.2 ⟨a,Or.inr ⟨l,b,d⟩⟩)
 omega
structure zif (pl:List Nat) (k:Nat):Prop where
 five:∀ i,pl.getD i 0 < 5
 low:∀ i,i < k->pl.getD i 0 < k
 onto:∀ p,p < k->∃ i,i < k/\pl.getD i 0=p
theorem z5t{cs:List zab}{t0 t:List zar}(h:Parts cs t0 t){c:zab}(hc:c∈cs)(ns:List ByteArray)(o:Option (List Int))(hp:zif (za4 (o.getD [])) (zaf c).length):zm7 (zlb t ns c o) (t.map (·.arity)) (za2 ns.length):=by
 have hm:=h.many c hc
 obtain⟨m1,m2,m3,m4⟩:=zfp hm
 have h5:=zf5 hm
 have hs:=h.safe c hc
 simp only[ze4,Bool.and_eq_true,List.all_eq_true,Bool.or_eq_true,Bool.not_eq_true'] at hs
 have hplace:∀ {l:zbz} {p:Nat},(∀ y∈l.args,za6 y=true->y∈zaf c)->zdd (zde t ns (zaf c) (za4 (o.getD [])) l) p=true->p < (zaf c).length:=by
  intro l p hv hh
  obtain⟨y,y1,y2,y3⟩:=znw.1 hh
  obtain⟨k,k1,k2⟩:=zh3 (hv y y1 y2)
  unfold zdf at y3
  rw[k2] at y3
  simp only at y3
  rw[if_neg (by omega)] at y3
  rw[← y3]
  exact hp.low k k1
 have hvhead:∀ y∈c.head.args,za6 y=true->y∈zaf c:=zin.1 hs.1
 have hvbody:∀ l∈c.body,∀ y∈l.args,za6 y=true->y∈zaf c:=by
  intro l hl y hy hv
  cases hn:l.neg with
  |false=>exact zh0.2 ⟨hv,l,hl,hn,hy⟩
  |true =>
   rcases hs.2 l hl with q|q
   ·rw[hn] at q;cases q
   ·exact zin.1 q y hy hv
 have hlit:∀ l∈c.body,(zde t ns (zaf c) (za4 (o.getD [])) l).pred < (t.map (·.arity)).length/\zha (zde t ns (zaf c) (za4 (o.getD [])) l) ((t.map (·.arity)).getD (zde t ns (zaf c) (za4 (o.getD [])) l).pred 0) (za2 ns.length):=by
  intro l hl
  obtain⟨e,_,_,q3,q4,_⟩:=h.lit hc (l:=l) (by simp[za1,hl])
  refine⟨by simpa [zde] using q3,?_⟩
  show zha _ ((t.map (·.arity)).getD (zbd t l.pred) 0) _
  rw[q4]
  exact zq6 t ns _ _ l hp.five (m3 l hl)
 obtain⟨e,_,_,q3,q4,_⟩:=h.lit hc (l:=c.head) (by simp[za1])
 refine⟨⟨h5,fun l hl=>?_,fun l hl p hh=>?_,fun l hl p hh=>?_,fun p hh=>hplace hvhead hh,fun p hpp=>?_⟩,by simpa [zlb,zde] using q3,?_,fun l hl=>?_,fun l hl=>?_⟩
 ·obtain⟨x,hx,rfl⟩:=List.mem_map.1 hl
  have:=(hlit x (List.mem_filter.1 hx).1).2
  have:=m3 x (List.mem_filter.1 hx).1
  simp[zde,za3];omega
 ·obtain⟨x,hx,rfl⟩:=List.mem_map.1 hl
  exact hplace (hvbody x (List.mem_filter.1 hx).1) hh
 ·obtain⟨x,hx,rfl⟩:=List.mem_map.1 hl
  exact hplace (hvbody x (List.mem_filter.1 hx).1) hh
 ·obtain⟨i,i1,i2⟩:=hp.onto p hpp
  have hmem:=List.getElem_mem i1
  obtain⟨v1,l,v2,v3,v4⟩:=zh0.1 hmem
  refine⟨_,List.mem_map.2 ⟨l,List.mem_filter.2 ⟨v2,by simp[v3]⟩,rfl⟩,znw.2 ⟨_,v4,v1,?_⟩⟩
  unfold zdf
  rw[zmf (zk9 c) i1]
  simp only
  rw[if_neg (by omega)]
  exact i2
 ·show zha _ ((t.map (·.arity)).getD (zbd t c.head.pred) 0) _
  rw[q4]
  exact zq6 t ns _ _ c.head hp.five m1
 ·obtain⟨x,hx,rfl⟩:=List.mem_map.1 hl
  exact hlit x (List.mem_filter.1 hx).1
 ·obtain⟨x,hx,rfl⟩:=List.mem_map.1 hl
  exact hlit x (List.mem_filter.1 hx).1
theorem z2w{cs:List zab}{t0 t:List zar}(h:Parts cs t0 t)(ns:List ByteArray)(os:Option (List (Option (List Int))))(hp:∀ i (hi:i < cs.length),zif (za4 ((zdz os i).getD [])) (zaf cs[i]).length):z3x (zjl t ns os cs):=by
 have harr:∀ a∈t.map (·.arity),a<=3:=by
  intro a ha
  obtain⟨e,he,rfl⟩:=List.mem_map.1 ha
  have hAr:arT t=arT t0:=by have:=zim (t0.length+1) t0 cs;rw[h.strat] at this;exact this
  have hpair:(e.name,e.arity)∈arT t0:=by rw[← hAr];exact List.mem_map.2 ⟨e,he,rfl⟩
  obtain⟨e0,m1,m2⟩:=List.mem_map.1 hpair
  simp only[Prod.mk.injEq] at m2
  obtain⟨l,l1,l2⟩:=(h.tab.names e0.name).1 (List.mem_map.2 ⟨e0,m1,rfl⟩)
  have:=h.tab.arity e0 m1 l l1 l2
  obtain⟨c,hc,hl⟩:=List.mem_flatMap.1 l1
  obtain⟨q1,_,q3,_⟩:=zfp (h.many c hc)
  rw[← m2.2,← this]
  rcases List.mem_cons.1 hl with rfl|hl
  ·exact q1
  ·exact q3 l hl
 have hW:0 < za2 ns.length:=by unfold za2;split <;> omega
 have hrule:∀ r∈zep t ns os cs,∃ i,∃ hi:i < cs.length,0 < cs[i].body.length/\r=zlb t ns cs[i] (zdz os i):=by
  intro r hr
  unfold zep at hr
  obtain⟨⟨c,i⟩,h1,h2⟩:=List.mem_filterMap.1 hr
  have h3:=List.mem_zipIdx_iff_getElem?.1 h1
  simp only at h2 h3
  obtain⟨hi,rfl⟩:=List.getElem?_eq_some_iff.1 h3
  split at h2
  ·rename_i hb
   simp only[Option.some.injEq] at h2
   exact⟨i,hi,hb,h2.symm⟩
  ·cases h2
 refine⟨harr,fun f hf=>?_,fun r hr=>?_,fun r hr r' hr' hst l hl=>?_⟩
 ·have hf':f∈zel t ns cs:=hf
  unfold zel at hf'
  obtain⟨c,hc,rfl⟩:=List.mem_map.1 hf'
  have hcm:=(List.mem_filter.1 hc).1
  obtain⟨e,_,_,q3,q4,_⟩:=h.lit hcm (l:=c.head) (by simp[za1])
  have hwf:zha (zde t ns [] [0,0,0,0,0] c.head) c.head.args.length (za2 ns.length):=zq6 t ns [] _ c.head (fun k=>by
   by_cases hk:k < 5
   ·have:k=0∨k=1∨k=2∨k=3∨k=4:=by omega
    rcases this with rfl|rfl|rfl|rfl|rfl <;> decide
   ·simp[List.getD,List.getElem?_eq_none (show([0,0,0,0,0]:List Nat).length<=k by simp;omega)]) (zfp (h.many c hcm)).1
  refine⟨by simpa [zio,zjl] using q3,?_,?_⟩
  ·show Canon ((t.map (·.arity)).getD (zbd t c.head.pred) 0) _
   rw[q4]
   exact zja hwf _
  ·refine zqb hwf hW fun p _=>?_
   by_cases hk:p < 5
   ·have:p=0∨p=1∨p=2∨p=3∨p=4:=by omega
    rcases this with rfl|rfl|rfl|rfl|rfl <;> exact hW
   ·rw[show([0,0,0,0,0]:List Nat).getD p 0=0 by simp[List.getD,List.getElem?_eq_none (show([0,0,0,0,0]:List Nat).length<=p by simp;omega)]]
    exact hW
 ·obtain⟨i,hi,_,rfl⟩:=hrule r hr
  exact z5t h (List.getElem_mem hi) ns _ (hp i hi)
 ·obtain⟨i,hi,_,rfl⟩:=hrule r hr
  obtain⟨j,hj,_,rfl⟩:=hrule r' hr'
  obtain⟨x,hx,rfl⟩:=List.mem_map.1 hl
  have hxb:=(List.mem_filter.1 hx).1
  have hxn:x.neg=true:=by simpa using(List.mem_filter.1 hx).2
  have hsol:=h.sol cs[i] (List.getElem_mem hi) x hxb
  unfold up at hsol
  rw[if_pos hxn] at hsol
  obtain⟨e1,a1,_,_,_,a5⟩:=h.lit (List.getElem_mem hi) (l:=x) (by simp[za1,hxb])
  obtain⟨e2,b1,_,_,_,b5⟩:=h.lit (List.getElem_mem hj) (l:=cs[j].head) (by simp[za1])
  intro e
  have e':zbd t x.pred=zbd t cs[j].head.pred:=e
  rw[a5,b5] at e'
  have hname:=z4p a1 b1 e'
  have hst':zds t cs[i].head.pred=zds t cs[j].head.pred:=hst
  rw[zi2,zi2,← hname] at hst'
  omega
theorem zp5{k:Nat}(hk:k<=5):zif (za4 []) k:=by
 have e:za4 []=[0,1,2,3,4]:=rfl
 have hg:∀ i,i < 5->([0,1,2,3,4]:List Nat).getD i 0=i:=by
  intro i hi
  have:i=0∨i=1∨i=2∨i=3∨i=4:=by omega
  rcases this with rfl|rfl|rfl|rfl|rfl <;> rfl
 rw[e]
 refine⟨fun i=>?_,fun i hi=>by rw[hg i (by omega)];exact hi,fun p hp=>⟨p,hp,hg p (by omega)⟩⟩
 by_cases hi:i < 5
 ·rw[hg i hi];exact hi
 ·simp[List.getD,List.getElem?_eq_none (show([0,1,2,3,4]:List Nat).length<=i by simp;omega)]
end Go.Proofs.YteampbddflhngabGreat
namespace Go.Proofs.YteampbddflhngabGreat
open Classical
theorem Parts.low{cs:List zab}{t0 t:List zar}(h:Parts cs t0 t):t.length=t0.length/\t.length<=500/\∀ n,zds t n<=t.length:=by
 have hAr:arT t=arT t0:=by have:=zim (t0.length+1) t0 cs;rw[h.strat] at this;exact this
 have hlen:t.length=t0.length:=by have:=congrArg List.length hAr;simpa [arT] using this
 have h1:=zqs _ [] t0 h.coll
 have h2:=zxi cs
 have h3:=h.few
 simp only[List.length_nil,Nat.zero_add] at h1
 have hall:zlh t0 cs:=by
  intro c hc l hl
  have hmem:l∈cs.flatMap za1:=List.mem_flatMap.2 ⟨c,hc,hl⟩
  cases he:zbb t0 l.pred with
  |some e=>rfl
  |none =>
   obtain⟨e,hm,hn⟩:=List.mem_map.1 ((h.tab.names l.pred).2 ⟨l,hmem,rfl⟩)
   exact absurd hn (zkp h.tab.rise he e hm)
 have hz:∀ n,val t0 n=0:=fun n=>by
  unfold val
  split
  ·rename_i e he
   have:=znb _ [] (fun e he=>by cases he) t0 h.coll e (znl he).1
   omega
  ·rfl
 have hL:=(z3c hall hz).2 (by rw[h.strat])
 rw[h.strat] at hL
 refine⟨hlen,by omega,fun n=>?_⟩
 rw[zi2]
 by_cases hn:n∈namesT t0
 ·have:=z4x hL (ps:=namesT t0) (fun c hc l hl=>(h.tab.names l.pred).2 ⟨l,List.mem_flatMap.2 ⟨c,hc,hl⟩,rfl⟩) hn
  simp[namesT] at this
  show val t n<=_
  omega
 ·have:val t n=0:=zwi (by rw[zr3 hAr];exact hn)
  omega
theorem z0g(cs:List zab):zov cs<=prW cs:=by
 induction cs with
 |nil=>simp[zov,prW]
 |cons c cs ih =>
  have h1:=zoi c.body
  have h2:zln c.body=zce c.body:=by
   have:∀ ls:List zbz,zln ls=zce ls:=by
    intro ls
    induction ls with
    |nil=>rfl
    |cons a ls ih=>simp[zln,zce,zj1] at ih ⊢;omega
   exact this _
  simp[zov,prW,clW,zz4,zj1] at ih ⊢
  omega
end Go.Proofs.YteampbddflhngabGreat
namespace Go.Proofs.YteampbddflhngabGreat
open Go.RowKit
theorem Parts.runok{cs:List zab}{t0 t:List zar}(h:Parts cs t0 t):z6s cs t none/\z3x (zjl t (zav cs) none cs):=by
 have hset:z3x (zjl t (zav cs) none cs):=z2w h _ none (fun i hi=>zp5 (zf5 (h.many _ (List.getElem_mem hi))))
 obtain⟨_,hl,hst⟩:=h.low
 have hf:=h.few
 have hlen:=z2p cs
 have hargs:=z0g cs
 have hvals:(zav cs).length<=500:=by
  have:=zj2 cs []
  simp only[List.length_nil,Nat.zero_add] at this
  show(cs.foldl zdc []).length<=500
  omega
 have hok:=z6n (cs:=cs) (by omega)
 have hbody:∀ c∈cs,c.body.length<=6:=fun c hc=>(zfp (h.many c hc)).2.1
 refine⟨⟨by omega,by omega,hok,fun c hc=>⟨(hok c hc).1,by have:=hbody c hc;omega⟩,⟨by omega,by omega,fun c hc=>(hok c hc).2⟩,by omega,fun n=>by have:=hst n;omega,by simp,by simp,fun _=>by simp,fun _=>⟨fun r hr=>⟨fun l hl=>((hset.rules.rules r hr).plain l hl).1,fun l hl=>⟨((hset.rules.rules r hr).nots l hl).1,hset.rules.apart r hr r hr rfl l hl⟩⟩,?_,fun a ha=>by have:=hset.small a ha;omega,fun f hf=>(hset.facts f hf).2.1.1,?_,by show(zav cs).length<=1000;omega⟩⟩,hset⟩
 ·show(t.map (·.arity)).length<=1000
  simp;omega
 ·show(zel t (zav cs) cs).length<=1000000
  have:(zel t (zav cs) cs).length<=cs.length:=by
   unfold zel
   rw[List.length_map]
   exact List.length_filter_le _ _
  omega
def z7u(lp:Nat)(t:List zar)(ns:List ByteArray)(o:Option (DB × Nat))(w:World)(e:Ending)(w':World):Prop:=match o with
 |none=>e=.returned (.tuple #[.pointer none,.int .i64 10])/\Below w.heap.size w w'
 |some x=>∃(R:zbk) (rb:Nat) (pv nv rv:Value) (tbs:List Nat),w.heap.size<=rb/\e=.returned (.tuple #[.pointer (some ⟨rb,0,none⟩),.int .i64 0])/\zwp w.heap.size lp w' rb t ns R pv nv rv tbs/\zeu (t.map (·.arity)) (za2 ns.length) R/\zc0 (t.map (·.arity)) R=x.1/\R.rounds=x.2/\zjv x.1 R.count/\R.count<=1048576/\Below w.heap.size w w'
theorem z8j{lp:Nat}(w:World)(pb:Nat){cs:List zab}{t0 t:List zar}(hP:zou lp w pb cs t)(h:Parts cs t0 t)(hlp:lp<=w.heap.size)(mr mx:Nat)(h1:mr<=1048576)(h2:mx<=1048576) :
  Calls Tryz.prog 24 #[.pointer (some ⟨pb,0,none⟩),.slice none 0 0,.int .i64 mr,.int .i64 mx] w fun e w'=>z7u lp t (zav cs) (zjm (zjl t (zav cs) none cs) mr mx) w e w':=by
 obtain⟨hk,hset⟩:=h.runok
 obtain⟨N,hN⟩:=z5v hset (mr:=mr) (mx:=mx) h1
 obtain⟨res,r1,r2,r3⟩:=hN N (Nat.le_refl _)
 refine(z5o w pb cs t (.slice none 0 0) none mr mx N res hP rfl hk rfl h1 h2 hlp r1).mono ?_
 intro e w' hres
 cases res with
 |none=>rw[r2 rfl];exact hres
 |some R =>
  obtain⟨q1,q2,q3⟩:=r3 R rfl
  obtain⟨rb,pv,nv,rv,tbs,s1,s2,s3,s4⟩:=hres
  rw[q3]
  exact⟨R,rb,pv,nv,rv,tbs,s1,s2,s3,q1,rfl,rfl,q1.card hset.small,by omega,s4⟩
end Go.Proofs.YteampbddflhngabGreat
