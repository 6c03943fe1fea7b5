import Derived.Test.YteampbddflhngabGreatJ41
import Derived.Test.YteampbddflhngabGreatJ34
import Derived.Test.YteampbddflhngabGreatJ35

namespace Go.Proofs.YteampbddflhngabGreat
theorem zpe(t:List zav)(n:ByteArray):(zbu t n).isSome=true↔(namesT t)[zaj t n]?=some n:=by
 unfold zbu namesT
 rw[List.getElem?_map]
 cases h:t[zaj t n]? with
 |none=>simp
 |some e =>
  simp only[Option.map_some,Option.some.injEq]
  split <;> simp[*]
theorem zly{t t':List zav}(h:namesT t=namesT t')(n:ByteArray):(zbu t n).isSome=true↔(zbu t' n).isSome=true:=by
 rw[zpe,zpe,h,zis h n]
def zk8(t:List zav)(cs:List zac):Prop:=∀ c∈cs,∀ l∈za5 c,(zbu t l.pred).isSome=true
theorem zk8.names{t t':List zav}{cs:List zac}(h:zk8 t cs)(hn:namesT t=namesT t'):zk8 t' cs:=fun c hc l hl=>(zly hn _).1 (h c hc l hl)
structure z7s (x y:List zav × Bool) (ds:List zac):Prop where
 names:namesT y.1=namesT x.1
 grow:∀ n,val x.1 n<=val y.1 n
 step:∀ c∈ds,∀ l∈c.body,val x.1 l.pred+up l<=val y.1 c.head.pred
 low:∀ f,Sol ds f->(∀ n,val x.1 n<=f n)->∀ n,val y.1 n<=f n
 still:y.2=false->y.1=x.1/\x.2=false
 moved:y.2=true->x.2=true∨∃ n,val x.1 n < val y.1 n
theorem z4q{x:List zav × Bool}{c:zac}(h:zk8 x.1 [c]):z7s x (zel x c) [c]:=by
 have hh:(zbu x.1 c.head.pred).isSome=true:=h c (by simp) c.head (by simp[za5])
 have hl:∀ l∈c.body,zt5 x.1 l=val x.1 l.pred+up l:=fun l hl=>z4c (h c (by simp) l (by simp[za5,hl]))
 have hv:=fun m=>zty x.1 c.head.pred (zfa x.1 c) m
 have hf:=zyw x.1 c.head.pred (zfa x.1 c)
 refine⟨ztl _ _ _,fun n=>?_,fun c' hc' l hlb=>?_,fun f hs hlow n=>?_,fun hst=>?_,fun hmv=>?_⟩
 ·show _<=val (zb8 _ _ _).1 n
  rw[hv];split
  ·rename_i e;rw[e.1];omega
  ·omega
 ·simp at hc';subst hc'
  show _<=val (zb8 _ _ _).1 _
  rw[hv,if_pos ⟨rfl,hh⟩,← hl l hlb]
  have:=(zwo (t:=x.1) c'.body 0).2 l hlb
  unfold zfa;omega
 ·show val (zb8 _ _ _).1 n<=_
  rw[hv]
  split
  ·rename_i e
   rw[e.1]
   have h1:=hlow c.head.pred
   have h2:zfa x.1 c<=f c.head.pred:=by
    unfold zfa
    refine zwp c.body 0 (Nat.zero_le _) fun l hlb=>?_
    have:=hs c (by simp) l hlb
    have:=hlow l.pred
    rw[hl l hlb];omega
   omega
  ·exact hlow n
 ·have h2:(x.2 || (zb8 x.1 c.head.pred (zfa x.1 c)).2)=false:=hst
  rw[Bool.or_eq_false_iff] at h2
  exact⟨hf.1 h2.2,h2.1⟩
 ·have h2:(x.2 || (zb8 x.1 c.head.pred (zfa x.1 c)).2)=true:=hmv
  rw[Bool.or_eq_true] at h2
  rcases h2 with h2|h2
  ·exact Or.inl h2
  ·exact Or.inr ⟨_,hf.2 h2⟩
theorem zkz:∀(ds:List zac) (x:List zav × Bool),zk8 x.1 ds->z7s x (ds.foldl zel x) ds
 |[],x,_=>⟨rfl,fun _=>Nat.le_refl _,fun c hc=>by(cases hc),fun _ _ h=>h,fun h=>⟨rfl,h⟩,fun h=>Or.inl h⟩
 |c::ds,x,h=>by
  have p1:=z4q (x:=x) (c:=c) fun c' hc'=>by simp at hc';subst hc';exact h c' (by simp)
  have p2:=zkz ds (zel x c) (zk8.names (fun c' hc'=>h c' (by simp[hc'])) p1.names.symm)
  rw[List.foldl_cons]
  refine⟨p2.names.trans p1.names,fun n=>Nat.le_trans (p1.grow n) (p2.grow n),fun c' hc' l hl=>?_,fun f hs hlow=>?_,fun hst=>?_,fun hmv=>?_⟩
  ·rcases List.mem_cons.1 hc' with rfl|hc'
   ·exact Nat.le_trans (p1.step c' (by simp) l hl) (p2.grow _)
   ·have:=p2.step c' hc' l hl
    have:=p1.grow l.pred
    omega
  ·exact p2.low f (fun c' hc'=>hs c' (by simp[hc'])) (p1.low f (fun c' hc'=>by simp at hc';subst hc';exact hs c' (by simp)) hlow)
  ·have h2:=p2.still hst
   have h1:=p1.still h2.2
   exact⟨h2.1.trans h1.1,h1.2⟩
  ·rcases p2.moved hmv with h2|⟨n,h2⟩
   ·rcases p1.moved h2 with h1|⟨n,h1⟩
    ·exact Or.inl h1
    ·exact Or.inr ⟨n,Nat.lt_of_lt_of_le h1 (p2.grow n)⟩
   ·exact Or.inr ⟨n,Nat.lt_of_le_of_lt (p1.grow n) h2⟩
theorem zv4{t:List zav}{n:ByteArray}(h:n∉namesT t):val t n=0:=by
 unfold val
 split
 ·rename_i e he
  obtain⟨hm,hn⟩:=zm8 he
  exact absurd (List.mem_map.2 ⟨e,hm,hn⟩) h
 ·rfl
def rest(f:ByteArray->Nat)(t:List zav):Nat:=((namesT t).filter fun n=>decide (val t n≠f n)).length
theorem z6q{f:ByteArray->Nat}{t t':List zav}(hn:namesT t'=namesT t)(hmono:∀ n,val t n=f n->val t' n=f n){m:ByteArray}(hm:m∈namesT t)(h1:val t m≠f m)(h2:val t' m=f m):rest f t' < rest f t:=by
 unfold rest
 rw[hn]
 generalize namesT t=ns at hm
 have hle:∀ l:List ByteArray,(l.filter fun n=>decide (val t' n≠f n)).length<=(l.filter fun n=>decide (val t n≠f n)).length:=by
  intro l
  induction l with
  |nil=>simp
  |cons a l ih =>
   by_cases ha:val t a=f a
   ·simp[ha,hmono a ha];simpa using ih
   ·by_cases hb:val t' a=f a
    ·simp[ha,hb];have:=ih;simp at this;omega
    ·simp[ha,hb];simpa using ih
 induction ns with
 |nil=>cases hm
 |cons a ns ih =>
  have hns:=hle ns
  rcases List.mem_cons.1 hm with rfl|hm
  ·simp[h1,h2];simp at hns;omega
  ·have:=ih hm
   by_cases ha:val t a=f a
   ·simp[ha,hmono a ha];simpa using this
   ·by_cases hb:val t' a=f a
    ·simp[ha,hb];simp at this;omega
    ·simp[ha,hb];simpa using this
theorem zvw:∀(m:Nat) (t:List zav) (cs:List zac),zk8 t cs->namesT (zcv m t cs).1=namesT t
 |0,_,_,_=>rfl
 |m+1,t,cs,h=>by
  have p:=zkz cs (t,false) h
  unfold zcv
  split
  ·exact(zvw m _ cs (h.names p.names.symm)).trans p.names
  ·exact p.names
theorem ztt{f:ByteArray->Nat}:∀(m:Nat) (t:List zav) (cs:List zac),zk8 t cs->Sol cs f->(∀ n,val t n<=f n)->∀ n,val (zcv m t cs).1 n<=f n
 |0,_,_,_,_,h=>h
 |m+1,t,cs,h,hs,hlow=>by
  have p:=zkz cs (t,false) h
  have:=p.low f hs hlow
  unfold zcv
  split
  ·exact ztt m _ cs (h.names p.names.symm) hs this
  ·exact this
theorem zk5:∀(m:Nat) (t:List zav) (cs:List zac),zk8 t cs->(zcv m t cs).2=true->Sol cs (val (zcv m t cs).1)
 |0,_,_,_,h=>by cases h
 |m+1,t,cs,h,ht=>by
  have p:=zkz cs (t,false) h
  unfold zcv at ht ⊢
  split at ht
  ·rename_i hc
   rw[if_pos hc]
   exact zk5 m _ cs (h.names p.names.symm) ht
  ·rename_i hc
   rw[if_neg hc]
   have h1:=(p.still (by simpa [zbz] using hc)).1
   intro c hcc l hl
   have h2:=p.step c hcc l hl
   show val (cs.foldl zel (t,false)).1 l.pred+up l<=val (cs.foldl zel (t,false)).1 c.head.pred
   rw[h1] at h2 ⊢
   exact h2
theorem zp6{f:ByteArray->Nat}{cs:List zac}(hf:Least cs f):∀(m:Nat) (t:List zav),zk8 t cs->(∀ n,val t n<=f n)->rest f t < m->(zcv m t cs).2=true
 |0,_,_,_,h=>by omega
 |m+1,t,h,hlow,hr=>by
  have p:=zkz cs (t,false) h
  have hlow2:=p.low f hf.1 hlow
  unfold zcv
  split
  ·rename_i hc
   refine zp6 hf m _ (h.names p.names.symm) hlow2 ?_
   have hno:¬ ∀ n,val t n=f n:=by
    intro hall
    rcases p.moved hc with h1|⟨n,h1⟩
    ·cases h1
    ·have:=hlow2 n;have:=hall n;simp only at h1;omega
   have ⟨n,hn1,hn2⟩:∃ n,val (cs.foldl zel (t,false)).1 n=f n/\val t n≠f n:=by
    apply Classical.byContradiction
    intro hx
    exact hno (zx1 hf p.grow hlow2 p.step fun n hb=>Classical.byContradiction fun hc=>hx ⟨n,hb,hc⟩)
   have hm:n∈namesT t:=by
    apply Classical.byContradiction
    intro hx
    have h1:=zv4 hx
    have h2:val (cs.foldl zel (t,false)).1 n=0:=zv4 (by rw[p.names];exact hx)
    omega
   have:=z6q (f:=f) (t:=t) p.names (fun k hk=>Nat.le_antisymm (hlow2 k) (by rw[← hk];exact p.grow k)) hm hn2 hn1
   show rest f (cs.foldl zel (t,false)).1 < m
   omega
  ·rfl
theorem z2e{cs:List zac}{t:List zav}(h:zk8 t cs)(h0:∀ n,val t n=0):((zcv (t.length+1) t cs).2=true↔∃ f,Sol cs f)/\((zcv (t.length+1) t cs).2=true->Least cs (val (zcv (t.length+1) t cs).1)):=by
 refine⟨⟨fun e=>⟨_,zk5 _ t cs h e⟩,?_⟩,fun e=>⟨zk5 _ t cs h e,fun g hg=>ztt _ t cs h hg fun n=>by rw[h0];omega⟩⟩
 rintro⟨g,hg⟩
 obtain⟨f,hf⟩:=zsy hg
 refine zp6 hf _ t h (fun n=>by rw[h0];omega) ?_
 have:=List.length_filter_le (fun n=>decide (val t n≠f n)) (namesT t)
 have h2:(namesT t).length=t.length:=by simp[namesT]
 unfold rest;omega
structure Parts (cs:List zac) (t0 t:List zav):Prop where
 few:prW cs<=500
 many:∀ c∈cs,zed c=false
 coll:zgf cs=some t0
 tab:Tab t0 (cs.flatMap za5)
 safe:∀ c∈cs,ze7 c=true
 strat:zcv (t0.length+1) t0 cs=(t,true)
theorem z6u{s:ByteArray}{cs:List zac}{t:List zav}(h:z3q s=.ok (cs,t)):∃ t0,Parts cs t0 t:=by
 unfold z3q at h
 split at h
 ·cases h
 ·rename_i hs
  split at h
  ·cases h
  ·rename_i tl hS
   split at h
   ·cases h
   ·rename_i cs2 hP
    split at h
    ·cases h
    ·rename_i hm
     split at h
     ·cases h
     ·rename_i t0 hC
      split at h
      ·rename_i hsafe
       split at h
       ·rename_i hst
        simp only[Except.ok.injEq,Prod.mk.injEq] at h
        obtain⟨rfl,rfl⟩:=h
        refine⟨t0,?_,fun c hc=>?_,hC,zur hC,fun c hc=>List.all_eq_true.1 hsafe c hc,?_⟩
        ·have h1:=zvg hP
         have h2:=zp4 hS
         omega
        ·cases hq:zed c with
         |false=>rfl
         |true=>exact absurd (List.any_eq_true.2 ⟨c,hc,hq⟩) hm
        ·rw[← hst]
       ·cases h
      ·cases h
def arT(t:List zav):List (ByteArray × Nat):=t.map fun e=>(e.name,e.arity)
theorem zzv(t:List zav)(n:ByteArray)(s:Nat):arT (zb8 t n s).1=arT t:=by
 unfold zb8
 split
 ·rfl
 ·rename_i e he
  split
  ·rfl
  ·obtain⟨hk,h1,h2⟩:=zcd he
   unfold arT
   refine List.ext_getElem (by simp) fun i h3 h4=>?_
   simp only[List.getElem_map,List.getElem_set]
   split
   ·rename_i e2
    subst e2
    rw[h1]
   ·rfl
theorem zzu:∀(cs:List zac) (x:List zav × Bool),arT (cs.foldl zel x).1=arT x.1
 |[],_=>rfl
 |c::cs,x=>by
  rw[List.foldl_cons,zzu cs]
  exact zzv _ _ _
theorem zii:∀(m:Nat) (t:List zav) (cs:List zac),arT (zcv m t cs).1=arT t
 |0,_,_=>rfl
 |m+1,t,cs=>by
  have h1:arT (zbz t cs).1=arT t:=zzu cs (t,false)
  unfold zcv
  split
  ·rw[zii m,h1]
  ·exact h1
theorem zrq{t t':List zav}(h:arT t=arT t'):namesT t=namesT t':=by
 have:=congrArg (List.map Prod.fst) h
 simpa [arT,namesT,Function.comp_def] using this
theorem Parts.lit{cs:List zac}{t0 t:List zav}(h:Parts cs t0 t){c:zac}(hc:c∈cs){l:zbv}(hl:l∈za5 c):∃ e,zbu t l.pred=some e/\e.name=l.pred/\zcf t l.pred < t.length/\(t.map (·.arity)).getD (zcf t l.pred) 0=l.args.length/\zcf t l.pred=zaj t l.pred:=by
 have hAr:arT t=arT t0:=by have:=zii (t0.length+1) t0 cs;rw[h.strat] at this;exact this
 have hmem:l∈cs.flatMap za5:=List.mem_flatMap.2 ⟨c,hc,hl⟩
 have hin0:(zbu t0 l.pred).isSome=true:=by
  cases he:zbu t0 l.pred with
  |some e=>rfl
  |none =>
   obtain⟨e,hm,hn⟩:=List.mem_map.1 ((h.tab.names l.pred).2 ⟨l,hmem,rfl⟩)
   exact absurd hn (zkh h.tab.rise he e hm)
 have hin:(zbu t l.pred).isSome=true:=(zly (zrq hAr).symm _).1 hin0
 obtain⟨e,he⟩:=Option.isSome_iff_exists.1 hin
 obtain⟨hk,h1,h2⟩:=zcd he
 have hfn:zcf t l.pred=zaj t l.pred:=by unfold zcf;rw[if_pos hin]
 refine⟨e,he,h2,by rw[hfn];exact hk,?_,hfn⟩
 rw[hfn]
 have e1:(t.map (·.arity)).getD (zaj t l.pred) 0=e.arity:=by simp[List.getD,hk,h1]
 rw[e1]
 have hpair:(e.name,e.arity)∈arT t0:=by
  rw[← hAr]
  exact List.mem_map.2 ⟨e,by rw[← h1];exact List.getElem_mem hk,rfl⟩
 obtain⟨e0,m1,m2⟩:=List.mem_map.1 hpair
 simp only[Prod.mk.injEq] at m2
 rw[← m2.2]
 exact(h.tab.arity e0 m1 l hmem (by rw[m2.1,h2])).symm
theorem Parts.sol{cs:List zac}{t0 t:List zav}(h:Parts cs t0 t):Sol cs (val t):=by
 have hall:zk8 t0 cs:=by
  intro c hc l hl
  have hmem:l∈cs.flatMap za5:=List.mem_flatMap.2 ⟨c,hc,hl⟩
  cases he:zbu t0 l.pred with
  |some e=>rfl
  |none =>
   obtain⟨e,hm,hn⟩:=List.mem_map.1 ((h.tab.names l.pred).2 ⟨l,hmem,rfl⟩)
   exact absurd hn (zkh h.tab.rise he e hm)
 have:=zk5 (t0.length+1) t0 cs hall (by rw[h.strat])
 rw[h.strat] at this
 exact this
theorem zix(t:List zav)(n:ByteArray):zdx t n=val t n:=rfl
theorem z3t{t:List zav}{a b:ByteArray}{ea eb:zav}(h1:zbu t a=some ea)(h2:zbu t b=some eb)(e:zaj t a=zaj t b):a=b:=by
 obtain⟨ka,a1,a2⟩:=zcd h1
 obtain⟨kb,b1,b2⟩:=zcd h2
 have:ea=eb:=by rw[← a1,← b1];simp[e]
 rw[← a2,← b2,this]
theorem ze5(p:Nat)(ts:List zbh)(x:zbh):(zcx p ts x).var=x.var/\(zcx p ts x).num=x.num:=by unfold zcx;split <;> exact⟨rfl,rfl⟩
theorem zqu(t:List zav)(ns vs:List ByteArray)(pl:List Nat)(l:zbv)(p:Nat):zc8 (zdh t ns vs pl l) p=zc8 ⟨0,za2 ns vs pl l⟩ p:=by
 unfold zc8 zdh
 simp only[List.any_map]
 congr 1
 funext x
 simp only[Function.comp,(ze5 0 _ x).1,(ze5 0 _ x).2]
theorem zyk(t:List zav)(ns vs:List ByteArray)(pl:List Nat)(l:zbv)(p:Nat):zbj (zdh t ns vs pl l) p=zbj ⟨0,za2 ns vs pl l⟩ p:=by
 unfold zbj
 rw[zqu,show zc8 (zdh t ns vs pl l)=zc8 ⟨0,za2 ns vs pl l⟩ from funext (zqu t ns vs pl l)]
theorem z2l(ns:List ByteArray)(x:ByteArray):(ze6 ns x).getD 0 < za1 ns.length:=by
 unfold ze6 za1
 split
 ·rename_i h
  simp only[Option.getD_some]
  split <;> omega
 ·simp only[Option.getD_none]
  split <;> omega
theorem zqv(t:List zav)(ns vs:List ByteArray)(pl:List Nat)(l:zbv)(hp:∀ k,pl.getD k 0 < 5)(h3:l.args.length<=3):zg9 (zdh t ns vs pl l) l.args.length (za1 ns.length):=by
 have hterm:∀ x∈(zdh t ns vs pl l).terms,∃ y∈l.args,x=zcx 0 (za2 ns vs pl l) (zfi ns vs pl y)/\zfi ns vs pl y∈za2 ns vs pl l:=by
  intro x hx
  unfold zdh at hx
  simp only[List.mem_map] at hx
  obtain⟨z,hz,rfl⟩:=hx
  have hz':=hz
  unfold za2 at hz
  obtain⟨y,hy,rfl⟩:=List.mem_map.1 hz
  exact⟨y,hy,rfl,hz'⟩
 refine⟨by simp[zdh,za2],h3,fun x hx hv=>?_,fun x hx hv=>?_⟩
 ·obtain⟨y,hy,rfl,hm⟩:=hterm x hx
  obtain⟨e1,e2⟩:=ze5 0 (za2 ns vs pl l) (zfi ns vs pl y)
  rw[e1] at hv
  rw[e2,zyk]
  refine⟨?_,?_⟩
  ·unfold zfi at hv ⊢
   split
   ·unfold zfj
    split
    ·exact Nat.lt_of_sub_eq_succ rfl
    ·split
     ·exact Nat.lt_of_sub_eq_succ rfl
     ·exact hp _
   ·rename_i hn
    rw[if_neg hn] at hv
    cases hv
  ·have hh:zc8 ⟨0,za2 ns vs pl l⟩ (zfi ns vs pl y).num=true:=(ze9 _ _).2 ⟨_,hm,hv,rfl⟩
   unfold zcx
   rw[if_pos hv]
   simp only
   unfold zbj
   rw[if_pos hh]
   rfl
 ·obtain⟨y,hy,rfl,hm⟩:=hterm x hx
  obtain⟨e1,e2⟩:=ze5 0 (za2 ns vs pl l) (zfi ns vs pl y)
  rw[e1] at hv
  rw[e2]
  unfold zfi at hv ⊢
  split
  ·rename_i hn
   rw[if_pos hn] at hv
   cases hv
  ·exact z2l ns y
theorem zni{t:List zav}{ns vs:List ByteArray}{pl:List Nat}{l:zbv}{p:Nat}:zc8 (zdh t ns vs pl l) p=true↔∃ y∈l.args,zba y=true/\zfj vs pl y=p:=by
 rw[zqu,ze9]
 constructor
 ·rintro⟨x,hx,h1,h2⟩
  unfold za2 at hx
  obtain⟨y,hy,rfl⟩:=List.mem_map.1 hx
  unfold zfi at h1 h2
  by_cases hv:zba y=true
  ·rw[if_pos hv] at h2
   exact⟨y,hy,hv,h2⟩
  ·rw[if_neg hv] at h1;cases h1
 ·rintro⟨y,hy,hv,e⟩
  refine⟨zfi ns vs pl y,List.mem_map.2 ⟨y,hy,rfl⟩,?_,?_⟩
  ·unfold zfi;rw[if_pos hv]
  ·unfold zfi;rw[if_pos hv];exact e
theorem zxh{vs:List ByteArray}(h:vs.Nodup)(x:ByteArray):(zrg vs x).Nodup:=by
 unfold zrg
 split
 ·rename_i hc
  simp only[Bool.and_eq_true,Bool.not_eq_true'] at hc
  rw[List.nodup_append]
  refine⟨h,by simp,fun a ha b hb=>?_⟩
  simp at hb
  subst hb
  rintro rfl
  rw[zfx.2 ha] at hc
  cases hc.2
 ·exact h
theorem zmz:∀(args vs:List ByteArray),vs.Nodup->(zer vs args).Nodup
 |[],_,h=>h
 |x::r,vs,h=>zmz r (zrg vs x) (zxh h x)
theorem zk1(c:zac):(zah c).Nodup:=by
 have:∀(ls:List zbv) (vs:List ByteArray),vs.Nodup->(ls.foldl zek vs).Nodup:=by
  intro ls
  induction ls with
  |nil=>intro vs h;exact h
  |cons l ls ih =>
   intro vs h
   rw[List.foldl_cons]
   refine ih _ ?_
   unfold zek
   split
   ·exact h
   ·exact zmz _ _ h
 exact this c.body [] List.nodup_nil
theorem zpm{α:Type}[DecidableEq α]:∀ {l1 l2:List α},l1.Nodup->(∀ x∈l1,x∈l2)->l1.length<=l2.length
 |[],l2,_,_=>by simp
 |a::l1,l2,hn,hs=>by
  have ha:=hs a (by simp)
  have h1:=zpm (l1:=l1) (l2:=l2.erase a) (List.nodup_cons.1 hn).2 (fun x hx=>by
   have hne:x≠a:=by rintro rfl;exact(List.nodup_cons.1 hn).1 hx
   exact(List.mem_erase_of_ne hne).2 (hs x (by simp[hx])))
  rw[List.length_erase_of_mem ha] at h1
  have:=List.length_pos_of_mem ha
  simp;omega
theorem zl3:∀ {l:List ByteArray} (_:l.Nodup) {k:Nat} (hk:k < l.length),zbc l l[k]=some k
 |y::r,hn,0,_=>by simp[zbc]
 |y::r,hn,k+1,hk=>by
  have hk':k < r.length:=by simpa using hk
  have hne:y≠r[k]:=by
   rintro e
   exact(List.nodup_cons.1 hn).1 (e ▸ List.getElem_mem hk')
  simp only[List.getElem_cons_succ,zbc,if_neg hne,zl3 (List.nodup_cons.1 hn).2 hk',Option.map_some]
theorem zq0:∀ {ps:List ByteArray} {n:ByteArray},n∈ps->∃ k,k < ps.length/\zbc ps n=some k:=fun{ps n} h=>by
 have:(zbc ps n).isSome=true:=by rw[zj3];exact zfx.2 h
 obtain⟨k,hk⟩:=Option.isSome_iff_exists.1 this
 obtain⟨h1,_⟩:=znw hk
 exact⟨k,h1,hk⟩
theorem zfo{c:zac}(h:zed c=false):c.head.args.length<=3/\c.body.length<=6/\(∀ l∈c.body,l.args.length<=3)/\(zjn c).length<=5:=by
 simp only[zed,Bool.or_eq_false_iff,decide_eq_false_iff_not,List.any_eq_false,decide_eq_true_eq] at h
 obtain⟨⟨⟨h1,h2⟩,h3⟩,h4⟩:=h
 exact⟨by omega,by omega,fun l hl=>by have:=h3 l hl;omega,by omega⟩
theorem zit{c:zac}(h:zed c=false):(zah c).length<=5:=by
 have h1:=(zfo h).2.2.2
 have:=zpm (zk1 c) (l2:=zjn c) (fun x hx=>by
  obtain⟨a,l,b,_,d⟩:=zjy.1 hx
  exact z1c.2 ⟨a,Or.inr ⟨l,b,d⟩⟩)
 omega
structure zms (pl:List Nat) (k:Nat):Prop where
 five:∀ i,pl.getD i 0 < 5
 low:∀ i,i < k->pl.getD i 0 < k
 onto:∀ p,p < k->∃ i,i < k/\pl.getD i 0=p
theorem z4u{cs:List zac}{t0 t:List zav}(h:Parts cs t0 t){c:zac}(hc:c∈cs)(ns:List ByteArray)(o:Option (List Int))(hp:zms (zb5 (o.getD [])) (zah c).length):zmt (zn2 t ns c o) (t.map (·.arity)) (za1 ns.length):=by
 have hm:=h.many c hc
 obtain⟨m1,m2,m3,m4⟩:=zfo hm
 have h5:=zit hm
 have hs:=h.safe c hc
 simp only[ze7,Bool.and_eq_true,List.all_eq_true,Bool.or_eq_true,Bool.not_eq_true'] at hs
 have hplace:∀ {l:zbv} {p:Nat},(∀ y∈l.args,zba y=true->y∈zah c)->zc8 (zdh t ns (zah c) (zb5 (o.getD [])) l) p=true->p < (zah c).length:=by
  intro l p hv hh
  obtain⟨y,y1,y2,y3⟩:=zni.1 hh
  obtain⟨k,k1,k2⟩:=zq0 (hv y y1 y2)
  unfold zfj at y3
  rw[k2] at y3
  simp only at y3
  rw[if_neg (by omega)] at y3
  rw[← y3]
  exact hp.low k k1
 have hvhead:∀ y∈c.head.args,zba y=true->y∈zah c:=zm6.1 hs.1
 have hvbody:∀ l∈c.body,∀ y∈l.args,zba y=true->y∈zah c:=by
  intro l hl y hy hv
  cases hn:l.neg with
  |false=>exact zjy.2 ⟨hv,l,hl,hn,hy⟩
  |true =>
   rcases hs.2 l hl with q|q
   ·rw[hn] at q;cases q
   ·exact zm6.1 q y hy hv
 have hlit:∀ l∈c.body,(zdh t ns (zah c) (zb5 (o.getD [])) l).pred < (t.map (·.arity)).length/\zg9 (zdh t ns (zah c) (zb5 (o.getD [])) l) ((t.map (·.arity)).getD (zdh t ns (zah c) (zb5 (o.getD [])) l).pred 0) (za1 ns.length):=by
  intro l hl
  obtain⟨e,_,_,q3,q4,_⟩:=h.lit hc (l:=l) (by simp[za5,hl])
  refine⟨by simpa [zdh] using q3,?_⟩
  show zg9 _ ((t.map (·.arity)).getD (zcf t l.pred) 0) _
  rw[q4]
  exact zqv t ns _ _ l hp.five (m3 l hl)
 obtain⟨e,_,_,q3,q4,_⟩:=h.lit hc (l:=c.head) (by simp[za5])
 refine⟨⟨h5,fun l hl=>?_,fun l hl p hh=>?_,fun l hl p hh=>?_,fun p hh=>hplace hvhead hh,fun p hpp=>?_⟩,by simpa [zn2,zdh] using q3,?_,fun l hl=>?_,fun l hl=>?_⟩
 ·obtain⟨x,hx,rfl⟩:=List.mem_map.1 hl
  have:=(hlit x (List.mem_filter.1 hx).1).2
  have:=m3 x (List.mem_filter.1 hx).1
  simp[zdh,za2];omega
 ·obtain⟨x,hx,rfl⟩:=List.mem_map.1 hl
  exact hplace (hvbody x (List.mem_filter.1 hx).1) hh
 ·obtain⟨x,hx,rfl⟩:=List.mem_map.1 hl
  exact hplace (hvbody x (List.mem_filter.1 hx).1) hh
 ·obtain⟨i,i1,i2⟩:=hp.onto p hpp
  have hmem:=List.getElem_mem i1
  obtain⟨v1,l,v2,v3,v4⟩:=zjy.1 hmem
  refine⟨_,List.mem_map.2 ⟨l,List.mem_filter.2 ⟨v2,by simp[v3]⟩,rfl⟩,zni.2 ⟨_,v4,v1,?_⟩⟩
  unfold zfj
  rw[zl3 (zk1 c) i1]
  simp only
  rw[if_neg (by omega)]
  exact i2
 ·show zg9 _ ((t.map (·.arity)).getD (zcf t c.head.pred) 0) _
  rw[q4]
  exact zqv t ns _ _ c.head hp.five m1
 ·obtain⟨x,hx,rfl⟩:=List.mem_map.1 hl
  exact hlit x (List.mem_filter.1 hx).1
 ·obtain⟨x,hx,rfl⟩:=List.mem_map.1 hl
  exact hlit x (List.mem_filter.1 hx).1
theorem z16{cs:List zac}{t0 t:List zav}(h:Parts cs t0 t)(ns:List ByteArray)(os:Option (List (Option (List Int))))(hp:∀ i (hi:i < cs.length),zms (zb5 ((zei os i).getD [])) (zah cs[i]).length):z3b (zjx t ns os cs):=by
 have harr:∀ a∈t.map (·.arity),a<=3:=by
  intro a ha
  obtain⟨e,he,rfl⟩:=List.mem_map.1 ha
  have hAr:arT t=arT t0:=by have:=zii (t0.length+1) t0 cs;rw[h.strat] at this;exact this
  have hpair:(e.name,e.arity)∈arT t0:=by rw[← hAr];exact List.mem_map.2 ⟨e,he,rfl⟩
  obtain⟨e0,m1,m2⟩:=List.mem_map.1 hpair
  simp only[Prod.mk.injEq] at m2
  obtain⟨l,l1,l2⟩:=(h.tab.names e0.name).1 (List.mem_map.2 ⟨e0,m1,rfl⟩)
  have:=h.tab.arity e0 m1 l l1 l2
  obtain⟨c,hc,hl⟩:=List.mem_flatMap.1 l1
  obtain⟨q1,_,q3,_⟩:=zfo (h.many c hc)
  rw[← m2.2,← this]
  rcases List.mem_cons.1 hl with rfl|hl
  ·exact q1
  ·exact q3 l hl
 have hW:0 < za1 ns.length:=by unfold za1;split <;> omega
 have hrule:∀ r∈zfe t ns os cs,∃ i,∃ hi:i < cs.length,0 < cs[i].body.length/\r=zn2 t ns cs[i] (zei os i):=by
  intro r hr
  unfold zfe at hr
  obtain⟨⟨c,i⟩,h1,h2⟩:=List.mem_filterMap.1 hr
  have h3:=List.mem_zipIdx_iff_getElem?.1 h1
  simp only at h2 h3
  obtain⟨hi,rfl⟩:=List.getElem?_eq_some_iff.1 h3
  split at h2
  ·rename_i hb
   simp only[Option.some.injEq] at h2
   exact⟨i,hi,hb,h2.symm⟩
  ·cases h2
 refine⟨harr,fun f hf=>?_,fun r hr=>?_,fun r hr r' hr' hst l hl=>?_⟩
 ·have hf':f∈zeh t ns cs:=hf
  unfold zeh at hf'
  obtain⟨c,hc,rfl⟩:=List.mem_map.1 hf'
  have hcm:=(List.mem_filter.1 hc).1
  obtain⟨e,_,_,q3,q4,_⟩:=h.lit hcm (l:=c.head) (by simp[za5])
  have hwf:zg9 (zdh t ns [] [0,0,0,0,0] c.head) c.head.args.length (za1 ns.length):=zqv t ns [] _ c.head (fun k=>by
   by_cases hk:k < 5
   ·have:k=0∨k=1∨k=2∨k=3∨k=4:=by omega
    rcases this with rfl|rfl|rfl|rfl|rfl <;> decide
   ·simp[List.getD,List.getElem?_eq_none (show([0,0,0,0,0]:List Nat).length<=k by simp;omega)]) (zfo (h.many c hcm)).1
  refine⟨by simpa [zij,zjx] using q3,?_,?_⟩
  ·show Canon ((t.map (·.arity)).getD (zcf t c.head.pred) 0) _
   rw[q4]
   exact zi5 hwf _
  ·refine zp0 hwf hW fun p _=>?_
   by_cases hk:p < 5
   ·have:p=0∨p=1∨p=2∨p=3∨p=4:=by omega
    rcases this with rfl|rfl|rfl|rfl|rfl <;> exact hW
   ·rw[show([0,0,0,0,0]:List Nat).getD p 0=0 by simp[List.getD,List.getElem?_eq_none (show([0,0,0,0,0]:List Nat).length<=p by simp;omega)]]
    exact hW
 ·obtain⟨i,hi,_,rfl⟩:=hrule r hr
  exact z4u h (List.getElem_mem hi) ns _ (hp i hi)
 ·obtain⟨i,hi,_,rfl⟩:=hrule r hr
  obtain⟨j,hj,_,rfl⟩:=hrule r' hr'
  obtain⟨x,hx,rfl⟩:=List.mem_map.1 hl
  have hxb:=(List.mem_filter.1 hx).1
  have hxn:x.neg=true:=by simpa using(List.mem_filter.1 hx).2
  have hsol:=h.sol cs[i] (List.getElem_mem hi) x hxb
  unfold up at hsol
  rw[if_pos hxn] at hsol
  obtain⟨e1,a1,_,_,_,a5⟩:=h.lit (List.getElem_mem hi) (l:=x) (by simp[za5,hxb])
  obtain⟨e2,b1,_,_,_,b5⟩:=h.lit (List.getElem_mem hj) (l:=cs[j].head) (by simp[za5])
  intro e
  have e':zcf t x.pred=zcf t cs[j].head.pred:=e
  rw[a5,b5] at e'
  have hname:=z3t a1 b1 e'
  have hst':zdx t cs[i].head.pred=zdx t cs[j].head.pred:=hst
  rw[zix,zix,← hname] at hst'
  omega
theorem zpu{k:Nat}(hk:k<=5):zms (zb5 []) k:=by
 have e:zb5 []=[0,1,2,3,4]:=rfl
 have hg:∀ i,i < 5->([0,1,2,3,4]:List Nat).getD i 0=i:=by
  intro i hi
  have:i=0∨i=1∨i=2∨i=3∨i=4:=by omega
  rcases this with rfl|rfl|rfl|rfl|rfl <;> rfl
 rw[e]
 refine⟨fun i=>?_,fun i hi=>by rw[hg i (by omega)];exact hi,fun p hp=>⟨p,hp,hg p (by omega)⟩⟩
 by_cases hi:i < 5
 ·rw[hg i hi];exact hi
 ·simp[List.getD,List.getElem?_eq_none (show([0,1,2,3,4]:List Nat).length<=i by simp;omega)]
end Go.Proofs.YteampbddflhngabGreat
namespace Go.Proofs.YteampbddflhngabGreat
open Classical
theorem Parts.low{cs:List zac}{t0 t:List zav}(h:Parts cs t0 t):t.length=t0.length/\t.length<=500/\∀ n,zdx t n<=t.length:=by
 have hAr:arT t=arT t0:=by have:=zii (t0.length+1) t0 cs;rw[h.strat] at this;exact this
 have hlen:t.length=t0.length:=by have:=congrArg List.length hAr;simpa [arT] using this
 have h1:=zqh _ [] t0 h.coll
 have h2:=zw1 cs
 have h3:=h.few
 simp only[List.length_nil,Nat.zero_add] at h1
 have hall:zk8 t0 cs:=by
  intro c hc l hl
  have hmem:l∈cs.flatMap za5:=List.mem_flatMap.2 ⟨c,hc,hl⟩
  cases he:zbu t0 l.pred with
  |some e=>rfl
  |none =>
   obtain⟨e,hm,hn⟩:=List.mem_map.1 ((h.tab.names l.pred).2 ⟨l,hmem,rfl⟩)
   exact absurd hn (zkh h.tab.rise he e hm)
 have hz:∀ n,val t0 n=0:=fun n=>by
  unfold val
  split
  ·rename_i e he
   have:=zmx _ [] (fun e he=>by cases he) t0 h.coll e (zm8 he).1
   omega
  ·rfl
 have hL:=(z2e hall hz).2 (by rw[h.strat])
 rw[h.strat] at hL
 refine⟨hlen,by omega,fun n=>?_⟩
 rw[zix]
 by_cases hn:n∈namesT t0
 ·have:=z4b hL (ps:=namesT t0) (fun c hc l hl=>(h.tab.names l.pred).2 ⟨l,List.mem_flatMap.2 ⟨c,hc,hl⟩,rfl⟩) hn
  simp[namesT] at this
  show val t n<=_
  omega
 ·have:val t n=0:=zv4 (by rw[zrq hAr];exact hn)
  omega
theorem zzw(cs:List zac):zoi cs<=prW cs:=by
 induction cs with
 |nil=>simp[zoi,prW]
 |cons c cs ih =>
  have h1:=zn6 c.body
  have h2:zle c.body=zb9 c.body:=by
   have:∀ ls:List zbv,zle ls=zb9 ls:=by
    intro ls
    induction ls with
    |nil=>rfl
    |cons a ls ih=>simp[zle,zb9,zjr] at ih ⊢;omega
   exact this _
  simp[zoi,prW,clW,zzj,zjr] at ih ⊢
  omega
end Go.Proofs.YteampbddflhngabGreat
namespace Go.Proofs.YteampbddflhngabGreat
open Go.RowKit
theorem Parts.runok{cs:List zac}{t0 t:List zav}(h:Parts cs t0 t):z5t cs t none/\z3b (zjx t (zau cs) none cs):=by
 have hset:z3b (zjx t (zau cs) none cs):=z16 h _ none (fun i hi=>zpu (zit (h.many _ (List.getElem_mem hi))))
 obtain⟨_,hl,hst⟩:=h.low
 have hf:=h.few
 have hlen:=z1v cs
 have hargs:=zzw cs
 have hvals:(zau cs).length<=500:=by
  have:=zjs cs []
  simp only[List.length_nil,Nat.zero_add] at this
  show(cs.foldl zc7 []).length<=500
  omega
 have hok:=z5n (cs:=cs) (by omega)
 have hbody:∀ c∈cs,c.body.length<=6:=fun c hc=>(zfo (h.many c hc)).2.1
 refine⟨⟨by omega,by omega,hok,fun c hc=>⟨(hok c hc).1,by have:=hbody c hc;omega⟩,⟨by omega,by omega,fun c hc=>(hok c hc).2⟩,by omega,fun n=>by have:=hst n;omega,by simp,by simp,fun _=>by simp,fun _=>⟨fun r hr=>⟨fun l hl=>((hset.rules.rules r hr).plain l hl).1,fun l hl=>⟨((hset.rules.rules r hr).nots l hl).1,hset.rules.apart r hr r hr rfl l hl⟩⟩,?_,fun a ha=>by have:=hset.small a ha;omega,fun f hf=>(hset.facts f hf).2.1.1,?_,by show(zau cs).length<=1000;omega⟩⟩,hset⟩
 ·show(t.map (·.arity)).length<=1000
  simp;omega
 ·show(zeh t (zau cs) cs).length<=1000000
  have:(zeh t (zau cs) cs).length<=cs.length:=by
   unfold zeh
   rw[List.length_map]
   exact List.length_filter_le _ _
  omega
end Go.Proofs.YteampbddflhngabGreat
