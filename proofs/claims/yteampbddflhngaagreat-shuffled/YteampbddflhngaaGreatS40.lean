import Derived.Test.YteampbddflhngaaGreatS38
import Derived.Test.YteampbddflhngaaGreatS39
import Derived.Test.YteampbddflhngaaGreatS32
import Derived.Test.YteampbddflhngaaGreatS33
import Derived.Test.YteampbddflhngaaGreatS31
import Derived.Test.YteampbddflhngaaGreatS08

namespace Go.Proofs.YteampbddflhngaaGreat
structure Parts (cs:List zab) (t0 t:List zaq):Prop where
 few:prW cs<=500
 many:∀ c∈cs,zen c=false
 coll:zgo cs=some t0
 tab:Tab t0 (cs.flatMap za3)
 safe:∀ c∈cs,ze7 c=true
 strat:zcz (t0.length+1) t0 cs=(t,true)
theorem z9f{s:ByteArray}{cs:List zab}{t:List zaq}(h:zn1 s=.ok (cs,t)):∃ t0,Parts cs t0 t:=by
 unfold zn1 at h
 split at h
 ·cases h
 ·rename_i hs
  split at h
  ·cases h
  ·rename_i tl hS
   split at h
   ·cases h
   ·rename_i cs2 hP
    split at h
    ·cases h
    ·rename_i hm
     split at h
     ·cases h
     ·rename_i t0 hC
      split at h
      ·rename_i hsafe
       split at h
       ·rename_i hst
        simp only[Except.ok.injEq,Prod.mk.injEq] at h
        obtain⟨rfl,rfl⟩:=h
        refine⟨t0,?_,fun c hc=>?_,hC,zvz hC,fun c hc=>List.all_eq_true.1 hsafe c hc,?_⟩
        ·have h1:=zwp hP
         have h2:=zq6 hS
         omega
        ·cases hq:zen c with
         |false=>rfl
         |true=>exact absurd (List.any_eq_true.2 ⟨c,hc,hq⟩) hm
        ·rw[← hst]
       ·cases h
      ·cases h
def arT(t:List zaq):List (ByteArray × Nat):=t.map fun e=>(e.name,e.arity)
theorem z1g(t:List zaq)(n:ByteArray)(s:Nat):arT (zce t n s).1=arT t:=by
 unfold zce
 split
 ·rfl
 ·rename_i e he
  split
  ·rfl
  ·obtain⟨hk,h1,h2⟩:=zci he
   unfold arT
   refine List.ext_getElem (by simp) fun i h3 h4=>?_
   simp only[List.getElem_map,List.getElem_set]
   split
   ·rename_i e2
    subst e2
    rw[h1]
   ·rfl
theorem z1f:∀(cs:List zab) (x:List zaq × Bool),arT (cs.foldl zet x).1=arT x.1
 |[],_=>rfl
 |c::cs,x=>by
  rw[List.foldl_cons,z1f cs]
  exact z1g _ _ _
theorem ziw:∀(m:Nat) (t:List zaq) (cs:List zab),arT (zcz m t cs).1=arT t
 |0,_,_=>rfl
 |m+1,t,cs=>by
  have h1:arT (zb6 t cs).1=arT t:=z1f cs (t,false)
  unfold zcz
  split
  ·rw[ziw m,h1]
  ·exact h1
theorem zsv{t t':List zaq}(h:arT t=arT t'):namesT t=namesT t':=by
 have:=congrArg (List.map Prod.fst) h
 simpa [arT,namesT,Function.comp_def] using this
theorem Parts.lit{cs:List zab}{t0 t:List zaq}(h:Parts cs t0 t){c:zab}(hc:c∈cs){l:zb2}(hl:l∈za3 c):∃ e,zbi t l.pred=some e/\e.name=l.pred/\zbe t l.pred < t.length/\(t.map (·.arity)).getD (zbe t l.pred) 0=l.args.length/\zbe t l.pred=zai t l.pred:=by
 have hAr:arT t=arT t0:=by have:=ziw (t0.length+1) t0 cs;rw[h.strat] at this;exact this
 have hmem:l∈cs.flatMap za3:=List.mem_flatMap.2 ⟨c,hc,hl⟩
 have hin0:(zbi t0 l.pred).isSome=true:=by
  cases he:zbi t0 l.pred with
  |some e=>rfl
  |none =>
   obtain⟨e,hm,hn⟩:=List.mem_map.1 ((h.tab.names l.pred).2 ⟨l,hmem,rfl⟩)
   exact absurd hn (zk4 h.tab.rise he e hm)
 have hin:(zbi t l.pred).isSome=true:=(zmt (zsv hAr).symm _).1 hin0
 obtain⟨e,he⟩:=Option.isSome_iff_exists.1 hin
 obtain⟨hk,h1,h2⟩:=zci he
 have hfn:zbe t l.pred=zai t l.pred:=by unfold zbe;rw[if_pos hin]
 refine⟨e,he,h2,by rw[hfn];exact hk,?_,hfn⟩
 rw[hfn]
 have e1:(t.map (·.arity)).getD (zai t l.pred) 0=e.arity:=by simp[List.getD,hk,h1]
 rw[e1]
 have hpair:(e.name,e.arity)∈arT t0:=by
  rw[← hAr]
  exact List.mem_map.2 ⟨e,by rw[← h1];exact List.getElem_mem hk,rfl⟩
 obtain⟨e0,m1,m2⟩:=List.mem_map.1 hpair
 simp only[Prod.mk.injEq] at m2
 rw[← m2.2]
 exact(h.tab.arity e0 m1 l hmem (by rw[m2.1,h2])).symm
theorem Parts.sol{cs:List zab}{t0 t:List zaq}(h:Parts cs t0 t):Sol cs (val t):=by
 have hall:zlz t0 cs:=by
  intro c hc l hl
  have hmem:l∈cs.flatMap za3:=List.mem_flatMap.2 ⟨c,hc,hl⟩
  cases he:zbi t0 l.pred with
  |some e=>rfl
  |none =>
   obtain⟨e,hm,hn⟩:=List.mem_map.1 ((h.tab.names l.pred).2 ⟨l,hmem,rfl⟩)
   exact absurd hn (zk4 h.tab.rise he e hm)
 have:=zlv (t0.length+1) t0 cs hall (by rw[h.strat])
 rw[h.strat] at this
 exact this
theorem zjc(t:List zaq)(n:ByteArray):zdx t n=val t n:=rfl
theorem z6d{t:List zaq}{a b:ByteArray}{ea eb:zaq}(h1:zbi t a=some ea)(h2:zbi t b=some eb)(e:zai t a=zai t b):a=b:=by
 obtain⟨ka,a1,a2⟩:=zci h1
 obtain⟨kb,b1,b2⟩:=zci h2
 have:ea=eb:=by rw[← a1,← b1];simp[e]
 rw[← a2,← b2,this]
theorem zfd(p:Nat)(ts:List zbo)(x:zbo):(zc3 p ts x).var=x.var/\(zc3 p ts x).num=x.num:=by unfold zc3;split <;> exact⟨rfl,rfl⟩
theorem zrz(t:List zaq)(ns vs:List ByteArray)(pl:List Nat)(l:zb2)(p:Nat):zdf (zdg t ns vs pl l) p=zdf ⟨0,za5 ns vs pl l⟩ p:=by
 unfold zdf zdg
 simp only[List.any_map]
 congr 1
 funext x
 simp only[Function.comp,(zfd 0 _ x).1,(zfd 0 _ x).2]
theorem zz2(t:List zaq)(ns vs:List ByteArray)(pl:List Nat)(l:zb2)(p:Nat):zbr (zdg t ns vs pl l) p=zbr ⟨0,za5 ns vs pl l⟩ p:=by
 unfold zbr
 rw[zrz,show zdf (zdg t ns vs pl l)=zdf ⟨0,za5 ns vs pl l⟩ from funext (zrz t ns vs pl l)]
theorem z4x(ns:List ByteArray)(x:ByteArray):(zc0 ns x).getD 0 < za4 ns.length:=by
 unfold zc0 za4
 split
 ·rename_i h
  simp only[Option.getD_some]
  split <;> omega
 ·simp only[Option.getD_none]
  split <;> omega
theorem zr0(t:List zaq)(ns vs:List ByteArray)(pl:List Nat)(l:zb2)(hp:∀ k,pl.getD k 0 < 5)(h3:l.args.length<=3):zhi (zdg t ns vs pl l) l.args.length (za4 ns.length):=by
 have hterm:∀ x∈(zdg t ns vs pl l).terms,∃ y∈l.args,x=zc3 0 (za5 ns vs pl l) (zfp ns vs pl y)/\zfp ns vs pl y∈za5 ns vs pl l:=by
  intro x hx
  unfold zdg at hx
  simp only[List.mem_map] at hx
  obtain⟨z,hz,rfl⟩:=hx
  have hz':=hz
  unfold za5 at hz
  obtain⟨y,hy,rfl⟩:=List.mem_map.1 hz
  exact⟨y,hy,rfl,hz'⟩
 refine⟨by simp[zdg,za5],h3,fun x hx hv=>?_,fun x hx hv=>?_⟩
 ·obtain⟨y,hy,rfl,hm⟩:=hterm x hx
  obtain⟨e1,e2⟩:=zfd 0 (za5 ns vs pl l) (zfp ns vs pl y)
  rw[e1] at hv
  rw[e2,zz2]
  refine⟨?_,?_⟩
  ·unfold zfp at hv ⊢
   split
   ·unfold zdh
    split
    ·exact Nat.lt_of_sub_eq_succ rfl
    ·split
     ·exact Nat.lt_of_sub_eq_succ rfl
     ·exact hp _
   ·rename_i hn
    rw[if_neg hn] at hv
    cases hv
  ·have hh:zdf ⟨0,za5 ns vs pl l⟩ (zfp ns vs pl y).num=true:=(zfg _ _).2 ⟨_,hm,hv,rfl⟩
   unfold zc3
   rw[if_pos hv]
   simp only
   unfold zbr
   rw[if_pos hh]
   rfl
 ·obtain⟨y,hy,rfl,hm⟩:=hterm x hx
  obtain⟨e1,e2⟩:=zfd 0 (za5 ns vs pl l) (zfp ns vs pl y)
  rw[e1] at hv
  rw[e2]
  unfold zfp at hv ⊢
  split
  ·rename_i hn
   rw[if_pos hn] at hv
   cases hv
  ·exact z4x ns y
theorem zoh{t:List zaq}{ns vs:List ByteArray}{pl:List Nat}{l:zb2}{p:Nat}:zdf (zdg t ns vs pl l) p=true↔∃ y∈l.args,za9 y=true/\zdh vs pl y=p:=by
 rw[zrz,zfg]
 constructor
 ·rintro⟨x,hx,h1,h2⟩
  unfold za5 at hx
  obtain⟨y,hy,rfl⟩:=List.mem_map.1 hx
  unfold zfp at h1 h2
  by_cases hv:za9 y=true
  ·rw[if_pos hv] at h2
   exact⟨y,hy,hv,h2⟩
  ·rw[if_neg hv] at h1;cases h1
 ·rintro⟨y,hy,hv,e⟩
  refine⟨zfp ns vs pl y,List.mem_map.2 ⟨y,hy,rfl⟩,?_,?_⟩
  ·unfold zfp;rw[if_pos hv]
  ·unfold zfp;rw[if_pos hv];exact e
theorem zyw{vs:List ByteArray}(h:vs.Nodup)(x:ByteArray):(zsj vs x).Nodup:=by
 unfold zsj
 split
 ·rename_i hc
  simp only[Bool.and_eq_true,Bool.not_eq_true'] at hc
  rw[List.nodup_append]
  refine⟨h,by simp,fun a ha b hb=>?_⟩
  simp at hb
  subst hb
  rintro rfl
  rw[zf5.2 ha] at hc
  cases hc.2
 ·exact h
theorem znv:∀(args vs:List ByteArray),vs.Nodup->(ze0 vs args).Nodup
 |[],_,h=>h
 |x::r,vs,h=>znv r (zsj vs x) (zyw h x)
theorem zlp(c:zab):(zaf c).Nodup:=by
 have:∀(ls:List zb2) (vs:List ByteArray),vs.Nodup->(ls.foldl zes vs).Nodup:=by
  intro ls
  induction ls with
  |nil=>intro vs h;exact h
  |cons l ls ih =>
   intro vs h
   rw[List.foldl_cons]
   refine ih _ ?_
   unfold zes
   split
   ·exact h
   ·exact znv _ _ h
 exact this c.body [] List.nodup_nil
theorem zhw{α:Type}[DecidableEq α]:∀ {l1 l2:List α},l1.Nodup->(∀ x∈l1,x∈l2)->l1.length<=l2.length
 |[],l2,_,_=>by simp
 |a::l1,l2,hn,hs=>by
  have ha:=hs a (by simp)
  have h1:=zhw (l1:=l1) (l2:=l2.erase a) (List.nodup_cons.1 hn).2 (fun x hx=>by
   have hne:x≠a:=by rintro rfl;exact(List.nodup_cons.1 hn).1 hx
   exact(List.mem_erase_of_ne hne).2 (hs x (by simp[hx])))
  rw[List.length_erase_of_mem ha] at h1
  have:=List.length_pos_of_mem ha
  simp;omega
theorem zmx:∀ {l:List ByteArray} (_:l.Nodup) {k:Nat} (hk:k < l.length),zbj l l[k]=some k
 |y::r,hn,0,_=>by simp[zbj]
 |y::r,hn,k+1,hk=>by
  have hk':k < r.length:=by simpa using hk
  have hne:y≠r[k]:=by
   rintro e
   exact(List.nodup_cons.1 hn).1 (e ▸ List.getElem_mem hk')
  simp only[List.getElem_cons_succ,zbj,if_neg hne,zmx (List.nodup_cons.1 hn).2 hk',Option.map_some]
theorem zib:∀ {ps:List ByteArray} {n:ByteArray},n∈ps->∃ k,k < ps.length/\zbj ps n=some k:=fun{ps n} h=>by
 have:(zbj ps n).isSome=true:=by rw[zkq];exact zf5.2 h
 obtain⟨k,hk⟩:=Option.isSome_iff_exists.1 this
 obtain⟨h1,_⟩:=zi8 hk
 exact⟨k,h1,hk⟩
theorem zfv{c:zab}(h:zen c=false):c.head.args.length<=3/\c.body.length<=6/\(∀ l∈c.body,l.args.length<=3)/\(zkc c).length<=5:=by
 simp only[zen,Bool.or_eq_false_iff,decide_eq_false_iff_not,List.any_eq_false,decide_eq_true_eq] at h
 obtain⟨⟨⟨h1,h2⟩,h3⟩,h4⟩:=h
 exact⟨by omega,by omega,fun l hl=>by have:=h3 l hl;omega,by omega⟩
theorem zgb{c:zab}(h:zen c=false):(zaf c).length<=5:=by
 have h1:=(zfv h).2.2.2
 have:=zhw (zlp c) (l2:=zkc c) (fun x hx=>by
  obtain⟨a,l,b,_,d⟩:=zh8.1 hx
  exact z3m.2 ⟨a,Or.inr ⟨l,b,d⟩⟩)
 omega
structure ziq (pl:List Nat) (k:Nat):Prop where
 five:∀ i,pl.getD i 0 < 5
 low:∀ i,i < k->pl.getD i 0 < k
 onto:∀ p,p < k->∃ i,i < k/\pl.getD i 0=p
theorem z7h{cs:List zab}{t0 t:List zaq}(h:Parts cs t0 t){c:zab}(hc:c∈cs)(ns:List ByteArray)(o:Option (List Int))(hp:ziq (za6 (o.getD [])) (zaf c).length):znp (zls t ns c o) (t.map (·.arity)) (za4 ns.length):=by
 have hm:=h.many c hc
 obtain⟨m1,m2,m3,m4⟩:=zfv hm
 have h5:=zgb hm
 have hs:=h.safe c hc
 simp only[ze7,Bool.and_eq_true,List.all_eq_true,Bool.or_eq_true,Bool.not_eq_true'] at hs
 have hplace:∀ {l:zb2} {p:Nat},(∀ y∈l.args,za9 y=true->y∈zaf c)->zdf (zdg t ns (zaf c) (za6 (o.getD [])) l) p=true->p < (zaf c).length:=by
  intro l p hv hh
  obtain⟨y,y1,y2,y3⟩:=zoh.1 hh
  obtain⟨k,k1,k2⟩:=zib (hv y y1 y2)
  unfold zdh at y3
  rw[k2] at y3
  simp only at y3
  rw[if_neg (by omega)] at y3
  rw[← y3]
  exact hp.low k k1
 have hvhead:∀ y∈c.head.args,za9 y=true->y∈zaf c:=zix.1 hs.1
 have hvbody:∀ l∈c.body,∀ y∈l.args,za9 y=true->y∈zaf c:=by
  intro l hl y hy hv
  cases hn:l.neg with
  |false=>exact zh8.2 ⟨hv,l,hl,hn,hy⟩
  |true =>
   rcases hs.2 l hl with q|q
   ·rw[hn] at q;cases q
   ·exact zix.1 q y hy hv
 have hlit:∀ l∈c.body,(zdg t ns (zaf c) (za6 (o.getD [])) l).pred < (t.map (·.arity)).length/\zhi (zdg t ns (zaf c) (za6 (o.getD [])) l) ((t.map (·.arity)).getD (zdg t ns (zaf c) (za6 (o.getD [])) l).pred 0) (za4 ns.length):=by
  intro l hl
  obtain⟨e,_,_,q3,q4,_⟩:=h.lit hc (l:=l) (by simp[za3,hl])
  refine⟨by simpa [zdg] using q3,?_⟩
  show zhi _ ((t.map (·.arity)).getD (zbe t l.pred) 0) _
  rw[q4]
  exact zr0 t ns _ _ l hp.five (m3 l hl)
 obtain⟨e,_,_,q3,q4,_⟩:=h.lit hc (l:=c.head) (by simp[za3])
 refine⟨⟨h5,fun l hl=>?_,fun l hl p hh=>?_,fun l hl p hh=>?_,fun p hh=>hplace hvhead hh,fun p hpp=>?_⟩,by simpa [zls,zdg] using q3,?_,fun l hl=>?_,fun l hl=>?_⟩
 ·obtain⟨x,hx,rfl⟩:=List.mem_map.1 hl
  have:=(hlit x (List.mem_filter.1 hx).1).2
  have:=m3 x (List.mem_filter.1 hx).1
  simp[zdg,za5];omega
 ·obtain⟨x,hx,rfl⟩:=List.mem_map.1 hl
  exact hplace (hvbody x (List.mem_filter.1 hx).1) hh
 ·obtain⟨x,hx,rfl⟩:=List.mem_map.1 hl
  exact hplace (hvbody x (List.mem_filter.1 hx).1) hh
 ·obtain⟨i,i1,i2⟩:=hp.onto p hpp
  have hmem:=List.getElem_mem i1
  obtain⟨v1,l,v2,v3,v4⟩:=zh8.1 hmem
  refine⟨_,List.mem_map.2 ⟨l,List.mem_filter.2 ⟨v2,by simp[v3]⟩,rfl⟩,zoh.2 ⟨_,v4,v1,?_⟩⟩
  unfold zdh
  rw[zmx (zlp c) i1]
  simp only
  rw[if_neg (by omega)]
  exact i2
 ·show zhi _ ((t.map (·.arity)).getD (zbe t c.head.pred) 0) _
  rw[q4]
  exact zr0 t ns _ _ c.head hp.five m1
 ·obtain⟨x,hx,rfl⟩:=List.mem_map.1 hl
  exact hlit x (List.mem_filter.1 hx).1
 ·obtain⟨x,hx,rfl⟩:=List.mem_map.1 hl
  exact hlit x (List.mem_filter.1 hx).1
theorem z4m{cs:List zab}{t0 t:List zaq}(h:Parts cs t0 t)(ns:List ByteArray)(os:Option (List (Option (List Int))))(hp:∀ i (hi:i < cs.length),ziq (za6 ((zd4 os i).getD [])) (zaf cs[i]).length):z5l (zjy t ns os cs):=by
 have harr:∀ a∈t.map (·.arity),a<=3:=by
  intro a ha
  obtain⟨e,he,rfl⟩:=List.mem_map.1 ha
  have hAr:arT t=arT t0:=by have:=ziw (t0.length+1) t0 cs;rw[h.strat] at this;exact this
  have hpair:(e.name,e.arity)∈arT t0:=by rw[← hAr];exact List.mem_map.2 ⟨e,he,rfl⟩
  obtain⟨e0,m1,m2⟩:=List.mem_map.1 hpair
  simp only[Prod.mk.injEq] at m2
  obtain⟨l,l1,l2⟩:=(h.tab.names e0.name).1 (List.mem_map.2 ⟨e0,m1,rfl⟩)
  have:=h.tab.arity e0 m1 l l1 l2
  obtain⟨c,hc,hl⟩:=List.mem_flatMap.1 l1
  obtain⟨q1,_,q3,_⟩:=zfv (h.many c hc)
  rw[← m2.2,← this]
  rcases List.mem_cons.1 hl with rfl|hl
  ·exact q1
  ·exact q3 l hl
 have hW:0 < za4 ns.length:=by unfold za4;split <;> omega
 have hrule:∀ r∈zeu t ns os cs,∃ i,∃ hi:i < cs.length,0 < cs[i].body.length/\r=zls t ns cs[i] (zd4 os i):=by
  intro r hr
  unfold zeu at hr
  obtain⟨⟨c,i⟩,h1,h2⟩:=List.mem_filterMap.1 hr
  have h3:=List.mem_zipIdx_iff_getElem?.1 h1
  simp only at h2 h3
  obtain⟨hi,rfl⟩:=List.getElem?_eq_some_iff.1 h3
  split at h2
  ·rename_i hb
   simp only[Option.some.injEq] at h2
   exact⟨i,hi,hb,h2.symm⟩
  ·cases h2
 refine⟨harr,fun f hf=>?_,fun r hr=>?_,fun r hr r' hr' hst l hl=>?_⟩
 ·have hf':f∈zer t ns cs:=hf
  unfold zer at hf'
  obtain⟨c,hc,rfl⟩:=List.mem_map.1 hf'
  have hcm:=(List.mem_filter.1 hc).1
  obtain⟨e,_,_,q3,q4,_⟩:=h.lit hcm (l:=c.head) (by simp[za3])
  have hwf:zhi (zdg t ns [] [0,0,0,0,0] c.head) c.head.args.length (za4 ns.length):=zr0 t ns [] _ c.head (fun k=>by
   by_cases hk:k < 5
   ·have:k=0∨k=1∨k=2∨k=3∨k=4:=by omega
    rcases this with rfl|rfl|rfl|rfl|rfl <;> decide
   ·simp[List.getD,List.getElem?_eq_none (show([0,0,0,0,0]:List Nat).length<=k by simp;omega)]) (zfv (h.many c hcm)).1
  refine⟨by simpa [ziy,zjy] using q3,?_,?_⟩
  ·show Canon ((t.map (·.arity)).getD (zbe t c.head.pred) 0) _
   rw[q4]
   exact zjl hwf _
  ·refine zq1 hwf hW fun p _=>?_
   by_cases hk:p < 5
   ·have:p=0∨p=1∨p=2∨p=3∨p=4:=by omega
    rcases this with rfl|rfl|rfl|rfl|rfl <;> exact hW
   ·rw[show([0,0,0,0,0]:List Nat).getD p 0=0 by simp[List.getD,List.getElem?_eq_none (show([0,0,0,0,0]:List Nat).length<=p by simp;omega)]]
    exact hW
 ·obtain⟨i,hi,_,rfl⟩:=hrule r hr
  exact z7h h (List.getElem_mem hi) ns _ (hp i hi)
 ·obtain⟨i,hi,_,rfl⟩:=hrule r hr
  obtain⟨j,hj,_,rfl⟩:=hrule r' hr'
  obtain⟨x,hx,rfl⟩:=List.mem_map.1 hl
  have hxb:=(List.mem_filter.1 hx).1
  have hxn:x.neg=true:=by simpa using(List.mem_filter.1 hx).2
  have hsol:=h.sol cs[i] (List.getElem_mem hi) x hxb
  unfold up at hsol
  rw[if_pos hxn] at hsol
  obtain⟨e1,a1,_,_,_,a5⟩:=h.lit (List.getElem_mem hi) (l:=x) (by simp[za3,hxb])
  obtain⟨e2,b1,_,_,_,b5⟩:=h.lit (List.getElem_mem hj) (l:=cs[j].head) (by simp[za3])
  intro e
  have e':zbe t x.pred=zbe t cs[j].head.pred:=e
  rw[a5,b5] at e'
  have hname:=z6d a1 b1 e'
  have hst':zdx t cs[i].head.pred=zdx t cs[j].head.pred:=hst
  rw[zjc,zjc,← hname] at hst'
  omega
theorem zqv{k:Nat}(hk:k<=5):ziq (za6 []) k:=by
 have e:za6 []=[0,1,2,3,4]:=rfl
 have hg:∀ i,i < 5->([0,1,2,3,4]:List Nat).getD i 0=i:=by
  intro i hi
  have:i=0∨i=1∨i=2∨i=3∨i=4:=by omega
  rcases this with rfl|rfl|rfl|rfl|rfl <;> rfl
 rw[e]
 refine⟨fun i=>?_,fun i hi=>by rw[hg i (by omega)];exact hi,fun p hp=>⟨p,hp,hg p (by omega)⟩⟩
 by_cases hi:i < 5
 ·rw[hg i hi];exact hi
 ·simp[List.getD,List.getElem?_eq_none (show([0,1,2,3,4]:List Nat).length<=i by simp;omega)]
end Go.Proofs.YteampbddflhngaaGreat
namespace Go.Proofs.YteampbddflhngaaGreat
open Classical
theorem Parts.low{cs:List zab}{t0 t:List zaq}(h:Parts cs t0 t):t.length=t0.length/\t.length<=500/\∀ n,zdx t n<=t.length:=by
 have hAr:arT t=arT t0:=by have:=ziw (t0.length+1) t0 cs;rw[h.strat] at this;exact this
 have hlen:t.length=t0.length:=by have:=congrArg List.length hAr;simpa [arT] using this
 have h1:=zrl _ [] t0 h.coll
 have h2:=zyf cs
 have h3:=h.few
 simp only[List.length_nil,Nat.zero_add] at h1
 have hall:zlz t0 cs:=by
  intro c hc l hl
  have hmem:l∈cs.flatMap za3:=List.mem_flatMap.2 ⟨c,hc,hl⟩
  cases he:zbi t0 l.pred with
  |some e=>rfl
  |none =>
   obtain⟨e,hm,hn⟩:=List.mem_map.1 ((h.tab.names l.pred).2 ⟨l,hmem,rfl⟩)
   exact absurd hn (zk4 h.tab.rise he e hm)
 have hz:∀ n,val t0 n=0:=fun n=>by
  unfold val
  split
  ·rename_i e he
   have:=znt _ [] (fun e he=>by cases he) t0 h.coll e (zn4 he).1
   omega
  ·rfl
 have hL:=(z4s hall hz).2 (by rw[h.strat])
 rw[h.strat] at hL
 refine⟨hlen,by omega,fun n=>?_⟩
 rw[zjc]
 by_cases hn:n∈namesT t0
 ·have:=z6l hL (ps:=namesT t0) (fun c hc l hl=>(h.tab.names l.pred).2 ⟨l,List.mem_flatMap.2 ⟨c,hc,hl⟩,rfl⟩) hn
  simp[namesT] at this
  show val t n<=_
  omega
 ·have:val t n=0:=zxe (by rw[zsv hAr];exact hn)
  omega
theorem z1h(cs:List zab):zph cs<=prW cs:=by
 induction cs with
 |nil=>simp[zph,prW]
 |cons c cs ih =>
  have h1:=zo4 c.body
  have h2:zl5 c.body=zcf c.body:=by
   have:∀ ls:List zb2,zl5 ls=zcf ls:=by
    intro ls
    induction ls with
    |nil=>rfl
    |cons a ls ih=>simp[zl5,zcf,zkf] at ih ⊢;omega
   exact this _
  simp[zph,prW,clW,z05,zkf] at ih ⊢
  omega
end Go.Proofs.YteampbddflhngaaGreat
namespace Go.Proofs.YteampbddflhngaaGreat
open Go.RowKit
theorem Parts.runok{cs:List zab}{t0 t:List zaq}(h:Parts cs t0 t):z8g cs t none/\z5l (zjy t (zaw cs) none cs):=by
 have hset:z5l (zjy t (zaw cs) none cs):=z4m h _ none (fun i hi=>zqv (zgb (h.many _ (List.getElem_mem hi))))
 obtain⟨_,hl,hst⟩:=h.low
 have hf:=h.few
 have hlen:=z4e cs
 have hargs:=z1h cs
 have hvals:(zaw cs).length<=500:=by
  have:=zkg cs []
  simp only[List.length_nil,Nat.zero_add] at this
  show(cs.foldl zde []).length<=500
  omega
 have hok:=z8b (cs:=cs) (by omega)
 have hbody:∀ c∈cs,c.body.length<=6:=fun c hc=>(zfv (h.many c hc)).2.1
 refine⟨⟨by omega,by omega,hok,fun c hc=>⟨(hok c hc).1,by have:=hbody c hc;omega⟩,⟨by omega,by omega,fun c hc=>(hok c hc).2⟩,by omega,fun n=>by have:=hst n;omega,by simp,by simp,fun _=>by simp,fun _=>⟨fun r hr=>⟨fun l hl=>((hset.rules.rules r hr).plain l hl).1,fun l hl=>⟨((hset.rules.rules r hr).nots l hl).1,hset.rules.apart r hr r hr rfl l hl⟩⟩,?_,fun a ha=>by have:=hset.small a ha;omega,fun f hf=>(hset.facts f hf).2.1.1,?_,by show(zaw cs).length<=1000;omega⟩⟩,hset⟩
 ·show(t.map (·.arity)).length<=1000
  simp;omega
 ·show(zer t (zaw cs) cs).length<=1000000
  have:(zer t (zaw cs) cs).length<=cs.length:=by
   unfold zer
   rw[List.length_map]
   exact List.length_filter_le _ _
  omega
def z9i(lp:Nat)(t:List zaq)(ns:List ByteArray)(o:Option (DB × Nat))(w:World)(e:Ending)(w':World):Prop:=match o with
 |none=>e=.returned (.tuple #[.pointer none,.int .i64 10])/\Below w.heap.size w w'
 |some x=>∃(R:zbg) (rb:Nat) (pv nv rv:Value) (tbs:List Nat),w.heap.size<=rb/\e=.returned (.tuple #[.pointer (some ⟨rb,0,none⟩),.int .i64 0])/\zsh w.heap.size lp w' rb t ns R pv nv rv tbs/\zez (t.map (·.arity)) (za4 ns.length) R/\zc2 (t.map (·.arity)) R=x.1/\R.rounds=x.2/\zj8 x.1 R.count/\R.count<=1048576/\Below w.heap.size w w'
theorem z9w{lp:Nat}(w:World)(pb:Nat){cs:List zab}{t0 t:List zaq}(hP:zka lp w pb cs t)(h:Parts cs t0 t)(hlp:lp<=w.heap.size)(mr mx:Nat)(h1:mr<=1048576)(h2:mx<=1048576) :
  Calls Tryz.prog 35 #[.pointer (some ⟨pb,0,none⟩),.slice none 0 0,.int .i64 mr,.int .i64 mx] w fun e w'=>z9i lp t (zaw cs) (zj0 (zjy t (zaw cs) none cs) mr mx) w e w':=by
 obtain⟨hk,hset⟩:=h.runok
 obtain⟨N,hN⟩:=z7j hset (mr:=mr) (mx:=mx) h1
 obtain⟨res,r1,r2,r3⟩:=hN N (Nat.le_refl _)
 refine(z7c w pb cs t (.slice none 0 0) none mr mx N res hP rfl hk rfl h1 h2 hlp r1).mono ?_
 intro e w' hres
 cases res with
 |none=>rw[r2 rfl];exact hres
 |some R =>
  obtain⟨q1,q2,q3⟩:=r3 R rfl
  obtain⟨rb,pv,nv,rv,tbs,s1,s2,s3,s4⟩:=hres
  rw[q3]
  exact⟨R,rb,pv,nv,rv,tbs,s1,s2,s3,q1,rfl,rfl,q1.card hset.small,by omega,s4⟩
end Go.Proofs.YteampbddflhngaaGreat
namespace Go.Proofs.YteampbddflhngaaGreat
set_option maxRecDepth 100000
set_option maxHeartbeats 4000000
open Go.RowKit
variable {lo lp:Nat}
theorem Tryz.infoSS:(Tryz.prog.info? 30).map (fun i=>(i.zero,i.size,i.bytes))=some (some (.slice none 0 0),1,24):=by kernel_rfl
theorem z9r(w:World)(tb:Nat)(T:zad)(fp:List Nat)(n:Nat)(rs:List zao)(h:zat lo w tb T fp)(hr:rowsG n T=some rs) :
  Calls Tryz.prog 78 #[.pointer (some ⟨tb,0,none⟩)] w fun e w'=>∃ v,e=.returned v/\RowsIn w.heap.size w' v rs/\Below w.heap.size w w':=by
 unfold rowsG at hr
 cases hf:zr8 n T with
 |none=>rw[hf] at hr;cases hr
 |some rs' =>
  rw[hf] at hr
  simp only at hr
  split at hr
  ·simp only[Option.some.injEq] at hr
   subst hr
   exact zyj w tb T fp h n rs' hf (by assumption)
  ·cases hr
theorem z4h{n:Nat}{T:zad}{rs:List zao}(hr:rowsG n T=some rs):rs.length<=1048576:=by
 unfold rowsG at hr
 cases hf:zr8 n T with
 |none=>rw[hf] at hr;cases hr
 |some rs' =>
  rw[hf] at hr
  simp only at hr
  split at hr
  ·simp only[Option.some.injEq] at hr
   subst hr
   assumption
  ·cases hr
def zq2(ns:List ByteArray)(ar:Nat)(r:zao):zb2:=⟨false,ByteArray.empty,za1 ns r ar 3⟩
def zly(ar g:Nat):Value:=.slice (some ⟨g,0,none⟩) ar ar
def zxl(ns:List ByteArray)(ar:Nat)(rs:List zao)(w:World)(e:Ending)(w':World):Prop:=∃ g gs,w.heap.size<=g/\e=.returned (.tuple #[.slice (some ⟨g,0,none⟩) rs.length rs.length,.int .i64 0])/\w'.ownsRow w.heap.size 30 1 (.slice (some ⟨g,0,none⟩) rs.length rs.length) rs.length (gs.map (zly ar))/\Copies w.heap.size w' (rs.map (zq2 ns ar)) gs/\Below w.heap.size w w'
theorem z4i(w:World)(rb:Nat)(t:List zaq)(ns:List ByteArray)(R:zbg)(pv nv rv:Value)(tbs:List Nat)(pred:ByteArray)(h:zsh lo lp w rb t ns R pv nv rv tbs)(hs':(zbi t pred).isSome=true)(hfi:zbe t pred < R.rows.length)(n:Nat)(rs:List zao)(hr:rowsG n R.rows[zbe t pred]=some rs)(har:za0 t (zbe t pred)<=1000) :
  Calls Tryz.prog 38 #[.pointer (some ⟨rb,0,none⟩),.string pred] w fun e w'=>zxl ns (za0 t (zbe t pred)) rs w e w':=by
 have HFI:Hid (Calls Tryz.prog 77 #[.pointer (some ⟨rb,0,none⟩),.string pred] w fun e w'=>e=.returned (.tuple #[.int .i64 (zbe t pred:Nat),.bool (zbi t pred).isSome])/\w'=w):=zoa lp w rb 0 t pred h.tg h.few.1
 rw[hs'] at HFI
 have HRE:Hid (zsh lo lp w rb t ns R pv nv rv tbs):=h
 obtain⟨hc,hf⟩:=h.box.rules
 have hlt:=h.box.lt
 obtain⟨aor,capr,hrv⟩:=zac h.rows
 subst hrv
 have d2:=hc 2
 have hfew:=h.few.2.2
 have hgi:¬ (R.rows.length:Int)<=(zbe t pred:Int):=by omega
 clear h hc hs'
 have HAR:Hid (∀ W,Below w.heap.size w W->Calls Tryz.prog 80 #[.pointer (some ⟨rb,0,none⟩),.int .i64 (zbe t pred:Nat)] W fun e w'=>e=.returned (.int .i64 (za0 t (zbe t pred):Nat))/\w'=W):=fun W hb=>zmb lp W rb 0 t _ (HRE.out.below hb).tg
 generalize zbe t pred=fi at *
 have hft:fi < tbs.length:=by rw[HRE.out.tlen];exact hfi
 obtain⟨gr,capr',hvr,_,hgr,hcr⟩:=zal HRE.out.rows (by omega)
 simp only[Value.slice.injEq] at hvr
 have hgg:=hvr.1
 clear hvr
 subst hgg
 have hcp:=hcr fi (.pointer (some ⟨tbs[fi],0,none⟩)) (by simp[pts,hft,pt])
 have HRS:Hid (Calls Tryz.prog 78 #[.pointer (some ⟨tbs[fi],0,none⟩)] w fun e w'=>∃ v,e=.returned v/\RowsIn w.heap.size w' v rs/\Below w.heap.size w w'):=by
  obtain⟨fp,q⟩:=HRE.out.tries fi hfi hft
  exact z9r w _ _ fp n rs q hr
 have hrl:=z4h hr
 have hfii:(fi:Int) < (R.rows.length:Int):=by omega
 obtain⟨i0,hi,hz0,hzs,hzb⟩:=info_parts Tryz.infoSS
 have hmk:=fun W0:World=>run_make (P:=Tryz.prog) (w:=W0) 31 30 i0 _ Tryz.underlying31 hi hz0 .i64 .i64 (rs.length:Int) (rs.length:Int) (by omega) (Int.le_refl _) (by rw[hzb];omega) (by omega)
 rw[hzs] at hmk
 have HTE:Hid (∀ W (x y z:Nat),Below w.heap.size w W->Calls Tryz.prog 79 #[.pointer (some ⟨rb,0,none⟩),.agg #[.int .i64 (x:Nat),.int .i64 (y:Nat),.int .i64 (z:Nat)],.int .i64 (za0 t fi)] W fun e w'=>∃ g,W.heap.size<=g/\e=.returned (.slice (some ⟨g,0,none⟩) (za0 t fi) (za0 t fi))/\SIn W.heap.size w' (.slice (some ⟨g,0,none⟩) (za0 t fi) (za0 t fi)) (za1 ns [x,y,z] (za0 t fi) 3)/\Below W.heap.size W w'):=fun W x y z hb=>z0n W rb _ x y z ns (HRE.out.below hb).cat har
 generalize za0 t fi=ar at *
 generalize tbs[fi]=tb at *
 clear hcr hr
 go_enter Tryz.func38,Tryz.ntmps38
 go_wp2_with (first|(go_at_call 77;refine HFI.out.mono ?_;rintro e w1 ⟨rfl,hww⟩;obtain rfl:=hww.symm)|(go_at_call 78;refine HRS.out.mono ?_;rintro e w1 ⟨v1,rfl,HV1,hb1⟩;obtain⟨aov,capv,rfl⟩:=zac HV1.1))
 have hg1:Below w1.heap.size w1 (w1.alloc (.cells (madeCells #[.slice none 0 0] rs.length) 30)):=(by go_grown)
 have hB1:Below w.heap.size w (w1.alloc (.cells (madeCells #[.slice none 0 0] rs.length) 30)):=zae hb1 hg1 (Nat.le_refl _)
 have hrow:=zbh (zhx w1 rs.length 30 (.slice none 0 0) (by unfold maxLen;omega)) hb1.size
 have HR0:Hid (World.ownsRow (w1.alloc (.cells (madeCells #[.slice none 0 0] rs.length) 30)) w.heap.size 30 1 (.slice (some ⟨w1.heap.size,0,none⟩) rs.length rs.length) rs.length (([]:List Nat).map (zly ar)++List.replicate (rs.length - 0) (.slice none 0 0))):=hrow
 have HV2:Hid (RowsIn w.heap.size (w1.alloc (.cells (madeCells #[.slice none 0 0] rs.length) 30)) (.slice aov rs.length capv) rs):=⟨zaa HV1.1 hg1,HV1.2⟩
 have hgl:w.heap.size<=w1.heap.size:=hb1.size
 clear hrow hmk HRS HV1 hg1 HFI
 generalize w1.alloc (.cells (madeCells #[.slice none 0 0] rs.length) 30)=w2 at *
 generalize w1.heap.size=g at *
 clear hb1
 go_loopw [46] (fun v46 wr=>∃(m:Nat) (gs:List Nat),m<=rs.length/\v46=.int .i64 m/\Below w.heap.size w wr/\gs.length=m/\Hid (wr.ownsRow w.heap.size 30 1 (.slice (some ⟨g,0,none⟩) rs.length rs.length) rs.length (gs.map (zly ar)++List.replicate (rs.length - m) (.slice none 0 0)))/\Hid (Copies w.heap.size wr ((rs.take m).map (zq2 ns ar)) gs)/\Hid (RowsIn w.heap.size wr (.slice aov rs.length capv) rs)) (fun i _=>rs.length - (intOf i).toNat)
 case atStart=>exact⟨0,[],Nat.zero_le _,rfl,hB1,rfl,HR0,Copies.nil _,HV2⟩
 case round =>
  clear HR0 HV2 hB1
  obtain⟨m,gs,hm,rfl,hbk,hgs,HR,HC,HV⟩:=hrel
  have HGS:Hid (gs.length=m):=hgs
  clear hgs
  have hgwr:g < wr.heap.size:=zds HR.out rfl
  have hfz:=zbu HR.out
  have hrl2:rb < wr.heap.size:=Nat.lt_of_lt_of_le hlt hbk.size
  by_cases hml:m < rs.length
  ·obtain⟨gv,cv,x,y,z,hv,hgv,hxyz,c0,c1,c2⟩:=HV.out.cell m hml
   simp only[Value.slice.injEq] at hv
   have hgg:=hv.1
   clear hv
   subst hgg
   have hmi:(m:Int) < (rs.length:Int):=by omega
   have HTK:Hid (rs.take (m+1)=rs.take m++[[x,y,z]]):=show rs.take (m+1)=rs.take m++[[x,y,z]] by rw[List.take_succ_eq_append_getElem hml,hxyz]
   clear hxyz
   have HTE2:Hid (∀ W,Below wr.heap.size wr W->Calls Tryz.prog 79 #[.pointer (some ⟨rb,0,none⟩),.agg #[.int .i64 (x:Nat),.int .i64 (y:Nat),.int .i64 (z:Nat)],.int .i64 ar] W fun e w'=>∃ g,W.heap.size<=g/\e=.returned (.slice (some ⟨g,0,none⟩) ar ar)/\Hid (SIn W.heap.size w' (.slice (some ⟨g,0,none⟩) ar ar) (za1 ns [x,y,z] ar 3))/\Below W.heap.size W w'):=fun W hb=>HTE.out W x y z (zae hbk hb (Nat.le_refl _))
   have HAR2:Hid (∀ W,Below wr.heap.size wr W->Calls Tryz.prog 80 #[.pointer (some ⟨rb,0,none⟩),.int .i64 (fi:Nat)] W fun e w'=>e=.returned (.int .i64 (ar:Nat))/\w'=W):=fun W hb=>HAR.out W (zae hbk hb (Nat.le_refl _))
   go_upto_region 9 with fail
   have hg4:Below wr.heap.size wr (wr.alloc (.cells #[.int .i64 (x:Nat),.int .i64 (y:Nat),.int .i64 (z:Nat)] 165)):=(by go_grown)
   have hb10:=Box.new wr #[.int .i64 (x:Nat),.int .i64 (y:Nat),.int .i64 (z:Nat)] 165
   generalize wr.alloc (.cells #[.int .i64 (x:Nat),.int .i64 (y:Nat),.int .i64 (z:Nat)] 165)=W4 at *
   have v0:W4.cell? ⟨wr.heap.size,0,none⟩=some (.int .i64 (x:Nat)):=by rw[hb10.rules.1];rfl
   have v1:W4.cell? ⟨wr.heap.size,1,none⟩=some (.int .i64 (y:Nat)):=by rw[hb10.rules.1];rfl
   have v2:W4.cell? ⟨wr.heap.size,2,none⟩=some (.int .i64 (z:Nat)):=by rw[hb10.rules.1];rfl
   have hl3:wr.heap.size < W4.heap.size:=hb10.lt
   have hR4:=zaa HR.out hg4
   have hgW:g < W4.heap.size:=zds hR4 rfl
   obtain⟨sx,hsx⟩:∃ sx,W4.cell? ⟨g,m,none⟩=some sx:=by
    obtain⟨g',cap',hv',_,_,hcl'⟩:=zal hR4 (by omega)
    simp only[Value.slice.injEq,Option.some.injEq,Addr.mk.injEq,and_true] at hv'
    have e:=hv'.1
    subst e
    exact⟨_,hcl' m _ (List.getElem?_eq_getElem (by simp[HGS.out];omega))⟩
   have hfW:=zbu hR4
   have HR4:Hid (W4.ownsRow w.heap.size 30 1 (.slice (some ⟨g,0,none⟩) rs.length rs.length) rs.length (gs.map (zly ar)++List.replicate (rs.length - m) (.slice none 0 0))):=hR4
   have HC4:Hid (Copies w.heap.size W4 ((rs.take m).map (zq2 ns ar)) gs):=HC.out.mono (fun _ _ q=>q.below hg4)
   have HV4:Hid (RowsIn w.heap.size W4 (.slice (some ⟨gv,0,none⟩) rs.length capv) rs):=HV.out.below' hg4
   have hB4:Below w.heap.size w W4:=zae hbk hg4 (Nat.le_refl _)
   have HTE3:Hid (∀ W,Below W4.heap.size W4 W->Calls Tryz.prog 79 #[.pointer (some ⟨rb,0,none⟩),.agg #[.int .i64 (x:Nat),.int .i64 (y:Nat),.int .i64 (z:Nat)],.int .i64 ar] W fun e w'=>∃ gt,W4.heap.size<=gt/\e=.returned (.slice (some ⟨gt,0,none⟩) ar ar)/\Hid (SIn W4.heap.size w' (.slice (some ⟨gt,0,none⟩) ar ar) (za1 ns [x,y,z] ar 3))/\Hid (Below W4.heap.size W4 w')/\w'.cell? ⟨wr.heap.size,0,none⟩=some (.int .i64 (x:Nat))/\w'.cell? ⟨wr.heap.size,1,none⟩=some (.int .i64 (y:Nat))/\w'.cell? ⟨wr.heap.size,2,none⟩=some (.int .i64 (z:Nat))/\w'.cell? ⟨g,m,none⟩=some sx/\g < w'.heap.size/\∀ o,w'.frozen? ⟨g,o,none⟩=false):=fun W hb=>by
    refine(HTE2.out W (zae hg4 hb (Nat.le_refl _))).mono ?_
    rintro e w' ⟨gt,h1,h2,h3,h4⟩
    have hq:=zae hb h4 (Nat.le_refl _)
    have hs:=hb.size
    exact⟨gt,by omega,h2,h3.out.low hb.size,hq,(hq.cell hl3).trans v0,(hq.cell hl3).trans v1,(hq.cell hl3).trans v2,(hq.cell hgW).trans hsx,Nat.lt_of_lt_of_le hgW hq.size,zbu (zaa HR4.out hq)⟩
   have HAR3:Hid (∀ W,Below W4.heap.size W4 W->Calls Tryz.prog 80 #[.pointer (some ⟨rb,0,none⟩),.int .i64 (fi:Nat)] W fun e w'=>e=.returned (.int .i64 (ar:Nat))/\w'=W):=fun W hb=>HAR2.out W (zae hg4 hb (Nat.le_refl _))
   clear HTE2 HAR2 hR4 hb10 hg4 HR HC HV c0 c1 c2 hgv hfz
   go_region_held3 (fun w'=>w'.cell? ⟨wr.heap.size,0,none⟩=some (.int .i64 (x:Nat))/\w'.cell? ⟨wr.heap.size,1,none⟩=some (.int .i64 (y:Nat))/\w'.cell? ⟨wr.heap.size,2,none⟩=some (.int .i64 (z:Nat))) (first|go_keep|(go_simp;done)) (first|(go_at_call 79;refine(HTE3.out _ (by exact(by go_grown))).mono ?_;rintro e w5 ⟨gt,hgt,rfl,HS5,HB5,a0,a1,a2,ax,ag,af⟩)|(go_at_call 80;refine(HAR3.out _ (by exact(by go_grown))).mono ?_;rintro e w6 ⟨rfl,hww⟩;obtain rfl:=hww.symm))
   have hR5:=zaa HR4.out HB5.out
   have hML:Hid ((gs.map (zly ar)++List.replicate (rs.length - m) (Value.slice none 0 0)).set m (zly ar gt)=(gs++[gt]).map (zly ar)++List.replicate (rs.length - (m+1)) (Value.slice none 0 0)):=show _=_ by
    obtain⟨k,hk⟩:∃ k,rs.length - m=k+1:=⟨rs.length - m - 1,by omega⟩
    have hk2:rs.length - (m+1)=k:=by omega
    rw[List.set_append,if_neg (by simp[HGS.out]),hk,hk2,List.replicate_succ]
    simp[HGS.out]
   have hset:=zb5 hR5 m (by simp[HGS.out];omega) (zly ar gt)
   rw[hML.out] at hset
   have hsv:zas [g] w5 (w5.setCell ⟨g,m,none⟩ (.slice (some ⟨gt,0,none⟩) ar ar)):=zas.set _ _ _ _
   obtain⟨cg,hcg⟩:=zeg hR5 (b:=g) rfl
   have hOf:=OfT.box hcg
   have HR6:Hid (World.ownsRow (w5.setCell ⟨g,m,none⟩ (.slice (some ⟨gt,0,none⟩) ar ar)) w.heap.size 30 1 (.slice (some ⟨g,0,none⟩) rs.length rs.length) rs.length ((gs++[gt]).map (zly ar)++List.replicate (rs.length - (m+1)) (.slice none 0 0))):=hset
   have HC6:Hid (Copies w.heap.size (w5.setCell ⟨g,m,none⟩ (.slice (some ⟨gt,0,none⟩) ar ar)) ((rs.take (m+1)).map (zq2 ns ar)) (gs++[gt])):=show Copies _ _ _ _ by
    rw[HTK.out,List.map_append]
    have hz:=hB4.size
    refine Copies.mono (w:=w5) ?_ (fun _ _ q=>zaj q hsv hOf (by decide))
    refine(HC4.out.mono (fun _ _ q=>q.below HB5.out)).snoc (l:=zq2 ns ar [x,y,z]) (fun a ha=>by have:=HC4.out.lt a ha;omega) (by omega) ?_
    show SIn w.heap.size w5 (.slice (some ⟨gt,0,none⟩) (za1 ns [x,y,z] ar 3).length (za1 ns [x,y,z] ar 3).length) (za1 ns [x,y,z] ar 3)
    rw[zdq]
    exact HS5.out.low (by omega)
   have HV6:Hid (RowsIn w.heap.size (w5.setCell ⟨g,m,none⟩ (.slice (some ⟨gt,0,none⟩) ar ar)) (.slice (some ⟨gv,0,none⟩) rs.length capv) rs):=⟨zaj (HV4.out.below' HB5.out).1 hsv hOf (by decide),HV4.out.2⟩
   have hB6:Below w.heap.size w (w5.setCell ⟨g,m,none⟩ (.slice (some ⟨gt,0,none⟩) ar ar)):=(zae hB4 HB5.out (Nat.le_refl _)).setCell (by simpa using hgl) _
   have HGS6:Hid ((gs++[gt]).length=m+1):=show(gs++[gt]).length=m+1 by simp[HGS.out]
   clear hset hR5 hsv hOf HR4 HC4 HV4 HS5 HB5 a0 a1 a2 ax ag af v0 v1 v2
   generalize w5.setCell ⟨g,m,none⟩ (.slice (some ⟨gt,0,none⟩) ar ar)=w7 at *
   go_wp2
   go_roundw
   case rel=>exact⟨m+1,gs++[gt],by omega,by go_num,hB6,HGS6.out,HR6,HC6,HV6⟩
   case measure=>simp[intOf];omega
  ·obtain rfl:m=rs.length:=by omega
   have q1:=HR.out
   have q2:=HC.out
   rw[Nat.sub_self,List.replicate_zero,List.append_nil] at q1
   rw[List.take_length] at q2
   have HQ:Hid (_/\_):=And.intro q1 q2
   clear q1 q2 HR HC HV HGS
   go_wp2
   go_ret2
   exact⟨g,gs,hgl,rfl,HQ.out.1,HQ.out.2,hbk⟩
end Go.Proofs.YteampbddflhngaaGreat
