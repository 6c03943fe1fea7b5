import Derived.Test.YteampbddflhngabGreatB40

namespace Go.Proofs.YteampbddflhngabGreat
structure LitWF(l:PRLit)(a W:Nat):Prop where
 len:l.terms.length=a
 le3:a<=3
 lev:∀ t∈l.terms,t.var=true->t.num < 5/\levelL l t.num=some t.level
 con:∀ t∈l.terms,t.var=false->t.num < W
def Canon(a:Nat)(row:PRow):Prop:=row.length=3/\∀ i,a<=i->row.getD i 0=0
theorem rowL_get(l:PRLit)(y:List Nat){i:Nat}(hi:i < 3):(rowL l y).getD i 0=rowCell l y i:=by
 match i,hi with
 |0,_=>rfl
 |1,_=>rfl
 |2,_=>rfl
theorem rowL_canon{l:PRLit}{a W:Nat}(h:LitWF l a W)(y:List Nat):Canon a(rowL l y):=by
 refine⟨rfl,fun i hi=>?_⟩
 by_cases h3:i < 3
 ·rw [rowL_get l y h3]
  unfold rowCell
  rw [if_neg(by rw [h.len];omega)]
 ·simp [List.getD,rowL]
  rw [List.getElem?_eq_none(by simp;omega)];rfl
theorem canon_ext{a:Nat}{x y:PRow}(hx:Canon a x)(hy:Canon a y)(h:∀ i,i < a->i < 3->x.getD i 0=y.getD i 0):x=y:=by
 refine List.ext_getElem(by rw [hx.1,hy.1]) fun i h1 h2=>?_
 have e:x.getD i 0=y.getD i 0:=by
  by_cases hi:i < a
  ·exact h i hi(by rw [hx.1] at h1;exact h1)
  ·rw [hx.2 i(by omega),hy.2 i(by omega)]
 simpa [List.getD,h1,h2] using e
theorem varsL_at{l:PRLit}{p d:Nat}(hp:hasL l p=true)(hd:p < d):(varsL l d)[(varsL l p).length]?=some p:=by
 obtain⟨t,ht⟩:=varsL_le l(show p+1<=d by omega)
 rw [← ht,varsL_succ,if_pos hp]
 simp
theorem level_at{l:PRLit}{p j:Nat}(h:levelL l p=some j)(hp:p < 5):(varsL l 5)[j]?=some p:=by
 rw [levelL_eq] at h
 split at h
 ·rename_i hh
  simp only [Option.some.injEq] at h
  subst h
  exact varsL_at hh hp
 ·cases h
theorem level_lt{l:PRLit}{p j:Nat}(h:levelL l p=some j)(hp:p < 5):j < depthL l:=by
 have:=level_at h hp
 rw [depthL_eq]
 exact(List.getElem?_eq_some_iff.1 this).1
theorem depthL_le3{l:PRLit}{a W:Nat}(h:LitWF l a W):depthL l<=3:=by
 have:=varsL_terms l 5
 rw [depthL_eq]
 have:=h.len
 have:=h.le3
 omega
theorem LitWF.leveled{l:PRLit}{a W:Nat}(h:LitWF l a W){t:PTerm}(ht:t∈l.terms):leveled t=t.var:=by
 unfold Go.Proofs.YteampbddflhngabGreat.leveled
 cases hv:t.var with
 |false=>rfl
 |true =>
  obtain⟨h1,h2⟩:=h.lev t ht hv
  have:=level_lt h2 h1
  have:=depthL_le3 h
  simp;omega
theorem foundStep_len(l:PRLit)(row f:PRow)(i:Nat):(foundStep l row f i).length=f.length:=by unfold foundStep;split <;> simp
theorem foundL_len(l:PRLit)(row:PRow):(foundL l row).length=3:=by unfold foundL;rw [foundStep_len,foundStep_len,foundStep_len];rfl
theorem found_step{l:PRLit}{row:PRow}{g:Nat->Nat}(hg:∀ i(hi:i < l.terms.length),leveled l.terms[i]=true->row.getD i 0=g l.terms[i].level){f:PRow}{m:Nat}(hl:f.length=3)
  (hf:∀ j,j < 3->(f.getD j 0=g j∨f.getD j 0=0)/\((∃ i,∃ hi:i < l.terms.length,i < m/\leveled l.terms[i]=true/\l.terms[i].level=j)->f.getD j 0=g j)/\((¬ ∃ i,∃ hi:i < l.terms.length,leveled l.terms[i]=true/\l.terms[i].level=j)->f.getD j 0=0)) :
  ∀ j,j < 3->((foundStep l row f m).getD j 0=g j∨(foundStep l row f m).getD j 0=0)/\((∃ i,∃ hi:i < l.terms.length,i < m+1/\leveled l.terms[i]=true/\l.terms[i].level=j)->(foundStep l row f m).getD j 0=g j)/\((¬ ∃ i,∃ hi:i < l.terms.length,leveled l.terms[i]=true/\l.terms[i].level=j)->(foundStep l row f m).getD j 0=0):=by
 intro j hj
 obtain⟨f0,f1,f2⟩:=hf j hj
 unfold foundStep
 by_cases hm:m < l.terms.length/\leveled(l.terms.getD m⟨false,0,0⟩)=true
 ·rw [if_pos hm]
  have e:l.terms.getD m⟨false,0,0⟩=l.terms[m]'hm.1:=by simp [List.getD,hm.1]
  rw [e] at hm ⊢
  rw [getD_set_nat]
  by_cases hjm:l.terms[m].level=j/\l.terms[m].level < f.length
  ·rw [if_pos hjm]
   have:=hg m hm.1 hm.2
   rw [hjm.1] at this
   exact⟨Or.inl this,fun _=>this,fun q=>absurd⟨m,hm.1,hm.2,hjm.1⟩ q⟩
  ·rw [if_neg hjm]
   refine⟨f0,?_,f2⟩
   rintro⟨i,hi,q1,q2,q3⟩
   by_cases him:i=m
   ·subst him
    exact absurd⟨q3,by rw [q3,hl];exact hj⟩ hjm
   ·exact f1⟨i,hi,by omega,q2,q3⟩
 ·rw [if_neg hm]
  refine⟨f0,?_,f2⟩
  rintro⟨i,hi,q1,q2,q3⟩
  by_cases him:i=m
  ·subst him
   exact absurd⟨hi,by simpa [List.getD,hi] using q2⟩ hm
  ·exact f1⟨i,hi,by omega,q2,q3⟩
theorem foundL_at{l:PRLit}{a W:Nat}(h:LitWF l a W){row:PRow}{g:Nat->Nat}(hg:∀ i(hi:i < l.terms.length),leveled l.terms[i]=true->row.getD i 0=g l.terms[i].level)(j:Nat)(hj:j < 3):((∃ i,∃ hi:i < l.terms.length,leveled l.terms[i]=true/\l.terms[i].level=j)->(foundL l row).getD j 0=g j)/\((¬ ∃ i,∃ hi:i < l.terms.length,leveled l.terms[i]=true/\l.terms[i].level=j)->(foundL l row).getD j 0=0):=by
 have h0:∀ j,j < 3->((([0,0,0]:PRow).getD j 0=g j∨([0,0,0]:PRow).getD j 0=0)/\((∃ i,∃ hi:i < l.terms.length,i < 0/\leveled l.terms[i]=true/\l.terms[i].level=j)->([0,0,0]:PRow).getD j 0=g j)/\((¬ ∃ i,∃ hi:i < l.terms.length,leveled l.terms[i]=true/\l.terms[i].level=j)->([0,0,0]:PRow).getD j 0=0)):=by
  intro j hj
  have hz:([0,0,0]:PRow).getD j 0=0:=by
   match j,hj with
   |0,_=>rfl
   |1,_=>rfl
   |2,_=>rfl
  exact⟨Or.inr hz,fun⟨i,_,q,_⟩=>by omega,fun _=>hz⟩
 have h1:=found_step hg rfl h0
 have h2:=found_step hg(by rw [foundStep_len];rfl) h1
 have h3:=found_step hg(by rw [foundStep_len,foundStep_len];rfl) h2
 obtain⟨_,q2,q3⟩:=h3 j hj
 refine⟨fun⟨i,hi,r1,r2⟩=>q2⟨i,hi,?_,r1,r2⟩,q3⟩
 have:=h.len
 have:=h.le3
 omega
theorem match_allows{l:PRLit}{a W:Nat}(h:LitWF l a W){row f:PRow}:matchL l row=some f↔f=foundL l row/\∀ i(hi:i < l.terms.length),allowsT l.terms[i](row.getD i 0)(foundL l row)=true:=by
 have hall:(allowsAt l row(foundL l row) 0 && allowsAt l row(foundL l row) 1 && allowsAt l row(foundL l row) 2)=true↔∀ i(hi:i < l.terms.length),allowsT l.terms[i](row.getD i 0)(foundL l row)=true:=by
  have key:∀ i,allowsAt l row(foundL l row) i=true↔∀ hi:i < l.terms.length,allowsT l.terms[i](row.getD i 0)(foundL l row)=true:=by
   intro i
   unfold allowsAt
   simp only [Bool.or_eq_true,decide_eq_true_eq]
   constructor
   ·rintro(q|q) hi
    ·omega
    ·simpa [List.getD,hi] using q
   ·intro q
    by_cases hi:i < l.terms.length
    ·exact Or.inr(by simpa [List.getD,hi] using q hi)
    ·exact Or.inl(by omega)
  simp only [Bool.and_eq_true,key]
  constructor
  ·rintro⟨⟨q0,q1⟩,q2⟩ i hi
   have:=h.len
   have:=h.le3
   have hi3:i=0∨i=1∨i=2:=by omega
   rcases hi3 with rfl|rfl|rfl
   ·exact q0 hi
   ·exact q1 hi
   ·exact q2 hi
  ·intro q
   exact⟨⟨fun hi=>q 0 hi,fun hi=>q 1 hi⟩,fun hi=>q 2 hi⟩
 unfold matchL
 by_cases hc:(allowsAt l row(foundL l row) 0 && allowsAt l row(foundL l row) 1 && allowsAt l row(foundL l row) 2)=true
 ·rw [if_pos hc]
  simp only [Option.some.injEq]
  exact⟨fun q=>⟨q.symm,hall.1 hc⟩,fun q=>q.1.symm⟩
 ·rw [if_neg hc]
  constructor
  ·intro q;cases q
  ·intro q;exact absurd(hall.2 q.2) hc
theorem nodup_inj{l:List Nat}(h:l.Nodup){i j:Nat}(hi:i < l.length)(hj:j < l.length)(e:l[i]=l[j]):i=j:=by
 have hp:=List.pairwise_iff_getElem.1 h
 rcases Nat.lt_trichotomy i j with q|q|q
 ·exact absurd e(hp i j hi hj q)
 ·exact q
 ·exact absurd e.symm(hp j i hj hi q)
theorem match_inst{l:PRLit}{a W:Nat}(h:LitWF l a W)(y:List Nat):∃ f,matchL l(rowL l y)=some f/\f.length=3/\f.take(depthL l)=projL l y 5/\∀ j,depthL l<=j->f.getD j 0=0:=by
 have hat:∀ i(hi:i < l.terms.length),(rowL l y).getD i 0=atT l.terms[i] y:=fun i hi=>by
  have:=h.len
  have:=h.le3
  rw [rowL_get l y(by omega)]
  unfold rowCell
  rw [if_pos hi]
  simp [List.getD,hi]
 have hg:∀ i(hi:i < l.terms.length),leveled l.terms[i]=true->(rowL l y).getD i 0=(projL l y 5).getD l.terms[i].level 0:=fun i hi hl=>by
  have hm:=List.getElem_mem hi
  rw [h.leveled hm] at hl
  obtain⟨h1,h2⟩:=h.lev _ hm hl
  rw [hat i hi]
  unfold atT
  rw [if_pos(by simp [hl,h1])]
  have:=level_at h2 h1
  unfold projL
  simp [List.getD,this]
 have hfa:=fun j hj=>foundL_at h(row:=rowL l y)(g:=fun j=>(projL l y 5).getD j 0) hg j hj
 have hlv:∀ i(hi:i < l.terms.length),leveled l.terms[i]=true->l.terms[i].level < depthL l:=fun i hi hl=>by
  have hm:=List.getElem_mem hi
  rw [h.leveled hm] at hl
  obtain⟨h1,h2⟩:=h.lev _ hm hl
  exact level_lt h2 h1
 have hd3:=depthL_le3 h
 have hzero:∀ j,depthL l<=j->(foundL l(rowL l y)).getD j 0=0:=fun j hj=>by
  by_cases h3:j < 3
  ·exact(hfa j h3).2 fun⟨i,hi,q1,q2⟩=>by have:=hlv i hi q1;omega
  ·have:=foundL_len l(rowL l y)
   simp [List.getD,List.getElem?_eq_none(show(foundL l(rowL l y)).length<=j by omega)]
 have hval:∀ j,j < depthL l->(foundL l(rowL l y)).getD j 0=(projL l y 5).getD j 0:=fun j hj=>by
  refine(hfa j(by omega)).1 ?_
  rw [depthL_eq] at hj
  have hp:=List.getElem_mem hj
  obtain⟨p1,p2⟩:=(varsL_mem l 5 _).1 hp
  obtain⟨t,t1,t2,t3⟩:=(hasL_iff l _).1 p2
  obtain⟨i,hi,rfl⟩:=List.getElem_of_mem t1
  refine⟨i,hi,by rw [h.leveled t1];exact t2,?_⟩
  obtain⟨l1,l2⟩:=h.lev _ t1 t2
  have:=level_at l2 l1
  rw [t3] at this
  obtain⟨hk,e⟩:=List.getElem?_eq_some_iff.1 this
  exact nodup_inj(List.nodup_range.filter _:(varsL l 5).Nodup) hk hj e
 refine⟨foundL l(rowL l y),(match_allows h).2⟨rfl,fun i hi=>?_⟩,foundL_len _ _,?_,hzero⟩
 ·unfold allowsT
  have hm:=List.getElem_mem hi
  cases hl:leveled l.terms[i] with
  |true =>
   rw [if_pos rfl,hval _(hlv i hi hl),hg i hi hl]
   simp
  |false =>
   rw [if_neg(by simp),hat i hi]
   rw [h.leveled hm] at hl
   unfold atT
   rw [if_neg(by simp [hl])]
   simp
 ·refine List.ext_getElem(by rw [List.length_take,foundL_len,projL_len,← depthL_eq];omega) fun j h1 h2=>?_
  have hj:j < depthL l:=by rw [projL_len,← depthL_eq] at h2;exact h2
  have:=hval j hj
  have hj3:j < (foundL l(rowL l y)).length:=by rw [foundL_len];omega
  simp only [List.getD,List.getElem?_eq_getElem hj3,List.getElem?_eq_getElem h2,Option.getD_some] at this
  rw [List.getElem_take]
  exact this
theorem match_of{l:PRLit}{a W:Nat}(h:LitWF l a W){row f:PRow}(hr:Canon a row)(hm:matchL l row=some f)(y:List Nat)(hy:f.take(depthL l)=projL l y 5):row=rowL l y:=by
 obtain⟨rfl,hal⟩:=(match_allows h).1 hm
 refine canon_ext hr(rowL_canon h y) fun i hi h3=>?_
 have hil:i < l.terms.length:=by rw [h.len];exact hi
 have hmem:=List.getElem_mem hil
 have hq:=hal i hil
 rw [rowL_get l y h3]
 unfold rowCell
 rw [if_pos hil,show l.terms.getD i⟨false,0,0⟩=l.terms[i] by simp [List.getD,hil]]
 unfold allowsT at hq
 unfold atT
 cases hl:leveled l.terms[i] with
 |true =>
  rw [hl,if_pos rfl] at hq
  rw [h.leveled hmem] at hl
  obtain⟨l1,l2⟩:=h.lev _ hmem hl
  rw [if_pos(by simp [hl,l1])]
  have hlt:=level_lt l2 l1
  have hat:=level_at l2 l1
  have e:(foundL l row).getD l.terms[i].level 0=((foundL l row).take(depthL l)).getD l.terms[i].level 0:=by
   simp [List.getD,hlt]
  rw [e,hy] at hq
  unfold projL at hq
  simp only [List.getD,List.getElem?_map,hat,Option.map_some,Option.getD_some,beq_iff_eq] at hq
  exact hq.symm
 |false =>
  rw [hl,if_neg(by simp)] at hq
  rw [h.leveled hmem] at hl
  rw [if_neg(by simp [hl])]
  exact(by simpa using hq:l.terms[i].num=row.getD i 0).symm
end Go.Proofs.YteampbddflhngabGreat

namespace Go.Proofs.YteampbddflhngabGreat
def Small(W:Nat)(row:PRow):Prop:=∀ v∈row,v < W
theorem getD_small{W:Nat}{row:PRow}(h:Small W row)(hW:0 < W)(i:Nat):row.getD i 0 < W:=by
 by_cases hi:i < row.length
 ·rw [show row.getD i 0=row[i] by simp [List.getD,hi]];exact h _(List.getElem_mem hi)
 ·rw [show row.getD i 0=0 by simp [List.getD,hi]];exact hW
theorem foundStep_small{W:Nat}{l:PRLit}{row f:PRow}(hW:0 < W)(hr:Small W row)(hf:Small W f)(i:Nat):Small W(foundStep l row f i):=by
 unfold foundStep
 split
 ·intro v hv
  rcases List.mem_or_eq_of_mem_set hv with q|q
  ·exact hf v q
  ·rw [q];exact getD_small hr hW i
 ·exact hf
theorem match_small{W:Nat}{l:PRLit}{row f:PRow}(hW:0 < W)(hr:Small W row)(hm:matchL l row=some f):f.length=3/\Small W f:=by
 unfold matchL at hm
 split at hm
 ·simp only [Option.some.injEq] at hm
  rw [← hm]
  refine⟨foundL_len l row,?_⟩
  unfold foundL
  have h0:Small W [0,0,0]:=by intro v hv;simp at hv;omega
  exact foundStep_small hW hr(foundStep_small hW hr(foundStep_small hW hr h0 0) 1) 2
 ·cases hm
theorem fits_iff(T:PTrie)(row:PRow):fitsP T row=true↔Small T.width row:=by simp [fitsP,Small]
theorem addsP_spec:∀ (rs:List PRow)(T:PTrie),TrieOK T->(∀ r∈rs,r.length=3/\Small T.width r)->T.count+rs.length<=9000000->∃ T',addsP rs T=some T'/\TrieOK T'/\T'.width=T.width/\T'.depth=T.depth/\T'.count<=T.count+rs.length/\∀ k,k.length=T.depth->((semT T' k).isSome=true↔(semT T k).isSome=true∨∃ r∈rs,r.take T.depth=k)
 |[],T,h,_,_=>⟨T,rfl,h,rfl,rfl,by simp,fun k _=>by simp⟩
 |r::rs,T,h,hr,hc=>by
  simp only [List.length_cons] at hc
  obtain⟨h1,h2⟩:=hr r(by simp)
  obtain⟨a1,a2,a3,a4,a5,a6,a7⟩:=h.add r 0 h1((fits_iff T r).2 h2)
  have hcnt:(addP T r 0).1.count<=T.count+1:=by
   cases hb:(addP T r 0).2 with
   |false=>rw [a5 hb];omega
   |true=>rw [a6 hb];exact Nat.le_refl _
  obtain⟨T',b1,b2,b3,b4,b5,b6⟩:=addsP_spec rs(addP T r 0).1 a1(fun x hx=>by rw [a2];exact hr x(by simp [hx]))(by omega)
  unfold addsP
  rw [if_pos(h.okT(by omega))]
  refine⟨T',b1,b2,by rw [b3,a2],by rw [b4,a3],by simp only [List.length_cons];omega,fun k hk=>?_⟩
  rw [b6 k(by rw [a3];exact hk),a7 k hk,a3]
  by_cases e:k=r.take T.depth
  ·subst e
   simp
  ·rw [if_neg e]
   constructor
   ·rintro(q|⟨x,q1,q2⟩)
    ·exact Or.inl q
    ·exact Or.inr⟨x,by simp [q1],q2⟩
   ·rintro(q|⟨x,q1,q2⟩)
    ·exact Or.inl q
    ·rcases List.mem_cons.1 q1 with rfl|q1
     ·exact absurd q2.symm e
     ·exact Or.inr⟨x,q1,q2⟩
structure ViewOf(T:PTrie)(l:PRLit)(W:Nat)(P:PRow->Prop):Prop where
 ok:TrieOK T
 width:T.width=W
 depth:T.depth=depthP(depthL l)
 sem:∀ k,k.length=T.depth->((semT T k).isSome=true↔∃ row f,P row/\matchL l row=some f/\f.take T.depth=k)
theorem ViewOf.congr{T:PTrie}{l:PRLit}{W:Nat}{P Q:PRow->Prop}(h:ViewOf T l W P)(e:∀ x,P x↔Q x):ViewOf T l W Q :=
 ⟨h.ok,h.width,h.depth,fun k hk=>by rw [h.sem k hk];exact⟨fun⟨r,f,q⟩=>⟨r,f,(e r).1 q.1,q.2⟩,fun⟨r,f,q⟩=>⟨r,f,(e r).2 q.1,q.2⟩⟩⟩
theorem ViewOf.new(l:PRLit)(w W:Nat)(hW:W=widthP w):ViewOf(newP w(depthL l)) l W(fun _=>False):=by
 refine⟨TrieOK.new _ _,by rw [newP_width,hW],newP_depth _ _,fun k hk=>?_⟩
 constructor
 ·intro q
  rw [newP_sem _ _ k(by rintro rfl;have:=(depthP_in(depthL l)).1;rw [newP_depth] at hk;simp at hk;omega)] at q
  cases q
 ·rintro⟨_,_,q,_⟩;exact q.elim
theorem ViewOf.adds{T:PTrie}{l:PRLit}{W:Nat}{P:PRow->Prop}(h:ViewOf T l W P)(hW:0 < W)(rows:List PRow)(hs:∀ r∈rows,Small W r)(hc:T.count+rows.length<=9000000):∃ T',addsP(rows.filterMap(matchL l)) T=some T'/\ViewOf T' l W(fun x=>P x∨x∈rows)/\T'.count<=T.count+rows.length:=by
 have hlen:(rows.filterMap(matchL l)).length<=rows.length:=List.length_filterMap_le _ _
 obtain⟨T',a1,a2,a3,a4,a5,a6⟩:=addsP_spec(rows.filterMap(matchL l)) T h.ok(fun r hr=>by
  obtain⟨x,hx,hm⟩:=List.mem_filterMap.1 hr
  rw [h.width]
  exact match_small hW(hs x hx) hm)(by omega)
 refine⟨T',a1,⟨a2,by rw [a3,h.width],by rw [a4,h.depth],fun k hk=>?_⟩,by omega⟩
 rw [a4] at hk
 rw [a6 k hk,h.sem k hk,a4]
 constructor
 ·rintro(⟨r,f,q1,q2,q3⟩|⟨f,q1,q2⟩)
  ·exact⟨r,f,Or.inl q1,q2,q3⟩
  ·obtain⟨x,hx,hm⟩:=List.mem_filterMap.1 q1
   exact⟨x,f,Or.inr hx,hm,q2⟩
 ·rintro⟨r,f,q1|q1,q2,q3⟩
  ·exact Or.inl⟨r,f,q1,q2,q3⟩
  ·exact Or.inr⟨f,List.mem_filterMap.2⟨r,q1,q2⟩,q3⟩
theorem pad_len{k:PRow}{d:Nat}(h:k.length=d)(h3:d<=3):(pad k d).length=3:=by simp [pad,h];omega
theorem pad_take{k:PRow}{d:Nat}(h:k.length=d):(pad k d).take d=k:=by simp [pad,← h]
theorem pad_small{W:Nat}{k:PRow}{d:Nat}(hW:0 < W)(h:Small W k):Small W(pad k d):=by
 intro v hv
 unfold pad at hv
 rcases List.mem_append.1 hv with q|q
 ·exact h v q
 ·have:=List.mem_of_mem_drop q
  simp at this
  omega
theorem ViewOf.join{T U:PTrie}{l:PRLit}{W:Nat}{P Q:PRow->Prop}(h:ViewOf T l W P)(k:ViewOf U l W Q)(hW:0 < W)(hc:T.count+U.count<=9000000):∃ T',addsP((keysT U).map fun x=>pad x U.depth) T=some T'/\ViewOf T' l W(fun x=>P x∨Q x)/\T'.count<=T.count+U.count:=by
 have hd:U.depth=T.depth:=by rw [h.depth,k.depth]
 have hd3:T.depth<=3:=by rw [h.depth];exact(depthP_in _).2
 obtain⟨T',a1,a2,a3,a4,a5,a6⟩:=addsP_spec((keysT U).map fun x=>pad x U.depth) T h.ok(fun r hr=>by
  obtain⟨x,hx,rfl⟩:=List.mem_map.1 hr
  obtain⟨q1,q2⟩:=(keysT_mem U x).1 hx
  refine⟨pad_len q1(by omega),?_⟩
  rw [h.width]
  refine pad_small hW ?_
  intro v hv
  have:=semT_wide x 0 q2 v hv
  rw [k.width] at this
  exact this)(by simp [k.ok.cnt];omega)
 refine⟨T',a1,⟨a2,by rw [a3,h.width],by rw [a4,h.depth],fun y hy=>?_⟩,by simpa [k.ok.cnt] using a5⟩
 rw [a4] at hy
 rw [a6 y hy,h.sem y hy,a4]
 constructor
 ·rintro(⟨r,f,q1,q2,q3⟩|⟨r,q1,q2⟩)
  ·exact⟨r,f,Or.inl q1,q2,q3⟩
  ·obtain⟨x,hx,rfl⟩:=List.mem_map.1 q1
   obtain⟨x1,x2⟩:=(keysT_mem U x).1 hx
   rw [← hd,pad_take x1] at q2
   subst q2
   obtain⟨r,f,s1,s2,s3⟩:=(k.sem x x1).1 x2
   exact⟨r,f,Or.inr s1,s2,by rw [← hd];exact s3⟩
 ·rintro⟨r,f,q1|q1,q2,q3⟩
  ·exact Or.inl⟨r,f,q1,q2,q3⟩
  ·refine Or.inr⟨pad y U.depth,List.mem_map.2⟨y,(keysT_mem U y).2⟨by omega,(k.sem y(by omega)).2⟨r,f,q1,q2,by rw [hd];exact q3⟩⟩,rfl⟩,?_⟩
   rw [← hd,pad_take(by omega)]
theorem ViewOf.sat{T:PTrie}{l:PRLit}{a W Wc:Nat}{P:PRow->Prop}(h:ViewOf T l W P)(hl:LitWF l a Wc)(hP:∀ x,P x->Canon a x)(y:List Nat):SatL T l y↔P(rowL l y):=by
 obtain⟨f,m1,m2,m3,m4⟩:=match_inst hl y
 have hd3:=depthL_le3 hl
 by_cases h0:depthL l=0
 ·have hd1:T.depth=1:=by rw [h.depth,h0];rfl
  have hp:projL l y 5=[]:=List.length_eq_zero_iff.1(by rw [projL_len,← depthL_eq];exact h0)
  constructor
  ·intro hs
   have hc:=hs.1 h0
   rw [← h.ok.cnt] at hc
   obtain⟨k,hk⟩:=List.exists_mem_of_length_pos(Nat.pos_of_ne_zero hc)
   obtain⟨k1,k2⟩:=(keysT_mem T k).1 hk
   obtain⟨r,g,q1,q2,q3⟩:=(h.sem k k1).1 k2
   have:=match_of hl(hP r q1) q2 y(by rw [h0,hp];rfl)
   rw [← this];exact q1
  ·intro hP2
   refine⟨fun _ hc=>?_,fun q=>absurd h0 q⟩
   have:(semT T(f.take T.depth)).isSome=true:=(h.sem _(by rw [List.length_take,m2,hd1];rfl)).2⟨_,f,hP2,m1,rfl⟩
   have hm:f.take T.depth∈keysT T:=(keysT_mem T _).2⟨by rw [List.length_take,m2,hd1];rfl,this⟩
   have:=List.length_pos_of_mem hm
   rw [h.ok.cnt] at this
   omega
 ·have hd:T.depth=depthL l:=by rw [h.depth,depthP_self h0 hd3]
  have hpl:(projL l y 5).length=T.depth:=by rw [projL_len,← depthL_eq,hd]
  constructor
  ·intro hs
   obtain⟨r,g,q1,q2,q3⟩:=(h.sem _ hpl).1(hs.2 h0)
   rw [hd] at q3
   have:=match_of hl(hP r q1) q2 y q3
   rw [← this];exact q1
  ·intro hP2
   exact⟨fun q=>absurd q h0,fun _=>(h.sem _ hpl).2⟨_,f,hP2,m1,by rw [hd];exact m3⟩⟩
structure ViewInv(V:PView)(l:PRLit)(W:Nat)(P0 P1:PRow->Prop)(Pf:PRow->Prop)(c:Nat):Prop where
 lit:V.lit=l
 before:ViewOf V.before l W P0
 fresh:ViewOf V.fresh l W Pf
 all:ViewOf V.all l W P1
 few:V.before.count+V.fresh.count<=c/\V.all.count<=c
theorem renewV_spec{V:PView}{l:PRLit}{w W:Nat}{P0 P1 Pf:PRow->Prop}{c:Nat}(h:ViewInv V l W P0 P1 Pf c)(hW:W=widthP w)(rows:List PRow)(hs:∀ r∈rows,Small W r)(hc:c+rows.length<=1048576)(fuel:Nat)(hf:3 * (W+1)<=fuel):∃ V',renewV fuel w V rows=some V'/\ViewInv V' l W(fun x=>P0 x∨Pf x)(fun x=>P1 x∨x∈rows)(fun x=>x∈rows)(c+rows.length):=by
 have hW0:0 < W:=by rw [hW];unfold widthP;split <;> omega
 have hr:=h.fresh.ok.rowsG fuel(by rw [h.fresh.width];exact hf)(by have:=h.few.1;omega)
 obtain⟨b,b1,b2,b3⟩:=h.before.join h.fresh hW0(by have:=h.few.1;omega)
 obtain⟨f,f1,f2,f3⟩:=(ViewOf.new l w W hW).adds hW0 rows hs(by simp [newP,growP];omega)
 obtain⟨a,a1,a2,a3⟩:=h.all.adds hW0 rows hs(by have:=h.few.2;omega)
 refine⟨{ V with before:=b,fresh:=f,all:=a },?_,h.lit,b2,f2.congr(fun x=>by simp),a2,?_⟩
 ·unfold renewV
  rw [hr,h.lit]
  simp only [b1,f1,a1]
 ·have h1:=h.few.1
  have h2:=h.few.2
  have h3:(newP w(depthL l)).count=0:=rfl
  rw [h3] at f3
  simp only
  omega
end Go.Proofs.YteampbddflhngabGreat

namespace Go.Proofs.YteampbddflhngabGreat
open Classical
abbrev DB:=Nat->PRow->Option Nat
noncomputable def absR(ar:List Nat)(R:PRun):DB:=fun p row=>if p < ar.length/\Canon(ar.getD p 0) row then markP(R.rows.getD p PTrie.zero) row else none
structure RunInv(ar:List Nat)(W:Nat)(R:PRun):Prop where
 len:R.rows.length=ar.length
 tries:∀ p(hp:p < R.rows.length),TrieOK R.rows[p]/\R.rows[p].width=W/\R.rows[p].depth=depthP(ar.getD p 0)/\∀ k∈keysT R.rows[p],Canon(ar.getD p 0)(pad k R.rows[p].depth)
 cnt:R.count=(R.rows.map(·.count)).sum
theorem sum_setP(l:List PTrie):∀ (p:Nat)(T:PTrie)(hp:p < l.length),((l.set p T).map(·.count)).sum+l[p].count=(l.map(·.count)).sum+T.count:=by
 induction l with
 |nil=>intro p T hp;simp at hp
 |cons a l ih =>
  intro p T hp
  cases p with
  |zero=>simp;omega
  |succ p =>
   have:=ih p T(by simpa using hp)
   simp at this ⊢
   omega
theorem sum_ge(l:List PTrie):∀ (p:Nat)(hp:p < l.length),l[p].count<=(l.map(·.count)).sum:=by
 induction l with
 |nil=>intro p hp;simp at hp
 |cons a l ih =>
  intro p hp
  cases p with
  |zero=>simp
  |succ p =>
   have:=ih p(by simpa using hp)
   simp at this ⊢
   omega
theorem canon_key{a:Nat}(h3:a<=3){x y:PRow}(hx:Canon a x)(hy:Canon a y)(e:x.take(depthP a)=y.take(depthP a)):x=y:=by
 refine canon_ext hx hy fun i hi h=>?_
 have hd:i < depthP a:=by rw [depthP_self(by omega) h3];exact hi
 have:=congrArg(fun l=>l.getD i 0) e
 simpa [List.getD,List.getElem?_take,hd] using this
theorem pad_canon{a:Nat}(h3:a<=3){x:PRow}(hx:Canon a x):pad(x.take(depthP a))(depthP a)=x:=by
 have hd:=depthP_in a
 have hda:a<=depthP a:=by
  by_cases h0:a=0
  ·omega
  ·rw [depthP_self h0 h3];exact Nat.le_refl _
 show x.take(depthP a)++([0,0,0]:PRow).drop(depthP a)=x
 have hl3:x.length=3:=hx.1
 refine List.ext_getElem(by simp [hl3];omega) fun i h1 h2=>?_
 have hz:∀ i,depthP a<=i->x.getD i 0=0:=fun i hi=>hx.2 i(by omega)
 have hi3:i < 3:=by omega
 by_cases hi:i < depthP a
 ·rw [List.getElem_append_left(by simp [hl3];omega)]
  simp
 ·rw [List.getElem_append_right(by simp;omega)]
  have e1:x[i]=0:=by have:=hz i(by omega);simpa [List.getD,h2] using this
  rw [e1]
  simp only [List.getElem_drop]
  have:∀ j(hj:j < ([0,0,0]:List Nat).length),([0,0,0]:List Nat)[j]=0:=by
   intro j hj
   have hj3:j=0∨j=1∨j=2:=by simp at hj;omega
   rcases hj3 with rfl|rfl|rfl <;> rfl
  exact this _ _
structure Mid(ar:List Nat)(W k:Nat)(D0:DB)(c0:List Nat)(R:PRun):Prop where
 inv:RunInv ar W R
 rounds:R.rounds=k
 flen:R.fresh.length=ar.length
 fresh:∀ p(hp:p < R.fresh.length),R.fresh[p].Nodup/\∀ row∈R.fresh[p],Canon(ar.getD p 0) row/\Small W row/\D0 p row=none
 abs:∀ p row,absR ar R p row=match D0 p row with
  |some m=>some m
  |none=>if row∈R.fresh.getD p [] then some k else none
 cnts:∀ p(hp:p < R.rows.length),R.rows[p].count=c0.getD p 0+(R.fresh.getD p []).length
theorem getD_lt{α:Type}{l:List α}{i:Nat}(d:α)(h:i < l.length):l.getD i d=l[i]:=by simp [List.getD,h]
theorem getD_setL{α:Type}(l:List α)(i j:Nat)(v d:α):(l.set i v).getD j d=if i=j/\i < l.length then v else l.getD j d:=by
 simp only [List.getD_eq_getElem?_getD,List.getElem?_set]
 by_cases h:i=j
 ·subst h
  by_cases h2:i < l.length
  ·simp [h2]
  ·simp [h2]
 ·simp [h]
theorem Mid.add{ar:List Nat}{W k:Nat}{D0:DB}{c0:List Nat}{R:PRun}(h:Mid ar W k D0 c0 R)(h3:∀ a∈ar,a<=3){p:Nat}(hp:p < ar.length){row:PRow}(hr:Canon(ar.getD p 0) row)(hs:Small W row){mr:Nat}(hc:R.count<=mr)(hm:mr<=1048576) :
  ∃ R' ok,addR mr R p row=some(R',ok)/\Mid ar W k D0 c0 R'/\R'.moves=R.moves/\(absR ar R' p row).isSome=true/\(∀ q x,x∈R.fresh.getD q []->x∈R'.fresh.getD q [])/\(∀ q x,x∈R'.fresh.getD q []->x∈R.fresh.getD q []∨q=p/\x=row)/\(ok=true->R'.count<=mr)/\(ok=false->R'.count > mr):=by
 have hpr:p < R.rows.length:=by rw [h.inv.len];exact hp
 have hpf:p < R.fresh.length:=by rw [h.flen];exact hp
 obtain⟨t1,t2,t3,t4⟩:=h.inv.tries p hpr
 have ha3:ar.getD p 0<=3:=by rw [getD_lt _ hp];exact h3 _(List.getElem_mem hp)
 have hge:=sum_ge R.rows p hpr
 rw [← h.inv.cnt] at hge
 have hcn:=h.cnts p hpr
 have hfit:=(fits_iff R.rows[p] row).2(by rw [t2];exact hs)
 obtain⟨a1,a2,a3,a4,a5,a6,a7⟩:=t1.add row R.rounds hr.1 hfit
 have hkl:(row.take R.rows[p].depth).length=R.rows[p].depth:=by
  rw [List.length_take,hr.1,t3]
  have:=(depthP_in(ar.getD p 0)).2
  omega
 have hmk:∀ x,Canon(ar.getD p 0) x->markP R.rows[p] x=semT R.rows[p](x.take R.rows[p].depth):=fun x hx=>t1.mark x hx.1
 have hgd:R.rows.getD p PTrie.zero=R.rows[p]:=getD_lt _ hpr
 have habs0:absR ar R p row=semT R.rows[p](row.take R.rows[p].depth):=by
  unfold absR
  rw [if_pos⟨hp,hr⟩,hgd,hmk row hr]
 unfold addR
 rw [if_pos⟨hpr,hpf,by rw [hgd];exact t1.okT(by omega),by omega,by omega⟩,hgd]
 cases hA:addP R.rows[p] row R.rounds with
 |mk T b =>
  rw [hA] at a1 a2 a3 a4 a5 a6 a7
  simp only at a1 a2 a3 a4 a5 a6 a7
  cases b with
  |false =>
   have hT:=a5 rfl
   subst hT
   have hset:R.rows.set p R.rows[p]=R.rows:=List.set_getElem_self hpr
   refine⟨{ R with rows:=R.rows.set p R.rows[p] },true,rfl,?_,rfl,?_,fun q x hx=>hx,fun q x hx=>Or.inl hx,fun _=>hc,fun q=>by cases q⟩
   ·rw [hset];exact h
   ·rw [hset]
    show(absR ar R p row).isSome=true
    rw [habs0]
    rw [← Option.not_isNone,← a4];rfl
  |true =>
   have hnone:semT R.rows[p](row.take R.rows[p].depth)=none:=by
    cases hq:semT R.rows[p](row.take R.rows[p].depth) with
    |none=>rfl
    |some m=>rw [hq] at a4;cases a4
   have hD0:D0 p row=none/\row∉R.fresh.getD p []:=by
    have:=h.abs p row
    rw [habs0,hnone] at this
    cases hq:D0 p row with
    |some m=>rw [hq] at this;cases this
    |none =>
     rw [hq] at this
     refine⟨rfl,fun hm2=>?_⟩
     simp only at this
     rw [if_pos hm2] at this
     cases this
   have hfg:R.fresh.getD p []=R.fresh[p]:=getD_lt _ hpf
   have hsum:=sum_setP R.rows p T hpr
   have hcnt':=a6 rfl
   have hlen':(R.rows.set p T).length=R.rows.length:=by simp
   have hinv:RunInv ar W{ R with rows:=R.rows.set p T,fresh:=R.fresh.set p(R.fresh.getD p []++[row]),count:=R.count+1 }:=by
    refine⟨by simp [h.inv.len],fun q hq=>?_,?_⟩
    ·simp only [List.length_set] at hq
     simp only [List.getElem_set]
     by_cases e:p=q
     ·subst e
      simp only [if_true]
      refine⟨a1,by rw [a2,t2],by rw [a3,t3],fun x hx=>?_⟩
      obtain⟨x1,x2⟩:=(keysT_mem T x).1 hx
      rw [a3] at x1 ⊢
      rw [a7 x x1] at x2
      by_cases ex:x=row.take R.rows[p].depth
      ·rw [ex,t3,pad_canon ha3 hr];exact hr
      ·rw [if_neg ex] at x2
       exact t4 x((keysT_mem R.rows[p] x).2⟨x1,x2⟩)
     ·simp only [e,if_false]
      exact h.inv.tries q hq
    ·show R.count+1=((R.rows.set p T).map(·.count)).sum
     rw [h.inv.cnt];omega
   have hrow':∀ q,(R.rows.set p T).getD q PTrie.zero=if p=q then T else R.rows.getD q PTrie.zero:=fun q=>by
    rw [getD_setL]
    by_cases e:p=q
    ·rw [if_pos⟨e,hpr⟩,if_pos e]
    ·rw [if_neg(fun x=>e x.1),if_neg e]
   have hfresh':∀ q,(R.fresh.set p(R.fresh.getD p []++[row])).getD q []=if p=q then R.fresh.getD p []++[row] else R.fresh.getD q []:=fun q=>by
    rw [getD_setL]
    by_cases e:p=q
    ·rw [if_pos⟨e,hpf⟩,if_pos e]
    ·rw [if_neg(fun x=>e x.1),if_neg e]
   have habs':∀ q x,absR ar{ R with rows:=R.rows.set p T,fresh:=R.fresh.set p(R.fresh.getD p []++[row]),count:=R.count+1 } q x=if q=p/\x=row then some k else absR ar R q x:=by
    intro q x
    unfold absR
    simp only [hrow']
    by_cases e:p=q
    ·subst e
     simp only [if_true,true_and]
     by_cases hcx:p < ar.length/\Canon(ar.getD p 0) x
     ·rw [if_pos hcx,if_pos hcx,hgd,hmk x hcx.2,a1.mark x hcx.2.1,a3,a7 _(by rw [List.length_take,hcx.2.1,t3];have:=(depthP_in(ar.getD p 0)).2;omega)]
      by_cases ex:x=row
      ·subst ex
       rw [if_pos rfl,if_pos rfl,hnone,h.rounds]
       rfl
      ·rw [if_neg ex,if_neg]
       intro e2
       rw [t3] at e2
       exact ex(canon_key ha3 hcx.2 hr e2)
     ·rw [if_neg hcx,if_neg hcx,if_neg]
      rintro rfl
      exact hcx⟨hp,hr⟩
    ·simp only [e,if_false]
     rw [if_neg(fun z:q=p/\x=row=>e z.1.symm)]
   refine⟨{ R with rows:=R.rows.set p T,fresh:=R.fresh.set p(R.fresh.getD p []++[row]),count:=R.count+1 },decide(R.count+1<=mr),rfl,⟨hinv,h.rounds,by simp [h.flen],fun q hq=>?_,fun q x=>?_,fun q hq=>?_⟩,rfl,?_,fun q x hx=>?_,fun q x hx=>?_,fun q=>by simpa using q,fun q=>by simpa using q⟩
   ·have hq':q < R.fresh.length:=by simpa using hq
    have e:(R.fresh.set p(R.fresh.getD p []++[row]))[q]=(R.fresh.set p(R.fresh.getD p []++[row])).getD q []:=(getD_lt _ hq).symm
    show((R.fresh.set p(R.fresh.getD p []++[row]))[q]).Nodup/\_
    rw [e,hfresh' q]
    by_cases e2:p=q
    ·subst e2
     rw [if_pos rfl,hfg]
     obtain⟨n1,n2⟩:=h.fresh p hpf
     rw [hfg] at hD0
     refine⟨?_,fun x hx=>?_⟩
     ·rw [List.nodup_append]
      exact⟨n1,by simp,fun x hx y hy=>by simp at hy;subst hy;rintro rfl;exact hD0.2 hx⟩
     ·rcases List.mem_append.1 hx with q|q
      ·exact n2 x q
      ·simp at q;subst q;exact⟨hr,hs,hD0.1⟩
    ·rw [if_neg e2,getD_lt _ hq']
     exact h.fresh q hq'
   ·rw [habs']
    show _=match D0 q x with|some m=>some m|none=>if x∈(R.fresh.set p(R.fresh.getD p []++[row])).getD q [] then some k else none
    rw [hfresh' q,h.abs q x]
    by_cases e:q=p/\x=row
    ·obtain⟨rfl,rfl⟩:=e
     rw [if_pos⟨rfl,rfl⟩,hD0.1]
     simp
    ·rw [if_neg e]
     cases D0 q x with
     |some m=>rfl
     |none =>
      simp only
      by_cases e2:p=q
      ·subst e2
       rw [if_pos rfl]
       have:x≠row:=fun e3=>e⟨rfl,e3⟩
       simp [this]
      ·rw [if_neg e2]
   ·have hq':q < R.rows.length:=by simpa using hq
    show(R.rows.set p T)[q].count=c0.getD q 0+((R.fresh.set p(R.fresh.getD p []++[row])).getD q []).length
    rw [hfresh' q,← getD_lt PTrie.zero hq,hrow' q]
    by_cases e:p=q
    ·subst e
     rw [if_pos rfl,if_pos rfl,hcnt',hcn]
     simp;omega
    ·rw [if_neg e,if_neg e,getD_lt _ hq']
     exact h.cnts q hq'
   ·rw [habs',if_pos⟨rfl,rfl⟩];rfl
   ·show x∈(R.fresh.set p(R.fresh.getD p []++[row])).getD q []
    rw [hfresh' q]
    by_cases e:p=q
    ·subst e;rw [if_pos rfl];exact List.mem_append_left _ hx
    ·rw [if_neg e];exact hx
   ·have hx':x∈(R.fresh.set p(R.fresh.getD p []++[row])).getD q []:=hx
    rw [hfresh' q] at hx'
    by_cases e:p=q
    ·subst e
     rw [if_pos rfl] at hx'
     rcases List.mem_append.1 hx' with q|q
     ·exact Or.inl q
     ·simp at q;exact Or.inr⟨rfl,q⟩
    ·rw [if_neg e] at hx';exact Or.inl hx'
end Go.Proofs.YteampbddflhngabGreat

namespace Go.Proofs.YteampbddflhngabGreat
open Classical
theorem sol_small{r:PRule}{Ts Ns:List PTrie}{W:Nat}(hr:RuleFine r)(hf:SidesFine r Ts W){y:List Nat}(hy:SolJ r Ts Ns y){p:Nat}(hp:p < r.vars):y.getD p 0 < W:=by
 obtain⟨l,hl,hh⟩:=hr.safe p hp
 obtain⟨i,hi,rfl⟩:=List.getElem_of_mem hl
 have hiT:i < Ts.length:=by rw [hf.len];exact hi
 obtain⟨_,_,q3⟩:=hf.ok i _ _(List.getElem?_eq_getElem hi)(List.getElem?_eq_getElem hiT)
 have hv5:=hr.vars
 have hmem:p∈varsL r.plain[i] 5:=(varsL_mem _ 5 p).2⟨by omega,hh⟩
 have h0:depthL r.plain[i]≠0:=by
  rw [depthL_eq]
  intro q
  rw [List.length_eq_zero_iff.1 q] at hmem
  cases hmem
 have hs:=(hy.1 i _ _(List.getElem?_eq_getElem hi)(List.getElem?_eq_getElem hiT)).2 h0
 have:=semT_wide _ 0 hs(y.getD p 0)(List.mem_map.2⟨p,hmem,rfl⟩)
 omega
theorem rowL_small{l:PRLit}{a W:Nat}(h:LitWF l a W)(hW:0 < W){y:List Nat}(hy:∀ p,hasL l p=true->y.getD p 0 < W):Small W(rowL l y):=by
 have hc:∀ i,rowCell l y i < W:=by
  intro i
  unfold rowCell
  split
  ·rename_i hi
   rw [show l.terms.getD i⟨false,0,0⟩=l.terms[i] by simp [List.getD,hi]]
   have hm:=List.getElem_mem hi
   unfold atT
   split
   ·rename_i hv
    simp only [Bool.and_eq_true,decide_eq_true_eq] at hv
    exact hy _((hasL_iff l _).2⟨_,hm,hv.1,rfl⟩)
   ·rename_i hv
    cases hq:l.terms[i].var with
    |true =>
     have:=(h.lev _ hm hq).1
     simp [hq,this] at hv
    |false=>exact h.con _ hm hq
  ·exact hW
 intro v hv
 simp only [rowL,List.mem_cons,List.not_mem_nil,or_false] at hv
 rcases hv with rfl|rfl|rfl <;> exact hc _
theorem JNext.mono{r:PRule}{Ts Ns:List PTrie}{W:Nat}{E E':PRow->Prop}{J:PJoin}{M:Nat}(h:JNext r Ts Ns W E J M)(he:∀ x,E x->E' x):JNext r Ts Ns W E' J M:=by
 rcases h with⟨h1,h2,h3⟩|⟨h0,d,f,h1,h2,h3,h4,h5,h6⟩
 ·exact Or.inl⟨h1,h2,fun y hy=>he _(h3 y hy)⟩
 ·exact Or.inr⟨h0,d,f,h1,h2,h3,h4,fun y hy=>(h5 y hy).imp(he _) id,h6⟩
theorem Mid.moves{ar:List Nat}{W k:Nat}{D0:DB}{c0:List Nat}{R:PRun}(h:Mid ar W k D0 c0 R)(m:Int):Mid ar W k D0 c0{ R with moves:=m } :=
 ⟨⟨h.inv.len,h.inv.tries,h.inv.cnt⟩,h.rounds,h.flen,h.fresh,h.abs,h.cnts⟩
theorem Mid.grow{ar:List Nat}{W k:Nat}{D0:DB}{c0:List Nat}{R R':PRun}(h:Mid ar W k D0 c0 R)(h':Mid ar W k D0 c0 R')(hm:∀ q x,x∈R.fresh.getD q []->x∈R'.fresh.getD q []){p:Nat}{x:PRow}(hx:(absR ar R p x).isSome=true):(absR ar R' p x).isSome=true:=by
 rw [h.abs] at hx
 rw [h'.abs]
 cases hq:D0 p x with
 |some m=>rfl
 |none =>
  rw [hq] at hx
  simp only at hx ⊢
  by_cases hf:x∈R.fresh.getD p []
  ·rw [if_pos(hm p x hf)];rfl
  ·rw [if_neg hf] at hx;cases hx
structure AddedAll(ar:List Nat)(W k:Nat)(D0:DB)(c0:List Nat)(p mr:Nat)(sol:PRow->Prop)(R R':PRun)(ok:Bool):Prop where
 mid:Mid ar W k D0 c0 R'
 mono:∀ q x,x∈R.fresh.getD q []->x∈R'.fresh.getD q []
 sound:∀ q x,x∈R'.fresh.getD q []->x∈R.fresh.getD q []∨q=p/\sol x
 yes:ok=true->R'.count<=mr/\∀ x,sol x->(absR ar R' p x).isSome=true
 no:ok=false->R'.count > mr
theorem addAll_spec{ar:List Nat}{W k:Nat}{D0:DB}{c0:List Nat}{r:PRule}{Ts Ns:List PTrie}(hr:RuleFine r)(hf:SidesFine r Ts W)(h3:∀ a∈ar,a<=3)(hW:0 < W)(hp:r.head.pred < ar.length)(hh:LitWF r.head(ar.getD r.head.pred 0) W)(A:Nat)(hA:W * (r.plain.length+1)+r.plain.length<=A){mr:Nat}(hmr:mr<=1048576) :
  ∀ (n:Nat)(R:PRun)(J:PJoin)(M:Nat),Mid ar W k D0 c0 R->R.count<=mr->JNext r Ts Ns W(fun x=>(absR ar R r.head.pred x).isSome=true) J M->M+A+2 < n->∃ R' ok,addAllN mr r.head.pred n R J=some(R',ok)/\AddedAll ar W k D0 c0 r.head.pred mr(fun x=>∃ y,SolJ r Ts Ns y/\x=rowL r.head y) R R' ok:=by
 intro n
 induction n with
 |zero=>intro R J M _ _ _ h;omega
 |succ n ih =>
  intro R J M h hc hJ hn
  obtain⟨J',b,n1,n2,n3⟩:=next_spec hr hf _ A hA n J M hJ(by omega)
  unfold addAllN
  rw [n1]
  cases b with
  |false =>
   refine⟨_,true,rfl,h.moves _,fun q x hx=>hx,fun q x hx=>Or.inl hx,fun _=>⟨hc,?_⟩,fun q=>by cases q⟩
   rintro x⟨y,hy,rfl⟩
   exact n2 rfl y hy
  |true =>
   obtain⟨m1,m2,M',m3,m4⟩:=n3 rfl
   simp only
   rw [m2]
   have hsm:Small W(rowL r.head J'.values):=rowL_small hh hW fun p hpp=>sol_small hr hf m1(hr.head p hpp)
   obtain⟨R1,ok,a1,a2,_,a4,a5,a6,a7,a8⟩:=h.add h3 hp(rowL_canon hh J'.values) hsm hc hmr
   rw [a1]
   cases ok with
   |false =>
    refine⟨R1,false,rfl,a2,a5,fun q x hx=>?_,(fun q=>by cases q),a8⟩
    rcases a6 q x hx with z|⟨z1,z2⟩
    ·exact Or.inl z
    ·exact Or.inr⟨z1,J'.values,m1,z2⟩
   |true =>
    simp only
    obtain⟨R2,ok2,b1,b2⟩:=ih R1 J' M' a2(a7 rfl)(m4.mono fun x hx=>by
     rcases hx with q|q
     ·exact h.grow a2 a5 q
     ·rw [q];exact a4)(by omega)
    refine⟨R2,ok2,b1,b2.mid,fun q x hx=>b2.mono q x(a5 q x hx),fun q x hx=>?_,b2.yes,b2.no⟩
    rcases b2.sound q x hx with z|z
    ·rcases a6 q x z with z|⟨z1,z2⟩
     ·exact Or.inl z
     ·exact Or.inr⟨z1,J'.values,m1,z2⟩
    ·exact Or.inr z
end Go.Proofs.YteampbddflhngabGreat
