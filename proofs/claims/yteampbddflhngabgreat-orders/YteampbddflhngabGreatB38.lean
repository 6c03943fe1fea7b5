import Derived.Test.YteampbddflhngabGreatB18

namespace Go.Proofs.YteampbddflhngabGreat
structure NodeOK(w:Nat)(n:PNode):Prop where
 len:n.leap.length=w
 dlen:n.down.length=w
 ge:∀ i,i < w->i<=n.leap.getD i 0
 le:∀ i,i < w->n.leap.getD i 0<=w
 fix:∀ i,i < w->n.leap.getD i 0 < w->n.leap.getD(n.leap.getD i 0) 0=n.leap.getD i 0
 seg:∀ i j,i < w->i<=j->j < n.leap.getD i 0->n.leap.getD j 0=n.leap.getD i 0
theorem getD_set_nat(l:List Nat)(i j v d:Nat):(l.set i v).getD j d=if i=j/\i < l.length then v else l.getD j d:=by
 simp only [List.getD_eq_getElem?_getD,List.getElem?_set]
 by_cases h:i=j
 ·subst h
  by_cases h2:i < l.length
  ·simp [h2]
  ·simp [h2]
 ·simp [h]
theorem lowerP_lenP(v:Nat):∀ (n:Nat)(l:List Nat),(lowerP v n l).length=l.length
 |0,l=>rfl
 |n+1,l=>by
  unfold lowerP
  split
  ·rw [lowerP_lenP];simp
  ·rfl
open Classical in
theorem lowerP_at(v:Nat):∀ (n:Nat)(l:List Nat)(u:Nat),n<=l.length->(lowerP v n l).getD u 0=if u < n/\∀ j,u<=j->j < n->l.getD j 0 > v then v else l.getD u 0
 |0,l,u,_=>by simp [lowerP]
 |n+1,l,u,h=>by
  unfold lowerP
  by_cases hg:l.getD n 0 > v
  ·rw [if_pos hg,lowerP_at v n(l.set n v) u(by simp;omega)]
   by_cases hu:u < n
   ·by_cases ha:∀ j,u<=j->j < n->l.getD j 0 > v
    ·rw [if_pos⟨hu,fun j h1 h2=>by rw [getD_set_nat,if_neg(by omega)];exact ha j h1 h2⟩,if_pos⟨by omega,fun j h1 h2=>by
      by_cases hj:j=n
      ·subst hj;exact hg
      ·exact ha j h1(by omega)⟩]
    ·rw [if_neg(fun q=>ha fun j h1 h2=>by have:=q.2 j h1 h2;rwa [getD_set_nat,if_neg(by omega)] at this),if_neg(fun q=>ha fun j h1 h2=>q.2 j h1(by omega)),getD_set_nat,if_neg(by omega)]
   ·rw [if_neg(fun q=>hu q.1),getD_set_nat]
    by_cases hn:n=u
    ·subst hn
     rw [if_pos⟨rfl,by omega⟩,if_pos⟨by omega,fun j h1 h2=>by
      have:j=n:=by omega
      subst this;exact hg⟩]
    ·rw [if_neg(by omega),if_neg(by omega)]
  ·rw [if_neg hg]
   by_cases hu:u < n+1
   ·rw [if_neg(fun q=>hg(q.2 n(by omega)(by omega)))]
   ·rw [if_neg(fun q=>hu q.1)]
def hasN(w:Nat)(n:PNode)(v:Nat):Prop:=v < w/\n.leap.getD v 0=v
theorem NodeOK.none{w:Nat}{n:PNode}(h:NodeOK w n){i:Nat}(hi:i < w)(hw:¬ n.leap.getD i 0 < w):∀ u,i<=u->¬ hasN w n u:=by
 intro u hu⟨h1,h2⟩
 have:=h.seg i u hi hu(by omega)
 omega
theorem NodeOK.some{w:Nat}{n:PNode}(h:NodeOK w n){i:Nat}(hi:i < w)(hw:n.leap.getD i 0 < w):i<=n.leap.getD i 0/\hasN w n(n.leap.getD i 0)/\∀ u,i<=u->u < n.leap.getD i 0->¬ hasN w n u:=by
 refine⟨h.ge i hi,⟨hw,h.fix i hi hw⟩,fun u h1 h2⟨h3,h4⟩=>?_⟩
 have:=h.seg i u hi h1 h2
 omega
theorem NodeOK.put{w:Nat}{n:PNode}(h:NodeOK w n){v d:Nat}(hv:v < w)(hn:¬ hasN w n v):NodeOK w(putN n v d)/\(∀ u,hasN w(putN n v d) u↔u=v∨hasN w n u)/\∀ u,(putN n v d).down.getD u 0=if u=v then d else n.down.getD u 0:=by
 have hl:=h.len
 have hgt:n.leap.getD v 0 > v:=by
  have h1:=h.ge v hv
  rcases Nat.lt_or_eq_of_le h1 with q|q
  ·exact q
  ·exact absurd⟨hv,q.symm⟩ hn
 have hat:∀ u,(lowerP v(v+1) n.leap).getD u 0=if u<=v/\n.leap.getD u 0 > v then v else n.leap.getD u 0:=by
  intro u
  rw [lowerP_at v(v+1) n.leap u(by omega)]
  by_cases hu:u<=v
  ·by_cases hq:n.leap.getD u 0 > v
   ·have key:∀ j,u<=j->j < v+1->n.leap.getD j 0 > v:=fun j h1 h2=>by
     have:=h.seg u j(by omega) h1(by omega)
     omega
    rw [if_pos⟨by omega,key⟩,if_pos⟨hu,hq⟩]
   ·rw [if_neg(fun q=>hq(q.2 u(Nat.le_refl _)(by omega))),if_neg(fun q=>hq q.2)]
  ·rw [if_neg(fun q=>by omega),if_neg(fun q=>by omega)]
 have hp:∀ u,(putN n v d).leap.getD u 0=if u<=v/\n.leap.getD u 0 > v then v else n.leap.getD u 0:=hat
 have hself:(putN n v d).leap.getD v 0=v:=by rw [hp,if_pos⟨Nat.le_refl _,hgt⟩]
 refine⟨⟨by simp [putN,lowerP_lenP,hl],by simp [putN,h.dlen],fun i hi=>?_,fun i hi=>?_,fun i hi hq=>?_,fun i j hi hij hj=>?_⟩,fun u=>?_,fun u=>?_⟩
 ·rw [hp];split
  ·omega
  ·exact h.ge i hi
 ·rw [hp];split
  ·omega
  ·exact h.le i hi
 ·by_cases hc:i<=v/\n.leap.getD i 0 > v
  ·rw [hp i,if_pos hc];exact hself
  ·rw [hp i,if_neg hc] at hq ⊢
   have h2:=h.fix i hi hq
   rw [hp]
   by_cases hc2:n.leap.getD i 0<=v/\n.leap.getD(n.leap.getD i 0) 0 > v
   ·omega
   ·rw [if_neg hc2];exact h2
 ·by_cases hc:i<=v/\n.leap.getD i 0 > v
  ·rw [hp i,if_pos hc] at hj ⊢
   have:=h.seg i j hi hij(by omega)
   rw [hp,if_pos⟨by omega,by omega⟩]
  ·rw [hp i,if_neg hc] at hj ⊢
   have:=h.seg i j hi hij hj
   rw [hp,this]
   have:=h.ge i hi
   rw [if_neg(by omega)]
 ·unfold hasN
  rw [hp]
  by_cases hc:u<=v/\n.leap.getD u 0 > v
  ·rw [if_pos hc]
   constructor
   ·rintro⟨_,q⟩;exact Or.inl q.symm
   ·rintro(q|q)
    ·subst q;exact⟨hv,rfl⟩
    ·omega
  ·rw [if_neg hc]
   constructor
   ·intro q;exact Or.inr q
   ·rintro(q|q)
    ·subst q;exact absurd⟨Nat.le_refl _,hgt⟩ hc
    ·exact q
 ·show(n.down.set v d).getD u 0=_
  rw [getD_set_nat]
  by_cases hu:u=v
  ·subst hu;rw [if_pos⟨rfl,by rw [h.dlen];exact hv⟩,if_pos rfl]
  ·rw [if_neg(by omega),if_neg hu]
theorem getD_rep(k d i:Nat)(hi:i < k)(x:Nat):(List.replicate k x).getD i d=x:=by simp [List.getD_eq_getElem?_getD,hi]
theorem NodeOK.new(w:Nat):NodeOK w⟨List.replicate w w,List.replicate w 0⟩/\∀ v,¬ hasN w⟨List.replicate w w,List.replicate w 0⟩ v:=by
 refine⟨⟨by simp,by simp,fun i hi=>?_,fun i hi=>?_,fun i hi hq=>?_,fun i j hi hij hj=>?_⟩,fun v⟨h1,h2⟩=>?_⟩ <;> simp only at *
 ·rw [getD_rep _ _ _ hi];omega
 ·rw [getD_rep _ _ _ hi];exact Nat.le_refl _
 ·rw [getD_rep _ _ _ hi] at hq;omega
 ·rw [getD_rep _ _ _ hi] at hj ⊢;rw [getD_rep _ _ _ hj]
 ·rw [getD_rep _ _ _ h1] at h2;omega
end Go.Proofs.YteampbddflhngabGreat

namespace Go.Proofs.YteampbddflhngabGreat
def nodeT(T:PTrie)(a:Nat):PNode:=T.nodes.getD a PNode.zero
def NodesOK(T:PTrie):Prop:=∀ a,a < T.nodes.length->NodeOK T.width(nodeT T a)
theorem downP_eq(T:PTrie)(a v:Nat):downP T a v=if a < T.nodes.length/\v < T.width/\(nodeT T a).leap.getD v 0=v then some((nodeT T a).down.getD v 0) else none:=by
 unfold downP leapP nodeT
 by_cases h1:a < T.nodes.length/\v < T.width
 ·rw [if_pos h1]
  dsimp only
  generalize(T.nodes.getD a PNode.zero).leap.getD v 0=x
  by_cases h2:x=v
  ·subst h2
   rw [if_neg(by omega:¬ x ≥ T.width)]
   simp [h1]
  ·by_cases h3:x ≥ T.width
   ·simp [h3,h2]
   ·simp [h3,h2]
 ·rw [if_neg h1,if_neg(fun q=>h1⟨q.1,q.2.1⟩)]
theorem down_lt{T:PTrie}{a v b:Nat}(h:downP T a v=some b):a < T.nodes.length/\v < T.width:=by
 unfold downP leapP at h
 by_cases h1:a < T.nodes.length/\v < T.width
 ·exact h1
 ·rw [if_neg h1] at h;cases h
theorem leap_some{T:PTrie}(h:NodesOK T){a f v:Nat}(hl:leapP T a f=some v):f<=v/\v < T.width/\(downP T a v).isSome=true/\∀ u,f<=u->u < v->downP T a u=none:=by
 unfold leapP at hl
 split at hl
 ·rename_i h1
  simp only at hl
  split at hl
  ·cases hl
  ·rename_i h2
   simp only [Option.some.injEq] at hl
   have hn:=(h a h1.1).some h1.2(by unfold nodeT;omega)
   unfold nodeT at hn
   rw [hl] at hn h2
   refine⟨hn.1,by omega,?_,fun u h3 h4=>?_⟩
   ·rw [downP_eq,if_pos⟨h1.1,by omega,hn.2.1.2⟩];rfl
   ·rw [downP_eq,if_neg(fun q=>hn.2.2 u h3 h4⟨q.2.1,q.2.2⟩)]
 ·cases hl
theorem leap_none{T:PTrie}(h:NodesOK T){a f:Nat}(hl:leapP T a f=none):∀ u,f<=u->downP T a u=none:=by
 intro u hu
 rw [downP_eq]
 refine if_neg fun q=>?_
 unfold leapP at hl
 rw [if_pos⟨q.1,by omega⟩] at hl
 simp only at hl
 split at hl
 ·rename_i h2
  exact(h a q.1).none(show f < T.width by omega)(by unfold nodeT;omega) u hu⟨q.2.1,q.2.2⟩
 ·cases hl
def goT(T:PTrie):Nat->PRow->Option Nat
 |a,[]=>some a
 |a,v::r=>match downP T a v with
  |none=>none
  |some b=>goT T b r
theorem goT_append(T:PTrie):∀ (p q:PRow)(a:Nat),goT T a(p++q)=(goT T a p).bind fun b=>goT T b q
 |[],q,a=>rfl
 |v::p,q,a=>by
  simp only [List.cons_append,goT]
  cases downP T a v with
  |none=>rfl
  |some b=>exact goT_append T p q b
structure TrieInv(T:PTrie)(pth:Nat->PRow):Prop where
 dep:1<=T.depth/\T.depth<=3
 wid:1<=T.width
 pos:0 < T.nodes.length
 node:NodesOK T
 root:pth 0=[]
 lev:∀ a,a < T.nodes.length->(pth a).length < T.depth
 inj:∀ a b,a < T.nodes.length->b < T.nodes.length->pth a=pth b->a=b
 kid:∀ a v b,downP T a v=some b->(pth a).length+1 < T.depth->b < T.nodes.length/\pth b=pth a++[v]
 par:∀ b,b < T.nodes.length->b≠0->∃ a v,downP T a v=some b/\(pth a).length+1 < T.depth/\pth b=pth a++[v]
theorem getD_setN(l:List PNode)(i j:Nat)(v d:PNode):(l.set i v).getD j d=if i=j/\i < l.length then v else l.getD j d:=by
 simp only [List.getD_eq_getElem?_getD,List.getElem?_set]
 by_cases h:i=j
 ·subst h
  by_cases h2:i < l.length
  ·simp [h2]
  ·simp [h2]
 ·simp [h]
theorem node_put(T:PTrie)(a v d b:Nat)(ha:a < T.nodes.length)(hv:v < T.width):nodeT(putP T a v d) b=if b=a then putN(nodeT T a) v d else nodeT T b:=by
 unfold putP nodeT
 rw [if_pos⟨ha,hv⟩]
 simp only
 rw [getD_setN]
 by_cases h:b=a
 ·subst h;rw [if_pos⟨rfl,ha⟩,if_pos rfl]
 ·rw [if_neg(fun q=>h q.1.symm),if_neg h]
theorem put_len(T:PTrie)(a v d:Nat):(putP T a v d).nodes.length=T.nodes.length:=by unfold putP;split <;> simp
theorem put_width(T:PTrie)(a v d:Nat):(putP T a v d).width=T.width:=by unfold putP;split <;> rfl
theorem put_depth(T:PTrie)(a v d:Nat):(putP T a v d).depth=T.depth:=by unfold putP;split <;> rfl
theorem put_count(T:PTrie)(a v d:Nat):(putP T a v d).count=T.count:=by unfold putP;split <;> rfl
theorem put_spec{T:PTrie}(h:NodesOK T){a v d:Nat}(ha:a < T.nodes.length)(hv:v < T.width)(hn:downP T a v=none):NodesOK(putP T a v d)/\∀ b u,downP(putP T a v d) b u=if b=a/\u=v then some d else downP T b u:=by
 have hnh:¬ hasN T.width(nodeT T a) v:=fun q=>by rw [downP_eq,if_pos⟨ha,hv,q.2⟩] at hn;cases hn
 obtain⟨p1,p2,p3⟩:=(h a ha).put(d:=d) hv hnh
 have hok:NodesOK(putP T a v d):=by
  intro b hb
  rw [put_len] at hb
  rw [put_width,node_put T a v d b ha hv]
  split
  ·exact p1
  ·exact h b hb
 refine⟨hok,fun b u=>?_⟩
 rw [downP_eq,put_len,put_width,node_put T a v d b ha hv,downP_eq]
 by_cases hb:b=a
 ·subst hb
  rw [if_pos rfl,p3]
  by_cases hu:u=v
  ·subst hu
   rw [if_pos rfl,if_pos⟨ha,hv,((p2 u).2(Or.inl rfl)).2⟩,if_pos⟨rfl,rfl⟩]
  ·rw [if_neg hu,if_neg(fun q:b=b/\u=v=>hu q.2)]
   by_cases hq:b < T.nodes.length/\u < T.width/\(nodeT T b).leap.getD u 0=u
   ·rw [if_pos hq,if_pos⟨hq.1,hq.2.1,((p2 u).2(Or.inr hq.2)).2⟩]
   ·rw [if_neg hq]
    refine if_neg fun q=>hq⟨q.1,?_⟩
    rcases(p2 u).1 q.2 with r|r
    ·exact absurd r hu
    ·exact r
 ·rw [if_neg hb,if_neg(fun q:b=a/\u=v=>hb q.1)]
theorem grow_spec{T:PTrie}(h:NodesOK T):NodesOK(growP T)/\∀ b u,downP(growP T) b u=downP T b u:=by
 have hnd:∀ b,nodeT(growP T) b=if b < T.nodes.length then nodeT T b else if b=T.nodes.length then⟨List.replicate T.width T.width,List.replicate T.width 0⟩ else PNode.zero:=by
  intro b
  unfold nodeT growP
  simp only [List.getD_eq_getElem?_getD,List.getElem?_append]
  by_cases h1:b < T.nodes.length
  ·simp [h1]
  ·rw [if_neg h1,if_neg h1]
   by_cases h2:b=T.nodes.length
   ·subst h2;simp
   ·rw [if_neg h2]
    rw [List.getElem?_eq_none(by simp;omega)];rfl
 have hln:(growP T).nodes.length=T.nodes.length+1:=by simp [growP]
 have hok:NodesOK(growP T):=by
  intro b hb
  rw [hln] at hb
  rw [hnd]
  by_cases h1:b < T.nodes.length
  ·rw [if_pos h1];exact h b h1
  ·rw [if_neg h1,if_pos(by omega)];exact(NodeOK.new T.width).1
 refine⟨hok,fun b u=>?_⟩
 rw [downP_eq,downP_eq,hnd,hln,show(growP T).width=T.width from rfl]
 by_cases h1:b < T.nodes.length
 ·rw [if_pos h1]
  by_cases hq:u < T.width/\(nodeT T b).leap.getD u 0=u
  ·rw [if_pos⟨by omega,hq⟩,if_pos⟨h1,hq⟩]
  ·rw [if_neg(fun q=>hq q.2),if_neg(fun q=>hq q.2)]
 ·rw [if_neg h1,if_neg(fun q:b < T.nodes.length/\_=>h1 q.1)]
  by_cases h2:b=T.nodes.length
  ·rw [if_pos h2]
   exact if_neg fun q=>(NodeOK.new T.width).2 u q.2
  ·exact if_neg fun q=>by omega
end Go.Proofs.YteampbddflhngabGreat

namespace Go.Proofs.YteampbddflhngabGreat
def semT(T:PTrie)(q:PRow):Option Nat:=goT T 0 q
structure Added(T T':PTrie)(key:PRow)(m:Nat)(new:Bool)(room:Nat):Prop where
 inv:∃ pth',TrieInv T' pth'
 width:T'.width=T.width
 depth:T'.depth=T.depth
 is:new=(semT T key).isNone
 same:new=false->T'=T
 more:new=true->T'.count=T.count+1/\T'.nodes.length<=T.nodes.length+room
 sem:∀ q,q.length=T.depth->semT T' q=if q=key then some((semT T q).getD m) else semT T q
theorem TrieInv.grow{T:PTrie}{pth:Nat->PRow}(h:TrieInv T pth){a v:Nat}(ha:a < T.nodes.length)(hv:v < T.width)(hl:(pth a).length+1 < T.depth)(hn:downP T a v=none) :
  TrieInv(putP(growP T) a v T.nodes.length)(fun c=>if c=T.nodes.length then pth a++[v] else pth c)/\(∀ b u,downP(putP(growP T) a v T.nodes.length) b u=if b=a/\u=v then some T.nodes.length else downP T b u)/\(putP(growP T) a v T.nodes.length).nodes.length=T.nodes.length+1/\(putP(growP T) a v T.nodes.length).width=T.width/\(putP(growP T) a v T.nodes.length).depth=T.depth/\(putP(growP T) a v T.nodes.length).count=T.count:=by
 have hg:=grow_spec h.node
 have hln:(growP T).nodes.length=T.nodes.length+1:=by simp [growP]
 obtain⟨s1,s2⟩:=put_spec hg.1(a:=a)(v:=v)(d:=T.nodes.length)(by rw [hln];omega)(show v < (growP T).width from hv)(by rw [hg.2];exact hn)
 have hd:∀ b u,downP(putP(growP T) a v T.nodes.length) b u=if b=a/\u=v then some T.nodes.length else downP T b u:=fun b u=>by rw [s2,hg.2]
 have hl1:(putP(growP T) a v T.nodes.length).nodes.length=T.nodes.length+1:=by rw [put_len,hln]
 have hw1:(putP(growP T) a v T.nodes.length).width=T.width:=by rw [put_width];rfl
 have hd1:(putP(growP T) a v T.nodes.length).depth=T.depth:=by rw [put_depth];rfl
 have hc1:(putP(growP T) a v T.nodes.length).count=T.count:=by rw [put_count];rfl
 have hp:=h.pos
 have hfresh:∀ c,c < T.nodes.length->pth c≠pth a++[v]:=by
  intro c hc e
  have hc0:c≠0:=by rintro rfl;rw [h.root] at e;exact absurd e.symm(by simp)
  obtain⟨a',v',q1,q2,q3⟩:=h.par c hc hc0
  rw [e] at q3
  have e1:=List.append_inj' q3 rfl
  have e2:=h.inj a a' ha(down_lt q1).1 e1.1
  subst e2
  simp only [List.cons.injEq,and_true] at e1
  rw [← e1.2] at q1
  rw [q1] at hn;cases hn
 refine⟨⟨by rw [hd1];exact h.dep,by rw [hw1];exact h.wid,by rw [hl1];omega,s1,?_,fun c hc=>?_,fun c d hc hdd e=>?_,fun c u b hcb hlc=>?_,fun b hb hb0=>?_⟩,hd,hl1,hw1,hd1,hc1⟩
 ·rw [if_neg(by omega)];exact h.root
 ·rw [hl1] at hc
  rw [hd1]
  by_cases e:c=T.nodes.length
  ·rw [if_pos e];simp;omega
  ·rw [if_neg e];exact h.lev c(by omega)
 ·rw [hl1] at hc hdd
  by_cases e1:c=T.nodes.length
  ·by_cases e2:d=T.nodes.length
   ·rw [e1,e2]
   ·rw [if_pos e1,if_neg e2] at e
    exact absurd e.symm(hfresh d(by omega))
  ·by_cases e2:d=T.nodes.length
   ·rw [if_neg e1,if_pos e2] at e
    exact absurd e(hfresh c(by omega))
   ·rw [if_neg e1,if_neg e2] at e
    exact h.inj c d(by omega)(by omega) e
 ·rw [hd] at hcb
  rw [hd1] at hlc
  rw [hl1]
  by_cases e:c=a/\u=v
  ·rw [if_pos e] at hcb
   simp only [Option.some.injEq] at hcb
   obtain⟨rfl,rfl⟩:=e
   subst hcb
   rw [if_pos rfl,if_neg(by omega)]
   exact⟨by omega,rfl⟩
  ·rw [if_neg e] at hcb
   have hcl:=(down_lt hcb).1
   rw [if_neg(by omega)] at hlc
   obtain⟨k1,k2⟩:=h.kid c u b hcb hlc
   rw [if_neg(by omega),if_neg(by omega)]
   exact⟨by omega,k2⟩
 ·rw [hl1] at hb
  by_cases e:b=T.nodes.length
  ·refine⟨a,v,by rw [hd,if_pos⟨rfl,rfl⟩,e],by rw [if_neg(by omega),hd1];exact hl,by rw [if_pos e,if_neg(by omega)]⟩
  ·obtain⟨c,u,q1,q2,q3⟩:=h.par b(by omega) hb0
   have hcl:=(down_lt q1).1
   refine⟨c,u,?_,by rw [if_neg(by omega),hd1];exact q2,by rw [if_neg e,if_neg(by omega)];exact q3⟩
   rw [hd,if_neg]
   ·exact q1
   ·rintro⟨rfl,rfl⟩;rw [hn] at q1;cases q1
theorem TrieInv.grow_sem{T T1:PTrie}{pth:Nat->PRow}(h:TrieInv T pth){a v:Nat}(hl:(pth a).length+1 < T.depth)(hn:downP T a v=none)(hd:∀ b u,downP T1 b u=if b=a/\u=v then some T.nodes.length else downP T b u):∀ (q:PRow)(c:Nat),c < T.nodes.length->(pth c).length+q.length=T.depth->goT T1 c q=goT T c q
 |[],c,_,_=>rfl
 |u::q,c,hc,he=>by
  simp only [goT,hd]
  simp only [List.length_cons] at he
  by_cases e:c=a/\u=v
  ·obtain⟨rfl,rfl⟩:=e
   rw [if_pos⟨rfl,rfl⟩,hn]
   simp only
   cases q with
   |nil=>simp at he;omega
   |cons x q =>
    simp only [goT,hd]
    by_cases hca:c=T.nodes.length
    ·omega
    ·rw [if_neg(fun q=>hca q.1.symm)]
     cases hx:downP T T.nodes.length x with
     |none=>rfl
     |some y=>have:=(down_lt hx).1;omega
  ·rw [if_neg e]
   cases hx:downP T c u with
   |none=>rfl
   |some b =>
    simp only
    by_cases hq:(pth c).length+1 < T.depth
    ·obtain⟨k1,k2⟩:=h.kid c u b hx hq
     exact h.grow_sem hl hn hd q b k1(by rw [k2];simp;omega)
    ·cases q with
     |nil=>rfl
     |cons x q=>simp at he;omega
theorem TrieInv.put_sem{T T1:PTrie}{pth:Nat->PRow}(h:TrieInv T pth){a v m:Nat}(hl:(pth a).length+1=T.depth)(ha:a < T.nodes.length)(hn:downP T a v=none)(hd:∀ b u,downP T1 b u=if b=a/\u=v then some m else downP T b u):∀ (q:PRow)(c:Nat),c < T.nodes.length->(pth c).length+q.length=T.depth->goT T1 c q=if pth c++q=pth a++[v] then some m else goT T c q
 |[],c,hc,he=>by have:=h.lev c hc;simp at he;omega
 |u::q,c,hc,he=>by
  simp only [goT,hd]
  simp only [List.length_cons] at he
  by_cases hq:(pth c).length+1 < T.depth
  ·have hca:c≠a:=by rintro rfl;omega
   rw [if_neg(fun q=>hca q.1)]
   cases hx:downP T c u with
   |none =>
    simp only
    rw [if_neg]
    intro e
    have key:∀ (k:Nat)(q:PRow)(b:Nat),q.length=k->b < T.nodes.length->pth c++u::q=pth b->False:=by
     intro k
     induction k with
     |zero =>
      intro q b hk hb e
      have:q=[]:=List.length_eq_zero_iff.1 hk
      subst this
      have hb0:b≠0:=by rintro rfl;rw [h.root] at e;simp at e
      obtain⟨x,y,q1,q2,q3⟩:=h.par b hb hb0
      rw [← e] at q3
      have e1:=List.append_inj' q3 rfl
      have:=h.inj c x hc(down_lt q1).1 e1.1
      subst this
      simp only [List.cons.injEq,and_true] at e1
      rw [← e1.2,hx] at q1
      cases q1
     |succ k ih =>
      intro q b hk hb e
      have hb0:b≠0:=by rintro rfl;rw [h.root] at e;simp at e
      obtain⟨x,y,q1,q2,q3⟩:=h.par b hb hb0
      have hqn:q≠[]:=by rintro rfl;simp at hk
      have hsp:q=q.dropLast++[q.getLast hqn]:=(List.dropLast_concat_getLast hqn).symm
      rw [← e,hsp] at q3
      have e3:(pth c++u::q.dropLast)++[q.getLast hqn]=pth x++[y]:=by rw [← q3];simp
      have e1:=List.append_inj' e3 rfl
      exact ih q.dropLast x(by simp [hk])(down_lt q1).1 e1.1
    have hqn:q≠[]:=by rintro rfl;simp at he;omega
    have hsp:q=q.dropLast++[q.getLast hqn]:=(List.dropLast_concat_getLast hqn).symm
    rw [hsp] at e
    have e3:(pth c++u::q.dropLast)++[q.getLast hqn]=pth a++[v]:=by rw [← e];simp
    have e1:=List.append_inj' e3 rfl
    exact key _ q.dropLast a rfl ha e1.1
   |some b =>
    simp only
    obtain⟨k1,k2⟩:=h.kid c u b hx hq
    rw [h.put_sem hl ha hn hd q b k1(by rw [k2];simp;omega),k2]
    simp
  ·have hq0:q=[]:=List.length_eq_zero_iff.1(by have:=h.lev c hc;omega)
   subst hq0
   by_cases e:c=a/\u=v
   ·obtain⟨rfl,rfl⟩:=e
    simp [goT]
   ·rw [if_neg e]
    have hne:¬ pth c++[u]=pth a++[v]:=by
     intro e2
     have e1:=List.append_inj' e2 rfl
     exact e⟨h.inj c a hc ha e1.1,by simpa using e1.2⟩
    rw [if_neg hne]
    cases downP T c u <;> rfl
theorem TrieInv.reach{T:PTrie}{pth:Nat->PRow}(h:TrieInv T pth):∀ (k:Nat)(b:Nat),b < T.nodes.length->(pth b).length=k->goT T 0(pth b)=some b:=by
 intro k
 induction k with
 |zero =>
  intro b hb hk
  have e:pth b=pth 0:=by rw [h.root];exact List.length_eq_zero_iff.1 hk
  have:=h.inj b 0 hb h.pos e
  subst this
  rw [h.root];rfl
 |succ k ih =>
  intro b hb hk
  have hb0:b≠0:=by rintro rfl;rw [h.root] at hk;simp at hk
  obtain⟨x,y,q1,q2,q3⟩:=h.par b hb hb0
  have hx:=ih x(down_lt q1).1(by rw [q3] at hk;simpa using hk)
  rw [q3,goT_append,hx]
  simp [goT,q1]
theorem addFrom_spec(m:Nat):∀ (r:PRow)(T:PTrie)(pth:Nat->PRow)(a:Nat),TrieInv T pth->a < T.nodes.length->T.depth<=(pth a).length+r.length->(∀ v∈r,v < T.width)->Added T(addFrom m T a(pth a).length r).1(pth a++r.take(T.depth - (pth a).length)) m(addFrom m T a(pth a).length r).2(T.depth - 1 - (pth a).length)
 |[],T,pth,a,h,ha,hl,_=>by have:=h.lev a ha;simp at hl;omega
 |v::r,T,pth,a,h,ha,hl,hf=>by
  have hlev:=h.lev a ha
  have hv:v < T.width:=hf v(by simp)
  have hreach:=h.reach _ a ha rfl
  simp only [List.length_cons] at hl
  unfold addFrom
  by_cases hd:(pth a).length+1 ≥ T.depth
  ·rw [if_pos hd]
   have hd1:T.depth - (pth a).length=1:=by omega
   rw [hd1]
   have hkey:semT T(pth a++(v::r).take 1)=downP T a v:=by
    unfold semT
    rw [goT_append,hreach]
    simp only [List.take_succ_cons,List.take_zero,Option.bind_some,goT]
    cases downP T a v <;> rfl
   unfold endP
   cases hx:downP T a v with
   |some b =>
    refine⟨⟨pth,h⟩,rfl,rfl,by rw [hkey,hx];rfl,fun _=>rfl,fun q=>by simp at q,fun q hq=>?_⟩
    by_cases e:q=pth a++(v::r).take 1
    ·subst e
     rw [if_pos rfl,hkey,hx];rfl
    ·rw [if_neg e]
   |none =>
    have hps:=put_spec h.node(d:=m) ha hv hx
    have hgo:∀ q c,goT{ putP T a v m with count:=(putP T a v m).count+1 } c q=goT(putP T a v m) c q:=by
     intro q
     induction q with
     |nil=>intro c;rfl
     |cons x q ih =>
      intro c
      simp only [goT]
      have:downP{ putP T a v m with count:=(putP T a v m).count+1 } c x=downP(putP T a v m) c x:=rfl
      rw [this]
      cases downP(putP T a v m) c x with
      |none=>rfl
      |some b=>exact ih b
    refine⟨⟨pth,?_⟩,put_width _ _ _ _,put_depth _ _ _ _,by rw [hkey,hx];rfl,fun q=>by simp at q,fun _=>⟨by simp [put_count],by simp [put_len]⟩,fun q hq=>?_⟩
    ·have hdd:∀ b u,downP{ putP T a v m with count:=(putP T a v m).count+1 } b u=if b=a/\u=v then some m else downP T b u:=hps.2
     refine⟨by show 1<=(putP T a v m).depth/\(putP T a v m).depth<=3;rw [put_depth];exact h.dep,by show 1<=(putP T a v m).width;rw [put_width];exact h.wid,by show 0 < (putP T a v m).nodes.length;rw [put_len];exact h.pos,hps.1,h.root,fun c hc=>by show _ < (putP T a v m).depth;rw [put_depth];exact h.lev c(by simpa [put_len] using hc),fun c d hc hdl e=>h.inj c d(by simpa [put_len] using hc)(by simpa [put_len] using hdl) e,fun c u b hcb hlc=>?_,fun b hb hb0=>?_⟩
     ·rw [hdd] at hcb
      have hlc':(pth c).length+1 < T.depth:=by simpa [put_depth] using hlc
      by_cases e:c=a/\u=v
      ·obtain⟨rfl,rfl⟩:=e;omega
      ·rw [if_neg e] at hcb
       obtain⟨k1,k2⟩:=h.kid c u b hcb hlc'
       exact⟨by simpa [put_len] using k1,k2⟩
     ·obtain⟨c,u,q1,q2,q3⟩:=h.par b(by simpa [put_len] using hb) hb0
      refine⟨c,u,?_,by simpa [put_depth] using q2,q3⟩
      rw [hdd,if_neg]
      ·exact q1
      ·rintro⟨rfl,rfl⟩;rw [hx] at q1;cases q1
    ·unfold semT
     rw [hgo,h.put_sem(by omega) ha hx hps.2 q 0 h.pos(by rw [h.root];simpa using hq),h.root]
     have htk:(v::r).take 1=[v]:=by simp
     rw [htk,List.nil_append]
     by_cases e:q=pth a++[v]
     ·rw [if_pos e,if_pos e]
      have:goT T 0 q=none:=by rw [e];have:=hkey;unfold semT at this;rw [htk] at this;rw [this,hx]
      rw [this];rfl
     ·rw [if_neg e,if_neg e]
  ·rw [if_neg hd]
   obtain⟨dd,hdd⟩:∃ dd,T.depth - (pth a).length=dd+1:=⟨T.depth - (pth a).length - 1,by omega⟩
   have hkk:∀ p:PRow,p=pth a++[v]->p++r.take(T.depth - p.length)=pth a++(v::r).take(T.depth - (pth a).length):=by
    rintro p rfl
    rw [hdd,List.take_succ_cons]
    have:T.depth - (pth a++[v]).length=dd:=by simp;omega
    rw [this];simp
   unfold behindP
   cases hx:downP T a v with
   |some b =>
    obtain⟨k1,k2⟩:=h.kid a v b hx(by omega)
    have ih:=addFrom_spec m r T pth b h k1(by rw [k2];simp;omega)(fun x hx=>hf x(by simp [hx]))
    rw [hkk _ k2] at ih
    have e:(pth b).length=(pth a).length+1:=by rw [k2];simp
    rw [e] at ih
    exact⟨ih.inv,ih.width,ih.depth,ih.is,ih.same,fun q=>⟨(ih.more q).1,by have:=(ih.more q).2;simp only at this ⊢;omega⟩,ih.sem⟩
   |none =>
    obtain⟨g1,g2,g3,g4,g5,g6⟩:=h.grow ha hv(by omega) hx
    have ih:=addFrom_spec m r(putP(growP T) a v T.nodes.length) _ T.nodes.length g1(by rw [g3];omega)(by rw [if_pos rfl,g5];simp;omega)(fun x hx=>by rw [g4];exact hf x(by simp [hx]))
    rw [if_pos rfl,g5,hkk _ rfl] at ih
    have e:(pth a++[v]).length=(pth a).length+1:=by simp
    rw [e] at ih
    have hsem:∀ q:PRow,q.length=T.depth->semT(putP(growP T) a v T.nodes.length) q=semT T q:=fun q hq=>h.grow_sem(by omega) hx g2 q 0 h.pos(by rw [h.root];simpa using hq)
    have hklen:(pth a++(v::r).take(T.depth - (pth a).length)).length=T.depth:=by simp;omega
    have hnone:semT T(pth a++(v::r).take(T.depth - (pth a).length))=none:=by
     unfold semT
     rw [goT_append,hreach,hdd,List.take_succ_cons]
     simp [goT,hx]
    have his:=ih.is
    rw [hsem _ hklen,hnone] at his
    refine⟨ih.inv,by rw [ih.width,g4],by rw [ih.depth,g5],by rw [hnone];exact his,fun q=>?_,fun q=>⟨by rw [(ih.more q).1,g6],by have:=(ih.more q).2;rw [g3] at this;simp only at this ⊢;omega⟩,fun q hq=>?_⟩
    ·rw [his] at q;cases q
    ·rw [ih.sem q(by rw [g5];exact hq),hsem q hq]
end Go.Proofs.YteampbddflhngabGreat

namespace Go.Proofs.YteampbddflhngabGreat
theorem addP_spec{T:PTrie}{pth:Nat->PRow}(h:TrieInv T pth)(row:PRow)(m:Nat)(hl:row.length=3)(hf:fitsP T row=true):Added T(addP T row m).1(row.take T.depth) m(addP T row m).2(T.depth - 1):=by
 have:=addFrom_spec m row T pth 0 h h.pos(by rw [h.root];simp [hl];exact h.dep.2)(fun v hv=>by simp only [fitsP,List.all_eq_true,decide_eq_true_eq] at hf;exact hf v hv)
 rw [h.root] at this
 unfold addP
 rw [if_pos hf]
 simpa using this
theorem newP_width(w d:Nat):(newP w d).width=widthP w:=rfl
theorem newP_depth(w d:Nat):(newP w d).depth=depthP d:=rfl
theorem depthP_in(d:Nat):1<=depthP d/\depthP d<=3:=by unfold depthP;by_cases h1:d < 1 <;> by_cases h2:d > 3 <;> simp [h1,h2] <;> omega
theorem newP_down(w d a v:Nat):downP(newP w d) a v=none:=by
 rw [downP_eq]
 refine if_neg fun q=>?_
 have h0:a=0:=by have:=q.1;simp [newP,growP] at this;exact this
 subst h0
 exact(NodeOK.new(widthP w)).2 v q.2
theorem newP_inv(w d:Nat):TrieInv(newP w d)(fun _=>[]):=by
 refine⟨depthP_in d,by show 1<=widthP w;unfold widthP;split <;> omega,by simp [newP,growP],?_,rfl,fun a _=>by show 0 < depthP d;exact(depthP_in d).1,fun a b ha hb _=>?_,(fun a v b hd=>by rw [newP_down] at hd;exact absurd hd(by simp)),fun b hb hb0=>?_⟩
 ·intro a ha
  have h0:a=0:=by simp [newP,growP] at ha;exact ha
  subst h0
  exact(NodeOK.new(widthP w)).1
 ·simp [newP,growP] at ha hb;omega
 ·simp [newP,growP] at hb;omega
theorem newP_sem(w d:Nat)(q:PRow)(hq:q≠[]):semT(newP w d) q=none:=by
 cases q with
 |nil=>exact absurd rfl hq
 |cons v q=>simp [semT,goT,newP_down]
theorem markFrom_go(T:PTrie):∀ (r:PRow)(a level:Nat),level < T.depth->T.depth<=level+r.length->markFrom T a level r=goT T a(r.take(T.depth - level))
 |[],a,level,h1,h2=>by simp at h2;omega
 |v::r,a,level,h1,h2=>by
  obtain⟨k,hk⟩:∃ k,T.depth - level=k+1:=⟨T.depth - level - 1,by omega⟩
  unfold markFrom
  rw [hk,List.take_succ_cons]
  simp only [goT]
  cases hd:downP T a v with
  |none=>rfl
  |some b =>
   simp only
   by_cases e:level+1 ≥ T.depth
   ·rw [if_pos e]
    have:k=0:=by omega
    subst this
    simp [goT]
   ·rw [if_neg e,markFrom_go T r b(level+1)(by omega)(by simp at h2;omega)]
    have:T.depth - (level+1)=k:=by omega
    rw [this]
theorem markP_sem{T:PTrie}{pth:Nat->PRow}(h:TrieInv T pth)(row:PRow)(hl:row.length=3):markP T row=semT T(row.take T.depth):=by
 have:=markFrom_go T row 0 0(by have:=h.dep.1;omega)(by rw [hl];have:=h.dep.2;omega)
 simpa [markP,semT] using this
def keysF(T:PTrie):Nat->Nat->Nat->List PRow
 |0,_,_=>[[]]
 |d+1,a,f=>(List.range' f(T.width - f)).flatMap fun v=>match downP T a v with
  |none=>[]
  |some b=>(keysF T d b 0).map(v::·)
theorem keysF_none{T:PTrie}{d a f:Nat}(h:∀ u,f<=u->downP T a u=none):keysF T(d+1) a f=[]:=by
 simp only [keysF,List.flatMap_eq_nil_iff,List.mem_range'_1]
 intro v hv
 rw [h v hv.1]
theorem keysF_step{T:PTrie}{d a v b:Nat}:∀ (n f:Nat),v - f=n->f<=v->v < T.width->downP T a v=some b->(∀ u,f<=u->u < v->downP T a u=none)->keysF T(d+1) a f=(keysF T d b 0).map(v::·)++keysF T(d+1) a(v+1):=by
 intro n
 induction n with
 |zero =>
  intro f hn hf hw hb _
  have:f=v:=by omega
  subst this
  obtain⟨k,hk⟩:∃ k,T.width - f=k+1:=⟨T.width - f - 1,by omega⟩
  have hk2:T.width - (f+1)=k:=by omega
  simp only [keysF,hk,hk2,List.range'_succ,List.flatMap_cons,hb]
 |succ n ih =>
  intro f hn hf hw hb hu
  obtain⟨k,hk⟩:∃ k,T.width - f=k+1:=⟨T.width - f - 1,by omega⟩
  have hk2:T.width - (f+1)=k:=by omega
  rw [← ih(f+1)(by omega)(by omega) hw hb(fun u h1 h2=>hu u(by omega) h2)]
  simp only [keysF,hk,hk2,List.range'_succ,List.flatMap_cons,hu f(Nat.le_refl _)(by omega),List.nil_append]
theorem set_take(row:PRow)(l v:Nat)(k:PRow)(hl:l < row.length):(row.set l v).take(l+1)++k=row.take l++v::k:=by
 have:(row.set l v).take(l+1)=row.take l++[v]:=by
  rw [List.take_succ_eq_append_getElem(by simpa using hl),List.take_set_of_le(Nat.le_refl _)]
  simp
 rw [this];simp
theorem set_take_lt(row:PRow)(l v j:Nat)(hl:l < j):(row.set l v).drop j=row.drop j:=by
 rw [List.drop_set,if_pos hl]
theorem walkP_spec{T:PTrie}(hn:NodesOK T)(hd3:T.depth<=3):∀ (n a level f:Nat)(row:PRow)(rows:List PRow),level < T.depth->row.length=3->f<=T.width->(T.width - f)+1+(T.depth - level - 1) * (T.width+1)<=n →
  ∃ row',walkP T n a level f row rows=some(row',rows++(keysF T(T.depth - level) a f).map fun k=>row.take level++k++row.drop T.depth)/\row'.length=3/\row'.take level=row.take level/\row'.drop T.depth=row.drop T.depth:=by
 intro n
 induction n with
 |zero=>intro a level f row rows h1 h2 h3 h4;omega
 |succ n ih =>
  intro a level f row rows h1 h2 h3 h4
  obtain⟨d,hd⟩:∃ d,T.depth - level=d+1:=⟨T.depth - level - 1,by omega⟩
  unfold walkP
  cases hl:leapP T a f with
  |none =>
   refine⟨row,?_,h2,rfl,rfl⟩
   rw [hd,keysF_none(leap_none hn hl)]
   simp
  |some v =>
   obtain⟨q1,q2,q3,q4⟩:=leap_some hn hl
   obtain⟨b,hb⟩:=Option.isSome_iff_exists.1 q3
   have hkeys:=keysF_step(d:=d) _ f rfl q1 q2 hb q4
   simp only
   have hset2:(row.set level v).length=3:=by simpa using h2
   have hlr:level < row.length:=by omega
   have hdrop:(row.set level v).drop T.depth=row.drop T.depth:=set_take_lt row level v T.depth h1
   have htake:(row.set level v).take level=row.take level:=by rw [List.take_set_of_le(Nat.le_refl _)]
   have hd1:T.depth - level - 1=d:=by omega
   by_cases e:level+1 ≥ T.depth
   ·rw [if_pos e]
    have hd0:d=0:=by omega
    subst hd0
    obtain⟨row',r1,r2,r3,r4⟩:=ih a level(v+1)(row.set level v)(rows++[row.set level v]) h1 hset2(by omega)(by rw [hd1] at h4 ⊢;omega)
    refine⟨row',?_,r2,by rw [r3,htake],by rw [r4,hdrop]⟩
    rw [r1,hd,hkeys]
    simp only [keysF,List.map_cons,List.map_nil,List.cons_append,List.nil_append,htake,hdrop,List.append_assoc,Option.some.injEq,Prod.mk.injEq,true_and]
    congr 2
    have:=set_take row level v(row.drop T.depth) hlr
    have e2:T.depth=level+1:=by omega
    rw [← hdrop,e2] at this ⊢
    rw [List.take_append_drop] at this
    exact this
   ·rw [if_neg e,if_neg(by omega),hb]
    simp only [Option.getD_some]
    have hm:d * (T.width+1)=(d - 1) * (T.width+1)+(T.width+1):=by
     obtain⟨j,rfl⟩:∃ j,d=j+1:=⟨d - 1,by omega⟩
     simp [Nat.succ_mul]
    have hd2:T.depth - (level+1) - 1=d - 1:=by omega
    have hd3':T.depth - (level+1)=d:=by omega
    obtain⟨row1,r1,r2,r3,r4⟩:=ih b(level+1) 0(row.set level v) rows(by omega) hset2(by omega)(by rw [hd1] at h4;rw [hd2];omega)
    rw [r1]
    simp only
    obtain⟨row',s1,s2,s3,s4⟩:=ih a level(v+1) row1(rows++(keysF T(T.depth - (level+1)) b 0).map fun k=>(row.set level v).take(level+1)++k++(row.set level v).drop T.depth) h1 r2(by omega)(by rw [hd1] at h4 ⊢;omega)
    have t1:row1.take level=row.take level:=by
     have:=congrArg(List.take level) r3
     rwa [List.take_take,List.take_take,Nat.min_eq_left(by omega),htake] at this
    refine⟨row',?_,s2,by rw [s3,t1],by rw [s4,r4,hdrop]⟩
    rw [s1,hd,hkeys,hd3',t1,r4,hdrop,List.map_append,List.map_map,← List.append_assoc]
    congr 3
    refine congrArg(rows++·)(List.map_congr_left fun k _=>?_)
    simp only [Function.comp]
    rw [set_take row level v k hlr]
def pad(k:PRow)(d:Nat):PRow:=k++([0,0,0]:PRow).drop d
theorem rowsF_spec{T:PTrie}{pth:Nat->PRow}(h:TrieInv T pth)(fuel:Nat)(hf:3 * (T.width+1)<=fuel):rowsF fuel T=some((keysF T T.depth 0 0).map fun k=>pad k T.depth):=by
 have hd:=h.dep
 have hm:T.width+1+(T.depth - 1) * (T.width+1)<=3 * (T.width+1):=by
  have:(T.depth - 1) * (T.width+1)<=2 * (T.width+1):=Nat.mul_le_mul_right _(by omega)
  omega
 obtain⟨row',h1,_,_,_⟩:=walkP_spec h.node hd.2 fuel 0 0 0 [0,0,0] [](by omega) rfl(by omega)(by simp;omega)
 unfold rowsF
 rw [h1]
 simp [pad]
theorem keysF_mem(T:PTrie):∀ (d a f:Nat)(k:PRow),k∈keysF T d a f↔k.length=d/\(goT T a k).isSome=true/\(0 < d->f<=k.headD 0)
 |0,a,f,k=>by
  simp only [keysF,List.mem_singleton]
  constructor
  ·rintro rfl;simp [goT]
  ·rintro⟨h,_⟩;exact List.length_eq_zero_iff.1 h
 |d+1,a,f,k=>by
  simp only [keysF,List.mem_flatMap,List.mem_range'_1]
  constructor
  ·rintro⟨v,hv,hk⟩
   cases hd:downP T a v with
   |none=>rw [hd] at hk;simp at hk
   |some b =>
    rw [hd] at hk
    simp only [List.mem_map] at hk
    obtain⟨k',hk',rfl⟩:=hk
    obtain⟨h1,h2,_⟩:=(keysF_mem T d b 0 k').1 hk'
    refine⟨by simp [h1],?_,fun _=>by simpa using hv.1⟩
    simp only [goT,hd]
    exact h2
  ·rintro⟨h1,h2,h3⟩
   cases k with
   |nil=>simp at h1
   |cons v k =>
    simp only [goT] at h2
    simp only [List.headD_cons] at h3
    cases hd:downP T a v with
    |none=>rw [hd] at h2;simp at h2
    |some b =>
     rw [hd] at h2
     have hw:=(down_lt hd).2
     have:=h3(by omega)
     refine⟨v,by omega,?_⟩
     rw [hd]
     simp only [List.mem_map]
     exact⟨k,(keysF_mem T d b 0 k).2⟨by simpa using h1,h2,fun _=>Nat.zero_le _⟩,rfl⟩
end Go.Proofs.YteampbddflhngabGreat
