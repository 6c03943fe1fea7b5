import Derived.Test.YteampbddflhngabGreatR40
import Derived.Test.YteampbddflhngabGreatR32
import Derived.Test.YteampbddflhngabGreatR31

namespace Go.Proofs.YteampbddflhngabGreat
open Classical
def zpq(ns:List ByteArray)(σ:ByteArray->Nat)(l:zbb)(i:Nat):Nat:=match l.args[i]? with
 |none=>0
 |some y=>if za1 y=true then σ y else(zc6 ns y).getD 0
def z1f(ns:List ByteArray)(σ:ByteArray->Nat)(l:zbb):zar:=[zpq ns σ l 0,zpq ns σ l 1,zpq ns σ l 2]
theorem zqp{vs:List ByteArray}{pl:List Nat}(hp:∀ k,pl.getD k 0 < 5)(n:ByteArray):zdp vs pl n < 5:=by
 unfold zdp
 split
 ·omega
 ·split
  ·omega
  ·exact hp _
theorem z6a(t:List zam)(ns vs:List ByteArray){pl:List Nat}(hp:∀ k,pl.getD k 0 < 5)(l:zbb)(y:List Nat)(i:Nat):rowCell (zdo t ns vs pl l) y i=zpq ns (fun v=>y.getD (zdp vs pl v) 0) l i:=by
 unfold rowCell zpq
 by_cases h:i < l.args.length
 ·have h2:i < (zdo t ns vs pl l).terms.length:=by simp[zdo,zba];exact h
  rw[if_pos h2,List.getElem?_eq_getElem h,getD_lt _ h2]
  have e:(zdo t ns vs pl l).terms[i]=zc8 0 (zba ns vs pl l) (zf3 ns vs pl l.args[i]):=by simp[zdo,zba]
  obtain⟨e1,e2⟩:=zfm 0 (zba ns vs pl l) (zf3 ns vs pl l.args[i])
  rw[e]
  unfold atT
  rw[e1,e2]
  unfold zf3
  by_cases hv:za1 l.args[i]=true
  ·have:=zqp (vs:=vs) hp l.args[i]
   simp[hv,this]
  ·simp[hv]
 ·have h2:¬ i < (zdo t ns vs pl l).terms.length:=by simp[zdo,zba];omega
  rw[if_neg h2,List.getElem?_eq_none (by omega)]
theorem zpa(t:List zam)(ns vs:List ByteArray){pl:List Nat}(hp:∀ k,pl.getD k 0 < 5)(l:zbb)(y:List Nat):zcv (zdo t ns vs pl l) y=z1f ns (fun v=>y.getD (zdp vs pl v) 0) l:=by
 simp only[zcv,z1f,z6a t ns vs hp]
theorem ztd{ns:List ByteArray}{σ τ:ByteArray->Nat}{l:zbb}(h:∀ y∈l.args,za1 y=true->σ y=τ y):z1f ns σ l=z1f ns τ l:=by
 have:∀ i,zpq ns σ l i=zpq ns τ l i:=by
  intro i
  unfold zpq
  cases hq:l.args[i]? with
  |none=>rfl
  |some y =>
   have hm:=List.mem_of_getElem? hq
   by_cases hv:za1 y=true
   ·simp only[hv,if_true];exact h y hm hv
   ·simp[hv]
 simp only[z1f,this]
def yd3(t:List zam)(ns:List ByteArray)(c:zaa)(D:DB)(x:zar):Prop:=∃ σ,(∀ l∈c.body,l.neg=false->InD D (zbi t l.pred) (z1f ns σ l))/\(∀ l∈c.body,l.neg=true->D (zbi t l.pred) (z1f ns σ l)=none)/\x=z1f ns σ c.head
theorem ybh{k:Nat}{f:Nat->Nat}(h:∀ p,p < k->∃ i,i < k/\f i=p){i j:Nat}(hi:i < k)(hj:j < k)(e:f i=f j):i=j:=by
 by_cases hne:i=j
 ·exact hne
 ·have:=ziv (l1:=List.range k) (l2:=((List.range k).erase j).map f) List.nodup_range (fun p hp=>by
   obtain⟨a,ha,hf⟩:=h p (List.mem_range.1 hp)
   by_cases haj:a=j
   ·exact List.mem_map.2 ⟨i,(List.mem_erase_of_ne hne).2 (List.mem_range.2 hi),by rw[e,← haj,hf]⟩
   ·exact List.mem_map.2 ⟨a,(List.mem_erase_of_ne haj).2 (List.mem_range.2 ha),hf⟩)
  rw[List.length_map,List.length_erase_of_mem (List.mem_range.2 hj),List.length_range] at this
  omega
theorem z3x{vs:List ByteArray}{pl:List Nat}(h5:vs.length<=5)(hp:zi7 pl vs.length){u v:ByteArray}(hu:u∈vs)(hv:v∈vs)(e:zdp vs pl u=zdp vs pl v):u=v:=by
 obtain⟨i,i1,i2⟩:=zji hu
 obtain⟨j,j1,j2⟩:=zji hv
 unfold zdp at e
 rw[i2,j2] at e
 simp only at e
 rw[if_neg (by omega),if_neg (by omega)] at e
 have:=ybh hp.onto i1 j1 e
 subst this
 obtain⟨_,a⟩:=zkg i2
 obtain⟨_,b⟩:=zkg j2
 rw[← a,← b]
theorem z6p{t:List zam}{ns:List ByteArray}{c:zaa}{o:Option (List Int)}{D:DB}{x:zar}(hv:∀ l∈zax c,∀ y∈l.args,za1 y=true->y∈zaf c)(h5:(zaf c).length<=5)(hp:zi7 (za9 (o.getD [])) (zaf c).length):Der (zm6 t ns c o) D x↔yd3 t ns c D x:=by
 constructor
 ·rintro⟨y,h1,h2,h3⟩
  refine⟨fun v=>y.getD (zdp (zaf c) (za9 (o.getD [])) v) 0,fun l hl hn=>?_,fun l hl hn=>?_,?_⟩
  ·have:=h1 (zdo t ns (zaf c) (za9 (o.getD [])) l) (List.mem_map.2 ⟨l,List.mem_filter.2 ⟨hl,by simp[hn]⟩,rfl⟩)
   rw[zpa t ns _ hp.five] at this
   exact this
  ·have:=h2 (zdo t ns (zaf c) (za9 (o.getD [])) l) (List.mem_map.2 ⟨l,List.mem_filter.2 ⟨hl,by simp[hn]⟩,rfl⟩)
   rw[zpa t ns _ hp.five] at this
   exact this
  ·rw[h3]
   exact zpa t ns _ hp.five _ _
 ·rintro⟨σ,h1,h2,h3⟩
  let yf:Nat->Nat:=fun p=>if hq:∃ v,v∈zaf c/\zdp (zaf c) (za9 (o.getD [])) v=p then σ hq.choose else 0
  have hyf:∀ v∈zaf c,yf (zdp (zaf c) (za9 (o.getD [])) v)=σ v:=by
   intro v hv'
   have hq:∃ u,u∈zaf c/\zdp (zaf c) (za9 (o.getD [])) u=zdp (zaf c) (za9 (o.getD [])) v:=⟨v,hv',rfl⟩
   show(if hq:∃ u,u∈zaf c/\zdp (zaf c) (za9 (o.getD [])) u=zdp (zaf c) (za9 (o.getD [])) v then σ hq.choose else 0)=σ v
   rw[dif_pos hq,z3x h5 hp hq.choose_spec.1 hv' hq.choose_spec.2]
  have hy:∀ p,p < 5->((List.range 5).map yf).getD p 0=yf p:=by
   intro p hp5
   rw[getD_lt _ (by simp;exact hp5)]
   simp
  have hrow:∀ l∈zax c,zcv (zdo t ns (zaf c) (za9 (o.getD [])) l) ((List.range 5).map yf)=z1f ns σ l:=by
   intro l hl
   rw[zpa t ns _ hp.five]
   refine ztd fun y hy' hvy=>?_
   rw[hy _ (zqp hp.five _),hyf y (hv l hl y hy' hvy)]
  refine⟨(List.range 5).map yf,fun l hl=>?_,fun l hl=>?_,?_⟩
  ·obtain⟨z,hz,rfl⟩:=List.mem_map.1 hl
   obtain⟨z1,z2⟩:=List.mem_filter.1 hz
   rw[hrow z (by simp[zax,z1])]
   exact h1 z z1 (by simpa using z2)
  ·obtain⟨z,hz,rfl⟩:=List.mem_map.1 hl
   obtain⟨z1,z2⟩:=List.mem_filter.1 hz
   rw[hrow z (by simp[zax,z1])]
   exact h2 z z1 (by simpa using z2)
  ·rw[h3]
   exact(hrow c.head (by simp[zax])).symm
theorem Parts.covered{cs:List zaa}{t0 t:List zam}(h:Parts cs t0 t){c:zaa}(hc:c∈cs):∀ l∈zax c,∀ y∈l.args,za1 y=true->y∈zaf c:=by
 have hs:=h.safe c hc
 simp only[zeh,Bool.and_eq_true,List.all_eq_true,Bool.or_eq_true,Bool.not_eq_true'] at hs
 intro l hl y hy hv
 rcases List.mem_cons.1 hl with rfl|hl
 ·exact zj2.1 hs.1 y hy hv
 ·cases hn:l.neg with
  |false=>exact zje.2 ⟨hv,l,hl,hn,hy⟩
  |true =>
   rcases hs.2 l hl with q|q
   ·rw[hn] at q;cases q
   ·exact zj2.1 q y hy hv
def yad(t:List zam)(ns:List ByteArray)(cs:List zaa)(s:Nat)(D:DB)(p:Nat)(x:zar):Prop:=∃ c∈cs,0 < c.body.length/\zc9 t c.head.pred=s/\p=zbi t c.head.pred/\yd3 t ns c D x
theorem zkr{t:List zam}{ns:List ByteArray}{os:Option (List (Option (List Int)))}{cs:List zaa}{r:zai}:r∈zed t ns os cs↔∃ i,∃ hi:i < cs.length,0 < cs[i].body.length/\r=zm6 t ns cs[i] (zd1 os i):=by
 unfold zed
 rw[List.mem_filterMap]
 constructor
 ·rintro⟨⟨c,i⟩,h1,h2⟩
  have h3:=List.mem_zipIdx_iff_getElem?.1 h1
  simp only at h2 h3
  obtain⟨hi,rfl⟩:=List.getElem?_eq_some_iff.1 h3
  split at h2
  ·rename_i hb
   simp only[Option.some.injEq] at h2
   exact⟨i,hi,hb,h2.symm⟩
  ·cases h2
 ·rintro⟨i,hi,hb,rfl⟩
  refine⟨(cs[i],i),List.mem_zipIdx_iff_getElem?.2 (by simp[hi]),?_⟩
  simp only
  rw[if_pos hb]
theorem z1i{cs:List zaa}{t0 t:List zam}(h:Parts cs t0 t)(ns:List ByteArray)(os:Option (List (Option (List Int))))(hp:∀ i (hi:i < cs.length),zi7 (za9 ((zd1 os i).getD [])) (zaf cs[i]).length)(s:Nat)(D:DB)(p:Nat)(x:zar):zma ((zed t ns os cs).filter fun r=>decide (r.stratum=s)) D p x↔yad t ns cs s D p x:=by
 constructor
 ·rintro⟨r,hr,h1,h2⟩
  obtain⟨r1,r2⟩:=List.mem_filter.1 hr
  obtain⟨i,hi,hb,rfl⟩:=zkr.1 r1
  have hc:=List.getElem_mem hi
  exact⟨cs[i],hc,hb,of_decide_eq_true r2,h1,(z6p (h.covered hc) (zfn (h.many _ hc)) (hp i hi)).1 h2⟩
 ·rintro⟨c,hc,hb,h1,h2,h3⟩
  obtain⟨i,hi,rfl⟩:=List.mem_iff_getElem.1 hc
  exact⟨zm6 t ns cs[i] (zd1 os i),List.mem_filter.2 ⟨zkr.2 ⟨i,hi,hb,rfl⟩,decide_eq_true h1⟩,h2,(z6p (h.covered hc) (zfn (h.many _ hc)) (hp i hi)).2 h3⟩
theorem zzd{rs rs':List zai}(h:∀ D p x,zma rs D p x↔zma rs' D p x)(k:Nat)(D:DB):zf4 rs k D=zf4 rs' k D:=by
 funext p x
 unfold zf4
 cases D p x with
 |some m=>rfl
 |none=>simp only[h D p x]
theorem zlc{rs rs':List zai}(h:∀ D p x,zma rs D p x↔zma rs' D p x)(mr:Nat):∀ left k D,zde rs mr left k D=zde rs' mr left k D
 |0,_,_=>rfl
 |left+1,k,D=>by
  unfold zde
  rw[zzd h,zlc h mr left]
theorem zld{rs rs':List zai}(h:∀ s D p x,zma (rs.filter fun r=>decide (r.stratum=s)) D p x↔zma (rs'.filter fun r=>decide (r.stratum=s)) D p x)(he:∀ s,(rs.filter fun r=>decide (r.stratum=s))=[]↔(rs'.filter fun r=>decide (r.stratum=s))=[])(mr mx:Nat):∀ n s k D,zcz rs mr mx n s k D=zcz rs' mr mx n s k D
 |0,_,_,_=>rfl
 |n+1,s,k,D=>by
  unfold zcz
  simp only[he s,zlc (h s) mr,zld h he mr mx n]
end Go.Proofs.YteampbddflhngabGreat
namespace Go.Proofs.YteampbddflhngabGreat
theorem zm4{ns:List ByteArray}(h:zbq ns){i j:Nat}(hij:i < j)(hj:j < ns.length):ltB (ns.getD i ByteArray.empty) (ns.getD j ByteArray.empty)=true:=by
 have hi:i < ns.length:=by omega
 rw[getD_lt _ hi,getD_lt _ hj]
 exact List.pairwise_iff_getElem.1 h i j hi hj hij
theorem zyt{ns:List ByteArray}(h:zbq ns)(x:ByteArray):∀(n l hh:Nat),l<=hh->hh<=ns.length->hh - l < n->(∀ i,i < l->ltB (ns.getD i ByteArray.empty) x=true)->(∀ i,hh<=i->i < ns.length->ltB (ns.getD i ByteArray.empty) x=false)->halves ns x n l hh<=ns.length/\(∀ i,i < halves ns x n l hh->ltB (ns.getD i ByteArray.empty) x=true)/\∀ i,halves ns x n l hh<=i->i < ns.length->ltB (ns.getD i ByteArray.empty) x=false:=by
 intro n
 induction n with
 |zero=>intro l hh _ _ q;omega
 |succ n ih =>
  intro l hh h1 h2 h3 h4 h5
  unfold halves
  by_cases hlt:l < hh
  ·rw[if_pos hlt]
   have hm:l+(hh - l) / 2 < hh:=by omega
   have hml:l<=l+(hh - l) / 2:=by omega
   generalize l+(hh - l) / 2=m at *
   by_cases hL:ltB (ns.getD m ByteArray.empty) x=true
   ·rw[if_pos hL]
    refine ih (m+1) hh (by omega) h2 (by omega) (fun i hi=>?_) h5
    by_cases him:i=m
    ·rw[him];exact hL
    ·exact lt_trans (zm4 h (show i < m by omega) (by omega)) hL
   ·rw[if_neg hL]
    have hL':ltB (ns.getD m ByteArray.empty) x=false:=by simpa using hL
    refine ih l m hml (by omega) (by omega) h4 (fun i hi hn=>?_)
    by_cases him:i=m
    ·rw[him];exact hL'
    ·cases hq:ltB (ns.getD i ByteArray.empty) x with
     |false=>rfl
     |true =>
      have:=lt_trans (zm4 h (show m < i by omega) hn) hq
      rw[this] at hL'
      cases hL'
  ·rw[if_neg hlt]
   exact⟨by omega,h4,fun i hi hn=>h5 i (by omega) hn⟩
theorem zqm{ns:List ByteArray}(h:zbq ns)(x:ByteArray):zbx ns x<=ns.length/\(∀ i,i < zbx ns x->ltB (ns.getD i ByteArray.empty) x=true)/\∀ i,zbx ns x<=i->i < ns.length->ltB (ns.getD i ByteArray.empty) x=false :=
 zyt h x _ 0 ns.length (Nat.zero_le _) (Nat.le_refl _) (by omega) (fun i hi=>by omega) (fun i hi hn=>by omega)
theorem zxq{ns:List ByteArray}(h:zbq ns){v:Nat}(hv:v < ns.length):zc6 ns (ns.getD v ByteArray.empty)=some v:=by
 obtain⟨p1,p2,p3⟩:=zqm h (ns.getD v ByteArray.empty)
 have hp:zbx ns (ns.getD v ByteArray.empty)=v:=by
  rcases Nat.lt_trichotomy (zbx ns (ns.getD v ByteArray.empty)) v with q|q|q
  ·have:=p3 _ (Nat.le_refl _) (by omega)
   rw[zm4 h q hv] at this
   cases this
  ·exact q
  ·have:=p2 v q
   rw[lt_irrefl] at this
   cases this
 unfold zc6
 rw[hp,if_pos ⟨hv,rfl⟩]
theorem z4s{ns:List ByteArray}(h:zbq ns){x:ByteArray}(hx:x∈ns):∃ v,zc6 ns x=some v/\v < ns.length:=by
 obtain⟨v,hv,rfl⟩:=List.getElem_of_mem hx
 have:=zxq h hv
 rw[getD_lt _ hv] at this
 exact⟨v,this,hv⟩
theorem z7i{ns:List ByteArray}(h:zbq ns)(x:ByteArray):zbq (z7h ns x)/\∀ y,y∈z7h ns x↔y=x∨y∈ns:=by
 unfold z7h
 obtain⟨p1,p2,p3⟩:=zqm h x
 by_cases hc:zbx ns x < ns.length/\ns.getD (zbx ns x) ByteArray.empty=x
 ·rw[if_pos hc]
  refine⟨h,fun y=>⟨Or.inr,fun q=>q.elim (fun e=>?_) id⟩⟩
  rw[e,← hc.2,getD_lt _ hc.1]
  exact List.getElem_mem hc.1
 ·rw[if_neg hc]
  generalize zbx ns x=p at *
  refine⟨?_,fun y=>?_⟩
  ·unfold zbq
   have hsp:ns.take p++ns.drop p=ns:=List.take_append_drop p ns
   have hall:=h
   unfold zbq at hall
   rw[← hsp,List.pairwise_append] at hall
   rw[List.pairwise_append,List.pairwise_cons]
   have hlo:∀ a∈ns.take p,ltB a x=true:=fun a ha=>by
    obtain⟨i,hi,rfl⟩:=List.getElem_of_mem ha
    have hi':i < p:=by simp at hi;omega
    have hin:i < ns.length:=by omega
    have:=p2 i hi'
    rw[getD_lt _ hin] at this
    simpa using this
   have hhi:∀ b∈ns.drop p,ltB x b=true:=fun b hb=>by
    obtain⟨i,hi,rfl⟩:=List.getElem_of_mem hb
    have hin:p+i < ns.length:=by simp at hi;omega
    have h1:=p3 (p+i) (by omega) hin
    rw[getD_lt _ hin] at h1
    rw[List.getElem_drop]
    cases hq:ltB x ns[p+i] with
    |true=>rfl
    |false =>
     exfalso
     have e:=z0v h1 hq
     by_cases hi0:i=0
     ·subst hi0
      exact hc ⟨by omega,by rw[getD_lt _ (by omega)];simpa using e⟩
     ·have h2:=zm4 h (show p < p+i by omega) hin
      rw[getD_lt _ hin,e] at h2
      have h3:=p3 p (Nat.le_refl _) (by omega)
      rw[h3] at h2
      cases h2
   refine⟨hall.1,⟨hhi,hall.2.1⟩,fun a ha b hb=>?_⟩
   rcases List.mem_cons.1 hb with rfl|hb
   ·exact hlo a ha
   ·exact hall.2.2 a ha b hb
  ·have:y∈ns↔y∈ns.take p∨y∈ns.drop p:=by
    rw[← List.mem_append,List.take_append_drop]
   rw[this]
   simp only[List.mem_append,List.mem_cons]
   constructor
   ·rintro(q|q|q)
    ·exact Or.inr (Or.inl q)
    ·exact Or.inl q
    ·exact Or.inr (Or.inr q)
   ·rintro(q|q|q)
    ·exact Or.inr (Or.inl q)
    ·exact Or.inl q
    ·exact Or.inr (Or.inr q)
theorem z4q{ns:List ByteArray}(h:zbq ns)(x:ByteArray):zbq (zi1 ns x)/\∀ y,y∈zi1 ns x↔(y=x/\za1 x=false)∨y∈ns:=by
 unfold zi1
 cases hv:za1 x with
 |true=>simp[h]
 |false=>simpa using z7i h x
theorem zl2:∀(xs:List ByteArray) {ns:List ByteArray},zbq ns->zbq (xs.foldl zi1 ns)/\∀ y,y∈xs.foldl zi1 ns↔(y∈xs/\za1 y=false)∨y∈ns
 |[],ns,h=>⟨h,fun y=>by simp⟩
 |x::xs,ns,h=>by
  obtain⟨s1,s2⟩:=z4q h x
  obtain⟨i1,i2⟩:=zl2 xs s1
  refine⟨i1,fun y=>?_⟩
  rw[List.foldl_cons,i2,s2]
  simp only[List.mem_cons]
  constructor
  ·rintro(⟨q1,q2⟩|⟨rfl,q2⟩|q)
   ·exact Or.inl ⟨Or.inr q1,q2⟩
   ·exact Or.inl ⟨Or.inl rfl,q2⟩
   ·exact Or.inr q
  ·rintro(⟨rfl|q1,q2⟩|q)
   ·exact Or.inr (Or.inl ⟨rfl,q2⟩)
   ·exact Or.inl ⟨q1,q2⟩
   ·exact Or.inr (Or.inr q)
theorem zry:∀(ls:List zbb) {ns:List ByteArray},zbq ns->zbq (ls.foldl zk6 ns)/\∀ y,y∈ls.foldl zk6 ns↔(∃ l∈ls,y∈l.args/\za1 y=false)∨y∈ns
 |[],ns,h=>⟨h,fun y=>by simp⟩
 |l::ls,ns,h=>by
  obtain⟨s1,s2⟩:=zl2 l.args h
  obtain⟨i1,i2⟩:=zry ls (ns:=zk6 ns l) s1
  refine⟨i1,fun y=>?_⟩
  have s2':∀ y,y∈zk6 ns l↔(y∈l.args/\za1 y=false)∨y∈ns:=s2
  rw[List.foldl_cons,i2,s2']
  simp only[List.mem_cons,exists_eq_or_imp]
  constructor
  ·rintro(q|q|q)
   ·exact Or.inl (Or.inr q)
   ·exact Or.inl (Or.inl q)
   ·exact Or.inr q
  ·rintro((q|q)|q)
   ·exact Or.inr (Or.inl q)
   ·exact Or.inl q
   ·exact Or.inr (Or.inr q)
theorem zme:∀(cs:List zaa) {ns:List ByteArray},zbq ns->zbq (cs.foldl zdk ns)/\∀ y,y∈cs.foldl zdk ns↔(∃ c∈cs,∃ l∈zax c,y∈l.args/\za1 y=false)∨y∈ns
 |[],ns,h=>⟨h,fun y=>by simp⟩
 |c::cs,ns,h=>by
  obtain⟨s1,s2⟩:=zl2 c.head.args h
  obtain⟨b1,b2⟩:=zry c.body (ns:=zk6 ns c.head) s1
  obtain⟨i1,i2⟩:=zme cs (ns:=zdk ns c) b1
  refine⟨i1,fun y=>?_⟩
  have s2':∀ y,y∈zk6 ns c.head↔(y∈c.head.args/\za1 y=false)∨y∈ns:=s2
  have b2':∀ y,y∈zdk ns c↔(∃ l∈c.body,y∈l.args/\za1 y=false)∨y∈zk6 ns c.head:=b2
  rw[List.foldl_cons,i2,b2',s2']
  simp only[List.mem_cons,exists_eq_or_imp,zax]
  constructor
  ·rintro(q|q|q|q)
   ·exact Or.inl (Or.inr q)
   ·exact Or.inl (Or.inl (Or.inr q))
   ·exact Or.inl (Or.inl (Or.inl q))
   ·exact Or.inr q
  ·rintro(((q|q)|q)|q)
   ·exact Or.inr (Or.inr (Or.inl q))
   ·exact Or.inr (Or.inl q)
   ·exact Or.inl q
   ·exact Or.inr (Or.inr (Or.inr q))
theorem ze1(cs:List zaa):zbq (zah cs)/\∀ y,y∈zah cs↔∃ c∈cs,∃ l∈zax c,y∈l.args/\za1 y=false:=by
 obtain⟨h1,h2⟩:=zme cs (ns:=[]) List.Pairwise.nil
 exact⟨h1,fun y=>by rw[show zah cs=cs.foldl zdk [] from rfl,h2];simp⟩
end Go.Proofs.YteampbddflhngabGreat
namespace Go.Proofs.YteampbddflhngabGreat
open Classical
theorem z1v{S:zuz}(P:DB->Prop)(h0:P (zgq S.facts))(hs:∀ s k D,P D->P (zf4 (S.rules.filter fun r=>decide (r.stratum=s)) k D)){mr mx:Nat}{D:DB}{k:Nat}(h:zeq S mr mx=some (D,k)):P D:=by
 have hr:∀ s (left k:Nat) (D D':DB) (k':Nat),P D->zde (S.rules.filter fun r=>decide (r.stratum=s)) mr left k D=some (D',k')->P D':=by
  intro s left
  induction left with
  |zero=>intro k D D' k' _ h;cases h
  |succ left ih =>
   intro k D D' k' hD h
   unfold zde at h
   split at h
   ·split at h
    ·simp only[Option.some.injEq,Prod.mk.injEq] at h
     rw[← h.1];exact hs s _ D hD
    ·exact ih (k+1) _ D' k' (hs s _ D hD) h
   ·cases h
 have ht:∀(n s k:Nat) (D D':DB) (k':Nat),P D->zcz S.rules mr mx n s k D=some (D',k')->P D':=by
  intro n
  induction n with
  |zero =>
   intro s k D D' k' hD h
   unfold zcz at h
   simp only[Option.some.injEq,Prod.mk.injEq] at h
   rw[← h.1];exact hD
  |succ n ih =>
   intro s k D D' k' hD h
   unfold zcz at h
   split at h
   ·exact ih (s+1) k D D' k' hD h
   ·split at h
    ·cases h
    ·rename_i D1 k1 hq
     exact ih (s+1) k1 D1 D' k' (hr s _ k D D1 k1 hD hq) h
 unfold zeq at h
 split at h
 ·exact ht _ 0 0 _ D k h0 h
 ·cases h
def zx2(ar:List Nat)(n:Nat)(D:DB):Prop:=∀ p x,InD D p x->∀ i,i < ar.getD p 0->x.getD i 0 < n
theorem z0t{cs:List zaa}{c:zaa}(hc:c∈cs){l:zbb}(hl:l∈zax c)(t:List zam)(vs:List ByteArray)(pl:List Nat):∀ x∈(zdo t (zah cs) vs pl l).terms,x.var=false->x.num < (zah cs).length:=by
 intro x hx hv
 unfold zdo at hx
 simp only[List.mem_map] at hx
 obtain⟨z,hz,rfl⟩:=hx
 unfold zba at hz
 obtain⟨y,hy,rfl⟩:=List.mem_map.1 hz
 obtain⟨e1,e2⟩:=zfm 0 (zba (zah cs) vs pl l) (zf3 (zah cs) vs pl y)
 rw[e1] at hv
 rw[e2]
 obtain⟨r1,r2⟩:=ze1 cs
 unfold zf3 at hv ⊢
 by_cases hq:za1 y=true
 ·rw[if_pos hq] at hv;cases hv
 ·rw[if_neg hq]
  obtain⟨v,v1,v2⟩:=z4s r1 ((r2 y).2 ⟨c,hc,l,hl,hy,by simpa using hq⟩)
  rw[v1];exact v2
theorem zte{l:zal}{a W n:Nat}(h:zia l a W)(hcon:∀ x∈l.terms,x.var=false->x.num < n){y:List Nat}(hy:∀ p,zdl l p=true->y.getD p 0 < n):∀ i,i < a->(zcv l y).getD i 0 < n:=by
 intro i hi
 have hil:i < l.terms.length:=by rw[h.len];exact hi
 rw[zm5 l y (by have:=h.le3;omega)]
 unfold rowCell
 rw[if_pos hil,show l.terms.getD i ⟨false,0,0⟩=l.terms[i] by simp[List.getD,hil]]
 have hm:=List.getElem_mem hil
 unfold atT
 cases hq:l.terms[i].var with
 |true =>
  rw[if_pos (by simp[(h.lev _ hm hq).1])]
  exact hy _ ((zfr l _).2 ⟨_,hm,hq,rfl⟩)
 |false =>
  rw[if_neg (by simp)]
  exact hcon _ hm hq
theorem zyv{cs:List zaa}{t0 t:List zam}(h:Parts cs t0 t)(os:Option (List (Option (List Int))))(hp:∀ i (hi:i < cs.length),zi7 (za9 ((zd1 os i).getD [])) (zaf cs[i]).length){mr mx:Nat}{D:DB}{k:Nat}(hr:zeq (zf2 t (zah cs) os cs) mr mx=some (D,k)):zx2 (t.map (·.arity)) (zah cs).length D:=by
 have hset:=z9i h (zah cs) os hp
 refine z1v (S:=zf2 t (zah cs) os cs) (fun D=>zx2 (t.map (·.arity)) (zah cs).length D) ?_ ?_ hr
 ·intro p x hx i hi
  unfold InD zgq at hx
  split at hx
  ·rename_i hf
   obtain⟨f,f1,rfl,rfl⟩:=hf
   have f1':f∈zc1 t (zah cs) cs:=f1
   unfold zc1 at f1'
   obtain⟨c,hc,rfl⟩:=List.mem_map.1 f1'
   have hcm:=(List.mem_filter.1 hc).1
   have hb:c.body=[]:=by
    have:=(List.mem_filter.1 hc).2
    simp at this
    exact this
   obtain⟨e,_,_,q3,q4,_⟩:=h.lit hcm (l:=c.head) (by simp[zax])
   have hi':i < c.head.args.length:=by
    have hi2:i < (t.map (·.arity)).getD (zbi t c.head.pred) 0:=hi
    rw[q4] at hi2
    exact hi2
   have hwf:zia (zdo t (zah cs) [] [0,0,0,0,0] c.head) c.head.args.length (za8 (zah cs).length):=zua t _ [] _ c.head (fun k=>by
    by_cases hk:k < 5
    ·have:k=0∨k=1∨k=2∨k=3∨k=4:=by omega
     rcases this with rfl|rfl|rfl|rfl|rfl <;> decide
    ·simp[List.getD,List.getElem?_eq_none (show([0,0,0,0,0]:List Nat).length<=k by simp;omega)]) (zf9 (h.many c hcm)).1
   refine zte hwf (z0t hcm (by simp[zax]) t [] _) (fun p hpp=>?_) i hi'
   obtain⟨y,y1,y2,_⟩:=zp7.1 hpp
   have hs:=h.safe c hcm
   simp only[zeh,Bool.and_eq_true] at hs
   have:=zj2.1 hs.1 y y1 y2
   have hnil:zaf c=[]:=by unfold zaf;rw[hb];rfl
   rw[hnil] at this
   cases this
  ·cases hx
 ·intro s k D hD p x hx i hi
  unfold InD zf4 at hx
  cases hq:D p x with
  |some m=>exact hD p x (by unfold InD;rw[hq];rfl) i hi
  |none =>
   rw[hq] at hx
   simp only at hx
   split at hx
   ·rename_i hst
    obtain⟨r,hr1,rfl,y,y1,y2,rfl⟩:=hst
    have hrm:r∈zed t (zah cs) os cs:=(List.mem_filter.1 hr1).1
    have hwf:=hset.rules.rules r hrm
    unfold zed at hrm
    obtain⟨⟨c,j⟩,h1,h2⟩:=List.mem_filterMap.1 hrm
    have h3:=List.mem_zipIdx_iff_getElem?.1 h1
    simp only at h2 h3
    have hcm:=List.mem_of_getElem? h3
    split at h2
    ·simp only[Option.some.injEq] at h2
     subst h2
     refine zte hwf.head (z0t hcm (by simp[zax]) t _ _) (fun p hpp=>?_) i hi
     obtain⟨l,l1,l2⟩:=hwf.fine.safe p (hwf.fine.head p hpp)
     obtain⟨tm,t1,t2,t3⟩:=(zfr l p).1 l2
     obtain⟨i2,hi2,rfl⟩:=List.getElem_of_mem t1
     obtain⟨w1,w2⟩:=hwf.plain l l1
     have:=hD l.pred (zcv l y) (y1 l l1) i2 (by have:=w2.len;have hq:i2 < l.terms.length:=hi2;rw[this] at hq;exact hq)
     rw[zm5 l y (by have:=w2.len;have:=w2.le3;omega)] at this
     unfold rowCell at this
     rw[if_pos hi2,show l.terms.getD i2 ⟨false,0,0⟩=l.terms[i2] by simp[List.getD,hi2]] at this
     unfold atT at this
     rw[if_pos (by simp[t2,(w2.lev _ t1 t2).1]),t3] at this
     exact this
    ·cases h2
   ·cases hx
theorem zn0{ns:List ByteArray}(hr:zbq ns){ar:Nat}(h3:ar<=3){r:zar}(hc:Canon ar r)(hi:∀ i,i < ar->r.getD i 0 < ns.length):zun ns (za4 ns r ar 3) 0 [0,0,0]=some r:=by
 obtain⟨x,y,z,rfl⟩:∃ x y z,r=[x,y,z]:=by
  match r,hc.1 with
  |[x,y,z],_=>exact⟨x,y,z,rfl⟩
 have e0:∀ i,ar<=i->([x,y,z]:zar).getD i 0=0:=hc.2
 have hv:∀ i,i < ar->zc6 ns (ns.getD (([x,y,z]:zar).getD i 0) ByteArray.empty)=some (([x,y,z]:zar).getD i 0):=fun i q=>zxq hr (hi i q)
 have h4:ar=0∨ar=1∨ar=2∨ar=3:=by omega
 rcases h4 with rfl|rfl|rfl|rfl
 ·have a:=e0 0 (by omega);have b:=e0 1 (by omega);have c:=e0 2 (by omega)
  simp at a b c
  subst a;subst b;subst c
  rfl
 ·have b:=e0 1 (by omega);have c:=e0 2 (by omega)
  simp at b c
  subst b;subst c
  have v0:zc6 ns (ns[x]?.getD ByteArray.empty)=some x:=by have:=hv 0 (by omega);simpa using this
  simp[za4,zun,v0]
 ·have c:=e0 2 (by omega)
  simp at c
  subst c
  have v0:zc6 ns (ns[x]?.getD ByteArray.empty)=some x:=by have:=hv 0 (by omega);simpa using this
  have v1:zc6 ns (ns[y]?.getD ByteArray.empty)=some y:=by have:=hv 1 (by omega);simpa using this
  simp[za4,zun,v0,v1,List.range_succ]
 ·have v0:zc6 ns (ns[x]?.getD ByteArray.empty)=some x:=by have:=hv 0 (by omega);simpa using this
  have v1:zc6 ns (ns[y]?.getD ByteArray.empty)=some y:=by have:=hv 1 (by omega);simpa using this
  have v2:zc6 ns (ns[z]?.getD ByteArray.empty)=some z:=by have:=hv 2 (by omega);simpa using this
  simp[za4,zun,v0,v1,v2,List.range_succ]
end Go.Proofs.YteampbddflhngabGreat
namespace Go.Proofs.YteampbddflhngabGreat
set_option maxRecDepth 100000
set_option maxHeartbeats 4000000
open Go.RowKit
theorem yas{s:ByteArray}{n:Int}(h:zg8 s=.error n):n≠0:=by
 unfold zg8 at h
 repeat'(split at h)
 all_goals (simp only[Except.error.injEq,reduceCtorEq] at h)
 all_goals (subst h;decide)
def bPa:ByteArray:=⟨#[112,40,97,41,46]⟩
theorem yc5:∃ x,zg8 bPa=.ok x:=by
 have h:(match zg8 bPa with|.ok _=>true|.error _=>false)=true:=by decide +kernel
 cases hq:zg8 bPa with
 |ok x=>exact⟨x,rfl⟩
 |error n=>rw[hq] at h;cases h
def zot(s:ByteArray)(w:World)(e:Ending)(w':World):Prop:=match zg8 s with
 |.error _=>e=.returned (.tuple #[.pointer none,.bool true])/\Below w.heap.size w w'
 |.ok (cs,t)=>∃ db pb,w.heap.size<=db/\e=.returned (.tuple #[.pointer (some ⟨db,0,none⟩),.bool true])/\Box w' db #[.pointer (some ⟨pb,0,none⟩),.string s] 37/\zg7 w.heap.size w' pb cs t/\Below w.heap.size w w'
theorem z7n(w:World)(s:ByteArray)(hs:s.size<=9223372036854775807) :
  Calls Tryz.prog 10 #[.string s] w fun e w'=>zot s w e w':=by
 unfold zot
 cases hc:zg8 s with
 |error n =>
  have hn:=yas hc
  have HCO:Hid (Calls Tryz.prog 19 #[.string s] w fun e w'=>e=.returned (.tuple #[.pointer none,.int .i64 n])/\Below w.heap.size w w'):=by
   refine(zhk s w hs).mono ?_
   rintro e w' ⟨hb,h2⟩
   rw[hc] at h2
   exact⟨h2,hb⟩
  have HPA:Hid (∀ W,Calls Tryz.prog 19 #[.string ⟨#[112,40,97,41,46]⟩] W fun e w'=>∃ pb,e=.returned (.tuple #[.pointer (some ⟨pb,0,none⟩),.int .i64 0])/\Below W.heap.size W w'):=fun W=>by
   obtain⟨⟨cs,t⟩,hx⟩:=yc5
   refine(zhk bPa W (by decide)).mono ?_
   rintro e w' ⟨hb,h2⟩
   rw[hx] at h2
   obtain⟨pb,v,pv,h3,_⟩:=h2
   exact⟨pb,h3,hb⟩
  have hnb:(n == 0)=false:=by simp[hn]
  clear hc
  go_enter Tryz.func10,Tryz.ntmps10
  go_upto_region 2 with (first|(go_at_call 19;refine HCO.out.mono ?_;rintro e w1 ⟨rfl,hb1⟩))
  go_wp2_with (first|(go_at_call 19;refine(HPA.out _).mono ?_;rintro e w2 ⟨pb,rfl,hb2⟩))
  go_ret2
  exact⟨by simp[hn],zae hb1 hb2 (Nat.le_refl _)⟩
 |ok x =>
  obtain⟨cs,t⟩:=x
  have HCO:Hid (Calls Tryz.prog 19 #[.string s] w fun e w'=>∃ pb,e=.returned (.tuple #[.pointer (some ⟨pb,0,none⟩),.int .i64 0])/\Hid (zg7 w.heap.size w' pb cs t)/\Below w.heap.size w w'):=by
   refine(zhk s w hs).mono ?_
   rintro e w' ⟨hb,h2⟩
   rw[hc] at h2
   obtain⟨pb,v,pv,h3,h4,h5,h6,h7⟩:=h2
   exact⟨pb,h3,⟨h7,v,pv,h4,h5,h6⟩,hb⟩
  clear hc
  go_enter Tryz.func10,Tryz.ntmps10
  go_wp2_with (first|(go_at_call 19;refine HCO.out.mono ?_;rintro e w1 ⟨pb,rfl,HP1,hb1⟩))
  have hg:Below w1.heap.size w1 (w1.alloc (.cells #[.pointer (some ⟨pb,0,none⟩),.string s] 37)):=(by go_grown)
  go_ret2
  exact⟨w1.heap.size,pb,hb1.size,rfl,Box.new _ _ _,HP1.out.below hg,zae hb1 hg (Nat.le_refl _)⟩
end Go.Proofs.YteampbddflhngabGreat
