import Derived.Test.YteampbddflhngaaGreatS40
import Derived.Test.YteampbddflhngaaGreatS32
import Derived.Test.YteampbddflhngaaGreatS31

namespace Go.Proofs.YteampbddflhngaaGreat
open Classical
def zs6(ns:List ByteArray)(σ:ByteArray->Nat)(l:zb2)(i:Nat):Nat:=match l.args[i]? with
 |none=>0
 |some y=>if za9 y=true then σ y else(zc0 ns y).getD 0
def z7e(ns:List ByteArray)(σ:ByteArray->Nat)(l:zb2):zao:=[zs6 ns σ l 0,zs6 ns σ l 1,zs6 ns σ l 2]
theorem zow{vs:List ByteArray}{pl:List Nat}(hp:∀ k,pl.getD k 0 < 5)(n:ByteArray):zdh vs pl n < 5:=by
 unfold zdh
 split
 ·omega
 ·split
  ·omega
  ·exact hp _
theorem z1r(t:List zaq)(ns vs:List ByteArray){pl:List Nat}(hp:∀ k,pl.getD k 0 < 5)(l:zb2)(y:List Nat)(i:Nat):rowCell (zdg t ns vs pl l) y i=zs6 ns (fun v=>y.getD (zdh vs pl v) 0) l i:=by
 unfold rowCell zs6
 by_cases h:i < l.args.length
 ·have h2:i < (zdg t ns vs pl l).terms.length:=by simp[zdg,za5];exact h
  rw[if_pos h2,List.getElem?_eq_getElem h,getD_lt _ h2]
  have e:(zdg t ns vs pl l).terms[i]=zc3 0 (za5 ns vs pl l) (zfp ns vs pl l.args[i]):=by simp[zdg,za5]
  obtain⟨e1,e2⟩:=zfd 0 (za5 ns vs pl l) (zfp ns vs pl l.args[i])
  rw[e]
  unfold atT
  rw[e1,e2]
  unfold zfp
  by_cases hv:za9 l.args[i]=true
  ·have:=zow (vs:=vs) hp l.args[i]
   simp[hv,this]
  ·simp[hv]
 ·have h2:¬ i < (zdg t ns vs pl l).terms.length:=by simp[zdg,za5];omega
  rw[if_neg h2,List.getElem?_eq_none (by omega)]
theorem znk(t:List zaq)(ns vs:List ByteArray){pl:List Nat}(hp:∀ k,pl.getD k 0 < 5)(l:zb2)(y:List Nat):zcs (zdg t ns vs pl l) y=z7e ns (fun v=>y.getD (zdh vs pl v) 0) l:=by
 simp only[zcs,z7e,z1r t ns vs hp]
theorem z0l{ns:List ByteArray}{σ τ:ByteArray->Nat}{l:zb2}(h:∀ y∈l.args,za9 y=true->σ y=τ y):z7e ns σ l=z7e ns τ l:=by
 have:∀ i,zs6 ns σ l i=zs6 ns τ l i:=by
  intro i
  unfold zs6
  cases hq:l.args[i]? with
  |none=>rfl
  |some y =>
   have hm:=List.mem_of_getElem? hq
   by_cases hv:za9 y=true
   ·simp only[hv,if_true];exact h y hm hv
   ·simp[hv]
 simp only[z7e,this]
def z98(t:List zaq)(ns:List ByteArray)(c:zab)(D:DB)(x:zao):Prop:=∃ σ,(∀ l∈c.body,l.neg=false->InD D (zbe t l.pred) (z7e ns σ l))/\(∀ l∈c.body,l.neg=true->D (zbe t l.pred) (z7e ns σ l)=none)/\x=z7e ns σ c.head
theorem z6x{k:Nat}{f:Nat->Nat}(h:∀ p,p < k->∃ i,i < k/\f i=p){i j:Nat}(hi:i < k)(hj:j < k)(e:f i=f j):i=j:=by
 by_cases hne:i=j
 ·exact hne
 ·have:=zhw (l1:=List.range k) (l2:=((List.range k).erase j).map f) List.nodup_range (fun p hp=>by
   obtain⟨a,ha,hf⟩:=h p (List.mem_range.1 hp)
   by_cases haj:a=j
   ·exact List.mem_map.2 ⟨i,(List.mem_erase_of_ne hne).2 (List.mem_range.2 hi),by rw[e,← haj,hf]⟩
   ·exact List.mem_map.2 ⟨a,(List.mem_erase_of_ne haj).2 (List.mem_range.2 ha),hf⟩)
  rw[List.length_map,List.length_erase_of_mem (List.mem_range.2 hj),List.length_range] at this
  omega
theorem z0b{vs:List ByteArray}{pl:List Nat}(h5:vs.length<=5)(hp:ziq pl vs.length){u v:ByteArray}(hu:u∈vs)(hv:v∈vs)(e:zdh vs pl u=zdh vs pl v):u=v:=by
 obtain⟨i,i1,i2⟩:=zib hu
 obtain⟨j,j1,j2⟩:=zib hv
 unfold zdh at e
 rw[i2,j2] at e
 simp only at e
 rw[if_neg (by omega),if_neg (by omega)] at e
 have:=z6x hp.onto i1 j1 e
 subst this
 obtain⟨_,a⟩:=zi8 i2
 obtain⟨_,b⟩:=zi8 j2
 rw[← a,← b]
theorem z2c{t:List zaq}{ns:List ByteArray}{c:zab}{o:Option (List Int)}{D:DB}{x:zao}(hv:∀ l∈za3 c,∀ y∈l.args,za9 y=true->y∈zaf c)(h5:(zaf c).length<=5)(hp:ziq (za6 (o.getD [])) (zaf c).length):Der (zls t ns c o) D x↔z98 t ns c D x:=by
 constructor
 ·rintro⟨y,h1,h2,h3⟩
  refine⟨fun v=>y.getD (zdh (zaf c) (za6 (o.getD [])) v) 0,fun l hl hn=>?_,fun l hl hn=>?_,?_⟩
  ·have:=h1 (zdg t ns (zaf c) (za6 (o.getD [])) l) (List.mem_map.2 ⟨l,List.mem_filter.2 ⟨hl,by simp[hn]⟩,rfl⟩)
   rw[znk t ns _ hp.five] at this
   exact this
  ·have:=h2 (zdg t ns (zaf c) (za6 (o.getD [])) l) (List.mem_map.2 ⟨l,List.mem_filter.2 ⟨hl,by simp[hn]⟩,rfl⟩)
   rw[znk t ns _ hp.five] at this
   exact this
  ·rw[h3]
   exact znk t ns _ hp.five _ _
 ·rintro⟨σ,h1,h2,h3⟩
  let yf:Nat->Nat:=fun p=>if hq:∃ v,v∈zaf c/\zdh (zaf c) (za6 (o.getD [])) v=p then σ hq.choose else 0
  have hyf:∀ v∈zaf c,yf (zdh (zaf c) (za6 (o.getD [])) v)=σ v:=by
   intro v hv'
   have hq:∃ u,u∈zaf c/\zdh (zaf c) (za6 (o.getD [])) u=zdh (zaf c) (za6 (o.getD [])) v:=⟨v,hv',rfl⟩
   show(if hq:∃ u,u∈zaf c/\zdh (zaf c) (za6 (o.getD [])) u=zdh (zaf c) (za6 (o.getD [])) v then σ hq.choose else 0)=σ v
   rw[dif_pos hq,z0b h5 hp hq.choose_spec.1 hv' hq.choose_spec.2]
  have hy:∀ p,p < 5->((List.range 5).map yf).getD p 0=yf p:=by
   intro p hp5
   rw[getD_lt _ (by simp;exact hp5)]
   simp
  have hrow:∀ l∈za3 c,zcs (zdg t ns (zaf c) (za6 (o.getD [])) l) ((List.range 5).map yf)=z7e ns σ l:=by
   intro l hl
   rw[znk t ns _ hp.five]
   refine z0l fun y hy' hvy=>?_
   rw[hy _ (zow hp.five _),hyf y (hv l hl y hy' hvy)]
  refine⟨(List.range 5).map yf,fun l hl=>?_,fun l hl=>?_,?_⟩
  ·obtain⟨z,hz,rfl⟩:=List.mem_map.1 hl
   obtain⟨z1,z2⟩:=List.mem_filter.1 hz
   rw[hrow z (by simp[za3,z1])]
   exact h1 z z1 (by simpa using z2)
  ·obtain⟨z,hz,rfl⟩:=List.mem_map.1 hl
   obtain⟨z1,z2⟩:=List.mem_filter.1 hz
   rw[hrow z (by simp[za3,z1])]
   exact h2 z z1 (by simpa using z2)
  ·rw[h3]
   exact(hrow c.head (by simp[za3])).symm
theorem Parts.covered{cs:List zab}{t0 t:List zaq}(h:Parts cs t0 t){c:zab}(hc:c∈cs):∀ l∈za3 c,∀ y∈l.args,za9 y=true->y∈zaf c:=by
 have hs:=h.safe c hc
 simp only[ze7,Bool.and_eq_true,List.all_eq_true,Bool.or_eq_true,Bool.not_eq_true'] at hs
 intro l hl y hy hv
 rcases List.mem_cons.1 hl with rfl|hl
 ·exact zix.1 hs.1 y hy hv
 ·cases hn:l.neg with
  |false=>exact zh8.2 ⟨hv,l,hl,hn,hy⟩
  |true =>
   rcases hs.2 l hl with q|q
   ·rw[hn] at q;cases q
   ·exact zix.1 q y hy hv
def z92(t:List zaq)(ns:List ByteArray)(cs:List zab)(s:Nat)(D:DB)(p:Nat)(x:zao):Prop:=∃ c∈cs,0 < c.body.length/\zdx t c.head.pred=s/\p=zbe t c.head.pred/\z98 t ns c D x
theorem zql{t:List zaq}{ns:List ByteArray}{os:Option (List (Option (List Int)))}{cs:List zab}{r:zah}:r∈zeu t ns os cs↔∃ i,∃ hi:i < cs.length,0 < cs[i].body.length/\r=zls t ns cs[i] (zd4 os i):=by
 unfold zeu
 rw[List.mem_filterMap]
 constructor
 ·rintro⟨⟨c,i⟩,h1,h2⟩
  have h3:=List.mem_zipIdx_iff_getElem?.1 h1
  simp only at h2 h3
  obtain⟨hi,rfl⟩:=List.getElem?_eq_some_iff.1 h3
  split at h2
  ·rename_i hb
   simp only[Option.some.injEq] at h2
   exact⟨i,hi,hb,h2.symm⟩
  ·cases h2
 ·rintro⟨i,hi,hb,rfl⟩
  refine⟨(cs[i],i),List.mem_zipIdx_iff_getElem?.2 (by simp[hi]),?_⟩
  simp only
  rw[if_pos hb]
theorem z9z{cs:List zab}{t0 t:List zaq}(h:Parts cs t0 t)(ns:List ByteArray)(os:Option (List (Option (List Int))))(hp:∀ i (hi:i < cs.length),ziq (za6 ((zd4 os i).getD [])) (zaf cs[i]).length)(s:Nat)(D:DB)(p:Nat)(x:zao):zky ((zeu t ns os cs).filter fun r=>decide (r.stratum=s)) D p x↔z92 t ns cs s D p x:=by
 constructor
 ·rintro⟨r,hr,h1,h2⟩
  obtain⟨r1,r2⟩:=List.mem_filter.1 hr
  obtain⟨i,hi,hb,rfl⟩:=zql.1 r1
  have hc:=List.getElem_mem hi
  exact⟨cs[i],hc,hb,of_decide_eq_true r2,h1,(z2c (h.covered hc) (zgb (h.many _ hc)) (hp i hi)).1 h2⟩
 ·rintro⟨c,hc,hb,h1,h2,h3⟩
  obtain⟨i,hi,rfl⟩:=List.mem_iff_getElem.1 hc
  exact⟨zls t ns cs[i] (zd4 os i),List.mem_filter.2 ⟨zql.2 ⟨i,hi,hb,rfl⟩,decide_eq_true h1⟩,h2,(z2c (h.covered hc) (zgb (h.many _ hc)) (hp i hi)).2 h3⟩
theorem zwu{rs rs':List zah}(h:∀ D p x,zky rs D p x↔zky rs' D p x)(k:Nat)(D:DB):zfq rs k D=zfq rs' k D:=by
 funext p x
 unfold zfq
 cases D p x with
 |some m=>rfl
 |none=>simp only[h D p x]
theorem zjz{rs rs':List zah}(h:∀ D p x,zky rs D p x↔zky rs' D p x)(mr:Nat):∀ left k D,zc9 rs mr left k D=zc9 rs' mr left k D
 |0,_,_=>rfl
 |left+1,k,D=>by
  unfold zc9
  rw[zwu h,zjz h mr left]
theorem zpg{rs rs':List zah}(h:∀ s D p x,zky (rs.filter fun r=>decide (r.stratum=s)) D p x↔zky (rs'.filter fun r=>decide (r.stratum=s)) D p x)(he:∀ s,(rs.filter fun r=>decide (r.stratum=s))=[]↔(rs'.filter fun r=>decide (r.stratum=s))=[])(mr mx:Nat):∀ n s k D,zdm rs mr mx n s k D=zdm rs' mr mx n s k D
 |0,_,_,_=>rfl
 |n+1,s,k,D=>by
  unfold zdm
  simp only[he s,zjz (h s) mr,zpg h he mr mx n]
end Go.Proofs.YteampbddflhngaaGreat
namespace Go.Proofs.YteampbddflhngaaGreat
theorem zlq{ns:List ByteArray}(h:zcb ns){i j:Nat}(hij:i < j)(hj:j < ns.length):ltB (ns.getD i ByteArray.empty) (ns.getD j ByteArray.empty)=true:=by
 have hi:i < ns.length:=by omega
 rw[getD_lt _ hi,getD_lt _ hj]
 exact List.pairwise_iff_getElem.1 h i j hi hj hij
theorem zv8{ns:List ByteArray}(h:zcb ns)(x:ByteArray):∀(n l hh:Nat),l<=hh->hh<=ns.length->hh - l < n->(∀ i,i < l->ltB (ns.getD i ByteArray.empty) x=true)->(∀ i,hh<=i->i < ns.length->ltB (ns.getD i ByteArray.empty) x=false)->halves ns x n l hh<=ns.length/\(∀ i,i < halves ns x n l hh->ltB (ns.getD i ByteArray.empty) x=true)/\∀ i,halves ns x n l hh<=i->i < ns.length->ltB (ns.getD i ByteArray.empty) x=false:=by
 intro n
 induction n with
 |zero=>intro l hh _ _ q;omega
 |succ n ih =>
  intro l hh h1 h2 h3 h4 h5
  unfold halves
  by_cases hlt:l < hh
  ·rw[if_pos hlt]
   have hm:l+(hh - l) / 2 < hh:=by omega
   have hml:l<=l+(hh - l) / 2:=by omega
   generalize l+(hh - l) / 2=m at *
   by_cases hL:ltB (ns.getD m ByteArray.empty) x=true
   ·rw[if_pos hL]
    refine ih (m+1) hh (by omega) h2 (by omega) (fun i hi=>?_) h5
    by_cases him:i=m
    ·rw[him];exact hL
    ·exact lt_trans (zlq h (show i < m by omega) (by omega)) hL
   ·rw[if_neg hL]
    have hL':ltB (ns.getD m ByteArray.empty) x=false:=by simpa using hL
    refine ih l m hml (by omega) (by omega) h4 (fun i hi hn=>?_)
    by_cases him:i=m
    ·rw[him];exact hL'
    ·cases hq:ltB (ns.getD i ByteArray.empty) x with
     |false=>rfl
     |true =>
      have:=lt_trans (zlq h (show m < i by omega) hn) hq
      rw[this] at hL'
      cases hL'
  ·rw[if_neg hlt]
   exact⟨by omega,h4,fun i hi hn=>h5 i (by omega) hn⟩
theorem zot{ns:List ByteArray}(h:zcb ns)(x:ByteArray):zbt ns x<=ns.length/\(∀ i,i < zbt ns x->ltB (ns.getD i ByteArray.empty) x=true)/\∀ i,zbt ns x<=i->i < ns.length->ltB (ns.getD i ByteArray.empty) x=false :=
 zv8 h x _ 0 ns.length (Nat.zero_le _) (Nat.le_refl _) (by omega) (fun i hi=>by omega) (fun i hi hn=>by omega)
theorem zu9{ns:List ByteArray}(h:zcb ns){v:Nat}(hv:v < ns.length):zc0 ns (ns.getD v ByteArray.empty)=some v:=by
 obtain⟨p1,p2,p3⟩:=zot h (ns.getD v ByteArray.empty)
 have hp:zbt ns (ns.getD v ByteArray.empty)=v:=by
  rcases Nat.lt_trichotomy (zbt ns (ns.getD v ByteArray.empty)) v with q|q|q
  ·have:=p3 _ (Nat.le_refl _) (by omega)
   rw[zlq h q hv] at this
   cases this
  ·exact q
  ·have:=p2 v q
   rw[lt_irrefl] at this
   cases this
 unfold zc0
 rw[hp,if_pos ⟨hv,rfl⟩]
theorem z0w{ns:List ByteArray}(h:zcb ns){x:ByteArray}(hx:x∈ns):∃ v,zc0 ns x=some v/\v < ns.length:=by
 obtain⟨v,hv,rfl⟩:=List.getElem_of_mem hx
 have:=zu9 h hv
 rw[getD_lt _ hv] at this
 exact⟨v,this,hv⟩
theorem z2v{ns:List ByteArray}(h:zcb ns)(x:ByteArray):zcb (z2u ns x)/\∀ y,y∈z2u ns x↔y=x∨y∈ns:=by
 unfold z2u
 obtain⟨p1,p2,p3⟩:=zot h x
 by_cases hc:zbt ns x < ns.length/\ns.getD (zbt ns x) ByteArray.empty=x
 ·rw[if_pos hc]
  refine⟨h,fun y=>⟨Or.inr,fun q=>q.elim (fun e=>?_) id⟩⟩
  rw[e,← hc.2,getD_lt _ hc.1]
  exact List.getElem_mem hc.1
 ·rw[if_neg hc]
  generalize zbt ns x=p at *
  refine⟨?_,fun y=>?_⟩
  ·unfold zcb
   have hsp:ns.take p++ns.drop p=ns:=List.take_append_drop p ns
   have hall:=h
   unfold zcb at hall
   rw[← hsp,List.pairwise_append] at hall
   rw[List.pairwise_append,List.pairwise_cons]
   have hlo:∀ a∈ns.take p,ltB a x=true:=fun a ha=>by
    obtain⟨i,hi,rfl⟩:=List.getElem_of_mem ha
    have hi':i < p:=by simp at hi;omega
    have hin:i < ns.length:=by omega
    have:=p2 i hi'
    rw[getD_lt _ hin] at this
    simpa using this
   have hhi:∀ b∈ns.drop p,ltB x b=true:=fun b hb=>by
    obtain⟨i,hi,rfl⟩:=List.getElem_of_mem hb
    have hin:p+i < ns.length:=by simp at hi;omega
    have h1:=p3 (p+i) (by omega) hin
    rw[getD_lt _ hin] at h1
    rw[List.getElem_drop]
    cases hq:ltB x ns[p+i] with
    |true=>rfl
    |false =>
     exfalso
     have e:=zx5 h1 hq
     by_cases hi0:i=0
     ·subst hi0
      exact hc ⟨by omega,by rw[getD_lt _ (by omega)];simpa using e⟩
     ·have h2:=zlq h (show p < p+i by omega) hin
      rw[getD_lt _ hin,e] at h2
      have h3:=p3 p (Nat.le_refl _) (by omega)
      rw[h3] at h2
      cases h2
   refine⟨hall.1,⟨hhi,hall.2.1⟩,fun a ha b hb=>?_⟩
   rcases List.mem_cons.1 hb with rfl|hb
   ·exact hlo a ha
   ·exact hall.2.2 a ha b hb
  ·have:y∈ns↔y∈ns.take p∨y∈ns.drop p:=by
    rw[← List.mem_append,List.take_append_drop]
   rw[this]
   simp only[List.mem_append,List.mem_cons]
   constructor
   ·rintro(q|q|q)
    ·exact Or.inr (Or.inl q)
    ·exact Or.inl q
    ·exact Or.inr (Or.inr q)
   ·rintro(q|q|q)
    ·exact Or.inr (Or.inl q)
    ·exact Or.inl q
    ·exact Or.inr (Or.inr q)
theorem z0u{ns:List ByteArray}(h:zcb ns)(x:ByteArray):zcb (zh0 ns x)/\∀ y,y∈zh0 ns x↔(y=x/\za9 x=false)∨y∈ns:=by
 unfold zh0
 cases hv:za9 x with
 |true=>simp[h]
 |false=>simpa using z2v h x
theorem zks:∀(xs:List ByteArray) {ns:List ByteArray},zcb ns->zcb (xs.foldl zh0 ns)/\∀ y,y∈xs.foldl zh0 ns↔(y∈xs/\za9 y=false)∨y∈ns
 |[],ns,h=>⟨h,fun y=>by simp⟩
 |x::xs,ns,h=>by
  obtain⟨s1,s2⟩:=z0u h x
  obtain⟨i1,i2⟩:=zks xs s1
  refine⟨i1,fun y=>?_⟩
  rw[List.foldl_cons,i2,s2]
  simp only[List.mem_cons]
  constructor
  ·rintro(⟨q1,q2⟩|⟨rfl,q2⟩|q)
   ·exact Or.inl ⟨Or.inr q1,q2⟩
   ·exact Or.inl ⟨Or.inl rfl,q2⟩
   ·exact Or.inr q
  ·rintro(⟨rfl|q1,q2⟩|q)
   ·exact Or.inr (Or.inl ⟨rfl,q2⟩)
   ·exact Or.inl ⟨q1,q2⟩
   ·exact Or.inr (Or.inr q)
theorem zpv:∀(ls:List zb2) {ns:List ByteArray},zcb ns->zcb (ls.foldl zju ns)/\∀ y,y∈ls.foldl zju ns↔(∃ l∈ls,y∈l.args/\za9 y=false)∨y∈ns
 |[],ns,h=>⟨h,fun y=>by simp⟩
 |l::ls,ns,h=>by
  obtain⟨s1,s2⟩:=zks l.args h
  obtain⟨i1,i2⟩:=zpv ls (ns:=zju ns l) s1
  refine⟨i1,fun y=>?_⟩
  have s2':∀ y,y∈zju ns l↔(y∈l.args/\za9 y=false)∨y∈ns:=s2
  rw[List.foldl_cons,i2,s2']
  simp only[List.mem_cons,exists_eq_or_imp]
  constructor
  ·rintro(q|q|q)
   ·exact Or.inl (Or.inr q)
   ·exact Or.inl (Or.inl q)
   ·exact Or.inr q
  ·rintro((q|q)|q)
   ·exact Or.inr (Or.inl q)
   ·exact Or.inl q
   ·exact Or.inr (Or.inr q)
theorem zk1:∀(cs:List zab) {ns:List ByteArray},zcb ns->zcb (cs.foldl zde ns)/\∀ y,y∈cs.foldl zde ns↔(∃ c∈cs,∃ l∈za3 c,y∈l.args/\za9 y=false)∨y∈ns
 |[],ns,h=>⟨h,fun y=>by simp⟩
 |c::cs,ns,h=>by
  obtain⟨s1,s2⟩:=zks c.head.args h
  obtain⟨b1,b2⟩:=zpv c.body (ns:=zju ns c.head) s1
  obtain⟨i1,i2⟩:=zk1 cs (ns:=zde ns c) b1
  refine⟨i1,fun y=>?_⟩
  have s2':∀ y,y∈zju ns c.head↔(y∈c.head.args/\za9 y=false)∨y∈ns:=s2
  have b2':∀ y,y∈zde ns c↔(∃ l∈c.body,y∈l.args/\za9 y=false)∨y∈zju ns c.head:=b2
  rw[List.foldl_cons,i2,b2',s2']
  simp only[List.mem_cons,exists_eq_or_imp,za3]
  constructor
  ·rintro(q|q|q|q)
   ·exact Or.inl (Or.inr q)
   ·exact Or.inl (Or.inl (Or.inr q))
   ·exact Or.inl (Or.inl (Or.inl q))
   ·exact Or.inr q
  ·rintro(((q|q)|q)|q)
   ·exact Or.inr (Or.inr (Or.inl q))
   ·exact Or.inr (Or.inl q)
   ·exact Or.inl q
   ·exact Or.inr (Or.inr (Or.inr q))
theorem zk2(cs:List zab):zcb (zaw cs)/\∀ y,y∈zaw cs↔∃ c∈cs,∃ l∈za3 c,y∈l.args/\za9 y=false:=by
 obtain⟨h1,h2⟩:=zk1 cs (ns:=[]) List.Pairwise.nil
 exact⟨h1,fun y=>by rw[show zaw cs=cs.foldl zde [] from rfl,h2];simp⟩
end Go.Proofs.YteampbddflhngaaGreat
namespace Go.Proofs.YteampbddflhngaaGreat
open Classical
theorem zyu{S:zsg}(P:DB->Prop)(h0:P (zj1 S.facts))(hs:∀ s k D,P D->P (zfq (S.rules.filter fun r=>decide (r.stratum=s)) k D)){mr mx:Nat}{D:DB}{k:Nat}(h:zj0 S mr mx=some (D,k)):P D:=by
 have hr:∀ s (left k:Nat) (D D':DB) (k':Nat),P D->zc9 (S.rules.filter fun r=>decide (r.stratum=s)) mr left k D=some (D',k')->P D':=by
  intro s left
  induction left with
  |zero=>intro k D D' k' _ h;cases h
  |succ left ih =>
   intro k D D' k' hD h
   unfold zc9 at h
   split at h
   ·split at h
    ·simp only[Option.some.injEq,Prod.mk.injEq] at h
     rw[← h.1];exact hs s _ D hD
    ·exact ih (k+1) _ D' k' (hs s _ D hD) h
   ·cases h
 have ht:∀(n s k:Nat) (D D':DB) (k':Nat),P D->zdm S.rules mr mx n s k D=some (D',k')->P D':=by
  intro n
  induction n with
  |zero =>
   intro s k D D' k' hD h
   unfold zdm at h
   simp only[Option.some.injEq,Prod.mk.injEq] at h
   rw[← h.1];exact hD
  |succ n ih =>
   intro s k D D' k' hD h
   unfold zdm at h
   split at h
   ·exact ih (s+1) k D D' k' hD h
   ·split at h
    ·cases h
    ·rename_i D1 k1 hq
     exact ih (s+1) k1 D1 D' k' (hr s _ k D D1 k1 hD hq) h
 unfold zj0 at h
 split at h
 ·exact ht _ 0 0 _ D k h0 h
 ·cases h
def zvj(ar:List Nat)(n:Nat)(D:DB):Prop:=∀ p x,InD D p x->∀ i,i < ar.getD p 0->x.getD i 0 < n
theorem zx4{cs:List zab}{c:zab}(hc:c∈cs){l:zb2}(hl:l∈za3 c)(t:List zaq)(vs:List ByteArray)(pl:List Nat):∀ x∈(zdg t (zaw cs) vs pl l).terms,x.var=false->x.num < (zaw cs).length:=by
 intro x hx hv
 unfold zdg at hx
 simp only[List.mem_map] at hx
 obtain⟨z,hz,rfl⟩:=hx
 unfold za5 at hz
 obtain⟨y,hy,rfl⟩:=List.mem_map.1 hz
 obtain⟨e1,e2⟩:=zfd 0 (za5 (zaw cs) vs pl l) (zfp (zaw cs) vs pl y)
 rw[e1] at hv
 rw[e2]
 obtain⟨r1,r2⟩:=zk2 cs
 unfold zfp at hv ⊢
 by_cases hq:za9 y=true
 ·rw[if_pos hq] at hv;cases hv
 ·rw[if_neg hq]
  obtain⟨v,v1,v2⟩:=z0w r1 ((r2 y).2 ⟨c,hc,l,hl,hy,by simpa using hq⟩)
  rw[v1];exact v2
theorem zq3{l:zak}{a W n:Nat}(h:zhi l a W)(hcon:∀ x∈l.terms,x.var=false->x.num < n){y:List Nat}(hy:∀ p,zdf l p=true->y.getD p 0 < n):∀ i,i < a->(zcs l y).getD i 0 < n:=by
 intro i hi
 have hil:i < l.terms.length:=by rw[h.len];exact hi
 rw[zlr l y (by have:=h.le3;omega)]
 unfold rowCell
 rw[if_pos hil,show l.terms.getD i ⟨false,0,0⟩=l.terms[i] by simp[List.getD,hil]]
 have hm:=List.getElem_mem hil
 unfold atT
 cases hq:l.terms[i].var with
 |true =>
  rw[if_pos (by simp[(h.lev _ hm hq).1])]
  exact hy _ ((zfg l _).2 ⟨_,hm,hq,rfl⟩)
 |false =>
  rw[if_neg (by simp)]
  exact hcon _ hm hq
theorem zwa{cs:List zab}{t0 t:List zaq}(h:Parts cs t0 t)(os:Option (List (Option (List Int))))(hp:∀ i (hi:i < cs.length),ziq (za6 ((zd4 os i).getD [])) (zaf cs[i]).length){mr mx:Nat}{D:DB}{k:Nat}(hr:zj0 (zjy t (zaw cs) os cs) mr mx=some (D,k)):zvj (t.map (·.arity)) (zaw cs).length D:=by
 have hset:=z4m h (zaw cs) os hp
 refine zyu (S:=zjy t (zaw cs) os cs) (fun D=>zvj (t.map (·.arity)) (zaw cs).length D) ?_ ?_ hr
 ·intro p x hx i hi
  unfold InD zj1 at hx
  split at hx
  ·rename_i hf
   obtain⟨f,f1,rfl,rfl⟩:=hf
   have f1':f∈zer t (zaw cs) cs:=f1
   unfold zer at f1'
   obtain⟨c,hc,rfl⟩:=List.mem_map.1 f1'
   have hcm:=(List.mem_filter.1 hc).1
   have hb:c.body=[]:=by
    have:=(List.mem_filter.1 hc).2
    simp at this
    exact this
   obtain⟨e,_,_,q3,q4,_⟩:=h.lit hcm (l:=c.head) (by simp[za3])
   have hi':i < c.head.args.length:=by
    have hi2:i < (t.map (·.arity)).getD (zbe t c.head.pred) 0:=hi
    rw[q4] at hi2
    exact hi2
   have hwf:zhi (zdg t (zaw cs) [] [0,0,0,0,0] c.head) c.head.args.length (za4 (zaw cs).length):=zr0 t _ [] _ c.head (fun k=>by
    by_cases hk:k < 5
    ·have:k=0∨k=1∨k=2∨k=3∨k=4:=by omega
     rcases this with rfl|rfl|rfl|rfl|rfl <;> decide
    ·simp[List.getD,List.getElem?_eq_none (show([0,0,0,0,0]:List Nat).length<=k by simp;omega)]) (zfv (h.many c hcm)).1
   refine zq3 hwf (zx4 hcm (by simp[za3]) t [] _) (fun p hpp=>?_) i hi'
   obtain⟨y,y1,y2,_⟩:=zoh.1 hpp
   have hs:=h.safe c hcm
   simp only[ze7,Bool.and_eq_true] at hs
   have:=zix.1 hs.1 y y1 y2
   have hnil:zaf c=[]:=by unfold zaf;rw[hb];rfl
   rw[hnil] at this
   cases this
  ·cases hx
 ·intro s k D hD p x hx i hi
  unfold InD zfq at hx
  cases hq:D p x with
  |some m=>exact hD p x (by unfold InD;rw[hq];rfl) i hi
  |none =>
   rw[hq] at hx
   simp only at hx
   split at hx
   ·rename_i hst
    obtain⟨r,hr1,rfl,y,y1,y2,rfl⟩:=hst
    have hrm:r∈zeu t (zaw cs) os cs:=(List.mem_filter.1 hr1).1
    have hwf:=hset.rules.rules r hrm
    unfold zeu at hrm
    obtain⟨⟨c,j⟩,h1,h2⟩:=List.mem_filterMap.1 hrm
    have h3:=List.mem_zipIdx_iff_getElem?.1 h1
    simp only at h2 h3
    have hcm:=List.mem_of_getElem? h3
    split at h2
    ·simp only[Option.some.injEq] at h2
     subst h2
     refine zq3 hwf.head (zx4 hcm (by simp[za3]) t _ _) (fun p hpp=>?_) i hi
     obtain⟨l,l1,l2⟩:=hwf.fine.safe p (hwf.fine.head p hpp)
     obtain⟨tm,t1,t2,t3⟩:=(zfg l p).1 l2
     obtain⟨i2,hi2,rfl⟩:=List.getElem_of_mem t1
     obtain⟨w1,w2⟩:=hwf.plain l l1
     have:=hD l.pred (zcs l y) (y1 l l1) i2 (by have:=w2.len;have hq:i2 < l.terms.length:=hi2;rw[this] at hq;exact hq)
     rw[zlr l y (by have:=w2.len;have:=w2.le3;omega)] at this
     unfold rowCell at this
     rw[if_pos hi2,show l.terms.getD i2 ⟨false,0,0⟩=l.terms[i2] by simp[List.getD,hi2]] at this
     unfold atT at this
     rw[if_pos (by simp[t2,(w2.lev _ t1 t2).1]),t3] at this
     exact this
    ·cases h2
   ·cases hx
theorem zmk{ns:List ByteArray}(hr:zcb ns){ar:Nat}(h3:ar<=3){r:zao}(hc:Canon ar r)(hi:∀ i,i < ar->r.getD i 0 < ns.length):zr7 ns (za1 ns r ar 3) 0 [0,0,0]=some r:=by
 obtain⟨x,y,z,rfl⟩:∃ x y z,r=[x,y,z]:=by
  match r,hc.1 with
  |[x,y,z],_=>exact⟨x,y,z,rfl⟩
 have e0:∀ i,ar<=i->([x,y,z]:zao).getD i 0=0:=hc.2
 have hv:∀ i,i < ar->zc0 ns (ns.getD (([x,y,z]:zao).getD i 0) ByteArray.empty)=some (([x,y,z]:zao).getD i 0):=fun i q=>zu9 hr (hi i q)
 have h4:ar=0∨ar=1∨ar=2∨ar=3:=by omega
 rcases h4 with rfl|rfl|rfl|rfl
 ·have a:=e0 0 (by omega);have b:=e0 1 (by omega);have c:=e0 2 (by omega)
  simp at a b c
  subst a;subst b;subst c
  rfl
 ·have b:=e0 1 (by omega);have c:=e0 2 (by omega)
  simp at b c
  subst b;subst c
  have v0:zc0 ns (ns[x]?.getD ByteArray.empty)=some x:=by have:=hv 0 (by omega);simpa using this
  simp[za1,zr7,v0]
 ·have c:=e0 2 (by omega)
  simp at c
  subst c
  have v0:zc0 ns (ns[x]?.getD ByteArray.empty)=some x:=by have:=hv 0 (by omega);simpa using this
  have v1:zc0 ns (ns[y]?.getD ByteArray.empty)=some y:=by have:=hv 1 (by omega);simpa using this
  simp[za1,zr7,v0,v1,List.range_succ]
 ·have v0:zc0 ns (ns[x]?.getD ByteArray.empty)=some x:=by have:=hv 0 (by omega);simpa using this
  have v1:zc0 ns (ns[y]?.getD ByteArray.empty)=some y:=by have:=hv 1 (by omega);simpa using this
  have v2:zc0 ns (ns[z]?.getD ByteArray.empty)=some z:=by have:=hv 2 (by omega);simpa using this
  simp[za1,zr7,v0,v1,v2,List.range_succ]
end Go.Proofs.YteampbddflhngaaGreat
namespace Go.Proofs.YteampbddflhngaaGreat
set_option maxRecDepth 100000
set_option maxHeartbeats 4000000
open Go.RowKit
theorem z6a{s:ByteArray}{n:Int}(h:zn1 s=.error n):n≠0:=by
 unfold zn1 at h
 repeat'(split at h)
 all_goals (simp only[Except.error.injEq,reduceCtorEq] at h)
 all_goals (subst h;decide)
def bPa:ByteArray:=⟨#[112,40,97,41,46]⟩
theorem z8q:∃ x,zn1 bPa=.ok x:=by
 have h:(match zn1 bPa with|.ok _=>true|.error _=>false)=true:=by decide +kernel
 cases hq:zn1 bPa with
 |ok x=>exact⟨x,rfl⟩
 |error n=>rw[hq] at h;cases h
def zxj(s:ByteArray)(w:World)(e:Ending)(w':World):Prop:=match zn1 s with
 |.error _=>e=.returned (.tuple #[.pointer none,.bool true])/\Below w.heap.size w w'
 |.ok (cs,t)=>∃ db pb,w.heap.size<=db/\e=.returned (.tuple #[.pointer (some ⟨db,0,none⟩),.bool true])/\Box w' db #[.pointer (some ⟨pb,0,none⟩),.string s] 98/\zka w.heap.size w' pb cs t/\Below w.heap.size w w'
theorem z9o(w:World)(s:ByteArray)(hs:s.size<=9223372036854775807) :
  Calls Tryz.prog 23 #[.string s] w fun e w'=>zxj s w e w':=by
 unfold zxj
 cases hc:zn1 s with
 |error n =>
  have hn:=z6a hc
  have HCO:Hid (Calls Tryz.prog 32 #[.string s] w fun e w'=>e=.returned (.tuple #[.pointer none,.int .i64 n])/\Below w.heap.size w w'):=by
   refine(zki s w hs).mono ?_
   rintro e w' ⟨hb,h2⟩
   rw[hc] at h2
   exact⟨h2,hb⟩
  have HPA:Hid (∀ W,Calls Tryz.prog 32 #[.string ⟨#[112,40,97,41,46]⟩] W fun e w'=>∃ pb,e=.returned (.tuple #[.pointer (some ⟨pb,0,none⟩),.int .i64 0])/\Below W.heap.size W w'):=fun W=>by
   obtain⟨⟨cs,t⟩,hx⟩:=z8q
   refine(zki bPa W (by decide)).mono ?_
   rintro e w' ⟨hb,h2⟩
   rw[hx] at h2
   obtain⟨pb,v,pv,h3,_⟩:=h2
   exact⟨pb,h3,hb⟩
  have hnb:(n == 0)=false:=by simp[hn]
  clear hc
  go_enter Tryz.func23,Tryz.ntmps23
  go_upto_region 2 with (first|(go_at_call 32;refine HCO.out.mono ?_;rintro e w1 ⟨rfl,hb1⟩))
  go_wp2_with (first|(go_at_call 32;refine(HPA.out _).mono ?_;rintro e w2 ⟨pb,rfl,hb2⟩))
  go_ret2
  exact⟨by simp[hn],zae hb1 hb2 (Nat.le_refl _)⟩
 |ok x =>
  obtain⟨cs,t⟩:=x
  have HCO:Hid (Calls Tryz.prog 32 #[.string s] w fun e w'=>∃ pb,e=.returned (.tuple #[.pointer (some ⟨pb,0,none⟩),.int .i64 0])/\Hid (zka w.heap.size w' pb cs t)/\Below w.heap.size w w'):=by
   refine(zki s w hs).mono ?_
   rintro e w' ⟨hb,h2⟩
   rw[hc] at h2
   obtain⟨pb,v,pv,h3,h4,h5,h6,h7⟩:=h2
   exact⟨pb,h3,⟨h7,v,pv,h4,h5,h6⟩,hb⟩
  clear hc
  go_enter Tryz.func23,Tryz.ntmps23
  go_wp2_with (first|(go_at_call 32;refine HCO.out.mono ?_;rintro e w1 ⟨pb,rfl,HP1,hb1⟩))
  have hg:Below w1.heap.size w1 (w1.alloc (.cells #[.pointer (some ⟨pb,0,none⟩),.string s] 98)):=(by go_grown)
  go_ret2
  exact⟨w1.heap.size,pb,hb1.size,rfl,Box.new _ _ _,HP1.out.below hg,zae hb1 hg (Nat.le_refl _)⟩
end Go.Proofs.YteampbddflhngaaGreat
