import Derived.Test.YteampbddflhngaaGreatW40
import Derived.Test.YteampbddflhngaaGreatW33
import Derived.Test.YteampbddflhngaaGreatW32
import Derived.Test.YteampbddflhngaaGreatW04

namespace Go.Proofs.YteampbddflhngaaGreat
open Classical
variable {vs ns:List ByteArray}{pl:List Nat}{t:List zar}{cs:List zab}
def zsy(ns:List ByteArray)(σ:ByteArray->Nat)(l:zbu)(i:Nat):Nat:=match l.args[i]? with
 |none=>0
 |some y=>if za8 y=true then σ y else(zco ns y).getD 0
def z6s(ns:List ByteArray)(σ:ByteArray->Nat)(l:zbu):zao:=[zsy ns σ l 0,zsy ns σ l 1,zsy ns σ l 2]
theorem zov(hp:∀ k,pl.getD k 0 < 5)(n:ByteArray):zdg vs pl n < 5:=by
 unfold zdg
 split
 ·omega
 ·split
  ·omega
  ·exact hp _
theorem z1i(t:List zar)(ns vs:List ByteArray)(hp:∀ k,pl.getD k 0 < 5)(l:zbu)(y:List Nat)(i:Nat):rowCell (zdf t ns vs pl l) y i=zsy ns (fun v=>y.getD (zdg vs pl v) 0) l i:=by
 unfold rowCell zsy
 by_cases h:i < l.args.length
 ·have h2:i < (zdf t ns vs pl l).qf.length:=by simp[zdf,za5];exact h
  rw[if_pos h2,uac h,getD_lt _ h2]
  have e:(zdf t ns vs pl l).qf[i]=zc3 0 (za5 ns vs pl l) (zfp ns vs pl l.args[i]):=by simp[zdf,za5]
  obtain⟨e1,e2⟩:=zfd 0 (za5 ns vs pl l) (zfp ns vs pl l.args[i])
  rw[e]
  unfold atT
  rw[e1,e2]
  unfold zfp
  by_cases hv:za8 l.args[i]=true
  ·have:=zov (vs:=vs) hp l.args[i]
   simp[hv,this]
  ·simp[hv]
 ·have h2:¬ i < (zdf t ns vs pl l).qf.length:=by simp[zdf,za5];omega
  rw[if_neg h2,uav (by omega)]
theorem znh(t:List zar)(ns vs:List ByteArray)(hp:∀ k,pl.getD k 0 < 5)(l:zbu)(y:List Nat):zct (zdf t ns vs pl l) y=z6s ns (fun v=>y.getD (zdg vs pl v) 0) l:=by
 simp only[zct,z6s,z1i t ns vs hp]
theorem z0e{σ τ:ByteArray->Nat}{l:zbu}(h:∀ y∈l.args,za8 y=true->σ y=τ y):z6s ns σ l=z6s ns τ l:=by
 have:∀ i,zsy ns σ l i=zsy ns τ l i:=by
  intro i
  unfold zsy
  cases hq:l.args[i]? with
  |none=>rfl
  |some y =>
   have hm:=ubi hq
   by_cases hv:za8 y=true
   ·simp only[hv,if_true];exact h y hm hv
   ·simp[hv]
 simp only[z6s,this]
def z96(t:List zar)(ns:List ByteArray)(c:zab)(D:DB)(x:zao):Prop:=∃ σ,(∀ l∈c.body,l.neg=false->InD D (zbd t l.pred) (z6s ns σ l))/\(∀ l∈c.body,l.neg=true->D (zbd t l.pred) (z6s ns σ l)=none)/\x=z6s ns σ c.head
theorem z6l{k:Nat}{f:Nat->Nat}(h:∀ p,p < k->∃ i,i < k/\f i=p){i j:Nat}(hi:i < k)(hj:j < k)(e:f i=f j):i=j:=by
 by_cases hne:i=j
 ·exact hne
 ·have:=zma (l1:=List.range k) (l2:=((List.range k).erase j).map f) List.nodup_range (fun p hp=>by
   obtain⟨a,ha,hf⟩:=h p (ucg.1 hp)
   by_cases haj:a=j
   ·exact uai.2 ⟨i,(uci hne).2 (ucg.2 hi),by rw[e,← haj,hf]⟩
   ·exact uai.2 ⟨a,(uci haj).2 (ucg.2 ha),hf⟩)
  rw[ua0,ucd (ucg.2 hj),List.length_range] at this
  omega
theorem zz4(h5:vs.length<=5)(hp:zin pl vs.length){u v:ByteArray}(hu:u∈vs)(hv:v∈vs)(e:zdg vs pl u=zdg vs pl v):u=v:=by
 obtain⟨i,i1,i2⟩:=zh9 hu
 obtain⟨j,j1,j2⟩:=zh9 hv
 unfold zdg at e
 rw[i2,j2] at e
 simp only at e
 rw[if_neg (by omega),if_neg (by omega)] at e
 have:=z6l hp.onto i1 j1 e
 subst this
 obtain⟨_,a⟩:=zi6 i2
 obtain⟨_,b⟩:=zi6 j2
 rw[← a,← b]
theorem z1x{c:zab}{o:Option (List Int)}{D:DB}{x:zao}(hv:∀ l∈za2 c,∀ y∈l.args,za8 y=true->y∈zaf c)(h5:(zaf c).length<=5)(hp:zin (za6 (o.getD [])) (zaf c).length):Der (zln t ns c o) D x↔z96 t ns c D x:=by
 constructor
 ·rintro⟨y,h1,h2,h3⟩
  refine⟨fun v=>y.getD (zdg (zaf c) (za6 (o.getD [])) v) 0,fun l hl hn=>?_,fun l hl hn=>?_,?_⟩
  ·have:=h1 (zdf t ns (zaf c) (za6 (o.getD [])) l) (uai.2 ⟨l,uay.2 ⟨hl,by simp[hn]⟩,rfl⟩)
   rw[znh t ns _ hp.five] at this
   exact this
  ·have:=h2 (zdf t ns (zaf c) (za6 (o.getD [])) l) (uai.2 ⟨l,uay.2 ⟨hl,by simp[hn]⟩,rfl⟩)
   rw[znh t ns _ hp.five] at this
   exact this
  ·rw[h3]
   exact znh t ns _ hp.five _ _
 ·rintro⟨σ,h1,h2,h3⟩
  let yf:Nat->Nat:=fun p=>if hq:∃ v,v∈zaf c/\zdg (zaf c) (za6 (o.getD [])) v=p then σ hq.choose else 0
  have hyf:∀ v∈zaf c,yf (zdg (zaf c) (za6 (o.getD [])) v)=σ v:=by
   intro v hv'
   have hq:∃ u,u∈zaf c/\zdg (zaf c) (za6 (o.getD [])) u=zdg (zaf c) (za6 (o.getD [])) v:=⟨v,hv',rfl⟩
   show(if hq:∃ u,u∈zaf c/\zdg (zaf c) (za6 (o.getD [])) u=zdg (zaf c) (za6 (o.getD [])) v then σ hq.choose else 0)=σ v
   rw[dif_pos hq,zz4 h5 hp hq.choose_spec.1 hv' hq.choose_spec.2]
  have hy:∀ p,p < 5->((List.range 5).map yf).getD p 0=yf p:=by
   intro p hp5
   rw[getD_lt _ (by simp;exact hp5)]
   simp
  have hrow:∀ l∈za2 c,zct (zdf t ns (zaf c) (za6 (o.getD [])) l) ((List.range 5).map yf)=z6s ns σ l:=by
   intro l hl
   rw[znh t ns _ hp.five]
   refine z0e fun y hy' hvy=>?_
   rw[hy _ (zov hp.five _),hyf y (hv l hl y hy' hvy)]
  refine⟨(List.range 5).map yf,fun l hl=>?_,fun l hl=>?_,?_⟩
  ·obtain⟨z,hz,rfl⟩:=uai.1 hl
   obtain⟨z1,z2⟩:=uay.1 hz
   rw[hrow z (by simp[za2,z1])]
   exact h1 z z1 (by simpa using z2)
  ·obtain⟨z,hz,rfl⟩:=uai.1 hl
   obtain⟨z1,z2⟩:=uay.1 hz
   rw[hrow z (by simp[za2,z1])]
   exact h2 z z1 (by simpa using z2)
  ·rw[h3]
   exact(hrow c.head (by simp[za2])).symm
theorem Parts.covered{t0:List zar}(h:Parts cs t0 t){c:zab}(hc:c∈cs):∀ l∈za2 c,∀ y∈l.args,za8 y=true->y∈zaf c:=by
 have hs:=h.safe c hc
 simp only[ze7,ubb,List.all_eq_true,Bool.or_eq_true,Bool.not_eq_true'] at hs
 intro l hl y hy hv
 rcases uag.1 hl with rfl|hl
 ·exact ziv.1 hs.1 y hy hv
 ·cases hn:l.neg with
  |false=>exact zh6.2 ⟨hv,l,hl,hn,hy⟩
  |true =>
   rcases hs.2 l hl with q|q
   ·rw[hn] at q;cases q
   ·exact ziv.1 q y hy hv
def z9y(t:List zar)(ns:List ByteArray)(cs:List zab)(s:Nat)(D:DB)(p:Nat)(x:zao):Prop:=∃ c∈cs,0 < c.body.length/\zdv t c.head.pred=s/\p=zbd t c.head.pred/\z96 t ns c D x
theorem zqh{os:Option (List (Option (List Int)))}{r:zah}:r∈zet t ns os cs↔∃ i,∃ hi:i < cs.length,0 < cs[i].body.length/\r=zln t ns cs[i] (zd2 os i):=by
 unfold zet
 rw[ub7]
 constructor
 ·rintro⟨⟨c,i⟩,h1,h2⟩
  have h3:=ub1.1 h1
  simp only at h2 h3
  obtain⟨hi,rfl⟩:=uat.1 h3
  split at h2
  ·rename_i hb
   simp only[uab] at h2
   exact⟨i,hi,hb,h2.symm⟩
  ·cases h2
 ·rintro⟨i,hi,hb,rfl⟩
  refine⟨(cs[i],i),ub1.2 (by simp[hi]),?_⟩
  simp only
  rw[if_pos hb]
theorem z9v{t0:List zar}(h:Parts cs t0 t)(ns:List ByteArray)(os:Option (List (Option (List Int))))(hp:∀ i (hi:i < cs.length),zin (za6 ((zd2 os i).getD [])) (zaf cs[i]).length)(s:Nat)(D:DB)(p:Nat)(x:zao):zsi ((zet t ns os cs).filter fun r=>decide (r.qi=s)) D p x↔z9y t ns cs s D p x:=by
 constructor
 ·rintro⟨r,hr,h1,h2⟩
  obtain⟨r1,r2⟩:=uay.1 hr
  obtain⟨i,hi,hb,rfl⟩:=zqh.1 r1
  have hc:=uad hi
  exact⟨cs[i],hc,hb,of_decide_eq_true r2,h1,(z1x (h.covered hc) (zga (h.many _ hc)) (hp i hi)).1 h2⟩
 ·rintro⟨c,hc,hb,h1,h2,h3⟩
  obtain⟨i,hi,rfl⟩:=uby.1 hc
  exact⟨zln t ns cs[i] (zd2 os i),uay.2 ⟨zqh.2 ⟨i,hi,hb,rfl⟩,decide_eq_true h1⟩,h2,(z1x (h.covered hc) (zga (h.many _ hc)) (hp i hi)).2 h3⟩
end Go.Proofs.YteampbddflhngaaGreat
namespace Go.Proofs.YteampbddflhngaaGreat
variable {ns:List ByteArray}
theorem zll(h:zcg ns){i j:Nat}(hij:i < j)(hj:j < ns.length):ltB (ns.getD i ByteArray.empty) (ns.getD j ByteArray.empty)=true:=by
 have hi:i < ns.length:=by omega
 rw[getD_lt _ hi,getD_lt _ hj]
 exact ubx.1 h i j hi hj hij
theorem zv2(h:zcg ns)(x:ByteArray):∀(n l hh:Nat),l<=hh->hh<=ns.length->hh - l < n->(∀ i,i < l->ltB (ns.getD i ByteArray.empty) x=true)->(∀ i,hh<=i->i < ns.length->ltB (ns.getD i ByteArray.empty) x=false)->halves ns x n l hh<=ns.length/\(∀ i,i < halves ns x n l hh->ltB (ns.getD i ByteArray.empty) x=true)/\∀ i,halves ns x n l hh<=i->i < ns.length->ltB (ns.getD i ByteArray.empty) x=false:=by
 intro n
 induction n with
 |zero=>intro l hh _ _ q;omega
 |succ n ih =>
  intro l hh h1 h2 h3 h4 h5
  unfold halves
  by_cases hlt:l < hh
  ·rw[if_pos hlt]
   have hm:l+(hh - l) / 2 < hh:=by omega
   have hml:l<=l+(hh - l) / 2:=by omega
   generalize l+(hh - l) / 2=m at *
   by_cases hL:ltB (ns.getD m ByteArray.empty) x=true
   ·rw[if_pos hL]
    refine ih (m+1) hh (by omega) h2 (by omega) (fun i hi=>?_) h5
    by_cases him:i=m
    ·rw[him];exact hL
    ·exact lt_trans (zll h (show i < m by omega) (by omega)) hL
   ·rw[if_neg hL]
    have hL':ltB (ns.getD m ByteArray.empty) x=false:=by simpa using hL
    refine ih l m hml (by omega) (by omega) h4 (fun i hi hn=>?_)
    by_cases him:i=m
    ·rw[him];exact hL'
    ·cases hq:ltB (ns.getD i ByteArray.empty) x with
     |false=>rfl
     |true =>
      have:=lt_trans (zll h (show m < i by omega) hn) hq
      rw[this] at hL'
      cases hL'
  ·rw[if_neg hlt]
   exact⟨by omega,h4,fun i hi hn=>h5 i (by omega) hn⟩
theorem zos(h:zcg ns)(x:ByteArray):zbs ns x<=ns.length/\(∀ i,i < zbs ns x->ltB (ns.getD i ByteArray.empty) x=true)/\∀ i,zbs ns x<=i->i < ns.length->ltB (ns.getD i ByteArray.empty) x=false :=
 zv2 h x _ 0 ns.length (uaj _) (uaa _) (by omega) (fun i hi=>by omega) (fun i hi hn=>by omega)
theorem zu1(h:zcg ns){v:Nat}(hv:v < ns.length):zco ns (ns.getD v ByteArray.empty)=some v:=by
 obtain⟨p1,p2,p3⟩:=zos h (ns.getD v ByteArray.empty)
 have hp:zbs ns (ns.getD v ByteArray.empty)=v:=by
  rcases uc4 (zbs ns (ns.getD v ByteArray.empty)) v with q|q|q
  ·have:=p3 _ (uaa _) (by omega)
   rw[zll h q hv] at this
   cases this
  ·exact q
  ·have:=p2 v q
   rw[lt_irrefl] at this
   cases this
 unfold zco
 rw[hp,if_pos ⟨hv,rfl⟩]
theorem z8z{x:ByteArray}{v:Nat}(h:zco ns x=some v):v < ns.length/\ns.getD v ByteArray.empty=x:=by
 unfold zco at h
 split at h
 ·rename_i hc
  simp only[uab] at h
  subst h
  exact hc
 ·cases h
theorem z0p(h:zcg ns){x:ByteArray}(hx:x∈ns):∃ v,zco ns x=some v/\v < ns.length:=by
 obtain⟨v,hv,rfl⟩:=uau hx
 have:=zu1 h hv
 rw[getD_lt _ hv] at this
 exact⟨v,this,hv⟩
theorem z2i(h:zcg ns)(x:ByteArray):zcg (z2h ns x)/\∀ y,y∈z2h ns x↔y=x∨y∈ns:=by
 unfold z2h
 obtain⟨p1,p2,p3⟩:=zos h x
 by_cases hc:zbs ns x < ns.length/\ns.getD (zbs ns x) ByteArray.empty=x
 ·rw[if_pos hc]
  refine⟨h,fun y=>⟨Or.inr,fun q=>q.elim (fun e=>?_) id⟩⟩
  rw[e,← hc.2,getD_lt _ hc.1]
  exact uad hc.1
 ·rw[if_neg hc]
  generalize zbs ns x=p at *
  refine⟨?_,fun y=>?_⟩
  ·unfold zcg
   have hsp:ns.take p++ns.drop p=ns:=ube p ns
   have hall:=h
   unfold zcg at hall
   rw[← hsp,uc0] at hall
   rw[uc0,List.pairwise_cons]
   have hlo:∀ a∈ns.take p,ltB a x=true:=fun a ha=>by
    obtain⟨i,hi,rfl⟩:=uau ha
    have hi':i < p:=by simp at hi;omega
    have hin:i < ns.length:=by omega
    have:=p2 i hi'
    rw[getD_lt _ hin] at this
    simpa using this
   have hhi:∀ b∈ns.drop p,ltB x b=true:=fun b hb=>by
    obtain⟨i,hi,rfl⟩:=uau hb
    have hin:p+i < ns.length:=by simp at hi;omega
    have h1:=p3 (p+i) (by omega) hin
    rw[getD_lt _ hin] at h1
    rw[List.getElem_drop]
    cases hq:ltB x ns[p+i] with
    |true=>rfl
    |false =>
     exfalso
     have e:=zxy h1 hq
     by_cases hi0:i=0
     ·subst hi0
      exact hc ⟨by omega,by rw[getD_lt _ (by omega)];simpa using e⟩
     ·have h2:=zll h (show p < p+i by omega) hin
      rw[getD_lt _ hin,e] at h2
      have h3:=p3 p (uaa _) (by omega)
      rw[h3] at h2
      cases h2
   refine⟨hall.1,⟨hhi,hall.2.1⟩,fun a ha b hb=>?_⟩
   rcases uag.1 hb with rfl|hb
   ·exact hlo a ha
   ·exact hall.2.2 a ha b hb
  ·have:y∈ns↔y∈ns.take p∨y∈ns.drop p:=by
    rw[← uao,ube]
   rw[this]
   simp only[uao,uag]
   constructor
   ·rintro(q|q|q)
    ·exact Or.inr (Or.inl q)
    ·exact Or.inl q
    ·exact Or.inr (Or.inr q)
   ·rintro(q|q|q)
    ·exact Or.inr (Or.inl q)
    ·exact Or.inl q
    ·exact Or.inr (Or.inr q)
theorem z0n(h:zcg ns)(x:ByteArray):zcg (zhy ns x)/\∀ y,y∈zhy ns x↔(y=x/\za8 x=false)∨y∈ns:=by
 unfold zhy
 cases hv:za8 x with
 |true=>simp[h]
 |false=>simpa using z2i h x
theorem zkn:∀(xs:List ByteArray) {ns:List ByteArray},zcg ns->zcg (xs.foldl zhy ns)/\∀ y,y∈xs.foldl zhy ns↔(y∈xs/\za8 y=false)∨y∈ns
 |[],ns,h=>⟨h,fun y=>by simp⟩
 |x::xs,ns,h=>by
  obtain⟨s1,s2⟩:=z0n h x
  obtain⟨i1,i2⟩:=zkn xs s1
  refine⟨i1,fun y=>?_⟩
  rw[uax,i2,s2]
  simp only[uag]
  constructor
  ·rintro(⟨q1,q2⟩|⟨rfl,q2⟩|q)
   ·exact Or.inl ⟨Or.inr q1,q2⟩
   ·exact Or.inl ⟨Or.inl rfl,q2⟩
   ·exact Or.inr q
  ·rintro(⟨rfl|q1,q2⟩|q)
   ·exact Or.inr (Or.inl ⟨rfl,q2⟩)
   ·exact Or.inl ⟨q1,q2⟩
   ·exact Or.inr (Or.inr q)
theorem zpt:∀(ls:List zbu) {ns:List ByteArray},zcg ns->zcg (ls.foldl zjs ns)/\∀ y,y∈ls.foldl zjs ns↔(∃ l∈ls,y∈l.args/\za8 y=false)∨y∈ns
 |[],ns,h=>⟨h,fun y=>by simp⟩
 |l::ls,ns,h=>by
  obtain⟨s1,s2⟩:=zkn l.args h
  obtain⟨i1,i2⟩:=zpt ls (ns:=zjs ns l) s1
  refine⟨i1,fun y=>?_⟩
  have s2':∀ y,y∈zjs ns l↔(y∈l.args/\za8 y=false)∨y∈ns:=s2
  rw[uax,i2,s2']
  simp only[uag,exists_eq_or_imp]
  constructor
  ·rintro(q|q|q)
   ·exact Or.inl (Or.inr q)
   ·exact Or.inl (Or.inl q)
   ·exact Or.inr q
  ·rintro((q|q)|q)
   ·exact Or.inr (Or.inl q)
   ·exact Or.inl q
   ·exact Or.inr (Or.inr q)
theorem zkw:∀(cs:List zab) {ns:List ByteArray},zcg ns->zcg (cs.foldl zdd ns)/\∀ y,y∈cs.foldl zdd ns↔(∃ c∈cs,∃ l∈za2 c,y∈l.args/\za8 y=false)∨y∈ns
 |[],ns,h=>⟨h,fun y=>by simp⟩
 |c::cs,ns,h=>by
  obtain⟨s1,s2⟩:=zkn c.head.args h
  obtain⟨b1,b2⟩:=zpt c.body (ns:=zjs ns c.head) s1
  obtain⟨i1,i2⟩:=zkw cs (ns:=zdd ns c) b1
  refine⟨i1,fun y=>?_⟩
  have s2':∀ y,y∈zjs ns c.head↔(y∈c.head.args/\za8 y=false)∨y∈ns:=s2
  have b2':∀ y,y∈zdd ns c↔(∃ l∈c.body,y∈l.args/\za8 y=false)∨y∈zjs ns c.head:=b2
  rw[uax,i2,b2',s2']
  simp only[uag,exists_eq_or_imp,za2]
  constructor
  ·rintro(q|q|q|q)
   ·exact Or.inl (Or.inr q)
   ·exact Or.inl (Or.inl (Or.inr q))
   ·exact Or.inl (Or.inl (Or.inl q))
   ·exact Or.inr q
  ·rintro(((q|q)|q)|q)
   ·exact Or.inr (Or.inr (Or.inl q))
   ·exact Or.inr (Or.inl q)
   ·exact Or.inl q
   ·exact Or.inr (Or.inr (Or.inr q))
theorem zkx(cs:List zab):zcg (zaw cs)/\∀ y,y∈zaw cs↔∃ c∈cs,∃ l∈za2 c,y∈l.args/\za8 y=false:=by
 obtain⟨h1,h2⟩:=zkw cs (ns:=[]) List.Pairwise.nil
 exact⟨h1,fun y=>by rw[show zaw cs=cs.foldl zdd [] from rfl,h2];simp⟩
end Go.Proofs.YteampbddflhngaaGreat
namespace Go.Proofs.YteampbddflhngaaGreat
open Classical
theorem zyn{S:zsb}(P:DB->Prop)(h0:P (zjx S.facts))(hs:∀ s k D,P D->P (zg1 (S.rules.filter fun r=>decide (r.qi=s)) k D)){mr mx:Nat}{D:DB}{k:Nat}(h:zjw S mr mx=some (D,k)):P D:=by
 have hr:∀ s (left k:Nat) (D D':DB) (k':Nat),P D->zd9 (S.rules.filter fun r=>decide (r.qi=s)) mr left k D=some (D',k')->P D':=by
  intro s left
  induction left with
  |zero=>intro k D D' k' _ h;cases h
  |succ left ih =>
   intro k D D' k' hD h
   unfold zd9 at h
   split at h
   ·split at h
    ·simp only[uab,uak] at h
     rw[← h.1];exact hs s _ D hD
    ·exact ih (k+1) _ D' k' (hs s _ D hD) h
   ·cases h
 have ht:∀(n s k:Nat) (D D':DB) (k':Nat),P D->zez S.rules mr mx n s k D=some (D',k')->P D':=by
  intro n
  induction n with
  |zero =>
   intro s k D D' k' hD h
   unfold zez at h
   simp only[uab,uak] at h
   rw[← h.1];exact hD
  |succ n ih =>
   intro s k D D' k' hD h
   unfold zez at h
   split at h
   ·exact ih (s+1) k D D' k' hD h
   ·split at h
    ·cases h
    ·rename_i D1 k1 hq
     exact ih (s+1) k1 D1 D' k' (hr s _ k D D1 k1 hD hq) h
 unfold zjw at h
 split at h
 ·exact ht _ 0 0 _ D k h0 h
 ·cases h
def zvd(ar:List Nat)(n:Nat)(D:DB):Prop:=∀ p x,InD D p x->∀ i,i < ar.getD p 0->x.getD i 0 < n
theorem zxx{cs:List zab}{c:zab}(hc:c∈cs){l:zbu}(hl:l∈za2 c)(t:List zar)(vs:List ByteArray)(pl:List Nat):∀ x∈(zdf t (zaw cs) vs pl l).qf,x.var=false->x.num < (zaw cs).length:=by
 intro x hx hv
 unfold zdf at hx
 simp only[uai] at hx
 obtain⟨z,hz,rfl⟩:=hx
 unfold za5 at hz
 obtain⟨y,hy,rfl⟩:=uai.1 hz
 obtain⟨e1,e2⟩:=zfd 0 (za5 (zaw cs) vs pl l) (zfp (zaw cs) vs pl y)
 rw[e1] at hv
 rw[e2]
 obtain⟨r1,r2⟩:=zkx cs
 unfold zfp at hv ⊢
 by_cases hq:za8 y=true
 ·rw[if_pos hq] at hv;cases hv
 ·rw[if_neg hq]
  obtain⟨v,v1,v2⟩:=z0p r1 ((r2 y).2 ⟨c,hc,l,hl,hy,by simpa using hq⟩)
  rw[v1];exact v2
theorem zqz{l:zak}{a W n:Nat}(h:zhh l a W)(hcon:∀ x∈l.qf,x.var=false->x.num < n){y:List Nat}(hy:∀ p,zde l p=true->y.getD p 0 < n):∀ i,i < a->(zct l y).getD i 0 < n:=by
 intro i hi
 have hil:i < l.qf.length:=by rw[h.len];exact hi
 rw[zlm l y (by have:=h.le3;omega)]
 unfold rowCell
 rw[if_pos hil,show l.qf.getD i ⟨false,0,0⟩=l.qf[i] by simp[List.getD,hil]]
 have hm:=uad hil
 unfold atT
 cases hq:l.qf[i].var with
 |true =>
  rw[if_pos (by simp[(h.lev _ hm hq).1])]
  exact hy _ ((zfg l _).2 ⟨_,hm,hq,rfl⟩)
 |false =>
  rw[if_neg (by simp)]
  exact hcon _ hm hq
theorem zv4{cs:List zab}{t0 t:List zar}(h:Parts cs t0 t)(os:Option (List (Option (List Int))))(hp:∀ i (hi:i < cs.length),zin (za6 ((zd2 os i).getD [])) (zaf cs[i]).length){mr mx:Nat}{D:DB}{k:Nat}(hr:zjw (zjv t (zaw cs) os cs) mr mx=some (D,k)):zvd (t.map (·.je)) (zaw cs).length D:=by
 have hset:=z3z h (zaw cs) os hp
 refine zyn (S:=zjv t (zaw cs) os cs) (fun D=>zvd (t.map (·.je)) (zaw cs).length D) ?_ ?_ hr
 ·intro p x hx i hi
  unfold InD zjx at hx
  split at hx
  ·rename_i hf
   obtain⟨f,f1,rfl,rfl⟩:=hf
   have f1':f∈zeq t (zaw cs) cs:=f1
   unfold zeq at f1'
   obtain⟨c,hc,rfl⟩:=uai.1 f1'
   have hcm:=(uay.1 hc).1
   have hb:c.body=[]:=by
    have:=(uay.1 hc).2
    simp at this
    exact this
   obtain⟨e,_,_,q3,q4,_⟩:=h.lit hcm (l:=c.head) (by simp[za2])
   have hi':i < c.head.args.length:=by
    have hi2:i < (t.map (·.je)).getD (zbd t c.head.pred) 0:=hi
    rw[q4] at hi2
    exact hi2
   have hwf:zhh (zdf t (zaw cs) [] [0,0,0,0,0] c.head) c.head.args.length (za4 (zaw cs).length):=zrv t _ [] _ c.head (fun k=>by
    by_cases hk:k < 5
    ·have:k=0∨k=1∨k=2∨k=3∨k=4:=by omega
     rcases this with rfl|rfl|rfl|rfl|rfl <;> decide
    ·simp[List.getD,List.getElem?_eq_none (show([0,0,0,0,0]:List Nat).length<=k by simp;omega)]) (zfu (h.many c hcm)).1
   refine zqz hwf (zxx hcm (by simp[za2]) t [] _) (fun p hpp=>?_) i hi'
   obtain⟨y,y1,y2,_⟩:=zof.1 hpp
   have hs:=h.safe c hcm
   simp only[ze7,ubb] at hs
   have:=ziv.1 hs.1 y y1 y2
   have hnil:zaf c=[]:=by unfold zaf;rw[hb];rfl
   rw[hnil] at this
   cases this
  ·cases hx
 ·intro s k D hD p x hx i hi
  unfold InD zg1 at hx
  cases hq:D p x with
  |some m=>exact hD p x (by unfold InD;rw[hq];rfl) i hi
  |none =>
   rw[hq] at hx
   simp only at hx
   split at hx
   ·rename_i hst
    obtain⟨r,hr1,rfl,y,y1,y2,rfl⟩:=hst
    have hrm:r∈zet t (zaw cs) os cs:=(uay.1 hr1).1
    have hwf:=hset.rules.rules r hrm
    unfold zet at hrm
    obtain⟨⟨c,j⟩,h1,h2⟩:=ub7.1 hrm
    have h3:=ub1.1 h1
    simp only at h2 h3
    have hcm:=ubi h3
    split at h2
    ·simp only[uab] at h2
     subst h2
     refine zqz hwf.head (zxx hcm (by simp[za2]) t _ _) (fun p hpp=>?_) i hi
     obtain⟨l,l1,l2⟩:=hwf.fine.safe p (hwf.fine.head p hpp)
     obtain⟨tm,t1,t2,t3⟩:=(zfg l p).1 l2
     obtain⟨i2,hi2,rfl⟩:=uau t1
     obtain⟨w1,w2⟩:=hwf.qc l l1
     have:=hD l.pred (zct l y) (y1 l l1) i2 (by have:=w2.len;have hq:i2 < l.qf.length:=hi2;rw[this] at hq;exact hq)
     rw[zlm l y (by have:=w2.len;have:=w2.le3;omega)] at this
     unfold rowCell at this
     rw[if_pos hi2,show l.qf.getD i2 ⟨false,0,0⟩=l.qf[i2] by simp[List.getD,hi2]] at this
     unfold atT at this
     rw[if_pos (by simp[t2,(w2.lev _ t1 t2).1]),t3] at this
     exact this
    ·cases h2
   ·cases hx
theorem zmh{ns:List ByteArray}(hr:zcg ns){ar:Nat}(h3:ar<=3){r:zao}(hc:Canon ar r)(hi:∀ i,i < ar->r.getD i 0 < ns.length):zr2 ns (za1 ns r ar 3) 0 [0,0,0]=some r:=by
 obtain⟨x,y,z,rfl⟩:∃ x y z,r=[x,y,z]:=by
  match r,hc.1 with
  |[x,y,z],_=>exact⟨x,y,z,rfl⟩
 have e0:∀ i,ar<=i->([x,y,z]:zao).getD i 0=0:=hc.2
 have hv:∀ i,i < ar->zco ns (ns.getD (([x,y,z]:zao).getD i 0) ByteArray.empty)=some (([x,y,z]:zao).getD i 0):=fun i q=>zu1 hr (hi i q)
 have h4:ar=0∨ar=1∨ar=2∨ar=3:=by omega
 rcases h4 with rfl|rfl|rfl|rfl
 ·have a:=e0 0 (by omega);have b:=e0 1 (by omega);have c:=e0 2 (by omega)
  simp at a b c
  subst a;subst b;subst c
  rfl
 ·have b:=e0 1 (by omega);have c:=e0 2 (by omega)
  simp at b c
  subst b;subst c
  have v0:zco ns (ns[x]?.getD ByteArray.empty)=some x:=by have:=hv 0 (by omega);simpa using this
  simp[za1,zr2,v0]
 ·have c:=e0 2 (by omega)
  simp at c
  subst c
  have v0:zco ns (ns[x]?.getD ByteArray.empty)=some x:=by have:=hv 0 (by omega);simpa using this
  have v1:zco ns (ns[y]?.getD ByteArray.empty)=some y:=by have:=hv 1 (by omega);simpa using this
  simp[za1,zr2,v0,v1,List.range_succ]
 ·have v0:zco ns (ns[x]?.getD ByteArray.empty)=some x:=by have:=hv 0 (by omega);simpa using this
  have v1:zco ns (ns[y]?.getD ByteArray.empty)=some y:=by have:=hv 1 (by omega);simpa using this
  have v2:zco ns (ns[z]?.getD ByteArray.empty)=some z:=by have:=hv 2 (by omega);simpa using this
  simp[za1,zr2,v0,v1,v2,List.range_succ]
end Go.Proofs.YteampbddflhngaaGreat
namespace Go.Proofs.YteampbddflhngaaGreat
set_option maxRecDepth 100000
set_option maxHeartbeats 4000000
open Go.RowKit
theorem z5n{s:ByteArray}{n:Int}(h:znz s=.error n):n≠0:=by
 unfold znz at h
 repeat'(split at h)
 all_goals (simp only[Except.error.injEq,reduceCtorEq] at h)
 all_goals (subst h;decide)
def bPa:ByteArray:=⟨#[112,40,97,41,46]⟩
theorem z8g:∃ x,znz bPa=.ok x:=by
 have h:(match znz bPa with|.ok _=>true|.error _=>false)=true:=by decide +kernel
 cases hq:znz bPa with
 |ok x=>exact⟨x,rfl⟩
 |error n=>rw[hq] at h;cases h
def zxc(s:ByteArray)(w:World)(e:Ending)(w':World):Prop:=match znz s with
 |.error _=>e=.returned (.tuple #[.pointer none,.bool true])/\Below w.heap.size w w'
 |.ok (cs,t)=>∃ db pb,w.heap.size<=db/\e=.returned (.tuple #[.pointer (some ⟨db,0,none⟩),.bool true])/\Box w' db #[.pointer (some ⟨pb,0,none⟩),.string s] 98/\zkr w.heap.size w' pb cs t/\Below w.heap.size w w'
theorem z9k(w:World)(s:ByteArray)(hs:s.size<=9223372036854775807) :
  Calls Tryz.prog 23 #[.string s] w fun e w'=>zxc s w e w':=by
 unfold zxc
 cases hc:znz s with
 |error n =>
  have hn:=z5n hc
  have HCO:Hid (Calls Tryz.prog 32 #[.string s] w fun e w'=>e=.returned (.tuple #[.pointer none,.int .i64 n])/\Below w.heap.size w w'):=by
   refine(zkd s w hs).mono ?_
   rintro e w' ⟨hb,h2⟩
   rw[hc] at h2
   exact⟨h2,hb⟩
  have HPA:Hid (∀ W,Calls Tryz.prog 32 #[.string ⟨#[112,40,97,41,46]⟩] W fun e w'=>∃ pb,e=.returned (.tuple #[.pointer (some ⟨pb,0,none⟩),.int .i64 0])/\Below W.heap.size W w'):=fun W=>by
   obtain⟨⟨cs,t⟩,hx⟩:=z8g
   refine(zkd bPa W (by decide)).mono ?_
   rintro e w' ⟨hb,h2⟩
   rw[hx] at h2
   obtain⟨pb,v,pv,h3,_⟩:=h2
   exact⟨pb,h3,hb⟩
  have hnb:(n == 0)=false:=by simp[hn]
  clear hc
  go_enter Tryz.func23,Tryz.ntmps23
  go_upto_region 2 with (first|(go_at_call 32;refine HCO.out.mono ?_;rintro e w1 ⟨rfl,hb1⟩))
  go_wp2_with (first|(go_at_call 32;refine(HPA.out _).mono ?_;rintro e w2 ⟨pb,rfl,hb2⟩))
  go_ret2
  exact⟨by simp[hn],zae hb1 hb2 (uaa _)⟩
 |ok x =>
  obtain⟨cs,t⟩:=x
  have HCO:Hid (Calls Tryz.prog 32 #[.string s] w fun e w'=>∃ pb,e=.returned (.tuple #[.pointer (some ⟨pb,0,none⟩),.int .i64 0])/\Hid (zkr w.heap.size w' pb cs t)/\Below w.heap.size w w'):=by
   refine(zkd s w hs).mono ?_
   rintro e w' ⟨hb,h2⟩
   rw[hc] at h2
   obtain⟨pb,v,pv,h3,h4,h5,h6,h7⟩:=h2
   exact⟨pb,h3,⟨h7,v,pv,h4,h5,h6⟩,hb⟩
  clear hc
  go_enter Tryz.func23,Tryz.ntmps23
  go_wp2_with (first|(go_at_call 32;refine HCO.out.mono ?_;rintro e w1 ⟨pb,rfl,HP1,hb1⟩))
  have hg:Below w1.heap.size w1 (w1.alloc (.cells #[.pointer (some ⟨pb,0,none⟩),.string s] 98)):=(by go_grown)
  go_ret2
  exact⟨w1.heap.size,pb,hb1.size,rfl,Box.new _ _ _,HP1.out.below hg,zae hb1 hg (uaa _)⟩
end Go.Proofs.YteampbddflhngaaGreat
namespace Go.Proofs.YteampbddflhngaaGreat
set_option maxRecDepth 100000
set_option maxHeartbeats 4000000
open Go.RowKit
variable {lo2:Nat}{a b:List ByteArray}
theorem zvv(w:World)(m:Nat):Below w.heap.size w (w.drewN m):=zau (Below.refl _ _) m
theorem z2m{lo:Nat}(w:World)(va vb:Value)(a b:List ByteArray)(ha:SIn lo w va a)(hb:SIn lo2 w vb b)(hl:a.length<=1000000)(hl2:b.length<=1000000) :
  Calls Tryz.prog 91 #[va,vb] w fun e w'=>e=.returned (.bool (decide (a=b)))/\Below w.heap.size w w':=by
 obtain⟨ao,cap,rfl⟩:=ha.shape
 obtain⟨ao2,cap2,rfl⟩:=hb.shape
 by_cases hne:a.length=b.length
 ·have HLE:Hid (a.length=b.length):=hne
  rw[← hne]
  clear hne
  have HD:Hid (∀ k,k < a.length->a.getD k ByteArray.empty≠b.getD k ByteArray.empty->decide (a=b)=false):=fun k _ q=>by
   simp only[decide_eq_false_iff_not]
   rintro rfl
   exact q rfl
  have HT:Hid ((∀ k,k < a.length->a.getD k ByteArray.empty=b.getD k ByteArray.empty)->decide (a=b)=true):=fun q=>by
   simp only[decide_eq_true_eq]
   refine ubg HLE.out fun i h1 h2=>?_
   have:=q i h1
   rwa [getD_lt _ h1,getD_lt _ h2] at this
  generalize decide (a=b)=r at *
  have HA:Hid (SIn lo w (.slice ao a.length cap) a):=ha
  have HB:Hid (SIn lo2 w (.slice ao2 b.length cap2) b):=hb
  clear ha hb
  go_enter Tryz.func91,Tryz.ntmps91
  go_wp2
  go_loopw [5] (fun i wr=>∃ k:Nat,k<=a.length/\i=.int .i64 k/\Hid (∀ j,j < k->a.getD j ByteArray.empty=b.getD j ByteArray.empty)/\Below w.heap.size w wr) (fun i _=>a.length - (intOf i).toNat)
  case atStart=>exact⟨0,uaj _,rfl,fun j hj=>by omega,Below.refl _ _⟩
  case round =>
   obtain⟨k,hk,rfl,HK,hbk⟩:=hrel
   have hszk:=hbk.size
   by_cases hlt:k < a.length
   ·have hlt2:k < b.length:=by rw[← HLE.out];exact hlt
    obtain⟨g,rfl,hg,hck⟩:=HA.out.cell k hlt
    obtain⟨g2,e2,hg2,hck2⟩:=HB.out.cell k hlt2
    subst e2
    have hxk:=(hbk.cell (p:=⟨g,k,none⟩) hg).trans hck
    have hxk2:=(hbk.cell (p:=⟨g2,k,none⟩) hg2).trans hck2
    have hgr:g < wr.heap.size:=by omega
    have hgr2:g2 < wr.heap.size:=by omega
    clear hck hck2
    have HGA:Hid (a.getD k ByteArray.empty=a[k]):=getD_lt _ hlt
    have HGB:Hid (b.getD k ByteArray.empty=b[k]):=getD_lt _ hlt2
    by_cases he:a[k]=b[k]
    ·have heq:=zfm he
     have HEQ:Hid (a[k]=b[k]):=he
     clear he
     generalize a[k]=x at *
     generalize b[k]=y at *
     go_wp2
     go_quiet (fail)
     go_wp2
     go_roundw
     case rel=>exact⟨k+1,by omega,by go_num,fun j hj=>(by
      by_cases hjk:j=k
      ·rw[hjk,HGA.out,HGB.out,HEQ.out]
      ·exact HK.out j (by omega)),zau hbk _⟩
     case measure=>simp[intOf];omega
    ·have heq:=zei he
     have HF:Hid (r=false):=HD.out k hlt (by rw[HGA.out,HGB.out];exact he)
     clear he
     generalize a[k]=x at *
     generalize b[k]=y at *
     go_wp2
     go_quiet (fail)
     go_wp2
     go_ret
     exact⟨by rw[HF.out];rfl,zau hbk _⟩
   ·have HF:Hid (r=true):=HT.out fun j hj=>HK.out j (by omega)
    go_wp2
    go_ret
    exact⟨by rw[HF.out];rfl,hbk⟩
 ·have hnei:¬ (a.length:Int)=(b.length:Int):=by omega
  have HF:Hid (decide (a=b)=false):=show decide (a=b)=false by
   simp only[decide_eq_false_iff_not]
   rintro rfl
   exact hne rfl
  generalize decide (a=b)=r at *
  clear ha hb hne
  go_enter Tryz.func91,Tryz.ntmps91
  go_wp2
  go_ret
  exact⟨by rw[HF.out];rfl,Below.refl _ _⟩
def zff:List ByteArray->List ByteArray->Bool
 |a::x,b::y=>if a=b then zff x y else ltB a b
 |_,_=>false
theorem zyr{k:Nat}(h1:k < a.length)(h2:k < b.length):zff (a.drop k) (b.drop k)=if a[k]=b[k] then zff (a.drop (k+1)) (b.drop (k+1)) else ltB a[k] b[k]:=by
 rw[uah h1,uah h2]
 rfl
theorem zsn{k:Nat}(h:¬ (k < a.length/\k < b.length)):zff (a.drop k) (b.drop k)=false:=by
 by_cases h1:k < a.length
 ·rw[uaq (show b.length<=k by omega)]
  cases a.drop k <;> rfl
 ·rw[uaq (show a.length<=k by omega)]
  rfl
theorem zzp{lo:Nat}(w:World)(va vb:Value)(a b:List ByteArray)(ha:SIn lo w va a)(hb:SIn lo2 w vb b)(hl:a.length<=1000000) :
  Calls Tryz.prog 87 #[va,vb] w fun e w'=>e=.returned (.bool (zff a b))/\Below w.heap.size w w':=by
 obtain⟨ao,cap,rfl⟩:=ha.shape
 obtain⟨ao2,cap2,rfl⟩:=hb.shape
 have HA:Hid (SIn lo w (.slice ao a.length cap) a):=ha
 have HB:Hid (SIn lo2 w (.slice ao2 b.length cap2) b):=hb
 have H0:Hid (zff a b=zff (a.drop 0) (b.drop 0)):=show zff a b=_ from rfl
 clear ha hb
 generalize zff a b=r at *
 go_enter Tryz.func87,Tryz.ntmps87
 go_wp2
 go_loopw [5] (fun i wr=>∃ k:Nat,k<=a.length/\k<=b.length/\i=.int .i64 k/\Hid (r=zff (a.drop k) (b.drop k))/\Below w.heap.size w wr) (fun i _=>a.length - (intOf i).toNat)
 case atStart=>exact⟨0,uaj _,uaj _,rfl,H0,Below.refl _ _⟩
 case round =>
  obtain⟨k,hk,hk2,rfl,HK,hbk⟩:=hrel
  have hszk:=hbk.size
  by_cases hlt:k < a.length
  ·have hlti:(k:Int) < (a.length:Int):=by omega
   by_cases hlt2:k < b.length
   ·have hlti2:(k:Int) < (b.length:Int):=by omega
    have q:=HK.out
    rw[zyr hlt hlt2] at q
    have HQ:Hid (r=if a[k]=b[k] then zff (a.drop (k+1)) (b.drop (k+1)) else ltB a[k] b[k]):=q
    clear q HK
    obtain⟨g,rfl,hg,hck⟩:=HA.out.cell k hlt
    obtain⟨g2,rfl,hg2,hck2⟩:=HB.out.cell k hlt2
    have hxk:=(hbk.cell (p:=⟨g,k,none⟩) hg).trans hck
    have hxk2:=(hbk.cell (p:=⟨g2,k,none⟩) hg2).trans hck2
    have hgr:g < wr.heap.size:=by omega
    have hgr2:g2 < wr.heap.size:=by omega
    clear hck hck2
    by_cases he:a[k]=b[k]
    ·have heq:=zfm he
     have HF:Hid (r=zff (a.drop (k+1)) (b.drop (k+1))):=show r=_ by rw[HQ.out,if_pos he]
     clear he HQ
     generalize a[k]=x at *
     generalize b[k]=y at *
     go_wp2
     go_quiet (fail)
     go_wp2
     go_roundw
     case rel=>exact⟨k+1,by omega,by omega,by go_num,HF,zau hbk _⟩
     case measure=>simp[intOf];omega
    ·have heq:=zei he
     have HF:Hid (r=ltB a[k] b[k]):=show r=_ by rw[HQ.out,if_neg he]
     clear he HQ
     unfold ltB at HF
     generalize a[k]=x at *
     generalize b[k]=y at *
     go_wp2
     go_quiet (fail)
     have hBq:=zvv wr nq
     have hyk:=(hBq.cell (p:=⟨g,k,none⟩) hgr).trans hxk
     have hyk2:=(hBq.cell (p:=⟨g2,k,none⟩) hgr2).trans hxk2
     have hgq:g < (wr.drewN nq).heap.size:=ual hgr hBq.size
     have hgq2:g2 < (wr.drewN nq).heap.size:=ual hgr2 hBq.size
     have hBw:Below w.heap.size w (wr.drewN nq):=zau hbk _
     clear hxk hxk2
     generalize wr.drewN nq=wq at *
     go_wp2
     go_quiet (fail)
     go_wp2
     go_ret
     exact⟨by rw[HF.out];rfl,zau hBw _⟩
   ·have hlti2:¬ (k:Int) < (b.length:Int):=by omega
    have HF:Hid (r=false):=show r=false by rw[HK.out];exact zsn (fun q=>hlt2 q.2)
    go_wp2
    go_ret
    exact⟨by rw[HF.out];rfl,hbk⟩
  ·have hlti:¬ (k:Int) < (a.length:Int):=by omega
   have HF:Hid (r=false):=show r=false by rw[HK.out];exact zsn (fun q=>hlt q.1)
   go_wp2
   go_ret
   exact⟨by rw[HF.out];rfl,hbk⟩
abbrev zg4:=ByteArray × List ByteArray × Nat
def znk(w:World)(v:Value)(fs:List zg4):Prop:=∃ ao cap,v=.slice ao fs.length cap/\∀ i (h:i < fs.length),∃ g gi lo,ao=some ⟨g,0,none⟩/\g < w.heap.size/\w.cell? ⟨g,i * 3,none⟩=some (.string fs[i].1)/\w.cell? ⟨g,i * 3+1,none⟩=some (.slice (some ⟨gi,0,none⟩) fs[i].2.1.length fs[i].2.1.length)/\w.cell? ⟨g,i * 3+2,none⟩=some (.int .i64 (fs[i].2.2:Nat))/\SIn lo w (.slice (some ⟨gi,0,none⟩) fs[i].2.1.length fs[i].2.1.length) fs[i].2.1
theorem znk.below{w w':World}{v:Value}{fs:List zg4}(h:znk w v fs)(hb:Below w.heap.size w w'):znk w' v fs:=by
 obtain⟨ao,cap,h1,h2⟩:=h
 refine⟨ao,cap,h1,fun i hi=>?_⟩
 obtain⟨g,gi,lo,q1,q2,q3,q4,q5,q6⟩:=h2 i hi
 exact⟨g,gi,lo,q1,ual q2 hb.size,(hb.cell (p:=⟨g,i * 3,none⟩) q2).trans q3,(hb.cell (p:=⟨g,i * 3+1,none⟩) q2).trans q4,(hb.cell (p:=⟨g,i * 3+2,none⟩) q2).trans q5,q6.below hb⟩
def zl5(pred:ByteArray)(row:List ByteArray):List zg4->Option Nat
 |[]=>none
 |f::fs=>if f.1=pred/\f.2.1=row then some 0 else(zl5 pred row fs).map (·+1)
def z5q(pred:ByteArray)(row:List ByteArray)(fs:List zg4):Int:=match zl5 pred row fs with
 |none=>-1
 |some k=>k
theorem zzb{pred:ByteArray}{row:List ByteArray}{fs:List zg4}{k:Nat}(hk:k < fs.length):zl5 pred row (fs.drop k)=if fs[k].1=pred/\fs[k].2.1=row then some 0 else(zl5 pred row (fs.drop (k+1))).map (·+1):=by
 rw[uah hk]
 rfl
theorem z9j(w:World)(v:Value)(fs:List zg4)(pred:ByteArray)(vr:Value)(row:List ByteArray)(h:znk w v fs)(hr:SIn lo2 w vr row)(hl:fs.length<=10000000)(hl2:row.length<=1000000)(hl3:∀ f∈fs,f.2.1.length<=1000000) :
  Calls Tryz.prog 53 #[v,.string pred,vr] w fun e w'=>e=.returned (.int .i64 (z5q pred row fs))/\Below w.heap.size w w':=by
 have HSA:Hid (∀ W lo va (a:List ByteArray),Below w.heap.size w W->SIn lo W va a->a.length<=1000000->Calls Tryz.prog 91 #[va,vr] W fun e w'=>e=.returned (.bool (decide (a=row)))/\Below W.heap.size W w'):=fun W lo va a hb ha hq=>z2m W va vr a row ha (hr.below hb) hq hl2
 obtain⟨aor,capr,rfl⟩:=hr.shape
 obtain⟨ao,cap,rfl,hcells⟩:=h
 have HC:Hid (∀ i (h:i < fs.length),∃ g gi lo,ao=some ⟨g,0,none⟩/\g < w.heap.size/\w.cell? ⟨g,i * 3,none⟩=some (.string fs[i].1)/\w.cell? ⟨g,i * 3+1,none⟩=some (.slice (some ⟨gi,0,none⟩) fs[i].2.1.length fs[i].2.1.length)/\w.cell? ⟨g,i * 3+2,none⟩=some (.int .i64 (fs[i].2.2:Nat))/\SIn lo w (.slice (some ⟨gi,0,none⟩) fs[i].2.1.length fs[i].2.1.length) fs[i].2.1):=hcells
 have HL3:Hid (∀ f∈fs,f.2.1.length<=1000000):=hl3
 have H0:Hid (zl5 pred row fs=(zl5 pred row (fs.drop 0)).map (·+0)):=show zl5 pred row fs=_ by simp
 have HI:Hid (z5q pred row fs=match zl5 pred row fs with|none=>-1|some k=>(k:Int)):=show z5q pred row fs=_ from rfl
 clear hcells hr hl3
 generalize z5q pred row fs=ri at *
 generalize zl5 pred row fs=rf at *
 go_enter Tryz.func53,Tryz.ntmps53
 go_wp2
 go_loopw [7,8] (fun i _ wr=>∃ k:Nat,k<=fs.length/\i=.int .i64 k/\Hid (rf=(zl5 pred row (fs.drop k)).map (·+k))/\Below w.heap.size w wr) (fun i _ _=>fs.length - (intOf i).toNat)
 case atStart=>exact⟨0,uaj _,rfl,H0,Below.refl _ _⟩
 case round =>
  obtain⟨k,hk,rfl,HK,hbk⟩:=hrel
  have hszk:=hbk.size
  by_cases hlt:k < fs.length
  ·have hlti:(k:Int) < (fs.length:Int):=by omega
   obtain⟨g,gi,lo3,rfl,hg,c0,c1,_,hS⟩:=HC.out k hlt
   have q:=HK.out
   rw[zzb hlt] at q
   have HQ:Hid (rf=(if fs[k].1=pred/\fs[k].2.1=row then some 0 else(zl5 pred row (fs.drop (k+1))).map (·+1)).map (·+k)):=q
   clear q HK
   have x0:=(hbk.cell (p:=⟨g,k * 3,none⟩) hg).trans c0
   have x1:=(hbk.cell (p:=⟨g,k * 3+1,none⟩) hg).trans c1
   have hgr:g < wr.heap.size:=by omega
   have HS:Hid (Calls Tryz.prog 91 #[.slice (some ⟨gi,0,none⟩) fs[k].2.1.length fs[k].2.1.length,.slice aor row.length capr] wr fun e w'=>e=.returned (.bool (decide (fs[k].2.1=row)))/\Below wr.heap.size wr w'):=HSA.out wr lo3 _ _ hbk (hS.below hbk) (HL3.out _ (uad hlt))
   clear c0 c1 hS
   generalize fs[k].2.1.length=fl at *
   generalize fs[k].2.1=fr at *
   generalize fs[k].1=fp at *
   by_cases he:fp=pred
   ·have heq:=zfm he
    by_cases he2:fr=row
    ·have HF:Hid (rf=some k):=show rf=some k by rw[HQ.out,if_pos ⟨he,he2⟩];simp
     have HFI:Hid (ri=(k:Int)):=show ri=(k:Int) by rw[HI.out,HF.out]
     rw[show decide (fr=row)=true by simp[he2]] at HS
     clear HQ he he2
     go_wp2_with (first|(go_at_call 91;refine HS.out.mono ?_;rintro e w1 ⟨rfl,hb1⟩))
     go_ret
     exact⟨by rw[HFI.out];rfl,zae hbk hb1 (uaa _)⟩
    ·have HF:Hid (rf=(zl5 pred row (fs.drop (k+1))).map (·+(k+1))):=show rf=_ by
      rw[HQ.out,if_neg (fun z=>he2 z.2),Option.map_map]
      congr 1
      funext z
      simp only[Function.comp];omega
     rw[show decide (fr=row)=false by simp[he2]] at HS
     clear HQ he he2
     go_wp2_with (first|(go_at_call 91;refine HS.out.mono ?_;rintro e w1 ⟨rfl,hb1⟩))
     exact⟨⟨k+1,by omega,by go_num,HF,zae hbk hb1 (uaa _)⟩,by simp[intOf];omega⟩
   ·have heq:=zei he
    have HF:Hid (rf=(zl5 pred row (fs.drop (k+1))).map (·+(k+1))):=show rf=_ by
     rw[HQ.out,if_neg (fun z=>he z.1),Option.map_map]
     congr 1
     funext z
     simp only[Function.comp];omega
    clear HQ he
    go_wp2
    exact⟨⟨k+1,by omega,by go_num,HF,hbk⟩,by simp[intOf];omega⟩
  ·have hlti:¬ (k:Int) < (fs.length:Int):=by omega
   have HFI:Hid (ri=-1):=show ri=-1 by
    rw[HI.out,HK.out,uaq (by omega)]
    rfl
   go_wp2
   go_ret
   exact⟨by rw[HFI.out];rfl,hbk⟩
end Go.Proofs.YteampbddflhngaaGreat
