import Derived.Test.YteampbddflhngabGreatJ40
import Derived.Test.YteampbddflhngabGreatJ08

namespace Go.Proofs.YteampbddflhngabGreat
open Classical
def zqg(D:DB)(mr:Nat):Prop:=∃ n,n<=mr/\zk9 D n
noncomputable def zd1(rs:List zaf)(mr:Nat):Nat->Nat->DB->Option (DB × Nat)
 |0,_,_=>none
 |left+1,k,D =>
  if zqg (zgu rs (k+1) D) mr then
   if ∀ p x,InD (zgu rs (k+1) D) p x->InD D p x then some (zgu rs (k+1) D,k+1)
   else zd1 rs mr left (k+1) (zgu rs (k+1) D)
  else none
noncomputable def zeq(rules:List zaf)(mr mx:Nat):Nat->Nat->Nat->DB->Option (DB × Nat)
 |0,_,k,D=>some (D,k)
 |n+1,s,k,D =>
  if (rules.filter fun r=>decide (r.stratum=s))=[] then zeq rules mr mx n (s+1) k D
  else match zd1 (rules.filter fun r=>decide (r.stratum=s)) mr (mx - k) k D with
   |none=>none
   |some (D',k')=>zeq rules mr mx n (s+1) k' D'
noncomputable def zje(fs:List zib):DB:=fun p x=>if ∃ f∈fs,f.pred=p/\f.row=x then some 0 else none
noncomputable def zkb(S:zre)(mr mx:Nat):Option (DB × Nat):=if zqg (zje S.facts) mr then zeq S.rules mr mx S.arities.length 0 0 (zje S.facts) else none
theorem zyy(rs:List zaf)(k:Nat)(D:DB):∀ p x,InD D p x->InD (zgu rs k D) p x:=by
 intro p x h
 unfold InD zgu at *
 cases hq:D p x with
 |some m=>rfl
 |none=>rw[hq] at h;cases h
theorem zvl{rs:List zaf}{k:Nat}{D:DB}:∀ p x,zue rs D p x->InD (zgu rs k D) p x:=by
 intro p x h
 unfold InD zgu
 cases hq:D p x with
 |some m=>rfl
 |none=>simp only;rw[if_pos h];rfl
theorem zvm{ar:List Nat}{W wd:Nat}(hWd:W=za1 wd)(h3:∀ a∈ar,a<=3){mr mx:Nat}(hmr:mr<=1048576){rs:List zaf}(hs:zmv rs ar W)(B:Nat)(hB:(∀ r∈rs,zfy W r<=B)/\3 * (W+1)<=B) :
  ∀(n:Nat) (first:Bool) (ws:List zbe) (R:zbt) (D0:DB),ze1 ar W R->R.count<=mr->R.rounds<=mx->(∀ p x,InD D0 p x->InD (zdb ar R) p x)->zda ar W D0 (zdb ar R) (R.rows.map (·.count)) ws rs->(first=false->∀ p x,zue rs D0 p x->InD (zdb ar R) p x)->B+(mx - R.rounds) < n →
  ∃ R' ok,zgv wd mr mx n first ws R=some (R',ok)/\(ok=false->zd1 rs mr (mx - R.rounds) R.rounds (zdb ar R)=none)/\(ok=true->ze1 ar W R'/\R'.count<=mr/\R'.rounds<=mx/\zd1 rs mr (mx - R.rounds) R.rounds (zdb ar R)=some (zdb ar R',R'.rounds)):=by
 intro n
 induction n with
 |zero=>intro first ws R D0 _ _ _ _ _ _ h;omega
 |succ n ih =>
  intro first ws R D0 hi hc hk hD0 hw hcl hn
  unfold zgv
  by_cases hge:R.rounds ≥ mx
  ·rw[if_pos hge]
   refine⟨R,false,rfl,fun _=>?_,fun q=>by cases q⟩
   rw[show mx - R.rounds=0 by omega];rfl
  ·rw[if_neg hge]
   obtain⟨left,hleft⟩:∃ left,mx - R.rounds=left+1:=⟨mx - R.rounds - 1,by omega⟩
   obtain⟨R1,ws1,ok,a1,a2,a3,a4,a5,a6⟩:=zyz hWd h3 hmr n hs ⟨fun r hr=>by have:=hB.1 r hr;omega,by have:=hB.2;omega⟩ first hi hc hD0 hw hcl
   rw[a1]
   have hcard1:=a2.card h3
   have hcard:=hi.card h3
   rw[hleft]
   cases ok with
   |false =>
    refine⟨R1,false,rfl,fun _=>?_,fun q=>by cases q⟩
    unfold zd1
    rw[if_neg]
    rintro⟨m,m1,m2⟩
    have:=zup hcard1 m2 a4
    have:=a5 rfl
    omega
   |true =>
    obtain⟨b1,b2,b3⟩:=a6 rfl
    simp only
    have hsm:zqg (zdb ar R1) mr:=⟨R1.count,b1,hcard1⟩
    have hsub:∀ p x,InD (zdb ar R) p x->InD (zdb ar R1) p x:=by rw[b2];exact zyy _ _ _
    by_cases hnew:R1.count > R.count
    ·rw[if_pos hnew]
     have hnot:¬ ∀ p x,InD (zdb ar R1) p x->InD (zdb ar R) p x:=fun q=>by
      have:=zup hcard1 hcard q
      omega
     obtain⟨R2,ok2,c1,c2,c3⟩:=ih false ws1 R1 (zdb ar R) a2 b1 (by omega) hsub b3 (fun _ p x hx=>by rw[b2];exact zvl p x hx) (by omega)
     have hl:mx - R1.rounds=left:=by omega
     have e:zd1 rs mr (left+1) R.rounds (zdb ar R)=zd1 rs mr left R1.rounds (zdb ar R1):=by
      rw[zd1,← b2,if_pos hsm,if_neg hnot,a3]
     rw[hl] at c2 c3
     exact⟨R2,ok2,c1,fun q=>by rw[e];exact c2 q,fun q=>by rw[e];exact c3 q⟩
    ·rw[if_neg hnew]
     have hall:=zz4 hcard hcard1 hsub (by omega)
     refine⟨R1,true,rfl,fun q=>(by cases q),fun _=>⟨a2,b1,by omega,?_⟩⟩
     rw[zd1,← b2,if_pos hsm,if_pos hall,a3]
structure zqf (rs:List zaf) (ar:List Nat) (W:Nat):Prop where
 rules:∀ r∈rs,zmt r ar W
 apart:∀ r∈rs,∀ r'∈rs,r.stratum=r'.stratum->∀ l∈r.nots,l.pred≠r'.head.pred
theorem zqf.strat{rules:List zaf}{ar:List Nat}{W:Nat}(h:zqf rules ar W)(s:Nat):zmv (rules.filter fun r=>decide (r.stratum=s)) ar W:=by
 refine⟨fun r hr=>h.rules r (List.mem_filter.1 hr).1,fun r hr r' hr' l hl=>h.apart r (List.mem_filter.1 hr).1 r' (List.mem_filter.1 hr').1 ?_ l hl⟩
 have h1:=(List.mem_filter.1 hr).2
 have h2:=(List.mem_filter.1 hr').2
 simp at h1 h2
 omega
theorem zvx{ar:List Nat}{W wd:Nat}(hWd:W=za1 wd)(h3:∀ a∈ar,a<=3){mr mx:Nat}(hmr:mr<=1048576){rules:List zaf}(hr:zqf rules ar W)(B:Nat)(hB:(∀ r∈rules,zfy W r<=B)/\3 * (W+1)<=B)(fuel:Nat)(hfu:B+mx < fuel) :
  ∀(n s:Nat) (R:zbt),ze1 ar W R->R.count<=mr->R.rounds<=mx->∃ R' ok,zf9 fuel wd mr mx rules n s R=some (R',ok)/\(ok=false->zeq rules mr mx n s R.rounds (zdb ar R)=none)/\(ok=true->ze1 ar W R'/\R'.count<=mr/\zeq rules mr mx n s R.rounds (zdb ar R)=some (zdb ar R',R'.rounds)):=by
 intro n
 induction n with
 |zero=>intro s R hi hc _;exact⟨R,true,rfl,fun q=>(by cases q),fun _=>⟨hi,hc,rfl⟩⟩
 |succ n ih =>
  intro s R hi hc hk
  obtain⟨ws,w1,w2⟩:=zob hWd h3 hi (by omega) fuel (by have:=hB.2;omega) s rules (fun r hq l hl=>((hr.rules r hq).plain l hl).1)
  have hlen:=w2.length
  unfold zf9 zk6
  rw[w1]
  simp only
  unfold zeq
  by_cases h0:(rules.filter fun r=>decide (r.stratum=s))=[]
  ·rw[if_pos h0]
   rw[h0] at hlen
   rw[if_neg (by simp at hlen;simp[hlen])]
   simp only
   exact ih (s+1) R hi hc hk
  ·rw[if_neg h0]
   have hpos:ws.length > 0:=by rw[hlen];exact List.length_pos_iff.2 h0
   rw[if_pos hpos]
   obtain⟨R1,ok,a1,a2,a3⟩:=zvm hWd h3 hmr (mx:=mx) (hr.strat s) B ⟨fun r hq=>hB.1 r (List.mem_filter.1 hq).1,hB.2⟩ fuel true ws R z1i hi hc hk (fun p x q=>by cases q) w2 (fun q=>by cases q) (by omega)
   rw[a1]
   cases ok with
   |false =>
    refine⟨R1,false,rfl,fun _=>?_,fun q=>by cases q⟩
    rw[a2 rfl]
   |true =>
    obtain⟨b1,b2,b3,b4⟩:=a3 rfl
    simp only
    rw[b4]
    exact ih (s+1) R1 b1 b2 b3
theorem zo6{ar:List Nat}{W:Nat}(h3:∀ a∈ar,a<=3){mr:Nat}(hmr:mr<=1048576){k:Nat}{D0:DB}{c0:List Nat}:∀(fs:List zib) (R:zbt),(∀ f∈fs,f.pred < ar.length/\Canon (ar.getD f.pred 0) f.row/\Small W f.row)->Mid ar W k D0 c0 R->R.count<=mr->∃ R' ok,zjf mr fs R=some (R',ok)/\Mid ar W k D0 c0 R'/\(∀ q x,x∈R.fresh.getD q []->x∈R'.fresh.getD q [])/\(∀ q x,x∈R'.fresh.getD q []->x∈R.fresh.getD q []∨∃ f∈fs,f.pred=q/\f.row=x)/\(ok=true->R'.count<=mr/\∀ f∈fs,InD (zdb ar R') f.pred f.row)/\(ok=false->R'.count > mr)
 |[],R,_,hm,hc=>⟨R,true,rfl,hm,fun q x hx=>hx,fun q x hx=>Or.inl hx,fun _=>⟨hc,fun f hf=>by cases hf⟩,fun q=>by cases q⟩
 |f::fs,R,hf,hm,hc=>by
  obtain⟨f1,f2,f3⟩:=hf f (by simp)
  obtain⟨R1,ok,a1,a2,_,a4,a5,a6,a7,a8⟩:=hm.add h3 f1 f2 f3 hc hmr
  unfold zjf
  rw[a1]
  cases ok with
  |false =>
   refine⟨R1,false,rfl,a2,a5,fun q x hx=>?_,(fun q=>by cases q),a8⟩
   rcases a6 q x hx with z|⟨z1,z2⟩
   ·exact Or.inl z
   ·exact Or.inr ⟨f,by simp,z1.symm,z2.symm⟩
  |true =>
   simp only
   obtain⟨R2,ok2,b1,b2,b3,b4,b5,b6⟩:=zo6 h3 hmr fs R1 (fun x hx=>hf x (by simp[hx])) a2 (a7 rfl)
   refine⟨R2,ok2,b1,b2,fun q x hx=>b3 q x (a5 q x hx),fun q x hx=>?_,fun q=>⟨(b5 q).1,fun g hg=>?_⟩,b6⟩
   ·rcases b4 q x hx with z|⟨g,g1,g2⟩
    ·rcases a6 q x z with z|⟨z1,z2⟩
     ·exact Or.inl z
     ·exact Or.inr ⟨f,by simp,z1.symm,z2.symm⟩
    ·exact Or.inr ⟨g,by simp[g1],g2⟩
   ·rcases List.mem_cons.1 hg with rfl|hg
    ·exact a2.grow b2 b3 a4
    ·exact(b5 q).2 g hg
structure z3b (S:zre):Prop where
 small:∀ a∈S.arities,a<=3
 facts:∀ f∈S.facts,f.pred < S.arities.length/\Canon (S.arities.getD f.pred 0) f.row/\Small (za1 S.width) f.row
 rules:zqf S.rules S.arities (za1 S.width)
theorem z2a(S:zre):ze1 S.arities (za1 S.width) ⟨S.arities.map (zfp S.width),0,0,0,[]⟩:=by
 refine⟨by simp,fun p hp=>?_,?_⟩
 ·have hp':p < S.arities.length:=by simpa using hp
  simp only[List.getElem_map]
  refine⟨zd0.new _ _,zpl _ _,by rw[zgj,getD_lt _ hp'],fun k hk=>?_⟩
  obtain⟨k1,k2⟩:=(zb0 _ k).1 hk
  rw[zmm _ _ k (by rintro rfl;have:=(zd5 S.arities[p]).1;rw[zgj] at k1;simp at k1;omega)] at k2
  cases k2
 ·show 0=_
  rw[List.map_map]
  have:∀ l:List Nat,(l.map ((fun T:zad=>T.count) ∘ zfp S.width)).sum=0:=by
   intro l
   induction l with
   |nil=>rfl
   |cons a l ih=>simp only[List.map_cons,List.sum_cons,ih];rfl
  exact(this _).symm
theorem zts(S:zre)(p:Nat)(x:zaq):zdb S.arities ⟨S.arities.map (zfp S.width),0,0,0,[]⟩ p x=none:=by
 unfold zdb
 split
 ·rename_i hc
  have hp:p < (S.arities.map (zfp S.width)).length:=by simpa using hc.1
  show zes ((S.arities.map (zfp S.width)).getD p zad.zero) x=none
  rw[getD_lt _ hp,List.getElem_map,(zd0.new _ _).mark x hc.2.1,zmm]
  intro e
  have:=congrArg List.length e
  rw[List.length_take,hc.2.1,zgj] at this
  have:=zd5 S.arities[p]
  simp at *
  omega
 ·rfl
theorem z7m{S:zre}(h:z3b S){mr mx:Nat}(hmr:mr<=1048576):∃ N,∀ fuel,N<=fuel->∃ res,z6s fuel S mr mx=some res/\(res=none->zkb S mr mx=none)/\∀ R,res=some R->ze1 S.arities (za1 S.width) R/\R.count<=mr/\zkb S mr mx=some (zdb S.arities R,R.rounds):=by
 obtain⟨B,hB⟩:∃ B,(∀ r∈S.rules,zfy (za1 S.width) r<=B)/\3 * (za1 S.width+1)<=B:=by
  have:∀ rs:List zaf,∃ B,∀ r∈rs,zfy (za1 S.width) r<=B:=by
   intro rs
   induction rs with
   |nil=>exact⟨0,fun r hr=>by cases hr⟩
   |cons a rs ih =>
    obtain⟨B,hB⟩:=ih
    refine⟨B+zfy (za1 S.width) a,fun r hr=>?_⟩
    rcases List.mem_cons.1 hr with rfl|hr
    ·omega
    ·have:=hB r hr;omega
  obtain⟨B,hB⟩:=this S.rules
  exact⟨B+3 * (za1 S.width+1),fun r hr=>by have:=hB r hr;omega,by omega⟩
 refine⟨B+mx+1,fun fuel hfu=>?_⟩
 have hmid:=Mid.clear (z2a S)
 have hst:ze2 ⟨S.arities.map (zfp S.width),0,0,0,[]⟩=zff S:=rfl
 rw[hst] at hmid
 obtain⟨R,ok,a1,a2,a3,a4,a5,a6⟩:=zo6 h.small hmr S.facts (zff S) h.facts hmid (Nat.zero_le _)
 have hfr:∀ q x,x∉(zff S).fresh.getD q []:=fun q x hx=>by
  have hx':x∈(List.replicate (S.arities.map (zfp S.width)).length ([]:List zaq)).getD q []:=hx
  have:∀ n,(List.replicate n ([]:List zaq)).getD q []=[]:=fun n=>by by_cases hp:q < n <;> simp[List.getD,hp]
  rw[this] at hx'
  cases hx'
 have hsub:∀ p x,InD (zdb S.arities R) p x->InD (zje S.facts) p x:=by
  intro p x hx
  unfold InD at hx ⊢
  rw[a2.abs,zts] at hx
  simp only at hx
  by_cases hm:x∈R.fresh.getD p []
  ·unfold zje
   rw[if_pos ((a4 p x hm).resolve_left (hfr p x))];rfl
  ·rw[if_neg hm] at hx;cases hx
 unfold z6s
 rw[a1]
 cases ok with
 |false =>
  refine⟨none,rfl,fun _=>?_,fun R q=>by cases q⟩
  unfold zkb
  rw[if_neg]
  rintro⟨m,m1,m2⟩
  have:=zup (a2.inv.card h.small) m2 hsub
  have:=a6 rfl
  omega
 |true =>
  obtain⟨b1,b2⟩:=a5 rfl
  have hrd:R.rounds=0:=a2.rounds
  have heq:zdb S.arities R=zje S.facts:=by
   funext p x
   have hA:=a2.abs p x
   rw[zts] at hA
   simp only at hA
   rw[hA]
   unfold zje
   by_cases hf:∃ f∈S.facts,f.pred=p/\f.row=x
   ·rw[if_pos hf]
    obtain⟨f,f1,rfl,rfl⟩:=hf
    have:=b2 f f1
    unfold InD at this
    rw[hA] at this
    by_cases hm:f.row∈R.fresh.getD f.pred []
    ·rw[if_pos hm]
    ·rw[if_neg hm] at this;cases this
   ·rw[if_neg hf,if_neg]
    intro hm
    exact hf ((a4 p x hm).resolve_left (hfr p x))
  have hsm:zqg (zje S.facts) mr:=⟨R.count,b1,by rw[← heq];exact a2.inv.card h.small⟩
  obtain⟨R1,ok1,c1,c2,c3⟩:=zvx rfl h.small hmr (mx:=mx) h.rules B hB fuel (by omega) S.arities.length 0 R a2.inv b1 (by omega)
  simp only[c1,Option.map_some]
  rw[hrd,heq] at c2 c3
  have habs:zkb S mr mx=zeq S.rules mr mx S.arities.length 0 0 (zje S.facts):=by
   unfold zkb
   rw[if_pos hsm]
  cases ok1 with
  |false=>exact⟨none,rfl,fun _=>by rw[habs];exact c2 rfl,fun R q=>by cases q⟩
  |true =>
   refine⟨some R1,rfl,(fun q=>by cases q),fun R2 q=>?_⟩
   simp only[Option.some.injEq] at q
   subst q
   obtain⟨d1,d2,d3⟩:=c3 rfl
   exact⟨d1,d2,by rw[habs];exact d3⟩
end Go.Proofs.YteampbddflhngabGreat
namespace Go.Proofs.YteampbddflhngabGreat
theorem z4i{v t:ByteArray}{vs:List ByteArray}:v∈zrg vs t↔v∈vs∨(v=t/\zba v=true):=by
 unfold zrg
 cases hv:zba t with
 |false =>
  simp only[Bool.false_and,Bool.false_eq_true,if_false]
  exact⟨Or.inl,fun h=>h.elim id fun x=>by have g:=x.2;rw[x.1,hv] at g;cases g⟩
 |true =>
  cases hm:zon t vs with
  |true =>
   simp only[Bool.not_true,Bool.and_false,Bool.false_eq_true,if_false]
   exact⟨Or.inl,fun h=>h.elim id fun⟨e,_⟩=>by subst e;exact zfx.1 hm⟩
  |false =>
   simp only[Bool.not_false,Bool.and_true,if_true,List.mem_append,List.mem_singleton]
   exact⟨fun h=>h.elim Or.inl fun e=>Or.inr ⟨e,by rw[e];exact hv⟩,fun h=>h.elim Or.inl fun e=>Or.inr e.1⟩
theorem zkv{v:ByteArray}:∀ {args vs:List ByteArray},v∈zer vs args↔v∈vs∨(v∈args/\zba v=true)
 |[],vs=>by simp[zer]
 |t::r,vs=>by
  show v∈zer (zrg vs t) r↔_
  rw[zkv,z4i,List.mem_cons]
  constructor
  ·rintro((h|⟨h,g⟩)|⟨h,g⟩)
   ·exact Or.inl h
   ·exact Or.inr ⟨Or.inl h,g⟩
   ·exact Or.inr ⟨Or.inr h,g⟩
  ·rintro(h|⟨h|h,g⟩)
   ·exact Or.inl (Or.inl h)
   ·exact Or.inl (Or.inr ⟨h,g⟩)
   ·exact Or.inr ⟨h,g⟩
theorem zs6{v:ByteArray}:∀ {ls:List zbv} {vs:List ByteArray},v∈ls.foldl zjw vs↔v∈vs∨(zba v=true/\∃ l∈ls,v∈l.args)
 |[],vs=>by simp
 |l::r,vs=>by
  rw[List.foldl_cons,zs6,zjw,zkv]
  simp only[List.mem_cons,exists_eq_or_imp]
  constructor
  ·rintro((h|⟨h,g⟩)|⟨g,h⟩)
   ·exact Or.inl h
   ·exact Or.inr ⟨g,Or.inl h⟩
   ·exact Or.inr ⟨g,Or.inr h⟩
  ·rintro(h|⟨g,h|h⟩)
   ·exact Or.inl (Or.inl h)
   ·exact Or.inl (Or.inr ⟨h,g⟩)
   ·exact Or.inr ⟨g,h⟩
theorem zpk{v:ByteArray}:∀ {ls:List zbv} {vs:List ByteArray},v∈ls.foldl zek vs↔v∈vs∨(zba v=true/\∃ l∈ls,l.neg=false/\v∈l.args)
 |[],vs=>by simp
 |l::r,vs=>by
  rw[List.foldl_cons,zpk,zek]
  simp only[List.mem_cons,exists_eq_or_imp]
  cases hn:l.neg with
  |true=>simp
  |false =>
   rw[if_neg (by simp),zkv]
   constructor
   ·rintro((h|⟨h,g⟩)|⟨g,h⟩)
    ·exact Or.inl h
    ·exact Or.inr ⟨g,Or.inl ⟨rfl,h⟩⟩
    ·exact Or.inr ⟨g,Or.inr h⟩
   ·rintro(h|⟨g,⟨-,h⟩|h⟩)
    ·exact Or.inl (Or.inl h)
    ·exact Or.inl (Or.inr ⟨h,g⟩)
    ·exact Or.inr ⟨g,h⟩
theorem z1c{v:ByteArray}{c:zac}:v∈zjn c↔zba v=true/\(v∈c.head.args∨∃ l∈c.body,v∈l.args):=by
 unfold zjn
 rw[zs6,zkv]
 constructor
 ·rintro((h|⟨h,g⟩)|⟨g,h⟩)
  ·exact absurd h (by simp)
  ·exact⟨g,Or.inl h⟩
  ·exact⟨g,Or.inr h⟩
 ·rintro⟨g,h|h⟩
  ·exact Or.inl (Or.inr ⟨h,g⟩)
  ·exact Or.inr ⟨g,h⟩
theorem zjy{v:ByteArray}{c:zac}:v∈zah c↔zba v=true/\∃ l∈c.body,l.neg=false/\v∈l.args:=by
 unfold zah;rw[zpk];simp
theorem zm6{vs args:List ByteArray}:ze3 vs args=true↔∀ t∈args,zba t=true->t∈vs:=by
 unfold ze3
 rw[List.all_eq_true]
 constructor
 ·intro h t ht hv
  have:=h t ht
  rw[hv,Bool.not_true,Bool.false_or] at this
  exact zfx.1 this
 ·intro h t ht
  cases hv:zba t with
  |false=>rfl
  |true=>rw[Bool.not_true,Bool.false_or];exact zfx.2 (h t ht hv)
theorem zrv:∀ a:List UInt8,Op.bytesLess a a=false
 |[]=>rfl
 |x::a=>by simp[Op.bytesLess,zrv a]
theorem zwd:∀ a b:List UInt8,Op.bytesLess a b=false->Op.bytesLess b a=false->a=b
 |[],[],_,_=>rfl
 |[],_::_,h,_=>by simp[Op.bytesLess] at h
 |_::_,[],_,h=>by simp[Op.bytesLess] at h
 |x::a,y::b,h1,h2=>by
  simp only[Op.bytesLess,Bool.or_eq_false_iff,decide_eq_false_iff_not,Bool.and_eq_false_iff,beq_eq_false_iff_ne] at h1 h2
  have hxy:x=y:=by
   have ha:=h1.1
   have hb:=h2.1
   rw[UInt8.not_lt] at ha hb
   exact UInt8.le_antisymm hb ha
  subst hxy
  rw[zwd a b (h1.2.resolve_left fun h=>h rfl) (h2.2.resolve_left fun h=>h rfl)]
theorem zwe:∀ a b c:List UInt8,Op.bytesLess a b=true->Op.bytesLess b c=true->Op.bytesLess a c=true
 |_,[],_,h,_=>by cases ‹List UInt8› <;> simp[Op.bytesLess] at h
 |_,_::_,[],_,h=>by simp[Op.bytesLess] at h
 |[],_::_,_::_,_,_=>rfl
 |x::a,y::b,z::c,h1,h2=>by
  simp only[Op.bytesLess,Bool.or_eq_true,decide_eq_true_eq,Bool.and_eq_true,beq_iff_eq] at h1 h2 ⊢
  rcases h1 with h1|⟨rfl,h1⟩
  ·rcases h2 with h2|⟨rfl,h2⟩
   ·exact Or.inl (UInt8.lt_trans h1 h2)
   ·exact Or.inl h1
  ·rcases h2 with h2|⟨rfl,h2⟩
   ·exact Or.inl h2
   ·exact Or.inr ⟨rfl,zwe a b c h1 h2⟩
theorem lt_irrefl(a:ByteArray):ltB a a=false:=zrv _
theorem zwr{a b:ByteArray}(h1:ltB a b=false)(h2:ltB b a=false):a=b:=toList_inj (zwd _ _ h1 h2)
theorem lt_trans{a b c:ByteArray}(h1:ltB a b=true)(h2:ltB b c=true):ltB a c=true:=zwe _ _ _ h1 h2
def zcc(l:List ByteArray):Prop:=l.Pairwise fun a b=>ltB a b=true
theorem zq4:∀ {a b:List ByteArray},zcc a->zcc b->(∀ x,x∈a↔x∈b)->a=b
 |[],[],_,_,_=>rfl
 |[],y::b,_,_,h=>by have:=(h y).2 (by simp);cases this
 |x::a,[],_,_,h=>by have:=(h x).1 (by simp);cases this
 |x::a,y::b,ha,hb,h=>by
  obtain⟨ha1,ha2⟩:=List.pairwise_cons.1 ha
  obtain⟨hb1,hb2⟩:=List.pairwise_cons.1 hb
  have hxy:x=y:=by
   have h1:=(h x).1 (by simp)
   have h2:=(h y).2 (by simp)
   rcases List.mem_cons.1 h1 with h1|h1
   ·exact h1
   ·rcases List.mem_cons.1 h2 with h2|h2
    ·exact h2.symm
    ·have e1:=hb1 x h1
     have e2:=ha1 y h2
     have:=lt_trans e1 e2;rw[lt_irrefl] at this;cases this
  subst hxy
  have hna:x∉a:=fun hm=>by have:=ha1 x hm;rw[lt_irrefl] at this;cases this
  have hnb:x∉b:=fun hm=>by have:=hb1 x hm;rw[lt_irrefl] at this;cases this
  rw[zq4 ha2 hb2 (fun z=>?_)]
  have hz:=h z
  simp only[List.mem_cons] at hz
  constructor
  ·intro hm
   rcases hz.1 (Or.inr hm) with e|e
   ·subst e;exact absurd hm hna
   ·exact e
  ·intro hm
   rcases hz.2 (Or.inr hm) with e|e
   ·subst e;exact absurd hm hnb
   ·exact e
def namesT(t:List zav):List ByteArray:=t.map zav.name
theorem zq3:∀(t:List zav) (n:ByteArray),∀ e∈t.take (zaj t n),ltB e.name n=true
 |[],_,e,h=>by simp at h
 |a::r,n,e,h=>by
  unfold zaj at h
  cases ha:ltB a.name n with
  |false=>simp[ha] at h
  |true =>
   simp only[ha,if_true,List.take_succ_cons,List.mem_cons] at h
   rcases h with rfl|h
   ·exact ha
   ·exact zq3 r n e h
theorem zq2:∀(t:List zav) (n:ByteArray),zcc (namesT t)->∀ e∈t.drop (zaj t n),ltB e.name n=false
 |[],_,_,e,h=>by simp at h
 |a::r,n,hr,e,h=>by
  have hr':zcc (a.name::namesT r):=hr
  unfold zcc at hr'
  rw[List.pairwise_cons] at hr'
  unfold zaj at h
  cases ha:ltB a.name n with
  |true =>
   simp only[ha,if_true,List.drop_succ_cons] at h
   exact zq2 r n hr'.2 e h
  |false =>
   simp only[ha,Bool.false_eq_true,if_false,List.drop_zero,List.mem_cons] at h
   rcases h with rfl|h
   ·exact ha
   ·cases he:ltB e.name n with
    |false=>rfl
    |true =>
     have:=lt_trans (hr'.1 e.name (List.mem_map.2 ⟨e,h,rfl⟩)) he
     rw[ha] at this;cases this
theorem zm8{t:List zav}{n:ByteArray}{e:zav}(h:zbu t n=some e):e∈t/\e.name=n:=by
 obtain⟨hk,h1,h2⟩:=zcd h
 exact⟨by rw[← h1];exact List.getElem_mem hk,h2⟩
theorem zkh{t:List zav}{n:ByteArray}(hr:zcc (namesT t))(h:zbu t n=none):∀ e∈t,e.name≠n:=by
 intro e he hn
 rw[← List.take_append_drop (zaj t n) t,List.mem_append] at he
 rcases he with he|he
 ·have:=zq3 t n e he
  rw[hn,lt_irrefl] at this;cases this
 ·rcases ziz h with hk|⟨hk,hne⟩
  ·rw[List.drop_eq_nil_of_le (by omega)] at he;cases he
  ·have hd:t.drop (zaj t n)=t[zaj t n]::t.drop (zaj t n+1):=List.drop_eq_getElem_cons hk
   have hge:=zq2 t n hr t[zaj t n] (by rw[hd];exact List.mem_cons_self)
   rw[hd,List.mem_cons] at he
   rcases he with rfl|he
   ·exact hne hn
   ·have hr2:zcc (namesT (t.drop (zaj t n))):=by
     unfold zcc namesT at *;rw[List.map_drop];exact hr.sublist (List.drop_sublist _ _)
    rw[hd] at hr2
    have hr3:zcc (t[zaj t n].name::namesT (t.drop (zaj t n+1))):=hr2
    unfold zcc at hr3
    rw[List.pairwise_cons] at hr3
    have:=hr3.1 e.name (List.mem_map.2 ⟨e,he,rfl⟩)
    rw[hn,hge] at this;cases this
theorem zkw{t:List zav}{x e:zav}{k:Nat}:e∈zgh t x k↔e=x∨e∈t:=by
 unfold zgh
 rw[List.mem_append,List.mem_cons]
 constructor
 ·rintro(h|h|h)
  ·exact Or.inr (List.mem_of_mem_take h)
  ·exact Or.inl h
  ·exact Or.inr (List.mem_of_mem_drop h)
 ·rintro(h|h)
  ·exact Or.inr (Or.inl h)
  ·rw[← List.take_append_drop k t,List.mem_append] at h
   rcases h with h|h
   ·exact Or.inl h
   ·exact Or.inr (Or.inr h)
theorem zyx{t:List zav}{x:zav}(hr:zcc (namesT t))(hx:∀ e∈t,e.name≠x.name):zcc (namesT (zgh t x (zaj t x.name))):=by
 have h1:=zq3 t x.name
 have h2:=zq2 t x.name hr
 have hgt:∀ e∈t.drop (zaj t x.name),ltB x.name e.name=true:=by
  intro e he
  cases hc:ltB x.name e.name with
  |true=>rfl
  |false=>exact absurd (zwr (h2 e he) hc) (hx e (List.mem_of_mem_drop he))
 have hr2:=hr
 rw[← List.take_append_drop (zaj t x.name) t] at hr2
 unfold zcc namesT at hr2 ⊢
 unfold zgh
 rw[List.map_append,List.pairwise_append] at hr2
 rw[List.map_append,List.map_cons,List.pairwise_append,List.pairwise_cons]
 refine⟨hr2.1,⟨?_,hr2.2.1⟩,?_⟩
 ·intro b hb
  obtain⟨e,he,rfl⟩:=List.mem_map.1 hb
  exact hgt e he
 ·intro a ha b hb
  obtain⟨e,he,rfl⟩:=List.mem_map.1 ha
  rcases List.mem_cons.1 hb with rfl|hb
  ·exact h1 e he
  ·exact hr2.2.2 _ ha b hb
structure Tab (t:List zav) (ls:List zbv):Prop where
 rise:zcc (namesT t)
 names:∀ n,n∈namesT t↔∃ l∈ls,l.pred=n
 arity:∀ e∈t,∀ l∈ls,l.pred=e.name->l.args.length=e.arity
theorem Tab.step{t t':List zav}{ls:List zbv}{l:zbv}(h:Tab t ls)(ha:zou t l=some t'):Tab t' (ls++[l]):=by
 unfold zou at ha
 split at ha
 ·rename_i e he
  obtain⟨hm,hn⟩:=zm8 he
  split at ha
  ·rename_i har
   simp only[Option.some.injEq] at ha
   subst ha
   refine⟨h.rise,fun n=>?_,fun e' he' l' hl' hp=>?_⟩
   ·rw[h.names]
    constructor
    ·rintro⟨l',hl',hp⟩;exact⟨l',by simp[hl'],hp⟩
    ·rintro⟨l',hl',hp⟩
     rcases List.mem_append.1 hl' with hl'|hl'
     ·exact⟨l',hl',hp⟩
     ·simp at hl';subst hl'
      exact(h.names n).1 (List.mem_map.2 ⟨e,hm,by rw[hn,hp]⟩)
   ·rcases List.mem_append.1 hl' with hl'|hl'
    ·exact h.arity e' he' l' hl' hp
    ·simp at hl';subst hl'
     obtain⟨l0,hl0,hp0⟩:=(h.names e.name).1 (List.mem_map.2 ⟨e,hm,rfl⟩)
     rw[← har,← h.arity e hm l0 hl0 hp0]
     exact h.arity e' he' l0 hl0 (by rw[hp0,hn,hp])
  ·cases ha
 ·rename_i he
  simp only[Option.some.injEq] at ha
  subst ha
  have hout:=zkh h.rise he
  refine⟨zyx h.rise hout,fun n=>?_,fun e' he' l' hl' hp=>?_⟩
  ·constructor
   ·intro hn
    obtain⟨e,hm,rfl⟩:=List.mem_map.1 hn
    rcases zkw.1 hm with rfl|hm
    ·exact⟨l,by simp,rfl⟩
    ·obtain⟨l',hl',hp⟩:=(h.names e.name).1 (List.mem_map.2 ⟨e,hm,rfl⟩)
     exact⟨l',by simp[hl'],hp⟩
   ·rintro⟨l',hl',hp⟩
    rcases List.mem_append.1 hl' with hl'|hl'
    ·obtain⟨e,hm,hen⟩:=List.mem_map.1 ((h.names n).2 ⟨l',hl',hp⟩)
     exact List.mem_map.2 ⟨e,zkw.2 (Or.inr hm),hen⟩
    ·simp at hl';subst hl'
     exact List.mem_map.2 ⟨_,zkw.2 (Or.inl rfl),hp⟩
  ·rcases zkw.1 he' with rfl|hm
   ·rcases List.mem_append.1 hl' with hl'|hl'
    ·obtain⟨e,hm,hen⟩:=List.mem_map.1 ((h.names l'.pred).2 ⟨l',hl',rfl⟩)
     exact absurd (hen.trans hp) (hout e hm)
    ·simp at hl';subst hl';rfl
   ·rcases List.mem_append.1 hl' with hl'|hl'
    ·exact h.arity e' hm l' hl' hp
    ·simp at hl';subst hl';exact absurd hp.symm (hout e' hm)
theorem zz8:∀(ls done:List zbv) (t t':List zav),Tab t done->ls.foldl zmg (some t)=some t'->Tab t' (done++ls)
 |[],done,t,t',h,e=>by simp at e;subst e;simpa using h
 |l::ls,done,t,t',h,e=>by
  rw[List.foldl_cons] at e
  cases ha:zou t l with
  |none=>rw[show zmg (some t) l=none from ha,zif] at e;cases e
  |some t2 =>
   rw[show zmg (some t) l=some t2 from ha] at e
   have:=zz8 ls (done++[l]) t2 t' (h.step ha) e
   rwa [List.append_assoc] at this
theorem z6t:Tab [] []:=⟨List.Pairwise.nil,fun n=>by simp[namesT],fun e he=>by cases he⟩
theorem zur{cs:List zac}{t:List zav}(h:zgf cs=some t):Tab t (cs.flatMap za5):=by
 have:=zz8 (cs.flatMap za5) [] [] t z6t h
 simpa using this
def up(l:zbv):Nat:=if l.neg then 1 else 0
def Sol(cs:List zac)(f:ByteArray->Nat):Prop:=∀ c∈cs,∀ l∈c.body,f l.pred+up l<=f c.head.pred
def Least(cs:List zac)(f:ByteArray->Nat):Prop:=Sol cs f/\∀ g,Sol cs g->∀ n,f n<=g n
theorem zsy{cs:List zac}{g:ByteArray->Nat}(hg:Sol cs g):∃ f,Least cs f:=by
 have hmin:∀ n,∃ k,(∃ h,Sol cs h/\h n=k)/\∀ h,Sol cs h->k<=h n:=by
  intro n
  have aux:∀ m,(∃ h,Sol cs h/\h n<=m)->∃ k,(∃ h,Sol cs h/\h n=k)/\∀ h,Sol cs h->k<=h n:=by
   intro m
   induction m with
   |zero=>rintro⟨h,hs,h0⟩;exact⟨0,⟨h,hs,by omega⟩,fun _ _=>Nat.zero_le _⟩
   |succ m ih =>
    intro hm
    by_cases hx:∃ h,Sol cs h/\h n<=m
    ·exact ih hx
    ·obtain⟨h,hs,h0⟩:=hm
     have hlow:∀ h',Sol cs h'->m+1<=h' n:=fun h' hs'=>by
      false_or_by_contra;rename_i hc;exact hx ⟨h',hs',by omega⟩
     exact⟨m+1,⟨h,hs,by have:=hlow h hs;omega⟩,hlow⟩
  exact aux (g n) ⟨g,hg,Nat.le_refl _⟩
 refine⟨fun n=>(hmin n).choose,fun c hc l hl=>?_,fun h hs n=>(hmin n).choose_spec.2 h hs⟩
 obtain⟨⟨h,hs,hh⟩,-⟩:=(hmin c.head.pred).choose_spec
 have h1:=(hmin l.pred).choose_spec.2 h hs
 have h2:=hs c hc l hl
 simp only
 omega
theorem holes:∀(N:Nat) (L:List Nat),(∀ k,k<=N->k∈L)->N+1<=L.length
 |0,L,h=>by
  have:=h 0 (Nat.le_refl _)
  cases L with
  |nil=>cases this
  |cons=>simp
 |N+1,L,h=>by
  have hm:=h (N+1) (Nat.le_refl _)
  have:=holes N (L.erase (N+1)) fun k hk=>(List.mem_erase_of_ne (by omega)).2 (h k (by omega))
  rw[List.length_erase_of_mem hm] at this
  have:0 < L.length:=List.length_pos_of_mem hm
  omega
theorem z4b{cs:List zac}{f:ByteArray->Nat}(h:Least cs f){ps:List ByteArray}(hps:∀ c∈cs,∀ l∈za5 c,l.pred∈ps){n:ByteArray}(hn:n∈ps):f n < ps.length:=by
 false_or_by_contra
 rename_i hge
 have hx:∃ k,k<=ps.length/\k∉ps.map f:=by
  apply Classical.byContradiction
  intro hno
  have:=holes ps.length (ps.map f) fun k hk=>Classical.byContradiction fun hk2=>hno ⟨k,hk,hk2⟩
  rw[List.length_map] at this;omega
 obtain⟨k,hk,hkn⟩:=hx
 have hne:∀ m∈ps,f m≠k:=fun m hm e=>hkn (List.mem_map.2 ⟨m,hm,e⟩)
 have hs:Sol cs fun m=>if k < f m then f m - 1 else f m:=by
  intro c hc l hl
  have h1:=h.1 c hc l hl
  have h2:=hne l.pred (hps c hc l (by simp[za5,hl]))
  have h3:=hne c.head.pred (hps c hc c.head (by simp[za5]))
  have h4:up l<=1:=by unfold up;split <;> omega
  simp only
  split <;> split <;> omega
 have h5:=h.2 _ hs n
 have h6:=hne n hn
 split at h5 <;> omega
theorem zx1{cs:List zac}{f a b:ByteArray->Nat}(h:Least cs f)(hab:∀ n,a n<=b n)(hbf:∀ n,b n<=f n)(hstep:∀ c∈cs,∀ l∈c.body,a l.pred+up l<=b c.head.pred)
  (hsame:∀ n,b n=f n->a n=f n):∀ n,a n=f n:=by
 apply Classical.byContradiction
 intro hno
 have ⟨n,hn⟩:∃ n,¬ a n=f n:=Classical.byContradiction fun hx=>hno fun n=>Classical.byContradiction fun hc=>hx ⟨n,hc⟩
 have hs:Sol cs fun m=>if a m=f m then f m else f m - 1:=by
  intro c hc l hl
  have h1:=h.1 c hc l hl
  have h2:=hstep c hc l hl
  have h3:=hab c.head.pred
  have h4:=hbf c.head.pred
  have h5:=hsame c.head.pred
  have h6:=hab l.pred
  have h7:=hbf l.pred
  have h8:up l<=1:=by unfold up;split <;> omega
  simp only
  by_cases e1:a l.pred=f l.pred
  ·by_cases e2:a c.head.pred=f c.head.pred
   ·rw[if_pos e1,if_pos e2];exact h1
   ·have e3:¬ b c.head.pred=f c.head.pred:=fun e=>e2 (h5 e)
    rw[if_pos e1,if_neg e2];omega
  ·by_cases e2:a c.head.pred=f c.head.pred
   ·rw[if_neg e1,if_pos e2];omega
   ·rw[if_neg e1,if_neg e2];omega
 have h5:=h.2 _ hs n
 simp only[hn,if_false] at h5
 have h6:=hab n
 have h7:=hbf n
 omega
def val(t:List zav)(n:ByteArray):Nat:=match zbu t n with
 |some e=>e.stratum
 |none=>0
theorem zis:∀ {t t':List zav},namesT t=namesT t'->∀ n,zaj t n=zaj t' n
 |[],[],_,_=>rfl
 |[],_::_,h,_=>by simp[namesT] at h
 |_::_,[],h,_=>by simp[namesT] at h
 |a::r,b::q,h,n=>by
  simp only[namesT,List.map_cons,List.cons.injEq] at h
  unfold zaj
  rw[h.1,zis h.2 n]
theorem zs7{t:List zav}{k:Nat}{e:zav}(hk:k < t.length)(he:e.name=t[k].name):namesT (t.set k e)=namesT t:=by
 unfold namesT
 rw[List.map_set,he]
 apply List.ext_getElem (by simp)
 intro i h1 h2
 rw[List.getElem_set]
 split
 ·rename_i h;subst h;simp
 ·rfl
theorem ztl(t:List zav)(n:ByteArray)(s:Nat):namesT (zb8 t n s).1=namesT t:=by
 unfold zb8
 split
 ·rfl
 ·rename_i e he
  obtain⟨hk,h1,h2⟩:=zcd he
  split
  ·rfl
  ·exact zs7 hk (by rw[h1])
theorem z0k{t:List zav}{n:ByteArray}{e:zav}(s:Nat)(he:zbu t n=some e)(m:ByteArray):zbu (t.set (zaj t n) { e with stratum:=s }) m=if m=n then some { e with stratum:=s } else zbu t m:=by
 obtain⟨hk,h1,h2⟩:=zcd he
 have hp:zaj (t.set (zaj t n) { e with stratum:=s }) m=zaj t m:=zis (zs7 hk (by rw[h1])) m
 unfold zbu
 rw[hp,List.getElem?_set]
 by_cases hm:m=n
 ·subst hm
  rw[if_pos rfl,if_pos rfl,if_pos hk]
  simp[h2]
 ·rw[if_neg hm]
  by_cases hq:zaj t n=zaj t m
  ·rw[if_pos hq,if_pos hk,← hq,List.getElem?_eq_getElem hk,h1]
   simp[h2,Ne.symm hm]
  ·rw[if_neg hq]
theorem zty(t:List zav)(n:ByteArray)(s:Nat)(m:ByteArray):val (zb8 t n s).1 m=if m=n/\(zbu t n).isSome=true then max (val t n) s else val t m:=by
 unfold zb8
 cases he:zbu t n with
 |none=>simp
 |some e =>
  simp only[Option.isSome_some,and_true]
  have hv:val t n=e.stratum:=by simp[val,he]
  split
  ·split
   ·rename_i h1 h2;rw[h2,hv];omega
   ·rfl
  ·rename_i h1
   unfold val
   rw[z0k s he m,he]
   by_cases hm:m=n
   ·rw[if_pos hm,if_pos hm];simp only;omega
   ·rw[if_neg hm,if_neg hm]
theorem zyw(t:List zav)(n:ByteArray)(s:Nat):((zb8 t n s).2=false->(zb8 t n s).1=t)/\((zb8 t n s).2=true->val t n < val (zb8 t n s).1 n):=by
 constructor
 ·unfold zb8;split
  ·exact fun _=>rfl
  ·split
   ·exact fun _=>rfl
   ·intro h;cases h
 ·intro h
  rw[zty]
  unfold zb8 at h
  split at h
  ·cases h
  ·rename_i e he
   split at h
   ·cases h
   ·rename_i h1
    have hv:val t n=e.stratum:=by simp[val,he]
    rw[if_pos ⟨rfl,by simp[he]⟩];omega
theorem zwo{t:List zav}:∀(b:List zbv) (n:Nat),n<=b.foldl (ze4 t) n/\∀ l∈b,zt5 t l<=b.foldl (ze4 t) n
 |[],n=>⟨Nat.le_refl _,fun l hl=>by cases hl⟩
 |a::b,n=>by
  have ⟨h1,h2⟩:=zwo (t:=t) b (ze4 t n a)
  have h3:n<=ze4 t n a/\zt5 t a<=ze4 t n a:=by unfold ze4;split <;> omega
  rw[List.foldl_cons]
  refine⟨by omega,fun l hl=>?_⟩
  rcases List.mem_cons.1 hl with rfl|hl
  ·omega
  ·exact h2 l hl
theorem zwp{t:List zav}{M:Nat}:∀(b:List zbv) (n:Nat),n<=M->(∀ l∈b,zt5 t l<=M)->b.foldl (ze4 t) n<=M
 |[],n,h,_=>h
 |a::b,n,h,hb=>by
  rw[List.foldl_cons]
  refine zwp b _ ?_ fun l hl=>hb l (by simp[hl])
  have:=hb a (by simp)
  unfold ze4;split <;> omega
theorem z4c{t:List zav}{l:zbv}(h:(zbu t l.pred).isSome=true):zt5 t l=val t l.pred+up l:=by
 unfold zt5 val up
 cases he:zbu t l.pred with
 |none=>rw[he] at h;cases h
 |some e=>simp only;split <;> rfl
end Go.Proofs.YteampbddflhngabGreat
