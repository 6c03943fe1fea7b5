import Derived.Test.YteampbddflhngabGreatB42
import Derived.Test.YteampbddflhngabGreatB09

namespace Go.Proofs.YteampbddflhngabGreat
open Classical
def zmj(D:DB)(mr:Nat):Prop:=∃ n,n<=mr/\zfr D n
noncomputable def zdd(rs:List zah)(mr:Nat):Nat->Nat->DB->Option (DB × Nat)
 |0,_,_=>none
 |left+1,k,D =>
  if zmj (zfu rs (k+1) D) mr then
   if ∀ p x,InD (zfu rs (k+1) D) p x->InD D p x then some (zfu rs (k+1) D,k+1)
   else zdd rs mr left (k+1) (zfu rs (k+1) D)
  else none
noncomputable def zcv(rules:List zah)(mr mx:Nat):Nat->Nat->Nat->DB->Option (DB × Nat)
 |0,_,k,D=>some (D,k)
 |n+1,s,k,D =>
  if (rules.filter fun r=>decide (r.stratum=s))=[] then zcv rules mr mx n (s+1) k D
  else match zdd (rules.filter fun r=>decide (r.stratum=s)) mr (mx - k) k D with
   |none=>none
   |some (D',k')=>zcv rules mr mx n (s+1) k' D'
noncomputable def zis(fs:List zjj):DB:=fun p x=>if ∃ f∈fs,f.pred=p/\f.row=x then some 0 else none
noncomputable def zgg(S:zsz)(mr mx:Nat):Option (DB × Nat):=if zmj (zis S.facts) mr then zcv S.rules mr mx S.arities.length 0 0 (zis S.facts) else none
theorem z1u(rs:List zah)(k:Nat)(D:DB):∀ p x,InD D p x->InD (zfu rs k D) p x:=by
 intro p x h
 unfold InD zfu at *
 cases hq:D p x with
 |some m=>rfl
 |none=>rw[hq] at h;cases h
theorem zxu{rs:List zah}{k:Nat}{D:DB}:∀ p x,zl3 rs D p x->InD (zfu rs k D) p x:=by
 intro p x h
 unfold InD zfu
 cases hq:D p x with
 |some m=>rfl
 |none=>simp only;rw[if_pos h];rfl
theorem zwa{ar:List Nat}{W wd:Nat}(hWd:W=za3 wd)(h3:∀ a∈ar,a<=3){mr mx:Nat}(hmr:mr<=1048576){rs:List zah}(hs:zo1 rs ar W)(B:Nat)(hB:(∀ r∈rs,zf9 W r<=B)/\3 * (W+1)<=B) :
  ∀(n:Nat) (first:Bool) (ws:List zbl) (R:zbf) (D0:DB),zew ar W R->R.count<=mr->R.rounds<=mx->(∀ p x,InD D0 p x->InD (zcm ar R) p x)->zdo ar W D0 (zcm ar R) (R.rows.map (·.count)) ws rs->(first=false->∀ p x,zl3 rs D0 p x->InD (zcm ar R) p x)->B+(mx - R.rounds) < n →
  ∃ R' ok,zg0 wd mr mx n first ws R=some (R',ok)/\(ok=false->zdd rs mr (mx - R.rounds) R.rounds (zcm ar R)=none)/\(ok=true->zew ar W R'/\R'.count<=mr/\R'.rounds<=mx/\zdd rs mr (mx - R.rounds) R.rounds (zcm ar R)=some (zcm ar R',R'.rounds)):=by
 intro n
 induction n with
 |zero=>intro first ws R D0 _ _ _ _ _ _ h;omega
 |succ n ih =>
  intro first ws R D0 hi hc hk hD0 hw hcl hn
  unfold zg0
  by_cases hge:R.rounds ≥ mx
  ·rw[if_pos hge]
   refine⟨R,false,rfl,fun _=>?_,fun q=>by cases q⟩
   rw[show mx - R.rounds=0 by omega];rfl
  ·rw[if_neg hge]
   obtain⟨left,hleft⟩:∃ left,mx - R.rounds=left+1:=⟨mx - R.rounds - 1,by omega⟩
   obtain⟨R1,ws1,ok,a1,a2,a3,a4,a5,a6⟩:=z1y hWd h3 hmr n hs ⟨fun r hr=>by have:=hB.1 r hr;omega,by have:=hB.2;omega⟩ first hi hc hD0 hw hcl
   rw[a1]
   have hcard1:=a2.card h3
   have hcard:=hi.card h3
   rw[hleft]
   cases ok with
   |false =>
    refine⟨R1,false,rfl,fun _=>?_,fun q=>by cases q⟩
    unfold zdd
    rw[if_neg]
    rintro⟨m,m1,m2⟩
    have:=zo8 hcard1 m2 a4
    have:=a5 rfl
    omega
   |true =>
    obtain⟨b1,b2,b3⟩:=a6 rfl
    simp only
    have hsm:zmj (zcm ar R1) mr:=⟨R1.count,b1,hcard1⟩
    have hsub:∀ p x,InD (zcm ar R) p x->InD (zcm ar R1) p x:=by rw[b2];exact z1u _ _ _
    by_cases hnew:R1.count > R.count
    ·rw[if_pos hnew]
     have hnot:¬ ∀ p x,InD (zcm ar R1) p x->InD (zcm ar R) p x:=fun q=>by
      have:=zo8 hcard1 hcard q
      omega
     obtain⟨R2,ok2,c1,c2,c3⟩:=ih false ws1 R1 (zcm ar R) a2 b1 (by omega) hsub b3 (fun _ p x hx=>by rw[b2];exact zxu p x hx) (by omega)
     have hl:mx - R1.rounds=left:=by omega
     have e:zdd rs mr (left+1) R.rounds (zcm ar R)=zdd rs mr left R1.rounds (zcm ar R1):=by
      rw[zdd,← b2,if_pos hsm,if_neg hnot,a3]
     rw[hl] at c2 c3
     exact⟨R2,ok2,c1,fun q=>by rw[e];exact c2 q,fun q=>by rw[e];exact c3 q⟩
    ·rw[if_neg hnew]
     have hall:=z5o hcard hcard1 hsub (by omega)
     refine⟨R1,true,rfl,fun q=>(by cases q),fun _=>⟨a2,b1,by omega,?_⟩⟩
     rw[zdd,← b2,if_pos hsm,if_pos hall,a3]
structure zsg (rs:List zah) (ar:List Nat) (W:Nat):Prop where
 rules:∀ r∈rs,zn5 r ar W
 apart:∀ r∈rs,∀ r'∈rs,r.stratum=r'.stratum->∀ l∈r.nots,l.pred≠r'.head.pred
theorem zsg.strat{rules:List zah}{ar:List Nat}{W:Nat}(h:zsg rules ar W)(s:Nat):zo1 (rules.filter fun r=>decide (r.stratum=s)) ar W:=by
 refine⟨fun r hr=>h.rules r (List.mem_filter.1 hr).1,fun r hr r' hr' l hl=>h.apart r (List.mem_filter.1 hr).1 r' (List.mem_filter.1 hr').1 ?_ l hl⟩
 have h1:=(List.mem_filter.1 hr).2
 have h2:=(List.mem_filter.1 hr').2
 simp at h1 h2
 omega
theorem zxo{ar:List Nat}{W wd:Nat}(hWd:W=za3 wd)(h3:∀ a∈ar,a<=3){mr mx:Nat}(hmr:mr<=1048576){rules:List zah}(hr:zsg rules ar W)(B:Nat)(hB:(∀ r∈rules,zf9 W r<=B)/\3 * (W+1)<=B)(fuel:Nat)(hfu:B+mx < fuel) :
  ∀(n s:Nat) (R:zbf),zew ar W R->R.count<=mr->R.rounds<=mx->∃ R' ok,zgh fuel wd mr mx rules n s R=some (R',ok)/\(ok=false->zcv rules mr mx n s R.rounds (zcm ar R)=none)/\(ok=true->zew ar W R'/\R'.count<=mr/\zcv rules mr mx n s R.rounds (zcm ar R)=some (zcm ar R',R'.rounds)):=by
 intro n
 induction n with
 |zero=>intro s R hi hc _;exact⟨R,true,rfl,fun q=>(by cases q),fun _=>⟨hi,hc,rfl⟩⟩
 |succ n ih =>
  intro s R hi hc hk
  obtain⟨ws,w1,w2⟩:=zog hWd h3 hi (by omega) fuel (by have:=hB.2;omega) s rules (fun r hq l hl=>((hr.rules r hq).plain l hl).1)
  have hlen:=w2.length
  unfold zgh zl5
  rw[w1]
  simp only
  unfold zcv
  by_cases h0:(rules.filter fun r=>decide (r.stratum=s))=[]
  ·rw[if_pos h0]
   rw[h0] at hlen
   rw[if_neg (by simp at hlen;simp[hlen])]
   simp only
   exact ih (s+1) R hi hc hk
  ·rw[if_neg h0]
   have hpos:ws.length > 0:=by rw[hlen];exact List.length_pos_iff.2 h0
   rw[if_pos hpos]
   obtain⟨R1,ok,a1,a2,a3⟩:=zwa hWd h3 hmr (mx:=mx) (hr.strat s) B ⟨fun r hq=>hB.1 r (List.mem_filter.1 hq).1,hB.2⟩ fuel true ws R z2a hi hc hk (fun p x q=>by cases q) w2 (fun q=>by cases q) (by omega)
   rw[a1]
   cases ok with
   |false =>
    refine⟨R1,false,rfl,fun _=>?_,fun q=>by cases q⟩
    rw[a2 rfl]
   |true =>
    obtain⟨b1,b2,b3,b4⟩:=a3 rfl
    simp only
    rw[b4]
    exact ih (s+1) R1 b1 b2 b3
theorem zrj{ar:List Nat}{W:Nat}(h3:∀ a∈ar,a<=3){mr:Nat}(hmr:mr<=1048576){k:Nat}{D0:DB}{c0:List Nat}:∀(fs:List zjj) (R:zbf),(∀ f∈fs,f.pred < ar.length/\Canon (ar.getD f.pred 0) f.row/\Small W f.row)->Mid ar W k D0 c0 R->R.count<=mr->∃ R' ok,zke mr fs R=some (R',ok)/\Mid ar W k D0 c0 R'/\(∀ q x,x∈R.fresh.getD q []->x∈R'.fresh.getD q [])/\(∀ q x,x∈R'.fresh.getD q []->x∈R.fresh.getD q []∨∃ f∈fs,f.pred=q/\f.row=x)/\(ok=true->R'.count<=mr/\∀ f∈fs,InD (zcm ar R') f.pred f.row)/\(ok=false->R'.count > mr)
 |[],R,_,hm,hc=>⟨R,true,rfl,hm,fun q x hx=>hx,fun q x hx=>Or.inl hx,fun _=>⟨hc,fun f hf=>by cases hf⟩,fun q=>by cases q⟩
 |f::fs,R,hf,hm,hc=>by
  obtain⟨f1,f2,f3⟩:=hf f (by simp)
  obtain⟨R1,ok,a1,a2,_,a4,a5,a6,a7,a8⟩:=hm.add h3 f1 f2 f3 hc hmr
  unfold zke
  rw[a1]
  cases ok with
  |false =>
   refine⟨R1,false,rfl,a2,a5,fun q x hx=>?_,(fun q=>by cases q),a8⟩
   rcases a6 q x hx with z|⟨z1,z2⟩
   ·exact Or.inl z
   ·exact Or.inr ⟨f,by simp,z1.symm,z2.symm⟩
  |true =>
   simp only
   obtain⟨R2,ok2,b1,b2,b3,b4,b5,b6⟩:=zrj h3 hmr fs R1 (fun x hx=>hf x (by simp[hx])) a2 (a7 rfl)
   refine⟨R2,ok2,b1,b2,fun q x hx=>b3 q x (a5 q x hx),fun q x hx=>?_,fun q=>⟨(b5 q).1,fun g hg=>?_⟩,b6⟩
   ·rcases b4 q x hx with z|⟨g,g1,g2⟩
    ·rcases a6 q x z with z|⟨z1,z2⟩
     ·exact Or.inl z
     ·exact Or.inr ⟨f,by simp,z1.symm,z2.symm⟩
    ·exact Or.inr ⟨g,by simp[g1],g2⟩
   ·rcases List.mem_cons.1 hg with rfl|hg
    ·exact a2.grow b2 b3 a4
    ·exact(b5 q).2 g hg
structure zz9 (S:zsz):Prop where
 small:∀ a∈S.arities,a<=3
 facts:∀ f∈S.facts,f.pred < S.arities.length/\Canon (S.arities.getD f.pred 0) f.row/\Small (za3 S.width) f.row
 rules:zsg S.rules S.arities (za3 S.width)
theorem z4f(S:zsz):zew S.arities (za3 S.width) ⟨S.arities.map (zf4 S.width),0,0,0,[]⟩:=by
 refine⟨by simp,fun p hp=>?_,?_⟩
 ·have hp':p < S.arities.length:=by simpa using hp
  simp only[List.getElem_map]
  refine⟨zej.new _ _,zqd _ _,by rw[zgw,getD_lt _ hp'],fun k hk=>?_⟩
  obtain⟨k1,k2⟩:=(zbs _ k).1 hk
  rw[znv _ _ k (by rintro rfl;have:=(zek S.arities[p]).1;rw[zgw] at k1;simp at k1;omega)] at k2
  cases k2
 ·show 0=_
  rw[List.map_map]
  have:∀ l:List Nat,(l.map ((fun T:zae=>T.count) ∘ zf4 S.width)).sum=0:=by
   intro l
   induction l with
   |nil=>rfl
   |cons a l ih=>simp only[List.map_cons,List.sum_cons,ih];rfl
  exact(this _).symm
theorem ztq(S:zsz)(p:Nat)(x:zar):zcm S.arities ⟨S.arities.map (zf4 S.width),0,0,0,[]⟩ p x=none:=by
 unfold zcm
 split
 ·rename_i hc
  have hp:p < (S.arities.map (zf4 S.width)).length:=by simpa using hc.1
  show zdy ((S.arities.map (zf4 S.width)).getD p zae.zero) x=none
  rw[getD_lt _ hp,List.getElem_map,(zej.new _ _).mark x hc.2.1,znv]
  intro e
  have:=congrArg List.length e
  rw[List.length_take,hc.2.1,zgw] at this
  have:=zek S.arities[p]
  simp at *
  omega
 ·rfl
theorem zza{S:zsz}(h:zz9 S){mr mx:Nat}(hmr:mr<=1048576):∃ N,∀ fuel,N<=fuel->∃ res,z98 fuel S mr mx=some res/\(res=none->zgg S mr mx=none)/\∀ R,res=some R->zew S.arities (za3 S.width) R/\R.count<=mr/\zgg S mr mx=some (zcm S.arities R,R.rounds):=by
 obtain⟨B,hB⟩:∃ B,(∀ r∈S.rules,zf9 (za3 S.width) r<=B)/\3 * (za3 S.width+1)<=B:=by
  have:∀ rs:List zah,∃ B,∀ r∈rs,zf9 (za3 S.width) r<=B:=by
   intro rs
   induction rs with
   |nil=>exact⟨0,fun r hr=>by cases hr⟩
   |cons a rs ih =>
    obtain⟨B,hB⟩:=ih
    refine⟨B+zf9 (za3 S.width) a,fun r hr=>?_⟩
    rcases List.mem_cons.1 hr with rfl|hr
    ·omega
    ·have:=hB r hr;omega
  obtain⟨B,hB⟩:=this S.rules
  exact⟨B+3 * (za3 S.width+1),fun r hr=>by have:=hB r hr;omega,by omega⟩
 refine⟨B+mx+1,fun fuel hfu=>?_⟩
 have hmid:=Mid.clear (z4f S)
 have hst:zff ⟨S.arities.map (zf4 S.width),0,0,0,[]⟩=zfp S:=rfl
 rw[hst] at hmid
 obtain⟨R,ok,a1,a2,a3,a4,a5,a6⟩:=zrj h.small hmr S.facts (zfp S) h.facts hmid (Nat.zero_le _)
 have hfr:∀ q x,x∉(zfp S).fresh.getD q []:=fun q x hx=>by
  have hx':x∈(List.replicate (S.arities.map (zf4 S.width)).length ([]:List zar)).getD q []:=hx
  have:∀ n,(List.replicate n ([]:List zar)).getD q []=[]:=fun n=>by by_cases hp:q < n <;> simp[List.getD,hp]
  rw[this] at hx'
  cases hx'
 have hsub:∀ p x,InD (zcm S.arities R) p x->InD (zis S.facts) p x:=by
  intro p x hx
  unfold InD at hx ⊢
  rw[a2.abs,ztq] at hx
  simp only at hx
  by_cases hm:x∈R.fresh.getD p []
  ·unfold zis
   rw[if_pos ((a4 p x hm).resolve_left (hfr p x))];rfl
  ·rw[if_neg hm] at hx;cases hx
 unfold z98
 rw[a1]
 cases ok with
 |false =>
  refine⟨none,rfl,fun _=>?_,fun R q=>by cases q⟩
  unfold zgg
  rw[if_neg]
  rintro⟨m,m1,m2⟩
  have:=zo8 (a2.inv.card h.small) m2 hsub
  have:=a6 rfl
  omega
 |true =>
  obtain⟨b1,b2⟩:=a5 rfl
  have hrd:R.rounds=0:=a2.rounds
  have heq:zcm S.arities R=zis S.facts:=by
   funext p x
   have hA:=a2.abs p x
   rw[ztq] at hA
   simp only at hA
   rw[hA]
   unfold zis
   by_cases hf:∃ f∈S.facts,f.pred=p/\f.row=x
   ·rw[if_pos hf]
    obtain⟨f,f1,rfl,rfl⟩:=hf
    have:=b2 f f1
    unfold InD at this
    rw[hA] at this
    by_cases hm:f.row∈R.fresh.getD f.pred []
    ·rw[if_pos hm]
    ·rw[if_neg hm] at this;cases this
   ·rw[if_neg hf,if_neg]
    intro hm
    exact hf ((a4 p x hm).resolve_left (hfr p x))
  have hsm:zmj (zis S.facts) mr:=⟨R.count,b1,by rw[← heq];exact a2.inv.card h.small⟩
  obtain⟨R1,ok1,c1,c2,c3⟩:=zxo rfl h.small hmr (mx:=mx) h.rules B hB fuel (by omega) S.arities.length 0 R a2.inv b1 (by omega)
  simp only[c1,Option.map_some]
  rw[hrd,heq] at c2 c3
  have habs:zgg S mr mx=zcv S.rules mr mx S.arities.length 0 0 (zis S.facts):=by
   unfold zgg
   rw[if_pos hsm]
  cases ok1 with
  |false=>exact⟨none,rfl,fun _=>by rw[habs];exact c2 rfl,fun R q=>by cases q⟩
  |true =>
   refine⟨some R1,rfl,(fun q=>by cases q),fun R2 q=>?_⟩
   simp only[Option.some.injEq] at q
   subst q
   obtain⟨d1,d2,d3⟩:=c3 rfl
   exact⟨d1,d2,by rw[habs];exact d3⟩
end Go.Proofs.YteampbddflhngabGreat

namespace Go.Proofs.YteampbddflhngabGreat
theorem z8u{v t:ByteArray}{vs:List ByteArray}:v∈zs3 vs t↔v∈vs∨(v=t/\zbb v=true):=by
 unfold zs3
 cases hv:zbb t with
 |false =>
  simp only[Bool.false_and,Bool.false_eq_true,if_false]
  exact⟨Or.inl,fun h=>h.elim id fun x=>by have g:=x.2;rw[x.1,hv] at g;cases g⟩
 |true =>
  cases hm:zp6 t vs with
  |true =>
   simp only[Bool.not_true,Bool.and_false,Bool.false_eq_true,if_false]
   exact⟨Or.inl,fun h=>h.elim id fun⟨e,_⟩=>by subst e;exact zf8.1 hm⟩
  |false =>
   simp only[Bool.not_false,Bool.and_true,if_true,List.mem_append,List.mem_singleton]
   exact⟨fun h=>h.elim Or.inl fun e=>Or.inr ⟨e,by rw[e];exact hv⟩,fun h=>h.elim Or.inl fun e=>Or.inr e.1⟩
theorem zlt{v:ByteArray}:∀ {args vs:List ByteArray},v∈ze3 vs args↔v∈vs∨(v∈args/\zbb v=true)
 |[],vs=>by simp[ze3]
 |t::r,vs=>by
  show v∈ze3 (zs3 vs t) r↔_
  rw[zlt,z8u,List.mem_cons]
  constructor
  ·rintro((h|⟨h,g⟩)|⟨h,g⟩)
   ·exact Or.inl h
   ·exact Or.inr ⟨Or.inl h,g⟩
   ·exact Or.inr ⟨Or.inr h,g⟩
  ·rintro(h|⟨h|h,g⟩)
   ·exact Or.inl (Or.inl h)
   ·exact Or.inl (Or.inr ⟨h,g⟩)
   ·exact Or.inr ⟨h,g⟩
theorem zto{v:ByteArray}:∀ {ls:List zb2} {vs:List ByteArray},v∈ls.foldl zkw vs↔v∈vs∨(zbb v=true/\∃ l∈ls,v∈l.args)
 |[],vs=>by simp
 |l::r,vs=>by
  rw[List.foldl_cons,zto,zkw,zlt]
  simp only[List.mem_cons,exists_eq_or_imp]
  constructor
  ·rintro((h|⟨h,g⟩)|⟨g,h⟩)
   ·exact Or.inl h
   ·exact Or.inr ⟨g,Or.inl h⟩
   ·exact Or.inr ⟨g,Or.inr h⟩
  ·rintro(h|⟨g,h|h⟩)
   ·exact Or.inl (Or.inl h)
   ·exact Or.inl (Or.inr ⟨h,g⟩)
   ·exact Or.inr ⟨g,h⟩
theorem zql{v:ByteArray}:∀ {ls:List zb2} {vs:List ByteArray},v∈ls.foldl zey vs↔v∈vs∨(zbb v=true/\∃ l∈ls,l.neg=false/\v∈l.args)
 |[],vs=>by simp
 |l::r,vs=>by
  rw[List.foldl_cons,zql,zey]
  simp only[List.mem_cons,exists_eq_or_imp]
  cases hn:l.neg with
  |true=>simp
  |false =>
   rw[if_neg (by simp),zlt]
   constructor
   ·rintro((h|⟨h,g⟩)|⟨g,h⟩)
    ·exact Or.inl h
    ·exact Or.inr ⟨g,Or.inl ⟨rfl,h⟩⟩
    ·exact Or.inr ⟨g,Or.inr h⟩
   ·rintro(h|⟨g,⟨-,h⟩|h⟩)
    ·exact Or.inl (Or.inl h)
    ·exact Or.inl (Or.inr ⟨h,g⟩)
    ·exact Or.inr ⟨g,h⟩
theorem z3w{v:ByteArray}{c:zab}:v∈zkx c↔zbb v=true/\(v∈c.head.args∨∃ l∈c.body,v∈l.args):=by
 unfold zkx
 rw[zto,zlt]
 constructor
 ·rintro((h|⟨h,g⟩)|⟨g,h⟩)
  ·exact absurd h (by simp)
  ·exact⟨g,Or.inl h⟩
  ·exact⟨g,Or.inr h⟩
 ·rintro⟨g,h|h⟩
  ·exact Or.inl (Or.inr ⟨h,g⟩)
  ·exact Or.inr ⟨g,h⟩
theorem zij{v:ByteArray}{c:zab}:v∈zaf c↔zbb v=true/\∃ l∈c.body,l.neg=false/\v∈l.args:=by
 unfold zaf;rw[zql];simp
theorem zjc{vs args:List ByteArray}:zfg vs args=true↔∀ t∈args,zbb t=true->t∈vs:=by
 unfold zfg
 rw[List.all_eq_true]
 constructor
 ·intro h t ht hv
  have:=h t ht
  rw[hv,Bool.not_true,Bool.false_or] at this
  exact zf8.1 this
 ·intro h t ht
  cases hv:zbb t with
  |false=>rfl
  |true=>rw[Bool.not_true,Bool.false_or];exact zf8.2 (h t ht hv)
end Go.Proofs.YteampbddflhngabGreat

namespace Go.Proofs.YteampbddflhngabGreat
theorem zt8:∀ a:List UInt8,Op.bytesLess a a=false
 |[]=>rfl
 |x::a=>by simp[Op.bytesLess,zt8 a]
theorem zy7:∀ a b:List UInt8,Op.bytesLess a b=false->Op.bytesLess b a=false->a=b
 |[],[],_,_=>rfl
 |[],_::_,h,_=>by simp[Op.bytesLess] at h
 |_::_,[],_,h=>by simp[Op.bytesLess] at h
 |x::a,y::b,h1,h2=>by
  simp only[Op.bytesLess,Bool.or_eq_false_iff,decide_eq_false_iff_not,Bool.and_eq_false_iff,beq_eq_false_iff_ne] at h1 h2
  have hxy:x=y:=by
   have ha:=h1.1
   have hb:=h2.1
   rw[UInt8.not_lt] at ha hb
   exact UInt8.le_antisymm hb ha
  subst hxy
  rw[zy7 a b (h1.2.resolve_left fun h=>h rfl) (h2.2.resolve_left fun h=>h rfl)]
theorem zy8:∀ a b c:List UInt8,Op.bytesLess a b=true->Op.bytesLess b c=true->Op.bytesLess a c=true
 |_,[],_,h,_=>by cases ‹List UInt8› <;> simp[Op.bytesLess] at h
 |_,_::_,[],_,h=>by simp[Op.bytesLess] at h
 |[],_::_,_::_,_,_=>rfl
 |x::a,y::b,z::c,h1,h2=>by
  simp only[Op.bytesLess,Bool.or_eq_true,decide_eq_true_eq,Bool.and_eq_true,beq_iff_eq] at h1 h2 ⊢
  rcases h1 with h1|⟨rfl,h1⟩
  ·rcases h2 with h2|⟨rfl,h2⟩
   ·exact Or.inl (UInt8.lt_trans h1 h2)
   ·exact Or.inl h1
  ·rcases h2 with h2|⟨rfl,h2⟩
   ·exact Or.inl h2
   ·exact Or.inr ⟨rfl,zy8 a b c h1 h2⟩
theorem lt_irrefl(a:ByteArray):ltB a a=false:=zt8 _
theorem zya{a b:ByteArray}(h1:ltB a b=false)(h2:ltB b a=false):a=b:=toList_inj (zy7 _ _ h1 h2)
theorem lt_trans{a b c:ByteArray}(h1:ltB a b=true)(h2:ltB b c=true):ltB a c=true:=zy8 _ _ _ h1 h2
def zcj(l:List ByteArray):Prop:=l.Pairwise fun a b=>ltB a b=true
end Go.Proofs.YteampbddflhngabGreat

namespace Go.Proofs.YteampbddflhngabGreat
def namesT(t:List zao):List ByteArray:=t.map zao.name
theorem zno:∀(t:List zao) (n:ByteArray),∀ e∈t.take (zaj t n),ltB e.name n=true
 |[],_,e,h=>by simp at h
 |a::r,n,e,h=>by
  unfold zaj at h
  cases ha:ltB a.name n with
  |false=>simp[ha] at h
  |true =>
   simp only[ha,if_true,List.take_succ_cons,List.mem_cons] at h
   rcases h with rfl|h
   ·exact ha
   ·exact zno r n e h
theorem znp:∀(t:List zao) (n:ByteArray),zcj (namesT t)->∀ e∈t.drop (zaj t n),ltB e.name n=false
 |[],_,_,e,h=>by simp at h
 |a::r,n,hr,e,h=>by
  have hr':zcj (a.name::namesT r):=hr
  unfold zcj at hr'
  rw[List.pairwise_cons] at hr'
  unfold zaj at h
  cases ha:ltB a.name n with
  |true =>
   simp only[ha,if_true,List.drop_succ_cons] at h
   exact znp r n hr'.2 e h
  |false =>
   simp only[ha,Bool.false_eq_true,if_false,List.drop_zero,List.mem_cons] at h
   rcases h with rfl|h
   ·exact ha
   ·cases he:ltB e.name n with
    |false=>rfl
    |true =>
     have:=lt_trans (hr'.1 e.name (List.mem_map.2 ⟨e,h,rfl⟩)) he
     rw[ha] at this;cases this
theorem zov{t:List zao}{n:ByteArray}{e:zao}(h:zbj t n=some e):e∈t/\e.name=n:=by
 obtain⟨hk,h1,h2⟩:=zci h
 exact⟨by rw[← h1];exact List.getElem_mem hk,h2⟩
theorem zl0{t:List zao}{n:ByteArray}(hr:zcj (namesT t))(h:zbj t n=none):∀ e∈t,e.name≠n:=by
 intro e he hn
 rw[← List.take_append_drop (zaj t n) t,List.mem_append] at he
 rcases he with he|he
 ·have:=zno t n e he
  rw[hn,lt_irrefl] at this;cases this
 ·rcases zj4 h with hk|⟨hk,hne⟩
  ·rw[List.drop_eq_nil_of_le (by omega)] at he;cases he
  ·have hd:t.drop (zaj t n)=t[zaj t n]::t.drop (zaj t n+1):=List.drop_eq_getElem_cons hk
   have hge:=znp t n hr t[zaj t n] (by rw[hd];exact List.mem_cons_self)
   rw[hd,List.mem_cons] at he
   rcases he with rfl|he
   ·exact hne hn
   ·have hr2:zcj (namesT (t.drop (zaj t n))):=by
     unfold zcj namesT at *;rw[List.map_drop];exact hr.sublist (List.drop_sublist _ _)
    rw[hd] at hr2
    have hr3:zcj (t[zaj t n].name::namesT (t.drop (zaj t n+1))):=hr2
    unfold zcj at hr3
    rw[List.pairwise_cons] at hr3
    have:=hr3.1 e.name (List.mem_map.2 ⟨e,he,rfl⟩)
    rw[hn,hge] at this;cases this
theorem zlb{t:List zao}{x e:zao}{k:Nat}:e∈zgt t x k↔e=x∨e∈t:=by
 unfold zgt
 rw[List.mem_append,List.mem_cons]
 constructor
 ·rintro(h|h|h)
  ·exact Or.inr (List.mem_of_mem_take h)
  ·exact Or.inl h
  ·exact Or.inr (List.mem_of_mem_drop h)
 ·rintro(h|h)
  ·exact Or.inr (Or.inl h)
  ·rw[← List.take_append_drop k t,List.mem_append] at h
   rcases h with h|h
   ·exact Or.inl h
   ·exact Or.inr (Or.inr h)
theorem z1d{t:List zao}{x:zao}(hr:zcj (namesT t))(hx:∀ e∈t,e.name≠x.name):zcj (namesT (zgt t x (zaj t x.name))):=by
 have h1:=zno t x.name
 have h2:=znp t x.name hr
 have hgt:∀ e∈t.drop (zaj t x.name),ltB x.name e.name=true:=by
  intro e he
  cases hc:ltB x.name e.name with
  |true=>rfl
  |false=>exact absurd (zya (h2 e he) hc) (hx e (List.mem_of_mem_drop he))
 have hr2:=hr
 rw[← List.take_append_drop (zaj t x.name) t] at hr2
 unfold zcj namesT at hr2 ⊢
 unfold zgt
 rw[List.map_append,List.pairwise_append] at hr2
 rw[List.map_append,List.map_cons,List.pairwise_append,List.pairwise_cons]
 refine⟨hr2.1,⟨?_,hr2.2.1⟩,?_⟩
 ·intro b hb
  obtain⟨e,he,rfl⟩:=List.mem_map.1 hb
  exact hgt e he
 ·intro a ha b hb
  obtain⟨e,he,rfl⟩:=List.mem_map.1 ha
  rcases List.mem_cons.1 hb with rfl|hb
  ·exact h1 e he
  ·exact hr2.2.2 _ ha b hb
structure Tab (t:List zao) (ls:List zb2):Prop where
 rise:zcj (namesT t)
 names:∀ n,n∈namesT t↔∃ l∈ls,l.pred=n
 arity:∀ e∈t,∀ l∈ls,l.pred=e.name->l.args.length=e.arity
theorem Tab.step{t t':List zao}{ls:List zb2}{l:zb2}(h:Tab t ls)(ha:zqv t l=some t'):Tab t' (ls++[l]):=by
 unfold zqv at ha
 split at ha
 ·rename_i e he
  obtain⟨hm,hn⟩:=zov he
  split at ha
  ·rename_i har
   simp only[Option.some.injEq] at ha
   subst ha
   refine⟨h.rise,fun n=>?_,fun e' he' l' hl' hp=>?_⟩
   ·rw[h.names]
    constructor
    ·rintro⟨l',hl',hp⟩;exact⟨l',by simp[hl'],hp⟩
    ·rintro⟨l',hl',hp⟩
     rcases List.mem_append.1 hl' with hl'|hl'
     ·exact⟨l',hl',hp⟩
     ·simp at hl';subst hl'
      exact(h.names n).1 (List.mem_map.2 ⟨e,hm,by rw[hn,hp]⟩)
   ·rcases List.mem_append.1 hl' with hl'|hl'
    ·exact h.arity e' he' l' hl' hp
    ·simp at hl';subst hl'
     obtain⟨l0,hl0,hp0⟩:=(h.names e.name).1 (List.mem_map.2 ⟨e,hm,rfl⟩)
     rw[← har,← h.arity e hm l0 hl0 hp0]
     exact h.arity e' he' l0 hl0 (by rw[hp0,hn,hp])
  ·cases ha
 ·rename_i he
  simp only[Option.some.injEq] at ha
  subst ha
  have hout:=zl0 h.rise he
  refine⟨z1d h.rise hout,fun n=>?_,fun e' he' l' hl' hp=>?_⟩
  ·constructor
   ·intro hn
    obtain⟨e,hm,rfl⟩:=List.mem_map.1 hn
    rcases zlb.1 hm with rfl|hm
    ·exact⟨l,by simp,rfl⟩
    ·obtain⟨l',hl',hp⟩:=(h.names e.name).1 (List.mem_map.2 ⟨e,hm,rfl⟩)
     exact⟨l',by simp[hl'],hp⟩
   ·rintro⟨l',hl',hp⟩
    rcases List.mem_append.1 hl' with hl'|hl'
    ·obtain⟨e,hm,hen⟩:=List.mem_map.1 ((h.names n).2 ⟨l',hl',hp⟩)
     exact List.mem_map.2 ⟨e,zlb.2 (Or.inr hm),hen⟩
    ·simp at hl';subst hl'
     exact List.mem_map.2 ⟨_,zlb.2 (Or.inl rfl),hp⟩
  ·rcases zlb.1 he' with rfl|hm
   ·rcases List.mem_append.1 hl' with hl'|hl'
    ·obtain⟨e,hm,hen⟩:=List.mem_map.1 ((h.names l'.pred).2 ⟨l',hl',rfl⟩)
     exact absurd (hen.trans hp) (hout e hm)
    ·simp at hl';subst hl';rfl
   ·rcases List.mem_append.1 hl' with hl'|hl'
    ·exact h.arity e' hm l' hl' hp
    ·simp at hl';subst hl';exact absurd hp.symm (hout e' hm)
theorem z3q:∀(ls done:List zb2) (t t':List zao),Tab t done->ls.foldl znt (some t)=some t'->Tab t' (done++ls)
 |[],done,t,t',h,e=>by simp at e;subst e;simpa using h
 |l::ls,done,t,t',h,e=>by
  rw[List.foldl_cons] at e
  cases ha:zqv t l with
  |none=>rw[show znt (some t) l=none from ha,zi7] at e;cases e
  |some t2 =>
   rw[show znt (some t) l=some t2 from ha] at e
   have:=z3q ls (done++[l]) t2 t' (h.step ha) e
   rwa [List.append_assoc] at this
theorem z95:Tab [] []:=⟨List.Pairwise.nil,fun n=>by simp[namesT],fun e he=>by cases he⟩
theorem zwv{cs:List zab}{t:List zao}(h:zgp cs=some t):Tab t (cs.flatMap za5):=by
 have:=z3q (cs.flatMap za5) [] [] t z95 h
 simpa using this
end Go.Proofs.YteampbddflhngabGreat

namespace Go.Proofs.YteampbddflhngabGreat
def up(l:zb2):Nat:=if l.neg then 1 else 0
def Sol(cs:List zab)(f:ByteArray->Nat):Prop:=∀ c∈cs,∀ l∈c.body,f l.pred+up l<=f c.head.pred
def Least(cs:List zab)(f:ByteArray->Nat):Prop:=Sol cs f/\∀ g,Sol cs g->∀ n,f n<=g n
theorem zuw{cs:List zab}{g:ByteArray->Nat}(hg:Sol cs g):∃ f,Least cs f:=by
 have hmin:∀ n,∃ k,(∃ h,Sol cs h/\h n=k)/\∀ h,Sol cs h->k<=h n:=by
  intro n
  have aux:∀ m,(∃ h,Sol cs h/\h n<=m)->∃ k,(∃ h,Sol cs h/\h n=k)/\∀ h,Sol cs h->k<=h n:=by
   intro m
   induction m with
   |zero=>rintro⟨h,hs,h0⟩;exact⟨0,⟨h,hs,by omega⟩,fun _ _=>Nat.zero_le _⟩
   |succ m ih =>
    intro hm
    by_cases hx:∃ h,Sol cs h/\h n<=m
    ·exact ih hx
    ·obtain⟨h,hs,h0⟩:=hm
     have hlow:∀ h',Sol cs h'->m+1<=h' n:=fun h' hs'=>by
      false_or_by_contra;rename_i hc;exact hx ⟨h',hs',by omega⟩
     exact⟨m+1,⟨h,hs,by have:=hlow h hs;omega⟩,hlow⟩
  exact aux (g n) ⟨g,hg,Nat.le_refl _⟩
 refine⟨fun n=>(hmin n).choose,fun c hc l hl=>?_,fun h hs n=>(hmin n).choose_spec.2 h hs⟩
 obtain⟨⟨h,hs,hh⟩,-⟩:=(hmin c.head.pred).choose_spec
 have h1:=(hmin l.pred).choose_spec.2 h hs
 have h2:=hs c hc l hl
 simp only
 omega
theorem holes:∀(N:Nat) (L:List Nat),(∀ k,k<=N->k∈L)->N+1<=L.length
 |0,L,h=>by
  have:=h 0 (Nat.le_refl _)
  cases L with
  |nil=>cases this
  |cons=>simp
 |N+1,L,h=>by
  have hm:=h (N+1) (Nat.le_refl _)
  have:=holes N (L.erase (N+1)) fun k hk=>(List.mem_erase_of_ne (by omega)).2 (h k (by omega))
  rw[List.length_erase_of_mem hm] at this
  have:0 < L.length:=List.length_pos_of_mem hm
  omega
theorem z6t{cs:List zab}{f:ByteArray->Nat}(h:Least cs f){ps:List ByteArray}(hps:∀ c∈cs,∀ l∈za5 c,l.pred∈ps){n:ByteArray}(hn:n∈ps):f n < ps.length:=by
 false_or_by_contra
 rename_i hge
 have hx:∃ k,k<=ps.length/\k∉ps.map f:=by
  apply Classical.byContradiction
  intro hno
  have:=holes ps.length (ps.map f) fun k hk=>Classical.byContradiction fun hk2=>hno ⟨k,hk,hk2⟩
  rw[List.length_map] at this;omega
 obtain⟨k,hk,hkn⟩:=hx
 have hne:∀ m∈ps,f m≠k:=fun m hm e=>hkn (List.mem_map.2 ⟨m,hm,e⟩)
 have hs:Sol cs fun m=>if k < f m then f m - 1 else f m:=by
  intro c hc l hl
  have h1:=h.1 c hc l hl
  have h2:=hne l.pred (hps c hc l (by simp[za5,hl]))
  have h3:=hne c.head.pred (hps c hc c.head (by simp[za5]))
  have h4:up l<=1:=by unfold up;split <;> omega
  simp only
  split <;> split <;> omega
 have h5:=h.2 _ hs n
 have h6:=hne n hn
 split at h5 <;> omega
theorem z1q{cs:List zab}{f a b:ByteArray->Nat}(h:Least cs f)(hab:∀ n,a n<=b n)(hbf:∀ n,b n<=f n)(hstep:∀ c∈cs,∀ l∈c.body,a l.pred+up l<=b c.head.pred)
  (hsame:∀ n,b n=f n->a n=f n):∀ n,a n=f n:=by
 apply Classical.byContradiction
 intro hno
 have ⟨n,hn⟩:∃ n,¬ a n=f n:=Classical.byContradiction fun hx=>hno fun n=>Classical.byContradiction fun hc=>hx ⟨n,hc⟩
 have hs:Sol cs fun m=>if a m=f m then f m else f m - 1:=by
  intro c hc l hl
  have h1:=h.1 c hc l hl
  have h2:=hstep c hc l hl
  have h3:=hab c.head.pred
  have h4:=hbf c.head.pred
  have h5:=hsame c.head.pred
  have h6:=hab l.pred
  have h7:=hbf l.pred
  have h8:up l<=1:=by unfold up;split <;> omega
  simp only
  by_cases e1:a l.pred=f l.pred
  ·by_cases e2:a c.head.pred=f c.head.pred
   ·rw[if_pos e1,if_pos e2];exact h1
   ·have e3:¬ b c.head.pred=f c.head.pred:=fun e=>e2 (h5 e)
    rw[if_pos e1,if_neg e2];omega
  ·by_cases e2:a c.head.pred=f c.head.pred
   ·rw[if_neg e1,if_pos e2];omega
   ·rw[if_neg e1,if_neg e2];omega
 have h5:=h.2 _ hs n
 simp only[hn,if_false] at h5
 have h6:=hab n
 have h7:=hbf n
 omega
end Go.Proofs.YteampbddflhngabGreat

namespace Go.Proofs.YteampbddflhngabGreat
def val(t:List zao)(n:ByteArray):Nat:=match zbj t n with
 |some e=>e.stratum
 |none=>0
theorem zjn:∀ {t t':List zao},namesT t=namesT t'->∀ n,zaj t n=zaj t' n
 |[],[],_,_=>rfl
 |[],_::_,h,_=>by simp[namesT] at h
 |_::_,[],h,_=>by simp[namesT] at h
 |a::r,b::q,h,n=>by
  simp only[namesT,List.map_cons,List.cons.injEq] at h
  unfold zaj
  rw[h.1,zjn h.2 n]
theorem zvw{t:List zao}{k:Nat}{e:zao}(hk:k < t.length)(he:e.name=t[k].name):namesT (t.set k e)=namesT t:=by
 unfold namesT
 rw[List.map_set,he]
 apply List.ext_getElem (by simp)
 intro i h1 h2
 rw[List.getElem_set]
 split
 ·rename_i h;subst h;simp
 ·rfl
theorem zun(t:List zao)(n:ByteArray)(s:Nat):namesT (zcf t n s).1=namesT t:=by
 unfold zcf
 split
 ·rfl
 ·rename_i e he
  obtain⟨hk,h1,h2⟩:=zci he
  split
  ·rfl
  ·exact zvw hk (by rw[h1])
theorem z4p{t:List zao}{n:ByteArray}{e:zao}(s:Nat)(he:zbj t n=some e)(m:ByteArray):zbj (t.set (zaj t n) { e with stratum:=s }) m=if m=n then some { e with stratum:=s } else zbj t m:=by
 obtain⟨hk,h1,h2⟩:=zci he
 have hp:zaj (t.set (zaj t n) { e with stratum:=s }) m=zaj t m:=zjn (zvw hk (by rw[h1])) m
 unfold zbj
 rw[hp,List.getElem?_set]
 by_cases hm:m=n
 ·subst hm
  rw[if_pos rfl,if_pos rfl,if_pos hk]
  simp[h2]
 ·rw[if_neg hm]
  by_cases hq:zaj t n=zaj t m
  ·rw[if_pos hq,if_pos hk,← hq,List.getElem?_eq_getElem hk,h1]
   simp[h2,Ne.symm hm]
  ·rw[if_neg hq]
theorem zvn(t:List zao)(n:ByteArray)(s:Nat)(m:ByteArray):val (zcf t n s).1 m=if m=n/\(zbj t n).isSome=true then max (val t n) s else val t m:=by
 unfold zcf
 cases he:zbj t n with
 |none=>simp
 |some e =>
  simp only[Option.isSome_some,and_true]
  have hv:val t n=e.stratum:=by simp[val,he]
  split
  ·split
   ·rename_i h1 h2;rw[h2,hv];omega
   ·rfl
  ·rename_i h1
   unfold val
   rw[z4p s he m,he]
   by_cases hm:m=n
   ·rw[if_pos hm,if_pos hm];simp only;omega
   ·rw[if_neg hm,if_neg hm]
theorem zzz(t:List zao)(n:ByteArray)(s:Nat):((zcf t n s).2=false->(zcf t n s).1=t)/\((zcf t n s).2=true->val t n < val (zcf t n s).1 n):=by
 constructor
 ·unfold zcf;split
  ·exact fun _=>rfl
  ·split
   ·exact fun _=>rfl
   ·intro h;cases h
 ·intro h
  rw[zvn]
  unfold zcf at h
  split at h
  ·cases h
  ·rename_i e he
   split at h
   ·cases h
   ·rename_i h1
    have hv:val t n=e.stratum:=by simp[val,he]
    rw[if_pos ⟨rfl,by simp[he]⟩];omega
theorem zzd{t:List zao}:∀(b:List zb2) (n:Nat),n<=b.foldl (zfd t) n/\∀ l∈b,zvz t l<=b.foldl (zfd t) n
 |[],n=>⟨Nat.le_refl _,fun l hl=>by cases hl⟩
 |a::b,n=>by
  have ⟨h1,h2⟩:=zzd (t:=t) b (zfd t n a)
  have h3:n<=zfd t n a/\zvz t a<=zfd t n a:=by unfold zfd;split <;> omega
  rw[List.foldl_cons]
  refine⟨by omega,fun l hl=>?_⟩
  rcases List.mem_cons.1 hl with rfl|hl
  ·omega
  ·exact h2 l hl
theorem zx8{t:List zao}{M:Nat}:∀(b:List zb2) (n:Nat),n<=M->(∀ l∈b,zvz t l<=M)->b.foldl (zfd t) n<=M
 |[],n,h,_=>h
 |a::b,n,h,hb=>by
  rw[List.foldl_cons]
  refine zx8 b _ ?_ fun l hl=>hb l (by simp[hl])
  have:=hb a (by simp)
  unfold zfd;split <;> omega
theorem z8p{t:List zao}{l:zb2}(h:(zbj t l.pred).isSome=true):zvz t l=val t l.pred+up l:=by
 unfold zvz val up
 cases he:zbj t l.pred with
 |none=>rw[he] at h;cases h
 |some e=>simp only;split <;> rfl
end Go.Proofs.YteampbddflhngabGreat
