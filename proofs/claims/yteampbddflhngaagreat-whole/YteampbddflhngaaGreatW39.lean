import Derived.Test.YteampbddflhngaaGreatW38
import Derived.Test.YteampbddflhngaaGreatW07

namespace Go.Proofs.YteampbddflhngaaGreat
open Classical
variable {mr mx:Nat}
def zrg(D:DB)(mr:Nat):Prop:=∃ n,n<=mr/\zj4 D n
noncomputable def zd9(rs:List zah)(mr:Nat):Nat->Nat->DB->Option (DB × Nat)
 |0,_,_=>none
 |left+1,k,D =>
  if zrg (zg1 rs (k+1) D) mr then
   if ∀ p x,InD (zg1 rs (k+1) D) p x->InD D p x then some (zg1 rs (k+1) D,k+1)
   else zd9 rs mr left (k+1) (zg1 rs (k+1) D)
  else none
noncomputable def zez(rules:List zah)(mr mx:Nat):Nat->Nat->Nat->DB->Option (DB × Nat)
 |0,_,k,D=>some (D,k)
 |n+1,s,k,D =>
  if (rules.filter fun r=>decide (r.qi=s))=[] then zez rules mr mx n (s+1) k D
  else match zd9 (rules.filter fun r=>decide (r.qi=s)) mr (mx - k) k D with
   |none=>none
   |some (D',k')=>zez rules mr mx n (s+1) k' D'
noncomputable def zjx(fs:List zim):DB:=fun p x=>if ∃ f∈fs,f.pred=p/\f.row=x then some 0 else none
noncomputable def zjw(S:zsb)(mr mx:Nat):Option (DB × Nat):=if zrg (zjx S.facts) mr then zez S.rules mr mx S.qh.length 0 0 (zjx S.facts) else none
theorem z0c(rs:List zah)(k:Nat)(D:DB):∀ p x,InD D p x->InD (zg1 rs k D) p x:=by
 intro p x h
 unfold InD zg1 at *
 cases hq:D p x with
 |some m=>rfl
 |none=>rw[hq] at h;cases h
theorem zwn{rs:List zah}{k:Nat}{D:DB}:∀ p x,zsi rs D p x->InD (zg1 rs k D) p x:=by
 intro p x h
 unfold InD zg1
 cases hq:D p x with
 |some m=>rfl
 |none=>simp only;rw[if_pos h];rfl
theorem zwo{ar:List Nat}{W wd:Nat}(hWd:W=za4 wd)(h3:∀ a∈ar,a<=3)(hmr:mr<=1048576){rs:List zah}(hs:znp rs ar W)(B:Nat)(hB:(∀ r∈rs,zf5 W r<=B)/\3 * (W+1)<=B) :
  ∀(n:Nat) (first:Bool) (ws:List zbk) (R:zbg) (D0:DB),zey ar W R->R.count<=mr->R.qw<=mx->(∀ p x,InD D0 p x->InD (zc2 ar R) p x)->zdi ar W D0 (zc2 ar R) (R.rows.map (·.count)) ws rs->(first=false->∀ p x,zsi rs D0 p x->InD (zc2 ar R) p x)->B+(mx - R.qw) < n →
  ∃ R' ok,zg2 wd mr mx n first ws R=some (R',ok)/\(ok=false->zd9 rs mr (mx - R.qw) R.qw (zc2 ar R)=none)/\(ok=true->zey ar W R'/\R'.count<=mr/\R'.qw<=mx/\zd9 rs mr (mx - R.qw) R.qw (zc2 ar R)=some (zc2 ar R',R'.qw)):=by
 intro n
 induction n with
 |zero=>intro first ws R D0 _ _ _ _ _ _ h;omega
 |succ n ih =>
  intro first ws R D0 hi hc hk hD0 hw hcl hn
  unfold zg2
  by_cases hge:R.qw ≥ mx
  ·rw[if_pos hge]
   refine⟨R,false,rfl,fun _=>?_,fun q=>by cases q⟩
   rw[show mx - R.qw=0 by omega];rfl
  ·rw[if_neg hge]
   obtain⟨left,hleft⟩:∃ left,mx - R.qw=left+1:=⟨mx - R.qw - 1,by omega⟩
   obtain⟨R1,ws1,ok,a1,a2,a3,a4,a5,a6⟩:=z0d hWd h3 hmr n hs ⟨fun r hr=>by have:=hB.1 r hr;omega,by have:=hB.2;omega⟩ first hi hc hD0 hw hcl
   rw[a1]
   have hcard1:=a2.card h3
   have hcard:=hi.card h3
   rw[hleft]
   cases ok with
   |false =>
    refine⟨R1,false,rfl,fun _=>?_,fun q=>by cases q⟩
    unfold zd9
    rw[if_neg]
    rintro⟨m,m1,m2⟩
    have:=zvr hcard1 m2 a4
    have:=a5 rfl
    omega
   |true =>
    obtain⟨b1,b2,b3⟩:=a6 rfl
    simp only
    have hsm:zrg (zc2 ar R1) mr:=⟨R1.count,b1,hcard1⟩
    have hsub:∀ p x,InD (zc2 ar R) p x->InD (zc2 ar R1) p x:=by rw[b2];exact z0c _ _ _
    by_cases hnew:R1.count > R.count
    ·rw[if_pos hnew]
     have hnot:¬ ∀ p x,InD (zc2 ar R1) p x->InD (zc2 ar R) p x:=fun q=>by
      have:=zvr hcard1 hcard q
      omega
     obtain⟨R2,ok2,c1,c2,c3⟩:=ih false ws1 R1 (zc2 ar R) a2 b1 (by omega) hsub b3 (fun _ p x hx=>by rw[b2];exact zwn p x hx) (by omega)
     have hl:mx - R1.qw=left:=by omega
     have e:zd9 rs mr (left+1) R.qw (zc2 ar R)=zd9 rs mr left R1.qw (zc2 ar R1):=by
      rw[zd9,← b2,if_pos hsm,if_neg hnot,a3]
     rw[hl] at c2 c3
     exact⟨R2,ok2,c1,fun q=>by rw[e];exact c2 q,fun q=>by rw[e];exact c3 q⟩
    ·rw[if_neg hnew]
     have hall:=z1h hcard hcard1 hsub (by omega)
     refine⟨R1,true,rfl,fun q=>(by cases q),fun _=>⟨a2,b1,by omega,?_⟩⟩
     rw[zd9,← b2,if_pos hsm,if_pos hall,a3]
structure zrf (rs:List zah) (ar:List Nat) (W:Nat):Prop where
 rules:∀ r∈rs,znn r ar W
 apart:∀ r∈rs,∀ r'∈rs,r.qi=r'.qi->∀ l∈r.qm,l.pred≠r'.head.pred
theorem zrf.jl{rules:List zah}{ar:List Nat}{W:Nat}(h:zrf rules ar W)(s:Nat):znp (rules.filter fun r=>decide (r.qi=s)) ar W:=by
 refine⟨fun r hr=>h.rules r (uay.1 hr).1,fun r hr r' hr' l hl=>h.apart r (uay.1 hr).1 r' (uay.1 hr').1 ?_ l hl⟩
 have h1:=(uay.1 hr).2
 have h2:=(uay.1 hr').2
 simp at h1 h2
 omega
theorem zw0{ar:List Nat}{W wd:Nat}(hWd:W=za4 wd)(h3:∀ a∈ar,a<=3)(hmr:mr<=1048576){rules:List zah}(hr:zrf rules ar W)(B:Nat)(hB:(∀ r∈rules,zf5 W r<=B)/\3 * (W+1)<=B)(fuel:Nat)(hfu:B+mx < fuel) :
  ∀(n s:Nat) (R:zbg),zey ar W R->R.count<=mr->R.qw<=mx->∃ R' ok,zgg fuel wd mr mx rules n s R=some (R',ok)/\(ok=false->zez rules mr mx n s R.qw (zc2 ar R)=none)/\(ok=true->zey ar W R'/\R'.count<=mr/\zez rules mr mx n s R.qw (zc2 ar R)=some (zc2 ar R',R'.qw)):=by
 intro n
 induction n with
 |zero=>intro s R hi hc _;exact⟨R,true,rfl,fun q=>(by cases q),fun _=>⟨hi,hc,rfl⟩⟩
 |succ n ih =>
  intro s R hi hc hk
  obtain⟨ws,w1,w2⟩:=zo8 hWd h3 hi (by omega) fuel (by have:=hB.2;omega) s rules (fun r hq l hl=>((hr.rules r hq).qc l hl).1)
  have hlen:=w2.length
  unfold zgg zlr
  rw[w1]
  simp only
  unfold zez
  by_cases h0:(rules.filter fun r=>decide (r.qi=s))=[]
  ·rw[if_pos h0]
   rw[h0] at hlen
   rw[if_neg (by simp at hlen;simp[hlen])]
   simp only
   exact ih (s+1) R hi hc hk
  ·rw[if_neg h0]
   have hpos:ws.length > 0:=by rw[hlen];exact List.length_pos_iff.2 h0
   rw[if_pos hpos]
   obtain⟨R1,ok,a1,a2,a3⟩:=zwo hWd h3 hmr (mx:=mx) (hr.jl s) B ⟨fun r hq=>hB.1 r (uay.1 hq).1,hB.2⟩ fuel true ws R z3f hi hc hk (fun p x q=>by cases q) w2 (fun q=>by cases q) (by omega)
   rw[a1]
   cases ok with
   |false =>
    refine⟨R1,false,rfl,fun _=>?_,fun q=>by cases q⟩
    rw[a2 rfl]
   |true =>
    obtain⟨b1,b2,b3,b4⟩:=a3 rfl
    simp only
    rw[b4]
    exact ih (s+1) R1 b1 b2 b3
theorem zp4{ar:List Nat}{W:Nat}(h3:∀ a∈ar,a<=3){mr:Nat}(hmr:mr<=1048576){k:Nat}{D0:DB}{c0:List Nat}:∀(fs:List zim) (R:zbg),(∀ f∈fs,f.pred < ar.length/\Canon (ar.getD f.pred 0) f.row/\Small W f.row)->Mid ar W k D0 c0 R->R.count<=mr->∃ R' ok,zjy mr fs R=some (R',ok)/\Mid ar W k D0 c0 R'/\(∀ q x,x∈R.qo.getD q []->x∈R'.qo.getD q [])/\(∀ q x,x∈R'.qo.getD q []->x∈R.qo.getD q []∨∃ f∈fs,f.pred=q/\f.row=x)/\(ok=true->R'.count<=mr/\∀ f∈fs,InD (zc2 ar R') f.pred f.row)/\(ok=false->R'.count > mr)
 |[],R,_,hm,hc=>⟨R,true,rfl,hm,fun q x hx=>hx,fun q x hx=>Or.inl hx,fun _=>⟨hc,fun f hf=>by cases hf⟩,fun q=>by cases q⟩
 |f::fs,R,hf,hm,hc=>by
  obtain⟨f1,f2,f3⟩:=hf f (by simp)
  obtain⟨R1,ok,a1,a2,_,a4,a5,a6,a7,a8⟩:=hm.add h3 f1 f2 f3 hc hmr
  unfold zjy
  rw[a1]
  cases ok with
  |false =>
   refine⟨R1,false,rfl,a2,a5,fun q x hx=>?_,(fun q=>by cases q),a8⟩
   rcases a6 q x hx with z|⟨z1,z2⟩
   ·exact Or.inl z
   ·exact Or.inr ⟨f,by simp,z1.symm,z2.symm⟩
  |true =>
   simp only
   obtain⟨R2,ok2,b1,b2,b3,b4,b5,b6⟩:=zp4 h3 hmr fs R1 (fun x hx=>hf x (by simp[hx])) a2 (a7 rfl)
   refine⟨R2,ok2,b1,b2,fun q x hx=>b3 q x (a5 q x hx),fun q x hx=>?_,fun q=>⟨(b5 q).1,fun g hg=>?_⟩,b6⟩
   ·rcases b4 q x hx with z|⟨g,g1,g2⟩
    ·rcases a6 q x z with z|⟨z1,z2⟩
     ·exact Or.inl z
     ·exact Or.inr ⟨f,by simp,z1.symm,z2.symm⟩
    ·exact Or.inr ⟨g,by simp[g1],g2⟩
   ·rcases uag.1 hg with rfl|hg
    ·exact a2.grow b2 b3 a4
    ·exact(b5 q).2 g hg
structure z4y (S:zsb):Prop where
 small:∀ a∈S.qh,a<=3
 facts:∀ f∈S.facts,f.pred < S.qh.length/\Canon (S.qh.getD f.pred 0) f.row/\Small (za4 S.qg) f.row
 rules:zrf S.rules S.qh (za4 S.qg)
theorem z4c(S:zsb):zey S.qh (za4 S.qg) ⟨S.qh.map (zfv S.qg),0,0,0,[]⟩:=by
 refine⟨by simp,fun p hp=>?_,?_⟩
 ·have hp':p < S.qh.length:=by simpa using hp
  simp only[uaw]
  refine⟨zd8.new _ _,zqi _ _,by rw[zgq,getD_lt _ hp'],fun k hk=>?_⟩
  obtain⟨k1,k2⟩:=(zbp _ k).1 hk
  rw[zne _ _ k (by rintro rfl;have:=(zec S.qh[p]).1;rw[zgq] at k1;simp at k1;omega)] at k2
  cases k2
 ·show 0=_
  rw[List.map_map]
  have:∀ l:List Nat,(l.map ((fun T:zad=>T.count) ∘ zfv S.qg)).sum=0:=by
   intro l
   induction l with
   |nil=>rfl
   |cons a l ih=>simp only[ubu,List.sum_cons,ih];rfl
  exact(this _).symm
theorem zut(S:zsb)(p:Nat)(x:zao):zc2 S.qh ⟨S.qh.map (zfv S.qg),0,0,0,[]⟩ p x=none:=by
 unfold zc2
 split
 ·rename_i hc
  have hp:p < (S.qh.map (zfv S.qg)).length:=by simpa using hc.1
  show zdt ((S.qh.map (zfv S.qg)).getD p zad.zero) x=none
  rw[getD_lt _ hp,uaw,(zd8.new _ _).mark x hc.2.1,zne]
  intro e
  have:=congrArg List.length e
  rw[ua2,hc.2.1,zgq] at this
  have:=zec S.qh[p]
  simp at *
  omega
 ·rfl
theorem z6x{S:zsb}(h:z4y S)(hmr:mr<=1048576):∃ N,∀ fuel,N<=fuel->∃ res,z8x fuel S mr mx=some res/\(res=none->zjw S mr mx=none)/\∀ R,res=some R->zey S.qh (za4 S.qg) R/\R.count<=mr/\zjw S mr mx=some (zc2 S.qh R,R.qw):=by
 obtain⟨B,hB⟩:∃ B,(∀ r∈S.rules,zf5 (za4 S.qg) r<=B)/\3 * (za4 S.qg+1)<=B:=by
  have:∀ rs:List zah,∃ B,∀ r∈rs,zf5 (za4 S.qg) r<=B:=by
   intro rs
   induction rs with
   |nil=>exact⟨0,fun r hr=>by cases hr⟩
   |cons a rs ih =>
    obtain⟨B,hB⟩:=ih
    refine⟨B+zf5 (za4 S.qg) a,fun r hr=>?_⟩
    rcases uag.1 hr with rfl|hr
    ·omega
    ·have:=hB r hr;omega
  obtain⟨B,hB⟩:=this S.rules
  exact⟨B+3 * (za4 S.qg+1),fun r hr=>by have:=hB r hr;omega,by omega⟩
 refine⟨B+mx+1,fun fuel hfu=>?_⟩
 have hmid:=Mid.clear (z4c S)
 have hst:zfa ⟨S.qh.map (zfv S.qg),0,0,0,[]⟩=zfl S:=rfl
 rw[hst] at hmid
 obtain⟨R,ok,a1,a2,a3,a4,a5,a6⟩:=zp4 h.small hmr S.facts (zfl S) h.facts hmid (uaj _)
 have hfr:∀ q x,x∉(zfl S).qo.getD q []:=fun q x hx=>by
  have hx':x∈(List.replicate (S.qh.map (zfv S.qg)).length ([]:List zao)).getD q []:=hx
  have:∀ n,(List.replicate n ([]:List zao)).getD q []=[]:=fun n=>by by_cases hp:q < n <;> simp[List.getD,hp]
  rw[this] at hx'
  cases hx'
 have hsub:∀ p x,InD (zc2 S.qh R) p x->InD (zjx S.facts) p x:=by
  intro p x hx
  unfold InD at hx ⊢
  rw[a2.abs,zut] at hx
  simp only at hx
  by_cases hm:x∈R.qo.getD p []
  ·unfold zjx
   rw[if_pos ((a4 p x hm).resolve_left (hfr p x))];rfl
  ·rw[if_neg hm] at hx;cases hx
 unfold z8x
 rw[a1]
 cases ok with
 |false =>
  refine⟨none,rfl,fun _=>?_,fun R q=>by cases q⟩
  unfold zjw
  rw[if_neg]
  rintro⟨m,m1,m2⟩
  have:=zvr (a2.inv.card h.small) m2 hsub
  have:=a6 rfl
  omega
 |true =>
  obtain⟨b1,b2⟩:=a5 rfl
  have hrd:R.qw=0:=a2.qw
  have heq:zc2 S.qh R=zjx S.facts:=by
   funext p x
   have hA:=a2.abs p x
   rw[zut] at hA
   simp only at hA
   rw[hA]
   unfold zjx
   by_cases hf:∃ f∈S.facts,f.pred=p/\f.row=x
   ·rw[if_pos hf]
    obtain⟨f,f1,rfl,rfl⟩:=hf
    have:=b2 f f1
    unfold InD at this
    rw[hA] at this
    by_cases hm:f.row∈R.qo.getD f.pred []
    ·rw[if_pos hm]
    ·rw[if_neg hm] at this;cases this
   ·rw[if_neg hf,if_neg]
    intro hm
    exact hf ((a4 p x hm).resolve_left (hfr p x))
  have hsm:zrg (zjx S.facts) mr:=⟨R.count,b1,by rw[← heq];exact a2.inv.card h.small⟩
  obtain⟨R1,ok1,c1,c2,c3⟩:=zw0 rfl h.small hmr (mx:=mx) h.rules B hB fuel (by omega) S.qh.length 0 R a2.inv b1 (by omega)
  simp only[c1,ubp]
  rw[hrd,heq] at c2 c3
  have habs:zjw S mr mx=zez S.rules mr mx S.qh.length 0 0 (zjx S.facts):=by
   unfold zjw
   rw[if_pos hsm]
  cases ok1 with
  |false=>exact⟨none,rfl,fun _=>by rw[habs];exact c2 rfl,fun R q=>by cases q⟩
  |true =>
   refine⟨some R1,rfl,(fun q=>by cases q),fun R2 q=>?_⟩
   simp only[uab] at q
   subst q
   obtain⟨d1,d2,d3⟩:=c3 rfl
   exact⟨d1,d2,by rw[habs];exact d3⟩
end Go.Proofs.YteampbddflhngaaGreat
namespace Go.Proofs.YteampbddflhngaaGreat
variable {v:ByteArray}{vs:List ByteArray}
theorem z6g{t:ByteArray}:v∈zsd vs t↔v∈vs∨(v=t/\za8 v=true):=by
 unfold zsd
 cases hv:za8 t with
 |false =>
  simp only[Bool.false_and,ubr,if_false]
  exact⟨Or.inl,fun h=>h.elim id fun x=>by have g:=x.2;rw[x.1,hv] at g;cases g⟩
 |true =>
  cases hm:zpl t vs with
  |true =>
   simp only[Bool.not_true,Bool.and_false,ubr,if_false]
   exact⟨Or.inl,fun h=>h.elim id fun⟨e,_⟩=>by subst e;exact zf4.1 hm⟩
  |false =>
   simp only[Bool.not_false,Bool.and_true,if_true,uao,ua3]
   exact⟨fun h=>h.elim Or.inl fun e=>Or.inr ⟨e,by rw[e];exact hv⟩,fun h=>h.elim Or.inl fun e=>Or.inr e.1⟩
theorem zle{v:ByteArray}:∀ {args vs:List ByteArray},v∈ze0 vs args↔v∈vs∨(v∈args/\za8 v=true)
 |[],vs=>by simp[ze0]
 |t::r,vs=>by
  show v∈ze0 (zsd vs t) r↔_
  rw[zle,z6g,uag]
  constructor
  ·rintro((h|⟨h,g⟩)|⟨h,g⟩)
   ·exact Or.inl h
   ·exact Or.inr ⟨Or.inl h,g⟩
   ·exact Or.inr ⟨Or.inr h,g⟩
  ·rintro(h|⟨h|h,g⟩)
   ·exact Or.inl (Or.inl h)
   ·exact Or.inl (Or.inr ⟨h,g⟩)
   ·exact Or.inr ⟨h,g⟩
theorem zt6{v:ByteArray}:∀ {ls:List zbu} {vs:List ByteArray},v∈ls.foldl zkg vs↔v∈vs∨(za8 v=true/\∃ l∈ls,v∈l.args)
 |[],vs=>by simp
 |l::r,vs=>by
  rw[uax,zt6,zkg,zle]
  simp only[uag,exists_eq_or_imp]
  constructor
  ·rintro((h|⟨h,g⟩)|⟨g,h⟩)
   ·exact Or.inl h
   ·exact Or.inr ⟨g,Or.inl h⟩
   ·exact Or.inr ⟨g,Or.inr h⟩
  ·rintro(h|⟨g,h|h⟩)
   ·exact Or.inl (Or.inl h)
   ·exact Or.inl (Or.inr ⟨h,g⟩)
   ·exact Or.inr ⟨g,h⟩
theorem zqg{v:ByteArray}:∀ {ls:List zbu} {vs:List ByteArray},v∈ls.foldl zer vs↔v∈vs∨(za8 v=true/\∃ l∈ls,l.neg=false/\v∈l.args)
 |[],vs=>by simp
 |l::r,vs=>by
  rw[uax,zqg,zer]
  simp only[uag,exists_eq_or_imp]
  cases hn:l.neg with
  |true=>simp
  |false =>
   rw[if_neg (by simp),zle]
   constructor
   ·rintro((h|⟨h,g⟩)|⟨g,h⟩)
    ·exact Or.inl h
    ·exact Or.inr ⟨g,Or.inl ⟨rfl,h⟩⟩
    ·exact Or.inr ⟨g,Or.inr h⟩
   ·rintro(h|⟨g,⟨-,h⟩|h⟩)
    ·exact Or.inl (Or.inl h)
    ·exact Or.inl (Or.inr ⟨h,g⟩)
    ·exact Or.inr ⟨g,h⟩
theorem z2z{c:zab}:v∈zj7 c↔za8 v=true/\(v∈c.head.args∨∃ l∈c.body,v∈l.args):=by
 unfold zj7
 rw[zt6,zle]
 constructor
 ·rintro((h|⟨h,g⟩)|⟨g,h⟩)
  ·exact absurd h (by simp)
  ·exact⟨g,Or.inl h⟩
  ·exact⟨g,Or.inr h⟩
 ·rintro⟨g,h|h⟩
  ·exact Or.inl (Or.inr ⟨h,g⟩)
  ·exact Or.inr ⟨g,h⟩
theorem zh6{c:zab}:v∈zaf c↔za8 v=true/\∃ l∈c.body,l.neg=false/\v∈l.args:=by
 unfold zaf;rw[zqg];simp
theorem ziv{args:List ByteArray}:zfb vs args=true↔∀ t∈args,za8 t=true->t∈vs:=by
 unfold zfb
 rw[List.all_eq_true]
 constructor
 ·intro h t ht hv
  have:=h t ht
  rw[hv,Bool.not_true,Bool.false_or] at this
  exact zf4.1 this
 ·intro h t ht
  cases hv:za8 t with
  |false=>rfl
  |true=>rw[Bool.not_true,Bool.false_or];exact zf4.2 (h t ht hv)
end Go.Proofs.YteampbddflhngaaGreat
namespace Go.Proofs.YteampbddflhngaaGreat
theorem zsu:∀ a:List UInt8,Op.bytesLess a a=false
 |[]=>rfl
 |x::a=>by simp[Op.bytesLess,zsu a]
theorem zxi:∀ a b:List UInt8,Op.bytesLess a b=false->Op.bytesLess b a=false->a=b
 |[],[],_,_=>rfl
 |[],_::_,h,_=>by simp[Op.bytesLess] at h
 |_::_,[],_,h=>by simp[Op.bytesLess] at h
 |x::a,y::b,h1,h2=>by
  simp only[Op.bytesLess,uc3,decide_eq_false_iff_not,Bool.and_eq_false_iff,beq_eq_false_iff_ne] at h1 h2
  have hxy:x=y:=by
   have ha:=h1.1
   have hb:=h2.1
   rw[UInt8.not_lt] at ha hb
   exact UInt8.le_antisymm hb ha
  subst hxy
  rw[zxi a b (h1.2.resolve_left fun h=>h rfl) (h2.2.resolve_left fun h=>h rfl)]
theorem zxj:∀ a b c:List UInt8,Op.bytesLess a b=true->Op.bytesLess b c=true->Op.bytesLess a c=true
 |_,[],_,h,_=>by cases ‹List UInt8› <;> simp[Op.bytesLess] at h
 |_,_::_,[],_,h=>by simp[Op.bytesLess] at h
 |[],_::_,_::_,_,_=>rfl
 |x::a,y::b,z::c,h1,h2=>by
  simp only[Op.bytesLess,Bool.or_eq_true,decide_eq_true_eq,ubb,beq_iff_eq] at h1 h2 ⊢
  rcases h1 with h1|⟨rfl,h1⟩
  ·rcases h2 with h2|⟨rfl,h2⟩
   ·exact Or.inl (UInt8.lt_trans h1 h2)
   ·exact Or.inl h1
  ·rcases h2 with h2|⟨rfl,h2⟩
   ·exact Or.inl h2
   ·exact Or.inr ⟨rfl,zxj a b c h1 h2⟩
theorem lt_irrefl(a:ByteArray):ltB a a=false:=zsu _
theorem zxy{a b:ByteArray}(h1:ltB a b=false)(h2:ltB b a=false):a=b:=toList_inj (zxi _ _ h1 h2)
theorem lt_trans{a b c:ByteArray}(h1:ltB a b=true)(h2:ltB b c=true):ltB a c=true:=zxj _ _ _ h1 h2
def zcg(l:List ByteArray):Prop:=l.Pairwise fun a b=>ltB a b=true
end Go.Proofs.YteampbddflhngaaGreat
namespace Go.Proofs.YteampbddflhngaaGreat
variable {t:List zar}
def namesT(t:List zar):List ByteArray:=t.map zar.name
theorem zng:∀(t:List zar) (n:ByteArray),∀ e∈t.take (zai t n),ltB e.name n=true
 |[],_,e,h=>by simp at h
 |a::r,n,e,h=>by
  unfold zai at h
  cases ha:ltB a.name n with
  |false=>simp[ha] at h
  |true =>
   simp only[ha,if_true,ucl,uag] at h
   rcases h with rfl|h
   ·exact ha
   ·exact zng r n e h
theorem znf:∀(t:List zar) (n:ByteArray),zcg (namesT t)->∀ e∈t.drop (zai t n),ltB e.name n=false
 |[],_,_,e,h=>by simp at h
 |a::r,n,hr,e,h=>by
  have hr':zcg (a.name::namesT r):=hr
  unfold zcg at hr'
  rw[List.pairwise_cons] at hr'
  unfold zai at h
  cases ha:ltB a.name n with
  |true =>
   simp only[ha,if_true,List.drop_succ_cons] at h
   exact znf r n hr'.2 e h
  |false =>
   simp only[ha,ubr,if_false,List.drop_zero,uag] at h
   rcases h with rfl|h
   ·exact ha
   ·cases he:ltB e.name n with
    |false=>rfl
    |true =>
     have:=lt_trans (hr'.1 e.name (uai.2 ⟨e,h,rfl⟩)) he
     rw[ha] at this;cases this
theorem zn3{n:ByteArray}{e:zar}(h:zbh t n=some e):e∈t/\e.name=n:=by
 obtain⟨hk,h1,h2⟩:=zch h
 exact⟨by rw[← h1];exact uad hk,h2⟩
theorem zkz{n:ByteArray}(hr:zcg (namesT t))(h:zbh t n=none):∀ e∈t,e.name≠n:=by
 intro e he hn
 rw[← ube (zai t n) t,uao] at he
 rcases he with he|he
 ·have:=zng t n e he
  rw[hn,lt_irrefl] at this;cases this
 ·rcases zjc h with hk|⟨hk,hne⟩
  ·rw[uaq (by omega)] at he;cases he
  ·have hd:t.drop (zai t n)=t[zai t n]::t.drop (zai t n+1):=uah hk
   have hge:=znf t n hr t[zai t n] (by rw[hd];exact List.mem_cons_self)
   rw[hd,uag] at he
   rcases he with rfl|he
   ·exact hne hn
   ·have hr2:zcg (namesT (t.drop (zai t n))):=by
     unfold zcg namesT at *;rw[List.map_drop];exact hr.sublist (List.drop_sublist _ _)
    rw[hd] at hr2
    have hr3:zcg (t[zai t n].name::namesT (t.drop (zai t n+1))):=hr2
    unfold zcg at hr3
    rw[List.pairwise_cons] at hr3
    have:=hr3.1 e.name (uai.2 ⟨e,he,rfl⟩)
    rw[hn,hge] at this;cases this
theorem zlf{x e:zar}{k:Nat}:e∈zgo t x k↔e=x∨e∈t:=by
 unfold zgo
 rw[uao,uag]
 constructor
 ·rintro(h|h|h)
  ·exact Or.inr (List.mem_of_mem_take h)
  ·exact Or.inl h
  ·exact Or.inr (ucz h)
 ·rintro(h|h)
  ·exact Or.inr (Or.inl h)
  ·rw[← ube k t,uao] at h
   rcases h with h|h
   ·exact Or.inl h
   ·exact Or.inr (Or.inr h)
theorem z0b{x:zar}(hr:zcg (namesT t))(hx:∀ e∈t,e.name≠x.name):zcg (namesT (zgo t x (zai t x.name))):=by
 have h1:=zng t x.name
 have h2:=znf t x.name hr
 have hgt:∀ e∈t.drop (zai t x.name),ltB x.name e.name=true:=by
  intro e he
  cases hc:ltB x.name e.name with
  |true=>rfl
  |false=>exact absurd (zxy (h2 e he) hc) (hx e (ucz he))
 have hr2:=hr
 rw[← ube (zai t x.name) t] at hr2
 unfold zcg namesT at hr2 ⊢
 unfold zgo
 rw[ua8,uc0] at hr2
 rw[ua8,ubu,uc0,List.pairwise_cons]
 refine⟨hr2.1,⟨?_,hr2.2.1⟩,?_⟩
 ·intro b hb
  obtain⟨e,he,rfl⟩:=uai.1 hb
  exact hgt e he
 ·intro a ha b hb
  obtain⟨e,he,rfl⟩:=uai.1 ha
  rcases uag.1 hb with rfl|hb
  ·exact h1 e he
  ·exact hr2.2.2 _ ha b hb
structure Tab (t:List zar) (ls:List zbu):Prop where
 rise:zcg (namesT t)
 names:∀ n,n∈namesT t↔∃ l∈ls,l.pred=n
 je:∀ e∈t,∀ l∈ls,l.pred=e.name->l.args.length=e.je
theorem Tab.step{t':List zar}{ls:List zbu}{l:zbu}(h:Tab t ls)(ha:zps t l=some t'):Tab t' (ls++[l]):=by
 unfold zps at ha
 split at ha
 ·rename_i e he
  obtain⟨hm,hn⟩:=zn3 he
  split at ha
  ·rename_i har
   simp only[uab] at ha
   subst ha
   refine⟨h.rise,fun n=>?_,fun e' he' l' hl' hp=>?_⟩
   ·rw[h.names]
    constructor
    ·rintro⟨l',hl',hp⟩;exact⟨l',by simp[hl'],hp⟩
    ·rintro⟨l',hl',hp⟩
     rcases uao.1 hl' with hl'|hl'
     ·exact⟨l',hl',hp⟩
     ·simp at hl';subst hl'
      exact(h.names n).1 (uai.2 ⟨e,hm,by rw[hn,hp]⟩)
   ·rcases uao.1 hl' with hl'|hl'
    ·exact h.je e' he' l' hl' hp
    ·simp at hl';subst hl'
     obtain⟨l0,hl0,hp0⟩:=(h.names e.name).1 (uai.2 ⟨e,hm,rfl⟩)
     rw[← har,← h.je e hm l0 hl0 hp0]
     exact h.je e' he' l0 hl0 (by rw[hp0,hn,hp])
  ·cases ha
 ·rename_i he
  simp only[uab] at ha
  subst ha
  have hout:=zkz h.rise he
  refine⟨z0b h.rise hout,fun n=>?_,fun e' he' l' hl' hp=>?_⟩
  ·constructor
   ·intro hn
    obtain⟨e,hm,rfl⟩:=uai.1 hn
    rcases zlf.1 hm with rfl|hm
    ·exact⟨l,by simp,rfl⟩
    ·obtain⟨l',hl',hp⟩:=(h.names e.name).1 (uai.2 ⟨e,hm,rfl⟩)
     exact⟨l',by simp[hl'],hp⟩
   ·rintro⟨l',hl',hp⟩
    rcases uao.1 hl' with hl'|hl'
    ·obtain⟨e,hm,hen⟩:=uai.1 ((h.names n).2 ⟨l',hl',hp⟩)
     exact uai.2 ⟨e,zlf.2 (Or.inr hm),hen⟩
    ·simp at hl';subst hl'
     exact uai.2 ⟨_,zlf.2 (Or.inl rfl),hp⟩
  ·rcases zlf.1 he' with rfl|hm
   ·rcases uao.1 hl' with hl'|hl'
    ·obtain⟨e,hm,hen⟩:=uai.1 ((h.names l'.pred).2 ⟨l',hl',rfl⟩)
     exact absurd (hen.trans hp) (hout e hm)
    ·simp at hl';subst hl';rfl
   ·rcases uao.1 hl' with hl'|hl'
    ·exact h.je e' hm l' hl' hp
    ·simp at hl';subst hl';exact absurd hp.symm (hout e' hm)
theorem z1k:∀(ls done:List zbu) (t t':List zar),Tab t done->ls.foldl zm7 (some t)=some t'->Tab t' (done++ls)
 |[],done,t,t',h,e=>by simp at e;subst e;simpa using h
 |l::ls,done,t,t',h,e=>by
  rw[uax] at e
  cases ha:zps t l with
  |none=>rw[show zm7 (some t) l=none from ha,zis] at e;cases e
  |some t2 =>
   rw[show zm7 (some t) l=some t2 from ha] at e
   have:=z1k ls (done++[l]) t2 t' (h.step ha) e
   rwa [uba] at this
theorem z8y:Tab [] []:=⟨List.Pairwise.nil,fun n=>by simp[namesT],fun e he=>by cases he⟩
theorem zvt{cs:List zab}(h:zgm cs=some t):Tab t (cs.flatMap za2):=by
 have:=z1k (cs.flatMap za2) [] [] t z8y h
 simpa using this
end Go.Proofs.YteampbddflhngaaGreat
namespace Go.Proofs.YteampbddflhngaaGreat
variable {cs:List zab}{f:ByteArray->Nat}
def up(l:zbu):Nat:=if l.neg then 1 else 0
def Sol(cs:List zab)(f:ByteArray->Nat):Prop:=∀ c∈cs,∀ l∈c.body,f l.pred+up l<=f c.head.pred
def Least(cs:List zab)(f:ByteArray->Nat):Prop:=Sol cs f/\∀ g,Sol cs g->∀ n,f n<=g n
theorem zt1{g:ByteArray->Nat}(hg:Sol cs g):∃ f,Least cs f:=by
 have hmin:∀ n,∃ k,(∃ h,Sol cs h/\h n=k)/\∀ h,Sol cs h->k<=h n:=by
  intro n
  have aux:∀ m,(∃ h,Sol cs h/\h n<=m)->∃ k,(∃ h,Sol cs h/\h n=k)/\∀ h,Sol cs h->k<=h n:=by
   intro m
   induction m with
   |zero=>rintro⟨h,hs,h0⟩;exact⟨0,⟨h,hs,by omega⟩,fun _ _=>uaj _⟩
   |succ m ih =>
    intro hm
    by_cases hx:∃ h,Sol cs h/\h n<=m
    ·exact ih hx
    ·obtain⟨h,hs,h0⟩:=hm
     have hlow:∀ h',Sol cs h'->m+1<=h' n:=fun h' hs'=>by
      false_or_by_contra;rename_i hc;exact hx ⟨h',hs',by omega⟩
     exact⟨m+1,⟨h,hs,by have:=hlow h hs;omega⟩,hlow⟩
  exact aux (g n) ⟨g,hg,uaa _⟩
 refine⟨fun n=>(hmin n).choose,fun c hc l hl=>?_,fun h hs n=>(hmin n).choose_spec.2 h hs⟩
 obtain⟨⟨h,hs,hh⟩,-⟩:=(hmin c.head.pred).choose_spec
 have h1:=(hmin l.pred).choose_spec.2 h hs
 have h2:=hs c hc l hl
 simp only
 omega
theorem holes:∀(N:Nat) (L:List Nat),(∀ k,k<=N->k∈L)->N+1<=L.length
 |0,L,h=>by
  have:=h 0 (uaa _)
  cases L with
  |nil=>cases this
  |cons=>simp
 |N+1,L,h=>by
  have hm:=h (N+1) (uaa _)
  have:=holes N (L.erase (N+1)) fun k hk=>(uci (by omega)).2 (h k (by omega))
  rw[ucd hm] at this
  have:0 < L.length:=ub9 hm
  omega
theorem z5z(h:Least cs f){ps:List ByteArray}(hps:∀ c∈cs,∀ l∈za2 c,l.pred∈ps){n:ByteArray}(hn:n∈ps):f n < ps.length:=by
 false_or_by_contra
 rename_i hge
 have hx:∃ k,k<=ps.length/\k∉ps.map f:=by
  apply Classical.byContradiction
  intro hno
  have:=holes ps.length (ps.map f) fun k hk=>Classical.byContradiction fun hk2=>hno ⟨k,hk,hk2⟩
  rw[ua0] at this;omega
 obtain⟨k,hk,hkn⟩:=hx
 have hne:∀ m∈ps,f m≠k:=fun m hm e=>hkn (uai.2 ⟨m,hm,e⟩)
 have hs:Sol cs fun m=>if k < f m then f m - 1 else f m:=by
  intro c hc l hl
  have h1:=h.1 c hc l hl
  have h2:=hne l.pred (hps c hc l (by simp[za2,hl]))
  have h3:=hne c.head.pred (hps c hc c.head (by simp[za2]))
  have h4:up l<=1:=by unfold up;split <;> omega
  simp only
  split <;> split <;> omega
 have h5:=h.2 _ hs n
 have h6:=hne n hn
 split at h5 <;> omega
theorem zza{a b:ByteArray->Nat}(h:Least cs f)(hab:∀ n,a n<=b n)(hbf:∀ n,b n<=f n)(hstep:∀ c∈cs,∀ l∈c.body,a l.pred+up l<=b c.head.pred)
  (hsame:∀ n,b n=f n->a n=f n):∀ n,a n=f n:=by
 apply Classical.byContradiction
 intro hno
 have ⟨n,hn⟩:∃ n,¬ a n=f n:=Classical.byContradiction fun hx=>hno fun n=>Classical.byContradiction fun hc=>hx ⟨n,hc⟩
 have hs:Sol cs fun m=>if a m=f m then f m else f m - 1:=by
  intro c hc l hl
  have h1:=h.1 c hc l hl
  have h2:=hstep c hc l hl
  have h3:=hab c.head.pred
  have h4:=hbf c.head.pred
  have h5:=hsame c.head.pred
  have h6:=hab l.pred
  have h7:=hbf l.pred
  have h8:up l<=1:=by unfold up;split <;> omega
  simp only
  by_cases e1:a l.pred=f l.pred
  ·by_cases e2:a c.head.pred=f c.head.pred
   ·rw[if_pos e1,if_pos e2];exact h1
   ·have e3:¬ b c.head.pred=f c.head.pred:=fun e=>e2 (h5 e)
    rw[if_pos e1,if_neg e2];omega
  ·by_cases e2:a c.head.pred=f c.head.pred
   ·rw[if_neg e1,if_pos e2];omega
   ·rw[if_neg e1,if_neg e2];omega
 have h5:=h.2 _ hs n
 simp only[hn,if_false] at h5
 have h6:=hab n
 have h7:=hbf n
 omega
end Go.Proofs.YteampbddflhngaaGreat
namespace Go.Proofs.YteampbddflhngaaGreat
variable {t:List zar}
def val(t:List zar)(n:ByteArray):Nat:=match zbh t n with
 |some e=>e.qi
 |none=>0
theorem zi5:∀ {t t':List zar},namesT t=namesT t'->∀ n,zai t n=zai t' n
 |[],[],_,_=>rfl
 |[],_::_,h,_=>by simp[namesT] at h
 |_::_,[],h,_=>by simp[namesT] at h
 |a::r,b::q,h,n=>by
  simp only[namesT,ubu,List.cons.injEq] at h
  unfold zai
  rw[h.1,zi5 h.2 n]
theorem zt7{k:Nat}{e:zar}(hk:k < t.length)(he:e.name=t[k].name):namesT (t.set k e)=namesT t:=by
 unfold namesT
 rw[ucj,he]
 apply ubg (by simp)
 intro i h1 h2
 rw[ucb]
 split
 ·rename_i h;subst h;simp
 ·rfl
theorem zun(t:List zar)(n:ByteArray)(s:Nat):namesT (zcc t n s).1=namesT t:=by
 unfold zcc
 split
 ·rfl
 ·rename_i e he
  obtain⟨hk,h1,h2⟩:=zch he
  split
  ·rfl
  ·exact zt7 hk (by rw[h1])
theorem z1z{n:ByteArray}{e:zar}(s:Nat)(he:zbh t n=some e)(m:ByteArray):zbh (t.set (zai t n) { e with qi:=s }) m=if m=n then some { e with qi:=s } else zbh t m:=by
 obtain⟨hk,h1,h2⟩:=zch he
 have hp:zai (t.set (zai t n) { e with qi:=s }) m=zai t m:=zi5 (zt7 hk (by rw[h1])) m
 unfold zbh
 rw[hp,udf]
 by_cases hm:m=n
 ·subst hm
  rw[if_pos rfl,if_pos rfl,if_pos hk]
  simp[h2]
 ·rw[if_neg hm]
  by_cases hq:zai t n=zai t m
  ·rw[if_pos hq,if_pos hk,← hq,uac hk,h1]
   simp[h2,Ne.symm hm]
  ·rw[if_neg hq]
theorem zu0(t:List zar)(n:ByteArray)(s:Nat)(m:ByteArray):val (zcc t n s).1 m=if m=n/\(zbh t n).isSome=true then max (val t n) s else val t m:=by
 unfold zcc
 cases he:zbh t n with
 |none=>simp
 |some e =>
  simp only[ua4,and_true]
  have hv:val t n=e.qi:=by simp[val,he]
  split
  ·split
   ·rename_i h1 h2;rw[h2,hv];omega
   ·rfl
  ·rename_i h1
   unfold val
   rw[z1z s he m,he]
   by_cases hm:m=n
   ·rw[if_pos hm,if_pos hm];simp only;omega
   ·rw[if_neg hm,if_neg hm]
theorem z0a(t:List zar)(n:ByteArray)(s:Nat):((zcc t n s).2=false->(zcc t n s).1=t)/\((zcc t n s).2=true->val t n < val (zcc t n s).1 n):=by
 constructor
 ·unfold zcc;split
  ·exact fun _=>rfl
  ·split
   ·exact fun _=>rfl
   ·intro h;cases h
 ·intro h
  rw[zu0]
  unfold zcc at h
  split at h
  ·cases h
  ·rename_i e he
   split at h
   ·cases h
   ·rename_i h1
    have hv:val t n=e.qi:=by simp[val,he]
    rw[if_pos ⟨rfl,by simp[he]⟩];omega
theorem zxv{t:List zar}:∀(b:List zbu) (n:Nat),n<=b.foldl (zfc t) n/\∀ l∈b,zvb t l<=b.foldl (zfc t) n
 |[],n=>⟨uaa _,fun l hl=>by cases hl⟩
 |a::b,n=>by
  have ⟨h1,h2⟩:=zxv (t:=t) b (zfc t n a)
  have h3:n<=zfc t n a/\zvb t a<=zfc t n a:=by unfold zfc;split <;> omega
  rw[uax]
  refine⟨by omega,fun l hl=>?_⟩
  rcases uag.1 hl with rfl|hl
  ·omega
  ·exact h2 l hl
theorem zxw{t:List zar}{M:Nat}:∀(b:List zbu) (n:Nat),n<=M->(∀ l∈b,zvb t l<=M)->b.foldl (zfc t) n<=M
 |[],n,h,_=>h
 |a::b,n,h,hb=>by
  rw[uax]
  refine zxw b _ ?_ fun l hl=>hb l (by simp[hl])
  have:=hb a (by simp)
  unfold zfc;split <;> omega
theorem z6a{l:zbu}(h:(zbh t l.pred).isSome=true):zvb t l=val t l.pred+up l:=by
 unfold zvb val up
 cases he:zbh t l.pred with
 |none=>rw[he] at h;cases h
 |some e=>simp only;split <;> rfl
end Go.Proofs.YteampbddflhngaaGreat
namespace Go.Proofs.YteampbddflhngaaGreat
variable {t t':List zar}
theorem zqb(t:List zar)(n:ByteArray):(zbh t n).isSome=true↔(namesT t)[zai t n]?=some n:=by
 unfold zbh namesT
 rw[ub5]
 cases h:t[zai t n]? with
 |none=>simp
 |some e =>
  simp only[ubp,uab]
  split <;> simp[*]
theorem zmq(h:namesT t=namesT t')(n:ByteArray):(zbh t n).isSome=true↔(zbh t' n).isSome=true:=by
 rw[zqb,zqb,h,zi5 h n]
def zlu(t:List zar)(cs:List zab):Prop:=∀ c∈cs,∀ l∈za2 c,(zbh t l.pred).isSome=true
theorem zlu.names{cs:List zab}(h:zlu t cs)(hn:namesT t=namesT t'):zlu t' cs:=fun c hc l hl=>(zmq hn _).1 (h c hc l hl)
structure z97 (x y:List zar × Bool) (ds:List zab):Prop where
 names:namesT y.1=namesT x.1
 grow:∀ n,val x.1 n<=val y.1 n
 step:∀ c∈ds,∀ l∈c.body,val x.1 l.pred+up l<=val y.1 c.head.pred
 low:∀ f,Sol ds f->(∀ n,val x.1 n<=f n)->∀ n,val y.1 n<=f n
 still:y.2=false->y.1=x.1/\x.2=false
 moved:y.2=true->x.2=true∨∃ n,val x.1 n < val y.1 n
theorem z6p{x:List zar × Bool}{c:zab}(h:zlu x.1 [c]):z97 x (zes x c) [c]:=by
 have hh:(zbh x.1 c.head.pred).isSome=true:=h c (by simp) c.head (by simp[za2])
 have hl:∀ l∈c.body,zvb x.1 l=val x.1 l.pred+up l:=fun l hl=>z6a (h c (by simp) l (by simp[za2,hl]))
 have hv:=fun m=>zu0 x.1 c.head.pred (zfh x.1 c) m
 have hf:=z0a x.1 c.head.pred (zfh x.1 c)
 refine⟨zun _ _ _,fun n=>?_,fun c' hc' l hlb=>?_,fun f hs hlow n=>?_,fun hst=>?_,fun hmv=>?_⟩
 ·show _<=val (zcc _ _ _).1 n
  rw[hv];split
  ·rename_i e;rw[e.1];omega
  ·omega
 ·simp at hc';subst hc'
  show _<=val (zcc _ _ _).1 _
  rw[hv,if_pos ⟨rfl,hh⟩,← hl l hlb]
  have:=(zxv (t:=x.1) c'.body 0).2 l hlb
  unfold zfh;omega
 ·show val (zcc _ _ _).1 n<=_
  rw[hv]
  split
  ·rename_i e
   rw[e.1]
   have h1:=hlow c.head.pred
   have h2:zfh x.1 c<=f c.head.pred:=by
    unfold zfh
    refine zxw c.body 0 (uaj _) fun l hlb=>?_
    have:=hs c (by simp) l hlb
    have:=hlow l.pred
    rw[hl l hlb];omega
   omega
  ·exact hlow n
 ·have h2:(x.2 || (zcc x.1 c.head.pred (zfh x.1 c)).2)=false:=hst
  rw[uc3] at h2
  exact⟨hf.1 h2.2,h2.1⟩
 ·have h2:(x.2 || (zcc x.1 c.head.pred (zfh x.1 c)).2)=true:=hmv
  rw[Bool.or_eq_true] at h2
  rcases h2 with h2|h2
  ·exact Or.inl h2
  ·exact Or.inr ⟨_,hf.2 h2⟩
theorem zli:∀(ds:List zab) (x:List zar × Bool),zlu x.1 ds->z97 x (ds.foldl zes x) ds
 |[],x,_=>⟨rfl,fun _=>uaa _,fun c hc=>by(cases hc),fun _ _ h=>h,fun h=>⟨rfl,h⟩,fun h=>Or.inl h⟩
 |c::ds,x,h=>by
  have p1:=z6p (x:=x) (c:=c) fun c' hc'=>by simp at hc';subst hc';exact h c' (by simp)
  have p2:=zli ds (zes x c) (zlu.names (fun c' hc'=>h c' (by simp[hc'])) p1.names.symm)
  rw[uax]
  refine⟨p2.names.trans p1.names,fun n=>uap (p1.grow n) (p2.grow n),fun c' hc' l hl=>?_,fun f hs hlow=>?_,fun hst=>?_,fun hmv=>?_⟩
  ·rcases uag.1 hc' with rfl|hc'
   ·exact uap (p1.step c' (by simp) l hl) (p2.grow _)
   ·have:=p2.step c' hc' l hl
    have:=p1.grow l.pred
    omega
  ·exact p2.low f (fun c' hc'=>hs c' (by simp[hc'])) (p1.low f (fun c' hc'=>by simp at hc';subst hc';exact hs c' (by simp)) hlow)
  ·have h2:=p2.still hst
   have h1:=p1.still h2.2
   exact⟨h2.1.trans h1.1,h1.2⟩
  ·rcases p2.moved hmv with h2|⟨n,h2⟩
   ·rcases p1.moved h2 with h1|⟨n,h1⟩
    ·exact Or.inl h1
    ·exact Or.inr ⟨n,ual h1 (p2.grow n)⟩
   ·exact Or.inr ⟨n,Nat.lt_of_le_of_lt (p1.grow n) h2⟩
theorem zw7{n:ByteArray}(h:n∉namesT t):val t n=0:=by
 unfold val
 split
 ·rename_i e he
  obtain⟨hm,hn⟩:=zn3 he
  exact absurd (uai.2 ⟨e,hm,hn⟩) h
 ·rfl
def rest(f:ByteArray->Nat)(t:List zar):Nat:=((namesT t).filter fun n=>decide (val t n≠f n)).length
theorem z8v{f:ByteArray->Nat}(hn:namesT t'=namesT t)(hmono:∀ n,val t n=f n->val t' n=f n){m:ByteArray}(hm:m∈namesT t)(h1:val t m≠f m)(h2:val t' m=f m):rest f t' < rest f t:=by
 unfold rest
 rw[hn]
 generalize namesT t=ns at hm
 have hle:∀ l:List ByteArray,(l.filter fun n=>decide (val t' n≠f n)).length<=(l.filter fun n=>decide (val t n≠f n)).length:=by
  intro l
  induction l with
  |nil=>simp
  |cons a l ih =>
   by_cases ha:val t a=f a
   ·simp[ha,hmono a ha];simpa using ih
   ·by_cases hb:val t' a=f a
    ·simp[ha,hb];have:=ih;simp at this;omega
    ·simp[ha,hb];simpa using ih
 induction ns with
 |nil=>cases hm
 |cons a ns ih =>
  have hns:=hle ns
  rcases uag.1 hm with rfl|hm
  ·simp[h1,h2];simp at hns;omega
  ·have:=ih hm
   by_cases ha:val t a=f a
   ·simp[ha,hmono a ha];simpa using this
   ·by_cases hb:val t' a=f a
    ·simp[ha,hb];simp at this;omega
    ·simp[ha,hb];simpa using this
theorem zwz:∀(m:Nat) (t:List zar) (cs:List zab),zlu t cs->namesT (zc0 m t cs).1=namesT t
 |0,_,_,_=>rfl
 |m+1,t,cs,h=>by
  have p:=zli cs (t,false) h
  unfold zc0
  split
  ·exact(zwz m _ cs (h.names p.names.symm)).trans p.names
  ·exact p.names
theorem zuu{f:ByteArray->Nat}:∀(m:Nat) (t:List zar) (cs:List zab),zlu t cs->Sol cs f->(∀ n,val t n<=f n)->∀ n,val (zc0 m t cs).1 n<=f n
 |0,_,_,_,_,h=>h
 |m+1,t,cs,h,hs,hlow=>by
  have p:=zli cs (t,false) h
  have:=p.low f hs hlow
  unfold zc0
  split
  ·exact zuu m _ cs (h.names p.names.symm) hs this
  ·exact this
theorem zlq:∀(m:Nat) (t:List zar) (cs:List zab),zlu t cs->(zc0 m t cs).2=true->Sol cs (val (zc0 m t cs).1)
 |0,_,_,_,h=>by cases h
 |m+1,t,cs,h,ht=>by
  have p:=zli cs (t,false) h
  unfold zc0 at ht ⊢
  split at ht
  ·rename_i hc
   rw[if_pos hc]
   exact zlq m _ cs (h.names p.names.symm) ht
  ·rename_i hc
   rw[if_neg hc]
   have h1:=(p.still (by simpa [zb5] using hc)).1
   intro c hcc l hl
   have h2:=p.step c hcc l hl
   show val (cs.foldl zes (t,false)).1 l.pred+up l<=val (cs.foldl zes (t,false)).1 c.head.pred
   rw[h1] at h2 ⊢
   exact h2
theorem zq4{f:ByteArray->Nat}{cs:List zab}(hf:Least cs f):∀(m:Nat) (t:List zar),zlu t cs->(∀ n,val t n<=f n)->rest f t < m->(zc0 m t cs).2=true
 |0,_,_,_,h=>by omega
 |m+1,t,h,hlow,hr=>by
  have p:=zli cs (t,false) h
  have hlow2:=p.low f hf.1 hlow
  unfold zc0
  split
  ·rename_i hc
   refine zq4 hf m _ (h.names p.names.symm) hlow2 ?_
   have hno:¬ ∀ n,val t n=f n:=by
    intro hall
    rcases p.moved hc with h1|⟨n,h1⟩
    ·cases h1
    ·have:=hlow2 n;have:=hall n;simp only at h1;omega
   have ⟨n,hn1,hn2⟩:∃ n,val (cs.foldl zes (t,false)).1 n=f n/\val t n≠f n:=by
    apply Classical.byContradiction
    intro hx
    exact hno (zza hf p.grow hlow2 p.step fun n hb=>Classical.byContradiction fun hc=>hx ⟨n,hb,hc⟩)
   have hm:n∈namesT t:=by
    apply Classical.byContradiction
    intro hx
    have h1:=zw7 hx
    have h2:val (cs.foldl zes (t,false)).1 n=0:=zw7 (by rw[p.names];exact hx)
    omega
   have:=z8v (f:=f) (t:=t) p.names (fun k hk=>Nat.le_antisymm (hlow2 k) (by rw[← hk];exact p.grow k)) hm hn2 hn1
   show rest f (cs.foldl zes (t,false)).1 < m
   omega
  ·rfl
theorem z4f{cs:List zab}(h:zlu t cs)(h0:∀ n,val t n=0):((zc0 (t.length+1) t cs).2=true↔∃ f,Sol cs f)/\((zc0 (t.length+1) t cs).2=true->Least cs (val (zc0 (t.length+1) t cs).1)):=by
 refine⟨⟨fun e=>⟨_,zlq _ t cs h e⟩,?_⟩,fun e=>⟨zlq _ t cs h e,fun g hg=>zuu _ t cs h hg fun n=>by rw[h0];omega⟩⟩
 rintro⟨g,hg⟩
 obtain⟨f,hf⟩:=zt1 hg
 refine zq4 hf _ t h (fun n=>by rw[h0];omega) ?_
 have:=ucy (fun n=>decide (val t n≠f n)) (namesT t)
 have h2:(namesT t).length=t.length:=by simp[namesT]
 unfold rest;omega
end Go.Proofs.YteampbddflhngaaGreat
