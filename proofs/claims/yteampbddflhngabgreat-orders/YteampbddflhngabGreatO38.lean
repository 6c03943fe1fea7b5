import Derived.Test.YteampbddflhngabGreatO37
import Derived.Test.YteampbddflhngabGreatO07

namespace Go.Proofs.YteampbddflhngabGreat
open Classical
theorem zjz{ar:List Nat}{W:Nat}{R:zbh}(h:ze1 ar W R)(h3:∀ a∈ar,a<=3){p:Nat}(hp:p < R.rows.length)(x:zaq):x∈(keysT R.rows[p]).map (fun k=>pad k R.rows[p].depth)↔InD (zct ar R) p x:=by
 obtain⟨t1,t2,t3,t4⟩:=h.tries p hp
 have hpa:p < ar.length:=by rw[← h.len];exact hp
 have ha3:ar.getD p 0<=3:=by rw[getD_lt _ hpa];exact h3 _ (List.getElem_mem hpa)
 have hd3:R.rows[p].depth<=3:=by rw[t3];exact(zeg _).2
 have hgd:R.rows.getD p zad.zero=R.rows[p]:=getD_lt _ hp
 unfold InD zct
 constructor
 ·intro hx
  obtain⟨k,hk,rfl⟩:=List.mem_map.1 hx
  obtain⟨k1,k2⟩:=(zbq _ k).1 hk
  rw[if_pos ⟨hpa,t4 k hk⟩,hgd,t1.mark _ (z4t k1 hd3),zlu k1]
  exact k2
 ·intro hx
  by_cases hc:p < ar.length/\Canon (ar.getD p 0) x
  ·rw[if_pos hc,hgd,t1.mark x hc.2.1] at hx
   refine List.mem_map.2 ⟨x.take R.rows[p].depth,(zbq _ _).2 ⟨by rw[List.length_take,hc.2.1];omega,hx⟩,?_⟩
   rw[t3,zuv ha3 hc.2]
  ·rw[if_neg hc] at hx;cases hx
def zia(D:DB)(n:Nat):Prop:=∃ l:List (Nat × zaq),l.Nodup/\(∀ p x,(p,x)∈l↔InD D p x)/\l.length=n
theorem zmo:∀ {l1 l2:List (Nat × zaq)},l1.Nodup->(∀ x∈l1,x∈l2)->l1.length<=l2.length
 |[],l2,_,_=>by simp
 |a::l1,l2,hn,hs=>by
  have ha:=hs a (by simp)
  have h1:=zmo (l1:=l1) (l2:=l2.erase a) (List.nodup_cons.1 hn).2 (fun x hx=>by
   have hne:x≠a:=by rintro rfl;exact(List.nodup_cons.1 hn).1 hx
   exact(List.mem_erase_of_ne hne).2 (hs x (by simp[hx])))
  rw[List.length_erase_of_mem ha] at h1
  have:=List.length_pos_of_mem ha
  simp;omega
theorem zob{D E:DB}{n m:Nat}(h:zia D n)(k:zia E m)(hs:∀ p x,InD D p x->InD E p x):n<=m:=by
 obtain⟨l,h1,h2,rfl⟩:=h
 obtain⟨l',k1,k2,rfl⟩:=k
 exact zmo h1 fun x hx=>(k2 x.1 x.2).2 (hs _ _ ((h2 x.1 x.2).1 hx))
theorem yao{D:DB}{n m:Nat}(h:zia D n)(k:zia D m):n=m:=Nat.le_antisymm (zob h k fun _ _ q=>q) (zob k h fun _ _ q=>q)
theorem z2d{D E:DB}{n m:Nat}(h:zia D n)(k:zia E m)(hs:∀ p x,InD D p x->InD E p x)(hnm:m<=n):∀ p x,InD E p x->InD D p x:=by
 intro p x hx
 false_or_by_contra
 rename_i hn
 obtain⟨l,h1,h2,rfl⟩:=h
 obtain⟨l',k1,k2,rfl⟩:=k
 have:=zmo (l1:=(p,x)::l) (l2:=l') (List.nodup_cons.2 ⟨fun q=>hn ((h2 p x).1 q),h1⟩) (fun y hy=>by
  rcases List.mem_cons.1 hy with rfl|hy
  ·exact(k2 p x).2 hx
  ·exact(k2 y.1 y.2).2 (hs _ _ ((h2 y.1 y.2).1 hy)))
 simp at this
 omega
theorem ze1.card{ar:List Nat}{W:Nat}{R:zbh}(h:ze1 ar W R)(h3:∀ a∈ar,a<=3):zia (zct ar R) R.count:=by
 refine⟨(List.range R.rows.length).flatMap fun p=>((keysT (R.rows.getD p zad.zero)).map fun k=>pad k (R.rows.getD p zad.zero).depth).map fun x=>(p,x),?_,fun p x=>?_,?_⟩
 ·unfold List.Nodup
  rw[List.pairwise_flatMap]
  refine⟨fun p hp=>?_,?_⟩
  ·have hp':p < R.rows.length:=List.mem_range.1 hp
   obtain⟨t1,t2,t3,t4⟩:=h.tries p hp'
   rw[List.pairwise_map,getD_lt _ hp',List.pairwise_map]
   refine List.Pairwise.imp_of_mem ?_ (zkt R.rows[p] R.rows[p].depth 0 0)
   intro a b ha hb hne e
   simp only[Prod.mk.injEq,true_and] at e
   have h1:=((zbq R.rows[p] a).1 ha).1
   have h2:=((zbq R.rows[p] b).1 hb).1
   have:=congrArg (List.take R.rows[p].depth) e
   rw[zlu h1,zlu h2] at this
   exact hne this
  ·refine List.Pairwise.imp ?_ (List.nodup_range (n:=R.rows.length))
   intro a b hne x hx y hy e
   obtain⟨_,_,rfl⟩:=List.mem_map.1 hx
   obtain⟨_,_,rfl⟩:=List.mem_map.1 hy
   simp only[Prod.mk.injEq] at e
   exact hne e.1
 ·simp only[List.mem_flatMap,List.mem_range]
  constructor
  ·rintro⟨q,hq,hx⟩
   obtain⟨z,hz,e⟩:=List.mem_map.1 hx
   simp only[Prod.mk.injEq] at e
   obtain⟨rfl,rfl⟩:=e
   rw[getD_lt _ hq] at hz
   exact(zjz h h3 hq z).1 hz
  ·intro hx
   have hp:p < R.rows.length:=by rw[h.len];exact(zma ar R p x hx).1
   refine⟨p,hp,List.mem_map.2 ⟨x,?_,rfl⟩⟩
   rw[getD_lt _ hp]
   exact(zjz h h3 hp x).2 hx
 ·rw[List.length_flatMap,h.cnt]
  congr 1
  refine List.ext_getElem (by simp) fun i h1 h2=>?_
  have hi:i < R.rows.length:=by simpa using h1
  simp only[List.getElem_map,List.getElem_range,List.length_map,getD_lt zad.zero hi]
  exact(h.tries i hi).1.cnt
def z4j:DB:=fun _ _=>none
theorem zpn{ar:List Nat}{W wd:Nat}(hWd:W=za5 wd)(h3:∀ a∈ar,a<=3){R:zbh}(h:ze1 ar W R)(hc:R.count<=1048576)(fuel:Nat)(hfu:3 * (W+1)<=fuel):∀(ls:List zak),(∀ l∈ls,l.pred < ar.length)->∃ vs,zl5 fuel wd R ls=some vs/\vs.length=ls.length/\∀(i:Nat) (l:zak) (V:zcr),ls[i]?=some l->vs[i]?=some V->zkk V l W (InD z4j l.pred) (InD (zct ar R) l.pred) (fun x=>InD (zct ar R) l.pred x/\¬ InD z4j l.pred x) ((R.rows.map (·.count)).getD l.pred 0)
 |[],_=>⟨[],rfl,rfl,fun i l V h=>by simp at h⟩
 |l::ls,hp=>by
  obtain⟨vs,v1,v2,v3⟩:=zpn hWd h3 h hc fuel hfu ls (fun x hx=>hp x (by simp[hx]))
  have hpl:l.pred < R.rows.length:=by rw[h.len];exact hp l (by simp)
  obtain⟨t1,t2,t3,t4⟩:=h.tries l.pred hpl
  have hge:=zyz R.rows l.pred hpl
  rw[← h.cnt] at hge
  have hW0:0 < W:=by rw[hWd];unfold za5;split <;> omega
  have hrow:zgi wd R l.pred=R.rows[l.pred]:=by unfold zgi;rw[if_neg (by omega),getD_lt _ hpl]
  have hrg:=t1.rowsG fuel (by rw[t2];exact hfu) (by omega)
  have h0:zkk (ze0 wd l) l W (fun _=>False) (fun _=>False) (fun _=>False) 0:=⟨rfl,zd3.new l wd W hWd,zd3.new l wd W hWd,zd3.new l wd W hWd,by simp[ze0,zfz,zb9],by simp[ze0,zfz,zb9]⟩
  have hlen:((keysT R.rows[l.pred]).map fun k=>pad k R.rows[l.pred].depth).length=R.rows[l.pred].count:=by rw[List.length_map];exact t1.cnt
  obtain⟨V',w1,w2⟩:=zpe h0 hWd ((keysT R.rows[l.pred]).map fun k=>pad k R.rows[l.pred].depth) (fun x hx=>by
   obtain⟨k,hk,rfl⟩:=List.mem_map.1 hx
   refine zuw hW0 ?_
   intro v hv
   have:=zl2 k 0 ((zbq _ k).1 hk).2 v hv
   rw[t2] at this
   exact this) (by rw[hlen];omega) fuel hfu
  have hnone:∀ x,¬ InD z4j l.pred x:=fun x q=>by cases q
  refine⟨V'::vs,?_,by simp[v2],fun i l' U e1 e2=>?_⟩
  ·unfold zl5
   rw[hrow,hrg]
   simp only[w1,v1]
  ·cases i with
   |zero =>
    simp only[List.getElem?_cons_zero,Option.some.injEq] at e1 e2
    subst e1;subst e2
    refine⟨w2.lit,w2.before.congr fun x=>⟨fun q=>by rcases q with q|q <;> exact q.elim,fun q=>absurd q (hnone x)⟩,w2.fresh.congr fun x=>?_,w2.all.congr fun x=>?_,?_⟩
    ·rw[zjz h h3 hpl]
     exact⟨fun q=>⟨q,hnone x⟩,fun q=>q.1⟩
    ·rw[zjz h h3 hpl]
     exact⟨fun q=>q.resolve_left id,Or.inr⟩
    ·have e:(R.rows.map (·.count)).getD l.pred 0=R.rows[l.pred].count:=by simp[List.getD,hpl]
     have:=w2.few
     rw[hlen] at this
     rw[e]
     simpa using this
   |succ i=>exact v3 i l' U (by simpa using e1) (by simpa using e2)
theorem zpo{ar:List Nat}{W wd:Nat}(hWd:W=za5 wd)(h3:∀ a∈ar,a<=3){R:zbh}(h:ze1 ar W R)(hc:R.count<=1048576)(fuel:Nat)(hfu:3 * (W+1)<=fuel)(s:Nat):∀(rules:List zah),(∀ r∈rules,∀ l∈r.plain,l.pred < ar.length)->∃ ws,worksR fuel wd R s rules=some ws/\zdl ar W z4j (zct ar R) (R.rows.map (·.count)) ws (rules.filter fun r=>decide (r.stratum=s))
 |[],_=>⟨[],rfl,zdl.nil⟩
 |r::rules,hp=>by
  obtain⟨ws,w1,w2⟩:=zpo hWd h3 h hc fuel hfu s rules (fun x hx=>hp x (by simp[hx]))
  unfold worksR
  by_cases hs:r.stratum=s
  ·obtain⟨vs,v1,v2,v3⟩:=zpn hWd h3 h hc fuel hfu r.plain (hp r (by simp))
   rw[if_pos hs,v1,w1]
   refine⟨⟨r,vs⟩::ws,rfl,?_⟩
   rw[List.filter_cons_of_pos (by simp[hs])]
   exact zdl.cons ⟨rfl,v2,v3⟩ w2
  ·rw[if_neg hs]
   refine⟨ws,w1,?_⟩
   rw[List.filter_cons_of_neg (by simp[hs])]
   exact w2
theorem zdl.length{ar:List Nat}{W:Nat}{D0 D:DB}{c:List Nat}{ws:List zbl}{rs:List zah}(h:zdl ar W D0 D c ws rs):ws.length=rs.length:=by
 induction h with
 |nil=>rfl
 |cons _ _ ih=>simp[ih]
def zl9(D:DB)(mr:Nat):Prop:=∃ n,n<=mr/\zia D n
noncomputable def zda(rs:List zah)(mr:Nat):Nat->Nat->DB->Option (DB × Nat)
 |0,_,_=>none
 |left+1,k,D =>
  if zl9 (zfs rs (k+1) D) mr then
   if ∀ p x,InD (zfs rs (k+1) D) p x->InD D p x then some (zfs rs (k+1) D,k+1)
   else zda rs mr left (k+1) (zfs rs (k+1) D)
  else none
noncomputable def zcx(rules:List zah)(mr mx:Nat):Nat->Nat->Nat->DB->Option (DB × Nat)
 |0,_,k,D=>some (D,k)
 |n+1,s,k,D =>
  if (rules.filter fun r=>decide (r.stratum=s))=[] then zcx rules mr mx n (s+1) k D
  else match zda (rules.filter fun r=>decide (r.stratum=s)) mr (mx - k) k D with
   |none=>none
   |some (D',k')=>zcx rules mr mx n (s+1) k' D'
noncomputable def ziq(fs:List ziz):DB:=fun p x=>if ∃ f∈fs,f.pred=p/\f.row=x then some 0 else none
noncomputable def zhc(S:zso)(mr mx:Nat):Option (DB × Nat):=if zl9 (ziq S.facts) mr then zcx S.rules mr mx S.arities.length 0 0 (ziq S.facts) else none
theorem z0y(rs:List zah)(k:Nat)(D:DB):∀ p x,InD D p x->InD (zfs rs k D) p x:=by
 intro p x h
 unfold InD zfs at *
 cases hq:D p x with
 |some m=>rfl
 |none=>rw[hq] at h;cases h
theorem zw5{rs:List zah}{k:Nat}{D:DB}:∀ p x,zk5 rs D p x->InD (zfs rs k D) p x:=by
 intro p x h
 unfold InD zfs
 cases hq:D p x with
 |some m=>rfl
 |none=>simp only;rw[if_pos h];rfl
theorem zw6{ar:List Nat}{W wd:Nat}(hWd:W=za5 wd)(h3:∀ a∈ar,a<=3){mr mx:Nat}(hmr:mr<=1048576){rs:List zah}(hs:zn4 rs ar W)(B:Nat)(hB:(∀ r∈rs,zf9 W r<=B)/\3 * (W+1)<=B) :
  ∀(n:Nat) (first:Bool) (ws:List zbl) (R:zbh) (D0:DB),ze1 ar W R->R.count<=mr->R.rounds<=mx->(∀ p x,InD D0 p x->InD (zct ar R) p x)->zdl ar W D0 (zct ar R) (R.rows.map (·.count)) ws rs->(first=false->∀ p x,zk5 rs D0 p x->InD (zct ar R) p x)->B+(mx - R.rounds) < n →
  ∃ R' ok,zg6 wd mr mx n first ws R=some (R',ok)/\(ok=false->zda rs mr (mx - R.rounds) R.rounds (zct ar R)=none)/\(ok=true->ze1 ar W R'/\R'.count<=mr/\R'.rounds<=mx/\zda rs mr (mx - R.rounds) R.rounds (zct ar R)=some (zct ar R',R'.rounds)):=by
 intro n
 induction n with
 |zero=>intro first ws R D0 _ _ _ _ _ _ h;omega
 |succ n ih =>
  intro first ws R D0 hi hc hk hD0 hw hcl hn
  unfold zg6
  by_cases hge:R.rounds ≥ mx
  ·rw[if_pos hge]
   refine⟨R,false,rfl,fun _=>?_,fun q=>by cases q⟩
   rw[show mx - R.rounds=0 by omega];rfl
  ·rw[if_neg hge]
   obtain⟨left,hleft⟩:∃ left,mx - R.rounds=left+1:=⟨mx - R.rounds - 1,by omega⟩
   obtain⟨R1,ws1,ok,a1,a2,a3,a4,a5,a6⟩:=z0z hWd h3 hmr n hs ⟨fun r hr=>by have:=hB.1 r hr;omega,by have:=hB.2;omega⟩ first hi hc hD0 hw hcl
   rw[a1]
   have hcard1:=a2.card h3
   have hcard:=hi.card h3
   rw[hleft]
   cases ok with
   |false =>
    refine⟨R1,false,rfl,fun _=>?_,fun q=>by cases q⟩
    unfold zda
    rw[if_neg]
    rintro⟨m,m1,m2⟩
    have:=zob hcard1 m2 a4
    have:=a5 rfl
    omega
   |true =>
    obtain⟨b1,b2,b3⟩:=a6 rfl
    simp only
    have hsm:zl9 (zct ar R1) mr:=⟨R1.count,b1,hcard1⟩
    have hsub:∀ p x,InD (zct ar R) p x->InD (zct ar R1) p x:=by rw[b2];exact z0y _ _ _
    by_cases hnew:R1.count > R.count
    ·rw[if_pos hnew]
     have hnot:¬ ∀ p x,InD (zct ar R1) p x->InD (zct ar R) p x:=fun q=>by
      have:=zob hcard1 hcard q
      omega
     obtain⟨R2,ok2,c1,c2,c3⟩:=ih false ws1 R1 (zct ar R) a2 b1 (by omega) hsub b3 (fun _ p x hx=>by rw[b2];exact zw5 p x hx) (by omega)
     have hl:mx - R1.rounds=left:=by omega
     have e:zda rs mr (left+1) R.rounds (zct ar R)=zda rs mr left R1.rounds (zct ar R1):=by
      rw[zda,← b2,if_pos hsm,if_neg hnot,a3]
     rw[hl] at c2 c3
     exact⟨R2,ok2,c1,fun q=>by rw[e];exact c2 q,fun q=>by rw[e];exact c3 q⟩
    ·rw[if_neg hnew]
     have hall:=z2d hcard hcard1 hsub (by omega)
     refine⟨R1,true,rfl,fun q=>(by cases q),fun _=>⟨a2,b1,by omega,?_⟩⟩
     rw[zda,← b2,if_pos hsm,if_pos hall,a3]
structure zrv (rs:List zah) (ar:List Nat) (W:Nat):Prop where
 rules:∀ r∈rs,zn2 r ar W
 apart:∀ r∈rs,∀ r'∈rs,r.stratum=r'.stratum->∀ l∈r.nots,l.pred≠r'.head.pred
theorem zrv.strat{rules:List zah}{ar:List Nat}{W:Nat}(h:zrv rules ar W)(s:Nat):zn4 (rules.filter fun r=>decide (r.stratum=s)) ar W:=by
 refine⟨fun r hr=>h.rules r (List.mem_filter.1 hr).1,fun r hr r' hr' l hl=>h.apart r (List.mem_filter.1 hr).1 r' (List.mem_filter.1 hr').1 ?_ l hl⟩
 have h1:=(List.mem_filter.1 hr).2
 have h2:=(List.mem_filter.1 hr').2
 simp at h1 h2
 omega
theorem zxg{ar:List Nat}{W wd:Nat}(hWd:W=za5 wd)(h3:∀ a∈ar,a<=3){mr mx:Nat}(hmr:mr<=1048576){rules:List zah}(hr:zrv rules ar W)(B:Nat)(hB:(∀ r∈rules,zf9 W r<=B)/\3 * (W+1)<=B)(fuel:Nat)(hfu:B+mx < fuel) :
  ∀(n s:Nat) (R:zbh),ze1 ar W R->R.count<=mr->R.rounds<=mx->∃ R' ok,zgj fuel wd mr mx rules n s R=some (R',ok)/\(ok=false->zcx rules mr mx n s R.rounds (zct ar R)=none)/\(ok=true->ze1 ar W R'/\R'.count<=mr/\zcx rules mr mx n s R.rounds (zct ar R)=some (zct ar R',R'.rounds)):=by
 intro n
 induction n with
 |zero=>intro s R hi hc _;exact⟨R,true,rfl,fun q=>(by cases q),fun _=>⟨hi,hc,rfl⟩⟩
 |succ n ih =>
  intro s R hi hc hk
  obtain⟨ws,w1,w2⟩:=zpo hWd h3 hi (by omega) fuel (by have:=hB.2;omega) s rules (fun r hq l hl=>((hr.rules r hq).plain l hl).1)
  have hlen:=w2.length
  unfold zgj zl4
  rw[w1]
  simp only
  unfold zcx
  by_cases h0:(rules.filter fun r=>decide (r.stratum=s))=[]
  ·rw[if_pos h0]
   rw[h0] at hlen
   rw[if_neg (by simp at hlen;simp[hlen])]
   simp only
   exact ih (s+1) R hi hc hk
  ·rw[if_neg h0]
   have hpos:ws.length > 0:=by rw[hlen];exact List.length_pos_iff.2 h0
   rw[if_pos hpos]
   obtain⟨R1,ok,a1,a2,a3⟩:=zw6 hWd h3 hmr (mx:=mx) (hr.strat s) B ⟨fun r hq=>hB.1 r (List.mem_filter.1 hq).1,hB.2⟩ fuel true ws R z4j hi hc hk (fun p x q=>by cases q) w2 (fun q=>by cases q) (by omega)
   rw[a1]
   cases ok with
   |false =>
    refine⟨R1,false,rfl,fun _=>?_,fun q=>by cases q⟩
    rw[a2 rfl]
   |true =>
    obtain⟨b1,b2,b3,b4⟩:=a3 rfl
    simp only
    rw[b4]
    exact ih (s+1) R1 b1 b2 b3
theorem zqk{ar:List Nat}{W:Nat}(h3:∀ a∈ar,a<=3){mr:Nat}(hmr:mr<=1048576){k:Nat}{D0:DB}{c0:List Nat}:∀(fs:List ziz) (R:zbh),(∀ f∈fs,f.pred < ar.length/\Canon (ar.getD f.pred 0) f.row/\Small W f.row)->Mid ar W k D0 c0 R->R.count<=mr->∃ R' ok,zkd mr fs R=some (R',ok)/\Mid ar W k D0 c0 R'/\(∀ q x,x∈R.fresh.getD q []->x∈R'.fresh.getD q [])/\(∀ q x,x∈R'.fresh.getD q []->x∈R.fresh.getD q []∨∃ f∈fs,f.pred=q/\f.row=x)/\(ok=true->R'.count<=mr/\∀ f∈fs,InD (zct ar R') f.pred f.row)/\(ok=false->R'.count > mr)
 |[],R,_,hm,hc=>⟨R,true,rfl,hm,fun q x hx=>hx,fun q x hx=>Or.inl hx,fun _=>⟨hc,fun f hf=>by cases hf⟩,fun q=>by cases q⟩
 |f::fs,R,hf,hm,hc=>by
  obtain⟨f1,f2,f3⟩:=hf f (by simp)
  obtain⟨R1,ok,a1,a2,_,a4,a5,a6,a7,a8⟩:=hm.add h3 f1 f2 f3 hc hmr
  unfold zkd
  rw[a1]
  cases ok with
  |false =>
   refine⟨R1,false,rfl,a2,a5,fun q x hx=>?_,(fun q=>by cases q),a8⟩
   rcases a6 q x hx with z|⟨z1,z2⟩
   ·exact Or.inl z
   ·exact Or.inr ⟨f,by simp,z1.symm,z2.symm⟩
  |true =>
   simp only
   obtain⟨R2,ok2,b1,b2,b3,b4,b5,b6⟩:=zqk h3 hmr fs R1 (fun x hx=>hf x (by simp[hx])) a2 (a7 rfl)
   refine⟨R2,ok2,b1,b2,fun q x hx=>b3 q x (a5 q x hx),fun q x hx=>?_,fun q=>⟨(b5 q).1,fun g hg=>?_⟩,b6⟩
   ·rcases b4 q x hx with z|⟨g,g1,g2⟩
    ·rcases a6 q x z with z|⟨z1,z2⟩
     ·exact Or.inl z
     ·exact Or.inr ⟨f,by simp,z1.symm,z2.symm⟩
    ·exact Or.inr ⟨g,by simp[g1],g2⟩
   ·rcases List.mem_cons.1 hg with rfl|hg
    ·exact a2.grow b2 b3 a4
    ·exact(b5 q).2 g hg
structure zy7 (S:zso):Prop where
 small:∀ a∈S.arities,a<=3
 facts:∀ f∈S.facts,f.pred < S.arities.length/\Canon (S.arities.getD f.pred 0) f.row/\Small (za5 S.width) f.row
 rules:zrv S.rules S.arities (za5 S.width)
theorem z5f(S:zso):ze1 S.arities (za5 S.width) ⟨S.arities.map (zfz S.width),0,0,0,[]⟩:=by
 refine⟨by simp,fun p hp=>?_,?_⟩
 ·have hp':p < S.arities.length:=by simpa using hp
  simp only[List.getElem_map]
  refine⟨zed.new _ _,zqz _ _,by rw[zgt,getD_lt _ hp'],fun k hk=>?_⟩
  obtain⟨k1,k2⟩:=(zbq _ k).1 hk
  rw[zns _ _ k (by rintro rfl;have:=(zeg S.arities[p]).1;rw[zgt] at k1;simp at k1;omega)] at k2
  cases k2
 ·show 0=_
  rw[List.map_map]
  have:∀ l:List Nat,(l.map ((fun T:zad=>T.count) ∘ zfz S.width)).sum=0:=by
   intro l
   induction l with
   |nil=>rfl
   |cons a l ih=>simp only[List.map_cons,List.sum_cons,ih];rfl
  exact(this _).symm
theorem zu8(S:zso)(p:Nat)(x:zaq):zct S.arities ⟨S.arities.map (zfz S.width),0,0,0,[]⟩ p x=none:=by
 unfold zct
 split
 ·rename_i hc
  have hp:p < (S.arities.map (zfz S.width)).length:=by simpa using hc.1
  show zdz ((S.arities.map (zfz S.width)).getD p zad.zero) x=none
  rw[getD_lt _ hp,List.getElem_map,(zed.new _ _).mark x hc.2.1,zns]
  intro e
  have:=congrArg List.length e
  rw[List.length_take,hc.2.1,zgt] at this
  have:=zeg S.arities[p]
  simp at *
  omega
 ·rfl
theorem zyv{S:zso}(h:zy7 S){mr mx:Nat}(hmr:mr<=1048576):∃ N,∀ fuel,N<=fuel->∃ res,z9x fuel S mr mx=some res/\(res=none->zhc S mr mx=none)/\∀ R,res=some R->ze1 S.arities (za5 S.width) R/\R.count<=mr/\zhc S mr mx=some (zct S.arities R,R.rounds):=by
 obtain⟨B,hB⟩:∃ B,(∀ r∈S.rules,zf9 (za5 S.width) r<=B)/\3 * (za5 S.width+1)<=B:=by
  have:∀ rs:List zah,∃ B,∀ r∈rs,zf9 (za5 S.width) r<=B:=by
   intro rs
   induction rs with
   |nil=>exact⟨0,fun r hr=>by cases hr⟩
   |cons a rs ih =>
    obtain⟨B,hB⟩:=ih
    refine⟨B+zf9 (za5 S.width) a,fun r hr=>?_⟩
    rcases List.mem_cons.1 hr with rfl|hr
    ·omega
    ·have:=hB r hr;omega
  obtain⟨B,hB⟩:=this S.rules
  exact⟨B+3 * (za5 S.width+1),fun r hr=>by have:=hB r hr;omega,by omega⟩
 refine⟨B+mx+1,fun fuel hfu=>?_⟩
 have hmid:=Mid.clear (z5f S)
 have hst:zfc ⟨S.arities.map (zfz S.width),0,0,0,[]⟩=zfn S:=rfl
 rw[hst] at hmid
 obtain⟨R,ok,a1,a2,a3,a4,a5,a6⟩:=zqk h.small hmr S.facts (zfn S) h.facts hmid (Nat.zero_le _)
 have hfr:∀ q x,x∉(zfn S).fresh.getD q []:=fun q x hx=>by
  have hx':x∈(List.replicate (S.arities.map (zfz S.width)).length ([]:List zaq)).getD q []:=hx
  have:∀ n,(List.replicate n ([]:List zaq)).getD q []=[]:=fun n=>by by_cases hp:q < n <;> simp[List.getD,hp]
  rw[this] at hx'
  cases hx'
 have hsub:∀ p x,InD (zct S.arities R) p x->InD (ziq S.facts) p x:=by
  intro p x hx
  unfold InD at hx ⊢
  rw[a2.abs,zu8] at hx
  simp only at hx
  by_cases hm:x∈R.fresh.getD p []
  ·unfold ziq
   rw[if_pos ((a4 p x hm).resolve_left (hfr p x))];rfl
  ·rw[if_neg hm] at hx;cases hx
 unfold z9x
 rw[a1]
 cases ok with
 |false =>
  refine⟨none,rfl,fun _=>?_,fun R q=>by cases q⟩
  unfold zhc
  rw[if_neg]
  rintro⟨m,m1,m2⟩
  have:=zob (a2.inv.card h.small) m2 hsub
  have:=a6 rfl
  omega
 |true =>
  obtain⟨b1,b2⟩:=a5 rfl
  have hrd:R.rounds=0:=a2.rounds
  have heq:zct S.arities R=ziq S.facts:=by
   funext p x
   have hA:=a2.abs p x
   rw[zu8] at hA
   simp only at hA
   rw[hA]
   unfold ziq
   by_cases hf:∃ f∈S.facts,f.pred=p/\f.row=x
   ·rw[if_pos hf]
    obtain⟨f,f1,rfl,rfl⟩:=hf
    have:=b2 f f1
    unfold InD at this
    rw[hA] at this
    by_cases hm:f.row∈R.fresh.getD f.pred []
    ·rw[if_pos hm]
    ·rw[if_neg hm] at this;cases this
   ·rw[if_neg hf,if_neg]
    intro hm
    exact hf ((a4 p x hm).resolve_left (hfr p x))
  have hsm:zl9 (ziq S.facts) mr:=⟨R.count,b1,by rw[← heq];exact a2.inv.card h.small⟩
  obtain⟨R1,ok1,c1,c2,c3⟩:=zxg rfl h.small hmr (mx:=mx) h.rules B hB fuel (by omega) S.arities.length 0 R a2.inv b1 (by omega)
  simp only[c1,Option.map_some]
  rw[hrd,heq] at c2 c3
  have habs:zhc S mr mx=zcx S.rules mr mx S.arities.length 0 0 (ziq S.facts):=by
   unfold zhc
   rw[if_pos hsm]
  cases ok1 with
  |false=>exact⟨none,rfl,fun _=>by rw[habs];exact c2 rfl,fun R q=>by cases q⟩
  |true =>
   refine⟨some R1,rfl,(fun q=>by cases q),fun R2 q=>?_⟩
   simp only[Option.some.injEq] at q
   subst q
   obtain⟨d1,d2,d3⟩:=c3 rfl
   exact⟨d1,d2,by rw[habs];exact d3⟩
end Go.Proofs.YteampbddflhngabGreat
namespace Go.Proofs.YteampbddflhngabGreat
theorem z7l{v t:ByteArray}{vs:List ByteArray}:v∈zsr vs t↔v∈vs∨(v=t/\zba v=true):=by
 unfold zsr
 cases hv:zba t with
 |false =>
  simp only[Bool.false_and,Bool.false_eq_true,if_false]
  exact⟨Or.inl,fun h=>h.elim id fun x=>by have g:=x.2;rw[x.1,hv] at g;cases g⟩
 |true =>
  cases hm:zp0 t vs with
  |true =>
   simp only[Bool.not_true,Bool.and_false,Bool.false_eq_true,if_false]
   exact⟨Or.inl,fun h=>h.elim id fun⟨e,_⟩=>by subst e;exact zf8.1 hm⟩
  |false =>
   simp only[Bool.not_false,Bool.and_true,if_true,List.mem_append,List.mem_singleton]
   exact⟨fun h=>h.elim Or.inl fun e=>Or.inr ⟨e,by rw[e];exact hv⟩,fun h=>h.elim Or.inl fun e=>Or.inr e.1⟩
theorem zlr{v:ByteArray}:∀ {args vs:List ByteArray},v∈ze2 vs args↔v∈vs∨(v∈args/\zba v=true)
 |[],vs=>by simp[ze2]
 |t::r,vs=>by
  show v∈ze2 (zsr vs t) r↔_
  rw[zlr,z7l,List.mem_cons]
  constructor
  ·rintro((h|⟨h,g⟩)|⟨h,g⟩)
   ·exact Or.inl h
   ·exact Or.inr ⟨Or.inl h,g⟩
   ·exact Or.inr ⟨Or.inr h,g⟩
  ·rintro(h|⟨h|h,g⟩)
   ·exact Or.inl (Or.inl h)
   ·exact Or.inl (Or.inr ⟨h,g⟩)
   ·exact Or.inr ⟨h,g⟩
theorem zul{v:ByteArray}:∀ {ls:List zb2} {vs:List ByteArray},v∈ls.foldl zku vs↔v∈vs∨(zba v=true/\∃ l∈ls,v∈l.args)
 |[],vs=>by simp
 |l::r,vs=>by
  rw[List.foldl_cons,zul,zku,zlr]
  simp only[List.mem_cons,exists_eq_or_imp]
  constructor
  ·rintro((h|⟨h,g⟩)|⟨g,h⟩)
   ·exact Or.inl h
   ·exact Or.inr ⟨g,Or.inl h⟩
   ·exact Or.inr ⟨g,Or.inr h⟩
  ·rintro(h|⟨g,h|h⟩)
   ·exact Or.inl (Or.inl h)
   ·exact Or.inl (Or.inr ⟨h,g⟩)
   ·exact Or.inr ⟨g,h⟩
theorem zqy{v:ByteArray}:∀ {ls:List zb2} {vs:List ByteArray},v∈ls.foldl zev vs↔v∈vs∨(zba v=true/\∃ l∈ls,l.neg=false/\v∈l.args)
 |[],vs=>by simp
 |l::r,vs=>by
  rw[List.foldl_cons,zqy,zev]
  simp only[List.mem_cons,exists_eq_or_imp]
  cases hn:l.neg with
  |true=>simp
  |false =>
   rw[if_neg (by simp),zlr]
   constructor
   ·rintro((h|⟨h,g⟩)|⟨g,h⟩)
    ·exact Or.inl h
    ·exact Or.inr ⟨g,Or.inl ⟨rfl,h⟩⟩
    ·exact Or.inr ⟨g,Or.inr h⟩
   ·rintro(h|⟨g,⟨-,h⟩|h⟩)
    ·exact Or.inl (Or.inl h)
    ·exact Or.inl (Or.inr ⟨h,g⟩)
    ·exact Or.inr ⟨g,h⟩
theorem z4d{v:ByteArray}{c:zab}:v∈zkl c↔zba v=true/\(v∈c.head.args∨∃ l∈c.body,v∈l.args):=by
 unfold zkl
 rw[zul,zlr]
 constructor
 ·rintro((h|⟨h,g⟩)|⟨g,h⟩)
  ·exact absurd h (by simp)
  ·exact⟨g,Or.inl h⟩
  ·exact⟨g,Or.inr h⟩
 ·rintro⟨g,h|h⟩
  ·exact Or.inl (Or.inr ⟨h,g⟩)
  ·exact Or.inr ⟨g,h⟩
theorem zif{v:ByteArray}{c:zab}:v∈zaf c↔zba v=true/\∃ l∈c.body,l.neg=false/\v∈l.args:=by
 unfold zaf;rw[zqy];simp
theorem zi6{vs args:List ByteArray}:zfd vs args=true↔∀ t∈args,zba t=true->t∈vs:=by
 unfold zfd
 rw[List.all_eq_true]
 constructor
 ·intro h t ht hv
  have:=h t ht
  rw[hv,Bool.not_true,Bool.false_or] at this
  exact zf8.1 this
 ·intro h t ht
  cases hv:zba t with
  |false=>rfl
  |true=>rw[Bool.not_true,Bool.false_or];exact zf8.2 (h t ht hv)
theorem zta:∀ a:List UInt8,Op.bytesLess a a=false
 |[]=>rfl
 |x::a=>by simp[Op.bytesLess,zta a]
theorem zxz:∀ a b:List UInt8,Op.bytesLess a b=false->Op.bytesLess b a=false->a=b
 |[],[],_,_=>rfl
 |[],_::_,h,_=>by simp[Op.bytesLess] at h
 |_::_,[],_,h=>by simp[Op.bytesLess] at h
 |x::a,y::b,h1,h2=>by
  simp only[Op.bytesLess,Bool.or_eq_false_iff,decide_eq_false_iff_not,Bool.and_eq_false_iff,beq_eq_false_iff_ne] at h1 h2
  have hxy:x=y:=by
   have ha:=h1.1
   have hb:=h2.1
   rw[UInt8.not_lt] at ha hb
   exact UInt8.le_antisymm hb ha
  subst hxy
  rw[zxz a b (h1.2.resolve_left fun h=>h rfl) (h2.2.resolve_left fun h=>h rfl)]
theorem zx0:∀ a b c:List UInt8,Op.bytesLess a b=true->Op.bytesLess b c=true->Op.bytesLess a c=true
 |_,[],_,h,_=>by cases ‹List UInt8› <;> simp[Op.bytesLess] at h
 |_,_::_,[],_,h=>by simp[Op.bytesLess] at h
 |[],_::_,_::_,_,_=>rfl
 |x::a,y::b,z::c,h1,h2=>by
  simp only[Op.bytesLess,Bool.or_eq_true,decide_eq_true_eq,Bool.and_eq_true,beq_iff_eq] at h1 h2 ⊢
  rcases h1 with h1|⟨rfl,h1⟩
  ·rcases h2 with h2|⟨rfl,h2⟩
   ·exact Or.inl (UInt8.lt_trans h1 h2)
   ·exact Or.inl h1
  ·rcases h2 with h2|⟨rfl,h2⟩
   ·exact Or.inl h2
   ·exact Or.inr ⟨rfl,zx0 a b c h1 h2⟩
theorem lt_irrefl(a:ByteArray):ltB a a=false:=zta _
theorem zyf{a b:ByteArray}(h1:ltB a b=false)(h2:ltB b a=false):a=b:=toList_inj (zxz _ _ h1 h2)
theorem lt_trans{a b c:ByteArray}(h1:ltB a b=true)(h2:ltB b c=true):ltB a c=true:=zx0 _ _ _ h1 h2
def zch(l:List ByteArray):Prop:=l.Pairwise fun a b=>ltB a b=true
def namesT(t:List zan):List ByteArray:=t.map zan.name
theorem znv:∀(t:List zan) (n:ByteArray),∀ e∈t.take (zai t n),ltB e.name n=true
 |[],_,e,h=>by simp at h
 |a::r,n,e,h=>by
  unfold zai at h
  cases ha:ltB a.name n with
  |false=>simp[ha] at h
  |true =>
   simp only[ha,if_true,List.take_succ_cons,List.mem_cons] at h
   rcases h with rfl|h
   ·exact ha
   ·exact znv r n e h
theorem znu:∀(t:List zan) (n:ByteArray),zch (namesT t)->∀ e∈t.drop (zai t n),ltB e.name n=false
 |[],_,_,e,h=>by simp at h
 |a::r,n,hr,e,h=>by
  have hr':zch (a.name::namesT r):=hr
  unfold zch at hr'
  rw[List.pairwise_cons] at hr'
  unfold zai at h
  cases ha:ltB a.name n with
  |true =>
   simp only[ha,if_true,List.drop_succ_cons] at h
   exact znu r n hr'.2 e h
  |false =>
   simp only[ha,Bool.false_eq_true,if_false,List.drop_zero,List.mem_cons] at h
   rcases h with rfl|h
   ·exact ha
   ·cases he:ltB e.name n with
    |false=>rfl
    |true =>
     have:=lt_trans (hr'.1 e.name (List.mem_map.2 ⟨e,h,rfl⟩)) he
     rw[ha] at this;cases this
theorem zoj{t:List zan}{n:ByteArray}{e:zan}(h:zbj t n=some e):e∈t/\e.name=n:=by
 obtain⟨hk,h1,h2⟩:=zci h
 exact⟨by rw[← h1];exact List.getElem_mem hk,h2⟩
theorem zlb{t:List zan}{n:ByteArray}(hr:zch (namesT t))(h:zbj t n=none):∀ e∈t,e.name≠n:=by
 intro e he hn
 rw[← List.take_append_drop (zai t n) t,List.mem_append] at he
 rcases he with he|he
 ·have:=znv t n e he
  rw[hn,lt_irrefl] at this;cases this
 ·rcases zjr h with hk|⟨hk,hne⟩
  ·rw[List.drop_eq_nil_of_le (by omega)] at he;cases he
  ·have hd:t.drop (zai t n)=t[zai t n]::t.drop (zai t n+1):=List.drop_eq_getElem_cons hk
   have hge:=znu t n hr t[zai t n] (by rw[hd];exact List.mem_cons_self)
   rw[hd,List.mem_cons] at he
   rcases he with rfl|he
   ·exact hne hn
   ·have hr2:zch (namesT (t.drop (zai t n))):=by
     unfold zch namesT at *;rw[List.map_drop];exact hr.sublist (List.drop_sublist _ _)
    rw[hd] at hr2
    have hr3:zch (t[zai t n].name::namesT (t.drop (zai t n+1))):=hr2
    unfold zch at hr3
    rw[List.pairwise_cons] at hr3
    have:=hr3.1 e.name (List.mem_map.2 ⟨e,he,rfl⟩)
    rw[hn,hge] at this;cases this
theorem zls{t:List zan}{x e:zan}{k:Nat}:e∈zgr t x k↔e=x∨e∈t:=by
 unfold zgr
 rw[List.mem_append,List.mem_cons]
 constructor
 ·rintro(h|h|h)
  ·exact Or.inr (List.mem_of_mem_take h)
  ·exact Or.inl h
  ·exact Or.inr (List.mem_of_mem_drop h)
 ·rintro(h|h)
  ·exact Or.inr (Or.inl h)
  ·rw[← List.take_append_drop k t,List.mem_append] at h
   rcases h with h|h
   ·exact Or.inl h
   ·exact Or.inr (Or.inr h)
theorem z0x{t:List zan}{x:zan}(hr:zch (namesT t))(hx:∀ e∈t,e.name≠x.name):zch (namesT (zgr t x (zai t x.name))):=by
 have h1:=znv t x.name
 have h2:=znu t x.name hr
 have hgt:∀ e∈t.drop (zai t x.name),ltB x.name e.name=true:=by
  intro e he
  cases hc:ltB x.name e.name with
  |true=>rfl
  |false=>exact absurd (zyf (h2 e he) hc) (hx e (List.mem_of_mem_drop he))
 have hr2:=hr
 rw[← List.take_append_drop (zai t x.name) t] at hr2
 unfold zch namesT at hr2 ⊢
 unfold zgr
 rw[List.map_append,List.pairwise_append] at hr2
 rw[List.map_append,List.map_cons,List.pairwise_append,List.pairwise_cons]
 refine⟨hr2.1,⟨?_,hr2.2.1⟩,?_⟩
 ·intro b hb
  obtain⟨e,he,rfl⟩:=List.mem_map.1 hb
  exact hgt e he
 ·intro a ha b hb
  obtain⟨e,he,rfl⟩:=List.mem_map.1 ha
  rcases List.mem_cons.1 hb with rfl|hb
  ·exact h1 e he
  ·exact hr2.2.2 _ ha b hb
structure Tab (t:List zan) (ls:List zb2):Prop where
 rise:zch (namesT t)
 names:∀ n,n∈namesT t↔∃ l∈ls,l.pred=n
 arity:∀ e∈t,∀ l∈ls,l.pred=e.name->l.args.length=e.arity
theorem Tab.step{t t':List zan}{ls:List zb2}{l:zb2}(h:Tab t ls)(ha:zp7 t l=some t'):Tab t' (ls++[l]):=by
 unfold zp7 at ha
 split at ha
 ·rename_i e he
  obtain⟨hm,hn⟩:=zoj he
  split at ha
  ·rename_i har
   simp only[Option.some.injEq] at ha
   subst ha
   refine⟨h.rise,fun n=>?_,fun e' he' l' hl' hp=>?_⟩
   ·rw[h.names]
    constructor
    ·rintro⟨l',hl',hp⟩;exact⟨l',by simp[hl'],hp⟩
    ·rintro⟨l',hl',hp⟩
     rcases List.mem_append.1 hl' with hl'|hl'
     ·exact⟨l',hl',hp⟩
     ·simp at hl';subst hl'
      exact(h.names n).1 (List.mem_map.2 ⟨e,hm,by rw[hn,hp]⟩)
   ·rcases List.mem_append.1 hl' with hl'|hl'
    ·exact h.arity e' he' l' hl' hp
    ·simp at hl';subst hl'
     obtain⟨l0,hl0,hp0⟩:=(h.names e.name).1 (List.mem_map.2 ⟨e,hm,rfl⟩)
     rw[← har,← h.arity e hm l0 hl0 hp0]
     exact h.arity e' he' l0 hl0 (by rw[hp0,hn,hp])
  ·cases ha
 ·rename_i he
  simp only[Option.some.injEq] at ha
  subst ha
  have hout:=zlb h.rise he
  refine⟨z0x h.rise hout,fun n=>?_,fun e' he' l' hl' hp=>?_⟩
  ·constructor
   ·intro hn
    obtain⟨e,hm,rfl⟩:=List.mem_map.1 hn
    rcases zls.1 hm with rfl|hm
    ·exact⟨l,by simp,rfl⟩
    ·obtain⟨l',hl',hp⟩:=(h.names e.name).1 (List.mem_map.2 ⟨e,hm,rfl⟩)
     exact⟨l',by simp[hl'],hp⟩
   ·rintro⟨l',hl',hp⟩
    rcases List.mem_append.1 hl' with hl'|hl'
    ·obtain⟨e,hm,hen⟩:=List.mem_map.1 ((h.names n).2 ⟨l',hl',hp⟩)
     exact List.mem_map.2 ⟨e,zls.2 (Or.inr hm),hen⟩
    ·simp at hl';subst hl'
     exact List.mem_map.2 ⟨_,zls.2 (Or.inl rfl),hp⟩
  ·rcases zls.1 he' with rfl|hm
   ·rcases List.mem_append.1 hl' with hl'|hl'
    ·obtain⟨e,hm,hen⟩:=List.mem_map.1 ((h.names l'.pred).2 ⟨l',hl',rfl⟩)
     exact absurd (hen.trans hp) (hout e hm)
    ·simp at hl';subst hl';rfl
   ·rcases List.mem_append.1 hl' with hl'|hl'
    ·exact h.arity e' hm l' hl' hp
    ·simp at hl';subst hl';exact absurd hp.symm (hout e' hm)
theorem z2g:∀(ls done:List zb2) (t t':List zan),Tab t done->ls.foldl znl (some t)=some t'->Tab t' (done++ls)
 |[],done,t,t',h,e=>by simp at e;subst e;simpa using h
 |l::ls,done,t,t',h,e=>by
  rw[List.foldl_cons] at e
  cases ha:zp7 t l with
  |none=>rw[show znl (some t) l=none from ha,zi3] at e;cases e
  |some t2 =>
   rw[show znl (some t) l=some t2 from ha] at e
   have:=z2g ls (done++[l]) t2 t' (h.step ha) e
   rwa [List.append_assoc] at this
theorem z9y:Tab [] []:=⟨List.Pairwise.nil,fun n=>by simp[namesT],fun e he=>by cases he⟩
theorem zv8{cs:List zab}{t:List zan}(h:zgp cs=some t):Tab t (cs.flatMap za4):=by
 have:=z2g (cs.flatMap za4) [] [] t z9y h
 simpa using this
def up(l:zb2):Nat:=if l.neg then 1 else 0
def Sol(cs:List zab)(f:ByteArray->Nat):Prop:=∀ c∈cs,∀ l∈c.body,f l.pred+up l<=f c.head.pred
def Least(cs:List zab)(f:ByteArray->Nat):Prop:=Sol cs f/\∀ g,Sol cs g->∀ n,f n<=g n
theorem zug{cs:List zab}{g:ByteArray->Nat}(hg:Sol cs g):∃ f,Least cs f:=by
 have hmin:∀ n,∃ k,(∃ h,Sol cs h/\h n=k)/\∀ h,Sol cs h->k<=h n:=by
  intro n
  have aux:∀ m,(∃ h,Sol cs h/\h n<=m)->∃ k,(∃ h,Sol cs h/\h n=k)/\∀ h,Sol cs h->k<=h n:=by
   intro m
   induction m with
   |zero=>rintro⟨h,hs,h0⟩;exact⟨0,⟨h,hs,by omega⟩,fun _ _=>Nat.zero_le _⟩
   |succ m ih =>
    intro hm
    by_cases hx:∃ h,Sol cs h/\h n<=m
    ·exact ih hx
    ·obtain⟨h,hs,h0⟩:=hm
     have hlow:∀ h',Sol cs h'->m+1<=h' n:=fun h' hs'=>by
      false_or_by_contra;rename_i hc;exact hx ⟨h',hs',by omega⟩
     exact⟨m+1,⟨h,hs,by have:=hlow h hs;omega⟩,hlow⟩
  exact aux (g n) ⟨g,hg,Nat.le_refl _⟩
 refine⟨fun n=>(hmin n).choose,fun c hc l hl=>?_,fun h hs n=>(hmin n).choose_spec.2 h hs⟩
 obtain⟨⟨h,hs,hh⟩,-⟩:=(hmin c.head.pred).choose_spec
 have h1:=(hmin l.pred).choose_spec.2 h hs
 have h2:=hs c hc l hl
 simp only
 omega
theorem holes:∀(N:Nat) (L:List Nat),(∀ k,k<=N->k∈L)->N+1<=L.length
 |0,L,h=>by
  have:=h 0 (Nat.le_refl _)
  cases L with
  |nil=>cases this
  |cons=>simp
 |N+1,L,h=>by
  have hm:=h (N+1) (Nat.le_refl _)
  have:=holes N (L.erase (N+1)) fun k hk=>(List.mem_erase_of_ne (by omega)).2 (h k (by omega))
  rw[List.length_erase_of_mem hm] at this
  have:0 < L.length:=List.length_pos_of_mem hm
  omega
theorem z7e{cs:List zab}{f:ByteArray->Nat}(h:Least cs f){ps:List ByteArray}(hps:∀ c∈cs,∀ l∈za4 c,l.pred∈ps){n:ByteArray}(hn:n∈ps):f n < ps.length:=by
 false_or_by_contra
 rename_i hge
 have hx:∃ k,k<=ps.length/\k∉ps.map f:=by
  apply Classical.byContradiction
  intro hno
  have:=holes ps.length (ps.map f) fun k hk=>Classical.byContradiction fun hk2=>hno ⟨k,hk,hk2⟩
  rw[List.length_map] at this;omega
 obtain⟨k,hk,hkn⟩:=hx
 have hne:∀ m∈ps,f m≠k:=fun m hm e=>hkn (List.mem_map.2 ⟨m,hm,e⟩)
 have hs:Sol cs fun m=>if k < f m then f m - 1 else f m:=by
  intro c hc l hl
  have h1:=h.1 c hc l hl
  have h2:=hne l.pred (hps c hc l (by simp[za4,hl]))
  have h3:=hne c.head.pred (hps c hc c.head (by simp[za4]))
  have h4:up l<=1:=by unfold up;split <;> omega
  simp only
  split <;> split <;> omega
 have h5:=h.2 _ hs n
 have h6:=hne n hn
 split at h5 <;> omega
theorem zzw{cs:List zab}{f a b:ByteArray->Nat}(h:Least cs f)(hab:∀ n,a n<=b n)(hbf:∀ n,b n<=f n)(hstep:∀ c∈cs,∀ l∈c.body,a l.pred+up l<=b c.head.pred)
  (hsame:∀ n,b n=f n->a n=f n):∀ n,a n=f n:=by
 apply Classical.byContradiction
 intro hno
 have ⟨n,hn⟩:∃ n,¬ a n=f n:=Classical.byContradiction fun hx=>hno fun n=>Classical.byContradiction fun hc=>hx ⟨n,hc⟩
 have hs:Sol cs fun m=>if a m=f m then f m else f m - 1:=by
  intro c hc l hl
  have h1:=h.1 c hc l hl
  have h2:=hstep c hc l hl
  have h3:=hab c.head.pred
  have h4:=hbf c.head.pred
  have h5:=hsame c.head.pred
  have h6:=hab l.pred
  have h7:=hbf l.pred
  have h8:up l<=1:=by unfold up;split <;> omega
  simp only
  by_cases e1:a l.pred=f l.pred
  ·by_cases e2:a c.head.pred=f c.head.pred
   ·rw[if_pos e1,if_pos e2];exact h1
   ·have e3:¬ b c.head.pred=f c.head.pred:=fun e=>e2 (h5 e)
    rw[if_pos e1,if_neg e2];omega
  ·by_cases e2:a c.head.pred=f c.head.pred
   ·rw[if_neg e1,if_pos e2];omega
   ·rw[if_neg e1,if_neg e2];omega
 have h5:=h.2 _ hs n
 simp only[hn,if_false] at h5
 have h6:=hab n
 have h7:=hbf n
 omega
def val(t:List zan)(n:ByteArray):Nat:=match zbj t n with
 |some e=>e.stratum
 |none=>0
theorem zji:∀ {t t':List zan},namesT t=namesT t'->∀ n,zai t n=zai t' n
 |[],[],_,_=>rfl
 |[],_::_,h,_=>by simp[namesT] at h
 |_::_,[],h,_=>by simp[namesT] at h
 |a::r,b::q,h,n=>by
  simp only[namesT,List.map_cons,List.cons.injEq] at h
  unfold zai
  rw[h.1,zji h.2 n]
theorem zum{t:List zan}{k:Nat}{e:zan}(hk:k < t.length)(he:e.name=t[k].name):namesT (t.set k e)=namesT t:=by
 unfold namesT
 rw[List.map_set,he]
 apply List.ext_getElem (by simp)
 intro i h1 h2
 rw[List.getElem_set]
 split
 ·rename_i h;subst h;simp
 ·rfl
theorem zu1(t:List zan)(n:ByteArray)(s:Nat):namesT (zcd t n s).1=namesT t:=by
 unfold zcd
 split
 ·rfl
 ·rename_i e he
  obtain⟨hk,h1,h2⟩:=zci he
  split
  ·rfl
  ·exact zum hk (by rw[h1])
theorem z2v{t:List zan}{n:ByteArray}{e:zan}(s:Nat)(he:zbj t n=some e)(m:ByteArray):zbj (t.set (zai t n) { e with stratum:=s }) m=if m=n then some { e with stratum:=s } else zbj t m:=by
 obtain⟨hk,h1,h2⟩:=zci he
 have hp:zai (t.set (zai t n) { e with stratum:=s }) m=zai t m:=zji (zum hk (by rw[h1])) m
 unfold zbj
 rw[hp,List.getElem?_set]
 by_cases hm:m=n
 ·subst hm
  rw[if_pos rfl,if_pos rfl,if_pos hk]
  simp[h2]
 ·rw[if_neg hm]
  by_cases hq:zai t n=zai t m
  ·rw[if_pos hq,if_pos hk,← hq,List.getElem?_eq_getElem hk,h1]
   simp[h2,Ne.symm hm]
  ·rw[if_neg hq]
theorem zvg(t:List zan)(n:ByteArray)(s:Nat)(m:ByteArray):val (zcd t n s).1 m=if m=n/\(zbj t n).isSome=true then max (val t n) s else val t m:=by
 unfold zcd
 cases he:zbj t n with
 |none=>simp
 |some e =>
  simp only[Option.isSome_some,and_true]
  have hv:val t n=e.stratum:=by simp[val,he]
  split
  ·split
   ·rename_i h1 h2;rw[h2,hv];omega
   ·rfl
  ·rename_i h1
   unfold val
   rw[z2v s he m,he]
   by_cases hm:m=n
   ·rw[if_pos hm,if_pos hm];simp only;omega
   ·rw[if_neg hm,if_neg hm]
theorem z0w(t:List zan)(n:ByteArray)(s:Nat):((zcd t n s).2=false->(zcd t n s).1=t)/\((zcd t n s).2=true->val t n < val (zcd t n s).1 n):=by
 constructor
 ·unfold zcd;split
  ·exact fun _=>rfl
  ·split
   ·exact fun _=>rfl
   ·intro h;cases h
 ·intro h
  rw[zvg]
  unfold zcd at h
  split at h
  ·cases h
  ·rename_i e he
   split at h
   ·cases h
   ·rename_i h1
    have hv:val t n=e.stratum:=by simp[val,he]
    rw[if_pos ⟨rfl,by simp[he]⟩];omega
theorem zyc{t:List zan}:∀(b:List zb2) (n:Nat),n<=b.foldl (zfe t) n/\∀ l∈b,zvp t l<=b.foldl (zfe t) n
 |[],n=>⟨Nat.le_refl _,fun l hl=>by cases hl⟩
 |a::b,n=>by
  have ⟨h1,h2⟩:=zyc (t:=t) b (zfe t n a)
  have h3:n<=zfe t n a/\zvp t a<=zfe t n a:=by unfold zfe;split <;> omega
  rw[List.foldl_cons]
  refine⟨by omega,fun l hl=>?_⟩
  rcases List.mem_cons.1 hl with rfl|hl
  ·omega
  ·exact h2 l hl
theorem zyd{t:List zan}{M:Nat}:∀(b:List zb2) (n:Nat),n<=M->(∀ l∈b,zvp t l<=M)->b.foldl (zfe t) n<=M
 |[],n,h,_=>h
 |a::b,n,h,hb=>by
  rw[List.foldl_cons]
  refine zyd b _ ?_ fun l hl=>hb l (by simp[hl])
  have:=hb a (by simp)
  unfold zfe;split <;> omega
theorem z7f{t:List zan}{l:zb2}(h:(zbj t l.pred).isSome=true):zvp t l=val t l.pred+up l:=by
 unfold zvp val up
 cases he:zbj t l.pred with
 |none=>rw[he] at h;cases h
 |some e=>simp only;split <;> rfl
end Go.Proofs.YteampbddflhngabGreat
