import Derived.Test.YteampbddflhngabGreatYCPy7
import Derived.Test.YteampbddflhngabGreatY08
import Derived.Test.YteampbddflhngabGreatY07

namespace Go.Proofs.YteampbddflhngabGreat
open Classical
theorem Parts.rising{cs:List zab}{t0 t:List zar}(h:Parts cs t0 t):zca (namesT t):=by rw[h.nam.1];exact h.tab.rise
theorem ycp{t:List zar}(hr:zca (namesT t)){n:ByteArray}(hn:n∈namesT t):∃ e,zbh t n=some e/\zbd t n=zai t n/\zbd t n < t.length:=by
 cases he:zbh t n with
 |none =>
  obtain⟨e,hm,q⟩:=List.mem_map.1 hn
  exact absurd q (zk0 hr he e hm)
 |some e =>
  obtain⟨k,_,_⟩:=zch he
  have:zbd t n=zai t n:=by unfold zbd;rw[he];rfl
  exact⟨e,rfl,this,by rw[this];exact k⟩
theorem ya2{t:List zar}(hr:zca (namesT t)){n m:ByteArray}(hn:n∈namesT t)(hm:m∈namesT t)(e:zbd t n=zbd t m):n=m:=by
 obtain⟨a,a1,a2,_⟩:=ycp hr hn
 obtain⟨b,b1,b2,_⟩:=ycp hr hm
 exact z5s a1 b1 (by rw[← a2,← b2,e])
theorem ya5{cs:List zab}{t0 t:List zar}(h:Parts cs t0 t){c:zab}(hc:c∈cs){l:zbp}(hl:l∈za2 c):l.pred∈namesT t:=by
 rw[h.nam.1]
 exact(h.tab.names l.pred).2 ⟨l,List.mem_flatMap.2 ⟨c,hc,hl⟩,rfl⟩
structure Rel (t t2:List zar) (D D2:DB):Prop where
 a:∀ n∈namesT t,∀ x,InD D (zbd t n) x↔InD D2 (zbd t2 n) x
 b:∀ p x,InD D p x->∃ n∈namesT t,p=zbd t n
 c:∀ p x,InD D2 p x->∃ n∈namesT t,p=zbd t2 n
theorem yea(D:DB)(p:Nat)(x:zao):D p x=none↔¬ InD D p x:=by
 unfold InD
 cases D p x <;> simp
theorem Rel.der{t t2:List zar}{D D2:DB}(h:Rel t t2 D D2){c:zab}(hc:∀ l∈za2 c,l.pred∈namesT t)(ns:List ByteArray)(x:zao):yae t ns c D x↔yae t2 ns c D2 x:=by
 unfold yae
 constructor
 ·rintro⟨σ,h1,h2,h3⟩
  refine⟨σ,fun l hl hn=>(h.a _ (hc l (by simp[za2,hl])) _).1 (h1 l hl hn),fun l hl hn=>?_,h3⟩
  rw[yea]
  exact fun q=>(yea _ _ _).1 (h2 l hl hn) ((h.a _ (hc l (by simp[za2,hl])) _).2 q)
 ·rintro⟨σ,h1,h2,h3⟩
  refine⟨σ,fun l hl hn=>(h.a _ (hc l (by simp[za2,hl])) _).2 (h1 l hl hn),fun l hl hn=>?_,h3⟩
  rw[yea]
  exact fun q=>(yea _ _ _).1 (h2 l hl hn) ((h.a _ (hc l (by simp[za2,hl])) _).1 q)
theorem ybj(rs:List zah)(k:Nat)(D:DB)(p:Nat)(x:zao):InD (zg2 rs k D) p x↔InD D p x∨zsj rs D p x:=by
 unfold InD zg2
 cases D p x with
 |some m=>simp
 |none =>
  by_cases h:zsj rs D p x <;> simp[h]
structure Pair (t t2:List zar) (rs rs2:List zah):Prop where
 one:∀ D D2,Rel t t2 D D2->∀ p x,zsj rs D p x->∃ n∈namesT t,p=zbd t n/\zsj rs2 D2 (zbd t2 n) x
 two:∀ D D2,Rel t t2 D D2->∀ p x,zsj rs2 D2 p x->∃ n∈namesT t,p=zbd t2 n/\(zsj rs D (zbd t n) x∨InD D2 p x)
theorem Rel.round{t t2:List zar}(hr:zca (namesT t))(hr2:zca (namesT t2))(hsub:∀ n∈namesT t,n∈namesT t2){rs rs2:List zah}(hp:Pair t t2 rs rs2){D D2:DB}(h:Rel t t2 D D2)(k k2:Nat):Rel t t2 (zg2 rs k D) (zg2 rs2 k2 D2):=by
 refine⟨fun n hn x=>?_,fun p x q=>?_,fun p x q=>?_⟩
 ·rw[ybj,ybj]
  constructor
  ·rintro(q|q)
   ·exact Or.inl ((h.a n hn x).1 q)
   ·obtain⟨m,hm,e,q2⟩:=hp.one D D2 h _ x q
    rw[ya2 hr hn hm e]
    exact Or.inr q2
  ·rintro(q|q)
   ·exact Or.inl ((h.a n hn x).2 q)
   ·obtain⟨m,hm,e,q2⟩:=hp.two D D2 h _ x q
    have en:=ya2 hr2 (hsub n hn) (hsub m hm) e
    subst en
    rcases q2 with q2|q2
    ·exact Or.inr q2
    ·exact Or.inl ((h.a n hn x).2 q2)
 ·rcases(ybj _ _ _ _ _).1 q with q|q
  ·exact h.b p x q
  ·obtain⟨m,hm,e,_⟩:=hp.one D D2 h _ x q
   exact⟨m,hm,e⟩
 ·rcases(ybj _ _ _ _ _).1 q with q|q
  ·exact h.c p x q
  ·obtain⟨m,hm,e,_⟩:=hp.two D D2 h _ x q
   exact⟨m,hm,e⟩
theorem Rel.stop{t t2:List zar}{D D2 E E2:DB}(h:Rel t t2 D D2)(k:Rel t t2 E E2):(∀ p x,InD E p x->InD D p x)↔∀ p x,InD E2 p x->InD D2 p x:=by
 constructor
 ·intro q p x hx
  obtain⟨n,hn,rfl⟩:=k.c p x hx
  exact(h.a n hn x).1 (q _ x ((k.a n hn x).2 hx))
 ·intro q p x hx
  obtain⟨n,hn,rfl⟩:=k.b p x hx
  exact(h.a n hn x).2 (q _ x ((k.a n hn x).1 hx))
theorem yb3{t t2:List zar}(hr:zca (namesT t))(hr2:zca (namesT t2))(hsub:∀ n∈namesT t,n∈namesT t2){rs rs2:List zah}(hp:Pair t t2 rs rs2)(mr:Nat){E E2:DB}{e e2:Nat}:∀(left left2 k k2:Nat) (D D2:DB),Rel t t2 D D2->zd9 rs mr left k D=some (E,e)->zd9 rs2 mr left2 k2 D2=some (E2,e2)->Rel t t2 E E2
 |0,_,_,_,_,_,_,h1,_=>by cases h1
 |_+1,0,_,_,_,_,_,_,h2=>by cases h2
 |left+1,left2+1,k,k2,D,D2,h,h1,h2=>by
  have hR:=h.round hr hr2 hsub hp (k+1) (k2+1)
  have hst:=h.stop hR
  unfold zd9 at h1 h2
  split at h1
  ·split at h2
   ·split at h1
    ·rename_i s1
     rw[if_pos (hst.1 s1)] at h2
     simp only[Option.some.injEq,Prod.mk.injEq] at h1 h2
     rw[← h1.1,← h2.1]
     exact hR
    ·rename_i s1
     rw[if_neg (fun q=>s1 (hst.2 q))] at h2
     exact yb3 hr hr2 hsub hp mr left left2 _ _ _ _ hR h1 h2
   ·cases h2
  ·cases h1
theorem yd1(k:Nat)(D:DB):zg2 [] k D=D:=by
 funext p x
 unfold zg2
 cases D p x with
 |some m=>rfl
 |none =>
  have:¬ zsj [] D p x:=by rintro⟨r,hr,_⟩;cases hr
  simp[this]
theorem yc2{t t2:List zar}(hr:zca (namesT t))(hr2:zca (namesT t2))(hsub:∀ n∈namesT t,n∈namesT t2){rs2:List zah}(hp:Pair t t2 [] rs2)(mr:Nat){E2:DB}{e2:Nat}(left2 k2:Nat)(D D2:DB)(h:Rel t t2 D D2)(h2:zd9 rs2 mr left2 k2 D2=some (E2,e2)):Rel t t2 D E2:=by
 cases left2 with
 |zero=>cases h2
 |succ left2 =>
  have hR:=h.round hr hr2 hsub hp 0 (k2+1)
  rw[yd1] at hR
  have hst:=h.stop hR
  unfold zd9 at h2
  split at h2
  ·rw[if_pos (hst.1 fun p x q=>q)] at h2
   simp only[Option.some.injEq,Prod.mk.injEq] at h2
   rw[← h2.1]
   exact hR
  ·cases h2
theorem ybt(rules:List zah)(mr mx:Nat):∀(n s k:Nat) (D:DB),(∀ s',s<=s'->(rules.filter fun r=>decide (r.stratum=s'))=[])->zez rules mr mx n s k D=some (D,k)
 |0,_,_,_,_=>rfl
 |n+1,s,k,D,h=>by
  unfold zez
  rw[if_pos (h s (Nat.le_refl _))]
  exact ybt rules mr mx n (s+1) k D fun s' hs=>h s' (by omega)
theorem yba{t t2:List zar}(hr:zca (namesT t))(hr2:zca (namesT t2))(hsub:∀ n∈namesT t,n∈namesT t2){rules rules2:List zah}(hp:∀ s,Pair t t2 (rules.filter fun r=>decide (r.stratum=s)) (rules2.filter fun r=>decide (r.stratum=s)))(he:∀ s,(rules2.filter fun r=>decide (r.stratum=s))=[]->(rules.filter fun r=>decide (r.stratum=s))=[])(mr mx:Nat){E E2:DB}{e e2:Nat}:∀(n n2 s k k2:Nat) (D D2:DB),n<=n2->(∀ s',s+n<=s'->(rules2.filter fun r=>decide (r.stratum=s'))=[])->Rel t t2 D D2->zez rules mr mx n s k D=some (E,e)->zez rules2 mr mx n2 s k2 D2=some (E2,e2)->Rel t t2 E E2
 |0,n2,s,k,k2,D,D2,_,hi,h,h1,h2=>by
  rw[ybt rules2 mr mx n2 s k2 D2 (by simpa using hi)] at h2
  simp only[zez,Option.some.injEq,Prod.mk.injEq] at h1 h2
  rw[← h1.1,← h2.1]
  exact h
 |n+1,0,_,_,_,_,_,hn,_,_,_,_=>by omega
 |n+1,n2+1,s,k,k2,D,D2,hn,hi,h,h1,h2=>by
  have hi':∀ s',s+1+n<=s'->(rules2.filter fun r=>decide (r.stratum=s'))=[]:=fun s' hs=>hi s' (by omega)
  unfold zez at h1 h2
  by_cases z2:(rules2.filter fun r=>decide (r.stratum=s))=[]
  ·rw[if_pos z2] at h2
   rw[if_pos (he s z2)] at h1
   exact yba hr hr2 hsub hp he mr mx n n2 (s+1) k k2 D D2 (by omega) hi' h h1 h2
  ·rw[if_neg z2] at h2
   cases hq2:zd9 (rules2.filter fun r=>decide (r.stratum=s)) mr (mx - k2) k2 D2 with
   |none=>rw[hq2] at h2;cases h2
   |some z =>
    obtain⟨F2,f2⟩:=z
    rw[hq2] at h2
    by_cases z1:(rules.filter fun r=>decide (r.stratum=s))=[]
    ·rw[if_pos z1] at h1
     have hps:=hp s
     rw[z1] at hps
     have hF:=yc2 hr hr2 hsub hps mr _ _ D D2 h hq2
     exact yba hr hr2 hsub hp he mr mx n n2 (s+1) k f2 D F2 (by omega) hi' hF h1 h2
    ·rw[if_neg z1] at h1
     cases hq1:zd9 (rules.filter fun r=>decide (r.stratum=s)) mr (mx - k) k D with
     |none=>rw[hq1] at h1;cases h1
     |some z =>
      obtain⟨F,f⟩:=z
      rw[hq1] at h1
      have hF:=yb3 hr hr2 hsub (hp s) mr _ _ _ _ D D2 h hq1 hq2
      exact yba hr hr2 hsub hp he mr mx n n2 (s+1) f f2 F F2 (by omega) hi' hF h1 h2
theorem ycx{t:List zar}{ns:List ByteArray}(cs:List zab)(s:Nat):((zet t ns none cs).filter fun r=>decide (r.stratum=s))=[]↔¬ ∃ c∈cs,0 < c.body.length/\zdv t c.head.pred=s:=by
 rw[List.filter_eq_nil_iff]
 constructor
 ·rintro q ⟨c,hc,hb,hs⟩
  obtain⟨i,hi,rfl⟩:=List.mem_iff_getElem.1 hc
  have:=q _ (zqh.2 ⟨i,hi,hb,rfl⟩)
  exact this (decide_eq_true hs)
 ·intro q r hr
  obtain⟨i,hi,hb,rfl⟩:=zqh.1 hr
  exact fun e=>q ⟨_,List.getElem_mem hi,hb,of_decide_eq_true e⟩
theorem yen{cs:List zab}{t0 t t20 t2:List zar}(h:Parts cs t0 t){e:zar}(he:e∈t)(h2:Parts (yay cs e.name e.arity) t20 t2)(hT:ye1 t t2)(hy:bYy∉namesT t){mr mx:Nat}(ns:List ByteArray){E E2:DB}{k k2:Nat}(r1:zjw (zjv t ns none cs) mr mx=some (E,k))(r2:zjw (zjv t2 ns none (yay cs e.name e.arity)) mr mx=some (E2,k2)):Rel t t2 E E2:=by
 have hr:=h.rising
 have hr2:=h2.rising
 have hsub:∀ n∈namesT t,n∈namesT t2:=fun n hn=>(hT.names n).2 (Or.inl hn)
 have hen:e.name∈namesT t:=List.mem_map.2 ⟨e,he,rfl⟩
 have hpl:∀ {cs:List zab} {t0 t:List zar},Parts cs t0 t->∀ i (hi:i < cs.length),zin (za6 ((zd2 none i).getD [])) (zaf cs[i]).length:=fun h i hi=>zqq (zga (h.many _ (List.getElem_mem hi)))
 have hcs:∀ c∈cs,c∈yay cs e.name e.arity:=fun c hc=>List.mem_append.2 (Or.inl hc)
 have hpair:∀ s,Pair t t2 ((zet t ns none cs).filter fun r=>decide (r.stratum=s)) ((zet t2 ns none (yay cs e.name e.arity)).filter fun r=>decide (r.stratum=s)):=by
  intro s
  constructor
  ·intro D D2 hR p x q
   obtain⟨c,hc,hb,hs,hpp,hd⟩:=(z90 h ns none (hpl h) s D p x).1 q
   have hin:∀ l∈za2 c,l.pred∈namesT t:=fun l hl=>ya5 h hc hl
   refine⟨c.head.pred,hin _ (by simp[za2]),hpp,(z90 h2 ns none (hpl h2) s D2 _ x).2 ⟨c,hcs c hc,hb,?_,rfl,(hR.der hin ns x).1 hd⟩⟩
   rw[hT.strata]
   exact hs
  ·intro D D2 hR p x q
   obtain⟨c,hc,hb,hs,hpp,hd⟩:=(z90 h2 ns none (hpl h2) s D2 p x).1 q
   rcases List.mem_append.1 hc with hc|hc
   ·have hin:∀ l∈za2 c,l.pred∈namesT t:=fun l hl=>ya5 h hc hl
    refine⟨c.head.pred,hin _ (by simp[za2]),hpp,Or.inl ((z90 h ns none (hpl h) s D _ x).2 ⟨c,hc,hb,?_,rfl,(hR.der hin ns x).2 hd⟩)⟩
    rw[← hT.strata]
    exact hs
   ·simp only[List.mem_cons,List.not_mem_nil,or_false] at hc
    rcases hc with rfl|rfl
    ·obtain⟨σ,d1,_,d3⟩:=hd
     have:=d1 (yct e.name e.arity) (by simp[ybw]) rfl
     refine⟨e.name,hen,hpp,Or.inr ?_⟩
     rw[hpp,d3]
     exact this
    ·exfalso
     obtain⟨σ,d1,_,d3⟩:=hd
     have q2:=d1 ⟨false,bYy,[]⟩ (by simp[ybn]) rfl
     obtain⟨n,hn,e2⟩:=hR.c _ _ q2
     have:=ya2 hr2 ((hT.names bYy).2 (Or.inr (Or.inr rfl))) (hsub n hn) e2
     exact hy (by rw[this];exact hn)
 have hemp:∀ s,((zet t2 ns none (yay cs e.name e.arity)).filter fun r=>decide (r.stratum=s))=[]->((zet t ns none cs).filter fun r=>decide (r.stratum=s))=[]:=by
  intro s q
  rw[ycx] at q ⊢
  rintro⟨c,hc,hb,hs⟩
  exact q ⟨c,hcs c hc,hb,by rw[hT.strata];exact hs⟩
 have hlt:∀ n∈namesT t,zdv t n < t.length:=by
  intro n hn
  rw[zja]
  have:=z6a h.least (ps:=namesT t) (fun c hc l hl=>ya5 h hc hl) hn
  simpa [namesT] using this
 have hpos:0 < t.length:=List.length_pos_of_mem he
 have hlast:∀ s',0+(t.map (·.arity)).length<=s'->((zet t2 ns none (yay cs e.name e.arity)).filter fun r=>decide (r.stratum=s'))=[]:=by
  intro s' hs'
  rw[ycx]
  rintro⟨c,hc,hb,hs⟩
  rw[hT.strata] at hs
  simp only[List.length_map,Nat.zero_add] at hs'
  rcases List.mem_append.1 hc with hc|hc
  ·have:=hlt _ (ya5 h hc (l:=c.head) (by simp[za2]))
   omega
  ·simp only[List.mem_cons,List.not_mem_nil,or_false] at hc
   rcases hc with rfl|rfl
   ·have:=hlt _ hen
    have e1:(ybw e.name e.arity).head.pred=e.name:=rfl
    rw[e1] at hs
    omega
   ·have:zdv t bZz=0∨bZz∈namesT t:=by
     by_cases q:bZz∈namesT t
     ·exact Or.inr q
     ·exact Or.inl (by rw[zja];exact zw8 q)
    have e1:ybn.head.pred=bZz:=rfl
    rw[e1] at hs
    rcases this with q|q
    ·omega
    ·have:=hlt _ q
     omega
 have hlen:(t.map (·.arity)).length<=(t2.map (·.arity)).length:=by
  have hnd:(namesT t).Nodup:=hr.imp fun{a b} q e=>by rw[e,lt_irrefl] at q;cases q
  have:=zma hnd hsub
  simpa [namesT] using this
 have hrow:∀ c:zab,(ziw t ns c).row=(ziw t2 ns c).row:=by
  intro c
  have h5:∀ k,([0,0,0,0,0]:List Nat).getD k 0 < 5:=by
   intro k
   rcases k with _|_|_|_|_|k <;> simp
  unfold ziw
  simp only
  rw[znh t ns [] h5,znh t2 ns [] h5]
 have hfr:Rel t t2 (zjx (zeq t ns cs)) (zjx (zeq t2 ns (yay cs e.name e.arity))):=by
  have hin:∀(fs:List zim) p x,InD (zjx fs) p x↔∃ f∈fs,f.pred=p/\f.row=x:=by
   intro fs p x
   unfold InD zjx
   by_cases q:∃ f∈fs,f.pred=p/\f.row=x <;> simp[q]
  have hf1:∀ f,f∈zeq t ns cs↔∃ c∈cs,¬ 0 < c.body.length/\ziw t ns c=f:=by
   intro f
   unfold zeq
   simp[List.mem_map,List.mem_filter,and_assoc]
  have hf2:∀ f,f∈zeq t2 ns (yay cs e.name e.arity)↔∃ c∈cs,¬ 0 < c.body.length/\ziw t2 ns c=f:=by
   intro f
   unfold zeq yay
   simp[List.mem_map,List.mem_filter,and_assoc,ybw,ybn]
  refine⟨fun n hn x=>?_,fun p x q=>?_,fun p x q=>?_⟩
  ·rw[hin,hin]
   constructor
   ·rintro⟨f,hf,q1,q2⟩
    obtain⟨c,hc,hb,rfl⟩:=(hf1 f).1 hf
    have hcn:=ya5 h hc (l:=c.head) (by simp[za2])
    have:=ya2 hr hcn hn q1
    exact⟨ziw t2 ns c,(hf2 _).2 ⟨c,hc,hb,rfl⟩,by rw[← this];rfl,by rw[← hrow];exact q2⟩
   ·rintro⟨f,hf,q1,q2⟩
    obtain⟨c,hc,hb,rfl⟩:=(hf2 f).1 hf
    have hcn:=ya5 h hc (l:=c.head) (by simp[za2])
    have:=ya2 hr2 (hsub _ hcn) (hsub _ hn) q1
    exact⟨ziw t ns c,(hf1 _).2 ⟨c,hc,hb,rfl⟩,by rw[← this];rfl,by rw[hrow];exact q2⟩
  ·obtain⟨f,hf,q1,q2⟩:=(hin _ _ _).1 q
   obtain⟨c,hc,hb,rfl⟩:=(hf1 f).1 hf
   exact⟨c.head.pred,ya5 h hc (l:=c.head) (by simp[za2]),q1.symm⟩
  ·obtain⟨f,hf,q1,q2⟩:=(hin _ _ _).1 q
   obtain⟨c,hc,hb,rfl⟩:=(hf2 f).1 hf
   exact⟨c.head.pred,ya5 h hc (l:=c.head) (by simp[za2]),q1.symm⟩
 unfold zjw at r1 r2
 split at r1
 ·split at r2
  ·exact yba hr hr2 hsub hpair hemp mr mx _ _ 0 0 0 _ _ hlen hlast hfr r1 r2
  ·cases r2
 ·cases r1
theorem yc1(cs:List zab)(p:ByteArray)(k:Nat):zaw (yay cs p k)=zaw cs:=by
 refine zr2 (zky _).1 (zky cs).1 fun y=>?_
 rw[(zky _).2,(zky cs).2]
 constructor
 ·rintro⟨c,hc,l,hl,hy,hv⟩
  rcases List.mem_append.1 hc with hc|hc
  ·exact⟨c,hc,l,hl,hy,hv⟩
  ·exfalso
   simp only[List.mem_cons,List.not_mem_nil,or_false] at hc
   rcases hc with rfl|rfl
   ·have:l=yct p k:=by
     simp only[za2,ybw,List.mem_cons,List.not_mem_nil,or_false,or_self] at hl
     exact hl
    subst this
    have:=(yc6 y (List.mem_of_mem_take hy)).2
    rw[hv] at this
    cases this
   ·simp only[za2,ybn,List.mem_cons,List.not_mem_nil,or_false] at hl
    rcases hl with rfl|rfl <;> cases hy
 ·rintro⟨c,hc,q⟩
  exact⟨c,List.mem_append.2 (Or.inl hc),q⟩
def yd3(fa fb:List zgl):Prop:=fa.length=fb.length/\∀ i (_:i < fa.length),∃ k,zke fa[i].1 fa[i].2.1 fb=some k
theorem ydm{t t2:List zar}{ns:List ByteArray}{R R2:zbg}(h:Told t ns R)(h2:Told t2 ns R2)(hT:ye1 t t2)(hR:Rel t t2 (zc2 (t.map (·.arity)) R) (zc2 (t2.map (·.arity)) R2)):(∀ f∈zcl t ns R t.length,∃ g∈zcl t2 ns R2 t2.length,g.1=f.1/\g.2.1=f.2.1)/\∀ g∈zcl t2 ns R2 t2.length,∃ f∈zcl t ns R t.length,f.1=g.1/\f.2.1=g.2.1:=by
 have hsub:∀ n∈namesT t,n∈namesT t2:=fun n hn=>(hT.names n).2 (Or.inl hn)
 have hname:∀ {t:List zar},zca (namesT t)->∀ n∈namesT t,zik t (zbd t n)=n/\∃ e∈t,e.name=n/\za0 t (zbd t n)=e.arity:=by
  intro t hr n hn
  obtain⟨e,e1,e2,e3⟩:=ycp hr hn
  obtain⟨k,k1,k2⟩:=zch e1
  have hq:t[zbd t n]'e3=e:=by simp only[e2,k1]
  refine⟨?_,e,(zn3 e1).1,k2,?_⟩
  ·unfold zik namesT
   simp only[List.getD,List.getElem?_map,List.getElem?_eq_getElem e3,Option.map_some,Option.getD_some]
   rw[hq,k2]
  ·unfold za0
   simp only[List.getD,List.getElem?_map,List.getElem?_eq_getElem e3,Option.map_some,Option.getD_some]
   rw[hq]
 have har:∀ n∈namesT t,za0 t (zbd t n)=za0 t2 (zbd t2 n):=by
  intro n hn
  obtain⟨_,e,he,en,ea⟩:=hname h.rise n hn
  obtain⟨_,e2,he2,en2,ea2⟩:=hname h2.rise n (hsub n hn)
  rw[ea,ea2]
  exact hT.arity e he e2 he2 (by rw[en,en2])
 constructor
 ·intro f hf
  obtain⟨p,hp,r,m,hD,rfl⟩:=(ztb h f).1 hf
  have hin:InD (zc2 (t.map (·.arity)) R) p r:=by unfold InD;rw[hD];rfl
  obtain⟨n,hn,rfl⟩:=hR.b p r hin
  have hin2:=(hR.a n hn r).1 hin
  obtain⟨m2,hm2⟩:=Option.isSome_iff_exists.1 hin2
  refine⟨_,(ztb h2 _).2 ⟨zbd t2 n,(ycp h2.rise (hsub n hn)).choose_spec.2.2,r,m2,hm2,rfl⟩,?_,?_⟩
  ·show zik t2 (zbd t2 n)=zik t (zbd t n)
   rw[(hname h.rise n hn).1,(hname h2.rise n (hsub n hn)).1]
  ·show za1 ns r (za0 t2 (zbd t2 n)) 3=za1 ns r (za0 t (zbd t n)) 3
   rw[har n hn]
 ·intro g hg
  obtain⟨p,hp,r,m,hD,rfl⟩:=(ztb h2 g).1 hg
  have hin:InD (zc2 (t2.map (·.arity)) R2) p r:=by unfold InD;rw[hD];rfl
  obtain⟨n,hn,rfl⟩:=hR.c p r hin
  have hin2:=(hR.a n hn r).2 hin
  obtain⟨m2,hm2⟩:=Option.isSome_iff_exists.1 hin2
  refine⟨_,(ztb h _).2 ⟨zbd t n,(ycp h.rise hn).choose_spec.2.2,r,m2,hm2,rfl⟩,?_,?_⟩
  ·show zik t (zbd t n)=zik t2 (zbd t2 n)
   rw[(hname h.rise n hn).1,(hname h2.rise n (hsub n hn)).1]
  ·show za1 ns r (za0 t (zbd t n)) 3=za1 ns r (za0 t2 (zbd t2 n)) 3
   rw[har n hn]
theorem ybo{t:List zar}{ns:List ByteArray}{R:zbg}(h:Told t ns R):((zcl t ns R t.length).map fun f=>(f.1,f.2.1)).Nodup:=by
 have hn:=z8k h
 rw[List.nodup_iff_pairwise_ne] at hn ⊢
 rw[List.pairwise_map]
 refine List.Pairwise.imp_of_mem ?_ hn
 intro a b ha hb hab e
 simp only[Prod.mk.injEq] at e
 exact hab (z9l h ha hb e.1 e.2)
theorem ydh{t t2:List zar}{ns:List ByteArray}{R R2:zbg}(h:Told t ns R)(h2:Told t2 ns R2)(hT:ye1 t t2)(hR:Rel t t2 (zc2 (t.map (·.arity)) R) (zc2 (t2.map (·.arity)) R2)):yd3 (zcl t ns R t.length) (zcl t2 ns R2 t2.length):=by
 obtain⟨m1,m2⟩:=ydm h h2 hT hR
 constructor
 ·apply Nat.le_antisymm
  ·have:=zma (ybo h) (l2:=(zcl t2 ns R2 t2.length).map fun f=>(f.1,f.2.1)) (fun x hx=>by
    obtain⟨f,hf,rfl⟩:=List.mem_map.1 hx
    obtain⟨g,hg,g1,g2⟩:=m1 f hf
    exact List.mem_map.2 ⟨g,hg,by rw[g1,g2]⟩)
   simpa using this
  ·have:=zma (ybo h2) (l2:=(zcl t ns R t.length).map fun f=>(f.1,f.2.1)) (fun x hx=>by
    obtain⟨f,hf,rfl⟩:=List.mem_map.1 hx
    obtain⟨g,hg,g1,g2⟩:=m2 f hf
    exact List.mem_map.2 ⟨g,hg,by rw[g1,g2]⟩)
   simpa using this
 ·intro i hi
  obtain⟨g,hg,g1,g2⟩:=m1 _ (List.getElem_mem hi)
  obtain⟨k,hk,hf,_⟩:=z9m hg
  rw[g1,g2] at hf
  exact⟨k,hf⟩
end Go.Proofs.YteampbddflhngabGreat
namespace Go.Proofs.YteampbddflhngabGreat
set_option maxRecDepth 100000
set_option maxHeartbeats 2000000
open Go.RowKit
variable {lo:Nat}
def zero3:Value × Value × Value:=(.bool false,.string ByteArray.empty,.slice none 0 0)
def yc5(c:zab)(w:World)(e:Ending)(w':World):Prop:=∃ g gs,w.heap.size<=g/\e=.returned (.slice (some ⟨g,0,none⟩) (1+c.body.length) (1+c.body.length))/\w'.ownsRow w.heap.size 45 3 (.slice (some ⟨g,0,none⟩) (1+c.body.length) (1+c.body.length)) (1+c.body.length) (flat3 (List.zipWith z9w (za2 c) gs))/\Copies w.heap.size w' (za2 c) gs/\Below w.heap.size w w'
theorem yd9(w:World)(c:zab)(va vb:Value)(hs:SIn lo w va c.head.args)(hb:LIn lo w vb c.body)(hf:yad c) :
  Calls Tryz.prog 44 #[.agg #[.bool c.head.neg,.string c.head.pred,va,vb]] w fun e w'=>yc5 c w e w':=by
 obtain⟨i0,hi,hz0,hzs,hzb⟩:=info_parts Tryz.infoLit
 obtain⟨ao,cap,rfl⟩:=hs.shape
 obtain⟨aob,capb,rfl⟩:=hb.shape
 obtain⟨hf1,hf2⟩:=hf
 have hmk:=fun W:World=>run_make (P:=Tryz.prog) (w:=W) 41 45 i0 _ Tryz.underlying41 hi hz0 .i64 .i64 (1+(c.body.length:Int)) (1+(c.body.length:Int)) (by omega) (Int.le_refl _) (by rw[hzb];omega) (by omega)
 rw[hzs] at hmk
 have HH:Hid (∀ W,Below w.heap.size w W->Calls Tryz.prog 66 #[.agg #[.bool c.head.neg,.string c.head.pred,.slice ao c.head.args.length cap]] W fun e w'=>∃ g,W.heap.size<=g/\e=.returned (.agg #[.bool c.head.neg,.string c.head.pred,.slice (some ⟨g,0,none⟩) c.head.args.length c.head.args.length])/\SIn W.heap.size w' (.slice (some ⟨g,0,none⟩) c.head.args.length c.head.args.length) c.head.args/\Below W.heap.size W w'):=fun W hW=>z8i W c.head _ (hs.below hW) (hf1 c.head (by simp[za2])).2.2.1
 go_enter Tryz.func44,Tryz.ntmps44
 go_wp2_with (first|(go_at_call 66;refine(HH.out _ (by exact(by go_grown))).mono ?_;rintro e w1 ⟨g,hg,rfl,hs1,hb1⟩;have hro1:=zaa (z3l (w.alloc (.cells #[.bool c.head.neg,.string c.head.pred,.slice ao c.head.args.length cap,.slice aob c.body.length capb] 90)) (1+c.body.length) 45 (.bool false) (.string ByteArray.empty) (.slice none 0 0) (by unfold maxLen;omega)) hb1;simp only[World.size_alloc] at hro1;obtain⟨hl1,hq0,hq1,hq2⟩:=zop hro1 0 (by simp;omega);simp only[Nat.zero_mul,Nat.zero_add] at hq0 hq1 hq2;have hfz1:=zbu hro1;have hbx1:=((Box.new w #[.bool c.head.neg,.string c.head.pred,.slice ao c.head.args.length cap,.slice aob c.body.length capb] 90).below ((Below.refl _ _).alloc (Nat.le_refl _) (.cells (madeCells #[.bool false,.string ByteArray.empty,.slice none 0 0] ((1+c.body.length) * 3)) 45))).below hb1;obtain⟨hbc1,hbf1⟩:=hbx1.rules;have hbl1:=hbx1.lt))
 have hB1:Below w.heap.size w w1:=zae (by go_grown) hb1 (Nat.le_refl _)
 have hz1:=hB1.size
 have hg1:w.heap.size<=g:=by simp only[World.size_alloc] at hg;omega
 have hs1':=hs1.low (show w.heap.size<=_ by simp only[World.size_alloc];omega)
 have hro2:=z6o (zbf hro1 (show w.heap.size<=w.heap.size+1 by omega)) 0 (by simp;omega) (.bool c.head.neg) (.string c.head.pred) (.slice (some ⟨g,0,none⟩) c.head.args.length c.head.args.length)
 have hs2:=hs1'.sets hro1 0 1 2 (.bool c.head.neg) (.string c.head.pred) (.slice (some ⟨g,0,none⟩) c.head.args.length c.head.args.length)
 have hB2:Below w.heap.size w (((w1.setCell ⟨w.heap.size+1,0,none⟩ (.bool c.head.neg)).setCell ⟨w.heap.size+1,1,none⟩ (.string c.head.pred)).setCell ⟨w.heap.size+1,2,none⟩ (.slice (some ⟨g,0,none⟩) c.head.args.length c.head.args.length)):=(((hB1.setCell (by simp) _).setCell (by simp) _).setCell (by simp) _)
 simp only[Nat.zero_mul,Nat.zero_add] at hro2
 generalize ((w1.setCell ⟨w.heap.size+1,0,none⟩ (.bool c.head.neg)).setCell ⟨w.heap.size+1,1,none⟩ (.string c.head.pred)).setCell ⟨w.heap.size+1,2,none⟩ (.slice (some ⟨g,0,none⟩) c.head.args.length c.head.args.length)=w2 at *
 clear hq0 hq1 hq2 hfz1 hbc1 hbf1 hmk hro1 hbx1 hs1 hs1' hb1 hg
 have HF:Hid (∀ l∈za2 c,z7u l):=hf1
 clear hf1
 go_loopw [19] (fun i wr=>∃(k:Nat) (gs:List Nat),k<=c.body.length/\i=.int .i64 k/\Below w.heap.size w wr/\wr.ownsRow w.heap.size 45 3 (.slice (some ⟨w.heap.size+1,0,none⟩) (1+c.body.length) (1+c.body.length)) (1+c.body.length) (flat3 (List.zipWith z9w (c.head::c.body.take k) gs++List.replicate (c.body.length - k) zero3))/\Copies w.heap.size wr (c.head::c.body.take k) gs) (fun i _=>c.body.length - (intOf i).toNat)
 case atStart =>
  refine⟨0,[g],Nat.zero_le _,rfl,hB2,?_,?_⟩
  ·have e:(List.replicate (1+c.body.length) (Value.bool false,Value.string ByteArray.empty,Value.slice none 0 0)).set 0 (.bool c.head.neg,.string c.head.pred,.slice (some ⟨g,0,none⟩) c.head.args.length c.head.args.length)=List.zipWith z9w (c.head::c.body.take 0) [g]++List.replicate (c.body.length - 0) zero3:=by
    rw[Nat.add_comm 1,List.replicate_succ];rfl
   rw[← e];exact hro2
  ·exact(Copies.nil _).snoc (ls:=[]) (gs:=[]) (by simp) hg1 hs2
 case round =>
  clear hro2 hs2
  obtain⟨k,gs,hk,rfl,hbk,hrow,hcop⟩:=hrel
  have hszk:=hbk.size
  by_cases hlt:k < c.body.length
  ·obtain⟨gl,aol,capl,rfl,hgl,hl0,hl1,hl2,hsl⟩:=hb.cell k hlt
   have he0:=(hbk.cell (p:=⟨gl,k * 3,none⟩) hgl).trans hl0
   have he1:=(hbk.cell (p:=⟨gl,k * 3+1,none⟩) hgl).trans hl1
   have he2:=(hbk.cell (p:=⟨gl,k * 3+2,none⟩) hgl).trans hl2
   have hgr:gl < wr.heap.size:=by omega
   have hfl:=HF.out c.body[k] (by simp[za2])
   have hslr:=hsl.below hbk
   have HT:Hid (c.head::c.body.take (k+1)=(c.head::c.body.take k)++[c.body[k]]):=by rw[Hid,List.take_succ_eq_append_getElem hlt];rfl
   have hlen:(c.head::c.body.take k).length=1+k:=by rw[List.length_cons,List.length_take];omega
   clear hl0 hl1 hl2 hsl
   generalize c.body[k]=a at *
   have HL:Hid (∀ W,Below wr.heap.size wr W->Calls Tryz.prog 66 #[.agg #[.bool a.neg,.string a.pred,.slice aol a.args.length capl]] W fun e w'=>∃ g,W.heap.size<=g/\e=.returned (.agg #[.bool a.neg,.string a.pred,.slice (some ⟨g,0,none⟩) a.args.length a.args.length])/\SIn W.heap.size w' (.slice (some ⟨g,0,none⟩) a.args.length a.args.length) a.args/\Below W.heap.size W w'):=fun W hW=>z8i W a _ (hslr.below hW) hfl.2.2.1
   clear hslr hfl
   have HG:Hid (gs.length=(c.head::c.body.take k).length):=hcop.1
   obtain⟨m,hm⟩:∃ m,c.body.length - k=m+1:=⟨c.body.length - k - 1,by omega⟩
   have hm2:c.body.length - (k+1)=m:=by omega
   rw[hm] at hrow
   have HM2:Hid (c.body.length - (k+1)=m):=hm2
   clear hm hm2
   generalize c.head::c.body.take k=pre at *
   have hyl:1+k < (List.zipWith z9w pre gs++List.replicate (m+1) zero3).length:=by rw[List.length_append,List.length_zipWith,HG.out,List.length_replicate];omega
   generalize hys:List.zipWith z9w pre gs++List.replicate (m+1) zero3=ys at *
   have HYS:Hid (List.zipWith z9w pre gs++List.replicate (m+1) zero3=ys):=hys
   clear hys
   go_wp2_with (first|(go_at_call 66;refine(HL.out _ (by exact(by go_grown))).mono ?_;rintro e w3 ⟨g3,hg3,rfl,hs3,hb3⟩;have hb3':=zae ((Below.refl wr.heap.size wr).alloc (Nat.le_refl _) (.cells #[.bool a.neg,.string a.pred,.slice aol a.args.length capl] 45)) hb3 (Nat.le_refl _);have hrow3:=zaa hrow hb3';have hcop3:=hcop.mono (fun _ _ q=>q.below hb3');obtain⟨hl3,hq0,hq1,hq2⟩:=zop hrow3 (1+k) hyl;have hfz3:=zbu hrow3))
   have hset:=z6o hrow3 (1+k) hyl (.bool a.neg) (.string a.pred) (.slice (some ⟨g3,0,none⟩) a.args.length a.args.length)
   have hys2:ys.set (1+k) (.bool a.neg,.string a.pred,.slice (some ⟨g3,0,none⟩) a.args.length a.args.length)=List.zipWith z9w (pre++[a]) (gs++[g3])++List.replicate m zero3:=by rw[← HYS.out,← hlen];exact z92 HG.out a g3 m zero3
   rw[hys2] at hset
   have hg3':wr.heap.size<=g3:=by simp only[World.size_alloc] at hg3;omega
   have hcop4:=(hcop3.snoc (l:=a) (g:=g3) (fun x hx=>by have:=hcop.lt x hx;omega) (by omega) (hs3.low (by simp only[World.size_alloc];omega))).mono (fun _ _ q=>q.sets hrow3 ((1+k) * 3) ((1+k) * 3+1) ((1+k) * 3+2) (.bool a.neg) (.string a.pred) (.slice (some ⟨g3,0,none⟩) a.args.length a.args.length))
   have hB3:=zae hbk hb3' (Nat.le_refl _)
   go_roundw
   case rel=>exact⟨k+1,gs++[g3],by omega,by go_num,(((hB3.setCell (by simp) _).setCell (by simp) _).setCell (by simp) _),by rw[HT.out,HM2.out];exact hset,by rw[HT.out];exact hcop4⟩
   case measure=>simp[intOf];omega
  ·have e1:c.body.length - k=0:=by omega
   have e2:c.body.take k=c.body:=List.take_of_length_le (by omega)
   rw[e1,e2,List.replicate_zero,List.append_nil] at hrow
   rw[e2] at hcop
   go_wp2
   go_ret
   exact⟨w.heap.size+1,gs,by omega,rfl,hrow,hcop,hbk⟩
theorem yd2(w:World)(pb:Nat)(cs:List zab)(t:List zar)(i:Int)(h:zks lo w pb cs t)(hl:cs.length<=1000)(hi:i < 0∨(cs.length:Int)<=i) :
  Calls Tryz.prog 23 #[.pointer (some ⟨pb,0,none⟩),.int .i64 i] w fun e w'=>e=.returned (.tuple #[.slice none 0 0,.int .i64 11])/\Below w.heap.size w w':=by
 obtain⟨_,v,pv,h1,h2,_⟩:=h
 obtain⟨ao,cap,rfl⟩:=h2.shape
 obtain⟨hc,hf⟩:=h1.rules
 have hlt:=h1.lt
 rcases hi with hi|hi
 ·go_enter Tryz.func23,Tryz.ntmps23
  go_wp2
  go_ret2
  exact⟨rfl,(by go_grown)⟩
 ·have hi0:¬ i < 0:=by omega
  go_enter Tryz.func23,Tryz.ntmps23
  go_wp2
  go_ret2
  exact⟨rfl,(by go_grown)⟩
theorem ybp(w:World)(pb:Nat)(cs:List zab)(t:List zar)(k:Nat)(h:zks lo w pb cs t)(_hl:cs.length<=1000)(hk:k < cs.length)(hf:yad cs[k]) :
  Calls Tryz.prog 23 #[.pointer (some ⟨pb,0,none⟩),.int .i64 k] w fun e w'=>∃ g gs,w.heap.size<=g/\e=.returned (.tuple #[.slice (some ⟨g,0,none⟩) (1+cs[k].body.length) (1+cs[k].body.length),.int .i64 0])/\w'.ownsRow w.heap.size 45 3 (.slice (some ⟨g,0,none⟩) (1+cs[k].body.length) (1+cs[k].body.length)) (1+cs[k].body.length) (flat3 (List.zipWith z9w (za2 cs[k]) gs))/\Copies w.heap.size w' (za2 cs[k]) gs/\Below w.heap.size w w':=by
 obtain⟨_,v,pv,h1,h2,_⟩:=h
 obtain⟨ao,cap,rfl⟩:=h2.shape
 obtain⟨hc,hfz⟩:=h1.rules
 have hlt:=h1.lt
 obtain⟨g,ao2,cap2,ao3,cap3,rfl,hg,hd0,hd1,hd2,hd3,hsk,hlk⟩:=h2.cell k hk
 generalize cs[k]=c at *
 have HP:Hid (∀ W,Below w.heap.size w W->Calls Tryz.prog 44 #[.agg #[.bool c.head.neg,.string c.head.pred,.slice ao2 c.head.args.length cap2,.slice ao3 c.body.length cap3]] W fun e w'=>yc5 c W e w'):=fun W hW=>yd9 W c _ _ (hsk.below hW) (hlk.below hW) hf
 go_enter Tryz.func23,Tryz.ntmps23
 go_wp2_with (first|(go_at_call 44;refine(HP.out _ (by exact(by go_grown))).mono ?_;rintro e w1 ⟨g1,gs,hg1,rfl,hr1,hc1,hb1⟩))
 go_ret2
 exact⟨g1,gs,hg1,rfl,hr1,hc1,hb1⟩
end Go.Proofs.YteampbddflhngabGreat
namespace Go.Proofs.YteampbddflhngabGreat
set_option maxRecDepth 100000
set_option maxHeartbeats 2000000
open Go.RowKit
def ybf(c:Int)(n:Nat):Nat:=if c < 0 then(-(c+1)).toNat % n else c.toNat % n
theorem yec(c:Int){n:Nat}(hn:0 < n):ybf c n < n:=by unfold ybf;split <;> exact Nat.mod_lt _ hn
theorem ydp(w:World)(c:Int)(n:Nat)(hn:0 < n)(hn2:n<=281474976710656)(hc:-9223372036854775808<=c/\c<=9223372036854775807) :
  Calls Tryz.prog 14 #[.int .i64 c,.int .i64 n] w fun e w'=>e=.returned (.int .i64 (ybf c n:Nat))/\w'=w:=by
 obtain⟨hc1,hc2⟩:=hc
 by_cases h0:c < 0
 ·have e:-(c+1).tmod (n:Int)=((ybf c n:Nat):Int):=by
   unfold ybf
   rw[if_pos h0,← Int.neg_tmod,Int.tmod_eq_emod_of_nonneg (by omega),Int.natCast_emod,Int.toNat_of_nonneg (by omega)]
  have HE:Hid (-(c+1).tmod (n:Int)=((ybf c n:Nat):Int)):=e
  clear e
  generalize ybf c n=pk at *
  go_enter Tryz.func14,Tryz.ntmps14
  go_wp2
  exact bodyPost_ret (v:=.int .i64 (-(c+1).tmod (n:Int))) (by simp[results,Tryz.results14,go_sem]) rfl ⟨by rw[HE.out],rfl⟩
 ·have e:c % (n:Int)=((ybf c n:Nat):Int):=by unfold ybf;rw[if_neg h0,Int.natCast_emod,Int.toNat_of_nonneg (by omega)]
  have HE:Hid (c % (n:Int)=((ybf c n:Nat):Int)):=e
  clear e
  generalize ybf c n=pk at *
  go_enter Tryz.func14,Tryz.ntmps14
  go_wp2
  exact bodyPost_ret (v:=.int .i64 (c % (n:Int))) (by simp[results,Tryz.results14,go_sem]) rfl ⟨by rw[HE.out],rfl⟩
end Go.Proofs.YteampbddflhngabGreat
