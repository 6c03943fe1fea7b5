import Derived.Test.YteampbddflhngabGreatO35

namespace Go.Proofs.YteampbddflhngabGreat
def zvs(r:zah)(Ts Ns:List zad)(W:Nat)(E:zaq->Prop)(J:zaw)(M:Nat):Prop :=
 J.depth=-1/\zit r Ts Ns J/\(∀ y,zsq r Ts Ns y->E (zcs r.head y))∨(∀(i:Nat) (T:zad),Ts[i]?=some T->T.count≠0)/\∃(d f:Nat),J.depth=(d:Nat)/\d<=r.vars/\JAt r Ts Ns W J d/\(d < r.vars->J.from.getD d 0=f)/\Left r Ts Ns E d J.values f/\zgz W r.vars d J.values f<=M
theorem zg0{d:Nat}(h0:d≠0)(h3:d<=3):zby d=d:=by unfold zby;by_cases h1:d < 1 <;> by_cases h2:d > 3 <;> simp[h1,h2] <;> omega
theorem yah.count{T:zad}{l:zak}{y:List Nat}(h:yah T l y)(hT:zed T)(hd:T.depth=zby (zbd l))(h3:l.terms.length<=3):T.count≠0:=by
 by_cases h0:zbd l=0
 ·exact h.1 h0
 ·have hs:=h.2 h0
  have h5:=zk0 l 5
  rw[← zef] at h5
  have hm:zb7 l y 5∈keysT T:=(zbq T _).2 ⟨by rw[zg5,← zef,hd,zg0 h0 (by omega)],hs⟩
  have:=List.length_pos_of_mem hm
  rw[hT.cnt] at this
  omega
def zgd(r:zah)(plain nots:List zad):zaw:={ head:=r.head,vars:=r.vars,sides:=plain.map (fun T=>⟨T,[0,0,0]⟩),bars:=(r.nots.zip nots).map (fun x=>⟨x.1,zds x.1,x.2⟩),holds:=(List.range 5).map (zb3 r),backs:=(List.range 5).map (fun p=>zec r (p:Nat)),last:=zec r r.vars,values:=[0,0,0,0,0],«from»:=[0,0,0,0,0],depth:=if plain.any (fun T=>T.count == 0) then -1 else 0,moves:=0 }
theorem zwk(r:zah)(Ts Ns:List zad):za3 r Ts Ns=if zb4 (zgd r Ts Ns) 0 then{ zgd r Ts Ns with depth:=-1 } else zgd r Ts Ns:=rfl
theorem zqs(r:zah)(Ts Ns:List zad):∃ dd,za3 r Ts Ns={ zgd r Ts Ns with depth:=dd }/\dd=if zb4 (za3 r Ts Ns) 0=true then -1 else if Ts.any (fun T=>T.count == 0)=true then -1 else 0:=by
 have hbe:∀ dd:Int,zb4 { zgd r Ts Ns with depth:=dd } 0=zb4 (zgd r Ts Ns) 0:=fun _=>rfl
 rw[zwk]
 by_cases hb:zb4 (zgd r Ts Ns) 0=true
 ·rw[if_pos hb]
  exact⟨-1,rfl,by rw[hbe,if_pos hb]⟩
 ·rw[if_neg hb]
  exact⟨_,rfl,by rw[if_neg hb]⟩
theorem zt0(r:zah)(Ts Ns:List zad):zit r Ts Ns (za3 r Ts Ns)/\(za3 r Ts Ns).values=[0,0,0,0,0]/\(za3 r Ts Ns).from=[0,0,0,0,0]/\(za3 r Ts Ns).sides=Ts.map (fun T=>⟨T,[0,0,0]⟩):=by
 obtain⟨dd,h,_⟩:=zqs r Ts Ns
 rw[h]
 exact⟨⟨rfl,rfl,rfl,rfl,rfl,rfl,by simp[zgd,Function.comp_def],rfl,rfl⟩,rfl,rfl,rfl⟩
theorem ztz{r:zah}{Ts Ns:List zad}{W:Nat}(hr:zf6 r)(hf:zd2 r Ts W)(E:zaq->Prop):zvs r Ts Ns W E (za3 r Ts Ns) (zgz W r.vars 0 [] 0):=by
 obtain⟨hst,hv,hfr,hsd⟩:=zt0 r Ts Ns
 have hnosol:(∃(i:Nat) (T:zad),Ts[i]?=some T/\T.count=0)->∀ y,¬ zsq r Ts Ns y:=by
  rintro⟨i,T,h1,h2⟩ y hy
  have hi:i < r.plain.length:=by rw[← hf.len];exact(List.getElem?_eq_some_iff.1 h1).1
  have hl:=List.getElem?_eq_getElem hi
  obtain⟨q1,q2,_⟩:=hf.ok i _ T hl h1
  exact(hy.1 i _ T hl h1).count q1 q2 (hr.terms _ (List.mem_of_getElem? hl)) h2
 have hnobar:zb4 (za3 r Ts Ns) 0=true->∀ y,¬ zsq r Ts Ns y:=by
  intro hb y hy
  obtain⟨x,hx,hk,hm⟩:=(zr3 hst 0).1 hb
  have:=hy.2 x hx
  rw[zf2 x.1 (y:=(za3 r Ts Ns).values) fun p hp=>by have:=zlm x.1 hp;omega] at this
  rw[this] at hm
  cases hm
 have hdep:(za3 r Ts Ns).depth=if zb4 (za3 r Ts Ns) 0=true then -1 else if Ts.any (fun T=>T.count == 0)=true then -1 else 0:=by
  obtain⟨dd,h1,h2⟩:=zqs r Ts Ns
  rw[← h2,h1]
 by_cases hb:zb4 (za3 r Ts Ns) 0=true
 ·left
  rw[if_pos hb] at hdep
  exact⟨hdep,hst,fun y hy=>absurd hy (hnobar hb y)⟩
 ·rw[if_neg hb] at hdep
  by_cases hz:Ts.any (fun T=>T.count == 0)=true
  ·left
   rw[if_pos hz] at hdep
   refine⟨hdep,hst,fun y hy=>absurd hy (hnosol ?_ y)⟩
   obtain⟨T,h1,h2⟩:=List.any_eq_true.1 hz
   obtain⟨i,hi,rfl⟩:=List.getElem_of_mem h1
   exact⟨i,_,List.getElem?_eq_getElem hi,by simpa using h2⟩
  ·right
   rw[if_neg hz] at hdep
   refine⟨fun i T hT hc=>hz (List.any_eq_true.2 ⟨T,List.mem_of_getElem? hT,by simp[hc]⟩),0,0,hdep,Nat.zero_le _,⟨hst,fun i l s hl hs=>?_,fun x hx hk=>?_,fun i hi=>by omega,fun i hi=>by omega⟩,fun _=>by rw[hfr];rfl,fun y _=>Or.inr (Or.inl ⟨fun p hp=>by omega,Nat.zero_le _⟩),?_⟩
   ·rw[hsd] at hs
    simp only[List.getElem?_map,Option.map_eq_some_iff] at hs
    obtain⟨T,hT,rfl⟩:=hs
    have hp:zb7 l (za3 r Ts Ns).values 0=[]:=rfl
    refine⟨rfl,fun k hk h3=>?_,by rw[hp];rfl⟩
    have:k=0:=by simp[zcg] at hk;exact hk
    subst this
    rw[hp];rfl
   ·cases hm:zdz x.2 (zcs x.1 (za3 r Ts Ns).values) with
    |none=>rfl
    |some m=>exact absurd ((zr3 hst 0).2 ⟨x,hx,by omega,by rw[hm];rfl⟩) hb
   ·unfold zgz;exact Nat.le_refl _
theorem z4g{r:zah}{Ts Ns:List zad}{W:Nat}(hr:zf6 r)(hf:zd2 r Ts W)(E:zaq->Prop)(A:Nat)(hA:W * (r.plain.length+1)+r.plain.length<=A)(n:Nat)(J:zaw)(M:Nat)(h:zvs r Ts Ns W E J M)(hn:M+A+1 < n) :
  ∃ J' b,zuo n J=some (J',b)/\(b=false->∀ y,zsq r Ts Ns y->E (zcs r.head y))/\(b=true->zsq r Ts Ns J'.values/\J'.head=r.head/\∃ M',M' < M/\zvs r Ts Ns W (fun x=>E x∨x=zcs r.head J'.values) J' M'):=by
 unfold zuo
 rcases h with ⟨h1,h2,h3⟩|⟨hcnt,d,f,h1,h2,h3,h4,h5,h6⟩
 ·rw[h1]
  obtain⟨k,rfl⟩:∃ k,n=k+1:=⟨n - 1,by omega⟩
  refine⟨{ J with depth:=-1 },false,?_,fun _=>h3,fun q=>by cases q⟩
  unfold zfb
  rw[if_neg (by omega)]
  have:¬ ((-1:Int) ≥ (J.vars:Int)):=by omega
  simp[this]
 ·rw[h1]
  obtain⟨J',b,s1,s2⟩:=zxa hr hf E A hA n J d f h3 h2 h4 h5 (by omega)
  rw[s1]
  simp only
  cases b with
  |false=>exact⟨_,false,rfl,fun _=>s2.1,fun q=>by cases q⟩
  |true =>
   obtain⟨t1,t2,t3⟩:=s2
   have hv5:=hr.vars
   have hsol:zsq r Ts Ns J'.values:=by
    refine⟨fun i l T hl hT=>⟨fun _=>hcnt i T hT,fun _=>?_⟩,fun x hx=>?_⟩
    ·obtain⟨s,hs⟩:=t1.stat.some hf hl
     have hrow:=t1.stat.side hs
     rw[hT] at hrow
     simp only[Option.some.injEq] at hrow
     rw[z0u hv5 (hr.plain l (List.mem_of_getElem? hl)),hrow]
     exact(t1.nodes i l s hl hs).2.2
    ·exact t1.nob x hx (zt3 x.1 (hr.nots x.1 (List.of_mem_zip hx).1))
   refine⟨_,true,rfl,fun q=>(by cases q),fun _=>⟨hsol,t1.stat.head,?_⟩⟩
   simp only[if_true]
   obtain⟨b1,b2,b3,_,_⟩:=zmf r (known:=((r.vars:Nat):Int)) (by omega)
   have hlast:=t1.stat.last
   have key:∀ y,(∀ p:Nat,(p:Int)<=zec r (r.vars:Nat)->y.getD p 0=J'.values.getD p 0)->zcs r.head y=zcs r.head J'.values:=fun y ha=>zf2 r.head fun p hp=>ha p (by
    have h1:=hr.head p hp
    have:=zr7 r.head (known:=((r.vars:Nat):Int)) hp (by omega)
    omega)
   have hstat2:zit r Ts Ns { J' with depth:=J'.last }:=⟨t1.stat.head,t1.stat.vars,t1.stat.holds,t1.stat.backs,t1.stat.last,t1.stat.bars,t1.stat.sides,t1.stat.vlen,t1.stat.flen⟩
   have hpos:=zth W r.vars d J.values f
   by_cases hneg:zec r (r.vars:Nat) < 0
   ·refine⟨M - 1,by omega,Or.inl ⟨by show J'.last=-1;rw[hlast];omega,hstat2,fun y hy=>?_⟩⟩
    exact Or.inr (key y fun p hp=>by omega)
   ·obtain⟨bb,hb⟩:∃ b:Nat,zec r (r.vars:Nat)=(b:Int):=⟨(zec r (r.vars:Nat)).toNat,by omega⟩
    rw[hb] at b1 key
    have hbd:bb < r.vars:=by omega
    have hM:=zqe (W:=W) (vars:=r.vars) (f:=0) (vals:=J'.values) (Nat.le_refl _) hbd
    have hback:=t1.back (b:=bb) (by omega)
    refine⟨zgz W r.vars bb J'.values (J'.values.getD bb 0+1),by omega,Or.inr ⟨hcnt,bb,J'.values.getD bb 0+1,by show J'.last=_;rw[hlast,hb],by omega,⟨hstat2,hback.nodes,hback.nob,hback.from,hback.small⟩,fun _=>t1.from bb hbd,fun y hy=>?_,Nat.le_refl _⟩⟩
    rcases t2 y hy with q|⟨q1,_⟩|⟨i,q1,q2,q3⟩
    ·exact Or.inl (Or.inl q)
    ·exact Or.inl (Or.inr (key y fun p hp=>q1 p (by omega)))
    ·by_cases hib:i<=bb
     ·refine Or.inr ?_
      by_cases hib2:i=bb
      ·subst hib2
       exact Or.inl ⟨q2,by omega⟩
      ·exact Or.inr ⟨i,by omega,q2,q3⟩
     ·exact Or.inl (Or.inr (key y fun p hp=>q2 p (by omega)))
structure zhm (l:zak) (a W:Nat):Prop where
 len:l.terms.length=a
 le3:a<=3
 lev:∀ t∈l.terms,t.var=true->t.num < 5/\zbr l t.num=some t.level
 con:∀ t∈l.terms,t.var=false->t.num < W
def Canon(a:Nat)(row:zaq):Prop:=row.length=3/\∀ i,a<=i->row.getD i 0=0
theorem zlz(l:zak)(y:List Nat){i:Nat}(hi:i < 3):(zcs l y).getD i 0=rowCell l y i:=by
 match i,hi with
 |0,_=>rfl
 |1,_=>rfl
 |2,_=>rfl
theorem zjy{l:zak}{a W:Nat}(h:zhm l a W)(y:List Nat):Canon a (zcs l y):=by
 refine⟨rfl,fun i hi=>?_⟩
 by_cases h3:i < 3
 ·rw[zlz l y h3]
  unfold rowCell
  rw[if_neg (by rw[h.len];omega)]
 ·simp[List.getD,zcs]
  rw[List.getElem?_eq_none (by simp;omega)];rfl
theorem ztc{a:Nat}{x y:zaq}(hx:Canon a x)(hy:Canon a y)(h:∀ i,i < a->i < 3->x.getD i 0=y.getD i 0):x=y:=by
 refine List.ext_getElem (by rw[hx.1,hy.1]) fun i h1 h2=>?_
 have e:x.getD i 0=y.getD i 0:=by
  by_cases hi:i < a
  ·exact h i hi (by rw[hx.1] at h1;exact h1)
  ·rw[hx.2 i (by omega),hy.2 i (by omega)]
 simpa [List.getD,h1,h2] using e
theorem z8m{l:zak}{p d:Nat}(hp:zdh l p=true)(hd:p < d):(zcg l d)[(zcg l p).length]?=some p:=by
 obtain⟨t,ht⟩:=zsm l (show p+1<=d by omega)
 rw[← ht,zet,if_pos hp]
 simp
theorem znq{l:zak}{p j:Nat}(h:zbr l p=some j)(hp:p < 5):(zcg l 5)[j]?=some p:=by
 rw[zov] at h
 split at h
 ·rename_i hh
  simp only[Option.some.injEq] at h
  subst h
  exact z8m hh hp
 ·cases h
theorem zr8{l:zak}{p j:Nat}(h:zbr l p=some j)(hp:p < 5):j < zbd l:=by
 have:=znq h hp
 rw[zef]
 exact(List.getElem?_eq_some_iff.1 this).1
theorem zmh{l:zak}{a W:Nat}(h:zhm l a W):zbd l<=3:=by
 have:=zk0 l 5
 rw[zef]
 have:=h.len
 have:=h.le3
 omega
theorem zhm.leveled{l:zak}{a W:Nat}(h:zhm l a W){t:zbo}(ht:t∈l.terms):leveled t=t.var:=by
 unfold Go.Proofs.YteampbddflhngabGreat.leveled
 cases hv:t.var with
 |false=>rfl
 |true =>
  obtain⟨h1,h2⟩:=h.lev t ht hv
  have:=zr8 h2 h1
  have:=zmh h
  simp;omega
theorem zeq(l:zak)(row f:zaq)(i:Nat):(zbz l row f i).length=f.length:=by unfold zbz;split <;> simp
theorem zhy(l:zak)(row:zaq):(zdb l row).length=3:=by unfold zdb;rw[zeq,zeq,zeq];rfl
theorem zmk{l:zak}{row:zaq}{g:Nat->Nat}(hg:∀ i (hi:i < l.terms.length),leveled l.terms[i]=true->row.getD i 0=g l.terms[i].level){f:zaq}{m:Nat}(hl:f.length=3)
  (hf:∀ j,j < 3->(f.getD j 0=g j∨f.getD j 0=0)/\((∃ i,∃ hi:i < l.terms.length,i < m/\leveled l.terms[i]=true/\l.terms[i].level=j)->f.getD j 0=g j)/\((¬ ∃ i,∃ hi:i < l.terms.length,leveled l.terms[i]=true/\l.terms[i].level=j)->f.getD j 0=0)) :
  ∀ j,j < 3->((zbz l row f m).getD j 0=g j∨(zbz l row f m).getD j 0=0)/\((∃ i,∃ hi:i < l.terms.length,i < m+1/\leveled l.terms[i]=true/\l.terms[i].level=j)->(zbz l row f m).getD j 0=g j)/\((¬ ∃ i,∃ hi:i < l.terms.length,leveled l.terms[i]=true/\l.terms[i].level=j)->(zbz l row f m).getD j 0=0):=by
 intro j hj
 obtain⟨f0,f1,f2⟩:=hf j hj
 unfold zbz
 by_cases hm:m < l.terms.length/\leveled (l.terms.getD m ⟨false,0,0⟩)=true
 ·rw[if_pos hm]
  have e:l.terms.getD m ⟨false,0,0⟩=l.terms[m]'hm.1:=by simp[List.getD,hm.1]
  rw[e] at hm ⊢
  rw[zam]
  by_cases hjm:l.terms[m].level=j/\l.terms[m].level < f.length
  ·rw[if_pos hjm]
   have:=hg m hm.1 hm.2
   rw[hjm.1] at this
   exact⟨Or.inl this,fun _=>this,fun q=>absurd ⟨m,hm.1,hm.2,hjm.1⟩ q⟩
  ·rw[if_neg hjm]
   refine⟨f0,?_,f2⟩
   rintro⟨i,hi,q1,q2,q3⟩
   by_cases him:i=m
   ·subst him
    exact absurd ⟨q3,by rw[q3,hl];exact hj⟩ hjm
   ·exact f1 ⟨i,hi,by omega,q2,q3⟩
 ·rw[if_neg hm]
  refine⟨f0,?_,f2⟩
  rintro⟨i,hi,q1,q2,q3⟩
  by_cases him:i=m
  ·subst him
   exact absurd ⟨hi,by simpa [List.getD,hi] using q2⟩ hm
  ·exact f1 ⟨i,hi,by omega,q2,q3⟩
theorem z3a{l:zak}{a W:Nat}(h:zhm l a W){row:zaq}{g:Nat->Nat}(hg:∀ i (hi:i < l.terms.length),leveled l.terms[i]=true->row.getD i 0=g l.terms[i].level)(j:Nat)(hj:j < 3):((∃ i,∃ hi:i < l.terms.length,leveled l.terms[i]=true/\l.terms[i].level=j)->(zdb l row).getD j 0=g j)/\((¬ ∃ i,∃ hi:i < l.terms.length,leveled l.terms[i]=true/\l.terms[i].level=j)->(zdb l row).getD j 0=0):=by
 have h0:∀ j,j < 3->((([0,0,0]:zaq).getD j 0=g j∨([0,0,0]:zaq).getD j 0=0)/\((∃ i,∃ hi:i < l.terms.length,i < 0/\leveled l.terms[i]=true/\l.terms[i].level=j)->([0,0,0]:zaq).getD j 0=g j)/\((¬ ∃ i,∃ hi:i < l.terms.length,leveled l.terms[i]=true/\l.terms[i].level=j)->([0,0,0]:zaq).getD j 0=0)):=by
  intro j hj
  have hz:([0,0,0]:zaq).getD j 0=0:=by
   match j,hj with
   |0,_=>rfl
   |1,_=>rfl
   |2,_=>rfl
  exact⟨Or.inr hz,fun⟨i,_,q,_⟩=>by omega,fun _=>hz⟩
 have h1:=zmk hg rfl h0
 have h2:=zmk hg (by rw[zeq];rfl) h1
 have h3:=zmk hg (by rw[zeq,zeq];rfl) h2
 obtain⟨_,q2,q3⟩:=h3 j hj
 refine⟨fun⟨i,hi,r1,r2⟩=>q2 ⟨i,hi,?_,r1,r2⟩,q3⟩
 have:=h.len
 have:=h.le3
 omega
theorem zm5{l:zak}{a W:Nat}(h:zhm l a W){row f:zaq}:zb0 l row=some f↔f=zdb l row/\∀ i (hi:i < l.terms.length),zee l.terms[i] (row.getD i 0) (zdb l row)=true:=by
 have hall:(za0 l row (zdb l row) 0 && za0 l row (zdb l row) 1 && za0 l row (zdb l row) 2)=true↔∀ i (hi:i < l.terms.length),zee l.terms[i] (row.getD i 0) (zdb l row)=true:=by
  have key:∀ i,za0 l row (zdb l row) i=true↔∀ hi:i < l.terms.length,zee l.terms[i] (row.getD i 0) (zdb l row)=true:=by
   intro i
   unfold za0
   simp only[Bool.or_eq_true,decide_eq_true_eq]
   constructor
   ·rintro(q|q) hi
    ·omega
    ·simpa [List.getD,hi] using q
   ·intro q
    by_cases hi:i < l.terms.length
    ·exact Or.inr (by simpa [List.getD,hi] using q hi)
    ·exact Or.inl (by omega)
  simp only[Bool.and_eq_true,key]
  constructor
  ·rintro⟨⟨q0,q1⟩,q2⟩ i hi
   have:=h.len
   have:=h.le3
   have hi3:i=0∨i=1∨i=2:=by omega
   rcases hi3 with rfl|rfl|rfl
   ·exact q0 hi
   ·exact q1 hi
   ·exact q2 hi
  ·intro q
   exact⟨⟨fun hi=>q 0 hi,fun hi=>q 1 hi⟩,fun hi=>q 2 hi⟩
 unfold zb0
 by_cases hc:(za0 l row (zdb l row) 0 && za0 l row (zdb l row) 1 && za0 l row (zdb l row) 2)=true
 ·rw[if_pos hc]
  simp only[Option.some.injEq]
  exact⟨fun q=>⟨q.symm,hall.1 hc⟩,fun q=>q.1.symm⟩
 ·rw[if_neg hc]
  constructor
  ·intro q;cases q
  ·intro q;exact absurd (hall.2 q.2) hc
theorem z4i{l:List Nat}(h:l.Nodup){i j:Nat}(hi:i < l.length)(hj:j < l.length)(e:l[i]=l[j]):i=j:=by
 have hp:=List.pairwise_iff_getElem.1 h
 rcases Nat.lt_trichotomy i j with q|q|q
 ·exact absurd e (hp i j hi hj q)
 ·exact q
 ·exact absurd e.symm (hp j i hj hi q)
theorem z0j{l:zak}{a W:Nat}(h:zhm l a W)(y:List Nat):∃ f,zb0 l (zcs l y)=some f/\f.length=3/\f.take (zbd l)=zb7 l y 5/\∀ j,zbd l<=j->f.getD j 0=0:=by
 have hat:∀ i (hi:i < l.terms.length),(zcs l y).getD i 0=atT l.terms[i] y:=fun i hi=>by
  have:=h.len
  have:=h.le3
  rw[zlz l y (by omega)]
  unfold rowCell
  rw[if_pos hi]
  simp[List.getD,hi]
 have hg:∀ i (hi:i < l.terms.length),leveled l.terms[i]=true->(zcs l y).getD i 0=(zb7 l y 5).getD l.terms[i].level 0:=fun i hi hl=>by
  have hm:=List.getElem_mem hi
  rw[h.leveled hm] at hl
  obtain⟨h1,h2⟩:=h.lev _ hm hl
  rw[hat i hi]
  unfold atT
  rw[if_pos (by simp[hl,h1])]
  have:=znq h2 h1
  unfold zb7
  simp[List.getD,this]
 have hfa:=fun j hj=>z3a h (row:=zcs l y) (g:=fun j=>(zb7 l y 5).getD j 0) hg j hj
 have hlv:∀ i (hi:i < l.terms.length),leveled l.terms[i]=true->l.terms[i].level < zbd l:=fun i hi hl=>by
  have hm:=List.getElem_mem hi
  rw[h.leveled hm] at hl
  obtain⟨h1,h2⟩:=h.lev _ hm hl
  exact zr8 h2 h1
 have hd3:=zmh h
 have hzero:∀ j,zbd l<=j->(zdb l (zcs l y)).getD j 0=0:=fun j hj=>by
  by_cases h3:j < 3
  ·exact(hfa j h3).2 fun⟨i,hi,q1,q2⟩=>by have:=hlv i hi q1;omega
  ·have:=zhy l (zcs l y)
   simp[List.getD,List.getElem?_eq_none (show(zdb l (zcs l y)).length<=j by omega)]
 have hval:∀ j,j < zbd l->(zdb l (zcs l y)).getD j 0=(zb7 l y 5).getD j 0:=fun j hj=>by
  refine(hfa j (by omega)).1 ?_
  rw[zef] at hj
  have hp:=List.getElem_mem hj
  obtain⟨p1,p2⟩:=(zh9 l 5 _).1 hp
  obtain⟨t,t1,t2,t3⟩:=(zfi l _).1 p2
  obtain⟨i,hi,rfl⟩:=List.getElem_of_mem t1
  refine⟨i,hi,by rw[h.leveled t1];exact t2,?_⟩
  obtain⟨l1,l2⟩:=h.lev _ t1 t2
  have:=znq l2 l1
  rw[t3] at this
  obtain⟨hk,e⟩:=List.getElem?_eq_some_iff.1 this
  exact z4i (List.nodup_range.filter _:(zcg l 5).Nodup) hk hj e
 refine⟨zdb l (zcs l y),(zm5 h).2 ⟨rfl,fun i hi=>?_⟩,zhy _ _,?_,hzero⟩
 ·unfold zee
  have hm:=List.getElem_mem hi
  cases hl:leveled l.terms[i] with
  |true =>
   rw[if_pos rfl,hval _ (hlv i hi hl),hg i hi hl]
   simp
  |false =>
   rw[if_neg (by simp),hat i hi]
   rw[h.leveled hm] at hl
   unfold atT
   rw[if_neg (by simp[hl])]
   simp
 ·refine List.ext_getElem (by rw[List.length_take,zhy,zg5,← zef];omega) fun j h1 h2=>?_
  have hj:j < zbd l:=by rw[zg5,← zef] at h2;exact h2
  have:=hval j hj
  have hj3:j < (zdb l (zcs l y)).length:=by rw[zhy];omega
  simp only[List.getD,List.getElem?_eq_getElem hj3,List.getElem?_eq_getElem h2,Option.getD_some] at this
  rw[List.getElem_take]
  exact this
theorem zyh{l:zak}{a W:Nat}(h:zhm l a W){row f:zaq}(hr:Canon a row)(hm:zb0 l row=some f)(y:List Nat)(hy:f.take (zbd l)=zb7 l y 5):row=zcs l y:=by
 obtain⟨rfl,hal⟩:=(zm5 h).1 hm
 refine ztc hr (zjy h y) fun i hi h3=>?_
 have hil:i < l.terms.length:=by rw[h.len];exact hi
 have hmem:=List.getElem_mem hil
 have hq:=hal i hil
 rw[zlz l y h3]
 unfold rowCell
 rw[if_pos hil,show l.terms.getD i ⟨false,0,0⟩=l.terms[i] by simp[List.getD,hil]]
 unfold zee at hq
 unfold atT
 cases hl:leveled l.terms[i] with
 |true =>
  rw[hl,if_pos rfl] at hq
  rw[h.leveled hmem] at hl
  obtain⟨l1,l2⟩:=h.lev _ hmem hl
  rw[if_pos (by simp[hl,l1])]
  have hlt:=zr8 l2 l1
  have hat:=znq l2 l1
  have e:(zdb l row).getD l.terms[i].level 0=((zdb l row).take (zbd l)).getD l.terms[i].level 0:=by
   simp[List.getD,hlt]
  rw[e,hy] at hq
  unfold zb7 at hq
  simp only[List.getD,List.getElem?_map,hat,Option.map_some,Option.getD_some,beq_iff_eq] at hq
  exact hq.symm
 |false =>
  rw[hl,if_neg (by simp)] at hq
  rw[h.leveled hmem] at hl
  rw[if_neg (by simp[hl])]
  exact(by simpa using hq:l.terms[i].num=row.getD i 0).symm
def Small(W:Nat)(row:zaq):Prop:=∀ v∈row,v < W
theorem zz2{W:Nat}{row:zaq}(h:Small W row)(hW:0 < W)(i:Nat):row.getD i 0 < W:=by
 by_cases hi:i < row.length
 ·rw[show row.getD i 0=row[i] by simp[List.getD,hi]];exact h _ (List.getElem_mem hi)
 ·rw[show row.getD i 0=0 by simp[List.getD,hi]];exact hW
theorem zg2{W:Nat}{l:zak}{row f:zaq}(hW:0 < W)(hr:Small W row)(hf:Small W f)(i:Nat):Small W (zbz l row f i):=by
 unfold zbz
 split
 ·intro v hv
  rcases List.mem_or_eq_of_mem_set hv with q|q
  ·exact hf v q
  ·rw[q];exact zz2 hr hW i
 ·exact hf
theorem zwo{W:Nat}{l:zak}{row f:zaq}(hW:0 < W)(hr:Small W row)(hm:zb0 l row=some f):f.length=3/\Small W f:=by
 unfold zb0 at hm
 split at hm
 ·simp only[Option.some.injEq] at hm
  rw[← hm]
  refine⟨zhy l row,?_⟩
  unfold zdb
  have h0:Small W [0,0,0]:=by intro v hv;simp at hv;omega
  exact zg2 hW hr (zg2 hW hr (zg2 hW hr h0 0) 1) 2
 ·cases hm
theorem zx6(T:zad)(row:zaq):zom T row=true↔Small T.width row:=by simp[zom,Small]
theorem zmd:∀(rs:List zaq) (T:zad),zed T->(∀ r∈rs,r.length=3/\Small T.width r)->T.count+rs.length<=9000000->∃ T',zd4 rs T=some T'/\zed T'/\T'.width=T.width/\T'.depth=T.depth/\T'.count<=T.count+rs.length/\∀ k,k.length=T.depth->((zke T' k).isSome=true↔(zke T k).isSome=true∨∃ r∈rs,r.take T.depth=k)
 |[],T,h,_,_=>⟨T,rfl,h,rfl,rfl,by simp,fun k _=>by simp⟩
 |r::rs,T,h,hr,hc=>by
  simp only[List.length_cons] at hc
  obtain⟨h1,h2⟩:=hr r (by simp)
  obtain⟨a1,a2,a3,a4,a5,a6,a7⟩:=h.add r 0 h1 ((zx6 T r).2 h2)
  have hcnt:(zfq T r 0).1.count<=T.count+1:=by
   cases hb:(zfq T r 0).2 with
   |false=>rw[a5 hb];omega
   |true=>rw[a6 hb];exact Nat.le_refl _
  obtain⟨T',b1,b2,b3,b4,b5,b6⟩:=zmd rs (zfq T r 0).1 a1 (fun x hx=>by rw[a2];exact hr x (by simp[hx])) (by omega)
  unfold zd4
  rw[if_pos (h.okT (by omega))]
  refine⟨T',b1,b2,by rw[b3,a2],by rw[b4,a3],by simp only[List.length_cons];omega,fun k hk=>?_⟩
  rw[b6 k (by rw[a3];exact hk),a7 k hk,a3]
  by_cases e:k=r.take T.depth
  ·subst e
   simp
  ·rw[if_neg e]
   constructor
   ·rintro(q|⟨x,q1,q2⟩)
    ·exact Or.inl q
    ·exact Or.inr ⟨x,by simp[q1],q2⟩
   ·rintro(q|⟨x,q1,q2⟩)
    ·exact Or.inl q
    ·rcases List.mem_cons.1 q1 with rfl|q1
     ·exact absurd q2.symm e
     ·exact Or.inr ⟨x,q1,q2⟩
structure zd3 (T:zad) (l:zak) (W:Nat) (P:zaq->Prop):Prop where
 ok:zed T
 width:T.width=W
 depth:T.depth=zby (zbd l)
 sem:∀ k,k.length=T.depth->((zke T k).isSome=true↔∃ row f,P row/\zb0 l row=some f/\f.take T.depth=k)
theorem zd3.congr{T:zad}{l:zak}{W:Nat}{P Q:zaq->Prop}(h:zd3 T l W P)(e:∀ x,P x↔Q x):zd3 T l W Q :=
 ⟨h.ok,h.width,h.depth,fun k hk=>by rw[h.sem k hk];exact⟨fun⟨r,f,q⟩=>⟨r,f,(e r).1 q.1,q.2⟩,fun⟨r,f,q⟩=>⟨r,f,(e r).2 q.1,q.2⟩⟩⟩
theorem zd3.new(l:zak)(w W:Nat)(hW:W=za5 w):zd3 (zfz w (zbd l)) l W (fun _=>False):=by
 refine⟨zed.new _ _,by rw[zqz,hW],zgt _ _,fun k hk=>?_⟩
 constructor
 ·intro q
  rw[zns _ _ k (by rintro rfl;have:=(zeg (zbd l)).1;rw[zgt] at hk;simp at hk;omega)] at q
  cases q
 ·rintro⟨_,_,q,_⟩;exact q.elim
theorem zd3.adds{T:zad}{l:zak}{W:Nat}{P:zaq->Prop}(h:zd3 T l W P)(hW:0 < W)(rows:List zaq)(hs:∀ r∈rows,Small W r)(hc:T.count+rows.length<=9000000):∃ T',zd4 (rows.filterMap (zb0 l)) T=some T'/\zd3 T' l W (fun x=>P x∨x∈rows)/\T'.count<=T.count+rows.length:=by
 have hlen:(rows.filterMap (zb0 l)).length<=rows.length:=List.length_filterMap_le _ _
 obtain⟨T',a1,a2,a3,a4,a5,a6⟩:=zmd (rows.filterMap (zb0 l)) T h.ok (fun r hr=>by
  obtain⟨x,hx,hm⟩:=List.mem_filterMap.1 hr
  rw[h.width]
  exact zwo hW (hs x hx) hm) (by omega)
 refine⟨T',a1,⟨a2,by rw[a3,h.width],by rw[a4,h.depth],fun k hk=>?_⟩,by omega⟩
 rw[a4] at hk
 rw[a6 k hk,h.sem k hk,a4]
 constructor
 ·rintro(⟨r,f,q1,q2,q3⟩|⟨f,q1,q2⟩)
  ·exact⟨r,f,Or.inl q1,q2,q3⟩
  ·obtain⟨x,hx,hm⟩:=List.mem_filterMap.1 q1
   exact⟨x,f,Or.inr hx,hm,q2⟩
 ·rintro⟨r,f,q1|q1,q2,q3⟩
  ·exact Or.inl ⟨r,f,q1,q2,q3⟩
  ·exact Or.inr ⟨f,List.mem_filterMap.2 ⟨r,q1,q2⟩,q3⟩
theorem z4t{k:zaq}{d:Nat}(h:k.length=d)(h3:d<=3):(pad k d).length=3:=by simp[pad,h];omega
theorem zlu{k:zaq}{d:Nat}(h:k.length=d):(pad k d).take d=k:=by simp[pad,← h]
theorem zuw{W:Nat}{k:zaq}{d:Nat}(hW:0 < W)(h:Small W k):Small W (pad k d):=by
 intro v hv
 unfold pad at hv
 rcases List.mem_append.1 hv with q|q
 ·exact h v q
 ·have:=List.mem_of_mem_drop q
  simp at this
  omega
theorem zd3.join{T U:zad}{l:zak}{W:Nat}{P Q:zaq->Prop}(h:zd3 T l W P)(k:zd3 U l W Q)(hW:0 < W)(hc:T.count+U.count<=9000000):∃ T',zd4 ((keysT U).map fun x=>pad x U.depth) T=some T'/\zd3 T' l W (fun x=>P x∨Q x)/\T'.count<=T.count+U.count:=by
 have hd:U.depth=T.depth:=by rw[h.depth,k.depth]
 have hd3:T.depth<=3:=by rw[h.depth];exact(zeg _).2
 obtain⟨T',a1,a2,a3,a4,a5,a6⟩:=zmd ((keysT U).map fun x=>pad x U.depth) T h.ok (fun r hr=>by
  obtain⟨x,hx,rfl⟩:=List.mem_map.1 hr
  obtain⟨q1,q2⟩:=(zbq U x).1 hx
  refine⟨z4t q1 (by omega),?_⟩
  rw[h.width]
  refine zuw hW ?_
  intro v hv
  have:=zl2 x 0 q2 v hv
  rw[k.width] at this
  exact this) (by simp[k.ok.cnt];omega)
 refine⟨T',a1,⟨a2,by rw[a3,h.width],by rw[a4,h.depth],fun y hy=>?_⟩,by simpa [k.ok.cnt] using a5⟩
 rw[a4] at hy
 rw[a6 y hy,h.sem y hy,a4]
 constructor
 ·rintro(⟨r,f,q1,q2,q3⟩|⟨r,q1,q2⟩)
  ·exact⟨r,f,Or.inl q1,q2,q3⟩
  ·obtain⟨x,hx,rfl⟩:=List.mem_map.1 q1
   obtain⟨x1,x2⟩:=(zbq U x).1 hx
   rw[← hd,zlu x1] at q2
   subst q2
   obtain⟨r,f,s1,s2,s3⟩:=(k.sem x x1).1 x2
   exact⟨r,f,Or.inr s1,s2,by rw[← hd];exact s3⟩
 ·rintro⟨r,f,q1|q1,q2,q3⟩
  ·exact Or.inl ⟨r,f,q1,q2,q3⟩
  ·refine Or.inr ⟨pad y U.depth,List.mem_map.2 ⟨y,(zbq U y).2 ⟨by omega,(k.sem y (by omega)).2 ⟨r,f,q1,q2,by rw[hd];exact q3⟩⟩,rfl⟩,?_⟩
   rw[← hd,zlu (by omega)]
theorem zd3.sat{T:zad}{l:zak}{a W Wc:Nat}{P:zaq->Prop}(h:zd3 T l W P)(hl:zhm l a Wc)(hP:∀ x,P x->Canon a x)(y:List Nat):yah T l y↔P (zcs l y):=by
 obtain⟨f,m1,m2,m3,m4⟩:=z0j hl y
 have hd3:=zmh hl
 by_cases h0:zbd l=0
 ·have hd1:T.depth=1:=by rw[h.depth,h0];rfl
  have hp:zb7 l y 5=[]:=List.length_eq_zero_iff.1 (by rw[zg5,← zef];exact h0)
  constructor
  ·intro hs
   have hc:=hs.1 h0
   rw[← h.ok.cnt] at hc
   obtain⟨k,hk⟩:=List.exists_mem_of_length_pos (Nat.pos_of_ne_zero hc)
   obtain⟨k1,k2⟩:=(zbq T k).1 hk
   obtain⟨r,g,q1,q2,q3⟩:=(h.sem k k1).1 k2
   have:=zyh hl (hP r q1) q2 y (by rw[h0,hp];rfl)
   rw[← this];exact q1
  ·intro hP2
   refine⟨fun _ hc=>?_,fun q=>absurd h0 q⟩
   have:(zke T (f.take T.depth)).isSome=true:=(h.sem _ (by rw[List.length_take,m2,hd1];rfl)).2 ⟨_,f,hP2,m1,rfl⟩
   have hm:f.take T.depth∈keysT T:=(zbq T _).2 ⟨by rw[List.length_take,m2,hd1];rfl,this⟩
   have:=List.length_pos_of_mem hm
   rw[h.ok.cnt] at this
   omega
 ·have hd:T.depth=zbd l:=by rw[h.depth,zg0 h0 hd3]
  have hpl:(zb7 l y 5).length=T.depth:=by rw[zg5,← zef,hd]
  constructor
  ·intro hs
   obtain⟨r,g,q1,q2,q3⟩:=(h.sem _ hpl).1 (hs.2 h0)
   rw[hd] at q3
   have:=zyh hl (hP r q1) q2 y q3
   rw[← this];exact q1
  ·intro hP2
   exact⟨fun q=>absurd q h0,fun _=>(h.sem _ hpl).2 ⟨_,f,hP2,m1,by rw[hd];exact m3⟩⟩
structure zkk (V:zcr) (l:zak) (W:Nat) (P0 P1:zaq->Prop) (Pf:zaq->Prop) (c:Nat):Prop where
 lit:V.lit=l
 before:zd3 V.before l W P0
 fresh:zd3 V.fresh l W Pf
 all:zd3 V.all l W P1
 few:V.before.count+V.fresh.count<=c/\V.all.count<=c
theorem zpe{V:zcr}{l:zak}{w W:Nat}{P0 P1 Pf:zaq->Prop}{c:Nat}(h:zkk V l W P0 P1 Pf c)(hW:W=za5 w)(rows:List zaq)(hs:∀ r∈rows,Small W r)(hc:c+rows.length<=1048576)(fuel:Nat)(hf:3 * (W+1)<=fuel):∃ V',zis fuel w V rows=some V'/\zkk V' l W (fun x=>P0 x∨Pf x) (fun x=>P1 x∨x∈rows) (fun x=>x∈rows) (c+rows.length):=by
 have hW0:0 < W:=by rw[hW];unfold za5;split <;> omega
 have hr:=h.fresh.ok.rowsG fuel (by rw[h.fresh.width];exact hf) (by have:=h.few.1;omega)
 obtain⟨b,b1,b2,b3⟩:=h.before.join h.fresh hW0 (by have:=h.few.1;omega)
 obtain⟨f,f1,f2,f3⟩:=(zd3.new l w W hW).adds hW0 rows hs (by simp[zfz,zb9];omega)
 obtain⟨a,a1,a2,a3⟩:=h.all.adds hW0 rows hs (by have:=h.few.2;omega)
 refine⟨{ V with before:=b,fresh:=f,all:=a },?_,h.lit,b2,f2.congr (fun x=>by simp),a2,?_⟩
 ·unfold zis
  rw[hr,h.lit]
  simp only[b1,f1,a1]
 ·have h1:=h.few.1
  have h2:=h.few.2
  have h3:(zfz w (zbd l)).count=0:=rfl
  rw[h3] at f3
  simp only
  omega
end Go.Proofs.YteampbddflhngabGreat
namespace Go.Proofs.YteampbddflhngabGreat
open Classical
abbrev DB:=Nat->zaq->Option Nat
noncomputable def zct(ar:List Nat)(R:zbh):DB:=fun p row=>if p < ar.length/\Canon (ar.getD p 0) row then zdz (R.rows.getD p zad.zero) row else none
structure ze1 (ar:List Nat) (W:Nat) (R:zbh):Prop where
 len:R.rows.length=ar.length
 tries:∀ p (hp:p < R.rows.length),zed R.rows[p]/\R.rows[p].width=W/\R.rows[p].depth=zby (ar.getD p 0)/\∀ k∈keysT R.rows[p],Canon (ar.getD p 0) (pad k R.rows[p].depth)
 cnt:R.count=(R.rows.map (·.count)).sum
theorem z8e(l:List zad):∀(p:Nat) (T:zad) (hp:p < l.length),((l.set p T).map (·.count)).sum+l[p].count=(l.map (·.count)).sum+T.count:=by
 induction l with
 |nil=>intro p T hp;simp at hp
 |cons a l ih =>
  intro p T hp
  cases p with
  |zero=>simp;omega
  |succ p =>
   have:=ih p T (by simpa using hp)
   simp at this ⊢
   omega
theorem zyz(l:List zad):∀(p:Nat) (hp:p < l.length),l[p].count<=(l.map (·.count)).sum:=by
 induction l with
 |nil=>intro p hp;simp at hp
 |cons a l ih =>
  intro p hp
  cases p with
  |zero=>simp
  |succ p =>
   have:=ih p (by simpa using hp)
   simp at this ⊢
   omega
theorem z2c{a:Nat}(h3:a<=3){x y:zaq}(hx:Canon a x)(hy:Canon a y)(e:x.take (zby a)=y.take (zby a)):x=y:=by
 refine ztc hx hy fun i hi h=>?_
 have hd:i < zby a:=by rw[zg0 (by omega) h3];exact hi
 have:=congrArg (fun l=>l.getD i 0) e
 simpa [List.getD,List.getElem?_take,hd] using this
theorem zuv{a:Nat}(h3:a<=3){x:zaq}(hx:Canon a x):pad (x.take (zby a)) (zby a)=x:=by
 have hd:=zeg a
 have hda:a<=zby a:=by
  by_cases h0:a=0
  ·omega
  ·rw[zg0 h0 h3];exact Nat.le_refl _
 show x.take (zby a)++([0,0,0]:zaq).drop (zby a)=x
 have hl3:x.length=3:=hx.1
 refine List.ext_getElem (by simp[hl3];omega) fun i h1 h2=>?_
 have hz:∀ i,zby a<=i->x.getD i 0=0:=fun i hi=>hx.2 i (by omega)
 have hi3:i < 3:=by omega
 by_cases hi:i < zby a
 ·rw[List.getElem_append_left (by simp[hl3];omega)]
  simp
 ·rw[List.getElem_append_right (by simp;omega)]
  have e1:x[i]=0:=by have:=hz i (by omega);simpa [List.getD,h2] using this
  rw[e1]
  simp only[List.getElem_drop]
  have:∀ j (hj:j < ([0,0,0]:List Nat).length),([0,0,0]:List Nat)[j]=0:=by
   intro j hj
   have hj3:j=0∨j=1∨j=2:=by simp at hj;omega
   rcases hj3 with rfl|rfl|rfl <;> rfl
  exact this _ _
structure Mid (ar:List Nat) (W k:Nat) (D0:DB) (c0:List Nat) (R:zbh):Prop where
 inv:ze1 ar W R
 rounds:R.rounds=k
 flen:R.fresh.length=ar.length
 fresh:∀ p (hp:p < R.fresh.length),R.fresh[p].Nodup/\∀ row∈R.fresh[p],Canon (ar.getD p 0) row/\Small W row/\D0 p row=none
 abs:∀ p row,zct ar R p row=match D0 p row with
  |some m=>some m
  |none=>if row∈R.fresh.getD p [] then some k else none
 cnts:∀ p (hp:p < R.rows.length),R.rows[p].count=c0.getD p 0+(R.fresh.getD p []).length
theorem getD_lt{α:Type}{l:List α}{i:Nat}(d:α)(h:i < l.length):l.getD i d=l[i]:=by simp[List.getD,h]
theorem zhz{α:Type}(l:List α)(i j:Nat)(v d:α):(l.set i v).getD j d=if i=j/\i < l.length then v else l.getD j d:=by
 simp only[List.getD_eq_getElem?_getD,List.getElem?_set]
 by_cases h:i=j
 ·subst h
  by_cases h2:i < l.length
  ·simp[h2]
  ·simp[h2]
 ·simp[h]
theorem Mid.add{ar:List Nat}{W k:Nat}{D0:DB}{c0:List Nat}{R:zbh}(h:Mid ar W k D0 c0 R)(h3:∀ a∈ar,a<=3){p:Nat}(hp:p < ar.length){row:zaq}(hr:Canon (ar.getD p 0) row)(hs:Small W row){mr:Nat}(hc:R.count<=mr)(hm:mr<=1048576) :
  ∃ R' ok,zza mr R p row=some (R',ok)/\Mid ar W k D0 c0 R'/\R'.moves=R.moves/\(zct ar R' p row).isSome=true/\(∀ q x,x∈R.fresh.getD q []->x∈R'.fresh.getD q [])/\(∀ q x,x∈R'.fresh.getD q []->x∈R.fresh.getD q []∨q=p/\x=row)/\(ok=true->R'.count<=mr)/\(ok=false->R'.count > mr):=by
 have hpr:p < R.rows.length:=by rw[h.inv.len];exact hp
 have hpf:p < R.fresh.length:=by rw[h.flen];exact hp
 obtain⟨t1,t2,t3,t4⟩:=h.inv.tries p hpr
 have ha3:ar.getD p 0<=3:=by rw[getD_lt _ hp];exact h3 _ (List.getElem_mem hp)
 have hge:=zyz R.rows p hpr
 rw[← h.inv.cnt] at hge
 have hcn:=h.cnts p hpr
 have hfit:=(zx6 R.rows[p] row).2 (by rw[t2];exact hs)
 obtain⟨a1,a2,a3,a4,a5,a6,a7⟩:=t1.add row R.rounds hr.1 hfit
 have hkl:(row.take R.rows[p].depth).length=R.rows[p].depth:=by
  rw[List.length_take,hr.1,t3]
  have:=(zeg (ar.getD p 0)).2
  omega
 have hmk:∀ x,Canon (ar.getD p 0) x->zdz R.rows[p] x=zke R.rows[p] (x.take R.rows[p].depth):=fun x hx=>t1.mark x hx.1
 have hgd:R.rows.getD p zad.zero=R.rows[p]:=getD_lt _ hpr
 have habs0:zct ar R p row=zke R.rows[p] (row.take R.rows[p].depth):=by
  unfold zct
  rw[if_pos ⟨hp,hr⟩,hgd,hmk row hr]
 unfold zza
 rw[if_pos ⟨hpr,hpf,by rw[hgd];exact t1.okT (by omega),by omega,by omega⟩,hgd]
 cases hA:zfq R.rows[p] row R.rounds with
 |mk T b =>
  rw[hA] at a1 a2 a3 a4 a5 a6 a7
  simp only at a1 a2 a3 a4 a5 a6 a7
  cases b with
  |false =>
   have hT:=a5 rfl
   subst hT
   have hset:R.rows.set p R.rows[p]=R.rows:=List.set_getElem_self hpr
   refine⟨{ R with rows:=R.rows.set p R.rows[p] },true,rfl,?_,rfl,?_,fun q x hx=>hx,fun q x hx=>Or.inl hx,fun _=>hc,fun q=>by cases q⟩
   ·rw[hset];exact h
   ·rw[hset]
    show(zct ar R p row).isSome=true
    rw[habs0]
    rw[← Option.not_isNone,← a4];rfl
  |true =>
   have hnone:zke R.rows[p] (row.take R.rows[p].depth)=none:=by
    cases hq:zke R.rows[p] (row.take R.rows[p].depth) with
    |none=>rfl
    |some m=>rw[hq] at a4;cases a4
   have hD0:D0 p row=none/\row∉R.fresh.getD p []:=by
    have:=h.abs p row
    rw[habs0,hnone] at this
    cases hq:D0 p row with
    |some m=>rw[hq] at this;cases this
    |none =>
     rw[hq] at this
     refine⟨rfl,fun hm2=>?_⟩
     simp only at this
     rw[if_pos hm2] at this
     cases this
   have hfg:R.fresh.getD p []=R.fresh[p]:=getD_lt _ hpf
   have hsum:=z8e R.rows p T hpr
   have hcnt':=a6 rfl
   have hlen':(R.rows.set p T).length=R.rows.length:=by simp
   have hinv:ze1 ar W { R with rows:=R.rows.set p T,fresh:=R.fresh.set p (R.fresh.getD p []++[row]),count:=R.count+1 }:=by
    refine⟨by simp[h.inv.len],fun q hq=>?_,?_⟩
    ·simp only[List.length_set] at hq
     simp only[List.getElem_set]
     by_cases e:p=q
     ·subst e
      simp only[if_true]
      refine⟨a1,by rw[a2,t2],by rw[a3,t3],fun x hx=>?_⟩
      obtain⟨x1,x2⟩:=(zbq T x).1 hx
      rw[a3] at x1 ⊢
      rw[a7 x x1] at x2
      by_cases ex:x=row.take R.rows[p].depth
      ·rw[ex,t3,zuv ha3 hr];exact hr
      ·rw[if_neg ex] at x2
       exact t4 x ((zbq R.rows[p] x).2 ⟨x1,x2⟩)
     ·simp only[e,if_false]
      exact h.inv.tries q hq
    ·show R.count+1=((R.rows.set p T).map (·.count)).sum
     rw[h.inv.cnt];omega
   have hrow':∀ q,(R.rows.set p T).getD q zad.zero=if p=q then T else R.rows.getD q zad.zero:=fun q=>by
    rw[zhz]
    by_cases e:p=q
    ·rw[if_pos ⟨e,hpr⟩,if_pos e]
    ·rw[if_neg (fun x=>e x.1),if_neg e]
   have hfresh':∀ q,(R.fresh.set p (R.fresh.getD p []++[row])).getD q []=if p=q then R.fresh.getD p []++[row] else R.fresh.getD q []:=fun q=>by
    rw[zhz]
    by_cases e:p=q
    ·rw[if_pos ⟨e,hpf⟩,if_pos e]
    ·rw[if_neg (fun x=>e x.1),if_neg e]
   have habs':∀ q x,zct ar { R with rows:=R.rows.set p T,fresh:=R.fresh.set p (R.fresh.getD p []++[row]),count:=R.count+1 } q x=if q=p/\x=row then some k else zct ar R q x:=by
    intro q x
    unfold zct
    simp only[hrow']
    by_cases e:p=q
    ·subst e
     simp only[if_true,true_and]
     by_cases hcx:p < ar.length/\Canon (ar.getD p 0) x
     ·rw[if_pos hcx,if_pos hcx,hgd,hmk x hcx.2,a1.mark x hcx.2.1,a3,a7 _ (by rw[List.length_take,hcx.2.1,t3];have:=(zeg (ar.getD p 0)).2;omega)]
      by_cases ex:x=row
      ·subst ex
       rw[if_pos rfl,if_pos rfl,hnone,h.rounds]
       rfl
      ·rw[if_neg ex,if_neg]
       intro e2
       rw[t3] at e2
       exact ex (z2c ha3 hcx.2 hr e2)
     ·rw[if_neg hcx,if_neg hcx,if_neg]
      rintro rfl
      exact hcx ⟨hp,hr⟩
    ·simp only[e,if_false]
     rw[if_neg (fun z:q=p/\x=row=>e z.1.symm)]
   refine⟨{ R with rows:=R.rows.set p T,fresh:=R.fresh.set p (R.fresh.getD p []++[row]),count:=R.count+1 },decide (R.count+1<=mr),rfl,⟨hinv,h.rounds,by simp[h.flen],fun q hq=>?_,fun q x=>?_,fun q hq=>?_⟩,rfl,?_,fun q x hx=>?_,fun q x hx=>?_,fun q=>by simpa using q,fun q=>by simpa using q⟩
   ·have hq':q < R.fresh.length:=by simpa using hq
    have e:(R.fresh.set p (R.fresh.getD p []++[row]))[q]=(R.fresh.set p (R.fresh.getD p []++[row])).getD q []:=(getD_lt _ hq).symm
    show((R.fresh.set p (R.fresh.getD p []++[row]))[q]).Nodup/\_
    rw[e,hfresh' q]
    by_cases e2:p=q
    ·subst e2
     rw[if_pos rfl,hfg]
     obtain⟨n1,n2⟩:=h.fresh p hpf
     rw[hfg] at hD0
     refine⟨?_,fun x hx=>?_⟩
     ·rw[List.nodup_append]
      exact⟨n1,by simp,fun x hx y hy=>by simp at hy;subst hy;rintro rfl;exact hD0.2 hx⟩
     ·rcases List.mem_append.1 hx with q|q
      ·exact n2 x q
      ·simp at q;subst q;exact⟨hr,hs,hD0.1⟩
    ·rw[if_neg e2,getD_lt _ hq']
     exact h.fresh q hq'
   ·rw[habs']
    show _=match D0 q x with|some m=>some m|none=>if x∈(R.fresh.set p (R.fresh.getD p []++[row])).getD q [] then some k else none
    rw[hfresh' q,h.abs q x]
    by_cases e:q=p/\x=row
    ·obtain⟨rfl,rfl⟩:=e
     rw[if_pos ⟨rfl,rfl⟩,hD0.1]
     simp
    ·rw[if_neg e]
     cases D0 q x with
     |some m=>rfl
     |none =>
      simp only
      by_cases e2:p=q
      ·subst e2
       rw[if_pos rfl]
       have:x≠row:=fun e3=>e ⟨rfl,e3⟩
       simp[this]
      ·rw[if_neg e2]
   ·have hq':q < R.rows.length:=by simpa using hq
    show(R.rows.set p T)[q].count=c0.getD q 0+((R.fresh.set p (R.fresh.getD p []++[row])).getD q []).length
    rw[hfresh' q,← getD_lt zad.zero hq,hrow' q]
    by_cases e:p=q
    ·subst e
     rw[if_pos rfl,if_pos rfl,hcnt',hcn]
     simp;omega
    ·rw[if_neg e,if_neg e,getD_lt _ hq']
     exact h.cnts q hq'
   ·rw[habs',if_pos ⟨rfl,rfl⟩];rfl
   ·show x∈(R.fresh.set p (R.fresh.getD p []++[row])).getD q []
    rw[hfresh' q]
    by_cases e:p=q
    ·subst e;rw[if_pos rfl];exact List.mem_append_left _ hx
    ·rw[if_neg e];exact hx
   ·have hx':x∈(R.fresh.set p (R.fresh.getD p []++[row])).getD q []:=hx
    rw[hfresh' q] at hx'
    by_cases e:p=q
    ·subst e
     rw[if_pos rfl] at hx'
     rcases List.mem_append.1 hx' with q|q
     ·exact Or.inl q
     ·simp at q;exact Or.inr ⟨rfl,q⟩
    ·rw[if_neg e] at hx';exact Or.inl hx'
end Go.Proofs.YteampbddflhngabGreat
