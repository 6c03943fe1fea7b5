import Derived.Test.YteampbddflhngaaGreatW36

namespace Go.Proofs.YteampbddflhngaaGreat
def zve(r:zah)(Ts Ns:List zad)(W:Nat)(E:zao->Prop)(J:zav)(M:Nat):Prop :=
 J.qp=-1/\zih r Ts Ns J/\(∀ y,zsc r Ts Ns y->E (zct r.head y))∨(∀(i:Nat) (T:zad),Ts[i]?=some T->T.count≠0)/\∃(d f:Nat),J.qp=(d:Nat)/\d<=r.vars/\JAt r Ts Ns W J d/\(d < r.vars->J.from.getD d 0=f)/\Left r Ts Ns E d J.qx f/\zgu W r.vars d J.qx f<=M
theorem zgv{d:Nat}(h0:d≠0)(h3:d<=3):zby d=d:=by unfold zby;by_cases h1:d < 1 <;> by_cases h2:d > 3 <;> simp[h1,h2] <;> omega
theorem z9q.count{T:zad}{l:zak}{y:List Nat}(h:z9q T l y)(hT:zd8 T)(hd:T.qp=zby (zbb l))(h3:l.qf.length<=3):T.count≠0:=by
 by_cases h0:zbb l=0
 ·exact h.1 h0
 ·have hs:=h.2 h0
  have h5:=zko l 5
  rw[← zeb] at h5
  have hm:zb6 l y 5∈keysT T:=(zbp T _).2 ⟨by rw[zg0,← zeb,hd,zgv h0 (by omega)],hs⟩
  have:=ub9 hm
  rw[hT.cnt] at this
  omega
def zf9(r:zah)(qc qm:List zad):zav:={ head:=r.head,vars:=r.vars,qy:=qc.map (fun T=>⟨T,[0,0,0]⟩),bars:=(r.qm.zip qm).map (fun x=>⟨x.1,zdn x.1,x.2⟩),ja:=(List.range 5).map (zb2 r),jg:=(List.range 5).map (fun p=>zd7 r (p:Nat)),last:=zd7 r r.vars,qx:=[0,0,0,0,0],«from»:=[0,0,0,0,0],qp:=if qc.any (fun T=>T.count == 0) then -1 else 0,jf:=0 }
theorem zv5(r:zah)(Ts Ns:List zad):za3 r Ts Ns=if zb3 (zf9 r Ts Ns) 0 then{ zf9 r Ts Ns with qp:=-1 } else zf9 r Ts Ns:=rfl
theorem zqc(r:zah)(Ts Ns:List zad):∃ dd,za3 r Ts Ns={ zf9 r Ts Ns with qp:=dd }/\dd=if zb3 (za3 r Ts Ns) 0=true then -1 else if Ts.any (fun T=>T.count == 0)=true then -1 else 0:=by
 have hbe:∀ dd:Int,zb3 { zf9 r Ts Ns with qp:=dd } 0=zb3 (zf9 r Ts Ns) 0:=fun _=>rfl
 rw[zv5]
 by_cases hb:zb3 (zf9 r Ts Ns) 0=true
 ·rw[if_pos hb]
  exact⟨-1,rfl,by rw[hbe,if_pos hb]⟩
 ·rw[if_neg hb]
  exact⟨_,rfl,by rw[if_neg hb]⟩
theorem zto(r:zah)(Ts Ns:List zad):zih r Ts Ns (za3 r Ts Ns)/\(za3 r Ts Ns).qx=[0,0,0,0,0]/\(za3 r Ts Ns).from=[0,0,0,0,0]/\(za3 r Ts Ns).qy=Ts.map (fun T=>⟨T,[0,0,0]⟩):=by
 obtain⟨dd,h,_⟩:=zqc r Ts Ns
 rw[h]
 exact⟨⟨rfl,rfl,rfl,rfl,rfl,rfl,by simp[zf9,Function.comp_def],rfl,rfl⟩,rfl,rfl,rfl⟩
theorem ztn{r:zah}{Ts Ns:List zad}{W:Nat}(hr:zf2 r)(hf:zdx r Ts W)(E:zao->Prop):zve r Ts Ns W E (za3 r Ts Ns) (zgu W r.vars 0 [] 0):=by
 obtain⟨hst,hv,hfr,hsd⟩:=zto r Ts Ns
 have hnosol:(∃(i:Nat) (T:zad),Ts[i]?=some T/\T.count=0)->∀ y,¬ zsc r Ts Ns y:=by
  rintro⟨i,T,h1,h2⟩ y hy
  have hi:i < r.qc.length:=by rw[← hf.len];exact(uat.1 h1).1
  have hl:=uac hi
  obtain⟨q1,q2,_⟩:=hf.ok i _ T hl h1
  exact(hy.1 i _ T hl h1).count q1 q2 (hr.qf _ (ubi hl)) h2
 have hnobar:zb3 (za3 r Ts Ns) 0=true->∀ y,¬ zsc r Ts Ns y:=by
  intro hb y hy
  obtain⟨x,hx,hk,hm⟩:=(zrn hst 0).1 hb
  have:=hy.2 x hx
  rw[zfy x.1 (y:=(za3 r Ts Ns).qx) fun p hp=>by have:=zk9 x.1 hp;omega] at this
  rw[this] at hm
  cases hm
 have hdep:(za3 r Ts Ns).qp=if zb3 (za3 r Ts Ns) 0=true then -1 else if Ts.any (fun T=>T.count == 0)=true then -1 else 0:=by
  obtain⟨dd,h1,h2⟩:=zqc r Ts Ns
  rw[← h2,h1]
 by_cases hb:zb3 (za3 r Ts Ns) 0=true
 ·left
  rw[if_pos hb] at hdep
  exact⟨hdep,hst,fun y hy=>absurd hy (hnobar hb y)⟩
 ·rw[if_neg hb] at hdep
  by_cases hz:Ts.any (fun T=>T.count == 0)=true
  ·left
   rw[if_pos hz] at hdep
   refine⟨hdep,hst,fun y hy=>absurd hy (hnosol ?_ y)⟩
   obtain⟨T,h1,h2⟩:=ub4.1 hz
   obtain⟨i,hi,rfl⟩:=uau h1
   exact⟨i,_,uac hi,by simpa using h2⟩
  ·right
   rw[if_neg hz] at hdep
   refine⟨fun i T hT hc=>hz (ub4.2 ⟨T,ubi hT,by simp[hc]⟩),0,0,hdep,uaj _,⟨hst,fun i l s hl hs=>?_,fun x hx hk=>?_,fun i hi=>by omega,fun i hi=>by omega⟩,fun _=>by rw[hfr];rfl,fun y _=>Or.inr (Or.inl ⟨fun p hp=>by omega,uaj _⟩),?_⟩
   ·rw[hsd] at hs
    simp only[ub5,ua6] at hs
    obtain⟨T,hT,rfl⟩:=hs
    have hp:zb6 l (za3 r Ts Ns).qx 0=[]:=rfl
    refine⟨rfl,fun k hk h3=>?_,by rw[hp];rfl⟩
    have:k=0:=by simp[zcf] at hk;exact hk
    subst this
    rw[hp];rfl
   ·cases hm:zdt x.2 (zct x.1 (za3 r Ts Ns).qx) with
    |none=>rfl
    |some m=>exact absurd ((zrn hst 0).2 ⟨x,hx,by omega,by rw[hm];rfl⟩) hb
   ·unfold zgu;exact uaa _
theorem z3c{r:zah}{Ts Ns:List zad}{W:Nat}(hr:zf2 r)(hf:zdx r Ts W)(E:zao->Prop)(A:Nat)(hA:W * (r.qc.length+1)+r.qc.length<=A)(n:Nat)(J:zav)(M:Nat)(h:zve r Ts Ns W E J M)(hn:M+A+1 < n) :
  ∃ J' b,zt9 n J=some (J',b)/\(b=false->∀ y,zsc r Ts Ns y->E (zct r.head y))/\(b=true->zsc r Ts Ns J'.qx/\J'.head=r.head/\∃ M',M' < M/\zve r Ts Ns W (fun x=>E x∨x=zct r.head J'.qx) J' M'):=by
 unfold zt9
 rcases h with ⟨h1,h2,h3⟩|⟨hcnt,d,f,h1,h2,h3,h4,h5,h6⟩
 ·rw[h1]
  obtain⟨k,rfl⟩:∃ k,n=k+1:=⟨n - 1,by omega⟩
  refine⟨{ J with qp:=-1 },false,?_,fun _=>h3,fun q=>by cases q⟩
  unfold ze9
  rw[if_neg (by omega)]
  have:¬ ((-1:Int) ≥ (J.vars:Int)):=by omega
  simp[this]
 ·rw[h1]
  obtain⟨J',b,s1,s2⟩:=zwt hr hf E A hA n J d f h3 h2 h4 h5 (by omega)
  rw[s1]
  simp only
  cases b with
  |false=>exact⟨_,false,rfl,fun _=>s2.1,fun q=>by cases q⟩
  |true =>
   obtain⟨t1,t2,t3⟩:=s2
   have hv5:=hr.vars
   have hsol:zsc r Ts Ns J'.qx:=by
    refine⟨fun i l T hl hT=>⟨fun _=>hcnt i T hT,fun _=>?_⟩,fun x hx=>?_⟩
    ·obtain⟨s,hs⟩:=t1.stat.some hf hl
     have hrow:=t1.stat.side hs
     rw[hT] at hrow
     simp only[uab] at hrow
     rw[zz8 hv5 (hr.qc l (ubi hl)),hrow]
     exact(t1.ql i l s hl hs).2.2
    ·exact t1.nob x hx (ztr x.1 (hr.qm x.1 (List.of_mem_zip hx).1))
   refine⟨_,true,rfl,fun q=>(by cases q),fun _=>⟨hsol,t1.stat.head,?_⟩⟩
   simp only[if_true]
   obtain⟨b1,b2,b3,_,_⟩:=zl1 r (jd:=((r.vars:Nat):Int)) (by omega)
   have hlast:=t1.stat.last
   have key:∀ y,(∀ p:Nat,(p:Int)<=zd7 r (r.vars:Nat)->y.getD p 0=J'.qx.getD p 0)->zct r.head y=zct r.head J'.qx:=fun y ha=>zfy r.head fun p hp=>ha p (by
    have h1:=hr.head p hp
    have:=zrr r.head (jd:=((r.vars:Nat):Int)) hp (by omega)
    omega)
   have hstat2:zih r Ts Ns { J' with qp:=J'.last }:=⟨t1.stat.head,t1.stat.vars,t1.stat.ja,t1.stat.jg,t1.stat.last,t1.stat.bars,t1.stat.qy,t1.stat.vlen,t1.stat.flen⟩
   have hpos:=zs4 W r.vars d J.qx f
   by_cases hneg:zd7 r (r.vars:Nat) < 0
   ·refine⟨M - 1,by omega,Or.inl ⟨by show J'.last=-1;rw[hlast];omega,hstat2,fun y hy=>?_⟩⟩
    exact Or.inr (key y fun p hp=>by omega)
   ·obtain⟨bb,hb⟩:∃ b:Nat,zd7 r (r.vars:Nat)=(b:Int):=⟨(zd7 r (r.vars:Nat)).toNat,by omega⟩
    rw[hb] at b1 key
    have hbd:bb < r.vars:=by omega
    have hM:=zpz (W:=W) (vars:=r.vars) (f:=0) (vals:=J'.qx) (uaa _) hbd
    have hback:=t1.back (b:=bb) (by omega)
    refine⟨zgu W r.vars bb J'.qx (J'.qx.getD bb 0+1),by omega,Or.inr ⟨hcnt,bb,J'.qx.getD bb 0+1,by show J'.last=_;rw[hlast,hb],by omega,⟨hstat2,hback.ql,hback.nob,hback.from,hback.small⟩,fun _=>t1.from bb hbd,fun y hy=>?_,uaa _⟩⟩
    rcases t2 y hy with q|⟨q1,_⟩|⟨i,q1,q2,q3⟩
    ·exact Or.inl (Or.inl q)
    ·exact Or.inl (Or.inr (key y fun p hp=>q1 p (by omega)))
    ·by_cases hib:i<=bb
     ·refine Or.inr ?_
      by_cases hib2:i=bb
      ·subst hib2
       exact Or.inl ⟨q2,by omega⟩
      ·exact Or.inr ⟨i,by omega,q2,q3⟩
     ·exact Or.inl (Or.inr (key y fun p hp=>q2 p (by omega)))
end Go.Proofs.YteampbddflhngaaGreat
namespace Go.Proofs.YteampbddflhngaaGreat
variable {l:zak}{a W:Nat}
structure zhh (l:zak) (a W:Nat):Prop where
 len:l.qf.length=a
 le3:a<=3
 lev:∀ t∈l.qf,t.var=true->t.num < 5/\zbq l t.num=some t.level
 con:∀ t∈l.qf,t.var=false->t.num < W
def Canon(a:Nat)(row:zao):Prop:=row.length=3/\∀ i,a<=i->row.getD i 0=0
theorem zlm(l:zak)(y:List Nat){i:Nat}(hi:i < 3):(zct l y).getD i 0=rowCell l y i:=by
 match i,hi with
 |0,_=>rfl
 |1,_=>rfl
 |2,_=>rfl
theorem zjj(h:zhh l a W)(y:List Nat):Canon a (zct l y):=by
 refine⟨rfl,fun i hi=>?_⟩
 by_cases h3:i < 3
 ·rw[zlm l y h3]
  unfold rowCell
  rw[if_neg (by rw[h.len];omega)]
 ·simp[List.getD,zct]
  rw[uav (by simp;omega)];rfl
theorem zsw{x y:zao}(hx:Canon a x)(hy:Canon a y)(h:∀ i,i < a->i < 3->x.getD i 0=y.getD i 0):x=y:=by
 refine ubg (by rw[hx.1,hy.1]) fun i h1 h2=>?_
 have e:x.getD i 0=y.getD i 0:=by
  by_cases hi:i < a
  ·exact h i hi (by rw[hx.1] at h1;exact h1)
  ·rw[hx.2 i (by omega),hy.2 i (by omega)]
 simpa [List.getD,h1,h2] using e
theorem z7h{p d:Nat}(hp:zde l p=true)(hd:p < d):(zcf l d)[(zcf l p).length]?=some p:=by
 obtain⟨t,ht⟩:=zr8 l (show p+1<=d by omega)
 rw[← ht,zeo,if_pos hp]
 simp
theorem znc{p j:Nat}(h:zbq l p=some j)(hp:p < 5):(zcf l 5)[j]?=some p:=by
 rw[zoe] at h
 split at h
 ·rename_i hh
  simp only[uab] at h
  subst h
  exact z7h hh hp
 ·cases h
theorem zrt{p j:Nat}(h:zbq l p=some j)(hp:p < 5):j < zbb l:=by
 have:=znc h hp
 rw[zeb]
 exact(uat.1 this).1
theorem zl2(h:zhh l a W):zbb l<=3:=by
 have:=zko l 5
 rw[zeb]
 have:=h.len
 have:=h.le3
 omega
theorem zhh.leveled{l:zak}{a W:Nat}(h:zhh l a W){t:zbn}(ht:t∈l.qf):leveled t=t.var:=by
 unfold Go.Proofs.YteampbddflhngaaGreat.leveled
 cases hv:t.var with
 |false=>rfl
 |true =>
  obtain⟨h1,h2⟩:=h.lev t ht hv
  have:=zrt h2 h1
  have:=zl2 h
  simp;omega
theorem zel(l:zak)(row f:zao)(i:Nat):(zbz l row f i).length=f.length:=by unfold zbz;split <;> simp
theorem zht(l:zak)(row:zao):(zc9 l row).length=3:=by unfold zc9;rw[zel,zel,zel];rfl
theorem zl6{row:zao}{g:Nat->Nat}(hg:∀ i (hi:i < l.qf.length),leveled l.qf[i]=true->row.getD i 0=g l.qf[i].level){f:zao}{m:Nat}(hl:f.length=3)
  (hf:∀ j,j < 3->(f.getD j 0=g j∨f.getD j 0=0)/\((∃ i,∃ hi:i < l.qf.length,i < m/\leveled l.qf[i]=true/\l.qf[i].level=j)->f.getD j 0=g j)/\((¬ ∃ i,∃ hi:i < l.qf.length,leveled l.qf[i]=true/\l.qf[i].level=j)->f.getD j 0=0)) :
  ∀ j,j < 3->((zbz l row f m).getD j 0=g j∨(zbz l row f m).getD j 0=0)/\((∃ i,∃ hi:i < l.qf.length,i < m+1/\leveled l.qf[i]=true/\l.qf[i].level=j)->(zbz l row f m).getD j 0=g j)/\((¬ ∃ i,∃ hi:i < l.qf.length,leveled l.qf[i]=true/\l.qf[i].level=j)->(zbz l row f m).getD j 0=0):=by
 intro j hj
 obtain⟨f0,f1,f2⟩:=hf j hj
 unfold zbz
 by_cases hm:m < l.qf.length/\leveled (l.qf.getD m ⟨false,0,0⟩)=true
 ·rw[if_pos hm]
  have e:l.qf.getD m ⟨false,0,0⟩=l.qf[m]'hm.1:=by simp[List.getD,hm.1]
  rw[e] at hm ⊢
  rw[zam]
  by_cases hjm:l.qf[m].level=j/\l.qf[m].level < f.length
  ·rw[if_pos hjm]
   have:=hg m hm.1 hm.2
   rw[hjm.1] at this
   exact⟨Or.inl this,fun _=>this,fun q=>absurd ⟨m,hm.1,hm.2,hjm.1⟩ q⟩
  ·rw[if_neg hjm]
   refine⟨f0,?_,f2⟩
   rintro⟨i,hi,q1,q2,q3⟩
   by_cases him:i=m
   ·subst him
    exact absurd ⟨q3,by rw[q3,hl];exact hj⟩ hjm
   ·exact f1 ⟨i,hi,by omega,q2,q3⟩
 ·rw[if_neg hm]
  refine⟨f0,?_,f2⟩
  rintro⟨i,hi,q1,q2,q3⟩
  by_cases him:i=m
  ·subst him
   exact absurd ⟨hi,by simpa [List.getD,hi] using q2⟩ hm
  ·exact f1 ⟨i,hi,by omega,q2,q3⟩
theorem z15(h:zhh l a W){row:zao}{g:Nat->Nat}(hg:∀ i (hi:i < l.qf.length),leveled l.qf[i]=true->row.getD i 0=g l.qf[i].level)(j:Nat)(hj:j < 3):((∃ i,∃ hi:i < l.qf.length,leveled l.qf[i]=true/\l.qf[i].level=j)->(zc9 l row).getD j 0=g j)/\((¬ ∃ i,∃ hi:i < l.qf.length,leveled l.qf[i]=true/\l.qf[i].level=j)->(zc9 l row).getD j 0=0):=by
 have h0:∀ j,j < 3->((([0,0,0]:zao).getD j 0=g j∨([0,0,0]:zao).getD j 0=0)/\((∃ i,∃ hi:i < l.qf.length,i < 0/\leveled l.qf[i]=true/\l.qf[i].level=j)->([0,0,0]:zao).getD j 0=g j)/\((¬ ∃ i,∃ hi:i < l.qf.length,leveled l.qf[i]=true/\l.qf[i].level=j)->([0,0,0]:zao).getD j 0=0)):=by
  intro j hj
  have hz:([0,0,0]:zao).getD j 0=0:=by
   match j,hj with
   |0,_=>rfl
   |1,_=>rfl
   |2,_=>rfl
  exact⟨Or.inr hz,fun⟨i,_,q,_⟩=>by omega,fun _=>hz⟩
 have h1:=zl6 hg rfl h0
 have h2:=zl6 hg (by rw[zel];rfl) h1
 have h3:=zl6 hg (by rw[zel,zel];rfl) h2
 obtain⟨_,q2,q3⟩:=h3 j hj
 refine⟨fun⟨i,hi,r1,r2⟩=>q2 ⟨i,hi,?_,r1,r2⟩,q3⟩
 have:=h.len
 have:=h.le3
 omega
theorem zms(h:zhh l a W){row f:zao}:zb0 l row=some f↔f=zc9 l row/\∀ i (hi:i < l.qf.length),zea l.qf[i] (row.getD i 0) (zc9 l row)=true:=by
 have hall:(zaz l row (zc9 l row) 0 && zaz l row (zc9 l row) 1 && zaz l row (zc9 l row) 2)=true↔∀ i (hi:i < l.qf.length),zea l.qf[i] (row.getD i 0) (zc9 l row)=true:=by
  have key:∀ i,zaz l row (zc9 l row) i=true↔∀ hi:i < l.qf.length,zea l.qf[i] (row.getD i 0) (zc9 l row)=true:=by
   intro i
   unfold zaz
   simp only[Bool.or_eq_true,decide_eq_true_eq]
   constructor
   ·rintro(q|q) hi
    ·omega
    ·simpa [List.getD,hi] using q
   ·intro q
    by_cases hi:i < l.qf.length
    ·exact Or.inr (by simpa [List.getD,hi] using q hi)
    ·exact Or.inl (by omega)
  simp only[ubb,key]
  constructor
  ·rintro⟨⟨q0,q1⟩,q2⟩ i hi
   have:=h.len
   have:=h.le3
   have hi3:i=0∨i=1∨i=2:=by omega
   rcases hi3 with rfl|rfl|rfl
   ·exact q0 hi
   ·exact q1 hi
   ·exact q2 hi
  ·intro q
   exact⟨⟨fun hi=>q 0 hi,fun hi=>q 1 hi⟩,fun hi=>q 2 hi⟩
 unfold zb0
 by_cases hc:(zaz l row (zc9 l row) 0 && zaz l row (zc9 l row) 1 && zaz l row (zc9 l row) 2)=true
 ·rw[if_pos hc]
  simp only[uab]
  exact⟨fun q=>⟨q.symm,hall.1 hc⟩,fun q=>q.1.symm⟩
 ·rw[if_neg hc]
  constructor
  ·intro q;cases q
  ·intro q;exact absurd (hall.2 q.2) hc
theorem z3e{l:List Nat}(h:l.Nodup){i j:Nat}(hi:i < l.length)(hj:j < l.length)(e:l[i]=l[j]):i=j:=by
 have hp:=ubx.1 h
 rcases uc4 i j with q|q|q
 ·exact absurd e (hp i j hi hj q)
 ·exact q
 ·exact absurd e.symm (hp j i hj hi q)
theorem zzx(h:zhh l a W)(y:List Nat):∃ f,zb0 l (zct l y)=some f/\f.length=3/\f.take (zbb l)=zb6 l y 5/\∀ j,zbb l<=j->f.getD j 0=0:=by
 have hat:∀ i (hi:i < l.qf.length),(zct l y).getD i 0=atT l.qf[i] y:=fun i hi=>by
  have:=h.len
  have:=h.le3
  rw[zlm l y (by omega)]
  unfold rowCell
  rw[if_pos hi]
  simp[List.getD,hi]
 have hg:∀ i (hi:i < l.qf.length),leveled l.qf[i]=true->(zct l y).getD i 0=(zb6 l y 5).getD l.qf[i].level 0:=fun i hi hl=>by
  have hm:=uad hi
  rw[h.leveled hm] at hl
  obtain⟨h1,h2⟩:=h.lev _ hm hl
  rw[hat i hi]
  unfold atT
  rw[if_pos (by simp[hl,h1])]
  have:=znc h2 h1
  unfold zb6
  simp[List.getD,this]
 have hfa:=fun j hj=>z15 h (row:=zct l y) (g:=fun j=>(zb6 l y 5).getD j 0) hg j hj
 have hlv:∀ i (hi:i < l.qf.length),leveled l.qf[i]=true->l.qf[i].level < zbb l:=fun i hi hl=>by
  have hm:=uad hi
  rw[h.leveled hm] at hl
  obtain⟨h1,h2⟩:=h.lev _ hm hl
  exact zrt h2 h1
 have hd3:=zl2 h
 have hzero:∀ j,zbb l<=j->(zc9 l (zct l y)).getD j 0=0:=fun j hj=>by
  by_cases h3:j < 3
  ·exact(hfa j h3).2 fun⟨i,hi,q1,q2⟩=>by have:=hlv i hi q1;omega
  ·have:=zht l (zct l y)
   simp[List.getD,List.getElem?_eq_none (show(zc9 l (zct l y)).length<=j by omega)]
 have hval:∀ j,j < zbb l->(zc9 l (zct l y)).getD j 0=(zb6 l y 5).getD j 0:=fun j hj=>by
  refine(hfa j (by omega)).1 ?_
  rw[zeb] at hj
  have hp:=uad hj
  obtain⟨p1,p2⟩:=(zh1 l 5 _).1 hp
  obtain⟨t,t1,t2,t3⟩:=(zfg l _).1 p2
  obtain⟨i,hi,rfl⟩:=uau t1
  refine⟨i,hi,by rw[h.leveled t1];exact t2,?_⟩
  obtain⟨l1,l2⟩:=h.lev _ t1 t2
  have:=znc l2 l1
  rw[t3] at this
  obtain⟨hk,e⟩:=uat.1 this
  exact z3e (List.nodup_range.filter _:(zcf l 5).Nodup) hk hj e
 refine⟨zc9 l (zct l y),(zms h).2 ⟨rfl,fun i hi=>?_⟩,zht _ _,?_,hzero⟩
 ·unfold zea
  have hm:=uad hi
  cases hl:leveled l.qf[i] with
  |true =>
   rw[if_pos rfl,hval _ (hlv i hi hl),hg i hi hl]
   simp
  |false =>
   rw[if_neg (by simp),hat i hi]
   rw[h.leveled hm] at hl
   unfold atT
   rw[if_neg (by simp[hl])]
   simp
 ·refine ubg (by rw[ua2,zht,zg0,← zeb];omega) fun j h1 h2=>?_
  have hj:j < zbb l:=by rw[zg0,← zeb] at h2;exact h2
  have:=hval j hj
  have hj3:j < (zc9 l (zct l y)).length:=by rw[zht];omega
  simp only[List.getD,uac hj3,uac h2,uas] at this
  rw[List.getElem_take]
  exact this
theorem zx0(h:zhh l a W){row f:zao}(hr:Canon a row)(hm:zb0 l row=some f)(y:List Nat)(hy:f.take (zbb l)=zb6 l y 5):row=zct l y:=by
 obtain⟨rfl,hal⟩:=(zms h).1 hm
 refine zsw hr (zjj h y) fun i hi h3=>?_
 have hil:i < l.qf.length:=by rw[h.len];exact hi
 have hmem:=uad hil
 have hq:=hal i hil
 rw[zlm l y h3]
 unfold rowCell
 rw[if_pos hil,show l.qf.getD i ⟨false,0,0⟩=l.qf[i] by simp[List.getD,hil]]
 unfold zea at hq
 unfold atT
 cases hl:leveled l.qf[i] with
 |true =>
  rw[hl,if_pos rfl] at hq
  rw[h.leveled hmem] at hl
  obtain⟨l1,l2⟩:=h.lev _ hmem hl
  rw[if_pos (by simp[hl,l1])]
  have hlt:=zrt l2 l1
  have hat:=znc l2 l1
  have e:(zc9 l row).getD l.qf[i].level 0=((zc9 l row).take (zbb l)).getD l.qf[i].level 0:=by
   simp[List.getD,hlt]
  rw[e,hy] at hq
  unfold zb6 at hq
  simp only[List.getD,ub5,hat,ubp,uas,beq_iff_eq] at hq
  exact hq.symm
 |false =>
  rw[hl,if_neg (by simp)] at hq
  rw[h.leveled hmem] at hl
  rw[if_neg (by simp[hl])]
  exact(by simpa using hq:l.qf[i].num=row.getD i 0).symm
end Go.Proofs.YteampbddflhngaaGreat
namespace Go.Proofs.YteampbddflhngaaGreat
variable {W:Nat}{l:zak}{T:zad}
def Small(W:Nat)(row:zao):Prop:=∀ v∈row,v < W
theorem zzg{row:zao}(h:Small W row)(hW:0 < W)(i:Nat):row.getD i 0 < W:=by
 by_cases hi:i < row.length
 ·rw[show row.getD i 0=row[i] by simp[List.getD,hi]];exact h _ (uad hi)
 ·rw[show row.getD i 0=0 by simp[List.getD,hi]];exact hW
theorem zgx{row f:zao}(hW:0 < W)(hr:Small W row)(hf:Small W f)(i:Nat):Small W (zbz l row f i):=by
 unfold zbz
 split
 ·intro v hv
  rcases uco hv with q|q
  ·exact hf v q
  ·rw[q];exact zzg hr hW i
 ·exact hf
theorem zv9{row f:zao}(hW:0 < W)(hr:Small W row)(hm:zb0 l row=some f):f.length=3/\Small W f:=by
 unfold zb0 at hm
 split at hm
 ·simp only[uab] at hm
  rw[← hm]
  refine⟨zht l row,?_⟩
  unfold zc9
  have h0:Small W [0,0,0]:=by intro v hv;simp at hv;omega
  exact zgx hW hr (zgx hW hr (zgx hW hr h0 0) 1) 2
 ·cases hm
theorem zxp(T:zad)(row:zao):zn5 T row=true↔Small T.qg row:=by simp[zn5,Small]
theorem zlz:∀(rs:List zao) (T:zad),zd8 T->(∀ r∈rs,r.length=3/\Small T.qg r)->T.count+rs.length<=9000000->∃ T',zdz rs T=some T'/\zd8 T'/\T'.qg=T.qg/\T'.qp=T.qp/\T'.count<=T.count+rs.length/\∀ k,k.length=T.qp->((zjz T' k).isSome=true↔(zjz T k).isSome=true∨∃ r∈rs,r.take T.qp=k)
 |[],T,h,_,_=>⟨T,rfl,h,rfl,rfl,by simp,fun k _=>by simp⟩
 |r::rs,T,h,hr,hc=>by
  simp only[ua7] at hc
  obtain⟨h1,h2⟩:=hr r (by simp)
  obtain⟨a1,a2,a3,a4,a5,a6,a7⟩:=h.add r 0 h1 ((zxp T r).2 h2)
  have hcnt:(zfo T r 0).1.count<=T.count+1:=by
   cases hb:(zfo T r 0).2 with
   |false=>rw[a5 hb];omega
   |true=>rw[a6 hb];exact uaa _
  obtain⟨T',b1,b2,b3,b4,b5,b6⟩:=zlz rs (zfo T r 0).1 a1 (fun x hx=>by rw[a2];exact hr x (by simp[hx])) (by omega)
  unfold zdz
  rw[if_pos (h.okT (by omega))]
  refine⟨T',b1,b2,by rw[b3,a2],by rw[b4,a3],by simp only[ua7];omega,fun k hk=>?_⟩
  rw[b6 k (by rw[a3];exact hk),a7 k hk,a3]
  by_cases e:k=r.take T.qp
  ·subst e
   simp
  ·rw[if_neg e]
   constructor
   ·rintro(q|⟨x,q1,q2⟩)
    ·exact Or.inl q
    ·exact Or.inr ⟨x,by simp[q1],q2⟩
   ·rintro(q|⟨x,q1,q2⟩)
    ·exact Or.inl q
    ·rcases uag.1 q1 with rfl|q1
     ·exact absurd q2.symm e
     ·exact Or.inr ⟨x,q1,q2⟩
structure zdy (T:zad) (l:zak) (W:Nat) (P:zao->Prop):Prop where
 ok:zd8 T
 qg:T.qg=W
 qp:T.qp=zby (zbb l)
 sem:∀ k,k.length=T.qp->((zjz T k).isSome=true↔∃ row f,P row/\zb0 l row=some f/\f.take T.qp=k)
theorem zdy.congr{P Q:zao->Prop}(h:zdy T l W P)(e:∀ x,P x↔Q x):zdy T l W Q :=
 ⟨h.ok,h.qg,h.qp,fun k hk=>by rw[h.sem k hk];exact⟨fun⟨r,f,q⟩=>⟨r,f,(e r).1 q.1,q.2⟩,fun⟨r,f,q⟩=>⟨r,f,(e r).2 q.1,q.2⟩⟩⟩
theorem zdy.new(l:zak)(w W:Nat)(hW:W=za4 w):zdy (zfv w (zbb l)) l W (fun _=>False):=by
 refine⟨zd8.new _ _,by rw[zqi,hW],zgq _ _,fun k hk=>?_⟩
 constructor
 ·intro q
  rw[zne _ _ k (by rintro rfl;have:=(zec (zbb l)).1;rw[zgq] at hk;simp at hk;omega)] at q
  cases q
 ·rintro⟨_,_,q,_⟩;exact q.elim
theorem zdy.adds{P:zao->Prop}(h:zdy T l W P)(hW:0 < W)(rows:List zao)(hs:∀ r∈rows,Small W r)(hc:T.count+rows.length<=9000000):∃ T',zdz (rows.filterMap (zb0 l)) T=some T'/\zdy T' l W (fun x=>P x∨x∈rows)/\T'.count<=T.count+rows.length:=by
 have hlen:(rows.filterMap (zb0 l)).length<=rows.length:=ucr _ _
 obtain⟨T',a1,a2,a3,a4,a5,a6⟩:=zlz (rows.filterMap (zb0 l)) T h.ok (fun r hr=>by
  obtain⟨x,hx,hm⟩:=ub7.1 hr
  rw[h.qg]
  exact zv9 hW (hs x hx) hm) (by omega)
 refine⟨T',a1,⟨a2,by rw[a3,h.qg],by rw[a4,h.qp],fun k hk=>?_⟩,by omega⟩
 rw[a4] at hk
 rw[a6 k hk,h.sem k hk,a4]
 constructor
 ·rintro(⟨r,f,q1,q2,q3⟩|⟨f,q1,q2⟩)
  ·exact⟨r,f,Or.inl q1,q2,q3⟩
  ·obtain⟨x,hx,hm⟩:=ub7.1 q1
   exact⟨x,f,Or.inr hx,hm,q2⟩
 ·rintro⟨r,f,q1|q1,q2,q3⟩
  ·exact Or.inl ⟨r,f,q1,q2,q3⟩
  ·exact Or.inr ⟨f,ub7.2 ⟨r,q1,q2⟩,q3⟩
theorem z3p{k:zao}{d:Nat}(h:k.length=d)(h3:d<=3):(pad k d).length=3:=by simp[pad,h];omega
theorem zlh{k:zao}{d:Nat}(h:k.length=d):(pad k d).take d=k:=by simp[pad,← h]
theorem zui{k:zao}{d:Nat}(hW:0 < W)(h:Small W k):Small W (pad k d):=by
 intro v hv
 unfold pad at hv
 rcases uao.1 hv with q|q
 ·exact h v q
 ·have:=ucz q
  simp at this
  omega
theorem zdy.join{U:zad}{P Q:zao->Prop}(h:zdy T l W P)(k:zdy U l W Q)(hW:0 < W)(hc:T.count+U.count<=9000000):∃ T',zdz ((keysT U).map fun x=>pad x U.qp) T=some T'/\zdy T' l W (fun x=>P x∨Q x)/\T'.count<=T.count+U.count:=by
 have hd:U.qp=T.qp:=by rw[h.qp,k.qp]
 have hd3:T.qp<=3:=by rw[h.qp];exact(zec _).2
 obtain⟨T',a1,a2,a3,a4,a5,a6⟩:=zlz ((keysT U).map fun x=>pad x U.qp) T h.ok (fun r hr=>by
  obtain⟨x,hx,rfl⟩:=uai.1 hr
  obtain⟨q1,q2⟩:=(zbp U x).1 hx
  refine⟨z3p q1 (by omega),?_⟩
  rw[h.qg]
  refine zui hW ?_
  intro v hv
  have:=zlp x 0 q2 v hv
  rw[k.qg] at this
  exact this) (by simp[k.ok.cnt];omega)
 refine⟨T',a1,⟨a2,by rw[a3,h.qg],by rw[a4,h.qp],fun y hy=>?_⟩,by simpa [k.ok.cnt] using a5⟩
 rw[a4] at hy
 rw[a6 y hy,h.sem y hy,a4]
 constructor
 ·rintro(⟨r,f,q1,q2,q3⟩|⟨r,q1,q2⟩)
  ·exact⟨r,f,Or.inl q1,q2,q3⟩
  ·obtain⟨x,hx,rfl⟩:=uai.1 q1
   obtain⟨x1,x2⟩:=(zbp U x).1 hx
   rw[← hd,zlh x1] at q2
   subst q2
   obtain⟨r,f,s1,s2,s3⟩:=(k.sem x x1).1 x2
   exact⟨r,f,Or.inr s1,s2,by rw[← hd];exact s3⟩
 ·rintro⟨r,f,q1|q1,q2,q3⟩
  ·exact Or.inl ⟨r,f,q1,q2,q3⟩
  ·refine Or.inr ⟨pad y U.qp,uai.2 ⟨y,(zbp U y).2 ⟨by omega,(k.sem y (by omega)).2 ⟨r,f,q1,q2,by rw[hd];exact q3⟩⟩,rfl⟩,?_⟩
   rw[← hd,zlh (by omega)]
theorem zdy.sat{a Wc:Nat}{P:zao->Prop}(h:zdy T l W P)(hl:zhh l a Wc)(hP:∀ x,P x->Canon a x)(y:List Nat):z9q T l y↔P (zct l y):=by
 obtain⟨f,m1,m2,m3,m4⟩:=zzx hl y
 have hd3:=zl2 hl
 by_cases h0:zbb l=0
 ·have hd1:T.qp=1:=by rw[h.qp,h0];rfl
  have hp:zb6 l y 5=[]:=ubm.1 (by rw[zg0,← zeb];exact h0)
  constructor
  ·intro hs
   have hc:=hs.1 h0
   rw[← h.ok.cnt] at hc
   obtain⟨k,hk⟩:=List.exists_mem_of_length_pos (Nat.pos_of_ne_zero hc)
   obtain⟨k1,k2⟩:=(zbp T k).1 hk
   obtain⟨r,g,q1,q2,q3⟩:=(h.sem k k1).1 k2
   have:=zx0 hl (hP r q1) q2 y (by rw[h0,hp];rfl)
   rw[← this];exact q1
  ·intro hP2
   refine⟨fun _ hc=>?_,fun q=>absurd h0 q⟩
   have:(zjz T (f.take T.qp)).isSome=true:=(h.sem _ (by rw[ua2,m2,hd1];rfl)).2 ⟨_,f,hP2,m1,rfl⟩
   have hm:f.take T.qp∈keysT T:=(zbp T _).2 ⟨by rw[ua2,m2,hd1];rfl,this⟩
   have:=ub9 hm
   rw[h.ok.cnt] at this
   omega
 ·have hd:T.qp=zbb l:=by rw[h.qp,zgv h0 hd3]
  have hpl:(zb6 l y 5).length=T.qp:=by rw[zg0,← zeb,hd]
  constructor
  ·intro hs
   obtain⟨r,g,q1,q2,q3⟩:=(h.sem _ hpl).1 (hs.2 h0)
   rw[hd] at q3
   have:=zx0 hl (hP r q1) q2 y q3
   rw[← this];exact q1
  ·intro hP2
   exact⟨fun q=>absurd q h0,fun _=>(h.sem _ hpl).2 ⟨_,f,hP2,m1,by rw[hd];exact m3⟩⟩
structure zj6 (V:zcs) (l:zak) (W:Nat) (P0 P1:zao->Prop) (Pf:zao->Prop) (c:Nat):Prop where
 lit:V.lit=l
 before:zdy V.before l W P0
 qo:zdy V.qo l W Pf
 all:zdy V.all l W P1
 few:V.before.count+V.qo.count<=c/\V.all.count<=c
theorem zoy{V:zcs}{w:Nat}{P0 P1 Pf:zao->Prop}{c:Nat}(h:zj6 V l W P0 P1 Pf c)(hW:W=za4 w)(rows:List zao)(hs:∀ r∈rows,Small W r)(hc:c+rows.length<=1048576)(fuel:Nat)(hf:3 * (W+1)<=fuel):∃ V',zif fuel w V rows=some V'/\zj6 V' l W (fun x=>P0 x∨Pf x) (fun x=>P1 x∨x∈rows) (fun x=>x∈rows) (c+rows.length):=by
 have hW0:0 < W:=by rw[hW];unfold za4;split <;> omega
 have hr:=h.qo.ok.rowsG fuel (by rw[h.qo.qg];exact hf) (by have:=h.few.1;omega)
 obtain⟨b,b1,b2,b3⟩:=h.before.join h.qo hW0 (by have:=h.few.1;omega)
 obtain⟨f,f1,f2,f3⟩:=(zdy.new l w W hW).adds hW0 rows hs (by simp[zfv,zb8];omega)
 obtain⟨a,a1,a2,a3⟩:=h.all.adds hW0 rows hs (by have:=h.few.2;omega)
 refine⟨{ V with before:=b,qo:=f,all:=a },?_,h.lit,b2,f2.congr (fun x=>by simp),a2,?_⟩
 ·unfold zif
  rw[hr,h.lit]
  simp only[b1,f1,a1]
 ·have h1:=h.few.1
  have h2:=h.few.2
  have h3:(zfv w (zbb l)).count=0:=rfl
  rw[h3] at f3
  simp only
  omega
end Go.Proofs.YteampbddflhngaaGreat
namespace Go.Proofs.YteampbddflhngaaGreat
open Classical
abbrev DB:=Nat->zao->Option Nat
noncomputable def zc2(ar:List Nat)(R:zbg):DB:=fun p row=>if p < ar.length/\Canon (ar.getD p 0) row then zdt (R.rows.getD p zad.zero) row else none
structure zey (ar:List Nat) (W:Nat) (R:zbg):Prop where
 len:R.rows.length=ar.length
 tries:∀ p (hp:p < R.rows.length),zd8 R.rows[p]/\R.rows[p].qg=W/\R.rows[p].qp=zby (ar.getD p 0)/\∀ k∈keysT R.rows[p],Canon (ar.getD p 0) (pad k R.rows[p].qp)
 cnt:R.count=(R.rows.map (·.count)).sum
theorem z6z(l:List zad):∀(p:Nat) (T:zad) (hp:p < l.length),((l.set p T).map (·.count)).sum+l[p].count=(l.map (·.count)).sum+T.count:=by
 induction l with
 |nil=>intro p T hp;simp at hp
 |cons a l ih =>
  intro p T hp
  cases p with
  |zero=>simp;omega
  |succ p =>
   have:=ih p T (by simpa using hp)
   simp at this ⊢
   omega
theorem zye(l:List zad):∀(p:Nat) (hp:p < l.length),l[p].count<=(l.map (·.count)).sum:=by
 induction l with
 |nil=>intro p hp;simp at hp
 |cons a l ih =>
  intro p hp
  cases p with
  |zero=>simp
  |succ p =>
   have:=ih p (by simpa using hp)
   simp at this ⊢
   omega
theorem z1g{a:Nat}(h3:a<=3){x y:zao}(hx:Canon a x)(hy:Canon a y)(e:x.take (zby a)=y.take (zby a)):x=y:=by
 refine zsw hx hy fun i hi h=>?_
 have hd:i < zby a:=by rw[zgv (by omega) h3];exact hi
 have:=congrArg (fun l=>l.getD i 0) e
 simpa [List.getD,List.getElem?_take,hd] using this
theorem zuh{a:Nat}(h3:a<=3){x:zao}(hx:Canon a x):pad (x.take (zby a)) (zby a)=x:=by
 have hd:=zec a
 have hda:a<=zby a:=by
  by_cases h0:a=0
  ·omega
  ·rw[zgv h0 h3];exact uaa _
 show x.take (zby a)++([0,0,0]:zao).drop (zby a)=x
 have hl3:x.length=3:=hx.1
 refine ubg (by simp[hl3];omega) fun i h1 h2=>?_
 have hz:∀ i,zby a<=i->x.getD i 0=0:=fun i hi=>hx.2 i (by omega)
 have hi3:i < 3:=by omega
 by_cases hi:i < zby a
 ·rw[uan (by simp[hl3];omega)]
  simp
 ·rw[ucp (by simp;omega)]
  have e1:x[i]=0:=by have:=hz i (by omega);simpa [List.getD,h2] using this
  rw[e1]
  simp only[List.getElem_drop]
  have:∀ j (hj:j < ([0,0,0]:List Nat).length),([0,0,0]:List Nat)[j]=0:=by
   intro j hj
   have hj3:j=0∨j=1∨j=2:=by simp at hj;omega
   rcases hj3 with rfl|rfl|rfl <;> rfl
  exact this _ _
structure Mid (ar:List Nat) (W k:Nat) (D0:DB) (c0:List Nat) (R:zbg):Prop where
 inv:zey ar W R
 qw:R.qw=k
 flen:R.qo.length=ar.length
 qo:∀ p (hp:p < R.qo.length),R.qo[p].Nodup/\∀ row∈R.qo[p],Canon (ar.getD p 0) row/\Small W row/\D0 p row=none
 abs:∀ p row,zc2 ar R p row=match D0 p row with
  |some m=>some m
  |none=>if row∈R.qo.getD p [] then some k else none
 cnts:∀ p (hp:p < R.rows.length),R.rows[p].count=c0.getD p 0+(R.qo.getD p []).length
theorem getD_lt{α:Type}{l:List α}{i:Nat}(d:α)(h:i < l.length):l.getD i d=l[i]:=by simp[List.getD,h]
theorem ztc{α:Type}(l:List α)(i j:Nat)(v d:α):(l.set i v).getD j d=if i=j/\i < l.length then v else l.getD j d:=by
 simp only[uaf,udf]
 by_cases h:i=j
 ·subst h
  by_cases h2:i < l.length
  ·simp[h2]
  ·simp[h2]
 ·simp[h]
theorem Mid.add{ar:List Nat}{W k:Nat}{D0:DB}{c0:List Nat}{R:zbg}(h:Mid ar W k D0 c0 R)(h3:∀ a∈ar,a<=3){p:Nat}(hp:p < ar.length){row:zao}(hr:Canon (ar.getD p 0) row)(hs:Small W row){mr:Nat}(hc:R.count<=mr)(hm:mr<=1048576) :
  ∃ R' ok,zyo mr R p row=some (R',ok)/\Mid ar W k D0 c0 R'/\R'.jf=R.jf/\(zc2 ar R' p row).isSome=true/\(∀ q x,x∈R.qo.getD q []->x∈R'.qo.getD q [])/\(∀ q x,x∈R'.qo.getD q []->x∈R.qo.getD q []∨q=p/\x=row)/\(ok=true->R'.count<=mr)/\(ok=false->R'.count > mr):=by
 have hpr:p < R.rows.length:=by rw[h.inv.len];exact hp
 have hpf:p < R.qo.length:=by rw[h.flen];exact hp
 obtain⟨t1,t2,t3,t4⟩:=h.inv.tries p hpr
 have ha3:ar.getD p 0<=3:=by rw[getD_lt _ hp];exact h3 _ (uad hp)
 have hge:=zye R.rows p hpr
 rw[← h.inv.cnt] at hge
 have hcn:=h.cnts p hpr
 have hfit:=(zxp R.rows[p] row).2 (by rw[t2];exact hs)
 obtain⟨a1,a2,a3,a4,a5,a6,a7⟩:=t1.add row R.qw hr.1 hfit
 have hkl:(row.take R.rows[p].qp).length=R.rows[p].qp:=by
  rw[ua2,hr.1,t3]
  have:=(zec (ar.getD p 0)).2
  omega
 have hmk:∀ x,Canon (ar.getD p 0) x->zdt R.rows[p] x=zjz R.rows[p] (x.take R.rows[p].qp):=fun x hx=>t1.mark x hx.1
 have hgd:R.rows.getD p zad.zero=R.rows[p]:=getD_lt _ hpr
 have habs0:zc2 ar R p row=zjz R.rows[p] (row.take R.rows[p].qp):=by
  unfold zc2
  rw[if_pos ⟨hp,hr⟩,hgd,hmk row hr]
 unfold zyo
 rw[if_pos ⟨hpr,hpf,by rw[hgd];exact t1.okT (by omega),by omega,by omega⟩,hgd]
 cases hA:zfo R.rows[p] row R.qw with
 |mk T b =>
  rw[hA] at a1 a2 a3 a4 a5 a6 a7
  simp only at a1 a2 a3 a4 a5 a6 a7
  cases b with
  |false =>
   have hT:=a5 rfl
   subst hT
   have hset:R.rows.set p R.rows[p]=R.rows:=udc hpr
   refine⟨{ R with rows:=R.rows.set p R.rows[p] },true,rfl,?_,rfl,?_,fun q x hx=>hx,fun q x hx=>Or.inl hx,fun _=>hc,fun q=>by cases q⟩
   ·rw[hset];exact h
   ·rw[hset]
    show(zc2 ar R p row).isSome=true
    rw[habs0]
    rw[← Option.not_isNone,← a4];rfl
  |true =>
   have hnone:zjz R.rows[p] (row.take R.rows[p].qp)=none:=by
    cases hq:zjz R.rows[p] (row.take R.rows[p].qp) with
    |none=>rfl
    |some m=>rw[hq] at a4;cases a4
   have hD0:D0 p row=none/\row∉R.qo.getD p []:=by
    have:=h.abs p row
    rw[habs0,hnone] at this
    cases hq:D0 p row with
    |some m=>rw[hq] at this;cases this
    |none =>
     rw[hq] at this
     refine⟨rfl,fun hm2=>?_⟩
     simp only at this
     rw[if_pos hm2] at this
     cases this
   have hfg:R.qo.getD p []=R.qo[p]:=getD_lt _ hpf
   have hsum:=z6z R.rows p T hpr
   have hcnt':=a6 rfl
   have hlen':(R.rows.set p T).length=R.rows.length:=by simp
   have hinv:zey ar W { R with rows:=R.rows.set p T,qo:=R.qo.set p (R.qo.getD p []++[row]),count:=R.count+1 }:=by
    refine⟨by simp[h.inv.len],fun q hq=>?_,?_⟩
    ·simp only[ucq] at hq
     simp only[ucb]
     by_cases e:p=q
     ·subst e
      simp only[if_true]
      refine⟨a1,by rw[a2,t2],by rw[a3,t3],fun x hx=>?_⟩
      obtain⟨x1,x2⟩:=(zbp T x).1 hx
      rw[a3] at x1 ⊢
      rw[a7 x x1] at x2
      by_cases ex:x=row.take R.rows[p].qp
      ·rw[ex,t3,zuh ha3 hr];exact hr
      ·rw[if_neg ex] at x2
       exact t4 x ((zbp R.rows[p] x).2 ⟨x1,x2⟩)
     ·simp only[e,if_false]
      exact h.inv.tries q hq
    ·show R.count+1=((R.rows.set p T).map (·.count)).sum
     rw[h.inv.cnt];omega
   have hrow':∀ q,(R.rows.set p T).getD q zad.zero=if p=q then T else R.rows.getD q zad.zero:=fun q=>by
    rw[ztc]
    by_cases e:p=q
    ·rw[if_pos ⟨e,hpr⟩,if_pos e]
    ·rw[if_neg (fun x=>e x.1),if_neg e]
   have hfresh':∀ q,(R.qo.set p (R.qo.getD p []++[row])).getD q []=if p=q then R.qo.getD p []++[row] else R.qo.getD q []:=fun q=>by
    rw[ztc]
    by_cases e:p=q
    ·rw[if_pos ⟨e,hpf⟩,if_pos e]
    ·rw[if_neg (fun x=>e x.1),if_neg e]
   have habs':∀ q x,zc2 ar { R with rows:=R.rows.set p T,qo:=R.qo.set p (R.qo.getD p []++[row]),count:=R.count+1 } q x=if q=p/\x=row then some k else zc2 ar R q x:=by
    intro q x
    unfold zc2
    simp only[hrow']
    by_cases e:p=q
    ·subst e
     simp only[if_true,true_and]
     by_cases hcx:p < ar.length/\Canon (ar.getD p 0) x
     ·rw[if_pos hcx,if_pos hcx,hgd,hmk x hcx.2,a1.mark x hcx.2.1,a3,a7 _ (by rw[ua2,hcx.2.1,t3];have:=(zec (ar.getD p 0)).2;omega)]
      by_cases ex:x=row
      ·subst ex
       rw[if_pos rfl,if_pos rfl,hnone,h.qw]
       rfl
      ·rw[if_neg ex,if_neg]
       intro e2
       rw[t3] at e2
       exact ex (z1g ha3 hcx.2 hr e2)
     ·rw[if_neg hcx,if_neg hcx,if_neg]
      rintro rfl
      exact hcx ⟨hp,hr⟩
    ·simp only[e,if_false]
     rw[if_neg (fun z:q=p/\x=row=>e z.1.symm)]
   refine⟨{ R with rows:=R.rows.set p T,qo:=R.qo.set p (R.qo.getD p []++[row]),count:=R.count+1 },decide (R.count+1<=mr),rfl,⟨hinv,h.qw,by simp[h.flen],fun q hq=>?_,fun q x=>?_,fun q hq=>?_⟩,rfl,?_,fun q x hx=>?_,fun q x hx=>?_,fun q=>by simpa using q,fun q=>by simpa using q⟩
   ·have hq':q < R.qo.length:=by simpa using hq
    have e:(R.qo.set p (R.qo.getD p []++[row]))[q]=(R.qo.set p (R.qo.getD p []++[row])).getD q []:=(getD_lt _ hq).symm
    show((R.qo.set p (R.qo.getD p []++[row]))[q]).Nodup/\_
    rw[e,hfresh' q]
    by_cases e2:p=q
    ·subst e2
     rw[if_pos rfl,hfg]
     obtain⟨n1,n2⟩:=h.qo p hpf
     rw[hfg] at hD0
     refine⟨?_,fun x hx=>?_⟩
     ·rw[List.nodup_append]
      exact⟨n1,by simp,fun x hx y hy=>by simp at hy;subst hy;rintro rfl;exact hD0.2 hx⟩
     ·rcases uao.1 hx with q|q
      ·exact n2 x q
      ·simp at q;subst q;exact⟨hr,hs,hD0.1⟩
    ·rw[if_neg e2,getD_lt _ hq']
     exact h.qo q hq'
   ·rw[habs']
    show _=match D0 q x with|some m=>some m|none=>if x∈(R.qo.set p (R.qo.getD p []++[row])).getD q [] then some k else none
    rw[hfresh' q,h.abs q x]
    by_cases e:q=p/\x=row
    ·obtain⟨rfl,rfl⟩:=e
     rw[if_pos ⟨rfl,rfl⟩,hD0.1]
     simp
    ·rw[if_neg e]
     cases D0 q x with
     |some m=>rfl
     |none =>
      simp only
      by_cases e2:p=q
      ·subst e2
       rw[if_pos rfl]
       have:x≠row:=fun e3=>e ⟨rfl,e3⟩
       simp[this]
      ·rw[if_neg e2]
   ·have hq':q < R.rows.length:=by simpa using hq
    show(R.rows.set p T)[q].count=c0.getD q 0+((R.qo.set p (R.qo.getD p []++[row])).getD q []).length
    rw[hfresh' q,← getD_lt zad.zero hq,hrow' q]
    by_cases e:p=q
    ·subst e
     rw[if_pos rfl,if_pos rfl,hcnt',hcn]
     simp;omega
    ·rw[if_neg e,if_neg e,getD_lt _ hq']
     exact h.cnts q hq'
   ·rw[habs',if_pos ⟨rfl,rfl⟩];rfl
   ·show x∈(R.qo.set p (R.qo.getD p []++[row])).getD q []
    rw[hfresh' q]
    by_cases e:p=q
    ·subst e;rw[if_pos rfl];exact List.mem_append_left _ hx
    ·rw[if_neg e];exact hx
   ·have hx':x∈(R.qo.set p (R.qo.getD p []++[row])).getD q []:=hx
    rw[hfresh' q] at hx'
    by_cases e:p=q
    ·subst e
     rw[if_pos rfl] at hx'
     rcases uao.1 hx' with q|q
     ·exact Or.inl q
     ·simp at q;exact Or.inr ⟨rfl,q⟩
    ·rw[if_neg e] at hx';exact Or.inl hx'
end Go.Proofs.YteampbddflhngaaGreat
