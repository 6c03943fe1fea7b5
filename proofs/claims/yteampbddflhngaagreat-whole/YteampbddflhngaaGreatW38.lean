import Derived.Test.YteampbddflhngaaGreatW37

namespace Go.Proofs.YteampbddflhngaaGreat
open Classical
variable {Ts Ns:List zad}{W:Nat}
theorem z4b{r:zah}(hr:zf2 r)(hf:zdx r Ts W){y:List Nat}(hy:zsc r Ts Ns y){p:Nat}(hp:p < r.vars):y.getD p 0 < W:=by
 obtain⟨l,hl,hh⟩:=hr.safe p hp
 obtain⟨i,hi,rfl⟩:=uau hl
 have hiT:i < Ts.length:=by rw[hf.len];exact hi
 obtain⟨_,_,q3⟩:=hf.ok i _ _ (uac hi) (uac hiT)
 have hv5:=hr.vars
 have hmem:p∈zcf r.qc[i] 5:=(zh1 _ 5 p).2 ⟨by omega,hh⟩
 have h0:zbb r.qc[i]≠0:=by
  rw[zeb]
  intro q
  rw[ubm.1 q] at hmem
  cases hmem
 have hs:=(hy.1 i _ _ (uac hi) (uac hiT)).2 h0
 have:=zlp _ 0 hs (y.getD p 0) (uai.2 ⟨p,hmem,rfl⟩)
 omega
theorem zqx{l:zak}{a:Nat}(h:zhh l a W)(hW:0 < W){y:List Nat}(hy:∀ p,zde l p=true->y.getD p 0 < W):Small W (zct l y):=by
 have hc:∀ i,rowCell l y i < W:=by
  intro i
  unfold rowCell
  split
  ·rename_i hi
   rw[show l.qf.getD i ⟨false,0,0⟩=l.qf[i] by simp[List.getD,hi]]
   have hm:=uad hi
   unfold atT
   split
   ·rename_i hv
    simp only[ubb,decide_eq_true_eq] at hv
    exact hy _ ((zfg l _).2 ⟨_,hm,hv.1,rfl⟩)
   ·rename_i hv
    cases hq:l.qf[i].var with
    |true =>
     have:=(h.lev _ hm hq).1
     simp[hq,this] at hv
    |false=>exact h.con _ hm hq
  ·exact hW
 intro v hv
 simp only[zct,uag,ucs,or_false] at hv
 rcases hv with rfl|rfl|rfl <;> exact hc _
theorem zve.mono{r:zah}{E E':zao->Prop}{J:zav}{M:Nat}(h:zve r Ts Ns W E J M)(he:∀ x,E x->E' x):zve r Ts Ns W E' J M:=by
 rcases h with ⟨h1,h2,h3⟩|⟨h0,d,f,h1,h2,h3,h4,h5,h6⟩
 ·exact Or.inl ⟨h1,h2,fun y hy=>he _ (h3 y hy)⟩
 ·exact Or.inr ⟨h0,d,f,h1,h2,h3,h4,fun y hy=>(h5 y hy).imp (he _) id,h6⟩
theorem Mid.jf{ar:List Nat}{W k:Nat}{D0:DB}{c0:List Nat}{R:zbg}(h:Mid ar W k D0 c0 R)(m:Int):Mid ar W k D0 c0 { R with jf:=m } :=
 ⟨⟨h.inv.len,h.inv.tries,h.inv.cnt⟩,h.qw,h.flen,h.qo,h.abs,h.cnts⟩
theorem Mid.grow{ar:List Nat}{k:Nat}{D0:DB}{c0:List Nat}{R R':zbg}(h:Mid ar W k D0 c0 R)(h':Mid ar W k D0 c0 R')(hm:∀ q x,x∈R.qo.getD q []->x∈R'.qo.getD q []){p:Nat}{x:zao}(hx:(zc2 ar R p x).isSome=true):(zc2 ar R' p x).isSome=true:=by
 rw[h.abs] at hx
 rw[h'.abs]
 cases hq:D0 p x with
 |some m=>rfl
 |none =>
  rw[hq] at hx
  simp only at hx ⊢
  by_cases hf:x∈R.qo.getD p []
  ·rw[if_pos (hm p x hf)];rfl
  ·rw[if_neg hf] at hx;cases hx
structure zw9 (ar:List Nat) (W k:Nat) (D0:DB) (c0:List Nat) (p mr:Nat) (sol:zao->Prop) (R R':zbg) (ok:Bool):Prop where
 mid:Mid ar W k D0 c0 R'
 mono:∀ q x,x∈R.qo.getD q []->x∈R'.qo.getD q []
 sound:∀ q x,x∈R'.qo.getD q []->x∈R.qo.getD q []∨q=p/\sol x
 yes:ok=true->R'.count<=mr/\∀ x,sol x->(zc2 ar R' p x).isSome=true
 no:ok=false->R'.count > mr
theorem zvi{ar:List Nat}{k:Nat}{D0:DB}{c0:List Nat}{r:zah}(hr:zf2 r)(hf:zdx r Ts W)(h3:∀ a∈ar,a<=3)(hW:0 < W)(hp:r.head.pred < ar.length)(hh:zhh r.head (ar.getD r.head.pred 0) W)(A:Nat)(hA:W * (r.qc.length+1)+r.qc.length<=A){mr:Nat}(hmr:mr<=1048576) :
  ∀(n:Nat) (R:zbg) (J:zav) (M:Nat),Mid ar W k D0 c0 R->R.count<=mr->zve r Ts Ns W (fun x=>(zc2 ar R r.head.pred x).isSome=true) J M->M+A+2 < n->∃ R' ok,zdl mr r.head.pred n R J=some (R',ok)/\zw9 ar W k D0 c0 r.head.pred mr (fun x=>∃ y,zsc r Ts Ns y/\x=zct r.head y) R R' ok:=by
 intro n
 induction n with
 |zero=>intro R J M _ _ _ h;omega
 |succ n ih =>
  intro R J M h hc hJ hn
  obtain⟨J',b,n1,n2,n3⟩:=z3c hr hf _ A hA n J M hJ (by omega)
  unfold zdl
  rw[n1]
  cases b with
  |false =>
   refine⟨_,true,rfl,h.jf _,fun q x hx=>hx,fun q x hx=>Or.inl hx,fun _=>⟨hc,?_⟩,fun q=>by cases q⟩
   rintro x ⟨y,hy,rfl⟩
   exact n2 rfl y hy
  |true =>
   obtain⟨m1,m2,M',m3,m4⟩:=n3 rfl
   simp only
   rw[m2]
   have hsm:Small W (zct r.head J'.qx):=zqx hh hW fun p hpp=>z4b hr hf m1 (hr.head p hpp)
   obtain⟨R1,ok,a1,a2,_,a4,a5,a6,a7,a8⟩:=h.add h3 hp (zjj hh J'.qx) hsm hc hmr
   rw[a1]
   cases ok with
   |false =>
    refine⟨R1,false,rfl,a2,a5,fun q x hx=>?_,(fun q=>by cases q),a8⟩
    rcases a6 q x hx with z|⟨z1,z2⟩
    ·exact Or.inl z
    ·exact Or.inr ⟨z1,J'.qx,m1,z2⟩
   |true =>
    simp only
    obtain⟨R2,ok2,b1,b2⟩:=ih R1 J' M' a2 (a7 rfl) (m4.mono fun x hx=>by
     rcases hx with q|q
     ·exact h.grow a2 a5 q
     ·rw[q];exact a4) (by omega)
    refine⟨R2,ok2,b1,b2.mid,fun q x hx=>b2.mono q x (a5 q x hx),fun q x hx=>?_,b2.yes,b2.no⟩
    rcases b2.sound q x hx with z|z
    ·rcases a6 q x z with z|⟨z1,z2⟩
     ·exact Or.inl z
     ·exact Or.inr ⟨z1,J'.qx,m1,z2⟩
    ·exact Or.inr z
end Go.Proofs.YteampbddflhngaaGreat
namespace Go.Proofs.YteampbddflhngaaGreat
open Classical
variable {r:zah}{W wd mr:Nat}{c0:List Nat}
def InD(D:DB)(p:Nat)(x:zao):Prop:=(D p x).isSome=true
def Der(r:zah)(D:DB)(x:zao):Prop:=∃ y,(∀ l∈r.qc,InD D l.pred (zct l y))/\(∀ l∈r.qm,D l.pred (zct l y)=none)/\x=zct r.head y
structure znn (r:zah) (ar:List Nat) (W:Nat):Prop where
 fine:zf2 r
 hpred:r.head.pred < ar.length
 head:zhh r.head (ar.getD r.head.pred 0) W
 qc:∀ l∈r.qc,l.pred < ar.length/\zhh l (ar.getD l.pred 0) W
 qm:∀ l∈r.qm,l.pred < ar.length/\zhh l (ar.getD l.pred 0) W
def z9o(ar:List Nat)(D:DB):Prop:=∀ p x,InD D p x->p < ar.length/\Canon (ar.getD p 0) x
theorem zlw(ar:List Nat)(R:zbg):z9o ar (zc2 ar R):=by
 intro p x h
 unfold InD zc2 at h
 split at h
 ·assumption
 ·cases h
theorem z4a{ar:List Nat}(hr:znn r ar W){R:zbg}(hi:zey ar W R){Ts:List zad}{P:Nat->zao->Prop}(hlen:Ts.length=r.qc.length)(hT:∀(i:Nat) (l:zak) (T:zad),r.qc[i]?=some l->Ts[i]?=some T->zdy T l W (P i)/\∀ x,P i x->Canon (ar.getD l.pred 0) x)(y:List Nat) :
  zsc r Ts (zhk wd R r) y↔(∀(i:Nat) (l:zak),r.qc[i]?=some l->P i (zct l y))/\∀ l∈r.qm,zc2 ar R l.pred (zct l y)=none:=by
 have hbar:∀ l∈r.qm,zdt (zgf wd R l.pred) (zct l y)=zc2 ar R l.pred (zct l y):=by
  intro l hl
  obtain⟨q1,q2⟩:=hr.qm l hl
  unfold zgf zc2
  rw[if_neg (by rw[hi.len];omega),if_pos ⟨q1,zjj q2 y⟩]
 unfold zsc zhk
 constructor
 ·rintro⟨h1,h2⟩
  refine⟨fun i l hl=>?_,fun l hl=>?_⟩
  ·have hit:i < Ts.length:=by rw[hlen];exact(uat.1 hl).1
   obtain⟨v1,v2⟩:=hT i l _ hl (uac hit)
   exact(v1.sat (hr.qc l (ubi hl)).2 v2 y).1 (h1 i l _ hl (uac hit))
  ·rw[← hbar l hl]
   obtain⟨i,hi2,rfl⟩:=uau hl
   exact h2 (r.qm[i],zgf wd R r.qm[i].pred) (uby.2 ⟨i,by simp[hi2],by simp⟩)
 ·rintro⟨h1,h2⟩
  refine⟨fun i l T hl hTi=>?_,fun x hx=>?_⟩
  ·obtain⟨v1,v2⟩:=hT i l T hl hTi
   exact(v1.sat (hr.qc l (ubi hl)).2 v2 y).2 (h1 i l hl)
  ·obtain⟨i,hi2,rfl⟩:=uby.1 hx
   simp only[List.length_zip,ua0] at hi2
   have hi3:i < r.qm.length:=by omega
   simp only[List.getElem_zip,uaw]
   rw[hbar _ (uad hi3)]
   exact h2 _ (uad hi3)
structure zvh (ar:List Nat) (W:Nat) (w:zbk) (r:zah) (D0 D:DB) (c:List Nat):Prop where
 rule:w.rule=r
 len:w.qj.length=r.qc.length
 qj:∀(i:Nat) (l:zak) (V:zcs),r.qc[i]?=some l->w.qj[i]?=some V->zj6 V l W (InD D0 l.pred) (InD D l.pred) (fun x=>InD D l.pred x/\¬ InD D0 l.pred x) (c.getD l.pred 0)
def zf5(W:Nat)(r:zah):Nat:=zgu W r.vars 0 [] 0+(W * (r.qc.length+1)+r.qc.length)+3
theorem ztp{ar:List Nat}{k:Nat}{D:DB}(hr:znn r ar W)(h3:∀ a∈ar,a<=3)(hW:0 < W)(hmr:mr<=1048576){R:zbg}(hm:Mid ar W k D c0 R)(hc:R.count<=mr){Ts:List zad}{P:Nat->zao->Prop}(hlen:Ts.length=r.qc.length)(hT:∀(i:Nat) (l:zak) (T:zad),r.qc[i]?=some l->Ts[i]?=some T->zdy T l W (P i)/\∀ x,P i x->Canon (ar.getD l.pred 0) x)(hn:∀ l∈r.qm,∀ x,zc2 ar R l.pred x=D l.pred x)(fuel:Nat)(hfu:zf5 W r<=fuel) :
  ∃ R' ok,zdl mr r.head.pred fuel R (za3 r Ts (zhk wd R r))=some (R',ok)/\zw9 ar W k D c0 r.head.pred mr (fun x=>∃ y,((∀(i:Nat) (l:zak),r.qc[i]?=some l->P i (zct l y))/\∀ l∈r.qm,D l.pred (zct l y)=none)/\x=zct r.head y) R R' ok:=by
 have hf:zdx r Ts W:=⟨hlen,fun i l T hl hTi=>by obtain⟨v,_⟩:=hT i l T hl hTi;exact⟨v.ok,v.qp,by rw[v.qg];exact uaa _⟩⟩
 have hfu':zgu W r.vars 0 [] 0+(W * (r.qc.length+1)+r.qc.length)+3<=fuel:=hfu
 obtain⟨R',ok,a1,a2⟩:=zvi (Ns:=zhk wd R r) (D0:=D) (c0:=c0) (k:=k) hr.fine hf h3 hW hr.hpred hr.head _ (uaa _) hmr fuel R _ _ hm hc (ztn hr.fine hf _) (by omega)
 have hsol:∀ x,(∃ y,zsc r Ts (zhk wd R r) y/\x=zct r.head y)↔∃ y,((∀(i:Nat) (l:zak),r.qc[i]?=some l->P i (zct l y))/\∀ l∈r.qm,D l.pred (zct l y)=none)/\x=zct r.head y:=by
  intro x
  constructor
  ·rintro⟨y,q1,q2⟩
   obtain⟨s1,s2⟩:=(z4a hr hm.inv hlen hT y).1 q1
   exact⟨y,⟨s1,fun l hl=>by rw[← hn l hl];exact s2 l hl⟩,q2⟩
  ·rintro⟨y,q1,q2⟩
   exact⟨y,(z4a hr hm.inv hlen hT y).2 ⟨q1.1,fun l hl=>by rw[hn l hl];exact q1.2 l hl⟩,q2⟩
 exact⟨R',ok,a1,a2.mid,a2.mono,fun q x hx=>(a2.sound q x hx).imp id fun z=>⟨z.1,(hsol x).1 z.2⟩,fun q=>⟨(a2.yes q).1,fun x hx=>(a2.yes q).2 x ((hsol x).2 hx)⟩,a2.no⟩
structure zra (ar:List Nat) (W k:Nat) (D:DB) (c0:List Nat) (mr:Nat) (want:Nat->zao->Prop) (R R':zbg) (ok:Bool):Prop where
 mid:Mid ar W k D c0 R'
 mono:∀ q x,x∈R.qo.getD q []->x∈R'.qo.getD q []
 sound:∀ q x,x∈R'.qo.getD q []->x∈R.qo.getD q []∨want q x
 yes:ok=true->R'.count<=mr
 no:ok=false->R'.count > mr
theorem zzd{ar:List Nat}{k:Nat}{D0 D:DB}{w:zbk}(hw:zvh ar W w r D0 D c0)(hD:z9o ar D)(hr:znn r ar W)(h3:∀ a∈ar,a<=3)(hW:0 < W)(hmr:mr<=1048576){R:zbg}(hm:Mid ar W k D c0 R)(hc:R.count<=mr)(hn:∀ l∈r.qm,∀ x,zc2 ar R l.pred x=D l.pred x)(fuel:Nat)(hfu:zf5 W r<=fuel) :
  ∃ R' ok,zit fuel wd mr true R w=some (R',ok)/\zra ar W k D c0 mr (fun q x=>q=r.head.pred/\Der r D x) R R' ok/\(ok=true->∀ x,Der r D x->InD (zc2 ar R') r.head.pred x):=by
 have hT:∀(i:Nat) (l:zak) (T:zad),r.qc[i]?=some l->(w.qj.map (·.all))[i]?=some T->zdy T l W ((fun i x=>∃ l,r.qc[i]?=some l/\InD D l.pred x) i)/\∀ x,(fun i x=>∃ l,r.qc[i]?=some l/\InD D l.pred x) i x->Canon (ar.getD l.pred 0) x:=by
  intro i l T hl hTi
  simp only[ub5,ua6] at hTi
  obtain⟨V,hV,rfl⟩:=hTi
  refine⟨(hw.qj i l V hl hV).all.congr fun x=>⟨fun q=>⟨l,hl,q⟩,fun⟨l',q1,q2⟩=>?_⟩,fun x ⟨l',q1,q2⟩=>?_⟩
  ·rw[hl] at q1;simp only[uab] at q1;subst q1;exact q2
  ·rw[hl] at q1;simp only[uab] at q1;subst q1;exact(hD _ x q2).2
 obtain⟨R',ok,a1,a2⟩:=ztp (wd:=wd) hr h3 hW hmr hm hc (by simp[hw.len]) hT hn fuel hfu
 have hder:∀ x,(∃ y,((∀(i:Nat) (l:zak),r.qc[i]?=some l->(∃ l',r.qc[i]?=some l'/\InD D l'.pred (zct l y)))/\∀ l∈r.qm,D l.pred (zct l y)=none)/\x=zct r.head y)↔Der r D x:=by
  intro x
  constructor
  ·rintro⟨y,⟨q1,q2⟩,q3⟩
   refine⟨y,fun l hl=>?_,q2,q3⟩
   obtain⟨i,hi,rfl⟩:=uau hl
   obtain⟨l',s1,s2⟩:=q1 i _ (uac hi)
   rw[uac hi] at s1
   simp only[uab] at s1
   subst s1
   exact s2
  ·rintro⟨y,q1,q2,q3⟩
   exact⟨y,⟨fun i l hl=>⟨l,hl,q1 l (ubi hl)⟩,q2⟩,q3⟩
 unfold zit
 rw[if_pos rfl,hw.rule]
 exact⟨R',ok,a1,⟨a2.mid,a2.mono,fun q x hx=>(a2.sound q x hx).imp id fun z=>⟨z.1,(hder x).1 z.2⟩,fun q=>(a2.yes q).1,a2.no⟩,fun q x hx=>(a2.yes q).2 x ((hder x).2 hx)⟩
def Late(r:zah)(D0 D:DB)(i:Nat)(y:List Nat):Prop:=∃(j:Nat) (l:zak),i<=j/\r.qc[j]?=some l/\InD D l.pred (zct l y)/\¬ InD D0 l.pred (zct l y)/\(∀(t:Nat) (l':zak),r.qc[t]?=some l'->(t < j->InD D0 l'.pred (zct l' y))/\(j < t->InD D l'.pred (zct l' y)))/\∀ l∈r.qm,D l.pred (zct l y)=none
theorem zzs{ar:List Nat}{k:Nat}{D0 D:DB}{w:zbk}(hw:zvh ar W w r D0 D c0)(hD:z9o ar D)(hD0:∀ p x,InD D0 p x->InD D p x)(hr:znn r ar W)(h3:∀ a∈ar,a<=3)(hW:0 < W)(hmr:mr<=1048576)(fuel:Nat)(hfu:zf5 W r<=fuel)(hnh:∀ l∈r.qm,l.pred≠r.head.pred) :
  ∀(n i:Nat) (R:zbg),i+n=w.qj.length->Mid ar W k D c0 R->R.count<=mr->(∀ l∈r.qm,∀ x,zc2 ar R l.pred x=D l.pred x)->∃ R' ok,zgt fuel wd mr w n i R=some (R',ok)/\zra ar W k D c0 mr (fun q x=>q=r.head.pred/\Der r D x) R R' ok/\(ok=true->∀ y,Late r D0 D i y->InD (zc2 ar R') r.head.pred (zct r.head y)):=by
 intro n
 induction n with
 |zero =>
  intro i R hi hm hc _
  refine⟨R,true,rfl,⟨hm,fun q x hx=>hx,fun q x hx=>Or.inl hx,fun _=>hc,fun q=>by cases q⟩,fun _ y hy=>?_⟩
  obtain⟨j,l,q1,q2,_⟩:=hy
  have:=(uat.1 q2).1
  have:=hw.len
  omega
 |succ n ih =>
  intro i R hi hm hc hn
  have hiv:i < w.qj.length:=by omega
  have hip:i < r.qc.length:=by rw[← hw.len];exact hiv
  have hV:=hw.qj i _ _ (uac hip) (uac hiv)
  have hlw:=(hr.qc _ (uad hip)).2
  have hg:w.qj.getD i ⟨⟨0,[]⟩,zad.zero,zad.zero,zad.zero⟩=w.qj[i]:=getD_lt _ hiv
  unfold zgt
  rw[hg]
  by_cases hcnt:w.qj[i].qo.count > 0
  ·rw[if_pos hcnt]
   have hT:∀(t:Nat) (l:zak) (T:zad),r.qc[t]?=some l->(partly w.qj i)[t]?=some T->zdy T l W ((fun t x=>∃ l,r.qc[t]?=some l/\(t < i->InD D0 l.pred x)/\(t=i->InD D l.pred x/\¬ InD D0 l.pred x)/\(i < t->InD D l.pred x)) t)/\∀ x,(fun t x=>∃ l,r.qc[t]?=some l/\(t < i->InD D0 l.pred x)/\(t=i->InD D l.pred x/\¬ InD D0 l.pred x)/\(i < t->InD D l.pred x)) t x->Canon (ar.getD l.pred 0) x:=by
    intro t l T hl hTi
    unfold partly at hTi
    simp only[ub5,ua6,List.getElem?_zipIdx] at hTi
    obtain⟨⟨V,j⟩,⟨V',hV',hVe⟩,rfl⟩:=hTi
    simp only[ubl,uak] at hVe
    obtain⟨rfl,rfl⟩:=hVe
    have hVt:=hw.qj t l V' hl hV'
    have hcan:∀ x,(∃ l,r.qc[t]?=some l/\(t < i->InD D0 l.pred x)/\(t=i->InD D l.pred x/\¬ InD D0 l.pred x)/\(i < t->InD D l.pred x))->Canon (ar.getD l.pred 0) x:=by
     rintro x ⟨l',q1,q2,q3,q4⟩
     rw[hl] at q1;simp only[uab] at q1;subst q1
     rcases uc4 t i with z|z|z
     ·exact(hD _ x (hD0 _ x (q2 z))).2
     ·exact(hD _ x (q3 z).1).2
     ·exact(hD _ x (q4 z)).2
    refine⟨?_,hcan⟩
    simp only
    by_cases h1:t < i
    ·rw[if_pos h1]
     refine hVt.before.congr fun x=>⟨fun q=>⟨l,hl,fun _=>q,fun z=>by omega,fun z=>by omega⟩,fun⟨l',q1,q2,_,_⟩=>?_⟩
     rw[hl] at q1;simp only[uab] at q1;subst q1;exact q2 h1
    ·rw[if_neg h1]
     by_cases h2:t=i
     ·rw[if_pos h2]
      refine hVt.qo.congr fun x=>⟨fun q=>⟨l,hl,fun z=>by omega,fun _=>q,fun z=>by omega⟩,fun⟨l',q1,_,q3,_⟩=>?_⟩
      rw[hl] at q1;simp only[uab] at q1;subst q1;exact q3 h2
     ·rw[if_neg h2]
      refine hVt.all.congr fun x=>⟨fun q=>⟨l,hl,fun z=>by omega,fun z=>by omega,fun _=>q⟩,fun⟨l',q1,_,_,q4⟩=>?_⟩
      rw[hl] at q1;simp only[uab] at q1;subst q1;exact q4 (by omega)
   obtain⟨R1,ok,a1,a2⟩:=ztp (wd:=wd) hr h3 hW hmr hm hc (by simp[partly,hw.len]) hT hn fuel hfu
   rw[hw.rule,a1]
   have hsound:∀ x,(∃ y,((∀(t:Nat) (l:zak),r.qc[t]?=some l->(∃ l',r.qc[t]?=some l'/\(t < i->InD D0 l'.pred (zct l y))/\(t=i->InD D l'.pred (zct l y)/\¬ InD D0 l'.pred (zct l y))/\(i < t->InD D l'.pred (zct l y))))/\∀ l∈r.qm,D l.pred (zct l y)=none)/\x=zct r.head y)->Der r D x:=by
    rintro x ⟨y,⟨q1,q2⟩,q3⟩
    refine⟨y,fun l hl=>?_,q2,q3⟩
    obtain⟨t,ht,rfl⟩:=uau hl
    obtain⟨l',s1,s2,s3,s4⟩:=q1 t _ (uac ht)
    rw[uac ht] at s1
    simp only[uab] at s1
    subst s1
    rcases uc4 t i with z|z|z
    ·exact hD0 _ _ (s2 z)
    ·exact(s3 z).1
    ·exact s4 z
   cases ok with
   |false =>
    exact⟨R1,false,rfl,⟨a2.mid,a2.mono,fun q x hx=>(a2.sound q x hx).imp id fun z=>⟨z.1,hsound x z.2⟩,(fun q=>by cases q),a2.no⟩,fun q=>by cases q⟩
   |true =>
    simp only
    obtain⟨b1,b2⟩:=a2.yes rfl
    have hn1:∀ l∈r.qm,∀ x,zc2 ar R1 l.pred x=D l.pred x:=by
     intro l hl x
     have hne:=hnh l hl
     rw[a2.mid.abs,← hn l hl x,hm.abs]
     cases hq:D l.pred x with
     |some m=>rfl
     |none =>
      simp only
      by_cases hx:x∈R.qo.getD l.pred []
      ·rw[if_pos hx,if_pos (a2.mono _ x hx)]
      ·rw[if_neg hx,if_neg]
       intro hx2
       rcases a2.sound _ x hx2 with z|z
       ·exact hx z
       ·exact hne z.1
    obtain⟨R2,ok2,c1,c2,c3⟩:=ih (i+1) R1 (by omega) a2.mid b1 hn1
    refine⟨R2,ok2,c1,⟨c2.mid,fun q x hx=>c2.mono q x (a2.mono q x hx),fun q x hx=>?_,c2.yes,c2.no⟩,fun hok y hy=>?_⟩
    ·rcases c2.sound q x hx with z|z
     ·exact(a2.sound q x z).imp id fun z=>⟨z.1,hsound x z.2⟩
     ·exact Or.inr z
    ·obtain⟨j,l,q1,q2,q3,q4,q5,q6⟩:=hy
     by_cases hji:j=i
     ·subst hji
      refine a2.mid.grow c2.mid c2.mono (b2 _ ⟨y,⟨fun t l' hl'=>⟨l',hl',fun z=>(q5 t l' hl').1 z,fun z=>?_,fun z=>(q5 t l' hl').2 z⟩,q6⟩,rfl⟩)
      subst z
      rw[q2] at hl';simp only[uab] at hl';subst hl'
      exact⟨q3,q4⟩
     ·exact c3 hok y ⟨j,l,by omega,q2,q3,q4,q5,q6⟩
  ·rw[if_neg hcnt]
   obtain⟨R2,ok2,c1,c2,c3⟩:=ih (i+1) R (by omega) hm hc hn
   refine⟨R2,ok2,c1,c2,fun hok y hy=>?_⟩
   obtain⟨j,l,q1,q2,q3,q4,q5,q6⟩:=hy
   by_cases hji:j=i
   ·subst hji
    rw[uac hip] at q2
    simp only[uab] at q2
    subst q2
    have hs:=(hV.qo.sat hlw (fun x hx=>(hD _ x hx.1).2) y).2 ⟨q3,q4⟩
    exact absurd (Nat.pos_of_ne_zero (hs.count hV.qo.ok hV.qo.qp (hr.fine.qf _ (uad hip)))) hcnt
   ·exact c3 hok y ⟨j,l,by omega,q2,q3,q4,q5,q6⟩
end Go.Proofs.YteampbddflhngaaGreat
namespace Go.Proofs.YteampbddflhngaaGreat
open Classical
variable {W wd:Nat}{D0:DB}{ws:List zbk}{rs:List zah}
structure znp (rs:List zah) (ar:List Nat) (W:Nat):Prop where
 rules:∀ r∈rs,znn r ar W
 apart:∀ r∈rs,∀ r'∈rs,∀ l∈r.qm,l.pred≠r'.head.pred
def zkq(rs:List zah)(R:zbg):Prop:=∀ q x,x∈R.qo.getD q []->∃ r∈rs,q=r.head.pred
theorem Mid.qm{ar:List Nat}{W k:Nat}{D:DB}{c0:List Nat}{R:zbg}{rs:List zah}(h:Mid ar W k D c0 R)(hs:znp rs ar W)(ho:zkq rs R){r:zah}(hr:r∈rs):∀ l∈r.qm,∀ x,zc2 ar R l.pred x=D l.pred x:=by
 intro l hl x
 rw[h.abs]
 cases hq:D l.pred x with
 |some m=>rfl
 |none =>
  simp only
  rw[if_neg]
  intro hx
  obtain⟨r',h1,h2⟩:=ho _ x hx
  exact hs.apart r hr r' h1 l hl h2
inductive zdi (ar:List Nat) (W:Nat) (D0 D:DB) (c:List Nat):List zbk->List zah->Prop
 |nil:zdi ar W D0 D c [] []
 |cons {w:zbk} {r:zah} {ws:List zbk} {rs:List zah}:zvh ar W w r D0 D c->zdi ar W D0 D c ws rs->zdi ar W D0 D c (w::ws) (r::rs)
def zym(first:Bool)(r:zah)(D0 D:DB)(x:zao):Prop:=if first then Der r D x else ∃ y,Late r D0 D 0 y/\x=zct r.head y
theorem zrl{ar:List Nat}{k:Nat}{D:DB}{c0:List Nat}(hD:z9o ar D)(hD0:∀ p x,InD D0 p x->InD D p x)(h3:∀ a∈ar,a<=3)(hW:0 < W){mr:Nat}(hmr:mr<=1048576)(fuel:Nat){rs0:List zah}(hs:znp rs0 ar W)(hfu:∀ r∈rs0,zf5 W r<=fuel)(first:Bool)(hw:zdi ar W D0 D c0 ws rs)(hsub:∀ r∈rs,r∈rs0) :
  ∀(R:zbg),Mid ar W k D c0 R->R.count<=mr->zkq rs0 R->∃ R' ok,zf3 fuel wd mr first ws R=some (R',ok)/\zra ar W k D c0 mr (fun q x=>∃ r∈rs,q=r.head.pred/\Der r D x) R R' ok/\zkq rs0 R'/\(ok=true->∀ r∈rs,∀ x,zym first r D0 D x->InD (zc2 ar R') r.head.pred x):=by
 induction hw with
 |nil =>
  intro R hm hc ho
  exact⟨R,true,rfl,⟨hm,fun q x hx=>hx,fun q x hx=>Or.inl hx,fun _=>hc,fun q=>by cases q⟩,ho,fun _ r hr=>by cases hr⟩
 |@cons w r ws rs hw1 hws ih =>
  intro R hm hc ho
  have hr0:=hsub r (by simp)
  have hn:=hm.qm hs ho hr0
  have hone:∃ R1 ok,zit fuel wd mr first R w=some (R1,ok)/\zra ar W k D c0 mr (fun q x=>q=r.head.pred/\Der r D x) R R1 ok/\(ok=true->∀ x,zym first r D0 D x->InD (zc2 ar R1) r.head.pred x):=by
   cases first with
   |true =>
    obtain⟨R1,ok,a1,a2,a3⟩:=zzd (wd:=wd) hw1 hD (hs.rules r hr0) h3 hW hmr hm hc hn fuel (hfu r hr0)
    exact⟨R1,ok,a1,a2,fun q x hx=>a3 q x (by simpa [zym] using hx)⟩
   |false =>
    obtain⟨R1,ok,a1,a2,a3⟩:=zzs (wd:=wd) hw1 hD hD0 (hs.rules r hr0) h3 hW hmr fuel (hfu r hr0) (hs.apart r hr0 r hr0) w.qj.length 0 R (by omega) hm hc hn
    refine⟨R1,ok,?_,a2,fun q x hx=>?_⟩
    ·unfold zit
     rw[if_neg (by simp)]
     exact a1
    ·have hx':∃ y,Late r D0 D 0 y/\x=zct r.head y:=by simpa [zym] using hx
     obtain⟨y,y1,rfl⟩:=hx'
     exact a3 q y y1
  obtain⟨R1,ok,a1,a2,a3⟩:=hone
  have ho1:zkq rs0 R1:=by
   intro q x hx
   rcases a2.sound q x hx with z|z
   ·exact ho q x z
   ·exact⟨r,hr0,z.1⟩
  unfold zf3
  rw[a1]
  cases ok with
  |false =>
   exact⟨R1,false,rfl,⟨a2.mid,a2.mono,fun q x hx=>(a2.sound q x hx).imp id fun z=>⟨r,by simp,z⟩,a2.yes,a2.no⟩,ho1,fun q=>by cases q⟩
  |true =>
   simp only
   obtain⟨R2,ok2,b1,b2,b3,b4⟩:=ih (fun x hx=>hsub x (by simp[hx])) R1 a2.mid (a2.yes rfl) ho1
   refine⟨R2,ok2,b1,⟨b2.mid,fun q x hx=>b2.mono q x (a2.mono q x hx),fun q x hx=>?_,b2.yes,b2.no⟩,b3,fun hok r' hr' x hx=>?_⟩
   ·rcases b2.sound q x hx with z|⟨r',z1,z2⟩
    ·exact(a2.sound q x z).imp id fun z=>⟨r,by simp,z⟩
    ·exact Or.inr ⟨r',by simp[z1],z2⟩
   ·rcases uag.1 hr' with rfl|hr'
    ·exact a2.mid.grow b2.mid b2.mono (a3 rfl x hx)
    ·exact b4 hok r' hr' x hx
theorem z8o{r:zah}{D:DB}(hD0:∀ p x,InD D0 p x->InD D p x){y:List Nat}(h1:∀ l∈r.qc,InD D l.pred (zct l y))(h2:∀ l∈r.qm,D l.pred (zct l y)=none):Late r D0 D 0 y∨Der r D0 (zct r.head y):=by
 by_cases hall:∀ l∈r.qc,InD D0 l.pred (zct l y)
 ·refine Or.inr ⟨y,hall,fun l hl=>?_,rfl⟩
  cases hq:D0 l.pred (zct l y) with
  |none=>rfl
  |some m =>
   have:=hD0 l.pred (zct l y) (by unfold InD;rw[hq];rfl)
   unfold InD at this
   rw[h2 l hl] at this
   cases this
 ·refine Or.inl ?_
  have hex:∃(j:Nat) (l:zak),r.qc[j]?=some l/\¬ InD D0 l.pred (zct l y):=by
   false_or_by_contra
   rename_i hno
   apply hall
   intro l hl
   obtain⟨i,hi,rfl⟩:=uau hl
   false_or_by_contra
   rename_i hq
   exact hno ⟨i,_,uac hi,hq⟩
  have hmin:∀ n j:Nat,j=n->(∃ l,r.qc[j]?=some l/\¬ InD D0 l.pred (zct l y))->∃(j:Nat) (l:zak),r.qc[j]?=some l/\¬ InD D0 l.pred (zct l y)/\∀(t:Nat) (l':zak),t < j->r.qc[t]?=some l'->InD D0 l'.pred (zct l' y):=by
   intro n
   induction n using Nat.strongRecOn with
   |_ n ih =>
    rintro j rfl ⟨l,hl,hq⟩
    by_cases hless:∃(t:Nat) (l':zak),t < j/\r.qc[t]?=some l'/\¬ InD D0 l'.pred (zct l' y)
    ·obtain⟨t,l',t1,t2,t3⟩:=hless
     exact ih t t1 t rfl ⟨l',t2,t3⟩
    ·refine⟨j,l,hl,hq,fun t l' t1 t2=>?_⟩
     false_or_by_contra
     rename_i t3
     exact hless ⟨t,l',t1,t2,t3⟩
  obtain⟨j0,l0,e1,e2⟩:=hex
  obtain⟨j,l,q1,q2,q3⟩:=hmin j0 j0 rfl ⟨l0,e1,e2⟩
  exact⟨j,l,uaj _,q1,h1 l (ubi q1),q2,fun t l' ht=>⟨fun z=>q3 t l' z ht,fun _=>h1 l' (ubi ht)⟩,h2⟩
theorem zmv{ar:List Nat}{W wd k:Nat}(hW:W=za4 wd){D0 D:DB}{c0:List Nat}{R':zbg}(hD0:∀ p x,InD D0 p x->InD D p x)(hm:Mid ar W k D c0 R')(hc:R'.count<=1048576)(fuel:Nat)(hfu:3 * (W+1)<=fuel) :
  ∀(ls:List zak) (vs:List zcs),vs.length=ls.length->(∀ l∈ls,l.pred < ar.length)->(∀(i:Nat) (l:zak) (V:zcs),ls[i]?=some l->vs[i]?=some V->zj6 V l W (InD D0 l.pred) (InD D l.pred) (fun x=>InD D l.pred x/\¬ InD D0 l.pred x) (c0.getD l.pred 0)) →
   ∃ vs',zhm fuel wd R'.qo vs=some vs'/\vs'.length=ls.length/\∀(i:Nat) (l:zak) (V:zcs),ls[i]?=some l->vs'[i]?=some V->zj6 V l W (InD D l.pred) (InD (zc2 ar R') l.pred) (fun x=>InD (zc2 ar R') l.pred x/\¬ InD D l.pred x) ((R'.rows.map (·.count)).getD l.pred 0)
 |[],[],_,_,_=>⟨[],rfl,rfl,fun i l V h=>by simp at h⟩
 |[],V::vs,hl,_,_=>by simp at hl
 |l::ls,[],hl,_,_=>by simp at hl
 |l::ls,V::vs,hl,hp,hv=>by
  have hV:=hv 0 l V rfl rfl
  have hpl:=hp l (by simp)
  have hpf:l.pred < R'.qo.length:=by rw[hm.flen];exact hpl
  have hpr:l.pred < R'.rows.length:=by rw[hm.inv.len];exact hpl
  have hfr:=hm.qo l.pred hpf
  have hcn:=hm.cnts l.pred hpr
  have hge:=zye R'.rows l.pred hpr
  rw[← hm.inv.cnt] at hge
  have hg:R'.qo.getD l.pred []=R'.qo[l.pred]:=getD_lt _ hpf
  rw[hg] at hcn
  obtain⟨V',v1,v2⟩:=zoy hV hW R'.qo[l.pred] (fun x hx=>(hfr.2 x hx).2.1) (by omega) fuel hfu
  obtain⟨vs',w1,w2,w3⟩:=zmv hW hD0 hm hc fuel hfu ls vs (by simpa using hl) (fun x hx=>hp x (by simp[hx])) (fun i l' V' h1 h2=>hv (i+1) l' V' (by simpa using h1) (by simpa using h2))
  have habs:∀ x,InD (zc2 ar R') l.pred x↔InD D l.pred x∨x∈R'.qo[l.pred]:=by
   intro x
   unfold InD
   rw[hm.abs,hg]
   cases hq:D l.pred x with
   |some m=>simp
   |none =>
    simp only
    by_cases hx:x∈R'.qo[l.pred]
    ·simp[hx]
    ·simp[hx]
  refine⟨V'::vs',?_,by simp[w2],fun i l' U h1 h2=>?_⟩
  ·unfold zhm
   rw[hV.lit,if_pos hpf,hg,v1,w1]
  ·cases i with
   |zero =>
    simp only[ubc,uab] at h1 h2
    subst h1;subst h2
    refine⟨v2.lit,v2.before.congr fun x=>?_,v2.qo.congr fun x=>?_,v2.all.congr fun x=>(habs x).symm,?_⟩
    ·constructor
     ·rintro(q|q)
      ·exact hD0 _ x q
      ·exact q.1
     ·intro q
      by_cases q0:InD D0 l.pred x
      ·exact Or.inl q0
      ·exact Or.inr ⟨q,q0⟩
    ·constructor
     ·intro q
      refine⟨(habs x).2 (Or.inr q),fun q2=>?_⟩
      unfold InD at q2
      rw[(hfr.2 x q).2.2] at q2
      cases q2
     ·rintro⟨q1,q2⟩
      exact((habs x).1 q1).resolve_left q2
    ·have e:(R'.rows.map (·.count)).getD l.pred 0=R'.rows[l.pred].count:=by simp[List.getD,hpr]
     rw[e,hcn]
     exact v2.few
   |succ i=>exact w3 i l' U (by simpa using h1) (by simpa using h2)
theorem zuo{ar:List Nat}{k:Nat}(hW:W=za4 wd){D:DB}{c0:List Nat}{R':zbg}(hD0:∀ p x,InD D0 p x->InD D p x)(hm:Mid ar W k D c0 R')(hc:R'.count<=1048576)(fuel:Nat)(hfu:3 * (W+1)<=fuel)(hw:zdi ar W D0 D c0 ws rs)(hp:∀ r∈rs,∀ l∈r.qc,l.pred < ar.length) :
  ∃ ws',zhn fuel wd R'.qo ws=some ws'/\zdi ar W D (zc2 ar R') (R'.rows.map (·.count)) ws' rs:=by
 induction hw with
 |nil=>exact⟨[],rfl,zdi.nil⟩
 |@cons w r ws rs hw1 hws ih =>
  obtain⟨ws',i1,i2⟩:=ih (fun x hx=>hp x (by simp[hx]))
  obtain⟨vs',v1,v2,v3⟩:=zmv hW hD0 hm hc fuel hfu r.qc w.qj hw1.len (hp r (by simp)) hw1.qj
  refine⟨{ w with qj:=vs' }::ws',?_,zdi.cons ⟨hw1.rule,v2,v3⟩ i2⟩
  unfold zhn
  rw[v1,i1]
def zsi(rs:List zah)(D:DB)(p:Nat)(x:zao):Prop:=∃ r∈rs,p=r.head.pred/\Der r D x
noncomputable def zg1(rs:List zah)(k:Nat)(D:DB):DB:=fun p x=>match D p x with
 |some m=>some m
 |none=>if zsi rs D p x then some k else none
theorem Mid.clear{ar:List Nat}{R:zbg}(h:zey ar W R):Mid ar W R.qw (zc2 ar R) (R.rows.map (·.count)) (zfa R):=by
 have hf:∀ p,(List.replicate R.rows.length ([]:List zao)).getD p []=[]:=fun p=>by
  by_cases hp:p < R.rows.length <;> simp[List.getD,hp]
 refine⟨⟨h.len,h.tries,h.cnt⟩,rfl,by simp[zfa,h.len],fun p hp=>?_,fun p x=>?_,fun p hp=>?_⟩
 ·simp only[zfa,uc8]
  exact⟨List.nodup_nil,fun x hx=>by cases hx⟩
 ·show zc2 ar R p x=match zc2 ar R p x with|some m=>some m|none=>if x∈(List.replicate R.rows.length ([]:List zao)).getD p [] then some R.qw else none
  rw[hf]
  cases zc2 ar R p x <;> simp
 ·show R.rows[p].count=(R.rows.map (·.count)).getD p 0+((List.replicate R.rows.length ([]:List zao)).getD p []).length
  have hp':p < R.rows.length:=hp
  rw[hf,show(R.rows.map (·.count)).getD p 0=R.rows[p].count by simp[List.getD,hp']]
  rfl
theorem Mid.start{ar:List Nat}{R:zbg}(h:zey ar W R):Mid ar W (R.qw+1) (zc2 ar R) (R.rows.map (·.count)) (zfa { R with qw:=R.qw+1 }) :=
 Mid.clear (R:={ R with qw:=R.qw+1 }) ⟨h.len,h.tries,h.cnt⟩
theorem z0d{ar:List Nat}(hWd:W=za4 wd)(h3:∀ a∈ar,a<=3){mr:Nat}(hmr:mr<=1048576)(fuel:Nat)(hs:znp rs ar W)(hfu:(∀ r∈rs,zf5 W r<=fuel)/\3 * (W+1)<=fuel)(first:Bool){R:zbg}(hi:zey ar W R)(hc:R.count<=mr)(hD0:∀ p x,InD D0 p x->InD (zc2 ar R) p x)(hw:zdi ar W D0 (zc2 ar R) (R.rows.map (·.count)) ws rs)(hcl:first=false->∀ p x,zsi rs D0 p x->InD (zc2 ar R) p x) :
  ∃ R' ws' ok,zqw fuel wd mr first ws R=some (R',ws',ok)/\zey ar W R'/\R'.qw=R.qw+1/\(∀ p x,InD (zc2 ar R') p x->InD (zg1 rs (R.qw+1) (zc2 ar R)) p x)/\(ok=false->R'.count > mr)/\(ok=true->R'.count<=mr/\zc2 ar R'=zg1 rs (R.qw+1) (zc2 ar R)/\zdi ar W (zc2 ar R) (zc2 ar R') (R'.rows.map (·.count)) ws' rs):=by
 have hW:0 < W:=by rw[hWd];unfold za4;split <;> omega
 have hst:=Mid.start hi
 have hfc:∀ q x,x∉(zfa { R with qw:=R.qw+1 }).qo.getD q []:=fun q x hx=>by
  have:(List.replicate R.rows.length ([]:List zao)).getD q []=[]:=by by_cases hp:q < R.rows.length <;> simp[List.getD,hp]
  have hx':x∈(List.replicate R.rows.length ([]:List zao)).getD q []:=hx
  rw[this] at hx'
  cases hx'
 obtain⟨R',ok,a1,a2,a3,a4⟩:=zrl (wd:=wd) (zlw ar R) hD0 h3 hW hmr fuel hs hfu.1 first hw (fun r hr=>hr) (zfa { R with qw:=R.qw+1 }) hst hc (fun q x hx=>absurd hx (hfc q x))
 have hsound:∀ p x,x∈R'.qo.getD p []->zsi rs (zc2 ar R) p x:=fun p x hx=>(a2.sound p x hx).resolve_left (hfc p x)
 have hsub:∀ p x,InD (zc2 ar R') p x->InD (zg1 rs (R.qw+1) (zc2 ar R)) p x:=by
  intro p x hx
  unfold InD at hx ⊢
  rw[a2.mid.abs] at hx
  unfold zg1
  cases hq:zc2 ar R p x with
  |some m=>rfl
  |none =>
   rw[hq] at hx
   simp only at hx ⊢
   by_cases hm:x∈R'.qo.getD p []
   ·rw[if_pos (hsound p x hm)];rfl
   ·rw[if_neg hm] at hx;cases hx
 unfold zqw
 rw[a1]
 cases ok with
 |false=>exact⟨R',ws,false,rfl,a2.mid.inv,a2.mid.qw,hsub,fun _=>a2.no rfl,fun q=>by cases q⟩
 |true =>
  have hcount:=a2.yes rfl
  obtain⟨ws',w1,w2⟩:=zuo hWd hD0 a2.mid (by omega) fuel hfu.2 hw (fun r hr l hl=>((hs.rules r hr).qc l hl).1)
  simp only[w1,ubp]
  refine⟨R',ws',true,rfl,a2.mid.inv,a2.mid.qw,hsub,fun q=>(by cases q),fun _=>⟨hcount,?_,w2⟩⟩
  have hcomp:∀ p x,zsi rs (zc2 ar R) p x->InD (zc2 ar R') p x:=by
   rintro p x ⟨r,hr,rfl,y,y1,y2,rfl⟩
   cases first with
   |true=>exact a4 rfl r hr _ (by simp only[zym,if_true];exact⟨y,y1,y2,rfl⟩)
   |false =>
    rcases z8o hD0 y1 y2 with q|q
    ·exact a4 rfl r hr _ (by simp only[zym];exact⟨y,q,rfl⟩)
    ·have h1:=hcl rfl r.head.pred _ ⟨r,hr,rfl,q⟩
     unfold InD at h1 ⊢
     rw[a2.mid.abs]
     cases hq:zc2 ar R r.head.pred (zct r.head y) with
     |some m=>rfl
     |none=>rw[hq] at h1;cases h1
  funext p x
  have hA:=a2.mid.abs p x
  unfold zg1
  rw[hA]
  cases hq:zc2 ar R p x with
  |some m=>rfl
  |none =>
   rw[hq] at hA
   simp only at hA ⊢
   by_cases hstp:zsi rs (zc2 ar R) p x
   ·have:=hcomp p x hstp
    unfold InD at this
    rw[hA] at this
    by_cases hm:x∈R'.qo.getD p []
    ·rw[if_pos hm,if_pos hstp]
    ·rw[if_neg hm] at this;cases this
   ·rw[if_neg hstp,if_neg (fun hm=>hstp (hsound p x hm))]
end Go.Proofs.YteampbddflhngaaGreat
namespace Go.Proofs.YteampbddflhngaaGreat
open Classical
theorem zjk{ar:List Nat}{W:Nat}{R:zbg}(h:zey ar W R)(h3:∀ a∈ar,a<=3){p:Nat}(hp:p < R.rows.length)(x:zao):x∈(keysT R.rows[p]).map (fun k=>pad k R.rows[p].qp)↔InD (zc2 ar R) p x:=by
 obtain⟨t1,t2,t3,t4⟩:=h.tries p hp
 have hpa:p < ar.length:=by rw[← h.len];exact hp
 have ha3:ar.getD p 0<=3:=by rw[getD_lt _ hpa];exact h3 _ (uad hpa)
 have hd3:R.rows[p].qp<=3:=by rw[t3];exact(zec _).2
 have hgd:R.rows.getD p zad.zero=R.rows[p]:=getD_lt _ hp
 unfold InD zc2
 constructor
 ·intro hx
  obtain⟨k,hk,rfl⟩:=uai.1 hx
  obtain⟨k1,k2⟩:=(zbp _ k).1 hk
  rw[if_pos ⟨hpa,t4 k hk⟩,hgd,t1.mark _ (z3p k1 hd3),zlh k1]
  exact k2
 ·intro hx
  by_cases hc:p < ar.length/\Canon (ar.getD p 0) x
  ·rw[if_pos hc,hgd,t1.mark x hc.2.1] at hx
   refine uai.2 ⟨x.take R.rows[p].qp,(zbp _ _).2 ⟨by rw[ua2,hc.2.1];omega,hx⟩,?_⟩
   rw[t3,zuh ha3 hc.2]
  ·rw[if_neg hc] at hx;cases hx
def zj4(D:DB)(n:Nat):Prop:=∃ l:List (Nat × zao),l.Nodup/\(∀ p x,(p,x)∈l↔InD D p x)/\l.length=n
theorem zmb:∀ {l1 l2:List (Nat × zao)},l1.Nodup->(∀ x∈l1,x∈l2)->l1.length<=l2.length
 |[],l2,_,_=>by simp
 |a::l1,l2,hn,hs=>by
  have ha:=hs a (by simp)
  have h1:=zmb (l1:=l1) (l2:=l2.erase a) (ubk.1 hn).2 (fun x hx=>by
   have hne:x≠a:=by rintro rfl;exact(ubk.1 hn).1 hx
   exact(uci hne).2 (hs x (by simp[hx])))
  rw[ucd ha] at h1
  have:=ub9 ha
  simp;omega
theorem zvr{D E:DB}{n m:Nat}(h:zj4 D n)(k:zj4 E m)(hs:∀ p x,InD D p x->InD E p x):n<=m:=by
 obtain⟨l,h1,h2,rfl⟩:=h
 obtain⟨l',k1,k2,rfl⟩:=k
 exact zmb h1 fun x hx=>(k2 x.1 x.2).2 (hs _ _ ((h2 x.1 x.2).1 hx))
theorem z1h{D E:DB}{n m:Nat}(h:zj4 D n)(k:zj4 E m)(hs:∀ p x,InD D p x->InD E p x)(hnm:m<=n):∀ p x,InD E p x->InD D p x:=by
 intro p x hx
 false_or_by_contra
 rename_i hn
 obtain⟨l,h1,h2,rfl⟩:=h
 obtain⟨l',k1,k2,rfl⟩:=k
 have:=zmb (l1:=(p,x)::l) (l2:=l') (ubk.2 ⟨fun q=>hn ((h2 p x).1 q),h1⟩) (fun y hy=>by
  rcases uag.1 hy with rfl|hy
  ·exact(k2 p x).2 hx
  ·exact(k2 y.1 y.2).2 (hs _ _ ((h2 y.1 y.2).1 hy)))
 simp at this
 omega
theorem zey.card{ar:List Nat}{W:Nat}{R:zbg}(h:zey ar W R)(h3:∀ a∈ar,a<=3):zj4 (zc2 ar R) R.count:=by
 refine⟨(List.range R.rows.length).flatMap fun p=>((keysT (R.rows.getD p zad.zero)).map fun k=>pad k (R.rows.getD p zad.zero).qp).map fun x=>(p,x),?_,fun p x=>?_,?_⟩
 ·unfold List.Nodup
  rw[List.pairwise_flatMap]
  refine⟨fun p hp=>?_,?_⟩
  ·have hp':p < R.rows.length:=ucg.1 hp
   obtain⟨t1,t2,t3,t4⟩:=h.tries p hp'
   rw[List.pairwise_map,getD_lt _ hp',List.pairwise_map]
   refine List.Pairwise.imp_of_mem ?_ (zkf R.rows[p] R.rows[p].qp 0 0)
   intro a b ha hb hne e
   simp only[uak,true_and] at e
   have h1:=((zbp R.rows[p] a).1 ha).1
   have h2:=((zbp R.rows[p] b).1 hb).1
   have:=congrArg (List.take R.rows[p].qp) e
   rw[zlh h1,zlh h2] at this
   exact hne this
  ·refine List.Pairwise.imp ?_ (List.nodup_range (n:=R.rows.length))
   intro a b hne x hx y hy e
   obtain⟨_,_,rfl⟩:=uai.1 hx
   obtain⟨_,_,rfl⟩:=uai.1 hy
   simp only[uak] at e
   exact hne e.1
 ·simp only[ubo,ucg]
  constructor
  ·rintro⟨q,hq,hx⟩
   obtain⟨z,hz,e⟩:=uai.1 hx
   simp only[uak] at e
   obtain⟨rfl,rfl⟩:=e
   rw[getD_lt _ hq] at hz
   exact(zjk h h3 hq z).1 hz
  ·intro hx
   have hp:p < R.rows.length:=by rw[h.len];exact(zlw ar R p x hx).1
   refine⟨p,hp,uai.2 ⟨x,?_,rfl⟩⟩
   rw[getD_lt _ hp]
   exact(zjk h h3 hp x).2 hx
 ·rw[List.length_flatMap,h.cnt]
  congr 1
  refine ubg (by simp) fun i h1 h2=>?_
  have hi:i < R.rows.length:=by simpa using h1
  simp only[uaw,ub0,ua0,getD_lt zad.zero hi]
  exact(h.tries i hi).1.cnt
def z3f:DB:=fun _ _=>none
theorem zo7{ar:List Nat}{W wd:Nat}(hWd:W=za4 wd)(h3:∀ a∈ar,a<=3){R:zbg}(h:zey ar W R)(hc:R.count<=1048576)(fuel:Nat)(hfu:3 * (W+1)<=fuel):∀(ls:List zak),(∀ l∈ls,l.pred < ar.length)->∃ vs,zls fuel wd R ls=some vs/\vs.length=ls.length/\∀(i:Nat) (l:zak) (V:zcs),ls[i]?=some l->vs[i]?=some V->zj6 V l W (InD z3f l.pred) (InD (zc2 ar R) l.pred) (fun x=>InD (zc2 ar R) l.pred x/\¬ InD z3f l.pred x) ((R.rows.map (·.count)).getD l.pred 0)
 |[],_=>⟨[],rfl,rfl,fun i l V h=>by simp at h⟩
 |l::ls,hp=>by
  obtain⟨vs,v1,v2,v3⟩:=zo7 hWd h3 h hc fuel hfu ls (fun x hx=>hp x (by simp[hx]))
  have hpl:l.pred < R.rows.length:=by rw[h.len];exact hp l (by simp)
  obtain⟨t1,t2,t3,t4⟩:=h.tries l.pred hpl
  have hge:=zye R.rows l.pred hpl
  rw[← h.cnt] at hge
  have hW0:0 < W:=by rw[hWd];unfold za4;split <;> omega
  have hrow:zgf wd R l.pred=R.rows[l.pred]:=by unfold zgf;rw[if_neg (by omega),getD_lt _ hpl]
  have hrg:=t1.rowsG fuel (by rw[t2];exact hfu) (by omega)
  have h0:zj6 (zex wd l) l W (fun _=>False) (fun _=>False) (fun _=>False) 0:=⟨rfl,zdy.new l wd W hWd,zdy.new l wd W hWd,zdy.new l wd W hWd,by simp[zex,zfv,zb8],by simp[zex,zfv,zb8]⟩
  have hlen:((keysT R.rows[l.pred]).map fun k=>pad k R.rows[l.pred].qp).length=R.rows[l.pred].count:=by rw[ua0];exact t1.cnt
  obtain⟨V',w1,w2⟩:=zoy h0 hWd ((keysT R.rows[l.pred]).map fun k=>pad k R.rows[l.pred].qp) (fun x hx=>by
   obtain⟨k,hk,rfl⟩:=uai.1 hx
   refine zui hW0 ?_
   intro v hv
   have:=zlp k 0 ((zbp _ k).1 hk).2 v hv
   rw[t2] at this
   exact this) (by rw[hlen];omega) fuel hfu
  have hnone:∀ x,¬ InD z3f l.pred x:=fun x q=>by cases q
  refine⟨V'::vs,?_,by simp[v2],fun i l' U e1 e2=>?_⟩
  ·unfold zls
   rw[hrow,hrg]
   simp only[w1,v1]
  ·cases i with
   |zero =>
    simp only[ubc,uab] at e1 e2
    subst e1;subst e2
    refine⟨w2.lit,w2.before.congr fun x=>⟨fun q=>by rcases q with q|q <;> exact q.elim,fun q=>absurd q (hnone x)⟩,w2.qo.congr fun x=>?_,w2.all.congr fun x=>?_,?_⟩
    ·rw[zjk h h3 hpl]
     exact⟨fun q=>⟨q,hnone x⟩,fun q=>q.1⟩
    ·rw[zjk h h3 hpl]
     exact⟨fun q=>q.resolve_left id,Or.inr⟩
    ·have e:(R.rows.map (·.count)).getD l.pred 0=R.rows[l.pred].count:=by simp[List.getD,hpl]
     have:=w2.few
     rw[hlen] at this
     rw[e]
     simpa using this
   |succ i=>exact v3 i l' U (by simpa using e1) (by simpa using e2)
theorem zo8{ar:List Nat}{W wd:Nat}(hWd:W=za4 wd)(h3:∀ a∈ar,a<=3){R:zbg}(h:zey ar W R)(hc:R.count<=1048576)(fuel:Nat)(hfu:3 * (W+1)<=fuel)(s:Nat):∀(rules:List zah),(∀ r∈rules,∀ l∈r.qc,l.pred < ar.length)->∃ ws,worksR fuel wd R s rules=some ws/\zdi ar W z3f (zc2 ar R) (R.rows.map (·.count)) ws (rules.filter fun r=>decide (r.qi=s))
 |[],_=>⟨[],rfl,zdi.nil⟩
 |r::rules,hp=>by
  obtain⟨ws,w1,w2⟩:=zo8 hWd h3 h hc fuel hfu s rules (fun x hx=>hp x (by simp[hx]))
  unfold worksR
  by_cases hs:r.qi=s
  ·obtain⟨vs,v1,v2,v3⟩:=zo7 hWd h3 h hc fuel hfu r.qc (hp r (by simp))
   rw[if_pos hs,v1,w1]
   refine⟨⟨r,vs⟩::ws,rfl,?_⟩
   rw[List.filter_cons_of_pos (by simp[hs])]
   exact zdi.cons ⟨rfl,v2,v3⟩ w2
  ·rw[if_neg hs]
   refine⟨ws,w1,?_⟩
   rw[List.filter_cons_of_neg (by simp[hs])]
   exact w2
theorem zdi.length{ar:List Nat}{W:Nat}{D0 D:DB}{c:List Nat}{ws:List zbk}{rs:List zah}(h:zdi ar W D0 D c ws rs):ws.length=rs.length:=by
 induction h with
 |nil=>rfl
 |cons _ _ ih=>simp[ih]
end Go.Proofs.YteampbddflhngaaGreat
