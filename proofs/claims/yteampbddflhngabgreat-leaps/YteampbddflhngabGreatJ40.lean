import Derived.Test.YteampbddflhngabGreatJ39

namespace Go.Proofs.YteampbddflhngabGreat
open Classical
def InD(D:DB)(p:Nat)(x:zaq):Prop:=(D p x).isSome=true
def Der(r:zaf)(D:DB)(x:zaq):Prop:=∃ y,(∀ l∈r.plain,InD D l.pred (zcp l y))/\(∀ l∈r.nots,D l.pred (zcp l y)=none)/\x=zcp r.head y
structure zmt (r:zaf) (ar:List Nat) (W:Nat):Prop where
 fine:zfv r
 hpred:r.head.pred < ar.length
 head:zg9 r.head (ar.getD r.head.pred 0) W
 plain:∀ l∈r.plain,l.pred < ar.length/\zg9 l (ar.getD l.pred 0) W
 nots:∀ l∈r.nots,l.pred < ar.length/\zg9 l (ar.getD l.pred 0) W
def z7g(ar:List Nat)(D:DB):Prop:=∀ p x,InD D p x->p < ar.length/\Canon (ar.getD p 0) x
theorem zzo(ar:List Nat)(R:zbt):z7g ar (zdb ar R):=by
 intro p x h
 unfold InD zdb at h
 split at h
 ·assumption
 ·cases h
theorem z18{r:zaf}{ar:List Nat}{W wd:Nat}(hr:zmt r ar W){R:zbt}(hi:ze1 ar W R){Ts:List zad}{P:Nat->zaq->Prop}(hlen:Ts.length=r.plain.length)(hT:∀(i:Nat) (l:zai) (T:zad),r.plain[i]?=some l->Ts[i]?=some T->zdp T l W (P i)/\∀ x,P i x->Canon (ar.getD l.pred 0) x)(y:List Nat) :
  zrf r Ts (zhc wd R r) y↔(∀(i:Nat) (l:zai),r.plain[i]?=some l->P i (zcp l y))/\∀ l∈r.nots,zdb ar R l.pred (zcp l y)=none:=by
 have hbar:∀ l∈r.nots,zes (zf8 wd R l.pred) (zcp l y)=zdb ar R l.pred (zcp l y):=by
  intro l hl
  obtain⟨q1,q2⟩:=hr.nots l hl
  unfold zf8 zdb
  rw[if_neg (by rw[hi.len];omega),if_pos ⟨q1,zi5 q2 y⟩]
 unfold zrf zhc
 constructor
 ·rintro⟨h1,h2⟩
  refine⟨fun i l hl=>?_,fun l hl=>?_⟩
  ·have hit:i < Ts.length:=by rw[hlen];exact(List.getElem?_eq_some_iff.1 hl).1
   obtain⟨v1,v2⟩:=hT i l _ hl (List.getElem?_eq_getElem hit)
   exact(v1.sat (hr.plain l (List.mem_of_getElem? hl)).2 v2 y).1 (h1 i l _ hl (List.getElem?_eq_getElem hit))
  ·rw[← hbar l hl]
   obtain⟨i,hi2,rfl⟩:=List.getElem_of_mem hl
   exact h2 (r.nots[i],zf8 wd R r.nots[i].pred) (List.mem_iff_getElem.2 ⟨i,by simp[hi2],by simp⟩)
 ·rintro⟨h1,h2⟩
  refine⟨fun i l T hl hTi=>?_,fun x hx=>?_⟩
  ·obtain⟨v1,v2⟩:=hT i l T hl hTi
   exact(v1.sat (hr.plain l (List.mem_of_getElem? hl)).2 v2 y).2 (h1 i l hl)
  ·obtain⟨i,hi2,rfl⟩:=List.mem_iff_getElem.1 hx
   simp only[List.length_zip,List.length_map] at hi2
   have hi3:i < r.nots.length:=by omega
   simp only[List.getElem_zip,List.getElem_map]
   rw[hbar _ (List.getElem_mem hi3)]
   exact h2 _ (List.getElem_mem hi3)
structure zuf (ar:List Nat) (W:Nat) (w:zbe) (r:zaf) (D0 D:DB) (c:List Nat):Prop where
 rule:w.rule=r
 len:w.views.length=r.plain.length
 views:∀(i:Nat) (l:zai) (V:zco),r.plain[i]?=some l->w.views[i]?=some V->zjm V l W (InD D0 l.pred) (InD D l.pred) (fun x=>InD D l.pred x/\¬ InD D0 l.pred x) (c.getD l.pred 0)
def zfy(W:Nat)(r:zaf):Nat:=zgo W r.vars 0 [] 0+(W * (r.plain.length+1)+r.plain.length)+3
theorem zsm{ar:List Nat}{W wd k:Nat}{D:DB}{c0:List Nat}{r:zaf}(hr:zmt r ar W)(h3:∀ a∈ar,a<=3)(hW:0 < W){mr:Nat}(hmr:mr<=1048576){R:zbt}(hm:Mid ar W k D c0 R)(hc:R.count<=mr){Ts:List zad}{P:Nat->zaq->Prop}(hlen:Ts.length=r.plain.length)(hT:∀(i:Nat) (l:zai) (T:zad),r.plain[i]?=some l->Ts[i]?=some T->zdp T l W (P i)/\∀ x,P i x->Canon (ar.getD l.pred 0) x)(hn:∀ l∈r.nots,∀ x,zdb ar R l.pred x=D l.pred x)(fuel:Nat)(hfu:zfy W r<=fuel) :
  ∃ R' ok,zde mr r.head.pred fuel R (za0 r Ts (zhc wd R r))=some (R',ok)/\zv6 ar W k D c0 r.head.pred mr (fun x=>∃ y,((∀(i:Nat) (l:zai),r.plain[i]?=some l->P i (zcp l y))/\∀ l∈r.nots,D l.pred (zcp l y)=none)/\x=zcp r.head y) R R' ok:=by
 have hf:zdo r Ts W:=⟨hlen,fun i l T hl hTi=>by obtain⟨v,_⟩:=hT i l T hl hTi;exact⟨v.ok,v.depth,by rw[v.width];exact Nat.le_refl _⟩⟩
 have hfu':zgo W r.vars 0 [] 0+(W * (r.plain.length+1)+r.plain.length)+3<=fuel:=hfu
 obtain⟨R',ok,a1,a2⟩:=zug (Ns:=zhc wd R r) (D0:=D) (c0:=c0) (k:=k) hr.fine hf h3 hW hr.hpred hr.head _ (Nat.le_refl _) hmr fuel R _ _ hm hc (zsk hr.fine hf _) (by omega)
 have hsol:∀ x,(∃ y,zrf r Ts (zhc wd R r) y/\x=zcp r.head y)↔∃ y,((∀(i:Nat) (l:zai),r.plain[i]?=some l->P i (zcp l y))/\∀ l∈r.nots,D l.pred (zcp l y)=none)/\x=zcp r.head y:=by
  intro x
  constructor
  ·rintro⟨y,q1,q2⟩
   obtain⟨s1,s2⟩:=(z18 hr hm.inv hlen hT y).1 q1
   exact⟨y,⟨s1,fun l hl=>by rw[← hn l hl];exact s2 l hl⟩,q2⟩
  ·rintro⟨y,q1,q2⟩
   exact⟨y,(z18 hr hm.inv hlen hT y).2 ⟨q1.1,fun l hl=>by rw[hn l hl];exact q1.2 l hl⟩,q2⟩
 exact⟨R',ok,a1,a2.mid,a2.mono,fun q x hx=>(a2.sound q x hx).imp id fun z=>⟨z.1,(hsol x).1 z.2⟩,fun q=>⟨(a2.yes q).1,fun x hx=>(a2.yes q).2 x ((hsol x).2 hx)⟩,a2.no⟩
structure zqb (ar:List Nat) (W k:Nat) (D:DB) (c0:List Nat) (mr:Nat) (want:Nat->zaq->Prop) (R R':zbt) (ok:Bool):Prop where
 mid:Mid ar W k D c0 R'
 mono:∀ q x,x∈R.fresh.getD q []->x∈R'.fresh.getD q []
 sound:∀ q x,x∈R'.fresh.getD q []->x∈R.fresh.getD q []∨want q x
 yes:ok=true->R'.count<=mr
 no:ok=false->R'.count > mr
theorem zx3{ar:List Nat}{W wd k:Nat}{D0 D:DB}{c0:List Nat}{w:zbe}{r:zaf}(hw:zuf ar W w r D0 D c0)(hD:z7g ar D)(hr:zmt r ar W)(h3:∀ a∈ar,a<=3)(hW:0 < W){mr:Nat}(hmr:mr<=1048576){R:zbt}(hm:Mid ar W k D c0 R)(hc:R.count<=mr)(hn:∀ l∈r.nots,∀ x,zdb ar R l.pred x=D l.pred x)(fuel:Nat)(hfu:zfy W r<=fuel) :
  ∃ R' ok,zih fuel wd mr true R w=some (R',ok)/\zqb ar W k D c0 mr (fun q x=>q=r.head.pred/\Der r D x) R R' ok/\(ok=true->∀ x,Der r D x->InD (zdb ar R') r.head.pred x):=by
 have hT:∀(i:Nat) (l:zai) (T:zad),r.plain[i]?=some l->(w.views.map (·.all))[i]?=some T->zdp T l W ((fun i x=>∃ l,r.plain[i]?=some l/\InD D l.pred x) i)/\∀ x,(fun i x=>∃ l,r.plain[i]?=some l/\InD D l.pred x) i x->Canon (ar.getD l.pred 0) x:=by
  intro i l T hl hTi
  simp only[List.getElem?_map,Option.map_eq_some_iff] at hTi
  obtain⟨V,hV,rfl⟩:=hTi
  refine⟨(hw.views i l V hl hV).all.congr fun x=>⟨fun q=>⟨l,hl,q⟩,fun⟨l',q1,q2⟩=>?_⟩,fun x ⟨l',q1,q2⟩=>?_⟩
  ·rw[hl] at q1;simp only[Option.some.injEq] at q1;subst q1;exact q2
  ·rw[hl] at q1;simp only[Option.some.injEq] at q1;subst q1;exact(hD _ x q2).2
 obtain⟨R',ok,a1,a2⟩:=zsm (wd:=wd) hr h3 hW hmr hm hc (by simp[hw.len]) hT hn fuel hfu
 have hder:∀ x,(∃ y,((∀(i:Nat) (l:zai),r.plain[i]?=some l->(∃ l',r.plain[i]?=some l'/\InD D l'.pred (zcp l y)))/\∀ l∈r.nots,D l.pred (zcp l y)=none)/\x=zcp r.head y)↔Der r D x:=by
  intro x
  constructor
  ·rintro⟨y,⟨q1,q2⟩,q3⟩
   refine⟨y,fun l hl=>?_,q2,q3⟩
   obtain⟨i,hi,rfl⟩:=List.getElem_of_mem hl
   obtain⟨l',s1,s2⟩:=q1 i _ (List.getElem?_eq_getElem hi)
   rw[List.getElem?_eq_getElem hi] at s1
   simp only[Option.some.injEq] at s1
   subst s1
   exact s2
  ·rintro⟨y,q1,q2,q3⟩
   exact⟨y,⟨fun i l hl=>⟨l,hl,q1 l (List.mem_of_getElem? hl)⟩,q2⟩,q3⟩
 unfold zih
 rw[if_pos rfl,hw.rule]
 exact⟨R',ok,a1,⟨a2.mid,a2.mono,fun q x hx=>(a2.sound q x hx).imp id fun z=>⟨z.1,(hder x).1 z.2⟩,fun q=>(a2.yes q).1,a2.no⟩,fun q x hx=>(a2.yes q).2 x ((hder x).2 hx)⟩
def Late(r:zaf)(D0 D:DB)(i:Nat)(y:List Nat):Prop:=∃(j:Nat) (l:zai),i<=j/\r.plain[j]?=some l/\InD D l.pred (zcp l y)/\¬ InD D0 l.pred (zcp l y)/\(∀(t:Nat) (l':zai),r.plain[t]?=some l'->(t < j->InD D0 l'.pred (zcp l' y))/\(j < t->InD D l'.pred (zcp l' y)))/\∀ l∈r.nots,D l.pred (zcp l y)=none
theorem zyh{ar:List Nat}{W wd k:Nat}{D0 D:DB}{c0:List Nat}{w:zbe}{r:zaf}(hw:zuf ar W w r D0 D c0)(hD:z7g ar D)(hD0:∀ p x,InD D0 p x->InD D p x)(hr:zmt r ar W)(h3:∀ a∈ar,a<=3)(hW:0 < W){mr:Nat}(hmr:mr<=1048576)(fuel:Nat)(hfu:zfy W r<=fuel)(hnh:∀ l∈r.nots,l.pred≠r.head.pred) :
  ∀(n i:Nat) (R:zbt),i+n=w.views.length->Mid ar W k D c0 R->R.count<=mr->(∀ l∈r.nots,∀ x,zdb ar R l.pred x=D l.pred x)->∃ R' ok,zgn fuel wd mr w n i R=some (R',ok)/\zqb ar W k D c0 mr (fun q x=>q=r.head.pred/\Der r D x) R R' ok/\(ok=true->∀ y,Late r D0 D i y->InD (zdb ar R') r.head.pred (zcp r.head y)):=by
 intro n
 induction n with
 |zero =>
  intro i R hi hm hc _
  refine⟨R,true,rfl,⟨hm,fun q x hx=>hx,fun q x hx=>Or.inl hx,fun _=>hc,fun q=>by cases q⟩,fun _ y hy=>?_⟩
  obtain⟨j,l,q1,q2,_⟩:=hy
  have:=(List.getElem?_eq_some_iff.1 q2).1
  have:=hw.len
  omega
 |succ n ih =>
  intro i R hi hm hc hn
  have hiv:i < w.views.length:=by omega
  have hip:i < r.plain.length:=by rw[← hw.len];exact hiv
  have hV:=hw.views i _ _ (List.getElem?_eq_getElem hip) (List.getElem?_eq_getElem hiv)
  have hlw:=(hr.plain _ (List.getElem_mem hip)).2
  have hg:w.views.getD i ⟨⟨0,[]⟩,zad.zero,zad.zero,zad.zero⟩=w.views[i]:=getD_lt _ hiv
  unfold zgn
  rw[hg]
  by_cases hcnt:w.views[i].fresh.count > 0
  ·rw[if_pos hcnt]
   have hT:∀(t:Nat) (l:zai) (T:zad),r.plain[t]?=some l->(partly w.views i)[t]?=some T->zdp T l W ((fun t x=>∃ l,r.plain[t]?=some l/\(t < i->InD D0 l.pred x)/\(t=i->InD D l.pred x/\¬ InD D0 l.pred x)/\(i < t->InD D l.pred x)) t)/\∀ x,(fun t x=>∃ l,r.plain[t]?=some l/\(t < i->InD D0 l.pred x)/\(t=i->InD D l.pred x/\¬ InD D0 l.pred x)/\(i < t->InD D l.pred x)) t x->Canon (ar.getD l.pred 0) x:=by
    intro t l T hl hTi
    unfold partly at hTi
    simp only[List.getElem?_map,Option.map_eq_some_iff,List.getElem?_zipIdx] at hTi
    obtain⟨⟨V,j⟩,⟨V',hV',hVe⟩,rfl⟩:=hTi
    simp only[Nat.zero_add,Prod.mk.injEq] at hVe
    obtain⟨rfl,rfl⟩:=hVe
    have hVt:=hw.views t l V' hl hV'
    have hcan:∀ x,(∃ l,r.plain[t]?=some l/\(t < i->InD D0 l.pred x)/\(t=i->InD D l.pred x/\¬ InD D0 l.pred x)/\(i < t->InD D l.pred x))->Canon (ar.getD l.pred 0) x:=by
     rintro x ⟨l',q1,q2,q3,q4⟩
     rw[hl] at q1;simp only[Option.some.injEq] at q1;subst q1
     rcases Nat.lt_trichotomy t i with z|z|z
     ·exact(hD _ x (hD0 _ x (q2 z))).2
     ·exact(hD _ x (q3 z).1).2
     ·exact(hD _ x (q4 z)).2
    refine⟨?_,hcan⟩
    simp only
    by_cases h1:t < i
    ·rw[if_pos h1]
     refine hVt.before.congr fun x=>⟨fun q=>⟨l,hl,fun _=>q,fun z=>by omega,fun z=>by omega⟩,fun⟨l',q1,q2,_,_⟩=>?_⟩
     rw[hl] at q1;simp only[Option.some.injEq] at q1;subst q1;exact q2 h1
    ·rw[if_neg h1]
     by_cases h2:t=i
     ·rw[if_pos h2]
      refine hVt.fresh.congr fun x=>⟨fun q=>⟨l,hl,fun z=>by omega,fun _=>q,fun z=>by omega⟩,fun⟨l',q1,_,q3,_⟩=>?_⟩
      rw[hl] at q1;simp only[Option.some.injEq] at q1;subst q1;exact q3 h2
     ·rw[if_neg h2]
      refine hVt.all.congr fun x=>⟨fun q=>⟨l,hl,fun z=>by omega,fun z=>by omega,fun _=>q⟩,fun⟨l',q1,_,_,q4⟩=>?_⟩
      rw[hl] at q1;simp only[Option.some.injEq] at q1;subst q1;exact q4 (by omega)
   obtain⟨R1,ok,a1,a2⟩:=zsm (wd:=wd) hr h3 hW hmr hm hc (by simp[partly,hw.len]) hT hn fuel hfu
   rw[hw.rule,a1]
   have hsound:∀ x,(∃ y,((∀(t:Nat) (l:zai),r.plain[t]?=some l->(∃ l',r.plain[t]?=some l'/\(t < i->InD D0 l'.pred (zcp l y))/\(t=i->InD D l'.pred (zcp l y)/\¬ InD D0 l'.pred (zcp l y))/\(i < t->InD D l'.pred (zcp l y))))/\∀ l∈r.nots,D l.pred (zcp l y)=none)/\x=zcp r.head y)->Der r D x:=by
    rintro x ⟨y,⟨q1,q2⟩,q3⟩
    refine⟨y,fun l hl=>?_,q2,q3⟩
    obtain⟨t,ht,rfl⟩:=List.getElem_of_mem hl
    obtain⟨l',s1,s2,s3,s4⟩:=q1 t _ (List.getElem?_eq_getElem ht)
    rw[List.getElem?_eq_getElem ht] at s1
    simp only[Option.some.injEq] at s1
    subst s1
    rcases Nat.lt_trichotomy t i with z|z|z
    ·exact hD0 _ _ (s2 z)
    ·exact(s3 z).1
    ·exact s4 z
   cases ok with
   |false =>
    exact⟨R1,false,rfl,⟨a2.mid,a2.mono,fun q x hx=>(a2.sound q x hx).imp id fun z=>⟨z.1,hsound x z.2⟩,(fun q=>by cases q),a2.no⟩,fun q=>by cases q⟩
   |true =>
    simp only
    obtain⟨b1,b2⟩:=a2.yes rfl
    have hn1:∀ l∈r.nots,∀ x,zdb ar R1 l.pred x=D l.pred x:=by
     intro l hl x
     have hne:=hnh l hl
     rw[a2.mid.abs,← hn l hl x,hm.abs]
     cases hq:D l.pred x with
     |some m=>rfl
     |none =>
      simp only
      by_cases hx:x∈R.fresh.getD l.pred []
      ·rw[if_pos hx,if_pos (a2.mono _ x hx)]
      ·rw[if_neg hx,if_neg]
       intro hx2
       rcases a2.sound _ x hx2 with z|z
       ·exact hx z
       ·exact hne z.1
    obtain⟨R2,ok2,c1,c2,c3⟩:=ih (i+1) R1 (by omega) a2.mid b1 hn1
    refine⟨R2,ok2,c1,⟨c2.mid,fun q x hx=>c2.mono q x (a2.mono q x hx),fun q x hx=>?_,c2.yes,c2.no⟩,fun hok y hy=>?_⟩
    ·rcases c2.sound q x hx with z|z
     ·exact(a2.sound q x z).imp id fun z=>⟨z.1,hsound x z.2⟩
     ·exact Or.inr z
    ·obtain⟨j,l,q1,q2,q3,q4,q5,q6⟩:=hy
     by_cases hji:j=i
     ·subst hji
      refine a2.mid.grow c2.mid c2.mono (b2 _ ⟨y,⟨fun t l' hl'=>⟨l',hl',fun z=>(q5 t l' hl').1 z,fun z=>?_,fun z=>(q5 t l' hl').2 z⟩,q6⟩,rfl⟩)
      subst z
      rw[q2] at hl';simp only[Option.some.injEq] at hl';subst hl'
      exact⟨q3,q4⟩
     ·exact c3 hok y ⟨j,l,by omega,q2,q3,q4,q5,q6⟩
  ·rw[if_neg hcnt]
   obtain⟨R2,ok2,c1,c2,c3⟩:=ih (i+1) R (by omega) hm hc hn
   refine⟨R2,ok2,c1,c2,fun hok y hy=>?_⟩
   obtain⟨j,l,q1,q2,q3,q4,q5,q6⟩:=hy
   by_cases hji:j=i
   ·subst hji
    rw[List.getElem?_eq_getElem hip] at q2
    simp only[Option.some.injEq] at q2
    subst q2
    have hs:=(hV.fresh.sat hlw (fun x hx=>(hD _ x hx.1).2) y).2 ⟨q3,q4⟩
    exact absurd (Nat.pos_of_ne_zero (hs.count hV.fresh.ok hV.fresh.depth (hr.fine.terms _ (List.getElem_mem hip)))) hcnt
   ·exact c3 hok y ⟨j,l,by omega,q2,q3,q4,q5,q6⟩
structure zmv (rs:List zaf) (ar:List Nat) (W:Nat):Prop where
 rules:∀ r∈rs,zmt r ar W
 apart:∀ r∈rs,∀ r'∈rs,∀ l∈r.nots,l.pred≠r'.head.pred
def zj8(rs:List zaf)(R:zbt):Prop:=∀ q x,x∈R.fresh.getD q []->∃ r∈rs,q=r.head.pred
theorem Mid.nots{ar:List Nat}{W k:Nat}{D:DB}{c0:List Nat}{R:zbt}{rs:List zaf}(h:Mid ar W k D c0 R)(hs:zmv rs ar W)(ho:zj8 rs R){r:zaf}(hr:r∈rs):∀ l∈r.nots,∀ x,zdb ar R l.pred x=D l.pred x:=by
 intro l hl x
 rw[h.abs]
 cases hq:D l.pred x with
 |some m=>rfl
 |none =>
  simp only
  rw[if_neg]
  intro hx
  obtain⟨r',h1,h2⟩:=ho _ x hx
  exact hs.apart r hr r' h1 l hl h2
inductive zda (ar:List Nat) (W:Nat) (D0 D:DB) (c:List Nat):List zbe->List zaf->Prop
 |nil:zda ar W D0 D c [] []
 |cons {w:zbe} {r:zaf} {ws:List zbe} {rs:List zaf}:zuf ar W w r D0 D c->zda ar W D0 D c ws rs->zda ar W D0 D c (w::ws) (r::rs)
def zxe(first:Bool)(r:zaf)(D0 D:DB)(x:zaq):Prop:=if first then Der r D x else ∃ y,Late r D0 D 0 y/\x=zcp r.head y
theorem zql{ar:List Nat}{W wd k:Nat}{D0 D:DB}{c0:List Nat}(hD:z7g ar D)(hD0:∀ p x,InD D0 p x->InD D p x)(h3:∀ a∈ar,a<=3)(hW:0 < W){mr:Nat}(hmr:mr<=1048576)(fuel:Nat){rs0:List zaf}(hs:zmv rs0 ar W)(hfu:∀ r∈rs0,zfy W r<=fuel)(first:Bool){ws:List zbe}{rs:List zaf}(hw:zda ar W D0 D c0 ws rs)(hsub:∀ r∈rs,r∈rs0) :
  ∀(R:zbt),Mid ar W k D c0 R->R.count<=mr->zj8 rs0 R->∃ R' ok,zfw fuel wd mr first ws R=some (R',ok)/\zqb ar W k D c0 mr (fun q x=>∃ r∈rs,q=r.head.pred/\Der r D x) R R' ok/\zj8 rs0 R'/\(ok=true->∀ r∈rs,∀ x,zxe first r D0 D x->InD (zdb ar R') r.head.pred x):=by
 induction hw with
 |nil =>
  intro R hm hc ho
  exact⟨R,true,rfl,⟨hm,fun q x hx=>hx,fun q x hx=>Or.inl hx,fun _=>hc,fun q=>by cases q⟩,ho,fun _ r hr=>by cases hr⟩
 |@cons w r ws rs hw1 hws ih =>
  intro R hm hc ho
  have hr0:=hsub r (by simp)
  have hn:=hm.nots hs ho hr0
  have hone:∃ R1 ok,zih fuel wd mr first R w=some (R1,ok)/\zqb ar W k D c0 mr (fun q x=>q=r.head.pred/\Der r D x) R R1 ok/\(ok=true->∀ x,zxe first r D0 D x->InD (zdb ar R1) r.head.pred x):=by
   cases first with
   |true =>
    obtain⟨R1,ok,a1,a2,a3⟩:=zx3 (wd:=wd) hw1 hD (hs.rules r hr0) h3 hW hmr hm hc hn fuel (hfu r hr0)
    exact⟨R1,ok,a1,a2,fun q x hx=>a3 q x (by simpa [zxe] using hx)⟩
   |false =>
    obtain⟨R1,ok,a1,a2,a3⟩:=zyh (wd:=wd) hw1 hD hD0 (hs.rules r hr0) h3 hW hmr fuel (hfu r hr0) (hs.apart r hr0 r hr0) w.views.length 0 R (by omega) hm hc hn
    refine⟨R1,ok,?_,a2,fun q x hx=>?_⟩
    ·unfold zih
     rw[if_neg (by simp)]
     exact a1
    ·have hx':∃ y,Late r D0 D 0 y/\x=zcp r.head y:=by simpa [zxe] using hx
     obtain⟨y,y1,rfl⟩:=hx'
     exact a3 q y y1
  obtain⟨R1,ok,a1,a2,a3⟩:=hone
  have ho1:zj8 rs0 R1:=by
   intro q x hx
   rcases a2.sound q x hx with z|z
   ·exact ho q x z
   ·exact⟨r,hr0,z.1⟩
  unfold zfw
  rw[a1]
  cases ok with
  |false =>
   exact⟨R1,false,rfl,⟨a2.mid,a2.mono,fun q x hx=>(a2.sound q x hx).imp id fun z=>⟨r,by simp,z⟩,a2.yes,a2.no⟩,ho1,fun q=>by cases q⟩
  |true =>
   simp only
   obtain⟨R2,ok2,b1,b2,b3,b4⟩:=ih (fun x hx=>hsub x (by simp[hx])) R1 a2.mid (a2.yes rfl) ho1
   refine⟨R2,ok2,b1,⟨b2.mid,fun q x hx=>b2.mono q x (a2.mono q x hx),fun q x hx=>?_,b2.yes,b2.no⟩,b3,fun hok r' hr' x hx=>?_⟩
   ·rcases b2.sound q x hx with z|⟨r',z1,z2⟩
    ·exact(a2.sound q x z).imp id fun z=>⟨r,by simp,z⟩
    ·exact Or.inr ⟨r',by simp[z1],z2⟩
   ·rcases List.mem_cons.1 hr' with rfl|hr'
    ·exact a2.mid.grow b2.mid b2.mono (a3 rfl x hx)
    ·exact b4 hok r' hr' x hx
theorem z6j{r:zaf}{D0 D:DB}(hD0:∀ p x,InD D0 p x->InD D p x){y:List Nat}(h1:∀ l∈r.plain,InD D l.pred (zcp l y))(h2:∀ l∈r.nots,D l.pred (zcp l y)=none):Late r D0 D 0 y∨Der r D0 (zcp r.head y):=by
 by_cases hall:∀ l∈r.plain,InD D0 l.pred (zcp l y)
 ·refine Or.inr ⟨y,hall,fun l hl=>?_,rfl⟩
  cases hq:D0 l.pred (zcp l y) with
  |none=>rfl
  |some m =>
   have:=hD0 l.pred (zcp l y) (by unfold InD;rw[hq];rfl)
   unfold InD at this
   rw[h2 l hl] at this
   cases this
 ·refine Or.inl ?_
  have hex:∃(j:Nat) (l:zai),r.plain[j]?=some l/\¬ InD D0 l.pred (zcp l y):=by
   false_or_by_contra
   rename_i hno
   apply hall
   intro l hl
   obtain⟨i,hi,rfl⟩:=List.getElem_of_mem hl
   false_or_by_contra
   rename_i hq
   exact hno ⟨i,_,List.getElem?_eq_getElem hi,hq⟩
  have hmin:∀ n j:Nat,j=n->(∃ l,r.plain[j]?=some l/\¬ InD D0 l.pred (zcp l y))->∃(j:Nat) (l:zai),r.plain[j]?=some l/\¬ InD D0 l.pred (zcp l y)/\∀(t:Nat) (l':zai),t < j->r.plain[t]?=some l'->InD D0 l'.pred (zcp l' y):=by
   intro n
   induction n using Nat.strongRecOn with
   |_ n ih =>
    rintro j rfl ⟨l,hl,hq⟩
    by_cases hless:∃(t:Nat) (l':zai),t < j/\r.plain[t]?=some l'/\¬ InD D0 l'.pred (zcp l' y)
    ·obtain⟨t,l',t1,t2,t3⟩:=hless
     exact ih t t1 t rfl ⟨l',t2,t3⟩
    ·refine⟨j,l,hl,hq,fun t l' t1 t2=>?_⟩
     false_or_by_contra
     rename_i t3
     exact hless ⟨t,l',t1,t2,t3⟩
  obtain⟨j0,l0,e1,e2⟩:=hex
  obtain⟨j,l,q1,q2,q3⟩:=hmin j0 j0 rfl ⟨l0,e1,e2⟩
  exact⟨j,l,Nat.zero_le _,q1,h1 l (List.mem_of_getElem? q1),q2,fun t l' ht=>⟨fun z=>q3 t l' z ht,fun _=>h1 l' (List.mem_of_getElem? ht)⟩,h2⟩
theorem zl4{ar:List Nat}{W wd k:Nat}(hW:W=za1 wd){D0 D:DB}{c0:List Nat}{R':zbt}(hD0:∀ p x,InD D0 p x->InD D p x)(hm:Mid ar W k D c0 R')(hc:R'.count<=1048576)(fuel:Nat)(hfu:3 * (W+1)<=fuel) :
  ∀(ls:List zai) (vs:List zco),vs.length=ls.length->(∀ l∈ls,l.pred < ar.length)->(∀(i:Nat) (l:zai) (V:zco),ls[i]?=some l->vs[i]?=some V->zjm V l W (InD D0 l.pred) (InD D l.pred) (fun x=>InD D l.pred x/\¬ InD D0 l.pred x) (c0.getD l.pred 0)) →
   ∃ vs',zhe fuel wd R'.fresh vs=some vs'/\vs'.length=ls.length/\∀(i:Nat) (l:zai) (V:zco),ls[i]?=some l->vs'[i]?=some V->zjm V l W (InD D l.pred) (InD (zdb ar R') l.pred) (fun x=>InD (zdb ar R') l.pred x/\¬ InD D l.pred x) ((R'.rows.map (·.count)).getD l.pred 0)
 |[],[],_,_,_=>⟨[],rfl,rfl,fun i l V h=>by simp at h⟩
 |[],V::vs,hl,_,_=>by simp at hl
 |l::ls,[],hl,_,_=>by simp at hl
 |l::ls,V::vs,hl,hp,hv=>by
  have hV:=hv 0 l V rfl rfl
  have hpl:=hp l (by simp)
  have hpf:l.pred < R'.fresh.length:=by rw[hm.flen];exact hpl
  have hpr:l.pred < R'.rows.length:=by rw[hm.inv.len];exact hpl
  have hfr:=hm.fresh l.pred hpf
  have hcn:=hm.cnts l.pred hpr
  have hge:=zw6 R'.rows l.pred hpr
  rw[← hm.inv.cnt] at hge
  have hg:R'.fresh.getD l.pred []=R'.fresh[l.pred]:=getD_lt _ hpf
  rw[hg] at hcn
  obtain⟨V',v1,v2⟩:=zn0 hV hW R'.fresh[l.pred] (fun x hx=>(hfr.2 x hx).2.1) (by omega) fuel hfu
  obtain⟨vs',w1,w2,w3⟩:=zl4 hW hD0 hm hc fuel hfu ls vs (by simpa using hl) (fun x hx=>hp x (by simp[hx])) (fun i l' V' h1 h2=>hv (i+1) l' V' (by simpa using h1) (by simpa using h2))
  have habs:∀ x,InD (zdb ar R') l.pred x↔InD D l.pred x∨x∈R'.fresh[l.pred]:=by
   intro x
   unfold InD
   rw[hm.abs,hg]
   cases hq:D l.pred x with
   |some m=>simp
   |none =>
    simp only
    by_cases hx:x∈R'.fresh[l.pred]
    ·simp[hx]
    ·simp[hx]
  refine⟨V'::vs',?_,by simp[w2],fun i l' U h1 h2=>?_⟩
  ·unfold zhe
   rw[hV.lit,if_pos hpf,hg,v1,w1]
  ·cases i with
   |zero =>
    simp only[List.getElem?_cons_zero,Option.some.injEq] at h1 h2
    subst h1;subst h2
    refine⟨v2.lit,v2.before.congr fun x=>?_,v2.fresh.congr fun x=>?_,v2.all.congr fun x=>(habs x).symm,?_⟩
    ·constructor
     ·rintro(q|q)
      ·exact hD0 _ x q
      ·exact q.1
     ·intro q
      by_cases q0:InD D0 l.pred x
      ·exact Or.inl q0
      ·exact Or.inr ⟨q,q0⟩
    ·constructor
     ·intro q
      refine⟨(habs x).2 (Or.inr q),fun q2=>?_⟩
      unfold InD at q2
      rw[(hfr.2 x q).2.2] at q2
      cases q2
     ·rintro⟨q1,q2⟩
      exact((habs x).1 q1).resolve_left q2
    ·have e:(R'.rows.map (·.count)).getD l.pred 0=R'.rows[l.pred].count:=by simp[List.getD,hpr]
     rw[e,hcn]
     exact v2.few
   |succ i=>exact w3 i l' U (by simpa using h1) (by simpa using h2)
theorem ztm{ar:List Nat}{W wd k:Nat}(hW:W=za1 wd){D0 D:DB}{c0:List Nat}{R':zbt}(hD0:∀ p x,InD D0 p x->InD D p x)(hm:Mid ar W k D c0 R')(hc:R'.count<=1048576)(fuel:Nat)(hfu:3 * (W+1)<=fuel){ws:List zbe}{rs:List zaf}(hw:zda ar W D0 D c0 ws rs)(hp:∀ r∈rs,∀ l∈r.plain,l.pred < ar.length) :
  ∃ ws',zhf fuel wd R'.fresh ws=some ws'/\zda ar W D (zdb ar R') (R'.rows.map (·.count)) ws' rs:=by
 induction hw with
 |nil=>exact⟨[],rfl,zda.nil⟩
 |@cons w r ws rs hw1 hws ih =>
  obtain⟨ws',i1,i2⟩:=ih (fun x hx=>hp x (by simp[hx]))
  obtain⟨vs',v1,v2,v3⟩:=zl4 hW hD0 hm hc fuel hfu r.plain w.views hw1.len (hp r (by simp)) hw1.views
  refine⟨{ w with views:=vs' }::ws',?_,zda.cons ⟨hw1.rule,v2,v3⟩ i2⟩
  unfold zhf
  rw[v1,i1]
def zue(rs:List zaf)(D:DB)(p:Nat)(x:zaq):Prop:=∃ r∈rs,p=r.head.pred/\Der r D x
noncomputable def zgu(rs:List zaf)(k:Nat)(D:DB):DB:=fun p x=>match D p x with
 |some m=>some m
 |none=>if zue rs D p x then some k else none
theorem Mid.clear{ar:List Nat}{W:Nat}{R:zbt}(h:ze1 ar W R):Mid ar W R.rounds (zdb ar R) (R.rows.map (·.count)) (ze2 R):=by
 have hf:∀ p,(List.replicate R.rows.length ([]:List zaq)).getD p []=[]:=fun p=>by
  by_cases hp:p < R.rows.length <;> simp[List.getD,hp]
 refine⟨⟨h.len,h.tries,h.cnt⟩,rfl,by simp[ze2,h.len],fun p hp=>?_,fun p x=>?_,fun p hp=>?_⟩
 ·simp only[ze2,List.getElem_replicate]
  exact⟨List.nodup_nil,fun x hx=>by cases hx⟩
 ·show zdb ar R p x=match zdb ar R p x with|some m=>some m|none=>if x∈(List.replicate R.rows.length ([]:List zaq)).getD p [] then some R.rounds else none
  rw[hf]
  cases zdb ar R p x <;> simp
 ·show R.rows[p].count=(R.rows.map (·.count)).getD p 0+((List.replicate R.rows.length ([]:List zaq)).getD p []).length
  have hp':p < R.rows.length:=hp
  rw[hf,show(R.rows.map (·.count)).getD p 0=R.rows[p].count by simp[List.getD,hp']]
  rfl
theorem Mid.start{ar:List Nat}{W:Nat}{R:zbt}(h:ze1 ar W R):Mid ar W (R.rounds+1) (zdb ar R) (R.rows.map (·.count)) (ze2 { R with rounds:=R.rounds+1 }) :=
 Mid.clear (R:={ R with rounds:=R.rounds+1 }) ⟨h.len,h.tries,h.cnt⟩
theorem zyz{ar:List Nat}{W wd:Nat}(hWd:W=za1 wd)(h3:∀ a∈ar,a<=3){mr:Nat}(hmr:mr<=1048576)(fuel:Nat){rs:List zaf}(hs:zmv rs ar W)(hfu:(∀ r∈rs,zfy W r<=fuel)/\3 * (W+1)<=fuel)(first:Bool){ws:List zbe}{R:zbt}{D0:DB}(hi:ze1 ar W R)(hc:R.count<=mr)(hD0:∀ p x,InD D0 p x->InD (zdb ar R) p x)(hw:zda ar W D0 (zdb ar R) (R.rows.map (·.count)) ws rs)(hcl:first=false->∀ p x,zue rs D0 p x->InD (zdb ar R) p x) :
  ∃ R' ws' ok,zpz fuel wd mr first ws R=some (R',ws',ok)/\ze1 ar W R'/\R'.rounds=R.rounds+1/\(∀ p x,InD (zdb ar R') p x->InD (zgu rs (R.rounds+1) (zdb ar R)) p x)/\(ok=false->R'.count > mr)/\(ok=true->R'.count<=mr/\zdb ar R'=zgu rs (R.rounds+1) (zdb ar R)/\zda ar W (zdb ar R) (zdb ar R') (R'.rows.map (·.count)) ws' rs):=by
 have hW:0 < W:=by rw[hWd];unfold za1;split <;> omega
 have hst:=Mid.start hi
 have hfc:∀ q x,x∉(ze2 { R with rounds:=R.rounds+1 }).fresh.getD q []:=fun q x hx=>by
  have:(List.replicate R.rows.length ([]:List zaq)).getD q []=[]:=by by_cases hp:q < R.rows.length <;> simp[List.getD,hp]
  have hx':x∈(List.replicate R.rows.length ([]:List zaq)).getD q []:=hx
  rw[this] at hx'
  cases hx'
 obtain⟨R',ok,a1,a2,a3,a4⟩:=zql (wd:=wd) (zzo ar R) hD0 h3 hW hmr fuel hs hfu.1 first hw (fun r hr=>hr) (ze2 { R with rounds:=R.rounds+1 }) hst hc (fun q x hx=>absurd hx (hfc q x))
 have hsound:∀ p x,x∈R'.fresh.getD p []->zue rs (zdb ar R) p x:=fun p x hx=>(a2.sound p x hx).resolve_left (hfc p x)
 have hsub:∀ p x,InD (zdb ar R') p x->InD (zgu rs (R.rounds+1) (zdb ar R)) p x:=by
  intro p x hx
  unfold InD at hx ⊢
  rw[a2.mid.abs] at hx
  unfold zgu
  cases hq:zdb ar R p x with
  |some m=>rfl
  |none =>
   rw[hq] at hx
   simp only at hx ⊢
   by_cases hm:x∈R'.fresh.getD p []
   ·rw[if_pos (hsound p x hm)];rfl
   ·rw[if_neg hm] at hx;cases hx
 unfold zpz
 rw[a1]
 cases ok with
 |false=>exact⟨R',ws,false,rfl,a2.mid.inv,a2.mid.rounds,hsub,fun _=>a2.no rfl,fun q=>by cases q⟩
 |true =>
  have hcount:=a2.yes rfl
  obtain⟨ws',w1,w2⟩:=ztm hWd hD0 a2.mid (by omega) fuel hfu.2 hw (fun r hr l hl=>((hs.rules r hr).plain l hl).1)
  simp only[w1,Option.map_some]
  refine⟨R',ws',true,rfl,a2.mid.inv,a2.mid.rounds,hsub,fun q=>(by cases q),fun _=>⟨hcount,?_,w2⟩⟩
  have hcomp:∀ p x,zue rs (zdb ar R) p x->InD (zdb ar R') p x:=by
   rintro p x ⟨r,hr,rfl,y,y1,y2,rfl⟩
   cases first with
   |true=>exact a4 rfl r hr _ (by simp only[zxe,if_true];exact⟨y,y1,y2,rfl⟩)
   |false =>
    rcases z6j hD0 y1 y2 with q|q
    ·exact a4 rfl r hr _ (by simp only[zxe];exact⟨y,q,rfl⟩)
    ·have h1:=hcl rfl r.head.pred _ ⟨r,hr,rfl,q⟩
     unfold InD at h1 ⊢
     rw[a2.mid.abs]
     cases hq:zdb ar R r.head.pred (zcp r.head y) with
     |some m=>rfl
     |none=>rw[hq] at h1;cases h1
  funext p x
  have hA:=a2.mid.abs p x
  unfold zgu
  rw[hA]
  cases hq:zdb ar R p x with
  |some m=>rfl
  |none =>
   rw[hq] at hA
   simp only at hA ⊢
   by_cases hstp:zue rs (zdb ar R) p x
   ·have:=hcomp p x hstp
    unfold InD at this
    rw[hA] at this
    by_cases hm:x∈R'.fresh.getD p []
    ·rw[if_pos hm,if_pos hstp]
    ·rw[if_neg hm] at this;cases this
   ·rw[if_neg hstp,if_neg (fun hm=>hstp (hsound p x hm))]
theorem zmo{ar:List Nat}{W:Nat}{R:zbt}(h:ze1 ar W R)(h3:∀ a∈ar,a<=3){p:Nat}(hp:p < R.rows.length)(x:zaq):x∈(keysT R.rows[p]).map (fun k=>pad k R.rows[p].depth)↔InD (zdb ar R) p x:=by
 obtain⟨t1,t2,t3,t4⟩:=h.tries p hp
 have hpa:p < ar.length:=by rw[← h.len];exact hp
 have ha3:ar.getD p 0<=3:=by rw[getD_lt _ hpa];exact h3 _ (List.getElem_mem hpa)
 have hd3:R.rows[p].depth<=3:=by rw[t3];exact(zd5 _).2
 have hgd:R.rows.getD p zad.zero=R.rows[p]:=getD_lt _ hp
 unfold InD zdb
 constructor
 ·intro hx
  obtain⟨k,hk,rfl⟩:=List.mem_map.1 hx
  obtain⟨k1,k2⟩:=(zb0 _ k).1 hk
  rw[if_pos ⟨hpa,t4 k hk⟩,hgd,t1.mark _ (z1t k1 hd3),zky k1]
  exact k2
 ·intro hx
  by_cases hc:p < ar.length/\Canon (ar.getD p 0) x
  ·rw[if_pos hc,hgd,t1.mark x hc.2.1] at hx
   refine List.mem_map.2 ⟨x.take R.rows[p].depth,(zb0 _ _).2 ⟨by rw[List.length_take,hc.2.1];omega,hx⟩,?_⟩
   rw[t3,ztf ha3 hc.2]
  ·rw[if_neg hc] at hx;cases hx
def zk9(D:DB)(n:Nat):Prop:=∃ l:List (Nat × zaq),l.Nodup/\(∀ p x,(p,x)∈l↔InD D p x)/\l.length=n
theorem zlk:∀ {l1 l2:List (Nat × zaq)},l1.Nodup->(∀ x∈l1,x∈l2)->l1.length<=l2.length
 |[],l2,_,_=>by simp
 |a::l1,l2,hn,hs=>by
  have ha:=hs a (by simp)
  have h1:=zlk (l1:=l1) (l2:=l2.erase a) (List.nodup_cons.1 hn).2 (fun x hx=>by
   have hne:x≠a:=by rintro rfl;exact(List.nodup_cons.1 hn).1 hx
   exact(List.mem_erase_of_ne hne).2 (hs x (by simp[hx])))
  rw[List.length_erase_of_mem ha] at h1
  have:=List.length_pos_of_mem ha
  simp;omega
theorem zup{D E:DB}{n m:Nat}(h:zk9 D n)(k:zk9 E m)(hs:∀ p x,InD D p x->InD E p x):n<=m:=by
 obtain⟨l,h1,h2,rfl⟩:=h
 obtain⟨l',k1,k2,rfl⟩:=k
 exact zlk h1 fun x hx=>(k2 x.1 x.2).2 (hs _ _ ((h2 x.1 x.2).1 hx))
theorem zz4{D E:DB}{n m:Nat}(h:zk9 D n)(k:zk9 E m)(hs:∀ p x,InD D p x->InD E p x)(hnm:m<=n):∀ p x,InD E p x->InD D p x:=by
 intro p x hx
 false_or_by_contra
 rename_i hn
 obtain⟨l,h1,h2,rfl⟩:=h
 obtain⟨l',k1,k2,rfl⟩:=k
 have:=zlk (l1:=(p,x)::l) (l2:=l') (List.nodup_cons.2 ⟨fun q=>hn ((h2 p x).1 q),h1⟩) (fun y hy=>by
  rcases List.mem_cons.1 hy with rfl|hy
  ·exact(k2 p x).2 hx
  ·exact(k2 y.1 y.2).2 (hs _ _ ((h2 y.1 y.2).1 hy)))
 simp at this
 omega
theorem ze1.card{ar:List Nat}{W:Nat}{R:zbt}(h:ze1 ar W R)(h3:∀ a∈ar,a<=3):zk9 (zdb ar R) R.count:=by
 refine⟨(List.range R.rows.length).flatMap fun p=>((keysT (R.rows.getD p zad.zero)).map fun k=>pad k (R.rows.getD p zad.zero).depth).map fun x=>(p,x),?_,fun p x=>?_,?_⟩
 ·unfold List.Nodup
  rw[List.pairwise_flatMap]
  refine⟨fun p hp=>?_,?_⟩
  ·have hp':p < R.rows.length:=List.mem_range.1 hp
   obtain⟨t1,t2,t3,t4⟩:=h.tries p hp'
   rw[List.pairwise_map,getD_lt _ hp',List.pairwise_map]
   refine List.Pairwise.imp_of_mem ?_ (zjv R.rows[p] R.rows[p].depth 0 0)
   intro a b ha hb hne e
   simp only[Prod.mk.injEq,true_and] at e
   have h1:=((zb0 R.rows[p] a).1 ha).1
   have h2:=((zb0 R.rows[p] b).1 hb).1
   have:=congrArg (List.take R.rows[p].depth) e
   rw[zky h1,zky h2] at this
   exact hne this
  ·refine List.Pairwise.imp ?_ (List.nodup_range (n:=R.rows.length))
   intro a b hne x hx y hy e
   obtain⟨_,_,rfl⟩:=List.mem_map.1 hx
   obtain⟨_,_,rfl⟩:=List.mem_map.1 hy
   simp only[Prod.mk.injEq] at e
   exact hne e.1
 ·simp only[List.mem_flatMap,List.mem_range]
  constructor
  ·rintro⟨q,hq,hx⟩
   obtain⟨z,hz,e⟩:=List.mem_map.1 hx
   simp only[Prod.mk.injEq] at e
   obtain⟨rfl,rfl⟩:=e
   rw[getD_lt _ hq] at hz
   exact(zmo h h3 hq z).1 hz
  ·intro hx
   have hp:p < R.rows.length:=by rw[h.len];exact(zzo ar R p x hx).1
   refine⟨p,hp,List.mem_map.2 ⟨x,?_,rfl⟩⟩
   rw[getD_lt _ hp]
   exact(zmo h h3 hp x).2 hx
 ·rw[List.length_flatMap,h.cnt]
  congr 1
  refine List.ext_getElem (by simp) fun i h1 h2=>?_
  have hi:i < R.rows.length:=by simpa using h1
  simp only[List.getElem_map,List.getElem_range,List.length_map,getD_lt zad.zero hi]
  exact(h.tries i hi).1.cnt
def z1i:DB:=fun _ _=>none
theorem zoa{ar:List Nat}{W wd:Nat}(hWd:W=za1 wd)(h3:∀ a∈ar,a<=3){R:zbt}(h:ze1 ar W R)(hc:R.count<=1048576)(fuel:Nat)(hfu:3 * (W+1)<=fuel):∀(ls:List zai),(∀ l∈ls,l.pred < ar.length)->∃ vs,zk7 fuel wd R ls=some vs/\vs.length=ls.length/\∀(i:Nat) (l:zai) (V:zco),ls[i]?=some l->vs[i]?=some V->zjm V l W (InD z1i l.pred) (InD (zdb ar R) l.pred) (fun x=>InD (zdb ar R) l.pred x/\¬ InD z1i l.pred x) ((R.rows.map (·.count)).getD l.pred 0)
 |[],_=>⟨[],rfl,rfl,fun i l V h=>by simp at h⟩
 |l::ls,hp=>by
  obtain⟨vs,v1,v2,v3⟩:=zoa hWd h3 h hc fuel hfu ls (fun x hx=>hp x (by simp[hx]))
  have hpl:l.pred < R.rows.length:=by rw[h.len];exact hp l (by simp)
  obtain⟨t1,t2,t3,t4⟩:=h.tries l.pred hpl
  have hge:=zw6 R.rows l.pred hpl
  rw[← h.cnt] at hge
  have hW0:0 < W:=by rw[hWd];unfold za1;split <;> omega
  have hrow:zf8 wd R l.pred=R.rows[l.pred]:=by unfold zf8;rw[if_neg (by omega),getD_lt _ hpl]
  have hrg:=t1.rowsG fuel (by rw[t2];exact hfu) (by omega)
  have h0:zjm (zep wd l) l W (fun _=>False) (fun _=>False) (fun _=>False) 0:=⟨rfl,zdp.new l wd W hWd,zdp.new l wd W hWd,zdp.new l wd W hWd,by simp[zep,zfp,zb3],by simp[zep,zfp,zb3]⟩
  have hlen:((keysT R.rows[l.pred]).map fun k=>pad k R.rows[l.pred].depth).length=R.rows[l.pred].count:=by rw[List.length_map];exact t1.cnt
  obtain⟨V',w1,w2⟩:=zn0 h0 hWd ((keysT R.rows[l.pred]).map fun k=>pad k R.rows[l.pred].depth) (fun x hx=>by
   obtain⟨k,hk,rfl⟩:=List.mem_map.1 hx
   refine ztg hW0 ?_
   intro v hv
   have:=zk4 k 0 ((zb0 _ k).1 hk).2 v hv
   rw[t2] at this
   exact this) (by rw[hlen];omega) fuel hfu
  have hnone:∀ x,¬ InD z1i l.pred x:=fun x q=>by cases q
  refine⟨V'::vs,?_,by simp[v2],fun i l' U e1 e2=>?_⟩
  ·unfold zk7
   rw[hrow,hrg]
   simp only[w1,v1]
  ·cases i with
   |zero =>
    simp only[List.getElem?_cons_zero,Option.some.injEq] at e1 e2
    subst e1;subst e2
    refine⟨w2.lit,w2.before.congr fun x=>⟨fun q=>by rcases q with q|q <;> exact q.elim,fun q=>absurd q (hnone x)⟩,w2.fresh.congr fun x=>?_,w2.all.congr fun x=>?_,?_⟩
    ·rw[zmo h h3 hpl]
     exact⟨fun q=>⟨q,hnone x⟩,fun q=>q.1⟩
    ·rw[zmo h h3 hpl]
     exact⟨fun q=>q.resolve_left id,Or.inr⟩
    ·have e:(R.rows.map (·.count)).getD l.pred 0=R.rows[l.pred].count:=by simp[List.getD,hpl]
     have:=w2.few
     rw[hlen] at this
     rw[e]
     simpa using this
   |succ i=>exact v3 i l' U (by simpa using e1) (by simpa using e2)
theorem zob{ar:List Nat}{W wd:Nat}(hWd:W=za1 wd)(h3:∀ a∈ar,a<=3){R:zbt}(h:ze1 ar W R)(hc:R.count<=1048576)(fuel:Nat)(hfu:3 * (W+1)<=fuel)(s:Nat):∀(rules:List zaf),(∀ r∈rules,∀ l∈r.plain,l.pred < ar.length)->∃ ws,worksR fuel wd R s rules=some ws/\zda ar W z1i (zdb ar R) (R.rows.map (·.count)) ws (rules.filter fun r=>decide (r.stratum=s))
 |[],_=>⟨[],rfl,zda.nil⟩
 |r::rules,hp=>by
  obtain⟨ws,w1,w2⟩:=zob hWd h3 h hc fuel hfu s rules (fun x hx=>hp x (by simp[hx]))
  unfold worksR
  by_cases hs:r.stratum=s
  ·obtain⟨vs,v1,v2,v3⟩:=zoa hWd h3 h hc fuel hfu r.plain (hp r (by simp))
   rw[if_pos hs,v1,w1]
   refine⟨⟨r,vs⟩::ws,rfl,?_⟩
   rw[List.filter_cons_of_pos (by simp[hs])]
   exact zda.cons ⟨rfl,v2,v3⟩ w2
  ·rw[if_neg hs]
   refine⟨ws,w1,?_⟩
   rw[List.filter_cons_of_neg (by simp[hs])]
   exact w2
theorem zda.length{ar:List Nat}{W:Nat}{D0 D:DB}{c:List Nat}{ws:List zbe}{rs:List zaf}(h:zda ar W D0 D c ws rs):ws.length=rs.length:=by
 induction h with
 |nil=>rfl
 |cons _ _ ih=>simp[ih]
end Go.Proofs.YteampbddflhngabGreat
