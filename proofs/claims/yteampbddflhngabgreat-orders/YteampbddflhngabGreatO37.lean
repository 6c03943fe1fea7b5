import Derived.Test.YteampbddflhngabGreatO36

namespace Go.Proofs.YteampbddflhngabGreat
open Classical
theorem z5e{r:zah}{Ts Ns:List zad}{W:Nat}(hr:zf6 r)(hf:zd2 r Ts W){y:List Nat}(hy:zsq r Ts Ns y){p:Nat}(hp:p < r.vars):y.getD p 0 < W:=by
 obtain⟨l,hl,hh⟩:=hr.safe p hp
 obtain⟨i,hi,rfl⟩:=List.getElem_of_mem hl
 have hiT:i < Ts.length:=by rw[hf.len];exact hi
 obtain⟨_,_,q3⟩:=hf.ok i _ _ (List.getElem?_eq_getElem hi) (List.getElem?_eq_getElem hiT)
 have hv5:=hr.vars
 have hmem:p∈zcg r.plain[i] 5:=(zh9 _ 5 p).2 ⟨by omega,hh⟩
 have h0:zbd r.plain[i]≠0:=by
  rw[zef]
  intro q
  rw[List.length_eq_zero_iff.1 q] at hmem
  cases hmem
 have hs:=(hy.1 i _ _ (List.getElem?_eq_getElem hi) (List.getElem?_eq_getElem hiT)).2 h0
 have:=zl2 _ 0 hs (y.getD p 0) (List.mem_map.2 ⟨p,hmem,rfl⟩)
 omega
theorem zrd{l:zak}{a W:Nat}(h:zhm l a W)(hW:0 < W){y:List Nat}(hy:∀ p,zdh l p=true->y.getD p 0 < W):Small W (zcs l y):=by
 have hc:∀ i,rowCell l y i < W:=by
  intro i
  unfold rowCell
  split
  ·rename_i hi
   rw[show l.terms.getD i ⟨false,0,0⟩=l.terms[i] by simp[List.getD,hi]]
   have hm:=List.getElem_mem hi
   unfold atT
   split
   ·rename_i hv
    simp only[Bool.and_eq_true,decide_eq_true_eq] at hv
    exact hy _ ((zfi l _).2 ⟨_,hm,hv.1,rfl⟩)
   ·rename_i hv
    cases hq:l.terms[i].var with
    |true =>
     have:=(h.lev _ hm hq).1
     simp[hq,this] at hv
    |false=>exact h.con _ hm hq
  ·exact hW
 intro v hv
 simp only[zcs,List.mem_cons,List.not_mem_nil,or_false] at hv
 rcases hv with rfl|rfl|rfl <;> exact hc _
theorem zvs.mono{r:zah}{Ts Ns:List zad}{W:Nat}{E E':zaq->Prop}{J:zaw}{M:Nat}(h:zvs r Ts Ns W E J M)(he:∀ x,E x->E' x):zvs r Ts Ns W E' J M:=by
 rcases h with ⟨h1,h2,h3⟩|⟨h0,d,f,h1,h2,h3,h4,h5,h6⟩
 ·exact Or.inl ⟨h1,h2,fun y hy=>he _ (h3 y hy)⟩
 ·exact Or.inr ⟨h0,d,f,h1,h2,h3,h4,fun y hy=>(h5 y hy).imp (he _) id,h6⟩
theorem Mid.moves{ar:List Nat}{W k:Nat}{D0:DB}{c0:List Nat}{R:zbh}(h:Mid ar W k D0 c0 R)(m:Int):Mid ar W k D0 c0 { R with moves:=m } :=
 ⟨⟨h.inv.len,h.inv.tries,h.inv.cnt⟩,h.rounds,h.flen,h.fresh,h.abs,h.cnts⟩
theorem Mid.grow{ar:List Nat}{W k:Nat}{D0:DB}{c0:List Nat}{R R':zbh}(h:Mid ar W k D0 c0 R)(h':Mid ar W k D0 c0 R')(hm:∀ q x,x∈R.fresh.getD q []->x∈R'.fresh.getD q []){p:Nat}{x:zaq}(hx:(zct ar R p x).isSome=true):(zct ar R' p x).isSome=true:=by
 rw[h.abs] at hx
 rw[h'.abs]
 cases hq:D0 p x with
 |some m=>rfl
 |none =>
  rw[hq] at hx
  simp only at hx ⊢
  by_cases hf:x∈R.fresh.getD p []
  ·rw[if_pos (hm p x hf)];rfl
  ·rw[if_neg hf] at hx;cases hx
structure zxp (ar:List Nat) (W k:Nat) (D0:DB) (c0:List Nat) (p mr:Nat) (sol:zaq->Prop) (R R':zbh) (ok:Bool):Prop where
 mid:Mid ar W k D0 c0 R'
 mono:∀ q x,x∈R.fresh.getD q []->x∈R'.fresh.getD q []
 sound:∀ q x,x∈R'.fresh.getD q []->x∈R.fresh.getD q []∨q=p/\sol x
 yes:ok=true->R'.count<=mr/\∀ x,sol x->(zct ar R' p x).isSome=true
 no:ok=false->R'.count > mr
theorem zvx{ar:List Nat}{W k:Nat}{D0:DB}{c0:List Nat}{r:zah}{Ts Ns:List zad}(hr:zf6 r)(hf:zd2 r Ts W)(h3:∀ a∈ar,a<=3)(hW:0 < W)(hp:r.head.pred < ar.length)(hh:zhm r.head (ar.getD r.head.pred 0) W)(A:Nat)(hA:W * (r.plain.length+1)+r.plain.length<=A){mr:Nat}(hmr:mr<=1048576) :
  ∀(n:Nat) (R:zbh) (J:zaw) (M:Nat),Mid ar W k D0 c0 R->R.count<=mr->zvs r Ts Ns W (fun x=>(zct ar R r.head.pred x).isSome=true) J M->M+A+2 < n->∃ R' ok,zdq mr r.head.pred n R J=some (R',ok)/\zxp ar W k D0 c0 r.head.pred mr (fun x=>∃ y,zsq r Ts Ns y/\x=zcs r.head y) R R' ok:=by
 intro n
 induction n with
 |zero=>intro R J M _ _ _ h;omega
 |succ n ih =>
  intro R J M h hc hJ hn
  obtain⟨J',b,n1,n2,n3⟩:=z4g hr hf _ A hA n J M hJ (by omega)
  unfold zdq
  rw[n1]
  cases b with
  |false =>
   refine⟨_,true,rfl,h.moves _,fun q x hx=>hx,fun q x hx=>Or.inl hx,fun _=>⟨hc,?_⟩,fun q=>by cases q⟩
   rintro x ⟨y,hy,rfl⟩
   exact n2 rfl y hy
  |true =>
   obtain⟨m1,m2,M',m3,m4⟩:=n3 rfl
   simp only
   rw[m2]
   have hsm:Small W (zcs r.head J'.values):=zrd hh hW fun p hpp=>z5e hr hf m1 (hr.head p hpp)
   obtain⟨R1,ok,a1,a2,_,a4,a5,a6,a7,a8⟩:=h.add h3 hp (zjy hh J'.values) hsm hc hmr
   rw[a1]
   cases ok with
   |false =>
    refine⟨R1,false,rfl,a2,a5,fun q x hx=>?_,(fun q=>by cases q),a8⟩
    rcases a6 q x hx with z|⟨z1,z2⟩
    ·exact Or.inl z
    ·exact Or.inr ⟨z1,J'.values,m1,z2⟩
   |true =>
    simp only
    obtain⟨R2,ok2,b1,b2⟩:=ih R1 J' M' a2 (a7 rfl) (m4.mono fun x hx=>by
     rcases hx with q|q
     ·exact h.grow a2 a5 q
     ·rw[q];exact a4) (by omega)
    refine⟨R2,ok2,b1,b2.mid,fun q x hx=>b2.mono q x (a5 q x hx),fun q x hx=>?_,b2.yes,b2.no⟩
    rcases b2.sound q x hx with z|z
    ·rcases a6 q x z with z|⟨z1,z2⟩
     ·exact Or.inl z
     ·exact Or.inr ⟨z1,J'.values,m1,z2⟩
    ·exact Or.inr z
def InD(D:DB)(p:Nat)(x:zaq):Prop:=(D p x).isSome=true
def Der(r:zah)(D:DB)(x:zaq):Prop:=∃ y,(∀ l∈r.plain,InD D l.pred (zcs l y))/\(∀ l∈r.nots,D l.pred (zcs l y)=none)/\x=zcs r.head y
structure zn2 (r:zah) (ar:List Nat) (W:Nat):Prop where
 fine:zf6 r
 hpred:r.head.pred < ar.length
 head:zhm r.head (ar.getD r.head.pred 0) W
 plain:∀ l∈r.plain,l.pred < ar.length/\zhm l (ar.getD l.pred 0) W
 nots:∀ l∈r.nots,l.pred < ar.length/\zhm l (ar.getD l.pred 0) W
def yaf(ar:List Nat)(D:DB):Prop:=∀ p x,InD D p x->p < ar.length/\Canon (ar.getD p 0) x
theorem zma(ar:List Nat)(R:zbh):yaf ar (zct ar R):=by
 intro p x h
 unfold InD zct at h
 split at h
 ·assumption
 ·cases h
theorem z5d{r:zah}{ar:List Nat}{W wd:Nat}(hr:zn2 r ar W){R:zbh}(hi:ze1 ar W R){Ts:List zad}{P:Nat->zaq->Prop}(hlen:Ts.length=r.plain.length)(hT:∀(i:Nat) (l:zak) (T:zad),r.plain[i]?=some l->Ts[i]?=some T->zd3 T l W (P i)/\∀ x,P i x->Canon (ar.getD l.pred 0) x)(y:List Nat) :
  zsq r Ts (zhq wd R r) y↔(∀(i:Nat) (l:zak),r.plain[i]?=some l->P i (zcs l y))/\∀ l∈r.nots,zct ar R l.pred (zcs l y)=none:=by
 have hbar:∀ l∈r.nots,zdz (zgi wd R l.pred) (zcs l y)=zct ar R l.pred (zcs l y):=by
  intro l hl
  obtain⟨q1,q2⟩:=hr.nots l hl
  unfold zgi zct
  rw[if_neg (by rw[hi.len];omega),if_pos ⟨q1,zjy q2 y⟩]
 unfold zsq zhq
 constructor
 ·rintro⟨h1,h2⟩
  refine⟨fun i l hl=>?_,fun l hl=>?_⟩
  ·have hit:i < Ts.length:=by rw[hlen];exact(List.getElem?_eq_some_iff.1 hl).1
   obtain⟨v1,v2⟩:=hT i l _ hl (List.getElem?_eq_getElem hit)
   exact(v1.sat (hr.plain l (List.mem_of_getElem? hl)).2 v2 y).1 (h1 i l _ hl (List.getElem?_eq_getElem hit))
  ·rw[← hbar l hl]
   obtain⟨i,hi2,rfl⟩:=List.getElem_of_mem hl
   exact h2 (r.nots[i],zgi wd R r.nots[i].pred) (List.mem_iff_getElem.2 ⟨i,by simp[hi2],by simp⟩)
 ·rintro⟨h1,h2⟩
  refine⟨fun i l T hl hTi=>?_,fun x hx=>?_⟩
  ·obtain⟨v1,v2⟩:=hT i l T hl hTi
   exact(v1.sat (hr.plain l (List.mem_of_getElem? hl)).2 v2 y).2 (h1 i l hl)
  ·obtain⟨i,hi2,rfl⟩:=List.mem_iff_getElem.1 hx
   simp only[List.length_zip,List.length_map] at hi2
   have hi3:i < r.nots.length:=by omega
   simp only[List.getElem_zip,List.getElem_map]
   rw[hbar _ (List.getElem_mem hi3)]
   exact h2 _ (List.getElem_mem hi3)
structure zvv (ar:List Nat) (W:Nat) (w:zbl) (r:zah) (D0 D:DB) (c:List Nat):Prop where
 rule:w.rule=r
 len:w.views.length=r.plain.length
 views:∀(i:Nat) (l:zak) (V:zcr),r.plain[i]?=some l->w.views[i]?=some V->zkk V l W (InD D0 l.pred) (InD D l.pred) (fun x=>InD D l.pred x/\¬ InD D0 l.pred x) (c.getD l.pred 0)
def zf9(W:Nat)(r:zah):Nat:=zgz W r.vars 0 [] 0+(W * (r.plain.length+1)+r.plain.length)+3
theorem zt1{ar:List Nat}{W wd k:Nat}{D:DB}{c0:List Nat}{r:zah}(hr:zn2 r ar W)(h3:∀ a∈ar,a<=3)(hW:0 < W){mr:Nat}(hmr:mr<=1048576){R:zbh}(hm:Mid ar W k D c0 R)(hc:R.count<=mr){Ts:List zad}{P:Nat->zaq->Prop}(hlen:Ts.length=r.plain.length)(hT:∀(i:Nat) (l:zak) (T:zad),r.plain[i]?=some l->Ts[i]?=some T->zd3 T l W (P i)/\∀ x,P i x->Canon (ar.getD l.pred 0) x)(hn:∀ l∈r.nots,∀ x,zct ar R l.pred x=D l.pred x)(fuel:Nat)(hfu:zf9 W r<=fuel) :
  ∃ R' ok,zdq mr r.head.pred fuel R (za3 r Ts (zhq wd R r))=some (R',ok)/\zxp ar W k D c0 r.head.pred mr (fun x=>∃ y,((∀(i:Nat) (l:zak),r.plain[i]?=some l->P i (zcs l y))/\∀ l∈r.nots,D l.pred (zcs l y)=none)/\x=zcs r.head y) R R' ok:=by
 have hf:zd2 r Ts W:=⟨hlen,fun i l T hl hTi=>by obtain⟨v,_⟩:=hT i l T hl hTi;exact⟨v.ok,v.depth,by rw[v.width];exact Nat.le_refl _⟩⟩
 have hfu':zgz W r.vars 0 [] 0+(W * (r.plain.length+1)+r.plain.length)+3<=fuel:=hfu
 obtain⟨R',ok,a1,a2⟩:=zvx (Ns:=zhq wd R r) (D0:=D) (c0:=c0) (k:=k) hr.fine hf h3 hW hr.hpred hr.head _ (Nat.le_refl _) hmr fuel R _ _ hm hc (ztz hr.fine hf _) (by omega)
 have hsol:∀ x,(∃ y,zsq r Ts (zhq wd R r) y/\x=zcs r.head y)↔∃ y,((∀(i:Nat) (l:zak),r.plain[i]?=some l->P i (zcs l y))/\∀ l∈r.nots,D l.pred (zcs l y)=none)/\x=zcs r.head y:=by
  intro x
  constructor
  ·rintro⟨y,q1,q2⟩
   obtain⟨s1,s2⟩:=(z5d hr hm.inv hlen hT y).1 q1
   exact⟨y,⟨s1,fun l hl=>by rw[← hn l hl];exact s2 l hl⟩,q2⟩
  ·rintro⟨y,q1,q2⟩
   exact⟨y,(z5d hr hm.inv hlen hT y).2 ⟨q1.1,fun l hl=>by rw[hn l hl];exact q1.2 l hl⟩,q2⟩
 exact⟨R',ok,a1,a2.mid,a2.mono,fun q x hx=>(a2.sound q x hx).imp id fun z=>⟨z.1,(hsol x).1 z.2⟩,fun q=>⟨(a2.yes q).1,fun x hx=>(a2.yes q).2 x ((hsol x).2 hx)⟩,a2.no⟩
structure zrq (ar:List Nat) (W k:Nat) (D:DB) (c0:List Nat) (mr:Nat) (want:Nat->zaq->Prop) (R R':zbh) (ok:Bool):Prop where
 mid:Mid ar W k D c0 R'
 mono:∀ q x,x∈R.fresh.getD q []->x∈R'.fresh.getD q []
 sound:∀ q x,x∈R'.fresh.getD q []->x∈R.fresh.getD q []∨want q x
 yes:ok=true->R'.count<=mr
 no:ok=false->R'.count > mr
theorem zzz{ar:List Nat}{W wd k:Nat}{D0 D:DB}{c0:List Nat}{w:zbl}{r:zah}(hw:zvv ar W w r D0 D c0)(hD:yaf ar D)(hr:zn2 r ar W)(h3:∀ a∈ar,a<=3)(hW:0 < W){mr:Nat}(hmr:mr<=1048576){R:zbh}(hm:Mid ar W k D c0 R)(hc:R.count<=mr)(hn:∀ l∈r.nots,∀ x,zct ar R l.pred x=D l.pred x)(fuel:Nat)(hfu:zf9 W r<=fuel) :
  ∃ R' ok,zi4 fuel wd mr true R w=some (R',ok)/\zrq ar W k D c0 mr (fun q x=>q=r.head.pred/\Der r D x) R R' ok/\(ok=true->∀ x,Der r D x->InD (zct ar R') r.head.pred x):=by
 have hT:∀(i:Nat) (l:zak) (T:zad),r.plain[i]?=some l->(w.views.map (·.all))[i]?=some T->zd3 T l W ((fun i x=>∃ l,r.plain[i]?=some l/\InD D l.pred x) i)/\∀ x,(fun i x=>∃ l,r.plain[i]?=some l/\InD D l.pred x) i x->Canon (ar.getD l.pred 0) x:=by
  intro i l T hl hTi
  simp only[List.getElem?_map,Option.map_eq_some_iff] at hTi
  obtain⟨V,hV,rfl⟩:=hTi
  refine⟨(hw.views i l V hl hV).all.congr fun x=>⟨fun q=>⟨l,hl,q⟩,fun⟨l',q1,q2⟩=>?_⟩,fun x ⟨l',q1,q2⟩=>?_⟩
  ·rw[hl] at q1;simp only[Option.some.injEq] at q1;subst q1;exact q2
  ·rw[hl] at q1;simp only[Option.some.injEq] at q1;subst q1;exact(hD _ x q2).2
 obtain⟨R',ok,a1,a2⟩:=zt1 (wd:=wd) hr h3 hW hmr hm hc (by simp[hw.len]) hT hn fuel hfu
 have hder:∀ x,(∃ y,((∀(i:Nat) (l:zak),r.plain[i]?=some l->(∃ l',r.plain[i]?=some l'/\InD D l'.pred (zcs l y)))/\∀ l∈r.nots,D l.pred (zcs l y)=none)/\x=zcs r.head y)↔Der r D x:=by
  intro x
  constructor
  ·rintro⟨y,⟨q1,q2⟩,q3⟩
   refine⟨y,fun l hl=>?_,q2,q3⟩
   obtain⟨i,hi,rfl⟩:=List.getElem_of_mem hl
   obtain⟨l',s1,s2⟩:=q1 i _ (List.getElem?_eq_getElem hi)
   rw[List.getElem?_eq_getElem hi] at s1
   simp only[Option.some.injEq] at s1
   subst s1
   exact s2
  ·rintro⟨y,q1,q2,q3⟩
   exact⟨y,⟨fun i l hl=>⟨l,hl,q1 l (List.mem_of_getElem? hl)⟩,q2⟩,q3⟩
 unfold zi4
 rw[if_pos rfl,hw.rule]
 exact⟨R',ok,a1,⟨a2.mid,a2.mono,fun q x hx=>(a2.sound q x hx).imp id fun z=>⟨z.1,(hder x).1 z.2⟩,fun q=>(a2.yes q).1,a2.no⟩,fun q x hx=>(a2.yes q).2 x ((hder x).2 hx)⟩
def Late(r:zah)(D0 D:DB)(i:Nat)(y:List Nat):Prop:=∃(j:Nat) (l:zak),i<=j/\r.plain[j]?=some l/\InD D l.pred (zcs l y)/\¬ InD D0 l.pred (zcs l y)/\(∀(t:Nat) (l':zak),r.plain[t]?=some l'->(t < j->InD D0 l'.pred (zcs l' y))/\(j < t->InD D l'.pred (zcs l' y)))/\∀ l∈r.nots,D l.pred (zcs l y)=none
theorem z0e{ar:List Nat}{W wd k:Nat}{D0 D:DB}{c0:List Nat}{w:zbl}{r:zah}(hw:zvv ar W w r D0 D c0)(hD:yaf ar D)(hD0:∀ p x,InD D0 p x->InD D p x)(hr:zn2 r ar W)(h3:∀ a∈ar,a<=3)(hW:0 < W){mr:Nat}(hmr:mr<=1048576)(fuel:Nat)(hfu:zf9 W r<=fuel)(hnh:∀ l∈r.nots,l.pred≠r.head.pred) :
  ∀(n i:Nat) (R:zbh),i+n=w.views.length->Mid ar W k D c0 R->R.count<=mr->(∀ l∈r.nots,∀ x,zct ar R l.pred x=D l.pred x)->∃ R' ok,zgy fuel wd mr w n i R=some (R',ok)/\zrq ar W k D c0 mr (fun q x=>q=r.head.pred/\Der r D x) R R' ok/\(ok=true->∀ y,Late r D0 D i y->InD (zct ar R') r.head.pred (zcs r.head y)):=by
 intro n
 induction n with
 |zero =>
  intro i R hi hm hc _
  refine⟨R,true,rfl,⟨hm,fun q x hx=>hx,fun q x hx=>Or.inl hx,fun _=>hc,fun q=>by cases q⟩,fun _ y hy=>?_⟩
  obtain⟨j,l,q1,q2,_⟩:=hy
  have:=(List.getElem?_eq_some_iff.1 q2).1
  have:=hw.len
  omega
 |succ n ih =>
  intro i R hi hm hc hn
  have hiv:i < w.views.length:=by omega
  have hip:i < r.plain.length:=by rw[← hw.len];exact hiv
  have hV:=hw.views i _ _ (List.getElem?_eq_getElem hip) (List.getElem?_eq_getElem hiv)
  have hlw:=(hr.plain _ (List.getElem_mem hip)).2
  have hg:w.views.getD i ⟨⟨0,[]⟩,zad.zero,zad.zero,zad.zero⟩=w.views[i]:=getD_lt _ hiv
  unfold zgy
  rw[hg]
  by_cases hcnt:w.views[i].fresh.count > 0
  ·rw[if_pos hcnt]
   have hT:∀(t:Nat) (l:zak) (T:zad),r.plain[t]?=some l->(partly w.views i)[t]?=some T->zd3 T l W ((fun t x=>∃ l,r.plain[t]?=some l/\(t < i->InD D0 l.pred x)/\(t=i->InD D l.pred x/\¬ InD D0 l.pred x)/\(i < t->InD D l.pred x)) t)/\∀ x,(fun t x=>∃ l,r.plain[t]?=some l/\(t < i->InD D0 l.pred x)/\(t=i->InD D l.pred x/\¬ InD D0 l.pred x)/\(i < t->InD D l.pred x)) t x->Canon (ar.getD l.pred 0) x:=by
    intro t l T hl hTi
    unfold partly at hTi
    simp only[List.getElem?_map,Option.map_eq_some_iff,List.getElem?_zipIdx] at hTi
    obtain⟨⟨V,j⟩,⟨V',hV',hVe⟩,rfl⟩:=hTi
    simp only[Nat.zero_add,Prod.mk.injEq] at hVe
    obtain⟨rfl,rfl⟩:=hVe
    have hVt:=hw.views t l V' hl hV'
    have hcan:∀ x,(∃ l,r.plain[t]?=some l/\(t < i->InD D0 l.pred x)/\(t=i->InD D l.pred x/\¬ InD D0 l.pred x)/\(i < t->InD D l.pred x))->Canon (ar.getD l.pred 0) x:=by
     rintro x ⟨l',q1,q2,q3,q4⟩
     rw[hl] at q1;simp only[Option.some.injEq] at q1;subst q1
     rcases Nat.lt_trichotomy t i with z|z|z
     ·exact(hD _ x (hD0 _ x (q2 z))).2
     ·exact(hD _ x (q3 z).1).2
     ·exact(hD _ x (q4 z)).2
    refine⟨?_,hcan⟩
    simp only
    by_cases h1:t < i
    ·rw[if_pos h1]
     refine hVt.before.congr fun x=>⟨fun q=>⟨l,hl,fun _=>q,fun z=>by omega,fun z=>by omega⟩,fun⟨l',q1,q2,_,_⟩=>?_⟩
     rw[hl] at q1;simp only[Option.some.injEq] at q1;subst q1;exact q2 h1
    ·rw[if_neg h1]
     by_cases h2:t=i
     ·rw[if_pos h2]
      refine hVt.fresh.congr fun x=>⟨fun q=>⟨l,hl,fun z=>by omega,fun _=>q,fun z=>by omega⟩,fun⟨l',q1,_,q3,_⟩=>?_⟩
      rw[hl] at q1;simp only[Option.some.injEq] at q1;subst q1;exact q3 h2
     ·rw[if_neg h2]
      refine hVt.all.congr fun x=>⟨fun q=>⟨l,hl,fun z=>by omega,fun z=>by omega,fun _=>q⟩,fun⟨l',q1,_,_,q4⟩=>?_⟩
      rw[hl] at q1;simp only[Option.some.injEq] at q1;subst q1;exact q4 (by omega)
   obtain⟨R1,ok,a1,a2⟩:=zt1 (wd:=wd) hr h3 hW hmr hm hc (by simp[partly,hw.len]) hT hn fuel hfu
   rw[hw.rule,a1]
   have hsound:∀ x,(∃ y,((∀(t:Nat) (l:zak),r.plain[t]?=some l->(∃ l',r.plain[t]?=some l'/\(t < i->InD D0 l'.pred (zcs l y))/\(t=i->InD D l'.pred (zcs l y)/\¬ InD D0 l'.pred (zcs l y))/\(i < t->InD D l'.pred (zcs l y))))/\∀ l∈r.nots,D l.pred (zcs l y)=none)/\x=zcs r.head y)->Der r D x:=by
    rintro x ⟨y,⟨q1,q2⟩,q3⟩
    refine⟨y,fun l hl=>?_,q2,q3⟩
    obtain⟨t,ht,rfl⟩:=List.getElem_of_mem hl
    obtain⟨l',s1,s2,s3,s4⟩:=q1 t _ (List.getElem?_eq_getElem ht)
    rw[List.getElem?_eq_getElem ht] at s1
    simp only[Option.some.injEq] at s1
    subst s1
    rcases Nat.lt_trichotomy t i with z|z|z
    ·exact hD0 _ _ (s2 z)
    ·exact(s3 z).1
    ·exact s4 z
   cases ok with
   |false =>
    exact⟨R1,false,rfl,⟨a2.mid,a2.mono,fun q x hx=>(a2.sound q x hx).imp id fun z=>⟨z.1,hsound x z.2⟩,(fun q=>by cases q),a2.no⟩,fun q=>by cases q⟩
   |true =>
    simp only
    obtain⟨b1,b2⟩:=a2.yes rfl
    have hn1:∀ l∈r.nots,∀ x,zct ar R1 l.pred x=D l.pred x:=by
     intro l hl x
     have hne:=hnh l hl
     rw[a2.mid.abs,← hn l hl x,hm.abs]
     cases hq:D l.pred x with
     |some m=>rfl
     |none =>
      simp only
      by_cases hx:x∈R.fresh.getD l.pred []
      ·rw[if_pos hx,if_pos (a2.mono _ x hx)]
      ·rw[if_neg hx,if_neg]
       intro hx2
       rcases a2.sound _ x hx2 with z|z
       ·exact hx z
       ·exact hne z.1
    obtain⟨R2,ok2,c1,c2,c3⟩:=ih (i+1) R1 (by omega) a2.mid b1 hn1
    refine⟨R2,ok2,c1,⟨c2.mid,fun q x hx=>c2.mono q x (a2.mono q x hx),fun q x hx=>?_,c2.yes,c2.no⟩,fun hok y hy=>?_⟩
    ·rcases c2.sound q x hx with z|z
     ·exact(a2.sound q x z).imp id fun z=>⟨z.1,hsound x z.2⟩
     ·exact Or.inr z
    ·obtain⟨j,l,q1,q2,q3,q4,q5,q6⟩:=hy
     by_cases hji:j=i
     ·subst hji
      refine a2.mid.grow c2.mid c2.mono (b2 _ ⟨y,⟨fun t l' hl'=>⟨l',hl',fun z=>(q5 t l' hl').1 z,fun z=>?_,fun z=>(q5 t l' hl').2 z⟩,q6⟩,rfl⟩)
      subst z
      rw[q2] at hl';simp only[Option.some.injEq] at hl';subst hl'
      exact⟨q3,q4⟩
     ·exact c3 hok y ⟨j,l,by omega,q2,q3,q4,q5,q6⟩
  ·rw[if_neg hcnt]
   obtain⟨R2,ok2,c1,c2,c3⟩:=ih (i+1) R (by omega) hm hc hn
   refine⟨R2,ok2,c1,c2,fun hok y hy=>?_⟩
   obtain⟨j,l,q1,q2,q3,q4,q5,q6⟩:=hy
   by_cases hji:j=i
   ·subst hji
    rw[List.getElem?_eq_getElem hip] at q2
    simp only[Option.some.injEq] at q2
    subst q2
    have hs:=(hV.fresh.sat hlw (fun x hx=>(hD _ x hx.1).2) y).2 ⟨q3,q4⟩
    exact absurd (Nat.pos_of_ne_zero (hs.count hV.fresh.ok hV.fresh.depth (hr.fine.terms _ (List.getElem_mem hip)))) hcnt
   ·exact c3 hok y ⟨j,l,by omega,q2,q3,q4,q5,q6⟩
structure zn4 (rs:List zah) (ar:List Nat) (W:Nat):Prop where
 rules:∀ r∈rs,zn2 r ar W
 apart:∀ r∈rs,∀ r'∈rs,∀ l∈r.nots,l.pred≠r'.head.pred
def zk2(rs:List zah)(R:zbh):Prop:=∀ q x,x∈R.fresh.getD q []->∃ r∈rs,q=r.head.pred
theorem Mid.nots{ar:List Nat}{W k:Nat}{D:DB}{c0:List Nat}{R:zbh}{rs:List zah}(h:Mid ar W k D c0 R)(hs:zn4 rs ar W)(ho:zk2 rs R){r:zah}(hr:r∈rs):∀ l∈r.nots,∀ x,zct ar R l.pred x=D l.pred x:=by
 intro l hl x
 rw[h.abs]
 cases hq:D l.pred x with
 |some m=>rfl
 |none =>
  simp only
  rw[if_neg]
  intro hx
  obtain⟨r',h1,h2⟩:=ho _ x hx
  exact hs.apart r hr r' h1 l hl h2
inductive zdl (ar:List Nat) (W:Nat) (D0 D:DB) (c:List Nat):List zbl->List zah->Prop
 |nil:zdl ar W D0 D c [] []
 |cons {w:zbl} {r:zah} {ws:List zbl} {rs:List zah}:zvv ar W w r D0 D c->zdl ar W D0 D c ws rs->zdl ar W D0 D c (w::ws) (r::rs)
def zy8(first:Bool)(r:zah)(D0 D:DB)(x:zaq):Prop:=if first then Der r D x else ∃ y,Late r D0 D 0 y/\x=zcs r.head y
theorem zr1{ar:List Nat}{W wd k:Nat}{D0 D:DB}{c0:List Nat}(hD:yaf ar D)(hD0:∀ p x,InD D0 p x->InD D p x)(h3:∀ a∈ar,a<=3)(hW:0 < W){mr:Nat}(hmr:mr<=1048576)(fuel:Nat){rs0:List zah}(hs:zn4 rs0 ar W)(hfu:∀ r∈rs0,zf9 W r<=fuel)(first:Bool){ws:List zbl}{rs:List zah}(hw:zdl ar W D0 D c0 ws rs)(hsub:∀ r∈rs,r∈rs0) :
  ∀(R:zbh),Mid ar W k D c0 R->R.count<=mr->zk2 rs0 R->∃ R' ok,zf7 fuel wd mr first ws R=some (R',ok)/\zrq ar W k D c0 mr (fun q x=>∃ r∈rs,q=r.head.pred/\Der r D x) R R' ok/\zk2 rs0 R'/\(ok=true->∀ r∈rs,∀ x,zy8 first r D0 D x->InD (zct ar R') r.head.pred x):=by
 induction hw with
 |nil =>
  intro R hm hc ho
  exact⟨R,true,rfl,⟨hm,fun q x hx=>hx,fun q x hx=>Or.inl hx,fun _=>hc,fun q=>by cases q⟩,ho,fun _ r hr=>by cases hr⟩
 |@cons w r ws rs hw1 hws ih =>
  intro R hm hc ho
  have hr0:=hsub r (by simp)
  have hn:=hm.nots hs ho hr0
  have hone:∃ R1 ok,zi4 fuel wd mr first R w=some (R1,ok)/\zrq ar W k D c0 mr (fun q x=>q=r.head.pred/\Der r D x) R R1 ok/\(ok=true->∀ x,zy8 first r D0 D x->InD (zct ar R1) r.head.pred x):=by
   cases first with
   |true =>
    obtain⟨R1,ok,a1,a2,a3⟩:=zzz (wd:=wd) hw1 hD (hs.rules r hr0) h3 hW hmr hm hc hn fuel (hfu r hr0)
    exact⟨R1,ok,a1,a2,fun q x hx=>a3 q x (by simpa [zy8] using hx)⟩
   |false =>
    obtain⟨R1,ok,a1,a2,a3⟩:=z0e (wd:=wd) hw1 hD hD0 (hs.rules r hr0) h3 hW hmr fuel (hfu r hr0) (hs.apart r hr0 r hr0) w.views.length 0 R (by omega) hm hc hn
    refine⟨R1,ok,?_,a2,fun q x hx=>?_⟩
    ·unfold zi4
     rw[if_neg (by simp)]
     exact a1
    ·have hx':∃ y,Late r D0 D 0 y/\x=zcs r.head y:=by simpa [zy8] using hx
     obtain⟨y,y1,rfl⟩:=hx'
     exact a3 q y y1
  obtain⟨R1,ok,a1,a2,a3⟩:=hone
  have ho1:zk2 rs0 R1:=by
   intro q x hx
   rcases a2.sound q x hx with z|z
   ·exact ho q x z
   ·exact⟨r,hr0,z.1⟩
  unfold zf7
  rw[a1]
  cases ok with
  |false =>
   exact⟨R1,false,rfl,⟨a2.mid,a2.mono,fun q x hx=>(a2.sound q x hx).imp id fun z=>⟨r,by simp,z⟩,a2.yes,a2.no⟩,ho1,fun q=>by cases q⟩
  |true =>
   simp only
   obtain⟨R2,ok2,b1,b2,b3,b4⟩:=ih (fun x hx=>hsub x (by simp[hx])) R1 a2.mid (a2.yes rfl) ho1
   refine⟨R2,ok2,b1,⟨b2.mid,fun q x hx=>b2.mono q x (a2.mono q x hx),fun q x hx=>?_,b2.yes,b2.no⟩,b3,fun hok r' hr' x hx=>?_⟩
   ·rcases b2.sound q x hx with z|⟨r',z1,z2⟩
    ·exact(a2.sound q x z).imp id fun z=>⟨r,by simp,z⟩
    ·exact Or.inr ⟨r',by simp[z1],z2⟩
   ·rcases List.mem_cons.1 hr' with rfl|hr'
    ·exact a2.mid.grow b2.mid b2.mono (a3 rfl x hx)
    ·exact b4 hok r' hr' x hx
theorem z9o{r:zah}{D0 D:DB}(hD0:∀ p x,InD D0 p x->InD D p x){y:List Nat}(h1:∀ l∈r.plain,InD D l.pred (zcs l y))(h2:∀ l∈r.nots,D l.pred (zcs l y)=none):Late r D0 D 0 y∨Der r D0 (zcs r.head y):=by
 by_cases hall:∀ l∈r.plain,InD D0 l.pred (zcs l y)
 ·refine Or.inr ⟨y,hall,fun l hl=>?_,rfl⟩
  cases hq:D0 l.pred (zcs l y) with
  |none=>rfl
  |some m =>
   have:=hD0 l.pred (zcs l y) (by unfold InD;rw[hq];rfl)
   unfold InD at this
   rw[h2 l hl] at this
   cases this
 ·refine Or.inl ?_
  have hex:∃(j:Nat) (l:zak),r.plain[j]?=some l/\¬ InD D0 l.pred (zcs l y):=by
   false_or_by_contra
   rename_i hno
   apply hall
   intro l hl
   obtain⟨i,hi,rfl⟩:=List.getElem_of_mem hl
   false_or_by_contra
   rename_i hq
   exact hno ⟨i,_,List.getElem?_eq_getElem hi,hq⟩
  have hmin:∀ n j:Nat,j=n->(∃ l,r.plain[j]?=some l/\¬ InD D0 l.pred (zcs l y))->∃(j:Nat) (l:zak),r.plain[j]?=some l/\¬ InD D0 l.pred (zcs l y)/\∀(t:Nat) (l':zak),t < j->r.plain[t]?=some l'->InD D0 l'.pred (zcs l' y):=by
   intro n
   induction n using Nat.strongRecOn with
   |_ n ih =>
    rintro j rfl ⟨l,hl,hq⟩
    by_cases hless:∃(t:Nat) (l':zak),t < j/\r.plain[t]?=some l'/\¬ InD D0 l'.pred (zcs l' y)
    ·obtain⟨t,l',t1,t2,t3⟩:=hless
     exact ih t t1 t rfl ⟨l',t2,t3⟩
    ·refine⟨j,l,hl,hq,fun t l' t1 t2=>?_⟩
     false_or_by_contra
     rename_i t3
     exact hless ⟨t,l',t1,t2,t3⟩
  obtain⟨j0,l0,e1,e2⟩:=hex
  obtain⟨j,l,q1,q2,q3⟩:=hmin j0 j0 rfl ⟨l0,e1,e2⟩
  exact⟨j,l,Nat.zero_le _,q1,h1 l (List.mem_of_getElem? q1),q2,fun t l' ht=>⟨fun z=>q3 t l' z ht,fun _=>h1 l' (List.mem_of_getElem? ht)⟩,h2⟩
theorem zm8{ar:List Nat}{W wd k:Nat}(hW:W=za5 wd){D0 D:DB}{c0:List Nat}{R':zbh}(hD0:∀ p x,InD D0 p x->InD D p x)(hm:Mid ar W k D c0 R')(hc:R'.count<=1048576)(fuel:Nat)(hfu:3 * (W+1)<=fuel) :
  ∀(ls:List zak) (vs:List zcr),vs.length=ls.length->(∀ l∈ls,l.pred < ar.length)->(∀(i:Nat) (l:zak) (V:zcr),ls[i]?=some l->vs[i]?=some V->zkk V l W (InD D0 l.pred) (InD D l.pred) (fun x=>InD D l.pred x/\¬ InD D0 l.pred x) (c0.getD l.pred 0)) →
   ∃ vs',zhs fuel wd R'.fresh vs=some vs'/\vs'.length=ls.length/\∀(i:Nat) (l:zak) (V:zcr),ls[i]?=some l->vs'[i]?=some V->zkk V l W (InD D l.pred) (InD (zct ar R') l.pred) (fun x=>InD (zct ar R') l.pred x/\¬ InD D l.pred x) ((R'.rows.map (·.count)).getD l.pred 0)
 |[],[],_,_,_=>⟨[],rfl,rfl,fun i l V h=>by simp at h⟩
 |[],V::vs,hl,_,_=>by simp at hl
 |l::ls,[],hl,_,_=>by simp at hl
 |l::ls,V::vs,hl,hp,hv=>by
  have hV:=hv 0 l V rfl rfl
  have hpl:=hp l (by simp)
  have hpf:l.pred < R'.fresh.length:=by rw[hm.flen];exact hpl
  have hpr:l.pred < R'.rows.length:=by rw[hm.inv.len];exact hpl
  have hfr:=hm.fresh l.pred hpf
  have hcn:=hm.cnts l.pred hpr
  have hge:=zyz R'.rows l.pred hpr
  rw[← hm.inv.cnt] at hge
  have hg:R'.fresh.getD l.pred []=R'.fresh[l.pred]:=getD_lt _ hpf
  rw[hg] at hcn
  obtain⟨V',v1,v2⟩:=zpe hV hW R'.fresh[l.pred] (fun x hx=>(hfr.2 x hx).2.1) (by omega) fuel hfu
  obtain⟨vs',w1,w2,w3⟩:=zm8 hW hD0 hm hc fuel hfu ls vs (by simpa using hl) (fun x hx=>hp x (by simp[hx])) (fun i l' V' h1 h2=>hv (i+1) l' V' (by simpa using h1) (by simpa using h2))
  have habs:∀ x,InD (zct ar R') l.pred x↔InD D l.pred x∨x∈R'.fresh[l.pred]:=by
   intro x
   unfold InD
   rw[hm.abs,hg]
   cases hq:D l.pred x with
   |some m=>simp
   |none =>
    simp only
    by_cases hx:x∈R'.fresh[l.pred]
    ·simp[hx]
    ·simp[hx]
  refine⟨V'::vs',?_,by simp[w2],fun i l' U h1 h2=>?_⟩
  ·unfold zhs
   rw[hV.lit,if_pos hpf,hg,v1,w1]
  ·cases i with
   |zero =>
    simp only[List.getElem?_cons_zero,Option.some.injEq] at h1 h2
    subst h1;subst h2
    refine⟨v2.lit,v2.before.congr fun x=>?_,v2.fresh.congr fun x=>?_,v2.all.congr fun x=>(habs x).symm,?_⟩
    ·constructor
     ·rintro(q|q)
      ·exact hD0 _ x q
      ·exact q.1
     ·intro q
      by_cases q0:InD D0 l.pred x
      ·exact Or.inl q0
      ·exact Or.inr ⟨q,q0⟩
    ·constructor
     ·intro q
      refine⟨(habs x).2 (Or.inr q),fun q2=>?_⟩
      unfold InD at q2
      rw[(hfr.2 x q).2.2] at q2
      cases q2
     ·rintro⟨q1,q2⟩
      exact((habs x).1 q1).resolve_left q2
    ·have e:(R'.rows.map (·.count)).getD l.pred 0=R'.rows[l.pred].count:=by simp[List.getD,hpr]
     rw[e,hcn]
     exact v2.few
   |succ i=>exact w3 i l' U (by simpa using h1) (by simpa using h2)
theorem zu3{ar:List Nat}{W wd k:Nat}(hW:W=za5 wd){D0 D:DB}{c0:List Nat}{R':zbh}(hD0:∀ p x,InD D0 p x->InD D p x)(hm:Mid ar W k D c0 R')(hc:R'.count<=1048576)(fuel:Nat)(hfu:3 * (W+1)<=fuel){ws:List zbl}{rs:List zah}(hw:zdl ar W D0 D c0 ws rs)(hp:∀ r∈rs,∀ l∈r.plain,l.pred < ar.length) :
  ∃ ws',zht fuel wd R'.fresh ws=some ws'/\zdl ar W D (zct ar R') (R'.rows.map (·.count)) ws' rs:=by
 induction hw with
 |nil=>exact⟨[],rfl,zdl.nil⟩
 |@cons w r ws rs hw1 hws ih =>
  obtain⟨ws',i1,i2⟩:=ih (fun x hx=>hp x (by simp[hx]))
  obtain⟨vs',v1,v2,v3⟩:=zm8 hW hD0 hm hc fuel hfu r.plain w.views hw1.len (hp r (by simp)) hw1.views
  refine⟨{ w with views:=vs' }::ws',?_,zdl.cons ⟨hw1.rule,v2,v3⟩ i2⟩
  unfold zht
  rw[v1,i1]
def zk5(rs:List zah)(D:DB)(p:Nat)(x:zaq):Prop:=∃ r∈rs,p=r.head.pred/\Der r D x
noncomputable def zfs(rs:List zah)(k:Nat)(D:DB):DB:=fun p x=>match D p x with
 |some m=>some m
 |none=>if zk5 rs D p x then some k else none
theorem Mid.clear{ar:List Nat}{W:Nat}{R:zbh}(h:ze1 ar W R):Mid ar W R.rounds (zct ar R) (R.rows.map (·.count)) (zfc R):=by
 have hf:∀ p,(List.replicate R.rows.length ([]:List zaq)).getD p []=[]:=fun p=>by
  by_cases hp:p < R.rows.length <;> simp[List.getD,hp]
 refine⟨⟨h.len,h.tries,h.cnt⟩,rfl,by simp[zfc,h.len],fun p hp=>?_,fun p x=>?_,fun p hp=>?_⟩
 ·simp only[zfc,List.getElem_replicate]
  exact⟨List.nodup_nil,fun x hx=>by cases hx⟩
 ·show zct ar R p x=match zct ar R p x with|some m=>some m|none=>if x∈(List.replicate R.rows.length ([]:List zaq)).getD p [] then some R.rounds else none
  rw[hf]
  cases zct ar R p x <;> simp
 ·show R.rows[p].count=(R.rows.map (·.count)).getD p 0+((List.replicate R.rows.length ([]:List zaq)).getD p []).length
  have hp':p < R.rows.length:=hp
  rw[hf,show(R.rows.map (·.count)).getD p 0=R.rows[p].count by simp[List.getD,hp']]
  rfl
theorem Mid.start{ar:List Nat}{W:Nat}{R:zbh}(h:ze1 ar W R):Mid ar W (R.rounds+1) (zct ar R) (R.rows.map (·.count)) (zfc { R with rounds:=R.rounds+1 }) :=
 Mid.clear (R:={ R with rounds:=R.rounds+1 }) ⟨h.len,h.tries,h.cnt⟩
theorem z0z{ar:List Nat}{W wd:Nat}(hWd:W=za5 wd)(h3:∀ a∈ar,a<=3){mr:Nat}(hmr:mr<=1048576)(fuel:Nat){rs:List zah}(hs:zn4 rs ar W)(hfu:(∀ r∈rs,zf9 W r<=fuel)/\3 * (W+1)<=fuel)(first:Bool){ws:List zbl}{R:zbh}{D0:DB}(hi:ze1 ar W R)(hc:R.count<=mr)(hD0:∀ p x,InD D0 p x->InD (zct ar R) p x)(hw:zdl ar W D0 (zct ar R) (R.rows.map (·.count)) ws rs)(hcl:first=false->∀ p x,zk5 rs D0 p x->InD (zct ar R) p x) :
  ∃ R' ws' ok,zrb fuel wd mr first ws R=some (R',ws',ok)/\ze1 ar W R'/\R'.rounds=R.rounds+1/\(∀ p x,InD (zct ar R') p x->InD (zfs rs (R.rounds+1) (zct ar R)) p x)/\(ok=false->R'.count > mr)/\(ok=true->R'.count<=mr/\zct ar R'=zfs rs (R.rounds+1) (zct ar R)/\zdl ar W (zct ar R) (zct ar R') (R'.rows.map (·.count)) ws' rs):=by
 have hW:0 < W:=by rw[hWd];unfold za5;split <;> omega
 have hst:=Mid.start hi
 have hfc:∀ q x,x∉(zfc { R with rounds:=R.rounds+1 }).fresh.getD q []:=fun q x hx=>by
  have:(List.replicate R.rows.length ([]:List zaq)).getD q []=[]:=by by_cases hp:q < R.rows.length <;> simp[List.getD,hp]
  have hx':x∈(List.replicate R.rows.length ([]:List zaq)).getD q []:=hx
  rw[this] at hx'
  cases hx'
 obtain⟨R',ok,a1,a2,a3,a4⟩:=zr1 (wd:=wd) (zma ar R) hD0 h3 hW hmr fuel hs hfu.1 first hw (fun r hr=>hr) (zfc { R with rounds:=R.rounds+1 }) hst hc (fun q x hx=>absurd hx (hfc q x))
 have hsound:∀ p x,x∈R'.fresh.getD p []->zk5 rs (zct ar R) p x:=fun p x hx=>(a2.sound p x hx).resolve_left (hfc p x)
 have hsub:∀ p x,InD (zct ar R') p x->InD (zfs rs (R.rounds+1) (zct ar R)) p x:=by
  intro p x hx
  unfold InD at hx ⊢
  rw[a2.mid.abs] at hx
  unfold zfs
  cases hq:zct ar R p x with
  |some m=>rfl
  |none =>
   rw[hq] at hx
   simp only at hx ⊢
   by_cases hm:x∈R'.fresh.getD p []
   ·rw[if_pos (hsound p x hm)];rfl
   ·rw[if_neg hm] at hx;cases hx
 unfold zrb
 rw[a1]
 cases ok with
 |false=>exact⟨R',ws,false,rfl,a2.mid.inv,a2.mid.rounds,hsub,fun _=>a2.no rfl,fun q=>by cases q⟩
 |true =>
  have hcount:=a2.yes rfl
  obtain⟨ws',w1,w2⟩:=zu3 hWd hD0 a2.mid (by omega) fuel hfu.2 hw (fun r hr l hl=>((hs.rules r hr).plain l hl).1)
  simp only[w1,Option.map_some]
  refine⟨R',ws',true,rfl,a2.mid.inv,a2.mid.rounds,hsub,fun q=>(by cases q),fun _=>⟨hcount,?_,w2⟩⟩
  have hcomp:∀ p x,zk5 rs (zct ar R) p x->InD (zct ar R') p x:=by
   rintro p x ⟨r,hr,rfl,y,y1,y2,rfl⟩
   cases first with
   |true=>exact a4 rfl r hr _ (by simp only[zy8,if_true];exact⟨y,y1,y2,rfl⟩)
   |false =>
    rcases z9o hD0 y1 y2 with q|q
    ·exact a4 rfl r hr _ (by simp only[zy8];exact⟨y,q,rfl⟩)
    ·have h1:=hcl rfl r.head.pred _ ⟨r,hr,rfl,q⟩
     unfold InD at h1 ⊢
     rw[a2.mid.abs]
     cases hq:zct ar R r.head.pred (zcs r.head y) with
     |some m=>rfl
     |none=>rw[hq] at h1;cases h1
  funext p x
  have hA:=a2.mid.abs p x
  unfold zfs
  rw[hA]
  cases hq:zct ar R p x with
  |some m=>rfl
  |none =>
   rw[hq] at hA
   simp only at hA ⊢
   by_cases hstp:zk5 rs (zct ar R) p x
   ·have:=hcomp p x hstp
    unfold InD at this
    rw[hA] at this
    by_cases hm:x∈R'.fresh.getD p []
    ·rw[if_pos hm,if_pos hstp]
    ·rw[if_neg hm] at this;cases this
   ·rw[if_neg hstp,if_neg (fun hm=>hstp (hsound p x hm))]
end Go.Proofs.YteampbddflhngabGreat
