import Derived.Test.YteampbddflhngaaGreatZ33
namespace Go.Proofs.YteampbddflhngaaGreat
set_option linter.all false
open Classical
section
variable {cs:List zd}{t:List zh}{L:List zE}
def ud(fs l:List zE)(f:zE):List zE:=if (yP f.1 f.2.1 fs).isSome=true∨(yP f.1 f.2.1 l).isSome=true then l else l++[f]
theorem sN{fs:List zE}{k:Nat}:∀(d l:List zE),(∀g∈d,g.2.2=k)->(∀g∈l,g.2.2=k)->l.Nodup->(∀g∈l,¬∃m,(g.1,g.2.1,m)∈fs)->(d.foldl (ud fs) l).Nodup/\∀f,f∈d.foldl (ud fs) l↔f∈l∨(f∈d/\¬∃m,(f.1,f.2.1,m)∈fs)
 |[],l,_,_,o,_=>⟨o,fun f=>by simp⟩
 |g::d,l,w,r,o,y=>by
  have v:=w g (by simp);have j:∀g∈d,g.2.2=k:=fun x n=>w x (by simp[n]);rw[ut];by_cases q:(∃m,(g.1,g.2.1,m)∈fs)∨∃m,(g.1,g.2.1,m)∈l
  ·rw[show ud fs l g=l from zc (q.imp pu.2 pu.2)];obtain⟨s,p⟩:=sN d l j r o y;refine⟨s,fun f=>(p f).trans ⟨fun h=>h.imp_right fun h=>⟨by simp[h.1],h.2⟩,fun h=>?_⟩⟩;rcases h with h|⟨c,i⟩
   ·exact zf h
   ·rcases zx.1 c with rfl|c
    ·rcases q with q|⟨m,q⟩
     ·exact zC q i
     ·have:f=(f.1,f.2.1,m):=Prod.ext rfl (Prod.ext rfl (v.trans (r _ q).symm));exact zf (by rw[this];exact q)
    ·exact zb ⟨c,i⟩
  ·rw[show ud fs l g=l++[g] from za fun z=>q (z.imp pu.1 pu.1)];have u:¬∃m,(g.1,g.2.1,m)∈fs:=fun z=>q (zf z);have A:g∉l:=fun z=>q (zb ⟨g.2.2,z⟩);obtain⟨s,p⟩:=sN d (l++[g]) j (fun x n=>by
    rcases zI.1 n with z|z
    ·exact r x z
    ·rw[xG.1 z];exact v) (qa.2 ⟨o,by simp,fun a C b B e=>by rw[xG.1 B] at e;exact A (e ▸ C)⟩) (fun x n=>by
    rcases zI.1 n with z|z
    ·exact y x z
    ·rw[xG.1 z];exact u)
   refine⟨s,fun f=>(p f).trans ⟨fun h=>?_,fun h=>?_⟩⟩
   ·rcases h with h|⟨c,i⟩
    ·rcases zI.1 h with z|z
     ·exact zf z
     ·rw[xG.1 z];exact zb ⟨by simp,u⟩
    ·exact zb ⟨by simp[c],i⟩
   ·rcases h with h|⟨c,i⟩
    ·exact zf (List.mem_append_left _ h)
    ·rcases zx.1 c with rfl|c
     ·exact zf (by simp)
     ·exact zb ⟨c,i⟩
def xB(fs:List zE)(k:Nat)(a:List zd)(l:List zE):List zE:=a.foldl (fun l c=>(ye fs c.head c.body c.body []).foldl (fun l r=>ud fs l (c.head.pred,r,k)) l) l
theorem B4(fs:List zE)(k:Nat):∀(a:List zd) (l:List zE),xB fs k a l=(a.flatMap fun c=>(ye fs c.head c.body c.body []).map fun r=>(c.head.pred,r,k)).foldl (ud fs) l
 |[],l=>rfl
 |c::a,l=>by
  rw[us,j8,List.foldl_map,←B4 fs k a];rfl
def ym(t:List zh)(cs:List zd)(s:Nat):List zd:=cs.filter fun c=>decide (xr t c.head.pred=s/\0<c.body.length)
theorem Rx.round{t0:List zh}(y:QN cs t0 t)(o:uf cs t){D:DB}(h:Rx t (zq cs) L D)(s k:Nat):Rx t (zq cs) (L++xB L k (ym t cs s) []) (zyr ((uE t (zq cs) none cs).filter fun r=>decide (r.qh=s)) k D)/\(xB L k (ym t cs s) []=[]↔∀p x,QH (zyr ((uE t (zq cs) none cs).filter fun r=>decide (r.qh=s)) k D) p x->QH D p x):=by
 have u:∀i (hi:i<cs.length),ka (yB ((xW none i).getD [])) (zw cs[i]).length:=fun i hi=>pd (lu (y.many _ (zs hi)));have N:=eN y (zq cs) none u s D;generalize (uE t (zq cs) none cs).filter (fun r=>decide (r.qh=s))=M at *;have Q:=(hZ cs).1;obtain⟨n1,Y⟩:(xB L k (ym t cs s) []).Nodup/\∀f,f∈xB L k (ym t cs s) []↔(∃c∈cs,xr t c.head.pred=s/\0<c.body.length/\∃x,pq L c x/\f=(c.head.pred,x,k))/\¬∃m,(f.1,f.2.1,m)∈L:=by
  rw[B4];obtain⟨i1,i2⟩:=sN (fs:=L) (k:=k) ((ym t cs s).flatMap fun c=>(ye L c.head c.body c.body []).map fun r=>(c.head.pred,r,k)) [] (fun g F=>by
   obtain⟨c,_,F⟩:=uS.1 F;obtain⟨r,_,rfl⟩:=z7.1 F;rfl) (fun g F=>by cases F) List.nodup_nil (fun g F=>by cases F)
  refine⟨i1,fun f=>(i2 f).trans ?_⟩;simp only[fG,false_or];refine and_congr_left fun _=>?_;rw[uS];constructor
  ·rintro⟨c,n,E⟩;obtain⟨H,G⟩:=ub.1 n;obtain⟨r,O,rfl⟩:=z7.1 E;have G:=of_decide_eq_true G;exact⟨c,H,G.1,G.2,r,(DE (h.fs o) H (o.ne H) (o.cov c H)).1 O,rfl⟩
  ·rintro⟨c,n,H,G,r,O,rfl⟩;exact⟨c,ub.2 ⟨n,decide_eq_true ⟨H,G⟩⟩,z7.2 ⟨r,(DE (h.fs o) n (o.ne n) (o.cov c n)).2 O,rfl⟩⟩
 generalize xB L k (ym t cs s) []=l at *;have q:∀p r,ju M D p r->∃c∈cs,xr t c.head.pred=s/\0<c.body.length/\p=zO t c.head.pred/\pq L c (uk (zq cs) r (uK t p) 3)/\fC t p=c.head.pred/\p<t.length/\QP (uK t p) r/\∀i,i<uK t p->r.getD i 0<(zq cs).length:=by
  intro p r j;obtain⟨c,n,C,I,rfl,J⟩:=(N p r).1 j;obtain⟨V,S,U,l4⟩:=o.lit c n c.head (by simp[zk]);obtain⟨d1,d2,d3⟩:=h.der1 o n J;exact⟨c,n,I,C,rfl,by rw[S];exact d1,U,V,by rw[S];exact d2,by rw[S];exact d3⟩
 have A:∀p r,D p r=none->ju M D p r->(fC t p,uk (zq cs) r (uK t p) 3,k)∈l:=by
  intro p r d j;obtain⟨c,n,I,C,ab,J,W,u,K,P⟩:=q p r j;refine(Y _).2 ⟨⟨c,n,I,C,_,J,by rw[W]⟩,fun⟨m,hm⟩=>?_⟩;obtain⟨p',aa,R,m',T,e⟩:=(h.mem _).1 hm;simp only[ya] at e;have:p=p':=by rw[←(fe o.rise u).1,←(fe o.rise aa).1,e.1]
  subst this;have hI:QH D p R:=by unfold QH;rw[T];rfl
  have e1:=nG Q (o.small p u) K P;have X:=nG Q (o.small p u) (h.ok p R hI).2 (h.inside p R hI);rw[e.2.1] at e1;change fL (zq cs) (uk (zq cs) R (uK t p) 3) 0 [0,0,0]=some R at X;rw[e1,zt] at X;rw[X,T] at d;cases d
 have w:∀f∈l,∃p,p<t.length/\∃r,D p r=none/\ju M D p r/\f=(fC t p,uk (zq cs) r (uK t p) 3,k):=by
  intro f E;obtain⟨⟨c,n,I,C,x,J,rfl⟩,Z⟩:=(Y f).1 E;obtain⟨r,O,rfl⟩:=h.der2 o n J;have hh:c.head∈zk c:=by simp[zk]
  obtain⟨V,S,U,l4⟩:=o.lit c n c.head hh;refine⟨zO t c.head.pred,V,r,?_,(N _ r).2 ⟨c,n,C,I,rfl,O⟩,by rw[S,U]⟩;cases d:D (zO t c.head.pred) r with
  |none=>rfl
  |some m=>exact zC ⟨m,(h.lit o n hh _ m).2 ⟨r,d,rfl⟩⟩ Z
 have B:∀p r,QH (zyr M k D) p r->QH D p r∨(D p r=none/\ju M D p r):=by
  intro p r j;unfold QH zyr at j;cases d:D p r with
  |some m=>exact zf (by unfold QH;rw[d];rfl)
  |none=>
   rw[d] at j;simp only at j;split at j
   ·rename_i z;exact zb ⟨rfl,z⟩
   ·cases j
 refine⟨⟨fun f=>?_,qa.2 ⟨h.once,n1,fun a ha b C e=>?_⟩,fun p r j=>?_,fun p r j=>?_⟩,fun e p r j=>?_,fun e=>?_⟩
 ·rw[zI];constructor
  ·rintro(E|E)
   ·obtain⟨p,y,r,m,d,rfl⟩:=(h.mem f).1 E;exact⟨p,y,r,m,Nn d,rfl⟩
   ·obtain⟨p,y,r,d,j,rfl⟩:=w f E;refine⟨p,y,r,k,?_,rfl⟩;unfold zyr;rw[d];exact zc j
  ·rintro⟨p,y,r,m,d,rfl⟩;unfold zyr at d;cases v:D p r with
   |some m'=>
    rw[v] at d;cases d;exact zf ((h.mem _).2 ⟨p,y,r,m,v,rfl⟩)
   |none=>
    rw[v] at d;simp only at d;split at d
    ·rename_i z;cases d;exact zb (A p r v z)
    ·cases d
 ·subst e;exact((Y a).1 C).2 ⟨a.2.2,ha⟩
 ·rcases B p r j with z|⟨_,z⟩
  ·exact h.ok p r z
  ·obtain⟨c,_,_,_,_,_,_,q1,q2,_⟩:=q p r z;exact⟨by simpa using q1,q2⟩
 ·rcases B p r j with z|⟨_,z⟩
  ·exact h.inside p r z
  ·obtain⟨c,_,_,_,_,_,_,q1,q2,q3⟩:=q p r z;exact q3
 ·rcases B p r j with z|⟨z1,z2⟩
  ·exact z
  ·have:=A p r z1 z2;rw[e] at this;cases this
 ·cases l with
  |nil=>rfl
  |cons f l=>
   obtain⟨p,_,r,d,j,_⟩:=w f (by simp);have:=e p r (Cu p r j);unfold QH at this;rw[d] at this;cases this
theorem Rx.card(q:uf cs t){D:DB}(h:Rx t (zq cs) L D):fI D L.length:=by
 have u:=(hZ cs).1;have d:=fun p r (i:QH D p r)=>nG u (q.small p (by have:=(h.ok p r i).1;simpa using this)) (h.ok p r i).2 (h.inside p r i);have c:∀f∈L,∃p r m,D p r=some m/\f=(fC t p,uk (zq cs) r (uK t p) 3,m)/\(zO t f.1,(fL (zq cs) f.2.1 0 [0,0,0]).getD [])=(p,r):=by
  intro f s;obtain⟨p,n,r,m,l,rfl⟩:=(h.mem f).1 s;exact⟨p,r,m,l,rfl,by rw[(fe q.rise n).1,d p r (by unfold QH;rw[l];rfl)];rfl⟩
 refine⟨L.map fun f=>(zO t f.1,(fL (zq cs) f.2.1 0 [0,0,0]).getD []),?_,fun p x=>?_,by simp⟩
 ·rw[nC,lY];have:=h.once;rw[nC] at this;refine this.imp_of_mem fun{a b} w v o e=>o ?_;obtain⟨p,r,m,l,z,C⟩:=c a w;obtain⟨y,A,B,j,k,g⟩:=c b v;rw[C,g] at e;cases e;rw[j] at l;cases l;rw[z,k]
 ·rw[z7];constructor
  ·rintro⟨f,s,e⟩;obtain⟨y,A,B,j,k,g⟩:=c f s;rw[g] at e;cases e;unfold QH;rw[j];rfl
  ·intro i;obtain⟨m,E⟩:=mm.1 i;have n:p<t.length:=by have:=(h.ok p x i).1;simpa using this
   refine⟨_,(h.mem _).2 ⟨p,n,x,m,E,rfl⟩,?_⟩;rw[(fe q.rise n).1,d p x i];rfl
theorem Rx.small(a:uf cs t){D:DB}(h:Rx t (zq cs) L D)(mr:Nat):lB D mr↔L.length<=mr:=
 ⟨fun⟨n,b,c⟩=>by rw[←DA c (h.card a)];exact b,fun q=>⟨_,q,h.card a⟩⟩
end
section
variable {t:List zh}{cs:List zd}
noncomputable def z0y(t:List zh)(cs:List zd)(mr s:Nat):Nat->Nat->List zE->Option (List zE×Nat)
 |0,_,_=>none
 |left+1,k,L=>
  if (L++xB L (k+1) (ym t cs s) []).length<=mr then
   if xB L (k+1) (ym t cs s) []=[] then some (L++xB L (k+1) (ym t cs s) [],k+1)
   else z0y t cs mr s left (k+1) (L++xB L (k+1) (ym t cs s) [])
  else none
noncomputable def zyz(t:List zh)(cs:List zd)(mr mx:Nat):Nat->Nat->Nat->List zE->Option (List zE×Nat)
 |0,_,k,L=>some (L,k)
 |n+1,s,k,L=>
  if ym t cs s=[] then zyz t cs mr mx n (s+1) k L
  else match z0y t cs mr s (mx-k) k L with
   |none=>none
   |some (L',k')=>zyz t cs mr mx n (s+1) k' L'
def xE(cs:List zd):List zE:=((cs.filter fun c=>decide (c.body.length=0)).map fun c=>(c.head.pred,c.head.args,0)).foldl (ud []) []
noncomputable def yly(t:List zh)(cs:List zd)(mr mx:Nat):Option (List zE×Nat):=if (xE cs).length<=mr then zyz t cs mr mx t.length 0 0 (xE cs) else none
def oZ(t:List zh)(ns:κ):Option (List zE×Nat)->Option (DB×Nat)->Prop
 |none,none=>True
 |some (L,k),some (D,e)=>k=e/\Rx t ns L D
 |_,_=>False
theorem BZ{cs:List zd}{f t:List zh}(e:QN cs f t)(a:uf cs t)(mr s:Nat):∀(left k:Nat) (L:List zE) (D:DB),Rx t (zq cs) L D->oZ t (zq cs) (z0y t cs mr s left k L) (zya ((uE t (zq cs) none cs).filter fun r=>decide (r.qh=s)) mr left k D)
 |0,k,L,D,h=>trivial
 |left+1,k,L,D,h=>by
  obtain⟨b,c⟩:=h.round e a s (k+1);have d:=b.small a mr;unfold z0y zya;by_cases q:(L++xB L (k+1) (ym t cs s) []).length<=mr
  ·rw[zc q,zc (d.2 q)];by_cases z:xB L (k+1) (ym t cs s) []=[]
   ·rw[zc z,zc (c.1 z)];exact⟨rfl,b⟩
   ·rw[za z,za fun y=>z (c.2 y)];exact BZ e a mr s left (k+1) _ _ b
  ·rw[za q,za fun y=>q (d.1 y)];trivial
theorem E5{s:Nat}:ym t cs s=[]↔¬∃c∈cs,0<c.body.length/\xr t c.head.pred=s:=by
 unfold ym;rw[List.filter_eq_nil_iff];exact⟨fun h ⟨c,a,b,d⟩=>h c a (decide_eq_true ⟨d,b⟩),fun h c a q=>h ⟨c,a,(of_decide_eq_true q).2,(of_decide_eq_true q).1⟩⟩
theorem eH{cs:List zd}{i t:List zh}(d:QN cs i t)(c:uf cs t)(mr mx:Nat):∀(n s k:Nat) (L:List zE) (D:DB),Rx t (zq cs) L D->oZ t (zq cs) (zyz t cs mr mx n s k L) (zyg (uE t (zq cs) none cs) mr mx n s k D)
 |0,s,k,L,D,h=>⟨rfl,h⟩
 |n+1,s,k,L,D,h=>by
  unfold zyz zyg;by_cases q:ym t cs s=[]
  ·rw[zc q,zc ((Bd cs s).2 (E5.1 q))];exact eH d c mr mx n (s+1) k L D h
  ·rw[za q,za fun z=>q (E5.2 ((Bd cs s).1 z))];have a:=BZ d c mr s (mx-k) k L D h;cases e:z0y t cs mr s (mx-k) k L with
   |none=>
    cases b:zya ((uE t (zq cs) none cs).filter fun r=>decide (r.qh=s)) mr (mx-k) k D with
    |none=>trivial
    |some y=>rw[e,b] at a;exact a.elim
   |some x=>
    cases b:zya ((uE t (zq cs) none cs).filter fun r=>decide (r.qh=s)) mr (mx-k) k D with
    |none=>rw[e,b] at a;exact a.elim
    |some y=>
     rw[e,b] at a;obtain⟨g,f⟩:=x;obtain⟨j,l⟩:=y;obtain⟨rfl,a⟩:=a;exact eH d c mr mx n (s+1) f g j a
theorem wV(h:uf cs t){c:zd}(f:c∈cs)(n:c.body.length=0):uk (zq cs) (vL t (zq cs) c).row c.head.args.length 3=c.head.args/\QP c.head.args.length (vL t (zq cs) c).row/\∀i,i<c.head.args.length->(vL t (zq cs) c).row.getD i 0<(zq cs).length:=by
 have b:c.head∈zk c:=by simp[zk]
 have j:∀k,([0,0,0,0,0]:List Nat).getD k 0<5:=by
  intro k;rcases k with _|_|_|_|_|k<;>simp
 have g:=mo.1 n;have e:∀v,v∉zw c:=by
  intro v d;rw[dG,g] at d;obtain⟨_,l,m,_⟩:=d;cases m
 unfold vL;rw[rC t (zq cs) [] j];refine⟨?_,h.can f (fun v d=>zC d (e v)) c.head b⟩;rw[wu f b (h.lit c f c.head b).2.2.2];unfold Re;conv=>rhs;rw[←List.map_id c.head.args]
 refine kR fun a o=>?_;rw[za fun d=>e a (h.cov c f c.head b a o d)];rfl
theorem EG(d:uf cs t):Rx t (zq cs) (xE cs) (zzv (vI t (zq cs) cs)):=by
 have v:∀p x,zzv (vI t (zq cs) cs) p x=if ∃c∈cs,c.body.length=0/\p=zO t c.head.pred/\(vL t (zq cs) c).row=x then some 0 else none:=by
  intro p x;unfold zzv;congr 1;apply propext;unfold vI;simp only[z7,ub];constructor
  ·rintro⟨f,⟨c,⟨a,b⟩,rfl⟩,q,u⟩;exact⟨c,a,by simpa using b,q.symm,u⟩
  ·rintro⟨c,a,b,q,u⟩;exact⟨_,⟨c,⟨a,by simp[b]⟩,rfl⟩,q.symm,u⟩
 have e:∀p x,QH (zzv (vI t (zq cs) cs)) p x->∃c∈cs,c.body.length=0/\p=zO t c.head.pred/\(vL t (zq cs) c).row=x:=by
  intro p x h;unfold QH at h;rw[v] at h;split at h
  ·assumption
  ·cases h
 obtain⟨A,z⟩:=sN (fs:=[]) (k:=0) ((cs.filter fun c:zd=>decide (c.body.length=0)).map fun c:zd=>((c.head.pred,c.head.args,0):zE)) [] (fun g n=>by
  obtain⟨c,_,rfl⟩:=z7.1 n;rfl) (fun g n=>by cases n) List.nodup_nil (fun g n=>by cases n)
 refine⟨fun f=>(z f).trans ?_,A,fun p x h=>?_,fun p x h=>?_⟩
 ·simp only[fG,false_or,exists_false,not_false_eq_true,and_true,z7,ub,decide_eq_true_eq];constructor
  ·rintro⟨c,⟨a,b⟩,rfl⟩;obtain⟨o,j,l,w⟩:=d.lit c a c.head (by simp[zk]);exact⟨_,o,(vL t (zq cs) c).row,0,by rw[v];exact zc ⟨c,a,b,rfl,rfl⟩,by rw[j,l,(wV d a b).1]⟩
  ·rintro⟨p,B,r,m,s,rfl⟩;have y:QH (zzv (vI t (zq cs) cs)) p r:=by unfold QH;rw[s];rfl
   obtain⟨c,a,b,rfl,rfl⟩:=e p r y;rw[v,zc ⟨c,a,b,rfl,rfl⟩] at s;cases s;obtain⟨o,j,l,w⟩:=d.lit c a c.head (by simp[zk]);exact⟨c,⟨a,b⟩,by rw[j,l,(wV d a b).1]⟩
 ·obtain⟨c,a,b,rfl,rfl⟩:=e p x h;obtain⟨o,j,l,w⟩:=d.lit c a c.head (by simp[zk]);refine⟨by simpa using o,?_⟩;change QP (uK t _) _;rw[j];exact(wV d a b).2.1
 ·obtain⟨c,a,b,rfl,rfl⟩:=e p x h;obtain⟨o,j,l,w⟩:=d.lit c a c.head (by simp[zk]);change ∀i,i<uK t _->_;rw[j];exact(wV d a b).2.2
theorem JL{d:List zh}(f:QN cs d t)(b:uf cs t)(mr mx:Nat):oZ t (zq cs) (yly t cs mr mx) (z1m (vd t (zq cs) none cs) mr mx):=by
 have h:=EG b;have c:=h.small b mr;unfold yly z1m;have e:(vd t (zq cs) none cs).qj.length=t.length:=by simp[vd]
 rw[e];by_cases q:(xE cs).length<=mr
 ·rw[zc q];have a:lB (zzv (vd t (zq cs) none cs).facts) mr:=c.2 q;rw[zc a];exact eH f b mr mx _ 0 0 _ _ h
 ·rw[za q];have a:¬lB (zzv (vd t (zq cs) none cs).facts) mr:=fun y=>q (c.1 y);rw[za a];trivial
end
section
variable {cs:List zd}{t:List zh}
theorem eh{α β:Type}(f:α->List β)(m:Nat):∀(l:List α),(∀x∈l,(f x).length=m)->(l.flatMap f).length=l.length*m
 |[],_=>by simp
 |a::l,h=>by
  rw[us,yq,eh f m l (fun x b=>h x (by simp[b])),h a (by simp),xi,Nat.succ_mul];omega
def m5{α:Type}(ns:List α):Nat->List (List α)
 |0=>[[]]
 |k+1=>ns.flatMap fun x=>(m5 ns k).map (x::·)
theorem ow{α:Type}(ns:List α):∀k,(m5 ns k).length=ns.length ^ k
 |0=>rfl
 |k+1=>by
  unfold m5;rw[eh _ (ns.length ^ k) ns (fun x _=>by rw[uu];exact ow ns k),Nat.pow_succ,Nat.mul_comm]
theorem oD{α:Type}{ns:List α}:∀(l:List α),(∀x∈l,x∈ns)->l∈m5 ns l.length
 |[],_=>by simp[m5]
 |x::l,h=>by
  rw[xi];unfold m5;exact uS.2 ⟨x,h x (by simp),z7.2 ⟨l,oD l (fun y a=>h y (by simp[a])),rfl⟩⟩
theorem Ma(b:uf cs t){L:List zE}{D:DB}(h:Rx t (zq cs) L D):L.length<=t.length*((zq cs).length+1) ^ 3:=by
 obtain⟨l,n,k,j⟩:=h.card b;rw[←j];have g:(((List.range t.length).flatMap fun p=>(m5 (List.range ((zq cs).length+1)) 3).map fun r=>(p,r))).length=t.length*((zq cs).length+1) ^ 3:=by
  rw[eh _ (((zq cs).length+1) ^ 3) _ (fun x _=>by rw[uu,ow,nQ]),nQ]
 rw[←g];refine lS n fun x a=>?_;obtain⟨p,r⟩:=x;have c:=(k p r).1 a;obtain⟨f,d⟩:=h.ok p r c;have o:=h.inside p r c;refine uS.2 ⟨p,vQ.2 (by simpa using f),z7.2 ⟨r,?_,rfl⟩⟩;have:=oD (ns:=List.range ((zq cs).length+1)) r (fun x b=>?_)
 ·rw[d.1] at this;exact this
 ·obtain⟨i,e,rfl⟩:=vw.1 b;rw[vQ];by_cases m:i<(t.map (·.jh)).getD p 0
  ·have:=o i m;rw[List.getD,yp e,ux] at this;omega
  ·have:=d.2 i (by omega);rw[List.getD,yp e,ux] at this;omega
def vW(fs:List zE):List zj->yz->List yz
 |[],B=>[B]
 |l::rest,B=>if l.neg=true then vW fs rest B else fs.flatMap fun f=>if f.1=l.pred then(match xj B l.args f.2.1 with|none=>[]|some a=>vW fs rest a) else []
theorem iE(fs:List zE)(h:zj)(body:List zj):∀(rest:List zj) (B:yz),(ye fs h body rest B).length<=(vW fs rest B).length
 |[],B=>by
  unfold ye vW;split<;>simp
 |l::rest,B=>by
  unfold ye vW;split
  ·exact iE fs h body rest B
  ·have:∀a:List zE,(a.flatMap fun f=>if f.1=l.pred then(match xj B l.args f.2.1 with|none=>[]|some b=>ye fs h body rest b) else []).length<=(a.flatMap fun f=>if f.1=l.pred then(match xj B l.args f.2.1 with|none=>[]|some b=>vW fs rest b) else []).length:=by
    intro a;induction a with
    |nil=>simp
    |cons g a c=>
     rw[us,us,yq,yq];refine Nat.add_le_add ?_ c;split
     ·split
      ·exact zg _
      ·exact iE fs h body rest _
     ·exact zg _
   exact this fs
def dB(body:List zj)(B:yz):List (κ):=body.map fun l=>if l.neg=true then [] else y9 B l.args
theorem eK{cs:List zd}{fs:List zE}(J:pV cs fs){c:zd}(Z:c∈cs)(D:∀l∈zk c,∀a∈l.args,a≠ByteArray.empty)(ho:∀f∈fs,∀g∈fs,f.1=g.1->f.2.1=g.2.1->f=g)(V:fs.Nodup):∀(rest done:List zj) (B:yz),c.body=done++rest->vZ B->(∀l∈done,l.neg=false->∀a∈l.args,yd B a≠ByteArray.empty)->(∀j∈vW fs rest B,vZ j/\Sx B j/\∀l∈rest,l.neg=false->(∃m,(l.pred,y9 j l.args,m)∈fs)/\∀a∈l.args,yd j a≠ByteArray.empty)/\((vW fs rest B).map (dB rest)).Nodup
 |[],done,B,e,Q,O=>by
  unfold vW;refine⟨fun j d=>?_,by simp⟩;rw[xG.1 d];exact⟨Q,fun v x q=>q,fun l hl=>by cases hl⟩
 |l::rest,done,B,e,Q,O=>by
  have e2:c.body=(done++[l])++rest:=by rw[e];simp
  have N:l∈zk c:=by simp[zk,e]
  unfold vW;split
  ·rename_i i;obtain⟨L,P⟩:=eK J Z D ho V rest (done++[l]) B e2 Q (fun u r k=>by
    rcases zI.1 r with q|q
    ·exact O u q k
    ·rw[xG.1 q,i] at k;cases k)
   refine⟨fun j d=>⟨(L j d).1,(L j d).2.1,fun u r k=>?_⟩,?_⟩
   ·rcases zx.1 r with rfl|q
    ·rw[i] at k;cases k
    ·exact(L j d).2.2 u q k
   ·have:(vW fs rest B).map (dB (l::rest))=((vW fs rest B).map (dB rest)).map ([]::·):=by
     rw[mK];refine kR fun j _=>?_;simp[dB,i]
    rw[this,nC,lY];rw[nC] at P;exact P.imp fun h q=>h (by simpa using q)
  ·rename_i i;have i:l.neg=false:=by simpa using i
   have n:∀f∈fs,f.1=l.pred->∀o,xj B l.args f.2.1=some o->(∀j∈vW fs rest o,vZ j/\Sx B j/\y9 j l.args=f.2.1/\(∀a∈l.args,yd j a≠ByteArray.empty)/\∀u∈rest,u.neg=false->(∃m,(u.pred,y9 j u.args,m)∈fs)/\∀a∈u.args,yd j a≠ByteArray.empty)/\((vW fs rest o).map (dB rest)).Nodup:=by
    intro f w y o E;obtain⟨j1,j2,j3⟩:=pI l.args f.2.1 B o (J.jh f w c Z l N y.symm).symm (J.ne f w) (D l N) Q E;have C:∀a∈l.args,yd o a≠ByteArray.empty:=fun a s=>by
     have:yd o a∈y9 o l.args:=z7.2 ⟨a,s,rfl⟩;rw[j3] at this;exact J.ne f w _ this
    obtain⟨L,P⟩:=eK J Z D ho V rest (done++[l]) o e2 j1 (fun u r k a s=>by
     rcases zI.1 r with q|q
     ·rw[nJ j2 (O u q k a s)];exact O u q k a s
     ·rw[xG.1 q] at s;exact C a s)
    refine⟨fun j d=>?_,P⟩;obtain⟨W,M,k3⟩:=L j d;exact⟨W,j2.trans M,by rw[←j3];exact kR fun a s=>nJ M (C a s),fun a s=>by rw[nJ M (C a s)];exact C a s,k3⟩
   refine⟨fun j d=>?_,?_⟩
   ·obtain⟨f,w,d⟩:=uS.1 d;split at d
    ·rename_i y;split at d
     ·cases d
     ·rename_i o E;obtain⟨W,M,k3,k4,k5⟩:=(n f w y o E).1 j d;refine⟨W,M,fun u r k=>?_⟩;rcases zx.1 r with rfl|q
      ·exact⟨⟨f.2.2,by rw[k3,←y];exact w⟩,k4⟩
      ·exact k5 u q k
    ·cases d
   ·have Y:∀G:List zE,G.Nodup->(∀g∈G,g∈fs)->((G.flatMap fun f=>if f.1=l.pred then(match xj B l.args f.2.1 with|none=>[]|some j=>vW fs rest j) else []).map (dB (l::rest))).Nodup:=by
     intro G;induction G with
     |nil=>intro _ _;simp
     |cons g G ih=>
      intro X z;obtain⟨S,U⟩:=qN.1 X;rw[us,uP,qa];have F:=z g (by simp);refine⟨?_,ih U (fun x hx=>z x (by simp[hx])),?_⟩
      ·split
       ·rename_i y;split
        ·simp
        ·rename_i o E;obtain⟨s1,s2⟩:=n g F y o E;have:(vW fs rest o).map (dB (l::rest))=((vW fs rest o).map (dB rest)).map (g.2.1::·):=by
          rw[mK];refine kR fun j d=>?_;simp[dB,i,(s1 j d).2.2.1]
         rw[this,nC,lY];rw[nC] at s2;exact s2.imp fun h q=>h (by simpa using q)
       ·simp
      ·intro a s b hb H;obtain⟨A,I,rfl⟩:=z7.1 s;obtain⟨A2,p,rfl⟩:=z7.1 hb;obtain⟨f,w,p⟩:=uS.1 p;split at I
       ·rename_i y;split at I
        ·cases I
        ·rename_i o E;split at p
         ·rename_i K;split at p
          ·cases p
          ·rename_i B2 T;have r1:=((n g F y o E).1 A I).2.2.1;have r2:=((n f (z f (by simp[w])) K B2 T).1 A2 p).2.2.1;have:y9 A l.args=y9 A2 l.args:=by
            simp only[dB,xH,i,mp] at H;simpa using H.1
           have R:=ho g F f (z f (by simp[w])) (y.trans K.symm) (by rw[←r1,←r2,this]);exact S (R ▸ w)
         ·cases p
       ·cases I
    exact Y fs V (fun g Y=>Y)
theorem Jz(d:uf cs t){L:List zE}{D:DB}(h:Rx t (zq cs) L D){c:zd}(w:c∈cs):(ye L c.head c.body c.body []).length<=(zq cs).length ^ (zw c).length:=by
 refine yc (iE L c.head c.body c.body []) ?_;have ho:∀f∈L,∀g∈L,f.1=g.1->f.2.1=g.2.1->f=g:=by
  intro f Z g hg V W;obtain⟨p,K,r,m,s,rfl⟩:=(h.mem f).1 Z;obtain⟨p',R,u,m',A,rfl⟩:=(h.mem g).1 hg;simp only at V W;have:p=p':=by rw[←(fe d.rise K).1,←(fe d.rise R).1,V]
  subst this;have U:QH D p r:=by unfold QH;rw[s];rfl
  have T:QH D p u:=by unfold QH;rw[A];rfl
  have C:=nG (hZ cs).1 (d.small p K) (h.ok p r U).2 (h.inside p r U);have E:=nG (hZ cs).1 (d.small p K) (h.ok p u T).2 (h.inside p u T);change fL (zq cs) (uk (zq cs) r (uK t p) 3) 0 [0,0,0]=some r at C;change fL (zq cs) (uk (zq cs) u (uK t p) 3) 0 [0,0,0]=some u at E;rw[W,E,zt] at C;subst C;rw[A] at s;cases s;rfl
 obtain⟨h1,S⟩:=eK (h.fs d) w (d.ne w) ho h.once c.body [] [] rfl (fun v x q=>by cases q) (fun l n=>by cases n);have o:∀B∈vW L c.body [],∀v∈zw c,yd B v∈zq cs:=by
  intro B P v j;obtain⟨X,l,n,J,O⟩:=dG.1 j;obtain⟨⟨m,Q⟩,_⟩:=(h1 B P).2.2 l n J;have k:l∈zk c:=by simp[zk,n]
  obtain⟨r,s,er⟩:=(h.lit d w k _ m).1 Q;obtain⟨C,E⟩:=h.can d w k (r:=r) (by unfold QH;rw[s];rfl);have:yd B v∈y9 B l.args:=z7.2 ⟨v,O,rfl⟩;rw[er] at this;simp only[uk,z7,vQ] at this;obtain⟨i,hi,e⟩:=this;have h3:=(d.lit c w l k).2.2.2;rw[zc (by omega)] at e;rw[←e];exact iQ (E i hi)
 have z:∀F∈vW L c.body [],∀M∈vW L c.body [],(zw c).map (yd F)=(zw c).map (yd M)->dB c.body F=dB c.body M:=by
  intro F _ M _ e;refine kR fun l n=>?_;split
  ·rfl
  ·rename_i J;refine kR fun a I=>?_;by_cases j:zP a=true
   ·have Q:=dG.2 ⟨j,l,n,by simpa using J,I⟩;exact List.map_inj_left.1 e a Q
   ·unfold yd;rw[za j,za j]
 have N:((vW L c.body []).map fun B=>(zw c).map (yd B)).Nodup:=by
  rw[nC,lY] at S ⊢;exact S.imp_of_mem fun{a b} I Y G e=>G (z a I b Y e)
 have:=lS N (l2:=m5 (zq cs) (zw c).length) (fun x H=>by
  obtain⟨B,P,rfl⟩:=z7.1 H;have:=oD (ns:=zq cs) ((zw c).map (yd B)) (fun y hy=>by
   obtain⟨v,j,rfl⟩:=z7.1 hy;exact o B P v j)
  rw[uu] at this;exact this)
 rw[uu,ow] at this;exact this
theorem LM{i:List zh}(l:QN cs i t)(b:uf cs t)(g:t.length<=1000)(j:(zq cs).length<=250):∀L D,Rx t (zq cs) L D->L.length<1000000000000/\∀c∈cs,(ye L c.head c.body c.body []).length<=1000000000000:=by
 intro L D h;refine⟨?_,fun c a=>?_⟩
 ·have m:=Ma b h;have d:((zq cs).length+1) ^ 3<=251 ^ 3:=Nat.pow_le_pow_left (by omega) 3;have k:=Nat.mul_le_mul g d;have e:(1000*251 ^ 3:Nat)=15813251000:=by decide
  omega
 ·have m:=Jz b h a;have f:=lu (l.many c a);have d:(zq cs).length ^ (zw c).length<=250 ^ (zw c).length:=Nat.pow_le_pow_left j _;have k:250 ^ (zw c).length<=250 ^ 5:=Nat.pow_le_pow_right (by omega) f;have e:(250 ^ 5:Nat)=976562500000:=by decide
  omega
theorem Ii{s:ByteArray}(h:xL s=.ok (cs,t)):(zq cs).length<=250:=by
 obtain⟨d,a⟩:=Fx h;have b:=Az h;have c:=iN cs a.many;have e:=CH cs;omega
end
end Go.Proofs.YteampbddflhngaaGreat
