import Derived.Test.YteampbddflhngaaGreatX04
namespace Go.Proofs.YteampbddflhngaaGreat
set_option linter.all false
section
open Classical
theorem s6{c:List Nat}{W:Nat}{R:zw}(h:qB c W R)(r:∀a∈c,a<=3){p:Nat}(j:p<R.rows.length)(x:zk):x∈(PY R.rows[p]).map (fun k=>QA k R.rows[p].ql)↔P9 (zyf c R) p x:=by
 obtain⟨n,t,l,q⟩:=h.tries p j;have b:p<c.length:=by rw[←h.len];exact j
 have g:c.getD p 0<=3:=by rw[P5 _ b];exact r _ (zv b)
 have i:R.rows[p].ql<=3:=by rw[l];exact(fO _).2
 have f:R.rows.getD p zi.zero=R.rows[p]:=P5 _ j;unfold P9 zyf;constructor
 ·intro d;obtain⟨k,o,rfl⟩:=z9.1 d;obtain⟨m,s⟩:=(qV _ k).1 o;rw[zb ⟨b,q k o⟩,f,n.mark _ (oW m i),rc m];exact s
 ·intro d;by_cases e:p<c.length/\PG (c.getD p 0) x
  ·rw[zb e,f,n.mark x e.2.1] at d;refine z9.2 ⟨x.take R.rows[p].ql,(qV _ _).2 ⟨by rw[vU,e.2.1];omega,d⟩,?_⟩;rw[l,A7 g e.2]
  ·rw[za e] at d;cases d
def fF(D:DB)(n:Nat):Prop:=∃l:List (Nat×zk),l.Nodup/\(∀p x,(p,x)∈l↔P9 D p x)/\l.length=n
theorem e8:∀{l1 l2:List (Nat×zk)},l1.Nodup->(∀x∈l1,x∈l2)->l1.length<=l2.length
 |[],l2,_,_=>by simp
 |a::l1,l2,c,f=>by
  have e:=f a (by simp);have g:=e8 (l1:=l1) (l2:=l2.erase a) (j8.1 c).2 (fun x d=>by
   have b:x≠a:=by rintro rfl;exact(j8.1 c).1 d
   exact(mS b).2 (f x (by simp[d])))
  rw[nQ e] at g;have:=ny e;simp;omega
theorem pH{D E:DB}{n m:Nat}(h:fF D n)(k:fF E m)(hs:∀p x,P9 D p x->P9 E p x):n<=m:=by
 obtain⟨l,c,a,rfl⟩:=h;obtain⟨e,f,d,rfl⟩:=k;exact e8 c fun x b=>(d x.1 x.2).2 (hs _ _ ((a x.1 x.2).1 b))
theorem oX{D:DB}{n m:Nat}(h:fF D n)(k:fF D m):n=m:=Nat.le_antisymm (pH h k fun _ _ q=>q) (pH k h fun _ _ q=>q)
theorem Hl{D E:DB}{n m:Nat}(h:fF D n)(k:fF E m)(hs:∀p x,P9 D p x->P9 E p x)(i:m<=n):∀p x,P9 E p x->P9 D p x:=by
 intro p x e;false_or_by_contra
 rename_i d;obtain⟨l,g,b,rfl⟩:=h;obtain⟨f,j,c,rfl⟩:=k;have:=e8 (l1:=(p,x)::l) (l2:=f) (j8.2 ⟨fun q=>d ((b p x).1 q),g⟩) (fun y a=>by
  rcases zu.1 a with rfl|a
  ·exact(c p x).2 e
  ·exact(c y.1 y.2).2 (hs _ _ ((b y.1 y.2).1 a)))
 simp at this;omega
theorem qB.card{g:List Nat}{W:Nat}{R:zw}(h:qB g W R)(r:∀a∈g,a<=3):fF (zyf g R) R.count:=by
 refine⟨(List.range R.rows.length).flatMap fun p=>((PY (R.rows.getD p zi.zero)).map fun k=>QA k (R.rows.getD p zi.zero).ql).map fun x=>(p,x),?_,fun p x=>?_,?_⟩
 ·unfold List.Nodup;rw[List.pairwise_flatMap];refine⟨fun p f=>?_,?_⟩
  ·have j:=gh.1 f;rw[mE,P5 _ j,mE];refine List.Pairwise.imp_of_mem ?_ (ir R.rows[p] R.rows[p].ql 0 0);intro a b w v c e;simp only[yc,true_and] at e;have l:=((qV R.rows[p] a).1 w).1;have m:=((qV R.rows[p] b).1 v).1;have:=congrArg (List.take R.rows[p].ql) e;rw[rc l,rc m] at this;exact c this
  ·refine List.Pairwise.imp ?_ (List.nodup_range (n:=R.rows.length));intro a b c x d y u e;obtain⟨_,_,rfl⟩:=z9.1 d;obtain⟨_,_,rfl⟩:=z9.1 u;simp only[yc] at e;exact c e.1
 ·simp only[uF,gh];constructor
  ·rintro⟨q,s,d⟩;obtain⟨z,o,e⟩:=z9.1 d;simp only[yc] at e;obtain⟨rfl,rfl⟩:=e;rw[P5 _ s] at o;exact(s6 h r s z).1 o
  ·intro d;have f:p<R.rows.length:=by rw[h.len];exact(CO g R p x d).1
   refine⟨p,f,z9.2 ⟨x,?_,rfl⟩⟩;rw[P5 _ f];exact(s6 h r f x).2 d
 ·rw[List.length_flatMap,h.cnt];congr 1;refine gS (by simp) fun i l m=>?_;have t:i<R.rows.length:=by simpa using l
  simp only[vm,mI,uJ,P5 zi.zero t];exact(h.tries i t).1.cnt
def p9:DB:=fun _ _=>none
theorem oG{o:List Nat}{W wd:Nat}(c:W=zJ wd)(t:∀a∈o,a<=3){R:zw}(h:qB o W R)(F:R.count<=1048576)(b:Nat)(j:3*(W+1)<=b):∀(m:List zt),(∀l∈m,l.pred<o.length)->∃vs,gO b wd R m=some vs/\vs.length=m.length/\∀(i:Nat) (l:zt) (V:y6),m[i]?=some l->vs[i]?=some V->m7 V l W (P9 p9 l.pred) (P9 (zyf o R) l.pred) (fun x=>P9 (zyf o R) l.pred x/\¬P9 p9 l.pred x) ((R.rows.map (·.count)).getD l.pred 0)
 |[],_=>⟨[],rfl,rfl,fun i l V h=>by simp at h⟩
 |l::m,C=>by
  obtain⟨vs,L,E,K⟩:=oG c t h F b j m (fun x u=>C x (by simp[u]));have d:l.pred<R.rows.length:=by rw[h.len];exact C l (by simp)
  obtain⟨B,A,O,N⟩:=h.tries l.pred d;have y:=iU R.rows l.pred d;rw[←h.cnt] at y;have w:0<W:=by rw[c];unfold zJ;split<;>omega
  have p:fR wd R l.pred=R.rows[l.pred]:=by unfold fR;rw[za (by omega),P5 _ d]
  have s:=B.rowsG b (by rw[A];exact j) (by omega);have H:m7 (kA wd l) l W (fun _=>False) (fun _=>False) (fun _=>False) 0:=⟨rfl,uM.new l wd W c,uM.new l wd W c,uM.new l wd W c,by simp[kA,yR,yt],by simp[kA,yR,yt]⟩;have g:((PY R.rows[l.pred]).map fun k=>QA k R.rows[l.pred].ql).length=R.rows[l.pred].count:=by rw[uJ];exact B.cnt
  obtain⟨I,M,n⟩:=Dp H c ((PY R.rows[l.pred]).map fun k=>QA k R.rows[l.pred].ql) (fun x u=>by
   obtain⟨k,J,rfl⟩:=z9.1 u;refine oL w ?_;intro v D;have:=sB k 0 ((qV _ k).1 J).2 v D;rw[A] at this;exact this) (by rw[g];omega) b j
  have f:∀x,¬P9 p9 l.pred x:=fun x q=>by cases q
  refine⟨I::vs,?_,by simp[E],fun i G U z r=>?_⟩
  ·unfold gO;rw[p,s];simp only[M,L]
  ·cases i with
   |zero=>
    simp only[dK,zr] at z r;subst z;subst r;refine⟨n.lit,n.before.congr fun x=>⟨fun q=>by rcases q with q|q<;>exact q.elim,fun q=>zB q (f x)⟩,n.qo.congr fun x=>?_,n.all.congr fun x=>?_,?_⟩
    ·rw[s6 h t d];exact⟨fun q=>⟨q,f x⟩,fun q=>q.1⟩
    ·rw[s6 h t d];exact⟨fun q=>q.resolve_left id,ze⟩
    ·have e:(R.rows.map (·.count)).getD l.pred 0=R.rows[l.pred].count:=by simp[List.getD,d]
     have:=n.few;rw[g] at this;rw[e];simpa using this
   |succ i=>exact K i G U (by simpa using z) (by simpa using r)
theorem Ef{d:List Nat}{W wd:Nat}(g:W=zJ wd)(n:∀a∈d,a<=3){R:zw}(h:qB d W R)(o:R.count<=1048576)(c:Nat)(f:3*(W+1)<=c)(s:Nat):∀(b:List zq),(∀r∈b,∀l∈r.qc,l.pred<d.length)->∃e,PT c wd R s b=some e/\jN d W p9 (zyf d R) (R.rows.map (·.count)) e (b.filter fun r=>decide (r.qh=s))
 |[],_=>⟨[],rfl,jN.nil⟩
 |r::b,m=>by
  obtain⟨e,k,j⟩:=Ef g n h o c f s b (fun x p=>m x (by simp[p]));unfold PT;by_cases i:r.qh=s
  ·obtain⟨vs,u,q,t⟩:=oG g n h o c f r.qc (m r (by simp));rw[zb i,u,k];refine⟨⟨r,vs⟩::e,rfl,?_⟩;rw[List.filter_cons_of_pos (by simp[i])];exact jN.cons ⟨rfl,q,t⟩ j
  ·rw[za i];refine⟨e,k,?_⟩;rw[List.filter_cons_of_neg (by simp[i])];exact j
theorem jN.length{b:List Nat}{W:Nat}{D0 D:DB}{c:List Nat}{a:List zZ}{rs:List zq}(h:jN b W D0 D c a rs):a.length=rs.length:=by
 induction h with
 |nil=>rfl
 |cons _ _ d=>simp[d]
end
section
open Classical
variable {ar:List Nat}{mr mx:Nat}
def n4(D:DB)(mr:Nat):Prop:=∃n,n<=mr/\fF D n
noncomputable def zyg(rs:List zq)(mr:Nat):Nat->Nat->DB->Option (DB×Nat)
 |0,_,_=>none
 |left+1,k,D=>
  if n4 (zy1 rs (k+1) D) mr then
   if ∀p x,P9 (zy1 rs (k+1) D) p x->P9 D p x then some (zy1 rs (k+1) D,k+1)
   else zyg rs mr left (k+1) (zy1 rs (k+1) D)
  else none
noncomputable def zzb(rules:List zq)(mr mx:Nat):Nat->Nat->Nat->DB->Option (DB×Nat)
 |0,_,k,D=>some (D,k)
 |n+1,s,k,D=>
  if (rules.filter fun r=>decide (r.qh=s))=[] then zzb rules mr mx n (s+1) k D
  else match zyg (rules.filter fun r=>decide (r.qh=s)) mr (mx-k) k D with
   |none=>none
   |some (D',k')=>zzb rules mr mx n (s+1) k' D'
noncomputable def zz8(fs:List qP):DB:=fun p x=>if ∃f∈fs,f.pred=p/\f.row=x then some 0 else none
noncomputable def z3f(S:qJ)(mr mx:Nat):Option (DB×Nat):=if n4 (zz8 S.facts) mr then zzb S.rules mr mx S.qj.length 0 0 (zz8 S.facts) else none
theorem Gg(rs:List zq)(k:Nat)(D:DB):∀p x,P9 D p x->P9 (zy1 rs k D) p x:=by
 intro p x h;unfold P9 zy1 at *;cases a:D p x with
 |some m=>rfl
 |none=>rw[a] at h;cases h
theorem o6{rs:List zq}{k:Nat}{D:DB}:∀p x,gT rs D p x->P9 (zy1 rs k D) p x:=by
 intro p x h;unfold P9 zy1;cases a:D p x with
 |some m=>rfl
 |none=>simp only;rw[zb h];rfl
theorem Ji{W wd:Nat}(y:W=zJ wd)(v:∀a∈ar,a<=3)(w:mr<=1048576){rs:List zq}(hs:p8 rs ar W)(B:Nat)(H:(∀r∈rs,fQ W r<=B)/\3*(W+1)<=B):
  ∀(n:Nat) (first:Bool) (u:List zZ) (R:zw) (D0:DB),qB ar W R->R.count<=mr->R.qw<=mx->(∀p x,P9 D0 p x->P9 (zyf ar R) p x)->jN ar W D0 (zyf ar R) (R.rows.map (·.count)) u rs->(first=false->∀p x,gT rs D0 p x->P9 (zyf ar R) p x)->B+(mx-R.qw)<n →
  ∃j ok,kF wd mr mx n first u R=some (j,ok)/\(ok=false->zyg rs mr (mx-R.qw) R.qw (zyf ar R)=none)/\(ok=true->qB ar W j/\j.count<=mr/\j.qw<=mx/\zyg rs mr (mx-R.qw) R.qw (zyf ar R)=some (zyf ar j,j.qw)):=by
 intro n;induction n with
 |zero=>intro first u R D0 _ _ _ _ _ _ h;omega
 |succ n S=>
  intro first u R D0 I O hk E V z hn
  unfold kF;by_cases l:R.qw≥mx
  ·rw[zb l];refine⟨R,false,rfl,fun _=>?_,fun q=>by cases q⟩;rw[show mx-R.qw=0 by omega];rfl
  ·rw[za l];obtain⟨left,i⟩:∃left,mx-R.qw=left+1:=⟨mx-R.qw-1,by omega⟩;obtain⟨c,F,ok,Y,C,G,U,T,a6⟩:=NX y v w n hs ⟨fun r L=>by have:=H.1 r L;omega,by have:=H.2;omega⟩ first I O E V z
   rw[Y];have b:=C.card v;have d:=I.card v;rw[i];cases ok with
   |false=>
    refine⟨c,false,rfl,fun _=>?_,fun q=>by cases q⟩;unfold zyg;rw[za];rintro⟨m,m1,N⟩;have:=pH b N U;have:=T rfl;omega
   |true=>
    obtain⟨D,t,X⟩:=a6 rfl;simp only;have k:n4 (zyf ar c) mr:=⟨c.count,D,b⟩;have g:∀p x,P9 (zyf ar R) p x->P9 (zyf ar c) p x:=by rw[t];exact Gg _ _ _
    by_cases f:c.count>R.count
    ·rw[zb f];have o:¬∀p x,P9 (zyf ar c) p x->P9 (zyf ar R) p x:=fun q=>by
      have:=pH b d q;omega
     obtain⟨P,A,Q,K,J⟩:=S false F c (zyf ar R) C D (by omega) g X (fun _ p x M=>by rw[t];exact o6 p x M) (by omega);have Z:mx-c.qw=left:=by omega
     have e:zyg rs mr (left+1) R.qw (zyf ar R)=zyg rs mr left c.qw (zyf ar c):=by
      rw[zyg,←t,zb k,za o,G]
     rw[Z] at K J;exact⟨P,A,Q,fun q=>by rw[e];exact K q,fun q=>by rw[e];exact J q⟩
    ·rw[za f];have s:=Hl d b g (by omega);refine⟨c,true,rfl,fun q=>(by cases q),fun _=>⟨C,D,by omega,?_⟩⟩;rw[zyg,←t,zb k,zb s,G]
structure sd (rs:List zq) (ar:List Nat) (W:Nat):Prop where
 rules:∀r∈rs,n5 r ar W
 apart:∀r∈rs,∀r'∈rs,r.qh=r'.qh->∀l∈r.qp,l.pred≠r'.head.pred
theorem sd.jm{a:List zq}{W:Nat}(h:sd a ar W)(s:Nat):p8 (a.filter fun r=>decide (r.qh=s)) ar W:=by
 refine⟨fun r c=>h.rules r (xX.1 c).1,fun r c g b l f=>h.apart r (xX.1 c).1 g (xX.1 b).1 ?_ l f⟩;have e:=(xX.1 c).2;have d:=(xX.1 b).2;simp at e d;omega
theorem Le{W wd:Nat}(g:W=zJ wd)(u:∀a∈ar,a<=3)(k:mr<=1048576){b:List zq}(t:sd b ar W)(B:Nat)(m:(∀r∈b,fQ W r<=B)/\3*(W+1)<=B)(d:Nat)(C:B+mx<d):
  ∀(n s:Nat) (R:zw),qB ar W R->R.count<=mr->R.qw<=mx->∃e ok,jX d wd mr mx b n s R=some (e,ok)/\(ok=false->zzb b mr mx n s R.qw (zyf ar R)=none)/\(ok=true->qB ar W e/\e.count<=mr/\zzb b mr mx n s R.qw (zyf ar R)=some (zyf ar e,e.qw)):=by
 intro n;induction n with
 |zero=>intro s R h i _;exact⟨R,true,rfl,fun q=>(by cases q),fun _=>⟨h,i,rfl⟩⟩
 |succ n z=>
  intro s R h i A;obtain⟨y,L,w⟩:=Ef g u h (by omega) d (by have:=m.2;omega) s b (fun r o l K=>((t.rules r o).qc l K).1);have c:=w.length;unfold jX mZ;rw[L];simp only;unfold zzb;by_cases j:(b.filter fun r=>decide (r.qh=s))=[]
  ·rw[zb j];rw[j] at c;rw[za (by simp at c;simp[c])];simp only;exact z (s+1) R h i A
  ·rw[za j];have f:y.length>0:=by rw[c];exact List.length_pos_iff.2 j
   rw[zb f];obtain⟨v,ok,J,F,D⟩:=Ji g u k (mx:=mx) (t.jm s) B ⟨fun r o=>m.1 r (xX.1 o).1,m.2⟩ d true y R p9 h i A (fun p x q=>by cases q) w (fun q=>by cases q) (by omega);rw[J];cases ok with
   |false=>
    refine⟨v,false,rfl,fun _=>?_,fun q=>by cases q⟩;rw[F rfl]
   |true=>
    obtain⟨H,E,I,G⟩:=D rfl;simp only;rw[G];exact z (s+1) v H E I
theorem Bq{ar:List Nat}{W:Nat}(r:∀a∈ar,a<=3){mr:Nat}(d:mr<=1048576){k:Nat}{D0:DB}{c0:List Nat}:∀(fs:List qP) (R:zw),(∀f∈fs,f.pred<ar.length/\PG (ar.getD f.pred 0) f.row/\PU W f.row)->Qr ar W k D0 c0 R->R.count<=mr->∃c ok,kj mr fs R=some (c,ok)/\Qr ar W k D0 c0 c/\(∀q x,x∈R.qo.getD q []->x∈c.qo.getD q [])/\(∀q x,x∈c.qo.getD q []->x∈R.qo.getD q []∨∃f∈fs,f.pred=q/\f.row=x)/\(ok=true->c.count<=mr/\∀f∈fs,P9 (zyf ar c) f.pred f.row)/\(ok=false->c.count>mr)
 |[],R,_,h,l=>⟨R,true,rfl,h,fun q x b=>b,fun q x b=>zg b,fun _=>⟨l,fun f e=>by cases e⟩,fun q=>by cases q⟩
 |f::fs,R,e,h,l=>by
  obtain⟨A,L,y⟩:=e f (by simp);obtain⟨s,ok,K,n,_,G,u,w,H,J⟩:=h.add r A L y l d;unfold kj;rw[K];cases ok with
  |false=>
   refine⟨s,false,rfl,n,u,fun q x b=>?_,(fun q=>by cases q),J⟩;rcases w q x b with z|⟨i,m⟩
   ·exact zg z
   ·exact ze ⟨f,by simp,i.symm,m.symm⟩
  |true=>
   simp only;obtain⟨B,j,F,t,v,D,p,C⟩:=Bq r d fs s (fun x b=>e x (by simp[b])) n (H rfl);refine⟨B,j,F,t,fun q x b=>v q x (u q x b),fun q x b=>?_,fun q=>⟨(p q).1,fun g o=>?_⟩,C⟩
   ·rcases D q x b with z|⟨g,I,E⟩
    ·rcases w q x z with z|⟨i,m⟩
     ·exact zg z
     ·exact ze ⟨f,by simp,i.symm,m.symm⟩
    ·exact ze ⟨g,by simp[I],E⟩
   ·rcases zu.1 o with rfl|o
    ·exact n.grow t v G
    ·exact(p q).2 g o
structure rz (S:qJ):Prop where
 small:∀a∈S.qj,a<=3
 facts:∀f∈S.facts,f.pred<S.qj.length/\PG (S.qj.getD f.pred 0) f.row/\PU (zJ S.qf) f.row
 rules:sd S.rules S.qj (zJ S.qf)
theorem Lk(S:qJ):qB S.qj (zJ S.qf) ⟨S.qj.map (yR S.qf),0,0,0,[]⟩:=by
 refine⟨by simp,fun p g=>?_,?_⟩
 ·have b:p<S.qj.length:=by simpa using g
  simp only[vm];refine⟨vo.new _ _,El _ _,by rw[pq,P5 _ b],fun k f=>?_⟩;obtain⟨c,d⟩:=(qV _ k).1 f;rw[rY _ _ k (by rintro rfl;have:=(fO S.qj[p]).1;rw[pq] at c;simp at c;omega)] at d;cases d
 ·show 0=_;rw[lT];have:∀l:List Nat,(l.map ((fun T:zi=>T.count) ∘ yR S.qf)).sum=0:=by
   intro l;induction l with
   |nil=>rfl
   |cons a l e=>simp only[xQ,vI,e];rfl
  exact(this _).symm
theorem CS(S:qJ)(p:Nat)(x:zk):zyf S.qj ⟨S.qj.map (yR S.qf),0,0,0,[]⟩ p x=none:=by
 unfold zyf;split
 ·rename_i a;have b:p<(S.qj.map (yR S.qf)).length:=by simpa using a.1
  show uk ((S.qj.map (yR S.qf)).getD p zi.zero) x=none;rw[P5 _ b,vm,(vo.new _ _).mark x a.2.1,rY];intro e;have:=congrArg List.length e;rw[vU,a.2.1,pq] at this;have:=fO S.qj[p];simp at *;omega
 ·rfl
theorem Ma{S:qJ}(h:rz S)(k:mr<=1048576):∃N,∀b,N<=b->∃g,lJ b S mr mx=some g/\(g=none->z3f S mr mx=none)/\∀R,g=some R->qB S.qj (zJ S.qf) R/\R.count<=mr/\z3f S mr mx=some (zyf S.qj R,R.qw):=by
 obtain⟨B,l⟩:∃B,(∀r∈S.rules,fQ (zJ S.qf) r<=B)/\3*(zJ S.qf+1)<=B:=by
  have:∀y:List zq,∃B,∀r∈y,fQ (zJ S.qf) r<=B:=by
   intro y;induction y with
   |nil=>exact⟨0,fun r d=>by cases d⟩
   |cons a y T=>
    obtain⟨B,l⟩:=T;refine⟨B+fQ (zJ S.qf) a,fun r d=>?_⟩;rcases zu.1 d with rfl|d
    ·omega
    ·have:=l r d;omega
  obtain⟨B,l⟩:=this S.rules;exact⟨B+3*(zJ S.qf+1),fun r d=>by have:=l r d;omega,by omega⟩
 refine⟨B+mx+1,fun b J=>?_⟩;have o:=Qr.clear (Lk S);have I:vX ⟨S.qj.map (yR S.qf),0,0,0,[]⟩=dP S:=rfl;obtain⟨R,ok,V,j,a3,H,U,Y⟩:=Bq h.small k S.facts (dP S) h.facts o (zx _);have t:∀q x,x∉(dP S).qo.getD q []:=fun q x i=>by
  have s:x∈(List.replicate (S.qj.map (yR S.qf)).length ([]:List zk)).getD q []:=i;have:∀n,(List.replicate n ([]:List zk)).getD q []=[]:=fun n=>by by_cases Z:q<n<;>simp[List.getD,Z]
  rw[this] at s;cases s
 have u:∀p x,P9 (zyf S.qj R) p x->P9 (zz8 S.facts) p x:=by
  intro p x i;unfold P9 at i ⊢;rw[j.abs,CS] at i;by_cases e:x∈R.qo.getD p []
  ·unfold zz8;rw[zb ((H p x e).resolve_left (t p x))];rfl
  ·rw[za e] at i;cases i
 unfold lJ;rw[V];cases ok with
 |false=>
  refine⟨none,rfl,fun _=>?_,fun R q=>by cases q⟩;unfold z3f;rw[za];rintro⟨m,m1,P⟩;have:=pH (j.inv.card h.small) P u;have:=Y rfl;omega
 |true=>
  obtain⟨G,O⟩:=U rfl;have C:R.qw=0:=j.qw;have v:zyf S.qj R=zz8 S.facts:=by
   funext p x;have D:=j.abs p x;rw[CS] at D;rw[D];unfold zz8;by_cases w:∃f∈S.facts,f.pred=p/\f.row=x
   ·rw[zb w];obtain⟨f,K,rfl,rfl⟩:=w;have:=O f K;unfold P9 at this;rw[D] at this;by_cases e:f.row∈R.qo.getD f.pred []
    ·rw[zb e]
    ·rw[za e] at this;cases this
   ·rw[za w,za];intro e;exact w ((H p x e).resolve_left (t p x))
  have A:n4 (zz8 S.facts) mr:=⟨R.count,G,by rw[←v];exact j.inv.card h.small⟩;obtain⟨L,z,Q,F,E⟩:=Le rfl h.small k (mx:=mx) h.rules B l b (by omega) S.qj.length 0 R j.inv G (by omega);simp only[Q,jj];rw[C,v] at F E;have c:z3f S mr mx=zzb S.rules mr mx S.qj.length 0 0 (zz8 S.facts):=by
   unfold z3f;rw[zb A]
  cases z with
  |false=>exact⟨none,rfl,fun _=>by rw[c];exact F rfl,fun R q=>by cases q⟩
  |true=>
   refine⟨some L,rfl,(fun q=>by cases q),fun R2 q=>?_⟩;simp only[zr] at q;subst q;obtain⟨W,X,M⟩:=E rfl;exact⟨W,X,by rw[c];exact M⟩
end
section
variable {hs:List Nat}
def Qs(V:Nat):List Nat->Nat
 |[]=>0
 |h::r=>V*(h+Qs V r)+1
def Q2(V:Nat):List Nat->List Nat->Nat->Nat
 |h::r,f::a,d=>(V-f)*(h+Qs V r)+1+(match d with|0=>0|d+1=>Q2 V r a d)
 |_,_,_=>0
theorem iH(V:Nat):∀(hs b:List Nat) {d e:Nat},d<=e->Q2 V hs b d<=Q2 V hs b e
 |[],_,_,_,_=>by simp[Q2]
 |_::_,[],_,_,_=>by simp[Q2]
 |h::r,f::a,0,e,_=>by simp[Q2]
 |h::r,f::a,d+1,0,q=>by omega
 |h::r,f::a,d+1,e+1,q=>by
  have:=iH V r a (d:=d) (e:=e) (by omega);simp only[Q2];omega
theorem C6(V:Nat)(hs a:List Nat):Q2 V hs (a.set 0 0) 0<=Qs V hs:=by
 cases hs with
 |nil=>simp[Q2]
 |cons h r=>cases a<;>simp[Q2,Qs]
theorem C0(V:Nat){v:Nat}(l:v<V):∀(d:Nat) (hs c:List Nat),d<hs.length->d<c.length->c.getD d 0<=v->Q2 V hs ((c.set d (v+1)).set (d+1) 0) (d+1)+hs.getD d 0*(v+1-c.getD d 0)<=Q2 V hs c d
 |0,h::r,f::g,_,_,e=>by
  have i:=C6 V r g;simp only[pg,mO,Q2,List.getD_cons_zero] at e ⊢;obtain⟨a,q⟩:∃a,V=a+(v+1):=⟨V-(v+1),by omega⟩;obtain⟨b,p⟩:∃b,v=b+f:=⟨v-f,by omega⟩;have n:V-(v+1)=a:=by omega
  have j:V-f=a+(b+1):=by omega
  have m:v+1-f=b+1:=by omega
  rw[n,j,m];have s:(a+(b+1))*(h+Qs V r)=a*(h+Qs V r)+((b+1)*h+(b*Qs V r+Qs V r)):=by rw[fH,Nat.mul_add (b+1),fH b 1 (Qs V r),Nat.one_mul]
  have o:h*(b+1)=(b+1)*h:=Nat.mul_comm _ _;omega
 |d+1,h::r,f::g,i,k,e=>by
  have:=C0 V l d r g (by simpa using i) (by simpa using k) (by simpa using e);simp only[mO,Q2,List.getD_cons_succ] at this ⊢;omega
 |_,[],_,h,_,_=>by simp at h
 |_,_::_,[],_,h,_=>by simp at h
theorem BT(V:Nat):∀(d:Nat) (hs a:List Nat),d<hs.length->d<a.length->hs.getD d 0*(V-a.getD d 0)+1<=Q2 V hs a d/\∀b,b<d->Q2 V hs a b+(hs.getD d 0*(V-a.getD d 0)+1)<=Q2 V hs a d
 |0,h::r,f::c,_,_=>by
  refine⟨?_,fun b i=>by omega⟩;simp only[Q2,List.getD_cons_zero,Nat.mul_add];rw[Nat.mul_comm h];omega
 |d+1,h::r,f::c,j,e=>by
  obtain⟨k,g⟩:=BT V d r c (by simpa using j) (by simpa using e);simp only[Q2,List.getD_cons_succ];refine⟨by omega,fun b i=>?_⟩;cases b with
  |zero=>simp only;omega
  |succ b=>have:=g b (by omega);simp only;omega
 |_,[],_,h,_=>by simp at h
 |_,_::_,[],_,h=>by simp at h
def QC(V:Nat)(hs a:List Nat)(d:Int):Nat:=if d<0 then 0 else Q2 V hs a d.toNat
theorem F2(V:Nat)(hs a:List Nat){d e:Int}(h:d<=e):QC V hs a d<=QC V hs a e:=by
 unfold QC;split
 ·omega
 ·split
  ·omega
  ·exact iH V hs a (by omega)
structure QY (V:Nat) (hs:List Nat) (J:zy):Prop where
 wide:∀i,(J.qy.getD i yJ.zero).rows.qf<=V
 je:∀p,p<hs.length->(J.je.getD p []).length=hs.getD p 0
 vars:J.vars=hs.length
 five:hs.length<=5
 jg:∀p,p<hs.length->J.jg.getD p 0<(p:Int)
 last:J.last<(hs.length:Int)
 flen:J.from.length=5
theorem QY.same{V:Nat}{J a:zy}(h:QY V hs J)(s:qz J a):QY V hs a:=by
 rw[s];exact⟨h.wide,h.je,h.vars,h.five,h.jg,h.last,h.flen⟩
theorem OC{T:zi}{a f v:Nat}(h:yz T a f=some v):f<T.qf/\v<T.qf:=by
 unfold yz at h;split at h
 ·rename_i q;simp only at h;split at h
  ·cases h
  ·cases h;exact⟨q.2,by omega⟩
 ·cases h
theorem iV{V:Nat}(hs:List (Nat×Nat)):∀(n:Nat) (J:zy) (at' a b m:Nat) (f:zy) (o:Option Nat),(∀i,(J.qy.getD i yJ.zero).rows.qf<=V)->J.jf=(m:Int)->m+hs.length*(V-at')+1<9223372036854775808+a->(a=0∨at'<V)->a<=hs.length->kH n J hs at' a b=some (f,o)->∃e:Nat,f.jf=(e:Int)/\qz J f/\(o=none->e+a<=m+hs.length*(V-at')+1)/\∀v,o=some v->at'<=v/\(0<hs.length->v<V)/\e+a<=m+hs.length*(v+1-at')
 |0,_,_,_,_,_,_,_,_,_,_,_,_,h=>by simp[kH] at h
 |n+1,J,at',a,b,m,f,o,z,p,H,c,F,h=>by
  simp only[kH] at h;by_cases k:a<hs.length
  ·rw[zb k] at h;unfold vB at h;by_cases g:vi J (hs.getD b (0,0))=true
   ·rw[zb g] at h;have D:m+1<9223372036854775808:=by
     rcases c with rfl|c
     ·omega
     ·have:hs.length*1<=hs.length*(V-at'):=lH _ (by omega);omega
    have t:IntKind.i64.wrap (J.jf+1)=((m+1:Nat):Int):=by rw[p,IntKind.wrap_i64];omega
    rw[t] at h;cases y:yz (J.qy.getD (hs.getD b (0,0)).1 yJ.zero).rows ((J.qy.getD (hs.getD b (0,0)).1 yJ.zero).qi.getD (hs.getD b (0,0)).2 0) at' with
    |none=>
     rw[y] at h;simp only[zr,yc] at h;obtain⟨rfl,rfl⟩:=h;refine⟨m+1,rfl,rfl,fun _=>?_,fun v q=>by cases q⟩;rcases c with rfl|c
     ·omega
     ·have:hs.length*1<=hs.length*(V-at'):=lH _ (by omega);omega
    |some v=>
     rw[y] at h;simp only at h;obtain⟨L,E⟩:=OC y;have K:=z (hs.getD b (0,0)).1;have w:at'<V:=by omega
     have r:v<V:=by omega
     by_cases d:v>at'
     ·rw[zb d,zb d] at h;have M:hs.length*(V-at')=hs.length*(V-v)+hs.length*(v-at'):=by rw[←Nat.mul_add];congr 1;omega
      have G:hs.length*1<=hs.length*(v-at'):=lH _ (by omega);obtain⟨e,s,j,l,A⟩:=iV hs n {J with jf:=((m+1:Nat):Int)} v (0+1) _ (m+1) f o (fun i=>z i) rfl (by omega) (ze r) (by omega) h;refine⟨e,s,?_,fun q=>?_,fun u q=>?_⟩
      ·unfold qz at j ⊢;rw[j]
      ·have:=l q;omega
      ·obtain⟨B,x,C⟩:=A u q;refine⟨by omega,x,?_⟩;have I:hs.length*(u+1-at')=hs.length*(u+1-v)+hs.length*(v-at'):=by rw[←Nat.mul_add];congr 1;omega
       omega
     ·rw[za d,za d] at h;obtain⟨e,s,j,l,A⟩:=iV hs n {J with jf:=((m+1:Nat):Int)} at' (a+1) _ (m+1) f o (fun i=>z i) rfl (by omega) (ze w) (by omega) h;refine⟨e,s,?_,fun q=>?_,fun u q=>?_⟩
      ·unfold qz at j ⊢;rw[j]
      ·have:=l q;omega
      ·obtain⟨B,x,C⟩:=A u q;exact⟨B,x,by omega⟩
   ·rw[za g] at h;simp only[zr,yc] at h;obtain⟨rfl,rfl⟩:=h;refine⟨m,p,rfl,fun _=>?_,fun v q=>by cases q⟩;rcases c with rfl|c
    ·omega
    ·have:hs.length*1<=hs.length*(V-at'):=lH _ (by omega);omega
  ·rw[za k] at h;simp only[zr,yc] at h;obtain⟨rfl,rfl⟩:=h;refine⟨m,p,rfl,(fun q=>by cases q),fun v q=>?_⟩;cases q;refine⟨zf _,fun q=>?_,?_⟩
   ·rcases c with rfl|c
    ·omega
    ·exact c
   ·have:at'+1-at'=1:=by omega
    rw[this];omega
theorem Je{V:Nat}{J:zy}(h:QY V hs J){n d f m:Nat}(s:d<hs.length)(e:J.jf=(m:Int))(j:m+hs.getD d 0*(V-f)+1<9223372036854775808){c:zy}{o:Option Nat}(b:dB n J d f=some (c,o)):∃a:Nat,c.jf=(a:Int)/\qz J c/\(o=none->a<=m+hs.getD d 0*(V-f)+1)/\∀v,o=some v->f<=v/\v<V/\a<=m+hs.getD d 0*(v+1-f):=by
 unfold dB at b;split at b
 ·simp only[zr,yc] at b;obtain⟨rfl,rfl⟩:=b;exact⟨m,e,rfl,fun _=>by omega,fun v q=>by cases q⟩
 ·rename_i g;rw[←h.je d s] at j ⊢;obtain⟨a,l,t,i,k⟩:=iV _ n J f 0 0 m c o h.wide e (by omega) (zg rfl) (zx _) b;refine⟨a,l,t,fun q=>by have:=i q;omega,fun v q=>?_⟩;obtain⟨r,p,u⟩:=k v q;exact⟨r,p (by omega),by omega⟩
theorem EJ(v:Nat):∀(hs:List (Nat×Nat)) (J:zy),∃a,hs.foldl (uX v) J={J with qy:=a}/\∀i,(a.getD i yJ.zero).rows=(J.qy.getD i yJ.zero).rows
 |[],J=>⟨J.qy,rfl,fun _=>rfl⟩
 |h::r,J=>by
  obtain⟨g,b,c⟩:∃a,uX v J h={J with qy:=a}/\∀i,(a.getD i yJ.zero).rows=(J.qy.getD i yJ.zero).rows:=by
   unfold uX;split
   ·exact⟨J.qy,rfl,fun _=>rfl⟩
   ·refine⟨_,rfl,fun i=>?_⟩;rw[wZ];split
    ·rename_i q;rw[q.1]
    ·rfl
  obtain⟨e,d,f⟩:=EJ v r (uX v J h);refine⟨e,?_,fun i=>?_⟩
  ·rw[un,d,b]
  ·rw[f,b];exact c i
theorem QY.take{V:Nat}{J:zy}(h:QY V hs J){d v:Nat}(g:d<hs.length):QY V hs (ue J d v)/\(ue J d v).jf=J.jf/\(ue J d v).from=(J.from.set d (v+1)).set (d+1) 0:=by
 have f:=h.five;have a:=h.flen;have b:(if d+1<5 then(J.from.set d (v+1)).set (d+1) 0 else J.from.set d (v+1))=(J.from.set d (v+1)).set (d+1) 0:=by
  split
  ·rfl
  ·exact(List.set_eq_of_length_le (by simp;omega)).symm
 unfold ue;rw[za (by omega),b];obtain⟨j,e,c⟩:=EJ v (J.je.getD d []) {J with ja:=J.ja.set d v,«from»:=(J.from.set d (v+1)).set (d+1) 0};rw[e];exact⟨⟨fun i=>by rw[c];exact h.wide i,h.je,h.vars,h.five,h.jg,h.last,by simp[a]⟩,rfl,rfl⟩
theorem iX{V:Nat}{hs:List Nat}{B:Nat}(t:B<9223372036854775808):∀(n:Nat) (J:zy) (d:Int) (m:Nat) (b:zy) (o:Bool),QY V hs J->J.jf=(m:Int)->d<=hs.length->m+QC V hs J.from d<=B->qO n J d=some (b,o)->QY V hs b/\∃r:Nat,b.jf=(r:Int)/\r<=B/\(o=true->r+QC V hs b.from hs.length<=B)
 |0,_,_,_,_,_,_,_,_,_,h=>by simp[qO] at h
 |n+1,J,d,m,b,o,c,s,T,j,h=>by
  simp only[qO] at h;have S:=c.five;have C:=c.vars;by_cases u:0<=d/\d<(J.vars:Int)/\d<5
  ·rw[zb u] at h;obtain⟨k,rfl⟩:∃k:Nat,d=(k:Int):=⟨d.toNat,by omega⟩;have g:k<hs.length:=by omega
   have e:k<J.from.length:=by rw[c.flen];omega
   simp only[Int.toNat_natCast] at h;have p:QC V hs J.from (k:Int)=Q2 V hs J.from k:=by unfold QC;rw[za (by omega),Int.toNat_natCast]
   rw[p] at j;obtain⟨Q,O⟩:=BT V k hs J.from g e;cases l:dB n J k (J.from.getD k 0) with
   |none=>rw[l] at h;simp at h
   |some x=>
    obtain⟨i,I⟩:=x;rw[l] at h;obtain⟨w,A,y,E,N⟩:=Je c g s (by omega) l;have a:=c.same y;have f:i.from=J.from:=by rw[y]
    cases I with
    |none=>
     simp only at h;have z:=a.jg k g;have:=E rfl;refine iX t n i _ w b o a A (by omega) ?_ h;rw[f];unfold QC;split
     ·omega
     ·have:=O (i.jg.getD k 0).toNat (by omega);omega
    |some v=>
     simp only at h;obtain⟨L,F,R⟩:=N v rfl;obtain⟨K,G,M⟩:=a.take (v:=v) g;have D:=C0 V F k hs J.from g e L;have H:=iH V hs ((J.from.set k (v+1)).set (k+1) 0) (Nat.le_add_right k 1);refine iX t n (ue i k v) _ w b o K (by rw[G,A]) (by split<;>omega) ?_ h;rw[M,f];split
     ·unfold QC;rw[za (by omega),Int.toNat_natCast];omega
     ·unfold QC;rw[za (by omega),show((k:Int)+1).toNat=k+1 from by omega];omega
  ·rw[za u] at h;simp only[zr,yc] at h;obtain⟨rfl,rfl⟩:=h;refine⟨c,m,s,by omega,fun q=>?_⟩;have P:d≥(J.vars:Int):=by simpa using q
   rw[show d=(hs.length:Int) from by omega] at j;exact j
end
section
variable {R R':zw}{mr:Nat}
theorem Jc{V:Nat}{hs:List Nat}{B:Nat}(k:B<9223372036854775808){n:Nat}{J b:zy}{m:Nat}{o:Bool}(j:QY V hs J)(l:J.jf=(m:Int))(s:J.ql<=hs.length)(p:m+QC V hs J.from J.ql<=B)(h:dF n J=some (b,o)):QY V hs b/\b.ql<=hs.length/\∃c:Nat,b.jf=(c:Int)/\c+QC V hs b.from b.ql<=B:=by
 unfold dF at h;cases e:qO n J J.ql with
 |none=>rw[e] at h;simp at h
 |some x=>
  obtain⟨d,f⟩:=x;rw[e] at h;simp only[zr,yc] at h;obtain⟨rfl,rfl⟩:=h;obtain⟨a,c,g,r,i⟩:=iX k n J J.ql m d f j l s p e;refine⟨⟨a.wide,a.je,a.vars,a.five,a.jg,a.last,a.flen⟩,?_,c,g,?_⟩
  ·have:=a.last;show(if f=true then d.last else -1)<=_;split<;>omega
  ·show c+QC V hs d.from (if f=true then d.last else -1)<=B;split
   ·rename_i q;have:=i q;have:=F2 V hs d.from (Int.le_of_lt a.last);omega
   ·simp only[QC];rw[zb (by omega)];exact r
def QB(R R':zw)(c:Nat):Prop:=R'.qw=R.qw/\∀k:Nat,R.jf=(k:Int)->k+c<9223372036854775808->∃a:Nat,R'.jf=(a:Int)/\a<=k+c
theorem QB.trans{R b a:zw}{c d:Nat}(h:QB R b c)(g:QB b a d):QB R a (c+d):=
 ⟨g.1.trans h.1,fun k e o=>by
  obtain⟨i,j,n⟩:=h.2 k e (by omega);obtain⟨l,f,m⟩:=g.2 i j (by omega);exact⟨l,f,by omega⟩⟩
theorem QB.mono{c d:Nat}(h:QB R R' c)(f:c<=d):QB R R' d:=
 ⟨h.1,fun k e g=>by
  obtain⟨b,a,i⟩:=h.2 k e (by omega);exact⟨b,a,by omega⟩⟩
theorem QB.refl(R:zw):QB R R 0:=⟨rfl,fun k a _=>⟨k,a,by omega⟩⟩
theorem BP{p:Nat}{x:zk}{ok:Bool}(h:jr mr R p x=some (R',ok)):QB R R' 0:=by
 have:R'.jf=R.jf/\R'.qw=R.qw:=by
  unfold jr at h;split at h
  ·split at h
   ·cases h;exact⟨rfl,rfl⟩
   ·cases h;exact⟨rfl,rfl⟩
  ·cases h
 exact⟨this.2,fun k a _=>⟨k,by rw[this.1,a],by omega⟩⟩
theorem Da{V:Nat}{hs:List Nat}{B:Nat}(d:B<9223372036854775808){mr p:Nat}:∀(n:Nat) (R:zw) (J:zy) (m:Nat) (R':zw),QY V hs J->J.jf=(m:Int)->J.ql<=hs.length->m+QC V hs J.from J.ql<=B->vj mr p n R J=some (R',true)->QB R R' B
 |0,_,_,_,_,_,_,_,_,h=>by simp[vj] at h
 |n+1,R,J,m,R',i,l,t,q,h=>by
  simp only[vj] at h;cases c:dF n J with
  |none=>rw[c] at h;simp at h
  |some x=>
   obtain⟨a,o⟩:=x;rw[c] at h;obtain⟨s,r,f,e,j⟩:=Jc d i l t q c;cases o with
   |false=>
    simp only[zr,yc,and_true] at h;subst h;refine⟨rfl,fun k g v=>⟨k+f,?_,by omega⟩⟩;show IntKind.i64.wrap (R.jf+a.jf)=_;rw[g,e,IntKind.wrap_i64];omega
   |true=>
    simp only at h;cases b:jr mr R p (zF a.head a.ja) with
    |none=>rw[b] at h;simp at h
    |some y=>
     obtain⟨u,ok⟩:=y;rw[b] at h;cases ok with
     |false=>simp at h
     |true=>
      have:=(BP b).trans (Da d n u a f R' s e r j h);exact this.mono (by omega)
def Qk(r:zq):List Nat:=(List.range r.vars).map fun p=>(yW r p).length
theorem BY{V:Nat}{r:zq}(m:r.vars<=5){b Ns:List zi}(k:∀T∈b,T.qf<=V){p n:Nat}(j:Qs V (Qk r)<9223372036854775808)(h:vj mr p n R (xv r b Ns)=some (R',true)):QB R R' (Qs V (Qk r)):=by
 obtain⟨c,l,g⟩:=oi r b Ns;have d:c=-1∨c=0:=by rw[g];split<;>(try split)<;>simp
 rw[l] at h;have a:(Qk r).length=r.vars:=by simp[Qk]
 refine Da (V:=V) (hs:=Qk r) j n R _ 0 R' ⟨fun i=>?_,fun q e=>?_,a.symm,by omega,fun q e=>?_,?_,rfl⟩ rfl ?_ ?_ h
 ·show((b.map fun T=>(⟨T,[0,0,0]⟩:yJ)).getD i yJ.zero).rows.qf<=V;by_cases f:i<b.length
  ·rw[P5 _ (by simpa using f),vm];exact k _ (zv f)
  ·rw[gu,kp (by simpa using f)];exact zx _
 ·show(((List.range 5).map (yW r)).getD q []).length=_;rw[a] at e;rw[P5 _ (by simp;omega),P5 _ (by omega)];simp[Qk]
 ·show((List.range 5).map fun p=>xt r (p:Nat)).getD q 0<_;rw[a] at e;rw[P5 _ (by simp;omega)];simp only[vm,mI];exact(pJ r (by omega)).1
 ·show xt r r.vars<_;rw[a];exact(pJ r (by omega)).1
 ·show c<=_;omega
 ·show 0+QC V (Qk r) [0,0,0,0,0] c<=_;rcases d with rfl|rfl
  ·simp[QC]
  ·have:=C6 V (Qk r) [0,0,0,0,0];simpa [QC] using this
def qt(V:Nat)(r:zq):Nat:=r.qc.length*Qs V (Qk r)
structure Rv (r:zq):Prop where
 five:r.vars<=5
 none:r.qc=[]->r.vars=0
structure Rz (V:Nat) (W:zZ):Prop where
 rule:Rv W.rule
 len:W.qm.length=W.rule.qc.length
 wide:∀v∈W.qm,v.before.qf<=V/\v.qo.qf<=V/\v.all.qf<=V
theorem wk{V a g mr:Nat}{W:zZ}(b:Rz V W)(c:Qs V (Qk W.rule)<9223372036854775808):∀(n i:Nat) (R R':zw),jv a g mr W n i R=some (R',true)->QB R R' (n*Qs V (Qk W.rule))
 |0,i,R,R',h=>by
  simp only[jv,zr,yc,and_true] at h;subst h;exact(QB.refl R).mono (by omega)
 |n+1,i,R,R',h=>by
  have e:(n+1)*Qs V (Qk W.rule)=Qs V (Qk W.rule)+n*Qs V (Qk W.rule):=by rw[fH,Nat.one_mul];omega
  rw[e];simp only[jv] at h;split at h
  ·cases d:vj mr W.rule.head.pred a R (xv W.rule (PL W.qm i) (qN g R W.rule)) with
   |none=>rw[d] at h;simp at h
   |some x=>
    obtain⟨o,ok⟩:=x;rw[d] at h;cases ok with
    |false=>simp at h
    |true=>
     refine(BY b.rule.five (fun T f=>?_) c d).trans (wk b c n (i+1) o R' h);unfold PL at f;obtain⟨⟨v,j⟩,l,rfl⟩:=z9.1 f;obtain⟨p,k,m⟩:=b.wide v (List.fst_mem_of_mem_zipIdx l);simp only;split
     ·exact p
     ·split
      ·exact k
      ·exact m
  ·exact(wk b c n (i+1) R R' h).mono (by omega)
theorem FZ{V c f:Nat}{W:zZ}(b:Rz V W)(j:qt V W.rule<9223372036854775808){first:Bool}(h:kq c f mr first R W=some (R',true)):QB R R' (qt V W.rule):=by
 have g:Qs V (Qk W.rule)<=qt V W.rule:=by
  unfold qt;cases i:W.rule.qc with
  |nil=>simp[Qk,b.rule.none i,Qs]
  |cons a l=>
   have:1*Qs V (Qk W.rule)<=(a::l).length*Qs V (Qk W.rule):=gN _ (by simp);omega
 unfold kq at h;split at h
 ·refine(BY b.rule.five (fun T d=>?_) (by omega) h).mono g;obtain⟨v,e,rfl⟩:=z9.1 d;exact(b.wide v e).2.2
 ·rw[b.len] at h;exact wk b (by omega) _ 0 R R' h
theorem CA{V a e mr:Nat}{first:Bool}:∀(b:List zZ) (R R':zw),(∀W∈b,Rz V W)->(b.map fun W=>qt V W.rule).sum<9223372036854775808->kG a e mr first b R=some (R',true)->QB R R' (b.map fun W=>qt V W.rule).sum
 |[],R,R',_,_,h=>by
  simp only[kG,zr,yc,and_true] at h;subst h;exact QB.refl R
 |W::b,R,R',d,f,h=>by
  simp only[xQ,vI] at f ⊢;simp only[kG] at h;cases c:kq a e mr first R W with
  |none=>rw[c] at h;simp at h
  |some x=>
   obtain⟨i,ok⟩:=x;rw[c] at h;cases ok with
   |false=>simp at h
   |true=>exact(FZ (d W (by simp)) (by omega) c).trans (CA b i R' (fun X g=>d X (by simp[g])) (by omega) h)
end
theorem LE(T:zi)(a v m:Nat):(kY T a v m).1.qf=T.qf:=by
 unfold kY;split
 ·rfl
 ·exact nh _ _ _ _
theorem Cp(m:Nat):∀(r:zk) (T:zi) (a l:Nat),(uR m T a l r).1.qf=T.qf
 |[],_,_,_=>rfl
 |v::r,T,a,l=>by
  simp only[uR];split
  ·exact LE _ _ _ _
  ·rw[Cp m r];unfold vQ;split
   ·rfl
   ·exact nh _ _ _ _
theorem so:∀(rs:List zk) (T a:zi),xw rs T=some a->a.qf=T.qf
 |[],T,a,h=>by simp[xw] at h;rw[h]
 |r::rs,T,a,h=>by
  simp only[xw] at h;split at h
  ·rw[so rs _ a h];unfold addP;split
   ·exact Cp 0 r T 0 0
   ·rfl
  ·cases h
def R7(V:Nat)(v:y6):Prop:=v.before.qf<=V/\v.qo.qf<=V/\v.all.qf<=V
theorem EK{d e:Nat}{v v':y6}{c:List zk}(g:R7 (zJ e) v)(h:gL d e v c=some v'):R7 (zJ e) v':=by
 unfold gL at h;split at h
 ·cases h
 ·split at h
  ·rename_i b f a j i k;cases h;refine⟨?_,?_,?_⟩
   ·show b.qf<=_;rw[so _ _ _ j];exact g.1
   ·show f.qf<=_;rw[so _ _ _ i];exact zf _
   ·show a.qf<=_;rw[so _ _ _ k];exact g.2.2
  ·cases h
theorem Cx{a f:Nat}{R:zw}:∀(b:List zt) (vs:List y6),gO a f R b=some vs->vs.length=b.length/\∀v∈vs,R7 (zJ f) v
 |[],vs,h=>by simp[gO] at h;subst h;simp
 |l::b,vs,h=>by
  simp only[gO] at h;split at h
  ·cases h
  ·split at h
   ·rename_i v d i c;cases h;obtain⟨j,g⟩:=Cx b d c;refine⟨by simp[j],fun u e=>?_⟩;rcases zu.1 e with rfl|e
    ·exact EK ⟨zf _,zf _,zf _⟩ i
    ·exact g u e
   ·cases h
theorem ot{b c:Nat}{R:zw}{s:Nat}:∀(rs:List zq) (a:List zZ),(∀r∈rs,Rv r)->PT b c R s rs=some a->(∀W∈a,Rz (zJ c) W)/\(a.map fun W=>qt (zJ c) W.rule).sum<=(rs.map (qt (zJ c))).sum
 |[],a,_,h=>by simp[PT] at h;subst h;simp
 |r::rs,a,e,h=>by
  simp only[PT] at h;simp only[xQ,vI];split at h
  ·split at h
   ·rename_i vs f k l;cases h;obtain⟨g,j⟩:=ot rs f (fun x d=>e x (by simp[d])) l;obtain⟨n,m⟩:=Cx r.qc vs k;refine⟨fun W i=>?_,?_⟩
    ·rcases zu.1 i with rfl|i
     ·exact⟨e r (by simp),n,m⟩
     ·exact g W i
    ·simp only[xQ,vI];omega
   ·cases h
  ·obtain⟨g,j⟩:=ot rs a (fun x d=>e x (by simp[d])) h;exact⟨g,by omega⟩
theorem AV{c g:Nat}{i:List (List zk)}:∀(vs a:List y6),(∀v∈vs,R7 (zJ g) v)->g4 c g i vs=some a->a.length=vs.length/\∀v∈a,R7 (zJ g) v
 |[],a,_,h=>by simp[g4] at h;subst h;simp
 |v::vs,a,d,h=>by
  simp only[g4] at h;split at h
  ·rename_i m e f j;cases h;obtain⟨k,l⟩:=AV vs e (fun u b=>d u (by simp[b])) j;refine⟨by simp[k],fun u b=>?_⟩;rcases zu.1 b with rfl|b
   ·split at f
    ·exact EK (d v (by simp)) f
    ·cases f;exact d _ (by simp)
   ·exact l u b
  ·cases h
theorem Cb{d c:Nat}{j:List (List zk)}:∀(b a:List zZ),(∀W∈b,Rz (zJ c) W)->kM d c j b=some a->(∀W∈a,Rz (zJ c) W)/\(a.map fun W=>qt (zJ c) W.rule).sum=(b.map fun W=>qt (zJ c) W.rule).sum
 |[],a,_,h=>by simp[kM] at h;subst h;simp
 |W::b,a,i,h=>by
  simp only[kM] at h;split at h
  ·rename_i m g o k;cases h;obtain⟨n,r⟩:=Cb b g (fun u p=>i u (by simp[p])) k;have f:=i W (by simp);obtain⟨l,q⟩:=AV _ _ f.wide o;refine⟨fun X e=>?_,by simp[r]⟩;rcases zu.1 e with rfl|e
   ·exact⟨f.rule,l.trans f.len,q⟩
   ·exact n X e
  ·cases h
def R6(C:Nat)(R:zw):Prop:=∃k:Nat,R.jf=(k:Int)/\k<=R.qw*C
theorem Ay{b mr mx C:Nat}(o:mx<=1048576)(l:1048576*C<9223372036854775808):∀(n:Nat) (first:Bool) (a:List zZ) (R R':zw),(∀W∈a,Rz (zJ b) W)->(a.map fun W=>qt (zJ b) W.rule).sum<=C->R6 C R->kF b mr mx n first a R=some (R',true)->R6 C R'/\R'.qw<=mx
 |0,_,_,_,_,_,_,_,h=>by simp[kF] at h
 |n+1,first,a,R,R',j,q,⟨k,s,A⟩,h=>by
  simp only[kF] at h;split at h
  ·cases h
  ·rename_i r;unfold ni at h;cases g:kG n b mr first a (vX {R with qw:=R.qw+1}) with
   |none=>rw[g] at h;simp at h
   |some x=>
    obtain⟨c,ok⟩:=x;rw[g] at h;cases ok with
    |false=>simp at h
    |true=>
     have u:(R.qw+1)*C<=1048576*C:=gN _ (by omega);have y:(R.qw+1)*C=R.qw*C+C:=by rw[fH,Nat.one_mul]
     obtain⟨f,p⟩:=(CA a _ c j (by omega) g).mono q;have f:c.qw=R.qw+1:=f;obtain⟨m,t,w⟩:=p k s (by omega);have i:R6 C c:=⟨m,t,by rw[f];omega⟩;simp only at h;cases e:kM n b c.qo a with
     |none=>rw[e] at h;simp at h
     |some d=>
      rw[e] at h;simp only[jj] at h;obtain⟨v,z⟩:=Cb a d j e;split at h
      ·exact Ay o l n false d c R' v (by omega) i h
      ·cases h;exact⟨i,by omega⟩
theorem An{a e mr mx C:Nat}(g:mx<=1048576)(k:1048576*C<9223372036854775808){rs:List zq}(i:∀r∈rs,Rv r)(o:(rs.map (qt (zJ e))).sum<=C):∀(n s:Nat) (R R':zw),R6 C R->R.qw<=mx->jX a e mr mx rs n s R=some (R',true)->R6 C R'/\R'.qw<=mx
 |0,s,R,R',c,f,h=>by simp only[jX,zr,yc,and_true] at h;subst h;exact⟨c,f⟩
 |n+1,s,R,R',c,f,h=>by
  simp only[jX] at h;cases b:mZ a e mr mx rs R s with
  |none=>rw[b] at h;simp at h
  |some x=>
   obtain⟨d,ok⟩:=x;rw[b] at h;cases ok with
   |false=>simp at h
   |true=>
    have l:R6 C d/\d.qw<=mx:=by
     unfold mZ at b;split at b
     ·cases b
     ·rename_i j m;obtain⟨p,q⟩:=ot rs j i m;split at b
      ·exact Ay g k a true j R d p (by omega) c b
      ·cases b;exact⟨c,f⟩
    exact An g k i o n (s+1) d R' l.1 l.2 h
theorem Ah{mr:Nat}:∀(fs:List qP) (R R':zw),kj mr fs R=some (R',true)->QB R R' 0
 |[],R,R',h=>by simp only[kj,zr,yc,and_true] at h;subst h;exact QB.refl R
 |f::fs,R,R',h=>by
  simp only[kj] at h;cases a:jr mr R f.pred f.row with
  |none=>rw[a] at h;simp at h
  |some x=>
   obtain⟨b,ok⟩:=x;rw[a] at h;cases ok with
   |false=>simp at h
   |true=>exact(BP a).trans (Ah fs b R' h)
theorem K1{a mr mx:Nat}{S:qJ}{R:zw}(g:mx<=1048576)(j:∀r∈S.rules,Rv r)(l:1048576*(S.rules.map (qt (zJ S.qf))).sum<9223372036854775808)(h:lJ a S mr mx=some (some R)):0<=R.jf:=by
 unfold lJ at h;cases b:kj mr S.facts (dP S) with
 |none=>rw[b] at h;simp at h
 |some x=>
  obtain⟨c,ok⟩:=x;rw[b] at h;cases ok with
  |false=>simp at h
  |true=>
   obtain⟨f,n⟩:=Ah _ _ _ b;obtain⟨k,m,p⟩:=n 0 rfl (by omega);have f:c.qw=0:=f;simp only at h;cases d:jX a S.qf mr mx S.rules S.qj.length 0 c with
   |none=>rw[d] at h;simp at h
   |some y=>
    obtain⟨i,ok⟩:=y;rw[d] at h;cases ok with
    |false=>simp at h
    |true=>
     simp only[jj,if_true,zr] at h;subst h;obtain⟨⟨o,e,_⟩,_⟩:=An g l j (zf _) _ 0 c i ⟨k,m,by omega⟩ (by omega) d;omega
end Go.Proofs.YteampbddflhngaaGreat
