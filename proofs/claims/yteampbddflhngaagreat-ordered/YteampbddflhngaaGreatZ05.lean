import Derived.Test.YteampbddflhngaaGreatZ04
namespace Go.Proofs.YteampbddflhngaaGreat
set_option linter.all false
section
open Classical
theorem tC{b:List Nat}{W:Nat}{R:zy}(h:jp b W R)(s:∀a∈b,a<=3){p:Nat}(j:p<R.rows.length)(x:zm):x∈(Rj R.rows[p]).map (fun k=>RN k R.rows[p].ql)↔QH (zyl b R) p x:=by
 obtain⟨l,t,n,q⟩:=h.tries p j;have c:p<b.length:=by rw[←h.len];exact j
 have i:b.getD p 0<=3:=by rw[QD _ c];exact s _ (zs c)
 have g:R.rows[p].ql<=3:=by rw[n];exact(fX _).2
 have f:R.rows.getD p zi.zero=R.rows[p]:=QD _ j;unfold QH zyl;constructor
 ·intro d;obtain⟨k,o,rfl⟩:=z7.1 d;obtain⟨m,r⟩:=(qX _ k).1 o;rw[zc ⟨c,q k o⟩,f,l.mark _ (CO m g),se m];exact r
 ·intro d;by_cases e:p<b.length/\QP (b.getD p 0) x
  ·rw[zc e,f,l.mark x e.2.1] at d;refine z7.2 ⟨x.take R.rows[p].ql,(qX _ _).2 ⟨by rw[qC,e.2.1];omega,d⟩,?_⟩;rw[n,BI i e.2]
  ·rw[za e] at d;cases d
def fI(D:DB)(n:Nat):Prop:=∃l:List (Nat×zm),l.Nodup/\(∀p x,(p,x)∈l↔QH D p x)/\l.length=n
theorem ix:∀{l1 l2:List (Nat×zm)},l1.Nodup->(∀x∈l1,x∈l2)->l1.length<=l2.length
 |[],l2,_,_=>by simp
 |a::l1,l2,d,c=>by
  have f:=c a (by simp);have g:=ix (l1:=l1) (l2:=l2.erase a) (qN.1 d).2 (fun x e=>by
   have b:x≠a:=by rintro rfl;exact(qN.1 d).1 e
   exact(ld b).2 (c x (by simp[e])))
  rw[lN f] at g;have:=mB f;simp;omega
theorem rO{D E:DB}{n m:Nat}(h:fI D n)(k:fI E m)(hs:∀p x,QH D p x->QH E p x):n<=m:=by
 obtain⟨l,d,c,rfl⟩:=h;obtain⟨e,f,a,rfl⟩:=k;exact ix d fun x b=>(a x.1 x.2).2 (hs _ _ ((c x.1 x.2).1 b))
theorem DA{D:DB}{n m:Nat}(h:fI D n)(k:fI D m):n=m:=Nat.le_antisymm (rO h k fun _ _ q=>q) (rO k h fun _ _ q=>q)
theorem Ot{D E:DB}{n m:Nat}(h:fI D n)(k:fI E m)(hs:∀p x,QH D p x->QH E p x)(g:m<=n):∀p x,QH E p x->QH D p x:=by
 intro p x f;false_or_by_contra
 rename_i e;obtain⟨l,i,c,rfl⟩:=h;obtain⟨d,j,b,rfl⟩:=k;have:=ix (l1:=(p,x)::l) (l2:=d) (qN.2 ⟨fun q=>e ((c p x).1 q),i⟩) (fun y a=>by
  rcases zx.1 a with rfl|a
  ·exact(b p x).2 f
  ·exact(b y.1 y.2).2 (hs _ _ ((c y.1 y.2).1 a)))
 simp at this;omega
theorem jp.card{g:List Nat}{W:Nat}{R:zy}(h:jp g W R)(r:∀a∈g,a<=3):fI (zyl g R) R.count:=by
 refine⟨(List.range R.rows.length).flatMap fun p=>((Rj (R.rows.getD p zi.zero)).map fun k=>RN k (R.rows.getD p zi.zero).ql).map fun x=>(p,x),?_,fun p x=>?_,?_⟩
 ·unfold List.Nodup;rw[List.pairwise_flatMap];refine⟨fun p f=>?_,?_⟩
  ·have l:=vQ.1 f;rw[lY,QD _ l,lY];refine List.Pairwise.imp_of_mem ?_ (iy R.rows[p] R.rows[p].ql 0 0);intro a b w u c e;simp only[ya,true_and] at e;have j:=((qX R.rows[p] a).1 w).1;have s:=((qX R.rows[p] b).1 u).1;have:=congrArg (List.take R.rows[p].ql) e;rw[se j,se s] at this;exact c this
  ·refine List.Pairwise.imp ?_ (List.nodup_range (n:=R.rows.length));intro a b c x d y v e;obtain⟨_,_,rfl⟩:=z7.1 d;obtain⟨_,_,rfl⟩:=z7.1 v;simp only[ya] at e;exact c e.1
 ·simp only[uS,vQ];constructor
  ·rintro⟨q,o,d⟩;obtain⟨z,m,e⟩:=z7.1 d;simp only[ya] at e;obtain⟨rfl,rfl⟩:=e;rw[QD _ o] at m;exact(tC h r o z).1 m
  ·intro d;have f:p<R.rows.length:=by rw[h.len];exact(Dm g R p x d).1
   refine⟨p,f,z7.2 ⟨x,?_,rfl⟩⟩;rw[QD _ f];exact(tC h r f x).2 d
 ·rw[List.length_flatMap,h.cnt];congr 1;refine kX (by simp) fun i j s=>?_;have t:i<R.rows.length:=by simpa using j
  simp only[uJ,mI,uu,QD zi.zero t];exact(h.tries i t).1.cnt
def rB:DB:=fun _ _=>none
theorem Dw{n:List Nat}{W wd:Nat}(d:W=zM wd)(z:∀a∈n,a<=3){R:zy}(h:jp n W R)(M:R.count<=1048576)(b:Nat)(j:3*(W+1)<=b):∀(m:List zu),(∀l∈m,l.pred<n.length)->∃vs,dD b wd R m=some vs/\vs.length=m.length/\∀(i:Nat) (l:zu) (V:y6),m[i]?=some l->vs[i]?=some V->n9 V l W (QH rB l.pred) (QH (zyl n R) l.pred) (fun x=>QH (zyl n R) l.pred x/\¬QH rB l.pred x) ((R.rows.map (·.count)).getD l.pred 0)
 |[],_=>⟨[],rfl,rfl,fun i l V h=>by simp at h⟩
 |l::m,B=>by
  obtain⟨vs,I,D,F⟩:=Dw d z h M b j m (fun x r=>B x (by simp[r]));have c:l.pred<R.rows.length:=by rw[h.len];exact B l (by simp)
  obtain⟨C,A,O,N⟩:=h.tries l.pred c;have t:=eA R.rows l.pred c;rw[←h.cnt] at t;have w:0<W:=by rw[d];unfold zM;split<;>omega
  have o:fK wd R l.pred=R.rows[l.pred]:=by unfold fK;rw[za (by omega),QD _ c]
  have s:=C.rowsG b (by rw[A];exact j) (by omega);have E:n9 (kG wd l) l W (fun _=>False) (fun _=>False) (fun _=>False) 0:=⟨rfl,uU.new l wd W d,uU.new l wd W d,uU.new l wd W d,by simp[kG,yU,yv],by simp[kG,yU,yv]⟩;have g:((Rj R.rows[l.pred]).map fun k=>RN k R.rows[l.pred].ql).length=R.rows[l.pred].count:=by rw[uu];exact C.cnt
  obtain⟨L,K,p⟩:=BB E d ((Rj R.rows[l.pred]).map fun k=>RN k R.rows[l.pred].ql) (fun x r=>by
   obtain⟨k,J,rfl⟩:=z7.1 r;refine Db w ?_;intro v H;have:=tP k 0 ((qX _ k).1 J).2 v H;rw[A] at this;exact this) (by rw[g];omega) b j
  have f:∀x,¬QH rB l.pred x:=fun x q=>by cases q
  refine⟨L::vs,?_,by simp[D],fun i G U u y=>?_⟩
  ·unfold dD;rw[o,s];simp only[K,I]
  ·cases i with
   |zero=>
    simp only[f6,zt] at u y;subst u;subst y;refine⟨p.lit,p.before.congr fun x=>⟨fun q=>by rcases q with q|q<;>exact q.elim,fun q=>zC q (f x)⟩,p.qo.congr fun x=>?_,p.all.congr fun x=>?_,?_⟩
    ·rw[tC h z c];exact⟨fun q=>⟨q,f x⟩,fun q=>q.1⟩
    ·rw[tC h z c];exact⟨fun q=>q.resolve_left id,zb⟩
    ·have e:(R.rows.map (·.count)).getD l.pred 0=R.rows[l.pred].count:=by simp[List.getD,c]
     have:=p.few;rw[g] at this;rw[e];simpa using this
   |succ i=>exact F i G U (by simpa using u) (by simpa using y)
theorem Dp{d:List Nat}{W wd:Nat}(e:W=zM wd)(n:∀a∈d,a<=3){R:zy}(h:jp d W R)(j:R.count<=1048576)(c:Nat)(g:3*(W+1)<=c)(s:Nat):∀(b:List zr),(∀r∈b,∀l∈r.qc,l.pred<d.length)->∃f,Rb c wd R s b=some f/\jM d W rB (zyl d R) (R.rows.map (·.count)) f (b.filter fun r=>decide (r.qh=s))
 |[],_=>⟨[],rfl,jM.nil⟩
 |r::b,m=>by
  obtain⟨f,o,k⟩:=Dp e n h j c g s b (fun x t=>m x (by simp[t]));unfold Rb;by_cases i:r.qh=s
  ·obtain⟨vs,q,p,u⟩:=Dw e n h j c g r.qc (m r (by simp));rw[zc i,q,o];refine⟨⟨r,vs⟩::f,rfl,?_⟩;rw[List.filter_cons_of_pos (by simp[i])];exact jM.cons ⟨rfl,p,u⟩ k
  ·rw[za i];refine⟨f,o,?_⟩;rw[List.filter_cons_of_neg (by simp[i])];exact k
theorem jM.length{b:List Nat}{W:Nat}{D0 D:DB}{c:List Nat}{a:List zX}{rs:List zr}(h:jM b W D0 D c a rs):a.length=rs.length:=by
 induction h with
 |nil=>rfl
 |cons _ _ d=>simp[d]
end
section
open Classical
variable {ar:List Nat}{mr mx:Nat}
def lB(D:DB)(mr:Nat):Prop:=∃n,n<=mr/\fI D n
noncomputable def zya(rs:List zr)(mr:Nat):Nat->Nat->DB->Option (DB×Nat)
 |0,_,_=>none
 |left+1,k,D=>
  if lB (zyr rs (k+1) D) mr then
   if ∀p x,QH (zyr rs (k+1) D) p x->QH D p x then some (zyr rs (k+1) D,k+1)
   else zya rs mr left (k+1) (zyr rs (k+1) D)
  else none
noncomputable def zyg(rules:List zr)(mr mx:Nat):Nat->Nat->Nat->DB->Option (DB×Nat)
 |0,_,k,D=>some (D,k)
 |n+1,s,k,D=>
  if (rules.filter fun r=>decide (r.qh=s))=[] then zyg rules mr mx n (s+1) k D
  else match zya (rules.filter fun r=>decide (r.qh=s)) mr (mx-k) k D with
   |none=>none
   |some (D',k')=>zyg rules mr mx n (s+1) k' D'
noncomputable def zzv(fs:List jj):DB:=fun p x=>if ∃f∈fs,f.pred=p/\f.row=x then some 0 else none
noncomputable def z1m(S:jo)(mr mx:Nat):Option (DB×Nat):=if lB (zzv S.facts) mr then zyg S.rules mr mx S.qj.length 0 0 (zzv S.facts) else none
theorem I4(rs:List zr)(k:Nat)(D:DB):∀p x,QH D p x->QH (zyr rs k D) p x:=by
 intro p x h;unfold QH zyr at *;cases a:D p x with
 |some m=>rfl
 |none=>rw[a] at h;cases h
theorem Cu{rs:List zr}{k:Nat}{D:DB}:∀p x,ju rs D p x->QH (zyr rs k D) p x:=by
 intro p x h;unfold QH zyr;cases a:D p x with
 |some m=>rfl
 |none=>simp only;rw[zc h];rfl
theorem Ih{W wd:Nat}(D:W=zM wd)(F:∀a∈ar,a<=3)(C:mr<=1048576){rs:List zr}(hs:rU rs ar W)(B:Nat)(K:(∀r∈rs,la W r<=B)/\3*(W+1)<=B):
  ∀(n:Nat) (first:Bool) (t:List zX) (R:zy) (D0:DB),jp ar W R->R.count<=mr->R.qw<=mx->(∀p x,QH D0 p x->QH (zyl ar R) p x)->jM ar W D0 (zyl ar R) (R.rows.map (·.count)) t rs->(first=false->∀p x,ju rs D0 p x->QH (zyl ar R) p x)->B+(mx-R.qw)<n →
  ∃j ok,kB wd mr mx n first t R=some (j,ok)/\(ok=false->zya rs mr (mx-R.qw) R.qw (zyl ar R)=none)/\(ok=true->jp ar W j/\j.count<=mr/\j.qw<=mx/\zya rs mr (mx-R.qw) R.qw (zyl ar R)=some (zyl ar j,j.qw)):=by
 intro n;induction n with
 |zero=>intro first t R D0 _ _ _ _ _ _ h;omega
 |succ n Y=>
  intro first t R D0 J X hk w Z v hn
  unfold kB;by_cases l:R.qw≥mx
  ·rw[zc l];refine⟨R,false,rfl,fun _=>?_,fun q=>by cases q⟩;rw[show mx-R.qw=0 by omega];rfl
  ·rw[za l];obtain⟨left,i⟩:∃left,mx-R.qw=left+1:=⟨mx-R.qw-1,by omega⟩;obtain⟨d,A,ok,S,z,H,O,V,T⟩:=K2 D F C n hs ⟨fun r hr=>by have:=K.1 r hr;omega,by have:=K.2;omega⟩ first J X w Z v
   rw[S];have b:=z.card F;have c:=J.card F;rw[i];cases ok with
   |false=>
    refine⟨d,false,rfl,fun _=>?_,fun q=>by cases q⟩;unfold zya;rw[za];rintro⟨m,m1,M⟩;have:=rO b M O;have:=V rfl;omega
   |true=>
    obtain⟨y,u,N⟩:=T rfl;simp only;have k:lB (zyl ar d) mr:=⟨d.count,y,b⟩;have f:∀p x,QH (zyl ar R) p x->QH (zyl ar d) p x:=by rw[u];exact I4 _ _ _
    by_cases g:d.count>R.count
    ·rw[zc g];have s:¬∀p x,QH (zyl ar d) p x->QH (zyl ar R) p x:=fun q=>by
      have:=rO b c q;omega
     obtain⟨Q,E,L,I,G⟩:=Y false A d (zyl ar R) z y (by omega) f N (fun _ p x P=>by rw[u];exact Cu p x P) (by omega);have U:mx-d.qw=left:=by omega
     have e:zya rs mr (left+1) R.qw (zyl ar R)=zya rs mr left d.qw (zyl ar d):=by
      rw[zya,←u,zc k,za s,H]
     rw[U] at I G;exact⟨Q,E,L,fun q=>by rw[e];exact I q,fun q=>by rw[e];exact G q⟩
    ·rw[za g];have o:=Ot c b f (by omega);refine⟨d,true,rfl,fun q=>(by cases q),fun _=>⟨z,y,by omega,?_⟩⟩;rw[zya,←u,zc k,zc o,H]
structure ta (rs:List zr) (ar:List Nat) (W:Nat):Prop where
 rules:∀r∈rs,nM r ar W
 apart:∀r∈rs,∀r'∈rs,r.qh=r'.qh->∀l∈r.qp,l.pred≠r'.head.pred
theorem ta.jl{a:List zr}{W:Nat}(h:ta a ar W)(s:Nat):rU (a.filter fun r=>decide (r.qh=s)) ar W:=by
 refine⟨fun r c=>h.rules r (ub.1 c).1,fun r c g b l e=>h.apart r (ub.1 c).1 g (ub.1 b).1 ?_ l e⟩;have d:=(ub.1 c).2;have f:=(ub.1 b).2;simp at d f;omega
theorem PF{W wd:Nat}(f:W=zM wd)(z:∀a∈ar,a<=3)(m:mr<=1048576){b:List zr}(A:ta b ar W)(B:Nat)(o:(∀r∈b,la W r<=B)/\3*(W+1)<=B)(d:Nat)(K:B+mx<d):
  ∀(n s:Nat) (R:zy),jp ar W R->R.count<=mr->R.qw<=mx->∃e ok,kq d wd mr mx b n s R=some (e,ok)/\(ok=false->zyg b mr mx n s R.qw (zyl ar R)=none)/\(ok=true->jp ar W e/\e.count<=mr/\zyg b mr mx n s R.qw (zyl ar R)=some (zyl ar e,e.qw)):=by
 intro n;induction n with
 |zero=>intro s R g j _;exact⟨R,true,rfl,fun q=>(by cases q),fun _=>⟨g,j,rfl⟩⟩
 |succ n y=>
  intro s R g j v;obtain⟨t,I,u⟩:=Dp f z g (by omega) d (by have:=o.2;omega) s b (fun r k l F=>((A.rules r k).qc l F).1);have c:=u.length;unfold kq nr;rw[I];simp only;unfold zyg;by_cases i:(b.filter fun r=>decide (r.qh=s))=[]
  ·rw[zc i];rw[i] at c;rw[za (by simp at c;simp[c])];simp only;exact y (s+1) R g j v
  ·rw[za i];have h:t.length>0:=by rw[c];exact List.length_pos_iff.2 i
   rw[zc h];obtain⟨w,ok,E,H,C⟩:=Ih f z m (mx:=mx) (A.jl s) B ⟨fun r k=>o.1 r (ub.1 k).1,o.2⟩ d true t R rB g j v (fun p x q=>by cases q) u (fun q=>by cases q) (by omega);rw[E];cases ok with
   |false=>
    refine⟨w,false,rfl,fun _=>?_,fun q=>by cases q⟩;rw[H rfl]
   |true=>
    obtain⟨G,L,D,J⟩:=C rfl;simp only;rw[J];exact y (s+1) w G L D
theorem D2{ar:List Nat}{W:Nat}(w:∀a∈ar,a<=3){mr:Nat}(d:mr<=1048576){k:Nat}{D0:DB}{c0:List Nat}:∀(fs:List jj) (R:zy),(∀f∈fs,f.pred<ar.length/\QP (ar.getD f.pred 0) f.row/\Rc W f.row)->R0 ar W k D0 c0 R->R.count<=mr->∃c ok,kK mr fs R=some (c,ok)/\R0 ar W k D0 c0 c/\(∀q x,x∈R.qo.getD q []->x∈c.qo.getD q [])/\(∀q x,x∈c.qo.getD q []->x∈R.qo.getD q []∨∃f∈fs,f.pred=q/\f.row=x)/\(ok=true->c.count<=mr/\∀f∈fs,QH (zyl ar c) f.pred f.row)/\(ok=false->c.count>mr)
 |[],R,_,o,n=>⟨R,true,rfl,o,fun q x b=>b,fun q x b=>zf b,fun _=>⟨n,fun f e=>by cases e⟩,fun q=>by cases q⟩
 |f::fs,R,e,o,n=>by
  obtain⟨E,C,L⟩:=e f (by simp);obtain⟨t,ok,F,i,_,A,u,r,H,D⟩:=o.add w E C L n d;unfold kK;rw[F];cases ok with
  |false=>
   refine⟨t,false,rfl,i,u,fun q x b=>?_,(fun q=>by cases q),D⟩;rcases r q x b with z|⟨h,l⟩
   ·exact zf z
   ·exact zb ⟨f,by simp,h.symm,l.symm⟩
  |true=>
   simp only;obtain⟨B,m,G,v,p,J,s,I⟩:=D2 w d fs t (fun x b=>e x (by simp[b])) i (H rfl);refine⟨B,m,G,v,fun q x b=>p q x (u q x b),fun q x b=>?_,fun q=>⟨(s q).1,fun g j=>?_⟩,I⟩
   ·rcases J q x b with z|⟨g,y,K⟩
    ·rcases r q x z with z|⟨h,l⟩
     ·exact zf z
     ·exact zb ⟨f,by simp,h.symm,l.symm⟩
    ·exact zb ⟨g,by simp[y],K⟩
   ·rcases zx.1 j with rfl|j
    ·exact i.grow v p A
    ·exact(s q).2 g j
structure nI (S:jo):Prop where
 small:∀a∈S.qj,a<=3
 facts:∀f∈S.facts,f.pred<S.qj.length/\QP (S.qj.getD f.pred 0) f.row/\Rc (zM S.qf) f.row
 rules:ta S.rules S.qj (zM S.qf)
theorem Na(S:jo):jp S.qj (zM S.qf) ⟨S.qj.map (yU S.qf),0,0,0,[]⟩:=by
 refine⟨by simp,fun p g=>?_,?_⟩
 ·have b:p<S.qj.length:=by simpa using g
  simp only[uJ];refine⟨vC.new _ _,Cc _ _,by rw[pp,QD _ b],fun k f=>?_⟩;obtain⟨d,c⟩:=(qX _ k).1 f;rw[sR _ _ k (by rintro rfl;have:=(fX S.qj[p]).1;rw[pp] at d;simp at d;omega)] at c;cases c
 ·show 0=_;rw[mK];have:∀l:List Nat,(l.map ((fun T:zi=>T.count) ∘ yU S.qf)).sum=0:=by
   intro l;induction l with
   |nil=>rfl
   |cons a l e=>simp only[xH,vT,e];rfl
  exact(this _).symm
theorem CD(S:jo)(p:Nat)(x:zm):zyl S.qj ⟨S.qj.map (yU S.qf),0,0,0,[]⟩ p x=none:=by
 unfold zyl;split
 ·rename_i a;have b:p<(S.qj.map (yU S.qf)).length:=by simpa using a.1
  show uq ((S.qj.map (yU S.qf)).getD p zi.zero) x=none;rw[QD _ b,uJ,(vC.new _ _).mark x a.2.1,sR];intro e;have:=congrArg List.length e;rw[qC,a.2.1,pp] at this;have:=fX S.qj[p];simp at *;omega
 ·rfl
theorem MI{S:jo}(h:nI S)(s:mr<=1048576):∃N,∀b,N<=b->∃d,my b S mr mx=some d/\(d=none->z1m S mr mx=none)/\∀R,d=some R->jp S.qj (zM S.qf) R/\R.count<=mr/\z1m S mr mx=some (zyl S.qj R,R.qw):=by
 obtain⟨B,u⟩:∃B,(∀r∈S.rules,la (zM S.qf) r<=B)/\3*(zM S.qf+1)<=B:=by
  have:∀y:List zr,∃B,∀r∈y,la (zM S.qf) r<=B:=by
   intro y;induction y with
   |nil=>exact⟨0,fun r g=>by cases g⟩
   |cons a y X=>
    obtain⟨B,u⟩:=X;refine⟨B+la (zM S.qf) a,fun r g=>?_⟩;rcases zx.1 g with rfl|g
    ·omega
    ·have:=u r g;omega
  obtain⟨B,u⟩:=this S.rules;exact⟨B+3*(zM S.qf+1),fun r g=>by have:=u r g;omega,by omega⟩
 refine⟨B+mx+1,fun b Y=>?_⟩;have v:=R0.clear (Na S);have P:qF ⟨S.qj.map (yU S.qf),0,0,0,[]⟩=fE S:=rfl;obtain⟨R,ok,L,j,a3,F,V,M⟩:=D2 h.small s S.facts (fE S) h.facts v (zv _);have o:∀q x,x∉(fE S).qo.getD q []:=fun q x i=>by
  have k:x∈(List.replicate (S.qj.map (yU S.qf)).length ([]:List zm)).getD q []:=i;have:∀n,(List.replicate n ([]:List zm)).getD q []=[]:=fun n=>by by_cases T:q<n<;>simp[List.getD,T]
  rw[this] at k;cases k
 have l:∀p x,QH (zyl S.qj R) p x->QH (zzv S.facts) p x:=by
  intro p x i;unfold QH at i ⊢;rw[j.abs,CD] at i;by_cases e:x∈R.qo.getD p []
  ·unfold zzv;rw[zc ((F p x e).resolve_left (o p x))];rfl
  ·rw[za e] at i;cases i
 unfold my;rw[L];cases ok with
 |false=>
  refine⟨none,rfl,fun _=>?_,fun R q=>by cases q⟩;unfold z1m;rw[za];rintro⟨m,m1,J⟩;have:=rO (j.inv.card h.small) J l;have:=M rfl;omega
 |true=>
  obtain⟨G,Z⟩:=V rfl;have C:R.qw=0:=j.qw;have t:zyl S.qj R=zzv S.facts:=by
   funext p x;have A:=j.abs p x;rw[CD] at A;rw[A];unfold zzv;by_cases w:∃f∈S.facts,f.pred=p/\f.row=x
   ·rw[zc w];obtain⟨f,O,rfl,rfl⟩:=w;have:=Z f O;unfold QH at this;rw[A] at this;by_cases e:f.row∈R.qo.getD f.pred []
    ·rw[zc e]
    ·rw[za e] at this;cases this
   ·rw[za w,za];intro e;exact w ((F p x e).resolve_left (o p x))
  have z:lB (zzv S.facts) mr:=⟨R.count,G,by rw[←t];exact j.inv.card h.small⟩;obtain⟨U,D,I,H,E⟩:=PF rfl h.small s (mx:=mx) h.rules B u b (by omega) S.qj.length 0 R j.inv G (by omega);simp only[I,jA];rw[C,t] at H E;have c:z1m S mr mx=zyg S.rules mr mx S.qj.length 0 0 (zzv S.facts):=by
   unfold z1m;rw[zc z]
  cases D with
  |false=>exact⟨none,rfl,fun _=>by rw[c];exact H rfl,fun R q=>by cases q⟩
  |true=>
   refine⟨some U,rfl,(fun q=>by cases q),fun R2 q=>?_⟩;simp only[zt] at q;subst q;obtain⟨K,W,Q⟩:=E rfl;exact⟨K,W,by rw[c];exact Q⟩
end
section
variable {hs:List Nat}
def R5(V:Nat):List Nat->Nat
 |[]=>0
 |h::r=>V*(h+R5 V r)+1
def RF(V:Nat):List Nat->List Nat->Nat->Nat
 |h::r,f::a,d=>(V-f)*(h+R5 V r)+1+(match d with|0=>0|d+1=>RF V r a d)
 |_,_,_=>0
theorem eB(V:Nat):∀(hs b:List Nat) {d e:Nat},d<=e->RF V hs b d<=RF V hs b e
 |[],_,_,_,_=>by simp[RF]
 |_::_,[],_,_,_=>by simp[RF]
 |h::r,f::a,0,e,_=>by simp[RF]
 |h::r,f::a,d+1,0,q=>by omega
 |h::r,f::a,d+1,e+1,q=>by
  have:=eB V r a (d:=d) (e:=e) (by omega);simp only[RF];omega
theorem BU(V:Nat)(hs a:List Nat):RF V hs (a.set 0 0) 0<=R5 V hs:=by
 cases hs with
 |nil=>simp[RF]
 |cons h r=>cases a<;>simp[RF,R5]
theorem AD(V:Nat){v:Nat}(k:v<V):∀(d:Nat) (hs c:List Nat),d<hs.length->d<c.length->c.getD d 0<=v->RF V hs ((c.set d (v+1)).set (d+1) 0) (d+1)+hs.getD d 0*(v+1-c.getD d 0)<=RF V hs c d
 |0,h::r,f::g,_,_,e=>by
  have i:=BU V r g;simp only[nW,ml,RF,List.getD_cons_zero] at e ⊢;obtain⟨a,s⟩:∃a,V=a+(v+1):=⟨V-(v+1),by omega⟩;obtain⟨b,q⟩:∃b,v=b+f:=⟨v-f,by omega⟩;have j:V-(v+1)=a:=by omega
  have n:V-f=a+(b+1):=by omega
  have l:v+1-f=b+1:=by omega
  rw[j,n,l];have o:(a+(b+1))*(h+R5 V r)=a*(h+R5 V r)+((b+1)*h+(b*R5 V r+R5 V r)):=by rw[fS,Nat.mul_add (b+1),fS b 1 (R5 V r),Nat.one_mul]
  have p:h*(b+1)=(b+1)*h:=Nat.mul_comm _ _;omega
 |d+1,h::r,f::g,i,m,e=>by
  have:=AD V k d r g (by simpa using i) (by simpa using m) (by simpa using e);simp only[ml,RF,List.getD_cons_succ] at this ⊢;omega
 |_,[],_,h,_,_=>by simp at h
 |_,_::_,[],_,h,_=>by simp at h
theorem CE(V:Nat):∀(d:Nat) (hs a:List Nat),d<hs.length->d<a.length->hs.getD d 0*(V-a.getD d 0)+1<=RF V hs a d/\∀b,b<d->RF V hs a b+(hs.getD d 0*(V-a.getD d 0)+1)<=RF V hs a d
 |0,h::r,f::c,_,_=>by
  refine⟨?_,fun b g=>by omega⟩;simp only[RF,List.getD_cons_zero,Nat.mul_add];rw[Nat.mul_comm h];omega
 |d+1,h::r,f::c,j,i=>by
  obtain⟨k,e⟩:=CE V d r c (by simpa using j) (by simpa using i);simp only[RF,List.getD_cons_succ];refine⟨by omega,fun b g=>?_⟩;cases b with
  |zero=>simp only;omega
  |succ b=>have:=e b (by omega);simp only;omega
 |_,[],_,h,_=>by simp at h
 |_,_::_,[],_,h=>by simp at h
def RQ(V:Nat)(hs a:List Nat)(d:Int):Nat:=if d<0 then 0 else RF V hs a d.toNat
theorem Jg(V:Nat)(hs a:List Nat){d e:Int}(h:d<=e):RQ V hs a d<=RQ V hs a e:=by
 unfold RQ;split
 ·omega
 ·split
  ·omega
  ·exact eB V hs a (by omega)
structure Sm (V:Nat) (hs:List Nat) (J:z9):Prop where
 wide:∀i,(J.qy.getD i yM.zero).rows.qf<=V
 je:∀p,p<hs.length->(J.je.getD p []).length=hs.getD p 0
 vars:J.vars=hs.length
 five:hs.length<=5
 jg:∀p,p<hs.length->J.jg.getD p 0<(p:Int)
 last:J.last<(hs.length:Int)
 flen:J.from.length=5
theorem Sm.same{V:Nat}{J a:z9}(h:Sm V hs J)(s:qJ J a):Sm V hs a:=by
 rw[s];exact⟨h.wide,h.je,h.vars,h.five,h.jg,h.last,h.flen⟩
theorem GW{T:zi}{a f v:Nat}(h:y5 T a f=some v):f<T.qf/\v<T.qf:=by
 unfold y5 at h;split at h
 ·rename_i q;simp only at h;split at h
  ·cases h
  ·cases h;exact⟨q.2,by omega⟩
 ·cases h
theorem ij{V:Nat}(hs:List (Nat×Nat)):∀(n:Nat) (J:z9) (at' a b m:Nat) (f:z9) (o:Option Nat),(∀i,(J.qy.getD i yM.zero).rows.qf<=V)->J.jf=(m:Int)->m+hs.length*(V-at')+1<9223372036854775808+a->(a=0∨at'<V)->a<=hs.length->kY n J hs at' a b=some (f,o)->∃e:Nat,f.jf=(e:Int)/\qJ J f/\(o=none->e+a<=m+hs.length*(V-at')+1)/\∀v,o=some v->at'<=v/\(0<hs.length->v<V)/\e+a<=m+hs.length*(v+1-at')
 |0,_,_,_,_,_,_,_,_,_,_,_,_,h=>by simp[kY] at h
 |n+1,J,at',a,b,m,f,o,A,z,G,c,E,h=>by
  simp only[kY] at h;by_cases k:a<hs.length
  ·rw[zc k] at h;unfold vV at h;by_cases g:vG J (hs.getD b (0,0))=true
   ·rw[zc g] at h;have F:m+1<9223372036854775808:=by
     rcases c with rfl|c
     ·omega
     ·have:hs.length*1<=hs.length*(V-at'):=mA _ (by omega);omega
    have w:IntKind.i64.wrap (J.jf+1)=((m+1:Nat):Int):=by rw[z,IntKind.wrap_i64];omega
    rw[w] at h;cases l:y5 (J.qy.getD (hs.getD b (0,0)).1 yM.zero).rows ((J.qy.getD (hs.getD b (0,0)).1 yM.zero).qi.getD (hs.getD b (0,0)).2 0) at' with
    |none=>
     rw[l] at h;simp only[zt,ya] at h;obtain⟨rfl,rfl⟩:=h;refine⟨m+1,rfl,rfl,fun _=>?_,fun v q=>by cases q⟩;rcases c with rfl|c
     ·omega
     ·have:hs.length*1<=hs.length*(V-at'):=mA _ (by omega);omega
    |some v=>
     rw[l] at h;simp only at h;obtain⟨I,D⟩:=GW l;have K:=A (hs.getD b (0,0)).1;have s:at'<V:=by omega
     have p:v<V:=by omega
     by_cases d:v>at'
     ·rw[zc d,zc d] at h;have L:hs.length*(V-at')=hs.length*(V-v)+hs.length*(v-at'):=by rw[←Nat.mul_add];congr 1;omega
      have M:hs.length*1<=hs.length*(v-at'):=mA _ (by omega);obtain⟨e,t,j,y,x⟩:=ij hs n {J with jf:=((m+1:Nat):Int)} v (0+1) _ (m+1) f o (fun i=>A i) rfl (by omega) (zb p) (by omega) h;refine⟨e,t,?_,fun q=>?_,fun u q=>?_⟩
      ·unfold qJ at j ⊢;rw[j]
      ·have:=y q;omega
      ·obtain⟨B,r,C⟩:=x u q;refine⟨by omega,r,?_⟩;have H:hs.length*(u+1-at')=hs.length*(u+1-v)+hs.length*(v-at'):=by rw[←Nat.mul_add];congr 1;omega
       omega
     ·rw[za d,za d] at h;obtain⟨e,t,j,y,x⟩:=ij hs n {J with jf:=((m+1:Nat):Int)} at' (a+1) _ (m+1) f o (fun i=>A i) rfl (by omega) (zb s) (by omega) h;refine⟨e,t,?_,fun q=>?_,fun u q=>?_⟩
      ·unfold qJ at j ⊢;rw[j]
      ·have:=y q;omega
      ·obtain⟨B,r,C⟩:=x u q;exact⟨B,r,by omega⟩
   ·rw[za g] at h;simp only[zt,ya] at h;obtain⟨rfl,rfl⟩:=h;refine⟨m,z,rfl,fun _=>?_,fun v q=>by cases q⟩;rcases c with rfl|c
    ·omega
    ·have:hs.length*1<=hs.length*(V-at'):=mA _ (by omega);omega
  ·rw[za k] at h;simp only[zt,ya] at h;obtain⟨rfl,rfl⟩:=h;refine⟨m,z,rfl,(fun q=>by cases q),fun v q=>?_⟩;cases q;refine⟨zg _,fun q=>?_,?_⟩
   ·rcases c with rfl|c
    ·omega
    ·exact c
   ·have:at'+1-at'=1:=by omega
    rw[this];omega
theorem Om{V:Nat}{J:z9}(h:Sm V hs J){n d f m:Nat}(t:d<hs.length)(e:J.jf=(m:Int))(p:m+hs.getD d 0*(V-f)+1<9223372036854775808){c:z9}{o:Option Nat}(a:dZ n J d f=some (c,o)):∃b:Nat,c.jf=(b:Int)/\qJ J c/\(o=none->b<=m+hs.getD d 0*(V-f)+1)/\∀v,o=some v->f<=v/\v<V/\b<=m+hs.getD d 0*(v+1-f):=by
 unfold dZ at a;split at a
 ·simp only[zt,ya] at a;obtain⟨rfl,rfl⟩:=a;exact⟨m,e,rfl,fun _=>by omega,fun v q=>by cases q⟩
 ·rename_i g;rw[←h.je d t] at p ⊢;obtain⟨b,j,i,l,s⟩:=ij _ n J f 0 0 m c o h.wide e (by omega) (zf rfl) (zv _) a;refine⟨b,j,i,fun q=>by have:=l q;omega,fun v q=>?_⟩;obtain⟨k,r,u⟩:=s v q;exact⟨k,r (by omega),by omega⟩
theorem BW(v:Nat):∀(hs:List (Nat×Nat)) (J:z9),∃a,hs.foldl (vm v) J={J with qy:=a}/\∀i,(a.getD i yM.zero).rows=(J.qy.getD i yM.zero).rows
 |[],J=>⟨J.qy,rfl,fun _=>rfl⟩
 |h::r,J=>by
  obtain⟨g,b,f⟩:∃a,vm v J h={J with qy:=a}/\∀i,(a.getD i yM.zero).rows=(J.qy.getD i yM.zero).rows:=by
   unfold vm;split
   ·exact⟨J.qy,rfl,fun _=>rfl⟩
   ·refine⟨_,rfl,fun i=>?_⟩;rw[mR];split
    ·rename_i q;rw[q.1]
    ·rfl
  obtain⟨d,c,e⟩:=BW v r (vm v J h);refine⟨d,?_,fun i=>?_⟩
  ·rw[ut,c,b]
  ·rw[e,b];exact f i
theorem Sm.take{V:Nat}{J:z9}(h:Sm V hs J){d v:Nat}(f:d<hs.length):Sm V hs (ug J d v)/\(ug J d v).jf=J.jf/\(ug J d v).from=(J.from.set d (v+1)).set (d+1) 0:=by
 have g:=h.five;have a:=h.flen;have c:(if d+1<5 then(J.from.set d (v+1)).set (d+1) 0 else J.from.set d (v+1))=(J.from.set d (v+1)).set (d+1) 0:=by
  split
  ·rfl
  ·exact(List.set_eq_of_length_le (by simp;omega)).symm
 unfold ug;rw[za (by omega),c];obtain⟨j,b,e⟩:=BW v (J.je.getD d []) {J with ja:=J.ja.set d v,«from»:=(J.from.set d (v+1)).set (d+1) 0};rw[b];exact⟨⟨fun i=>by rw[e];exact h.wide i,h.je,h.vars,h.five,h.jg,h.last,by simp[a]⟩,rfl,rfl⟩
theorem em{V:Nat}{hs:List Nat}{B:Nat}(y:B<9223372036854775808):∀(n:Nat) (J:z9) (d:Int) (m:Nat) (a:z9) (o:Bool),Sm V hs J->J.jf=(m:Int)->d<=hs.length->m+RQ V hs J.from d<=B->jn n J d=some (a,o)->Sm V hs a/\∃r:Nat,a.jf=(r:Int)/\r<=B/\(o=true->r+RQ V hs a.from hs.length<=B)
 |0,_,_,_,_,_,_,_,_,_,h=>by simp[jn] at h
 |n+1,J,d,m,a,o,c,A,Q,p,h=>by
  simp only[jn] at h;have T:=c.five;have N:=c.vars;by_cases z:0<=d/\d<(J.vars:Int)/\d<5
  ·rw[zc z] at h;obtain⟨k,rfl⟩:∃k:Nat,d=(k:Int):=⟨d.toNat,by omega⟩;have g:k<hs.length:=by omega
   have e:k<J.from.length:=by rw[c.flen];omega
   simp only[Int.toNat_natCast] at h;have l:RQ V hs J.from (k:Int)=RF V hs J.from k:=by unfold RQ;rw[za (by omega),Int.toNat_natCast]
   rw[l] at p;obtain⟨R,E⟩:=CE V k hs J.from g e;cases j:dZ n J k (J.from.getD k 0) with
   |none=>rw[j] at h;simp at h
   |some x=>
    obtain⟨i,I⟩:=x;rw[j] at h;obtain⟨u,s,t,C,D⟩:=Om c g A (by omega) j;have b:=c.same t;have f:i.from=J.from:=by rw[t]
    cases I with
    |none=>
     simp only at h;have w:=b.jg k g;have:=C rfl;refine em y n i _ u a o b s (by omega) ?_ h;rw[f];unfold RQ;split
     ·omega
     ·have:=E (i.jg.getD k 0).toNat (by omega);omega
    |some v=>
     simp only at h;obtain⟨F,O,P⟩:=D v rfl;obtain⟨K,G,L⟩:=b.take (v:=v) g;have H:=AD V O k hs J.from g e F;have M:=eB V hs ((J.from.set k (v+1)).set (k+1) 0) (Nat.le_add_right k 1);refine em y n (ug i k v) _ u a o K (by rw[G,s]) (by split<;>omega) ?_ h;rw[L,f];split
     ·unfold RQ;rw[za (by omega),Int.toNat_natCast];omega
     ·unfold RQ;rw[za (by omega),show((k:Int)+1).toNat=k+1 from by omega];omega
  ·rw[za z] at h;simp only[zt,ya] at h;obtain⟨rfl,rfl⟩:=h;refine⟨c,m,A,by omega,fun q=>?_⟩;have S:d≥(J.vars:Int):=by simpa using q
   rw[show d=(hs.length:Int) from by omega] at p;exact p
end
section
variable {R R':zy}{mr:Nat}
theorem Iy{V:Nat}{hs:List Nat}{B:Nat}(i:B<9223372036854775808){n:Nat}{J b:z9}{m:Nat}{o:Bool}(p:Sm V hs J)(j:J.jf=(m:Int))(s:J.ql<=hs.length)(l:m+RQ V hs J.from J.ql<=B)(h:f5 n J=some (b,o)):Sm V hs b/\b.ql<=hs.length/\∃d:Nat,b.jf=(d:Int)/\d+RQ V hs b.from b.ql<=B:=by
 unfold f5 at h;cases e:jn n J J.ql with
 |none=>rw[e] at h;simp at h
 |some x=>
  obtain⟨c,f⟩:=x;rw[e] at h;simp only[zt,ya] at h;obtain⟨rfl,rfl⟩:=h;obtain⟨a,d,r,k,g⟩:=em i n J J.ql m c f p j s l e;refine⟨⟨a.wide,a.je,a.vars,a.five,a.jg,a.last,a.flen⟩,?_,d,r,?_⟩
  ·have:=a.last;show(if f=true then c.last else -1)<=_;split<;>omega
  ·show d+RQ V hs c.from (if f=true then c.last else -1)<=B;split
   ·rename_i q;have:=g q;have:=Jg V hs c.from (Int.le_of_lt a.last);omega
   ·simp only[RQ];rw[zc (by omega)];exact k
def RM(R R':zy)(c:Nat):Prop:=R'.qw=R.qw/\∀k:Nat,R.jf=(k:Int)->k+c<9223372036854775808->∃a:Nat,R'.jf=(a:Int)/\a<=k+c
theorem RM.trans{R a b:zy}{c d:Nat}(h:RM R a c)(g:RM a b d):RM R b (c+d):=
 ⟨g.1.trans h.1,fun k l m=>by
  obtain⟨f,j,o⟩:=h.2 k l (by omega);obtain⟨e,i,n⟩:=g.2 f j (by omega);exact⟨e,i,by omega⟩⟩
theorem RM.mono{c d:Nat}(h:RM R R' c)(f:c<=d):RM R R' d:=
 ⟨h.1,fun k e i=>by
  obtain⟨a,b,g⟩:=h.2 k e (by omega);exact⟨a,b,by omega⟩⟩
theorem RM.refl(R:zy):RM R R 0:=⟨rfl,fun k a _=>⟨k,a,by omega⟩⟩
theorem Ed{p:Nat}{x:zm}{ok:Bool}(h:addR mr R p x=some (R',ok)):RM R R' 0:=by
 have:R'.jf=R.jf/\R'.qw=R.qw:=by
  unfold addR at h;split at h
  ·split at h
   ·cases h;exact⟨rfl,rfl⟩
   ·cases h;exact⟨rfl,rfl⟩
  ·cases h
 exact⟨this.2,fun k a _=>⟨k,by rw[this.1,a],by omega⟩⟩
theorem Dd{V:Nat}{hs:List Nat}{B:Nat}(e:B<9223372036854775808){mr p:Nat}:∀(n:Nat) (R:zy) (J:z9) (m:Nat) (R':zy),Sm V hs J->J.jf=(m:Int)->J.ql<=hs.length->m+RQ V hs J.from J.ql<=B->vH mr p n R J=some (R',true)->RM R R' B
 |0,_,_,_,_,_,_,_,_,h=>by simp[vH] at h
 |n+1,R,J,m,R',q,g,t,l,h=>by
  simp only[vH] at h;cases b:f5 n J with
  |none=>rw[b] at h;simp at h
  |some x=>
   obtain⟨a,o⟩:=x;rw[b] at h;obtain⟨i,s,f,d,r⟩:=Iy e q g t l b;cases o with
   |false=>
    simp only[zt,ya,and_true] at h;subst h;refine⟨rfl,fun k u v=>⟨k+f,?_,by omega⟩⟩;show IntKind.i64.wrap (R.jf+a.jf)=_;rw[u,d,IntKind.wrap_i64];omega
   |true=>
    simp only at h;cases c:addR mr R p (zF a.head a.ja) with
    |none=>rw[c] at h;simp at h
    |some y=>
     obtain⟨j,ok⟩:=y;rw[c] at h;cases ok with
     |false=>simp at h
     |true=>
      have:=(Ed c).trans (Dd e n j a f R' i d s r h);exact this.mono (by omega)
def Rv(r:zr):List Nat:=(List.range r.vars).map fun p=>(xa r p).length
theorem AW{V:Nat}{r:zr}(m:r.vars<=5){b Ns:List zi}(k:∀T∈b,T.qf<=V){p n:Nat}(j:R5 V (Rv r)<9223372036854775808)(h:vH mr p n R (xx r b Ns)=some (R',true)):RM R R' (R5 V (Rv r)):=by
 obtain⟨c,g,l⟩:=oN r b Ns;have e:c=-1∨c=0:=by rw[l];split<;>(try split)<;>simp
 rw[g] at h;have a:(Rv r).length=r.vars:=by simp[Rv]
 refine Dd (V:=V) (hs:=Rv r) j n R _ 0 R' ⟨fun i=>?_,fun q d=>?_,a.symm,by omega,fun q d=>?_,?_,rfl⟩ rfl ?_ ?_ h
 ·show((b.map fun T=>(⟨T,[0,0,0]⟩:yM)).getD i yM.zero).rows.qf<=V;by_cases f:i<b.length
  ·rw[QD _ (by simpa using f),uJ];exact k _ (zs f)
  ·rw[gL,kV (by simpa using f)];exact zv _
 ·show(((List.range 5).map (xa r)).getD q []).length=_;rw[a] at d;rw[QD _ (by simp;omega),QD _ (by omega)];simp[Rv]
 ·show((List.range 5).map fun p=>xu r (p:Nat)).getD q 0<_;rw[a] at d;rw[QD _ (by simp;omega)];simp only[uJ,mI];exact(sd r (by omega)).1
 ·show xu r r.vars<_;rw[a];exact(sd r (by omega)).1
 ·show c<=_;omega
 ·show 0+RQ V (Rv r) [0,0,0,0,0] c<=_;rcases e with rfl|rfl
  ·simp[RQ]
  ·have:=BU V (Rv r) [0,0,0,0,0];simpa [RQ] using this
def qP(V:Nat)(r:zr):Nat:=r.qc.length*R5 V (Rv r)
structure S6 (r:zr):Prop where
 five:r.vars<=5
 none:r.qc=[]->r.vars=0
structure S8 (V:Nat) (W:zX):Prop where
 rule:S6 W.rule
 len:W.qm.length=W.rule.qc.length
 wide:∀v∈W.qm,v.before.qf<=V/\v.qo.qf<=V/\v.all.qf<=V
theorem ic{V a f mr:Nat}{W:zX}(b:S8 V W)(c:R5 V (Rv W.rule)<9223372036854775808):∀(n i:Nat) (R R':zy),jz a f mr W n i R=some (R',true)->RM R R' (n*R5 V (Rv W.rule))
 |0,i,R,R',h=>by
  simp only[jz,zt,ya,and_true] at h;subst h;exact(RM.refl R).mono (by omega)
 |n+1,i,R,R',h=>by
  have e:(n+1)*R5 V (Rv W.rule)=R5 V (Rv W.rule)+n*R5 V (Rv W.rule):=by rw[fS,Nat.one_mul];omega
  rw[e];simp only[jz] at h;split at h
  ·cases d:vH mr W.rule.head.pred a R (xx W.rule (QS W.qm i) (qZ f R W.rule)) with
   |none=>rw[d] at h;simp at h
   |some x=>
    obtain⟨m,ok⟩:=x;rw[d] at h;cases ok with
    |false=>simp at h
    |true=>
     refine(AW b.rule.five (fun T g=>?_) c d).trans (ic b c n (i+1) m R' h);unfold QS at g;obtain⟨⟨v,j⟩,k,rfl⟩:=z7.1 g;obtain⟨p,l,o⟩:=b.wide v (List.fst_mem_of_mem_zipIdx k);simp only;split
     ·exact p
     ·split
      ·exact l
      ·exact o
  ·exact(ic b c n (i+1) R R' h).mono (by omega)
theorem Ou{V c i:Nat}{W:zX}(b:S8 V W)(j:qP V W.rule<9223372036854775808){first:Bool}(h:kU c i mr first R W=some (R',true)):RM R R' (qP V W.rule):=by
 have f:R5 V (Rv W.rule)<=qP V W.rule:=by
  unfold qP;cases g:W.rule.qc with
  |nil=>simp[Rv,b.rule.none g,R5]
  |cons a l=>
   have:1*R5 V (Rv W.rule)<=(a::l).length*R5 V (Rv W.rule):=gZ _ (by simp);omega
 unfold kU at h;split at h
 ·refine(AW b.rule.five (fun T e=>?_) (by omega) h).mono f;obtain⟨v,d,rfl⟩:=z7.1 e;exact(b.wide v d).2.2
 ·rw[b.len] at h;exact ic b (by omega) _ 0 R R' h
theorem Fk{V a e mr:Nat}{first:Bool}:∀(b:List zX) (R R':zy),(∀W∈b,S8 V W)->(b.map fun W=>qP V W.rule).sum<9223372036854775808->kO a e mr first b R=some (R',true)->RM R R' (b.map fun W=>qP V W.rule).sum
 |[],R,R',_,_,h=>by
  simp only[kO,zt,ya,and_true] at h;subst h;exact RM.refl R
 |W::b,R,R',d,f,h=>by
  simp only[xH,vT] at f ⊢;simp only[kO] at h;cases c:kU a e mr first R W with
  |none=>rw[c] at h;simp at h
  |some x=>
   obtain⟨g,ok⟩:=x;rw[c] at h;cases ok with
   |false=>simp at h
   |true=>exact(Ou (d W (by simp)) (by omega) c).trans (Fk b g R' (fun X i=>d X (by simp[i])) (by omega) h)
end
theorem PS(T:zi)(a v m:Nat):(gs T a v m).1.qf=T.qf:=by
 unfold gs;split
 ·rfl
 ·exact ny _ _ _ _
theorem CL(m:Nat):∀(r:zm) (T:zi) (a l:Nat),(ve m T a l r).1.qf=T.qf
 |[],_,_,_=>rfl
 |v::r,T,a,l=>by
  simp only[ve];split
  ·exact PS _ _ _ _
  ·rw[CL m r];unfold vX;split
   ·rfl
   ·exact ny _ _ _ _
theorem tp:∀(rs:List zm) (T a:zi),xz rs T=some a->a.qf=T.qf
 |[],T,a,h=>by simp[xz] at h;rw[h]
 |r::rs,T,a,h=>by
  simp only[xz] at h;split at h
  ·rw[tp rs _ a h];unfold addP;split
   ·exact CL 0 r T 0 0
   ·rfl
  ·cases h
def SF(V:Nat)(v:y6):Prop:=v.before.qf<=V/\v.qo.qf<=V/\v.all.qf<=V
theorem BP{c e:Nat}{v v':y6}{d:List zm}(g:SF (zM e) v)(h:dM c e v d=some v'):SF (zM e) v':=by
 unfold dM at h;split at h
 ·cases h
 ·split at h
  ·rename_i b f a j i k;cases h;refine⟨?_,?_,?_⟩
   ·show b.qf<=_;rw[tp _ _ _ j];exact g.1
   ·show f.qf<=_;rw[tp _ _ _ i];exact zg _
   ·show a.qf<=_;rw[tp _ _ _ k];exact g.2.2
  ·cases h
theorem Bv{a f:Nat}{R:zy}:∀(b:List zu) (vs:List y6),dD a f R b=some vs->vs.length=b.length/\∀v∈vs,SF (zM f) v
 |[],vs,h=>by simp[dD] at h;subst h;simp
 |l::b,vs,h=>by
  simp only[dD] at h;split at h
  ·cases h
  ·split at h
   ·rename_i v c g d;cases h;obtain⟨j,i⟩:=Bv b c d;refine⟨by simp[j],fun u e=>?_⟩;rcases zx.1 e with rfl|e
    ·exact BP ⟨zg _,zg _,zg _⟩ g
    ·exact i u e
   ·cases h
theorem e7{b c:Nat}{R:zy}{s:Nat}:∀(rs:List zr) (a:List zX),(∀r∈rs,S6 r)->Rb b c R s rs=some a->(∀W∈a,S8 (zM c) W)/\(a.map fun W=>qP (zM c) W.rule).sum<=(rs.map (qP (zM c))).sum
 |[],a,_,h=>by simp[Rb] at h;subst h;simp
 |r::rs,a,i,h=>by
  simp only[Rb] at h;simp only[xH,vT];split at h
  ·split at h
   ·rename_i vs f k m;cases h;obtain⟨g,n⟩:=e7 rs f (fun x e=>i x (by simp[e])) m;obtain⟨l,j⟩:=Bv r.qc vs k;refine⟨fun W d=>?_,?_⟩
    ·rcases zx.1 d with rfl|d
     ·exact⟨i r (by simp),l,j⟩
     ·exact g W d
    ·simp only[xH,vT];omega
   ·cases h
  ·obtain⟨g,n⟩:=e7 rs a (fun x e=>i x (by simp[e])) h;exact⟨g,by omega⟩
theorem Ci{b g:Nat}{k:List (List zm)}:∀(vs a:List y6),(∀v∈vs,SF (zM g) v)->dP b g k vs=some a->a.length=vs.length/\∀v∈a,SF (zM g) v
 |[],a,_,h=>by simp[dP] at h;subst h;simp
 |v::vs,a,d,h=>by
  simp only[dP] at h;split at h
  ·rename_i m e f l;cases h;obtain⟨j,i⟩:=Ci vs e (fun u c=>d u (by simp[c])) l;refine⟨by simp[j],fun u c=>?_⟩;rcases zx.1 c with rfl|c
   ·split at f
    ·exact BP (d v (by simp)) f
    ·cases f;exact d _ (by simp)
   ·exact i u c
  ·cases h
theorem Dc{c b:Nat}{r:List (List zm)}:∀(d a:List zX),(∀W∈d,S8 (zM b) W)->gu c b r d=some a->(∀W∈a,S8 (zM b) W)/\(a.map fun W=>qP (zM b) W.rule).sum=(d.map fun W=>qP (zM b) W.rule).sum
 |[],a,_,h=>by simp[gu] at h;subst h;simp
 |W::d,a,i,h=>by
  simp only[gu] at h;split at h
  ·rename_i k g p m;cases h;obtain⟨l,j⟩:=Dc d g (fun u n=>i u (by simp[n])) m;have e:=i W (by simp);obtain⟨o,q⟩:=Ci _ _ e.wide p;refine⟨fun X f=>?_,by simp[j]⟩;rcases zx.1 f with rfl|f
   ·exact⟨e.rule,o.trans e.len,q⟩
   ·exact l X f
  ·cases h
def SC(C:Nat)(R:zy):Prop:=∃k:Nat,R.jf=(k:Int)/\k<=R.qw*C
theorem Fe{d mr mx C:Nat}(m:mx<=1048576)(r:1048576*C<9223372036854775808):∀(n:Nat) (first:Bool) (a:List zX) (R R':zy),(∀W∈a,S8 (zM d) W)->(a.map fun W=>qP (zM d) W.rule).sum<=C->SC C R->kB d mr mx n first a R=some (R',true)->SC C R'/\R'.qw<=mx
 |0,_,_,_,_,_,_,_,h=>by simp[kB] at h
 |n+1,first,a,R,R',j,u,⟨k,o,w⟩,h=>by
  simp only[kB] at h;split at h
  ·cases h
  ·rename_i t;unfold nS at h;cases e:kO n d mr first a (qF {R with qw:=R.qw+1}) with
   |none=>rw[e] at h;simp at h
   |some x=>
    obtain⟨b,ok⟩:=x;rw[e] at h;cases ok with
    |false=>simp at h
    |true=>
     have v:(R.qw+1)*C<=1048576*C:=gZ _ (by omega);have z:(R.qw+1)*C=R.qw*C+C:=by rw[fS,Nat.one_mul]
     obtain⟨f,l⟩:=(Fk a _ b j (by omega) e).mono u;have f:b.qw=R.qw+1:=f;obtain⟨s,q,A⟩:=l k o (by omega);have i:SC C b:=⟨s,q,by rw[f];omega⟩;simp only at h;cases g:gu n d b.qo a with
     |none=>rw[g] at h;simp at h
     |some c=>
      rw[g] at h;simp only[jA] at h;obtain⟨p,y⟩:=Dc a c j g;split at h
      ·exact Fe m r n false c b R' p (by omega) i h
      ·cases h;exact⟨i,by omega⟩
theorem Ah{a e mr mx C:Nat}(j:mx<=1048576)(g:1048576*C<9223372036854775808){rs:List zr}(l:∀r∈rs,S6 r)(m:(rs.map (qP (zM e))).sum<=C):∀(n s:Nat) (R R':zy),SC C R->R.qw<=mx->kq a e mr mx rs n s R=some (R',true)->SC C R'/\R'.qw<=mx
 |0,s,R,R',c,f,h=>by simp only[kq,zt,ya,and_true] at h;subst h;exact⟨c,f⟩
 |n+1,s,R,R',c,f,h=>by
  simp only[kq] at h;cases b:nr a e mr mx rs R s with
  |none=>rw[b] at h;simp at h
  |some x=>
   obtain⟨d,ok⟩:=x;rw[b] at h;cases ok with
   |false=>simp at h
   |true=>
    have k:SC C d/\d.qw<=mx:=by
     unfold nr at b;split at b
     ·cases b
     ·rename_i i o;obtain⟨p,q⟩:=e7 rs i l o;split at b
      ·exact Fe j g a true i R d p (by omega) c b
      ·cases b;exact⟨c,f⟩
    exact Ah j g l m n (s+1) d R' k.1 k.2 h
theorem CY{mr:Nat}:∀(fs:List jj) (R R':zy),kK mr fs R=some (R',true)->RM R R' 0
 |[],R,R',h=>by simp only[kK,zt,ya,and_true] at h;subst h;exact RM.refl R
 |f::fs,R,R',h=>by
  simp only[kK] at h;cases a:addR mr R f.pred f.row with
  |none=>rw[a] at h;simp at h
  |some x=>
   obtain⟨b,ok⟩:=x;rw[a] at h;cases ok with
   |false=>simp at h
   |true=>exact(Ed a).trans (CY fs b R' h)
theorem IP{a mr mx:Nat}{S:jo}{R:zy}(l:mx<=1048576)(n:∀r∈S.rules,S6 r)(i:1048576*(S.rules.map (qP (zM S.qf))).sum<9223372036854775808)(h:my a S mr mx=some (some R)):0<=R.jf:=by
 unfold my at h;cases b:kK mr S.facts (fE S) with
 |none=>rw[b] at h;simp at h
 |some x=>
  obtain⟨d,ok⟩:=x;rw[b] at h;cases ok with
  |false=>simp at h
  |true=>
   obtain⟨f,g⟩:=CY _ _ _ b;obtain⟨k,j,o⟩:=g 0 rfl (by omega);have f:d.qw=0:=f;simp only at h;cases c:kq a S.qf mr mx S.rules S.qj.length 0 d with
   |none=>rw[c] at h;simp at h
   |some y=>
    obtain⟨m,ok⟩:=y;rw[c] at h;cases ok with
    |false=>simp at h
    |true=>
     simp only[jA,if_true,zt] at h;subst h;obtain⟨⟨p,e,_⟩,_⟩:=Ah l i n (zg _) _ 0 d m ⟨k,j,by omega⟩ (by omega) c;omega
end Go.Proofs.YteampbddflhngaaGreat
