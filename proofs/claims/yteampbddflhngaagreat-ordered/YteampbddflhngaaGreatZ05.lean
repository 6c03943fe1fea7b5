import Derived.Test.YteampbddflhngaaGreatZ04
namespace Go.Proofs.YteampbddflhngaaGreat
set_option linter.all false
section
open Classical
theorem tP{b:List Nat}{W:Nat}{R:z7}(h:jr b W R)(q:∀a∈b,a<=3){p:Nat}(g:p<R.rows.length)(x:zm):x∈(Rg R.rows[p]).map (fun k=>RM k R.rows[p].ql)↔QF (zyl b R) p x:=by
 obtain⟨n,t,m,r⟩:=h.tries p g;have c:p<b.length:=by rw[←h.len];exact g
 have i:b.getD p 0<=3:=by rw[QB _ c];exact q _ (zs c)
 have j:R.rows[p].ql<=3:=by rw[m];exact(fX _).2
 have f:R.rows.getD p zi.zero=R.rows[p]:=QB _ g;unfold QF zyl;constructor
 ·intro d;obtain⟨k,o,rfl⟩:=zy.1 d;obtain⟨l,s⟩:=(qY _ k).1 o;rw[zc ⟨c,r k o⟩,f,n.mark _ (DL l j),r5 l];exact s
 ·intro d;by_cases e:p<b.length/\QN (b.getD p 0) x
  ·rw[zc e,f,n.mark x e.2.1] at d;refine zy.2 ⟨x.take R.rows[p].ql,(qY _ _).2 ⟨by rw[qt,e.2.1];omega,d⟩,?_⟩;rw[m,Ep i e.2]
  ·rw[za e] at d;cases d
def hU(D:DB)(n:Nat):Prop:=∃l:List (Nat×zm),l.Nodup/\(∀p x,(p,x)∈l↔QF D p x)/\l.length=n
theorem iH:∀{l1 l2:List (Nat×zm)},l1.Nodup->(∀x∈l1,x∈l2)->l1.length<=l2.length
 |[],l2,_,_=>by simp
 |a::l1,l2,e,c=>by
  have d:=c a (by simp);have g:=iH (l1:=l1) (l2:=l2.erase a) (qL.1 e).2 (fun x f=>by
   have b:x≠a:=by rintro rfl;exact(qL.1 e).1 f
   exact(fV b).2 (c x (by simp[f])))
  rw[lK d] at g;have:=m7 d;simp;omega
theorem ry{D E:DB}{n m:Nat}(h:hU D n)(k:hU E m)(hs:∀p x,QF D p x->QF E p x):n<=m:=by
 obtain⟨l,a,b,rfl⟩:=h;obtain⟨f,e,d,rfl⟩:=k;exact iH a fun x c=>(d x.1 x.2).2 (hs _ _ ((b x.1 x.2).1 c))
theorem B7{D:DB}{n m:Nat}(h:hU D n)(k:hU D m):n=m:=Nat.le_antisymm (ry h k fun _ _ q=>q) (ry k h fun _ _ q=>q)
theorem GS{D E:DB}{n m:Nat}(h:hU D n)(k:hU E m)(hs:∀p x,QF D p x->QF E p x)(i:m<=n):∀p x,QF E p x->QF D p x:=by
 intro p x g;false_or_by_contra
 rename_i f;obtain⟨l,e,b,rfl⟩:=h;obtain⟨d,j,c,rfl⟩:=k;have:=iH (l1:=(p,x)::l) (l2:=d) (qL.2 ⟨fun q=>f ((b p x).1 q),e⟩) (fun y a=>by
  rcases zx.1 a with rfl|a
  ·exact(c p x).2 g
  ·exact(c y.1 y.2).2 (hs _ _ ((b y.1 y.2).1 a)))
 simp at this;omega
theorem jr.card{g:List Nat}{W:Nat}{R:z7}(h:jr g W R)(s:∀a∈g,a<=3):hU (zyl g R) R.count:=by
 refine⟨(List.range R.rows.length).flatMap fun p=>((Rg (R.rows.getD p zi.zero)).map fun k=>RM k (R.rows.getD p zi.zero).ql).map fun x=>(p,x),?_,fun p x=>?_,?_⟩
 ·unfold List.Nodup;rw[List.pairwise_flatMap];refine⟨fun p f=>?_,?_⟩
  ·have l:=vM.1 f;rw[lI,QB _ l,lI];refine List.Pairwise.imp_of_mem ?_ (ig R.rows[p] R.rows[p].ql 0 0);intro a b w v c e;simp only[ya,true_and] at e;have j:=((qY R.rows[p] a).1 w).1;have t:=((qY R.rows[p] b).1 v).1;have:=congrArg (List.take R.rows[p].ql) e;rw[r5 j,r5 t] at this;exact c this
  ·refine List.Pairwise.imp ?_ (List.nodup_range (n:=R.rows.length));intro a b c x d y u e;obtain⟨_,_,rfl⟩:=zy.1 d;obtain⟨_,_,rfl⟩:=zy.1 u;simp only[ya] at e;exact c e.1
 ·simp only[uJ,vM];constructor
  ·rintro⟨q,m,d⟩;obtain⟨z,r,e⟩:=zy.1 d;simp only[ya] at e;obtain⟨rfl,rfl⟩:=e;rw[QB _ m] at r;exact(tP h s m z).1 r
  ·intro d;have f:p<R.rows.length:=by rw[h.len];exact(DA g R p x d).1
   refine⟨p,f,zy.2 ⟨x,?_,rfl⟩⟩;rw[QB _ f];exact(tP h s f x).2 d
 ·rw[List.length_flatMap,h.cnt];congr 1;refine kP (by simp) fun i j t=>?_;have o:i<R.rows.length:=by simpa using j
  simp only[uM,mp,uu,QB zi.zero o];exact(h.tries i o).1.cnt
def rG:DB:=fun _ _=>none
theorem Bm{p:List Nat}{W wd:Nat}(c:W=zM wd)(y:∀a∈p,a<=3){R:z7}(h:jr p W R)(D:R.count<=1048576)(b:Nat)(j:3*(W+1)<=b):∀(m:List zu),(∀l∈m,l.pred<p.length)->∃vs,gW b wd R m=some vs/\vs.length=m.length/\∀(i:Nat) (l:zu) (V:yA),m[i]?=some l->vs[i]?=some V->n5 V l W (QF rG l.pred) (QF (zyl p R) l.pred) (fun x=>QF (zyl p R) l.pred x/\¬QF rG l.pred x) ((R.rows.map (·.count)).getD l.pred 0)
 |[],_=>⟨[],rfl,rfl,fun i l V h=>by simp at h⟩
 |l::m,A=>by
  obtain⟨vs,L,G,F⟩:=Bm c y h D b j m (fun x u=>A x (by simp[u]));have d:l.pred<R.rows.length:=by rw[h.len];exact A l (by simp)
  obtain⟨B,C,N,O⟩:=h.tries l.pred d;have w:=oF R.rows l.pred d;rw[←h.cnt] at w;have s:0<W:=by rw[c];unfold zM;split<;>omega
  have n:fT wd R l.pred=R.rows[l.pred]:=by unfold fT;rw[za (by omega),QB _ d]
  have r:=B.rowsG b (by rw[C];exact j) (by omega);have H:n5 (kW wd l) l W (fun _=>False) (fun _=>False) (fun _=>False) 0:=⟨rfl,uU.new l wd W c,uU.new l wd W c,uU.new l wd W c,by simp[kW,yS,yx],by simp[kW,yS,yx]⟩;have g:((Rg R.rows[l.pred]).map fun k=>RM k R.rows[l.pred].ql).length=R.rows[l.pred].count:=by rw[uu];exact B.cnt
  obtain⟨M,J,o⟩:=EQ H c ((Rg R.rows[l.pred]).map fun k=>RM k R.rows[l.pred].ql) (fun x u=>by
   obtain⟨k,E,rfl⟩:=zy.1 u;refine Ct s ?_;intro v I;have:=tN k 0 ((qY _ k).1 E).2 v I;rw[C] at this;exact this) (by rw[g];omega) b j
  have f:∀x,¬QF rG l.pred x:=fun x q=>by cases q
  refine⟨M::vs,?_,by simp[G],fun i K U z t=>?_⟩
  ·unfold gW;rw[n,r];simp only[J,L]
  ·cases i with
   |zero=>
    simp only[dS,zt] at z t;subst z;subst t;refine⟨o.lit,o.before.congr fun x=>⟨fun q=>by rcases q with q|q<;>exact q.elim,fun q=>zC q (f x)⟩,o.qo.congr fun x=>?_,o.all.congr fun x=>?_,?_⟩
    ·rw[tP h y d];exact⟨fun q=>⟨q,f x⟩,fun q=>q.1⟩
    ·rw[tP h y d];exact⟨fun q=>q.resolve_left id,zb⟩
    ·have e:(R.rows.map (·.count)).getD l.pred 0=R.rows[l.pred].count:=by simp[List.getD,d]
     have:=o.few;rw[g] at this;rw[e];simpa using this
   |succ i=>exact F i K U (by simpa using z) (by simpa using t)
theorem Eg{e:List Nat}{W wd:Nat}(d:W=zM wd)(n:∀a∈e,a<=3){R:z7}(h:jr e W R)(j:R.count<=1048576)(c:Nat)(g:3*(W+1)<=c)(s:Nat):∀(b:List zr),(∀r∈b,∀l∈r.qc,l.pred<e.length)->∃f,QZ c wd R s b=some f/\jQ e W rG (zyl e R) (R.rows.map (·.count)) f (b.filter fun r=>decide (r.qh=s))
 |[],_=>⟨[],rfl,jQ.nil⟩
 |r::b,k=>by
  obtain⟨f,m,o⟩:=Eg d n h j c g s b (fun x t=>k x (by simp[t]));unfold QZ;by_cases i:r.qh=s
  ·obtain⟨vs,q,p,u⟩:=Bm d n h j c g r.qc (k r (by simp));rw[zc i,q,m];refine⟨⟨r,vs⟩::f,rfl,?_⟩;rw[List.filter_cons_of_pos (by simp[i])];exact jQ.cons ⟨rfl,p,u⟩ o
  ·rw[za i];refine⟨f,m,?_⟩;rw[List.filter_cons_of_neg (by simp[i])];exact o
theorem jQ.length{b:List Nat}{W:Nat}{D0 D:DB}{c:List Nat}{a:List zX}{rs:List zr}(h:jQ b W D0 D c a rs):a.length=rs.length:=by
 induction h with
 |nil=>rfl
 |cons _ _ d=>simp[d]
end
section
open Classical
variable {mr mx:Nat}
def lD(D:DB)(mr:Nat):Prop:=∃n,n<=mr/\hU D n
noncomputable def zya(rs:List zr)(mr:Nat):Nat->Nat->DB->Option (DB×Nat)
 |0,_,_=>none
 |left+1,k,D=>
  if lD (zyr rs (k+1) D) mr then
   if ∀p x,QF (zyr rs (k+1) D) p x->QF D p x then some (zyr rs (k+1) D,k+1)
   else zya rs mr left (k+1) (zyr rs (k+1) D)
  else none
noncomputable def zyg(rules:List zr)(mr mx:Nat):Nat->Nat->Nat->DB->Option (DB×Nat)
 |0,_,k,D=>some (D,k)
 |n+1,s,k,D=>
  if (rules.filter fun r=>decide (r.qh=s))=[] then zyg rules mr mx n (s+1) k D
  else match zya (rules.filter fun r=>decide (r.qh=s)) mr (mx-k) k D with
   |none=>none
   |some (D',k')=>zyg rules mr mx n (s+1) k' D'
noncomputable def zzv(fs:List jx):DB:=fun p x=>if ∃f∈fs,f.pred=p/\f.row=x then some 0 else none
noncomputable def z1m(S:jw)(mr mx:Nat):Option (DB×Nat):=if lD (zzv S.facts) mr then zyg S.rules mr mx S.qj.length 0 0 (zzv S.facts) else none
theorem M0(rs:List zr)(k:Nat)(D:DB):∀p x,QF D p x->QF (zyr rs k D) p x:=by
 intro p x h;unfold QF zyr at *;cases a:D p x with
 |some m=>rfl
 |none=>rw[a] at h;cases h
theorem En{rs:List zr}{k:Nat}{D:DB}:∀p x,jp rs D p x->QF (zyr rs k D) p x:=by
 intro p x h;unfold QF zyr;cases a:D p x with
 |some m=>rfl
 |none=>simp only;rw[zc h];rfl
theorem OX{c:List Nat}{W wd:Nat}(E:W=zM wd)(G:∀a∈c,a<=3)(D:mr<=1048576){rs:List zr}(hs:sj rs c W)(B:Nat)(K:(∀r∈rs,lr W r<=B)/\3*(W+1)<=B):
  ∀(n:Nat) (first:Bool) (v:List zX) (R:z7) (D0:DB),jr c W R->R.count<=mr->R.qw<=mx->(∀p x,QF D0 p x->QF (zyl c R) p x)->jQ c W D0 (zyl c R) (R.rows.map (·.count)) v rs->(first=false->∀p x,jp rs D0 p x->QF (zyl c R) p x)->B+(mx-R.qw)<n →
  ∃k ok,kR wd mr mx n first v R=some (k,ok)/\(ok=false->zya rs mr (mx-R.qw) R.qw (zyl c R)=none)/\(ok=true->jr c W k/\k.count<=mr/\k.qw<=mx/\zya rs mr (mx-R.qw) R.qw (zyl c R)=some (zyl c k,k.qw)):=by
 intro n;induction n with
 |zero=>intro first v R D0 _ _ _ _ _ _ h;omega
 |succ n Q=>
  intro first v R D0 J M hk y hw F hn
  unfold kR;by_cases s:R.qw≥mx
  ·rw[zc s];refine⟨R,false,rfl,fun _=>?_,fun q=>by cases q⟩;rw[show mx-R.qw=0 by omega];rfl
  ·rw[za s];obtain⟨left,j⟩:∃left,mx-R.qw=left+1:=⟨mx-R.qw-1,by omega⟩;obtain⟨d,w,ok,O,z,I,V,Z,Y⟩:=Jj E G D n hs ⟨fun r S=>by have:=K.1 r S;omega,by have:=K.2;omega⟩ first J M y hw F
   rw[O];have b:=z.card G;have f:=J.card G;rw[j];cases ok with
   |false=>
    refine⟨d,false,rfl,fun _=>?_,fun q=>by cases q⟩;unfold zya;rw[za];rintro⟨m,m1,P⟩;have:=ry b P V;have:=Z rfl;omega
   |true=>
    obtain⟨C,u,b3⟩:=Y rfl;simp only;have t:lD (zyl c d) mr:=⟨d.count,C,b⟩;have g:∀p x,QF (zyl c R) p x->QF (zyl c d) p x:=by rw[u];exact M0 _ _ _
    by_cases i:d.count>R.count
    ·rw[zc i];have l:¬∀p x,QF (zyl c d) p x->QF (zyl c R) p x:=fun q=>by
      have:=ry b f q;omega
     obtain⟨U,A,T,L,H⟩:=Q false w d (zyl c R) z C (by omega) g b3 (fun _ p x X=>by rw[u];exact En p x X) (by omega);have N:mx-d.qw=left:=by omega
     have e:zya rs mr (left+1) R.qw (zyl c R)=zya rs mr left d.qw (zyl c d):=by
      rw[zya,←u,zc t,za l,I]
     rw[N] at L H;exact⟨U,A,T,fun q=>by rw[e];exact L q,fun q=>by rw[e];exact H q⟩
    ·rw[za i];have o:=GS f b g (by omega);refine⟨d,true,rfl,fun q=>(by cases q),fun _=>⟨z,C,by omega,?_⟩⟩;rw[zya,←u,zc t,zc o,I]
structure AT (rs:List zr) (ar:List Nat) (W:Nat):Prop where
 rules:∀r∈rs,nP r ar W
 apart:∀r∈rs,∀r'∈rs,r.qh=r'.qh->∀l∈r.qp,l.pred≠r'.head.pred
theorem ND{e:List Nat}{W wd:Nat}(h:W=zM wd)(C:∀a∈e,a<=3)(t:mr<=1048576){b:List zr}(y:AT b e W)(B:Nat)(o:(∀r∈b,lr W r<=B)/\3*(W+1)<=B)(c:Nat)(G:B+mx<c):
  ∀(n s:Nat) (R:z7),jr e W R->R.count<=mr->R.qw<=mx->∃g ok,ku c wd mr mx b n s R=some (g,ok)/\(ok=false->zyg b mr mx n s R.qw (zyl e R)=none)/\(ok=true->jr e W g/\g.count<=mr/\zyg b mr mx n s R.qw (zyl e R)=some (zyl e g,g.qw)):=by
 intro n;induction n with
 |zero=>intro s R f j _;exact⟨R,true,rfl,fun q=>(by cases q),fun _=>⟨f,j,rfl⟩⟩
 |succ n w=>
  intro s R f j u;obtain⟨A,L,z⟩:=Eg h C f (by omega) c (by have:=o.2;omega) s b (fun r m l E=>((y.rules r m).qc l E).1);have d:=z.length;unfold ku nS;rw[L];simp only;unfold zyg;by_cases k:(b.filter fun r=>decide (r.qh=s))=[]
  ·rw[zc k];rw[k] at d;rw[za (by simp at d;simp[d])];simp only;exact w (s+1) R f j u
  ·rw[za k];have i:A.length>0:=by rw[d];exact List.length_pos_iff.2 k
   rw[zc i];obtain⟨v,ok,F,H,I⟩:=OX h C t (mx:=mx) (y.jm s) B ⟨fun r m=>o.1 r (uS.1 m).1,o.2⟩ c true A R rG f j u (fun p x q=>by cases q) z (fun q=>by cases q) (by omega);rw[F];cases ok with
   |false=>
    refine⟨v,false,rfl,fun _=>?_,fun q=>by cases q⟩;rw[H rfl]
   |true=>
    obtain⟨K,D,M,J⟩:=I rfl;simp only;rw[J];exact w (s+1) v K D M
theorem At{d:List Nat}{W:Nat}(w:∀a∈d,a<=3){mr:Nat}(e:mr<=1048576){k:Nat}{D0:DB}{c0:List Nat}:∀(fs:List jx) (R:z7),(∀f∈fs,f.pred<d.length/\QN (d.getD f.pred 0) f.row/\Ra W f.row)->Ry d W k D0 c0 R->R.count<=mr->∃c ok,kM mr fs R=some (c,ok)/\Ry d W k D0 c0 c/\(∀q x,x∈R.qo.getD q []->x∈c.qo.getD q [])/\(∀q x,x∈c.qo.getD q []->x∈R.qo.getD q []∨∃f∈fs,f.pred=q/\f.row=x)/\(ok=true->c.count<=mr/\∀f∈fs,QF (zyl d c) f.pred f.row)/\(ok=false->c.count>mr)
 |[],R,_,p,i=>⟨R,true,rfl,p,fun q x b=>b,fun q x b=>zf b,fun _=>⟨i,fun f h=>by cases h⟩,fun q=>by cases q⟩
 |f::fs,R,h,p,i=>by
  obtain⟨D,G,C⟩:=h f (by simp);obtain⟨s,ok,A,j,_,J,v,u,L,M⟩:=p.add w D G C i e;unfold kM;rw[A];cases ok with
  |false=>
   refine⟨s,false,rfl,j,v,fun q x b=>?_,(fun q=>by cases q),M⟩;rcases u q x b with z|⟨l,m⟩
   ·exact zf z
   ·exact zb ⟨f,by simp,l.symm,m.symm⟩
  |true=>
   simp only;obtain⟨F,o,I,r,y,H,t,B⟩:=At w e fs s (fun x b=>h x (by simp[b])) j (L rfl);refine⟨F,o,I,r,fun q x b=>y q x (v q x b),fun q x b=>?_,fun q=>⟨(t q).1,fun g n=>?_⟩,B⟩
   ·rcases H q x b with z|⟨g,K,E⟩
    ·rcases u q x z with z|⟨l,m⟩
     ·exact zf z
     ·exact zb ⟨f,by simp,l.symm,m.symm⟩
    ·exact zb ⟨g,by simp[K],E⟩
   ·rcases zx.1 n with rfl|n
    ·exact j.grow r y J
    ·exact(t q).2 g n
structure nL (S:jw):Prop where
 small:∀a∈S.qj,a<=3
 facts:∀f∈S.facts,f.pred<S.qj.length/\QN (S.qj.getD f.pred 0) f.row/\Ra (zM S.qf) f.row
 rules:AT S.rules S.qj (zM S.qf)
theorem LF(S:jw):jr S.qj (zM S.qf) ⟨S.qj.map (yS S.qf),0,0,0,[]⟩:=by
 refine⟨by simp,fun p e=>?_,?_⟩
 ·have b:p<S.qj.length:=by simpa using e
  simp only[uM];refine⟨vH.new _ _,Em _ _,by rw[p6,QB _ b],fun k f=>?_⟩;obtain⟨c,d⟩:=(qY _ k).1 f;rw[tr _ _ k (by rintro rfl;have:=(fX S.qj[p]).1;rw[p6] at c;simp at c;omega)] at d;cases d
 ·show 0=_;rw[ml];have:∀l:List Nat,(l.map ((fun T:zi=>T.count) ∘ yS S.qf)).sum=0:=by
   intro l;induction l with
   |nil=>rfl
   |cons a l g=>simp only[xI,vQ,g];rfl
  exact(this _).symm
theorem Dv(S:jw)(p:Nat)(x:zm):zyl S.qj ⟨S.qj.map (yS S.qf),0,0,0,[]⟩ p x=none:=by
 unfold zyl;split
 ·rename_i a;have b:p<(S.qj.map (yS S.qf)).length:=by simpa using a.1
  show uo ((S.qj.map (yS S.qf)).getD p zi.zero) x=none;rw[QB _ b,uM,(vH.new _ _).mark x a.2.1,tr];intro e;have:=congrArg List.length e;rw[qt,a.2.1,p6] at this;have:=fX S.qj[p];simp at *;omega
 ·rfl
theorem IS{S:jw}(h:nL S)(u:mr<=1048576):∃N,∀b,N<=b->∃d,m5 b S mr mx=some d/\(d=none->z1m S mr mx=none)/\∀R,d=some R->jr S.qj (zM S.qf) R/\R.count<=mr/\z1m S mr mx=some (zyl S.qj R,R.qw):=by
 obtain⟨B,o⟩:∃B,(∀r∈S.rules,lr (zM S.qf) r<=B)/\3*(zM S.qf+1)<=B:=by
  have:∀y:List zr,∃B,∀r∈y,lr (zM S.qf) r<=B:=by
   intro y;induction y with
   |nil=>exact⟨0,fun r e=>by cases e⟩
   |cons a y T=>
    obtain⟨B,o⟩:=T;refine⟨B+lr (zM S.qf) a,fun r e=>?_⟩;rcases zx.1 e with rfl|e
    ·omega
    ·have:=o r e;omega
  obtain⟨B,o⟩:=this S.rules;exact⟨B+3*(zM S.qf+1),fun r e=>by have:=o r e;omega,by omega⟩
 refine⟨B+mx+1,fun b M=>?_⟩;have l:=Ry.clear (LF S);have X:qs ⟨S.qj.map (yS S.qf),0,0,0,[]⟩=ft S:=rfl;obtain⟨R,ok,K,i,a3,H,Z,Y⟩:=At h.small u S.facts (ft S) h.facts l (zv _);have v:∀q x,x∉(ft S).qo.getD q []:=fun q x j=>by
  have s:x∈(List.replicate (S.qj.map (yS S.qf)).length ([]:List zm)).getD q []:=j;have:∀n,(List.replicate n ([]:List zm)).getD q []=[]:=fun n=>by by_cases I:q<n<;>simp[List.getD,I]
  rw[this] at s;cases s
 have k:∀p x,QF (zyl S.qj R) p x->QF (zzv S.facts) p x:=by
  intro p x j;unfold QF at j ⊢;rw[i.abs,Dv] at j;by_cases g:x∈R.qo.getD p []
  ·unfold zzv;rw[zc ((H p x g).resolve_left (v p x))];rfl
  ·rw[za g] at j;cases j
 unfold m5;rw[K];cases ok with
 |false=>
  refine⟨none,rfl,fun _=>?_,fun R q=>by cases q⟩;unfold z1m;rw[za];rintro⟨m,m1,Q⟩;have:=ry (i.inv.card h.small) Q k;have:=Y rfl;omega
 |true=>
  obtain⟨F,J⟩:=Z rfl;have A:R.qw=0:=i.qw;have t:zyl S.qj R=zzv S.facts:=by
   funext p x;have z:=i.abs p x;rw[Dv] at z;rw[z];unfold zzv;by_cases w:∃f∈S.facts,f.pred=p/\f.row=x
   ·rw[zc w];obtain⟨f,V,rfl,rfl⟩:=w;have:=J f V;unfold QF at this;rw[z] at this;by_cases g:f.row∈R.qo.getD f.pred []
    ·rw[zc g]
    ·rw[za g] at this;cases this
   ·rw[za w,za];intro g;exact w ((H p x g).resolve_left (v p x))
  have D:lD (zzv S.facts) mr:=⟨R.count,F,by rw[←t];exact i.inv.card h.small⟩;obtain⟨O,C,W,G,E⟩:=ND rfl h.small u (mx:=mx) h.rules B o b (by omega) S.qj.length 0 R i.inv F (by omega);simp only[W,jy];rw[A,t] at G E;have c:z1m S mr mx=zyg S.rules mr mx S.qj.length 0 0 (zzv S.facts):=by
   unfold z1m;rw[zc D]
  cases C with
  |false=>exact⟨none,rfl,fun _=>by rw[c];exact G rfl,fun R q=>by cases q⟩
  |true=>
   refine⟨some O,rfl,(fun q=>by cases q),fun R2 q=>?_⟩;simp only[zt] at q;subst q;obtain⟨U,L,P⟩:=E rfl;exact⟨U,L,by rw[c];exact P⟩
end
section
variable {hs:List Nat}
def R0(V:Nat):List Nat->Nat
 |[]=>0
 |h::r=>V*(h+R0 V r)+1
def RE(V:Nat):List Nat->List Nat->Nat->Nat
 |h::r,f::a,d=>(V-f)*(h+R0 V r)+1+(match d with|0=>0|d+1=>RE V r a d)
 |_,_,_=>0
theorem oT(V:Nat):∀(hs b:List Nat) {d e:Nat},d<=e->RE V hs b d<=RE V hs b e
 |[],_,_,_,_=>by simp[RE]
 |_::_,[],_,_,_=>by simp[RE]
 |h::r,f::a,0,e,_=>by simp[RE]
 |h::r,f::a,d+1,0,q=>by omega
 |h::r,f::a,d+1,e+1,q=>by
  have:=oT V r a (d:=d) (e:=e) (by omega);simp only[RE];omega
theorem D4(V:Nat)(hs a:List Nat):RE V hs (a.set 0 0) 0<=R0 V hs:=by
 cases hs with
 |nil=>simp[RE]
 |cons h r=>cases a<;>simp[RE,R0]
theorem A5(V:Nat){v:Nat}(l:v<V):∀(d:Nat) (hs c:List Nat),d<hs.length->d<c.length->c.getD d 0<=v->RE V hs ((c.set d (v+1)).set (d+1) 0) (d+1)+hs.getD d 0*(v+1-c.getD d 0)<=RE V hs c d
 |0,h::r,f::g,_,_,e=>by
  have i:=D4 V r g;simp only[nG,mL,RE,List.getD_cons_zero] at e ⊢;obtain⟨a,p⟩:∃a,V=a+(v+1):=⟨V-(v+1),by omega⟩;obtain⟨b,o⟩:∃b,v=b+f:=⟨v-f,by omega⟩;have m:V-(v+1)=a:=by omega
  have j:V-f=a+(b+1):=by omega
  have k:v+1-f=b+1:=by omega
  rw[m,j,k];have s:(a+(b+1))*(h+R0 V r)=a*(h+R0 V r)+((b+1)*h+(b*R0 V r+R0 V r)):=by rw[hY,Nat.mul_add (b+1),hY b 1 (R0 V r),Nat.one_mul]
  have q:h*(b+1)=(b+1)*h:=Nat.mul_comm _ _;omega
 |d+1,h::r,f::g,i,n,e=>by
  have:=A5 V l d r g (by simpa using i) (by simpa using n) (by simpa using e);simp only[mL,RE,List.getD_cons_succ] at this ⊢;omega
 |_,[],_,h,_,_=>by simp at h
 |_,_::_,[],_,h,_=>by simp at h
theorem CC(V:Nat):∀(d:Nat) (hs a:List Nat),d<hs.length->d<a.length->hs.getD d 0*(V-a.getD d 0)+1<=RE V hs a d/\∀b,b<d->RE V hs a b+(hs.getD d 0*(V-a.getD d 0)+1)<=RE V hs a d
 |0,h::r,f::c,_,_=>by
  refine⟨?_,fun b e=>by omega⟩;simp only[RE,List.getD_cons_zero,Nat.mul_add];rw[Nat.mul_comm h];omega
 |d+1,h::r,f::c,g,j=>by
  obtain⟨k,i⟩:=CC V d r c (by simpa using g) (by simpa using j);simp only[RE,List.getD_cons_succ];refine⟨by omega,fun b e=>?_⟩;cases b with
  |zero=>simp only;omega
  |succ b=>have:=i b (by omega);simp only;omega
 |_,[],_,h,_=>by simp at h
 |_,_::_,[],_,h=>by simp at h
def RO(V:Nat)(hs a:List Nat)(d:Int):Nat:=if d<0 then 0 else RE V hs a d.toNat
theorem LH(V:Nat)(hs a:List Nat){d e:Int}(h:d<=e):RO V hs a d<=RO V hs a e:=by
 unfold RO;split
 ·omega
 ·split
  ·omega
  ·exact oT V hs a (by omega)
structure Sk (V:Nat) (hs:List Nat) (J:z9):Prop where
 wide:∀i,(J.qy.getD i yK.zero).rows.qf<=V
 je:∀p,p<hs.length->(J.je.getD p []).length=hs.getD p 0
 vars:J.vars=hs.length
 five:hs.length<=5
 jg:∀p,p<hs.length->J.jg.getD p 0<(p:Int)
 last:J.last<(hs.length:Int)
 flen:J.from.length=5
theorem Sk.same{V:Nat}{J a:z9}(h:Sk V hs J)(s:qS J a):Sk V hs a:=by
 rw[s];exact⟨h.wide,h.je,h.vars,h.five,h.jg,h.last,h.flen⟩
theorem JL{T:zi}{a f v:Nat}(h:yz T a f=some v):f<T.qf/\v<T.qf:=by
 unfold yz at h;split at h
 ·rename_i q;simp only at h;split at h
  ·cases h
  ·cases h;exact⟨q.2,by omega⟩
 ·cases h
theorem Ab{V:Nat}(hs:List (Nat×Nat)):∀(n:Nat) (J:z9) (at' a b m:Nat) (f:z9) (o:Option Nat),(∀i,(J.qy.getD i yK.zero).rows.qf<=V)->J.jf=(m:Int)->m+hs.length*(V-at')+1<9223372036854775808+a->(a=0∨at'<V)->a<=hs.length->kx n J hs at' a b=some (f,o)->∃e:Nat,f.jf=(e:Int)/\qS J f/\(o=none->e+a<=m+hs.length*(V-at')+1)/\∀v,o=some v->at'<=v/\(0<hs.length->v<V)/\e+a<=m+hs.length*(v+1-at')
 |0,_,_,_,_,_,_,_,_,_,_,_,_,h=>by simp[kx] at h
 |n+1,J,at',a,b,m,f,o,z,y,I,c,C,h=>by
  simp only[kx] at h;by_cases k:a<hs.length
  ·rw[zc k] at h;unfold vL at h;by_cases j:vD J (hs.getD b (0,0))=true
   ·rw[zc j] at h;have F:m+1<9223372036854775808:=by
     rcases c with rfl|c
     ·omega
     ·have:hs.length*1<=hs.length*(V-at'):=m9 _ (by omega);omega
    have t:IntKind.i64.wrap (J.jf+1)=((m+1:Nat):Int):=by rw[y,IntKind.wrap_i64];omega
    rw[t] at h;cases p:yz (J.qy.getD (hs.getD b (0,0)).1 yK.zero).rows ((J.qy.getD (hs.getD b (0,0)).1 yK.zero).qi.getD (hs.getD b (0,0)).2 0) at' with
    |none=>
     rw[p] at h;simp only[zt,ya] at h;obtain⟨rfl,rfl⟩:=h;refine⟨m+1,rfl,rfl,fun _=>?_,fun v q=>by cases q⟩;rcases c with rfl|c
     ·omega
     ·have:hs.length*1<=hs.length*(V-at'):=m9 _ (by omega);omega
    |some v=>
     rw[p] at h;simp only at h;obtain⟨G,D⟩:=JL p;have K:=z (hs.getD b (0,0)).1;have w:at'<V:=by omega
     have A:v<V:=by omega
     by_cases d:v>at'
     ·rw[zc d,zc d] at h;have M:hs.length*(V-at')=hs.length*(V-v)+hs.length*(v-at'):=by rw[←Nat.mul_add];congr 1;omega
      have L:hs.length*1<=hs.length*(v-at'):=m9 _ (by omega);obtain⟨e,l,g,x,r⟩:=Ab hs n {J with jf:=((m+1:Nat):Int)} v (0+1) _ (m+1) f o (fun i=>z i) rfl (by omega) (zb A) (by omega) h;refine⟨e,l,?_,fun q=>?_,fun u q=>?_⟩
      ·unfold qS at g ⊢;rw[g]
      ·have:=x q;omega
      ·obtain⟨B,s,E⟩:=r u q;refine⟨by omega,s,?_⟩;have H:hs.length*(u+1-at')=hs.length*(u+1-v)+hs.length*(v-at'):=by rw[←Nat.mul_add];congr 1;omega
       omega
     ·rw[za d,za d] at h;obtain⟨e,l,g,x,r⟩:=Ab hs n {J with jf:=((m+1:Nat):Int)} at' (a+1) _ (m+1) f o (fun i=>z i) rfl (by omega) (zb w) (by omega) h;refine⟨e,l,?_,fun q=>?_,fun u q=>?_⟩
      ·unfold qS at g ⊢;rw[g]
      ·have:=x q;omega
      ·obtain⟨B,s,E⟩:=r u q;exact⟨B,s,by omega⟩
   ·rw[za j] at h;simp only[zt,ya] at h;obtain⟨rfl,rfl⟩:=h;refine⟨m,y,rfl,fun _=>?_,fun v q=>by cases q⟩;rcases c with rfl|c
    ·omega
    ·have:hs.length*1<=hs.length*(V-at'):=m9 _ (by omega);omega
  ·rw[za k] at h;simp only[zt,ya] at h;obtain⟨rfl,rfl⟩:=h;refine⟨m,y,rfl,(fun q=>by cases q),fun v q=>?_⟩;cases q;refine⟨zg _,fun q=>?_,?_⟩
   ·rcases c with rfl|c
    ·omega
    ·exact c
   ·have:at'+1-at'=1:=by omega
    rw[this];omega
theorem JI{V:Nat}{J:z9}(h:Sk V hs J){n d f m:Nat}(s:d<hs.length)(e:J.jf=(m:Int))(i:m+hs.getD d 0*(V-f)+1<9223372036854775808){c:z9}{o:Option Nat}(a:fh n J d f=some (c,o)):∃b:Nat,c.jf=(b:Int)/\qS J c/\(o=none->b<=m+hs.getD d 0*(V-f)+1)/\∀v,o=some v->f<=v/\v<V/\b<=m+hs.getD d 0*(v+1-f):=by
 unfold fh at a;split at a
 ·simp only[zt,ya] at a;obtain⟨rfl,rfl⟩:=a;exact⟨m,e,rfl,fun _=>by omega,fun v q=>by cases q⟩
 ·rename_i k;rw[←h.je d s] at i ⊢;obtain⟨b,g,t,p,j⟩:=Ab _ n J f 0 0 m c o h.wide e (by omega) (zf rfl) (zv _) a;refine⟨b,g,t,fun q=>by have:=p q;omega,fun v q=>?_⟩;obtain⟨l,r,u⟩:=j v q;exact⟨l,r (by omega),by omega⟩
theorem AC(v:Nat):∀(hs:List (Nat×Nat)) (J:z9),∃a,hs.foldl (vy v) J={J with qy:=a}/\∀i,(a.getD i yK.zero).rows=(J.qy.getD i yK.zero).rows
 |[],J=>⟨J.qy,rfl,fun _=>rfl⟩
 |h::r,J=>by
  obtain⟨g,b,c⟩:∃a,vy v J h={J with qy:=a}/\∀i,(a.getD i yK.zero).rows=(J.qy.getD i yK.zero).rows:=by
   unfold vy;split
   ·exact⟨J.qy,rfl,fun _=>rfl⟩
   ·refine⟨_,rfl,fun i=>?_⟩;rw[mB];split
    ·rename_i q;rw[q.1]
    ·rfl
  obtain⟨f,d,e⟩:=AC v r (vy v J h);refine⟨f,?_,fun i=>?_⟩
  ·rw[ut,d,b]
  ·rw[e,b];exact c i
theorem Sk.take{V:Nat}{J:z9}(h:Sk V hs J){d v:Nat}(j:d<hs.length):Sk V hs (uf J d v)/\(uf J d v).jf=J.jf/\(uf J d v).from=(J.from.set d (v+1)).set (d+1) 0:=by
 have g:=h.five;have a:=h.flen;have c:(if d+1<5 then(J.from.set d (v+1)).set (d+1) 0 else J.from.set d (v+1))=(J.from.set d (v+1)).set (d+1) 0:=by
  split
  ·rfl
  ·exact(List.set_eq_of_length_le (by simp;omega)).symm
 unfold uf;rw[za (by omega),c];obtain⟨f,e,b⟩:=AC v (J.je.getD d []) {J with ja:=J.ja.set d v,«from»:=(J.from.set d (v+1)).set (d+1) 0};rw[e];exact⟨⟨fun i=>by rw[b];exact h.wide i,h.je,h.vars,h.five,h.jg,h.last,by simp[a]⟩,rfl,rfl⟩
theorem ec{V:Nat}{hs:List Nat}{B:Nat}(z:B<9223372036854775808):∀(n:Nat) (J:z9) (d:Int) (m:Nat) (b:z9) (o:Bool),Sk V hs J->J.jf=(m:Int)->d<=hs.length->m+RO V hs J.from d<=B->jv n J d=some (b,o)->Sk V hs b/\∃r:Nat,b.jf=(r:Int)/\r<=B/\(o=true->r+RO V hs b.from hs.length<=B)
 |0,_,_,_,_,_,_,_,_,_,h=>by simp[jv] at h
 |n+1,J,d,m,b,o,c,A,T,l,h=>by
  simp only[jv] at h;have Q:=c.five;have M:=c.vars;by_cases s:0<=d/\d<(J.vars:Int)/\d<5
  ·rw[zc s] at h;obtain⟨k,rfl⟩:∃k:Nat,d=(k:Int):=⟨d.toNat,by omega⟩;have e:k<hs.length:=by omega
   have f:k<J.from.length:=by rw[c.flen];omega
   simp only[Int.toNat_natCast] at h;have p:RO V hs J.from (k:Int)=RE V hs J.from k:=by unfold RO;rw[za (by omega),Int.toNat_natCast]
   rw[p] at l;obtain⟨P,L⟩:=CC V k hs J.from e f;cases j:fh n J k (J.from.getD k 0) with
   |none=>rw[j] at h;simp at h
   |some x=>
    obtain⟨i,H⟩:=x;rw[j] at h;obtain⟨w,t,u,I,O⟩:=JI c e A (by omega) j;have a:=c.same u;have g:i.from=J.from:=by rw[u]
    cases H with
    |none=>
     simp only at h;have y:=a.jg k e;have:=I rfl;refine ec z n i _ w b o a t (by omega) ?_ h;rw[g];unfold RO;split
     ·omega
     ·have:=L (i.jg.getD k 0).toNat (by omega);omega
    |some v=>
     simp only at h;obtain⟨N,C,S⟩:=O v rfl;obtain⟨E,F,D⟩:=a.take (v:=v) e;have G:=A5 V C k hs J.from e f N;have K:=oT V hs ((J.from.set k (v+1)).set (k+1) 0) (Nat.le_add_right k 1);refine ec z n (uf i k v) _ w b o E (by rw[F,t]) (by split<;>omega) ?_ h;rw[D,g];split
     ·unfold RO;rw[za (by omega),Int.toNat_natCast];omega
     ·unfold RO;rw[za (by omega),show((k:Int)+1).toNat=k+1 from by omega];omega
  ·rw[za s] at h;simp only[zt,ya] at h;obtain⟨rfl,rfl⟩:=h;refine⟨c,m,A,by omega,fun q=>?_⟩;have R:d≥(J.vars:Int):=by simpa using q
   rw[show d=(hs.length:Int) from by omega] at l;exact l
end
section
variable {R R':z7}{mr:Nat}
theorem NY{V:Nat}{hs:List Nat}{B:Nat}(p:B<9223372036854775808){n:Nat}{J b:z9}{m:Nat}{o:Bool}(g:Sk V hs J)(j:J.jf=(m:Int))(r:J.ql<=hs.length)(i:m+RO V hs J.from J.ql<=B)(h:dQ n J=some (b,o)):Sk V hs b/\b.ql<=hs.length/\∃c:Nat,b.jf=(c:Int)/\c+RO V hs b.from b.ql<=B:=by
 unfold dQ at h;cases e:jv n J J.ql with
 |none=>rw[e] at h;simp at h
 |some x=>
  obtain⟨d,f⟩:=x;rw[e] at h;simp only[zt,ya] at h;obtain⟨rfl,rfl⟩:=h;obtain⟨a,c,l,k,s⟩:=ec p n J J.ql m d f g j r i e;refine⟨⟨a.wide,a.je,a.vars,a.five,a.jg,a.last,a.flen⟩,?_,c,l,?_⟩
  ·have:=a.last;show(if f=true then d.last else -1)<=_;split<;>omega
  ·show c+RO V hs d.from (if f=true then d.last else -1)<=B;split
   ·rename_i q;have:=s q;have:=LH V hs d.from (Int.le_of_lt a.last);omega
   ·simp only[RO];rw[zc (by omega)];exact k
def RJ(R R':z7)(c:Nat):Prop:=R'.qw=R.qw/\∀k:Nat,R.jf=(k:Int)->k+c<9223372036854775808->∃a:Nat,R'.jf=(a:Int)/\a<=k+c
theorem RJ.trans{R b a:z7}{c d:Nat}(h:RJ R b c)(g:RJ b a d):RJ R a (c+d):=
 ⟨g.1.trans h.1,fun k i n=>by
  obtain⟨e,f,o⟩:=h.2 k i (by omega);obtain⟨l,j,m⟩:=g.2 e f (by omega);exact⟨l,j,by omega⟩⟩
theorem RJ.mono{c d:Nat}(h:RJ R R' c)(f:c<=d):RJ R R' d:=
 ⟨h.1,fun k e g=>by
  obtain⟨a,b,i⟩:=h.2 k e (by omega);exact⟨a,b,by omega⟩⟩
theorem RJ.refl(R:z7):RJ R R 0:=⟨rfl,fun k a _=>⟨k,a,by omega⟩⟩
theorem AO{p:Nat}{x:zm}{ok:Bool}(h:addR mr R p x=some (R',ok)):RJ R R' 0:=by
 have:R'.jf=R.jf/\R'.qw=R.qw:=by
  unfold addR at h;split at h
  ·split at h
   ·cases h;exact⟨rfl,rfl⟩
   ·cases h;exact⟨rfl,rfl⟩
  ·cases h
 exact⟨this.2,fun k a _=>⟨k,by rw[this.1,a],by omega⟩⟩
theorem Br{V:Nat}{hs:List Nat}{B:Nat}(f:B<9223372036854775808){mr p:Nat}:∀(n:Nat) (R:z7) (J:z9) (m:Nat) (R':z7),Sk V hs J->J.jf=(m:Int)->J.ql<=hs.length->m+RO V hs J.from J.ql<=B->vC mr p n R J=some (R',true)->RJ R R' B
 |0,_,_,_,_,_,_,_,_,h=>by simp[vC] at h
 |n+1,R,J,m,R',g,j,u,i,h=>by
  simp only[vC] at h;cases b:dQ n J with
  |none=>rw[b] at h;simp at h
  |some x=>
   obtain⟨a,o⟩:=x;rw[b] at h;obtain⟨q,s,e,d,l⟩:=NY f g j u i b;cases o with
   |false=>
    simp only[zt,ya,and_true] at h;subst h;refine⟨rfl,fun k r v=>⟨k+e,?_,by omega⟩⟩;show IntKind.i64.wrap (R.jf+a.jf)=_;rw[r,d,IntKind.wrap_i64];omega
   |true=>
    simp only at h;cases c:addR mr R p (zF a.head a.ja) with
    |none=>rw[c] at h;simp at h
    |some y=>
     obtain⟨t,ok⟩:=y;rw[c] at h;cases ok with
     |false=>simp at h
     |true=>
      have:=(AO c).trans (Br f n t a e R' q d s l h);exact this.mono (by omega)
def Rt(r:zr):List Nat:=(List.range r.vars).map fun p=>(xb r p).length
theorem CI{V:Nat}{r:zr}(m:r.vars<=5){b Ns:List zi}(g:∀T∈b,T.qf<=V){p n:Nat}(k:R0 V (Rt r)<9223372036854775808)(h:vC mr p n R (xr r b Ns)=some (R',true)):RJ R R' (R0 V (Rt r)):=by
 obtain⟨c,l,j⟩:=eO r b Ns;have f:c=-1∨c=0:=by rw[j];split<;>(try split)<;>simp
 rw[l] at h;have a:(Rt r).length=r.vars:=by simp[Rt]
 refine Br (V:=V) (hs:=Rt r) k n R _ 0 R' ⟨fun i=>?_,fun q d=>?_,a.symm,by omega,fun q d=>?_,?_,rfl⟩ rfl ?_ ?_ h
 ·show((b.map fun T=>(⟨T,[0,0,0]⟩:yK)).getD i yK.zero).rows.qf<=V;by_cases e:i<b.length
  ·rw[QB _ (by simpa using e),uM];exact g _ (zs e)
  ·rw[gs,kF (by simpa using e)];exact zv _
 ·show(((List.range 5).map (xb r)).getD q []).length=_;rw[a] at d;rw[QB _ (by simp;omega),QB _ (by omega)];simp[Rt]
 ·show((List.range 5).map fun p=>xy r (p:Nat)).getD q 0<_;rw[a] at d;rw[QB _ (by simp;omega)];simp only[uM,mp];exact(pV r (by omega)).1
 ·show xy r r.vars<_;rw[a];exact(pV r (by omega)).1
 ·show c<=_;omega
 ·show 0+RO V (Rt r) [0,0,0,0,0] c<=_;rcases f with rfl|rfl
  ·simp[RO]
  ·have:=D4 V (Rt r) [0,0,0,0,0];simpa [RO] using this
def qO(V:Nat)(r:zr):Nat:=r.qc.length*R0 V (Rt r)
structure S3 (r:zr):Prop where
 five:r.vars<=5
 none:r.qc=[]->r.vars=0
structure S4 (V:Nat) (W:zX):Prop where
 rule:S3 W.rule
 len:W.qm.length=W.rule.qc.length
 wide:∀v∈W.qm,v.before.qf<=V/\v.qo.qf<=V/\v.all.qf<=V
theorem i9{V a g mr:Nat}{W:zX}(b:S4 V W)(d:R0 V (Rt W.rule)<9223372036854775808):∀(n i:Nat) (R R':z7),jA a g mr W n i R=some (R',true)->RJ R R' (n*R0 V (Rt W.rule))
 |0,i,R,R',h=>by
  simp only[jA,zt,ya,and_true] at h;subst h;exact(RJ.refl R).mono (by omega)
 |n+1,i,R,R',h=>by
  have e:(n+1)*R0 V (Rt W.rule)=R0 V (Rt W.rule)+n*R0 V (Rt W.rule):=by rw[hY,Nat.one_mul];omega
  rw[e];simp only[jA] at h;split at h
  ·cases c:vC mr W.rule.head.pred a R (xr W.rule (QP W.qm i) (qV g R W.rule)) with
   |none=>rw[c] at h;simp at h
   |some x=>
    obtain⟨o,ok⟩:=x;rw[c] at h;cases ok with
    |false=>simp at h
    |true=>
     refine(CI b.rule.five (fun T f=>?_) d c).trans (i9 b d n (i+1) o R' h);unfold QP at f;obtain⟨⟨v,j⟩,m,rfl⟩:=zy.1 f;obtain⟨k,p,l⟩:=b.wide v (List.fst_mem_of_mem_zipIdx m);simp only;split
     ·exact k
     ·split
      ·exact p
      ·exact l
  ·exact(i9 b d n (i+1) R R' h).mono (by omega)
theorem GQ{V c i:Nat}{W:zX}(b:S4 V W)(j:qO V W.rule<9223372036854775808){first:Bool}(h:kJ c i mr first R W=some (R',true)):RJ R R' (qO V W.rule):=by
 have g:R0 V (Rt W.rule)<=qO V W.rule:=by
  unfold qO;cases d:W.rule.qc with
  |nil=>simp[Rt,b.rule.none d,R0]
  |cons a l=>
   have:1*R0 V (Rt W.rule)<=(a::l).length*R0 V (Rt W.rule):=d8 _ (by simp);omega
 unfold kJ at h;split at h
 ·refine(CI b.rule.five (fun T e=>?_) (by omega) h).mono g;obtain⟨v,f,rfl⟩:=zy.1 e;exact(b.wide v f).2.2
 ·rw[b.len] at h;exact i9 b (by omega) _ 0 R R' h
theorem BO{V a e mr:Nat}{first:Bool}:∀(b:List zX) (R R':z7),(∀W∈b,S4 V W)->(b.map fun W=>qO V W.rule).sum<9223372036854775808->ky a e mr first b R=some (R',true)->RJ R R' (b.map fun W=>qO V W.rule).sum
 |[],R,R',_,_,h=>by
  simp only[ky,zt,ya,and_true] at h;subst h;exact RJ.refl R
 |W::b,R,R',d,f,h=>by
  simp only[xI,vQ] at f ⊢;simp only[ky] at h;cases c:kJ a e mr first R W with
  |none=>rw[c] at h;simp at h
  |some x=>
   obtain⟨g,ok⟩:=x;rw[c] at h;cases ok with
   |false=>simp at h
   |true=>exact(GQ (d W (by simp)) (by omega) c).trans (BO b g R' (fun X i=>d X (by simp[i])) (by omega) h)
end
theorem Mw(T:zi)(a v m:Nat):(gK T a v m).1.qf=T.qf:=by
 unfold gK;split
 ·rfl
 ·exact nI _ _ _ _
theorem De(m:Nat):∀(r:zm) (T:zi) (a l:Nat),(vn m T a l r).1.qf=T.qf
 |[],_,_,_=>rfl
 |v::r,T,a,l=>by
  simp only[vn];split
  ·exact Mw _ _ _ _
  ·rw[De m r];unfold qb;split
   ·rfl
   ·exact nI _ _ _ _
theorem wk:∀(rs:List zm) (T a:zi),xz rs T=some a->a.qf=T.qf
 |[],T,a,h=>by simp[xz] at h;rw[h]
 |r::rs,T,a,h=>by
  simp only[xz] at h;split at h
  ·rw[wk rs _ a h];unfold addP;split
   ·exact De 0 r T 0 0
   ·rfl
  ·cases h
def SE(V:Nat)(v:yA):Prop:=v.before.qf<=V/\v.qo.qf<=V/\v.all.qf<=V
theorem BG{d e:Nat}{v v':yA}{c:List zm}(g:SE (zM e) v)(h:dN d e v c=some v'):SE (zM e) v':=by
 unfold dN at h;split at h
 ·cases h
 ·split at h
  ·rename_i b f a i j k;cases h;refine⟨?_,?_,?_⟩
   ·show b.qf<=_;rw[wk _ _ _ i];exact g.1
   ·show f.qf<=_;rw[wk _ _ _ j];exact zg _
   ·show a.qf<=_;rw[wk _ _ _ k];exact g.2.2
  ·cases h
theorem Bt{a f:Nat}{R:z7}:∀(b:List zu) (vs:List yA),gW a f R b=some vs->vs.length=b.length/\∀v∈vs,SE (zM f) v
 |[],vs,h=>by simp[gW] at h;subst h;simp
 |l::b,vs,h=>by
  simp only[gW] at h;split at h
  ·cases h
  ·split at h
   ·rename_i v c i e;cases h;obtain⟨g,j⟩:=Bt b c e;refine⟨by simp[g],fun u d=>?_⟩;rcases zx.1 d with rfl|d
    ·exact BG ⟨zg _,zg _,zg _⟩ i
    ·exact j u d
   ·cases h
theorem oB{b c:Nat}{R:z7}{s:Nat}:∀(rs:List zr) (a:List zX),(∀r∈rs,S3 r)->QZ b c R s rs=some a->(∀W∈a,S4 (zM c) W)/\(a.map fun W=>qO (zM c) W.rule).sum<=(rs.map (qO (zM c))).sum
 |[],a,_,h=>by simp[QZ] at h;subst h;simp
 |r::rs,a,i,h=>by
  simp only[QZ] at h;simp only[xI,vQ];split at h
  ·split at h
   ·rename_i vs e m j;cases h;obtain⟨d,n⟩:=oB rs e (fun x g=>i x (by simp[g])) j;obtain⟨l,k⟩:=Bt r.qc vs m;refine⟨fun W f=>?_,?_⟩
    ·rcases zx.1 f with rfl|f
     ·exact⟨i r (by simp),l,k⟩
     ·exact d W f
    ·simp only[xI,vQ];omega
   ·cases h
  ·obtain⟨d,n⟩:=oB rs a (fun x g=>i x (by simp[g])) h;exact⟨d,by omega⟩
theorem C2{c f:Nat}{k:List (List zm)}:∀(vs a:List yA),(∀v∈vs,SE (zM f) v)->dJ c f k vs=some a->a.length=vs.length/\∀v∈a,SE (zM f) v
 |[],a,_,h=>by simp[dJ] at h;subst h;simp
 |v::vs,a,e,h=>by
  simp only[dJ] at h;split at h
  ·rename_i m g d j;cases h;obtain⟨i,l⟩:=C2 vs g (fun u b=>e u (by simp[b])) j;refine⟨by simp[i],fun u b=>?_⟩;rcases zx.1 b with rfl|b
   ·split at d
    ·exact BG (e v (by simp)) d
    ·cases d;exact e _ (by simp)
   ·exact l u b
  ·cases h
theorem Dg{d c:Nat}{n:List (List zm)}:∀(b a:List zX),(∀W∈b,S4 (zM c) W)->g7 d c n b=some a->(∀W∈a,S4 (zM c) W)/\(a.map fun W=>qO (zM c) W.rule).sum=(b.map fun W=>qO (zM c) W.rule).sum
 |[],a,_,h=>by simp[g7] at h;subst h;simp
 |W::b,a,i,h=>by
  simp only[g7] at h;split at h
  ·rename_i q e m o;cases h;obtain⟨j,r⟩:=Dg b e (fun u p=>i u (by simp[p])) o;have f:=i W (by simp);obtain⟨k,l⟩:=C2 _ _ f.wide m;refine⟨fun X g=>?_,by simp[r]⟩;rcases zx.1 g with rfl|g
   ·exact⟨f.rule,k.trans f.len,l⟩
   ·exact j X g
  ·cases h
def SB(C:Nat)(R:z7):Prop:=∃k:Nat,R.jf=(k:Int)/\k<=R.qw*C
theorem Bn{d mr mx C:Nat}(r:mx<=1048576)(q:1048576*C<9223372036854775808):∀(n:Nat) (first:Bool) (a:List zX) (R R':z7),(∀W∈a,S4 (zM d) W)->(a.map fun W=>qO (zM d) W.rule).sum<=C->SB C R->kR d mr mx n first a R=some (R',true)->SB C R'/\R'.qw<=mx
 |0,_,_,_,_,_,_,_,h=>by simp[kR] at h
 |n+1,first,a,R,R',j,l,⟨k,o,w⟩,h=>by
  simp only[kR] at h;split at h
  ·cases h
  ·rename_i v;unfold nE at h;cases e:ky n d mr first a (qs {R with qw:=R.qw+1}) with
   |none=>rw[e] at h;simp at h
   |some x=>
    obtain⟨c,ok⟩:=x;rw[e] at h;cases ok with
    |false=>simp at h
    |true=>
     have t:(R.qw+1)*C<=1048576*C:=d8 _ (by omega);have y:(R.qw+1)*C=R.qw*C+C:=by rw[hY,Nat.one_mul]
     obtain⟨f,p⟩:=(BO a _ c j (by omega) e).mono l;have f:c.qw=R.qw+1:=f;obtain⟨m,u,z⟩:=p k o (by omega);have i:SB C c:=⟨m,u,by rw[f];omega⟩;simp only at h;cases g:g7 n d c.qo a with
     |none=>rw[g] at h;simp at h
     |some b=>
      rw[g] at h;simp only[jy] at h;obtain⟨s,A⟩:=Dg a b j g;split at h
      ·exact Bn r q n false b c R' s (by omega) i h
      ·cases h;exact⟨i,by omega⟩
theorem Ey{a f mr mx C:Nat}(k:mx<=1048576)(g:1048576*C<9223372036854775808){rs:List zr}(l:∀r∈rs,S3 r)(m:(rs.map (qO (zM f))).sum<=C):∀(n s:Nat) (R R':z7),SB C R->R.qw<=mx->ku a f mr mx rs n s R=some (R',true)->SB C R'/\R'.qw<=mx
 |0,s,R,R',c,e,h=>by simp only[ku,zt,ya,and_true] at h;subst h;exact⟨c,e⟩
 |n+1,s,R,R',c,e,h=>by
  simp only[ku] at h;cases b:nS a f mr mx rs R s with
  |none=>rw[b] at h;simp at h
  |some x=>
   obtain⟨d,ok⟩:=x;rw[b] at h;cases ok with
   |false=>simp at h
   |true=>
    have j:SB C d/\d.qw<=mx:=by
     unfold nS at b;split at b
     ·cases b
     ·rename_i i p;obtain⟨o,q⟩:=oB rs i l p;split at b
      ·exact Bn k g a true i R d o (by omega) c b
      ·cases b;exact⟨c,e⟩
    exact Ey k g l m n (s+1) d R' j.1 j.2 h
theorem D6{mr:Nat}:∀(fs:List jx) (R R':z7),kM mr fs R=some (R',true)->RJ R R' 0
 |[],R,R',h=>by simp only[kM,zt,ya,and_true] at h;subst h;exact RJ.refl R
 |f::fs,R,R',h=>by
  simp only[kM] at h;cases a:addR mr R f.pred f.row with
  |none=>rw[a] at h;simp at h
  |some x=>
   obtain⟨b,ok⟩:=x;rw[a] at h;cases ok with
   |false=>simp at h
   |true=>exact(AO a).trans (D6 fs b R' h)
theorem Je{a mr mx:Nat}{S:jw}{R:z7}(m:mx<=1048576)(g:∀r∈S.rules,S3 r)(j:1048576*(S.rules.map (qO (zM S.qf))).sum<9223372036854775808)(h:m5 a S mr mx=some (some R)):0<=R.jf:=by
 unfold m5 at h;cases b:kM mr S.facts (ft S) with
 |none=>rw[b] at h;simp at h
 |some x=>
  obtain⟨d,ok⟩:=x;rw[b] at h;cases ok with
  |false=>simp at h
  |true=>
   obtain⟨f,n⟩:=D6 _ _ _ b;obtain⟨k,i,p⟩:=n 0 rfl (by omega);have f:d.qw=0:=f;simp only at h;cases c:ku a S.qf mr mx S.rules S.qj.length 0 d with
   |none=>rw[c] at h;simp at h
   |some y=>
    obtain⟨l,ok⟩:=y;rw[c] at h;cases ok with
    |false=>simp at h
    |true=>
     simp only[jy,if_true,zt] at h;subst h;obtain⟨⟨o,e,_⟩,_⟩:=Ey m j g (zg _) _ 0 d l ⟨k,i,by omega⟩ (by omega) c;omega
end Go.Proofs.YteampbddflhngaaGreat
