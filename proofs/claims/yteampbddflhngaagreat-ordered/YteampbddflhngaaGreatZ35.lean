import Derived.Test.YteampbddflhngaaGreatZ33
namespace Go.Proofs.YteampbddflhngaaGreat
set_option linter.all false
open Classical
section
variable {cs:List zd}{t:List zh}{L:List zE}
def ua(fs l:List zE)(f:zE):List zE:=if (yP f.1 f.2.1 fs).isSome=true∨(yP f.1 f.2.1 l).isSome=true then l else l++[f]
theorem tF{fs:List zE}{k:Nat}:∀(d l:List zE),(∀g∈d,g.2.2=k)->(∀g∈l,g.2.2=k)->l.Nodup->(∀g∈l,¬∃m,(g.1,g.2.1,m)∈fs)->(d.foldl (ua fs) l).Nodup/\∀f,f∈d.foldl (ua fs) l↔f∈l∨(f∈d/\¬∃m,(f.1,f.2.1,m)∈fs)
 |[],l,_,_,o,_=>⟨o,fun f=>by simp⟩
 |g::d,l,u,p,o,v=>by
  have w:=u g (by simp);have n:∀g∈d,g.2.2=k:=fun x j=>u x (by simp[j]);rw[ut];by_cases q:(∃m,(g.1,g.2.1,m)∈fs)∨∃m,(g.1,g.2.1,m)∈l
  ·rw[show ua fs l g=l from zc (q.imp pz.2 pz.2)];obtain⟨r,s⟩:=tF d l n p o v;refine⟨r,fun f=>(s f).trans ⟨fun h=>h.imp_right fun h=>⟨by simp[h.1],h.2⟩,fun h=>?_⟩⟩;rcases h with h|⟨c,i⟩
   ·exact zf h
   ·rcases zx.1 c with rfl|c
    ·rcases q with q|⟨m,q⟩
     ·exact zC q i
     ·have:f=(f.1,f.2.1,m):=Prod.ext rfl (Prod.ext rfl (w.trans (p _ q).symm));exact zf (by rw[this];exact q)
    ·exact zb ⟨c,i⟩
  ·rw[show ua fs l g=l++[g] from za fun z=>q (z.imp pz.1 pz.1)];have y:¬∃m,(g.1,g.2.1,m)∈fs:=fun z=>q (zf z);have C:g∉l:=fun z=>q (zb ⟨g.2.2,z⟩);obtain⟨r,s⟩:=tF d (l++[g]) n (fun x j=>by
    rcases zI.1 j with z|z
    ·exact p x z
    ·rw[xF.1 z];exact w) (qq.2 ⟨o,by simp,fun a B b A e=>by rw[xF.1 A] at e;exact C (e ▸ B)⟩) (fun x j=>by
    rcases zI.1 j with z|z
    ·exact v x z
    ·rw[xF.1 z];exact y)
   refine⟨r,fun f=>(s f).trans ⟨fun h=>?_,fun h=>?_⟩⟩
   ·rcases h with h|⟨c,i⟩
    ·rcases zI.1 h with z|z
     ·exact zf z
     ·rw[xF.1 z];exact zb ⟨by simp,y⟩
    ·exact zb ⟨by simp[c],i⟩
   ·rcases h with h|⟨c,i⟩
    ·exact zf (List.mem_append_left _ h)
    ·rcases zx.1 c with rfl|c
     ·exact zf (by simp)
     ·exact zb ⟨c,i⟩
def xB(fs:List zE)(k:Nat)(a:List zd)(l:List zE):List zE:=a.foldl (fun l c=>(ye fs c.head c.body c.body []).foldl (fun l r=>ua fs l (c.head.pred,r,k)) l) l
theorem AI(fs:List zE)(k:Nat):∀(a:List zd) (l:List zE),xB fs k a l=(a.flatMap fun c=>(ye fs c.head c.body c.body []).map fun r=>(c.head.pred,r,k)).foldl (ua fs) l
 |[],l=>rfl
 |c::a,l=>by
  rw[uw,j7,List.foldl_map,←AI fs k a];rfl
def ym(t:List zh)(cs:List zd)(s:Nat):List zd:=cs.filter fun c=>decide (xt t c.head.pred=s/\0<c.body.length)
theorem Rv.round{t0:List zh}(w:QL cs t0 t)(q:uh cs t){D:DB}(h:Rv t (zq cs) L D)(s k:Nat):Rv t (zq cs) (L++xB L k (ym t cs s) []) (zyr ((uB t (zq cs) none cs).filter fun r=>decide (r.qh=s)) k D)/\(xB L k (ym t cs s) []=[]↔∀p x,QF (zyr ((uB t (zq cs) none cs).filter fun r=>decide (r.qh=s)) k D) p x->QF D p x):=by
 have u:∀i (hi:i<cs.length),kc (yD ((xV none i).getD [])) (zw cs[i]).length:=fun i hi=>pS (lm (w.many _ (zs hi)));have Q:=o7 w (zq cs) none u s D;generalize (uB t (zq cs) none cs).filter (fun r=>decide (r.qh=s))=M at *;have P:=(lf cs).1;obtain⟨n1,V⟩:(xB L k (ym t cs s) []).Nodup/\∀f,f∈xB L k (ym t cs s) []↔(∃c∈cs,xt t c.head.pred=s/\0<c.body.length/\∃x,pn L c x/\f=(c.head.pred,x,k))/\¬∃m,(f.1,f.2.1,m)∈L:=by
  rw[AI];obtain⟨i1,i2⟩:=tF (fs:=L) (k:=k) ((ym t cs s).flatMap fun c=>(ye L c.head c.body c.body []).map fun r=>(c.head.pred,r,k)) [] (fun g B=>by
   obtain⟨c,_,B⟩:=uJ.1 B;obtain⟨r,_,rfl⟩:=zy.1 B;rfl) (fun g B=>by cases B) List.nodup_nil (fun g B=>by cases B)
  refine⟨i1,fun f=>(i2 f).trans ?_⟩;simp only[ff,false_or];refine and_congr_left fun _=>?_;rw[uJ];constructor
  ·rintro⟨c,n,C⟩;obtain⟨H,G⟩:=uS.1 n;obtain⟨r,J,rfl⟩:=zy.1 C;have G:=of_decide_eq_true G;exact⟨c,H,G.1,G.2,r,(AA (h.fs q) H (q.ne H) (q.cov c H)).1 J,rfl⟩
  ·rintro⟨c,n,H,G,r,J,rfl⟩;exact⟨c,uS.2 ⟨n,decide_eq_true ⟨H,G⟩⟩,zy.2 ⟨r,(AA (h.fs q) n (q.ne n) (q.cov c n)).2 J,rfl⟩⟩
 generalize xB L k (ym t cs s) []=l at *;have o:∀p r,jp M D p r->∃c∈cs,xt t c.head.pred=s/\0<c.body.length/\p=zP t c.head.pred/\pn L c (ug (zq cs) r (uK t p) 3)/\fz t p=c.head.pred/\p<t.length/\QN (uK t p) r/\∀i,i<uK t p->r.getD i 0<(zq cs).length:=by
  intro p r j;obtain⟨c,n,E,K,rfl,S⟩:=(Q p r).1 j;obtain⟨U,I,W,l4⟩:=q.lit c n c.head (by simp[zk]);obtain⟨d1,d2,d3⟩:=h.der1 q n S;exact⟨c,n,K,E,rfl,by rw[I];exact d1,W,U,by rw[I];exact d2,by rw[I];exact d3⟩
 have y:∀p r,D p r=none->jp M D p r->(fz t p,ug (zq cs) r (uK t p) 3,k)∈l:=by
  intro p r d j;obtain⟨c,n,K,E,ab,S,X,u,N,T⟩:=o p r j;refine(V _).2 ⟨⟨c,n,K,E,_,S,by rw[X]⟩,fun⟨m,hm⟩=>?_⟩;obtain⟨p',aa,O,m',R,e⟩:=(h.mem _).1 hm;simp only[ya] at e;have:p=p':=by rw[←(fj q.rise u).1,←(fj q.rise aa).1,e.1]
  subst this;have hI:QF D p O:=by unfold QF;rw[R];rfl
  have e1:=nT P (q.small p u) N T;have Z:=nT P (q.small p u) (h.ok p O hI).2 (h.inside p O hI);rw[e.2.1] at e1;change fZ (zq cs) (ug (zq cs) O (uK t p) 3) 0 [0,0,0]=some O at Z;rw[e1,zt] at Z;rw[Z,R] at d;cases d
 have A:∀f∈l,∃p,p<t.length/\∃r,D p r=none/\jp M D p r/\f=(fz t p,ug (zq cs) r (uK t p) 3,k):=by
  intro f C;obtain⟨⟨c,n,K,E,x,S,rfl⟩,Y⟩:=(V f).1 C;obtain⟨r,J,rfl⟩:=h.der2 q n S;have hh:c.head∈zk c:=by simp[zk]
  obtain⟨U,I,W,l4⟩:=q.lit c n c.head hh;refine⟨zP t c.head.pred,U,r,?_,(Q _ r).2 ⟨c,n,E,K,rfl,J⟩,by rw[I,W]⟩;cases d:D (zP t c.head.pred) r with
  |none=>rfl
  |some m=>exact zC ⟨m,(h.lit q n hh _ m).2 ⟨r,d,rfl⟩⟩ Y
 have F:∀p r,QF (zyr M k D) p r->QF D p r∨(D p r=none/\jp M D p r):=by
  intro p r j;unfold QF zyr at j;cases d:D p r with
  |some m=>exact zf (by unfold QF;rw[d];rfl)
  |none=>
   rw[d] at j;simp only at j;split at j
   ·rename_i z;exact zb ⟨rfl,z⟩
   ·cases j
 refine⟨⟨fun f=>?_,qq.2 ⟨h.once,n1,fun a ha b E e=>?_⟩,fun p r j=>?_,fun p r j=>?_⟩,fun e p r j=>?_,fun e=>?_⟩
 ·rw[zI];constructor
  ·rintro(C|C)
   ·obtain⟨p,w,r,m,d,rfl⟩:=(h.mem f).1 C;exact⟨p,w,r,m,JP d,rfl⟩
   ·obtain⟨p,w,r,d,j,rfl⟩:=A f C;refine⟨p,w,r,k,?_,rfl⟩;unfold zyr;rw[d];exact zc j
  ·rintro⟨p,w,r,m,d,rfl⟩;unfold zyr at d;cases v:D p r with
   |some m'=>
    rw[v] at d;cases d;exact zf ((h.mem _).2 ⟨p,w,r,m,v,rfl⟩)
   |none=>
    rw[v] at d;simp only at d;split at d
    ·rename_i z;cases d;exact zb (y p r v z)
    ·cases d
 ·subst e;exact((V a).1 E).2 ⟨a.2.2,ha⟩
 ·rcases F p r j with z|⟨_,z⟩
  ·exact h.ok p r z
  ·obtain⟨c,_,_,_,_,_,_,q1,q2,_⟩:=o p r z;exact⟨by simpa using q1,q2⟩
 ·rcases F p r j with z|⟨_,z⟩
  ·exact h.inside p r z
  ·obtain⟨c,_,_,_,_,_,_,q1,q2,q3⟩:=o p r z;exact q3
 ·rcases F p r j with z|⟨z1,z2⟩
  ·exact z
  ·have:=y p r z1 z2;rw[e] at this;cases this
 ·cases l with
  |nil=>rfl
  |cons f l=>
   obtain⟨p,_,r,d,j,_⟩:=A f (by simp);have:=e p r (En p r j);unfold QF at this;rw[d] at this;cases this
theorem Rv.card(u:uh cs t){D:DB}(h:Rv t (zq cs) L D):hU D L.length:=by
 have s:=(lf cs).1;have d:=fun p r (i:QF D p r)=>nT s (u.small p (by have:=(h.ok p r i).1;simpa using this)) (h.ok p r i).2 (h.inside p r i);have c:∀f∈L,∃p r m,D p r=some m/\f=(fz t p,ug (zq cs) r (uK t p) 3,m)/\(zP t f.1,(fZ (zq cs) f.2.1 0 [0,0,0]).getD [])=(p,r):=by
  intro f o;obtain⟨p,n,r,m,l,rfl⟩:=(h.mem f).1 o;exact⟨p,r,m,l,rfl,by rw[(fj u.rise n).1,d p r (by unfold QF;rw[l];rfl)];rfl⟩
 refine⟨L.map fun f=>(zP t f.1,(fZ (zq cs) f.2.1 0 [0,0,0]).getD []),?_,fun p x=>?_,by simp⟩
 ·rw[n4,lI];have:=h.once;rw[n4] at this;refine this.imp_of_mem fun{a b} C w q e=>q ?_;obtain⟨p,r,m,l,E,y⟩:=c a C;obtain⟨v,A,B,j,k,g⟩:=c b w;rw[y,g] at e;cases e;rw[j] at l;cases l;rw[E,k]
 ·rw[zy];constructor
  ·rintro⟨f,o,e⟩;obtain⟨v,A,B,j,k,g⟩:=c f o;rw[g] at e;cases e;unfold QF;rw[j];rfl
  ·intro i;obtain⟨m,z⟩:=my.1 i;have n:p<t.length:=by have:=(h.ok p x i).1;simpa using this
   refine⟨_,(h.mem _).2 ⟨p,n,x,m,z,rfl⟩,?_⟩;rw[(fj u.rise n).1,d p x i];rfl
theorem Rv.small(a:uh cs t){D:DB}(h:Rv t (zq cs) L D)(mr:Nat):lD D mr↔L.length<=mr:=
 ⟨fun⟨n,c,b⟩=>by rw[←B7 b (h.card a)];exact c,fun q=>⟨_,q,h.card a⟩⟩
end
section
variable {t:List zh}{cs:List zd}
noncomputable def z0y(t:List zh)(cs:List zd)(mr s:Nat):Nat->Nat->List zE->Option (List zE×Nat)
 |0,_,_=>none
 |left+1,k,L=>
  if (L++xB L (k+1) (ym t cs s) []).length<=mr then
   if xB L (k+1) (ym t cs s) []=[] then some (L++xB L (k+1) (ym t cs s) [],k+1)
   else z0y t cs mr s left (k+1) (L++xB L (k+1) (ym t cs s) [])
  else none
noncomputable def zyz(t:List zh)(cs:List zd)(mr mx:Nat):Nat->Nat->Nat->List zE->Option (List zE×Nat)
 |0,_,k,L=>some (L,k)
 |n+1,s,k,L=>
  if ym t cs s=[] then zyz t cs mr mx n (s+1) k L
  else match z0y t cs mr s (mx-k) k L with
   |none=>none
   |some (L',k')=>zyz t cs mr mx n (s+1) k' L'
def xC(cs:List zd):List zE:=((cs.filter fun c=>decide (c.body.length=0)).map fun c=>(c.head.pred,c.head.args,0)).foldl (ua []) []
noncomputable def yly(t:List zh)(cs:List zd)(mr mx:Nat):Option (List zE×Nat):=if (xC cs).length<=mr then zyz t cs mr mx t.length 0 0 (xC cs) else none
def ev(t:List zh)(ns:κ):Option (List zE×Nat)->Option (DB×Nat)->Prop
 |none,none=>True
 |some (L,k),some (D,e)=>k=e/\Rv t ns L D
 |_,_=>False
theorem CY{cs:List zd}{f t:List zh}(c:QL cs f t)(b:uh cs t)(mr s:Nat):∀(left k:Nat) (L:List zE) (D:DB),Rv t (zq cs) L D->ev t (zq cs) (z0y t cs mr s left k L) (zya ((uB t (zq cs) none cs).filter fun r=>decide (r.qh=s)) mr left k D)
 |0,k,L,D,h=>trivial
 |left+1,k,L,D,h=>by
  obtain⟨a,e⟩:=h.round c b s (k+1);have d:=a.small b mr;unfold z0y zya;by_cases q:(L++xB L (k+1) (ym t cs s) []).length<=mr
  ·rw[zc q,zc (d.2 q)];by_cases z:xB L (k+1) (ym t cs s) []=[]
   ·rw[zc z,zc (e.1 z)];exact⟨rfl,a⟩
   ·rw[za z,za fun y=>z (e.2 y)];exact CY c b mr s left (k+1) _ _ a
  ·rw[za q,za fun y=>q (d.1 y)];trivial
theorem B5{s:Nat}:ym t cs s=[]↔¬∃c∈cs,0<c.body.length/\xt t c.head.pred=s:=by
 unfold ym;rw[List.filter_eq_nil_iff];exact⟨fun h ⟨c,a,b,d⟩=>h c a (decide_eq_true ⟨d,b⟩),fun h c a q=>h ⟨c,a,(of_decide_eq_true q).2,(of_decide_eq_true q).1⟩⟩
theorem eM{cs:List zd}{j t:List zh}(c:QL cs j t)(e:uh cs t)(mr mx:Nat):∀(n s k:Nat) (L:List zE) (D:DB),Rv t (zq cs) L D->ev t (zq cs) (zyz t cs mr mx n s k L) (zyg (uB t (zq cs) none cs) mr mx n s k D)
 |0,s,k,L,D,h=>⟨rfl,h⟩
 |n+1,s,k,L,D,h=>by
  unfold zyz zyg;by_cases q:ym t cs s=[]
  ·rw[zc q,zc ((Cf cs s).2 (B5.1 q))];exact eM c e mr mx n (s+1) k L D h
  ·rw[za q,za fun z=>q (B5.2 ((Cf cs s).1 z))];have a:=CY c e mr s (mx-k) k L D h;cases d:z0y t cs mr s (mx-k) k L with
   |none=>
    cases b:zya ((uB t (zq cs) none cs).filter fun r=>decide (r.qh=s)) mr (mx-k) k D with
    |none=>trivial
    |some y=>rw[d,b] at a;exact a.elim
   |some x=>
    cases b:zya ((uB t (zq cs) none cs).filter fun r=>decide (r.qh=s)) mr (mx-k) k D with
    |none=>rw[d,b] at a;exact a.elim
    |some y=>
     rw[d,b] at a;obtain⟨i,f⟩:=x;obtain⟨g,l⟩:=y;obtain⟨rfl,a⟩:=a;exact eM c e mr mx n (s+1) f i g a
theorem tT(g:uh cs t){c:zd}(f:c∈cs)(j:c.body.length=0):ug (zq cs) (vP t (zq cs) c).row c.head.args.length 3=c.head.args/\QN c.head.args.length (vP t (zq cs) c).row/\∀i,i<c.head.args.length->(vP t (zq cs) c).row.getD i 0<(zq cs).length:=by
 have b:c.head∈zk c:=by simp[zk]
 have o:∀k,([0,0,0,0,0]:List Nat).getD k 0<5:=by
  intro k;rcases k with _|_|_|_|_|k<;>simp
 have h:=mF.1 j;have e:∀v,v∉zw c:=by
  intro v d;rw[gO,h] at d;obtain⟨_,l,m,_⟩:=d;cases m
 unfold vP;rw[sa t (zq cs) [] o];refine⟨?_,g.can f (fun v d=>zC d (e v)) c.head b⟩;rw[sy f b (g.lit c f c.head b).2.2.2];unfold Rb;conv=>rhs;rw[←List.map_id c.head.args]
 refine kT fun a n=>?_;rw[za fun d=>e a (g.cov c f c.head b a n d)];rfl
theorem Cj(d:uh cs t):Rv t (zq cs) (xC cs) (zzv (vB t (zq cs) cs)):=by
 have q:∀p x,zzv (vB t (zq cs) cs) p x=if ∃c∈cs,c.body.length=0/\p=zP t c.head.pred/\(vP t (zq cs) c).row=x then some 0 else none:=by
  intro p x;unfold zzv;congr 1;apply propext;unfold vB;simp only[zy,uS];constructor
  ·rintro⟨f,⟨c,⟨a,b⟩,rfl⟩,w,s⟩;exact⟨c,a,by simpa using b,w.symm,s⟩
  ·rintro⟨c,a,b,w,s⟩;exact⟨_,⟨c,⟨a,by simp[b]⟩,rfl⟩,w.symm,s⟩
 have j:∀p x,QF (zzv (vB t (zq cs) cs)) p x->∃c∈cs,c.body.length=0/\p=zP t c.head.pred/\(vP t (zq cs) c).row=x:=by
  intro p x h;unfold QF at h;rw[q] at h;split at h
  ·assumption
  ·cases h
 obtain⟨A,y⟩:=tF (fs:=[]) (k:=0) ((cs.filter fun c:zd=>decide (c.body.length=0)).map fun c:zd=>((c.head.pred,c.head.args,0):zE)) [] (fun g n=>by
  obtain⟨c,_,rfl⟩:=zy.1 n;rfl) (fun g n=>by cases n) List.nodup_nil (fun g n=>by cases n)
 refine⟨fun f=>(y f).trans ?_,A,fun p x h=>?_,fun p x h=>?_⟩
 ·simp only[ff,false_or,exists_false,not_false_eq_true,and_true,zy,uS,decide_eq_true_eq];constructor
  ·rintro⟨c,⟨a,b⟩,rfl⟩;obtain⟨l,e,o,v⟩:=d.lit c a c.head (by simp[zk]);exact⟨_,l,(vP t (zq cs) c).row,0,by rw[q];exact zc ⟨c,a,b,rfl,rfl⟩,by rw[e,o,(tT d a b).1]⟩
  ·rintro⟨p,B,r,m,u,rfl⟩;have z:QF (zzv (vB t (zq cs) cs)) p r:=by unfold QF;rw[u];rfl
   obtain⟨c,a,b,rfl,rfl⟩:=j p r z;rw[q,zc ⟨c,a,b,rfl,rfl⟩] at u;cases u;obtain⟨l,e,o,v⟩:=d.lit c a c.head (by simp[zk]);exact⟨c,⟨a,b⟩,by rw[e,o,(tT d a b).1]⟩
 ·obtain⟨c,a,b,rfl,rfl⟩:=j p x h;obtain⟨l,e,o,v⟩:=d.lit c a c.head (by simp[zk]);refine⟨by simpa using l,?_⟩;change QN (uK t _) _;rw[e];exact(tT d a b).2.1
 ·obtain⟨c,a,b,rfl,rfl⟩:=j p x h;obtain⟨l,e,o,v⟩:=d.lit c a c.head (by simp[zk]);change ∀i,i<uK t _->_;rw[e];exact(tT d a b).2.2
theorem GH{f:List zh}(d:QL cs f t)(b:uh cs t)(mr mx:Nat):ev t (zq cs) (yly t cs mr mx) (z1m (vj t (zq cs) none cs) mr mx):=by
 have h:=Cj b;have c:=h.small b mr;unfold yly z1m;have e:(vj t (zq cs) none cs).qj.length=t.length:=by simp[vj]
 rw[e];by_cases q:(xC cs).length<=mr
 ·rw[zc q];have a:lD (zzv (vj t (zq cs) none cs).facts) mr:=c.2 q;rw[zc a];exact eM d b mr mx _ 0 0 _ _ h
 ·rw[za q];have a:¬lD (zzv (vj t (zq cs) none cs).facts) mr:=fun y=>q (c.1 y);rw[za a];trivial
end
section
variable {cs:List zd}{t:List zh}
theorem ez{α β:Type}(f:α->List β)(m:Nat):∀(l:List α),(∀x∈l,(f x).length=m)->(l.flatMap f).length=l.length*m
 |[],_=>by simp
 |a::l,h=>by
  rw[uw,yp,ez f m l (fun x b=>h x (by simp[b])),h a (by simp),xd,Nat.succ_mul];omega
def mJ{α:Type}(ns:List α):Nat->List (List α)
 |0=>[[]]
 |k+1=>ns.flatMap fun x=>(mJ ns k).map (x::·)
theorem iw{α:Type}(ns:List α):∀k,(mJ ns k).length=ns.length ^ k
 |0=>rfl
 |k+1=>by
  unfold mJ;rw[ez _ (ns.length ^ k) ns (fun x _=>by rw[uu];exact iw ns k),Nat.pow_succ,Nat.mul_comm]
theorem iC{α:Type}{ns:List α}:∀(l:List α),(∀x∈l,x∈ns)->l∈mJ ns l.length
 |[],_=>by simp[mJ]
 |x::l,h=>by
  rw[xd];unfold mJ;exact uJ.2 ⟨x,h x (by simp),zy.2 ⟨l,iC l (fun y a=>h y (by simp[a])),rfl⟩⟩
theorem JO(b:uh cs t){L:List zE}{D:DB}(h:Rv t (zq cs) L D):L.length<=t.length*((zq cs).length+1) ^ 3:=by
 obtain⟨l,g,m,j⟩:=h.card b;rw[←j];have n:(((List.range t.length).flatMap fun p=>(mJ (List.range ((zq cs).length+1)) 3).map fun r=>(p,r))).length=t.length*((zq cs).length+1) ^ 3:=by
  rw[ez _ (((zq cs).length+1) ^ 3) _ (fun x _=>by rw[uu,iw,nW]),nW]
 rw[←n];refine lz g fun x a=>?_;obtain⟨p,r⟩:=x;have d:=(m p r).1 a;obtain⟨o,e⟩:=h.ok p r d;have f:=h.inside p r d;refine uJ.2 ⟨p,vM.2 (by simpa using o),zy.2 ⟨r,?_,rfl⟩⟩;have:=iC (ns:=List.range ((zq cs).length+1)) r (fun x b=>?_)
 ·rw[e.1] at this;exact this
 ·obtain⟨i,c,rfl⟩:=vx.1 b;rw[vM];by_cases k:i<(t.map (·.jh)).getD p 0
  ·have:=f i k;rw[List.getD,yq c,ur] at this;omega
  ·have:=e.2 i (by omega);rw[List.getD,yq c,ur] at this;omega
def vZ(fs:List zE):List zj->y5->List y5
 |[],B=>[B]
 |l::rest,B=>if l.neg=true then vZ fs rest B else fs.flatMap fun f=>if f.1=l.pred then(match xk B l.args f.2.1 with|none=>[]|some a=>vZ fs rest a) else []
theorem eo(fs:List zE)(h:zj)(body:List zj):∀(rest:List zj) (B:y5),(ye fs h body rest B).length<=(vZ fs rest B).length
 |[],B=>by
  unfold ye vZ;split<;>simp
 |l::rest,B=>by
  unfold ye vZ;split
  ·exact eo fs h body rest B
  ·have:∀a:List zE,(a.flatMap fun f=>if f.1=l.pred then(match xk B l.args f.2.1 with|none=>[]|some b=>ye fs h body rest b) else []).length<=(a.flatMap fun f=>if f.1=l.pred then(match xk B l.args f.2.1 with|none=>[]|some b=>vZ fs rest b) else []).length:=by
    intro a;induction a with
    |nil=>simp
    |cons g a c=>
     rw[uw,uw,yp,yp];refine Nat.add_le_add ?_ c;split
     ·split
      ·exact zg _
      ·exact eo fs h body rest _
     ·exact zg _
   exact this fs
def dA(body:List zj)(B:y5):List (κ):=body.map fun l=>if l.neg=true then [] else y7 B l.args
theorem eB{cs:List zd}{fs:List zE}(L:r7 cs fs){c:zd}(R:c∈cs)(F:∀l∈zk c,∀a∈l.args,a≠ByteArray.empty)(T:∀f∈fs,∀g∈fs,f.1=g.1->f.2.1=g.2.1->f=g)(Z:fs.Nodup):∀(rest done:List zj) (B:y5),c.body=done++rest->qd B->(∀l∈done,l.neg=false->∀a∈l.args,yd B a≠ByteArray.empty)->(∀k∈vZ fs rest B,qd k/\St B k/\∀l∈rest,l.neg=false->(∃m,(l.pred,y7 k l.args,m)∈fs)/\∀a∈l.args,yd k a≠ByteArray.empty)/\((vZ fs rest B).map (dA rest)).Nodup
 |[],done,B,e,O,Q=>by
  unfold vZ;refine⟨fun k d=>?_,by simp⟩;rw[xF.1 d];exact⟨O,fun v x q=>q,fun l hl=>by cases hl⟩
 |l::rest,done,B,e,O,Q=>by
  have e2:c.body=(done++[l])++rest:=by rw[e];simp
  have I:l∈zk c:=by simp[zk,e]
  unfold vZ;split
  ·rename_i i;obtain⟨K,P⟩:=eB L R F T Z rest (done++[l]) B e2 O (fun s p j=>by
    rcases zI.1 p with q|q
    ·exact Q s q j
    ·rw[xF.1 q,i] at j;cases j)
   refine⟨fun k d=>⟨(K k d).1,(K k d).2.1,fun s p j=>?_⟩,?_⟩
   ·rcases zx.1 p with rfl|q
    ·rw[i] at j;cases j
    ·exact(K k d).2.2 s q j
   ·have:(vZ fs rest B).map (dA (l::rest))=((vZ fs rest B).map (dA rest)).map ([]::·):=by
     rw[ml];refine kT fun k _=>?_;simp[dA,i]
    rw[this,n4,lI];rw[n4] at P;exact P.imp fun h q=>h (by simpa using q)
  ·rename_i i;have i:l.neg=false:=by simpa using i
   have n:∀f∈fs,f.1=l.pred->∀o,xk B l.args f.2.1=some o->(∀k∈vZ fs rest o,qd k/\St B k/\y7 k l.args=f.2.1/\(∀a∈l.args,yd k a≠ByteArray.empty)/\∀s∈rest,s.neg=false->(∃m,(s.pred,y7 k s.args,m)∈fs)/\∀a∈s.args,yd k a≠ByteArray.empty)/\((vZ fs rest o).map (dA rest)).Nodup:=by
    intro f w y o D;obtain⟨j1,j2,j3⟩:=p9 l.args f.2.1 B o (L.jh f w c R l I y.symm).symm (L.ne f w) (F l I) O D;have C:∀a∈l.args,yd o a≠ByteArray.empty:=fun a u=>by
     have:yd o a∈y7 o l.args:=zy.2 ⟨a,u,rfl⟩;rw[j3] at this;exact L.ne f w _ this
    obtain⟨K,P⟩:=eB L R F T Z rest (done++[l]) o e2 j1 (fun s p j a u=>by
     rcases zI.1 p with q|q
     ·rw[nK j2 (Q s q j a u)];exact Q s q j a u
     ·rw[xF.1 q] at u;exact C a u)
    refine⟨fun k d=>?_,P⟩;obtain⟨S,J,X⟩:=K k d;exact⟨S,j2.trans J,by rw[←j3];exact kT fun a u=>nK J (C a u),fun a u=>by rw[nK J (C a u)];exact C a u,X⟩
   refine⟨fun k d=>?_,?_⟩
   ·obtain⟨f,w,d⟩:=uJ.1 d;split at d
    ·rename_i y;split at d
     ·cases d
     ·rename_i o D;obtain⟨S,J,X,k4,k5⟩:=(n f w y o D).1 k d;refine⟨S,J,fun s p j=>?_⟩;rcases zx.1 p with rfl|q
      ·exact⟨⟨f.2.2,by rw[X,←y];exact w⟩,k4⟩
      ·exact k5 s q j
    ·cases d
   ·have W:∀G:List zE,G.Nodup->(∀g∈G,g∈fs)->((G.flatMap fun f=>if f.1=l.pred then(match xk B l.args f.2.1 with|none=>[]|some k=>vZ fs rest k) else []).map (dA (l::rest))).Nodup:=by
     intro G;induction G with
     |nil=>intro _ _;simp
     |cons g G ih=>
      intro U z;obtain⟨V,aa⟩:=qL.1 U;rw[uw,uQ,qq];have E:=z g (by simp);refine⟨?_,ih aa (fun x hx=>z x (by simp[hx])),?_⟩
      ·split
       ·rename_i y;split
        ·simp
        ·rename_i o D;obtain⟨s1,s2⟩:=n g E y o D;have:(vZ fs rest o).map (dA (l::rest))=((vZ fs rest o).map (dA rest)).map (g.2.1::·):=by
          rw[ml];refine kT fun k d=>?_;simp[dA,i,(s1 k d).2.2.1]
         rw[this,n4,lI];rw[n4] at s2;exact s2.imp fun h q=>h (by simpa using q)
       ·simp
      ·intro a u b hb H;obtain⟨A,M,rfl⟩:=zy.1 u;obtain⟨A2,r,rfl⟩:=zy.1 hb;obtain⟨f,w,r⟩:=uJ.1 r;split at M
       ·rename_i y;split at M
        ·cases M
        ·rename_i o D;split at r
         ·rename_i N;split at r
          ·cases r
          ·rename_i B2 ab;have r1:=((n g E y o D).1 A M).2.2.1;have r2:=((n f (z f (by simp[w])) N B2 ab).1 A2 r).2.2.1;have:y7 A l.args=y7 A2 l.args:=by
            simp only[dA,xI,i,mU] at H;simpa using H.1
           have Y:=T g E f (z f (by simp[w])) (y.trans N.symm) (by rw[←r1,←r2,this]);exact V (Y ▸ w)
         ·cases r
       ·cases M
    exact W fs Z (fun g W=>W)
theorem If(d:uh cs t){L:List zE}{D:DB}(h:Rv t (zq cs) L D){c:zd}(o:c∈cs):(ye L c.head c.body c.body []).length<=(zq cs).length ^ (zw c).length:=by
 refine yc (eo L c.head c.body c.body []) ?_;have Y:∀f∈L,∀g∈L,f.1=g.1->f.2.1=g.2.1->f=g:=by
  intro f hf g hg X V;obtain⟨p,F,r,m,w,rfl⟩:=(h.mem f).1 hf;obtain⟨Z,Q,u,m',A,rfl⟩:=(h.mem g).1 hg;simp only at X V;have:p=Z:=by rw[←(fj d.rise F).1,←(fj d.rise Q).1,X]
  subst this;have W:QF D p r:=by unfold QF;rw[w];rfl
  have U:QF D p u:=by unfold QF;rw[A];rfl
  have C:=nT (lf cs).1 (d.small p F) (h.ok p r W).2 (h.inside p r W);have E:=nT (lf cs).1 (d.small p F) (h.ok p u U).2 (h.inside p u U);change fZ (zq cs) (ug (zq cs) r (uK t p) 3) 0 [0,0,0]=some r at C;change fZ (zq cs) (ug (zq cs) u (uK t p) 3) 0 [0,0,0]=some u at E;rw[V,E,zt] at C;subst C;rw[A] at w;cases w;rfl
 obtain⟨h1,S⟩:=eB (h.fs d) o (d.ne o) Y h.once c.body [] [] rfl (fun v x q=>by cases q) (fun l n=>by cases n);have z:∀B∈vZ L c.body [],∀v∈zw c,yd B v∈zq cs:=by
  intro B I v k;obtain⟨T,l,n,P,M⟩:=gO.1 k;obtain⟨⟨m,O⟩,_⟩:=(h1 B I).2.2 l n P;have j:l∈zk c:=by simp[zk,n]
  obtain⟨r,w,er⟩:=(h.lit d o j _ m).1 O;obtain⟨C,E⟩:=h.can d o j (r:=r) (by unfold QF;rw[w];rfl);have:yd B v∈y7 B l.args:=zy.2 ⟨v,M,rfl⟩;rw[er] at this;simp only[ug,zy,vM] at this;obtain⟨i,hi,e⟩:=this;have h3:=(d.lit c o l j).2.2.2;rw[zc (by omega)] at e;rw[←e];exact iz (E i hi)
 have s:∀N∈vZ L c.body [],∀K∈vZ L c.body [],(zw c).map (yd N)=(zw c).map (yd K)->dA c.body N=dA c.body K:=by
  intro N _ K _ e;refine kT fun l n=>?_;split
  ·rfl
  ·rename_i P;refine kT fun a R=>?_;by_cases k:zO a=true
   ·have O:=gO.2 ⟨k,l,n,by simpa using P,R⟩;exact List.map_inj_left.1 e a O
   ·unfold yd;rw[za k,za k]
 have G:((vZ L c.body []).map fun B=>(zw c).map (yd B)).Nodup:=by
  rw[n4,lI] at S ⊢;exact S.imp_of_mem fun{a b} R hb H e=>H (s a R b hb e)
 have:=lz G (l2:=mJ (zq cs) (zw c).length) (fun x J=>by
  obtain⟨B,I,rfl⟩:=zy.1 J;have:=iC (ns:=zq cs) ((zw c).map (yd B)) (fun y hy=>by
   obtain⟨v,k,rfl⟩:=zy.1 hy;exact z B I v k)
  rw[uu] at this;exact this)
 rw[uu,iw] at this;exact this
theorem Kr{k:List zh}(e:QL cs k t)(b:uh cs t)(i:t.length<=1000)(j:(zq cs).length<=250):∀L D,Rv t (zq cs) L D->L.length<1000000000000/\∀c∈cs,(ye L c.head c.body c.body []).length<=1000000000000:=by
 intro L D h;refine⟨?_,fun c a=>?_⟩
 ·have f:=JO b h;have d:((zq cs).length+1) ^ 3<=251 ^ 3:=Nat.pow_le_pow_left (by omega) 3;have g:=Nat.mul_le_mul i d;have m:(1000*251 ^ 3:Nat)=15813251000:=by decide
  omega
 ·have f:=If b h a;have l:=lm (e.many c a);have d:(zq cs).length ^ (zw c).length<=250 ^ (zw c).length:=Nat.pow_le_pow_left j _;have g:250 ^ (zw c).length<=250 ^ 5:=Nat.pow_le_pow_right (by omega) l;have m:(250 ^ 5:Nat)=976562500000:=by decide
  omega
theorem IC{s:ByteArray}(h:xQ s=.ok (cs,t)):(zq cs).length<=250:=by
 obtain⟨d,a⟩:=DY h;have b:=DK h;have e:=oM cs a.many;have c:=Cs cs;omega
end
end Go.Proofs.YteampbddflhngaaGreat
