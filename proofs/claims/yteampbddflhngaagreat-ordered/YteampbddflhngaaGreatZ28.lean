import Derived.Test.YteampbddflhngaaGreatZ19
import Derived.Test.YteampbddflhngaaGreatZ24
namespace Go.Proofs.YteampbddflhngaaGreat
set_option linter.all false
set_option maxRecDepth 100000
set_option maxHeartbeats 4000000
section
open Classical
variable {vs ns:κ}{pl:List Nat}{t t0:List zh}{cs:List zd}
def jN(ns:κ)(σ:ByteArray->Nat)(l:zj)(i:Nat):Nat:=match l.args[i]? with
 |none=>0
 |some y=>if zP y=true then σ y else(ur ns y).getD 0
def qd(ns:κ)(σ:ByteArray->Nat)(l:zj):zm:=[jN ns σ l 0,jN ns σ l 1,jN ns σ l 2]
theorem AN(a:∀k,pl.getD k 0<5)(n:ByteArray):uF vs pl n<5:=by
 unfold uF;split
 ·omega
 ·split
  ·omega
  ·exact a _
theorem MJ(t:List zh)(ns vs:κ)(d:∀k,pl.getD k 0<5)(l:zj)(y:List Nat)(i:Nat):Q9 (zL t ns vs pl l) y i=jN ns (fun v=>y.getD (uF vs pl v) 0) l i:=by
 unfold Q9 jN;by_cases h:i<l.args.length
 ·have a:i<(zL t ns vs pl l).qg.length:=by simp[zL,uh];exact h
  rw[zc a,yp h,QD _ a];have e:(zL t ns vs pl l).qg[i]=jv 0 (uh ns vs pl l) (uT ns vs pl l.args[i]):=by simp[zL,uh]
  obtain⟨c,f⟩:=p6 0 (uh ns vs pl l) (uT ns vs pl l.args[i]);rw[e];unfold RU;rw[c,f];unfold uT;by_cases b:zP l.args[i]=true
  ·have:=AN (vs:=vs) d l.args[i];simp[b,this]
  ·simp[b]
 ·have a:¬i<(zL t ns vs pl l).qg.length:=by simp[zL,uh];omega
  rw[za a,kV (by omega)]
theorem rC(t:List zh)(ns vs:κ)(a:∀k,pl.getD k 0<5)(l:zj)(y:List Nat):zF (zL t ns vs pl l) y=qd ns (fun v=>y.getD (uF vs pl v) 0) l:=by
 simp only[zF,qd,MJ t ns vs a]
theorem GL{σ τ:ByteArray->Nat}{l:zj}(h:∀y∈l.args,zP y=true->σ y=τ y):qd ns σ l=qd ns τ l:=by
 have:∀i,jN ns σ l i=jN ns τ l i:=by
  intro i;unfold jN;cases c:l.args[i]? with
  |none=>rfl
  |some y=>
   have b:=dT c;by_cases a:zP y=true
   ·simp only[a,if_true];exact h y b a
   ·simp[a]
 simp only[qd,this]
def wJ(t:List zh)(ns:κ)(c:zd)(D:DB)(x:zm):Prop:=∃σ,(∀l∈c.body,l.neg=false->QH D (zO t l.pred) (qd ns σ l))/\(∀l∈c.body,l.neg=true->D (zO t l.pred) (qd ns σ l)=none)/\x=qd ns σ c.head
theorem FZ{k:Nat}{f:Nat->Nat}(h:∀p,p<k->∃i,i<k/\f i=p){i j:Nat}(n:i<k)(g:j<k)(e:f i=f j):i=j:=by
 by_cases c:i=j
 ·exact c
 ·have:=lS (l1:=List.range k) (l2:=((List.range k).erase j).map f) List.nodup_range (fun p m=>by
   obtain⟨a,l,d⟩:=h p (vQ.1 m);by_cases b:a=j
   ·exact z7.2 ⟨i,(ld c).2 (vQ.2 n),by rw[e,←b,d]⟩
   ·exact z7.2 ⟨a,(ld b).2 (vQ.2 l),d⟩)
  rw[uu,lN (vQ.2 g),nQ] at this;omega
theorem Nq(m:vs.length<=5)(k:ka pl vs.length){u v:ByteArray}(g:u∈vs)(f:v∈vs)(e:uF vs pl u=uF vs pl v):u=v:=by
 obtain⟨i,h,d⟩:=sX g;obtain⟨j,l,c⟩:=sX f;unfold uF at e;rw[d,c] at e;simp only at e;rw[za (by omega),za (by omega)] at e;have:=FZ k.onto h l e;subst this;obtain⟨_,a⟩:=hO d;obtain⟨_,b⟩:=hO c;rw[←a,←b]
theorem Be{c:zd}{o:Option (List Int)}{D:DB}{x:zm}(B:∀l∈zk c,∀y∈l.args,zP y=true->y∈zw c)(C:(zw c).length<=5)(e:ka (yB (o.getD [])) (zw c).length):Sq (vn t ns c o) D x↔wJ t ns c D x:=by
 constructor
 ·rintro⟨y,i,m,A⟩;refine⟨fun v=>y.getD (uF (zw c) (yB (o.getD [])) v) 0,fun l b k=>?_,fun l b k=>?_,?_⟩
  ·have:=i (zL t ns (zw c) (yB (o.getD [])) l) (z7.2 ⟨l,ub.2 ⟨b,by simp[k]⟩,rfl⟩);rw[rC t ns _ e.five] at this;exact this
  ·have:=m (zL t ns (zw c) (yB (o.getD [])) l) (z7.2 ⟨l,ub.2 ⟨b,by simp[k]⟩,rfl⟩);rw[rC t ns _ e.five] at this;exact this
  ·rw[A];exact rC t ns _ e.five _ _
 ·rintro⟨σ,i,m,A⟩;let h:Nat->Nat:=fun p=>if d:∃v,v∈zw c/\uF (zw c) (yB (o.getD [])) v=p then σ d.choose else 0
  have w:∀v∈zw c,h (uF (zw c) (yB (o.getD [])) v)=σ v:=by
   intro v g;have d:∃u,u∈zw c/\uF (zw c) (yB (o.getD [])) u=uF (zw c) (yB (o.getD [])) v:=⟨v,g,rfl⟩;show(if d:∃u,u∈zw c/\uF (zw c) (yB (o.getD [])) u=uF (zw c) (yB (o.getD [])) v then σ d.choose else 0)=σ v;rw[dif_pos d,Nq C e d.choose_spec.1 g d.choose_spec.2]
  have E:∀p,p<5->((List.range 5).map h).getD p 0=h p:=by
   intro p q;rw[QD _ (by simp;exact q)];simp
  have a:∀l∈zk c,zF (zL t ns (zw c) (yB (o.getD [])) l) ((List.range 5).map h)=qd ns σ l:=by
   intro l b;rw[rC t ns _ e.five];refine GL fun y r s=>?_;rw[E _ (AN e.five _),w y (B l b y r s)]
  refine⟨(List.range 5).map h,fun l b=>?_,fun l b=>?_,?_⟩
  ·obtain⟨z,j,rfl⟩:=z7.1 b;obtain⟨f,n⟩:=ub.1 j;rw[a z (by simp[zk,f])];exact i z f (by simpa using n)
  ·obtain⟨z,j,rfl⟩:=z7.1 b;obtain⟨f,n⟩:=ub.1 j;rw[a z (by simp[zk,f])];exact m z f (by simpa using n)
  ·rw[A];exact(a c.head (by simp[zk])).symm
theorem QN.covered(h:QN cs t0 t){c:zd}(g:c∈cs):∀l∈zk c,∀y∈l.args,zP y=true->y∈zw c:=by
 have d:=h.safe c g;simp only[xo,uw,kh,dX,Bool.not_eq_true'] at d;intro l a y e b;rcases zx.1 a with rfl|a
 ·exact nm.1 d.1 y e b
 ·cases f:l.neg with
  |false=>exact dG.2 ⟨b,l,a,f,e⟩
  |true=>
   rcases d.2 l a with q|q
   ·rw[f] at q;cases q
   ·exact nm.1 q y e b
def OF(t:List zh)(ns:κ)(cs:List zd)(s:Nat)(D:DB)(p:Nat)(x:zm):Prop:=∃c∈cs,0<c.body.length/\xr t c.head.pred=s/\p=zO t c.head.pred/\wJ t ns c D x
theorem pU{os:Option (List (Option (List Int)))}{r:zr}:r∈uE t ns os cs↔∃i,∃b:i<cs.length,0<cs[i].body.length/\r=vn t ns cs[i] (xW os i):=by
 unfold uE;rw[mQ];constructor
 ·rintro⟨⟨c,i⟩,f,a⟩;have e:=rZ.1 f;simp only at a e;obtain⟨b,rfl⟩:=jX.1 e;split at a
  ·rename_i d;simp only[zt] at a;exact⟨i,b,d,a.symm⟩
  ·cases a
 ·rintro⟨i,b,d,rfl⟩;refine⟨(cs[i],i),rZ.2 (by simp[b]),?_⟩;simp only;rw[zc d]
theorem eN(h:QN cs t0 t)(ns:κ)(os:Option (List (Option (List Int))))(g:∀i (b:i<cs.length),ka (yB ((xW os i).getD [])) (zw cs[i]).length)(s:Nat)(D:DB)(p:Nat)(x:zm):ju ((uE t ns os cs).filter fun r=>decide (r.qh=s)) D p x↔OF t ns cs s D p x:=by
 constructor
 ·rintro⟨r,m,f,e⟩;obtain⟨j,k⟩:=ub.1 m;obtain⟨i,b,d,rfl⟩:=pU.1 j;have a:=zs b;exact⟨cs[i],a,d,of_decide_eq_true k,f,(Be (h.covered a) (lu (h.many _ a)) (g i b)).1 e⟩
 ·rintro⟨c,a,d,f,e,l⟩;obtain⟨i,b,rfl⟩:=vw.1 a;exact⟨vn t ns cs[i] (xW os i),ub.2 ⟨pU.2 ⟨i,b,d,rfl⟩,decide_eq_true f⟩,e,(Be (h.covered a) (lu (h.many _ a)) (g i b)).2 l⟩
theorem JD{rs a:List zr}(h:∀D p x,ju rs D p x↔ju a D p x)(k:Nat)(D:DB):zyr rs k D=zyr a k D:=by
 funext p x;unfold zyr;cases D p x with
 |some m=>rfl
 |none=>simp only[h D p x]
theorem BV{rs a:List zr}(h:∀D p x,ju rs D p x↔ju a D p x)(mr:Nat):∀left k D,zya rs mr left k D=zya a mr left k D
 |0,_,_=>rfl
 |left+1,k,D=>by
  unfold zya;rw[JD h,BV h mr left]
theorem BX{rs a:List zr}(h:∀s D p x,ju (rs.filter fun r=>decide (r.qh=s)) D p x↔ju (a.filter fun r=>decide (r.qh=s)) D p x)(b:∀s,(rs.filter fun r=>decide (r.qh=s))=[]↔(a.filter fun r=>decide (r.qh=s))=[])(mr mx:Nat):∀n s k D,zyg rs mr mx n s k D=zyg a mr mx n s k D
 |0,_,_,_=>rfl
 |n+1,s,k,D=>by
  unfold zyg;simp only[b s,BV (h s) mr,BX h b mr mx n]
theorem Jr(h:QN cs t0 t)(ns:κ)(os a:Option (List (Option (List Int))))(l:∀i (b:i<cs.length),ka (yB ((xW os i).getD [])) (zw cs[i]).length)(f:∀i (b:i<cs.length),ka (yB ((xW a i).getD [])) (zw cs[i]).length)(mr mx:Nat):z1m (vd t ns os cs) mr mx=z1m (vd t ns a cs) mr mx:=by
 have g:∀(os:Option (List (Option (List Int)))) s,((uE t ns os cs).filter fun r=>decide (r.qh=s))=[]↔∀c∈cs,0<c.body.length->¬xr t c.head.pred=s:=by
  intro os s;rw[List.filter_eq_nil_iff];constructor
  ·intro q c j d k;obtain⟨i,b,rfl⟩:=vw.1 j;have:=q _ (pU.2 ⟨i,b,d,rfl⟩);exact this (decide_eq_true k)
  ·intro q r m;obtain⟨i,b,d,rfl⟩:=pU.1 m;exact fun e=>q _ (zs b) d (of_decide_eq_true e)
 unfold z1m;show(if lB (zzv (vI t ns cs)) mr then zyg (uE t ns os cs) mr mx _ 0 0 _ else none)=(if lB (zzv (vI t ns cs)) mr then zyg (uE t ns a cs) mr mx _ 0 0 _ else none);rw[BX (fun s D p x=>(eN h ns os l s D p x).trans (eN h ns a f s D p x).symm) (fun s=>(g os s).trans (g a s).symm)];rfl
theorem eV{n:Nat}:∀{l:List Int} {e:List Bool},j7 n l e=true->e.length=5->l.Nodup/\∀x∈l,0<=x/\x<n/\x<5/\e.getD x.toNat false=false
 |[],_,_,_=>⟨List.nodup_nil,by simp⟩
 |x::r,e,h,k=>by
  unfold j7 at h;split at h
  ·cases h
  ·rename_i s;split at h
   ·cases h
   ·rename_i p;obtain⟨o,j⟩:=eV h (by simp[k]);have i:x.toNat<e.length:=by omega
    have g:∀y∈r,y≠x:=by
     rintro y f rfl;have:=(j y f).2.2.2;rw[mR,zc ⟨rfl,i⟩] at this;cases this
    refine⟨qN.2 ⟨fun q=>g x q rfl,o⟩,fun y f=>?_⟩;rcases zx.1 f with rfl|f
    ·exact⟨by omega,by omega,by omega,by simpa using p⟩
    ·obtain⟨a,b,c,d⟩:=j y f;have m:¬x.toNat=y.toNat:=fun q=>g y f (by omega);rw[mR,za (fun q=>m q.1)] at d;exact⟨a,b,c,d⟩
theorem GZ{l:List Int}(N:l.length<=5)(h:pL l=true):ka (yB l) l.length:=by
 obtain⟨D,n⟩:=eV h rfl;have f:∀m,m<=l.length->(∀j (c:j<m) (d:j<l.length),((l.take m).zipIdx.foldl vD [0,1,2,3,4]).getD l[j].toNat 0=j)/\∀i,(∀j (c:j<m) (d:j<l.length),l[j].toNat≠i)->((l.take m).zipIdx.foldl vD [0,1,2,3,4]).getD i 0<5:=by
  intro m;induction m with
  |zero=>
   intro _;refine⟨fun j c=>by omega,fun i _=>?_⟩;have:=(pd (k:=5) (zg _)).five i;exact this
  |succ m J=>
   intro P;have u:m<l.length:=by omega
   obtain⟨a,b⟩:=J (by omega);obtain⟨B,I,L,_⟩:=n l[m] (zs u);have w:((l.take m).zipIdx.foldl vD [0,1,2,3,4]).length=5:=sI (l.take m);rw[Dt u];have G:∀X:List Nat,vD X (l[m],m)=X.set l[m].toNat m:=fun X=>by unfold vD;exact zc ⟨B,L⟩
   rw[G];refine⟨fun j c d=>?_,fun i s=>?_⟩
   ·rw[mR];by_cases r:j=m
    ·subst r;rw[zc ⟨rfl,by rw[w];omega⟩]
    ·rw[za,a j (by omega) d];intro q;obtain⟨H,_⟩:=n l[j] (zs d);have:l[m]=l[j]:=by omega
     exact r ((List.getElem_inj D).1 this.symm)
   ·rw[mR];split
    ·omega
    ·exact b i fun j c d=>s j (by omega) d
 obtain⟨a,b⟩:=f l.length (zg _);rw[vr] at a b;have g:∀i,i<l.length->∃j,∃c:j<l.length,l[j].toNat=i:=by
  intro i s;by_cases o:∃j,∃c:j<l.length,l[j].toNat=i
  ·exact o
  ·exfalso;have A:(l.map Int.toNat).Nodup:=by
    refine lY.2 (List.Pairwise.imp_of_mem (fun F E v e=>v ?_) D);have Q:=n _ F;have M:=n _ E;omega
   have:=lS (l1:=l.map Int.toNat) (l2:=(List.range l.length).erase i) A (fun y K=>by
    obtain⟨z,C,rfl⟩:=z7.1 K;obtain⟨H,O,_⟩:=n z C;obtain⟨j,c,rfl⟩:=vw.1 C;exact(ld (fun q=>o ⟨j,c,q⟩)).2 (vQ.2 (by omega)))
   rw[uu,lN (vQ.2 s),nQ] at this;omega
 refine⟨fun i=>?_,fun i s=>?_,fun p x=>?_⟩
 ·by_cases o:∃j,∃c:j<l.length,l[j].toNat=i
  ·obtain⟨j,c,rfl⟩:=o;have:=a j c c;unfold yB;omega
  ·exact b i fun j _ c e=>o ⟨j,c,e⟩
 ·obtain⟨j,c,rfl⟩:=g i s;have:=a j c c;unfold yB;omega
 ·obtain⟨B,I,_⟩:=n l[p] (zs x);exact⟨l[p].toNat,by omega,a p x x⟩
theorem ea{os:Option (List (Option (List Int)))}(h:vq cs os=true)(g:∀c∈cs,(zw c).length<=5):∀i (f:i<cs.length),ka (yB ((xW os i).getD [])) (zw cs[i]).length:=by
 intro i f;have a:=g _ (zs f);cases os with
 |none=>exact pd a
 |some l=>
  unfold vq at h;simp only[uw,beq_iff_eq,kh] at h;have d:i<l.length:=by omega
  have b:=h.2 (cs[i],l[i]) (by
   rw[vw];exact⟨i,by simp;omega,by simp⟩)
  have e:xW (some l) i=l[i]:=by simp[xW,d]
  rw[e];cases j:l[i] with
  |none=>exact pd a
  |some o=>
   rw[j] at b;simp only[vi,uw,beq_iff_eq] at b;show ka (yB o) _;rw[←b.1];exact GZ (by omega) b.2
end
section
open Go.Proofs.Tryz Go.RowKit
variable {lo:Nat}{l:List Int}
def lP(n:Nat)(l:List Int):Bool:=(List.range n).all fun k=>decide (l.count (k:Int)=1)
theorem Cn(n:Nat):∀(l:List Int) (a:List Bool),a.length=5->l.Nodup->(∀x∈l,0<=x/\x<(n:Int)/\x<5/\a.getD x.toNat false=false)->j7 n l a=true
 |[],_,_,_,_=>rfl
 |x::l,a,f,b,d=>by
  obtain⟨o,p,m,i⟩:=d x (by simp);rw[j7,za (by omega),za (by rw[i];decide)];refine Cn n l _ (by simp[f]) (qN.1 b).2 fun y c=>?_;obtain⟨h,k,g,j⟩:=d y (by simp[c]);refine⟨h,k,g,?_⟩;rw[mR,za]
  ·exact j
  ·rintro⟨e,_⟩;have:x=y:=by omega
   subst this;exact(qN.1 b).1 c
theorem PQ(q:l.length<=5):lP l.length l=pL l:=by
 have p:((List.range l.length).map (Nat.cast:Nat->Int)).Nodup:=lY.2 (List.Pairwise.imp (fun{a b} h e=>h (by omega)) List.nodup_range);rw[Bool.eq_iff_iff];constructor
 ·intro h;have m:∀k,k<l.length->l.count (k:Int)=1:=fun k d=>by simpa using kh.1 h k (vQ.2 d)
  have g:∀x∈l,0<=x/\x<(l.length:Int):=fun x c=>by
   by_cases f:x∈(List.range l.length).map (Nat.cast:Nat->Int)
   ·obtain⟨k,d,rfl⟩:=z7.1 f;have:=vQ.1 d;omega
   ·exfalso;have:=lS p (l2:=l.erase x) (fun y i=>(ld (by rintro rfl;exact f i)).2 (by
     obtain⟨k,d,rfl⟩:=z7.1 i;exact List.count_pos_iff.1 (by rw[m k (vQ.1 d)];omega)))
    rw[uu,nQ,lN c] at this;have:=mB c;omega
  have j:l.Nodup:=List.nodup_iff_count.2 fun x=>by
   by_cases c:x∈l
   ·obtain⟨a,b⟩:=g x c;have:=m x.toNat (by omega);rw[Int.toNat_of_nonneg a] at this;omega
   ·rw[List.count_eq_zero.2 c];omega
  exact Cn _ l _ rfl j fun x c=>by
   obtain⟨a,b⟩:=g x c;refine⟨a,b,by omega,?_⟩;have:x=0∨x=1∨x=2∨x=3∨x=4:=by omega
   rcases this with rfl|rfl|rfl|rfl|rfl<;>rfl
 ·intro h;obtain⟨n,c⟩:=eV h rfl;refine kh.2 fun k d=>?_;have d:=vQ.1 d;have o:(k:Int)∈l:=by
   by_cases f:(k:Int)∈l
   ·exact f
   ·exfalso;have:=lS n (l2:=((List.range l.length).map (Nat.cast:Nat->Int)).erase (k:Int)) (fun y i=>(ld (by rintro rfl;exact f i)).2 (by
     obtain⟨a,b,_⟩:=c y i;exact z7.2 ⟨y.toNat,vQ.2 (by omega),by omega⟩))
    rw[lN (z7.2 ⟨k,vQ.2 d,rfl⟩),uu,nQ] at this;omega
  have s:=List.nodup_iff_count.1 n (k:Int);have r:=List.count_pos_iff.2 o;simp only[decide_eq_true_eq];omega
theorem LF{j:Nat}(a:j<l.length)(k:Int):(l.take (j+1)).count k=(l.take j).count k+if l[j]=k then 1 else 0:=by
 rw[yL a,List.count_append,List.count_singleton];by_cases h:l[j]=k<;>simp[h]
theorem PP(m:Nat):lP (m+1) l=(lP m l&&decide (l.count (m:Int)=1)):=by
 unfold lP;rw[List.range_succ,List.all_append];simp
theorem FY{n m:Nat}(a:m<n)(h:l.count (m:Int)≠1):lP n l=false:=by
 cases b:lP n l with
 |false=>rfl
 |true=>
  have:=kh.1 b m (vQ.2 a);exact zC (by simpa using this) h
theorem Cl(w:World)(p s:Value)(o:Option (List Int))(m:uA w p o)(j:uA w s o)(H:(o.getD []).length<=281474976710656):
  Calls prog 18 #[p,s] w fun e B=>e=ε (.bool true)/\μ w B:=by
 obtain⟨I,E,rfl⟩:=m.qx;obtain⟨F,q,rfl⟩:=j.qx;have A:=Q7 fun k (h:k<(o.getD []).length)=>m.cell k h;have v:=Q7 fun k (h:k<(o.getD []).length)=>j.cell k h;clear m j;generalize o.getD []=l at *;go_enter func18,ntmps18;go_wp2;go_loopw [5] (fun i wr=>∃k:Nat,k<=l.length/\i=ι k/\μ w wr) (fun i _=>l.length-(intOf i).toNat)
 case atStart=>exact⟨0,zv _,rfl,zo _ _⟩
 case round=>
  obtain⟨k,h,rfl,a⟩:=hrel;have u:=a.size;by_cases d:k<l.length
  ·obtain⟨g,f,rfl,C,c⟩:=A.out k d;obtain⟨D,G,rfl,n,b⟩:=v.out k d;have z:=zl a C c;have t:=zl a n b;have y:g<wr.heap.size:=by omega
   have r:D<wr.heap.size:=by omega
   clear c b;generalize l[k]=x at *;go_wp2;go_quiet (fail)
   go_wp2;go_roundw
   ·exact⟨k+1,by omega,by go_num,zJ a _⟩
   ·simp[intOf];omega
  ·go_wp2;go_ret;exact⟨rfl,a⟩
theorem Mq{cs:List zd}{os:List (Option (List Int))}{k:Nat}(b:k<cs.length)(a:k<os.length)(h:vi cs[k] os[k]=false):vq cs (some os)=false:=by
 unfold vq;rw[wt];refine zb (List.all_eq_false.2 ⟨(cs[k],os[k]),vw.2 ⟨k,by simp;omega,by simp⟩,by simp[h]⟩)
theorem GQ{cs:List zd}{os:List (Option (List Int))}(c:os.length=cs.length)(h:∀k (a:k<cs.length) (b:k<os.length),vi cs[k] os[k]=true):vq cs (some os)=true:=by
 unfold vq;simp only[uw,beq_iff_eq,kh];refine⟨c,fun x d=>?_⟩;obtain⟨k,a,rfl⟩:=vw.1 d;simp only[List.length_zip] at a;simpa using h k (by omega) (by omega)
theorem KV{c:zd}(b:(zw c).length<=5):vi c (some l)=(l.length == (zw c).length&&lP (zw c).length l):=by
 unfold vi;by_cases a:l.length=(zw c).length
 ·rw[←a,PQ (by omega)]
 ·dsimp only;rw[beq_false_of_ne a];rfl
theorem FI(w:World)(mb:Nat)(lv:Value)(cs:List zd)(t:List zh)(M:List Value)(os:List (Option (List Int)))(hm:jS lo w mb cs t){aq:Nat}(ho:w.ownsRow aq 24 1 lv M.length M)(T:M.length=os.length)(ai:∀k (r:k<M.length) (N:k<os.length),uA w M[k] os[k])(aj:∀o∈os,(o.getD []).length<=2000000)(af:∀c∈cs,c.body.length<=999/\yS (zk c)<=1000/\(zw c).length<=5/\∀l∈zk c,∀t∈l.args,0<t.size)(aE:cs.length<=1000):
  Calls prog 75 #[(π mb),lv,.bool false] w fun e w'=>e=ε (.bool (vq cs (some os)))/\μ w w':=by
 obtain⟨_,cv,pv,kv,Y,V,_,_⟩:=hm;obtain⟨ao,aG,rfl⟩:=V.qx;obtain⟨a0,a5,rfl⟩:=zp ho;have B:∀k (r:k<os.length),∃D u,a0=some ⟨D,0,none⟩/\D<w.heap.size/\w.cell? ⟨D,k,none⟩=some u/\uA w u os[k]:=fun k r=>by
  obtain⟨gb,az,hv,_,av,ay⟩:=yx ho (by omega);simp at hv;exact⟨gb,M[k]'(by omega),hv.1,av,ay k _ (yp (by omega)),ai k (by omega) r⟩
 clear ho ai;rw[T];clear T;obtain⟨a9,aJ,aC⟩:=Y.boxed;by_cases f:os.length=cs.length
 ·rw[f];have al:=Q7 af;have ax:=Q7 aj;have HC:=Q7 B;have HL:=Q7 f;clear af aj B f;go_enter func75,ntmps75;go_wp2;go_loopw [7] (fun v7 wr=>∃k:Nat,k<=cs.length/\v7=ι k/\μ w wr/\Hid (∀j (r:j<cs.length) (N:j<os.length),j<k->vi cs[j] os[j]=true)) (fun i _=>cs.length-(intOf i).toNat)
  case atStart=>exact⟨0,zv _,rfl,zo _ _,fun j _ _ h=>by omega⟩
  case round=>
   obtain⟨k,hk,rfl,b,HD⟩:=hrel;have a6:=b.size;have U:=Y.below b;obtain⟨aI,aA,aB⟩:=U.boxed;by_cases A:k<cs.length
   ·have L:k<os.length:=by rw[HL.out];exact A
    obtain⟨g,aD,a3,aH,a4,rfl,y⟩:=V.at k A;obtain⟨aF,ab,an,R⟩:=al.out _ (zs A);have Q:=ax.out _ (zs L);obtain⟨D,u,rfl,am,hu,z⟩:=HC.out k L;have v:=zl b am hu;have d:D<wr.heap.size:=by omega
    have z:=z.below b;have y:=y.below b;have HF:=Q7 fun(h:vi cs[k] os[k]=false)=>Mq A L h;have HT:Hid (vi cs[k] os[k]=true->∀j (r:j<cs.length) (N:j<os.length),j<k+1->vi cs[j] os[j]=true):=fun h j r N hj=>by
     by_cases e:j=k
     ·subst e;exact h
     ·exact HD.out j r N (by omega)
    clear HD hu;generalize cs[k]=c at *;generalize os[k]=o at *;have P:=Q7 (iJ wr true g (k*4) c _ _ _ _ y (by omega) ab R);rw[B8] at P;have a1:=y.lt;clear ab R y;cases o with
    |none=>
     have h0:u=ν:=z;subst h0;have G:∀W:World,(binOp .eql 24 (ν) (ν)).run prog W=.ok (.bool true) W:=fun W=>by
      have:=run_equal_slice_nil W 24 3 none 0 0 underlying24;simp[binOp,this]
     go_wp2_with (go_at_call 108;refine P.out.mono ?_;rintro e H ⟨vv,rfl,q,a⟩;obtain⟨ad,C,rfl⟩:=q.qx;have p:=QB b a;have I:=zl a d v;have s:D<H.heap.size:=(by have:=a.size;omega))
     go_roundw
     ·exact⟨k+1,by omega,by go_num,p,HT.out rfl⟩
     ·simp[intOf];omega
    |some l=>
     obtain⟨g2,f2,J,rfl,ah,E⟩:=z;have G:∀W:World,(binOp .eql 24 (.slice (some ⟨g2,f2,none⟩) l.length J) (ν)).run prog W=.ok (.bool false) W:=fun W=>by
      have:=run_equal_slice_nil W 24 3 (some ⟨g2,f2,none⟩) l.length J underlying24;simp[binOp,this]
     have HE:=Q7 (KV (l:=l) an);have ak:l.length<=2000000:=Q;generalize zw c=vs at *;by_cases Z:l.length=vs.length
     ·rw[Z] at v G;have ac:=Q7 E;have ag:=Q7 Z;have aa:Hid (vi c (some l)=lP vs.length l):=by
       show _=_;rw[HE.out,Z,beq_self_eq_true];rfl
      clear Z E HE ak Q;go_wp2_with (go_at_call 108;refine P.out.mono ?_;rintro e H ⟨vv,rfl,q,a⟩;obtain⟨ad,C,rfl⟩:=q.qx;have p:=QB b a;have I:=zl a d v;have s:D<H.heap.size:=(by have:=a.size;omega);have a2:g2<H.heap.size:=(by have:=a.size;omega))
      have X:Hid (∀j (h:j<l.length),H.cell? ⟨g2,f2+j,none⟩=some (ι l[j])):=fun j h=>zl a ah (ac.out j h);clear ac v P d ah q a;go_loopw [9] (fun v9 wj=>∃m:Nat,m<=vs.length/\v9=ι m/\wj=H/\Hid (lP m l=true)) (fun i _=>vs.length-(intOf i).toNat)
      case atStart=>exact⟨0,zv _,rfl,rfl,rfl⟩
      case round=>
       obtain⟨m,hm,rfl,rfl,HM⟩:=hrel;by_cases au:m<vs.length
       ·go_wp2;go_loopw [10,11] (fun ap aw wi=>∃(j n:Nat),j<=vs.length/\n<=j/\aw=ι j/\ap=ι n/\wi=wr/\Hid (n=(l.take j).count (m:Int))) (fun _ i _=>vs.length-(intOf i).toNat)
        case atStart=>exact⟨0,0,zv _,zv _,rfl,rfl,rfl,by simp[Hid]⟩
        case round=>
         obtain⟨j,n,hj,a7,rfl,rfl,rfl,HN⟩:=hrel;by_cases ar:j<vs.length
         ·have F:j<l.length:=by rw[ag.out];exact ar
          have a8:=X.out j F;have S:=Q7 (LF F (m:Int));generalize l[j]=x at *;by_cases K:x=(m:Int)
          ·subst K;go_wp2;go_roundw
           ·exact⟨j+1,n+1,by omega,by omega,by go_num,by go_num,trivial,by show _=_;rw[S.out,←HN.out];simp⟩
           ·simp[intOf];omega
          ·have hb:(x == (m:Int))=false:=beq_false_of_ne K;go_wp2;go_roundw
           ·exact⟨j+1,n,by omega,by omega,by go_num,rfl,trivial,by show _=_;rw[S.out,←HN.out,za K];rfl⟩
           ·simp[intOf];omega
         ·have ae:Hid (n=l.count (m:Int)):=by
           show _=_;rw[HN.out,xg (by rw[ag.out];omega)]
          by_cases r:n=1
          ·subst r;go_wp2;go_roundw
           ·exact⟨m+1,by omega,by go_num,trivial,by show _=_;rw[PP,HM.out,←ae.out];rfl⟩
           ·simp[intOf];omega
          ·have O:((n:Int) != 1)=true:=by rw[bne_iff_ne];omega
           go_wp2;go_ret;exact⟨by rw[HF.out (by rw[aa.out];exact FY au (by rw[←ae.out];exact r))];rfl,p⟩
       ·go_wp2;go_roundw
        ·exact⟨k+1,by omega,by go_num,p,HT.out (by rw[aa.out,show vs.length=m from by omega];exact HM.out)⟩
        ·simp[intOf];omega
     ·have O:((l.length:Int) != (vs.length:Int))=true:=by rw[bne_iff_ne];omega
      go_wp2_with (go_at_call 108;refine P.out.mono ?_;rintro e H ⟨vv,rfl,q,a⟩;obtain⟨ad,C,rfl⟩:=q.qx;have p:=QB b a;have I:=zl a d v;have s:D<H.heap.size:=(by have:=a.size;omega))
      go_ret;exact⟨by rw[HF.out (by rw[HE.out];simp[Z])];rfl,p⟩
   ·go_wp2;go_ret;exact⟨by rw[GQ HL.out fun j r N=>HD.out j r N (by omega)];rfl,b⟩
 ·have O:((os.length:Int) != (cs.length:Int))=true:=by rw[bne_iff_ne];omega
  have hB:vq cs (some os)=false:=by unfold vq;simp[f]
  rw[hB];go_enter func75,ntmps75;go_wp2;go_ret;exact⟨rfl,(by repeat'(first|with_reducible(first|apply zR|assumption|apply zN|apply zA|apply zD|apply zS)|go_size))⟩
end
end Go.Proofs.YteampbddflhngaaGreat
