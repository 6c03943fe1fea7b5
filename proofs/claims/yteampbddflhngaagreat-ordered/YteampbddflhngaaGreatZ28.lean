import Derived.Test.YteampbddflhngaaGreatZ19
import Derived.Test.YteampbddflhngaaGreatZ24
namespace Go.Proofs.YteampbddflhngaaGreat
set_option linter.all false
set_option maxRecDepth 100000
set_option maxHeartbeats 4000000
section
open Classical
variable {vs ns:κ}{pl:List Nat}{t t0:List zh}{cs:List zd}
def jN(ns:κ)(σ:ByteArray->Nat)(l:zj)(i:Nat):Nat:=match l.args[i]? with
 |none=>0
 |some y=>if zO y=true then σ y else(um ns y).getD 0
def vW(ns:κ)(σ:ByteArray->Nat)(l:zj):zm:=[jN ns σ l 0,jN ns σ l 1,jN ns σ l 2]
theorem BF(a:∀k,pl.getD k 0<5)(n:ByteArray):uD vs pl n<5:=by
 unfold uD;split
 ·omega
 ·split
  ·omega
  ·exact a _
theorem Nm(t:List zh)(ns vs:κ)(c:∀k,pl.getD k 0<5)(l:zj)(y:List Nat)(i:Nat):Q7 (zK t ns vs pl l) y i=jN ns (fun v=>y.getD (uD vs pl v) 0) l i:=by
 unfold Q7 jN;by_cases h:i<l.args.length
 ·have a:i<(zK t ns vs pl l).qg.length:=by simp[zK,uj];exact h
  rw[zc a,yq h,QB _ a];have e:(zK t ns vs pl l).qg[i]=ju 0 (uj ns vs pl l) (uH ns vs pl l.args[i]):=by simp[zK,uj]
  obtain⟨f,d⟩:=pT 0 (uj ns vs pl l) (uH ns vs pl l.args[i]);rw[e];unfold RP;rw[f,d];unfold uH;by_cases b:zO l.args[i]=true
  ·have:=BF (vs:=vs) c l.args[i];simp[b,this]
  ·simp[b]
 ·have a:¬i<(zK t ns vs pl l).qg.length:=by simp[zK,uj];omega
  rw[za a,kF (by omega)]
theorem sa(t:List zh)(ns vs:κ)(a:∀k,pl.getD k 0<5)(l:zj)(y:List Nat):zF (zK t ns vs pl l) y=vW ns (fun v=>y.getD (uD vs pl v) 0) l:=by
 simp only[zF,vW,Nm t ns vs a]
theorem N9{σ τ:ByteArray->Nat}{l:zj}(h:∀y∈l.args,zO y=true->σ y=τ y):vW ns σ l=vW ns τ l:=by
 have:∀i,jN ns σ l i=jN ns τ l i:=by
  intro i;unfold jN;cases c:l.args[i]? with
  |none=>rfl
  |some y=>
   have b:=fm c;by_cases a:zO y=true
   ·simp only[a,if_true];exact h y b a
   ·simp[a]
 simp only[vW,this]
def tI(t:List zh)(ns:κ)(c:zd)(D:DB)(x:zm):Prop:=∃σ,(∀l∈c.body,l.neg=false->QF D (zP t l.pred) (vW ns σ l))/\(∀l∈c.body,l.neg=true->D (zP t l.pred) (vW ns σ l)=none)/\x=vW ns σ c.head
theorem Mi{k:Nat}{f:Nat->Nat}(h:∀p,p<k->∃i,i<k/\f i=p){i j:Nat}(m:i<k)(g:j<k)(e:f i=f j):i=j:=by
 by_cases c:i=j
 ·exact c
 ·have:=lz (l1:=List.range k) (l2:=((List.range k).erase j).map f) List.nodup_range (fun p l=>by
   obtain⟨a,n,d⟩:=h p (vM.1 l);by_cases b:a=j
   ·exact zy.2 ⟨i,(fV c).2 (vM.2 m),by rw[e,←b,d]⟩
   ·exact zy.2 ⟨a,(fV b).2 (vM.2 n),d⟩)
  rw[uu,lK (vM.2 g),nW] at this;omega
theorem FJ(m:vs.length<=5)(f:kc pl vs.length){u v:ByteArray}(l:u∈vs)(k:v∈vs)(e:uD vs pl u=uD vs pl v):u=v:=by
 obtain⟨i,h,d⟩:=sN l;obtain⟨j,g,c⟩:=sN k;unfold uD at e;rw[d,c] at e;simp only at e;rw[za (by omega),za (by omega)] at e;have:=Mi f.onto h g e;subst this;obtain⟨_,a⟩:=fO d;obtain⟨_,b⟩:=fO c;rw[←a,←b]
theorem CF{c:zd}{o:Option (List Int)}{D:DB}{x:zm}(E:∀l∈zk c,∀y∈l.args,zO y=true->y∈zw c)(C:(zw c).length<=5)(e:kc (yD (o.getD [])) (zw c).length):Sr (vo t ns c o) D x↔tI t ns c D x:=by
 constructor
 ·rintro⟨y,m,i,A⟩;refine⟨fun v=>y.getD (uD (zw c) (yD (o.getD [])) v) 0,fun l b n=>?_,fun l b n=>?_,?_⟩
  ·have:=m (zK t ns (zw c) (yD (o.getD [])) l) (zy.2 ⟨l,uS.2 ⟨b,by simp[n]⟩,rfl⟩);rw[sa t ns _ e.five] at this;exact this
  ·have:=i (zK t ns (zw c) (yD (o.getD [])) l) (zy.2 ⟨l,uS.2 ⟨b,by simp[n]⟩,rfl⟩);rw[sa t ns _ e.five] at this;exact this
  ·rw[A];exact sa t ns _ e.five _ _
 ·rintro⟨σ,m,i,A⟩;let f:Nat->Nat:=fun p=>if d:∃v,v∈zw c/\uD (zw c) (yD (o.getD [])) v=p then σ d.choose else 0
  have q:∀v∈zw c,f (uD (zw c) (yD (o.getD [])) v)=σ v:=by
   intro v h;have d:∃u,u∈zw c/\uD (zw c) (yD (o.getD [])) u=uD (zw c) (yD (o.getD [])) v:=⟨v,h,rfl⟩;show(if d:∃u,u∈zw c/\uD (zw c) (yD (o.getD [])) u=uD (zw c) (yD (o.getD [])) v then σ d.choose else 0)=σ v;rw[dif_pos d,FJ C e d.choose_spec.1 h d.choose_spec.2]
  have B:∀p,p<5->((List.range 5).map f).getD p 0=f p:=by
   intro p s;rw[QB _ (by simp;exact s)];simp
  have a:∀l∈zk c,zF (zK t ns (zw c) (yD (o.getD [])) l) ((List.range 5).map f)=vW ns σ l:=by
   intro l b;rw[sa t ns _ e.five];refine N9 fun y r j=>?_;rw[B _ (BF e.five _),q y (E l b y r j)]
  refine⟨(List.range 5).map f,fun l b=>?_,fun l b=>?_,?_⟩
  ·obtain⟨z,w,rfl⟩:=zy.1 b;obtain⟨g,k⟩:=uS.1 w;rw[a z (by simp[zk,g])];exact m z g (by simpa using k)
  ·obtain⟨z,w,rfl⟩:=zy.1 b;obtain⟨g,k⟩:=uS.1 w;rw[a z (by simp[zk,g])];exact i z g (by simpa using k)
  ·rw[A];exact(a c.head (by simp[zk])).symm
theorem QL.covered(h:QL cs t0 t){c:zd}(g:c∈cs):∀l∈zk c,∀y∈l.args,zO y=true->y∈zw c:=by
 have d:=h.safe c g;simp only[xo,ux,ko,dX,Bool.not_eq_true'] at d;intro l a y b e;rcases zx.1 a with rfl|a
 ·exact nV.1 d.1 y b e
 ·cases f:l.neg with
  |false=>exact gO.2 ⟨e,l,a,f,b⟩
  |true=>
   rcases d.2 l a with q|q
   ·rw[f] at q;cases q
   ·exact nV.1 q y b e
def FD(t:List zh)(ns:κ)(cs:List zd)(s:Nat)(D:DB)(p:Nat)(x:zm):Prop:=∃c∈cs,0<c.body.length/\xt t c.head.pred=s/\p=zP t c.head.pred/\tI t ns c D x
theorem pH{os:Option (List (Option (List Int)))}{r:zr}:r∈uB t ns os cs↔∃i,∃b:i<cs.length,0<cs[i].body.length/\r=vo t ns cs[i] (xV os i):=by
 unfold uB;rw[mQ];constructor
 ·rintro⟨⟨c,i⟩,f,a⟩;have e:=rB.1 f;simp only at a e;obtain⟨b,rfl⟩:=jM.1 e;split at a
  ·rename_i d;simp only[zt] at a;exact⟨i,b,d,a.symm⟩
  ·cases a
 ·rintro⟨i,b,d,rfl⟩;refine⟨(cs[i],i),rB.2 (by simp[b]),?_⟩;simp only;rw[zc d]
theorem o7(h:QL cs t0 t)(ns:κ)(os:Option (List (Option (List Int))))(g:∀i (b:i<cs.length),kc (yD ((xV os i).getD [])) (zw cs[i]).length)(s:Nat)(D:DB)(p:Nat)(x:zm):jp ((uB t ns os cs).filter fun r=>decide (r.qh=s)) D p x↔FD t ns cs s D p x:=by
 constructor
 ·rintro⟨r,m,e,f⟩;obtain⟨l,j⟩:=uS.1 m;obtain⟨i,b,d,rfl⟩:=pH.1 l;have a:=zs b;exact⟨cs[i],a,d,of_decide_eq_true j,e,(CF (h.covered a) (lm (h.many _ a)) (g i b)).1 f⟩
 ·rintro⟨c,a,d,e,f,k⟩;obtain⟨i,b,rfl⟩:=vx.1 a;exact⟨vo t ns cs[i] (xV os i),uS.2 ⟨pH.2 ⟨i,b,d,rfl⟩,decide_eq_true e⟩,f,(CF (h.covered a) (lm (h.many _ a)) (g i b)).2 k⟩
theorem LW{rs a:List zr}(h:∀D p x,jp rs D p x↔jp a D p x)(k:Nat)(D:DB):zyr rs k D=zyr a k D:=by
 funext p x;unfold zyr;cases D p x with
 |some m=>rfl
 |none=>simp only[h D p x]
theorem Dd{rs a:List zr}(h:∀D p x,jp rs D p x↔jp a D p x)(mr:Nat):∀left k D,zya rs mr left k D=zya a mr left k D
 |0,_,_=>rfl
 |left+1,k,D=>by
  unfold zya;rw[LW h,Dd h mr left]
theorem EA{rs a:List zr}(h:∀s D p x,jp (rs.filter fun r=>decide (r.qh=s)) D p x↔jp (a.filter fun r=>decide (r.qh=s)) D p x)(b:∀s,(rs.filter fun r=>decide (r.qh=s))=[]↔(a.filter fun r=>decide (r.qh=s))=[])(mr mx:Nat):∀n s k D,zyg rs mr mx n s k D=zyg a mr mx n s k D
 |0,_,_,_=>rfl
 |n+1,s,k,D=>by
  unfold zyg;simp only[b s,Dd (h s) mr,EA h b mr mx n]
theorem JR(h:QL cs t0 t)(ns:κ)(os a:Option (List (Option (List Int))))(k:∀i (b:i<cs.length),kc (yD ((xV os i).getD [])) (zw cs[i]).length)(f:∀i (b:i<cs.length),kc (yD ((xV a i).getD [])) (zw cs[i]).length)(mr mx:Nat):z1m (vj t ns os cs) mr mx=z1m (vj t ns a cs) mr mx:=by
 have g:∀(os:Option (List (Option (List Int)))) s,((uB t ns os cs).filter fun r=>decide (r.qh=s))=[]↔∀c∈cs,0<c.body.length->¬xt t c.head.pred=s:=by
  intro os s;rw[List.filter_eq_nil_iff];constructor
  ·intro q c j d l;obtain⟨i,b,rfl⟩:=vx.1 j;have:=q _ (pH.2 ⟨i,b,d,rfl⟩);exact this (decide_eq_true l)
  ·intro q r m;obtain⟨i,b,d,rfl⟩:=pH.1 m;exact fun e=>q _ (zs b) d (of_decide_eq_true e)
 unfold z1m;show(if lD (zzv (vB t ns cs)) mr then zyg (uB t ns os cs) mr mx _ 0 0 _ else none)=(if lD (zzv (vB t ns cs)) mr then zyg (uB t ns a cs) mr mx _ 0 0 _ else none);rw[EA (fun s D p x=>(o7 h ns os k s D p x).trans (o7 h ns a f s D p x).symm) (fun s=>(g os s).trans (g a s).symm)];rfl
theorem iO{n:Nat}:∀{l:List Int} {e:List Bool},jE n l e=true->e.length=5->l.Nodup/\∀x∈l,0<=x/\x<n/\x<5/\e.getD x.toNat false=false
 |[],_,_,_=>⟨List.nodup_nil,by simp⟩
 |x::r,e,h,p=>by
  unfold jE at h;split at h
  ·cases h
  ·rename_i s;split at h
   ·cases h
   ·rename_i k;obtain⟨m,j⟩:=iO h (by simp[p]);have i:x.toNat<e.length:=by omega
    have g:∀y∈r,y≠x:=by
     rintro y f rfl;have:=(j y f).2.2.2;rw[mB,zc ⟨rfl,i⟩] at this;cases this
    refine⟨qL.2 ⟨fun q=>g x q rfl,m⟩,fun y f=>?_⟩;rcases zx.1 f with rfl|f
    ·exact⟨by omega,by omega,by omega,by simpa using k⟩
    ·obtain⟨a,b,c,d⟩:=j y f;have o:¬x.toNat=y.toNat:=fun q=>g y f (by omega);rw[mB,za (fun q=>o q.1)] at d;exact⟨a,b,c,d⟩
theorem Mg{l:List Int}(P:l.length<=5)(h:pA l=true):kc (yD l) l.length:=by
 obtain⟨C,n⟩:=iO h rfl;have f:∀m,m<=l.length->(∀j (c:j<m) (d:j<l.length),((l.take m).zipIdx.foldl vK [0,1,2,3,4]).getD l[j].toNat 0=j)/\∀i,(∀j (c:j<m) (d:j<l.length),l[j].toNat≠i)->((l.take m).zipIdx.foldl vK [0,1,2,3,4]).getD i 0<5:=by
  intro m;induction m with
  |zero=>
   intro _;refine⟨fun j c=>by omega,fun i _=>?_⟩;have:=(pS (k:=5) (zg _)).five i;exact this
  |succ m E=>
   intro Q;have u:m<l.length:=by omega
   obtain⟨a,b⟩:=E (by omega);obtain⟨B,K,G,_⟩:=n l[m] (zs u);have w:((l.take m).zipIdx.foldl vK [0,1,2,3,4]).length=5:=tm (l.take m);rw[CB u];have H:∀X:List Nat,vK X (l[m],m)=X.set l[m].toNat m:=fun X=>by unfold vK;exact zc ⟨B,G⟩
   rw[H];refine⟨fun j c d=>?_,fun i s=>?_⟩
   ·rw[mB];by_cases o:j=m
    ·subst o;rw[zc ⟨rfl,by rw[w];omega⟩]
    ·rw[za,a j (by omega) d];intro q;obtain⟨I,_⟩:=n l[j] (zs d);have:l[m]=l[j]:=by omega
     exact o ((List.getElem_inj C).1 this.symm)
   ·rw[mB];split
    ·omega
    ·exact b i fun j c d=>s j (by omega) d
 obtain⟨a,b⟩:=f l.length (zg _);rw[vw] at a b;have g:∀i,i<l.length->∃j,∃c:j<l.length,l[j].toNat=i:=by
  intro i s;by_cases r:∃j,∃c:j<l.length,l[j].toNat=i
  ·exact r
  ·exfalso;have x:(l.map Int.toNat).Nodup:=by
    refine lI.2 (List.Pairwise.imp_of_mem (fun L J A e=>A ?_) C);have O:=n _ L;have M:=n _ J;omega
   have:=lz (l1:=l.map Int.toNat) (l2:=(List.range l.length).erase i) x (fun y F=>by
    obtain⟨z,D,rfl⟩:=zy.1 F;obtain⟨I,N,_⟩:=n z D;obtain⟨j,c,rfl⟩:=vx.1 D;exact(fV (fun q=>r ⟨j,c,q⟩)).2 (vM.2 (by omega)))
   rw[uu,lK (vM.2 s),nW] at this;omega
 refine⟨fun i=>?_,fun i s=>?_,fun p v=>?_⟩
 ·by_cases r:∃j,∃c:j<l.length,l[j].toNat=i
  ·obtain⟨j,c,rfl⟩:=r;have:=a j c c;unfold yD;omega
  ·exact b i fun j _ c e=>r ⟨j,c,e⟩
 ·obtain⟨j,c,rfl⟩:=g i s;have:=a j c c;unfold yD;omega
 ·obtain⟨B,K,_⟩:=n l[p] (zs v);exact⟨l[p].toNat,by omega,a p v v⟩
theorem eA{os:Option (List (Option (List Int)))}(h:vi cs os=true)(j:∀c∈cs,(zw c).length<=5):∀i (f:i<cs.length),kc (yD ((xV os i).getD [])) (zw cs[i]).length:=by
 intro i f;have a:=j _ (zs f);cases os with
 |none=>exact pS a
 |some l=>
  unfold vi at h;simp only[ux,beq_iff_eq,ko] at h;have d:i<l.length:=by omega
  have b:=h.2 (cs[i],l[i]) (by
   rw[vx];exact⟨i,by simp;omega,by simp⟩)
  have e:xV (some l) i=l[i]:=by simp[xV,d]
  rw[e];cases g:l[i] with
  |none=>exact pS a
  |some o=>
   rw[g] at b;simp only[vl,ux,beq_iff_eq] at b;show kc (yD o) _;rw[←b.1];exact Mg (by omega) b.2
end
section
open Go.Proofs.Tryz Go.RowKit
variable {lo:Nat}{l:List Int}
def ly(n:Nat)(l:List Int):Bool:=(List.range n).all fun k=>decide (l.count (k:Int)=1)
theorem BV(n:Nat):∀(l:List Int) (a:List Bool),a.length=5->l.Nodup->(∀x∈l,0<=x/\x<(n:Int)/\x<5/\a.getD x.toNat false=false)->jE n l a=true
 |[],_,_,_,_=>rfl
 |x::l,a,h,c,d=>by
  obtain⟨o,p,m,g⟩:=d x (by simp);rw[jE,za (by omega),za (by rw[g];decide)];refine BV n l _ (by simp[h]) (qL.1 c).2 fun y b=>?_;obtain⟨j,f,k,i⟩:=d y (by simp[b]);refine⟨j,f,k,?_⟩;rw[mB,za]
  ·exact i
  ·rintro⟨e,_⟩;have:x=y:=by omega
   subst this;exact(qL.1 c).1 b
theorem L9(r:l.length<=5):ly l.length l=pA l:=by
 have p:((List.range l.length).map (Nat.cast:Nat->Int)).Nodup:=lI.2 (List.Pairwise.imp (fun{a b} h e=>h (by omega)) List.nodup_range);rw[Bool.eq_iff_iff];constructor
 ·intro h;have m:∀k,k<l.length->l.count (k:Int)=1:=fun k c=>by simpa using ko.1 h k (vM.2 c)
  have i:∀x∈l,0<=x/\x<(l.length:Int):=fun x d=>by
   by_cases g:x∈(List.range l.length).map (Nat.cast:Nat->Int)
   ·obtain⟨k,c,rfl⟩:=zy.1 g;have:=vM.1 c;omega
   ·exfalso;have:=lz p (l2:=l.erase x) (fun y f=>(fV (by rintro rfl;exact g f)).2 (by
     obtain⟨k,c,rfl⟩:=zy.1 f;exact List.count_pos_iff.1 (by rw[m k (vM.1 c)];omega)))
    rw[uu,nW,lK d] at this;have:=m7 d;omega
  have j:l.Nodup:=List.nodup_iff_count.2 fun x=>by
   by_cases d:x∈l
   ·obtain⟨a,b⟩:=i x d;have:=m x.toNat (by omega);rw[Int.toNat_of_nonneg a] at this;omega
   ·rw[List.count_eq_zero.2 d];omega
  exact BV _ l _ rfl j fun x d=>by
   obtain⟨a,b⟩:=i x d;refine⟨a,b,by omega,?_⟩;have:x=0∨x=1∨x=2∨x=3∨x=4:=by omega
   rcases this with rfl|rfl|rfl|rfl|rfl<;>rfl
 ·intro h;obtain⟨n,d⟩:=iO h rfl;refine ko.2 fun k c=>?_;have c:=vM.1 c;have o:(k:Int)∈l:=by
   by_cases g:(k:Int)∈l
   ·exact g
   ·exfalso;have:=lz n (l2:=((List.range l.length).map (Nat.cast:Nat->Int)).erase (k:Int)) (fun y f=>(fV (by rintro rfl;exact g f)).2 (by
     obtain⟨a,b,_⟩:=d y f;exact zy.2 ⟨y.toNat,vM.2 (by omega),by omega⟩))
    rw[lK (zy.2 ⟨k,vM.2 c,rfl⟩),uu,nW] at this;omega
  have q:=List.nodup_iff_count.1 n (k:Int);have s:=List.count_pos_iff.2 o;simp only[decide_eq_true_eq];omega
theorem Ir{j:Nat}(a:j<l.length)(k:Int):(l.take (j+1)).count k=(l.take j).count k+if l[j]=k then 1 else 0:=by
 rw[yM a,List.count_append,List.count_singleton];by_cases h:l[j]=k<;>simp[h]
theorem Kd(m:Nat):ly (m+1) l=(ly m l&&decide (l.count (m:Int)=1)):=by
 unfold ly;rw[List.range_succ,List.all_append];simp
theorem LU{n m:Nat}(a:m<n)(h:l.count (m:Int)≠1):ly n l=false:=by
 cases b:ly n l with
 |false=>rfl
 |true=>
  have:=ko.1 b m (vM.2 a);exact zC (by simpa using this) h
theorem A6(w:World)(t u:Value)(o:Option (List Int))(n:uF w t o)(j:uF w u o)(G:(o.getD []).length<=281474976710656):
  Calls prog 18 #[t,u] w fun e B=>e=ε (.bool true)/\μ w B:=by
 obtain⟨I,D,rfl⟩:=n.qx;obtain⟨C,p,rfl⟩:=j.qx;have A:=Q5 fun k (h:k<(o.getD []).length)=>n.cell k h;have F:=Q5 fun k (h:k<(o.getD []).length)=>j.cell k h;clear n j;generalize o.getD []=l at *;go_enter func18,ntmps18;go_wp2;go_loopw [5] (fun i wr=>∃k:Nat,k<=l.length/\i=ι k/\μ w wr) (fun i _=>l.length-(intOf i).toNat)
 case atStart=>exact⟨0,zv _,rfl,zo _ _⟩
 case round=>
  obtain⟨k,h,rfl,a⟩:=hrel;have s:=a.size;by_cases d:k<l.length
  ·obtain⟨g,f,rfl,v,c⟩:=A.out k d;obtain⟨y,H,rfl,m,b⟩:=F.out k d;have E:=zl a v c;have r:=zl a m b;have z:g<wr.heap.size:=by omega
   have q:y<wr.heap.size:=by omega
   clear c b;generalize l[k]=x at *;go_wp2;go_quiet (fail)
   go_wp2;go_roundw
   case rel=>exact⟨k+1,by omega,by go_num,zJ a _⟩
   case measure=>simp[intOf];omega
  ·go_wp2;go_ret;exact⟨rfl,a⟩
theorem M8{cs:List zd}{os:List (Option (List Int))}{k:Nat}(b:k<cs.length)(a:k<os.length)(h:vl cs[k] os[k]=false):vi cs (some os)=false:=by
 unfold vi;rw[tX];refine zb (List.all_eq_false.2 ⟨(cs[k],os[k]),vx.2 ⟨k,by simp;omega,by simp⟩,by simp[h]⟩)
theorem Kn{cs:List zd}{os:List (Option (List Int))}(b:os.length=cs.length)(h:∀k (a:k<cs.length) (c:k<os.length),vl cs[k] os[k]=true):vi cs (some os)=true:=by
 unfold vi;simp only[ux,beq_iff_eq,ko];refine⟨b,fun x d=>?_⟩;obtain⟨k,a,rfl⟩:=vx.1 d;simp only[List.length_zip] at a;simpa using h k (by omega) (by omega)
theorem Gy{c:zd}(b:(zw c).length<=5):vl c (some l)=(l.length == (zw c).length&&ly (zw c).length l):=by
 unfold vl;by_cases a:l.length=(zw c).length
 ·rw[←a,L9 (by omega)]
 ·dsimp only;rw[beq_false_of_ne a];rfl
theorem KI(w:World)(mb:Nat)(lv:Value)(cs:List zd)(t:List zh)(M:List Value)(os:List (Option (List Int)))(hm:jY lo w mb cs t){ax:Nat}(ho:w.ownsRow ax 24 1 lv M.length M)(T:M.length=os.length)(X:∀k (r:k<M.length) (N:k<os.length),uF w M[k] os[k])(U:∀o∈os,(o.getD []).length<=2000000)(R:∀c∈cs,c.body.length<=999/\yU (zk c)<=1000/\(zw c).length<=5/\∀l∈zk c,∀t∈l.args,0<t.size)(aB:cs.length<=1000):
  Calls prog 75 #[(π mb),lv,.bool false] w fun e w'=>e=ε (.bool (vi cs (some os)))/\μ w w':=by
 obtain⟨_,cv,pv,kv,Y,Z,_,_⟩:=hm;obtain⟨ao,aI,rfl⟩:=Z.qx;obtain⟨av,a1,rfl⟩:=zp ho;have I:∀k (r:k<os.length),∃C u,av=some ⟨C,0,none⟩/\C<w.heap.size/\w.cell? ⟨C,k,none⟩=some u/\uF w u os[k]:=fun k r=>by
  obtain⟨gb,aw,hv,_,ar,aj⟩:=yv ho (by omega);simp at hv;exact⟨gb,M[k]'(by omega),hv.1,ar,aj k _ (yq (by omega)),X k (by omega) r⟩
 clear ho X;rw[T];clear T;obtain⟨aD,aH,aG⟩:=Y.boxed;by_cases d:os.length=cs.length
 ·rw[d];have an:=Q5 R;have aq:=Q5 U;have HC:=Q5 I;have HL:=Q5 d;clear R U I d;go_enter func75,ntmps75;go_wp2;go_loopw [7] (fun v7 wr=>∃k:Nat,k<=cs.length/\v7=ι k/\μ w wr/\Hid (∀j (r:j<cs.length) (N:j<os.length),j<k->vl cs[j] os[j]=true)) (fun i _=>cs.length-(intOf i).toNat)
  case atStart=>exact⟨0,zv _,rfl,zo _ _,fun j _ _ h=>by omega⟩
  case round=>
   obtain⟨k,hk,rfl,b,HD⟩:=hrel;have a5:=b.size;have O:=Y.below b;obtain⟨aC,aF,a8⟩:=O.boxed;by_cases A:k<cs.length
   ·have K:k<os.length:=by rw[HL.out];exact A
    obtain⟨g,a6,a4,aA,a3,rfl,s⟩:=Z.at k A;obtain⟨a9,aa,ak,ab⟩:=an.out _ (zs A);have af:=aq.out _ (zs K);obtain⟨C,u,rfl,ap,hu,z⟩:=HC.out k K;have v:=zl b ap hu;have f:C<wr.heap.size:=by omega
    have z:=z.below b;have s:=s.below b;have HF:=Q5 fun(h:vl cs[k] os[k]=false)=>M8 A K h;have HT:Hid (vl cs[k] os[k]=true->∀j (r:j<cs.length) (N:j<os.length),j<k+1->vl cs[j] os[j]=true):=fun h j r N hj=>by
     by_cases e:j=k
     ·subst e;exact h
     ·exact HD.out j r N (by omega)
    clear HD hu;generalize cs[k]=c at *;generalize os[k]=o at *;have HV:=Q5 (o9 wr true g (k*4) c _ _ _ _ s (by omega) aa ab);rw[Ff] at HV;have a0:=s.lt;clear aa ab s;cases o with
    |none=>
     have h0:u=ν:=z;subst h0;have H:∀W:World,(binOp .eql 24 (ν) (ν)).run prog W=.ok (.bool true) W:=fun W=>by
      have:=run_equal_slice_nil W 24 3 none 0 0 underlying24;simp[binOp,this]
     go_wp2_with (go_at_call 108;refine HV.out.mono ?_;rintro e J ⟨vv,rfl,p,a⟩;obtain⟨ah,B,rfl⟩:=p.qx;have q:=Q9 b a;have E:=zl a f v;have y:C<J.heap.size:=(by have:=a.size;omega))
     go_roundw
     case rel=>exact⟨k+1,by omega,by go_num,q,HT.out rfl⟩
     case measure=>simp[intOf];omega
    |some l=>
     obtain⟨g2,f2,D,rfl,ai,G⟩:=z;have H:∀W:World,(binOp .eql 24 (.slice (some ⟨g2,f2,none⟩) l.length D) (ν)).run prog W=.ok (.bool false) W:=fun W=>by
      have:=run_equal_slice_nil W 24 3 (some ⟨g2,f2,none⟩) l.length D underlying24;simp[binOp,this]
     have HE:=Q5 (Gy (l:=l) ak);have ay:l.length<=2000000:=af;generalize zw c=vs at *;by_cases P:l.length=vs.length
     ·rw[P] at v H;have S:=Q5 G;have ac:=Q5 P;have ag:Hid (vl c (some l)=ly vs.length l):=by
       show _=_;rw[HE.out,P,beq_self_eq_true];rfl
      clear P G HE ay af;go_wp2_with (go_at_call 108;refine HV.out.mono ?_;rintro e J ⟨vv,rfl,p,a⟩;obtain⟨ah,B,rfl⟩:=p.qx;have q:=Q9 b a;have E:=zl a f v;have y:C<J.heap.size:=(by have:=a.size;omega);have a2:g2<J.heap.size:=(by have:=a.size;omega))
      have ae:Hid (∀j (h:j<l.length),J.cell? ⟨g2,f2+j,none⟩=some (ι l[j])):=fun j h=>zl a ai (S.out j h);clear S v HV f ai p a;go_loopw [9] (fun v9 wj=>∃m:Nat,m<=vs.length/\v9=ι m/\wj=J/\Hid (ly m l=true)) (fun i _=>vs.length-(intOf i).toNat)
      case atStart=>exact⟨0,zv _,rfl,rfl,rfl⟩
      case round=>
       obtain⟨m,hm,rfl,rfl,HM⟩:=hrel;by_cases am:m<vs.length
       ·go_wp2;go_loopw [10,11] (fun au az wi=>∃(j n:Nat),j<=vs.length/\n<=j/\az=ι j/\au=ι n/\wi=wr/\Hid (n=(l.take j).count (m:Int))) (fun _ i _=>vs.length-(intOf i).toNat)
        case atStart=>exact⟨0,0,zv _,zv _,rfl,rfl,rfl,by simp[Hid]⟩
        case round=>
         obtain⟨j,n,hj,a7,rfl,rfl,rfl,HN⟩:=hrel;by_cases al:j<vs.length
         ·have F:j<l.length:=by rw[ac.out];exact al
          have aE:=ae.out j F;have V:=Q5 (Ir F (m:Int));generalize l[j]=x at *;by_cases L:x=(m:Int)
          ·subst L;go_wp2;go_roundw
           case rel=>exact⟨j+1,n+1,by omega,by omega,by go_num,by go_num,trivial,by show _=_;rw[V.out,←HN.out];simp⟩
           case measure=>simp[intOf];omega
          ·have hb:(x == (m:Int))=false:=beq_false_of_ne L;go_wp2;go_roundw
           case rel=>exact⟨j+1,n,by omega,by omega,by go_num,rfl,trivial,by show _=_;rw[V.out,←HN.out,za L];rfl⟩
           case measure=>simp[intOf];omega
         ·have ad:Hid (n=l.count (m:Int)):=by
           show _=_;rw[HN.out,xh (by rw[ac.out];omega)]
          by_cases r:n=1
          ·subst r;go_wp2;go_roundw
           case rel=>exact⟨m+1,by omega,by go_num,trivial,by show _=_;rw[Kd,HM.out,←ad.out];rfl⟩
           case measure=>simp[intOf];omega
          ·have Q:((n:Int) != 1)=true:=by rw[bne_iff_ne];omega
           go_wp2;go_ret;exact⟨by rw[HF.out (by rw[ag.out];exact LU am (by rw[←ad.out];exact r))];rfl,q⟩
       ·go_wp2;go_roundw
        case rel=>exact⟨k+1,by omega,by go_num,q,HT.out (by rw[ag.out,show vs.length=m from by omega];exact HM.out)⟩
        case measure=>simp[intOf];omega
     ·have Q:((l.length:Int) != (vs.length:Int))=true:=by rw[bne_iff_ne];omega
      go_wp2_with (go_at_call 108;refine HV.out.mono ?_;rintro e J ⟨vv,rfl,p,a⟩;obtain⟨ah,B,rfl⟩:=p.qx;have q:=Q9 b a;have E:=zl a f v;have y:C<J.heap.size:=(by have:=a.size;omega))
      go_ret;exact⟨by rw[HF.out (by rw[HE.out];simp[P])];rfl,q⟩
   ·go_wp2;go_ret;exact⟨by rw[Kn HL.out fun j r N=>HD.out j r N (by omega)];rfl,b⟩
 ·have Q:((os.length:Int) != (cs.length:Int))=true:=by rw[bne_iff_ne];omega
  have hB:vi cs (some os)=false:=by unfold vi;simp[d]
  rw[hB];go_enter func75,ntmps75;go_wp2;go_ret;exact⟨rfl,(by repeat'(first|with_reducible(first|apply zR|assumption|apply zN|apply zA|apply zD|apply zS)|go_size))⟩
end
end Go.Proofs.YteampbddflhngaaGreat
