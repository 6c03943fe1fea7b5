import Derived.Test.YteampbddflhngaaGreatZ17
import Derived.Test.YteampbddflhngaaGreatZ28
import Derived.Test.YteampbddflhngaaGreatZ31
import Derived.Test.YteampbddflhngaaGreatZ32
namespace Go.Proofs.YteampbddflhngaaGreat
set_option linter.all false
set_option maxRecDepth 100000
set_option maxHeartbeats 8000000
section
open Go.RowKit
theorem mD(w:World)(m:Nat):μ w (w.drewN m):=zJ (zo _ _) m
abbrev zE:=ByteArray×κ×Nat
def yP(a:ByteArray)(row:κ):List zE->Option Nat
 |[]=>none
 |f::b=>if f.1=a/\f.2.1=row then some 0 else(yP a row b).map (·+1)
def gW(a:ByteArray)(row:κ)(fs:List zE):Int:=match yP a row fs with
 |none=>-1
 |some k=>k
theorem CZ{a:ByteArray}{row:κ}{fs:List zE}{k:Nat}(b:k<fs.length):yP a row (fs.drop k)=if fs[k].1=a/\fs[k].2.1=row then some 0 else(yP a row (fs.drop (k+1))).map (·+1):=by
 rw[xn b];rfl
end
section
open Go.Proofs.Tryz Go.RowKit
theorem Do{lo z:Nat}(w:World)(E I:Value)(a b:κ)(v:QF lo w E a)(u:QF z w I b)(hl:a.length<=1000000)(P:b.length<=2000000):
  Calls prog 84 #[E,I] w fun e U=>e=ε (.bool (decide (a=b)))/\μ w U:=by
 obtain⟨ao,Y,rfl⟩:=v.qx;obtain⟨aa,G,rfl⟩:=u.qx;by_cases d:a.length=b.length
 ·have t:=Q7 d;rw[←d];clear d;have Z:Hid (∀k,k<a.length->a.getD k ByteArray.empty≠b.getD k ByteArray.empty->decide (a=b)=false):=fun k _ q=>by
   simp only[decide_eq_false_iff_not];rintro rfl;exact q rfl
  have HT:Hid ((∀k,k<a.length->a.getD k ByteArray.empty=b.getD k ByteArray.empty)->decide (a=b)=true):=fun q=>by
   simp only[decide_eq_true_eq];refine kX t.out fun i N T=>?_;have:=q i N;rwa [QD _ N,QD _ T] at this
  generalize decide (a=b)=r at *;have S:=Q7 v;have O:=Q7 u;clear v u;go_enter func84,ntmps84;go_wp2;go_loopw [5] (fun i wr=>∃k:Nat,k<=a.length/\i=ι k/\Hid (∀j,j<k->a.getD j ByteArray.empty=b.getD j ByteArray.empty)/\μ w wr) (fun i _=>a.length-(intOf i).toNat)
  case atStart=>exact⟨0,zv _,rfl,fun j F=>by omega,zo _ _⟩
  case round=>
   obtain⟨k,hk,rfl,M,c⟩:=hrel;have L:=c.size;by_cases f:k<a.length
   ·have l:k<b.length:=by rw[←t.out];exact f
    obtain⟨g,rfl,V,p⟩:=S.out.cell k f;obtain⟨W,X,B,h⟩:=O.out.cell k l;subst X;have R:=zl c V p;have K:=zl c B h;have Q:g<wr.heap.size:=by omega
    have H:W<wr.heap.size:=by omega
    clear p h;have s:Hid (a.getD k ByteArray.empty=a[k]):=QD _ f;have o:Hid (b.getD k ByteArray.empty=b[k]):=QD _ l;by_cases m:a[k]=b[k]
    ·have D:=gE m;have A:=Q7 m;clear m;generalize a[k]=x at *;generalize b[k]=y at *;go_wp2;go_quiet (fail)
     go_wp2;go_roundw
     case rel=>exact⟨k+1,by omega,by go_num,fun j F=>(by
      by_cases C:j=k
      ·rw[C,s.out,o.out,A.out]
      ·exact M.out j (by omega)),zJ c _⟩
     case measure=>simp[intOf];omega
    ·have D:=j5 m;have n:=Q7 (Z.out k f (by rw[s.out,o.out];exact m));clear m;generalize a[k]=x at *;generalize b[k]=y at *;go_wp2;go_quiet (fail)
     go_wp2;go_ret;exact⟨by rw[n.out];rfl,zJ c _⟩
   ·have n:=Q7 (HT.out fun j F=>M.out j (by omega));go_wp2;go_ret;exact⟨by rw[n.out];rfl,c⟩
 ·have J:¬(a.length:Int)=(b.length:Int):=by omega
  have n:Hid (decide (a=b)=false):=show decide (a=b)=false by
   simp only[decide_eq_false_iff_not];rintro rfl;exact d rfl
  generalize decide (a=b)=r at *;clear v u d;go_enter func84,ntmps84;go_wp2;go_ret;exact⟨by rw[n.out];rfl,zo _ _⟩
def mM(w:World)(v:Value)(fs:List zE):Prop:=∃c a,v=.slice c fs.length a/\∀i (h:i<fs.length),∃g b d,c=some ⟨g,0,none⟩/\g<w.heap.size/\w.cell? ⟨g,i*3,none⟩=some (.string fs[i].1)/\w.cell? ⟨g,i*3+1,none⟩=some b/\w.cell? ⟨g,i*3+2,none⟩=some (ι (fs[i].2.2:Nat))/\QF d w b fs[i].2.1
theorem mM.below{w w':World}{v:Value}{fs:List zE}(h:mM w v fs)(a:μ w w'):mM w' v fs:=by
 obtain⟨e,c,p,o⟩:=h;refine⟨e,c,p,fun i m=>?_⟩;obtain⟨g,d,k,f,b,q,j,n,l⟩:=o i m;exact⟨g,d,k,f,xP b a.size,(zl a b q),(zl a b j),(zl a b n),l.below a⟩
theorem F0{E:Nat}(w:World)(y rd:Nat)(v:Value)(fs:List zE)(b:ByteArray)(F:Value)(row:κ)(M:Q8 w y #[v,ι rd] 54)(h:mM w v fs)(O:QF E w F row)(hl:fs.length<=10000000)(C:row.length<=2000000)(A:∀f∈fs,f.2.1.length<=1000000):
  Calls prog 45 #[(π y),.string b,F] w fun e w'=>e=ε (ι (gW b row fs))/\μ w w':=by
 have I:=Q7 fun W lo Q (a:κ) (hb:μ w W) (ha:QF lo W Q a) (Z:a.length<=1000000)=>Do W Q F a row ha (O.below hb) Z C;obtain⟨ab,X,rfl⟩:=O.qx;obtain⟨ao,L,rfl,d⟩:=h;have V:w.cell? ⟨y,0,none⟩=some (.slice ao fs.length L):=by rw[M.rules.1];rfl
 have u:=M.lt;have HC:=Q7 d;have D:=Q7 A;have H0:Hid (yP b row fs=(yP b row (fs.drop 0)).map (·+0)):=show yP b row fs=_ by simp
 have S:Hid (gW b row fs=match yP b row fs with|none=>-1|some k=>(k:Int)):=show gW b row fs=_ from rfl
 clear d O A M;generalize gW b row fs=G at *;generalize yP b row fs=l at *;go_enter func45,ntmps45;go_wp2;go_loopw [7,8] (fun i _ wr=>∃k:Nat,k<=fs.length/\i=ι k/\Hid (l=(yP b row (fs.drop k)).map (·+k))/\μ w wr) (fun i _ _=>fs.length-(intOf i).toNat)
 case atStart=>exact⟨0,zv _,rfl,H0,zo _ _⟩
 case round=>
  obtain⟨k,hk,rfl,N,c⟩:=hrel;have Y:=c.size;by_cases n:k<fs.length
  ·have x:(k:Int)<(fs.length:Int):=by omega
   obtain⟨g,rv,J,rfl,U,R,P,_,T⟩:=HC.out k n;have xm:=zl c u V;have t:y<wr.heap.size:=by omega
   have q:=N.out;rw[CZ n] at q;have r:=Q7 q;clear q N;have x0:=zl c U R;have x1:=zl c U P;have aa:g<wr.heap.size:=by omega
   have B:=Q7 (I.out wr J _ _ c (T.below c) (D.out _ (zs n)));clear R P T;generalize fs[k].2.1=H at *;generalize fs[k].1=fp at *;by_cases o:fp=b
   ·have K:=gE o;by_cases j:H=row
    ·have s:Hid (l=some k):=show l=some k by rw[r.out,zc ⟨o,j⟩];simp
     have m:=Q7 (show G=(k:Int) by rw[S.out,s.out]);rw[show decide (H=row)=true by simp[j]] at B;clear r o j;go_wp2_with (go_at_call 84;refine B.out.mono ?_;rintro e w1 ⟨rfl,p⟩)
     go_ret;exact⟨by rw[m.out];rfl,QB c p⟩
    ·have s:Hid (l=(yP b row (fs.drop (k+1))).map (·+(k+1))):=show l=_ by
      rw[r.out,za (fun z=>j z.2),Option.map_map];congr 1;funext z;simp only[Function.comp];omega
     rw[show decide (H=row)=false by simp[j]] at B;clear r o j;go_wp2_with (go_at_call 84;refine B.out.mono ?_;rintro e w1 ⟨rfl,p⟩)
     exact⟨⟨k+1,by omega,by go_num,s,QB c p⟩,by simp[intOf];omega⟩
   ·have K:=j5 o;have s:Hid (l=(yP b row (fs.drop (k+1))).map (·+(k+1))):=show l=_ by
     rw[r.out,za (fun z=>o z.1),Option.map_map];congr 1;funext z;simp only[Function.comp];omega
    clear r o;go_wp2;exact⟨⟨k+1,by omega,by go_num,s,c⟩,by simp[intOf];omega⟩
  ·have x:¬(k:Int)<(fs.length:Int):=by omega
   have xm:=zl c u V;have t:y<wr.heap.size:=by omega
   have m:Hid (G=-1):=show G=-1 by
    rw[S.out,N.out,uj (by omega)];rfl
   go_wp2;go_ret;exact⟨by rw[m.out];rfl,c⟩
end
def fC(t:List zh)(p:Nat):ByteArray:=(QA t).getD p ByteArray.empty
section
open Go.RowKit
theorem QN.runos{cs:List zd}{n t:List zh}(h:QN cs n t){os:Option (List (Option (List Int)))}(f:vq cs os=true):pA cs t os/\nI (vd t (zq cs) os cs):=by
 have a:nI (vd t (zq cs) os cs):=ib h _ os (ea f fun c k=>lu (h.many c k));obtain⟨b,_⟩:=h.runok;have g:(os.getD []).length<=cs.length/\∀o∈os.getD [],(o.getD []).length<=5:=by
  cases os with
  |none=>simp
  |some l=>
   unfold vq at f;simp only[uw,beq_iff_eq,kh] at f;refine⟨by simp;omega,fun o g=>?_⟩;obtain⟨i,q,rfl⟩:=vw.1 (show o∈l from g);have:=f.2 (cs[i]'(by omega),l[i]) (by
    rw[vw];exact⟨i,by simp;omega,by simp⟩)
   cases m:l[i] with
   |none=>simp
   |some o=>
    rw[m] at this;simp only[vi,uw,beq_iff_eq] at this;have p:=lu (h.many cs[i] (zs (by omega)));simp only[ux];omega
 have e:=b.len;refine⟨⟨b.len,b.names,b.fine,b.sums,b.few,b.vals,b.jl,by omega,fun o h=>by have:=g.2 o h;omega,fun _ o h=>by have:=g.2 o h;omega,fun _=>?_⟩,a⟩;have d:=b.set rfl;exact⟨fun r j=>⟨fun l e=>((a.rules.rules r j).qc l e).1,fun l e=>⟨((a.rules.rules r j).qp l e).1,a.rules.apart r j r j rfl l e⟩⟩,d.many,d.small,d.rows,d.facts,d.qf⟩
end
section
open Classical
variable {t t0:List zh}{cs:List zd}
theorem Iu{c:List zh}{l:zj}(b:∀e∈t,e.qh=0)(h:vE t l=some c):∀e∈c,e.qh=0:=by
 unfold vE at h;split at h
 ·split at h
  ·simp only[zt] at h;subst h;exact b
  ·cases h
 ·simp only[zt] at h;subst h;intro e a;rcases r8.1 a with rfl|a
  ·rfl
  ·exact b e a
theorem AT:∀(b done:List zj) (t:List zh),RK t done->(∀e∈t,e.qh=0)->(∀x∈done++b,∀y∈done++b,x.pred=y.pred->x.args.length=y.args.length)->∃f,b.foldl um (some t)=some f/\RK f (done++b)/\∀e∈f,e.qh=0
 |[],done,t,h,g,_=>⟨t,rfl,by simpa using h,g⟩
 |l::b,done,t,h,g,m=>by
  rw[ut];cases a:vE t l with
  |none=>
   exfalso;unfold vE at a;split at a
   ·rename_i e s;obtain⟨n,q⟩:=nA s;split at a
    ·cases a
    ·rename_i i;obtain⟨k,d,c⟩:=(h.names e.name).1 (z7.2 ⟨e,n,rfl⟩);apply i;rw[←h.jh e n k d c];exact m k (by simp[d]) l (by simp) (c.trans q)
   ·cases a
  |some j=>
   rw[show um (some t) l=some j from a];obtain⟨f,r,o,p⟩:=AT b (done++[l]) j (h.step a) (Iu g a) (by simpa [List.append_assoc] using m);exact⟨f,r,by simpa [List.append_assoc] using o,p⟩
theorem NF{c:List zj}(h:RK t c){x y:zj}(f:x∈c)(g:y∈c)(e:x.pred=y.pred):x.args.length=y.args.length:=by
 obtain⟨a,d,b⟩:=z7.1 ((h.names x.pred).2 ⟨x,f,rfl⟩);rw[h.jh a d x f b.symm,h.jh a d y g (e.symm.trans b.symm)]
theorem Bc(h:RK t (cs.flatMap zk)):km t cs:=by
 intro c a l d;cases g:yo t l.pred with
 |some e=>rfl
 |none=>
  obtain⟨e,b,f⟩:=z7.1 ((h.names l.pred).2 ⟨l,uS.2 ⟨c,a,d⟩,rfl⟩);exact zC f (nY h.rise g e b)
theorem Md(h:∀e∈t,e.qh=0)(n:ByteArray):val t n=0:=by
 unfold val;split
 ·rename_i e a;exact h e (nA a).1
 ·rfl
theorem Jo(h:ui cs=some t0):∀e∈t0,e.qh=0:=by
 have c:=AZ h;obtain⟨u,u1,u2,u3⟩:=AT (cs.flatMap zk) [] [] tz (fun e f=>by cases f) (fun x b y a e=>NF c (by simpa using b) (by simpa using a) e);have d:u=t0:=by unfold ui at h;rw[u1] at h;simpa using h
 subst d;exact u3
theorem QN.least(h:QN cs t0 t):Rp cs (val t):=by
 have:=(sQ (Bc h.tab) (Md (Jo h.coll))).2 (by rw[h.jl]);rwa [h.jl] at this
theorem QN.nam(h:QN cs t0 t):QA t=QA t0/\R6 t=R6 t0:=by
 have a:=wD (t0.length+1) t0 cs (Bc h.tab);have b:=pO (t0.length+1) t0 cs;rw[h.jl] at a b;exact⟨a,b⟩
end
section
open Classical
theorem AS{cs:List zd}{d t:List zh}(h:QN cs d t){c:zd}(b:c∈cs){l:zj}(a:l∈zk c):l.pred∈QA t:=by
 rw[h.nam.1];exact(h.tab.names l.pred).2 ⟨l,uS.2 ⟨c,b,a⟩,rfl⟩
theorem Bd{t:List zh}{ns:κ}(cs:List zd)(s:Nat):((uE t ns none cs).filter fun r=>decide (r.qh=s))=[]↔¬∃c∈cs,0<c.body.length/\xr t c.head.pred=s:=by
 rw[List.filter_eq_nil_iff];constructor
 ·rintro q ⟨c,d,a,f⟩;obtain⟨i,b,rfl⟩:=vw.1 d;have:=q _ (pU.2 ⟨i,b,a,rfl⟩);exact this (decide_eq_true f)
 ·intro q r g;obtain⟨i,b,a,rfl⟩:=pU.1 g;exact fun e=>q ⟨_,zs b,a,of_decide_eq_true e⟩
theorem Nn{rs:List zr}{k:Nat}{D:DB}{p:Nat}{x:zm}{m:Nat}(h:D p x=some m):zyr rs k D p x=some m:=by
 unfold zyr;rw[h]
end
section
open Classical
variable {ns:κ}
def Re(σ:ByteArray->ByteArray)(l:zj):κ:=l.args.map fun a=>if zP a=true then σ a else a
theorem iQ{i:Nat}(h:i<ns.length):ns.getD i ByteArray.empty∈ns:=by
 rw[QD _ h];exact zs h
theorem wu{cs:List zd}{c:zd}(h:c∈cs){l:zj}(k:l∈zk c)(p:l.args.length<=3)(σ:ByteArray->Nat):uk (zq cs) (qd (zq cs) σ l) l.args.length 3=Re (fun v=>(zq cs).getD (σ v) ByteArray.empty) l:=by
 have b:=hZ cs;have a:∀i (d:i<l.args.length),(zq cs).getD ((qd (zq cs) σ l).getD i 0) ByteArray.empty=if zP l.args[i]=true then(zq cs).getD (σ l.args[i]) ByteArray.empty else l.args[i]:=by
  intro i d;have e:(qd (zq cs) σ l).getD i 0=jN (zq cs) σ l i:=by
   have:i=0∨i=1∨i=2:=by omega
   rcases this with rfl|rfl|rfl<;>rfl
  rw[e];unfold jN;rw[yp d];simp only;split
  ·rfl
  ·rename_i g;have j:=(b.2 _).2 ⟨c,h,l,k,zs d,by simpa using g⟩;obtain⟨v,f,n⟩:=Pj b.1 j;rw[f];exact(FO f).2
 apply kX
 ·simp[uk,Re]
 ·intro i m o;have d:i<l.args.length:=by simpa [uk] using m
  simp only[uk,Re,uJ,mI];rw[zc (by omega),a i d]
theorem Nb(p:yC ns){l:zj}{r:zm}(g:QP l.args.length r)(k:∀i,i<l.args.length->r.getD i 0<ns.length){σ:ByteArray->ByteArray}(h:uk ns r l.args.length 3=Re σ l):r=qd ns (fun v=>(ur ns (σ v)).getD 0) l:=by
 have d:∀i,i<3->r.getD i 0=jN ns (fun v=>(ur ns (σ v)).getD 0) l i:=by
  intro i o;unfold jN;by_cases j:i<l.args.length
  ·have e:(uk ns r l.args.length 3)[i]'(by rw[tr];exact j)=(Re σ l)[i]'(by simp[Re];exact j):=by simp only[h]
   simp only[uk,Re,uJ,mI] at e;rw[zc (by omega)] at e;have m:=rJ p (k i j);rw[yp j];simp only;split
   ·rename_i f;rw[zc f] at e;rw[←e,m];rfl
   ·rename_i f;rw[za f] at e;rw[←e,m];rfl
  ·rw[kV (by omega)];exact g.2 i (by omega)
 match r,g.1 with
 |[a,b,c],_=>
  have n:=d 0 (by omega);have s:=d 1 (by omega);have q:=d 2 (by omega);unfold qd;rw[←n,←s,←q];rfl
end
section
open Classical
abbrev yz:=List (ByteArray×ByteArray)
def QL:yz->ByteArray->Option ByteArray
 |[],_=>none
 |x::B,t=>if x.1=t then some x.2 else QL B t
def yd(B:yz)(t:ByteArray):ByteArray:=if zP t=true then(QL B t).getD ByteArray.empty else t
def xj:yz->κ->κ->Option yz
 |B,[],_=>some B
 |B,a::b,row=>if yd B a=ByteArray.empty then xj (B++[(a,row.headD ByteArray.empty)]) b row.tail else if yd B a=row.headD ByteArray.empty then xj B b row.tail else none
def y9(B:yz)(args:κ):κ:=args.map (yd B)
theorem r5(B C:yz)(t:ByteArray):QL (B++C) t=(QL B t).or (QL C t):=by
 induction B with
 |nil=>rfl
 |cons x B a=>
  rw[lR,QL,QL];split
  ·rfl
  ·exact a
def vZ(B:yz):Prop:=∀v x,QL B v=some x->x≠ByteArray.empty
def Sx(B C:yz):Prop:=∀v x,QL B v=some x->QL C v=some x
theorem Sx.trans{A B C:yz}(h:Sx A B)(k:Sx B C):Sx A C:=fun v x q=>k v x (h v x q)
theorem nJ{B C:yz}(h:Sx B C){t:ByteArray}(a:yd B t≠ByteArray.empty):yd C t=yd B t:=by
 unfold yd at *;split
 ·rename_i q;rw[zc q] at a;cases b:QL B t with
  |none=>rw[b] at a;exact zC rfl a
  |some x=>rw[h t x b]
 ·rfl
theorem pI:∀(args row:κ) (B b:yz),args.length=row.length->(∀x∈row,x≠ByteArray.empty)->(∀a∈args,a≠ByteArray.empty)->vZ B->xj B args row=some b->vZ b/\Sx B b/\y9 b args=row
 |[],row,B,b,k,_,_,n,h=>by
  simp only[xj,zt] at h;subst h;have:row=[]:=by cases row with|nil=>rfl|cons a r=>simp at k
  subst this;exact⟨n,fun v x q=>q,rfl⟩
 |a::g,[],B,b,k,_,_,_,_=>by simp at k
 |a::g,r::j,B,b,k,A,s,n,h=>by
  have i:g.length=j.length:=by simpa using k
  have w:=A r (by simp);have p:=s a (by simp);unfold xj at h;change (if yd B a=ByteArray.empty then xj (B++[(a,r)]) g j else if yd B a=r then xj B g j else none)=some b at h;split at h
  ·rename_i c;have d:zP a=true:=by
    false_or_by_contra
    rename_i q;unfold yd at c;rw[za q] at c;exact p c
   have o:QL B a=none:=by
    unfold yd at c;rw[zc d] at c;cases f:QL B a with
    |none=>rfl
    |some x=>rw[f] at c;exact zC c (n a x f)
   have t:vZ (B++[(a,r)]):=by
    intro v x q;rw[r5] at q;cases f:QL B v with
    |some y=>rw[f] at q;simp only[Option.some_or,zt] at q;rw[←q];exact n v y f
    |none=>
     rw[f] at q;simp only[Option.none_or,QL] at q;split at q
     ·simp only[zt] at q;rw[←q];exact w
     ·cases q
   have C:Sx B (B++[(a,r)]):=by
    intro v x q;rw[r5,q];rfl
   obtain⟨u,l,m⟩:=pI g j _ b i (fun x e=>A x (by simp[e])) (fun x e=>s x (by simp[e])) t h;refine⟨u,C.trans l,?_⟩;unfold y9 at m ⊢;rw[xH,m];congr 1;have:QL (B++[(a,r)]) a=some r:=by
    rw[r5,o];simp[QL]
   unfold yd;rw[zc d,l a r this];rfl
  ·rename_i c;by_cases z:yd B a=r
   ·rw[zc z] at h;obtain⟨u,l,m⟩:=pI g j B b i (fun x e=>A x (by simp[e])) (fun x e=>s x (by simp[e])) n h;refine⟨u,l,?_⟩;unfold y9 at m ⊢;rw[xH,m,nJ l c,z]
   ·rw[za z] at h;cases h
def RV(B:yz)(σ:ByteArray->ByteArray):Prop:=∀v x,QL B v=some x->σ v=x
theorem tw{σ:ByteArray->ByteArray}(c:∀a,σ a≠ByteArray.empty):∀(args:κ) (B:yz),(∀a∈args,a≠ByteArray.empty)->RV B σ->∃l,xj B args (args.map fun a=>if zP a=true then σ a else a)=some l/\RV l σ
 |[],B,_,h=>⟨B,rfl,h⟩
 |a::k,B,g,h=>by
  unfold xj;simp only[xH,List.headD_cons,lW];by_cases b:zP a=true
  ·rw[zc b];cases i:QL B a with
   |none=>
    have f:yd B a=ByteArray.empty:=by unfold yd;rw[zc b,i];rfl
    rw[zc f];refine tw c k _ (fun x d=>g x (by simp[d])) fun v x q=>?_;rw[r5] at q;cases j:QL B v with
    |some y=>rw[j] at q;simp only[Option.some_or,zt] at q;rw[←q];exact h v y j
    |none=>
     rw[j] at q;simp only[Option.none_or,QL] at q;split at q
     ·rename_i e;simp only[zt] at q;rw[←q,e]
     ·cases q
   |some x=>
    have d:=h a x i;have f:yd B a=x:=by unfold yd;rw[zc b,i];rfl
    rw[f,za (by rw[←d];exact c a),zc d.symm];exact tw c k B (fun x d=>g x (by simp[d])) h
  ·have f:yd B a=a:=by unfold yd;rw[za b]
   rw[za b,f,za (g a (by simp)),zc rfl];exact tw c k B (fun x d=>g x (by simp[d])) h
theorem Bh{a:ByteArray}{row:κ}:∀{fs:List zE} {k:Nat},yP a row fs=some k->∃e:k<fs.length,fs[k].1=a/\fs[k].2.1=row
 |[],_,h=>by cases h
 |f::fs,k,h=>by
  unfold yP at h;split at h
  ·rename_i q;simp only[zt] at h;subst h;exact⟨by simp,by simpa using q⟩
  ·obtain⟨j,d,rfl⟩:=vM.1 h;obtain⟨b,c⟩:=Bh d;exact⟨by simpa using b,by simpa using c⟩
theorem BM{a:ByteArray}{row:κ}:∀{fs:List zE},yP a row fs=none->∀m,(a,row,m)∉fs
 |[],_,m,h=>by cases h
 |f::fs,b,m,h=>by
  unfold yP at b;split at b
  ·cases b
  ·rename_i q;rw[Option.map_eq_none_iff] at b;rcases zx.1 h with e|h
   ·rw[←e] at q;exact q ⟨rfl,rfl⟩
   ·exact BM b m h
theorem RV.val{B:yz}{σ:ByteArray->ByteArray}(h:RV B σ){a:ByteArray}(b:yd B a≠ByteArray.empty):yd B a=if zP a=true then σ a else a:=by
 unfold yd at *;split
 ·rename_i q;rw[zc q] at b;cases c:QL B a with
  |none=>rw[c] at b;exact zC rfl b
  |some x=>rw[h a x c];rfl
 ·rfl
end
section
open Go.RowKit
def xp(B:yz):κ:=B.map (·.1)
def xU(B:yz):κ:=B.map (·.2)
theorem I8{B:yz}{k:Nat}(a:k<B.length)(t:ByteArray):QL (B.drop k) t=if B[k].1=t then some B[k].2 else QL (B.drop (k+1)) t:=by
 rw[xn a];rfl
end
section
open Go.Proofs.Tryz Go.RowKit
def gG(B:yz)(t:ByteArray):Bool:=!zP t||(QL B t).isSome
theorem C6{lo A:Nat}(w:World)(N M:Value)(B:yz)(t:ByteArray)(x:QF lo w N (xp B))(v:QF A w M (xU B))(hl:B.length<=1000)(V:0<t.size):
  Calls prog 211 #[.agg #[N,M],.string t] w fun e E=>e=ε (.tuple #[.string (yd B t),.bool (gG B t)])/\Hid (μ w E):=by
 have d:Hid (∀W,Calls prog 154 #[.string t] W fun e E=>e=ε (.bool (zP t))/\E=W):=fun W=>wh t W V;have F:(xp B).length=B.length:=by simp[xp]
 have I:(xU B).length=B.length:=by simp[xU]
 obtain⟨h,c,rfl⟩:=x.qx;obtain⟨j,b,rfl⟩:=v.qx;rw[F] at x ⊢;rw[I] at v ⊢;have r:Hid (∀W k (q:k<B.length),μ w W->∃g,h=some ⟨g,0,none⟩/\g<W.heap.size/\W.cell? ⟨g,k,none⟩=some (.string B[k].1)):=fun W k q z=>by
  obtain⟨g,y,J,L⟩:=(x.below z).cell k (by rw[F];exact q);exact⟨g,y,J,by rw[L];simp[xp]⟩
 have u:Hid (∀W k (q:k<B.length),μ w W->∃g,j=some ⟨g,0,none⟩/\g<W.heap.size/\W.cell? ⟨g,k,none⟩=some (.string B[k].2)):=fun W k q z=>by
  obtain⟨g,y,J,L⟩:=(v.below z).cell k (by rw[I];exact q);exact⟨g,y,J,by rw[L];simp[xU]⟩
 clear x v F I;cases p:zP t with
 |false=>
  rw[p] at d;have i:Hid (yd B t=t/\gG B t=true):=by unfold Hid yd gG;rw[p];simp
  clear p r u;go_enter func211,ntmps211;go_wp2_with (go_at_call 154;refine(d.out _).mono ?_;rintro e U ⟨rfl,m⟩;obtain rfl:=m.symm)
  go_ret2
  exact⟨by rw[i.out.1,i.out.2];rfl,(zo _ _).alloc (zg _) _⟩
 |true=>
  rw[p] at d;have i:Hid (yd B t=(QL B t).getD ByteArray.empty/\gG B t=(QL B t).isSome):=by unfold Hid yd gG;rw[p];simp
  clear p;go_enter func211,ntmps211;go_wp2_with (go_at_call 154;refine(d.out _).mono ?_;rintro e U ⟨rfl,m⟩;obtain rfl:=m.symm)
  have f:Hid (μ w (w.alloc (.cells #[.slice h B.length c,.slice j B.length b] 270))):=(zo _ _).alloc (zg _) _;have s:=Q8.new w #[.slice h B.length c,.slice j B.length b] 270;obtain⟨hc,hf,X⟩:=s.boxed;clear s;generalize C:w.alloc (.cells #[.slice h B.length c,.slice j B.length b] 270)=S at *;clear C;go_loopw [7] (fun D wr=>∃k:Nat,k<=B.length/\D=ι k/\Hid (QL B t=QL (B.drop k) t)/\wr=S) (fun D _=>B.length-(intOf D).toNat)
  case atStart=>exact⟨0,zv _,rfl,rfl,rfl⟩
  case round=>
   obtain⟨k,q,rfl,H,G⟩:=hrel;obtain rfl:=G.symm;by_cases l:k<B.length
   ·have K:(k:Int)<(B.length:Int):=by omega
    obtain⟨Z,rfl,T,Y⟩:=r.out _ k l f.out;obtain⟨g2,rfl,Q,c2⟩:=u.out _ k l f.out;have o:=I8 l t;by_cases n:B[k].1=t
    ·have O:=gE n;rw[zc n] at o;have a:Hid (yd B t=B[k].2/\gG B t=true):=by rw[Hid,i.out.1,i.out.2,H.out,o];exact⟨rfl,rfl⟩
     clear n o H i;generalize B[k].1=R at *;generalize B[k].2=x2 at *;go_wp2;go_ret2
     exact⟨by rw[a.out.1,a.out.2];rfl,f⟩
    ·have O:=j5 n;rw[za n] at o;have P:Hid (QL B t=QL (B.drop (k+1)) t):=by rw[Hid,H.out,o]
     clear n o H;generalize B[k].1=R at *;go_wp2;go_roundw
     ·exact⟨k+1,by omega,by go_num,P,trivial⟩
     ·simp[intOf];omega
   ·have K:¬(k:Int)<(B.length:Int):=by omega
    have a:Hid (yd B t=ByteArray.empty/\gG B t=false):=by
     rw[Hid,i.out.1,i.out.2,H.out,uj (by omega)];exact⟨rfl,rfl⟩
    clear H i;go_wp2;go_ret2
    exact⟨by rw[a.out.1,a.out.2];rfl,f⟩
theorem FK{lo H T:Nat}(w:World)(i f Y:Value)(B:yz)(args:κ)(h1:QF lo w i (xp B))(h2:QF H w f (xU B))(X:QF T w Y args)(hl:B.length<=1000)(ha:args.length<=1000)(E:∀a∈args,0<a.size):
  Calls prog 195 #[.agg #[i,f],Y] w fun e b=>∃v,e=.returned v/\Hid (QF w.heap.size b v (y9 B args))/\Hid (μ w b):=by
 obtain⟨i0,hi,P,K,C⟩:=info_parts Q0;have M:=Q7 fun W t m S=>C6 W i f B t (h1.below m) (h2.below m) hl S;obtain⟨ao,ah,rfl⟩:=X.qx;have HA:Hid (∀W k (Q:k<args.length),μ w W->∃g,ao=some ⟨g,0,none⟩/\g<W.heap.size/\W.cell? ⟨g,k,none⟩=some (.string args[k])):=fun W k Q m=>(X.below m).cell k Q;clear h1 h2 X;go_enter func195,ntmps195;go_wp2;have u:Hid (μ w (w.alloc (.cells #[i,f] 270))):=(zo _ _).alloc (zg _) _;have r:=Q8.new w #[i,f] 270;have D:=Q7 r;have ab:=r.lt;clear r;generalize I:w.alloc (.cells #[i,f] 270)=A at *;clear I;go_loopw [5,6] (fun v5 J wr=>∃k:Nat,k<=args.length/\J=ι k/\wr.ownsRow A.heap.size 9 1 v5 k ((y9 B (args.take k)).map Value.string)/\Hid (μ A wr)) (fun _ J _=>args.length-(intOf J).toNat)
 case atStart=>exact⟨0,zv _,rfl,yD _ _ _ _,zo _ _⟩
 case round=>
  obtain⟨k,Q,rfl,d,h⟩:=hrel;obtain⟨af,aa,rfl⟩:=zp d;have o:=Q7 (QB u.out (h.out));have ad:=h.out.size;by_cases n:k<args.length
  ·have V:(k:Int)<(args.length:Int):=by omega
   obtain⟨g,rfl,hg,z⟩:=HA.out _ k n o.out;have S:=E _ (zs n);have c:=(D.out.below h.out);obtain⟨hc,hf,Z⟩:=c.boxed;have F:Hid (y9 B (args.take (k+1))=y9 B (args.take k)++[yd B args[k]]):=by
    unfold Hid y9;rw[yL n,uP];rfl
   have HV:Hid (∀W,μ wr W->Calls prog 211 #[.agg #[i,f],.string args[k]] W fun e b=>e=ε (.tuple #[.string (yd B args[k]),.bool (gG B args[k])])/\Hid (μ wr b)/\b.cell? ⟨g,k,none⟩=some (.string args[k])/\b.cell? ⟨w.heap.size,0,none⟩=some i/\b.cell? ⟨w.heap.size,1,none⟩=some f):=fun W m=>by
    refine(M.out W args[k] (QB o.out m) S).mono ?_;rintro e b ⟨q1,q2⟩;have p:=QB m q2.out;have s:=c.below p;exact⟨q1,p,(zl p hg z),by rw[s.rules.1];rfl,by rw[s.rules.1];rfl⟩
   clear c;generalize yd B args[k]=x at *;generalize gG B args[k]=kn at *;generalize args[k]=y at *;go_upto_region 5 with fail
   go_cut [7,8] from 15 to 23 (fun s7 _ wx=>s7=.string x/\Hid (μ wr wx))
   case first=>
    go_region_held3 (fun b=>b.cell? ⟨g,k,none⟩=some (.string y)/\b.cell? ⟨w.heap.size,0,none⟩=some i/\b.cell? ⟨w.heap.size,1,none⟩=some f) (first|go_keep|(go_simp;done)) (first|(go_at_call 211;refine(HV.out _ (by exact(by repeat'(first|with_reducible(first|apply zR|assumption|apply zN|apply zA|apply zD|apply zS)|go_size)))).mono ?_;rintro e w5 ⟨rfl,O,z0,z1,z2⟩))
    go_wp2;go_meet
    case rel=>exact⟨rfl,O⟩
   case rest=>
    obtain⟨rfl,l⟩:=hcut;have R:=zB d l.out;have ac:=l.out.size;have j:=Q7 (QB h.out l.out);clear hc hf z;go_wp2_with (at_builtin;refine ki wc _ _ _ rfl (.tmp 24) (.tmp 26) 30 rfl A.heap.size 9 i0 _ 1 16 underlying30 hi P K C rfl (by decide) _ _ _ rfl R (zo _ _) _ _ rfl (by simp) rfl (by simp[Value.oneCell']) (by omega) (by omega) j.out.size ?_;intro v' w2 G L U N ag ae;clear U N)
    go_roundw
    ·exact⟨k+1,by omega,by go_num,by rw[F.out];simpa using G,j.out.trans L⟩
    ·simp[intOf];omega
  ·have V:¬(k:Int)<(args.length:Int):=by omega
   obtain rfl:k=args.length:=by omega
   go_wp2;go_ret;refine⟨_,rfl,?_,o⟩;have q:=d;rw[vr] at q;have e:(y9 B args).length=args.length:=by simp[y9]
   unfold Hid QF;rw[e];exact yt q (by have:=u.out.size;omega)
section
variable {ops:Array Oper} {rest:List Oper} {o:Oper} {a:Act} {Q:Exit->Act->World->Prop}
theorem Fv{lo:Nat}{w:World}(d:o.guard=none)(s x:Operand)
  (E:o.op=.call {callee:=.builtin .append,args:=#[s,x],argTypes:=#[30,30]})
  (b:κ) (v:Value) (A:a.eval s=ν) (B:a.eval x=v) (H:QF lo w v b) (O:b.length<=1000000)
  (h:∀y t,QF w.heap.size t y b->μ w t->wpList prog ops Q rest (a.put o.dst y) t):
  wpList prog ops Q (o::rest) a w:=by
 obtain⟨z,D,r,m,f⟩:=info_parts Q0;obtain⟨_,⟨n,I⟩|⟨C,c,F,n,J,N,L,M,G,q⟩⟩:=H
 ·have p:b=[]:=rg I;refine wpList_append_own_none d s x 30 E w.heap.size 9 z 1 underlying30 D _ 0 [] A (yD _ _ _ _) (by rw[B,n]) ?_;refine h _ _ ?_ (zo _ _);rw[p];exact yD _ _ _ _
 ·have g:∀j u,(b.map Value.string)[j]?=some u->w.cell? (Addr.add ⟨C,0,none⟩ j)=some u:=fun j u e=>by
   rw[Addr.add_lit,vB];unfold World.cell?;rw[N];simp only;rw[←q,lF] at e;split at e
   ·simpa using e
   ·simp at e
  refine wpList_append_own _ d s x 30 E w.heap.size 9 z _ 1 16 underlying30 D r m f rfl (by decide) _ 0 [] A (yD _ _ _ _) ⟨C,0,none⟩ b.length c (b.map Value.string) (by rw[B,n]) (by simp) g (by simp[Value.oneCell']) (by unfold maxLen;omega) (by omega) (zg _) ?_;intro y P l i _;refine h _ _ ?_ ((zo _ _).grown i (zg _) (fun k K=>by cases K));simpa [QF] using l
end
theorem eG{w:World}{b:Nat}{c:Array Value}{T:TypeId}(h:Q8 w b c T)(o:Obj):Q8 (w.alloc o) b c T:=h.below ((zo _ _).alloc (zg _) o)
theorem oa(B:yz):(xp B).length=B.length:=by simp[xp]
theorem oT(B:yz):(xU B).length=B.length:=by simp[xU]
theorem N2{B:yz}{args row:κ}{k:Nat}(b:k<args.length)(c:k<row.length):xj B (args.drop k) (row.drop k)=if yd B args[k]=ByteArray.empty then xj (B++[(args[k],row[k])]) (args.drop (k+1)) (row.drop (k+1)) else if yd B args[k]=row[k] then xj B (args.drop (k+1)) (row.drop (k+1)) else none:=by
 rw[xn b,xn c];rfl
end
section
open Go.Proofs.Tryz Go.RowKit
variable {B:yz}{lo:Nat}
theorem IJ{t:ByteArray}(b:vZ B)(a:0<t.size):gG B t=true↔yd B t≠ByteArray.empty:=by
 unfold gG yd;cases zP t with
 |false=>
  simp only[Bool.not_false,Bool.true_or,true_iff,gJ,if_false];rintro rfl;exact zC a (by decide)
 |true=>
  simp only[m4,np,if_true];cases c:QL B t with
  |none=>simp
  |some x=>simp[b t x c]
theorem Ie{y z:ByteArray}(c:vZ B)(b:z≠ByteArray.empty):vZ (B++[(y,z)]):=by
 intro v x h;rw[r5] at h;cases a:QL B v with
 |some u=>
  rw[a] at h;simp only[Option.some_or,zt] at h;rw[←h];exact c v u a
 |none=>
  rw[a] at h;simp only[Option.none_or,QL] at h;split at h
  ·cases h;exact b
  ·cases h
structure CR (lo:Nat) (w:World) (cb:Nat) (B:yz) (v1 v2:Value):Prop where
 box:Q8 w cb #[v1,v2] 270
 fst:w.ownsRow lo 9 1 v1 B.length ((xp B).map Value.string)
 snd:w.ownsRow lo 9 1 v2 B.length ((xU B).map Value.string)
 ne:∀b,v1.ownBlock=some b->v2.ownBlock≠some b
theorem CR.sf{w:World}{a:Nat}{v1 v2:Value}(h:CR lo w a B v1 v2):QF lo w v1 (xp B):=by unfold QF;rw[oa];exact h.fst
theorem CR.ss{w:World}{a:Nat}{v1 v2:Value}(h:CR lo w a B v1 v2):QF lo w v2 (xU B):=by unfold QF;rw[oT];exact h.snd
theorem CR.below{lo:Nat}{w w':World}{b:Nat}{B:yz}{v1 v2:Value}(h:CR lo w b B v1 v2)(a:μ w w'):CR lo w' b B v1 v2:=⟨h.box.below a,zB h.fst a,zB h.snd a,h.ne⟩
theorem Gq{aK bn bk:Nat}(w:World)(vv lv av rv:Value)(B:yz)(args row:κ)(h1:QF lo w vv (xp B))(h2:QF aK w lv (xU B))(h3:QF bn w av args)(h4:QF bk w rv row)(hl:B.length<=100)(ha:args.length<=100)(hr:row.length=args.length)(aC:∀a∈args,0<a.size)(hF:vZ B)(aG:∀x∈row,x≠ByteArray.empty):
  Calls prog 196 #[.agg #[vv,lv],av,rv] w fun e U=>∃(n1 c1:Nat) (o1:Option Addr) (n2 c2:Nat) (o2:Option Addr),e=ε (.tuple #[.agg #[.slice o1 n1 c1,.slice o2 n2 c2],.bool (xj B args row).isSome])/\Hid (∀B',xj B args row=some B'->QF w.heap.size U (.slice o1 n1 c1) (xp B')/\QF w.heap.size U (.slice o2 n2 c2) (xU B')/\B'.length<=B.length+args.length)/\Hid (μ w U):=by
 obtain⟨i0,hi,aF,aO,aU⟩:=info_parts Q0;have aQ:Hid (∀W,μ w W->QF lo W vv (xp B)/\QF aK W lv (xU B)):=fun W i=>⟨h1.below i,h2.below i⟩;obtain⟨ao,bx,rfl⟩:=h3.qx;obtain⟨bs,bu,rfl⟩:=h4.qx;have HA:Hid (∀W k (hk:k<args.length),μ w W->∃g,ao=some ⟨g,0,none⟩/\g<W.heap.size/\W.cell? ⟨g,k,none⟩=some (.string args[k])):=fun W k hk i=>(h3.below i).cell k hk;have HR:Hid (∀W k (hk:k<row.length),μ w W->∃g,bs=some ⟨g,0,none⟩/\g<W.heap.size/\W.cell? ⟨g,k,none⟩=some (.string row[k])):=fun W k hk i=>(h4.below i).cell k hk;have e1:(xp B).length<=1000000:=by simp[xp];omega
 have e2:(xU B).length<=1000000:=by simp[xU];omega
 clear h1 h2 h3 h4;go_enter func196,ntmps196;go_upto_region 2 with fail
 have a2:Hid (μ w (((w.alloc (.cells #[vv,lv] 270)).alloc (.cells #[ν,ν] 270)).alloc (.cells #[ν,ν] 270))):=(zT.alloc (by simp) _).alloc (by simp;omega) _;have aq:=eG (eG (Q8.new w #[vv,lv] 270) (.cells #[ν,ν] 270)) (.cells #[ν,ν] 270);have aL:=eG (Q8.newAt (w.alloc (.cells #[vv,lv] 270)) (w.heap.size+1) #[ν,ν] 270 (by simp)) (.cells #[ν,ν] 270);have a4:=Q8.newAt ((w.alloc (.cells #[vv,lv] 270)).alloc (.cells #[ν,ν] 270)) (w.heap.size+1+1) #[ν,ν] 270 (by simp);have bp:(((w.alloc (.cells #[vv,lv] 270)).alloc (.cells #[ν,ν] 270)).alloc (.cells #[ν,ν] 270)).heap.size=w.heap.size+1+1+1:=by simp
 generalize bd:((w.alloc (.cells #[vv,lv] 270)).alloc (.cells #[ν,ν] 270)).alloc (.cells #[ν,ν] 270)=wA at *;clear bd;obtain⟨c0,f0⟩:=aq.rules;obtain⟨c2,f2⟩:=a4.rules;go_upto_region 3 with (first|(at_builtin;refine Fv rfl (.tmp 14) (.tmp 16) rfl (xp B) vv rfl rfl (aQ.out _ a2.out).1 e1 ?_;intro v1 w1 ah S;have N:=a4.below S;obtain⟨d2,g2,V⟩:=N.boxed;have bb:=S.size;obtain⟨C,n,rfl⟩:=ah.qx))
 have a3:=aq.lt;have a9:Hid (Q8 (w1.setCell ⟨w.heap.size+1+1,0,none⟩ (.slice C (xp B).length n)) w.heap.size #[vv,lv] 270):=(aq.below S).set_ne (by omega) 0 _;have aV:Hid (Q8 (w1.setCell ⟨w.heap.size+1+1,0,none⟩ (.slice C (xp B).length n)) (w.heap.size+1) #[ν,ν] 270):=(aL.below S).set_ne (by omega) 0 _;have an:Hid (Q8 (w1.setCell ⟨w.heap.size+1+1,0,none⟩ (.slice C (xp B).length n)) (w.heap.size+1+1) #[.slice C (xp B).length n,ν] 270):=N.set 0 _;have a0:Hid (μ w (w1.setCell ⟨w.heap.size+1+1,0,none⟩ (.slice C (xp B).length n))):=(zQ a2.out S (by omega)).setCell (p:=⟨w.heap.size+1+1,0,none⟩) (by show w.heap.size<=w.heap.size+1+1;omega) _;have al:Hid (QF wA.heap.size (w1.setCell ⟨w.heap.size+1+1,0,none⟩ (.slice C (xp B).length n)) (.slice C (xp B).length n) (xp B)):=yT ah (ze.set w1 (w.heap.size+1+1) 0 (.slice C (xp B).length n)) (fun b i E=>by have:=yV ah i;simp at E;omega);have bg:w1.heap.size<=(w1.setCell ⟨w.heap.size+1+1,0,none⟩ (.slice C (xp B).length n)).heap.size:=by simp[World.setCell]
 clear c0 f0 c2 f2 d2 g2 V N aq aL a4 S ah a3;generalize w1.setCell ⟨w.heap.size+1+1,0,none⟩ (.slice C (xp B).length n)=wB at *;obtain⟨c0,f0⟩:=a9.out.rules;obtain⟨c2,f2⟩:=an.out.rules;have a3:=a9.out.lt;have V:=an.out.lt;go_upto_region 4 with (first|(at_builtin;refine Fv rfl (.tmp 20) (.tmp 22) rfl (xU B) lv rfl rfl (aQ.out _ a0.out).2 e2 ?_;intro v2 F s Q;have N:=an.out.below Q;obtain⟨d2,g2,bh⟩:=N.boxed;have ba:=Q.size;obtain⟨K,A,rfl⟩:=s.qx))
 have hL:∀b,w.heap.size+1+1≠b->True:=fun _ _=>trivial;have Y:Hid (CR w.heap.size (F.setCell ⟨w.heap.size+1+1,1,none⟩ (.slice K (xU B).length A)) (w.heap.size+1+1) B (.slice C (xp B).length n) (.slice K (xU B).length A)):=⟨N.set 1 _,by rw[←oa B];exact yT (yt (zB al.out Q) (by omega)) (ze.set F (w.heap.size+1+1) 1 (.slice K (xU B).length A)) (fun b i E=>by have:=yV al.out i;simp at E;omega),by rw[←oT B];exact yT (yt s (by omega)) (ze.set F (w.heap.size+1+1) 1 (.slice K (xU B).length A)) (fun b i E=>by have:=yV s i;simp at E;omega),fun b i E=>by have:=xI al.out i;have:=yV s E;omega⟩;have aJ:Hid (Q8 (F.setCell ⟨w.heap.size+1+1,1,none⟩ (.slice K (xU B).length A)) (w.heap.size+1) #[ν,ν] 270):=(aV.out.below Q).set_ne (by omega) 1 _;have aM:Hid (μ w (F.setCell ⟨w.heap.size+1+1,1,none⟩ (.slice K (xU B).length A))):=(zQ a0.out Q (by omega)).setCell (p:=⟨w.heap.size+1+1,1,none⟩) (by show w.heap.size<=w.heap.size+1+1;omega) _;clear c0 f0 c2 f2 d2 g2 a3 V bh N Q s al a9 aV an a0 hL bg bb ba bp a2;generalize F.setCell ⟨w.heap.size+1+1,1,none⟩ (.slice K (xU B).length A)=wC at *;clear w1 F wA wB;rw[oa,oT] at Y;go_wp2;go_loopw [9] (fun v9 wr=>∃(k:Nat) (c:yz) (t:Option Addr) (j:Nat) (m:Option Addr) (d:Nat),k<=args.length/\v9=ι k/\Hid (CR w.heap.size wr (w.heap.size+1+1) c (.slice t c.length j) (.slice m c.length d))/\Hid (xj B args row=xj c (args.drop k) (row.drop k))/\c.length<=B.length+k/\Hid (vZ c)/\Hid (Q8 wr (w.heap.size+1) #[ν,ν] 270)/\Hid (μ w wr)) (fun v9 _=>args.length-(intOf v9).toNat)
 case atStart=>exact⟨0,B,C,n,K,A,zv _,rfl,Y,rfl,zg _,hF,aJ,aM⟩
 case round=>
  clear Y aJ aM e1 e2;obtain⟨k,c,t,j,m,d,hk,rfl,Y,HW,bw,a8,HZ,T⟩:=hrel;have bv:=T.out.size;have aj:=Y.out.box;obtain⟨hc,hf,ar⟩:=aj.boxed;obtain⟨af,Z,ab⟩:=HZ.out.boxed;by_cases a7:k<args.length
  ·have aZ:(k:Int)<(args.length:Int):=by omega
   have ap:k<row.length:=by omega
   obtain⟨g,rfl,hg,az⟩:=HA.out _ k a7 T.out;obtain⟨gr,rfl,aD,aP⟩:=HR.out _ k ap T.out;have ht:=aC _ (zs a7);have aW:=N2 (B:=c) a7 ap;have HV:Hid (∀W,μ wr W->Calls prog 211 #[.agg #[.slice t c.length j,.slice m c.length d],.string args[k]] W fun e U=>e=ε (.tuple #[.string (yd c args[k]),.bool (gG c args[k])])/\Hid (μ wr U)/\U.cell? ⟨g,k,none⟩=some (.string args[k])/\U.cell? ⟨w.heap.size+1+1,0,none⟩=some (.slice t c.length j)/\U.cell? ⟨w.heap.size+1+1,1,none⟩=some (.slice m c.length d)):=fun W i=>by
    refine(C6 W _ _ c args[k] (Y.out.sf.below i) (Y.out.ss.below i) (by omega) ht).mono ?_;rintro e U ⟨q1,q2⟩;have aA:=QB i q2.out;have aI:=aj.below aA;exact⟨q1,aA,(zl aA hg az),by rw[aI.rules.1];rfl,by rw[aI.rules.1];rfl⟩
   have aT:Hid (∀W,μ wr W->W.cell? ⟨g,k,none⟩=some (.string args[k])/\g<W.heap.size/\W.cell? ⟨gr,k,none⟩=some (.string row[k])/\gr<W.heap.size):=fun W i=>⟨(zl i hg az),xP hg i.size,(zl i aD aP),xP aD i.size⟩;have be:Hid (∀W,μ w W->W.cell? ⟨gr,k,none⟩=some (.string row[k])/\gr<W.heap.size):=fun W i=>by
    obtain⟨g',e,q1,q2⟩:=HR.out W k ap i;cases e;exact⟨q2,q1⟩
   have HD:=Q7 (HW.out.trans aW);have aR:=Q7 (IJ a8.out ht);have bo:=Q7 (aG _ (zs ap));clear aW HW ht aC aj aG hF;generalize gG c args[k]=kn at *;generalize yd c args[k]=x at *;generalize args[k]=y at *;generalize row[k]=z at *;go_upto_region 7 with fail
   go_cut [10,11] from 31 to 39 (fun a6 a5 wx=>a6=.string x/\a5=.bool kn/\Hid (μ wr wx))
   case first=>
    go_region_held3 (fun U=>U.cell? ⟨g,k,none⟩=some (.string y)/\U.cell? ⟨w.heap.size+1+1,0,none⟩=some (.slice t c.length j)/\U.cell? ⟨w.heap.size+1+1,1,none⟩=some (.slice m c.length d)) (first|go_keep|(go_simp;done)) (first|(go_at_call 211;refine(HV.out _ (by exact(by repeat'(first|with_reducible(first|apply zR|assumption|apply zN|apply zA|apply zD|apply zS)|go_size)))).mono ?_;rintro e w5 ⟨rfl,bq,z0,z1,z2⟩))
    go_wp2;go_meet
    case rel=>exact⟨rfl,rfl,bq⟩
   case rest=>
    obtain⟨rfl,rfl,R⟩:=hcut;have bt:=R.out.size;obtain⟨aw,br,ae,au⟩:=aT.out _ R.out;have P:=Q7 (HZ.out.below R.out);have O:=Q7 (zQ T.out R.out (by omega));have H:=Q7 (Y.out.below R.out);clear hc hf az aP ar af Z ab HV aT Y HZ T R;obtain⟨hc,hf,ar⟩:=H.out.box.boxed;obtain⟨af,Z,ab⟩:=P.out.boxed;by_cases hx:x=ByteArray.empty
    ·obtain rfl:kn=false:=by
      cases kn with
      |false=>rfl
      |true=>exact zC hx (aR.out.1 rfl)
     have bm:Hid (vZ (c++[(y,z)])):=Ie a8.out bo.out;have I:Hid (xj B args row=xj (c++[(y,z)]) (args.drop (k+1)) (row.drop (k+1))):=by rw[Hid,HD.out,zc hx]
     have D:=H.out.fst;have o:=H.out.snd;clear HD hx;go_upto_region 11 with fail
     go_cut [10,11] from 52 to 60 (fun a6 a5 wx=>∃r f,a6=.string x/\a5=.bool false/\Hid (Q8 wx (w.heap.size+1+1) #[.slice r (c.length+1) f,.slice m c.length d] 270)/\Hid (wx.ownsRow w.heap.size 9 1 (.slice r (c.length+1) f) (c.length+1) ((xp c).map Value.string++[.string y]))/\Hid (wx.ownsRow w.heap.size 9 1 (.slice m c.length d) c.length ((xU c).map Value.string))/\Hid (∀b,(Value.slice r (c.length+1) f).ownBlock=some b->(Value.slice m c.length d).ownBlock≠some b)/\Hid (Q8 wx (w.heap.size+1) #[ν,ν] 270)/\Hid (μ w wx))
     case first=>
      go_region_law (first|(refine dE wc _ [.string y] 9 rfl (.tmp 53) (.tmp 58) 30 rfl w.heap.size 9 i0 _ 1 16 underlying30 hi aF aO aU rfl (by decide) (.slice t c.length j) c.length ((xp c).map Value.string) (by simp[Act.eval]) D (by exact(by repeat'(first|with_reducible(first|apply zR|assumption|apply zN|apply zA|apply zD|apply zS)|go_size))) wc.heap.size 1 (by simp[Act.eval]) (by exact Q8.drew (Q8.new _ _ _)) rfl (by simp[Value.oneCell']) (by omega) (by omega) (by omega) ?_;intro v' F M s X aY aN;obtain⟨r,f,rfl⟩:=zp M;have J:=H.out.box.save s (qv D H.out.box (by decide));obtain⟨aS,aE,V⟩:=J.boxed))
      all_goals
       have ad:=yT o s (fun b i E=>H.out.ne b (yr E) i);have ay:=P.out.save s (qv D P.out (by decide));have a1:=s.below (B:=w.heap.size) (fun b i=>yV D (yr i)) (by omega);have ac:∀b,(Value.slice r (c.length+1) f).ownBlock=some b->(Value.slice m c.length d).ownBlock≠some b:=fun b i hq=>by
        rcases X with q|⟨g9,q,q2⟩
        ·exact H.out.ne b (q ▸ i) hq
        ·rw[i] at q;cases q;have:=xI o hq;omega
       have ag:Hid (Q8 (F.setCell ⟨w.heap.size+1+1,0,none⟩ (.slice r (c.length+1) f)) (w.heap.size+1+1) #[.slice r (c.length+1) f,.slice m c.length d] 270):=J.set 0 _;have ak:Hid ((F.setCell ⟨w.heap.size+1+1,0,none⟩ (.slice r (c.length+1) f)).ownsRow w.heap.size 9 1 (.slice r (c.length+1) f) (c.length+1) ((xp c).map Value.string++[.string y])):=yT M (ze.set _ _ _ _) (fun b i E=>uB M J (by decide) i (by simpa using E));have aB:Hid ((F.setCell ⟨w.heap.size+1+1,0,none⟩ (.slice r (c.length+1) f)).ownsRow w.heap.size 9 1 (.slice m c.length d) c.length ((xU c).map Value.string)):=yT ad (ze.set _ _ _ _) (fun b i E=>uB ad J (by decide) i (by simpa using E));have am:Hid (Q8 (F.setCell ⟨w.heap.size+1+1,0,none⟩ (.slice r (c.length+1) f)) (w.heap.size+1) #[ν,ν] 270):=ay.set_ne (by omega) 0 _;have ai:Hid (μ w (F.setCell ⟨w.heap.size+1+1,0,none⟩ (.slice r (c.length+1) f))):=(O.out.trans a1).setCell (p:=⟨w.heap.size+1+1,0,none⟩) (by show w.heap.size<=w.heap.size+1+1;omega) _;go_wp2;go_meet
       case rel=>exact⟨r,f,rfl,rfl,ag,ak,aB,ac,am,ai⟩
     case rest=>
      obtain⟨r,f,rfl,rfl,ag,ak,aB,aH,am,ai⟩:=hcut;clear hc hf af Z ar ab aw ae P O H D o br au;obtain⟨ae,au⟩:=be.out _ ai.out;obtain⟨hc,hf,ar⟩:=ag.out.boxed;have o:=aB.out;go_upto_region 12 with fail
      go_region_law (first|(refine dE wc _ [.string z] 9 rfl (.tmp 62) (.tmp 67) 30 rfl w.heap.size 9 i0 _ 1 16 underlying30 hi aF aO aU rfl (by decide) (.slice m c.length d) c.length ((xU c).map Value.string) (by simp[Act.eval]) o (by exact(by repeat'(first|with_reducible(first|apply zR|assumption|apply zN|apply zA|apply zD|apply zS)|go_size))) wc.heap.size 1 (by simp[Act.eval]) (by exact Q8.drew (Q8.new _ _ _)) rfl (by simp[Value.oneCell']) (by omega) (by omega) (by omega) ?_;intro v' F M s X aY aN;obtain⟨G,u,rfl⟩:=zp M;have J:=ag.out.save s (qv o ag.out (by decide));obtain⟨aS,aE,V⟩:=J.boxed))
      all_goals
       have ad:=yT ak.out s (fun b i E=>aH.out b i (yr E));have ay:=am.out.save s (qv o am.out (by decide));have a1:=s.below (B:=w.heap.size) (fun b i=>yV o (yr i)) (by omega);have ac:∀b,(Value.slice r (c.length+1) f).ownBlock=some b->(Value.slice G (c.length+1) u).ownBlock≠some b:=fun b i hq=>by
        rcases X with q|⟨g9,q,q2⟩
        ·exact aH.out b i (q ▸ hq)
        ·rw[hq] at q;cases q;have:=xI ak.out i;omega
       have aX:Hid (CR w.heap.size (F.setCell ⟨w.heap.size+1+1,1,none⟩ (.slice G (c.length+1) u)) (w.heap.size+1+1) (c++[(y,z)]) (.slice r (c.length+1) f) (.slice G (c.length+1) u)):=by
        refine⟨J.set 1 _,?_,?_,ac⟩
        ·have q:=yT ad (ze.set F (w.heap.size+1+1) 1 (.slice G (c.length+1) u)) (fun b i E=>uB ad J (by decide) i (by simpa using E));rw[yq];simpa [xp] using q
        ·have q:=yT M (ze.set F (w.heap.size+1+1) 1 (.slice G (c.length+1) u)) (fun b i E=>uB M J (by decide) i (by simpa using E));rw[yq];simpa [xU] using q
       have bc:Hid (Q8 (F.setCell ⟨w.heap.size+1+1,1,none⟩ (.slice G (c.length+1) u)) (w.heap.size+1) #[ν,ν] 270):=ay.set_ne (by omega) 1 _;have bf:Hid (μ w (F.setCell ⟨w.heap.size+1+1,1,none⟩ (.slice G (c.length+1) u))):=(ai.out.trans a1).setCell (p:=⟨w.heap.size+1+1,1,none⟩) (by show w.heap.size<=w.heap.size+1+1;omega) _;clear aS aE;generalize F.setCell ⟨w.heap.size+1+1,1,none⟩ (.slice G (c.length+1) u)=wN at *;go_wp2;go_roundw
       ·exact⟨k+1,c++[(y,z)],r,f,G,u,by omega,by go_num,by rw[yq];exact aX,I,by simp;omega,bm,bc,bf⟩
       ·simp[intOf];omega
    ·obtain rfl:kn=true:=aR.out.2 hx;by_cases hy:x=z
     ·have bi:=gE hy;have I:Hid (xj B args row=xj c (args.drop (k+1)) (row.drop (k+1))):=by rw[Hid,HD.out,za hx,zc hy]
      clear HD hx hy;go_wp2;go_roundw
      ·exact⟨k+1,c,t,j,m,d,by omega,by go_num,H,I,by omega,a8,P,O⟩
      ·simp[intOf];omega
     ·have bi:=j5 hy;have I:Hid (xj B args row=none):=by rw[Hid,HD.out,za hx,za hy]
      clear HD hx hy;go_wp2;have ax:Hid (μ w ((wc.setCell ⟨w.heap.size+1,0,none⟩ (.slice t c.length j)).setCell ⟨w.heap.size+1,1,none⟩ (.slice m c.length d))):=(O.out.setCell (p:=⟨w.heap.size+1,0,none⟩) (by show w.heap.size<=w.heap.size+1;omega) _).setCell (p:=⟨w.heap.size+1,1,none⟩) (by show w.heap.size<=w.heap.size+1;omega) _;have L:=(P.out.set 0 (.slice t c.length j)).set 1 (.slice m c.length d);have n0:=L.rules.1 0;have n1:=L.rules.1 1;clear hc hf af Z aw ae L;generalize (wc.setCell ⟨w.heap.size+1,0,none⟩ (.slice t c.length j)).setCell ⟨w.heap.size+1,1,none⟩ (.slice m c.length d)=wN at *
      (try simp only[Exit.inBlock,Exit.then])
      refine zK (by simp[results,results196,go_sem,n0,n1];try rfl) rfl ?_;refine⟨_,_,_,_,_,_,by rw[I.out];rfl,fun B' aa=>(by rw[I.out] at aa;cases aa),?_⟩;exact ax
  ·have aZ:¬(k:Int)<(args.length:Int):=by omega
   have I:Hid (xj B args row=some c):=by
    rw[Hid,HW.out,uj (by omega)];rfl
   clear HW;go_wp2;have ax:Hid (μ w ((wr.setCell ⟨w.heap.size+1,0,none⟩ (.slice t c.length j)).setCell ⟨w.heap.size+1,1,none⟩ (.slice m c.length d))):=(T.out.setCell (p:=⟨w.heap.size+1,0,none⟩) (by show w.heap.size<=w.heap.size+1;omega) _).setCell (p:=⟨w.heap.size+1,1,none⟩) (by show w.heap.size<=w.heap.size+1;omega) _;have q:∀{v:Value} {l:κ} (h:QF w.heap.size wr v l),QF w.heap.size ((wr.setCell ⟨w.heap.size+1,0,none⟩ (.slice t c.length j)).setCell ⟨w.heap.size+1,1,none⟩ (.slice m c.length d)) v l:=fun h=>yT h ((ze.set wr (w.heap.size+1) 0 _).trans (ze.set _ (w.heap.size+1) 1 _)) (fun b i E=>uB h HZ.out (by decide) i (by simpa using E));have q1:=q Y.out.sf;have q2:=q Y.out.ss;have L:=(HZ.out.set 0 (.slice t c.length j)).set 1 (.slice m c.length d);have n0:=L.rules.1 0;have n1:=L.rules.1 1;clear hc hf af Z L q aj;generalize (wr.setCell ⟨w.heap.size+1,0,none⟩ (.slice t c.length j)).setCell ⟨w.heap.size+1,1,none⟩ (.slice m c.length d)=wN at *
   (try simp only[Exit.inBlock,Exit.then])
   refine zK (by simp[results,results196,go_sem,n0,n1];try rfl) rfl ?_;refine⟨_,_,_,_,_,_,by rw[I.out];rfl,fun B' aa=>?_,?_⟩
   ·rw[I.out] at aa;cases aa;exact⟨q1,q2,by omega⟩
   ·exact ax
end
section
open Classical
def ye(fs:List zE)(h:zj)(body:List zj):List zj->yz->List (κ)
 |[],B=>if (body.any fun l=>l.neg&&(yP l.pred (y9 B l.args) fs).isSome)=true then [] else [y9 B h.args]
 |l::rest,B=>if l.neg=true then ye fs h body rest B else fs.flatMap fun f=>if f.1=l.pred then(match xj B l.args f.2.1 with|none=>[]|some a=>ye fs h body rest a) else []
structure pV (cs:List zd) (fs:List zE):Prop where
 jh:∀f∈fs,∀c∈cs,∀l∈zk c,l.pred=f.1->f.2.1.length=l.args.length
 ne:∀f∈fs,∀x∈f.2.1,x≠ByteArray.empty
def pq(fs:List zE)(c:zd)(x:κ):Prop:=∃σ:ByteArray->ByteArray,(∀a,σ a≠ByteArray.empty)/\(∀l∈c.body,l.neg=false->∃m,(l.pred,Re σ l,m)∈fs)/\(∀l∈c.body,l.neg=true->∀m,(l.pred,Re σ l,m)∉fs)/\x=Re σ c.head
theorem pu{fs:List zE}{p:ByteArray}{r:κ}:(yP p r fs).isSome=true↔∃m,(p,r,m)∈fs:=by
 cases a:yP p r fs with
 |none=>exact⟨fun q=>(by cases q),fun⟨m,d⟩=>zC d (BM a m)⟩
 |some k=>
  obtain⟨c,b,e⟩:=Bh a;exact⟨fun _=>⟨fs[k].2.2,by rw[←b,←e];exact zs c⟩,fun _=>rfl⟩
theorem iL{cs:List zd}{fs:List zE}(t:pV cs fs){c:zd}(C:c∈cs)(n:∀l∈zk c,∀a∈l.args,a≠ByteArray.empty)(h:∀l∈zk c,∀y∈l.args,zP y=true->y∈zw c){x:κ}:∀(rest done:List zj) (B:yz),c.body=done++rest->vZ B->(∀l∈done,l.neg=false->(∃m,(l.pred,y9 B l.args,m)∈fs)/\∀a∈l.args,yd B a≠ByteArray.empty)->x∈ye fs c.head c.body rest B->pq fs c x
 |[],done,B,e,z,r,d=>by
  rw[qM] at e;unfold ye at d;split at d
  ·cases d
  ·rename_i E;rw[xG] at d;have b:∀l∈zk c,y9 B l.args=Re (fun v=>if (QL B v).getD ByteArray.empty=ByteArray.empty then⟨#[0]⟩ else(QL B v).getD ByteArray.empty) l:=by
    intro l p;refine kR fun a k=>?_;unfold yd;split
    ·rename_i F;obtain⟨_,o,i,f,D⟩:=dG.1 (h l p a k F);have:=(r o (by rw[←e];exact i) f).2 a D;unfold yd at this;rw[zc F] at this;exact(za this).symm
    ·rfl
   refine⟨_,fun a=>?_,fun l p u=>?_,fun l p u m K=>E ?_,d.trans (b _ (by simp[zk]))⟩
   ·split
    ·decide
    ·assumption
   ·rw[←b l (by simp[zk,p])];exact(r l (by rw[←e];exact p) u).1
   ·rw[←b l (by simp[zk,p])] at K;rw[gM];exact⟨l,p,by rw[u,mF];exact pu.2 ⟨m,K⟩⟩
 |l::rest,done,B,e,z,r,d=>by
  have J:c.body=(done++[l])++rest:=by rw[e];simp
  have w:l∈zk c:=by simp[zk,e]
  unfold ye at d;split at d
  ·rename_i u;refine iL t C n h rest (done++[l]) B J z (fun o i f=>?_) d;rcases zI.1 i with q|q
   ·exact r o q f
   ·rw[xG.1 q,u] at f;cases f
  ·obtain⟨g,j,d⟩:=uS.1 d;split at d
   ·rename_i H;split at d
    ·cases d
    ·rename_i s L;obtain⟨N,G,I⟩:=pI l.args g.2.1 B s (t.jh g j c C l w H.symm).symm (t.ne g j) (n l w) z L;refine iL t C n h rest (done++[l]) s J N (fun o i f=>?_) d;rcases zI.1 i with q|q
     ·obtain⟨⟨m,M⟩,A⟩:=r o q f;have b:y9 s o.args=y9 B o.args:=kR fun a k=>nJ G (A a k);exact⟨⟨m,by rw[b];exact M⟩,fun a k=>by rw[nJ G (A a k)];exact A a k⟩
     ·rw[xG.1 q];refine⟨⟨g.2.2,by rw[I,←H];exact j⟩,fun a k=>?_⟩;have:yd s a∈y9 s l.args:=z7.2 ⟨a,k,rfl⟩;rw[I] at this;exact t.ne g j _ this
   ·cases d
theorem it{fs:List zE}{c:zd}(d:∀l∈zk c,∀a∈l.args,a≠ByteArray.empty)(f:∀l∈zk c,∀y∈l.args,zP y=true->y∈zw c){σ:ByteArray->ByteArray}(k:∀a,σ a≠ByteArray.empty)(i:∀l∈c.body,l.neg=false->∃m,(l.pred,Re σ l,m)∈fs)(g:∀l∈c.body,l.neg=true->∀m,(l.pred,Re σ l,m)∉fs):∀(rest done:List zj) (B:yz),c.body=done++rest->vZ B->RV B σ->(∀l∈done,l.neg=false->∀a∈l.args,yd B a≠ByteArray.empty)->Re σ c.head∈ye fs c.head c.body rest B
 |[],done,B,e,D,z,r=>by
  rw[qM] at e;have n:∀l∈zk c,y9 B l.args=Re σ l:=by
   intro l u;refine kR fun a j=>z.val ?_;by_cases H:zP a=true
   ·obtain⟨_,p,h,b,G⟩:=dG.1 (f l u a j H);exact r p (by rw[←e];exact h) b a G
   ·unfold yd;rw[za H];exact d l u a j
  unfold ye;rw[za]
  ·rw[n c.head (by simp[zk])];simp
  ·intro q;rw[gM] at q;obtain⟨l,u,E⟩:=q;rw[uw,n l (by simp[zk,u])] at E;obtain⟨m,O⟩:=pu.1 E.2;exact g l u E.1 m O
 |l::rest,done,B,e,D,z,r=>by
  have I:c.body=(done++[l])++rest:=by rw[e];simp
  have v:l∈c.body:=by rw[e];simp
  have o:l∈zk c:=by simp[zk,v]
  unfold ye;split
  ·rename_i A;refine it d f k i g rest (done++[l]) B I D z fun p h b=>?_;rcases zI.1 h with q|q
   ·exact r p q b
   ·rw[xG.1 q,A] at b;cases b
  ·rename_i A;obtain⟨m,K⟩:=i l v (by simpa using A);obtain⟨s,C,F⟩:=tw k l.args B (d l o) z;have t:xj B l.args (Re σ l)=some s:=C;have w:∀x∈Re σ l,x≠ByteArray.empty:=by
    intro x J;obtain⟨a,j,rfl⟩:=z7.1 J;split
    ·exact k a
    ·exact d l o a j
   obtain⟨M,L,N⟩:=pI l.args (Re σ l) B s (by simp[Re]) w (d l o) D t;refine uS.2 ⟨_,K,?_⟩;rw[zc rfl,t];refine it d f k i g rest (done++[l]) s I M F fun p h b a j=>?_;rcases zI.1 h with q|q
   ·rw[nJ L (r p q b a j)];exact r p q b a j
   ·rw[xG.1 q] at j;have:yd s a∈y9 s l.args:=z7.2 ⟨a,j,rfl⟩;rw[N] at this;exact w _ this
theorem DE{cs:List zd}{fs:List zE}(i:pV cs fs){c:zd}(h:c∈cs)(d:∀l∈zk c,∀a∈l.args,a≠ByteArray.empty)(b:∀l∈zk c,∀y∈l.args,zP y=true->y∈zw c){x:κ}:x∈ye fs c.head c.body c.body []↔pq fs c x:=
 ⟨iL i h d b c.body [] [] rfl (fun v x q=>by cases q) (fun l e=>by cases e),fun⟨_,g,j,k,f⟩=>f ▸ it d b g j k c.body [] [] rfl (fun v x q=>by cases q) (fun v x q=>by cases q) (fun l e=>by cases e)⟩
end
section
open Go.Proofs.Tryz Go.RowKit
variable {z:Nat}{l:κ}
def RY(z:Nat)(w:World)(v:Value)(l:κ):Prop:=QF 0 w v l/\v.ownBlock≠some z
theorem RY.below{w w':World}{v:Value}{l:κ}(h:RY z w v l)(a:μ w w'):RY z w' v l:=⟨h.1.below a,h.2⟩
theorem RY.saveT{w w':World}{v:Value}{M:List Nat}{T:TypeId}(h:RY z w v l)(hs:ze M w w')(b:QU w T M)(a:9≠T):RY z w' v l:=⟨yF h.1 hs b a,h.2⟩
theorem RY.of{lo:Nat}{w:World}{v:Value}(h:QF lo w v l)(a:z<lo):RY z w v l:=⟨yt h (zv _),fun e=>by have:=yV h e;omega⟩
theorem Qf:(prog.info? 30).map (fun i=>(i.zero,i.size,i.bytes))=some (some (ν),1,24):=by kernel_rfl
structure S3 (z:Nat) (w:World) (gb go:Nat) (c:zd):Prop where
 lt:gb<w.heap.size
 pred:w.cell? ⟨gb,go+1,none⟩=some (.string c.head.pred)
 args:∃av,w.cell? ⟨gb,go+2,none⟩=some av/\RY z w av c.head.args
 body:∃ao cap,w.cell? ⟨gb,go+3,none⟩=some (.slice ao c.body.length cap)/\∀j (h:j<c.body.length),∃g,ao=some ⟨g,0,none⟩/\g<w.heap.size/\w.cell? ⟨g,j*3,none⟩=some (.bool c.body[j].neg)/\w.cell? ⟨g,j*3+1,none⟩=some (.string c.body[j].pred)/\∃av,w.cell? ⟨g,j*3+2,none⟩=some av/\QF 0 w av c.body[j].args
theorem S3.below{w w':World}{gb i:Nat}{c:zd}(h:S3 z w gb i c)(a:μ w w'):S3 z w' gb i c:=by
 obtain⟨b,t,⟨f,u,m⟩,v,e,k,p⟩:=h;refine⟨xP b a.size,(zl a b t),⟨f,(zl a b u),m.below a⟩,v,e,(zl a b k),fun j r=>?_⟩;obtain⟨g,n,d,x,o,f,s,q⟩:=p j r;exact⟨g,n,xP d a.size,(zl a d x),(zl a d o),f,(zl a d s),q.below a⟩
structure li (z:Nat) (w:World) (mb rd gb go:Nat) (fv vv lv:Value) (c:zd) (fs:List zE) (B:yz):Prop where
 model:Q8 w mb #[fv,ι rd] 54
 facts:mM w fv fs
 cl:S3 z w gb go c
 fst:QF 0 w vv (xp B)
 snd:QF 0 w lv (xU B)
 hz:z<w.heap.size
theorem li.below{w w':World}{g d gb e:Nat}{b i f:Value}{c:zd}{fs:List zE}{B:yz}(h:li z w g d gb e b i f c fs B)(a:μ w w'):li z w' g d gb e b i f c fs B:=⟨h.model.below a,h.facts.below a,h.cl.below a,h.fst.below a,h.snd.below a,xP h.hz a.size⟩
def vf(z lo:Nat)(w:World)(v:Value)(a:List (κ)):Prop:=∃b:List Value,b.length=a.length/\w.ownsRow lo 30 1 v a.length b/\∀i (h:i<a.length) (c:i<b.length),RY z w b[i] a[i]
theorem vf.nil(lo:Nat)(w:World):vf z lo w (ν) []:=⟨[],rfl,yD _ _ _ _,fun i h=>by cases h⟩
theorem vf.below{lo:Nat}{w w':World}{v:Value}{c:List (κ)}(h:vf z lo w v c)(e:μ w w'):vf z lo w' v c:=by
 obtain⟨d,j,f,g⟩:=h;exact⟨d,j,zB f e,fun i a b=>(g i a b).below e⟩
theorem PG(w:World)(mb rd gb J:Nat)(fv s r:Value)(c:zd)(fs:List zE)(B:yz)(hI:li z w mb rd gb J fv s r c fs B)(aG:c.body.length<=100)(aH:B.length<=100)(M:∀l∈zk c,l.args.length<=100/\∀a∈l.args,0<a.size)(a2:fs.length<=10000000)(al:∀f∈fs,f.2.1.length<=1000000):
  Calls prog 166 #[(π mb),.pointer (some ⟨gb,J,none⟩),ι c.body.length,.agg #[s,r]] w fun e d=>∃v,e=.returned v/\Hid (vf z w.heap.size d v (ye fs c.head c.body [] B))/\Hid (μ w d):=by
 obtain⟨i0,hi,ay,a4,a7⟩:=info_parts Qf;obtain⟨ao,P,av,_⟩:=hI.cl.body;have A:=Q7 fun W (i:μ w W)=>hI.below i;have y:Hid (∀W,μ w W->W.cell? ⟨gb,J+3,none⟩=some (.slice ao c.body.length P)/\gb<W.heap.size):=fun W i=>⟨(i.cell (p:=⟨gb,J+3,none⟩) hI.cl.lt).trans av,(hI.below i).cl.lt⟩;have ab:Hid (∀W j (t:j<c.body.length),μ w W->∃g,ao=some ⟨g,0,none⟩/\g<W.heap.size/\W.cell? ⟨g,j*3,none⟩=some (.bool c.body[j].neg)/\W.cell? ⟨g,j*3+1,none⟩=some (.string c.body[j].pred)/\∃n,W.cell? ⟨g,j*3+2,none⟩=some n/\QF 0 W n c.body[j].args):=fun W j t i=>by
  obtain⟨aE,aD,K,q2⟩:=(hI.below i).cl.body;rw[(y.out W i).1] at K;cases K;exact q2 j t
 have S:Hid (∀W (l:zj) n,l∈zk c->μ w W->QF 0 W n l.args->Calls prog 195 #[.agg #[s,r],n] W fun e d=>∃v,e=.returned v/\Hid (QF W.heap.size d v (y9 B l.args))/\Hid (μ W d)):=fun W l n hl i ha=>FK W s r n B l.args (A.out W i).fst (A.out W i).snd ha (by omega) (by have:=(M _ hl).1;omega) (M _ hl).2;have Y:Hid (∀W j (t:j<c.body.length) rv ak,μ w W->QF ak W rv (y9 B c.body[j].args)->Calls prog 45 #[(π mb),.string c.body[j].pred,rv] W fun e d=>e=ε (ι (gW c.body[j].pred (y9 B c.body[j].args) fs))/\μ W d):=fun W j t rv ak i hr=>F0 W mb rd fv fs _ rv _ (A.out W i).model (A.out W i).facts hr a2 (by have:=(M c.body[j] (by simp[zk])).1;simp[y9];omega) al;have D:Hid (∀k (hk:k<c.body.length),c.body[k].neg=true->(yP c.body[k].pred (y9 B c.body[k].args) fs).isSome=true->ye fs c.head c.body [] B=[]):=fun k hk hn hs=>by
  unfold ye;rw[zc];rw[gM];exact⟨c.body[k],zs _,by rw[hn,hs];rfl⟩
 have H:Hid ((∀k (hk:k<c.body.length),¬(c.body[k].neg=true/\(yP c.body[k].pred (y9 B c.body[k].args) fs).isSome=true))->ye fs c.head c.body [] B=[y9 B c.head.args]):=fun q=>by
  unfold ye;rw[za];intro hq;rw[gM] at hq;obtain⟨l,hl,hq⟩:=hq;obtain⟨j,t,rfl⟩:=qk hl;rw[uw] at hq;exact q j t hq
 have a5:Hid (∀W,μ w W->∃n,W.cell? ⟨gb,J+2,none⟩=some n/\QF 0 W n c.head.args):=fun W i=>by
  obtain⟨n,K,q2⟩:=(A.out W i).cl.args;exact⟨n,K,q2.1⟩
 have hz:=hI.hz;obtain⟨Q,o⟩:=y.out w (zo _ _);clear hI A M al av;generalize ye fs c.head c.body [] B=aF at *;go_enter func166,ntmps166;go_upto_region 2 with fail
 have ap:Hid (μ w (w.alloc (.cells #[s,r] 270))):=(zo _ _).alloc (zg _) _;have X:Hid (∀W,Below (w.alloc (.cells #[s,r] 270)).heap.size (w.alloc (.cells #[s,r] 270)) W->W.cell? ⟨w.heap.size,0,none⟩=some s/\W.cell? ⟨w.heap.size,1,none⟩=some r/\w.heap.size<W.heap.size):=fun W i=>by
  have q:=(Q8.new w #[s,r] 270).below i;exact⟨by rw[q.rules.1];rfl,by rw[q.rules.1];rfl,q.lt⟩
 clear Q o;obtain⟨Q,o⟩:=y.out _ ap.out;generalize a1:w.alloc (.cells #[s,r] 270)=wA at *;clear a1;go_wp2;clear Q o;go_loopw [10,11,12] (fun Z _ _ wr=>∃k:Nat,k<=c.body.length/\Z=ι k/\Hid (∀j (t:j<c.body.length),j<k->¬(c.body[j].neg=true/\(yP c.body[j].pred (y9 B c.body[j].args) fs).isSome=true))/\Hid (μ wA wr)) (fun Z _ _ _=>c.body.length-(intOf Z).toNat)
 case atStart=>exact⟨0,by omega,rfl,fun j t h2=>by omega,zo _ _⟩
 case round=>
  obtain⟨k,hk,rfl,HN,C⟩:=hrel;have u:=Q7 (QB ap.out C.out);obtain⟨Q,o⟩:=y.out _ u.out;obtain⟨b0,b1,au⟩:=X.out _ C.out;by_cases I:k<c.body.length
  ·have a0:(k:Int)<(c.body.length:Int):=by omega
   obtain⟨g,rfl,hg,_,_,n,c2,G⟩:=ab.out _ k I u.out;have E:Hid (∀W,μ wr W->Calls prog 195 #[.agg #[s,r],n] W fun e d=>∃v,e=.returned v/\Hid (QF w.heap.size d v (y9 B c.body[k].args))/\Hid (μ wr d)/\d.cell? ⟨g,k*3+2,none⟩=some n/\d.cell? ⟨w.heap.size,0,none⟩=some s/\d.cell? ⟨w.heap.size,1,none⟩=some r/\d.cell? ⟨gb,J+3,none⟩=some (.slice (some ⟨g,0,none⟩) c.body.length P)):=fun W i=>by
    have F:=QB u.out i;refine(S.out W c.body[k] n (by simp[zk]) F (G.below i)).mono ?_;rintro e d ⟨v,K,q2,q3⟩;have m:=QB i q3.out;obtain⟨b0,b1,_⟩:=X.out d (QB C.out m);exact⟨v,K,yt q2.out F.size,m,(zl m hg c2),b0,b1,(zl m o Q)⟩
   clear G;go_upto_region 6 with fail
   go_cut [11] from 34 to 43 (fun a9 wx=>∃v,a9=v/\Hid (QF w.heap.size wx v (y9 B c.body[k].args))/\Hid (μ wr wx))
   case first=>
    go_region_held3 (fun d=>d.cell? ⟨g,k*3+2,none⟩=some n/\d.cell? ⟨w.heap.size,0,none⟩=some s/\d.cell? ⟨w.heap.size,1,none⟩=some r/\d.cell? ⟨gb,J+3,none⟩=some (.slice (some ⟨g,0,none⟩) c.body.length P)) (first|go_keep|(go_simp;done)) (first|(go_at_call 195;refine(E.out _ (by exact(by repeat'(first|with_reducible(first|apply zR|assumption|apply zN|apply zA|apply zD|apply zS)|go_size)))).mono ?_;rintro e w5 ⟨v5,rfl,aa,ac,z0,z1,z2,z3⟩))
    go_wp2;go_meet
    case rel=>exact⟨_,rfl,aa,ac⟩
   case rest=>
    obtain⟨aq,V,N,O⟩:=hcut;obtain rfl:=V.symm;clear V c2 hg b0 b1 au E Q o;have h:=Q7 (QB u.out O.out);have ag:=Q7 (QB C.out O.out);obtain⟨Q,o⟩:=y.out _ h.out;obtain⟨g',e',hg,_,c1,_⟩:=ab.out _ k I h.out;cases e';have U:Hid (Calls prog 45 #[(π mb),.string c.body[k].pred,aq] wc fun e d=>e=ε (ι (gW c.body[k].pred (y9 B c.body[k].args) fs))/\Hid (μ wc d)/\g<d.heap.size/\d.cell? ⟨g,k*3,none⟩=some (.bool c.body[k].neg)/\d.cell? ⟨gb,J+3,none⟩=some (.slice (some ⟨g,0,none⟩) c.body.length P)/\gb<d.heap.size):=by
     refine(Y.out wc k I aq _ h.out N.out).mono ?_;rintro e d ⟨K,q3⟩;have m:=QB h.out q3;obtain⟨g',e',y1,y2,_⟩:=ab.out _ k I m;cases e';exact⟨K,q3,y1,y2,y.out _ m⟩
    have ai:Hid (¬(c.body[k].neg=true/\(yP c.body[k].pred (y9 B c.body[k].args) fs).isSome=true)->∀j (t:j<c.body.length),j<k+1->¬(c.body[j].neg=true/\(yP c.body[j].pred (y9 B c.body[j].args) fs).isSome=true)):=fun q j t h2=>by
     by_cases aA:j=k
     ·subst aA;exact q
     ·exact HN.out j t (by omega)
    have ax:=Q7 (D.out k I);have T:Hid ((yP c.body[k].pred (y9 B c.body[k].args) fs).isSome=true↔0<=gW c.body[k].pred (y9 B c.body[k].args) fs):=by
     unfold Hid gW;cases yP c.body[k].pred (y9 B c.body[k].args) fs with
     |none=>simp
     |some z=>simp
    generalize gW c.body[k].pred (y9 B c.body[k].args) fs=fi at *;generalize (yP c.body[k].pred (y9 B c.body[k].args) fs).isSome=fb at *;generalize c.body[k].pred=pr at *;generalize c.body[k].neg=ng at *;go_upto_region 8 with (first|(go_at_call 45;refine U.out.mono ?_;rintro e w6 ⟨rfl,ah,aJ,z0,z3,aC⟩))
    have aj:=Q7 (QB h.out ah.out);have R:=Q7 (QB ag.out ah.out);clear U c1 Q hg o;cases ng with
    |false=>
     have ae:=Q7 (ai.out (by simp));go_wp2;go_roundw
     ·exact⟨k+1,by omega,by go_num,ae,R⟩
     ·simp[intOf];omega
    |true=>
     by_cases am:0<=fi
     ·have HR:=Q7 (ax.out rfl (T.out.2 am));go_wp2;go_ret;exact⟨_,rfl,by rw[Hid,HR.out];exact vf.nil _ _,aj⟩
     ·have ae:=Q7 (ai.out (fun q=>am (T.out.1 q.2)));go_wp2;go_roundw
      ·exact⟨k+1,by omega,by go_num,ae,R⟩
      ·simp[intOf];omega
  ·have a0:¬(k:Int)<(c.body.length:Int):=by omega
   have ad:=Q7 (H.out fun j t=>HN.out j t (by omega));clear HN H D;obtain⟨n,c2,G⟩:=a5.out _ u.out;have E:Hid (∀W,μ wr W->Calls prog 195 #[.agg #[s,r],n] W fun e d=>∃v,e=.returned v/\Hid (QF w.heap.size d v (y9 B c.head.args))/\Hid (μ wr d)/\d.cell? ⟨gb,J+2,none⟩=some n/\d.cell? ⟨w.heap.size,0,none⟩=some s/\d.cell? ⟨w.heap.size,1,none⟩=some r):=fun W i=>by
    have F:=QB u.out i;refine(S.out W c.head n (by simp[zk]) F (G.below i)).mono ?_;rintro e d ⟨v,K,q2,q3⟩;have m:=QB i q3.out;obtain⟨b0,b1,_⟩:=X.out d (QB C.out m);exact⟨v,K,yt q2.out F.size,m,(zl m o c2),b0,b1⟩
   clear G;go_upto_region 10 with fail
   go_cut [13] from 67 to 73 (fun a8 wx=>∃v,a8=v/\Hid (QF w.heap.size wx v (y9 B c.head.args))/\Hid (μ wr wx))
   case first=>
    go_region_held3 (fun d=>d.cell? ⟨gb,J+2,none⟩=some n/\d.cell? ⟨w.heap.size,0,none⟩=some s/\d.cell? ⟨w.heap.size,1,none⟩=some r) (first|go_keep|(go_simp;done)) (first|(go_at_call 195;refine(E.out _ (by exact(by repeat'(first|with_reducible(first|apply zR|assumption|apply zN|apply zA|apply zD|apply zS)|go_size)))).mono ?_;rintro e w5 ⟨v5,rfl,aa,ac,z0,z1,z2⟩))
    go_wp2;go_meet
    case rel=>exact⟨_,rfl,aa,ac⟩
   case rest=>
    obtain⟨aI,x,N,O⟩:=hcut;obtain rfl:=x.symm;clear x c2 b0 b1 au E Q o;have h:=Q7 (QB u.out O.out);obtain⟨ar,af,x⟩:=N.out.qx;subst x;have aB:=h.out.size;generalize (y9 B c.head.args).length=rl at *;go_wp2_with (at_builtin;refine ki wc _ _ _ rfl (.tmp 74) (.tmp 76) 31 rfl w.heap.size 30 i0 _ 1 24 underlying31 hi ay a4 a7 rfl (by decide) _ 0 [] rfl (yD _ _ _ _) (zo _ _) _ _ rfl (by simp) rfl (by simp[Value.oneCell']) (by omega) (by omega) (by omega) ?_;intro v' w2 a3 L a6 aw az an;clear a6 aw)
    go_ret;have hS:ze [] wc w2:=⟨L.os,L.tape,L.output,an,fun j t _=>az j t (show some j≠none from Option.some_ne_none j)⟩;refine⟨_,rfl,⟨[.slice ar rl af],by rw[ad.out];rfl,by rw[ad.out];exact a3,fun j h1 h2=>?_⟩,h.out.trans L⟩;obtain rfl:j=0:=by simp at h2;exact h2
    have q:=RY.of (yT N.out hS (fun b _ hm=>by cases hm)) hz;simp only[ad.out,gH];exact q
end
section
open Classical
variable {t:List zh}{cs:List zd}{L:List zE}{D:DB}{c:zd}
theorem Bp(a:yC (QA t)){p:Nat}(f:p<t.length):yo t t[p].name=some t[p]/\zV t t[p].name=p:=by
 have b:zV t t[p].name=p:=by
  rcases pD (zV t t[p].name) p with q|q|q
  ·have d:=tN t t[p].name a t[zV t t[p].name] (by
    rw[vw];exact⟨0,by simp;omega,by simp⟩)
   have e:=sK.1 a (zV t t[p].name) p (by simp[QA];omega) (by simp[QA];omega) q;simp only[QA,uJ] at e;rw[e] at d;cases d
  ·exact q
  ·have d:=wQ t t[p].name t[p] (by
    rw[vw];exact⟨p,by simp;omega,by simp⟩)
   rw[QM] at d;cases d
 refine⟨?_,b⟩;unfold yo;rw[b,yp f];simp
theorem fe(a:yC (QA t)){p:Nat}(d:p<t.length):zO t (fC t p)=p/\fC t p=t[p].name:=by
 have e:fC t p=t[p].name:=by unfold fC QA;simp[List.getD,d]
 obtain⟨f,b⟩:=Bp a d;rw[e];exact⟨by unfold zO;rw[f,b];rfl,rfl⟩
structure Rx (t:List zh) (ns:κ) (L:List zE) (D:DB):Prop where
 mem:∀f,f∈L↔∃p,p<t.length/\∃r m,D p r=some m/\f=(fC t p,uk ns r (uK t p) 3,m)
 once:L.Nodup
 ok:pZ (t.map (·.jh)) D
 inside:Ob (t.map (·.jh)) ns.length D
structure uf (cs:List zd) (t:List zh):Prop where
 words:∀c∈cs,n7 c
 lit:∀c∈cs,∀l∈zk c,zO t l.pred<t.length/\uK t (zO t l.pred)=l.args.length/\fC t (zO t l.pred)=l.pred/\l.args.length<=3
 rise:yC (QA t)
 small:∀p,p<t.length->uK t p<=3
 cov:∀c∈cs,∀l∈zk c,∀y∈l.args,zP y=true->y∈zw c
theorem uf.of{a:List zh}(y:∀c∈cs,n7 c)(h:QN cs a t):uf cs t:=by
 have d:R6 t=R6 a:=by have:=pO (a.length+1) a cs;rw[h.jl] at this;exact this
 have v:QA t=QA a:=by
  have:=congrArg (List.map Prod.fst) d;simpa [R6,QA,Function.comp_def] using this
 have k:yC (QA t):=by rw[v];exact h.tab.rise
 have n:∀i (j:i<cs.length),ka (yB ((xW none i).getD [])) (zw cs[i]).length:=fun i j=>pd (lu (h.many _ (zs j)));refine⟨y,fun c b l g=>?_,k,fun p q=>?_,fun c b=>h.covered b⟩
 ·obtain⟨e,r,x,f,m,o⟩:=h.lit b g;obtain⟨A,s,B⟩:=jV r;refine⟨f,m,?_,?_⟩
  ·rw[(fe k f).2];have:t[zO t l.pred]=e:=by simp only[o,s]
   rw[this,x]
  ·obtain⟨u,z,w,_⟩:=mj (h.many c b);rcases zx.1 g with rfl|q
   ·exact u
   ·exact w l q
 ·unfold uK;rw[QD _ (by simpa using q)];exact(ib h (zq cs) none n).small _ (zs _)
theorem uf.ne{cs:List zd}{t:List zh}(h:uf cs t){c:zd}(d:c∈cs):∀l∈zk c,∀a∈l.args,a≠ByteArray.empty:=by
 intro l g a f e;have b:mw l:=by
  rcases zx.1 g with rfl|q
  ·exact(h.words c d).2.1
  ·exact(h.words c d).2.2 l q
 have:=(b.2 a f).ne;rw[e] at this;exact this rfl
theorem uf.nsz(h:uf cs t):∀y∈zq cs,y≠ByteArray.empty:=by
 intro y b;obtain⟨c,e,l,d,a,_⟩:=((hZ cs).2 y).1 b;exact h.ne e l d y a
theorem Rx.lit{cs:List zd}{t:List zh}{L:List zE}{D:DB}(b:uf cs t)(h:Rx t (zq cs) L D){c:zd}(j:c∈cs){l:zj}(k:l∈zk c)(row:κ)(m:Nat):(l.pred,row,m)∈L↔∃r,D (zO t l.pred) r=some m/\row=uk (zq cs) r l.args.length 3:=by
 obtain⟨n,d,i,s⟩:=b.lit c j l k;rw[h.mem];constructor
 ·rintro⟨p,f,r,q,a,e⟩;simp only[ya] at e;obtain⟨g,o,rfl⟩:=e;have:zO t l.pred=p:=by rw[g];exact(fe b.rise f).1
  subst this;exact⟨r,a,by rw[o,d]⟩
 ·rintro⟨r,a,rfl⟩;exact⟨zO t l.pred,n,r,m,a,by rw[d,i]⟩
theorem Rx.can(j:uf cs t)(h:Rx t (zq cs) L D)(f:c∈cs){l:zj}(g:l∈zk c){r:zm}(a:QH D (zO t l.pred) r):QP l.args.length r/\∀i,i<l.args.length->r.getD i 0<(zq cs).length:=by
 have b:=(h.ok _ _ a).2;have d:=h.inside _ _ a;have e:(t.map (·.jh)).getD (zO t l.pred) 0=l.args.length:=(j.lit c f l g).2.1;rw[e] at b d;exact⟨b,d⟩
theorem Rx.fs(b:uf cs t)(h:Rx t (zq cs) L D):pV cs L:=by
 refine⟨?_,?_⟩
 ·intro f d c g l n e;obtain⟨s,row,m⟩:=f;simp only at e ⊢;subst e;obtain⟨r,_,rfl⟩:=(h.lit b g n row m).1 d;rw[tr]
 ·intro f d x a;obtain⟨p,o,r,m,j,rfl⟩:=(h.mem f).1 d;have k:=h.inside p r (by unfold QH;rw[j];rfl);simp only[uk,z7,vQ] at a;obtain⟨i,q,rfl⟩:=a;have:=b.small p o;rw[zc (by omega)];exact b.nsz _ (iQ (k i q))
theorem e8(ns:κ)(σ:ByteArray->Nat)(l:zj){i:Nat}(a:i<3):(qd ns σ l).getD i 0=jN ns σ l i:=by
 have:i=0∨i=1∨i=2:=by omega
 rcases this with rfl|rfl|rfl<;>rfl
theorem uf.can(n:uf cs t)(g:c∈cs){σ:ByteArray->Nat}(m:∀v∈zw c,σ v<(zq cs).length):∀l∈zk c,QP l.args.length (qd (zq cs) σ l)/\∀i,i<l.args.length->(qd (zq cs) σ l).getD i 0<(zq cs).length:=by
 have a:=hZ cs;intro l h;have q:=(n.lit c g l h).2.2.2;refine⟨⟨rfl,fun i b=>?_⟩,fun i b=>?_⟩
 ·by_cases o:i<3
  ·rw[e8 _ _ _ o];unfold jN;rw[kV b]
  ·rw[List.getD,kV (by simp[qd];omega)];rfl
 ·rw[e8 _ _ _ (by omega)];unfold jN;rw[yp b];simp only;split
  ·rename_i f;exact m _ (n.cov c g l h _ (zs b) f)
  ·rename_i f;have p:=(a.2 _).2 ⟨c,g,l,h,zs b,by simpa using f⟩;obtain⟨k,j,e⟩:=vw.1 p;have d:=rJ a.1 j;rw[List.getD,yp j,ux,e] at d;rw[d];exact j
theorem Rx.der1(f:uf cs t)(h:Rx t (zq cs) L D)(g:c∈cs){r:zm}(H:wJ t (zq cs) c D r):pq L c (uk (zq cs) r c.head.args.length 3)/\QP c.head.args.length r/\∀i,i<c.head.args.length->r.getD i 0<(zq cs).length:=by
 obtain⟨σ,F,J,C⟩:=H;have o:=hZ cs;have p:∀v∈zw c,σ v<(zq cs).length:=by
  intro v w;obtain⟨s,l,d,n,x⟩:=dG.1 w;have b:l∈zk c:=by simp[zk,d]
  obtain⟨u,y⟩:=h.can f g b (F l d n);obtain⟨i,E,rfl⟩:=vw.1 x;have A:=(f.lit c g l b).2.2.2;have:=y i E;rw[e8 _ _ _ (by omega)] at this;unfold jN at this;rw[yp E] at this;simpa only[zc s] using this
 have e:=f.can g p;have j:∀l∈zk c,Re (fun v=>if v∈zw c then(zq cs).getD (σ v) ByteArray.empty else⟨#[0]⟩) l=uk (zq cs) (qd (zq cs) σ l) l.args.length 3:=by
  intro l d;rw[wu g d (f.lit c g l d).2.2.2];unfold Re;refine kR fun a I=>?_;split
  ·rename_i w;exact zc (f.cov c g l d a I w)
  ·rfl
 have k:c.head∈zk c:=by simp[zk]
 refine⟨⟨_,fun a=>?_,fun l d n=>?_,fun l d n m z=>?_,by rw[j _ k,C]⟩,by rw[C];exact e _ k⟩
 ·split
  ·rename_i q;exact f.nsz _ (iQ (p a q))
  ·decide
 ·have b:l∈zk c:=by simp[zk,d]
  obtain⟨m,z⟩:=mm.1 (F l d n);exact⟨m,(h.lit f g b _ m).2 ⟨_,z,j l b⟩⟩
 ·have b:l∈zk c:=by simp[zk,d]
  obtain⟨M,u,y⟩:=(h.lit f g b _ m).1 z;obtain⟨G,K⟩:=h.can f g b (r:=M) (by unfold QH;rw[u];rfl);have A:=(f.lit c g l b).2.2.2;have B:=nG o.1 A G K;have N:=nG o.1 A (e l b).1 (e l b).2;rw[←y,j l b,N,zt] at B;rw[←B,J l d n] at u;cases u
theorem Rx.der2(g:uf cs t)(h:Rx t (zq cs) L D)(d:c∈cs){x:κ}(G:pq L c x):∃r,wJ t (zq cs) c D r/\x=uk (zq cs) r c.head.args.length 3:=by
 obtain⟨σ,_,F,I,rfl⟩:=G;have p:=hZ cs;have J:∀l∈c.body,l.neg=false->QH D (zO t l.pred) (qd (zq cs) (fun v=>(ur (zq cs) (σ v)).getD 0) l):=by
  intro l f k;have b:l∈zk c:=by simp[zk,f]
  obtain⟨m,B⟩:=F l f k;obtain⟨r,o,e⟩:=(h.lit g d b _ m).1 B;have E:QH D (zO t l.pred) r:=by unfold QH;rw[o];rfl
  obtain⟨C,A⟩:=h.can g d b E;rw[←Nb p.1 C A e.symm];exact E
 have n:∀v∈zw c,(zq cs).getD ((ur (zq cs) (σ v)).getD 0) ByteArray.empty=σ v:=by
  intro v u;obtain⟨s,l,f,k,w⟩:=dG.1 u;have b:l∈zk c:=by simp[zk,f]
  obtain⟨m,B⟩:=F l f k;obtain⟨r,o,e⟩:=(h.lit g d b _ m).1 B;obtain⟨C,A⟩:=h.can g d b (r:=r) (by unfold QH;rw[o];rfl);have K:=(g.lit c d l b).2.2.2;obtain⟨i,y,rfl⟩:=vw.1 w;have z:(uk (zq cs) r l.args.length 3)[i]'(by rw[tr];exact y)=(Re σ l)[i]'(by simp[Re];exact y):=by simp only[←e]
  simp only[uk,Re,uJ,mI] at z;rw[zc (by omega),zc s] at z;rw[←z,rJ p.1 (A i y)];rfl
 have q:∀l∈zk c,Re (fun v=>(zq cs).getD ((ur (zq cs) (σ v)).getD 0) ByteArray.empty) l=Re σ l:=by
  intro l f;refine kR fun a H=>?_;split
  ·rename_i u;exact n a (g.cov c d l f a H u)
  ·rfl
 have j:c.head∈zk c:=by simp[zk]
 refine⟨_,⟨_,J,fun l f k=>?_,rfl⟩,by rw[wu d j (g.lit c d c.head j).2.2.2,q c.head j]⟩;have b:l∈zk c:=by simp[zk,f]
 cases o:D (zO t l.pred) (qd (zq cs) (fun v=>(ur (zq cs) (σ v)).getD 0) l) with
 |none=>rfl
 |some m=>
  exfalso;refine I l f k m ((h.lit g d b _ m).2 ⟨_,o,?_⟩);rw[wu d b (g.lit c d l b).2.2.2,q l b]
end
section
open Go.RowKit
theorem KI{s:ByteArray}{cs:List zd}{t:List zh}(h:xL s=.ok (cs,t)):∀c∈cs,n7 c:=by
 unfold xL at h;split at h
 ·cases h
 ·split at h
  ·cases h
  ·rename_i l d;split at h
   ·cases h
   ·rename_i b f;have e:=B6 _ f (Mr d);have a:b=cs:=by
     repeat'(split at h)
     all_goals first|(cases h;done)|(simp only[Except.ok.injEq,ya] at h;exact h.1)
    subst a;exact e
theorem nR.sz{x:ByteArray}(h:nR (bl x)):0<x.size/\x.size<=6:=by
 have d:=h.ne;have c:=h.six;have e:(bl x).length=x.size:=rfl;cases b:bl x with
 |nil=>exact zC b d
 |cons a r=>rw[b] at e c;simp only[xi] at e c;omega
theorem mw.fine{l:zj}(h:mw l)(b:l.args.length<=3):B3 l:=
 ⟨h.1.1.sz.2,h.1.1.sz.1,by omega,fun x a=>h.2 x a |>.sz⟩
theorem n7.fine{c:zd}(h:n7 c)(b:yE c=false):ir c:=by
 unfold yE at b;simp only[nK,decide_eq_false_iff_not] at b;obtain⟨⟨⟨e,f⟩,d⟩,_⟩:=b;refine⟨fun l a=>?_,by omega⟩;rcases zx.1 a with rfl|a
 ·exact h.2.1.fine (by omega)
 ·have:=List.any_eq_false.1 d l a;simp only[decide_eq_true_eq] at this;exact(h.2.2 l a).fine (by omega)
end
end Go.Proofs.YteampbddflhngaaGreat
