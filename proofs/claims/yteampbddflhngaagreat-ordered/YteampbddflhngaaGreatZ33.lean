import Derived.Test.YteampbddflhngaaGreatZ17
import Derived.Test.YteampbddflhngaaGreatZ28
import Derived.Test.YteampbddflhngaaGreatZ31
import Derived.Test.YteampbddflhngaaGreatZ32
namespace Go.Proofs.YteampbddflhngaaGreat
set_option linter.all false
set_option maxRecDepth 100000
set_option maxHeartbeats 8000000
section
open Go.RowKit
theorem mM(w:World)(m:Nat):μ w (w.drewN m):=zJ (zo _ _) m
abbrev zE:=ByteArray×κ×Nat
def yP(a:ByteArray)(row:κ):List zE->Option Nat
 |[]=>none
 |f::b=>if f.1=a/\f.2.1=row then some 0 else(yP a row b).map (·+1)
def gN(a:ByteArray)(row:κ)(fs:List zE):Int:=match yP a row fs with
 |none=>-1
 |some k=>k
theorem F0{a:ByteArray}{row:κ}{fs:List zE}{k:Nat}(b:k<fs.length):yP a row (fs.drop k)=if fs[k].1=a/\fs[k].2.1=row then some 0 else(yP a row (fs.drop (k+1))).map (·+1):=by
 rw[xp b];rfl
end
section
open Go.Proofs.Tryz Go.RowKit
theorem AG{lo B:Nat}(w:World)(L M:Value)(a b:κ)(v:QD lo w L a)(u:QD B w M b)(hl:a.length<=1000000)(W:b.length<=2000000):
  Calls prog 84 #[L,M] w fun e V=>e=ε (.bool (decide (a=b)))/\μ w V:=by
 obtain⟨ao,Z,rfl⟩:=v.qx;obtain⟨Y,E,rfl⟩:=u.qx;by_cases d:a.length=b.length
 ·have t:=Q5 d;rw[←d];clear d;have X:Hid (∀k,k<a.length->a.getD k ByteArray.empty≠b.getD k ByteArray.empty->decide (a=b)=false):=fun k _ q=>by
   simp only[decide_eq_false_iff_not];rintro rfl;exact q rfl
  have O:Hid ((∀k,k<a.length->a.getD k ByteArray.empty=b.getD k ByteArray.empty)->decide (a=b)=true):=fun q=>by
   simp only[decide_eq_true_eq];refine kP t.out fun i F P=>?_;have:=q i F;rwa [QB _ F,QB _ P] at this
  generalize decide (a=b)=r at *;have U:=Q5 v;have HB:=Q5 u;clear v u;go_enter func84,ntmps84;go_wp2;go_loopw [5] (fun i wr=>∃k:Nat,k<=a.length/\i=ι k/\Hid (∀j,j<k->a.getD j ByteArray.empty=b.getD j ByteArray.empty)/\μ w wr) (fun i _=>a.length-(intOf i).toNat)
  case atStart=>exact⟨0,zv _,rfl,fun j G=>by omega,zo _ _⟩
  case round=>
   obtain⟨k,hk,rfl,N,c⟩:=hrel;have K:=c.size;by_cases f:k<a.length
   ·have h:k<b.length:=by rw[←t.out];exact f
    obtain⟨g,rfl,Q,n⟩:=U.out.cell k f;obtain⟨R,S,D,l⟩:=HB.out.cell k h;subst S;have aa:=zl c Q n;have J:=zl c D l;have T:g<wr.heap.size:=by omega
    have I:R<wr.heap.size:=by omega
    clear n l;have p:Hid (a.getD k ByteArray.empty=a[k]):=QB _ f;have o:Hid (b.getD k ByteArray.empty=b[k]):=QB _ h;by_cases m:a[k]=b[k]
    ·have z:=gi m;have C:=Q5 m;clear m;generalize a[k]=x at *;generalize b[k]=y at *;go_wp2;go_quiet (fail)
     go_wp2;go_roundw
     case rel=>exact⟨k+1,by omega,by go_num,fun j G=>(by
      by_cases A:j=k
      ·rw[A,p.out,o.out,C.out]
      ·exact N.out j (by omega)),zJ c _⟩
     case measure=>simp[intOf];omega
    ·have z:=jz m;have s:=Q5 (X.out k f (by rw[p.out,o.out];exact m));clear m;generalize a[k]=x at *;generalize b[k]=y at *;go_wp2;go_quiet (fail)
     go_wp2;go_ret;exact⟨by rw[s.out];rfl,zJ c _⟩
   ·have s:=Q5 (O.out fun j G=>N.out j (by omega));go_wp2;go_ret;exact⟨by rw[s.out];rfl,c⟩
 ·have H:¬(a.length:Int)=(b.length:Int):=by omega
  have s:Hid (decide (a=b)=false):=show decide (a=b)=false by
   simp only[decide_eq_false_iff_not];rintro rfl;exact d rfl
  generalize decide (a=b)=r at *;clear v u d;go_enter func84,ntmps84;go_wp2;go_ret;exact⟨by rw[s.out];rfl,zo _ _⟩
def mN(w:World)(v:Value)(fs:List zE):Prop:=∃c a,v=.slice c fs.length a/\∀i (h:i<fs.length),∃g b d,c=some ⟨g,0,none⟩/\g<w.heap.size/\w.cell? ⟨g,i*3,none⟩=some (.string fs[i].1)/\w.cell? ⟨g,i*3+1,none⟩=some b/\w.cell? ⟨g,i*3+2,none⟩=some (ι (fs[i].2.2:Nat))/\QD d w b fs[i].2.1
theorem mN.below{w w':World}{v:Value}{fs:List zE}(h:mN w v fs)(a:μ w w'):mN w' v fs:=by
 obtain⟨l,c,j,m⟩:=h;refine⟨l,c,j,fun i d=>?_⟩;obtain⟨g,o,e,q,b,f,n,k,p⟩:=m i d;exact⟨g,o,e,q,xP b a.size,(zl a b f),(zl a b n),(zl a b k),p.below a⟩
theorem Ec{J:Nat}(w:World)(t rd:Nat)(v:Value)(fs:List zE)(b:ByteArray)(E:Value)(row:κ)(I:Q6 w t #[v,ι rd] 54)(h:mN w v fs)(D:QD J w E row)(hl:fs.length<=10000000)(K:row.length<=2000000)(u:∀f∈fs,f.2.1.length<=1000000):
  Calls prog 45 #[(π t),.string b,E] w fun e w'=>e=ε (ι (gN b row fs))/\μ w w':=by
 have O:=Q5 fun W lo Y (a:κ) (hb:μ w W) (ha:QD lo W Y a) (Z:a.length<=1000000)=>AG W Y E a row ha (D.below hb) Z K;obtain⟨aa,S,rfl⟩:=D.qx;obtain⟨ao,M,rfl,d⟩:=h;have U:w.cell? ⟨t,0,none⟩=some (.slice ao fs.length M):=by rw[I.rules.1];rfl
 have x:=I.lt;have HC:=Q5 d;have N:=Q5 u;have H0:Hid (yP b row fs=(yP b row (fs.drop 0)).map (·+0)):=show yP b row fs=_ by simp
 have V:Hid (gN b row fs=match yP b row fs with|none=>-1|some k=>(k:Int)):=show gN b row fs=_ from rfl
 clear d D u I;generalize gN b row fs=H at *;generalize yP b row fs=m at *;go_enter func45,ntmps45;go_wp2;go_loopw [7,8] (fun i _ wr=>∃k:Nat,k<=fs.length/\i=ι k/\Hid (m=(yP b row (fs.drop k)).map (·+k))/\μ w wr) (fun i _ _=>fs.length-(intOf i).toNat)
 case atStart=>exact⟨0,zv _,rfl,H0,zo _ _⟩
 case round=>
  obtain⟨k,hk,rfl,F,c⟩:=hrel;have X:=c.size;by_cases p:k<fs.length
  ·have s:(k:Int)<(fs.length:Int):=by omega
   obtain⟨g,rv,C,rfl,Q,T,R,_,P⟩:=HC.out k p;have xm:=zl c x U;have y:t<wr.heap.size:=by omega
   have q:=F.out;rw[F0 p] at q;have r:=Q5 q;clear q F;have x0:=zl c Q T;have x1:=zl c Q R;have ab:g<wr.heap.size:=by omega
   have B:=Q5 (O.out wr C _ _ c (P.below c) (N.out _ (zs p)));clear T R P;generalize fs[k].2.1=L at *;generalize fs[k].1=fp at *;by_cases l:fp=b
   ·have G:=gi l;by_cases j:L=row
    ·have A:Hid (m=some k):=show m=some k by rw[r.out,zc ⟨l,j⟩];simp
     have n:=Q5 (show H=(k:Int) by rw[V.out,A.out]);rw[show decide (L=row)=true by simp[j]] at B;clear r l j;go_wp2_with (go_at_call 84;refine B.out.mono ?_;rintro e w1 ⟨rfl,o⟩)
     go_ret;exact⟨by rw[n.out];rfl,Q9 c o⟩
    ·have A:Hid (m=(yP b row (fs.drop (k+1))).map (·+(k+1))):=show m=_ by
      rw[r.out,za (fun z=>j z.2),Option.map_map];congr 1;funext z;simp only[Function.comp];omega
     rw[show decide (L=row)=false by simp[j]] at B;clear r l j;go_wp2_with (go_at_call 84;refine B.out.mono ?_;rintro e w1 ⟨rfl,o⟩)
     exact⟨⟨k+1,by omega,by go_num,A,Q9 c o⟩,by simp[intOf];omega⟩
   ·have G:=jz l;have A:Hid (m=(yP b row (fs.drop (k+1))).map (·+(k+1))):=show m=_ by
     rw[r.out,za (fun z=>l z.1),Option.map_map];congr 1;funext z;simp only[Function.comp];omega
    clear r l;go_wp2;exact⟨⟨k+1,by omega,by go_num,A,c⟩,by simp[intOf];omega⟩
  ·have s:¬(k:Int)<(fs.length:Int):=by omega
   have xm:=zl c x U;have y:t<wr.heap.size:=by omega
   have n:Hid (H=-1):=show H=-1 by
    rw[V.out,F.out,ue (by omega)];rfl
   go_wp2;go_ret;exact⟨by rw[n.out];rfl,c⟩
end
def fz(t:List zh)(p:Nat):ByteArray:=(Q8 t).getD p ByteArray.empty
section
open Go.RowKit
theorem QL.runos{cs:List zd}{n t:List zh}(h:QL cs n t){os:Option (List (Option (List Int)))}(g:vi cs os=true):pk cs t os/\nL (vj t (zq cs) os cs):=by
 have a:nL (vj t (zq cs) os cs):=oD h _ os (eA g fun c k=>lm (h.many c k));obtain⟨b,_⟩:=h.runok;have f:(os.getD []).length<=cs.length/\∀o∈os.getD [],(o.getD []).length<=5:=by
  cases os with
  |none=>simp
  |some l=>
   unfold vi at g;simp only[ux,beq_iff_eq,ko] at g;refine⟨by simp;omega,fun o f=>?_⟩;obtain⟨i,p,rfl⟩:=vx.1 (show o∈l from f);have:=g.2 (cs[i]'(by omega),l[i]) (by
    rw[vx];exact⟨i,by simp;omega,by simp⟩)
   cases m:l[i] with
   |none=>simp
   |some o=>
    rw[m] at this;simp only[vl,ux,beq_iff_eq] at this;have q:=lm (h.many cs[i] (zs (by omega)));simp only[ur];omega
 have d:=b.len;refine⟨⟨b.len,b.names,b.fine,b.sums,b.few,b.vals,b.jm,by omega,fun o h=>by have:=f.2 o h;omega,fun _ o h=>by have:=f.2 o h;omega,fun _=>?_⟩,a⟩;have e:=b.set rfl;exact⟨fun r j=>⟨fun l d=>((a.rules.rules r j).qc l d).1,fun l d=>⟨((a.rules.rules r j).qp l d).1,a.rules.apart r j r j rfl l d⟩⟩,e.many,e.small,e.rows,e.facts,e.qf⟩
end
section
open Classical
variable {t t0:List zh}{cs:List zd}
theorem GJ{c:List zh}{l:zj}(b:∀e∈t,e.qh=0)(h:vI t l=some c):∀e∈c,e.qh=0:=by
 unfold vI at h;split at h
 ·split at h
  ·simp only[zt] at h;subst h;exact b
  ·cases h
 ·simp only[zt] at h;subst h;intro e a;rcases rR.1 a with rfl|a
  ·rfl
  ·exact b e a
theorem Dj:∀(b done:List zj) (t:List zh),RL t done->(∀e∈t,e.qh=0)->(∀x∈done++b,∀y∈done++b,x.pred=y.pred->x.args.length=y.args.length)->∃f,b.foldl ul (some t)=some f/\RL f (done++b)/\∀e∈f,e.qh=0
 |[],done,t,h,i,_=>⟨t,rfl,by simpa using h,i⟩
 |l::b,done,t,h,i,m=>by
  rw[ut];cases a:vI t l with
  |none=>
   exfalso;unfold vI at a;split at a
   ·rename_i e p;obtain⟨j,r⟩:=nH p;split at a
    ·cases a
    ·rename_i g;obtain⟨n,c,d⟩:=(h.names e.name).1 (zy.2 ⟨e,j,rfl⟩);apply g;rw[←h.jh e j n c d];exact m n (by simp[c]) l (by simp) (d.trans r)
   ·cases a
  |some k=>
   rw[show ul (some t) l=some k from a];obtain⟨f,q,s,o⟩:=Dj b (done++[l]) k (h.step a) (GJ i a) (by simpa [List.append_assoc] using m);exact⟨f,q,by simpa [List.append_assoc] using s,o⟩
theorem Mv{c:List zj}(h:RL t c){x y:zj}(f:x∈c)(g:y∈c)(e:x.pred=y.pred):x.args.length=y.args.length:=by
 obtain⟨a,d,b⟩:=zy.1 ((h.names x.pred).2 ⟨x,f,rfl⟩);rw[h.jh a d x f b.symm,h.jh a d y g (e.symm.trans b.symm)]
theorem Ax(h:RL t (cs.flatMap zk)):kt t cs:=by
 intro c a l f;cases b:yo t l.pred with
 |some e=>rfl
 |none=>
  obtain⟨e,d,g⟩:=zy.1 ((h.names l.pred).2 ⟨l,uJ.2 ⟨c,a,f⟩,rfl⟩);exact zC g (nz h.rise b e d)
theorem O0(h:∀e∈t,e.qh=0)(n:ByteArray):val t n=0:=by
 unfold val;split
 ·rename_i e a;exact h e (nH a).1
 ·rfl
theorem O7(h:ui cs=some t0):∀e∈t0,e.qh=0:=by
 have c:=Bq h;obtain⟨u,u1,u2,u3⟩:=Dj (cs.flatMap zk) [] [] wD (fun e b=>by cases b) (fun x d y a e=>Mv c (by simpa using d) (by simpa using a) e);have f:u=t0:=by unfold ui at h;rw[u1] at h;simpa using h
 subst f;exact u3
theorem QL.least(h:QL cs t0 t):Rn cs (val t):=by
 have:=(wH (Ax h.tab) (O0 (O7 h.coll))).2 (by rw[h.jm]);rwa [h.jm] at this
theorem QL.nam(h:QL cs t0 t):Q8 t=Q8 t0/\R4 t=R4 t0:=by
 have a:=wt (t0.length+1) t0 cs (Ax h.tab);have b:=pB (t0.length+1) t0 cs;rw[h.jm] at a b;exact⟨a,b⟩
end
section
open Classical
theorem C1{cs:List zd}{b t:List zh}(h:QL cs b t){c:zd}(a:c∈cs){l:zj}(d:l∈zk c):l.pred∈Q8 t:=by
 rw[h.nam.1];exact(h.tab.names l.pred).2 ⟨l,uJ.2 ⟨c,a,d⟩,rfl⟩
theorem Cf{t:List zh}{ns:κ}(cs:List zd)(s:Nat):((uB t ns none cs).filter fun r=>decide (r.qh=s))=[]↔¬∃c∈cs,0<c.body.length/\xt t c.head.pred=s:=by
 rw[List.filter_eq_nil_iff];constructor
 ·rintro q ⟨c,d,a,f⟩;obtain⟨i,b,rfl⟩:=vx.1 d;have:=q _ (pH.2 ⟨i,b,a,rfl⟩);exact this (decide_eq_true f)
 ·intro q r g;obtain⟨i,b,a,rfl⟩:=pH.1 g;exact fun e=>q ⟨_,zs b,a,of_decide_eq_true e⟩
theorem JP{rs:List zr}{k:Nat}{D:DB}{p:Nat}{x:zm}{m:Nat}(h:D p x=some m):zyr rs k D p x=some m:=by
 unfold zyr;rw[h]
end
section
open Classical
variable {ns:κ}
def Rb(σ:ByteArray->ByteArray)(l:zj):κ:=l.args.map fun a=>if zO a=true then σ a else a
theorem iz{i:Nat}(h:i<ns.length):ns.getD i ByteArray.empty∈ns:=by
 rw[QB _ h];exact zs h
theorem sy{cs:List zd}{c:zd}(g:c∈cs){l:zj}(h:l∈zk c)(o:l.args.length<=3)(σ:ByteArray->Nat):ug (zq cs) (vW (zq cs) σ l) l.args.length 3=Rb (fun v=>(zq cs).getD (σ v) ByteArray.empty) l:=by
 have d:=lf cs;have a:∀i (b:i<l.args.length),(zq cs).getD ((vW (zq cs) σ l).getD i 0) ByteArray.empty=if zO l.args[i]=true then(zq cs).getD (σ l.args[i]) ByteArray.empty else l.args[i]:=by
  intro i b;have e:(vW (zq cs) σ l).getD i 0=jN (zq cs) σ l i:=by
   have:i=0∨i=1∨i=2:=by omega
   rcases this with rfl|rfl|rfl<;>rfl
  rw[e];unfold jN;rw[yq b];simp only;split
  ·rfl
  ·rename_i m;have j:=(d.2 _).2 ⟨c,g,l,h,zs b,by simpa using m⟩;obtain⟨v,f,n⟩:=Ku d.1 j;rw[f];exact(G7 f).2
 apply kP
 ·simp[ug,Rb]
 ·intro i k p;have b:i<l.args.length:=by simpa [ug] using k
  simp only[ug,Rb,uM,mp];rw[zc (by omega),a i b]
theorem NE(q:yB ns){l:zj}{r:zm}(g:QN l.args.length r)(k:∀i,i<l.args.length->r.getD i 0<ns.length){σ:ByteArray->ByteArray}(h:ug ns r l.args.length 3=Rb σ l):r=vW ns (fun v=>(um ns (σ v)).getD 0) l:=by
 have d:∀i,i<3->r.getD i 0=jN ns (fun v=>(um ns (σ v)).getD 0) l i:=by
  intro i p;unfold jN;by_cases j:i<l.args.length
  ·have e:(ug ns r l.args.length 3)[i]'(by rw[tj];exact j)=(Rb σ l)[i]'(by simp[Rb];exact j):=by simp only[h]
   simp only[ug,Rb,uM,mp] at e;rw[zc (by omega)] at e;have m:=rf q (k i j);rw[yq j];simp only;split
   ·rename_i f;rw[zc f] at e;rw[←e,m];rfl
   ·rename_i f;rw[za f] at e;rw[←e,m];rfl
  ·rw[kF (by omega)];exact g.2 i (by omega)
 match r,g.1 with
 |[a,b,c],_=>
  have o:=d 0 (by omega);have n:=d 1 (by omega);have s:=d 2 (by omega);unfold vW;rw[←o,←n,←s];rfl
end
section
open Classical
abbrev y5:=List (ByteArray×ByteArray)
def QJ:y5->ByteArray->Option ByteArray
 |[],_=>none
 |x::B,t=>if x.1=t then some x.2 else QJ B t
def yd(B:y5)(t:ByteArray):ByteArray:=if zO t=true then(QJ B t).getD ByteArray.empty else t
def xk:y5->κ->κ->Option y5
 |B,[],_=>some B
 |B,a::b,row=>if yd B a=ByteArray.empty then xk (B++[(a,row.headD ByteArray.empty)]) b row.tail else if yd B a=row.headD ByteArray.empty then xk B b row.tail else none
def y7(B:y5)(args:κ):κ:=args.map (yd B)
theorem rN(B C:y5)(t:ByteArray):QJ (B++C) t=(QJ B t).or (QJ C t):=by
 induction B with
 |nil=>rfl
 |cons x B a=>
  rw[lE,QJ,QJ];split
  ·rfl
  ·exact a
def qd(B:y5):Prop:=∀v x,QJ B v=some x->x≠ByteArray.empty
def St(B C:y5):Prop:=∀v x,QJ B v=some x->QJ C v=some x
theorem St.trans{A B C:y5}(h:St A B)(k:St B C):St A C:=fun v x q=>k v x (h v x q)
theorem nK{B C:y5}(h:St B C){t:ByteArray}(a:yd B t≠ByteArray.empty):yd C t=yd B t:=by
 unfold yd at *;split
 ·rename_i q;rw[zc q] at a;cases b:QJ B t with
  |none=>rw[b] at a;exact zC rfl a
  |some x=>rw[h t x b]
 ·rfl
theorem p9:∀(args row:κ) (B b:y5),args.length=row.length->(∀x∈row,x≠ByteArray.empty)->(∀a∈args,a≠ByteArray.empty)->qd B->xk B args row=some b->qd b/\St B b/\y7 b args=row
 |[],row,B,b,i,_,_,l,h=>by
  simp only[xk,zt] at h;subst h;have:row=[]:=by cases row with|nil=>rfl|cons a r=>simp at i
  subst this;exact⟨l,fun v x q=>q,rfl⟩
 |a::g,[],B,b,i,_,_,_,_=>by simp at i
 |a::g,r::k,B,b,i,s,A,l,h=>by
  have n:g.length=k.length:=by simpa using i
  have o:=s r (by simp);have w:=A a (by simp);unfold xk at h;change (if yd B a=ByteArray.empty then xk (B++[(a,r)]) g k else if yd B a=r then xk B g k else none)=some b at h;split at h
  ·rename_i c;have d:zO a=true:=by
    false_or_by_contra
    rename_i q;unfold yd at c;rw[za q] at c;exact w c
   have t:QJ B a=none:=by
    unfold yd at c;rw[zc d] at c;cases f:QJ B a with
    |none=>rfl
    |some x=>rw[f] at c;exact zC c (l a x f)
   have z:qd (B++[(a,r)]):=by
    intro v x q;rw[rN] at q;cases f:QJ B v with
    |some y=>rw[f] at q;simp only[Option.some_or,zt] at q;rw[←q];exact l v y f
    |none=>
     rw[f] at q;simp only[Option.none_or,QJ] at q;split at q
     ·simp only[zt] at q;rw[←q];exact o
     ·cases q
   have C:St B (B++[(a,r)]):=by
    intro v x q;rw[rN,q];rfl
   obtain⟨u,m,j⟩:=p9 g k _ b n (fun x e=>s x (by simp[e])) (fun x e=>A x (by simp[e])) z h;refine⟨u,C.trans m,?_⟩;unfold y7 at j ⊢;rw[xI,j];congr 1;have:QJ (B++[(a,r)]) a=some r:=by
    rw[rN,t];simp[QJ]
   unfold yd;rw[zc d,m a r this];rfl
  ·rename_i c;by_cases p:yd B a=r
   ·rw[zc p] at h;obtain⟨u,m,j⟩:=p9 g k B b n (fun x e=>s x (by simp[e])) (fun x e=>A x (by simp[e])) l h;refine⟨u,m,?_⟩;unfold y7 at j ⊢;rw[xI,j,nK m c,p]
   ·rw[za p] at h;cases h
def RR(B:y5)(σ:ByteArray->ByteArray):Prop:=∀v x,QJ B v=some x->σ v=x
theorem tV{σ:ByteArray->ByteArray}(c:∀a,σ a≠ByteArray.empty):∀(args:κ) (B:y5),(∀a∈args,a≠ByteArray.empty)->RR B σ->∃l,xk B args (args.map fun a=>if zO a=true then σ a else a)=some l/\RR l σ
 |[],B,_,h=>⟨B,rfl,h⟩
 |a::j,B,g,h=>by
  unfold xk;simp only[xI,List.headD_cons,lW];by_cases b:zO a=true
  ·rw[zc b];cases k:QJ B a with
   |none=>
    have f:yd B a=ByteArray.empty:=by unfold yd;rw[zc b,k];rfl
    rw[zc f];refine tV c j _ (fun x d=>g x (by simp[d])) fun v x q=>?_;rw[rN] at q;cases i:QJ B v with
    |some y=>rw[i] at q;simp only[Option.some_or,zt] at q;rw[←q];exact h v y i
    |none=>
     rw[i] at q;simp only[Option.none_or,QJ] at q;split at q
     ·rename_i e;simp only[zt] at q;rw[←q,e]
     ·cases q
   |some x=>
    have d:=h a x k;have f:yd B a=x:=by unfold yd;rw[zc b,k];rfl
    rw[f,za (by rw[←d];exact c a),zc d.symm];exact tV c j B (fun x d=>g x (by simp[d])) h
  ·have f:yd B a=a:=by unfold yd;rw[za b]
   rw[za b,f,za (g a (by simp)),zc rfl];exact tV c j B (fun x d=>g x (by simp[d])) h
theorem F7{a:ByteArray}{row:κ}:∀{fs:List zE} {k:Nat},yP a row fs=some k->∃e:k<fs.length,fs[k].1=a/\fs[k].2.1=row
 |[],_,h=>by cases h
 |f::fs,k,h=>by
  unfold yP at h;split at h
  ·rename_i q;simp only[zt] at h;subst h;exact⟨by simp,by simpa using q⟩
  ·obtain⟨j,b,rfl⟩:=vN.1 h;obtain⟨d,c⟩:=F7 b;exact⟨by simpa using d,by simpa using c⟩
theorem EE{a:ByteArray}{row:κ}:∀{fs:List zE},yP a row fs=none->∀m,(a,row,m)∉fs
 |[],_,m,h=>by cases h
 |f::fs,b,m,h=>by
  unfold yP at b;split at b
  ·cases b
  ·rename_i q;rw[Option.map_eq_none_iff] at b;rcases zx.1 h with e|h
   ·rw[←e] at q;exact q ⟨rfl,rfl⟩
   ·exact EE b m h
theorem RR.val{B:y5}{σ:ByteArray->ByteArray}(h:RR B σ){a:ByteArray}(b:yd B a≠ByteArray.empty):yd B a=if zO a=true then σ a else a:=by
 unfold yd at *;split
 ·rename_i q;rw[zc q] at b;cases c:QJ B a with
  |none=>rw[c] at b;exact zC rfl b
  |some x=>rw[h a x c];rfl
 ·rfl
end
section
open Go.RowKit
def xj(B:y5):κ:=B.map (·.1)
def xL(B:y5):κ:=B.map (·.2)
theorem GB{B:y5}{k:Nat}(a:k<B.length)(t:ByteArray):QJ (B.drop k) t=if B[k].1=t then some B[k].2 else QJ (B.drop (k+1)) t:=by
 rw[xp a];rfl
end
section
open Go.Proofs.Tryz Go.RowKit
def gh(B:y5)(t:ByteArray):Bool:=!zO t||(QJ B t).isSome
theorem Ft{lo I:Nat}(w:World)(M N:Value)(B:y5)(t:ByteArray)(x:QD lo w M (xj B))(v:QD I w N (xL B))(Z:B.length<=1000)(S:0<t.size):
  Calls prog 211 #[.agg #[M,N],.string t] w fun e J=>e=ε (.tuple #[.string (yd B t),.bool (gh B t)])/\Hid (μ w J):=by
 have j:Hid (∀W,Calls prog 154 #[.string t] W fun e J=>e=ε (.bool (zO t))/\J=W):=fun W=>wu t W S;have L:(xj B).length=B.length:=by simp[xj]
 have G:(xL B).length=B.length:=by simp[xL]
 obtain⟨f,c,rfl⟩:=x.qx;obtain⟨i,a,rfl⟩:=v.qx;rw[L] at x ⊢;rw[G] at v ⊢;have u:Hid (∀W k (n:k<B.length),μ w W->∃g,f=some ⟨g,0,none⟩/\g<W.heap.size/\W.cell? ⟨g,k,none⟩=some (.string B[k].1)):=fun W k n F=>by
  obtain⟨g,A,K,E⟩:=(x.below F).cell k (by rw[L];exact n);exact⟨g,A,K,by rw[E];simp[xj]⟩
 have r:Hid (∀W k (n:k<B.length),μ w W->∃g,i=some ⟨g,0,none⟩/\g<W.heap.size/\W.cell? ⟨g,k,none⟩=some (.string B[k].2)):=fun W k n F=>by
  obtain⟨g,A,K,E⟩:=(v.below F).cell k (by rw[G];exact n);exact⟨g,A,K,by rw[E];simp[xL]⟩
 clear x v L G;cases o:zO t with
 |false=>
  rw[o] at j;have d:Hid (yd B t=t/\gh B t=true):=by unfold Hid yd gh;rw[o];simp
  clear o u r;go_enter func211,ntmps211;go_wp2_with (go_at_call 154;refine(j.out _).mono ?_;rintro e T ⟨rfl,l⟩;obtain rfl:=l.symm)
  go_ret2
  exact⟨by rw[d.out.1,d.out.2];rfl,(zo _ _).alloc (zg _) _⟩
 |true=>
  rw[o] at j;have d:Hid (yd B t=(QJ B t).getD ByteArray.empty/\gh B t=(QJ B t).isSome):=by unfold Hid yd gh;rw[o];simp
  clear o;go_enter func211,ntmps211;go_wp2_with (go_at_call 154;refine(j.out _).mono ?_;rintro e T ⟨rfl,l⟩;obtain rfl:=l.symm)
  have h:Hid (μ w (w.alloc (.cells #[.slice f B.length c,.slice i B.length a] 270))):=(zo _ _).alloc (zg _) _;have s:=Q6.new w #[.slice f B.length c,.slice i B.length a] 270;obtain⟨Y,hf,V⟩:=s.boxed;clear s;generalize z:w.alloc (.cells #[.slice f B.length c,.slice i B.length a] 270)=O at *;clear z;go_loopw [7] (fun D wr=>∃k:Nat,k<=B.length/\D=ι k/\Hid (QJ B t=QJ (B.drop k) t)/\wr=O) (fun D _=>B.length-(intOf D).toNat)
  case atStart=>exact⟨0,zv _,rfl,rfl,rfl⟩
  case round=>
   obtain⟨k,n,rfl,H,C⟩:=hrel;obtain rfl:=C.symm;by_cases m:k<B.length
   ·have y:(k:Int)<(B.length:Int):=by omega
    obtain⟨g1,rfl,X,c1⟩:=u.out _ k m h.out;obtain⟨g2,rfl,U,c2⟩:=r.out _ k m h.out;have q:=GB m t;by_cases p:B[k].1=t
    ·have P:=gi p;rw[zc p] at q;have b:Hid (yd B t=B[k].2/\gh B t=true):=by rw[Hid,d.out.1,d.out.2,H.out,q];exact⟨rfl,rfl⟩
     clear p q H d;generalize B[k].1=R at *;generalize B[k].2=x2 at *;go_wp2;go_ret2
     exact⟨by rw[b.out.1,b.out.2];rfl,h⟩
    ·have P:=jz p;rw[za p] at q;have Q:Hid (QJ B t=QJ (B.drop (k+1)) t):=by rw[Hid,H.out,q]
     clear p q H;generalize B[k].1=R at *;go_wp2;go_roundw
     case rel=>exact⟨k+1,by omega,by go_num,Q,trivial⟩
     case measure=>simp[intOf];omega
   ·have y:¬(k:Int)<(B.length:Int):=by omega
    have b:Hid (yd B t=ByteArray.empty/\gh B t=false):=by
     rw[Hid,d.out.1,d.out.2,H.out,ue (by omega)];exact⟨rfl,rfl⟩
    clear H d;go_wp2;go_ret2
    exact⟨by rw[b.out.1,b.out.2];rfl,h⟩
theorem KQ{lo O E:Nat}(w:World)(h i av:Value)(B:y5)(args:κ)(h1:QD lo w h (xj B))(h2:QD O w i (xL B))(R:QD E w av args)(hl:B.length<=1000)(ha:args.length<=1000)(K:∀a∈args,0<a.size):
  Calls prog 195 #[.agg #[h,i],av] w fun e b=>∃v,e=.returned v/\Hid (QD w.heap.size b v (y7 B args))/\Hid (μ w b):=by
 obtain⟨i0,hi,F,V,H⟩:=info_parts Qq;have U:=Q5 fun W t o P=>Ft W h i B t (h1.below o) (h2.below o) hl P;obtain⟨ao,ag,rfl⟩:=R.qx;have HA:Hid (∀W k (G:k<args.length),μ w W->∃g,ao=some ⟨g,0,none⟩/\g<W.heap.size/\W.cell? ⟨g,k,none⟩=some (.string args[k])):=fun W k G o=>(R.below o).cell k G;clear h1 h2 R;go_enter func195,ntmps195;go_wp2;have u:Hid (μ w (w.alloc (.cells #[h,i] 270))):=(zo _ _).alloc (zg _) _;have l:=Q6.new w #[h,i] 270;have J:=Q5 l;have ac:=l.lt;clear l;generalize C:w.alloc (.cells #[h,i] 270)=A at *;clear C;go_loopw [5,6] (fun v5 L wr=>∃k:Nat,k<=args.length/\L=ι k/\wr.ownsRow A.heap.size 9 1 v5 k ((y7 B (args.take k)).map Value.string)/\Hid (μ A wr)) (fun _ L _=>args.length-(intOf L).toNat)
 case atStart=>exact⟨0,zv _,rfl,yC _ _ _ _,zo _ _⟩
 case round=>
  obtain⟨k,G,rfl,d,f⟩:=hrel;obtain⟨af,Y,rfl⟩:=zp d;have p:=Q5 (Q9 u.out (f.out));have ad:=f.out.size;by_cases n:k<args.length
  ·have D:(k:Int)<(args.length:Int):=by omega
   obtain⟨g,rfl,hg,z⟩:=HA.out _ k n p.out;have P:=K _ (zs n);have c:=(J.out.below f.out);obtain⟨hc,hf,aa⟩:=c.boxed;have X:Hid (y7 B (args.take (k+1))=y7 B (args.take k)++[yd B args[k]]):=by
    unfold Hid y7;rw[yM n,uQ];rfl
   have HV:Hid (∀W,μ wr W->Calls prog 211 #[.agg #[h,i],.string args[k]] W fun e b=>e=ε (.tuple #[.string (yd B args[k]),.bool (gh B args[k])])/\Hid (μ wr b)/\b.cell? ⟨g,k,none⟩=some (.string args[k])/\b.cell? ⟨w.heap.size,0,none⟩=some h/\b.cell? ⟨w.heap.size,1,none⟩=some i):=fun W o=>by
    refine(U.out W args[k] (Q9 p.out o) P).mono ?_;rintro e b ⟨q1,q2⟩;have m:=Q9 o q2.out;have s:=c.below m;exact⟨q1,m,(zl m hg z),by rw[s.rules.1];rfl,by rw[s.rules.1];rfl⟩
   clear c;generalize yd B args[k]=x at *;generalize gh B args[k]=kn at *;generalize args[k]=y at *;go_upto_region 5 with fail
   go_cut [7,8] from 15 to 23 (fun s7 _ wx=>s7=.string x/\Hid (μ wr wx))
   case first=>
    go_region_held3 (fun b=>b.cell? ⟨g,k,none⟩=some (.string y)/\b.cell? ⟨w.heap.size,0,none⟩=some h/\b.cell? ⟨w.heap.size,1,none⟩=some i) (first|go_keep|(go_simp;done)) (go_at_call 211;refine(HV.out _ (by exact(by repeat'(first|with_reducible(first|apply zR|assumption|apply zN|apply zA|apply zD|apply zS)|go_size)))).mono ?_;rintro e w5 ⟨rfl,N,z0,z1,z2⟩)
    go_wp2;go_meet
    case rel=>exact⟨rfl,N⟩
   case rest=>
    obtain⟨rfl,r⟩:=hcut;have M:=zB d r.out;have ab:=r.out.size;have j:=Q5 (Q9 f.out r.out);clear hc hf z;go_wp2_with (at_builtin;refine ks wc _ _ _ rfl (.tmp 24) (.tmp 26) 30 rfl A.heap.size 9 i0 _ 1 16 underlying30 hi F V H rfl (by decide) _ _ _ rfl M (zo _ _) _ _ rfl (by simp) rfl (by simp[Value.oneCell']) (by omega) (by omega) j.out.size ?_;intro v' w2 S T I Q ae Z;clear I Q)
    go_roundw
    case rel=>exact⟨k+1,by omega,by go_num,by rw[X.out];simpa using S,j.out.trans T⟩
    case measure=>simp[intOf];omega
  ·have D:¬(k:Int)<(args.length:Int):=by omega
   obtain rfl:k=args.length:=by omega
   go_wp2;go_ret;refine⟨_,rfl,?_,p⟩;have q:=d;rw[vw] at q;have e:(y7 B args).length=args.length:=by simp[y7]
   unfold Hid QD;rw[e];exact yr q (by have:=u.out.size;omega)
section
variable {ops:Array Oper} {rest:List Oper} {o:Oper} {a:Act} {Q:Exit->Act->World->Prop}
theorem DM{lo:Nat}{w:World}(c:o.guard=none)(s x:Operand)
  (z:o.op=.call {callee:=.builtin .append,args:=#[s,x],argTypes:=#[30,30]})
  (b:κ) (v:Value) (B:a.eval s=ν) (D:a.eval x=v) (F:QD lo w v b) (O:b.length<=1000000)
  (h:∀q n,QD w.heap.size n q b->μ w n->wpList prog ops Q rest (a.put o.dst q) n):
  wpList prog ops Q (o::rest) a w:=by
 obtain⟨E,A,g,t,i⟩:=info_parts Qq;obtain⟨_,⟨p,J⟩|⟨C,d,I,p,K,M,N,H,L,l⟩⟩:=F
 ·have f:b=[]:=rW J;refine wpList_append_own_none c s x 30 z w.heap.size 9 E 1 underlying30 A _ 0 [] B (yC _ _ _ _) (by rw[D,p]) ?_;refine h _ _ ?_ (zo _ _);rw[f];exact yC _ _ _ _
 ·have r:∀j u,(b.map Value.string)[j]?=some u->w.cell? (Addr.add ⟨C,0,none⟩ j)=some u:=fun j u e=>by
   rw[Addr.add_lit,vz];unfold World.cell?;rw[M];simp only;rw[←l,lJ] at e;split at e
   ·simpa using e
   ·simp at e
  refine wpList_append_own _ c s x 30 z w.heap.size 9 E _ 1 16 underlying30 A g t i rfl (by decide) _ 0 [] B (yC _ _ _ _) ⟨C,0,none⟩ b.length d (b.map Value.string) (by rw[D,p]) (by simp) r (by simp[Value.oneCell']) (by unfold maxLen;omega) (by omega) (zg _) ?_;intro q P y m _;refine h _ _ ?_ ((zo _ _).grown m (zg _) (fun k G=>by cases G));simpa [QD] using y
end
theorem ij{w:World}{b:Nat}{c:Array Value}{T:TypeId}(h:Q6 w b c T)(o:Obj):Q6 (w.alloc o) b c T:=h.below ((zo _ _).alloc (zg _) o)
theorem oH(B:y5):(xj B).length=B.length:=by simp[xj]
theorem i4(B:y5):(xL B).length=B.length:=by simp[xL]
theorem PM{B:y5}{args row:κ}{k:Nat}(b:k<args.length)(c:k<row.length):xk B (args.drop k) (row.drop k)=if yd B args[k]=ByteArray.empty then xk (B++[(args[k],row[k])]) (args.drop (k+1)) (row.drop (k+1)) else if yd B args[k]=row[k] then xk B (args.drop (k+1)) (row.drop (k+1)) else none:=by
 rw[xp b,xp c];rfl
end
section
open Go.Proofs.Tryz Go.RowKit
variable {B:y5}{lo:Nat}
theorem Hs{t:ByteArray}(b:qd B)(a:0<t.size):gh B t=true↔yd B t≠ByteArray.empty:=by
 unfold gh yd;cases zO t with
 |false=>
  simp only[Bool.not_false,Bool.true_or,true_iff,gL,if_false];rintro rfl;exact zC a (by decide)
 |true=>
  simp only[mm,nJ,if_true];cases c:QJ B t with
  |none=>simp
  |some x=>simp[b t x c]
theorem NK{y z:ByteArray}(c:qd B)(b:z≠ByteArray.empty):qd (B++[(y,z)]):=by
 intro v x h;rw[rN] at h;cases a:QJ B v with
 |some u=>
  rw[a] at h;simp only[Option.some_or,zt] at h;rw[←h];exact c v u a
 |none=>
  rw[a] at h;simp only[Option.none_or,QJ] at h;split at h
  ·cases h;exact b
  ·cases h
structure CR (lo:Nat) (w:World) (cb:Nat) (B:y5) (v1 v2:Value):Prop where
 box:Q6 w cb #[v1,v2] 270
 fst:w.ownsRow lo 9 1 v1 B.length ((xj B).map Value.string)
 snd:w.ownsRow lo 9 1 v2 B.length ((xL B).map Value.string)
 ne:∀b,v1.ownBlock=some b->v2.ownBlock≠some b
theorem CR.sf{w:World}{a:Nat}{v1 v2:Value}(h:CR lo w a B v1 v2):QD lo w v1 (xj B):=by unfold QD;rw[oH];exact h.fst
theorem CR.ss{w:World}{a:Nat}{v1 v2:Value}(h:CR lo w a B v1 v2):QD lo w v2 (xL B):=by unfold QD;rw[i4];exact h.snd
theorem CR.below{lo:Nat}{w w':World}{b:Nat}{B:y5}{v1 v2:Value}(h:CR lo w b B v1 v2)(a:μ w w'):CR lo w' b B v1 v2:=⟨h.box.below a,zB h.fst a,zB h.snd a,h.ne⟩
theorem LL{aO bb bi:Nat}(w:World)(vv lv av rv:Value)(B:y5)(args row:κ)(h1:QD lo w vv (xj B))(h2:QD aO w lv (xL B))(h3:QD bb w av args)(h4:QD bi w rv row)(hl:B.length<=100)(ha:args.length<=100)(hr:row.length=args.length)(aE:∀a∈args,0<a.size)(hF:qd B)(aB:∀x∈row,x≠ByteArray.empty):
  Calls prog 196 #[.agg #[vv,lv],av,rv] w fun e T=>∃(n1 c1:Nat) (o1:Option Addr) (n2 c2:Nat) (o2:Option Addr),e=ε (.tuple #[.agg #[.slice o1 n1 c1,.slice o2 n2 c2],.bool (xk B args row).isSome])/\Hid (∀B',xk B args row=some B'->QD w.heap.size T (.slice o1 n1 c1) (xj B')/\QD w.heap.size T (.slice o2 n2 c2) (xL B')/\B'.length<=B.length+args.length)/\Hid (μ w T):=by
 obtain⟨i0,hi,aH,aV,aI⟩:=info_parts Qq;have aF:Hid (∀W,μ w W->QD lo W vv (xj B)/\QD aO W lv (xL B)):=fun W i=>⟨h1.below i,h2.below i⟩;obtain⟨ao,bw,rfl⟩:=h3.qx;obtain⟨bq,bs,rfl⟩:=h4.qx;have HA:Hid (∀W k (hk:k<args.length),μ w W->∃g,ao=some ⟨g,0,none⟩/\g<W.heap.size/\W.cell? ⟨g,k,none⟩=some (.string args[k])):=fun W k hk i=>(h3.below i).cell k hk;have HR:Hid (∀W k (hk:k<row.length),μ w W->∃g,bq=some ⟨g,0,none⟩/\g<W.heap.size/\W.cell? ⟨g,k,none⟩=some (.string row[k])):=fun W k hk i=>(h4.below i).cell k hk;have e1:(xj B).length<=1000000:=by simp[xj];omega
 have e2:(xL B).length<=1000000:=by simp[xL];omega
 clear h1 h2 h3 h4;go_enter func196,ntmps196;go_upto_region 2 with fail
 have aA:Hid (μ w (((w.alloc (.cells #[vv,lv] 270)).alloc (.cells #[ν,ν] 270)).alloc (.cells #[ν,ν] 270))):=(zT.alloc (by simp) _).alloc (by simp;omega) _;have aq:=ij (ij (Q6.new w #[vv,lv] 270) (.cells #[ν,ν] 270)) (.cells #[ν,ν] 270);have aS:=ij (Q6.newAt (w.alloc (.cells #[vv,lv] 270)) (w.heap.size+1) #[ν,ν] 270 (by simp)) (.cells #[ν,ν] 270);have a6:=Q6.newAt ((w.alloc (.cells #[vv,lv] 270)).alloc (.cells #[ν,ν] 270)) (w.heap.size+1+1) #[ν,ν] 270 (by simp);have bd:(((w.alloc (.cells #[vv,lv] 270)).alloc (.cells #[ν,ν] 270)).alloc (.cells #[ν,ν] 270)).heap.size=w.heap.size+1+1+1:=by simp
 generalize aZ:((w.alloc (.cells #[vv,lv] 270)).alloc (.cells #[ν,ν] 270)).alloc (.cells #[ν,ν] 270)=wA at *;clear aZ;obtain⟨c0,f0⟩:=aq.rules;obtain⟨c2,f2⟩:=a6.rules;go_upto_region 3 with (at_builtin;refine DM rfl (.tmp 14) (.tmp 16) rfl (xj B) vv rfl rfl (aF.out _ aA.out).1 e1 ?_;intro v1 w1 al P;have N:=a6.below P;obtain⟨d2,g2,aa⟩:=N.boxed;have bk:=P.size;obtain⟨C,n,rfl⟩:=al.qx)
 have aw:=aq.lt;have a9:Hid (Q6 (w1.setCell ⟨w.heap.size+1+1,0,none⟩ (.slice C (xj B).length n)) w.heap.size #[vv,lv] 270):=(aq.below P).set_ne (by omega) 0 _;have aU:Hid (Q6 (w1.setCell ⟨w.heap.size+1+1,0,none⟩ (.slice C (xj B).length n)) (w.heap.size+1) #[ν,ν] 270):=(aS.below P).set_ne (by omega) 0 _;have aj:Hid (Q6 (w1.setCell ⟨w.heap.size+1+1,0,none⟩ (.slice C (xj B).length n)) (w.heap.size+1+1) #[.slice C (xj B).length n,ν] 270):=N.set 0 _;have a5:Hid (μ w (w1.setCell ⟨w.heap.size+1+1,0,none⟩ (.slice C (xj B).length n))):=(zQ aA.out P (by omega)).setCell (p:=⟨w.heap.size+1+1,0,none⟩) (by show w.heap.size<=w.heap.size+1+1;omega) _;have an:Hid (QD wA.heap.size (w1.setCell ⟨w.heap.size+1+1,0,none⟩ (.slice C (xj B).length n)) (.slice C (xj B).length n) (xj B)):=yT al (ze.set w1 (w.heap.size+1+1) 0 (.slice C (xj B).length n)) (fun b i E=>by have:=yW al i;simp at E;omega);have aX:w1.heap.size<=(w1.setCell ⟨w.heap.size+1+1,0,none⟩ (.slice C (xj B).length n)).heap.size:=by simp[World.setCell]
 clear c0 f0 c2 f2 d2 g2 aa N aq aS a6 P al aw;generalize w1.setCell ⟨w.heap.size+1+1,0,none⟩ (.slice C (xj B).length n)=wB at *;obtain⟨c0,f0⟩:=a9.out.rules;obtain⟨c2,f2⟩:=aj.out.rules;have aw:=a9.out.lt;have aa:=aj.out.lt;go_upto_region 4 with (at_builtin;refine DM rfl (.tmp 20) (.tmp 22) rfl (xL B) lv rfl rfl (aF.out _ a5.out).2 e2 ?_;intro v2 F s R;have N:=aj.out.below R;obtain⟨d2,g2,bc⟩:=N.boxed;have ba:=R.size;obtain⟨K,A,rfl⟩:=s.qx)
 have hL:∀b,w.heap.size+1+1≠b->True:=fun _ _=>trivial;have HC:Hid (CR w.heap.size (F.setCell ⟨w.heap.size+1+1,1,none⟩ (.slice K (xL B).length A)) (w.heap.size+1+1) B (.slice C (xj B).length n) (.slice K (xL B).length A)):=⟨N.set 1 _,by rw[←oH B];exact yT (yr (zB an.out R) (by omega)) (ze.set F (w.heap.size+1+1) 1 (.slice K (xL B).length A)) (fun b i E=>by have:=yW an.out i;simp at E;omega),by rw[←i4 B];exact yT (yr s (by omega)) (ze.set F (w.heap.size+1+1) 1 (.slice K (xL B).length A)) (fun b i E=>by have:=yW s i;simp at E;omega),fun b i E=>by have:=xK an.out i;have:=yW s E;omega⟩;have aJ:Hid (Q6 (F.setCell ⟨w.heap.size+1+1,1,none⟩ (.slice K (xL B).length A)) (w.heap.size+1) #[ν,ν] 270):=(aU.out.below R).set_ne (by omega) 1 _;have aN:Hid (μ w (F.setCell ⟨w.heap.size+1+1,1,none⟩ (.slice K (xL B).length A))):=(zQ a5.out R (by omega)).setCell (p:=⟨w.heap.size+1+1,1,none⟩) (by show w.heap.size<=w.heap.size+1+1;omega) _;clear c0 f0 c2 f2 d2 g2 aw aa bc N R s an a9 aU aj a5 hL aX bk ba bd aA;generalize F.setCell ⟨w.heap.size+1+1,1,none⟩ (.slice K (xL B).length A)=wC at *;clear w1 F wA wB;rw[oH,i4] at HC;go_wp2;go_loopw [9] (fun v9 wr=>∃(k:Nat) (c:y5) (u:Option Addr) (j:Nat) (m:Option Addr) (d:Nat),k<=args.length/\v9=ι k/\Hid (CR w.heap.size wr (w.heap.size+1+1) c (.slice u c.length j) (.slice m c.length d))/\Hid (xk B args row=xk c (args.drop k) (row.drop k))/\c.length<=B.length+k/\Hid (qd c)/\Hid (Q6 wr (w.heap.size+1) #[ν,ν] 270)/\Hid (μ w wr)) (fun v9 _=>args.length-(intOf v9).toNat)
 case atStart=>exact⟨0,B,C,n,K,A,zv _,rfl,HC,rfl,zg _,hF,aJ,aN⟩
 case round=>
  clear HC aJ aN e1 e2;obtain⟨k,c,u,j,m,d,hk,rfl,HC,HW,bu,ay,HZ,U⟩:=hrel;have bv:=U.out.size;have ah:=HC.out.box;obtain⟨hc,hf,ai⟩:=ah.boxed;obtain⟨Y,ad,ab⟩:=HZ.out.boxed;by_cases a0:k<args.length
  ·have aW:(k:Int)<(args.length:Int):=by omega
   have am:k<row.length:=by omega
   obtain⟨g,rfl,hg,a3⟩:=HA.out _ k a0 U.out;obtain⟨gr,rfl,aK,aP⟩:=HR.out _ k am U.out;have ht:=aE _ (zs a0);have aR:=PM (B:=c) a0 am;have HV:Hid (∀W,μ wr W->Calls prog 211 #[.agg #[.slice u c.length j,.slice m c.length d],.string args[k]] W fun e T=>e=ε (.tuple #[.string (yd c args[k]),.bool (gh c args[k])])/\Hid (μ wr T)/\T.cell? ⟨g,k,none⟩=some (.string args[k])/\T.cell? ⟨w.heap.size+1+1,0,none⟩=some (.slice u c.length j)/\T.cell? ⟨w.heap.size+1+1,1,none⟩=some (.slice m c.length d)):=fun W i=>by
    refine(Ft W _ _ c args[k] (HC.out.sf.below i) (HC.out.ss.below i) (by omega) ht).mono ?_;rintro e T ⟨q1,q2⟩;have a8:=Q9 i q2.out;have aC:=ah.below a8;exact⟨q1,a8,(zl a8 hg a3),by rw[aC.rules.1];rfl,by rw[aC.rules.1];rfl⟩
   have aG:Hid (∀W,μ wr W->W.cell? ⟨g,k,none⟩=some (.string args[k])/\g<W.heap.size/\W.cell? ⟨gr,k,none⟩=some (.string row[k])/\gr<W.heap.size):=fun W i=>⟨(zl i hg a3),xP hg i.size,(zl i aK aP),xP aK i.size⟩;have aY:Hid (∀W,μ w W->W.cell? ⟨gr,k,none⟩=some (.string row[k])/\gr<W.heap.size):=fun W i=>by
    obtain⟨g',e,q1,q2⟩:=HR.out W k am i;cases e;exact⟨q2,q1⟩
   have HD:=Q5 (HW.out.trans aR);have aL:=Q5 (Hs ay.out ht);have bm:=Q5 (aB _ (zs am));clear aR HW ht aE ah aB hF;generalize gh c args[k]=kn at *;generalize yd c args[k]=x at *;generalize args[k]=y at *;generalize row[k]=z at *;go_upto_region 7 with fail
   go_cut [10,11] from 31 to 39 (fun az ax wx=>az=.string x/\ax=.bool kn/\Hid (μ wr wx))
   case first=>
    go_region_held3 (fun T=>T.cell? ⟨g,k,none⟩=some (.string y)/\T.cell? ⟨w.heap.size+1+1,0,none⟩=some (.slice u c.length j)/\T.cell? ⟨w.heap.size+1+1,1,none⟩=some (.slice m c.length d)) (first|go_keep|(go_simp;done)) (go_at_call 211;refine(HV.out _ (by exact(by repeat'(first|with_reducible(first|apply zR|assumption|apply zN|apply zA|apply zD|apply zS)|go_size)))).mono ?_;rintro e w5 ⟨rfl,bp,z0,z1,z2⟩)
    go_wp2;go_meet
    case rel=>exact⟨rfl,rfl,bp⟩
   case rest=>
    obtain⟨rfl,rfl,S⟩:=hcut;have bt:=S.out.size;obtain⟨ar,br,X,au⟩:=aG.out _ S.out;have Q:=Q5 (HZ.out.below S.out);have O:=Q5 (zQ U.out S.out (by omega));have I:=Q5 (HC.out.below S.out);clear hc hf a3 aP ai Y ad ab HV aG HC HZ U S;obtain⟨hc,hf,ai⟩:=I.out.box.boxed;obtain⟨Y,ad,ab⟩:=Q.out.boxed;by_cases hx:x=ByteArray.empty
    ·obtain rfl:kn=false:=by
      cases kn with
      |false=>rfl
      |true=>exact zC hx (aL.out.1 rfl)
     have bn:Hid (qd (c++[(y,z)])):=NK ay.out bm.out;have H:Hid (xk B args row=xk (c++[(y,z)]) (args.drop (k+1)) (row.drop (k+1))):=by rw[Hid,HD.out,zc hx]
     have D:=I.out.fst;have r:=I.out.snd;clear HD hx;go_upto_region 11 with fail
     go_cut [10,11] from 52 to 60 (fun az ax wx=>∃o f,az=.string x/\ax=.bool false/\Hid (Q6 wx (w.heap.size+1+1) #[.slice o (c.length+1) f,.slice m c.length d] 270)/\Hid (wx.ownsRow w.heap.size 9 1 (.slice o (c.length+1) f) (c.length+1) ((xj c).map Value.string++[.string y]))/\Hid (wx.ownsRow w.heap.size 9 1 (.slice m c.length d) c.length ((xL c).map Value.string))/\Hid (∀b,(Value.slice o (c.length+1) f).ownBlock=some b->(Value.slice m c.length d).ownBlock≠some b)/\Hid (Q6 wx (w.heap.size+1) #[ν,ν] 270)/\Hid (μ w wx))
     case first=>
      go_region_law (refine dF wc _ [.string y] 9 rfl (.tmp 53) (.tmp 58) 30 rfl w.heap.size 9 i0 _ 1 16 underlying30 hi aH aV aI rfl (by decide) (.slice u c.length j) c.length ((xj c).map Value.string) (by simp[Act.eval]) D (by exact(by repeat'(first|with_reducible(first|apply zR|assumption|apply zN|apply zA|apply zD|apply zS)|go_size))) wc.heap.size 1 (by simp[Act.eval]) (by exact Q6.drew (Q6.new _ _ _)) rfl (by simp[Value.oneCell']) (by omega) (by omega) (by omega) ?_;intro v' F L s ac bo aT;obtain⟨o,f,rfl⟩:=zp L;have G:=I.out.box.save s (qB D I.out.box (by decide));obtain⟨aD,aQ,aa⟩:=G.boxed)
      all_goals
       have ae:=yT r s (fun b i E=>I.out.ne b (yt E) i);have a4:=Q.out.save s (qB D Q.out (by decide));have a7:=s.below (B:=w.heap.size) (fun b i=>yW D (yt i)) (by omega);have af:∀b,(Value.slice o (c.length+1) f).ownBlock=some b->(Value.slice m c.length d).ownBlock≠some b:=fun b i hq=>by
        rcases ac with q|⟨g9,q,q2⟩
        ·exact I.out.ne b (q ▸ i) hq
        ·rw[i] at q;cases q;have:=xK r hq;omega
       have Z:Hid (Q6 (F.setCell ⟨w.heap.size+1+1,0,none⟩ (.slice o (c.length+1) f)) (w.heap.size+1+1) #[.slice o (c.length+1) f,.slice m c.length d] 270):=G.set 0 _;have ak:Hid ((F.setCell ⟨w.heap.size+1+1,0,none⟩ (.slice o (c.length+1) f)).ownsRow w.heap.size 9 1 (.slice o (c.length+1) f) (c.length+1) ((xj c).map Value.string++[.string y])):=yT L (ze.set _ _ _ _) (fun b i E=>uy L G (by decide) i (by simpa using E));have a2:Hid ((F.setCell ⟨w.heap.size+1+1,0,none⟩ (.slice o (c.length+1) f)).ownsRow w.heap.size 9 1 (.slice m c.length d) c.length ((xL c).map Value.string)):=yT ae (ze.set _ _ _ _) (fun b i E=>uy ae G (by decide) i (by simpa using E));have ag:Hid (Q6 (F.setCell ⟨w.heap.size+1+1,0,none⟩ (.slice o (c.length+1) f)) (w.heap.size+1) #[ν,ν] 270):=a4.set_ne (by omega) 0 _;have ap:Hid (μ w (F.setCell ⟨w.heap.size+1+1,0,none⟩ (.slice o (c.length+1) f))):=(O.out.trans a7).setCell (p:=⟨w.heap.size+1+1,0,none⟩) (by show w.heap.size<=w.heap.size+1+1;omega) _;go_wp2;go_meet
       case rel=>exact⟨o,f,rfl,rfl,Z,ak,a2,af,ag,ap⟩
     case rest=>
      obtain⟨o,f,rfl,rfl,Z,ak,a2,aM,ag,ap⟩:=hcut;clear hc hf Y ad ai ab ar X Q O I D r br au;obtain⟨X,au⟩:=aY.out _ ap.out;obtain⟨hc,hf,ai⟩:=Z.out.boxed;have r:=a2.out;go_upto_region 12 with fail
      go_region_law (refine dF wc _ [.string z] 9 rfl (.tmp 62) (.tmp 67) 30 rfl w.heap.size 9 i0 _ 1 16 underlying30 hi aH aV aI rfl (by decide) (.slice m c.length d) c.length ((xL c).map Value.string) (by simp[Act.eval]) r (by exact(by repeat'(first|with_reducible(first|apply zR|assumption|apply zN|apply zA|apply zD|apply zS)|go_size))) wc.heap.size 1 (by simp[Act.eval]) (by exact Q6.drew (Q6.new _ _ _)) rfl (by simp[Value.oneCell']) (by omega) (by omega) (by omega) ?_;intro v' F L s ac bo aT;obtain⟨J,t,rfl⟩:=zp L;have G:=Z.out.save s (qB r Z.out (by decide));obtain⟨aD,aQ,aa⟩:=G.boxed)
      all_goals
       have ae:=yT ak.out s (fun b i E=>aM.out b i (yt E));have a4:=ag.out.save s (qB r ag.out (by decide));have a7:=s.below (B:=w.heap.size) (fun b i=>yW r (yt i)) (by omega);have af:∀b,(Value.slice o (c.length+1) f).ownBlock=some b->(Value.slice J (c.length+1) t).ownBlock≠some b:=fun b i hq=>by
        rcases ac with q|⟨g9,q,q2⟩
        ·exact aM.out b i (q ▸ hq)
        ·rw[hq] at q;cases q;have:=xK ak.out i;omega
       have bf:Hid (CR w.heap.size (F.setCell ⟨w.heap.size+1+1,1,none⟩ (.slice J (c.length+1) t)) (w.heap.size+1+1) (c++[(y,z)]) (.slice o (c.length+1) f) (.slice J (c.length+1) t)):=by
        refine⟨G.set 1 _,?_,?_,af⟩
        ·have q:=yT ae (ze.set F (w.heap.size+1+1) 1 (.slice J (c.length+1) t)) (fun b i E=>uy ae G (by decide) i (by simpa using E));rw[yp];simpa [xj] using q
        ·have q:=yT L (ze.set F (w.heap.size+1+1) 1 (.slice J (c.length+1) t)) (fun b i E=>uy L G (by decide) i (by simpa using E));rw[yp];simpa [xL] using q
       have be:Hid (Q6 (F.setCell ⟨w.heap.size+1+1,1,none⟩ (.slice J (c.length+1) t)) (w.heap.size+1) #[ν,ν] 270):=a4.set_ne (by omega) 1 _;have bh:Hid (μ w (F.setCell ⟨w.heap.size+1+1,1,none⟩ (.slice J (c.length+1) t))):=(ap.out.trans a7).setCell (p:=⟨w.heap.size+1+1,1,none⟩) (by show w.heap.size<=w.heap.size+1+1;omega) _;clear aD aQ;generalize F.setCell ⟨w.heap.size+1+1,1,none⟩ (.slice J (c.length+1) t)=wN at *;go_wp2;go_roundw
       case rel=>exact⟨k+1,c++[(y,z)],o,f,J,t,by omega,by go_num,by rw[yp];exact bf,H,by simp;omega,bn,be,bh⟩
       case measure=>simp[intOf];omega
    ·obtain rfl:kn=true:=aL.out.2 hx;by_cases hy:x=z
     ·have bg:=gi hy;have H:Hid (xk B args row=xk c (args.drop (k+1)) (row.drop (k+1))):=by rw[Hid,HD.out,za hx,zc hy]
      clear HD hx hy;go_wp2;go_roundw
      case rel=>exact⟨k+1,c,u,j,m,d,by omega,by go_num,I,H,by omega,ay,Q,O⟩
      case measure=>simp[intOf];omega
     ·have bg:=jz hy;have H:Hid (xk B args row=none):=by rw[Hid,HD.out,za hx,za hy]
      clear HD hx hy;go_wp2;have a1:Hid (μ w ((wc.setCell ⟨w.heap.size+1,0,none⟩ (.slice u c.length j)).setCell ⟨w.heap.size+1,1,none⟩ (.slice m c.length d))):=(O.out.setCell (p:=⟨w.heap.size+1,0,none⟩) (by show w.heap.size<=w.heap.size+1;omega) _).setCell (p:=⟨w.heap.size+1,1,none⟩) (by show w.heap.size<=w.heap.size+1;omega) _;have M:=(Q.out.set 0 (.slice u c.length j)).set 1 (.slice m c.length d);have n0:=M.rules.1 0;have n1:=M.rules.1 1;clear hc hf Y ad ar X M;generalize (wc.setCell ⟨w.heap.size+1,0,none⟩ (.slice u c.length j)).setCell ⟨w.heap.size+1,1,none⟩ (.slice m c.length d)=wN at *
      (try simp only[Exit.inBlock,Exit.then])
      refine zL (by simp[results,results196,go_sem,n0,n1];try rfl) rfl ?_;refine⟨_,_,_,_,_,_,by rw[H.out];rfl,fun B' V=>(by rw[H.out] at V;cases V),?_⟩;exact a1
  ·have aW:¬(k:Int)<(args.length:Int):=by omega
   have H:Hid (xk B args row=some c):=by
    rw[Hid,HW.out,ue (by omega)];rfl
   clear HW;go_wp2;have a1:Hid (μ w ((wr.setCell ⟨w.heap.size+1,0,none⟩ (.slice u c.length j)).setCell ⟨w.heap.size+1,1,none⟩ (.slice m c.length d))):=(U.out.setCell (p:=⟨w.heap.size+1,0,none⟩) (by show w.heap.size<=w.heap.size+1;omega) _).setCell (p:=⟨w.heap.size+1,1,none⟩) (by show w.heap.size<=w.heap.size+1;omega) _;have q:∀{v:Value} {l:κ} (h:QD w.heap.size wr v l),QD w.heap.size ((wr.setCell ⟨w.heap.size+1,0,none⟩ (.slice u c.length j)).setCell ⟨w.heap.size+1,1,none⟩ (.slice m c.length d)) v l:=fun h=>yT h ((ze.set wr (w.heap.size+1) 0 _).trans (ze.set _ (w.heap.size+1) 1 _)) (fun b i E=>uy h HZ.out (by decide) i (by simpa using E));have q1:=q HC.out.sf;have q2:=q HC.out.ss;have M:=(HZ.out.set 0 (.slice u c.length j)).set 1 (.slice m c.length d);have n0:=M.rules.1 0;have n1:=M.rules.1 1;clear hc hf Y ad M q ah;generalize (wr.setCell ⟨w.heap.size+1,0,none⟩ (.slice u c.length j)).setCell ⟨w.heap.size+1,1,none⟩ (.slice m c.length d)=wN at *
   (try simp only[Exit.inBlock,Exit.then])
   refine zL (by simp[results,results196,go_sem,n0,n1];try rfl) rfl ?_;refine⟨_,_,_,_,_,_,by rw[H.out];rfl,fun B' V=>?_,?_⟩
   ·rw[H.out] at V;cases V;exact⟨q1,q2,by omega⟩
   ·exact a1
end
section
open Classical
def ye(fs:List zE)(h:zj)(body:List zj):List zj->y5->List (κ)
 |[],B=>if (body.any fun l=>l.neg&&(yP l.pred (y7 B l.args) fs).isSome)=true then [] else [y7 B h.args]
 |l::rest,B=>if l.neg=true then ye fs h body rest B else fs.flatMap fun f=>if f.1=l.pred then(match xk B l.args f.2.1 with|none=>[]|some a=>ye fs h body rest a) else []
structure r7 (cs:List zd) (fs:List zE):Prop where
 jh:∀f∈fs,∀c∈cs,∀l∈zk c,l.pred=f.1->f.2.1.length=l.args.length
 ne:∀f∈fs,∀x∈f.2.1,x≠ByteArray.empty
def pn(fs:List zE)(c:zd)(x:κ):Prop:=∃σ:ByteArray->ByteArray,(∀a,σ a≠ByteArray.empty)/\(∀l∈c.body,l.neg=false->∃m,(l.pred,Rb σ l,m)∈fs)/\(∀l∈c.body,l.neg=true->∀m,(l.pred,Rb σ l,m)∉fs)/\x=Rb σ c.head
theorem pz{fs:List zE}{p:ByteArray}{r:κ}:(yP p r fs).isSome=true↔∃m,(p,r,m)∈fs:=by
 cases a:yP p r fs with
 |none=>exact⟨fun q=>(by cases q),fun⟨m,c⟩=>zC c (EE a m)⟩
 |some k=>
  obtain⟨b,e,d⟩:=F7 a;exact⟨fun _=>⟨fs[k].2.2,by rw[←e,←d];exact zs b⟩,fun _=>rfl⟩
theorem oP{cs:List zd}{fs:List zE}(t:r7 cs fs){c:zd}(z:c∈cs)(o:∀l∈zk c,∀a∈l.args,a≠ByteArray.empty)(i:∀l∈zk c,∀y∈l.args,zO y=true->y∈zw c){x:κ}:∀(rest done:List zj) (B:y5),c.body=done++rest->qd B->(∀l∈done,l.neg=false->(∃m,(l.pred,y7 B l.args,m)∈fs)/\∀a∈l.args,yd B a≠ByteArray.empty)->x∈ye fs c.head c.body rest B->pn fs c x
 |[],done,B,e,C,w,d=>by
  rw[qQ] at e;unfold ye at d;split at d
  ·cases d
  ·rename_i D;rw[xF] at d;have b:∀l∈zk c,y7 B l.args=Rb (fun v=>if (QJ B v).getD ByteArray.empty=ByteArray.empty then⟨#[0]⟩ else(QJ B v).getD ByteArray.empty) l:=by
    intro l n;refine kT fun a k=>?_;unfold yd;split
    ·rename_i K;obtain⟨_,p,h,f,E⟩:=gO.1 (i l n a k K);have:=(w p (by rw[←e];exact h) f).2 a E;unfold yd at this;rw[zc K] at this;exact(za this).symm
    ·rfl
   refine⟨_,fun a=>?_,fun l n u=>?_,fun l n u m J=>D ?_,d.trans (b _ (by simp[zk]))⟩
   ·split
    ·decide
    ·assumption
   ·rw[←b l (by simp[zk,n])];exact(w l (by rw[←e];exact n) u).1
   ·rw[←b l (by simp[zk,n])] at J;rw[gI];exact⟨l,n,by rw[u,mY];exact pz.2 ⟨m,J⟩⟩
 |l::rest,done,B,e,C,w,d=>by
  have I:c.body=(done++[l])++rest:=by rw[e];simp
  have s:l∈zk c:=by simp[zk,e]
  unfold ye at d;split at d
  ·rename_i u;refine oP t z o i rest (done++[l]) B I C (fun p h f=>?_) d;rcases zI.1 h with q|q
   ·exact w p q f
   ·rw[xF.1 q,u] at f;cases f
  ·obtain⟨g,j,d⟩:=uJ.1 d;split at d
   ·rename_i F;split at d
    ·cases d
    ·rename_i r L;obtain⟨N,H,G⟩:=p9 l.args g.2.1 B r (t.jh g j c z l s F.symm).symm (t.ne g j) (o l s) C L;refine oP t z o i rest (done++[l]) r I N (fun p h f=>?_) d;rcases zI.1 h with q|q
     ·obtain⟨⟨m,M⟩,A⟩:=w p q f;have b:y7 r p.args=y7 B p.args:=kT fun a k=>nK H (A a k);exact⟨⟨m,by rw[b];exact M⟩,fun a k=>by rw[nK H (A a k)];exact A a k⟩
     ·rw[xF.1 q];refine⟨⟨g.2.2,by rw[G,←F];exact j⟩,fun a k=>?_⟩;have:yd r a∈y7 r l.args:=zy.2 ⟨a,k,rfl⟩;rw[G] at this;exact t.ne g j _ this
   ·cases d
theorem iW{fs:List zE}{c:zd}(d:∀l∈zk c,∀a∈l.args,a≠ByteArray.empty)(h:∀l∈zk c,∀y∈l.args,zO y=true->y∈zw c){σ:ByteArray->ByteArray}(j:∀a,σ a≠ByteArray.empty)(i:∀l∈c.body,l.neg=false->∃m,(l.pred,Rb σ l,m)∈fs)(f:∀l∈c.body,l.neg=true->∀m,(l.pred,Rb σ l,m)∉fs):∀(rest done:List zj) (B:y5),c.body=done++rest->qd B->RR B σ->(∀l∈done,l.neg=false->∀a∈l.args,yd B a≠ByteArray.empty)->Rb σ c.head∈ye fs c.head c.body rest B
 |[],done,B,e,D,z,w=>by
  rw[qQ] at e;have n:∀l∈zk c,y7 B l.args=Rb σ l:=by
   intro l s;refine kT fun a k=>z.val ?_;by_cases I:zO a=true
   ·obtain⟨_,p,g,b,G⟩:=gO.1 (h l s a k I);exact w p (by rw[←e];exact g) b a G
   ·unfold yd;rw[za I];exact d l s a k
  unfold ye;rw[za]
  ·rw[n c.head (by simp[zk])];simp
  ·intro q;rw[gI] at q;obtain⟨l,s,F⟩:=q;rw[ux,n l (by simp[zk,s])] at F;obtain⟨m,M⟩:=pz.1 F.2;exact f l s F.1 m M
 |l::rest,done,B,e,D,z,w=>by
  have H:c.body=(done++[l])++rest:=by rw[e];simp
  have t:l∈c.body:=by rw[e];simp
  have o:l∈zk c:=by simp[zk,t]
  unfold ye;split
  ·rename_i E;refine iW d h j i f rest (done++[l]) B H D z fun p g b=>?_;rcases zI.1 g with q|q
   ·exact w p q b
   ·rw[xF.1 q,E] at b;cases b
  ·rename_i E;obtain⟨m,K⟩:=i l t (by simpa using E);obtain⟨u,A,C⟩:=tV j l.args B (d l o) z;have v:xk B l.args (Rb σ l)=some u:=A;have r:∀x∈Rb σ l,x≠ByteArray.empty:=by
    intro x O;obtain⟨a,k,rfl⟩:=zy.1 O;split
    ·exact j a
    ·exact d l o a k
   obtain⟨N,L,J⟩:=p9 l.args (Rb σ l) B u (by simp[Rb]) r (d l o) D v;refine uJ.2 ⟨_,K,?_⟩;rw[zc rfl,v];refine iW d h j i f rest (done++[l]) u H N C fun p g b a k=>?_;rcases zI.1 g with q|q
   ·rw[nK L (w p q b a k)];exact w p q b a k
   ·rw[xF.1 q] at k;have:yd u a∈y7 u l.args:=zy.2 ⟨a,k,rfl⟩;rw[J] at this;exact r _ this
theorem AA{cs:List zd}{fs:List zE}(i:r7 cs fs){c:zd}(f:c∈cs)(d:∀l∈zk c,∀a∈l.args,a≠ByteArray.empty)(b:∀l∈zk c,∀y∈l.args,zO y=true->y∈zw c){x:κ}:x∈ye fs c.head c.body c.body []↔pn fs c x:=
 ⟨oP i f d b c.body [] [] rfl (fun v x q=>by cases q) (fun l e=>by cases e),fun⟨_,g,j,h,k⟩=>k ▸ iW d b g j h c.body [] [] rfl (fun v x q=>by cases q) (fun v x q=>by cases q) (fun l e=>by cases e)⟩
end
section
open Go.Proofs.Tryz Go.RowKit
variable {z:Nat}{l:κ}
def RW(z:Nat)(w:World)(v:Value)(l:κ):Prop:=QD 0 w v l/\v.ownBlock≠some z
theorem RW.below{w w':World}{v:Value}{l:κ}(h:RW z w v l)(a:μ w w'):RW z w' v l:=⟨h.1.below a,h.2⟩
theorem RW.saveT{w w':World}{v:Value}{M:List Nat}{T:TypeId}(h:RW z w v l)(hs:ze M w w')(a:QS w T M)(b:9≠T):RW z w' v l:=⟨yG h.1 hs a b,h.2⟩
theorem RW.of{lo:Nat}{w:World}{v:Value}(h:QD lo w v l)(a:z<lo):RW z w v l:=⟨yr h (zv _),fun e=>by have:=yW h e;omega⟩
theorem Ql:(prog.info? 30).map (fun i=>(i.zero,i.size,i.bytes))=some (some (ν),1,24):=by kernel_rfl
structure S2 (z:Nat) (w:World) (gb go:Nat) (c:zd):Prop where
 lt:gb<w.heap.size
 pred:w.cell? ⟨gb,go+1,none⟩=some (.string c.head.pred)
 args:∃av,w.cell? ⟨gb,go+2,none⟩=some av/\RW z w av c.head.args
 body:∃ao cap,w.cell? ⟨gb,go+3,none⟩=some (.slice ao c.body.length cap)/\∀j (h:j<c.body.length),∃g,ao=some ⟨g,0,none⟩/\g<w.heap.size/\w.cell? ⟨g,j*3,none⟩=some (.bool c.body[j].neg)/\w.cell? ⟨g,j*3+1,none⟩=some (.string c.body[j].pred)/\∃av,w.cell? ⟨g,j*3+2,none⟩=some av/\QD 0 w av c.body[j].args
theorem S2.below{w w':World}{gb i:Nat}{c:zd}(h:S2 z w gb i c)(a:μ w w'):S2 z w' gb i c:=by
 obtain⟨b,r,⟨f,p,x⟩,q,e,s,o⟩:=h;refine⟨xP b a.size,(zl a b r),⟨f,(zl a b p),x.below a⟩,q,e,(zl a b s),fun j k=>?_⟩;obtain⟨g,v,d,m,u,f,n,t⟩:=o j k;exact⟨g,v,xP d a.size,(zl a d m),(zl a d u),f,(zl a d n),t.below a⟩
structure lh (z:Nat) (w:World) (mb rd gb go:Nat) (fv vv lv:Value) (c:zd) (fs:List zE) (B:y5):Prop where
 model:Q6 w mb #[fv,ι rd] 54
 facts:mN w fv fs
 cl:S2 z w gb go c
 fst:QD 0 w vv (xj B)
 snd:QD 0 w lv (xL B)
 hz:z<w.heap.size
theorem lh.below{w w':World}{e f gb i:Nat}{b g d:Value}{c:zd}{fs:List zE}{B:y5}(h:lh z w e f gb i b g d c fs B)(a:μ w w'):lh z w' e f gb i b g d c fs B:=⟨h.model.below a,h.facts.below a,h.cl.below a,h.fst.below a,h.snd.below a,xP h.hz a.size⟩
def vf(z lo:Nat)(w:World)(v:Value)(a:List (κ)):Prop:=∃b:List Value,b.length=a.length/\w.ownsRow lo 30 1 v a.length b/\∀i (h:i<a.length) (c:i<b.length),RW z w b[i] a[i]
theorem vf.nil(lo:Nat)(w:World):vf z lo w (ν) []:=⟨[],rfl,yC _ _ _ _,fun i h=>by cases h⟩
theorem vf.below{lo:Nat}{w w':World}{v:Value}{c:List (κ)}(h:vf z lo w v c)(e:μ w w'):vf z lo w' v c:=by
 obtain⟨d,f,j,g⟩:=h;exact⟨d,f,zB j e,fun i a b=>(g i a b).below e⟩
theorem Pi(w:World)(mb rd gb K:Nat)(fv r s:Value)(c:zd)(fs:List zE)(B:y5)(Y:lh z w mb rd gb K fv r s c fs B)(aK:c.body.length<=100)(aJ:B.length<=100)(L:∀l∈zk c,l.args.length<=100/\∀a∈l.args,0<a.size)(a1:fs.length<=10000000)(ap:∀f∈fs,f.2.1.length<=1000000):
  Calls prog 166 #[(π mb),.pointer (some ⟨gb,K,none⟩),ι c.body.length,.agg #[r,s]] w fun e d=>∃v,e=.returned v/\Hid (vf z w.heap.size d v (ye fs c.head c.body [] B))/\Hid (μ w d):=by
 obtain⟨i0,hi,a4,aB,a5⟩:=info_parts Ql;obtain⟨ao,Q,ar,_⟩:=Y.cl.body;have y:=Q5 fun W (i:μ w W)=>Y.below i;have A:Hid (∀W,μ w W->W.cell? ⟨gb,K+3,none⟩=some (.slice ao c.body.length Q)/\gb<W.heap.size):=fun W i=>⟨(i.cell (p:=⟨gb,K+3,none⟩) Y.cl.lt).trans ar,(Y.below i).cl.lt⟩;have X:Hid (∀W j (t:j<c.body.length),μ w W->∃g,ao=some ⟨g,0,none⟩/\g<W.heap.size/\W.cell? ⟨g,j*3,none⟩=some (.bool c.body[j].neg)/\W.cell? ⟨g,j*3+1,none⟩=some (.string c.body[j].pred)/\∃n,W.cell? ⟨g,j*3+2,none⟩=some n/\QD 0 W n c.body[j].args):=fun W j t i=>by
  obtain⟨aF,aC,J,q2⟩:=(Y.below i).cl.body;rw[(A.out W i).1] at J;cases J;exact q2 j t
 have R:Hid (∀W (l:zj) n,l∈zk c->μ w W->QD 0 W n l.args->Calls prog 195 #[.agg #[r,s],n] W fun e d=>∃v,e=.returned v/\Hid (QD W.heap.size d v (y7 B l.args))/\Hid (μ W d)):=fun W l n hl i ha=>KQ W r s n B l.args (y.out W i).fst (y.out W i).snd ha (by omega) (by have:=(L _ hl).1;omega) (L _ hl).2;have ae:Hid (∀W j (t:j<c.body.length) rv al,μ w W->QD al W rv (y7 B c.body[j].args)->Calls prog 45 #[(π mb),.string c.body[j].pred,rv] W fun e d=>e=ε (ι (gN c.body[j].pred (y7 B c.body[j].args) fs))/\μ W d):=fun W j t rv al i hr=>Ec W mb rd fv fs _ rv _ (y.out W i).model (y.out W i).facts hr a1 (by have:=(L c.body[j] (by simp[zk])).1;simp[y7];omega) ap;have G:Hid (∀k (hk:k<c.body.length),c.body[k].neg=true->(yP c.body[k].pred (y7 B c.body[k].args) fs).isSome=true->ye fs c.head c.body [] B=[]):=fun k hk hn hs=>by
  unfold ye;rw[zc];rw[gI];exact⟨c.body[k],zs _,by rw[hn,hs];rfl⟩
 have I:Hid ((∀k (hk:k<c.body.length),¬(c.body[k].neg=true/\(yP c.body[k].pred (y7 B c.body[k].args) fs).isSome=true))->ye fs c.head c.body [] B=[y7 B c.head.args]):=fun q=>by
  unfold ye;rw[za];intro hq;rw[gI] at hq;obtain⟨l,hl,hq⟩:=hq;obtain⟨j,t,rfl⟩:=qa hl;rw[ux] at hq;exact q j t hq
 have a8:Hid (∀W,μ w W->∃n,W.cell? ⟨gb,K+2,none⟩=some n/\QD 0 W n c.head.args):=fun W i=>by
  obtain⟨n,J,q2⟩:=(y.out W i).cl.args;exact⟨n,J,q2.1⟩
 have hz:=Y.hz;obtain⟨N,o⟩:=A.out w (zo _ _);clear Y y L ap ar;generalize ye fs c.head c.body [] B=aG at *;go_enter func166,ntmps166;go_upto_region 2 with fail
 have av:Hid (μ w (w.alloc (.cells #[r,s] 270))):=(zo _ _).alloc (zg _) _;have ac:Hid (∀W,Below (w.alloc (.cells #[r,s] 270)).heap.size (w.alloc (.cells #[r,s] 270)) W->W.cell? ⟨w.heap.size,0,none⟩=some r/\W.cell? ⟨w.heap.size,1,none⟩=some s/\w.heap.size<W.heap.size):=fun W i=>by
  have q:=(Q6.new w #[r,s] 270).below i;exact⟨by rw[q.rules.1];rfl,by rw[q.rules.1];rfl,q.lt⟩
 clear N o;obtain⟨N,o⟩:=A.out _ av.out;generalize a3:w.alloc (.cells #[r,s] 270)=wA at *;clear a3;go_wp2;clear N o;go_loopw [10,11,12] (fun Z _ _ wr=>∃k:Nat,k<=c.body.length/\Z=ι k/\Hid (∀j (t:j<c.body.length),j<k->¬(c.body[j].neg=true/\(yP c.body[j].pred (y7 B c.body[j].args) fs).isSome=true))/\Hid (μ wA wr)) (fun Z _ _ _=>c.body.length-(intOf Z).toNat)
 case atStart=>exact⟨0,by omega,rfl,fun j t h2=>by omega,zo _ _⟩
 case round=>
  obtain⟨k,hk,rfl,HN,F⟩:=hrel;have u:=Q5 (Q9 av.out F.out);obtain⟨N,o⟩:=A.out _ u.out;obtain⟨b0,b1,ai⟩:=ac.out _ F.out;by_cases E:k<c.body.length
  ·have ax:(k:Int)<(c.body.length:Int):=by omega
   obtain⟨g,rfl,hg,_,_,n,c2,C⟩:=X.out _ k E u.out;have D:Hid (∀W,μ wr W->Calls prog 195 #[.agg #[r,s],n] W fun e d=>∃v,e=.returned v/\Hid (QD w.heap.size d v (y7 B c.body[k].args))/\Hid (μ wr d)/\d.cell? ⟨g,k*3+2,none⟩=some n/\d.cell? ⟨w.heap.size,0,none⟩=some r/\d.cell? ⟨w.heap.size,1,none⟩=some s/\d.cell? ⟨gb,K+3,none⟩=some (.slice (some ⟨g,0,none⟩) c.body.length Q)):=fun W i=>by
    have H:=Q9 u.out i;refine(R.out W c.body[k] n (by simp[zk]) H (C.below i)).mono ?_;rintro e d ⟨v,J,q2,q3⟩;have m:=Q9 i q3.out;obtain⟨b0,b1,_⟩:=ac.out d (Q9 F.out m);exact⟨v,J,yr q2.out H.size,m,(zl m hg c2),b0,b1,(zl m o N)⟩
   clear C;go_upto_region 6 with fail
   go_cut [11] from 34 to 43 (fun a0 wx=>∃v,a0=v/\Hid (QD w.heap.size wx v (y7 B c.body[k].args))/\Hid (μ wr wx))
   case first=>
    go_region_held3 (fun d=>d.cell? ⟨g,k*3+2,none⟩=some n/\d.cell? ⟨w.heap.size,0,none⟩=some r/\d.cell? ⟨w.heap.size,1,none⟩=some s/\d.cell? ⟨gb,K+3,none⟩=some (.slice (some ⟨g,0,none⟩) c.body.length Q)) (first|go_keep|(go_simp;done)) (go_at_call 195;refine(D.out _ (by exact(by repeat'(first|with_reducible(first|apply zR|assumption|apply zN|apply zA|apply zD|apply zS)|go_size)))).mono ?_;rintro e w5 ⟨v5,rfl,af,ad,z0,z1,z2,z3⟩)
    go_wp2;go_meet
    case rel=>exact⟨_,rfl,af,ad⟩
   case rest=>
    obtain⟨au,U,P,O⟩:=hcut;obtain rfl:=U.symm;clear U c2 hg b0 b1 ai D N o;have h:=Q5 (Q9 u.out O.out);have aw:=Q5 (Q9 F.out O.out);obtain⟨N,o⟩:=A.out _ h.out;obtain⟨g',e',hg,_,c1,_⟩:=X.out _ k E h.out;cases e';have V:Hid (Calls prog 45 #[(π mb),.string c.body[k].pred,au] wc fun e d=>e=ε (ι (gN c.body[k].pred (y7 B c.body[k].args) fs))/\Hid (μ wc d)/\g<d.heap.size/\d.cell? ⟨g,k*3,none⟩=some (.bool c.body[k].neg)/\d.cell? ⟨gb,K+3,none⟩=some (.slice (some ⟨g,0,none⟩) c.body.length Q)/\gb<d.heap.size):=by
     refine(ae.out wc k E au _ h.out P.out).mono ?_;rintro e d ⟨J,q3⟩;have m:=Q9 h.out q3;obtain⟨g',e',y1,y2,_⟩:=X.out _ k E m;cases e';exact⟨J,q3,y1,y2,A.out _ m⟩
    have ak:Hid (¬(c.body[k].neg=true/\(yP c.body[k].pred (y7 B c.body[k].args) fs).isSome=true)->∀j (t:j<c.body.length),j<k+1->¬(c.body[j].neg=true/\(yP c.body[j].pred (y7 B c.body[j].args) fs).isSome=true)):=fun q j t h2=>by
     by_cases az:j=k
     ·subst az;exact q
     ·exact HN.out j t (by omega)
    have a6:=Q5 (G.out k E);have T:Hid ((yP c.body[k].pred (y7 B c.body[k].args) fs).isSome=true↔0<=gN c.body[k].pred (y7 B c.body[k].args) fs):=by
     unfold Hid gN;cases yP c.body[k].pred (y7 B c.body[k].args) fs with
     |none=>simp
     |some z=>simp
    generalize gN c.body[k].pred (y7 B c.body[k].args) fs=fi at *;generalize (yP c.body[k].pred (y7 B c.body[k].args) fs).isSome=fb at *;generalize c.body[k].pred=pr at *;generalize c.body[k].neg=ng at *;go_upto_region 8 with (go_at_call 45;refine V.out.mono ?_;rintro e w6 ⟨rfl,ah,aI,z0,z3,aE⟩)
    have aj:=Q5 (Q9 h.out ah.out);have S:=Q5 (Q9 aw.out ah.out);clear V c1 N hg o;cases ng with
    |false=>
     have aa:=Q5 (ak.out (by simp));go_wp2;go_roundw
     case rel=>exact⟨k+1,by omega,by go_num,aa,S⟩
     case measure=>simp[intOf];omega
    |true=>
     by_cases am:0<=fi
     ·have HR:=Q5 (a6.out rfl (T.out.2 am));go_wp2;go_ret;exact⟨_,rfl,by rw[Hid,HR.out];exact vf.nil _ _,aj⟩
     ·have aa:=Q5 (ak.out (fun q=>am (T.out.1 q.2)));go_wp2;go_roundw
      case rel=>exact⟨k+1,by omega,by go_num,aa,S⟩
      case measure=>simp[intOf];omega
  ·have ax:¬(k:Int)<(c.body.length:Int):=by omega
   have ag:=Q5 (I.out fun j t=>HN.out j t (by omega));clear HN I G;obtain⟨n,c2,C⟩:=a8.out _ u.out;have D:Hid (∀W,μ wr W->Calls prog 195 #[.agg #[r,s],n] W fun e d=>∃v,e=.returned v/\Hid (QD w.heap.size d v (y7 B c.head.args))/\Hid (μ wr d)/\d.cell? ⟨gb,K+2,none⟩=some n/\d.cell? ⟨w.heap.size,0,none⟩=some r/\d.cell? ⟨w.heap.size,1,none⟩=some s):=fun W i=>by
    have H:=Q9 u.out i;refine(R.out W c.head n (by simp[zk]) H (C.below i)).mono ?_;rintro e d ⟨v,J,q2,q3⟩;have m:=Q9 i q3.out;obtain⟨b0,b1,_⟩:=ac.out d (Q9 F.out m);exact⟨v,J,yr q2.out H.size,m,(zl m o c2),b0,b1⟩
   clear C;go_upto_region 10 with fail
   go_cut [13] from 67 to 73 (fun a7 wx=>∃v,a7=v/\Hid (QD w.heap.size wx v (y7 B c.head.args))/\Hid (μ wr wx))
   case first=>
    go_region_held3 (fun d=>d.cell? ⟨gb,K+2,none⟩=some n/\d.cell? ⟨w.heap.size,0,none⟩=some r/\d.cell? ⟨w.heap.size,1,none⟩=some s) (first|go_keep|(go_simp;done)) (go_at_call 195;refine(D.out _ (by exact(by repeat'(first|with_reducible(first|apply zR|assumption|apply zN|apply zA|apply zD|apply zS)|go_size)))).mono ?_;rintro e w5 ⟨v5,rfl,af,ad,z0,z1,z2⟩)
    go_wp2;go_meet
    case rel=>exact⟨_,rfl,af,ad⟩
   case rest=>
    obtain⟨aH,x,P,O⟩:=hcut;obtain rfl:=x.symm;clear x c2 b0 b1 ai D N o;have h:=Q5 (Q9 u.out O.out);obtain⟨an,ab,x⟩:=P.out.qx;subst x;have aD:=h.out.size;generalize (y7 B c.head.args).length=rl at *;go_wp2_with (at_builtin;refine ks wc _ _ _ rfl (.tmp 74) (.tmp 76) 31 rfl w.heap.size 30 i0 _ 1 24 underlying31 hi a4 aB a5 rfl (by decide) _ 0 [] rfl (yC _ _ _ _) (zo _ _) _ _ rfl (by simp) rfl (by simp[Value.oneCell']) (by omega) (by omega) (by omega) ?_;intro v' w2 a2 M ay a9 aA aq;clear ay a9)
    go_ret;have hS:ze [] wc w2:=⟨M.os,M.tape,M.output,aq,fun j t _=>aA j t (show some j≠none from Option.some_ne_none j)⟩;refine⟨_,rfl,⟨[.slice an rl ab],by rw[ag.out];rfl,by rw[ag.out];exact a2,fun j h1 h2=>?_⟩,h.out.trans M⟩;obtain rfl:j=0:=by simp at h2;exact h2
    have q:=RW.of (yT P.out hS (fun b _ hm=>by cases hm)) hz;simp only[ag.out,gG];exact q
end
section
open Classical
variable {t:List zh}{cs:List zd}{L:List zE}{D:DB}{c:zd}
theorem Cn(a:yB (Q8 t)){p:Nat}(f:p<t.length):yo t t[p].name=some t[p]/\zV t t[p].name=p:=by
 have b:zV t t[p].name=p:=by
  rcases p5 (zV t t[p].name) p with q|q|q
  ·have d:=tx t t[p].name a t[zV t t[p].name] (by
    rw[vx];exact⟨0,by simp;omega,by simp⟩)
   have e:=wM.1 a (zV t t[p].name) p (by simp[Q8];omega) (by simp[Q8];omega) q;simp only[Q8,uM] at e;rw[e] at d;cases d
  ·exact q
  ·have d:=t7 t t[p].name t[p] (by
    rw[vx];exact⟨p,by simp;omega,by simp⟩)
   rw[QK] at d;cases d
 refine⟨?_,b⟩;unfold yo;rw[b,yq f];simp
theorem fj(a:yB (Q8 t)){p:Nat}(d:p<t.length):zP t (fz t p)=p/\fz t p=t[p].name:=by
 have f:fz t p=t[p].name:=by unfold fz Q8;simp[List.getD,d]
 obtain⟨e,b⟩:=Cn a d;rw[f];exact⟨by unfold zP;rw[e,b];rfl,rfl⟩
structure Rv (t:List zh) (ns:κ) (L:List zE) (D:DB):Prop where
 mem:∀f,f∈L↔∃p,p<t.length/\∃r m,D p r=some m/\f=(fz t p,ug ns r (uK t p) 3,m)
 once:L.Nodup
 ok:rq (t.map (·.jh)) D
 inside:LM (t.map (·.jh)) ns.length D
structure uh (cs:List zd) (t:List zh):Prop where
 words:∀c∈cs,nO c
 lit:∀c∈cs,∀l∈zk c,zP t l.pred<t.length/\uK t (zP t l.pred)=l.args.length/\fz t (zP t l.pred)=l.pred/\l.args.length<=3
 rise:yB (Q8 t)
 small:∀p,p<t.length->uK t p<=3
 cov:∀c∈cs,∀l∈zk c,∀y∈l.args,zO y=true->y∈zw c
theorem uh.of{a:List zh}(w:∀c∈cs,nO c)(h:QL cs a t):uh cs t:=by
 have d:R4 t=R4 a:=by have:=pB (a.length+1) a cs;rw[h.jm] at this;exact this
 have u:Q8 t=Q8 a:=by
  have:=congrArg (List.map Prod.fst) d;simpa [R4,Q8,Function.comp_def] using this
 have g:yB (Q8 t):=by rw[u];exact h.tab.rise
 have n:∀i (j:i<cs.length),kc (yD ((xV none i).getD [])) (zw cs[i]).length:=fun i j=>pS (lm (h.many _ (zs j)));refine⟨w,fun c b l f=>?_,g,fun p q=>?_,fun c b=>h.covered b⟩
 ·obtain⟨e,x,s,k,v,y⟩:=h.lit b f;obtain⟨B,m,A⟩:=jR x;refine⟨k,v,?_,?_⟩
  ·rw[(fj g k).2];have:t[zP t l.pred]=e:=by simp only[y,m]
   rw[this,s]
  ·obtain⟨r,z,o,_⟩:=mz (h.many c b);rcases zx.1 f with rfl|q
   ·exact r
   ·exact o l q
 ·unfold uK;rw[QB _ (by simpa using q)];exact(oD h (zq cs) none n).small _ (zs _)
theorem uh.ne{cs:List zd}{t:List zh}(h:uh cs t){c:zd}(d:c∈cs):∀l∈zk c,∀a∈l.args,a≠ByteArray.empty:=by
 intro l f a g e;have b:mP l:=by
  rcases zx.1 f with rfl|q
  ·exact(h.words c d).2.1
  ·exact(h.words c d).2.2 l q
 have:=(b.2 a g).ne;rw[e] at this;exact this rfl
theorem uh.nsz(h:uh cs t):∀y∈zq cs,y≠ByteArray.empty:=by
 intro y d;obtain⟨c,b,l,e,a,_⟩:=((lf cs).2 y).1 d;exact h.ne b l e y a
theorem Rv.lit{cs:List zd}{t:List zh}{L:List zE}{D:DB}(d:uh cs t)(h:Rv t (zq cs) L D){c:zd}(f:c∈cs){l:zj}(j:l∈zk c)(row:κ)(m:Nat):(l.pred,row,m)∈L↔∃r,D (zP t l.pred) r=some m/\row=ug (zq cs) r l.args.length 3:=by
 obtain⟨i,b,o,s⟩:=d.lit c f l j;rw[h.mem];constructor
 ·rintro⟨p,g,r,q,a,e⟩;simp only[ya] at e;obtain⟨n,k,rfl⟩:=e;have:zP t l.pred=p:=by rw[n];exact(fj d.rise g).1
  subst this;exact⟨r,a,by rw[k,b]⟩
 ·rintro⟨r,a,rfl⟩;exact⟨zP t l.pred,i,r,m,a,by rw[b,o]⟩
theorem Rv.can(j:uh cs t)(h:Rv t (zq cs) L D)(f:c∈cs){l:zj}(g:l∈zk c){r:zm}(a:QF D (zP t l.pred) r):QN l.args.length r/\∀i,i<l.args.length->r.getD i 0<(zq cs).length:=by
 have d:=(h.ok _ _ a).2;have b:=h.inside _ _ a;have e:(t.map (·.jh)).getD (zP t l.pred) 0=l.args.length:=(j.lit c f l g).2.1;rw[e] at d b;exact⟨d,b⟩
theorem Rv.fs(d:uh cs t)(h:Rv t (zq cs) L D):r7 cs L:=by
 refine⟨?_,?_⟩
 ·intro f b c g l n e;obtain⟨s,row,m⟩:=f;simp only at e ⊢;subst e;obtain⟨r,_,rfl⟩:=(h.lit d g n row m).1 b;rw[tj]
 ·intro f b x a;obtain⟨p,j,r,m,o,rfl⟩:=(h.mem f).1 b;have q:=h.inside p r (by unfold QF;rw[o];rfl);simp only[ug,zy,vM] at a;obtain⟨i,k,rfl⟩:=a;have:=d.small p j;rw[zc (by omega)];exact d.nsz _ (iz (q i k))
theorem eZ(ns:κ)(σ:ByteArray->Nat)(l:zj){i:Nat}(a:i<3):(vW ns σ l).getD i 0=jN ns σ l i:=by
 have:i=0∨i=1∨i=2:=by omega
 rcases this with rfl|rfl|rfl<;>rfl
theorem uh.can(n:uh cs t)(f:c∈cs){σ:ByteArray->Nat}(j:∀v∈zw c,σ v<(zq cs).length):∀l∈zk c,QN l.args.length (vW (zq cs) σ l)/\∀i,i<l.args.length->(vW (zq cs) σ l).getD i 0<(zq cs).length:=by
 have d:=lf cs;intro l g;have q:=(n.lit c f l g).2.2.2;refine⟨⟨rfl,fun i a=>?_⟩,fun i a=>?_⟩
 ·by_cases p:i<3
  ·rw[eZ _ _ _ p];unfold jN;rw[kF a]
  ·rw[List.getD,kF (by simp[vW];omega)];rfl
 ·rw[eZ _ _ _ (by omega)];unfold jN;rw[yq a];simp only;split
  ·rename_i h;exact j _ (n.cov c f l g _ (zs a) h)
  ·rename_i h;have o:=(d.2 _).2 ⟨c,f,l,g,zs a,by simpa using h⟩;obtain⟨k,m,e⟩:=vx.1 o;have b:=rf d.1 m;rw[List.getD,yq m,ur,e] at b;rw[b];exact m
theorem Rv.der1(g:uh cs t)(h:Rv t (zq cs) L D)(f:c∈cs){r:zm}(N:tI t (zq cs) c D r):pn L c (ug (zq cs) r c.head.args.length 3)/\QN c.head.args.length r/\∀i,i<c.head.args.length->r.getD i 0<(zq cs).length:=by
 obtain⟨σ,B,G,E⟩:=N;have o:=lf cs;have s:∀v∈zw c,σ v<(zq cs).length:=by
  intro v y;obtain⟨k,l,d,p,w⟩:=gO.1 y;have b:l∈zk c:=by simp[zk,d]
  obtain⟨u,z⟩:=h.can g f b (B l d p);obtain⟨i,C,rfl⟩:=vx.1 w;have A:=(g.lit c f l b).2.2.2;have:=z i C;rw[eZ _ _ _ (by omega)] at this;unfold jN at this;rw[yq C] at this;simpa only[zc k] using this
 have e:=g.can f s;have j:∀l∈zk c,Rb (fun v=>if v∈zw c then(zq cs).getD (σ v) ByteArray.empty else⟨#[0]⟩) l=ug (zq cs) (vW (zq cs) σ l) l.args.length 3:=by
  intro l d;rw[sy f d (g.lit c f l d).2.2.2];unfold Rb;refine kT fun a M=>?_;split
  ·rename_i y;exact zc (g.cov c f l d a M y)
  ·rfl
 have n:c.head∈zk c:=by simp[zk]
 refine⟨⟨_,fun a=>?_,fun l d p=>?_,fun l d p m x=>?_,by rw[j _ n,E]⟩,by rw[E];exact e _ n⟩
 ·split
  ·rename_i q;exact g.nsz _ (iz (s a q))
  ·decide
 ·have b:l∈zk c:=by simp[zk,d]
  obtain⟨m,x⟩:=my.1 (B l d p);exact⟨m,(h.lit g f b _ m).2 ⟨_,x,j l b⟩⟩
 ·have b:l∈zk c:=by simp[zk,d]
  obtain⟨K,u,z⟩:=(h.lit g f b _ m).1 x;obtain⟨H,I⟩:=h.can g f b (r:=K) (by unfold QF;rw[u];rfl);have A:=(g.lit c f l b).2.2.2;have F:=nT o.1 A H I;have J:=nT o.1 A (e l b).1 (e l b).2;rw[←z,j l b,J,zt] at F;rw[←F,G l d p] at u;cases u
theorem Rv.der2(g:uh cs t)(h:Rv t (zq cs) L D)(d:c∈cs){x:κ}(J:pn L c x):∃r,tI t (zq cs) c D r/\x=ug (zq cs) r c.head.args.length 3:=by
 obtain⟨σ,_,E,H,rfl⟩:=J;have o:=lf cs;have G:∀l∈c.body,l.neg=false->QF D (zP t l.pred) (vW (zq cs) (fun v=>(um (zq cs) (σ v)).getD 0) l):=by
  intro l f p;have b:l∈zk c:=by simp[zk,f]
  obtain⟨m,z⟩:=E l f p;obtain⟨r,q,e⟩:=(h.lit g d b _ m).1 z;have F:QF D (zP t l.pred) r:=by unfold QF;rw[q];rfl
  obtain⟨C,B⟩:=h.can g d b F;rw[←NE o.1 C B e.symm];exact F
 have s:∀v∈zw c,(zq cs).getD ((um (zq cs) (σ v)).getD 0) ByteArray.empty=σ v:=by
  intro v A;obtain⟨n,l,f,p,w⟩:=gO.1 A;have b:l∈zk c:=by simp[zk,f]
  obtain⟨m,z⟩:=E l f p;obtain⟨r,q,e⟩:=(h.lit g d b _ m).1 z;obtain⟨C,B⟩:=h.can g d b (r:=r) (by unfold QF;rw[q];rfl);have K:=(g.lit c d l b).2.2.2;obtain⟨i,u,rfl⟩:=vx.1 w;have y:(ug (zq cs) r l.args.length 3)[i]'(by rw[tj];exact u)=(Rb σ l)[i]'(by simp[Rb];exact u):=by simp only[←e]
  simp only[ug,Rb,uM,mp] at y;rw[zc (by omega),zc n] at y;rw[←y,rf o.1 (B i u)];rfl
 have k:∀l∈zk c,Rb (fun v=>(zq cs).getD ((um (zq cs) (σ v)).getD 0) ByteArray.empty) l=Rb σ l:=by
  intro l f;refine kT fun a I=>?_;split
  ·rename_i A;exact s a (g.cov c d l f a I A)
  ·rfl
 have j:c.head∈zk c:=by simp[zk]
 refine⟨_,⟨_,G,fun l f p=>?_,rfl⟩,by rw[sy d j (g.lit c d c.head j).2.2.2,k c.head j]⟩;have b:l∈zk c:=by simp[zk,f]
 cases q:D (zP t l.pred) (vW (zq cs) (fun v=>(um (zq cs) (σ v)).getD 0) l) with
 |none=>rfl
 |some m=>
  exfalso;refine H l f p m ((h.lit g d b _ m).2 ⟨_,q,?_⟩);rw[sy d b (g.lit c d l b).2.2.2,k l b]
end
section
open Go.RowKit
theorem OT{s:ByteArray}{cs:List zd}{t:List zh}(h:xQ s=.ok (cs,t)):∀c∈cs,nO c:=by
 unfold xQ at h;split at h
 ·cases h
 ·split at h
  ·cases h
  ·rename_i l d;split at h
   ·cases h
   ·rename_i e f;have b:=F4 _ f (Jq d);have a:e=cs:=by
     repeat'(split at h)
     all_goals first|(cases h;done)|(simp only[Except.ok.injEq,ya] at h;exact h.1)
    subst a;exact b
theorem nh.sz{x:ByteArray}(h:nh (bl x)):0<x.size/\x.size<=6:=by
 have d:=h.ne;have c:=h.six;have e:(bl x).length=x.size:=rfl;cases b:bl x with
 |nil=>exact zC b d
 |cons a r=>rw[b] at e c;simp only[xd] at e c;omega
theorem mP.fine{l:zj}(h:mP l)(b:l.args.length<=3):BM l:=
 ⟨h.1.1.sz.2,h.1.1.sz.1,by omega,fun x a=>h.2 x a |>.sz⟩
theorem nO.fine{c:zd}(h:nO c)(b:yE c=false):ip c:=by
 unfold yE at b;simp only[nX,decide_eq_false_iff_not] at b;obtain⟨⟨⟨e,f⟩,d⟩,_⟩:=b;refine⟨fun l a=>?_,by omega⟩;rcases zx.1 a with rfl|a
 ·exact h.2.1.fine (by omega)
 ·have:=List.any_eq_false.1 d l a;simp only[decide_eq_true_eq] at this;exact(h.2.2 l a).fine (by omega)
end
end Go.Proofs.YteampbddflhngaaGreat
