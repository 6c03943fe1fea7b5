import Derived.Test.YteampbddflhngaaGreatX17
import Derived.Test.YteampbddflhngaaGreatX19
import Derived.Test.YteampbddflhngaaGreatX27
import Derived.Test.YteampbddflhngaaGreatX30
import Derived.Test.YteampbddflhngaaGreatX31
import Derived.Test.YteampbddflhngaaGreatX32
namespace Go.Proofs.YteampbddflhngaaGreat
set_option linter.all false
set_option maxRecDepth 100000
set_option maxHeartbeats 8000000
section
open Go.RowKit
theorem lO(w:World)(m:Nat):Below w.heap.size w (w.drewN m):=zL (zo _ _) m
abbrev zE:=ByteArray×List ByteArray×Nat
def yK(a:ByteArray)(row:List ByteArray):List zE->Option Nat
 |[]=>none
 |f::b=>if f.1=a/\f.2.1=row then some 0 else(yK a row b).map (·+1)
def gP(a:ByteArray)(row:List ByteArray)(fs:List zE):Int:=match yK a row fs with
 |none=>-1
 |some k=>k
theorem BD{a:ByteArray}{row:List ByteArray}{fs:List zE}{k:Nat}(b:k<fs.length):yK a row (fs.drop k)=if fs[k].1=a/\fs[k].2.1=row then some 0 else(yK a row (fs.drop (k+1))).map (·+1):=by
 rw[xk b];rfl
end
section
open Go.Proofs.Tryz Go.RowKit
theorem CW{lo C:Nat}(w:World)(H N:Value)(a b:List ByteArray)(v:P7 lo w H a)(u:P7 C w N b)(hl:a.length<=1000000)(Y:b.length<=2000000):
  Calls prog 84 #[H,N] w fun e Q=>e=.returned (.bool (decide (a=b)))/\Below w.heap.size w Q:=by
 obtain⟨ao,Z,rfl⟩:=v.qx;obtain⟨U,K,rfl⟩:=u.qx;by_cases d:a.length=b.length
 ·have s:=Px d;rw[←d];clear d;have V:Hid (∀k,k<a.length->a.getD k ByteArray.empty≠b.getD k ByteArray.empty->decide (a=b)=false):=fun k _ q=>by
   simp only[decide_eq_false_iff_not];rintro rfl;exact q rfl
  have HT:Hid ((∀k,k<a.length->a.getD k ByteArray.empty=b.getD k ByteArray.empty)->decide (a=b)=true):=fun q=>by
   simp only[decide_eq_true_eq];refine gS s.out fun i L T=>?_;have:=q i L;rwa [P5 _ L,P5 _ T] at this
  generalize decide (a=b)=r at *;have R:=Px v;have HB:=Px u;clear v u;go_enter func84,ntmps84;go_wp2;go_loopw [5] (fun i wr=>∃k:Nat,k<=a.length/\i=.int .i64 k/\Hid (∀j,j<k->a.getD j ByteArray.empty=b.getD j ByteArray.empty)/\Below w.heap.size w wr) (fun i _=>a.length-(intOf i).toNat)
  case atStart=>exact⟨0,zx _,rfl,fun j E=>by omega,zo _ _⟩
  case round=>
   obtain⟨k,hk,rfl,G,c⟩:=hrel;have F:=c.size;by_cases f:k<a.length
   ·have h:k<b.length:=by rw[←s.out];exact f
    obtain⟨g,rfl,X,t⟩:=R.out.cell k f;obtain⟨W,O,z,l⟩:=HB.out.cell k h;subst O;have P:=zm c X t;have I:=zm c z l;have S:g<wr.heap.size:=by omega
    have J:W<wr.heap.size:=by omega
    clear t l;have p:Hid (a.getD k ByteArray.empty=a[k]):=P5 _ f;have o:Hid (b.getD k ByteArray.empty=b[k]):=P5 _ h;by_cases m:a[k]=b[k]
    ·have D:=kL m;have B:=Px m;clear m;generalize a[k]=x at *;generalize b[k]=y at *;go_wp2;go_quiet (fail)
     go_wp2;go_roundw
     case rel=>exact⟨k+1,by omega,by go_num,fun j E=>(by
      by_cases A:j=k
      ·rw[A,p.out,o.out,B.out]
      ·exact G.out j (by omega)),zL c _⟩
     case measure=>simp[intOf];omega
    ·have D:=jp m;have n:=Px (V.out k f (by rw[p.out,o.out];exact m));clear m;generalize a[k]=x at *;generalize b[k]=y at *;go_wp2;go_quiet (fail)
     go_wp2;go_ret;exact⟨by rw[n.out];rfl,zL c _⟩
   ·have n:=Px (HT.out fun j E=>G.out j (by omega));go_wp2;go_ret;exact⟨by rw[n.out];rfl,c⟩
 ·have M:¬(a.length:Int)=(b.length:Int):=by omega
  have n:Hid (decide (a=b)=false):=show decide (a=b)=false by
   simp only[decide_eq_false_iff_not];rintro rfl;exact d rfl
  generalize decide (a=b)=r at *;clear v u d;go_enter func84,ntmps84;go_wp2;go_ret;exact⟨by rw[n.out];rfl,zo _ _⟩
def mo(w:World)(v:Value)(fs:List zE):Prop:=∃c a,v=.slice c fs.length a/\∀i (h:i<fs.length),∃g b d,c=some ⟨g,0,none⟩/\g<w.heap.size/\w.cell? ⟨g,i*3,none⟩=some (.string fs[i].1)/\w.cell? ⟨g,i*3+1,none⟩=some b/\w.cell? ⟨g,i*3+2,none⟩=some (.int .i64 (fs[i].2.2:Nat))/\P7 d w b fs[i].2.1
theorem mo.below{w d:World}{v:Value}{fs:List zE}(h:mo w v fs)(a:Below w.heap.size w d):mo d v fs:=by
 obtain⟨r,c,l,e⟩:=h;refine⟨r,c,l,fun i o=>?_⟩;obtain⟨g,p,n,m,b,k,j,f,q⟩:=e i o;exact⟨g,p,n,m,xG b a.size,(zm a b k),(zm a b j),(zm a b f),q.below a⟩
theorem DC{G:Nat}(w:World)(x rd:Nat)(v:Value)(fs:List zE)(b:ByteArray)(L:Value)(row:List ByteArray)(D:Py w x #[v,.int .i64 rd] 54)(h:mo w v fs)(C:P7 G w L row)(hl:fs.length<=10000000)(M:row.length<=2000000)(A:∀f∈fs,f.2.1.length<=1000000):
  Calls prog 45 #[.pointer (some ⟨x,0,none⟩),.string b,L] w fun e w'=>e=.returned (.int .i64 (gP b row fs))/\Below w.heap.size w w':=by
 have H:=Px fun W lo R (a:List ByteArray) (hb:Below w.heap.size w W) (ha:P7 lo W R a) (hq:a.length<=1000000)=>CW W R L a row ha (C.below hb) hq M;obtain⟨Z,U,rfl⟩:=C.qx;obtain⟨ao,N,rfl,d⟩:=h;have Q:w.cell? ⟨x,0,none⟩=some (.slice ao fs.length N):=by rw[D.rules.1];rfl
 have u:=D.lt;have HC:=Px d;have I:=Px A;have H0:Hid (yK b row fs=(yK b row (fs.drop 0)).map (·+0)):=show yK b row fs=_ by simp
 have Y:Hid (gP b row fs=match yK b row fs with|none=>-1|some k=>(k:Int)):=show gP b row fs=_ from rfl
 clear d C A D;generalize gP b row fs=J at *;generalize yK b row fs=p at *;go_enter func45,ntmps45;go_wp2;go_loopw [7,8] (fun i _ wr=>∃k:Nat,k<=fs.length/\i=.int .i64 k/\Hid (p=(yK b row (fs.drop k)).map (·+k))/\Below w.heap.size w wr) (fun i _ _=>fs.length-(intOf i).toNat)
 case atStart=>exact⟨0,zx _,rfl,H0,zo _ _⟩
 case round=>
  obtain⟨k,hk,rfl,E,c⟩:=hrel;have P:=c.size;by_cases n:k<fs.length
  ·have t:(k:Int)<(fs.length:Int):=by omega
   obtain⟨g,rv,K,rfl,X,V,T,_,S⟩:=HC.out k n;have xm:=zm c u Q;have y:x<wr.heap.size:=by omega
   have q:=E.out;rw[BD n] at q;have r:=Px q;clear q E;have x0:=zm c X V;have x1:=zm c X T;have aa:g<wr.heap.size:=by omega
   have B:=Px (H.out wr K _ _ c (S.below c) (I.out _ (zv n)));clear V T S;generalize fs[k].2.1=F at *;generalize fs[k].1=fp at *;by_cases l:fp=b
   ·have O:=kL l;by_cases j:F=row
    ·have s:Hid (p=some k):=show p=some k by rw[r.out,zb ⟨l,j⟩];simp
     have o:=Px (show J=(k:Int) by rw[Y.out,s.out]);rw[show decide (F=row)=true by simp[j]] at B;clear r l j;go_wp2_with (first|(go_at_call 84;refine B.out.mono ?_;rintro e w1 ⟨rfl,m⟩))
     go_ret;exact⟨by rw[o.out];rfl,P3 c m⟩
    ·have s:Hid (p=(yK b row (fs.drop (k+1))).map (·+(k+1))):=show p=_ by
      rw[r.out,za (fun z=>j z.2),Option.map_map];congr 1;funext z;simp only[Function.comp];omega
     rw[show decide (F=row)=false by simp[j]] at B;clear r l j;go_wp2_with (first|(go_at_call 84;refine B.out.mono ?_;rintro e w1 ⟨rfl,m⟩))
     exact⟨⟨k+1,by omega,by go_num,s,P3 c m⟩,by simp[intOf];omega⟩
   ·have O:=jp l;have s:Hid (p=(yK b row (fs.drop (k+1))).map (·+(k+1))):=show p=_ by
     rw[r.out,za (fun z=>l z.1),Option.map_map];congr 1;funext z;simp only[Function.comp];omega
    clear r l;go_wp2;exact⟨⟨k+1,by omega,by go_num,s,c⟩,by simp[intOf];omega⟩
  ·have t:¬(k:Int)<(fs.length:Int):=by omega
   have xm:=zm c u Q;have y:x<wr.heap.size:=by omega
   have o:Hid (J=-1):=show J=-1 by
    rw[Y.out,E.out,ug (by omega)];rfl
   go_wp2;go_ret;exact⟨by rw[o.out];rfl,c⟩
end
structure R9 (t:List zh) (ns:List ByteArray) (R:zw):Prop where
 rise:y5 (P2 t)
 nrise:y5 ns
 inv:qB (t.map (·.jh)) (zJ ns.length) R
 small:∀a∈t.map (·.jh),a<=3
 inside:EN (t.map (·.jh)) ns.length (zyf (t.map (·.jh)) R)
 few:R.count<=1048576/\t.length<=1000/\ns.length<=1000
def dN(t:List zh)(p:Nat):ByteArray:=(P2 t).getD p ByteArray.empty
theorem R9.len{t:List zh}{ns:List ByteArray}{R:zw}(h:R9 t ns R):R.rows.length=t.length:=by have:=h.inv.len;simpa using this
section
open Classical
variable {t t0:List zh}{cs:List zc}
theorem Ny{c:List zh}{l:zj}(b:∀e∈t,e.qh=0)(h:vh t l=some c):∀e∈c,e.qh=0:=by
 unfold vh at h;split at h
 ·split at h
  ·simp only[zr] at h;subst h;exact b
  ·cases h
 ·simp only[zr] at h;subst h;intro e a;rcases rn.1 a with rfl|a
  ·rfl
  ·exact b e a
theorem oQ:∀(b done:List zj) (t:List zh),Q8 t done->(∀e∈t,e.qh=0)->(∀x∈done++b,∀y∈done++b,x.pred=y.pred->x.args.length=y.args.length)->∃c,b.foldl ui (some t)=some c/\Q8 c (done++b)/\∀e∈c,e.qh=0
 |[],done,t,h,g,_=>⟨t,rfl,by simpa using h,g⟩
 |l::b,done,t,h,g,n=>by
  rw[un];cases a:vh t l with
  |none=>
   exfalso;unfold vh at a;split at a
   ·rename_i e r;obtain⟨m,o⟩:=nm r;split at a
    ·cases a
    ·rename_i i;obtain⟨j,f,d⟩:=(h.names e.name).1 (z9.2 ⟨e,m,rfl⟩);apply i;rw[←h.jh e m j f d];exact n j (by simp[f]) l (by simp) (d.trans o)
   ·cases a
  |some k=>
   rw[show ui (some t) l=some k from a];obtain⟨c,q,s,p⟩:=oQ b (done++[l]) k (h.step a) (Ny g a) (by simpa [List.append_assoc] using n);exact⟨c,q,by simpa [List.append_assoc] using s,p⟩
theorem F8{c:List zj}(h:Q8 t c){x y:zj}(d:x∈c)(g:y∈c)(e:x.pred=y.pred):x.args.length=y.args.length:=by
 obtain⟨a,f,b⟩:=z9.1 ((h.names x.pred).2 ⟨x,d,rfl⟩);rw[h.jh a f x d b.symm,h.jh a f y g (e.symm.trans b.symm)]
theorem Ei(h:Q8 t (cs.flatMap zl)):kc t cs:=by
 intro c g l f;cases d:yn t l.pred with
 |some e=>rfl
 |none=>
  obtain⟨e,b,a⟩:=z9.1 ((h.names l.pred).2 ⟨l,uF.2 ⟨c,g,f⟩,rfl⟩);exact zB a (mN h.rise d e b)
theorem Ni(h:∀e∈t,e.qh=0)(n:ByteArray):val t n=0:=by
 unfold val;split
 ·rename_i e a;exact h e (nm a).1
 ·rfl
theorem MY(h:ud cs=some t0):∀e∈t0,e.qh=0:=by
 have a:=E5 h;obtain⟨u,u1,u2,u3⟩:=oQ (cs.flatMap zl) [] [] td (fun e d=>by cases d) (fun x b y c e=>F8 a (by simpa using b) (by simpa using c) e);have f:u=t0:=by unfold ud at h;rw[u1] at h;simpa using h
 subst f;exact u3
theorem PI.least(h:PI cs t0 t):Qe cs (val t):=by
 have:=(sO (Ei h.tab) (Ni (MY h.coll))).2 (by rw[h.jm]);rwa [h.jm] at this
theorem PI.nam(h:PI cs t0 t):P2 t=P2 t0/\Qu t=Qu t0:=by
 have b:=rM (t0.length+1) t0 cs (Ei h.tab);have a:=ph (t0.length+1) t0 cs;rw[h.jm] at b a;exact⟨b,a⟩
end
section
open Classical
theorem AS{cs:List zc}{a t:List zh}(h:PI cs a t){c:zc}(d:c∈cs){l:zj}(b:l∈zl c):l.pred∈P2 t:=by
 rw[h.nam.1];exact(h.tab.names l.pred).2 ⟨l,uF.2 ⟨c,d,b⟩,rfl⟩
theorem CY{t:List zh}{ns:List ByteArray}(cs:List zc)(s:Nat):((uZ t ns none cs).filter fun r=>decide (r.qh=s))=[]↔¬∃c∈cs,0<c.body.length/\x6 t c.head.pred=s:=by
 rw[List.filter_eq_nil_iff];constructor
 ·rintro q ⟨c,g,a,f⟩;obtain⟨i,b,rfl⟩:=gE.1 g;have:=q _ (tE.2 ⟨i,b,a,rfl⟩);exact this (decide_eq_true f)
 ·intro q r d;obtain⟨i,b,a,rfl⟩:=tE.1 d;exact fun e=>q ⟨_,zv b,a,of_decide_eq_true e⟩
theorem Iz{rs:List zq}{k:Nat}{D:DB}{p:Nat}{x:zk}{m:Nat}(h:D p x=some m):zy1 rs k D p x=some m:=by
 unfold zy1;rw[h]
end
section
open Classical
variable {ns:List ByteArray}
def PV(σ:ByteArray->ByteArray)(l:zj):List ByteArray:=l.args.map fun a=>if zO a=true then σ a else a
theorem wD{i:Nat}(h:i<ns.length):ns.getD i ByteArray.empty∈ns:=by
 rw[P5 _ h];exact zv h
theorem tg{cs:List zc}{c:zc}(m:c∈cs){l:zj}(k:l∈zl c)(o:l.args.length<=3)(σ:ByteArray->Nat):uf (zp cs) (vL (zp cs) σ l) l.args.length 3=PV (fun v=>(zp cs).getD (σ v) ByteArray.empty) l:=by
 have b:=fZ cs;have a:∀i (d:i<l.args.length),(zp cs).getD ((vL (zp cs) σ l).getD i 0) ByteArray.empty=if zO l.args[i]=true then(zp cs).getD (σ l.args[i]) ByteArray.empty else l.args[i]:=by
  intro i d;have e:(vL (zp cs) σ l).getD i 0=jI (zp cs) σ l i:=by
   have:i=0∨i=1∨i=2:=by omega
   rcases this with rfl|rfl|rfl<;>rfl
  rw[e];unfold jI;rw[yr d];simp only;split
  ·rfl
  ·rename_i g;have h:=(b.2 _).2 ⟨c,m,l,k,zv d,by simpa using g⟩;obtain⟨v,f,p⟩:=Kn b.1 h;rw[f];exact(GL f).2
 apply gS
 ·simp[uf,PV]
 ·intro i j n;have d:i<l.args.length:=by simpa [uf] using j
  simp only[uf,PV,vm,mI];rw[zb (by omega),a i d]
theorem Mm(o:y5 ns){l:zj}{r:zk}(g:PG l.args.length r)(k:∀i,i<l.args.length->r.getD i 0<ns.length){σ:ByteArray->ByteArray}(h:uf ns r l.args.length 3=PV σ l):r=vL ns (fun v=>(uj ns (σ v)).getD 0) l:=by
 have d:∀i,i<3->r.getD i 0=jI ns (fun v=>(uj ns (σ v)).getD 0) l i:=by
  intro i s;unfold jI;by_cases j:i<l.args.length
  ·have e:(uf ns r l.args.length 3)[i]'(by rw[tx];exact j)=(PV σ l)[i]'(by simp[PV];exact j):=by simp only[h]
   simp only[uf,PV,vm,mI] at e;rw[zb (by omega)] at e;have m:=pR o (k i j);rw[yr j];simp only;split
   ·rename_i f;rw[zb f] at e;rw[←e,m];rfl
   ·rename_i f;rw[za f] at e;rw[←e,m];rfl
  ·rw[kp (by omega)];exact g.2 i (by omega)
 match r,g.1 with
 |[a,b,c],_=>
  have p:=d 0 (by omega);have q:=d 1 (by omega);have n:=d 2 (by omega);unfold vL;rw[←p,←q,←n];rfl
end
section
open Classical
abbrev yx:=List (ByteArray×ByteArray)
def PD:yx->ByteArray->Option ByteArray
 |[],_=>none
 |x::B,t=>if x.1=t then some x.2 else PD B t
def yd(B:yx)(t:ByteArray):ByteArray:=if zO t=true then(PD B t).getD ByteArray.empty else t
def xj:yx->List ByteArray->List ByteArray->Option yx
 |B,[],_=>some B
 |B,a::b,row=>if yd B a=ByteArray.empty then xj (B++[(a,row.headD ByteArray.empty)]) b row.tail else if yd B a=row.headD ByteArray.empty then xj B b row.tail else none
def y9(B:yx)(args:List ByteArray):List ByteArray:=args.map (yd B)
theorem pD(B C:yx)(t:ByteArray):PD (B++C) t=(PD B t).or (PD C t):=by
 induction B with
 |nil=>rfl
 |cons x B a=>
  rw[hZ,PD,PD];split
  ·rfl
  ·exact a
def vN(B:yx):Prop:=∀v x,PD B v=some x->x≠ByteArray.empty
def Rm(B C:yx):Prop:=∀v x,PD B v=some x->PD C v=some x
theorem Rm.trans{A B C:yx}(h:Rm A B)(k:Rm B C):Rm A C:=fun v x q=>k v x (h v x q)
theorem mV{B C:yx}(h:Rm B C){t:ByteArray}(a:yd B t≠ByteArray.empty):yd C t=yd B t:=by
 unfold yd at *;split
 ·rename_i q;rw[zb q] at a;cases b:PD B t with
  |none=>rw[b] at a;exact zB rfl a
  |some x=>rw[h t x b]
 ·rfl
theorem nG:∀(args row:List ByteArray) (B b:yx),args.length=row.length->(∀x∈row,x≠ByteArray.empty)->(∀a∈args,a≠ByteArray.empty)->vN B->xj B args row=some b->vN b/\Rm B b/\y9 b args=row
 |[],row,B,b,n,_,_,i,h=>by
  simp only[xj,zr] at h;subst h;have:row=[]:=by cases row with|nil=>rfl|cons a r=>simp at n
  subst this;exact⟨i,fun v x q=>q,rfl⟩
 |a::f,[],B,b,n,_,_,_,_=>by simp at n
 |a::f,r::k,B,b,n,o,t,i,h=>by
  have l:f.length=k.length:=by simpa using n
  have A:=o r (by simp);have s:=t a (by simp);unfold xj at h;change (if yd B a=ByteArray.empty then xj (B++[(a,r)]) f k else if yd B a=r then xj B f k else none)=some b at h;split at h
  ·rename_i c;have d:zO a=true:=by
    false_or_by_contra
    rename_i q;unfold yd at c;rw[za q] at c;exact s c
   have w:PD B a=none:=by
    unfold yd at c;rw[zb d] at c;cases g:PD B a with
    |none=>rfl
    |some x=>rw[g] at c;exact zB c (i a x g)
   have z:vN (B++[(a,r)]):=by
    intro v x q;rw[pD] at q;cases g:PD B v with
    |some y=>rw[g] at q;simp only[Option.some_or,zr] at q;rw[←q];exact i v y g
    |none=>
     rw[g] at q;simp only[Option.none_or,PD] at q;split at q
     ·simp only[zr] at q;rw[←q];exact A
     ·cases q
   have C:Rm B (B++[(a,r)]):=by
    intro v x q;rw[pD,q];rfl
   obtain⟨u,m,j⟩:=nG f k _ b l (fun x e=>o x (by simp[e])) (fun x e=>t x (by simp[e])) z h;refine⟨u,C.trans m,?_⟩;unfold y9 at j ⊢;rw[xQ,j];congr 1;have:PD (B++[(a,r)]) a=some r:=by
    rw[pD,w];simp[PD]
   unfold yd;rw[zb d,m a r this];rfl
  ·rename_i c;by_cases p:yd B a=r
   ·rw[zb p] at h;obtain⟨u,m,j⟩:=nG f k B b l (fun x e=>o x (by simp[e])) (fun x e=>t x (by simp[e])) i h;refine⟨u,m,?_⟩;unfold y9 at j ⊢;rw[xQ,j,mV m c,p]
   ·rw[za p] at h;cases h
def QH(B:yx)(σ:ByteArray->ByteArray):Prop:=∀v x,PD B v=some x->σ v=x
theorem sL{σ:ByteArray->ByteArray}(c:∀a,σ a≠ByteArray.empty):∀(args:List ByteArray) (B:yx),(∀a∈args,a≠ByteArray.empty)->QH B σ->∃l,xj B args (args.map fun a=>if zO a=true then σ a else a)=some l/\QH l σ
 |[],B,_,h=>⟨B,rfl,h⟩
 |a::i,B,g,h=>by
  unfold xj;simp only[xQ,List.headD_cons,hX];by_cases b:zO a=true
  ·rw[zb b];cases k:PD B a with
   |none=>
    have f:yd B a=ByteArray.empty:=by unfold yd;rw[zb b,k];rfl
    rw[zb f];refine sL c i _ (fun x d=>g x (by simp[d])) fun v x q=>?_;rw[pD] at q;cases j:PD B v with
    |some y=>rw[j] at q;simp only[Option.some_or,zr] at q;rw[←q];exact h v y j
    |none=>
     rw[j] at q;simp only[Option.none_or,PD] at q;split at q
     ·rename_i e;simp only[zr] at q;rw[←q,e]
     ·cases q
   |some x=>
    have d:=h a x k;have f:yd B a=x:=by unfold yd;rw[zb b,k];rfl
    rw[f,za (by rw[←d];exact c a),zb d.symm];exact sL c i B (fun x d=>g x (by simp[d])) h
  ·have f:yd B a=a:=by unfold yd;rw[za b]
   rw[za b,f,za (g a (by simp)),zb rfl];exact sL c i B (fun x d=>g x (by simp[d])) h
theorem D3{a:ByteArray}{row:List ByteArray}:∀{fs:List zE} {k:Nat},yK a row fs=some k->∃e:k<fs.length,fs[k].1=a/\fs[k].2.1=row
 |[],_,h=>by cases h
 |f::fs,k,h=>by
  unfold yK at h;split at h
  ·rename_i q;simp only[zr] at h;subst h;exact⟨by simp,by simpa using q⟩
  ·obtain⟨j,b,rfl⟩:=vE.1 h;obtain⟨d,c⟩:=D3 b;exact⟨by simpa using d,by simpa using c⟩
theorem oH{a:ByteArray}{row:List ByteArray}:∀{fs:List zE},yK a row fs=none->∀m,(a,row,m)∉fs
 |[],_,m,h=>by cases h
 |f::fs,b,m,h=>by
  unfold yK at b;split at b
  ·cases b
  ·rename_i q;rw[Option.map_eq_none_iff] at b;rcases zu.1 h with e|h
   ·rw[←e] at q;exact q ⟨rfl,rfl⟩
   ·exact oH b m h
theorem QH.val{B:yx}{σ:ByteArray->ByteArray}(h:QH B σ){a:ByteArray}(b:yd B a≠ByteArray.empty):yd B a=if zO a=true then σ a else a:=by
 unfold yd at *;split
 ·rename_i q;rw[zb q] at b;cases c:PD B a with
  |none=>rw[c] at b;exact zB rfl b
  |some x=>rw[h a x c];rfl
 ·rfl
end
section
open Go.RowKit
def xh(B:yx):List ByteArray:=B.map (·.1)
def xH(B:yx):List ByteArray:=B.map (·.2)
theorem J4{B:yx}{k:Nat}(a:k<B.length)(t:ByteArray):PD (B.drop k) t=if B[k].1=t then some B[k].2 else PD (B.drop (k+1)) t:=by
 rw[xk a];rfl
end
section
open Go.Proofs.Tryz Go.RowKit
def kN(B:yx)(t:ByteArray):Bool:=!zO t||(PD B t).isSome
theorem DT{lo I:Nat}(w:World)(N M:Value)(B:yx)(t:ByteArray)(x:P7 lo w N (xh B))(v:P7 I w M (xH B))(hl:B.length<=1000)(P:0<t.size):
  Calls prog 211 #[.agg #[N,M],.string t] w fun e D=>e=.returned (.tuple #[.string (yd B t),.bool (kN B t)])/\Hid (Below w.heap.size w D):=by
 have d:Hid (∀W,Calls prog 154 #[.string t] W fun e D=>e=.returned (.bool (zO t))/\D=W):=fun W=>tn t W P;have K:(xh B).length=B.length:=by simp[xh]
 have y:(xH B).length=B.length:=by simp[xH]
 obtain⟨i,b,rfl⟩:=x.qx;obtain⟨h,a,rfl⟩:=v.qx;rw[K] at x ⊢;rw[y] at v ⊢;have r:Hid (∀W k (p:k<B.length),Below w.heap.size w W->∃g,i=some ⟨g,0,none⟩/\g<W.heap.size/\W.cell? ⟨g,k,none⟩=some (.string B[k].1)):=fun W k p E=>by
  obtain⟨g,F,J,z⟩:=(x.below E).cell k (by rw[K];exact p);exact⟨g,F,J,by rw[z];simp[xh]⟩
 have u:Hid (∀W k (p:k<B.length),Below w.heap.size w W->∃g,h=some ⟨g,0,none⟩/\g<W.heap.size/\W.cell? ⟨g,k,none⟩=some (.string B[k].2)):=fun W k p E=>by
  obtain⟨g,F,J,z⟩:=(v.below E).cell k (by rw[y];exact p);exact⟨g,F,J,by rw[z];simp[xH]⟩
 clear x v K y;cases n:zO t with
 |false=>
  rw[n] at d;have f:Hid (yd B t=t/\kN B t=true):=by unfold Hid yd kN;rw[n];simp
  clear n r u;go_enter func211,ntmps211;go_wp2_with (first|(go_at_call 154;refine(d.out _).mono ?_;rintro e X ⟨rfl,m⟩;obtain rfl:=m.symm))
  go_ret2
  exact⟨by rw[f.out.1,f.out.2];rfl,(zo _ _).alloc (zf _) _⟩
 |true=>
  rw[n] at d;have f:Hid (yd B t=(PD B t).getD ByteArray.empty/\kN B t=(PD B t).isSome):=by unfold Hid yd kN;rw[n];simp
  clear n;go_enter func211,ntmps211;go_wp2_with (first|(go_at_call 154;refine(d.out _).mono ?_;rintro e X ⟨rfl,m⟩;obtain rfl:=m.symm))
  have j:Hid (Below w.heap.size w (w.alloc (.cells #[.slice i B.length b,.slice h B.length a] 270))):=(zo _ _).alloc (zf _) _;have s:=Py.new w #[.slice i B.length b,.slice h B.length a] 270;obtain⟨Z,hf,S⟩:=s.boxed;clear s;generalize A:w.alloc (.cells #[.slice i B.length b,.slice h B.length a] 270)=R at *;clear A;go_loopw [7] (fun L wr=>∃k:Nat,k<=B.length/\L=.int .i64 k/\Hid (PD B t=PD (B.drop k) t)/\wr=R) (fun L _=>B.length-(intOf L).toNat)
  case atStart=>exact⟨0,zx _,rfl,rfl,rfl⟩
  case round=>
   obtain⟨k,p,rfl,H,G⟩:=hrel;obtain rfl:=G.symm;by_cases l:k<B.length
   ·have C:(k:Int)<(B.length:Int):=by omega
    obtain⟨g1,rfl,Q,c1⟩:=r.out _ k l j.out;obtain⟨g2,rfl,O,c2⟩:=u.out _ k l j.out;have q:=J4 l t;by_cases o:B[k].1=t
    ·have V:=kL o;rw[zb o] at q;have c:Hid (yd B t=B[k].2/\kN B t=true):=by rw[Hid,f.out.1,f.out.2,H.out,q];exact⟨rfl,rfl⟩
     clear o q H f;generalize B[k].1=T at *;generalize B[k].2=Y at *;go_wp2;go_ret2
     exact⟨by rw[c.out.1,c.out.2];rfl,j⟩
    ·have V:=jp o;rw[za o] at q;have U:Hid (PD B t=PD (B.drop (k+1)) t):=by rw[Hid,H.out,q]
     clear o q H;generalize B[k].1=T at *;go_wp2;go_roundw
     case rel=>exact⟨k+1,by omega,by go_num,U,trivial⟩
     case measure=>simp[intOf];omega
   ·have C:¬(k:Int)<(B.length:Int):=by omega
    have c:Hid (yd B t=ByteArray.empty/\kN B t=false):=by
     rw[Hid,f.out.1,f.out.2,H.out,ug (by omega)];exact⟨rfl,rfl⟩
    clear H f;go_wp2;go_ret2
    exact⟨by rw[c.out.1,c.out.2];rfl,j⟩
theorem G2{lo K T:Nat}(w:World)(i h av:Value)(B:yx)(args:List ByteArray)(h1:P7 lo w i (xh B))(h2:P7 K w h (xH B))(G:P7 T w av args)(hl:B.length<=1000)(ha:args.length<=1000)(I:∀a∈args,0<a.size):
  Calls prog 195 #[.agg #[i,h],av] w fun e b=>∃v,e=.returned v/\Hid (P7 w.heap.size b v (y9 B args))/\Hid (Below w.heap.size w b):=by
 obtain⟨i0,hi,D,M,X⟩:=info_parts Po;have N:=Px fun W t n J=>DT W i h B t (h1.below n) (h2.below n) hl J;obtain⟨ao,ag,rfl⟩:=G.qx;have HA:Hid (∀W k (R:k<args.length),Below w.heap.size w W->∃g,ao=some ⟨g,0,none⟩/\g<W.heap.size/\W.cell? ⟨g,k,none⟩=some (.string args[k])):=fun W k R n=>(G.below n).cell k R;clear h1 h2 G;go_enter func195,ntmps195;go_wp2;have z:Hid (Below w.heap.size w (w.alloc (.cells #[i,h] 270))):=(zo _ _).alloc (zf _) _;have l:=Py.new w #[i,h] 270;have Q:=Px l;have aa:=l.lt;clear l;generalize F:w.alloc (.cells #[i,h] 270)=A at *;clear F;go_loopw [5,6] (fun v5 V wr=>∃k:Nat,k<=args.length/\V=.int .i64 k/\wr.ownsRow A.heap.size 9 1 v5 k ((y9 B (args.take k)).map Value.string)/\Hid (Below A.heap.size A wr)) (fun _ V _=>args.length-(intOf V).toNat)
 case atStart=>exact⟨0,zx _,rfl,yI _ _ _ _,zo _ _⟩
 case round=>
  obtain⟨k,R,rfl,d,f⟩:=hrel;obtain⟨af,ad,rfl⟩:=zs d;have m:=Px (P3 z.out (f.out));have Y:=f.out.size;by_cases p:k<args.length
  ·have E:(k:Int)<(args.length:Int):=by omega
   obtain⟨g,rfl,hg,u⟩:=HA.out _ k p m.out;have J:=I _ (zv p);have c:=(Q.out.below f.out);obtain⟨hc,hf,Z⟩:=c.boxed;have H:Hid (y9 B (args.take (k+1))=y9 B (args.take k)++[yd B args[k]]):=by
    unfold Hid y9;rw[yP p,vC];rfl
   have HV:Hid (∀W,Below wr.heap.size wr W->Calls prog 211 #[.agg #[i,h],.string args[k]] W fun e b=>e=.returned (.tuple #[.string (yd B args[k]),.bool (kN B args[k])])/\Hid (Below wr.heap.size wr b)/\b.cell? ⟨g,k,none⟩=some (.string args[k])/\b.cell? ⟨w.heap.size,0,none⟩=some i/\b.cell? ⟨w.heap.size,1,none⟩=some h):=fun W n=>by
    refine(N.out W args[k] (P3 m.out n) J).mono ?_;rintro e b ⟨q1,q2⟩;have o:=P3 n q2.out;have s:=c.below o;exact⟨q1,o,(zm o hg u),by rw[s.rules.1];rfl,by rw[s.rules.1];rfl⟩
   clear c;generalize yd B args[k]=x at *;generalize kN B args[k]=kn at *;generalize args[k]=y at *;go_upto_region 5 with fail
   go_cut [7,8] from 15 to 23 (fun s7 _ wx=>s7=.string x/\Hid (Below wr.heap.size wr wx))
   case first=>
    go_region_held3 (fun b=>b.cell? ⟨g,k,none⟩=some (.string y)/\b.cell? ⟨w.heap.size,0,none⟩=some i/\b.cell? ⟨w.heap.size,1,none⟩=some h) (first|go_keep|(go_simp;done)) (first|(go_at_call 211;refine(HV.out _ (by exact(by repeat'(first|with_reducible(first|apply zR|assumption|apply zN|apply zA|apply zD|apply zS)|go_size)))).mono ?_;rintro e w5 ⟨rfl,L,z0,z1,z2⟩))
    go_wp2;go_meet
    case rel=>exact⟨rfl,L⟩
   case rest=>
    obtain⟨rfl,r⟩:=hcut;have P:=zC d r.out;have ac:=r.out.size;have j:=Px (P3 f.out r.out);clear hc hf u;go_wp2_with (first|(at_builtin;refine jS wc _ _ _ rfl (.tmp 24) (.tmp 26) 30 rfl A.heap.size 9 i0 _ 1 16 underlying30 hi D M X rfl (by decide) _ _ _ rfl P (zo _ _) _ _ rfl (by simp) rfl (by simp[Value.oneCell']) (by omega) (by omega) j.out.size ?_;intro v' w2 C S O U ae ab;clear O U))
    go_roundw
    case rel=>exact⟨k+1,by omega,by go_num,by rw[H.out];simpa using C,j.out.trans S⟩
    case measure=>simp[intOf];omega
  ·have E:¬(k:Int)<(args.length:Int):=by omega
   obtain rfl:k=args.length:=by omega
   go_wp2;go_ret;refine⟨_,rfl,?_,m⟩;have q:=d;rw[vf] at q;have e:(y9 B args).length=args.length:=by simp[y9]
   unfold Hid P7;rw[e];exact yq q (by have:=z.out.size;omega)
section
variable {ops:Array Oper} {rest:List Oper} {o:Oper} {a:Act} {Q:Exit->Act->World->Prop}
theorem ER{lo:Nat}{w:World}(c:o.guard=none)(s x:Operand)
  (C:o.op=.call {callee:=.builtin .append,args:=#[s,x],argTypes:=#[30,30]})
  (b:List ByteArray) (v:Value) (E:a.eval s=.slice none 0 0) (z:a.eval x=v) (I:P7 lo w v b) (P:b.length<=1000000)
  (h:∀t l,P7 w.heap.size l t b->Below w.heap.size w l->wpList prog ops Q rest (a.put o.dst t) l):
  wpList prog ops Q (o::rest) a w:=by
 obtain⟨D,A,i,p,y⟩:=info_parts Po;obtain⟨_,⟨g,M⟩|⟨B,d,F,g,N,G,K,J,H,r⟩⟩:=I
 ·have q:b=[]:=rf M;refine wpList_append_own_none c s x 30 C w.heap.size 9 D 1 underlying30 A _ 0 [] E (yI _ _ _ _) (by rw[z,g]) ?_;refine h _ _ ?_ (zo _ _);rw[q];exact yI _ _ _ _
 ·have n:∀j u,(b.map Value.string)[j]?=some u->w.cell? (Addr.add ⟨B,0,none⟩ j)=some u:=fun j u e=>by
   rw[Addr.add_lit,vF];unfold World.cell?;rw[G];simp only;rw[←r,l9] at e;split at e
   ·simpa using e
   ·simp at e
  refine wpList_append_own _ c s x 30 C w.heap.size 9 D _ 1 16 underlying30 A i p y rfl (by decide) _ 0 [] E (yI _ _ _ _) ⟨B,0,none⟩ b.length d (b.map Value.string) (by rw[z,g]) (by simp) n (by simp[Value.oneCell']) (by unfold maxLen;omega) (by omega) (zf _) ?_;intro t O f m _;refine h _ _ ?_ ((zo _ _).grown m (zf _) (fun k L=>by cases L));simpa [P7] using f
end
theorem wJ{w:World}{b:Nat}{c:Array Value}{T:TypeId}(h:Py w b c T)(o:Obj):Py (w.alloc o) b c T:=h.below ((zo _ _).alloc (zf _) o)
theorem oe(B:yx):(xh B).length=B.length:=by simp[xh]
theorem il(B:yx):(xH B).length=B.length:=by simp[xH]
theorem IZ{B:yx}{args row:List ByteArray}{k:Nat}(c:k<args.length)(b:k<row.length):xj B (args.drop k) (row.drop k)=if yd B args[k]=ByteArray.empty then xj (B++[(args[k],row[k])]) (args.drop (k+1)) (row.drop (k+1)) else if yd B args[k]=row[k] then xj B (args.drop (k+1)) (row.drop (k+1)) else none:=by
 rw[xk c,xk b];rfl
end
section
open Go.Proofs.Tryz Go.RowKit
variable {B:yx}{lo:Nat}
theorem Hp{t:ByteArray}(c:vN B)(a:0<t.size):kN B t=true↔yd B t≠ByteArray.empty:=by
 unfold kN yd;cases zO t with
 |false=>
  simp only[Bool.not_false,Bool.true_or,true_iff,gx,if_false];rintro rfl;exact zB a (by decide)
 |true=>
  simp only[mj,mX,if_true];cases b:PD B t with
  |none=>simp
  |some x=>simp[c t x b]
theorem Lu{y z:ByteArray}(c:vN B)(b:z≠ByteArray.empty):vN (B++[(y,z)]):=by
 intro v x h;rw[pD] at h;cases a:PD B v with
 |some u=>
  rw[a] at h;simp only[Option.some_or,zr] at h;rw[←h];exact c v u a
 |none=>
  rw[a] at h;simp only[Option.none_or,PD] at h;split at h
  ·cases h;exact b
  ·cases h
structure CR (lo:Nat) (w:World) (cb:Nat) (B:yx) (v1 v2:Value):Prop where
 box:Py w cb #[v1,v2] 270
 fst:w.ownsRow lo 9 1 v1 B.length ((xh B).map Value.string)
 snd:w.ownsRow lo 9 1 v2 B.length ((xH B).map Value.string)
 ne:∀b,v1.ownBlock=some b->v2.ownBlock≠some b
theorem CR.sf{w:World}{c:Nat}{a b:Value}(h:CR lo w c B a b):P7 lo w a (xh B):=by unfold P7;rw[oe];exact h.fst
theorem CR.ss{w:World}{c:Nat}{b a:Value}(h:CR lo w c B b a):P7 lo w a (xH B):=by unfold P7;rw[il];exact h.snd
theorem CR.below{lo:Nat}{w e:World}{b:Nat}{B:yx}{d c:Value}(h:CR lo w b B d c)(a:Below w.heap.size w e):CR lo e b B d c:=⟨h.box.below a,zC h.fst a,zC h.snd a,h.ne⟩
theorem MK{aJ bg bs:Nat}(w:World)(vv Y av rv:Value)(B:yx)(args row:List ByteArray)(h1:P7 lo w vv (xh B))(h2:P7 aJ w Y (xH B))(h3:P7 bg w av args)(h4:P7 bs w rv row)(hl:B.length<=100)(ha:args.length<=100)(hr:row.length=args.length)(aS:∀a∈args,0<a.size)(hF:vN B)(aI:∀x∈row,x≠ByteArray.empty):
  Calls prog 196 #[.agg #[vv,Y],av,rv] w fun e R=>∃(n1 c1:Nat) (o1:Option Addr) (n2 c2:Nat) (o2:Option Addr),e=.returned (.tuple #[.agg #[.slice o1 n1 c1,.slice o2 n2 c2],.bool (xj B args row).isSome])/\Hid (∀B',xj B args row=some B'->P7 w.heap.size R (.slice o1 n1 c1) (xh B')/\P7 w.heap.size R (.slice o2 n2 c2) (xH B')/\B'.length<=B.length+args.length)/\Hid (Below w.heap.size w R):=by
 obtain⟨i0,hi,aN,aK,aF⟩:=info_parts Po;have aW:Hid (∀W,Below w.heap.size w W->P7 lo W vv (xh B)/\P7 aJ W Y (xH B)):=fun W i=>⟨h1.below i,h2.below i⟩;obtain⟨ao,bv,rfl⟩:=h3.qx;obtain⟨bp,bt,rfl⟩:=h4.qx;have HA:Hid (∀W k (hk:k<args.length),Below w.heap.size w W->∃g,ao=some ⟨g,0,none⟩/\g<W.heap.size/\W.cell? ⟨g,k,none⟩=some (.string args[k])):=fun W k hk i=>(h3.below i).cell k hk;have HR:Hid (∀W k (hk:k<row.length),Below w.heap.size w W->∃g,bp=some ⟨g,0,none⟩/\g<W.heap.size/\W.cell? ⟨g,k,none⟩=some (.string row[k])):=fun W k hk i=>(h4.below i).cell k hk;have e1:(xh B).length<=1000000:=by simp[xh];omega
 have e2:(xH B).length<=1000000:=by simp[xH];omega
 clear h1 h2 h3 h4;go_enter func196,ntmps196;go_upto_region 2 with fail
 have a4:Hid (Below w.heap.size w (((w.alloc (.cells #[vv,Y] 270)).alloc (.cells #[.slice none 0 0,.slice none 0 0] 270)).alloc (.cells #[.slice none 0 0,.slice none 0 0] 270))):=(zQ.alloc (by simp) _).alloc (by simp;omega) _;have aq:=wJ (wJ (Py.new w #[vv,Y] 270) (.cells #[.slice none 0 0,.slice none 0 0] 270)) (.cells #[.slice none 0 0,.slice none 0 0] 270);have aP:=wJ (Py.newAt (w.alloc (.cells #[vv,Y] 270)) (w.heap.size+1) #[.slice none 0 0,.slice none 0 0] 270 (by simp)) (.cells #[.slice none 0 0,.slice none 0 0] 270);have a3:=Py.newAt ((w.alloc (.cells #[vv,Y] 270)).alloc (.cells #[.slice none 0 0,.slice none 0 0] 270)) (w.heap.size+1+1) #[.slice none 0 0,.slice none 0 0] 270 (by simp);have bo:(((w.alloc (.cells #[vv,Y] 270)).alloc (.cells #[.slice none 0 0,.slice none 0 0] 270)).alloc (.cells #[.slice none 0 0,.slice none 0 0] 270)).heap.size=w.heap.size+1+1+1:=by simp
 generalize bk:((w.alloc (.cells #[vv,Y] 270)).alloc (.cells #[.slice none 0 0,.slice none 0 0] 270)).alloc (.cells #[.slice none 0 0,.slice none 0 0] 270)=wA at *;clear bk;obtain⟨c0,f0⟩:=aq.rules;obtain⟨c2,f2⟩:=a3.rules;go_upto_region 3 with (first|(at_builtin;refine ER rfl (.tmp 14) (.tmp 16) rfl (xh B) vv rfl rfl (aW.out _ a4.out).1 e1 ?_;intro v1 w1 am U;have N:=a3.below U;obtain⟨d2,g2,aa⟩:=N.boxed;have bn:=U.size;obtain⟨C,n,rfl⟩:=am.qx))
 have a8:=aq.lt;have az:Hid (Py (w1.setCell ⟨w.heap.size+1+1,0,none⟩ (.slice C (xh B).length n)) w.heap.size #[vv,Y] 270):=(aq.below U).set_ne (by omega) 0 _;have aM:Hid (Py (w1.setCell ⟨w.heap.size+1+1,0,none⟩ (.slice C (xh B).length n)) (w.heap.size+1) #[.slice none 0 0,.slice none 0 0] 270):=(aP.below U).set_ne (by omega) 0 _;have ah:Hid (Py (w1.setCell ⟨w.heap.size+1+1,0,none⟩ (.slice C (xh B).length n)) (w.heap.size+1+1) #[.slice C (xh B).length n,.slice none 0 0] 270):=N.set 0 _;have a0:Hid (Below w.heap.size w (w1.setCell ⟨w.heap.size+1+1,0,none⟩ (.slice C (xh B).length n))):=(zP a4.out U (by omega)).setCell (p:=⟨w.heap.size+1+1,0,none⟩) (by show w.heap.size<=w.heap.size+1+1;omega) _;have ai:Hid (P7 wA.heap.size (w1.setCell ⟨w.heap.size+1+1,0,none⟩ (.slice C (xh B).length n)) (.slice C (xh B).length n) (xh B)):=yH am (zd.set w1 (w.heap.size+1+1) 0 (.slice C (xh B).length n)) (fun b i E=>by have:=xb am i;simp at E;omega);have bm:w1.heap.size<=(w1.setCell ⟨w.heap.size+1+1,0,none⟩ (.slice C (xh B).length n)).heap.size:=by simp[World.setCell]
 clear c0 f0 c2 f2 d2 g2 aa N aq aP a3 U am a8;generalize w1.setCell ⟨w.heap.size+1+1,0,none⟩ (.slice C (xh B).length n)=wB at *;obtain⟨c0,f0⟩:=az.out.rules;obtain⟨c2,f2⟩:=ah.out.rules;have a8:=az.out.lt;have aa:=ah.out.lt;go_upto_region 4 with (first|(at_builtin;refine ER rfl (.tmp 20) (.tmp 22) rfl (xH B) Y rfl rfl (aW.out _ a0.out).2 e2 ?_;intro v2 F s Q;have N:=ah.out.below Q;obtain⟨d2,g2,bh⟩:=N.boxed;have ba:=Q.size;obtain⟨K,A,rfl⟩:=s.qx))
 have hL:∀b,w.heap.size+1+1≠b->True:=fun _ _=>trivial;have HC:Hid (CR w.heap.size (F.setCell ⟨w.heap.size+1+1,1,none⟩ (.slice K (xH B).length A)) (w.heap.size+1+1) B (.slice C (xh B).length n) (.slice K (xH B).length A)):=⟨N.set 1 _,by rw[←oe B];exact yH (yq (zC ai.out Q) (by omega)) (zd.set F (w.heap.size+1+1) 1 (.slice K (xH B).length A)) (fun b i E=>by have:=xb ai.out i;simp at E;omega),by rw[←il B];exact yH (yq s (by omega)) (zd.set F (w.heap.size+1+1) 1 (.slice K (xH B).length A)) (fun b i E=>by have:=xb s i;simp at E;omega),fun b i E=>by have:=yU ai.out i;have:=xb s E;omega⟩;have aO:Hid (Py (F.setCell ⟨w.heap.size+1+1,1,none⟩ (.slice K (xH B).length A)) (w.heap.size+1) #[.slice none 0 0,.slice none 0 0] 270):=(aM.out.below Q).set_ne (by omega) 1 _;have aE:Hid (Below w.heap.size w (F.setCell ⟨w.heap.size+1+1,1,none⟩ (.slice K (xH B).length A))):=(zP a0.out Q (by omega)).setCell (p:=⟨w.heap.size+1+1,1,none⟩) (by show w.heap.size<=w.heap.size+1+1;omega) _;clear c0 f0 c2 f2 d2 g2 a8 aa bh N Q s ai az aM ah a0 hL bm bn ba bo a4;generalize F.setCell ⟨w.heap.size+1+1,1,none⟩ (.slice K (xH B).length A)=wC at *;clear w1 F wA wB;rw[oe,il] at HC;go_wp2;go_loopw [9] (fun v9 wr=>∃(k:Nat) (c:yx) (t:Option Addr) (j:Nat) (m:Option Addr) (d:Nat),k<=args.length/\v9=.int .i64 k/\Hid (CR w.heap.size wr (w.heap.size+1+1) c (.slice t c.length j) (.slice m c.length d))/\Hid (xj B args row=xj c (args.drop k) (row.drop k))/\c.length<=B.length+k/\Hid (vN c)/\Hid (Py wr (w.heap.size+1) #[.slice none 0 0,.slice none 0 0] 270)/\Hid (Below w.heap.size w wr)) (fun v9 _=>args.length-(intOf v9).toNat)
 case atStart=>exact⟨0,B,C,n,K,A,zx _,rfl,HC,rfl,zf _,hF,aO,aE⟩
 case round=>
  clear HC aO aE e1 e2;obtain⟨k,c,t,j,m,d,hk,rfl,HC,HW,bw,a6,HZ,S⟩:=hrel;have bx:=S.out.size;have al:=HC.out.box;obtain⟨hc,hf,ar⟩:=al.boxed;obtain⟨ag,X,ad⟩:=HZ.out.boxed;by_cases aA:k<args.length
  ·have aY:(k:Int)<(args.length:Int):=by omega
   have ap:k<row.length:=by omega
   obtain⟨g,rfl,hg,aB⟩:=HA.out _ k aA S.out;obtain⟨gr,rfl,aC,aQ⟩:=HR.out _ k ap S.out;have ht:=aS _ (zv aA);have aU:=IZ (B:=c) aA ap;have HV:Hid (∀W,Below wr.heap.size wr W->Calls prog 211 #[.agg #[.slice t c.length j,.slice m c.length d],.string args[k]] W fun e R=>e=.returned (.tuple #[.string (yd c args[k]),.bool (kN c args[k])])/\Hid (Below wr.heap.size wr R)/\R.cell? ⟨g,k,none⟩=some (.string args[k])/\R.cell? ⟨w.heap.size+1+1,0,none⟩=some (.slice t c.length j)/\R.cell? ⟨w.heap.size+1+1,1,none⟩=some (.slice m c.length d)):=fun W i=>by
    refine(DT W _ _ c args[k] (HC.out.sf.below i) (HC.out.ss.below i) (by omega) ht).mono ?_;rintro e R ⟨q1,q2⟩;have a9:=P3 i q2.out;have aT:=al.below a9;exact⟨q1,a9,(zm a9 hg aB),by rw[aT.rules.1];rfl,by rw[aT.rules.1];rfl⟩
   have aG:Hid (∀W,Below wr.heap.size wr W->W.cell? ⟨g,k,none⟩=some (.string args[k])/\g<W.heap.size/\W.cell? ⟨gr,k,none⟩=some (.string row[k])/\gr<W.heap.size):=fun W i=>⟨(zm i hg aB),xG hg i.size,(zm i aC aQ),xG aC i.size⟩;have bf:Hid (∀W,Below w.heap.size w W->W.cell? ⟨gr,k,none⟩=some (.string row[k])/\gr<W.heap.size):=fun W i=>by
    obtain⟨g',e,q1,q2⟩:=HR.out W k ap i;cases e;exact⟨q2,q1⟩
   have HD:=Px (HW.out.trans aU);have aR:=Px (Hp a6.out ht);have aX:=Px (aI _ (zv ap));clear aU HW ht aS al aI hF;generalize kN c args[k]=kn at *;generalize yd c args[k]=x at *;generalize args[k]=y at *;generalize row[k]=z at *;go_upto_region 7 with fail
   go_cut [10,11] from 31 to 39 (fun a5 ax wx=>a5=.string x/\ax=.bool kn/\Hid (Below wr.heap.size wr wx))
   case first=>
    go_region_held3 (fun R=>R.cell? ⟨g,k,none⟩=some (.string y)/\R.cell? ⟨w.heap.size+1+1,0,none⟩=some (.slice t c.length j)/\R.cell? ⟨w.heap.size+1+1,1,none⟩=some (.slice m c.length d)) (first|go_keep|(go_simp;done)) (first|(go_at_call 211;refine(HV.out _ (by exact(by repeat'(first|with_reducible(first|apply zR|assumption|apply zN|apply zA|apply zD|apply zS)|go_size)))).mono ?_;rintro e w5 ⟨rfl,bb,z0,z1,z2⟩))
    go_wp2;go_meet
    case rel=>exact⟨rfl,rfl,bb⟩
   case rest=>
    obtain⟨rfl,rfl,T⟩:=hcut;have bu:=T.out.size;obtain⟨aw,be,ab,au⟩:=aG.out _ T.out;have P:=Px (HZ.out.below T.out);have O:=Px (zP S.out T.out (by omega));have J:=Px (HC.out.below T.out);clear hc hf aB aQ ar ag X ad HV aG HC HZ S T;obtain⟨hc,hf,ar⟩:=J.out.box.boxed;obtain⟨ag,X,ad⟩:=P.out.boxed;by_cases hx:x=ByteArray.empty
    ·obtain rfl:kn=false:=by
      cases kn with
      |false=>rfl
      |true=>exact zB hx (aR.out.1 rfl)
     have bi:Hid (vN (c++[(y,z)])):=Lu a6.out aX.out;have G:Hid (xj B args row=xj (c++[(y,z)]) (args.drop (k+1)) (row.drop (k+1))):=by rw[Hid,HD.out,zb hx]
     have D:=J.out.fst;have r:=J.out.snd;clear HD hx;go_upto_region 11 with fail
     go_cut [10,11] from 52 to 60 (fun a5 ax wx=>∃o f,a5=.string x/\ax=.bool false/\Hid (Py wx (w.heap.size+1+1) #[.slice o (c.length+1) f,.slice m c.length d] 270)/\Hid (wx.ownsRow w.heap.size 9 1 (.slice o (c.length+1) f) (c.length+1) ((xh c).map Value.string++[.string y]))/\Hid (wx.ownsRow w.heap.size 9 1 (.slice m c.length d) c.length ((xH c).map Value.string))/\Hid (∀b,(Value.slice o (c.length+1) f).ownBlock=some b->(Value.slice m c.length d).ownBlock≠some b)/\Hid (Py wx (w.heap.size+1) #[.slice none 0 0,.slice none 0 0] 270)/\Hid (Below w.heap.size w wx))
     case first=>
      go_region_law (first|(refine dU wc _ [.string y] 9 rfl (.tmp 53) (.tmp 58) 30 rfl w.heap.size 9 i0 _ 1 16 underlying30 hi aN aK aF rfl (by decide) (.slice t c.length j) c.length ((xh c).map Value.string) (by simp[Act.eval]) D (by exact(by repeat'(first|with_reducible(first|apply zR|assumption|apply zN|apply zA|apply zD|apply zS)|go_size))) wc.heap.size 1 (by simp[Act.eval]) (by exact Py.drew (Py.new _ _ _)) rfl (by simp[Value.oneCell']) (by omega) (by omega) (by omega) ?_;intro v' F L s V br aD;obtain⟨o,f,rfl⟩:=zs L;have I:=J.out.box.save s (qH D J.out.box (by decide));obtain⟨aV,aL,aa⟩:=I.boxed))
      all_goals
       have Z:=yH r s (fun b i E=>J.out.ne b (yw E) i);have a7:=P.out.save s (qH D P.out (by decide));have ay:=s.below (B:=w.heap.size) (fun b i=>xb D (yw i)) (by omega);have ac:∀b,(Value.slice o (c.length+1) f).ownBlock=some b->(Value.slice m c.length d).ownBlock≠some b:=fun b i hq=>by
        rcases V with q|⟨g9,q,q2⟩
        ·exact J.out.ne b (q ▸ i) hq
        ·rw[i] at q;cases q;have:=yU r hq;omega
       have af:Hid (Py (F.setCell ⟨w.heap.size+1+1,0,none⟩ (.slice o (c.length+1) f)) (w.heap.size+1+1) #[.slice o (c.length+1) f,.slice m c.length d] 270):=I.set 0 _;have ak:Hid ((F.setCell ⟨w.heap.size+1+1,0,none⟩ (.slice o (c.length+1) f)).ownsRow w.heap.size 9 1 (.slice o (c.length+1) f) (c.length+1) ((xh c).map Value.string++[.string y])):=yH L (zd.set _ _ _ _) (fun b i E=>xM L I (by decide) i (by simpa using E));have a2:Hid ((F.setCell ⟨w.heap.size+1+1,0,none⟩ (.slice o (c.length+1) f)).ownsRow w.heap.size 9 1 (.slice m c.length d) c.length ((xH c).map Value.string)):=yH Z (zd.set _ _ _ _) (fun b i E=>xM Z I (by decide) i (by simpa using E));have an:Hid (Py (F.setCell ⟨w.heap.size+1+1,0,none⟩ (.slice o (c.length+1) f)) (w.heap.size+1) #[.slice none 0 0,.slice none 0 0] 270):=a7.set_ne (by omega) 0 _;have aj:Hid (Below w.heap.size w (F.setCell ⟨w.heap.size+1+1,0,none⟩ (.slice o (c.length+1) f))):=(O.out.trans ay).setCell (p:=⟨w.heap.size+1+1,0,none⟩) (by show w.heap.size<=w.heap.size+1+1;omega) _;go_wp2;go_meet
       case rel=>exact⟨o,f,rfl,rfl,af,ak,a2,ac,an,aj⟩
     case rest=>
      obtain⟨o,f,rfl,rfl,af,ak,a2,aH,an,aj⟩:=hcut;clear hc hf ag X ar ad aw ab P O J D r be au;obtain⟨ab,au⟩:=bf.out _ aj.out;obtain⟨hc,hf,ar⟩:=af.out.boxed;have r:=a2.out;go_upto_region 12 with fail
      go_region_law (first|(refine dU wc _ [.string z] 9 rfl (.tmp 62) (.tmp 67) 30 rfl w.heap.size 9 i0 _ 1 16 underlying30 hi aN aK aF rfl (by decide) (.slice m c.length d) c.length ((xH c).map Value.string) (by simp[Act.eval]) r (by exact(by repeat'(first|with_reducible(first|apply zR|assumption|apply zN|apply zA|apply zD|apply zS)|go_size))) wc.heap.size 1 (by simp[Act.eval]) (by exact Py.drew (Py.new _ _ _)) rfl (by simp[Value.oneCell']) (by omega) (by omega) (by omega) ?_;intro v' F L s V br aD;obtain⟨H,u,rfl⟩:=zs L;have I:=af.out.save s (qH r af.out (by decide));obtain⟨aV,aL,aa⟩:=I.boxed))
      all_goals
       have Z:=yH ak.out s (fun b i E=>aH.out b i (yw E));have a7:=an.out.save s (qH r an.out (by decide));have ay:=s.below (B:=w.heap.size) (fun b i=>xb r (yw i)) (by omega);have ac:∀b,(Value.slice o (c.length+1) f).ownBlock=some b->(Value.slice H (c.length+1) u).ownBlock≠some b:=fun b i hq=>by
        rcases V with q|⟨g9,q,q2⟩
        ·exact aH.out b i (q ▸ hq)
        ·rw[hq] at q;cases q;have:=yU ak.out i;omega
       have bq:Hid (CR w.heap.size (F.setCell ⟨w.heap.size+1+1,1,none⟩ (.slice H (c.length+1) u)) (w.heap.size+1+1) (c++[(y,z)]) (.slice o (c.length+1) f) (.slice H (c.length+1) u)):=by
        refine⟨I.set 1 _,?_,?_,ac⟩
        ·have q:=yH Z (zd.set F (w.heap.size+1+1) 1 (.slice H (c.length+1) u)) (fun b i E=>xM Z I (by decide) i (by simpa using E));rw[yv];simpa [xh] using q
        ·have q:=yH L (zd.set F (w.heap.size+1+1) 1 (.slice H (c.length+1) u)) (fun b i E=>xM L I (by decide) i (by simpa using E));rw[yv];simpa [xH] using q
       have aZ:Hid (Py (F.setCell ⟨w.heap.size+1+1,1,none⟩ (.slice H (c.length+1) u)) (w.heap.size+1) #[.slice none 0 0,.slice none 0 0] 270):=a7.set_ne (by omega) 1 _;have bd:Hid (Below w.heap.size w (F.setCell ⟨w.heap.size+1+1,1,none⟩ (.slice H (c.length+1) u))):=(aj.out.trans ay).setCell (p:=⟨w.heap.size+1+1,1,none⟩) (by show w.heap.size<=w.heap.size+1+1;omega) _;clear aV aL;generalize F.setCell ⟨w.heap.size+1+1,1,none⟩ (.slice H (c.length+1) u)=wN at *;go_wp2;go_roundw
       case rel=>exact⟨k+1,c++[(y,z)],o,f,H,u,by omega,by go_num,by rw[yv];exact bq,G,by simp;omega,bi,aZ,bd⟩
       case measure=>simp[intOf];omega
    ·obtain rfl:kn=true:=aR.out.2 hx;by_cases hy:x=z
     ·have bc:=kL hy;have G:Hid (xj B args row=xj c (args.drop (k+1)) (row.drop (k+1))):=by rw[Hid,HD.out,za hx,zb hy]
      clear HD hx hy;go_wp2;go_roundw
      case rel=>exact⟨k+1,c,t,j,m,d,by omega,by go_num,J,G,by omega,a6,P,O⟩
      case measure=>simp[intOf];omega
     ·have bc:=jp hy;have G:Hid (xj B args row=none):=by rw[Hid,HD.out,za hx,za hy]
      clear HD hx hy;go_wp2;have a1:Hid (Below w.heap.size w ((wc.setCell ⟨w.heap.size+1,0,none⟩ (.slice t c.length j)).setCell ⟨w.heap.size+1,1,none⟩ (.slice m c.length d))):=(O.out.setCell (p:=⟨w.heap.size+1,0,none⟩) (by show w.heap.size<=w.heap.size+1;omega) _).setCell (p:=⟨w.heap.size+1,1,none⟩) (by show w.heap.size<=w.heap.size+1;omega) _;have M:=(P.out.set 0 (.slice t c.length j)).set 1 (.slice m c.length d);have n0:=M.rules.1 0;have n1:=M.rules.1 1;clear hc hf ag X aw ab M;generalize (wc.setCell ⟨w.heap.size+1,0,none⟩ (.slice t c.length j)).setCell ⟨w.heap.size+1,1,none⟩ (.slice m c.length d)=wN at *
      (try simp only[Exit.inBlock,Exit.then])
      refine zK (by simp[results,results196,go_sem,n0,n1];try rfl) rfl ?_;refine⟨_,_,_,_,_,_,by rw[G.out];rfl,fun B' ae=>(by rw[G.out] at ae;cases ae),?_⟩;exact a1
  ·have aY:¬(k:Int)<(args.length:Int):=by omega
   have G:Hid (xj B args row=some c):=by
    rw[Hid,HW.out,ug (by omega)];rfl
   clear HW;go_wp2;have a1:Hid (Below w.heap.size w ((wr.setCell ⟨w.heap.size+1,0,none⟩ (.slice t c.length j)).setCell ⟨w.heap.size+1,1,none⟩ (.slice m c.length d))):=(S.out.setCell (p:=⟨w.heap.size+1,0,none⟩) (by show w.heap.size<=w.heap.size+1;omega) _).setCell (p:=⟨w.heap.size+1,1,none⟩) (by show w.heap.size<=w.heap.size+1;omega) _;have q:∀{v:Value} {l:List ByteArray} (h:P7 w.heap.size wr v l),P7 w.heap.size ((wr.setCell ⟨w.heap.size+1,0,none⟩ (.slice t c.length j)).setCell ⟨w.heap.size+1,1,none⟩ (.slice m c.length d)) v l:=fun h=>yH h ((zd.set wr (w.heap.size+1) 0 _).trans (zd.set _ (w.heap.size+1) 1 _)) (fun b i E=>xM h HZ.out (by decide) i (by simpa using E));have q1:=q HC.out.sf;have q2:=q HC.out.ss;have M:=(HZ.out.set 0 (.slice t c.length j)).set 1 (.slice m c.length d);have n0:=M.rules.1 0;have n1:=M.rules.1 1;clear hc hf ag X M q al;generalize (wr.setCell ⟨w.heap.size+1,0,none⟩ (.slice t c.length j)).setCell ⟨w.heap.size+1,1,none⟩ (.slice m c.length d)=wN at *
   (try simp only[Exit.inBlock,Exit.then])
   refine zK (by simp[results,results196,go_sem,n0,n1];try rfl) rfl ?_;refine⟨_,_,_,_,_,_,by rw[G.out];rfl,fun B' ae=>?_,?_⟩
   ·rw[G.out] at ae;cases ae;exact⟨q1,q2,by omega⟩
   ·exact a1
end
section
open Classical
def ye(fs:List zE)(h:zj)(body:List zj):List zj->yx->List (List ByteArray)
 |[],B=>if (body.any fun l=>l.neg&&(yK l.pred (y9 B l.args) fs).isSome)=true then [] else [y9 B h.args]
 |l::rest,B=>if l.neg=true then ye fs h body rest B else fs.flatMap fun f=>if f.1=l.pred then(match xj B l.args f.2.1 with|none=>[]|some a=>ye fs h body rest a) else []
structure pG (cs:List zc) (fs:List zE):Prop where
 jh:∀f∈fs,∀c∈cs,∀l∈zl c,l.pred=f.1->f.2.1.length=l.args.length
 ne:∀f∈fs,∀x∈f.2.1,x≠ByteArray.empty
def nW(fs:List zE)(c:zc)(x:List ByteArray):Prop:=∃σ:ByteArray->ByteArray,(∀a,σ a≠ByteArray.empty)/\(∀l∈c.body,l.neg=false->∃m,(l.pred,PV σ l,m)∈fs)/\(∀l∈c.body,l.neg=true->∀m,(l.pred,PV σ l,m)∉fs)/\x=PV σ c.head
theorem nD{fs:List zE}{p:ByteArray}{r:List ByteArray}:(yK p r fs).isSome=true↔∃m,(p,r,m)∈fs:=by
 cases a:yK p r fs with
 |none=>exact⟨fun q=>(by cases q),fun⟨m,c⟩=>zB c (oH a m)⟩
 |some k=>
  obtain⟨d,e,b⟩:=D3 a;exact⟨fun _=>⟨fs[k].2.2,by rw[←e,←b];exact zv d⟩,fun _=>rfl⟩
theorem wO{cs:List zc}{fs:List zE}(t:pG cs fs){c:zc}(C:c∈cs)(n:∀l∈zl c,∀a∈l.args,a≠ByteArray.empty)(h:∀l∈zl c,∀y∈l.args,zO y=true->y∈z7 c){x:List ByteArray}:∀(rest done:List zj) (B:yx),c.body=done++rest->vN B->(∀l∈done,l.neg=false->(∃m,(l.pred,y9 B l.args,m)∈fs)/\∀a∈l.args,yd B a≠ByteArray.empty)->x∈ye fs c.head c.body rest B->nW fs c x
 |[],done,B,e,A,w,d=>by
  rw[qE] at e;unfold ye at d;split at d
  ·cases d
  ·rename_i D;rw[xO] at d;have b:∀l∈zl c,y9 B l.args=PV (fun v=>if (PD B v).getD ByteArray.empty=ByteArray.empty then⟨#[0]⟩ else(PD B v).getD ByteArray.empty) l:=by
    intro l p;refine ks fun a k=>?_;unfold yd;split
    ·rename_i G;obtain⟨_,o,i,f,z⟩:=gI.1 (h l p a k G);have:=(w o (by rw[←e];exact i) f).2 a z;unfold yd at this;rw[zb G] at this;exact(za this).symm
    ·rfl
   refine⟨_,fun a=>?_,fun l p u=>?_,fun l p u m H=>D ?_,d.trans (b _ (by simp[zl]))⟩
   ·split
    ·decide
    ·assumption
   ·rw[←b l (by simp[zl,p])];exact(w l (by rw[←e];exact p) u).1
   ·rw[←b l (by simp[zl,p])] at H;rw[kT];exact⟨l,p,by rw[u,me];exact nD.2 ⟨m,H⟩⟩
 |l::rest,done,B,e,A,w,d=>by
  have F:c.body=(done++[l])++rest:=by rw[e];simp
  have r:l∈zl c:=by simp[zl,e]
  unfold ye at d;split at d
  ·rename_i u;refine wO t C n h rest (done++[l]) B F A (fun o i f=>?_) d;rcases zX.1 i with q|q
   ·exact w o q f
   ·rw[xO.1 q,u] at f;cases f
  ·obtain⟨g,j,d⟩:=uF.1 d;split at d
   ·rename_i K;split at d
    ·cases d
    ·rename_i s M;obtain⟨L,J,I⟩:=nG l.args g.2.1 B s (t.jh g j c C l r K.symm).symm (t.ne g j) (n l r) A M;refine wO t C n h rest (done++[l]) s F L (fun o i f=>?_) d;rcases zX.1 i with q|q
     ·obtain⟨⟨m,N⟩,E⟩:=w o q f;have b:y9 s o.args=y9 B o.args:=ks fun a k=>mV J (E a k);exact⟨⟨m,by rw[b];exact N⟩,fun a k=>by rw[mV J (E a k)];exact E a k⟩
     ·rw[xO.1 q];refine⟨⟨g.2.2,by rw[I,←K];exact j⟩,fun a k=>?_⟩;have:yd s a∈y9 s l.args:=z9.2 ⟨a,k,rfl⟩;rw[I] at this;exact t.ne g j _ this
   ·cases d
theorem wu{fs:List zE}{c:zc}(d:∀l∈zl c,∀a∈l.args,a≠ByteArray.empty)(g:∀l∈zl c,∀y∈l.args,zO y=true->y∈z7 c){σ:ByteArray->ByteArray}(k:∀a,σ a≠ByteArray.empty)(f:∀l∈c.body,l.neg=false->∃m,(l.pred,PV σ l,m)∈fs)(h:∀l∈c.body,l.neg=true->∀m,(l.pred,PV σ l,m)∉fs):∀(rest done:List zj) (B:yx),c.body=done++rest->vN B->QH B σ->(∀l∈done,l.neg=false->∀a∈l.args,yd B a≠ByteArray.empty)->PV σ c.head∈ye fs c.head c.body rest B
 |[],done,B,e,D,z,w=>by
  rw[qE] at e;have n:∀l∈zl c,y9 B l.args=PV σ l:=by
   intro l v;refine ks fun a j=>z.val ?_;by_cases I:zO a=true
   ·obtain⟨_,p,i,b,C⟩:=gI.1 (g l v a j I);exact w p (by rw[←e];exact i) b a C
   ·unfold yd;rw[za I];exact d l v a j
  unfold ye;rw[za]
  ·rw[n c.head (by simp[zl])];simp
  ·intro q;rw[kT] at q;obtain⟨l,v,G⟩:=q;rw[vq,n l (by simp[zl,v])] at G;obtain⟨m,J⟩:=nD.1 G.2;exact h l v G.1 m J
 |l::rest,done,B,e,D,z,w=>by
  have H:c.body=(done++[l])++rest:=by rw[e];simp
  have r:l∈c.body:=by rw[e];simp
  have o:l∈zl c:=by simp[zl,r]
  unfold ye;split
  ·rename_i F;refine wu d g k f h rest (done++[l]) B H D z fun p i b=>?_;rcases zX.1 i with q|q
   ·exact w p q b
   ·rw[xO.1 q,F] at b;cases b
  ·rename_i F;obtain⟨m,N⟩:=f l r (by simpa using F);obtain⟨t,E,A⟩:=sL k l.args B (d l o) z;have u:xj B l.args (PV σ l)=some t:=E;have s:∀x∈PV σ l,x≠ByteArray.empty:=by
    intro x K;obtain⟨a,j,rfl⟩:=z9.1 K;split
    ·exact k a
    ·exact d l o a j
   obtain⟨M,O,L⟩:=nG l.args (PV σ l) B t (by simp[PV]) s (d l o) D u;refine uF.2 ⟨_,N,?_⟩;rw[zb rfl,u];refine wu d g k f h rest (done++[l]) t H M A fun p i b a j=>?_;rcases zX.1 i with q|q
   ·rw[mV O (w p q b a j)];exact w p q b a j
   ·rw[xO.1 q] at j;have:yd t a∈y9 t l.args:=z9.2 ⟨a,j,rfl⟩;rw[L] at this;exact s _ this
theorem CP{cs:List zc}{fs:List zE}(j:pG cs fs){c:zc}(k:c∈cs)(d:∀l∈zl c,∀a∈l.args,a≠ByteArray.empty)(b:∀l∈zl c,∀y∈l.args,zO y=true->y∈z7 c){x:List ByteArray}:x∈ye fs c.head c.body c.body []↔nW fs c x:=
 ⟨wO j k d b c.body [] [] rfl (fun v x q=>by cases q) (fun l e=>by cases e),fun⟨_,h,f,i,g⟩=>g ▸ wu d b h f i c.body [] [] rfl (fun v x q=>by cases q) (fun v x q=>by cases q) (fun l e=>by cases e)⟩
end
section
open Go.Proofs.Tryz Go.RowKit
variable {z:Nat}{l:List ByteArray}
def QL(z:Nat)(w:World)(v:Value)(l:List ByteArray):Prop:=P7 0 w v l/\v.ownBlock≠some z
theorem QL.below{w a:World}{v:Value}{l:List ByteArray}(h:QL z w v l)(b:Below w.heap.size w a):QL z a v l:=⟨h.1.below b,h.2⟩
theorem QL.saveT{w a:World}{v:Value}{M:List Nat}{T:TypeId}(h:QL z w v l)(hs:zd M w a)(b:PN w T M)(c:9≠T):QL z a v l:=⟨yB h.1 hs b c,h.2⟩
theorem QL.of{lo:Nat}{w:World}{v:Value}(h:P7 lo w v l)(a:z<lo):QL z w v l:=⟨yq h (zx _),fun e=>by have:=xb h e;omega⟩
theorem Pd:(prog.info? 30).map (fun i=>(i.zero,i.size,i.bytes))=some (some (.slice none 0 0),1,24):=by kernel_rfl
structure Rt (z:Nat) (w:World) (gb go:Nat) (c:zc):Prop where
 lt:gb<w.heap.size
 pred:w.cell? ⟨gb,go+1,none⟩=some (.string c.head.pred)
 args:∃av,w.cell? ⟨gb,go+2,none⟩=some av/\QL z w av c.head.args
 body:∃ao cap,w.cell? ⟨gb,go+3,none⟩=some (.slice ao c.body.length cap)/\∀j (h:j<c.body.length),∃g,ao=some ⟨g,0,none⟩/\g<w.heap.size/\w.cell? ⟨g,j*3,none⟩=some (.bool c.body[j].neg)/\w.cell? ⟨g,j*3+1,none⟩=some (.string c.body[j].pred)/\∃av,w.cell? ⟨g,j*3+2,none⟩=some av/\P7 0 w av c.body[j].args
theorem Rt.below{w i:World}{k m:Nat}{c:zc}(h:Rt z w k m c)(a:Below w.heap.size w i):Rt z i k m c:=by
 obtain⟨d,u,⟨e,p,v⟩,q,f,A,x⟩:=h;refine⟨xG d a.size,(zm a d u),⟨e,(zm a d p),v.below a⟩,q,f,(zm a d A),fun j n=>?_⟩;obtain⟨g,s,b,o,r,e,y,t⟩:=x j n;exact⟨g,s,xG b a.size,(zm a b o),(zm a b r),e,(zm a b y),t.below a⟩
structure fP (z:Nat) (w:World) (mb rd gb go:Nat) (fv vv lv:Value) (c:zc) (fs:List zE) (B:yx):Prop where
 model:Py w mb #[fv,.int .i64 rd] 54
 facts:mo w fv fs
 cl:Rt z w gb go c
 fst:P7 0 w vv (xh B)
 snd:P7 0 w lv (xH B)
 hz:z<w.heap.size
theorem fP.below{w j:World}{f i d k:Nat}{g e b:Value}{c:zc}{fs:List zE}{B:yx}(h:fP z w f i d k g e b c fs B)(a:Below w.heap.size w j):fP z j f i d k g e b c fs B:=⟨h.model.below a,h.facts.below a,h.cl.below a,h.fst.below a,h.snd.below a,xG h.hz a.size⟩
def uP(z lo:Nat)(w:World)(v:Value)(a:List (List ByteArray)):Prop:=∃b:List Value,b.length=a.length/\w.ownsRow lo 30 1 v a.length b/\∀i (h:i<a.length) (c:i<b.length),QL z w b[i] a[i]
theorem uP.nil(lo:Nat)(w:World):uP z lo w (.slice none 0 0) []:=⟨[],rfl,yI _ _ _ _,fun i h=>by cases h⟩
theorem uP.below{lo:Nat}{w f:World}{v:Value}{c:List (List ByteArray)}(h:uP z lo w v c)(e:Below w.heap.size w f):uP z lo f v c:=by
 obtain⟨d,j,g,k⟩:=h;exact⟨d,j,zC g e,fun i a b=>(k i a b).below e⟩
theorem F4(w:World)(mb rd C K:Nat)(fv s r:Value)(c:zc)(fs:List zE)(B:yx)(hI:fP z w mb rd C K fv s r c fs B)(aI:c.body.length<=100)(aH:B.length<=100)(O:∀l∈zl c,l.args.length<=100/\∀a∈l.args,0<a.size)(aA:fs.length<=10000000)(ap:∀f∈fs,f.2.1.length<=1000000):
  Calls prog 166 #[.pointer (some ⟨mb,0,none⟩),.pointer (some ⟨C,K,none⟩),.int .i64 c.body.length,.agg #[s,r]] w fun e d=>∃v,e=.returned v/\Hid (uP z w.heap.size d v (ye fs c.head c.body [] B))/\Hid (Below w.heap.size w d):=by
 obtain⟨i0,hi,a8,a4,a2⟩:=info_parts Pd;obtain⟨ao,M,ax,_⟩:=hI.cl.body;have A:=Px fun W (i:Below w.heap.size w W)=>hI.below i;have y:Hid (∀W,Below w.heap.size w W->W.cell? ⟨C,K+3,none⟩=some (.slice ao c.body.length M)/\C<W.heap.size):=fun W i=>⟨(i.cell (p:=⟨C,K+3,none⟩) hI.cl.lt).trans ax,(hI.below i).cl.lt⟩;have ab:Hid (∀W j (t:j<c.body.length),Below w.heap.size w W->∃g,ao=some ⟨g,0,none⟩/\g<W.heap.size/\W.cell? ⟨g,j*3,none⟩=some (.bool c.body[j].neg)/\W.cell? ⟨g,j*3+1,none⟩=some (.string c.body[j].pred)/\∃n,W.cell? ⟨g,j*3+2,none⟩=some n/\P7 0 W n c.body[j].args):=fun W j t i=>by
  obtain⟨aG,aF,L,Z⟩:=(hI.below i).cl.body;rw[(y.out W i).1] at L;cases L;exact Z j t
 have T:Hid (∀W (l:zj) n,l∈zl c->Below w.heap.size w W->P7 0 W n l.args->Calls prog 195 #[.agg #[s,r],n] W fun e d=>∃v,e=.returned v/\Hid (P7 W.heap.size d v (y9 B l.args))/\Hid (Below W.heap.size W d)):=fun W l n hl i ha=>G2 W s r n B l.args (A.out W i).fst (A.out W i).snd ha (by omega) (by have:=(O _ hl).1;omega) (O _ hl).2;have aa:Hid (∀W j (t:j<c.body.length) rv al,Below w.heap.size w W->P7 al W rv (y9 B c.body[j].args)->Calls prog 45 #[.pointer (some ⟨mb,0,none⟩),.string c.body[j].pred,rv] W fun e d=>e=.returned (.int .i64 (gP c.body[j].pred (y9 B c.body[j].args) fs))/\Below W.heap.size W d):=fun W j t rv al i hr=>DC W mb rd fv fs _ rv _ (A.out W i).model (A.out W i).facts hr aA (by have:=(O c.body[j] (by simp[zl])).1;simp[y9];omega) ap;have I:Hid (∀k (hk:k<c.body.length),c.body[k].neg=true->(yK c.body[k].pred (y9 B c.body[k].args) fs).isSome=true->ye fs c.head c.body [] B=[]):=fun k hk hn hs=>by
  unfold ye;rw[zb];rw[kT];exact⟨c.body[k],zv _,by rw[hn,hs];rfl⟩
 have H:Hid ((∀k (hk:k<c.body.length),¬(c.body[k].neg=true/\(yK c.body[k].pred (y9 B c.body[k].args) fs).isSome=true))->ye fs c.head c.body [] B=[y9 B c.head.args]):=fun q=>by
  unfold ye;rw[za];intro hq;rw[kT] at hq;obtain⟨l,hl,hq⟩:=hq;obtain⟨j,t,rfl⟩:=vG hl;rw[vq] at hq;exact q j t hq
 have a6:Hid (∀W,Below w.heap.size w W->∃n,W.cell? ⟨C,K+2,none⟩=some n/\P7 0 W n c.head.args):=fun W i=>by
  obtain⟨n,L,Z⟩:=(A.out W i).cl.args;exact⟨n,L,Z.1⟩
 have hz:=hI.hz;obtain⟨Q,o⟩:=y.out w (zo _ _);clear hI A O ap ax;generalize ye fs c.head c.body [] B=aK at *;go_enter func166,ntmps166;go_upto_region 2 with fail
 have ar:Hid (Below w.heap.size w (w.alloc (.cells #[s,r] 270))):=(zo _ _).alloc (zf _) _;have ah:Hid (∀W,Below (w.alloc (.cells #[s,r] 270)).heap.size (w.alloc (.cells #[s,r] 270)) W->W.cell? ⟨w.heap.size,0,none⟩=some s/\W.cell? ⟨w.heap.size,1,none⟩=some r/\w.heap.size<W.heap.size):=fun W i=>by
  have q:=(Py.new w #[s,r] 270).below i;exact⟨by rw[q.rules.1];rfl,by rw[q.rules.1];rfl,q.lt⟩
 clear Q o;obtain⟨Q,o⟩:=y.out _ ar.out;generalize a9:w.alloc (.cells #[s,r] 270)=wA at *;clear a9;go_wp2;clear Q o;go_loopw [10,11,12] (fun af _ _ wr=>∃k:Nat,k<=c.body.length/\af=.int .i64 k/\Hid (∀j (t:j<c.body.length),j<k->¬(c.body[j].neg=true/\(yK c.body[j].pred (y9 B c.body[j].args) fs).isSome=true))/\Hid (Below wA.heap.size wA wr)) (fun af _ _ _=>c.body.length-(intOf af).toNat)
 case atStart=>exact⟨0,by omega,rfl,fun j t h2=>by omega,zo _ _⟩
 case round=>
  obtain⟨k,hk,rfl,HN,F⟩:=hrel;have u:=Px (P3 ar.out F.out);obtain⟨Q,o⟩:=y.out _ u.out;obtain⟨b0,b1,au⟩:=ah.out _ F.out;by_cases J:k<c.body.length
  ·have ay:(k:Int)<(c.body.length:Int):=by omega
   obtain⟨g,rfl,hg,_,_,n,c2,G⟩:=ab.out _ k J u.out;have E:Hid (∀W,Below wr.heap.size wr W->Calls prog 195 #[.agg #[s,r],n] W fun e d=>∃v,e=.returned v/\Hid (P7 w.heap.size d v (y9 B c.body[k].args))/\Hid (Below wr.heap.size wr d)/\d.cell? ⟨g,k*3+2,none⟩=some n/\d.cell? ⟨w.heap.size,0,none⟩=some s/\d.cell? ⟨w.heap.size,1,none⟩=some r/\d.cell? ⟨C,K+3,none⟩=some (.slice (some ⟨g,0,none⟩) c.body.length M)):=fun W i=>by
    have D:=P3 u.out i;refine(T.out W c.body[k] n (by simp[zl]) D (G.below i)).mono ?_;rintro e d ⟨v,L,Z,q3⟩;have m:=P3 i q3.out;obtain⟨b0,b1,_⟩:=ah.out d (P3 F.out m);exact⟨v,L,yq Z.out D.size,m,(zm m hg c2),b0,b1,(zm m o Q)⟩
   clear G;go_upto_region 6 with fail
   go_cut [11] from 34 to 43 (fun a1 wx=>∃v,a1=v/\Hid (P7 w.heap.size wx v (y9 B c.body[k].args))/\Hid (Below wr.heap.size wr wx))
   case first=>
    go_region_held3 (fun d=>d.cell? ⟨g,k*3+2,none⟩=some n/\d.cell? ⟨w.heap.size,0,none⟩=some s/\d.cell? ⟨w.heap.size,1,none⟩=some r/\d.cell? ⟨C,K+3,none⟩=some (.slice (some ⟨g,0,none⟩) c.body.length M)) (first|go_keep|(go_simp;done)) (first|(go_at_call 195;refine(E.out _ (by exact(by repeat'(first|with_reducible(first|apply zR|assumption|apply zN|apply zA|apply zD|apply zS)|go_size)))).mono ?_;rintro e w5 ⟨v5,rfl,ae,Y,z0,z1,z2,z3⟩))
    go_wp2;go_meet
    case rel=>exact⟨_,rfl,ae,Y⟩
   case rest=>
    obtain⟨av,X,P,R⟩:=hcut;obtain rfl:=X.symm;clear X c2 hg b0 b1 au E Q o;have h:=Px (P3 u.out R.out);have ai:=Px (P3 F.out R.out);obtain⟨Q,o⟩:=y.out _ h.out;obtain⟨g',e',hg,_,c1,_⟩:=ab.out _ k J h.out;cases e';have V:Hid (Calls prog 45 #[.pointer (some ⟨mb,0,none⟩),.string c.body[k].pred,av] wc fun e d=>e=.returned (.int .i64 (gP c.body[k].pred (y9 B c.body[k].args) fs))/\Hid (Below wc.heap.size wc d)/\g<d.heap.size/\d.cell? ⟨g,k*3,none⟩=some (.bool c.body[k].neg)/\d.cell? ⟨C,K+3,none⟩=some (.slice (some ⟨g,0,none⟩) c.body.length M)/\C<d.heap.size):=by
     refine(aa.out wc k J av _ h.out P.out).mono ?_;rintro e d ⟨L,q3⟩;have m:=P3 h.out q3;obtain⟨g',e',y1,y2,_⟩:=ab.out _ k J m;cases e';exact⟨L,q3,y1,y2,y.out _ m⟩
    have ak:Hid (¬(c.body[k].neg=true/\(yK c.body[k].pred (y9 B c.body[k].args) fs).isSome=true)->∀j (t:j<c.body.length),j<k+1->¬(c.body[j].neg=true/\(yK c.body[j].pred (y9 B c.body[j].args) fs).isSome=true)):=fun q j t h2=>by
     by_cases a0:j=k
     ·subst a0;exact q
     ·exact HN.out j t (by omega)
    have az:=Px (I.out k J);have U:Hid ((yK c.body[k].pred (y9 B c.body[k].args) fs).isSome=true↔0<=gP c.body[k].pred (y9 B c.body[k].args) fs):=by
     unfold Hid gP;cases yK c.body[k].pred (y9 B c.body[k].args) fs with
     |none=>simp
     |some z=>simp
    generalize gP c.body[k].pred (y9 B c.body[k].args) fs=fi at *;generalize (yK c.body[k].pred (y9 B c.body[k].args) fs).isSome=fb at *;generalize c.body[k].pred=pr at *;generalize c.body[k].neg=ng at *;go_upto_region 8 with (first|(go_at_call 45;refine V.out.mono ?_;rintro e w6 ⟨rfl,aq,aJ,z0,z3,aE⟩))
    have am:=Px (P3 h.out aq.out);have S:=Px (P3 ai.out aq.out);clear V c1 Q hg o;cases ng with
    |false=>
     have ag:=Px (ak.out (by simp));go_wp2;go_roundw
     case rel=>exact⟨k+1,by omega,by go_num,ag,S⟩
     case measure=>simp[intOf];omega
    |true=>
     by_cases an:0<=fi
     ·have HR:=Px (az.out rfl (U.out.2 an));go_wp2;go_ret;exact⟨_,rfl,by rw[Hid,HR.out];exact uP.nil _ _,am⟩
     ·have ag:=Px (ak.out (fun q=>an (U.out.1 q.2)));go_wp2;go_roundw
      case rel=>exact⟨k+1,by omega,by go_num,ag,S⟩
      case measure=>simp[intOf];omega
  ·have ay:¬(k:Int)<(c.body.length:Int):=by omega
   have ad:=Px (H.out fun j t=>HN.out j t (by omega));clear HN H I;obtain⟨n,c2,G⟩:=a6.out _ u.out;have E:Hid (∀W,Below wr.heap.size wr W->Calls prog 195 #[.agg #[s,r],n] W fun e d=>∃v,e=.returned v/\Hid (P7 w.heap.size d v (y9 B c.head.args))/\Hid (Below wr.heap.size wr d)/\d.cell? ⟨C,K+2,none⟩=some n/\d.cell? ⟨w.heap.size,0,none⟩=some s/\d.cell? ⟨w.heap.size,1,none⟩=some r):=fun W i=>by
    have D:=P3 u.out i;refine(T.out W c.head n (by simp[zl]) D (G.below i)).mono ?_;rintro e d ⟨v,L,Z,q3⟩;have m:=P3 i q3.out;obtain⟨b0,b1,_⟩:=ah.out d (P3 F.out m);exact⟨v,L,yq Z.out D.size,m,(zm m o c2),b0,b1⟩
   clear G;go_upto_region 10 with fail
   go_cut [13] from 67 to 73 (fun a3 wx=>∃v,a3=v/\Hid (P7 w.heap.size wx v (y9 B c.head.args))/\Hid (Below wr.heap.size wr wx))
   case first=>
    go_region_held3 (fun d=>d.cell? ⟨C,K+2,none⟩=some n/\d.cell? ⟨w.heap.size,0,none⟩=some s/\d.cell? ⟨w.heap.size,1,none⟩=some r) (first|go_keep|(go_simp;done)) (first|(go_at_call 195;refine(E.out _ (by exact(by repeat'(first|with_reducible(first|apply zR|assumption|apply zN|apply zA|apply zD|apply zS)|go_size)))).mono ?_;rintro e w5 ⟨v5,rfl,ae,Y,z0,z1,z2⟩))
    go_wp2;go_meet
    case rel=>exact⟨_,rfl,ae,Y⟩
   case rest=>
    obtain⟨aL,x,P,R⟩:=hcut;obtain rfl:=x.symm;clear x c2 b0 b1 au E Q o;have h:=Px (P3 u.out R.out);obtain⟨aw,ac,x⟩:=P.out.qx;subst x;have aD:=h.out.size;generalize (y9 B c.head.args).length=rl at *;go_wp2_with (first|(at_builtin;refine jS wc _ _ _ rfl (.tmp 74) (.tmp 76) 31 rfl w.heap.size 30 i0 _ 1 24 underlying31 hi a8 a4 a2 rfl (by decide) _ 0 [] rfl (yI _ _ _ _) (zo _ _) _ _ rfl (by simp) rfl (by simp[Value.oneCell']) (by omega) (by omega) (by omega) ?_;intro v' w2 a7 N aC a5 aB aj;clear aC a5))
    go_ret;have hS:zd [] wc w2:=⟨N.os,N.tape,N.output,aj,fun j t _=>aB j t (show some j≠none from Option.some_ne_none j)⟩;refine⟨_,rfl,⟨[.slice aw rl ac],by rw[ad.out];rfl,by rw[ad.out];exact a7,fun j h1 h2=>?_⟩,h.out.trans N⟩;obtain rfl:j=0:=by simp at h2;exact h2
    have q:=QL.of (yH P.out hS (fun b _ hm=>by cases hm)) hz;simp only[ad.out,gm];exact q
end
section
open Classical
variable {t:List zh}{cs:List zc}{L:List zE}{D:DB}{c:zc}
theorem DQ(a:y5 (P2 t)){p:Nat}(f:p<t.length):yn t t[p].name=some t[p]/\zV t t[p].name=p:=by
 have d:zV t t[p].name=p:=by
  rcases pe (zV t t[p].name) p with q|q|q
  ·have b:=tL t t[p].name a t[zV t t[p].name] (by
    rw[gE];exact⟨0,by simp;omega,by simp⟩)
   have e:=tN.1 a (zV t t[p].name) p (by simp[P2];omega) (by simp[P2];omega) q;simp only[P2,vm] at e;rw[e] at b;cases b
  ·exact q
  ·have b:=s5 t t[p].name t[p] (by
    rw[gE];exact⟨p,by simp;omega,by simp⟩)
   rw[PE] at b;cases b
 refine⟨?_,d⟩;unfold yn;rw[d,yr f];simp
theorem dV(a:y5 (P2 t)){p:Nat}(d:p<t.length):zM t (dN t p)=p/\dN t p=t[p].name:=by
 have e:dN t p=t[p].name:=by unfold dN P2;simp[List.getD,d]
 obtain⟨f,b⟩:=DQ a d;rw[e];exact⟨by unfold zM;rw[f,b];rfl,rfl⟩
structure Qn (t:List zh) (ns:List ByteArray) (L:List zE) (D:DB):Prop where
 mem:∀f,f∈L↔∃p,p<t.length/\∃r m,D p r=some m/\f=(dN t p,uf ns r (uD t p) 3,m)
 once:L.Nodup
 ok:pK (t.map (·.jh)) D
 inside:EN (t.map (·.jh)) ns.length D
structure ua (cs:List zc) (t:List zh):Prop where
 words:∀c∈cs,m9 c
 lit:∀c∈cs,∀l∈zl c,zM t l.pred<t.length/\uD t (zM t l.pred)=l.args.length/\dN t (zM t l.pred)=l.pred/\l.args.length<=3
 rise:y5 (P2 t)
 small:∀p,p<t.length->uD t p<=3
 cov:∀c∈cs,∀l∈zl c,∀y∈l.args,zO y=true->y∈z7 c
theorem ua.of{a:List zh}(w:∀c∈cs,m9 c)(h:PI cs a t):ua cs t:=by
 have d:Qu t=Qu a:=by have:=ph (a.length+1) a cs;rw[h.jm] at this;exact this
 have s:P2 t=P2 a:=by
  have:=congrArg (List.map Prod.fst) d;simpa [Qu,P2,Function.comp_def] using this
 have f:y5 (P2 t):=by rw[s];exact h.tab.rise
 have y:∀i (j:i<cs.length),gV (yQ ((uw none i).getD [])) (z7 cs[i]).length:=fun i j=>tR (mi (h.many _ (zv j)));refine⟨w,fun c b l k=>?_,f,fun p q=>?_,fun c b=>h.covered b⟩
 ·obtain⟨e,x,m,g,u,r⟩:=h.lit b k;obtain⟨z,o,A⟩:=jJ x;refine⟨g,u,?_,?_⟩
  ·rw[(dV f g).2];have:t[zM t l.pred]=e:=by simp only[r,o]
   rw[this,m]
  ·obtain⟨v,B,n,_⟩:=lV (h.many c b);rcases zu.1 k with rfl|q
   ·exact v
   ·exact n l q
 ·unfold uD;rw[P5 _ (by simpa using q)];exact(BB h (zp cs) none y).small _ (zv _)
theorem ua.ne{cs:List zc}{t:List zh}(h:ua cs t){c:zc}(d:c∈cs):∀l∈zl c,∀a∈l.args,a≠ByteArray.empty:=by
 intro l g a f e;have b:m4 l:=by
  rcases zu.1 g with rfl|q
  ·exact(h.words c d).2.1
  ·exact(h.words c d).2.2 l q
 have:=(b.2 a f).ne;rw[e] at this;exact this rfl
theorem ua.nsz(h:ua cs t):∀y∈zp cs,y≠ByteArray.empty:=by
 intro y e;obtain⟨c,b,l,d,a,_⟩:=((fZ cs).2 y).1 e;exact h.ne b l d y a
theorem Qn.lit{cs:List zc}{t:List zh}{L:List zE}{D:DB}(b:ua cs t)(h:Qn t (zp cs) L D){c:zc}(n:c∈cs){l:zj}(j:l∈zl c)(row:List ByteArray)(m:Nat):(l.pred,row,m)∈L↔∃r,D (zM t l.pred) r=some m/\row=uf (zp cs) r l.args.length 3:=by
 obtain⟨i,d,g,s⟩:=b.lit c n l j;rw[h.mem];constructor
 ·rintro⟨p,o,r,q,a,e⟩;simp only[yc] at e;obtain⟨k,f,rfl⟩:=e;have:zM t l.pred=p:=by rw[k];exact(dV b.rise o).1
  subst this;exact⟨r,a,by rw[f,d]⟩
 ·rintro⟨r,a,rfl⟩;exact⟨zM t l.pred,i,r,m,a,by rw[d,g]⟩
theorem Qn.can(f:ua cs t)(h:Qn t (zp cs) L D)(j:c∈cs){l:zj}(g:l∈zl c){r:zk}(b:P9 D (zM t l.pred) r):PG l.args.length r/\∀i,i<l.args.length->r.getD i 0<(zp cs).length:=by
 have d:=(h.ok _ _ b).2;have a:=h.inside _ _ b;have e:(t.map (·.jh)).getD (zM t l.pred) 0=l.args.length:=(f.lit c j l g).2.1;rw[e] at d a;exact⟨d,a⟩
theorem Qn.fs(d:ua cs t)(h:Qn t (zp cs) L D):pG cs L:=by
 refine⟨?_,?_⟩
 ·intro f b c g l n e;obtain⟨s,row,m⟩:=f;simp only at e ⊢;subst e;obtain⟨r,_,rfl⟩:=(h.lit d g n row m).1 b;rw[tx]
 ·intro f b x a;obtain⟨p,q,r,m,j,rfl⟩:=(h.mem f).1 b;have k:=h.inside p r (by unfold P9;rw[j];rfl);simp only[uf,z9,gh] at a;obtain⟨i,o,rfl⟩:=a;have:=d.small p q;rw[zb (by omega)];exact d.nsz _ (wD (k i o))
theorem wL(ns:List ByteArray)(σ:ByteArray->Nat)(l:zj){i:Nat}(a:i<3):(vL ns σ l).getD i 0=jI ns σ l i:=by
 have:i=0∨i=1∨i=2:=by omega
 rcases this with rfl|rfl|rfl<;>rfl
theorem ua.can(n:ua cs t)(m:c∈cs){σ:ByteArray->Nat}(g:∀v∈z7 c,σ v<(zp cs).length):∀l∈zl c,PG l.args.length (vL (zp cs) σ l)/\∀i,i<l.args.length->(vL (zp cs) σ l).getD i 0<(zp cs).length:=by
 have a:=fZ cs;intro l h;have q:=(n.lit c m l h).2.2.2;refine⟨⟨rfl,fun i b=>?_⟩,fun i b=>?_⟩
 ·by_cases o:i<3
  ·rw[wL _ _ _ o];unfold jI;rw[kp b]
  ·rw[List.getD,kp (by simp[vL];omega)];rfl
 ·rw[wL _ _ _ (by omega)];unfold jI;rw[yr b];simp only;split
  ·rename_i f;exact g _ (n.cov c m l h _ (zv b) f)
  ·rename_i f;have p:=(a.2 _).2 ⟨c,m,l,h,zv b,by simpa using f⟩;obtain⟨k,j,e⟩:=gE.1 p;have d:=pR a.1 j;rw[List.getD,yr j,ux,e] at d;rw[d];exact j
theorem Qn.der1(f:ua cs t)(h:Qn t (zp cs) L D)(g:c∈cs){r:zk}(N:tt t (zp cs) c D r):nW L c (uf (zp cs) r c.head.args.length 3)/\PG c.head.args.length r/\∀i,i<c.head.args.length->r.getD i 0<(zp cs).length:=by
 obtain⟨σ,C,I,E⟩:=N;have o:=fZ cs;have p:∀v∈z7 c,σ v<(zp cs).length:=by
  intro v x;obtain⟨k,l,d,s,w⟩:=gI.1 x;have b:l∈zl c:=by simp[zl,d]
  obtain⟨u,A⟩:=h.can f g b (C l d s);obtain⟨i,B,rfl⟩:=gE.1 w;have z:=(f.lit c g l b).2.2.2;have:=A i B;rw[wL _ _ _ (by omega)] at this;unfold jI at this;rw[yr B] at this;simpa only[zb k] using this
 have e:=f.can g p;have j:∀l∈zl c,PV (fun v=>if v∈z7 c then(zp cs).getD (σ v) ByteArray.empty else⟨#[0]⟩) l=uf (zp cs) (vL (zp cs) σ l) l.args.length 3:=by
  intro l d;rw[tg g d (f.lit c g l d).2.2.2];unfold PV;refine ks fun a M=>?_;split
  ·rename_i x;exact zb (f.cov c g l d a M x)
  ·rfl
 have n:c.head∈zl c:=by simp[zl]
 refine⟨⟨_,fun a=>?_,fun l d s=>?_,fun l d s m y=>?_,by rw[j _ n,E]⟩,by rw[E];exact e _ n⟩
 ·split
  ·rename_i q;exact f.nsz _ (wD (p a q))
  ·decide
 ·have b:l∈zl c:=by simp[zl,d]
  obtain⟨m,y⟩:=my.1 (C l d s);exact⟨m,(h.lit f g b _ m).2 ⟨_,y,j l b⟩⟩
 ·have b:l∈zl c:=by simp[zl,d]
  obtain⟨H,u,A⟩:=(h.lit f g b _ m).1 y;obtain⟨J,K⟩:=h.can f g b (r:=H) (by unfold P9;rw[u];rfl);have z:=(f.lit c g l b).2.2.2;have F:=mU o.1 z J K;have G:=mU o.1 z (e l b).1 (e l b).2;rw[←A,j l b,G,zr] at F;rw[←F,I l d s] at u;cases u
theorem Qn.der2(g:ua cs t)(h:Qn t (zp cs) L D)(d:c∈cs){x:List ByteArray}(I:nW L c x):∃r,tt t (zp cs) c D r/\x=uf (zp cs) r c.head.args.length 3:=by
 obtain⟨σ,_,F,G,rfl⟩:=I;have p:=fZ cs;have J:∀l∈c.body,l.neg=false->P9 D (zM t l.pred) (vL (zp cs) (fun v=>(uj (zp cs) (σ v)).getD 0) l):=by
  intro l f q;have b:l∈zl c:=by simp[zl,f]
  obtain⟨m,z⟩:=F l f q;obtain⟨r,n,e⟩:=(h.lit g d b _ m).1 z;have E:P9 D (zM t l.pred) r:=by unfold P9;rw[n];rfl
  obtain⟨C,B⟩:=h.can g d b E;rw[←Mm p.1 C B e.symm];exact E
 have o:∀v∈z7 c,(zp cs).getD ((uj (zp cs) (σ v)).getD 0) ByteArray.empty=σ v:=by
  intro v y;obtain⟨k,l,f,q,u⟩:=gI.1 y;have b:l∈zl c:=by simp[zl,f]
  obtain⟨m,z⟩:=F l f q;obtain⟨r,n,e⟩:=(h.lit g d b _ m).1 z;obtain⟨C,B⟩:=h.can g d b (r:=r) (by unfold P9;rw[n];rfl);have K:=(g.lit c d l b).2.2.2;obtain⟨i,A,rfl⟩:=gE.1 u;have w:(uf (zp cs) r l.args.length 3)[i]'(by rw[tx];exact A)=(PV σ l)[i]'(by simp[PV];exact A):=by simp only[←e]
  simp only[uf,PV,vm,mI] at w;rw[zb (by omega),zb k] at w;rw[←w,pR p.1 (B i A)];rfl
 have s:∀l∈zl c,PV (fun v=>(zp cs).getD ((uj (zp cs) (σ v)).getD 0) ByteArray.empty) l=PV σ l:=by
  intro l f;refine ks fun a H=>?_;split
  ·rename_i y;exact o a (g.cov c d l f a H y)
  ·rfl
 have j:c.head∈zl c:=by simp[zl]
 refine⟨_,⟨_,J,fun l f q=>?_,rfl⟩,by rw[tg d j (g.lit c d c.head j).2.2.2,s c.head j]⟩;have b:l∈zl c:=by simp[zl,f]
 cases n:D (zM t l.pred) (vL (zp cs) (fun v=>(uj (zp cs) (σ v)).getD 0) l) with
 |none=>rfl
 |some m=>
  exfalso;refine G l f q m ((h.lit g d b _ m).2 ⟨_,n,?_⟩);rw[tg d b (g.lit c d l b).2.2.2,s l b]
end
section
open Go.RowKit
theorem Ob{s:ByteArray}{cs:List zc}{t:List zh}(h:uc s=.ok (cs,t)):∀c∈cs,m9 c:=by
 unfold uc at h;split at h
 ·cases h
 ·split at h
  ·cases h
  ·rename_i l f;split at h
   ·cases h
   ·rename_i d e;have b:=Ew _ e (L1 f);have a:d=cs:=by
     repeat'(split at h)
     all_goals first|(cases h;done)|(simp only[Except.ok.injEq,yc] at h;exact h.1)
    subst a;exact b
theorem m5.sz{x:ByteArray}(h:m5 (bl x)):0<x.size/\x.size<=6:=by
 have d:=h.ne;have b:=h.six;have e:(bl x).length=x.size:=rfl;cases c:bl x with
 |nil=>exact zB c d
 |cons a r=>rw[c] at e b;simp only[xd] at e b;omega
theorem m4.fine{l:zj}(h:m4 l)(b:l.args.length<=3):oD l:=
 ⟨h.1.1.sz.2,h.1.1.sz.1,by omega,fun x a=>h.2 x a |>.sz⟩
theorem m9.fine{c:zc}(h:m9 c)(b:yE c=false):wW c:=by
 unfold yE at b;simp only[np,decide_eq_false_iff_not] at b;obtain⟨⟨⟨f,e⟩,d⟩,_⟩:=b;refine⟨fun l a=>?_,by omega⟩;rcases zu.1 a with rfl|a
 ·exact h.2.1.fine (by omega)
 ·have:=List.any_eq_false.1 d l a;simp only[decide_eq_true_eq] at this;exact(h.2.2 l a).fine (by omega)
end
end Go.Proofs.YteampbddflhngaaGreat
