import Derived.Test.YteampbddflhngaaGreatX22
import Derived.Test.YteampbddflhngaaGreatX34
import Derived.Test.YteampbddflhngaaGreatX35
namespace Go.Proofs.YteampbddflhngaaGreat
set_option linter.all false
set_option maxRecDepth 100000
set_option maxHeartbeats 8000000
open Go.RowKit
section
open Go.Proofs.Tryz
variable {z:Nat}{rvs:List Value}{lo:Nat}{w:World}
theorem OZ:(prog.info? 56).map (fun i=>(i.zero,i.size,i.bytes))=some (some (.agg #[.string ByteArray.empty,.slice none 0 0,.int .i64 0]),3,48):=by kernel_rfl
def QP(f:zE)(a:Value):List Value:=[.string f.1,a,.int .i64 (f.2.2:Nat)]
def qd(fs:List zE)(rvs:List Value):List Value:=(List.zipWith QP fs rvs).flatten
theorem Fs{fs b:List zE}{a:List Value}(h:rvs.length=fs.length):qd (fs++b) (rvs++a)=qd fs rvs++qd b a:=by
 unfold qd;rw[eD h.symm];simp
theorem Om{fs:List zE}(h:rvs.length=fs.length):(qd fs rvs).length=fs.length*3:=by
 induction fs generalizing rvs with
 |nil=>simp[qd]
 |cons f fs a=>
  cases rvs with
  |nil=>simp at h
  |cons r rvs=>
   have:=a (rvs:=rvs) (by simpa using h);unfold qd at this ⊢;simp only[lr,lM,yv,xd];rw[this];simp[QP];omega
theorem rN:∀(fs:List zE) (a:List Value) (i c:Nat) (h:i<fs.length) (b:i<a.length),c<3->(qd fs a)[i*3+c]?=(QP fs[i] a[i])[c]?
 |f::fs,g::a,0,c,_,_,d=>by
  have e:qd (f::fs) (g::a)=QP f g++qd fs a:=by simp[qd]
  rw[e,rQ (by simp[QP];omega)];simp
 |f::fs,g::a,i+1,c,h,b,d=>by
  have e:qd (f::fs) (g::a)=QP f g++qd fs a:=by simp[qd]
  have l:(QP f g).length=3:=by simp[QP]
  rw[e,gU (by rw[l];omega),l,show(i+1)*3+c-3=i*3+c by omega];exact rN fs a i c (by simpa using h) (by simpa using b) d
def yS(z lo:Nat)(w:World)(v:Value)(fs:List zE):Prop:=∃rvs:List Value,rvs.length=fs.length/\w.ownsRow lo 56 3 v fs.length (qd fs rvs)/\∀i (h:i<fs.length) (a:i<rvs.length),QL z w rvs[i] fs[i].2.1
theorem yS.nil(lo:Nat)(w:World):yS z lo w (.slice none 0 0) []:=⟨[],rfl,yI _ _ _ _,fun i h=>by cases h⟩
theorem yS.below{lo:Nat}{w d:World}{v:Value}{fs:List zE}(h:yS z lo w v fs)(c:Below w.heap.size w d):yS z lo d v fs:=by
 obtain⟨rvs,f,e,g⟩:=h;exact⟨rvs,f,zC e c,fun i a b=>(g i a b).below c⟩
theorem yS.low{a:Nat}{v:Value}{fs:List zE}(h:yS z lo w v fs)(d:a<=lo):yS z a w v fs:=by
 obtain⟨rvs,c,b,e⟩:=h;exact⟨rvs,c,yq b d,e⟩
theorem yS.saveT{lo:Nat}{w d:World}{v:Value}{fs:List zE}{M:List Nat}{T:TypeId}(h:yS z lo w v fs)(hs:zd M w d)(c:PN w T M)(j:56≠T)(e:9≠T):yS z lo d v fs:=by
 obtain⟨rvs,k,f,g⟩:=h;exact⟨rvs,k,yB f hs c j,fun i a b=>(g i a b).saveT hs c e⟩
theorem yS.facts{v:Value}{fs:List zE}(h:yS z lo w v fs):mo w v fs:=by
 obtain⟨rvs,n,f,m⟩:=h;by_cases k:0<fs.length
 ·obtain⟨g,b,d,_,j,e⟩:=yC f k;refine⟨_,b,d,fun i c=>?_⟩;have a:i<rvs.length:=by omega
  refine⟨g,rvs[i],0,rfl,j,e (i*3) _ ?_,e (i*3+1) _ ?_,e (i*3+2) _ ?_,(m i c a).1⟩
  ·rw[show i*3=i*3+0 from rfl,rN _ _ _ _ c a (by omega)];rfl
  ·rw[rN _ _ _ _ c a (by omega)];rfl
  ·rw[rN _ _ _ _ c a (by omega)];rfl
 ·obtain⟨l,b,d⟩:=zs f;exact⟨l,b,d,fun i c=>zB c (by omega)⟩
section
variable {ops:Array Oper} {rest:List Oper} {o:Oper} {a:Act} {Q:Exit->Act->World->Prop}
theorem oT{E:Nat}(l:o.guard=none)(s x:Operand)
  (T:o.op=.call {callee:=.builtin .append,args:=#[s,x],argTypes:=#[52,52]})
  (q g:List zE) (t N:Value) (V:a.eval s=t) (M:a.eval x=N) (h1:yS z lo w t q) (h2:yS z E w N g) (hl:q.length+g.length<=1000000000000) (H:lo<=w.heap.size)
  (h:∀J B,yS z lo B J (q++g)->zd t.ownBlock.toList w B->wpList prog ops Q rest (a.put o.dst J) B):
  wpList prog ops Q (o::rest) a w:=by
 obtain⟨U,O,A,F,K⟩:=info_parts OZ;obtain⟨rvs,r,p,L⟩:=h1;obtain⟨b,R,b2,S⟩:=h2;have n:∀u∈qd g b,u.oneCell'=true:=by
  intro u i;obtain⟨f,hf,i⟩:=List.mem_flatten.1 i;obtain⟨j,d,rfl⟩:=gE.1 hf;rw[List.getElem_zipWith] at i;simp only[List.length_zipWith] at d;obtain⟨ao,ad,e⟩:=(S j (by omega) (by omega)).1.qx;unfold QP at i;rw[e] at i;simp only[zu,lE,or_false] at i;rcases i with rfl|rfl|rfl<;>simp[Value.oneCell']
 obtain⟨_,⟨y,hn⟩|⟨P,m,W,y,ac,X,ab,aa,Z,I⟩⟩:=id b2
 ·have G:g=[]:=rf hn;refine wpList_append_own_none l s x 52 T lo 56 U 3 underlying52 O _ _ _ V p (by rw[M,y]) ?_;refine h _ _ ?_ (zd.refl _ _);rw[G,qE];exact⟨rvs,r,p,L⟩
 ·have C:∀j u,(qd g b)[j]?=some u->w.cell? (Addr.add ⟨P,0,none⟩ j)=some u:=fun j u d=>by
   rw[Addr.add_lit,vF];unfold World.cell?;rw[X];simp only;rw[←I,l9] at d;split at d
   ·simpa using d
   ·simp at d
  refine wpList_append_own _ l s x 52 T lo 56 U _ 3 48 underlying52 O A F K rfl (by decide) _ _ _ V p ⟨P,0,none⟩ g.length m (qd g b) (by rw[M,y]) (Om R) C n (by unfold maxLen;omega) (by omega) H ?_;intro J w2 v c _;have D:zd t.ownBlock.toList w w2:=⟨c.os,c.tape,c.output,c.size,fun k hk Y=>c.block k hk fun e=>Y (by rw[←e];simp)⟩;refine h _ _ ⟨rvs++b,by simp[r,R],by rw[yv,Fs r];exact v,fun j q1 q2=>?_⟩ D;by_cases d:j<q.length
  ·simp only[uQ d,uQ (show j<rvs.length by omega)];exact(L j d (by omega)).saveT D (PN.own p) (by decide)
  ·simp only[yv] at q1 q2;simp only[mw (show q.length<=j by omega),mw (show rvs.length<=j by omega),r];exact(S _ (by omega) (by omega)).saveT D (PN.own p) (by decide)
theorem yS.one{b:Nat}{f:zE}{c:Value}(g:Py w b (QP f c).toArray 56)(e:QL z w c f.2.1):yS z 0 w (.slice (some ⟨b,0,none⟩) 1 1) [f]:=by
 refine⟨[c],rfl,⟨by simp[qd,QP],ze ⟨b,1,(QP f c).toArray,rfl,zx _,g,zf _,by unfold maxLen;omega,by simp[QP],by simp[qd,QP]⟩⟩,fun i d h=>?_⟩;obtain rfl:i=0:=by simp at d;exact d
 exact e
end
theorem D6(w:World)(H l:Nat)(fv V C:Value)(fs c:List zE)(b:ByteArray)(row:List ByteArray)(R:Py w H #[fv,.int .i64 l] 54)(hf:mo w fv fs)(O:yS z lo w V c)(L:QL z w C row)(ad:fs.length<=10000000)(ap:c.length<1000000000000)(av:row.length<=1000000)(K:∀f∈fs,f.2.1.length<=1000000)(G:∀f∈c,f.2.1.length<=1000000)(Z:lo<=w.heap.size):
  Calls prog 123 #[.pointer (some ⟨H,0,none⟩),V,.string b,C] w fun e w'=>∃v,e=.returned v/\Hid (yS z lo w' v (xU fs c (b,row,l)))/\Hid (zd V.ownBlock.toList w w'):=by
 obtain⟨N,s,rfl⟩:=L.1.qx;have F:=Px (DC w H l fv fs b _ row R hf L.1 ad (by omega) K);have ah:Hid (∀W,Below w.heap.size w W->W.cell? ⟨H,1,none⟩=some (.int .i64 l)/\H<W.heap.size):=fun W m=>⟨by rw[(R.below m).rules.1];rfl,(R.below m).lt⟩;have Y:=Px fun W lo va (a:List ByteArray) (m:Below w.heap.size w W) (ha:P7 lo W va a) (hq:a.length<=1000000)=>CW W va _ a row ha (L.1.below m) hq (by omega);have y:=Px fun W (m:Below w.heap.size w W)=>O.below m;have ak:=Px fun W (m:Below w.heap.size w W)=>L.below m;have ac:=Px G;obtain⟨ao,an,rfl,_⟩:=O.facts;have HC:Hid (∀W i (h:i<c.length),Below w.heap.size w W->∃g C lo,ao=some ⟨g,0,none⟩/\g<W.heap.size/\W.cell? ⟨g,i*3,none⟩=some (.string c[i].1)/\W.cell? ⟨g,i*3+1,none⟩=some C/\P7 lo W C c[i].2.1):=fun W i h m=>by
  obtain⟨am,al,e,q⟩:=(O.below m).facts;cases e;obtain⟨g,C,lo,r1,r2,r3,r4,_,r6⟩:=q i h;exact⟨g,C,lo,r1,r2,r3,r4,r6⟩
 have t:Hid ((yK b row fs).isSome=true↔0<=gP b row fs):=by
  unfold Hid gP;cases yK b row fs with
  |none=>simp
  |some z=>simp
 have ai:Hid ((yK b row fs).isSome=true->xU fs c (b,row,l)=c):=fun q=>zb (zg q);have ae:Hid ((yK b row c).isSome=true->xU fs c (b,row,l)=c):=fun q=>zb (ze q);have S:Hid (¬(yK b row fs).isSome=true->¬(yK b row c).isSome=true->xU fs c (b,row,l)=c++[(b,row,l)]):=fun q1 q2=>za (by rintro(z|z);exact q1 z;exact q2 z);clear R hf O L K G;generalize xU fs c (b,row,l)=au at *;generalize (yK b row fs).isSome=fb at *;generalize gP b row fs=fi at *;by_cases J:0<=fi
 ·have I:=Px (ai.out (t.out.2 J));go_enter func123,ntmps123;go_wp2_with (first|(go_at_call 45;refine F.out.mono ?_;rintro e w1 ⟨rfl,n⟩))
  go_ret;exact⟨_,rfl,by rw[Hid,I.out];exact y.out _ n,zd.of n⟩
 ·have ag:Hid (¬fb=true):=fun q=>J (t.out.1 q);have H0:Hid (yK b row c=(yK b row (c.drop 0)).map (·+0)):=show yK b row c=_ by simp
  generalize yK b row c=r at *;go_enter func123,ntmps123;go_wp2_with (first|(go_at_call 45;refine F.out.mono ?_;rintro e w1 ⟨rfl,n⟩))
  go_loopw [10,11] (fun i _ wr=>∃k:Nat,k<=c.length/\i=.int .i64 k/\Hid (r=(yK b row (c.drop k)).map (·+k))/\Below w.heap.size w wr) (fun i _ _=>c.length-(intOf i).toNat)
  case atStart=>exact⟨0,zx _,rfl,H0,n⟩
  case round=>
   obtain⟨k,hk,rfl,T,d⟩:=hrel;by_cases B:k<c.length
   ·have E:(k:Int)<(c.length:Int):=by omega
    obtain⟨g,aq,aj,rfl,hg,c0,c1,hS⟩:=HC.out wr k B d;have q:=T.out;rw[BD B] at q;have D:=Px q;clear q T;have P:=Px (Y.out wr aj _ _ d hS (ac.out _ (zv B)));clear hS;generalize c[k].2.1=U at *;generalize c[k].1=fp at *;by_cases A:fp=b
    ·have X:=kL A;by_cases j:U=row
     ·have u:Hid (r=some k):=show r=some k by rw[D.out,zb ⟨A,j⟩];simp
      have I:=Px (ae.out (by rw[u.out];rfl));rw[show decide (U=row)=true by simp[j]] at P;clear D A j;go_wp2_with (first|(go_at_call 84;refine P.out.mono ?_;rintro e w3 ⟨rfl,p⟩))
      go_ret;exact⟨_,rfl,by rw[Hid,I.out];exact y.out _ (P3 d p),zd.of (P3 d p)⟩
     ·have u:Hid (r=(yK b row (c.drop (k+1))).map (·+(k+1))):=show r=_ by
       rw[D.out,za (fun z=>j z.2),Option.map_map];congr 1;funext z;simp only[Function.comp];omega
      rw[show decide (U=row)=false by simp[j]] at P;clear D A j;go_wp2_with (first|(go_at_call 84;refine P.out.mono ?_;rintro e w3 ⟨rfl,p⟩))
      exact⟨⟨k+1,by omega,by go_num,u,P3 d p⟩,by simp[intOf];omega⟩
    ·have X:=jp A;have u:Hid (r=(yK b row (c.drop (k+1))).map (·+(k+1))):=show r=_ by
      rw[D.out,za (fun z=>A z.1),Option.map_map];congr 1;funext z;simp only[Function.comp];omega
     clear D A;go_wp2;exact⟨⟨k+1,by omega,by go_num,u,d⟩,by simp[intOf];omega⟩
   ·have E:¬(k:Int)<(c.length:Int):=by omega
    have u:Hid (r=none):=show r=none by
     rw[T.out,ug (by omega)];rfl
    have I:=Px (S.out ag.out (by rw[u.out];simp));obtain⟨c1,ar⟩:=ah.out _ d;have hu:Below wr.heap.size wr (wr.alloc (.cells #[.string b,.slice N row.length s,.int .i64 l] 56)):=(zo _ _).alloc (zf _) _;have x:=P3 d hu;have HX:=Px (yS.one (f:=(b,row,l)) (Py.new wr (QP (b,row,l) (.slice N row.length s)).toArray 56) (ak.out _ x));have aa:=Px (y.out _ x);have M:=Px x;go_wp2_with (first|(at_builtin;refine oT rfl (.tmp 41) (.tmp 49) rfl _ _ _ _ rfl rfl aa.out HX.out (by simp;omega) (zT Z M.out.size) ?_;intro v8 w8 ab af))
    go_ret;exact⟨_,rfl,by rw[Hid,I.out];exact ab,(zd.of M.out).trans af⟩
end
section
open Go.Proofs.Tryz
variable {z:Nat}{cs:List zc}{t:List zh}
theorem fg.clr{w:World}{g o:Nat}{c:zc}{e:Option Addr}{cap:Nat}{b:Option Addr}{a:Nat}(h:fg w g o c e cap b a)(r:(Value.slice e c.head.args.length cap).ownBlock≠some z):Rt z w g o c:=by
 refine⟨h.lt,h.c1,⟨_,h.c2,h.args,r⟩,b,a,h.c3,fun j i=>?_⟩;obtain⟨f,p,d,q,m,n,l,k,s⟩:=h.body.cell j i;exact⟨f,q,m,n,l,_,k,s⟩
structure R0 (z:Nat) (w:World) (pb:Nat) (ao:Option Addr) (cap:Nat) (aop:Option Addr) (capp:Nat) (aok:Option Addr) (capk:Nat) (cs:List zc) (t:List zh):Prop where
 box:Py w pb #[.slice ao cs.length cap,.slice aop t.length capp,.slice aok t.length capk] 45
 cl:∀i (h:i<cs.length),∃g,ao=some ⟨g,0,none⟩/\Rt z w g (i*4) cs[i]
 names:P7 0 w (.slice aop t.length capp) (P2 t)
 strata:∀i (h:i<t.length),∃g,aok=some ⟨g,0,none⟩/\g<w.heap.size/\w.cell? ⟨g,i,none⟩=some (.int .i64 (t[i].qh:Nat))
theorem R0.below{w l:World}{pb:Nat}{m:Option Addr}{cap:Nat}{e:Option Addr}{a:Nat}{c:Option Addr}{b:Nat}{cs:List zc}{t:List zh}(h:R0 z w pb m cap e a c b cs t)(d:Below w.heap.size w l):R0 z l pb m cap e a c b cs t:=by
 refine⟨h.box.below d,fun i k=>?_,h.names.below d,fun i k=>?_⟩
 ·obtain⟨g,j,f⟩:=h.cl i k;exact⟨g,j,f.below d⟩
 ·obtain⟨g,j,f,n⟩:=h.strata i k;exact⟨g,j,xG f d.size,(zm d f n)⟩
theorem fd.read{lo:Nat}{s w:World}{pb:Nat}(E:fd lo s pb cs t)(hs:Q9 lo s w)(Y:z<lo∨s.heap.size<=z):∃m f d a c b,R0 z w pb m f d a c b cs t:=by
 obtain⟨_,cv,pv,X,k,C,l,D⟩:=E.same hs;obtain⟨m,f,rfl⟩:=C.qx;obtain⟨d,a,rfl⟩:=l.qx;obtain⟨c,b,rfl⟩:=zs D;have e:(P2 t).length=t.length:=by simp[P2]
 rw[e] at k l;refine⟨m,f,d,a,c,b,k,fun i j=>?_,yq l (zx _),fun i j=>?_⟩
 ·obtain⟨g,R,F,O,H,o,J⟩:=C.at i j;refine⟨g,o,J.clr ?_⟩;obtain⟨V,M,U,S,L,x,_,_⟩:=E;have h:=L.same V hs;rw[Py] at k h;rw[k] at h;simp only[zr,Obj.cells.injEq,Array.mk.injEq,ml,and_true] at h;have P:=h.1.symm;subst P;obtain⟨Z,v,n,B,r,A,N,_,_,T,_,I,_⟩:=x.cell i j;rw[o] at A;cases A;have p:lo<=g:=by
   obtain⟨W,G,_⟩:=x;rw[o] at G;exact xb G rfl
  have q:w.cell? ⟨g,i*4+2,none⟩=s.cell? ⟨g,i*4+2,none⟩:=by simp[World.cell?,hs g p N]
  rw[J.c2,T] at q;rw[zr] at q;rw[q];intro u;have a1:=xb I u;have a2:=yU I u;omega
 ·obtain⟨g,y,K,_,p,Q⟩:=yC D (by omega);cases K;refine⟨g,rfl,p,Q i _ ?_⟩;simp[j,Qb]
theorem tG(a:ua cs t){c:zc}(m:c∈cs):ff (P2 t) c.head.pred=(zM t c.head.pred:Nat)/\∃h:zM t c.head.pred<t.length,t[zM t c.head.pred].qh=x6 t c.head.pred:=by
 obtain⟨b,o,f,p⟩:=a.lit c m c.head (by simp[zl]);have j:c.head.pred∈P2 t:=by
  rw[←f,(dV a.rise b).2];exact z9.2 ⟨_,zv _,rfl⟩
 obtain⟨k,n,g⟩:=sX j;obtain⟨i,l⟩:=f6 g;have d:k<t.length:=by simpa [P2] using i
 have e:zM t c.head.pred=k:=by
  have q:=dV a.rise d;have:dN t k=c.head.pred:=by
   rw[q.2,←l];simp[P2]
  rw[←this];exact q.1
 refine⟨by unfold ff;rw[g,e],b,?_⟩;have q:=(DQ a.rise b).1;rw[←(dV a.rise b).2,f] at q;unfold x6;rw[q]
theorem wy{s i:Nat}(a:i<cs.length):yk t (cs.take (i+1)) s=if x6 t cs[i].head.pred=s/\0<cs[i].body.length then yk t (cs.take i) s++[cs[i]] else yk t (cs.take i) s:=by
 unfold yk;rw[yP a,ra];by_cases q:x6 t cs[i].head.pred=s/\0<cs[i].body.length
 ·rw[zb q,List.filter_cons_of_pos (by simpa using q),List.filter_nil]
 ·rw[za q,List.filter_cons_of_neg (by simpa using q),List.filter_nil,qE]
theorem F9{s i:Nat}(c:i<cs.length)(q:x6 t cs[i].head.pred=s/\0<cs[i].body.length):(yk t cs s).isEmpty=false:=by
 have:cs[i]∈yk t cs s:=xX.2 ⟨zv c,decide_eq_true q⟩;cases d:yk t cs s with
 |nil=>rw[d] at this;cases this
 |cons a b=>rfl
theorem G9(w:World)(pb:Nat)(A:Option Addr)(cap:Nat)(F:Option Addr)(p:Nat)(n:Option Addr)(k:Nat)(cs:List zc)(t:List zh)(s:Nat)(h:R0 z w pb A cap F p n k cs t)(B:ua cs t)(hl:cs.length<=1000)(ht:t.length<=1000)(o:∀c∈cs,x6 t c.head.pred<=1000)(hs:s<=1000):
  Calls prog 124 #[.pointer (some ⟨pb,0,none⟩),.int .i64 s] w fun e y=>e=.returned (.bool (!(yk t cs s).isEmpty))/\y=w:=by
 have G:Hid (∀c∈cs,Calls prog 111 #[.pointer (some ⟨pb,0,none⟩),.string c.head.pred] w fun e y=>e=.returned (.int .i64 (zM t c.head.pred:Nat))/\y=w):=fun c J=>by
  have:=mz w pb _ _ _ (P2 t) c.head.pred h.box h.names (by simp[P2];omega);rw[(tG B J).1] at this;exact this
 have L:Hid (∀c∈cs,zM t c.head.pred<t.length/\∃g,n=some ⟨g,0,none⟩/\g<w.heap.size/\w.cell? ⟨g,zM t c.head.pred,none⟩=some (.int .i64 (x6 t c.head.pred:Nat))):=fun c J=>by
  obtain⟨l,j⟩:=(tG B J).2;obtain⟨g,r1,W,V⟩:=h.strata _ l;exact⟨l,g,r1,W,by rw[V,j]⟩
 have C:Hid (∀i (d:i<cs.length),∃g,A=some ⟨g,0,none⟩/\g<w.heap.size/\w.cell? ⟨g,i*4+1,none⟩=some (.string cs[i].head.pred)/\∃v u,w.cell? ⟨g,i*4+3,none⟩=some (.slice v cs[i].body.length u)):=fun i d=>by
  obtain⟨g,l,j⟩:=h.cl i d;obtain⟨v,u,U,_⟩:=j.body;exact⟨g,l,j.lt,j.pred,v,u,U⟩
 have r:=Px o;have b0:w.cell? ⟨pb,0,none⟩=some (.slice A cs.length cap):=by rw[h.box.rules.1];rfl
 have b2:w.cell? ⟨pb,2,none⟩=some (.slice n t.length k):=by rw[h.box.rules.1];rfl
 have Z:=h.box.lt;have HE:Hid (yk t cs s=yk t (cs.take cs.length) s):=by rw[Hid,vf]
 have x:Hid (∀i (d:i<cs.length),x6 t cs[i].head.pred=s->0<cs[i].body.length->(yk t cs s).isEmpty=false):=fun i d l j=>F9 d ⟨l,j⟩;have N:Hid (∀i (d:i<cs.length),¬(x6 t cs[i].head.pred=s/\0<cs[i].body.length)->yk t (cs.take i) s=[]->yk t (cs.take (i+1)) s=[]):=fun i d l j=>by rw[wy d,za l,j]
 clear h B o;generalize yk t cs s=Y at *;go_enter func124,ntmps124;go_wp2;go_loopw [5,6] (fun D _ wr=>∃i:Nat,i<=cs.length/\D=.int .i64 i/\Hid (yk t (cs.take i) s=[])/\wr=w) (fun D _ _=>cs.length-(intOf D).toNat)
 case atStart=>exact⟨0,zx _,rfl,rfl,rfl⟩
 case round=>
  obtain⟨i,d,rfl,M,E⟩:=hrel;obtain rfl:=E.symm;by_cases f:i<cs.length
  ·have H:(i:Int)<(cs.length:Int):=by omega
   obtain⟨g,rfl,hg,c1,v,u,c3⟩:=C.out i f;have a:=zv f;obtain⟨X,gk,rfl,ac,ck⟩:=L.out _ a;have I:=Px (G.out _ a);have ab:=r.out _ a;have aa:((zM t cs[i].head.pred:Nat):Int)<(t.length:Int):=by omega
   have H1:=Px (x.out i f);have S:=Px (N.out i f);clear a;generalize cs[i].body.length=bl at *;generalize x6 t cs[i].head.pred=Q at *;generalize zM t cs[i].head.pred=fk at *;generalize cs[i].head.pred=pr at *;by_cases R:Q=s
   ·subst R;by_cases P:0<bl
    ·have K:(0:Int)<(bl:Int):=by omega
     have m:=Px (H1.out rfl P);go_wp2_with (first|(go_at_call 111;refine I.out.mono ?_;rintro e O ⟨rfl,b⟩;obtain rfl:=b.symm))
     go_ret;exact⟨by rw[m.out];rfl,rfl⟩
    ·have K:¬(0:Int)<(bl:Int):=by omega
     have m:=Px (S.out (fun q=>P q.2) M.out);go_wp2_with (first|(go_at_call 111;refine I.out.mono ?_;rintro e O ⟨rfl,b⟩;obtain rfl:=b.symm))
     go_roundw
     case rel=>exact⟨i+1,by omega,by go_num,m,trivial⟩
     case measure=>simp[intOf];omega
   ·have T:¬((Q:Int)=(s:Int)):=by omega
    have m:=Px (S.out (fun q=>R q.1) M.out);go_wp2_with (first|(go_at_call 111;refine I.out.mono ?_;rintro e O ⟨rfl,b⟩;obtain rfl:=b.symm))
    go_roundw
    case rel=>exact⟨i+1,by omega,by go_num,m,trivial⟩
    case measure=>simp[intOf];omega
  ·have H:¬(i:Int)<(cs.length:Int):=by omega
   obtain rfl:i=cs.length:=by omega
   have m:=Px (HE.out.trans M.out);go_wp2;go_ret;exact⟨by rw[m.out];rfl,rfl⟩
end
section
open Go.Proofs.Tryz
variable {z:Nat}
theorem BF(fs l:List zE)(f:zE):l.length<=(xU fs l f).length:=by
 unfold xU;split<;>simp
theorem tA{α:Type}(g:List zE->α->List zE)(b:∀l x,l.length<=(g l x).length):∀(a:List α) (l:List zE),l.length<=(a.foldl g l).length
 |[],_=>zf _
 |x::a,l=>zT (b l x) (tA g b a (g l x))
theorem F6{α:Type}(g:List zE->α->List zE)(b:∀l x,l.length<=(g l x).length)(a:List α)(l:List zE)(k:Nat):((a.take k).foldl g l).length<=(a.foldl g l).length:=by
 conv=>rhs;rw[←qU k a,js]
 exact tA g b _ _
theorem N0(fs:List zE)(k:Nat)(a:List zc)(l:List zE):l.length<=(xx fs k a l).length:=tA _ (fun l _=>tA _ (fun l _=>BF fs l _) _ l) a l
theorem oC(fs:List zE)(k:Nat)(b a:List zc)(l:List zE):xx fs k (b++a) l=xx fs k a (xx fs k b l):=by
 unfold xx;rw[js]
theorem Gu(fs:List zE)(k:Nat)(t:List zh)(cs:List zc)(s i:Nat):(xx fs k (yk t (cs.take i) s) []).length<=(xx fs k (yk t cs s) []).length:=by
 have:yk t cs s=yk t (cs.take i) s++yk t (cs.drop i) s:=by
  unfold yk;rw[←ra,qU]
 rw[this,oC];exact N0 _ _ _ _
theorem wP{fs:List zE}{h:zj}{body:List zj}:∀(rest:List zj) (B:yx) (r:List ByteArray),r∈ye fs h body rest B->r.length=h.args.length
 |[],B,r,a=>by
  unfold ye at a;split at a
  ·cases a
  ·rw[xO.1 a];simp[y9]
 |l::rest,B,r,a=>by
  unfold ye at a;split at a
  ·exact wP rest B r a
  ·obtain⟨f,_,a⟩:=uF.1 a;split at a
   ·split at a
    ·cases a
    ·exact wP rest _ r a
   ·cases a
theorem Gf{fs l:List zE}{f:zE}{n:Nat}(b:∀g∈l,g.2.1.length<=n)(c:f.2.1.length<=n):∀g∈xU fs l f,g.2.1.length<=n:=by
 intro g a;unfold xU at a;split at a
 ·exact b g a
 ·rcases zX.1 a with q|q
  ·exact b g q
  ·rw[xO.1 q];exact c
theorem ww{fs:List zE}{n:Nat}{p:ByteArray}{k:Nat}:∀(rs:List (List ByteArray)) (l:List zE),(∀g∈l,g.2.1.length<=n)->(∀r∈rs,r.length<=n)->∀g∈rs.foldl (fun l r=>xU fs l (p,r,k)) l,g.2.1.length<=n
 |[],_,a,_=>a
 |r::rs,l,a,b=>ww rs _ (Gf a (b r (by simp))) (fun x c=>b x (by simp[c]))
theorem Mp(w:World)(pb mb n s:Nat)(fv:Value)(ao:Option Addr)(cap:Nat)(aC:Option Addr)(aj:Nat)(ah:Option Addr)(P:Nat)(cs:List zc)(t:List zh)(fs:List zE)(h:R0 z w pb ao cap aC aj ah P cs t)(hz:z<w.heap.size)(hm:Py w mb #[fv,.int .i64 n] 54)(hf:mo w fv fs)(hx:ua cs t)(hl:cs.length<=1000)(ht:t.length<=1000)(az:∀c∈cs,x6 t c.head.pred<=1000)(hs:s<=1000)(an:∀c∈cs,c.body.length<=30)(ae:∀c∈cs,∀l∈zl c,l.args.length<=3/\∀a∈l.args,0<a.size)(au:fs.length<=10000000)(aa:∀f∈fs,f.2.1.length<=1000000)(hF:pG cs fs)(aq:(xx fs n (yk t cs s) []).length<1000000000000)(Y:∀c∈cs,(ye fs c.head c.body c.body []).length<=1000000000000):
  Calls prog 125 #[.pointer (some ⟨pb,0,none⟩),.pointer (some ⟨mb,0,none⟩),.int .i64 s] w fun e A=>∃v,e=.returned v/\Hid (yS z w.heap.size A v (xx fs n (yk t cs s) []))/\Hid (Below w.heap.size w A):=by
 have aV:Hid (∀W c,Below w.heap.size w W->c∈cs->Calls prog 111 #[.pointer (some ⟨pb,0,none⟩),.string c.head.pred] W fun e A=>e=.returned (.int .i64 (zM t c.head.pred:Nat))/\A=W):=fun W c m hc=>by
  have:=mz W pb _ _ _ (P2 t) c.head.pred (h.below m).box (h.below m).names (by simp[P2];omega);rw[(tG hx hc).1] at this;exact this
 have aH:Hid (∀W c,Below w.heap.size w W->c∈cs->zM t c.head.pred<t.length/\∃g,ah=some ⟨g,0,none⟩/\g<W.heap.size/\W.cell? ⟨g,zM t c.head.pred,none⟩=some (.int .i64 (x6 t c.head.pred:Nat))):=fun W c m hc=>by
  obtain⟨D,F⟩:=(tG hx hc).2;obtain⟨g,r1,r2,r3⟩:=(h.below m).strata _ D;exact⟨D,g,r1,r2,by rw[r3,F]⟩
 have a4:Hid (∀W i (C:i<cs.length),Below w.heap.size w W->∃g,ao=some ⟨g,0,none⟩/\g<W.heap.size/\g<w.heap.size/\Rt z W g (i*4) cs[i]):=fun W i C m=>by
  obtain⟨g,D,F⟩:=h.cl i C;exact⟨g,D,xG F.lt m.size,F.lt,F.below m⟩
 have aY:Hid (∀W,Below w.heap.size w W->W.cell? ⟨pb,0,none⟩=some (.slice ao cs.length cap)/\W.cell? ⟨pb,2,none⟩=some (.slice ah t.length P)/\pb<W.heap.size):=fun W m=>⟨by rw[(h.below m).box.rules.1];rfl,by rw[(h.below m).box.rules.1];rfl,(h.below m).box.lt⟩;have al:Hid (∀W i (C:i<cs.length) g,Below w.heap.size w W->Rt z W g (i*4) cs[i]->Calls prog 166 #[.pointer (some ⟨mb,0,none⟩),.pointer (some ⟨g,i*4,none⟩),.int .i64 0,.agg #[.slice none 0 0,.slice none 0 0]] W fun e A=>∃v,e=.returned v/\Hid (uP z W.heap.size A v (ye fs cs[i].head cs[i].body cs[i].body []))/\Hid (Below W.heap.size W A)):=fun W i C g m hc=>by
  have j:=zv C;exact DY mb n g (i*4) fv cs[i] fs (an _ j) (ae _ j) au aa (fun f hf l hl e=>hF.jh f hf _ j l hl e.symm) hF.ne cs[i].body 0 W _ _ [] (zx _) rfl (by simp) (fun v x q=>by cases q) (Y _ j) ⟨hm.below m,hf.below m,hc,P7.nil W,P7.nil W,xG hz m.size⟩
 have T:=Px fun W M rv ay row (ls:List zE) (m:Below w.heap.size w W) (h1:yS z w.heap.size W M ls) (h2:QL z W rv row) (h3:ls.length<1000000000000) (h4:row.length<=1000000) (h5:(∀f∈ls,f.2.1.length<=1000000))=>D6 W mb n fv M rv fs ls ay row (hm.below m) (hf.below m) h1 h2 au h3 h4 aa h5 m.size;have a5:=Px az;have HE:Hid (xx fs n (yk t cs s) []=xx fs n (yk t (cs.take cs.length) s) []):=by rw[Hid,vf]
 have aN:=Px fun i=>Nat.lt_of_le_of_lt (Gu fs n t cs s i) aq;have a8:Hid (∀i (C:i<cs.length),x6 t cs[i].head.pred=s->0<cs[i].body.length->xx fs n (yk t (cs.take (i+1)) s) []=(ye fs cs[i].head cs[i].body cs[i].body []).foldl (fun l r=>xU fs l (cs[i].head.pred,r,n)) (xx fs n (yk t (cs.take i) s) [])):=fun i C D F=>by
  rw[wy C,zb ⟨D,F⟩,oC];rfl
 have aI:Hid (∀i (C:i<cs.length),¬(x6 t cs[i].head.pred=s/\0<cs[i].body.length)->xx fs n (yk t (cs.take (i+1)) s) []=xx fs n (yk t (cs.take i) s) []):=fun i C D=>by rw[wy C,za D]
 have aT:Hid (∀i (C:i<cs.length),∀r∈ye fs cs[i].head cs[i].body cs[i].body [],r.length<=1000000):=fun i C r hr=>by
  rw[wP _ _ r hr];have:=(ae _ (zv C) cs[i].head (by simp[zl])).1;omega
 have aA:=Px Y;clear h hm hf hx az an ae aa hF aq Y;generalize xx fs n (yk t cs s) []=bm at *;go_enter func125,ntmps125;go_wp2;go_loopw [7,8,9,10,11,12] (fun v7 v8 _ _ _ _ wr=>∃i:Nat,i<=cs.length/\v8=.int .i64 i/\Hid (yS z w.heap.size wr v7 (xx fs n (yk t (cs.take i) s) []))/\Hid (∀f∈xx fs n (yk t (cs.take i) s) [],f.2.1.length<=1000000)/\Hid (Below w.heap.size w wr)) (fun _ v8 _ _ _ _ _=>cs.length-(intOf v8).toNat)
 case atStart=>exact⟨0,zx _,rfl,yS.nil _ _,fun f hf=>(by cases hf),zo _ _⟩
 case round=>
  obtain⟨i,C,rfl,J,N,o⟩:=hrel;obtain⟨b0,b2,aX⟩:=aY.out _ o.out;by_cases B:i<cs.length
  ·have aW:(i:Int)<(cs.length:Int):=by omega
   have j:=zv B;obtain⟨g,rfl,hg,bd,I⟩:=a4.out _ i B o.out;have HC:=Px I;obtain⟨aZ,gk,rfl,aJ,ck⟩:=aH.out _ _ o.out j;have HP:=Px (aV.out _ _ o.out j);have bh:=a5.out _ j;have bg:((zM t cs[i].head.pred:Nat):Int)<(t.length:Int):=by omega
   have c1:=I.pred;obtain⟨ab,cb,c3⟩:∃ab cb,wr.cell? ⟨g,i*4+3,none⟩=some (.slice ab cs[i].body.length cb):=by
    obtain⟨ab,cb,c3,_⟩:=I.body;exact⟨ab,cb,c3⟩
   have H1:=Px (a8.out i B);have H2:=Px (aI.out i B);have am:=Px (aN.out (i+1));have a1:=Px (al.out wr i B g o.out I);have ac:=Px (aT.out i B);have aO:=Px (aA.out _ j);have a6:Hid (∀W,Below w.heap.size w W->g<W.heap.size/\W.cell? ⟨g,i*4+1,none⟩=some (.string cs[i].head.pred)):=fun W m=>by
    obtain⟨g',e,D,_,F⟩:=a4.out W i B m;cases e;exact⟨D,F.pred⟩
   clear j I HC;obtain⟨nx,af⟩:∃nx,xx fs n (yk t (cs.take (i+1)) s) []=nx:=⟨_,rfl⟩;rw[af] at H1 H2 am;have E:=Px af;clear af;generalize xx fs n (yk t (cs.take i) s) []=Q at *;generalize ye fs cs[i].head cs[i].body cs[i].body []=d at *;generalize cs[i].body.length=bl at *;generalize x6 t cs[i].head.pred=sk at *;generalize zM t cs[i].head.pred=fk at *;generalize cs[i].head.pred=G at *;by_cases h1:sk=s
   ·subst h1;by_cases h2:0<bl
    ·have aD:¬((bl:Int)=0):=by omega
     have HN:=Px (H1.out rfl h2);have bf:=aO.out;go_upto_region 9 with (first|(go_at_call 166;refine a1.out.mono ?_;rintro e w2 ⟨aM,rfl,Z,ad⟩)|(go_at_call 111;refine HP.out.mono ?_;rintro e w1 ⟨rfl,L⟩;obtain rfl:=L.symm))
     have ar:=Px (J.out.below ad.out);have aw:=Px (P3 o.out ad.out);clear HP a1 b0 b2 aX hg aJ ck c1 c3 H1 H2 J ad o;obtain⟨H,u,a2⟩:∃H u,aM=.slice H d.length u:=by
      obtain⟨_,_,q,_⟩:=Z.out;exact zs q
     subst a2;go_wp2;go_loopw [7,12] (fun v7 V wz=>∃(k:Nat) (M:Value),k<=d.length/\V=.int .i64 k/\v7=M/\Hid (yS z w.heap.size wz M ((d.take k).foldl (fun l r=>xU fs l (G,r,n)) Q))/\Hid (uP z 0 wz (.slice H d.length u) d)/\Hid (Below w.heap.size w wz)) (fun _ V _=>d.length-(intOf V).toNat)
     case atStart=>
      obtain⟨y,D,F,q3⟩:=Z.out;exact⟨0,_,zx _,rfl,rfl,ar,⟨y,D,yq F (zx _),q3⟩,aw⟩
     case round=>
      clear ar aw Z;obtain⟨k,M,hk,rfl,a0,ap,ak,X⟩:=hrel;obtain rfl:=a0.symm;clear a0;by_cases ai:k<d.length
      ·have a9:(k:Int)<(d.length:Int):=by omega
       obtain⟨y,r1,r2,r3⟩:=ak.out;obtain⟨O,bb,aK,_,bc,S⟩:=yC r2 (by omega);cases aK;have ag:k<y.length:=by omega
       have bk:wr.cell? ⟨O,k,none⟩=some y[k]:=S k _ (by simp[ag]);obtain⟨hg,c1⟩:=a6.out _ X.out;have aQ:Hid ((d.take (k+1)).foldl (fun l r=>xU fs l (G,r,n)) Q=xU fs ((d.take k).foldl (fun l r=>xU fs l (G,r,n)) Q) (G,d[k],n)):=by
        rw[Hid,yP ai,js];rfl
       have R:((d.take k).foldl (fun l r=>xU fs l (G,r,n)) Q).length<1000000000000:=by
        refine Nat.lt_of_le_of_lt (F6 _ (fun l _=>BF fs l _) d Q k) ?_;rw[←HN.out];exact am.out
       have av:=ww (fs:=fs) (p:=G) (k:=n) (d.take k) Q N.out (fun r hr=>ac.out r (fU hr));have aL:Hid (∀W,Below wr.heap.size wr W->Calls prog 123 #[.pointer (some ⟨mb,0,none⟩),M,.string G,y[k]] W fun e A=>∃v,e=.returned v/\Hid (yS z w.heap.size A v (xU fs ((d.take k).foldl (fun l r=>xU fs l (G,r,n)) Q) (G,d[k],n)))/\Hid (uP z 0 A (.slice (some ⟨O,0,none⟩) d.length u) d)/\Hid (Below w.heap.size w A)/\A.cell? ⟨O,k,none⟩=some y[k]/\A.cell? ⟨g,i*4+1,none⟩=some (.string G)):=fun W m=>by
        have U:=P3 X.out m;have a3:=ap.out.below m;refine(T.out W M y[k] G d[k] _ U a3 ((r3 k ai ag).below m) R (ac.out _ (zv ai)) av).mono ?_;rintro e A ⟨v,D,F,q3⟩;obtain⟨_,_,K,_⟩:=id a3;have hS:=q3.out;have ax:=hS.below (fun b m=>xb K (yw m)) U.size;have aR:=ak.out.below m;have a7:=U.trans ax;have aU:=yB (zC r2 m) hS (PN.own K) (by decide);obtain⟨g',ba,e2,_,bi,aP⟩:=yC aU (by omega);cases e2;exact⟨v,D,F,aR.saveT hS (PN.own K) (by decide) (by decide),a7,aP k _ (by simp[ag]),(a6.out _ a7).2⟩
       clear r2 r3 S R av T;generalize y[k]=rv at *;go_upto_region 12 with fail
       go_region_held3 (fun A=>A.cell? ⟨O,k,none⟩=some rv/\A.cell? ⟨g,i*4+1,none⟩=some (.string G)) (first|go_keep|(go_simp;done)) (first|(go_at_call 123;refine(aL.out _ (by exact(by repeat'(first|with_reducible(first|apply zR|assumption|apply zN|apply zA|apply zD|apply zS)|go_size)))).mono ?_;rintro e w5 ⟨v5,rfl,aF,aG,aE,z0,z1⟩))
       go_wp2;go_roundw
       case rel=>exact⟨k+1,_,by omega,by go_num,rfl,by rw[aQ.out];exact aF,aG,aE⟩
       case measure=>simp[intOf];omega
      ·have a9:¬(k:Int)<(d.length:Int):=by omega
       obtain rfl:k=d.length:=by omega
       have aB:Hid (yS z w.heap.size wr M nx):=by
        have q:=ap.out;rw[vf,←HN.out] at q;exact q
       have aS:Hid (∀f∈nx,f.2.1.length<=1000000):=by
        rw[HN.out];exact ww d Q N.out ac.out
       go_wp2;go_roundw
       case rel=>exact⟨i+1,by omega,by go_num,by rw[E.out];exact aB,by rw[E.out];exact aS,X⟩
       case measure=>simp[intOf];omega
    ·have aD:(bl:Int)=0:=by omega
     have HF:=Px (H2.out (fun q=>h2 q.2));go_wp2_with (first|(go_at_call 111;refine HP.out.mono ?_;rintro e w1 ⟨rfl,L⟩;obtain rfl:=L.symm))
     go_roundw
     case rel=>exact⟨i+1,by omega,by go_num,by rw[E.out,HF.out];exact J,by rw[E.out,HF.out];exact N,o⟩
     case measure=>simp[intOf];omega
   ·have be:¬((sk:Int)=(s:Int)):=by omega
    have HF:=Px (H2.out (fun q=>h1 q.1));go_wp2_with (first|(go_at_call 111;refine HP.out.mono ?_;rintro e w1 ⟨rfl,L⟩;obtain rfl:=L.symm))
    go_roundw
    case rel=>exact⟨i+1,by omega,by go_num,by rw[E.out,HF.out];exact J,by rw[E.out,HF.out];exact N,o⟩
    case measure=>simp[intOf];omega
  ·have aW:¬(i:Int)<(cs.length:Int):=by omega
   obtain rfl:i=cs.length:=by omega
   go_wp2;go_ret;exact⟨_,rfl,by rw[Hid,HE.out];exact J.out,o⟩
def nA(z:Nat)(w:World)(b:Option (List zE×Nat))(e:Ending)(a:World):Prop:=match b with
 |none=>e=.returned (.pointer none)/\Hid (Below w.heap.size w a)
 |some (L,k)=>∃c,e=.returned (.pointer (some ⟨c,0,none⟩))/\Hid (∃d,w.heap.size<=c/\Py a c #[d,.int .i64 k] 54/\yS z w.heap.size a d L)/\Hid (Below w.heap.size w a)
structure QU (z:Nat) (w wr:World) (mb:Nat) (fv:Value) (L:List zE) (k:Nat):Prop where
 hmb:w.heap.size<=mb
 box:Py wr mb #[fv,.int .i64 k] 54
 fl:yS z w.heap.size wr fv L
 bel:Below w.heap.size w wr
theorem QU.below{w wr c:World}{d:Nat}{b:Value}{L:List zE}{k:Nat}(h:QU z w wr d b L k)(a:Below wr.heap.size wr c):QU z w c d b L k:=⟨h.hmb,h.box.below a,h.fl.below a,P3 h.bel a⟩
theorem QU.up{w wr:World}{a:Nat}{b:Value}{L:List zE}{k:Nat}(h:QU z w wr a b L k):QU z w (wr.setCell ⟨a,1,none⟩ (.int .i64 ((k:Int)+1))) a b L (k+1):=by
 refine⟨h.hmb,?_,h.fl.saveT (zd.set _ _ _ _) (PN.box h.box) (by decide) (by decide),h.bel.setCell h.hmb _⟩;have:=h.box.set 1 (.int .i64 ((k:Int)+1));simpa using this
theorem QU.put{w wr:World}{e:Nat}{h a:Value}{g:List zE}{k:Nat}(c:w.heap.size<=e)(b:Py wr e #[h,.int .i64 k] 54)(f:yS z w.heap.size wr a g)(d:Below w.heap.size w wr):QU z w (wr.setCell ⟨e,0,none⟩ a) e a g k:=by
 refine⟨c,?_,f.saveT (zd.set _ _ _ _) (PN.box b) (by decide) (by decide),d.setCell c _⟩;have:=b.set 0 a;simpa using this
theorem AK{cs:List zc}{i:Nat}(a:i<cs.length):xC (cs.take (i+1))=if cs[i].body.length=0 then xU [] (xC (cs.take i)) (cs[i].head.pred,cs[i].head.args,0) else xC (cs.take i):=by
 unfold xC;rw[yP a,ra];by_cases q:cs[i].body.length=0
 ·rw[zb q,List.filter_cons_of_pos (by simpa using q),List.filter_nil,vC,js];rfl
 ·rw[za q,List.filter_cons_of_neg (by simpa using q),List.filter_nil,qE]
theorem J9(cs:List zc):(xC cs).length<=cs.length/\∀f∈xC cs,∃c∈cs,f=(c.head.pred,c.head.args,0):=by
 have:∀i,i<=cs.length->(xC (cs.take i)).length<=i/\∀f∈xC (cs.take i),∃c∈cs,f=(c.head.pred,c.head.args,0):=by
  intro i;induction i with
  |zero=>intro _;exact⟨by simp[xC],fun f a=>by simp[xC] at a⟩
  |succ i d=>
   intro g;obtain⟨e,b⟩:=d (by omega);rw[AK (by omega)];split
   ·unfold xU;split
    ·exact⟨by omega,b⟩
    ·refine⟨by simp;omega,fun f a=>?_⟩;rcases zX.1 a with q|q
     ·exact b f q
     ·exact⟨cs[i],zv _,xO.1 q⟩
   ·exact⟨by omega,b⟩
 have h:=this cs.length (zf _);rw[vf] at h;exact h
theorem JB(w:World)(pb mr mx:Nat)(ao:Option Addr)(cap:Nat)(Y:Option Addr)(B:Nat)(aB:Option Addr)(J:Nat)(cs:List zc)(t0 t:List zh)(hz:z<w.heap.size)(h:R0 z w pb ao cap Y B aB J cs t)(hp:PI cs t0 t)(hx:ua cs t)(hl:cs.length<=1000)(ht:t.length<=1000)(aA:∀c∈cs,x6 t c.head.pred<=1000)(aI:∀c∈cs,c.body.length<=30)(ag:∀c∈cs,∀l∈zl c,l.args.length<=3/\∀a∈l.args,0<a.size)(b2:mr<=1048576)(b8:mx<=1048576)(ad:∀L D,Qn t (zp cs) L D->L.length<1000000000000/\∀c∈cs,(ye L c.head c.body c.body []).length<=1000000000000):
  Calls prog 76 #[.pointer (some ⟨pb,0,none⟩),.int .i64 mr,.int .i64 mx] w fun e I=>nA z w (ykp t cs mr mx) e I:=by
 have b3:=Px fun W (o:Below w.heap.size w W)=>h.below o;have aE:Hid (∀W,Below w.heap.size w W->W.cell? ⟨pb,0,none⟩=some (.slice ao cs.length cap)/\W.cell? ⟨pb,1,none⟩=some (.slice Y t.length B)/\pb<W.heap.size):=fun W o=>⟨by rw[(h.below o).box.rules.1];rfl,by rw[(h.below o).box.rules.1];rfl,(h.below o).box.lt⟩;have aW:Hid (∀W i (hi:i<cs.length),Below w.heap.size w W->∃g av ab cb,ao=some ⟨g,0,none⟩/\g<W.heap.size/\g<w.heap.size/\W.cell? ⟨g,i*4+1,none⟩=some (.string cs[i].head.pred)/\W.cell? ⟨g,i*4+2,none⟩=some av/\QL z W av cs[i].head.args/\W.cell? ⟨g,i*4+3,none⟩=some (.slice ab cs[i].body.length cb)):=fun W i hi o=>by
  obtain⟨g,q1,q2⟩:=h.cl i hi;have q3:=q2.below o;obtain⟨av,q4,q5⟩:=q3.args;obtain⟨ab,cb,q6,_⟩:=q3.body;exact⟨g,av,ab,cb,q1,q3.lt,q2.lt,q3.pred,q4,q5,q6⟩
 have bi:=Px fun W s o hs=>G9 W pb ao cap Y B aB J cs t s (h.below o) hx hl ht aA hs;have bn:Hid (∀W s mb E L D k,QU z w W mb E L k->Qn t (zp cs) L D->L.length<=1048576->s<=1000->Calls prog 125 #[.pointer (some ⟨pb,0,none⟩),.pointer (some ⟨mb,0,none⟩),.int .i64 (s:Nat)] W fun e I=>∃v,e=.returned v/\Hid (yS z W.heap.size I v (xx L k (yk t cs s) []))/\Hid (Below W.heap.size W I)):=fun W s mb E L D k hM hR hL hs=>by
  have bp:=(ad _ _ (hR.round hp hx s k).1).1;rw[yv] at bp;exact Mp W pb mb k s E ao cap Y B aB J cs t L (h.below hM.bel) (xG hz hM.bel.size) hM.box hM.fl.facts hx hl ht aA hs aI ag (by omega) (fun f hf=>by
   obtain⟨p,bm,r,m,_,rfl⟩:=(hR.mem f).1 hf;simp only[tx];have:=hx.small p bm;omega) (hR.fs hx) (by omega) (ad _ _ hR).2
 have aO:=Px ag;have a8:Hid (xC cs=xC (cs.take cs.length)):=by rw[Hid,vf]
 have az:Hid (∀i,(xC (cs.take i)).length<=1000/\∀f∈xC (cs.take i),f.2.1.length<=1000000):=fun i=>by
  obtain⟨q1,q2⟩:=J9 (cs.take i);refine⟨by simp at q1;omega,fun f hf=>?_⟩;obtain⟨c,hc,rfl⟩:=q2 f hf;have:=(ag c (fU hc) c.head (by simp[zl])).1;show c.head.args.length<=_;omega
 have aH:Hid (∀i (hi:i<cs.length),xC (cs.take (i+1))=if cs[i].body.length=0 then xU [] (xC (cs.take i)) (cs[i].head.pred,cs[i].head.args,0) else xC (cs.take i)):=fun i hi=>AK hi;have aS:=Px (BS hx);have aG:=Px fun L D s k (q:Qn t (zp cs) L D)=>(q.round hp hx s k).1;have be:=Px fun L D q=>(ad L D q).1;have aT:Hid (ykp t cs mr mx=if (xC cs).length<=mr then zyu t cs mr mx t.length 0 0 (xC cs) else none):=rfl;obtain⟨b0,b1,X⟩:=aE.out w (zo _ _);clear h hp hx aA aI ag ad;generalize ykp t cs mr mx=d at *;go_enter func76,ntmps76;go_wp2;have P:Hid (QU z w (w.alloc (.cells #[.slice none 0 0,.int .i64 0] 54)) w.heap.size (.slice none 0 0) [] 0):=⟨zf _,Py.new _ _ _,yS.nil _ _,(zo _ _).alloc (zf _) _⟩;generalize bq:w.alloc (.cells #[.slice none 0 0,.int .i64 0] 54)=wA at *;clear bq b0 b1 X;go_loopw [8,9,10] (fun v8 v9 _ wr=>∃(i:Nat) (lv:Value),i<=cs.length/\v9=.int .i64 i/\v8=lv/\Hid (yS z wA.heap.size wr lv (xC (cs.take i)))/\Hid (Below wA.heap.size wA wr)) (fun _ v9 _ _=>cs.length-(intOf v9).toNat)
 case atStart=>exact⟨0,_,zx _,rfl,rfl,yS.nil _ _,zo _ _⟩
 case round=>
  obtain⟨i,lv,hi,rfl,ak,ai,y⟩:=hrel;obtain rfl:=ak.symm;clear ak;have ah:=Px (P3 P.out.bel y.out);obtain⟨b0,b1,X⟩:=aE.out _ ah.out;by_cases a0:i<cs.length
  ·have bt:(i:Int)<(cs.length:Int):=by omega
   obtain⟨g,av,ab,cb,rfl,hg,bc,c1,c2,a2,c3⟩:=aW.out _ i a0 ah.out;have aa:=Px (aH.out i a0);obtain⟨aP,a4⟩:=az.out i;have b5:=(aO.out _ (zv a0) cs[i].head (by simp[zl])).1;by_cases o:cs[i].body.length=0
   ·have aq:Hid (xC (cs.take (i+1))=xU [] (xC (cs.take i)) (cs[i].head.pred,cs[i].head.args,0)):=by rw[Hid,aa.out,zb o]
    rw[o] at c3;have bo:Hid (∀W,Below wr.heap.size wr W->Calls prog 123 #[.pointer (some ⟨w.heap.size,0,none⟩),lv,.string cs[i].head.pred,av] W fun e I=>∃v,e=.returned v/\Hid (yS z wA.heap.size I v (xU [] (xC (cs.take i)) (cs[i].head.pred,cs[i].head.args,0)))/\Hid (Below wA.heap.size wA I)/\I.cell? ⟨g,i*4+1,none⟩=some (.string cs[i].head.pred)/\I.cell? ⟨g,i*4+2,none⟩=some av):=fun W o=>by
     have af:=P3 y.out o;have aV:=ai.out.below o;refine(D6 W w.heap.size 0 _ lv av [] (xC (cs.take i)) cs[i].head.pred cs[i].head.args (P.out.box.below af) (yS.nil (z:=z) 0 W).facts aV (a2.below o) (by simp) (by omega) (by omega) (fun f hf=>by cases hf) a4 af.size).mono ?_;rintro e I ⟨v,q1,q2,q3⟩;obtain⟨_,_,aU,_⟩:=id aV;have aC:=af.trans (q3.out.below (fun b o=>xb aU (yw o)) af.size);have aj:=xG bc P.out.bel.size;have k1:=(y.out.cell (p:=⟨g,i*4+1,none⟩) aj).symm.trans c1;have k2:=(y.out.cell (p:=⟨g,i*4+2,none⟩) aj).symm.trans c2;exact⟨v,q1,q2,aC,(zm aC aj k1),(zm aC aj k2)⟩
    clear a2 aa aP a4;generalize xU [] (xC (cs.take i)) (cs[i].head.pred,cs[i].head.args,0)=nx at *;generalize cs[i].head.pred=pr at *;go_upto_region 8 with fail
    go_region_held3 (fun I=>I.cell? ⟨g,i*4+1,none⟩=some (.string pr)/\I.cell? ⟨g,i*4+2,none⟩=some av) (first|go_keep|(go_simp;done)) (first|(go_at_call 123;refine(bo.out _ (by exact(by repeat'(first|with_reducible(first|apply zR|assumption|apply zN|apply zA|apply zD|apply zS)|go_size)))).mono ?_;rintro e w5 ⟨v5,rfl,bf,bb,z0,z1⟩))
    go_wp2;go_roundw
    case rel=>exact⟨i+1,_,by omega,by go_num,rfl,by rw[aq.out];exact bf,bb⟩
    case measure=>simp[intOf];omega
   ·have aq:Hid (xC (cs.take (i+1))=xC (cs.take i)):=by rw[Hid,aa.out,za o]
    have b4:¬((cs[i].body.length:Int)=0):=by omega
    clear a2 aa aP a4 o;generalize cs[i].body.length=bl at *;go_wp2;go_roundw
    case rel=>exact⟨i+1,_,by omega,by go_num,rfl,by rw[aq.out];exact ai,y⟩
    case measure=>simp[intOf];omega
  ·have bt:¬(i:Int)<(cs.length:Int):=by omega
   obtain rfl:i=cs.length:=by omega
   have au:Hid (yS z wA.heap.size wr lv (xC cs)):=by rw[a8.out];exact ai
   have aN:=(az.out cs.length).1;rw[←a8.out] at aN;have aw:=P.out.box.below y.out;have V:=Px (QU.put (zf _) aw (au.out.low P.out.bel.size) ah.out);have Q:=Px aT.out;obtain⟨aF,R,ak⟩:∃aF R,lv=.slice aF (xC cs).length R:=by
    obtain⟨_,_,q,_⟩:=au.out;exact zs q
   subst ak;obtain⟨mc,mf,x⟩:=aw.boxed;clear aw au ai a8 aH az aO aW aT;generalize xC cs=L0 at *;go_upto_region 10 with fail
   generalize wr.setCell ⟨w.heap.size,0,none⟩ (.slice aF L0.length R)=wB at *;clear mc mf x b0 b1 X y ah;obtain⟨mc,mf,x⟩:=V.out.box.boxed;obtain⟨b0,b1,X⟩:=aE.out _ V.out.bel;by_cases hq:L0.length<=mr
   ·have aJ:¬((mr:Int)<(L0.length:Int)):=by omega
    have aQ:Hid (zyu t cs mr mx t.length 0 0 L0=d):=by rw[Hid,Q.out,zb hq]
    go_wp2;clear mc mf x b0 b1 X Q;go_loopw [12,13,14] (fun ay _ _ wz=>∃(s k:Nat) (L:List zE) (E:Value),s<=t.length/\ay=.int .i64 s/\L.length<=mr/\k<=mx/\Hid (QU z w wz w.heap.size E L k)/\Hid (∃D,Qn t (zp cs) L D)/\Hid (zyu t cs mr mx (t.length-s) s k L=d)) (fun ay _ _ _=>t.length-(intOf ay).toNat)
    case atStart=>exact⟨0,0,L0,_,zx _,rfl,hq,zx _,V,⟨_,aS.out⟩,aQ⟩
    case round=>
     clear V aS aQ hq aJ aN;obtain⟨s,k,L,E,hs,rfl,Z,ac,H,F,HS⟩:=hrel;by_cases b7:s<t.length
     ·have bw:(s:Int)<(t.length:Int):=by omega
      obtain⟨n,hn⟩:∃n,t.length-s=n+1:=⟨t.length-s-1,by omega⟩;have br:=Px (show t.length-(s+1)=n by omega);have aM:Hid (d=if yk t cs s=[] then zyu t cs mr mx n (s+1) k L else match z0l t cs mr s (mx-k) k L with|none=>none|some (L',k')=>zyu t cs mr mx n (s+1) k' L'):=by
       have q:=HS.out;rw[hn,zyu] at q;exact q.symm
      have an:=Px (bi.out wr s H.out.bel (by omega));clear hn HS;go_wp2_with (first|(go_at_call 124;refine an.out.mono ?_;rintro e w1 ⟨rfl,bu⟩;obtain rfl:=bu.symm))
      clear an;go_loopg [13,14] (mx+1) (fun f bx _ wz=>∃(b:Bool) (k:Nat) (L:List zE) (E:Value),bx=.bool b/\(b=true->mx-k<f)/\L.length<=mr/\k<=mx/\Hid (QU z w wz w.heap.size E L k)/\Hid (∃D,Qn t (zp cs) L D)/\Hid (d=if b=false then zyu t cs mr mx n (s+1) k L else match z0l t cs mr s (mx-k) k L with|none=>none|some (L',k')=>zyu t cs mr mx n (s+1) k' L'))
      case atStart=>
       refine⟨!(yk t cs s).isEmpty,k,L,E,rfl,fun _=>by omega,Z,ac,H,F,?_⟩;rw[Hid,aM.out];cases yk t cs s with
       |nil=>rfl
       |cons a b=>rfl
      case round=>
       clear H F aM Z ac;obtain⟨b,k,L,E,rfl,a5,Z,ac,H,F,HS⟩:=hrel;cases b with
       |false=>
        have N:Hid (zyu t cs mr mx n (s+1) k L=d):=HS.out.symm;go_wp2;go_roundw
        case rel=>exact⟨s+1,k,L,E,by omega,by go_num,Z,ac,H,F,by rw[br.out];exact N⟩
        case measure=>simp[intOf];omega
       |true=>
        have N:Hid (d=match z0l t cs mr s (mx-k) k L with|none=>none|some (L',k')=>zyu t cs mr mx n (s+1) k' L'):=HS.out;have b6:=a5 rfl;obtain⟨mc,mf,x⟩:=H.out.box.boxed;by_cases ba:k=mx
        ·subst ba;have M:Hid (d=none):=by rw[Hid,N.out,jH];rfl
         clear a5;go_wp2;go_ret;unfold nA;rw[M.out];exact⟨rfl,H.out.bel⟩
        ·have bz:¬((k:Int)=(mx:Int)):=by omega
         obtain⟨left,S⟩:∃left,mx-k=left+1:=⟨mx-k-1,by omega⟩;have bd:=Px (show mx-(k+1)=left by omega);have ax:=N.out;rw[S,z0l] at ax;have HU:=Px (H.out.up);have U:=Px ax;clear N S a5 HS ax;go_upto_region 21 with fail
         generalize wr.setCell ⟨w.heap.size,1,none⟩ (.int .i64 ((k:Int)+1))=w1 at *;clear mc mf x H;obtain⟨D,hD⟩:=F.out;have aR:=Px (bn.out w1 s w.heap.size E L D (k+1) HU.out hD (by omega) (by omega));have am:Hid (∃D,Qn t (zp cs) (L++xx L (k+1) (yk t cs s) []) D):=⟨_,aG.out L D s (k+1) hD⟩;have ar:=be.out _ _ (aG.out L D s (k+1) hD);rw[yv] at ar;clear hD F;generalize xx L (k+1) (yk t cs s) []=j at *;go_upto_region 22 with (first|(go_at_call 125;refine aR.out.mono ?_;rintro e w2 ⟨bs,rfl,a1,aL⟩))
         have u:=Px (HU.out.below aL.out);clear aR HU aL;obtain⟨al,O,bv⟩:∃al O,bs=.slice al j.length O:=by
          obtain⟨_,_,q,_⟩:=a1.out;exact zs q
         subst bv;obtain⟨aX,ap,bh⟩:∃aX ap,E=.slice aX L.length ap:=by
          obtain⟨_,_,q,_⟩:=u.out.fl;exact zs q
         subst bh;obtain⟨mc,mf,x⟩:=u.out.box.boxed;go_upto_region 23 with (first|(at_builtin;refine oT rfl (.tmp 97) (.tmp 98) rfl _ _ _ _ rfl rfl u.out.fl a1.out (by omega) u.out.bel.size ?_;intro v8 w8 a6 a7;obtain⟨aD,T,h8⟩:∃aD T,v8=.slice aD (L.length+j.length) T:=by{obtain⟨_,_,q,_⟩:=a6;rw[←yv];exact zs q};subst h8;obtain⟨_,_,A,_⟩:=u.out.fl;have a9:=u.out.box.saveT a7 (PN.own A) (by decide);obtain⟨bg,aZ,aK⟩:=a9.boxed))
         have ae:=Px (QU.put (zf _) a9 a6 (u.out.bel.trans (a7.below (fun b o=>xb A (yw o)) u.out.bel.size)));clear mc mf x bg aZ aK a9 A a6 a7 u a1;generalize w8.setCell ⟨w.heap.size,0,none⟩ (.slice aD (L.length+j.length) T)=wN at *;obtain⟨mc,mf,x⟩:=ae.out.box.boxed;rw[yv] at U;by_cases C:L.length+j.length<=mr
         ·have bk:¬((mr:Int)<((L.length+j.length:Nat):Int)):=by omega
          have K:=U.out;rw[zb C] at K;by_cases G:j=[]
          ·have M:Hid (d=zyu t cs mr mx n (s+1) (k+1) (L++j)):=by rw[Hid,K,zb G]
           have aY:j.length=0:=by rw[G];rfl
           clear G K U ar;have a3:Hid (L.length+j.length=(L++j).length):=yv.symm;generalize L.length+j.length=ll at *;generalize j.length=nl at *;subst aY;go_wp2;go_roundg (mx-(k+1))
           case measure=>omega
           case rel=>exact⟨false,k+1,L++j,_,rfl,fun q=>(by cases q),by rw[←a3.out];exact C,by omega,ae,am,M⟩
          ·have M:Hid (d=match z0l t cs mr s (mx-(k+1)) (k+1) (L++j) with|none=>none|some (L',k')=>zyu t cs mr mx n (s+1) k' L'):=by rw[Hid,K,za G,bd.out]
           have aY:(0:Int)<(j.length:Int):=by have:=List.length_pos_iff.2 G;omega
           clear G K U ar;have a3:Hid (L.length+j.length=(L++j).length):=yv.symm;generalize L.length+j.length=ll at *;generalize j.length=nl at *;go_wp2;go_roundg (gk-1)
           case measure=>omega
           case rel=>exact⟨true,k+1,L++j,_,congrArg Value.bool (decide_eq_true (by omega)),fun _=>(by omega),by rw[←a3.out];exact C,by omega,ae,am,M⟩
         ·have bk:((mr:Int)<((L.length+j.length:Nat):Int)):=by omega
          have M:Hid (d=none):=by rw[Hid,U.out,za C]
          generalize L.length+j.length=ll at *;go_wp2;go_ret;unfold nA;rw[M.out];exact⟨rfl,ae.out.bel⟩
     ·have bw:¬(s:Int)<(t.length:Int):=by omega
      obtain rfl:s=t.length:=by omega
      have M:Hid (some (L,k)=d):=by
       have q:=HS.out;rw[jH] at q;exact q
      go_wp2;go_ret;unfold nA;rw[←M.out];exact⟨_,rfl,⟨E,H.out.hmb,H.out.box,H.out.fl⟩,H.out.bel⟩
   ·have aJ:((mr:Int)<(L0.length:Int)):=by omega
    have M:Hid (d=none):=by rw[Hid,Q.out,za hq]
    go_wp2;go_ret;unfold nA;rw[M.out];exact⟨rfl,V.out.bel⟩
theorem CB(w:World)(v:Value):Calls prog 34 #[v,.bool true] w fun e a=>e=.returned (.slice none 0 0)/\a=w:=by
 go_enter func34,ntmps34;go_wp2;go_ret;exact⟨rfl,rfl⟩
theorem EQ(w:World)(u v:Value):Calls prog 36 #[u,v,.bool true] w fun e a=>e=.returned (.bool true)/\a=w:=by
 go_enter func36,ntmps36;go_wp2;go_ret;exact⟨rfl,rfl⟩
theorem Mn(w:World)(u v:Value):Calls prog 75 #[u,v,.bool true] w fun e a=>e=.returned (.bool true)/\a=w:=by
 go_enter func75,ntmps75;go_wp2;go_ret;exact⟨rfl,rfl⟩
theorem MF(w:World)(u v:Value)(a b:Int)(h:a<0∨1048576<a∨b<0∨1048576<b):Calls prog 37 #[u,v,.bool true,.int .i64 a,.int .i64 b] w fun e c=>e=.returned (.tuple #[.pointer none,.int .i64 8])/\c=w:=by
 by_cases g:a<0
 ·go_enter func37,ntmps37;go_wp2;go_ret2
  exact⟨rfl,rfl⟩
 ·by_cases d:1048576<a
  ·go_enter func37,ntmps37;go_wp2;go_ret2
   exact⟨rfl,rfl⟩
  ·by_cases i:b<0
   ·go_enter func37,ntmps37;go_wp2;go_ret2
    exact⟨rfl,rfl⟩
   ·have f:1048576<b:=by omega
    go_enter func37,ntmps37;go_wp2;go_ret2
    exact⟨rfl,rfl⟩
def AY(z:Nat)(w:World)(b:Option (List zE×Nat))(e:Ending)(a:World):Prop:=match b with
 |none=>e=.returned (.tuple #[.pointer none,.int .i64 10])/\Hid (Below w.heap.size w a)
 |some (L,k)=>∃c,e=.returned (.tuple #[.pointer (some ⟨c,0,none⟩),.int .i64 0])/\Hid (∃d,w.heap.size<=c/\Py a c #[d,.int .i64 k] 54/\yS z w.heap.size a d L)/\Hid (Below w.heap.size w a)
theorem Ht(w:World)(v:Value)(pb mr mx:Nat)(c:Option (List zE×Nat))(o:mr<=1048576)(m:mx<=1048576)(h:Hid (Calls prog 76 #[.pointer (some ⟨pb,0,none⟩),.int .i64 mr,.int .i64 mx] w fun e a=>nA z w c e a)):Calls prog 37 #[.pointer (some ⟨pb,0,none⟩),v,.bool true,.int .i64 mr,.int .i64 mx] w fun e a=>AY z w c e a:=by
 have s:¬(mr:Int)<0:=by omega
 have q:¬(1048576:Int)<(mr:Int):=by omega
 have t:¬(mx:Int)<0:=by omega
 have r:¬(1048576:Int)<(mx:Int):=by omega
 have j:=Px (Mn w (.pointer (some ⟨pb,0,none⟩)) v);cases c with
 |none=>
  have f:Hid (Calls prog 76 #[.pointer (some ⟨pb,0,none⟩),.int .i64 mr,.int .i64 mx] w fun e a=>e=.returned (.pointer none)/\Hid (Below w.heap.size w a)):=h;clear h;go_enter func37,ntmps37;go_wp2_with (first|(go_at_call 75;refine j.out.mono ?_;rintro e p ⟨rfl,d⟩;obtain rfl:=d.symm)|(go_at_call 76;refine f.out.mono ?_;rintro e n ⟨rfl,b⟩))
  go_ret2
  exact⟨rfl,b⟩
 |some x=>
  obtain⟨L,k⟩:=x;have f:Hid (Calls prog 76 #[.pointer (some ⟨pb,0,none⟩),.int .i64 mr,.int .i64 mx] w fun e a=>∃g,e=.returned (.pointer (some ⟨g,0,none⟩))/\Hid (∃l,w.heap.size<=g/\Py a g #[l,.int .i64 k] 54/\yS z w.heap.size a l L)/\Hid (Below w.heap.size w a)):=h;clear h;go_enter func37,ntmps37;go_wp2_with (first|(go_at_call 75;refine j.out.mono ?_;rintro e p ⟨rfl,d⟩;obtain rfl:=d.symm)|(go_at_call 76;refine f.out.mono ?_;rintro e n ⟨g,rfl,i,b⟩))
  go_ret2
  exact⟨g,rfl,i,b⟩
end
def sQ(w:World)(M:List Nat):Prop:=∀b∈M,∃c T,Py w b c T/\T≠156/\T≠54
abbrev vy:=Nat×Nat×Nat
def l0(w:World)(r:vy):Prop:=∃(d c e:Value) (f:Option Addr) (b a k:Nat) (m:Int),Py w r.1 #[d,c,e,.int .i64 a,.int .i64 k,.int .i64 m] 156/\Py w r.2.1 #[.slice f a b,.int .i64 k] 54/\0<=m
theorem l0.save{w l:World}{r:vy}(h:l0 w r){M:List Nat}(hs:zd M w l)(j:sQ w M):l0 l r:=by
 obtain⟨o,n,q,s,e,a,k,m,i,g,p⟩:=h;refine⟨o,n,q,s,e,a,k,m,i.save hs fun d=>?_,g.save hs fun d=>?_,p⟩
 ·obtain⟨c,T,f,b,_⟩:=j _ d;exact b (f.type i)
 ·obtain⟨c,T,f,_,b⟩:=j _ d;exact b (f.type g)
theorem l0.below{w c:World}{r:vy}(h:l0 w r)(a:Below w.heap.size w c):l0 c r:=h.save (zd.of (M:=[]) a) (fun b a=>by cases a)
def dE(rs:List vy):List Value:=rs.flatMap fun r=>[.pointer (some ⟨r.1,0,none⟩),.pointer (some ⟨r.2.1,0,none⟩),.pointer (some ⟨r.2.2,0,none⟩)]
def pp(b:Nat)(a:Value):Nat:=a.ownBlock.getD b
def km(d:Nat)(c b a:Value):List Nat:=d::(c.ownBlock.toList++b.ownBlock.toList++a.ownBlock.toList)
structure Qm (B:Nat) (w:World) (wb:Nat) (ps:List vd) (rs:List vy) (row:List ByteArray) (psv rsv rowv:Value):Prop where
 low:B<=wb
 box:Py w wb #[psv,rsv,.slice none 0 0,.slice none 0 0,.int .i64 0,.int .i64 0,.int .i64 0,.slice none 0 0,.bool true,rowv,.slice none 0 0,.slice none 0 0,.slice none 0 0,.slice none 0 0] 35
 ops:w.ownsRow B 40 2 psv ps.length (fw ps)
 ors:w.ownsRow B 50 3 rsv rs.length (dE rs)
 reg:P7 B w rowv row
 pairs:∀p∈ps,dL B w (km wb psv rsv rowv) p/\∃x,uc x=.ok (p.2.2.1,p.2.2.2)
 ress:∀r∈rs,l0 w r
theorem Qm.below{B:Nat}{w g:World}{f:Nat}{ps:List vd}{rs:List vy}{row:List ByteArray}{e d c:Value}(h:Qm B w f ps rs row e d c)(a:Below w.heap.size w g):Qm B g f ps rs row e d c:=
 ⟨h.low,h.box.below a,zC h.ops a,zC h.ors a,h.reg.below a,fun p i=>⟨(h.pairs p i).1.save (zd.of (M:=[]) a) (by simp) (fun b a=>zg a),(h.pairs p i).2⟩,fun r j=>(h.ress r j).below a⟩
section
open Go.Proofs.Tryz
variable {row:List ByteArray}
theorem OI:(prog.info? 50).map (fun i=>(i.zero,i.size,i.bytes))=some (some (.agg #[.pointer none,.pointer none,.pointer none]),3,24):=by kernel_rfl
structure R8 (cs:List zc) (t0 t:List zh):Prop where
 parts:PI cs t0 t
 ctx:ua cs t
 len:cs.length<=1000
 names:t.length<=1000
 low:∀c∈cs,x6 t c.head.pred<=1000
 body:∀c∈cs,c.body.length<=30
 args:∀c∈cs,∀l∈zl c,l.args.length<=3/\∀a∈l.args,0<a.size
 few:∀L D,Qn t (zp cs) L D->L.length<1000000000000/\∀c∈cs,(ye L c.head c.body c.body []).length<=1000000000000
theorem IN{x:ByteArray}{cs:List zc}{t:List zh}(h:uc x=.ok (cs,t)):∃i,R8 cs i t:=by
 obtain⟨i,b⟩:=Bm h;have k:=Ob h;have f:=ua.of k b;obtain⟨_,e,_⟩:=b.low;have o:=b.few;have m:t.length<=1000:=by omega
 have j:∀c∈cs,wW c:=fun c q=>(k c q).fine (b.many c q);refine⟨i,b,f,b.runok.1.len,m,fun c d=>?_,fun c d=>?_,fun c d l e=>⟨(f.lit c d l e).2.2.2,fun a n=>(((j c d).1 l e).2.2.2 a n).1⟩,Li b f m (Hv h)⟩
 ·rw[tu];have:=eQ b.least (ps:=P2 t) (fun c d l e=>AS b d e) (AS b d (l:=c.head) (by simp[zl]));simp only[P2,uJ] at this;omega
 ·have g:=b.many c d;unfold yE at g;simp only[np,decide_eq_false_iff_not] at g;have:=g.1.1.1;omega
theorem NO(e:Nat)(d c a:Value):pp e a∈km e d c a:=by
 unfold pp km;cases a.ownBlock with
 |none=>simp
 |some b=>simp
theorem Qm.Fa{B:Nat}{w:World}{e:Nat}{ps:List vd}{rs:List vy}{d c a:Value}(h:Qm B w e ps rs row d c a):pp e a<w.heap.size:=by
 unfold pp;cases f:a.ownBlock with
 |none=>exact h.box.lt
 |some b=>exact yU h.reg f
theorem Qm.add{B:Nat}{w m:World}{j:Nat}{ps:List vd}{rs:List vy}{o i a l:Value}(h:Qm B w j ps rs row o i l){r:vy}(C:l0 w r)(z:m.ownsRow B 50 3 a (rs.length+1) (dE rs++[.pointer (some ⟨r.1,0,none⟩),.pointer (some ⟨r.2.1,0,none⟩),.pointer (some ⟨r.2.2,0,none⟩)]))(v:zd i.ownBlock.toList w m)(u:a.ownBlock=i.ownBlock∨∃g,a.ownBlock=some g/\w.heap.size<=g):Qm B (m.setCell ⟨j,1,none⟩ a) j ps (rs++[r]) row o a l/\Below B w (m.setCell ⟨j,1,none⟩ a)/\zd (j::i.ownBlock.toList) w (m.setCell ⟨j,1,none⟩ a):=by
 have n:=h.box.save v (qH h.ors h.box (by decide));have f:zd (j::i.ownBlock.toList) w (m.setCell ⟨j,1,none⟩ a):=(v.more (fun x s=>by simp[s])).trans ((zd.set m j 1 a).more (fun x s=>by simp at s;simp[s]));have y:sQ w (j::i.ownBlock.toList):=fun b d=>by
  rcases zu.1 d with rfl|d
  ·exact⟨_,_,h.box,by decide,by decide⟩
  ·obtain⟨c,D⟩:=qC h.ors (yw d);exact⟨c,_,D,by decide,by decide⟩
 refine⟨⟨h.low,by simpa using n.set 1 a,?_,?_,?_,fun p A=>⟨(h.pairs p A).1.save f (fun b d=>?_) (fun b d=>?_),(h.pairs p A).2⟩,fun q E=>?_⟩,f.below (fun b d=>?_) (zT h.low (jT h.box.lt)),f⟩
 ·refine yH h.ops f fun b d k=>?_;rcases zu.1 k with rfl|k
  ·exact xM h.ops h.box (by decide) d rfl
  ·exact f8 h.ops h.ors (by decide) d (yw k)
 ·have q:=yH z (zd.set m j 1 a) (fun b d k=>xM z n (by decide) d (by simpa using k));have e:dE (rs++[r])=dE rs++[.pointer (some ⟨r.1,0,none⟩),.pointer (some ⟨r.2.1,0,none⟩),.pointer (some ⟨r.2.2,0,none⟩)]:=by simp[dE]
  rw[e,yv];exact q
 ·refine yH h.reg f fun b d k=>?_;rcases zu.1 k with rfl|k
  ·exact xM h.reg h.box (by decide) d rfl
  ·exact f8 h.reg h.ors (by decide) d (yw k)
 ·unfold km;rcases zu.1 d with rfl|d
  ·simp
  ·simp[d]
 ·unfold km at d ⊢;simp only[zu,zX] at d ⊢;rcases d with d|(d|d)|d
  ·exact zg (zg d)
  ·exact zg (ze (zg (zg d)))
  ·rcases u with e|⟨g,e,q⟩
   ·rw[e] at d;exact zg (ze (zg (ze d)))
   ·rw[e] at d;simp at d;exact ze (by omega)
  ·exact zg (ze (ze d))
 ·rcases zX.1 E with t|t
  ·exact(h.ress q t).save f y
  ·rw[xO.1 t];exact C.save f y
 ·rcases zu.1 d with rfl|d
  ·exact h.low
  ·exact xb h.ors (yw d)
def en(B:Nat)(w:World)(h:Nat)(ps:List vd)(rs:List vy)(row:List ByteArray)(f d b:Value)(e:Ending)(g:World):Prop:=e=.returned (.bool true)/\Hid (∃a c,a.length<=rs.length+1/\Qm B g h ps a row f c b)/\Hid (Below B w g)/\Hid (zd (h::d.ownBlock.toList) w g)
theorem KS(B:Nat)(w:World)(q:Nat)(ps:List vd)(rs:List vy)(row:List ByteArray)(l j g:Value)(h:Qm B w q ps rs row l j g)(x m:Nat)(a d:Int)(k:-9223372036854775808<=a/\a<9223372036854775808)(n:-9223372036854775808<=d/\d<9223372036854775808)(c:a<0∨1048576<a∨d<0∨1048576<d):
  Calls prog 17 #[.pointer (some ⟨q,0,none⟩),.agg #[.pointer (some ⟨x,0,none⟩),.pointer (some ⟨m,0,none⟩)],.slice none 0 0,.bool true,.int .i64 a,.int .i64 d] w fun e f=>en B w q ps rs row l j g e f:=by
 have t:Hid (∀W,Calls prog 34 #[.slice none 0 0,.bool true] W fun e f=>e=.returned (.slice none 0 0)/\f=W):=fun W=>CB W _;have u:Hid (∀W,Calls prog 35 #[.pointer (some ⟨x,0,none⟩),.slice none 0 0,.int .i64 a,.int .i64 d] W fun e f=>e=.returned (.tuple #[.pointer none,.int .i64 8])/\f=W):=fun W=>NP W _ _ a d k n c;have s:Hid (∀W,Calls prog 36 #[.slice none 0 0,.slice none 0 0,.bool true] W fun e f=>e=.returned (.bool true)/\f=W):=fun W=>EQ W _ _;have o:Hid (∀W,Calls prog 37 #[.pointer (some ⟨m,0,none⟩),.slice none 0 0,.bool true,.int .i64 a,.int .i64 d] W fun e f=>e=.returned (.tuple #[.pointer none,.int .i64 8])/\f=W):=fun W=>MF W _ _ a d c;have p:=Px h;clear h c k n;go_enter func17,ntmps17;go_wp2_with (first|(go_at_call 34;refine(t.out _).mono ?_;rintro e r ⟨rfl,b⟩;obtain rfl:=b.symm)|(go_at_call 35;refine(u.out _).mono ?_;rintro e r ⟨rfl,b⟩;obtain rfl:=b.symm)|(go_at_call 36;refine(s.out _).mono ?_;rintro e r ⟨rfl,b⟩;obtain rfl:=b.symm)|(go_at_call 37;refine(o.out _).mono ?_;rintro e r ⟨rfl,b⟩;obtain rfl:=b.symm))
 go_ret;have i:Below w.heap.size w (w.alloc (.cells #[.pointer (some ⟨x,0,none⟩),.pointer (some ⟨m,0,none⟩)] 40)):=(zo _ _).alloc (zf _) _;exact⟨rfl,⟨rs,j,by omega,p.out.below i⟩,i.mono (zT p.out.low (jT p.out.box.lt)),zd.of i⟩
theorem IY(B:Nat)(w:World)(wb:Nat)(ps:List vd)(rs:List vy)(row:List ByteArray)(X K f:Value)(h:Qm B w wb ps rs row X K f)(p:vd)(hp:p∈ps)(mr mx:Nat)(S:mr<=1048576)(Z:mx<=1048576)(hn:rs.length<=1048576):
  Calls prog 17 #[.pointer (some ⟨wb,0,none⟩),.agg #[.pointer (some ⟨p.1,0,none⟩),.pointer (some ⟨p.2.1,0,none⟩)],.slice none 0 0,.bool true,.int .i64 mr,.int .i64 mx] w fun e d=>en B w wb ps rs row X K f e d:=by
 obtain⟨i0,hi,a0,ax,av⟩:=info_parts OI;obtain⟨⟨lo,s,hB,hP,hQ,_,O,aj,R⟩,x,hx⟩:=h.pairs p hp;obtain⟨t0,j⟩:=IN hx;have af:=h.Fa;have al:=R _ (NO wb X K f);obtain⟨I,o,H,t⟩:=p;dsimp only at *;obtain⟨ao,U,ar,ab,a2,ad,V⟩:=hQ.read O al;have J:=hP.same O;have F:lo<=w.heap.size:=by
  obtain⟨q,_,_,q2,_⟩:=J;exact zT q (jT q2.lt)
 have HH:Hid (∀W,Calls prog 34 #[.slice none 0 0,.bool true] W fun e d=>e=.returned (.slice none 0 0)/\d=W):=fun W=>CB W _;have HO:Hid (∀W,Calls prog 36 #[.slice none 0 0,.slice none 0 0,.bool true] W fun e d=>e=.returned (.bool true)/\d=W):=fun W=>EQ W _ _;have h5:∀i (hi:i<H.length),gV (yQ ((uw none i).getD [])) (z7 H[i]).length:=fun i hi=>tR (mi (j.parts.many _ (zv hi)));have r:=Px fun W A=>Nl W I hx (J.below A) j.parts (zT F A.size) (.slice none 0 0) none rfl rfl j.parts.runok.1 j.parts.runok.2 h5 mr mx S Z;clear h5;have u:Hid (∀W,Below w.heap.size w W->Calls prog 37 #[.pointer (some ⟨o,0,none⟩),.slice none 0 0,.bool true,.int .i64 mr,.int .i64 mx] W fun e d=>AY (pp wb f) W (ykp t H mr mx) e d):=fun W A=>Ht W _ o mr mx _ S Z (JB W o mr mx ao U ar ab a2 ad H t0 t (xG af A.size) (V.below A) j.parts j.ctx j.len j.names j.low j.body j.args S Z j.few);have b:=I4 j.parts j.ctx mr mx;have HW:=Px h;have Y:=zT h.low (jT h.box.lt);cases hA:z3f (vS t (zp H) none H) mr mx with
 |none=>
  rw[hA] at b;have G:ykp t H mr mx=none:=by
   cases hq:ykp t H mr mx with
   |none=>rfl
   |some y=>rw[hq] at b;exact b.elim
  rw[hA] at r;rw[G] at u;have P:Hid (∀W,Below w.heap.size w W->Calls prog 35 #[.pointer (some ⟨I,0,none⟩),.slice none 0 0,.int .i64 mr,.int .i64 mx] W fun e d=>e=.returned (.tuple #[.pointer none,.int .i64 10])/\Hid (Below W.heap.size W d)):=r;have N:Hid (∀W,Below w.heap.size w W->Calls prog 37 #[.pointer (some ⟨o,0,none⟩),.slice none 0 0,.bool true,.int .i64 mr,.int .i64 mx] W fun e d=>e=.returned (.tuple #[.pointer none,.int .i64 10])/\Hid (Below W.heap.size W d)):=u;clear r u h hA G b hP hQ O aj R hx j af al V J F hp;go_enter func17,ntmps17;go_upto_region 2 with (first|(go_at_call 34;refine(HH.out _).mono ?_;rintro e w1 ⟨rfl,n⟩;obtain rfl:=n.symm))
  have l:Hid (Below w.heap.size w (w.alloc (.cells #[.pointer (some ⟨I,0,none⟩),.pointer (some ⟨o,0,none⟩)] 40))):=(zo _ _).alloc (zf _) _;have g:=Px (Py.new w #[.pointer (some ⟨I,0,none⟩),.pointer (some ⟨o,0,none⟩)] 40);generalize w.alloc (.cells #[.pointer (some ⟨I,0,none⟩),.pointer (some ⟨o,0,none⟩)] 40)=wX at *;obtain⟨xc,_,T⟩:=g.out.boxed;go_wp2_with (first|(go_at_call 35;refine(P.out _ l.out).mono ?_;rintro e w1 ⟨rfl,c⟩;obtain⟨an,_⟩:=(g.out.below c.out).rules;have Q:=(g.out.below c.out).lt)|(go_at_call 36;refine(HO.out _).mono ?_;rintro e w2 ⟨rfl,n⟩;obtain rfl:=n.symm)|(go_at_call 37;refine(N.out _ (P3 l.out c.out)).mono ?_;rintro e w3 ⟨rfl,E⟩))
  go_ret;have A:=P3 (P3 l.out c.out) E.out;exact⟨rfl,⟨rs,K,by omega,HW.out.below A⟩,A.mono Y,zd.of A⟩
 |some y=>
  obtain⟨D,ee⟩:=y;rw[hA] at b;obtain⟨L,kk,G⟩:∃L k,ykp t H mr mx=some (L,k):=by
   cases hq:ykp t H mr mx with
   |none=>rw[hq] at b;exact b.elim
   |some y=>exact⟨y.1,y.2,rfl⟩
  rw[G] at b u;have aa:=b.2;have z:=aa.card j.ctx;rw[hA] at r;have am:kk=ee:=b.1;have P:Hid (∀W,Below w.heap.size w W->Calls prog 35 #[.pointer (some ⟨I,0,none⟩),.slice none 0 0,.int .i64 mr,.int .i64 mx] W fun e d=>∃rb,e=.returned (.tuple #[.pointer (some ⟨rb,0,none⟩),.int .i64 0])/\Hid (∃m pv nv rv,Py d rb #[pv,nv,rv,.int .i64 L.length,.int .i64 kk,.int .i64 m] 156/\0<=m)/\Hid (Below W.heap.size W d)):=fun W A=>by
   refine(r.out W A).mono ?_;intro e d q;obtain⟨a,k,rb,m,pv,nv,rv,q1,q2,q3,q4,q5,q6,q7⟩:=q;obtain rfl:=oX z q4;subst q3 am;exact⟨rb,q1,⟨m,pv,nv,rv,q2,q6⟩,q7⟩
  have N:Hid (∀W,Below w.heap.size w W->Calls prog 37 #[.pointer (some ⟨o,0,none⟩),.slice none 0 0,.bool true,.int .i64 mr,.int .i64 mx] W fun e d=>∃mb,e=.returned (.tuple #[.pointer (some ⟨mb,0,none⟩),.int .i64 0])/\Hid (∃fv,W.heap.size<=mb/\Py d mb #[fv,.int .i64 kk] 54/\yS (pp wb f) W.heap.size d fv L)/\Hid (Below W.heap.size W d)):=u;clear r u h hA G b aa am hP hQ O aj R hx V J F hp z;go_enter func17,ntmps17;go_upto_region 2 with (first|(go_at_call 34;refine(HH.out _).mono ?_;rintro e w1 ⟨rfl,n⟩;obtain rfl:=n.symm))
  have l:Hid (Below w.heap.size w (w.alloc (.cells #[.pointer (some ⟨I,0,none⟩),.pointer (some ⟨o,0,none⟩)] 40))):=(zo _ _).alloc (zf _) _;have g:=Px (Py.new w #[.pointer (some ⟨I,0,none⟩),.pointer (some ⟨o,0,none⟩)] 40);generalize w.alloc (.cells #[.pointer (some ⟨I,0,none⟩),.pointer (some ⟨o,0,none⟩)] 40)=wX at *;obtain⟨xc,_,T⟩:=g.out.boxed;go_upto_region 9 with (first|(go_at_call 35;refine(P.out _ l.out).mono ?_;rintro e w1 ⟨rb,rfl,ai,c⟩;obtain⟨an,_⟩:=(g.out.below c.out).rules;have Q:=(g.out.below c.out).lt)|(go_at_call 36;refine(HO.out _).mono ?_;rintro e w2 ⟨rfl,n⟩;obtain rfl:=n.symm)|(go_at_call 37;refine(N.out _ (P3 l.out c.out)).mono ?_;rintro e w3 ⟨mb,rfl,ak,E⟩))
  have a4:=Px (P3 l.out c.out);have az:Hid (l0 w3 (rb,mb,o)):=by
   obtain⟨m,pv,nv,rv,r1,r2⟩:=ai.out;obtain⟨fv,_,f2,aE,_,f3,_⟩:=ak.out;obtain⟨ao,U,rfl⟩:=zs f3;exact⟨pv,nv,rv,ao,U,_,kk,m,r1.below E.out,f2,r2⟩
  have M:=Px (P3 a4.out E.out);have v:=Px (HW.out.below M.out);have a6:=(g.out.below c.out).below E.out;clear ai ak P N xc an T Q HH HO;obtain⟨xc,_,T⟩:=a6.boxed;obtain⟨wc,wf,aH⟩:=v.out.box.boxed;have C:=v.out.ors;have aC:=zT Y M.out.size;obtain⟨a5,ae,aw⟩:=zs C;subst aw;go_region_law (first|(refine dU w3 _ [.pointer (some ⟨rb,0,none⟩),.pointer (some ⟨mb,0,none⟩),.pointer (some ⟨o,0,none⟩)] 50 rfl (.tmp 65) (.tmp 71) 29 rfl B 50 i0 _ 3 24 underlying29 hi a0 ax av rfl (by decide) (.slice a5 rs.length ae) rs.length (dE rs) (by simp[Act.eval]) C (by exact(by repeat'(first|with_reducible(first|apply zR|assumption|apply zN|apply zA|apply zD|apply zS)|go_size))) w3.heap.size 1 (by simp[Act.eval]) (by exact Py.drew (Py.new _ _ _)) rfl (by simp[Value.oneCell']) (by omega) (by omega) (by omega) ?_;intro v' w4 ac ag ah aA aB;obtain⟨aD,a9,rfl⟩:=zs ac;have a3:=v.out.box.save ag (qH C v.out.box (by decide));obtain⟨aF,aG,a8⟩:=a3.boxed))
  all_goals
   obtain⟨a7,aq,au⟩:=v.out.add az.out ac ag ah;have a1:=Px a7;have ap:=Px aq;have ay:=Px au;go_wp2;go_ret;exact⟨rfl,⟨_,_,by simp,a1.out⟩,(M.out.mono Y).trans ap.out,(zd.of M.out).trans ay.out⟩
end
section
open Go.Proofs.Tryz
theorem Qm.addP{B:Nat}{w n:World}{j:Nat}{ps:List vd}{rs:List vy}{row:List ByteArray}{i a l f:Value}(h:Qm B w j ps rs row i l f){p:vd}(A:dL B w (km j i l f) p/\∃x,uc x=.ok (p.2.2.1,p.2.2.2))(z:n.ownsRow B 40 2 a (ps.length+1) (fw ps++[.pointer (some ⟨p.1,0,none⟩),.pointer (some ⟨p.2.1,0,none⟩)]))(y:zd i.ownBlock.toList w n)(v:a.ownBlock=i.ownBlock∨∃g,a.ownBlock=some g/\w.heap.size<=g):Qm B (n.setCell ⟨j,0,none⟩ a) j (ps++[p]) rs row a l f/\Below B w (n.setCell ⟨j,0,none⟩ a):=by
 have o:=h.box.save y (qH h.ops h.box (by decide));have k:zd (j::i.ownBlock.toList) w (n.setCell ⟨j,0,none⟩ a):=(y.more (fun x u=>by simp[u])).trans ((zd.set n j 0 a).more (fun x u=>by simp at u;simp[u]));have D:sQ w (j::i.ownBlock.toList):=fun b d=>by
  rcases zu.1 d with rfl|d
  ·exact⟨_,_,h.box,by decide,by decide⟩
  ·obtain⟨c,C⟩:=qC h.ops (yw d);exact⟨c,_,C,by decide,by decide⟩
 have r:∀q,dL B w (km j i l f) q->dL B (n.setCell ⟨j,0,none⟩ a) (km j a l f) q:=fun q s=>s.save k (fun b d=>by
  unfold km;rcases zu.1 d with rfl|d
  ·simp
  ·simp[d]) (fun b d=>by
  unfold km at d ⊢;simp only[zu,zX] at d ⊢;rcases d with d|(d|d)|d
  ·exact zg (zg d)
  ·rcases v with e|⟨g,e,q⟩
   ·rw[e] at d;exact zg (ze (zg (zg d)))
   ·rw[e] at d;simp at d;exact ze (by omega)
  ·exact zg (ze (zg (ze d)))
  ·exact zg (ze (ze d)))
 refine⟨⟨h.low,by simpa using o.set 0 a,?_,?_,?_,fun q s=>?_,fun q s=>(h.ress q s).save k D⟩,k.below (fun b d=>?_) (zT h.low (jT h.box.lt))⟩
 ·have q:=yH z (zd.set n j 0 a) (fun b d m=>xM z o (by decide) d (by simpa using m));have e:fw (ps++[p])=fw ps++[.pointer (some ⟨p.1,0,none⟩),.pointer (some ⟨p.2.1,0,none⟩)]:=by simp[fw]
  rw[e,yv];exact q
 ·refine yH h.ors k fun b d m=>?_;rcases zu.1 m with rfl|m
  ·exact xM h.ors h.box (by decide) d rfl
  ·exact f8 h.ors h.ops (by decide) d (yw m)
 ·refine yH h.reg k fun b d m=>?_;rcases zu.1 m with rfl|m
  ·exact xM h.reg h.box (by decide) d rfl
  ·exact f8 h.reg h.ops (by decide) d (yw m)
 ·rcases zX.1 s with t|t
  ·exact⟨r q (h.pairs q t).1,(h.pairs q t).2⟩
  ·rw[xO.1 t];exact⟨r p A.1,A.2⟩
 ·rcases zu.1 d with rfl|d
  ·exact h.low
  ·exact xb h.ops (yw d)
def qK(B:Nat)(w:World)(i j k h:Nat)(e:Ending)(g:World):Prop:=e=.returned (.bool true)/\Hid (∃f d row c b a,f.length<=j+1/\d.length<=k+1/\row.length<=h+1/\Qm B g i f d row c b a)/\Hid (Below B w g)
theorem FT(B:Nat)(w:World)(A:Nat)(ps:List vd)(rs:List vy)(row:List ByteArray)(z j a:Value)(s:ByteArray)(h:Qm B w A ps rs row z j a)(hs:s.size<=1048576)(V:ps.length<=1048576):
  Calls prog 16 #[.pointer (some ⟨A,0,none⟩),.string s] w fun e Y=>qK B w A ps.length rs.length row.length e Y:=by
 have f:s.size<=9223372036854775807:=by omega
 have n:=zT h.low (jT h.box.lt);have T:=Px h;cases r:uc s with
 |error k=>
  have hk:=LS r;have m:=Px r;clear r h;go_enter func16,ntmps16;go_wp2_with (first|(go_at_call 32;refine(It m.out _ f).mono ?_;rintro e w1 ⟨rfl,g⟩)|(go_at_call 33;refine(F3 m.out _ f).mono ?_;rintro e S ⟨rfl,i⟩))
  go_ret;have c:=P3 g i;exact⟨rfl,⟨ps,rs,row,z,j,a,by omega,by omega,by omega,T.out.below c⟩,c.mono n⟩
 |ok p=>
  obtain⟨cs,t⟩:=p;obtain⟨i0,Z,D,K,M⟩:=info_parts OO;have m:=Px r;obtain⟨I,q,H⟩:=zs h.ops;subst H;have y:∀b∈km A (.slice I ps.length q) j a,b<w.heap.size:=fun b c=>by
   unfold km at c;simp only[zu,zX] at c;rcases c with rfl|(c|c)|c
   ·exact h.box.lt
   ·exact yU h.ops (yw c)
   ·exact yU h.ors (yw c)
   ·exact yU h.reg (yw c)
  have J:=Px y;clear r y h;go_enter func16,ntmps16;go_wp2_with (first|(go_at_call 32;refine(KP m.out _ f).mono ?_;rintro e w1 ⟨R,rfl,C,g⟩)|(go_at_call 33;refine(OE m.out _ f).mono ?_;rintro e S ⟨Q,rfl,F,i⟩;have o:=P3 g i;have d:=Px (T.out.below o);have l:=d.out.ops;obtain⟨aa,ab,N⟩:=d.out.box.boxed;have O:=o.size)|(at_builtin;refine dO S _ [.pointer (some ⟨R,0,none⟩),.pointer (some ⟨Q,0,none⟩)] _ rfl (.tmp 35) (.tmp 39) 28 rfl B 40 i0 _ 2 16 underlying28 Z D K M rfl (by decide) _ _ _ rfl l (zo _ _) _ _ rfl (by simp) rfl (by simp[Value.oneCell']) (by omega) (by omega) (by omega) ?_;intro v' w3 v u x;obtain⟨ac,U,rfl⟩:=zs v;have G:=d.out.box.save u (qH l d.out.box (by decide));obtain⟨X,W,P⟩:=G.boxed))
  go_ret;obtain⟨L,E⟩:=d.out.addP (p:=(R,Q,cs,t)) ⟨dL.new n (C.below i) (F.low g.size) (Nb m.out) J.out,s,m.out⟩ v u x;exact⟨rfl,⟨_,rs,row,_,j,a,by simp,by omega,by omega,L⟩,(o.mono n).trans E⟩
theorem Qm.turn{B:Nat}{w k:World}{j:Nat}{ps:List vd}{rs:List vy}{row row':List ByteArray}{n m d rowv':Value}(h:Qm B w j ps rs row n m d)(s:P7 B k rowv' row')(u:zd d.ownBlock.toList w k)(r:rowv'.ownBlock=d.ownBlock∨rowv'.ownBlock=none∨∃g,rowv'.ownBlock=some g/\w.heap.size<=g):Qm B (k.setCell ⟨j,9,none⟩ rowv') j ps rs row' n m rowv'/\Below B w (k.setCell ⟨j,9,none⟩ rowv'):=by
 have l:=h.box.save u (qH h.reg h.box (by decide));have f:zd (j::d.ownBlock.toList) w (k.setCell ⟨j,9,none⟩ rowv'):=(u.more (fun x o=>by simp[o])).trans ((zd.set k j 9 rowv').more (fun x o=>by simp at o;simp[o]));have v:sQ w (j::d.ownBlock.toList):=fun b a=>by
  rcases zu.1 a with rfl|a
  ·exact⟨_,_,h.box,by decide,by decide⟩
  ·obtain⟨c,z⟩:=qC h.reg (yw a);exact⟨c,_,z,by decide,by decide⟩
 refine⟨⟨h.low,by simpa using l.set 9 rowv',?_,?_,?_,fun p t=>⟨(h.pairs p t).1.save f (fun b a=>?_) (fun b a=>?_),(h.pairs p t).2⟩,fun q y=>(h.ress q y).save f v⟩,f.below (fun b a=>?_) (zT h.low (jT h.box.lt))⟩
 ·refine yH h.ops f fun b a i=>?_;rcases zu.1 i with rfl|i
  ·exact xM h.ops h.box (by decide) a rfl
  ·exact f8 h.ops h.reg (by decide) a (yw i)
 ·refine yH h.ors f fun b a i=>?_;rcases zu.1 i with rfl|i
  ·exact xM h.ors h.box (by decide) a rfl
  ·exact f8 h.ors h.reg (by decide) a (yw i)
 ·exact yH s (zd.set k j 9 rowv') (fun b a i=>xM s l (by decide) a (by simpa using i))
 ·unfold km;rcases zu.1 a with rfl|a
  ·simp
  ·simp[a]
 ·unfold km at a ⊢;simp only[zu,zX] at a ⊢;rcases a with a|(a|a)|a
  ·exact zg (zg a)
  ·exact zg (ze (zg (zg a)))
  ·exact zg (ze (zg (ze a)))
  ·rcases r with e|e|⟨g,e,q⟩
   ·rw[e] at a;exact zg (ze (ze a))
   ·rw[e] at a;simp at a
   ·rw[e] at a;simp at a;exact ze (by omega)
 ·rcases zu.1 a with rfl|a
  ·exact h.low
  ·exact xb h.reg (yw a)
theorem FV(B:Nat)(w:World)(A:Nat)(ps:List vd)(rs:List vy)(row:List ByteArray)(r q C:Value)(a b c:Int)(s:ByteArray)(h:Qm B w A ps rs row r q C)(Z:row.length<=1048576):
  Calls prog 94 #[.pointer (some ⟨A,0,none⟩),.agg #[.int .i64 9,.int .i64 a,.int .i64 b,.int .i64 c,.string s]] w fun e Y=>qK B w A ps.length rs.length row.length e Y:=by
 obtain⟨X,U,x,G,J⟩:=info_parts Po;have ad:=zT h.low (jT h.box.lt);have hB:=h.low;obtain⟨y,j,M⟩:=h.reg.qx;subst M;have v:w.ownsRow B 9 1 (.slice y row.length j) row.length (row.map Value.string):=h.reg;have W:=Px h;have L:=h.box;obtain⟨hc,hf,ac⟩:=L.boxed;clear h;cases V:(bits BinOp.and IntKind.i64 a 1 == 1) with
 |false=>
  go_enter func94,ntmps94;go_wp2;go_region_law (first|(refine dU w _ [.string s] 9 rfl (.tmp 177) (.tmp 180) 30 rfl B 9 X _ 1 16 underlying30 U x G J rfl (by decide) (.slice y row.length j) row.length (row.map Value.string) (by simp[Act.eval]) v (by exact(by repeat'(first|with_reducible(first|apply zR|assumption|apply zN|apply zA|apply zD|apply zS)|go_size))) (w.heap.size+1) 1 (by simp[Act.eval]) (by exact Py.drew (Py.newAt _ _ _ _ (by simp))) rfl (by simp[Value.oneCell']) (by omega) (by omega) (by omega) ?_;intro v' O g f d P H;obtain⟨t,i,rfl⟩:=zs g;have m:=L.save f (qH v L (by decide));obtain⟨Q,R,u⟩:=m.boxed))
  all_goals
   have o:P7 B O (.slice t (row.length+1) i) (row++[s]):=by
    unfold P7;rw[yv,vC];exact g
   obtain⟨p,l⟩:=W.out.turn o f (d.imp_right ze);have n:=Px p;have k:=Px l;go_wp2;go_ret;exact⟨rfl,⟨ps,rs,row++[s],r,q,_,by omega,by omega,by simp,n.out⟩,k⟩
 |true=>
  obtain⟨E,I⟩:=W.out.turn (row':=[]) (rowv':=.slice none 0 0) (yI _ _ _ _) (zd.refl _ _) (ze (zg rfl));have z:=Px E;have N:=Px I;have D:(w.setCell ⟨A,9,none⟩ (.slice none 0 0)).heap.size=w.heap.size:=by simp[World.setCell]
  clear E I;go_enter func94,ntmps94;go_wp2;generalize w.setCell ⟨A,9,none⟩ (.slice none 0 0)=K at *;have F:=z.out.box;obtain⟨ab,aa,T⟩:=F.boxed;have S:K.ownsRow B 9 1 (.slice none 0 0) 0 []:=yI _ _ _ _;go_region_law (first|(refine dU K _ [.string s] 9 rfl (.tmp 177) (.tmp 180) 30 rfl B 9 X _ 1 16 underlying30 U x G J rfl (by decide) (.slice none 0 0) 0 [] (by simp[Act.eval]) S (by exact(by repeat'(first|with_reducible(first|apply zR|assumption|apply zN|apply zA|apply zD|apply zS)|go_size))) (K.heap.size+1) 1 (by simp[Act.eval,D]) (by exact Py.drew (Py.newAt _ _ _ _ (by simp))) rfl (by simp[Value.oneCell']) (by omega) (by omega) (by omega) ?_;intro v' O g f d P H;obtain⟨t,i,rfl⟩:=zs g;have m:=F.save f (by simp[Value.ownBlock]);obtain⟨Q,R,u⟩:=m.boxed))
  all_goals
   have o:P7 B O (.slice t (0+1) i) [s]:=g;obtain⟨p,l⟩:=z.out.turn o f (d.imp_right ze);have n:=Px p;have k:=Px l;go_wp2;go_ret;exact⟨rfl,⟨ps,rs,[s],r,q,_,by omega,by omega,by simp,n.out⟩,N.out.trans k.out⟩
end
end Go.Proofs.YteampbddflhngaaGreat
