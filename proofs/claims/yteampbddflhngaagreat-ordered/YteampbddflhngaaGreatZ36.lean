import Derived.Test.YteampbddflhngaaGreatZ25
import Derived.Test.YteampbddflhngaaGreatZ34
import Derived.Test.YteampbddflhngaaGreatZ35
namespace Go.Proofs.YteampbddflhngaaGreat
set_option linter.all false
set_option maxRecDepth 100000
set_option maxHeartbeats 8000000
open Go.RowKit
section
open Go.Proofs.Tryz
variable {z:Nat}{rvs:List Value}{lo:Nat}{w:World}
theorem Qq:(prog.info? 56).map (fun i=>(i.zero,i.size,i.bytes))=some (some (.agg #[.string ByteArray.empty,ν,ι 0]),3,48):=by kernel_rfl
def Sa(f:zE)(a:Value):List Value:=[.string f.1,a,ι (f.2.2:Nat)]
def qB(fs:List zE)(rvs:List Value):List Value:=(List.zipWith Sa fs rvs).flatten
theorem L6{fs b:List zE}{a:List Value}(h:rvs.length=fs.length):qB (fs++b) (rvs++a)=qB fs rvs++qB b a:=by
 unfold qB;rw[iw h.symm];simp
theorem OQ{fs:List zE}(h:rvs.length=fs.length):(qB fs rvs).length=fs.length*3:=by
 induction fs generalizing rvs with
 |nil=>simp[qB]
 |cons f fs a=>
  cases rvs with
  |nil=>simp at h
  |cons r rvs=>
   have:=a (rvs:=rvs) (by simpa using h);unfold qB at this ⊢;simp only[lE,nf,yq,xi];rw[this];simp[Sa];omega
theorem sy:∀(fs:List zE) (a:List Value) (i c:Nat) (h:i<fs.length) (d:i<a.length),c<3->(qB fs a)[i*3+c]?=(Sa fs[i] a[i])[c]?
 |f::fs,g::a,0,c,_,_,b=>by
  have e:qB (f::fs) (g::a)=Sa f g++qB fs a:=by simp[qB]
  rw[e,s6 (by simp[Sa];omega)];simp
 |f::fs,g::a,i+1,c,h,d,b=>by
  have e:qB (f::fs) (g::a)=Sa f g++qB fs a:=by simp[qB]
  have l:(Sa f g).length=3:=by simp[Sa]
  rw[e,d9 (by rw[l];omega),l,show(i+1)*3+c-3=i*3+c by omega];exact sy fs a i c (by simpa using h) (by simpa using d) b
def yX(z lo:Nat)(w:World)(v:Value)(fs:List zE):Prop:=∃rvs:List Value,rvs.length=fs.length/\w.ownsRow lo 56 3 v fs.length (qB fs rvs)/\∀i (h:i<fs.length) (a:i<rvs.length),RY z w rvs[i] fs[i].2.1
theorem yX.nil(lo:Nat)(w:World):yX z lo w (ν) []:=⟨[],rfl,yD _ _ _ _,fun i h=>by cases h⟩
theorem yX.below{lo:Nat}{w w':World}{v:Value}{fs:List zE}(h:yX z lo w v fs)(c:μ w w'):yX z lo w' v fs:=by
 obtain⟨rvs,d,f,e⟩:=h;exact⟨rvs,d,zB f c,fun i a b=>(e i a b).below c⟩
theorem yX.low{a:Nat}{v:Value}{fs:List zE}(h:yX z lo w v fs)(c:a<=lo):yX z a w v fs:=by
 obtain⟨rvs,b,d,e⟩:=h;exact⟨rvs,b,yt d c,e⟩
theorem yX.saveT{lo:Nat}{w w':World}{v:Value}{fs:List zE}{M:List Nat}{T:TypeId}(h:yX z lo w v fs)(hs:ze M w w')(c:QU w T M)(g:56≠T)(f:9≠T):yX z lo w' v fs:=by
 obtain⟨rvs,d,e,j⟩:=h;exact⟨rvs,d,yF e hs c g,fun i a b=>(j i a b).saveT hs c f⟩
theorem yX.facts{v:Value}{fs:List zE}(h:yX z lo w v fs):mM w v fs:=by
 obtain⟨rvs,n,f,m⟩:=h;by_cases k:0<fs.length
 ·obtain⟨g,b,d,_,l,e⟩:=yx f k;refine⟨_,b,d,fun i c=>?_⟩;have a:i<rvs.length:=by omega
  refine⟨g,rvs[i],0,rfl,l,e (i*3) _ ?_,e (i*3+1) _ ?_,e (i*3+2) _ ?_,(m i c a).1⟩
  ·rw[show i*3=i*3+0 from rfl,sy _ _ _ _ c a (by omega)];rfl
  ·rw[sy _ _ _ _ c a (by omega)];rfl
  ·rw[sy _ _ _ _ c a (by omega)];rfl
 ·obtain⟨j,b,d⟩:=zp f;exact⟨j,b,d,fun i c=>zC c (by omega)⟩
section
variable {ops:Array Oper} {rest:List Oper} {o:Oper} {a:Act} {Q:Exit->Act->World->Prop}
theorem Dx{B:Nat}(q:o.guard=none)(s x:Operand)
  (V:o.op=.call {callee:=.builtin .append,args:=#[s,x],argTypes:=#[52,52]})
  (p g:List zE) (r L:Value) (O:a.eval s=r) (R:a.eval x=L) (h1:yX z lo w r p) (h2:yX z B w L g) (hl:p.length+g.length<=1000000000000) (K:lo<=w.heap.size)
  (h:∀J I,yX z lo I J (p++g)->ze r.ownBlock.toList w I->wpList prog ops Q rest (a.put o.dst J) I):
  wpList prog ops Q (o::rest) a w:=by
 obtain⟨N,U,H,C,y⟩:=info_parts Qq;obtain⟨rvs,t,m,M⟩:=h1;obtain⟨b,S,b2,P⟩:=h2;have n:∀u∈qB g b,u.oneCell'=true:=by
  intro u i;obtain⟨f,Z,i⟩:=List.mem_flatten.1 i;obtain⟨j,d,rfl⟩:=vw.1 Z;rw[List.getElem_zipWith] at i;simp only[List.length_zipWith] at d;obtain⟨ao,ad,e⟩:=(P j (by omega) (by omega)).1.qx;unfold Sa at i;rw[e] at i;simp only[zx,fG,or_false] at i;rcases i with rfl|rfl|rfl<;>simp[Value.oneCell']
 obtain⟨_,⟨E,hn⟩|⟨T,l,W,E,aa,hh,ab,ac,X,G⟩⟩:=id b2
 ·have F:g=[]:=rg hn;refine wpList_append_own_none q s x 52 V lo 56 N 3 underlying52 U _ _ _ O m (by rw[R,E]) ?_;refine h _ _ ?_ (ze.refl _ _);rw[F,qM];exact⟨rvs,t,m,M⟩
 ·have v:∀j u,(qB g b)[j]?=some u->w.cell? (Addr.add ⟨T,0,none⟩ j)=some u:=fun j u d=>by
   rw[Addr.add_lit,vB];unfold World.cell?;rw[hh];simp only;rw[←G,lF] at d;split at d
   ·simpa using d
   ·simp at d
  refine wpList_append_own _ q s x 52 V lo 56 N _ 3 48 underlying52 U H C y rfl (by decide) _ _ _ O m ⟨T,0,none⟩ g.length l (qB g b) (by rw[R,E]) (OQ S) v n (by unfold maxLen;omega) (by omega) K ?_;intro J w2 A c _;have D:ze r.ownBlock.toList w w2:=⟨c.os,c.tape,c.output,c.size,fun k hk hm=>c.block k hk fun e=>hm (by rw[←e];simp)⟩;refine h _ _ ⟨rvs++b,by simp[t,S],by rw[yq,L6 t];exact A,fun j Y q2=>?_⟩ D;by_cases d:j<p.length
  ·simp only[vu d,vu (show j<rvs.length by omega)];exact(M j d (by omega)).saveT D (QU.own m) (by decide)
  ·simp only[yq] at Y q2;simp only[mX (show p.length<=j by omega),mX (show rvs.length<=j by omega),t];exact(P _ (by omega) (by omega)).saveT D (QU.own m) (by decide)
theorem yX.one{b:Nat}{f:zE}{c:Value}(e:Q8 w b (Sa f c).toArray 56)(g:RY z w c f.2.1):yX z 0 w (.slice (some ⟨b,0,none⟩) 1 1) [f]:=by
 refine⟨[c],rfl,⟨by simp[qB,Sa],zb ⟨b,1,(Sa f c).toArray,rfl,zv _,e,zg _,by unfold maxLen;omega,by simp[Sa],by simp[qB,Sa]⟩⟩,fun i d h=>?_⟩;obtain rfl:i=0:=by simp at d;exact d
 exact g
end
theorem DC(w:World)(J l:Nat)(S Z C:Value)(fs c:List zE)(b:ByteArray)(row:κ)(R:Q8 w J #[S,ι l] 54)(hf:mM w S fs)(P:yX z lo w Z c)(G:RY z w C row)(ac:fs.length<=10000000)(au:c.length<1000000000000)(av:row.length<=1000000)(H:∀f∈fs,f.2.1.length<=1000000)(F:∀f∈c,f.2.1.length<=1000000)(X:lo<=w.heap.size):
  Calls prog 123 #[(π J),Z,.string b,C] w fun e w'=>∃v,e=.returned v/\Hid (yX z lo w' v (ud fs c (b,row,l)))/\Hid (ze Z.ownBlock.toList w w'):=by
 obtain⟨M,t,rfl⟩:=G.1.qx;have K:=Q7 (F0 w J l S fs b _ row R hf G.1 ac (by omega) H);have ah:Hid (∀W,μ w W->W.cell? ⟨J,1,none⟩=some (ι l)/\J<W.heap.size):=fun W m=>⟨by rw[(R.below m).rules.1];rfl,(R.below m).lt⟩;have V:=Q7 fun W lo va (a:κ) (m:μ w W) (ha:QF lo W va a) (hq:a.length<=1000000)=>Do W va _ a row ha (G.1.below m) hq (by omega);have u:=Q7 fun W (m:μ w W)=>P.below m;have aa:=Q7 fun W (m:μ w W)=>G.below m;have ab:=Q7 F;obtain⟨ao,ar,rfl,_⟩:=P.facts;have HC:Hid (∀W i (h:i<c.length),μ w W->∃g C lo,ao=some ⟨g,0,none⟩/\g<W.heap.size/\W.cell? ⟨g,i*3,none⟩=some (.string c[i].1)/\W.cell? ⟨g,i*3+1,none⟩=some C/\QF lo W C c[i].2.1):=fun W i h m=>by
  obtain⟨ap,al,e,q⟩:=(P.below m).facts;cases e;obtain⟨g,C,lo,r1,r2,r3,r4,_,r6⟩:=q i h;exact⟨g,C,lo,r1,r2,r3,r4,r6⟩
 have s:Hid ((yP b row fs).isSome=true↔0<=gW b row fs):=by
  unfold Hid gW;cases yP b row fs with
  |none=>simp
  |some z=>simp
 have ag:Hid ((yP b row fs).isSome=true->ud fs c (b,row,l)=c):=fun q=>zc (zf q);have ae:Hid ((yP b row c).isSome=true->ud fs c (b,row,l)=c):=fun q=>zc (zb q);have T:Hid (¬(yP b row fs).isSome=true->¬(yP b row c).isSome=true->ud fs c (b,row,l)=c++[(b,row,l)]):=fun q1 q2=>za (by rintro(z|z);exact q1 z;exact q2 z);clear R hf P G H F;generalize ud fs c (b,row,l)=aq at *;generalize (yP b row fs).isSome=fb at *;generalize gW b row fs=fi at *;by_cases I:0<=fi
 ·have L:=Q7 (ag.out (s.out.2 I));go_enter func123,ntmps123;go_wp2_with (go_at_call 45;refine K.out.mono ?_;rintro e w1 ⟨rfl,r⟩)
  go_ret;exact⟨_,rfl,by rw[Hid,L.out];exact u.out _ r,ze.of r⟩
 ·have ak:Hid (¬fb=true):=fun q=>I (s.out.1 q);have H0:Hid (yP b row c=(yP b row (c.drop 0)).map (·+0)):=show yP b row c=_ by simp
  generalize yP b row c=n at *;go_enter func123,ntmps123;go_wp2_with (go_at_call 45;refine K.out.mono ?_;rintro e w1 ⟨rfl,r⟩)
  go_loopw [10,11] (fun i _ wr=>∃k:Nat,k<=c.length/\i=ι k/\Hid (n=(yP b row (c.drop k)).map (·+k))/\μ w wr) (fun i _ _=>c.length-(intOf i).toNat)
  case atStart=>exact⟨0,zv _,rfl,H0,r⟩
  case round=>
   obtain⟨k,hk,rfl,Y,d⟩:=hrel;by_cases B:k<c.length
   ·have N:(k:Int)<(c.length:Int):=by omega
    obtain⟨g,am,af,rfl,hg,c0,c1,hS⟩:=HC.out wr k B d;have q:=Y.out;rw[CZ B] at q;have D:=Q7 q;clear q Y;have O:=Q7 (V.out wr af _ _ d hS (ab.out _ (zs B)));clear hS;generalize c[k].2.1=fr at *;generalize c[k].1=fp at *;by_cases x:fp=b
    ·have aj:=gE x;by_cases j:fr=row
     ·have A:Hid (n=some k):=show n=some k by rw[D.out,zc ⟨x,j⟩];simp
      have L:=Q7 (ae.out (by rw[A.out];rfl));rw[show decide (fr=row)=true by simp[j]] at O;clear D x j;go_wp2_with (go_at_call 84;refine O.out.mono ?_;rintro e w3 ⟨rfl,p⟩)
      go_ret;exact⟨_,rfl,by rw[Hid,L.out];exact u.out _ (QB d p),ze.of (QB d p)⟩
     ·have A:Hid (n=(yP b row (c.drop (k+1))).map (·+(k+1))):=show n=_ by
       rw[D.out,za (fun z=>j z.2),Option.map_map];congr 1;funext z;simp only[Function.comp];omega
      rw[show decide (fr=row)=false by simp[j]] at O;clear D x j;go_wp2_with (go_at_call 84;refine O.out.mono ?_;rintro e w3 ⟨rfl,p⟩)
      exact⟨⟨k+1,by omega,by go_num,A,QB d p⟩,by simp[intOf];omega⟩
    ·have aj:=j5 x;have A:Hid (n=(yP b row (c.drop (k+1))).map (·+(k+1))):=show n=_ by
      rw[D.out,za (fun z=>x z.1),Option.map_map];congr 1;funext z;simp only[Function.comp];omega
     clear D x;go_wp2;exact⟨⟨k+1,by omega,by go_num,A,d⟩,by simp[intOf];omega⟩
   ·have N:¬(k:Int)<(c.length:Int):=by omega
    have A:Hid (n=none):=show n=none by
     rw[Y.out,uj (by omega)];rfl
    have L:=Q7 (T.out ak.out (by rw[A.out];simp));obtain⟨c1,an⟩:=ah.out _ d;have hu:μ wr (wr.alloc (.cells #[.string b,.slice M row.length t,ι l] 56)):=(zo _ _).alloc (zg _) _;have y:=QB d hu;have HX:=Q7 (yX.one (f:=(b,row,l)) (Q8.new wr (Sa (b,row,l) (.slice M row.length t)).toArray 56) (aa.out _ y));have ai:=Q7 (u.out _ y);have E:=Q7 y;go_wp2_with (at_builtin;refine Dx rfl (.tmp 41) (.tmp 49) rfl _ _ _ _ rfl rfl ai.out HX.out (by simp;omega) (yc X E.out.size) ?_;intro v8 w8 ad U)
    go_ret;exact⟨_,rfl,by rw[Hid,L.out];exact ad,(ze.of E.out).trans U⟩
end
section
open Go.Proofs.Tryz
variable {z:Nat}{cs:List zd}{t:List zh}
theorem dU.clr{w:World}{g o:Nat}{c:zd}{e:Option Addr}{cap:Nat}{b:Option Addr}{a:Nat}(h:dU w g o c e cap b a)(f:(Value.slice e c.head.args.length cap).ownBlock≠some z):S3 z w g o c:=by
 refine⟨h.lt,h.c1,⟨_,h.c2,h.args,f⟩,b,a,h.c3,fun j n=>?_⟩;obtain⟨m,r,d,i,k,s,l,p,q⟩:=h.body.cell j n;exact⟨m,i,k,s,l,_,p,q⟩
structure SA (z:Nat) (w:World) (pb:Nat) (ao:Option Addr) (cap:Nat) (aop:Option Addr) (capp:Nat) (aok:Option Addr) (capk:Nat) (cs:List zd) (t:List zh):Prop where
 box:Q8 w pb #[.slice ao cs.length cap,.slice aop t.length capp,.slice aok t.length capk] 45
 cl:∀i (h:i<cs.length),∃g,ao=some ⟨g,0,none⟩/\S3 z w g (i*4) cs[i]
 names:QF 0 w (.slice aop t.length capp) (QA t)
 strata:∀i (h:i<t.length),∃g,aok=some ⟨g,0,none⟩/\g<w.heap.size/\w.cell? ⟨g,i,none⟩=some (ι (t[i].qh:Nat))
theorem SA.below{w w':World}{pb:Nat}{l:Option Addr}{cap:Nat}{d:Option Addr}{b:Nat}{e:Option Addr}{a:Nat}{cs:List zd}{t:List zh}(h:SA z w pb l cap d b e a cs t)(c:μ w w'):SA z w' pb l cap d b e a cs t:=by
 refine⟨h.box.below c,fun i k=>?_,h.names.below c,fun i k=>?_⟩
 ·obtain⟨g,j,f⟩:=h.cl i k;exact⟨g,j,f.below c⟩
 ·obtain⟨g,j,f,m⟩:=h.strata i k;exact⟨g,j,xP f c.size,(zl c f m)⟩
theorem jS.read{lo:Nat}{s w:World}{pb:Nat}(v:jS lo s pb cs t)(hs:RL lo s w)(W:z<lo∨s.heap.size<=z):∃o d f a c b,SA z w pb o d f a c b cs t:=by
 obtain⟨_,X,pv,kv,k,C,m,G⟩:=v.same hs;obtain⟨o,d,rfl⟩:=C.qx;obtain⟨f,a,rfl⟩:=m.qx;obtain⟨c,b,rfl⟩:=zp G;have e:(QA t).length=t.length:=by simp[QA]
 rw[e] at k m;refine⟨o,d,f,a,c,b,k,fun i j=>?_,yt m (zv _),fun i j=>?_⟩
 ·obtain⟨g,V,A,L,u,l,H⟩:=C.at i j;refine⟨g,l,H.clr ?_⟩;obtain⟨O,P,S,U,Q,E,_,_⟩:=v;have h:=Q.same O hs;rw[Q8] at k h;rw[k] at h;simp only[zt,Obj.cells.injEq,Array.mk.injEq,mp,and_true] at h;have K:=h.1.symm;subst K;obtain⟨g',x,p,B,n,I,R,_,_,N,_,J,_⟩:=E.cell i j;rw[l] at I;cases I;have r:lo<=g:=by
   obtain⟨Z,D,_⟩:=E;rw[l] at D;exact yV D rfl
  have q:w.cell? ⟨g,i*4+2,none⟩=s.cell? ⟨g,i*4+2,none⟩:=by simp[World.cell?,hs g r R]
  rw[H.c2,N] at q;rw[zt] at q;rw[q];intro F;have Y:=yV J F;have a2:=xI J F;omega
 ·obtain⟨g,y,M,_,r,T⟩:=yx G (by omega);cases M;refine⟨g,rfl,r,T i _ ?_⟩;simp[j,Rm]
theorem tB(a:uf cs t){c:zd}(i:c∈cs):fw (QA t) c.head.pred=(zO t c.head.pred:Nat)/\∃h:zO t c.head.pred<t.length,t[zO t c.head.pred].qh=xr t c.head.pred:=by
 obtain⟨b,p,f,o⟩:=a.lit c i c.head (by simp[zk]);have j:c.head.pred∈QA t:=by
  rw[←f,(fe a.rise b).2];exact z7.2 ⟨_,zs _,rfl⟩
 obtain⟨k,n,g⟩:=sX j;obtain⟨l,m⟩:=hO g;have d:k<t.length:=by simpa [QA] using l
 have e:zO t c.head.pred=k:=by
  have q:=fe a.rise d;have:fC t k=c.head.pred:=by
   rw[q.2,←m];simp[QA]
  rw[←this];exact q.1
 refine⟨by unfold fw;rw[g,e],b,?_⟩;have q:=(Bp a.rise b).1;rw[←(fe a.rise b).2,f] at q;unfold xr;rw[q]
theorem oI{s i:Nat}(a:i<cs.length):ym t (cs.take (i+1)) s=if xr t cs[i].head.pred=s/\0<cs[i].body.length then ym t (cs.take i) s++[cs[i]] else ym t (cs.take i) s:=by
 unfold ym;rw[yL a,rL];by_cases q:xr t cs[i].head.pred=s/\0<cs[i].body.length
 ·rw[zc q,List.filter_cons_of_pos (by simpa using q),List.filter_nil]
 ·rw[za q,List.filter_cons_of_neg (by simpa using q),List.filter_nil,qM]
theorem Is{s i:Nat}(c:i<cs.length)(q:xr t cs[i].head.pred=s/\0<cs[i].body.length):(ym t cs s).isEmpty=false:=by
 have:cs[i]∈ym t cs s:=ub.2 ⟨zs c,decide_eq_true q⟩;cases d:ym t cs s with
 |nil=>rw[d] at this;cases this
 |cons a b=>rfl
theorem KQ(w:World)(pb:Nat)(E:Option Addr)(cap:Nat)(N:Option Addr)(o:Nat)(n:Option Addr)(l:Nat)(cs:List zd)(t:List zh)(s:Nat)(h:SA z w pb E cap N o n l cs t)(B:uf cs t)(hl:cs.length<=1000)(ht:t.length<=1000)(p:∀c∈cs,xr t c.head.pred<=1000)(hs:s<=1000):
  Calls prog 124 #[(π pb),ι s] w fun e D=>e=ε (.bool (!(ym t cs s).isEmpty))/\D=w:=by
 have I:Hid (∀c∈cs,Calls prog 111 #[(π pb),.string c.head.pred] w fun e D=>e=ε (ι (zO t c.head.pred:Nat))/\D=w):=fun c K=>by
  have:=mV w pb _ _ _ (QA t) c.head.pred h.box h.names (by simp[QA];omega);rw[(tB B K).1] at this;exact this
 have M:Hid (∀c∈cs,zO t c.head.pred<t.length/\∃g,n=some ⟨g,0,none⟩/\g<w.heap.size/\w.cell? ⟨g,zO t c.head.pred,none⟩=some (ι (xr t c.head.pred:Nat))):=fun c K=>by
  obtain⟨k,j⟩:=(tB B K).2;obtain⟨g,r1,Y,r3⟩:=h.strata _ k;exact⟨k,g,r1,Y,by rw[r3,j]⟩
 have C:Hid (∀i (f:i<cs.length),∃g,E=some ⟨g,0,none⟩/\g<w.heap.size/\w.cell? ⟨g,i*4+1,none⟩=some (.string cs[i].head.pred)/\∃u v,w.cell? ⟨g,i*4+3,none⟩=some (.slice u cs[i].body.length v)):=fun i f=>by
  obtain⟨g,k,j⟩:=h.cl i f;obtain⟨u,v,q3,_⟩:=j.body;exact⟨g,k,j.lt,j.pred,u,v,q3⟩
 have r:=Q7 p;have b0:w.cell? ⟨pb,0,none⟩=some (.slice E cs.length cap):=by rw[h.box.rules.1];rfl
 have b2:w.cell? ⟨pb,2,none⟩=some (.slice n t.length l):=by rw[h.box.rules.1];rfl
 have Z:=h.box.lt;have HE:Hid (ym t cs s=ym t (cs.take cs.length) s):=by rw[Hid,vr]
 have x:Hid (∀i (f:i<cs.length),xr t cs[i].head.pred=s->0<cs[i].body.length->(ym t cs s).isEmpty=false):=fun i f k j=>Is f ⟨k,j⟩;have G:Hid (∀i (f:i<cs.length),¬(xr t cs[i].head.pred=s/\0<cs[i].body.length)->ym t (cs.take i) s=[]->ym t (cs.take (i+1)) s=[]):=fun i f k j=>by rw[oI f,za k,j]
 clear h B p;generalize ym t cs s=T at *;go_enter func124,ntmps124;go_wp2;go_loopw [5,6] (fun A _ wr=>∃i:Nat,i<=cs.length/\A=ι i/\Hid (ym t (cs.take i) s=[])/\wr=w) (fun A _ _=>cs.length-(intOf A).toNat)
 case atStart=>exact⟨0,zv _,rfl,rfl,rfl⟩
 case round=>
  obtain⟨i,f,rfl,H,J⟩:=hrel;obtain rfl:=J.symm;by_cases d:i<cs.length
  ·have L:(i:Int)<(cs.length:Int):=by omega
   obtain⟨g,rfl,hg,c1,u,v,c3⟩:=C.out i d;have a:=zs d;obtain⟨ab,gk,rfl,V,ck⟩:=M.out _ a;have F:=Q7 (I.out _ a);have W:=r.out _ a;have aa:((zO t cs[i].head.pred:Nat):Int)<(t.length:Int):=by omega
   have U:=Q7 (x.out i d);have O:=Q7 (G.out i d);clear a;generalize cs[i].body.length=bl at *;generalize xr t cs[i].head.pred=R at *;generalize zO t cs[i].head.pred=fk at *;generalize cs[i].head.pred=pr at *;by_cases S:R=s
   ·subst S;by_cases P:0<bl
    ·have y:(0:Int)<(bl:Int):=by omega
     have m:=Q7 (U.out rfl P);go_wp2_with (go_at_call 111;refine F.out.mono ?_;rintro e Q ⟨rfl,b⟩;obtain rfl:=b.symm)
     go_ret;exact⟨by rw[m.out];rfl,rfl⟩
    ·have y:¬(0:Int)<(bl:Int):=by omega
     have m:=Q7 (O.out (fun q=>P q.2) H.out);go_wp2_with (go_at_call 111;refine F.out.mono ?_;rintro e Q ⟨rfl,b⟩;obtain rfl:=b.symm)
     go_roundw
     ·exact⟨i+1,by omega,by go_num,m,trivial⟩
     ·simp[intOf];omega
   ·have X:¬((R:Int)=(s:Int)):=by omega
    have m:=Q7 (O.out (fun q=>S q.1) H.out);go_wp2_with (go_at_call 111;refine F.out.mono ?_;rintro e Q ⟨rfl,b⟩;obtain rfl:=b.symm)
    go_roundw
    ·exact⟨i+1,by omega,by go_num,m,trivial⟩
    ·simp[intOf];omega
  ·have L:¬(i:Int)<(cs.length:Int):=by omega
   obtain rfl:i=cs.length:=by omega
   have m:=Q7 (HE.out.trans H.out);go_wp2;go_ret;exact⟨by rw[m.out];rfl,rfl⟩
end
section
open Go.Proofs.Tryz
variable {z:Nat}
theorem E0(fs l:List zE)(f:zE):l.length<=(ud fs l f).length:=by
 unfold ud;split<;>simp
theorem tE{α:Type}(g:List zE->α->List zE)(b:∀l x,l.length<=(g l x).length):∀(a:List α) (l:List zE),l.length<=(a.foldl g l).length
 |[],_=>zg _
 |x::a,l=>yc (b l x) (tE g b a (g l x))
theorem KM{α:Type}(g:List zE->α->List zE)(b:∀l x,l.length<=(g l x).length)(a:List α)(l:List zE)(k:Nat):((a.take k).foldl g l).length<=(a.foldl g l).length:=by
 conv=>rhs;rw[←jt k a,j8]
 exact tE g b _ _
theorem LJ(fs:List zE)(k:Nat)(a:List zd)(l:List zE):l.length<=(xB fs k a l).length:=tE _ (fun l _=>tE _ (fun l _=>E0 fs l _) _ l) a l
theorem AI(fs:List zE)(k:Nat)(b a:List zd)(l:List zE):xB fs k (b++a) l=xB fs k a (xB fs k b l):=by
 unfold xB;rw[j8]
theorem JK(fs:List zE)(k:Nat)(t:List zh)(cs:List zd)(s i:Nat):(xB fs k (ym t (cs.take i) s) []).length<=(xB fs k (ym t cs s) []).length:=by
 have:ym t cs s=ym t (cs.take i) s++ym t (cs.drop i) s:=by
  unfold ym;rw[←rL,jt]
 rw[this,AI];exact LJ _ _ _ _
theorem eQ{fs:List zE}{h:zj}{body:List zj}:∀(rest:List zj) (B:yz) (r:κ),r∈ye fs h body rest B->r.length=h.args.length
 |[],B,r,a=>by
  unfold ye at a;split at a
  ·cases a
  ·rw[xG.1 a];simp[y9]
 |l::rest,B,r,a=>by
  unfold ye at a;split at a
  ·exact eQ rest B r a
  ·obtain⟨f,_,a⟩:=uS.1 a;split at a
   ·split at a
    ·cases a
    ·exact eQ rest _ r a
   ·cases a
theorem Oe{fs l:List zE}{f:zE}{n:Nat}(b:∀g∈l,g.2.1.length<=n)(c:f.2.1.length<=n):∀g∈ud fs l f,g.2.1.length<=n:=by
 intro g a;unfold ud at a;split at a
 ·exact b g a
 ·rcases zI.1 a with q|q
  ·exact b g q
  ·rw[xG.1 q];exact c
theorem iq{fs:List zE}{n:Nat}{p:ByteArray}{k:Nat}:∀(rs:List (κ)) (l:List zE),(∀g∈l,g.2.1.length<=n)->(∀r∈rs,r.length<=n)->∀g∈rs.foldl (fun l r=>ud fs l (p,r,k)) l,g.2.1.length<=n
 |[],_,a,_=>a
 |r::rs,l,a,b=>iq rs _ (Oe a (b r (by simp))) (fun x c=>b x (by simp[c]))
theorem KD(w:World)(pb mb n s:Nat)(fv:Value)(ao:Option Addr)(cap:Nat)(aE:Option Addr)(av:Nat)(aj:Option Addr)(Q:Nat)(cs:List zd)(t:List zh)(fs:List zE)(h:SA z w pb ao cap aE av aj Q cs t)(hz:z<w.heap.size)(hm:Q8 w mb #[fv,ι n] 54)(U:mM w fv fs)(hx:uf cs t)(hl:cs.length<=1000)(ht:t.length<=1000)(am:∀c∈cs,xr t c.head.pred<=1000)(hs:s<=1000)(ax:∀c∈cs,c.body.length<=30)(V:∀c∈cs,∀l∈zk c,l.args.length<=3/\∀a∈l.args,0<a.size)(ap:fs.length<=10000000)(X:∀f∈fs,f.2.1.length<=1000000)(hF:pV cs fs)(ar:(xB fs n (ym t cs s) []).length<1000000000000)(Z:∀c∈cs,(ye fs c.head c.body c.body []).length<=1000000000000):
  Calls prog 125 #[(π pb),(π mb),ι s] w fun e A=>∃v,e=.returned v/\Hid (yX z w.heap.size A v (xB fs n (ym t cs s) []))/\Hid (μ w A):=by
 have aO:Hid (∀W c,μ w W->c∈cs->Calls prog 111 #[(π pb),.string c.head.pred] W fun e A=>e=ε (ι (zO t c.head.pred:Nat))/\A=W):=fun W c m hc=>by
  have:=mV W pb _ _ _ (QA t) c.head.pred (h.below m).box (h.below m).names (by simp[QA];omega);rw[(tB hx hc).1] at this;exact this
 have aZ:Hid (∀W c,μ w W->c∈cs->zO t c.head.pred<t.length/\∃g,aj=some ⟨g,0,none⟩/\g<W.heap.size/\W.cell? ⟨g,zO t c.head.pred,none⟩=some (ι (xr t c.head.pred:Nat))):=fun W c m hc=>by
  obtain⟨D,F⟩:=(tB hx hc).2;obtain⟨g,r1,r2,r3⟩:=(h.below m).strata _ D;exact⟨D,g,r1,r2,by rw[r3,F]⟩
 have aw:Hid (∀W i (C:i<cs.length),μ w W->∃g,ao=some ⟨g,0,none⟩/\g<W.heap.size/\g<w.heap.size/\S3 z W g (i*4) cs[i]):=fun W i C m=>by
  obtain⟨g,D,F⟩:=h.cl i C;exact⟨g,D,xP F.lt m.size,F.lt,F.below m⟩
 have a9:Hid (∀W,μ w W->W.cell? ⟨pb,0,none⟩=some (.slice ao cs.length cap)/\W.cell? ⟨pb,2,none⟩=some (.slice aj t.length Q)/\pb<W.heap.size):=fun W m=>⟨by rw[(h.below m).box.rules.1];rfl,by rw[(h.below m).box.rules.1];rfl,(h.below m).box.lt⟩;have az:Hid (∀W i (C:i<cs.length) g,μ w W->S3 z W g (i*4) cs[i]->Calls prog 166 #[(π mb),.pointer (some ⟨g,i*4,none⟩),ι 0,.agg #[ν,ν]] W fun e A=>∃v,e=.returned v/\Hid (vf z W.heap.size A v (ye fs cs[i].head cs[i].body cs[i].body []))/\Hid (μ W A)):=fun W i C g m hc=>by
  have j:=zs C;exact F4 mb n g (i*4) fv cs[i] fs (ax _ j) (V _ j) ap X (fun f U l hl e=>hF.jh f U _ j l hl e.symm) hF.ne cs[i].body 0 W _ _ [] (zv _) rfl (by simp) (fun v x q=>by cases q) (Z _ j) ⟨hm.below m,U.below m,hc,QF.nil W,QF.nil W,xP hz m.size⟩
 have R:=Q7 fun W M rv au row (ls:List zE) (m:μ w W) (h1:yX z w.heap.size W M ls) (h2:RY z W rv row) (h3:ls.length<1000000000000) (h4:row.length<=1000000) (h5:(∀f∈ls,f.2.1.length<=1000000))=>DC W mb n fv M rv fs ls au row (hm.below m) (U.below m) h1 h2 ap h3 h4 X h5 m.size;have a7:=Q7 am;have HE:Hid (xB fs n (ym t cs s) []=xB fs n (ym t (cs.take cs.length) s) []):=by rw[Hid,vr]
 have aX:=Q7 fun i=>Nat.lt_of_le_of_lt (JK fs n t cs s i) ar;have aK:Hid (∀i (C:i<cs.length),xr t cs[i].head.pred=s->0<cs[i].body.length->xB fs n (ym t (cs.take (i+1)) s) []=(ye fs cs[i].head cs[i].body cs[i].body []).foldl (fun l r=>ud fs l (cs[i].head.pred,r,n)) (xB fs n (ym t (cs.take i) s) [])):=fun i C D F=>by
  rw[oI C,zc ⟨D,F⟩,AI];rfl
 have aH:Hid (∀i (C:i<cs.length),¬(xr t cs[i].head.pred=s/\0<cs[i].body.length)->xB fs n (ym t (cs.take (i+1)) s) []=xB fs n (ym t (cs.take i) s) []):=fun i C D=>by rw[oI C,za D]
 have aA:Hid (∀i (C:i<cs.length),∀r∈ye fs cs[i].head cs[i].body cs[i].body [],r.length<=1000000):=fun i C r hr=>by
  rw[eQ _ _ r hr];have:=(V _ (zs C) cs[i].head (by simp[zk])).1;omega
 have aS:=Q7 Z;clear h hm U hx am ax V X hF ar Z;generalize xB fs n (ym t cs s) []=bi at *;go_enter func125,ntmps125;go_wp2;go_loopw [7,8,9,10,11,12] (fun v7 v8 _ _ _ _ wr=>∃i:Nat,i<=cs.length/\v8=ι i/\Hid (yX z w.heap.size wr v7 (xB fs n (ym t (cs.take i) s) []))/\Hid (∀f∈xB fs n (ym t (cs.take i) s) [],f.2.1.length<=1000000)/\Hid (μ w wr)) (fun _ v8 _ _ _ _ _=>cs.length-(intOf v8).toNat)
 case atStart=>exact⟨0,zv _,rfl,yX.nil _ _,fun f U=>(by cases U),zo _ _⟩
 case round=>
  obtain⟨i,C,rfl,K,O,o⟩:=hrel;obtain⟨b0,b2,aT⟩:=a9.out _ o.out;by_cases B:i<cs.length
  ·have aI:(i:Int)<(cs.length:Int):=by omega
   have j:=zs B;obtain⟨g,rfl,hg,bm,J⟩:=aw.out _ i B o.out;have HC:=Q7 J;obtain⟨bd,gk,rfl,aW,ck⟩:=aZ.out _ _ o.out j;have HP:=Q7 (aO.out _ _ o.out j);have bn:=a7.out _ j;have bg:((zO t cs[i].head.pred:Nat):Int)<(t.length:Int):=by omega
   have c1:=J.pred;obtain⟨ab,cb,c3⟩:∃ab cb,wr.cell? ⟨g,i*4+3,none⟩=some (.slice ab cs[i].body.length cb):=by
    obtain⟨ab,cb,c3,_⟩:=J.body;exact⟨ab,cb,c3⟩
   have H1:=Q7 (aK.out i B);have H2:=Q7 (aH.out i B);have a1:=Q7 (aX.out (i+1));have ak:=Q7 (az.out wr i B g o.out J);have ai:=Q7 (aA.out i B);have aC:=Q7 (aS.out _ j);have a0:Hid (∀W,μ w W->g<W.heap.size/\W.cell? ⟨g,i*4+1,none⟩=some (.string cs[i].head.pred)):=fun W m=>by
    obtain⟨g',e,D,_,F⟩:=aw.out W i B m;cases e;exact⟨D,F.pred⟩
   clear j J HC;obtain⟨nx,aa⟩:∃nx,xB fs n (ym t (cs.take (i+1)) s) []=nx:=⟨_,rfl⟩;rw[aa] at H1 H2 a1;have E:=Q7 aa;clear aa;generalize xB fs n (ym t (cs.take i) s) []=T at *;generalize ye fs cs[i].head cs[i].body cs[i].body []=d at *;generalize cs[i].body.length=bl at *;generalize xr t cs[i].head.pred=sk at *;generalize zO t cs[i].head.pred=fk at *;generalize cs[i].head.pred=G at *;by_cases h1:sk=s
   ·subst h1;by_cases h2:0<bl
    ·have aB:¬((bl:Int)=0):=by omega
     have HN:=Q7 (H1.out rfl h2);have bf:=aC.out;go_upto_region 9 with (first|(go_at_call 166;refine ak.out.mono ?_;rintro e w2 ⟨aM,rfl,af,ae⟩)|(go_at_call 111;refine HP.out.mono ?_;rintro e w1 ⟨rfl,I⟩;obtain rfl:=I.symm))
     have al:=Q7 (K.out.below ae.out);have an:=Q7 (QB o.out ae.out);clear HP ak b0 b2 aT hg aW ck c1 c3 H1 H2 K ae o;obtain⟨H,u,a3⟩:∃H u,aM=.slice H d.length u:=by
      obtain⟨_,_,q,_⟩:=af.out;exact zp q
     subst a3;go_wp2;go_loopw [7,12] (fun v7 ac wz=>∃(k:Nat) (M:Value),k<=d.length/\ac=ι k/\v7=M/\Hid (yX z w.heap.size wz M ((d.take k).foldl (fun l r=>ud fs l (G,r,n)) T))/\Hid (vf z 0 wz (.slice H d.length u) d)/\Hid (μ w wz)) (fun _ ac _=>d.length-(intOf ac).toNat)
     case atStart=>
      obtain⟨y,D,F,q3⟩:=af.out;exact⟨0,_,zv _,rfl,rfl,al,⟨y,D,yt F (zv _),q3⟩,an⟩
     case round=>
      clear al an af;obtain⟨k,M,hk,rfl,ay,aq,a8,Y⟩:=hrel;obtain rfl:=ay.symm;clear ay;by_cases ah:k<d.length
      ·have aD:(k:Int)<(d.length:Int):=by omega
       obtain⟨y,r1,r2,r3⟩:=a8.out;obtain⟨N,bb,aL,_,bc,S⟩:=yx r2 (by omega);cases aL;have ag:k<y.length:=by omega
       have bh:wr.cell? ⟨N,k,none⟩=some y[k]:=S k _ (by simp[ag]);obtain⟨hg,c1⟩:=a0.out _ Y.out;have aU:Hid ((d.take (k+1)).foldl (fun l r=>ud fs l (G,r,n)) T=ud fs ((d.take k).foldl (fun l r=>ud fs l (G,r,n)) T) (G,d[k],n)):=by
        rw[Hid,yL ah,j8];rfl
       have P:((d.take k).foldl (fun l r=>ud fs l (G,r,n)) T).length<1000000000000:=by
        refine Nat.lt_of_le_of_lt (KM _ (fun l _=>E0 fs l _) d T k) ?_;rw[←HN.out];exact a1.out
       have a6:=iq (fs:=fs) (p:=G) (k:=n) (d.take k) T O.out (fun r hr=>ai.out r (fV hr));have aP:Hid (∀W,μ wr W->Calls prog 123 #[(π mb),M,.string G,y[k]] W fun e A=>∃v,e=.returned v/\Hid (yX z w.heap.size A v (ud fs ((d.take k).foldl (fun l r=>ud fs l (G,r,n)) T) (G,d[k],n)))/\Hid (vf z 0 A (.slice (some ⟨N,0,none⟩) d.length u) d)/\Hid (μ w A)/\A.cell? ⟨N,k,none⟩=some y[k]/\A.cell? ⟨g,i*4+1,none⟩=some (.string G)):=fun W m=>by
        have ad:=QB Y.out m;have a2:=aq.out.below m;refine(R.out W M y[k] G d[k] _ ad a2 ((r3 k ah ag).below m) P (ai.out _ (zs ah)) a6).mono ?_;rintro e A ⟨v,D,F,q3⟩;obtain⟨_,_,L,_⟩:=id a2;have hS:=q3.out;have a4:=hS.below (fun b m=>yV L (yr m)) ad.size;have aJ:=a8.out.below m;have a5:=ad.trans a4;have aN:=yF (zB r2 m) hS (QU.own L) (by decide);obtain⟨g',ba,e2,_,bk,aF⟩:=yx aN (by omega);cases e2;exact⟨v,D,F,aJ.saveT hS (QU.own L) (by decide) (by decide),a5,aF k _ (by simp[ag]),(a0.out _ a5).2⟩
       clear r2 r3 S P a6 R;generalize y[k]=rv at *;go_upto_region 12 with fail
       go_region_held3 (fun A=>A.cell? ⟨N,k,none⟩=some rv/\A.cell? ⟨g,i*4+1,none⟩=some (.string G)) (first|go_keep|(go_simp;done)) (first|(go_at_call 123;refine(aP.out _ (by exact(by repeat'(first|with_reducible(first|apply zR|assumption|apply zN|apply zA|apply zD|apply zS)|go_size)))).mono ?_;rintro e w5 ⟨v5,rfl,aQ,aG,aV,z0,z1⟩))
       go_wp2;go_roundw
       ·exact⟨k+1,_,by omega,by go_num,rfl,by rw[aU.out];exact aQ,aG,aV⟩
       ·simp[intOf];omega
      ·have aD:¬(k:Int)<(d.length:Int):=by omega
       obtain rfl:k=d.length:=by omega
       have aY:Hid (yX z w.heap.size wr M nx):=by
        have q:=aq.out;rw[vr,←HN.out] at q;exact q
       have aR:Hid (∀f∈nx,f.2.1.length<=1000000):=by
        rw[HN.out];exact iq d T O.out ai.out
       go_wp2;go_roundw
       ·exact⟨i+1,by omega,by go_num,by rw[E.out];exact aY,by rw[E.out];exact aR,Y⟩
       ·simp[intOf];omega
    ·have aB:(bl:Int)=0:=by omega
     have HF:=Q7 (H2.out (fun q=>h2 q.2));go_wp2_with (go_at_call 111;refine HP.out.mono ?_;rintro e w1 ⟨rfl,I⟩;obtain rfl:=I.symm)
     go_roundw
     ·exact⟨i+1,by omega,by go_num,by rw[E.out,HF.out];exact K,by rw[E.out,HF.out];exact O,o⟩
     ·simp[intOf];omega
   ·have be:¬((sk:Int)=(s:Int)):=by omega
    have HF:=Q7 (H2.out (fun q=>h1 q.1));go_wp2_with (go_at_call 111;refine HP.out.mono ?_;rintro e w1 ⟨rfl,I⟩;obtain rfl:=I.symm)
    go_roundw
    ·exact⟨i+1,by omega,by go_num,by rw[E.out,HF.out];exact K,by rw[E.out,HF.out];exact O,o⟩
    ·simp[intOf];omega
  ·have aI:¬(i:Int)<(cs.length:Int):=by omega
   obtain rfl:i=cs.length:=by omega
   go_wp2;go_ret;exact⟨_,rfl,by rw[Hid,HE.out];exact K.out,o⟩
def p8(z:Nat)(w:World)(b:Option (List zE×Nat))(e:Ending)(w':World):Prop:=match b with
 |none=>e=ε (.pointer none)/\Hid (μ w w')
 |some (L,k)=>∃a,e=ε ((π a))/\Hid (∃c,w.heap.size<=a/\Q8 w' a #[c,ι k] 54/\yX z w.heap.size w' c L)/\Hid (μ w w')
structure Sg (z:Nat) (w wr:World) (mb:Nat) (fv:Value) (L:List zE) (k:Nat):Prop where
 hmb:w.heap.size<=mb
 box:Q8 wr mb #[fv,ι k] 54
 fl:yX z w.heap.size wr fv L
 bel:μ w wr
theorem Sg.below{w wr w':World}{b:Nat}{c:Value}{L:List zE}{k:Nat}(h:Sg z w wr b c L k)(a:μ wr w'):Sg z w w' b c L k:=⟨h.hmb,h.box.below a,h.fl.below a,QB h.bel a⟩
theorem Sg.up{w wr:World}{a:Nat}{b:Value}{L:List zE}{k:Nat}(h:Sg z w wr a b L k):Sg z w (wr.setCell ⟨a,1,none⟩ (ι ((k:Int)+1))) a b L (k+1):=by
 refine⟨h.hmb,?_,h.fl.saveT (ze.set _ _ _ _) (QU.box h.box) (by decide) (by decide),h.bel.setCell h.hmb _⟩;have:=h.box.set 1 (ι ((k:Int)+1));simpa using this
theorem Sg.put{w wr:World}{e:Nat}{h a:Value}{g:List zE}{k:Nat}(d:w.heap.size<=e)(b:Q8 wr e #[h,ι k] 54)(f:yX z w.heap.size wr a g)(c:μ w wr):Sg z w (wr.setCell ⟨e,0,none⟩ a) e a g k:=by
 refine⟨d,?_,f.saveT (ze.set _ _ _ _) (QU.box b) (by decide) (by decide),c.setCell d _⟩;have:=b.set 0 a;simpa using this
theorem EK{cs:List zd}{i:Nat}(a:i<cs.length):xE (cs.take (i+1))=if cs[i].body.length=0 then ud [] (xE (cs.take i)) (cs[i].head.pred,cs[i].head.args,0) else xE (cs.take i):=by
 unfold xE;rw[yL a,rL];by_cases q:cs[i].body.length=0
 ·rw[zc q,List.filter_cons_of_pos (by simpa using q),List.filter_nil,uP,j8];rfl
 ·rw[za q,List.filter_cons_of_neg (by simpa using q),List.filter_nil,qM]
theorem Lo(cs:List zd):(xE cs).length<=cs.length/\∀f∈xE cs,∃c∈cs,f=(c.head.pred,c.head.args,0):=by
 have:∀i,i<=cs.length->(xE (cs.take i)).length<=i/\∀f∈xE (cs.take i),∃c∈cs,f=(c.head.pred,c.head.args,0):=by
  intro i;induction i with
  |zero=>intro _;exact⟨by simp[xE],fun f b=>by simp[xE] at b⟩
  |succ i d=>
   intro g;obtain⟨e,a⟩:=d (by omega);rw[EK (by omega)];split
   ·unfold ud;split
    ·exact⟨by omega,a⟩
    ·refine⟨by simp;omega,fun f b=>?_⟩;rcases zI.1 b with q|q
     ·exact a f q
     ·exact⟨cs[i],zs _,xG.1 q⟩
   ·exact⟨by omega,a⟩
 have h:=this cs.length (zg _);rw[vr] at h;exact h
theorem Iq(w:World)(pb mr mx:Nat)(ao:Option Addr)(cap:Nat)(Z:Option Addr)(C:Nat)(aB:Option Addr)(Q:Nat)(cs:List zd)(t0 t:List zh)(hz:z<w.heap.size)(h:SA z w pb ao cap Z C aB Q cs t)(hp:QN cs t0 t)(hx:uf cs t)(hl:cs.length<=1000)(ht:t.length<=1000)(ay:∀c∈cs,xr t c.head.pred<=1000)(aS:∀c∈cs,c.body.length<=30)(Y:∀c∈cs,∀l∈zk c,l.args.length<=3/\∀a∈l.args,0<a.size)(b7:mr<=1048576)(b3:mx<=1048576)(ad:∀L D,Rx t (zq cs) L D->L.length<1000000000000/\∀c∈cs,(ye L c.head c.body c.body []).length<=1000000000000):
  Calls prog 76 #[(π pb),ι mr,ι mx] w fun e H=>p8 z w (yly t cs mr mx) e H:=by
 have b8:=Q7 fun W (j:μ w W)=>h.below j;have aq:Hid (∀W,μ w W->W.cell? ⟨pb,0,none⟩=some (.slice ao cs.length cap)/\W.cell? ⟨pb,1,none⟩=some (.slice Z t.length C)/\pb<W.heap.size):=fun W j=>⟨by rw[(h.below j).box.rules.1];rfl,by rw[(h.below j).box.rules.1];rfl,(h.below j).box.lt⟩;have aR:Hid (∀W i (hi:i<cs.length),μ w W->∃g av ab cb,ao=some ⟨g,0,none⟩/\g<W.heap.size/\g<w.heap.size/\W.cell? ⟨g,i*4+1,none⟩=some (.string cs[i].head.pred)/\W.cell? ⟨g,i*4+2,none⟩=some av/\RY z W av cs[i].head.args/\W.cell? ⟨g,i*4+3,none⟩=some (.slice ab cs[i].body.length cb)):=fun W i hi j=>by
  obtain⟨g,q1,q2⟩:=h.cl i hi;have q3:=q2.below j;obtain⟨av,q4,q5⟩:=q3.args;obtain⟨ab,cb,q6,_⟩:=q3.body;exact⟨g,av,ab,cb,q1,q3.lt,q2.lt,q3.pred,q4,q5,q6⟩
 have bu:=Q7 fun W s j hs=>KQ W pb ao cap Z C aB Q cs t s (h.below j) hx hl ht ay hs;have bc:Hid (∀W s mb B L D k,Sg z w W mb B L k->Rx t (zq cs) L D->L.length<=1048576->s<=1000->Calls prog 125 #[(π pb),(π mb),ι (s:Nat)] W fun e H=>∃v,e=.returned v/\Hid (yX z W.heap.size H v (xB L k (ym t cs s) []))/\Hid (μ W H)):=fun W s mb B L D k hM hR hL hs=>by
  have bk:=(ad _ _ (hR.round hp hx s k).1).1;rw[yq] at bk;exact KD W pb mb k s B ao cap Z C aB Q cs t L (h.below hM.bel) (xP hz hM.bel.size) hM.box hM.fl.facts hx hl ht ay hs aS Y (by omega) (fun f hf=>by
   obtain⟨p,br,r,m,_,rfl⟩:=(hR.mem f).1 hf;simp only[tr];have:=hx.small p br;omega) (hR.fs hx) (by omega) (ad _ _ hR).2
 have aW:=Q7 Y;have a5:Hid (xE cs=xE (cs.take cs.length)):=by rw[Hid,vr]
 have az:Hid (∀i,(xE (cs.take i)).length<=1000/\∀f∈xE (cs.take i),f.2.1.length<=1000000):=fun i=>by
  obtain⟨q1,q2⟩:=Lo (cs.take i);refine⟨by simp at q1;omega,fun f hf=>?_⟩;obtain⟨c,hc,rfl⟩:=q2 f hf;have:=(Y c (fV hc) c.head (by simp[zk])).1;show c.head.args.length<=_;omega
 have aI:Hid (∀i (hi:i<cs.length),xE (cs.take (i+1))=if cs[i].body.length=0 then ud [] (xE (cs.take i)) (cs[i].head.pred,cs[i].head.args,0) else xE (cs.take i)):=fun i hi=>EK hi;have aL:=Q7 (EG hx);have aY:=Q7 fun L D s k (q:Rx t (zq cs) L D)=>(q.round hp hx s k).1;have aZ:=Q7 fun L D q=>(ad L D q).1;have aP:Hid (yly t cs mr mx=if (xE cs).length<=mr then zyz t cs mr mx t.length 0 0 (xE cs) else none):=rfl;obtain⟨b0,b1,R⟩:=aq.out w (zo _ _);clear h hp hx ay aS Y ad;generalize yly t cs mr mx=d at *;go_enter func76,ntmps76;go_wp2;have J:Hid (Sg z w (w.alloc (.cells #[ν,ι 0] 54)) w.heap.size (ν) [] 0):=⟨zg _,Q8.new _ _ _,yX.nil _ _,(zo _ _).alloc (zg _) _⟩;generalize bb:w.alloc (.cells #[ν,ι 0] 54)=wA at *;clear bb b0 b1 R;go_loopw [8,9,10] (fun v8 v9 _ wr=>∃(i:Nat) (lv:Value),i<=cs.length/\v9=ι i/\v8=lv/\Hid (yX z wA.heap.size wr lv (xE (cs.take i)))/\Hid (μ wA wr)) (fun _ v9 _ _=>cs.length-(intOf v9).toNat)
 case atStart=>exact⟨0,_,zv _,rfl,rfl,yX.nil _ _,zo _ _⟩
 case round=>
  obtain⟨i,lv,hi,rfl,ah,ai,y⟩:=hrel;obtain rfl:=ah.symm;clear ah;have ak:=Q7 (QB J.out.bel y.out);obtain⟨b0,b1,R⟩:=aq.out _ ak.out;by_cases a0:i<cs.length
  ·have bi:(i:Int)<(cs.length:Int):=by omega
   obtain⟨g,av,ab,cb,rfl,hg,bq,c1,c2,a6,c3⟩:=aR.out _ i a0 ak.out;have aa:=Q7 (aI.out i a0);obtain⟨aK,ar⟩:=az.out i;have b6:=(aW.out _ (zs a0) cs[i].head (by simp[zk])).1;by_cases j:cs[i].body.length=0
   ·have au:Hid (xE (cs.take (i+1))=ud [] (xE (cs.take i)) (cs[i].head.pred,cs[i].head.args,0)):=by rw[Hid,aa.out,zc j]
    rw[j] at c3;have bo:Hid (∀W,μ wr W->Calls prog 123 #[.pointer (some ⟨w.heap.size,0,none⟩),lv,.string cs[i].head.pred,av] W fun e H=>∃v,e=.returned v/\Hid (yX z wA.heap.size H v (ud [] (xE (cs.take i)) (cs[i].head.pred,cs[i].head.args,0)))/\Hid (μ wA H)/\H.cell? ⟨g,i*4+1,none⟩=some (.string cs[i].head.pred)/\H.cell? ⟨g,i*4+2,none⟩=some av):=fun W j=>by
     have ag:=QB y.out j;have aV:=ai.out.below j;refine(DC W w.heap.size 0 _ lv av [] (xE (cs.take i)) cs[i].head.pred cs[i].head.args (J.out.box.below ag) (yX.nil (z:=z) 0 W).facts aV (a6.below j) (by simp) (by omega) (by omega) (fun f hf=>by cases hf) ar ag.size).mono ?_;rintro e H ⟨v,q1,q2,q3⟩;obtain⟨_,_,aT,_⟩:=id aV;have aD:=ag.trans (q3.out.below (fun b j=>yV aT (yr j)) ag.size);have ae:=xP bq J.out.bel.size;have k1:=(y.out.cell (p:=⟨g,i*4+1,none⟩) ae).symm.trans c1;have k2:=(y.out.cell (p:=⟨g,i*4+2,none⟩) ae).symm.trans c2;exact⟨v,q1,q2,aD,(zl aD ae k1),(zl aD ae k2)⟩
    clear a6 aa aK ar;generalize ud [] (xE (cs.take i)) (cs[i].head.pred,cs[i].head.args,0)=nx at *;generalize cs[i].head.pred=pr at *;go_upto_region 8 with fail
    go_region_held3 (fun H=>H.cell? ⟨g,i*4+1,none⟩=some (.string pr)/\H.cell? ⟨g,i*4+2,none⟩=some av) (first|go_keep|(go_simp;done)) (first|(go_at_call 123;refine(bo.out _ (by exact(by repeat'(first|with_reducible(first|apply zR|assumption|apply zN|apply zA|apply zD|apply zS)|go_size)))).mono ?_;rintro e w5 ⟨v5,rfl,bp,bv,z0,z1⟩))
    go_wp2;go_roundw
    ·exact⟨i+1,_,by omega,by go_num,rfl,by rw[au.out];exact bp,bv⟩
    ·simp[intOf];omega
   ·have au:Hid (xE (cs.take (i+1))=xE (cs.take i)):=by rw[Hid,aa.out,za j]
    have b2:¬((cs[i].body.length:Int)=0):=by omega
    clear a6 aa aK ar j;generalize cs[i].body.length=bl at *;go_wp2;go_roundw
    ·exact⟨i+1,_,by omega,by go_num,rfl,by rw[au.out];exact ai,y⟩
    ·simp[intOf];omega
  ·have bi:¬(i:Int)<(cs.length:Int):=by omega
   obtain rfl:i=cs.length:=by omega
   have aA:Hid (yX z wA.heap.size wr lv (xE cs)):=by rw[a5.out];exact ai
   have aN:=(az.out cs.length).1;rw[←a5.out] at aN;have aC:=J.out.box.below y.out;have N:=Q7 (Sg.put (zg _) aC (aA.out.low J.out.bel.size) ak.out);have V:=Q7 aP.out;obtain⟨aF,T,ah⟩:∃aF T,lv=.slice aF (xE cs).length T:=by
    obtain⟨_,_,q,_⟩:=aA.out;exact zp q
   subst ah;obtain⟨mc,mf,x⟩:=aC.boxed;clear aC aA ai a5 aI az aW aR aP;generalize xE cs=L0 at *;go_upto_region 10 with fail
   generalize wr.setCell ⟨w.heap.size,0,none⟩ (.slice aF L0.length T)=wB at *;clear mc mf x b0 b1 R y ak;obtain⟨mc,mf,x⟩:=N.out.box.boxed;obtain⟨b0,b1,R⟩:=aq.out _ N.out.bel;by_cases hq:L0.length<=mr
   ·have aJ:¬((mr:Int)<(L0.length:Int)):=by omega
    have aM:Hid (zyz t cs mr mx t.length 0 0 L0=d):=by rw[Hid,V.out,zc hq]
    go_wp2;clear mc mf x b0 b1 R V;go_loopw [12,13,14] (fun a2 _ _ wz=>∃(s k:Nat) (L:List zE) (B:Value),s<=t.length/\a2=ι s/\L.length<=mr/\k<=mx/\Hid (Sg z w wz w.heap.size B L k)/\Hid (∃D,Rx t (zq cs) L D)/\Hid (zyz t cs mr mx (t.length-s) s k L=d)) (fun a2 _ _ _=>t.length-(intOf a2).toNat)
    case atStart=>exact⟨0,0,L0,_,zv _,rfl,hq,zv _,N,⟨_,aL.out⟩,aM⟩
    case round=>
     clear N aL aM hq aJ aN;obtain⟨s,k,L,B,hs,rfl,af,ac,I,F,HS⟩:=hrel;by_cases b4:s<t.length
     ·have bm:(s:Int)<(t.length:Int):=by omega
      obtain⟨n,hn⟩:∃n,t.length-s=n+1:=⟨t.length-s-1,by omega⟩;have bd:=Q7 (show t.length-(s+1)=n by omega);have aO:Hid (d=if ym t cs s=[] then zyz t cs mr mx n (s+1) k L else match z0y t cs mr s (mx-k) k L with|none=>none|some (L',k')=>zyz t cs mr mx n (s+1) k' L'):=by
       have q:=HS.out;rw[hn,zyz] at q;exact q.symm
      have am:=Q7 (bu.out wr s I.out.bel (by omega));clear hn HS;go_wp2_with (go_at_call 124;refine am.out.mono ?_;rintro e w1 ⟨rfl,bf⟩;obtain rfl:=bf.symm)
      clear am;go_loopg [13,14] (mx+1) (fun f bx _ wz=>∃(b:Bool) (k:Nat) (L:List zE) (B:Value),bx=.bool b/\(b=true->mx-k<f)/\L.length<=mr/\k<=mx/\Hid (Sg z w wz w.heap.size B L k)/\Hid (∃D,Rx t (zq cs) L D)/\Hid (d=if b=false then zyz t cs mr mx n (s+1) k L else match z0y t cs mr s (mx-k) k L with|none=>none|some (L',k')=>zyz t cs mr mx n (s+1) k' L'))
      case atStart=>
       refine⟨!(ym t cs s).isEmpty,k,L,B,rfl,fun _=>by omega,af,ac,I,F,?_⟩;rw[Hid,aO.out];cases ym t cs s with
       |nil=>rfl
       |cons a b=>rfl
      case round=>
       clear I F aO af ac;obtain⟨b,k,L,B,rfl,a9,af,ac,I,F,HS⟩:=hrel;cases b with
       |false=>
        have P:Hid (zyz t cs mr mx n (s+1) k L=d):=HS.out.symm;go_wp2;go_roundw
        ·exact⟨s+1,k,L,B,by omega,by go_num,af,ac,I,F,by rw[bd.out];exact P⟩
        ·simp[intOf];omega
       |true=>
        have P:Hid (d=match z0y t cs mr s (mx-k) k L with|none=>none|some (L',k')=>zyz t cs mr mx n (s+1) k' L'):=HS.out;have b5:=a9 rfl;obtain⟨mc,mf,x⟩:=I.out.box.boxed;by_cases bt:k=mx
        ·subst bt;have K:Hid (d=none):=by rw[Hid,P.out,kf];rfl
         clear a9;go_wp2;go_ret;unfold p8;rw[K.out];exact⟨rfl,I.out.bel⟩
        ·have bz:¬((k:Int)=(mx:Int)):=by omega
         obtain⟨left,M⟩:∃left,mx-k=left+1:=⟨mx-k-1,by omega⟩;have be:=Q7 (show mx-(k+1)=left by omega);have a8:=P.out;rw[M,z0y] at a8;have HU:=Q7 (I.out.up);have U:=Q7 a8;clear P M a9 HS a8;go_upto_region 21 with fail
         generalize wr.setCell ⟨w.heap.size,1,none⟩ (ι ((k:Int)+1))=w1 at *;clear mc mf x I;obtain⟨D,hD⟩:=F.out;have aX:=Q7 (bc.out w1 s w.heap.size B L D (k+1) HU.out hD (by omega) (by omega));have al:Hid (∃D,Rx t (zq cs) (L++xB L (k+1) (ym t cs s) []) D):=⟨_,aY.out L D s (k+1) hD⟩;have ax:=aZ.out _ _ (aY.out L D s (k+1) hD);rw[yq] at ax;clear hD F;generalize xB L (k+1) (ym t cs s) []=o at *;go_upto_region 22 with (first|(go_at_call 125;refine aX.out.mono ?_;rintro e w2 ⟨bs,rfl,a7,aQ⟩))
         have u:=Q7 (HU.out.below aQ.out);clear aX HU aQ;obtain⟨ap,S,bn⟩:∃ap S,bs=.slice ap o.length S:=by
          obtain⟨_,_,q,_⟩:=a7.out;exact zp q
         subst bn;obtain⟨aG,an,bg⟩:∃aG an,B=.slice aG L.length an:=by
          obtain⟨_,_,q,_⟩:=u.out.fl;exact zp q
         subst bg;obtain⟨mc,mf,x⟩:=u.out.box.boxed;go_upto_region 23 with (first|(at_builtin;refine Dx rfl (.tmp 97) (.tmp 98) rfl _ _ _ _ rfl rfl u.out.fl a7.out (by omega) u.out.bel.size ?_;intro v8 w8 a3 aw;obtain⟨a1,O,h8⟩:∃a1 O,v8=.slice a1 (L.length+o.length) O:=by{obtain⟨_,_,q,_⟩:=a3;rw[←yq];exact zp q};subst h8;obtain⟨_,_,A,_⟩:=u.out.fl;have aE:=u.out.box.saveT aw (QU.own A) (by decide);obtain⟨ba,bw,aU⟩:=aE.boxed))
         have aj:=Q7 (Sg.put (zg _) aE a3 (u.out.bel.trans (aw.below (fun b j=>yV A (yr j)) u.out.bel.size)));clear mc mf x ba bw aU aE A a3 aw u a7;generalize w8.setCell ⟨w.heap.size,0,none⟩ (.slice a1 (L.length+o.length) O)=wN at *;obtain⟨mc,mf,x⟩:=aj.out.box.boxed;rw[yq] at U;by_cases E:L.length+o.length<=mr
         ·have bh:¬((mr:Int)<((L.length+o.length:Nat):Int)):=by omega
          have X:=U.out;rw[zc E] at X;by_cases G:o=[]
          ·have K:Hid (d=zyz t cs mr mx n (s+1) (k+1) (L++o)):=by rw[Hid,X,zc G]
           have aH:o.length=0:=by rw[G];rfl
           clear G X U ax;have a4:Hid (L.length+o.length=(L++o).length):=yq.symm;generalize L.length+o.length=ll at *;generalize o.length=nl at *;subst aH;go_wp2;go_roundg (mx-(k+1))
           case measure=>omega
           case rel=>exact⟨false,k+1,L++o,_,rfl,fun q=>(by cases q),by rw[←a4.out];exact E,by omega,aj,al,K⟩
          ·have K:Hid (d=match z0y t cs mr s (mx-(k+1)) (k+1) (L++o) with|none=>none|some (L',k')=>zyz t cs mr mx n (s+1) k' L'):=by rw[Hid,X,za G,be.out]
           have aH:(0:Int)<(o.length:Int):=by have:=List.length_pos_iff.2 G;omega
           clear G X U ax;have a4:Hid (L.length+o.length=(L++o).length):=yq.symm;generalize L.length+o.length=ll at *;generalize o.length=nl at *;go_wp2;go_roundg (gk-1)
           case measure=>omega
           case rel=>exact⟨true,k+1,L++o,_,congrArg Value.bool (decide_eq_true (by omega)),fun _=>(by omega),by rw[←a4.out];exact E,by omega,aj,al,K⟩
         ·have bh:((mr:Int)<((L.length+o.length:Nat):Int)):=by omega
          have K:Hid (d=none):=by rw[Hid,U.out,za E]
          generalize L.length+o.length=ll at *;go_wp2;go_ret;unfold p8;rw[K.out];exact⟨rfl,aj.out.bel⟩
     ·have bm:¬(s:Int)<(t.length:Int):=by omega
      obtain rfl:s=t.length:=by omega
      have K:Hid (some (L,k)=d):=by
       have q:=HS.out;rw[kf] at q;exact q
      go_wp2;go_ret;unfold p8;rw[←K.out];exact⟨_,rfl,⟨B,I.out.hmb,I.out.box,I.out.fl⟩,I.out.bel⟩
   ·have aJ:((mr:Int)<(L0.length:Int)):=by omega
    have K:Hid (d=none):=by rw[Hid,V.out,za hq]
    go_wp2;go_ret;unfold p8;rw[K.out];exact⟨rfl,N.out.bel⟩
theorem LG(w:World)(v:Value):Calls prog 34 #[v,.bool true] w fun e a=>e=ε (ν)/\a=w:=by
 go_enter func34,ntmps34;go_wp2;go_ret;exact⟨rfl,rfl⟩
theorem La(w:World)(u v:Value):Calls prog 36 #[u,v,.bool true] w fun e a=>e=ε (.bool true)/\a=w:=by
 go_enter func36,ntmps36;go_wp2;go_ret;exact⟨rfl,rfl⟩
theorem If(w:World)(u v:Value):Calls prog 75 #[u,v,.bool true] w fun e a=>e=ε (.bool true)/\a=w:=by
 go_enter func75,ntmps75;go_wp2;go_ret;exact⟨rfl,rfl⟩
theorem KY{nb:Bool}(w:World)(u v:Value)(a b:Int)(h:a<0∨1048576<a∨b<0∨1048576<b):Calls prog 37 #[u,v,.bool nb,ι a,ι b] w fun e c=>e=ε (.tuple #[.pointer none,ι 8])/\c=w:=by
 by_cases f:a<0
 ·go_enter func37,ntmps37;go_wp2;go_ret2
  exact⟨rfl,rfl⟩
 ·by_cases g:1048576<a
  ·go_enter func37,ntmps37;go_wp2;go_ret2
   exact⟨rfl,rfl⟩
  ·by_cases i:b<0
   ·go_enter func37,ntmps37;go_wp2;go_ret2
    exact⟨rfl,rfl⟩
   ·have d:1048576<b:=by omega
    go_enter func37,ntmps37;go_wp2;go_ret2
    exact⟨rfl,rfl⟩
def OW(z:Nat)(w:World)(b:Option (List zE×Nat))(e:Ending)(w':World):Prop:=match b with
 |none=>e=ε (.tuple #[.pointer none,ι 10])/\Hid (μ w w')
 |some (L,k)=>∃a,e=ε (.tuple #[(π a),ι 0])/\Hid (∃c,w.heap.size<=a/\Q8 w' a #[c,ι k] 54/\yX z w.heap.size w' c L)/\Hid (μ w w')
end
section
open Go.Proofs.Tryz
variable {z lo:Nat}
theorem Qz:(prog.info? 24).map (fun i=>(i.zero,i.size,i.bytes))=some (some (ν),1,24):=by kernel_rfl
theorem PZ:(prog.info? 24).map (·.size)=some 1:=by kernel_rfl
theorem Ij(a:List Value)(x:Value):splice (madeCells #[x] (a.length+1)).toList 0 a=a++[x]:=by
 unfold splice;have:(madeCells #[x] (a.length+1)).toList=List.replicate (a.length+1) x:=by
  refine kX (by simp[size_madeCells]) fun i b c=>?_;simp[madeCells,Nat.mod_one]
 rw[this];simp[List.drop_replicate]
theorem Px(w:World)(B:Nat)(y:Value)(a:List Value)(t:w.ownsRow B 24 1 y a.length a)(F:∀v∈a,v.oneCell'=true)(N:a.length<=2000000):
  Calls prog 34 #[y,.bool false] w fun e n=>∃D,e=ε (.slice (some ⟨w.heap.size,0,none⟩) a.length (a.length+1))/\Hid (Q8 n w.heap.size (a++[Value.slice (some ⟨D,0,none⟩) 1 1]).toArray 24/\Q8 n D #[ι 7] 3)/\Hid (μ w n):=by
 obtain⟨J,L,rfl⟩:=zp t;have s:=run_make_row' (P:=prog) 26 24 (ν) 24 underlying26 Qz rfl .i64 .i64 (a.length+1) (by omega) (by omega);rw[Int.natCast_add,show((1:Nat):Int)=1 from rfl] at s;have d:Hid (∀W,μ w W->0<a.length->∃A,J=some A/\∀j v,a[j]?=some v->W.cell? (A.add j)=some v):=fun W I o=>by
  obtain⟨C,q,x,_,r,k⟩:=yx t o;simp at x;refine⟨⟨C,0,none⟩,x.1,fun j v G=>?_⟩;rw[Addr.add_lit,vB,I.cell (p:=⟨C,j,none⟩) r];exact k j v G
 have m:=Q7 F;have g:Hid (0+a.length<=(madeCells #[Value.slice none 0 0] (a.length+1)).toList.length):=by rw[Hid];simp[size_madeCells]
 have h:Hid (a.length=Nat.min a.length (a.length+1)):=by rw[Hid];exact(d8 (by omega)).symm
 have i:=Q7 (Ij a (ν));clear F t;go_enter func34,ntmps34;go_wp2_with (refine wpList_copy_splice rfl (.tmp 13) (.tmp 14) 26 26 rfl 24 underlying26 PZ _ _ _ _ _ _ rfl rfl w.heap.size 0 (madeCells #[ν] (a.length+1)).toList 24 (by rw[Array.toArray_toList];exact Q8.new _ _ _) a h.out (fun o=>⟨rfl,d.out _ (by exact(zo _ _).alloc (zg _) _) o⟩) g.out m.out w.heap.size w (by exact(zo _ _).alloc (zg _) _) (zg _) ?_;intro f c l;rw[i.out] at c;have b:Q8 f w.heap.size (a++[Value.slice none 0 0]).toArray 24:=c.out;obtain⟨K,H,E⟩:=b.boxed;have M:=l.size)
 go_ret;have u:=b.set a.length (Value.slice (some ⟨f.heap.size,0,none⟩) 1 1);have e:(a++[Value.slice none 0 0]).toArray.setIfInBounds a.length (Value.slice (some ⟨f.heap.size,0,none⟩) 1 1)=(a++[Value.slice (some ⟨f.heap.size,0,none⟩) 1 1]).toArray:=by simp
 rw[e] at u;exact⟨f.heap.size,rfl,⟨u.up _,Q8.newAt _ _ _ _ (by simp[World.setCell])⟩,(show μ w _ from(by repeat'(first|with_reducible(first|apply zR|assumption|apply zN|apply zA|apply zD|apply zS)|go_size)))⟩
theorem uA.nil{w:World}{u:Value}{o:Option (List Int)}(h:uA w u o):(u=ν/\∀W:World,(binOp .eql 24 (ν) (ν)).run prog W=.ok (.bool true) W)∨∃g f n c,u=.slice (some ⟨g,f,none⟩) n c/\∀W:World,(binOp .eql 24 (.slice (some ⟨g,f,none⟩) n c) (ν)).run prog W=.ok (.bool false) W:=by
 cases o with
 |none=>
  refine zf ⟨h,fun W=>?_⟩;have:=run_equal_slice_nil W 24 3 none 0 0 underlying24;simp[binOp,this]
 |some l=>
  obtain⟨g,f,a,rfl,_⟩:=h;refine zb ⟨g,f,l.length,a,rfl,fun W=>?_⟩;have:=run_equal_slice_nil W 24 3 (some ⟨g,f,none⟩) l.length a underlying24;simp[binOp,this]
theorem Nl(w:World)(B:Nat)(P:Value)(a:List Value)(os:List (Option (List Int)))(g y:Nat)(K:w.ownsRow B 24 1 P a.length a)(Q:Q8 w g (a++[Value.slice (some ⟨y,0,none⟩) 1 1]).toArray 24)(q:Q8 w y #[ι 7] 3)(O:os.length=a.length)(s:∀k (L:k<a.length) (h2:k<os.length),uA w a[k] os[k]/\(os[k].getD []).length<=2000000)(hn:a.length<=2000000):
  Calls prog 36 #[.slice (some ⟨g,0,none⟩) a.length (a.length+1),P,.bool false] w fun e c=>e=ε (.bool true)/\Hid (μ w c):=by
 obtain⟨X,Y,rfl⟩:=zp K;have D:Hid (∀k (L:k<a.length),∃f,X=some ⟨f,0,none⟩/\f<w.heap.size/\w.cell? ⟨f,k,none⟩=some a[k]):=fun k L=>by
  obtain⟨f,E,M,_,l,h⟩:=yx K (by omega);simp at M;exact⟨f,M.1,l,h k _ (yp L)⟩
 have x:=Q7 Q;have n:=Q7 q;have J:=Q7 s;have N:=Q7 O;clear K Q q s O;go_enter func36,ntmps36;go_wp2;go_loopw [8] (fun v8 wr=>∃k:Nat,k<=a.length/\v8=ι k/\Hid (μ w wr)) (fun i _=>a.length-(intOf i).toNat)
 case atStart=>exact⟨0,zv _,rfl,zo _ _⟩
 case round=>
  obtain⟨k,hk,rfl,b⟩:=hrel;have S:=b.out.size;by_cases d:k<a.length
  ·obtain⟨f,rfl,l,h⟩:=D.out k d;obtain⟨j,C⟩:=J.out k d (by rw[N.out];exact d);have H:=zl b.out l h;have t:wr.cell? ⟨g,k,none⟩=some a[k]:=by rw[(x.out.below b.out).rules.1];simp[List.getElem?_append_left d]
   have G:f<wr.heap.size:=by omega
   have m:=(x.out.below b.out).lt;have I:=j.nil;have R:=Q7 fun W (r:μ wr W)=>Cl W _ _ _ ((j.below b.out).below r) ((j.below b.out).below r) (by omega);clear h j C;generalize a[k]=u at *;generalize (os[k]'(by rw[N.out];exact d))=o at *;have F:Hid (∀W,μ wr W->Calls prog 18 #[u,u] W fun e c=>e=ε (.bool true)/\Hid (μ w c)/\c.cell? ⟨g,k,none⟩=some u/\c.cell? ⟨f,k,none⟩=some u/\g<c.heap.size/\f<c.heap.size):=fun W r=>by
    refine(R.out W r).mono ?_;rintro e c ⟨T,Z⟩;have v:=QB r Z;have:=v.size;exact⟨T,QB b.out v,zl v m t,zl v G H,by omega,by omega⟩
   clear R;go_wp2;go_region_held3 (fun c=>c.cell? ⟨g,k,none⟩=some u/\c.cell? ⟨f,k,none⟩=some u) (go_keep) (first|(go_at_call 18;refine(F.out _ (by exact(by repeat'(first|with_reducible(first|apply zR|assumption|apply zN|apply zA|apply zD|apply zS)|go_size)))).mono ?_;rintro e w5 ⟨rfl,A,z1,z2,z3,z4⟩))
   all_goals
    rcases I with⟨rfl,p⟩|⟨g3,f3,n3,c3,rfl,p⟩
    all_goals
     go_wp2;go_quiet (fail)
     go_wp2;go_roundw
     ·exact⟨k+1,by omega,by go_num,zJ A.out _⟩
     ·simp[intOf];omega
  ·have t:wr.cell? ⟨g,a.length,none⟩=some (.slice (some ⟨y,0,none⟩) 1 1):=by rw[(x.out.below b.out).rules.1];simp
   have U:wr.cell? ⟨y,0,none⟩=some (ι 7):=by rw[(n.out.below b.out).rules.1];rfl
   have m:=(x.out.below b.out).lt;have V:=(n.out.below b.out).lt;go_wp2;go_ret;exact⟨rfl,b⟩
section
variable {w:World} {v:Value} {nb:Bool} {pb mr mx:Nat} (hmr:mr<=1048576) (hmx:mx<=1048576)
include hmr hmx
theorem O8(c:Hid (Calls prog 75 #[(π pb),v,.bool nb] w fun e b=>e=ε (.bool false)/\μ w b)):Calls prog 37 #[(π pb),v,.bool nb,ι mr,ι mx] w fun e b=>e=ε (.tuple #[.pointer none,ι 9])/\Hid (μ w b):=by
 have f:¬(mr:Int)<0:=by omega
 have g:¬(1048576:Int)<(mr:Int):=by omega
 have h:¬(mx:Int)<0:=by omega
 have d:¬(1048576:Int)<(mx:Int):=by omega
 go_enter func37,ntmps37;go_wp2_with (go_at_call 75;refine c.out.mono ?_;rintro e i ⟨rfl,a⟩)
 go_ret2
 exact⟨rfl,a⟩
theorem OL(l:Hid (Calls prog 75 #[(π pb),v,.bool nb] w fun e b=>e=ε (.bool true)/\μ w b))(f:Option (List zE×Nat))(i:Hid (∀W,μ w W->Calls prog 76 #[(π pb),ι mr,ι mx] W fun e b=>p8 z W f e b)):Calls prog 37 #[(π pb),v,.bool nb,ι mr,ι mx] w fun e b=>OW z w f e b:=by
 have u:¬(mr:Int)<0:=by omega
 have r:¬(1048576:Int)<(mr:Int):=by omega
 have t:¬(mx:Int)<0:=by omega
 have s:¬(1048576:Int)<(mx:Int):=by omega
 cases f with
 |none=>
  have c:Hid (∀W,μ w W->Calls prog 76 #[(π pb),ι mr,ι mx] W fun e b=>e=ε (.pointer none)/\Hid (μ W b)):=i;clear i;go_enter func37,ntmps37;go_wp2_with (first|(go_at_call 75;refine l.out.mono ?_;rintro e o ⟨rfl,a⟩)|(go_at_call 76;refine(c.out _ a).mono ?_;rintro e n ⟨rfl,d⟩))
  go_ret2
  exact⟨rfl,QB a d.out⟩
 |some x=>
  obtain⟨L,k⟩:=x;have c:Hid (∀W,μ w W->Calls prog 76 #[(π pb),ι mr,ι mx] W fun e b=>∃g,e=ε ((π g))/\Hid (∃h,W.heap.size<=g/\Q8 b g #[h,ι k] 54/\yX z W.heap.size b h L)/\Hid (μ W b)):=i;clear i;go_enter func37,ntmps37;go_wp2_with (first|(go_at_call 75;refine l.out.mono ?_;rintro e o ⟨rfl,a⟩)|(go_at_call 76;refine(c.out _ a).mono ?_;rintro e n ⟨g,rfl,j,d⟩))
  go_ret2
  obtain⟨h,m,p,q⟩:=j.out;exact⟨g,rfl,⟨h,yc a.size m,p,q.low a.size⟩,QB a d.out⟩
end
end
def K1(w:World)(M:List Nat):Prop:=∀b∈M,∃c T,Q8 w b c T/\T≠156/\T≠54
abbrev lh:=Nat×Nat×Nat
def fx(w:World)(r:lh):Prop:=∃(e c d:Value) (f:Option Addr) (b a k:Nat) (m:Int),Q8 w r.1 #[e,c,d,ι a,ι k,ι m] 156/\Q8 w r.2.1 #[.slice f a b,ι k] 54/\0<=m
theorem fx.save{w w':World}{r:lh}(h:fx w r){M:List Nat}(hs:ze M w w')(i:K1 w M):fx w' r:=by
 obtain⟨o,l,n,q,b,a,k,m,g,j,p⟩:=h;refine⟨o,l,n,q,b,a,k,m,g.save hs fun f=>?_,j.save hs fun f=>?_,p⟩
 ·obtain⟨c,T,d,e,_⟩:=i _ f;exact e (d.type g)
 ·obtain⟨c,T,d,_,e⟩:=i _ f;exact e (d.type j)
theorem fx.below{w w':World}{r:lh}(h:fx w r)(a:μ w w'):fx w' r:=h.save (ze.of (M:=[]) a) (fun b a=>by cases a)
def kx(rs:List lh):List Value:=rs.flatMap fun r=>[.pointer (some ⟨r.1,0,none⟩),.pointer (some ⟨r.2.1,0,none⟩),.pointer (some ⟨r.2.2,0,none⟩)]
def Lg(wb:Nat)(c b a:Value):List Nat:=wb::(c.ownBlock.toList++b.ownBlock.toList++a.ownBlock.toList)
structure SI (B:Nat) (w:World) (wb:Nat) (ps:List lm) (rs:List lh) (row:κ) (psv rsv rowv:Value):Prop where
 low:B<=wb
 box:Q8 w wb #[psv,rsv,ν,ν,ι 0,ι 0,ι 0,ν,.bool true,rowv,ν,ν,ν,ν] 35
 ops:w.ownsRow B 40 2 psv ps.length (kZ ps)
 ors:w.ownsRow B 50 3 rsv rs.length (kx rs)
 reg:QF B w rowv row
 pairs:∀p∈ps,lw B w (Lg wb psv rsv rowv) p/\∃x,xL x=.ok (p.2.2.1,p.2.2.2)
 ress:∀r∈rs,fx w r
theorem SI.below{B:Nat}{w w':World}{wb:Nat}{ps:List lm}{rs:List lh}{row:κ}{e d a:Value}(h:SI B w wb ps rs row e d a)(c:μ w w'):SI B w' wb ps rs row e d a:=
 ⟨h.low,h.box.below c,zB h.ops c,zB h.ors c,h.reg.below c,fun p f=>⟨(h.pairs p f).1.save (ze.of (M:=[]) c) (by simp) (fun b c=>zf c),(h.pairs p f).2⟩,fun r g=>(h.ress r g).below c⟩
section
variable {c:Array Value}{v:Value}{xs:List Value}
abbrev fY:=Nat×Nat×List Int
abbrev pF:=Option (Nat×Nat×Nat×Nat)
def jT:pF->Value
 |none=>ν
 |some (g,f,n,a)=>.slice (some ⟨g,f,none⟩) n (n+a)
def mN(a:List fY):pF->Prop
 |none=>True
 |some (g,f,n,b)=>∃x∈a,x.1=g/\f+n+b<=x.2.2.length
def xt(a:List fY):List Value:=a.map fun x=>sl x.1 x.2.2.length
def uC(a:List fY):List Value:=a.map fun x=>sl x.2.1 x.2.2.length
def xY(l:List Int):Array Value:=(l.map (Value.int .i64)).toArray
structure OM where
 ps:List lm
 rs:List lh
 row:κ
 ins:List fY
 ord:List pF
 a:Int
 n:Int
 ex:Int
 none:Bool
structure OV where
 psv:Value
 rsv:Value
 rowv:Value
 inv:Value
 iwv:Value
 orv:Value
def yK(wb:Nat)(V:OV)(a:List fY):List Nat:=wb::(V.psv.ownBlock.toList++(V.rsv.ownBlock.toList++(V.rowv.ownBlock.toList++(V.inv.ownBlock.toList++(V.iwv.ownBlock.toList++(V.orv.ownBlock.toList++(a.map (·.1)++a.map (·.2.1))))))))
def RG(x:Int):Prop:=-9223372036854775808<=x/\x<=9223372036854775807
def kE(M:OM)(V:OV):Array Value:=#[V.psv,V.rsv,V.inv,V.iwv,ι M.a,ι M.n,ι M.ex,V.orv,.bool M.none,V.rowv,ν,ν,ν,ν]
structure sC (B:Nat) (w:World) (x:fY):Prop where
 low:B<=x.1/\B<=x.2.1
 one:Q8 w x.1 (xY x.2.2) 3
 two:Q8 w x.2.1 (xY x.2.2) 3
 len:x.2.2.length<=1048576
structure QZ (B:Nat) (w:World) (wb:Nat) (M:OM) (V:OV):Prop where
 low:B<=wb
 box:Q8 w wb (kE M V) 35
 ops:w.ownsRow B 40 2 V.psv M.ps.length (kZ M.ps)
 ors:w.ownsRow B 50 3 V.rsv M.rs.length (kx M.rs)
 reg:QF B w V.rowv M.row
 oin:w.ownsRow B 24 1 V.inv M.ins.length (xt M.ins)
 oiw:w.ownsRow B 24 1 V.iwv M.ins.length (uC M.ins)
 oor:w.ownsRow B 24 1 V.orv M.ord.length (M.ord.map jT)
 ints:∀x∈M.ins,sC B w x
 dis3:(V.inv.ownBlock.toList++(V.iwv.ownBlock.toList++V.orv.ownBlock.toList)).Nodup
 disI:(M.ins.map (·.1)++M.ins.map (·.2.1)).Nodup
 win:∀o∈M.ord,mN M.ins o
 num:RG M.a/\RG M.n/\RG M.ex
 pairs:∀p∈M.ps,lw B w (yK wb V M.ins) p/\∃x,xL x=.ok (p.2.2.1,p.2.2.2)
 ress:∀r∈M.rs,fx w r
def NT(w:World)(T:TypeId)(N:List Nat):Prop:=∀b∈N,∃c a,Q8 w b c a/\a≠T
theorem NT.nil{w:World}{T:TypeId}:NT w T []:=fun b a=>by cases a
theorem NT.cons{w:World}{T a:TypeId}{N:List Nat}{b:Nat}(e:Q8 w b c a)(f:a≠T)(h:NT w T N):NT w T (b::N):=fun x d=>by
 rcases zx.1 d with rfl|d
 ·exact⟨c,a,e,f⟩
 ·exact h x d
theorem NT.own{w:World}{T e:TypeId}{a d n:Nat}(h:w.ownsRow a e d v n xs)(i:e≠T):NT w T v.ownBlock.toList:=fun b g=>by
 obtain⟨c,f⟩:=uV h (yr g);exact⟨c,e,f,i⟩
theorem NT.app{w:World}{T:TypeId}{N d:List Nat}(h:NT w T N)(e:NT w T d):NT w T (N++d):=fun b a=>by
 rcases zI.1 a with a|a
 ·exact h b a
 ·exact e b a
theorem NT.not{w:World}{T:TypeId}{N:List Nat}(h:NT w T N){b:Nat}(f:Q8 w b c T):b∉N:=fun e=>by
 obtain⟨g,i,a,d⟩:=h b e;exact d (a.type f)
theorem yJ{w w':World}{N:List Nat}{a:Nat}{e:TypeId}{d n:Nat}(h:w.ownsRow a e d v n xs)(hs:ze N w w')(g:NT w e N):w'.ownsRow a e d v n xs:=yT h hs fun b i=>by
 obtain⟨c,f⟩:=uV h i;exact g.not f
section
variable {B:Nat} {w w':World} {wb:Nat} {M M':OM} {V V':OV} {N:List Nat}
theorem QZ.size(h:QZ B w wb M V):B<=w.heap.size:=yc h.low (Nat.le_of_lt h.box.lt)
theorem QZ.muts(h:QZ B w wb M V):∀b∈yK wb V M.ins,B<=b/\∃c T,Q8 w b c T/\T≠156/\T≠54:=by
 intro b a;unfold yK at a;simp only[zx,zI,z7] at a;rcases a with rfl|a|a|a|a|a|a|⟨x,e,rfl⟩|⟨x,e,rfl⟩
 ·exact⟨h.low,_,_,h.box,by decide,by decide⟩
 ·obtain⟨c,d⟩:=uV h.ops (yr a);exact⟨yV h.ops (yr a),c,_,d,by decide,by decide⟩
 ·obtain⟨c,d⟩:=uV h.ors (yr a);exact⟨yV h.ors (yr a),c,_,d,by decide,by decide⟩
 ·obtain⟨c,d⟩:=uV h.reg (yr a);exact⟨yV h.reg (yr a),c,_,d,by decide,by decide⟩
 ·obtain⟨c,d⟩:=uV h.oin (yr a);exact⟨yV h.oin (yr a),c,_,d,by decide,by decide⟩
 ·obtain⟨c,d⟩:=uV h.oiw (yr a);exact⟨yV h.oiw (yr a),c,_,d,by decide,by decide⟩
 ·obtain⟨c,d⟩:=uV h.oor (yr a);exact⟨yV h.oor (yr a),c,_,d,by decide,by decide⟩
 ·exact⟨(h.ints x e).low.1,_,_,(h.ints x e).one,by decide,by decide⟩
 ·exact⟨(h.ints x e).low.2,_,_,(h.ints x e).two,by decide,by decide⟩
theorem QZ.down(h:QZ B w wb M V)(e:ze N w w')(a:∀b∈N,b∈yK wb V M.ins):Below B w w':=e.below (fun b d=>(h.muts b (a b d)).1) h.size
theorem QZ.rest(h:QZ B w wb M V)(a:ze N w w')(d:∀b∈N,b∈yK wb V M.ins)(f:∀b∈yK wb V' M'.ins,b∈yK wb V M.ins∨w.heap.size<=b):(∀p∈M.ps,lw B w' (yK wb V' M'.ins) p/\∃x,xL x=.ok (p.2.2.1,p.2.2.2))/\∀r∈M.rs,fx w' r:=
 ⟨fun p e=>⟨(h.pairs p e).1.save a d f,(h.pairs p e).2⟩,fun r i=>(h.ress r i).save a fun b g=>(h.muts b (d b g)).2⟩
theorem sC.save{x:fY}(h:sC B w x)(b:ze N w w')(a:NT w 3 N):sC B w' x:=⟨h.low,h.one.save b (a.not h.one),h.two.save b (a.not h.two),h.len⟩
theorem QZ.below(h:QZ B w wb M V)(d:μ w w'):QZ B w' wb M V:=
 have a:ze [] w w':=ze.of d;have e:=h.rest (M':=M) (V':=V) a (by simp) (fun b q=>zf q)
 ⟨h.low,h.box.below d,yJ h.ops a NT.nil,yJ h.ors a NT.nil,yJ h.reg a NT.nil,yJ h.oin a NT.nil,yJ h.oiw a NT.nil,yJ h.oor a NT.nil,fun x f=>(h.ints x f).save a NT.nil,h.dis3,h.disI,h.win,h.num,e.1,e.2⟩
theorem lX{v':Value}{k b:Nat}(d:v'.ownBlock=v.ownBlock∨v'.ownBlock=none∨∃g,v'.ownBlock=some g/\k<=g)(a:b∈v'.ownBlock.toList):b∈v.ownBlock.toList∨k<=b:=by
 rcases d with e|e|⟨g,e,q⟩
 ·rw[e] at a;exact zf a
 ·rw[e] at a;simp at a
 ·rw[e] at a;simp at a;exact zb (by omega)
end
end
section
variable {v':Value}
section
variable {B:Nat} {w w2 w':World} {wb:Nat} {M:OM} {V:OV}
theorem pQ{v:Value}(b:ze v.ownBlock.toList w w2)(o:Nat)(u:Value):ze (wb::v.ownBlock.toList) w (w2.setCell ⟨wb,o,none⟩ u):=(b.more (fun x a=>by simp[a])).trans ((ze.set w2 wb o u).more (fun x a=>by simp at a;simp[a]))
theorem QZ.addP(h:QZ B w wb M V){p:lm}(m:lw B w (yK wb V M.ins) p/\∃x,xL x=.ok (p.2.2.1,p.2.2.2))(r:w2.ownsRow B 40 2 v' (M.ps.length+1) (kZ M.ps++[.pointer (some ⟨p.1,0,none⟩),.pointer (some ⟨p.2.1,0,none⟩)]))(k:ze V.psv.ownBlock.toList w w2)(j:v'.ownBlock=V.psv.ownBlock∨∃g,v'.ownBlock=some g/\w.heap.size<=g):QZ B (w2.setCell ⟨wb,0,none⟩ v') wb {M with ps:=M.ps++[p]} {V with psv:=v'}/\Below B w (w2.setCell ⟨wb,0,none⟩ v'):=by
 have d:=h.box.save k ((NT.own h.ops (by decide)).not h.box);have a:=pQ (wb:=wb) k 0 v';have f:∀b∈wb::V.psv.ownBlock.toList,b∈yK wb V M.ins:=fun b c=>by
  simp only[yK,zx,zI] at c ⊢;rcases c with c|c<;>simp[c]
 have l:∀b∈yK wb {V with psv:=v'} M.ins,b∈yK wb V M.ins∨w.heap.size<=b:=fun b c=>by
  simp only[yK,zx,zI] at c ⊢;rcases c with c|c|c
  ·exact zf (zf c)
  ·rcases lX (j.imp_right zb) c with q|q
   ·exact zf (zb (zf q))
   ·exact zb q
  ·exact zf (zb (zb c))
 have n:=h.rest (M':={M with ps:=M.ps++[p]}) a f l;refine⟨⟨h.low,by simpa [kE] using d.set 0 v',?_,yJ h.ors a (NT.cons h.box (by decide) (NT.own h.ops (by decide))),yJ h.reg a (NT.cons h.box (by decide) (NT.own h.ops (by decide))),yJ h.oin a (NT.cons h.box (by decide) (NT.own h.ops (by decide))),yJ h.oiw a (NT.cons h.box (by decide) (NT.own h.ops (by decide))),yJ h.oor a (NT.cons h.box (by decide) (NT.own h.ops (by decide))),fun x s=>(h.ints x s).save a (NT.cons h.box (by decide) (NT.own h.ops (by decide))),h.dis3,h.disI,h.win,h.num,fun q o=>?_,n.2⟩,h.down a f⟩
 ·have e:kZ (M.ps++[p])=kZ M.ps++[.pointer (some ⟨p.1,0,none⟩),.pointer (some ⟨p.2.1,0,none⟩)]:=by simp[kZ]
  show World.ownsRow _ _ _ _ v' (M.ps++[p]).length (kZ (M.ps++[p]));rw[e,yq];exact yJ r (ze.set w2 wb 0 v') (NT.cons d (by decide) NT.nil)
 ·rcases zI.1 o with i|i
  ·exact n.1 q i
  ·rw[xG.1 i];exact⟨m.1.save a f l,m.2⟩
theorem QZ.addR(h:QZ B w wb M V){r:lh}(j:fx w r)(s:w2.ownsRow B 50 3 v' (M.rs.length+1) (kx M.rs++[.pointer (some ⟨r.1,0,none⟩),.pointer (some ⟨r.2.1,0,none⟩),.pointer (some ⟨r.2.2,0,none⟩)]))(l:ze V.rsv.ownBlock.toList w w2)(k:v'.ownBlock=V.rsv.ownBlock∨∃g,v'.ownBlock=some g/\w.heap.size<=g):QZ B (w2.setCell ⟨wb,1,none⟩ v') wb {M with rs:=M.rs++[r]} {V with rsv:=v'}/\Below B w (w2.setCell ⟨wb,1,none⟩ v')/\ze (wb::V.rsv.ownBlock.toList) w (w2.setCell ⟨wb,1,none⟩ v'):=by
 have d:=h.box.save l ((NT.own h.ors (by decide)).not h.box);have a:=pQ (wb:=wb) l 1 v';have f:∀b∈wb::V.rsv.ownBlock.toList,b∈yK wb V M.ins:=fun b c=>by
  simp only[yK,zx,zI] at c ⊢;rcases c with c|c<;>simp[c]
 have o:∀b∈yK wb {V with rsv:=v'} M.ins,b∈yK wb V M.ins∨w.heap.size<=b:=fun b c=>by
  simp only[yK,zx,zI] at c ⊢;rcases c with c|c|c|c
  ·exact zf (zf c)
  ·exact zf (zb (zf c))
  ·rcases lX (k.imp_right zb) c with q|q
   ·exact zf (zb (zb (zf q)))
   ·exact zb q
  ·exact zf (zb (zb (zb c)))
 have m:=h.rest (M':={M with rs:=M.rs++[r]}) a f o;refine⟨⟨h.low,by simpa [kE] using d.set 1 v',yJ h.ops a (NT.cons h.box (by decide) (NT.own h.ors (by decide))),?_,yJ h.reg a (NT.cons h.box (by decide) (NT.own h.ors (by decide))),yJ h.oin a (NT.cons h.box (by decide) (NT.own h.ors (by decide))),yJ h.oiw a (NT.cons h.box (by decide) (NT.own h.ors (by decide))),yJ h.oor a (NT.cons h.box (by decide) (NT.own h.ors (by decide))),fun x p=>(h.ints x p).save a (NT.cons h.box (by decide) (NT.own h.ors (by decide))),h.dis3,h.disI,h.win,h.num,m.1,fun q n=>?_⟩,h.down a f,a⟩
 ·have e:kx (M.rs++[r])=kx M.rs++[.pointer (some ⟨r.1,0,none⟩),.pointer (some ⟨r.2.1,0,none⟩),.pointer (some ⟨r.2.2,0,none⟩)]:=by simp[kx]
  show World.ownsRow _ _ _ _ v' (M.rs++[r]).length (kx (M.rs++[r]));rw[e,yq];exact yJ s (ze.set w2 wb 1 v') (NT.cons d (by decide) NT.nil)
 ·rcases zI.1 n with i|i
  ·exact m.2 q i
  ·rw[xG.1 i];exact j.save a fun b c=>(h.muts b (f b c)).2
theorem QZ.turn(h:QZ B w wb M V){row':κ}(m:QF B w2 v' row')(f:ze V.rowv.ownBlock.toList w w2)(e:v'.ownBlock=V.rowv.ownBlock∨v'.ownBlock=none∨∃g,v'.ownBlock=some g/\w.heap.size<=g):QZ B (w2.setCell ⟨wb,9,none⟩ v') wb {M with row:=row'} {V with rowv:=v'}/\Below B w (w2.setCell ⟨wb,9,none⟩ v'):=by
 have d:=h.box.save f ((NT.own h.reg (by decide)).not h.box);have c:=pQ (wb:=wb) f 9 v';have i:∀b∈wb::V.rowv.ownBlock.toList,b∈yK wb V M.ins:=fun b a=>by
  simp only[yK,zx,zI] at a ⊢;rcases a with a|a<;>simp[a]
 have k:∀b∈yK wb {V with rowv:=v'} M.ins,b∈yK wb V M.ins∨w.heap.size<=b:=fun b a=>by
  simp only[yK,zx,zI] at a ⊢;rcases a with a|a|a|a|a
  ·exact zf (zf a)
  ·exact zf (zb (zf a))
  ·exact zf (zb (zb (zf a)))
  ·rcases lX e a with q|q
   ·exact zf (zb (zb (zb (zf q))))
   ·exact zb q
  ·exact zf (zb (zb (zb (zb a))))
 have j:=h.rest (M':={M with row:=row'}) c i k;exact⟨⟨h.low,by simpa [kE] using d.set 9 v',yJ h.ops c (NT.cons h.box (by decide) (NT.own h.reg (by decide))),yJ h.ors c (NT.cons h.box (by decide) (NT.own h.reg (by decide))),yJ m (ze.set w2 wb 9 v') (NT.cons d (by decide) NT.nil),yJ h.oin c (NT.cons h.box (by decide) (NT.own h.reg (by decide))),yJ h.oiw c (NT.cons h.box (by decide) (NT.own h.reg (by decide))),yJ h.oor c (NT.cons h.box (by decide) (NT.own h.reg (by decide))),fun x l=>(h.ints x l).save c (NT.cons h.box (by decide) (NT.own h.reg (by decide))),h.dis3,h.disI,h.win,h.num,j.1,j.2⟩,h.down c i⟩
theorem QZ.regs(h:QZ B w wb M V){a n ex:Int}{nb:Bool}(j:RG a/\RG n/\RG ex)(c:ze [wb] w w')(e:Q8 w' wb (kE {M with a:=a,n:=n,ex:=ex,none:=nb} V) 35):QZ B w' wb {M with a:=a,n:=n,ex:=ex,none:=nb} V/\Below B w w':=by
 have f:∀b∈[wb],b∈yK wb V M.ins:=fun b e=>by simp only[xG] at e;simp[yK,e]
 have g:=h.rest (M':={M with a:=a,n:=n,ex:=ex,none:=nb}) (V':=V) c f (fun b q=>zf q);have d:∀{T:TypeId},35≠T->NT w T [wb]:=fun q=>NT.cons h.box q NT.nil;exact⟨⟨h.low,e,yJ h.ops c (d (by decide)),yJ h.ors c (d (by decide)),yJ h.reg c (d (by decide)),yJ h.oin c (d (by decide)),yJ h.oiw c (d (by decide)),yJ h.oor c (d (by decide)),fun x i=>(h.ints x i).save c (d (by decide)),h.dis3,h.disI,h.win,j,g.1,g.2⟩,h.down c f⟩
theorem QZ.reord(h:QZ B w wb M V){ord':List pF}{nb:Bool}(d:ze (wb::V.orv.ownBlock.toList) w w')(p:Q8 w' wb (kE {M with ord:=ord',none:=nb} {V with orv:=v'}) 35)(C:w'.ownsRow B 24 1 v' ord'.length (ord'.map jT))(k:v'.ownBlock=V.orv.ownBlock∨v'.ownBlock=none∨∃g,v'.ownBlock=some g/\w.heap.size<=g)(A:∀o∈ord',mN M.ins o):QZ B w' wb {M with ord:=ord',none:=nb} {V with orv:=v'}/\Below B w w':=by
 have r:∀b∈wb::V.orv.ownBlock.toList,b∈yK wb V M.ins:=fun b a=>by
  simp only[yK,zx,zI] at a ⊢;rcases a with a|a<;>simp[a]
 have j:∀b∈yK wb {V with orv:=v'} M.ins,b∈yK wb V M.ins∨w.heap.size<=b:=fun b a=>by
  simp only[yK,zx,zI] at a ⊢;rcases a with a|a|a|a|a|a|a|a
  ·exact zf (zf a)
  ·exact zf (zb (zf a))
  ·exact zf (zb (zb (zf a)))
  ·exact zf (zb (zb (zb (zf a))))
  ·exact zf (zb (zb (zb (zb (zf a)))))
  ·exact zf (zb (zb (zb (zb (zb (zf a))))))
  ·rcases lX k a with q|q
   ·exact zf (zb (zb (zb (zb (zb (zb (zf q)))))))
   ·exact zb q
  ·exact zf (zb (zb (zb (zb (zb (zb (zb a)))))))
 have t:=h.rest (M':={M with ord:=ord',none:=nb}) d r j;have n:∀{T:TypeId},35≠T->24≠T->NT w T (wb::V.orv.ownBlock.toList):=fun q z=>NT.cons h.box q (NT.own h.oor z);have v:=h.dis3;have m:=qa.1 v;have s:=qa.1 m.2.1;have i:∀b,b∈V.inv.ownBlock.toList∨b∈V.iwv.ownBlock.toList->b∉wb::V.orv.ownBlock.toList:=fun b a j=>by
  rcases zx.1 j with rfl|j
  ·rcases a with a|a
   ·exact uB h.oin h.box (by decide) (yr a) rfl
   ·exact uB h.oiw h.box (by decide) (yr a) rfl
  ·rcases a with a|a
   ·exact m.2.2 b a b (zI.2 (zb j)) rfl
   ·exact s.2.2 b a b j rfl
 have y:v'.ownBlock.toList.Nodup:=by cases v'.ownBlock<;>simp
 have l:∀b,b∈V.inv.ownBlock.toList∨b∈V.iwv.ownBlock.toList->∀c∈v'.ownBlock.toList,b≠c:=fun b a c f e=>by
  subst e;rcases lX k f with q|q
  ·exact i b a (zx.2 (zb q))
  ·rcases a with a|a
   ·have:=xI h.oin (yr a);omega
   ·have:=xI h.oiw (yr a);omega
 refine⟨⟨h.low,p,yJ h.ops d (n (by decide) (by decide)),yJ h.ors d (n (by decide) (by decide)),yJ h.reg d (n (by decide) (by decide)),yT h.oin d (fun b a=>i b (zf (by simp[a]))),yT h.oiw d (fun b a=>i b (zb (by simp[a]))),C,fun x u=>(h.ints x u).save d (n (by decide) (by decide)),?_,h.disI,A,h.num,t.1,t.2⟩,h.down d r⟩;refine qa.2 ⟨m.1,qa.2 ⟨s.1,y,fun b a c f=>l b (zb a) c f⟩,fun b a c f=>?_⟩;rcases zI.1 f with f|f
 ·exact m.2.2 b a c (zI.2 (zf f))
 ·exact l b (zf a) c f
end
end
section
open Go.Proofs.Tryz
theorem Qc:(prog.info? 50).map (fun i=>(i.zero,i.size,i.bytes))=some (some (.agg #[.pointer none,.pointer none,.pointer none]),3,24):=by kernel_rfl
structure SE (cs:List zd) (t0 t:List zh):Prop where
 parts:QN cs t0 t
 ctx:uf cs t
 len:cs.length<=1000
 names:t.length<=1000
 low:∀c∈cs,xr t c.head.pred<=1000
 body:∀c∈cs,c.body.length<=30
 args:∀c∈cs,∀l∈zk c,l.args.length<=3/\∀a∈l.args,0<a.size
 few:∀L D,Rx t (zq cs) L D->L.length<1000000000000/\∀c∈cs,(ye L c.head c.body c.body []).length<=1000000000000
theorem M5{x:ByteArray}{cs:List zd}{t:List zh}(h:xL x=.ok (cs,t)):∃i,SE cs i t:=by
 obtain⟨i,b⟩:=Fx h;have m:=KI h;have g:=uf.of m b;obtain⟨_,e,_⟩:=b.low;have o:=b.few;have k:t.length<=1000:=by omega
 have j:∀c∈cs,ir c:=fun c q=>(m c q).fine (b.many c q);refine⟨i,b,g,b.runok.1.len,k,fun c d=>?_,fun c d=>?_,fun c d l e=>⟨(g.lit c d l e).2.2.2,fun a n=>(((j c d).1 l e).2.2.2 a n).1⟩,LM b g k (Ii h)⟩
 ·rw[wm];have:=i6 b.least (ps:=QA t) (fun c d l e=>AS b d e) (AS b d (l:=c.head) (by simp[zk]));simp only[QA,uu] at this;omega
 ·have f:=b.many c d;unfold yE at f;simp only[nK,decide_eq_false_iff_not] at f;have:=f.1.1.1;omega
end
end Go.Proofs.YteampbddflhngaaGreat
