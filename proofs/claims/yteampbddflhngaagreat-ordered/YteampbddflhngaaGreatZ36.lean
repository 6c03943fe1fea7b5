import Derived.Test.YteampbddflhngaaGreatZ25
import Derived.Test.YteampbddflhngaaGreatZ34
import Derived.Test.YteampbddflhngaaGreatZ35
namespace Go.Proofs.YteampbddflhngaaGreat
set_option linter.all false
set_option maxRecDepth 100000
set_option maxHeartbeats 8000000
open Go.RowKit
section
open Go.Proofs.Tryz
variable {z:Nat}{rvs:List Value}{lo:Nat}{w:World}
theorem Qb:(prog.info? 56).map (fun i=>(i.zero,i.size,i.bytes))=some (some (.agg #[.string ByteArray.empty,ν,ι 0]),3,48):=by kernel_rfl
def Sa(f:zE)(a:Value):List Value:=[.string f.1,a,ι (f.2.2:Nat)]
def qu(fs:List zE)(rvs:List Value):List Value:=(List.zipWith Sa fs rvs).flatten
theorem O9{fs b:List zE}{a:List Value}(h:rvs.length=fs.length):qu (fs++b) (rvs++a)=qu fs rvs++qu b a:=by
 unfold qu;rw[eH h.symm];simp
theorem IG{fs:List zE}(h:rvs.length=fs.length):(qu fs rvs).length=fs.length*3:=by
 induction fs generalizing rvs with
 |nil=>simp[qu]
 |cons f fs a=>
  cases rvs with
  |nil=>simp at h
  |cons r rvs=>
   have:=a (rvs:=rvs) (by simpa using h);unfold qu at this ⊢;simp only[lV,mu,yp,xd];rw[this];simp[Sa];omega
theorem tB:∀(fs:List zE) (a:List Value) (i c:Nat) (h:i<fs.length) (d:i<a.length),c<3->(qu fs a)[i*3+c]?=(Sa fs[i] a[i])[c]?
 |f::fs,g::a,0,c,_,_,b=>by
  have e:qu (f::fs) (g::a)=Sa f g++qu fs a:=by simp[qu]
  rw[e,wa (by simp[Sa];omega)];simp
 |f::fs,g::a,i+1,c,h,d,b=>by
  have e:qu (f::fs) (g::a)=Sa f g++qu fs a:=by simp[qu]
  have l:(Sa f g).length=3:=by simp[Sa]
  rw[e,gX (by rw[l];omega),l,show(i+1)*3+c-3=i*3+c by omega];exact tB fs a i c (by simpa using h) (by simpa using d) b
def yX(z lo:Nat)(w:World)(v:Value)(fs:List zE):Prop:=∃rvs:List Value,rvs.length=fs.length/\w.ownsRow lo 56 3 v fs.length (qu fs rvs)/\∀i (h:i<fs.length) (a:i<rvs.length),RW z w rvs[i] fs[i].2.1
theorem yX.nil(lo:Nat)(w:World):yX z lo w (ν) []:=⟨[],rfl,yC _ _ _ _,fun i h=>by cases h⟩
theorem yX.below{lo:Nat}{w w':World}{v:Value}{fs:List zE}(h:yX z lo w v fs)(c:μ w w'):yX z lo w' v fs:=by
 obtain⟨rvs,e,d,f⟩:=h;exact⟨rvs,e,zB d c,fun i a b=>(f i a b).below c⟩
theorem yX.low{a:Nat}{v:Value}{fs:List zE}(h:yX z lo w v fs)(b:a<=lo):yX z a w v fs:=by
 obtain⟨rvs,c,e,d⟩:=h;exact⟨rvs,c,yr e b,d⟩
theorem yX.saveT{lo:Nat}{w w':World}{v:Value}{fs:List zE}{M:List Nat}{T:TypeId}(h:yX z lo w v fs)(hs:ze M w w')(c:QS w T M)(e:56≠T)(g:9≠T):yX z lo w' v fs:=by
 obtain⟨rvs,j,f,d⟩:=h;exact⟨rvs,j,yG f hs c e,fun i a b=>(d i a b).saveT hs c g⟩
theorem yX.facts{v:Value}{fs:List zE}(h:yX z lo w v fs):mN w v fs:=by
 obtain⟨rvs,n,f,k⟩:=h;by_cases l:0<fs.length
 ·obtain⟨g,b,e,_,j,d⟩:=yv f l;refine⟨_,b,e,fun i c=>?_⟩;have a:i<rvs.length:=by omega
  refine⟨g,rvs[i],0,rfl,j,d (i*3) _ ?_,d (i*3+1) _ ?_,d (i*3+2) _ ?_,(k i c a).1⟩
  ·rw[show i*3=i*3+0 from rfl,tB _ _ _ _ c a (by omega)];rfl
  ·rw[tB _ _ _ _ c a (by omega)];rfl
  ·rw[tB _ _ _ _ c a (by omega)];rfl
 ·obtain⟨m,b,e⟩:=zp f;exact⟨m,b,e,fun i c=>zC c (by omega)⟩
section
variable {ops:Array Oper} {rest:List Oper} {o:Oper} {a:Act} {Q:Exit->Act->World->Prop}
theorem DT{E:Nat}(l:o.guard=none)(s x:Operand)
  (L:o.op=.call {callee:=.builtin .append,args:=#[s,x],argTypes:=#[52,52]})
  (q g:List zE) (t O:Value) (P:a.eval s=t) (T:a.eval x=O) (h1:yX z lo w t q) (X:yX z E w O g) (hl:q.length+g.length<=1000000000000) (C:lo<=w.heap.size)
  (h:∀H F,yX z lo F H (q++g)->ze t.ownBlock.toList w F->wpList prog ops Q rest (a.put o.dst H) F):
  wpList prog ops Q (o::rest) a w:=by
 obtain⟨U,N,A,K,B⟩:=info_parts Qb;obtain⟨rvs,r,m,M⟩:=h1;obtain⟨b,R,W,V⟩:=X;have n:∀u∈qu g b,u.oneCell'=true:=by
  intro u i;obtain⟨f,hf,i⟩:=List.mem_flatten.1 i;obtain⟨j,d,rfl⟩:=vx.1 hf;rw[List.getElem_zipWith] at i;simp only[List.length_zipWith] at d;obtain⟨ao,ad,e⟩:=(V j (by omega) (by omega)).1.qx;unfold Sa at i;rw[e] at i;simp only[zx,ff,or_false] at i;rcases i with rfl|rfl|rfl<;>simp[Value.oneCell']
 obtain⟨_,⟨G,hn⟩|⟨S,p,aa,G,ab,hh,ae,Z,ac,D⟩⟩:=id W
 ·have y:g=[]:=rW hn;refine wpList_append_own_none l s x 52 L lo 56 U 3 underlying52 N _ _ _ P m (by rw[T,G]) ?_;refine h _ _ ?_ (ze.refl _ _);rw[y,qQ];exact⟨rvs,r,m,M⟩
 ·have I:∀j u,(qu g b)[j]?=some u->w.cell? (Addr.add ⟨S,0,none⟩ j)=some u:=fun j u d=>by
   rw[Addr.add_lit,vz];unfold World.cell?;rw[hh];simp only;rw[←D,lJ] at d;split at d
   ·simpa using d
   ·simp at d
  refine wpList_append_own _ l s x 52 L lo 56 U _ 3 48 underlying52 N A K B rfl (by decide) _ _ _ P m ⟨S,0,none⟩ g.length p (qu g b) (by rw[T,G]) (IG R) I n (by unfold maxLen;omega) (by omega) C ?_;intro H w2 J c _;have v:ze t.ownBlock.toList w w2:=⟨c.os,c.tape,c.output,c.size,fun k Y hm=>c.block k Y fun e=>hm (by rw[←e];simp)⟩;refine h _ _ ⟨rvs++b,by simp[r,R],by rw[yp,O9 r];exact J,fun j q1 q2=>?_⟩ v;by_cases d:j<q.length
  ·simp only[vq d,vq (show j<rvs.length by omega)];exact(M j d (by omega)).saveT v (QS.own m) (by decide)
  ·simp only[yp] at q1 q2;simp only[mt (show q.length<=j by omega),mt (show rvs.length<=j by omega),r];exact(V _ (by omega) (by omega)).saveT v (QS.own m) (by decide)
theorem yX.one{b:Nat}{f:zE}{c:Value}(e:Q6 w b (Sa f c).toArray 56)(g:RW z w c f.2.1):yX z 0 w (.slice (some ⟨b,0,none⟩) 1 1) [f]:=by
 refine⟨[c],rfl,⟨by simp[qu,Sa],zb ⟨b,1,(Sa f c).toArray,rfl,zv _,e,zg _,by unfold maxLen;omega,by simp[Sa],by simp[qu,Sa]⟩⟩,fun i d h=>?_⟩;obtain rfl:i=0:=by simp at d;exact d
 exact g
end
theorem CK(w:World)(K l:Nat)(T lv y:Value)(fs c:List zE)(b:ByteArray)(row:κ)(O:Q6 w K #[T,ι l] 54)(hf:mN w T fs)(P:yX z lo w lv c)(J:RW z w y row)(U:fs.length<=10000000)(aq:c.length<1000000000000)(ar:row.length<=1000000)(M:∀f∈fs,f.2.1.length<=1000000)(F:∀f∈c,f.2.1.length<=1000000)(S:lo<=w.heap.size):
  Calls prog 123 #[(π K),lv,.string b,y] w fun e w'=>∃v,e=.returned v/\Hid (yX z lo w' v (ua fs c (b,row,l)))/\Hid (ze lv.ownBlock.toList w w'):=by
 obtain⟨N,s,rfl⟩:=J.1.qx;have E:=Q5 (Ec w K l T fs b _ row O hf J.1 U (by omega) M);have ag:Hid (∀W,μ w W->W.cell? ⟨K,1,none⟩=some (ι l)/\K<W.heap.size):=fun W m=>⟨by rw[(O.below m).rules.1];rfl,(O.below m).lt⟩;have aa:=Q5 fun W lo va (a:κ) (m:μ w W) (ha:QD lo W va a) (hq:a.length<=1000000)=>AG W va _ a row ha (J.1.below m) hq (by omega);have B:=Q5 fun W (m:μ w W)=>P.below m;have Z:=Q5 fun W (m:μ w W)=>J.below m;have ai:=Q5 F;obtain⟨ao,av,rfl,_⟩:=P.facts;have HC:Hid (∀W i (h:i<c.length),μ w W->∃g y lo,ao=some ⟨g,0,none⟩/\g<W.heap.size/\W.cell? ⟨g,i*3,none⟩=some (.string c[i].1)/\W.cell? ⟨g,i*3+1,none⟩=some y/\QD lo W y c[i].2.1):=fun W i h m=>by
  obtain⟨am,al,e,q⟩:=(P.below m).facts;cases e;obtain⟨g,y,lo,r1,r2,r3,r4,_,r6⟩:=q i h;exact⟨g,y,lo,r1,r2,r3,r4,r6⟩
 have t:Hid ((yP b row fs).isSome=true↔0<=gN b row fs):=by
  unfold Hid gN;cases yP b row fs with
  |none=>simp
  |some z=>simp
 have ac:Hid ((yP b row fs).isSome=true->ua fs c (b,row,l)=c):=fun q=>zc (zf q);have X:Hid ((yP b row c).isSome=true->ua fs c (b,row,l)=c):=fun q=>zc (zb q);have ah:Hid (¬(yP b row fs).isSome=true->¬(yP b row c).isSome=true->ua fs c (b,row,l)=c++[(b,row,l)]):=fun q1 q2=>za (by rintro(z|z);exact q1 z;exact q2 z);clear O hf P J M F;generalize ua fs c (b,row,l)=ap at *;generalize (yP b row fs).isSome=fb at *;generalize gN b row fs=fi at *;by_cases L:0<=fi
 ·have H:=Q5 (ac.out (t.out.2 L));go_enter func123,ntmps123;go_wp2_with (go_at_call 45;refine E.out.mono ?_;rintro e w1 ⟨rfl,r⟩)
  go_ret;exact⟨_,rfl,by rw[Hid,H.out];exact B.out _ r,ze.of r⟩
 ·have ad:Hid (¬fb=true):=fun q=>L (t.out.1 q);have H0:Hid (yP b row c=(yP b row (c.drop 0)).map (·+0)):=show yP b row c=_ by simp
  generalize yP b row c=p at *;go_enter func123,ntmps123;go_wp2_with (go_at_call 45;refine E.out.mono ?_;rintro e w1 ⟨rfl,r⟩)
  go_loopw [10,11] (fun i _ wr=>∃k:Nat,k<=c.length/\i=ι k/\Hid (p=(yP b row (c.drop k)).map (·+k))/\μ w wr) (fun i _ _=>c.length-(intOf i).toNat)
  case atStart=>exact⟨0,zv _,rfl,H0,r⟩
  case round=>
   obtain⟨k,hk,rfl,V,d⟩:=hrel;by_cases x:k<c.length
   ·have I:(k:Int)<(c.length:Int):=by omega
    obtain⟨g,an,ab,rfl,hg,c0,c1,hS⟩:=HC.out wr k x d;have q:=V.out;rw[F0 x] at q;have D:=Q5 q;clear q V;have R:=Q5 (aa.out wr ab _ _ d hS (ai.out _ (zs x)));clear hS;generalize c[k].2.1=Y at *;generalize c[k].1=fp at *;by_cases u:fp=b
    ·have af:=gi u;by_cases j:Y=row
     ·have C:Hid (p=some k):=show p=some k by rw[D.out,zc ⟨u,j⟩];simp
      have H:=Q5 (X.out (by rw[C.out];rfl));rw[show decide (Y=row)=true by simp[j]] at R;clear D u j;go_wp2_with (go_at_call 84;refine R.out.mono ?_;rintro e w3 ⟨rfl,n⟩)
      go_ret;exact⟨_,rfl,by rw[Hid,H.out];exact B.out _ (Q9 d n),ze.of (Q9 d n)⟩
     ·have C:Hid (p=(yP b row (c.drop (k+1))).map (·+(k+1))):=show p=_ by
       rw[D.out,za (fun z=>j z.2),Option.map_map];congr 1;funext z;simp only[Function.comp];omega
      rw[show decide (Y=row)=false by simp[j]] at R;clear D u j;go_wp2_with (go_at_call 84;refine R.out.mono ?_;rintro e w3 ⟨rfl,n⟩)
      exact⟨⟨k+1,by omega,by go_num,C,Q9 d n⟩,by simp[intOf];omega⟩
    ·have af:=jz u;have C:Hid (p=(yP b row (c.drop (k+1))).map (·+(k+1))):=show p=_ by
      rw[D.out,za (fun z=>u z.1),Option.map_map];congr 1;funext z;simp only[Function.comp];omega
     clear D u;go_wp2;exact⟨⟨k+1,by omega,by go_num,C,d⟩,by simp[intOf];omega⟩
   ·have I:¬(k:Int)<(c.length:Int):=by omega
    have C:Hid (p=none):=show p=none by
     rw[V.out,ue (by omega)];rfl
    have H:=Q5 (ah.out ad.out (by rw[C.out];simp));obtain⟨c1,au⟩:=ag.out _ d;have hu:μ wr (wr.alloc (.cells #[.string b,.slice N row.length s,ι l] 56)):=(zo _ _).alloc (zg _) _;have A:=Q9 d hu;have HX:=Q5 (yX.one (f:=(b,row,l)) (Q6.new wr (Sa (b,row,l) (.slice N row.length s)).toArray 56) (Z.out _ A));have aj:=Q5 (B.out _ A);have G:=Q5 A;go_wp2_with (at_builtin;refine DT rfl (.tmp 41) (.tmp 49) rfl _ _ _ _ rfl rfl aj.out HX.out (by simp;omega) (yc S G.out.size) ?_;intro v8 w8 ae ak)
    go_ret;exact⟨_,rfl,by rw[Hid,H.out];exact ae,(ze.of G.out).trans ak⟩
end
section
open Go.Proofs.Tryz
variable {z:Nat}{cs:List zd}{t:List zh}
theorem dY.clr{w:World}{g o:Nat}{c:zd}{d:Option Addr}{cap:Nat}{b:Option Addr}{a:Nat}(h:dY w g o c d cap b a)(l:(Value.slice d c.head.args.length cap).ownBlock≠some z):S2 z w g o c:=by
 refine⟨h.lt,h.c1,⟨_,h.c2,h.args,l⟩,b,a,h.c3,fun j f=>?_⟩;obtain⟨i,n,e,s,q,k,r,m,p⟩:=h.body.cell j f;exact⟨i,s,q,k,r,_,m,p⟩
structure S5 (z:Nat) (w:World) (pb:Nat) (ao:Option Addr) (cap:Nat) (aop:Option Addr) (capp:Nat) (aok:Option Addr) (capk:Nat) (cs:List zd) (t:List zh):Prop where
 box:Q6 w pb #[.slice ao cs.length cap,.slice aop t.length capp,.slice aok t.length capk] 45
 cl:∀i (h:i<cs.length),∃g,ao=some ⟨g,0,none⟩/\S2 z w g (i*4) cs[i]
 names:QD 0 w (.slice aop t.length capp) (Q8 t)
 strata:∀i (h:i<t.length),∃g,aok=some ⟨g,0,none⟩/\g<w.heap.size/\w.cell? ⟨g,i,none⟩=some (ι (t[i].qh:Nat))
theorem S5.below{w w':World}{pb:Nat}{l:Option Addr}{cap:Nat}{c:Option Addr}{a:Nat}{e:Option Addr}{b:Nat}{cs:List zd}{t:List zh}(h:S5 z w pb l cap c a e b cs t)(d:μ w w'):S5 z w' pb l cap c a e b cs t:=by
 refine⟨h.box.below d,fun i j=>?_,h.names.below d,fun i j=>?_⟩
 ·obtain⟨g,k,f⟩:=h.cl i j;exact⟨g,k,f.below d⟩
 ·obtain⟨g,k,f,m⟩:=h.strata i j;exact⟨g,k,xP f d.size,(zl d f m)⟩
theorem jY.read{lo:Nat}{s w:World}{pb:Nat}(D:jY lo s pb cs t)(hs:RI lo s w)(hz:z<lo∨s.heap.size<=z):∃o f d a c b,S5 z w pb o f d a c b cs t:=by
 obtain⟨_,cv,pv,kv,j,v,q,A⟩:=D.same hs;obtain⟨o,f,rfl⟩:=v.qx;obtain⟨d,a,rfl⟩:=q.qx;obtain⟨c,b,rfl⟩:=zp A;have e:(Q8 t).length=t.length:=by simp[Q8]
 rw[e] at j q;refine⟨o,f,d,a,c,b,j,fun i h=>?_,yr q (zv _),fun i h=>?_⟩
 ·obtain⟨g,V,y,T,u,l,G⟩:=v.at i h;refine⟨g,l,G.clr ?_⟩;obtain⟨M,R,N,Q,L,E,_,_⟩:=D;have k:=L.same M hs;rw[Q6] at j k;rw[j] at k;simp only[zt,Obj.cells.injEq,Array.mk.injEq,mU,and_true] at k;have O:=k.1.symm;subst O;obtain⟨Z,H,m,C,p,J,U,_,_,P,_,B,_⟩:=E.cell i h;rw[l] at J;cases J;have n:lo<=g:=by
   obtain⟨W,x,_⟩:=E;rw[l] at x;exact yW x rfl
  have r:w.cell? ⟨g,i*4+2,none⟩=s.cell? ⟨g,i*4+2,none⟩:=by simp[World.cell?,hs g n U]
  rw[G.c2,P] at r;rw[zt] at r;rw[r];intro F;have X:=yW B F;have Y:=xK B F;omega
 ·obtain⟨g,I,S,_,n,K⟩:=yv A (by omega);cases S;refine⟨g,rfl,n,K i _ ?_⟩;simp[h,Rj]
theorem tK(a:uh cs t){c:zd}(i:c∈cs):dR (Q8 t) c.head.pred=(zP t c.head.pred:Nat)/\∃h:zP t c.head.pred<t.length,t[zP t c.head.pred].qh=xt t c.head.pred:=by
 obtain⟨b,o,f,p⟩:=a.lit c i c.head (by simp[zk]);have l:c.head.pred∈Q8 t:=by
  rw[←f,(fj a.rise b).2];exact zy.2 ⟨_,zs _,rfl⟩
 obtain⟨k,n,g⟩:=sN l;obtain⟨m,j⟩:=fO g;have d:k<t.length:=by simpa [Q8] using m
 have e:zP t c.head.pred=k:=by
  have q:=fj a.rise d;have:fz t k=c.head.pred:=by
   rw[q.2,←j];simp[Q8]
  rw[←this];exact q.1
 refine⟨by unfold dR;rw[g,e],b,?_⟩;have q:=(Cn a.rise b).1;rw[←(fj a.rise b).2,f] at q;unfold xt;rw[q]
theorem ik{s i:Nat}(a:i<cs.length):ym t (cs.take (i+1)) s=if xt t cs[i].head.pred=s/\0<cs[i].body.length then ym t (cs.take i) s++[cs[i]] else ym t (cs.take i) s:=by
 unfold ym;rw[yM a,r8];by_cases q:xt t cs[i].head.pred=s/\0<cs[i].body.length
 ·rw[zc q,List.filter_cons_of_pos (by simpa using q),List.filter_nil]
 ·rw[za q,List.filter_cons_of_neg (by simpa using q),List.filter_nil,qQ]
theorem IQ{s i:Nat}(c:i<cs.length)(q:xt t cs[i].head.pred=s/\0<cs[i].body.length):(ym t cs s).isEmpty=false:=by
 have:cs[i]∈ym t cs s:=uS.2 ⟨zs c,decide_eq_true q⟩;cases d:ym t cs s with
 |nil=>rw[d] at this;cases this
 |cons a b=>rfl
theorem Lo(w:World)(pb:Nat)(G:Option Addr)(cap:Nat)(M:Option Addr)(o:Nat)(m:Option Addr)(l:Nat)(cs:List zd)(t:List zh)(s:Nat)(h:S5 z w pb G cap M o m l cs t)(L:uh cs t)(hl:cs.length<=1000)(ht:t.length<=1000)(p:∀c∈cs,xt t c.head.pred<=1000)(hs:s<=1000):
  Calls prog 124 #[(π pb),ι s] w fun e K=>e=ε (.bool (!(ym t cs s).isEmpty))/\K=w:=by
 have B:Hid (∀c∈cs,Calls prog 111 #[(π pb),.string c.head.pred] w fun e K=>e=ε (ι (zP t c.head.pred:Nat))/\K=w):=fun c x=>by
  have:=mD w pb _ _ _ (Q8 t) c.head.pred h.box h.names (by simp[Q8];omega);rw[(tK L x).1] at this;exact this
 have A:Hid (∀c∈cs,zP t c.head.pred<t.length/\∃g,m=some ⟨g,0,none⟩/\g<w.heap.size/\w.cell? ⟨g,zP t c.head.pred,none⟩=some (ι (xt t c.head.pred:Nat))):=fun c x=>by
  obtain⟨k,j⟩:=(tK L x).2;obtain⟨g,r1,r2,V⟩:=h.strata _ k;exact⟨k,g,r1,r2,by rw[V,j]⟩
 have J:Hid (∀i (d:i<cs.length),∃g,G=some ⟨g,0,none⟩/\g<w.heap.size/\w.cell? ⟨g,i*4+1,none⟩=some (.string cs[i].head.pred)/\∃v u,w.cell? ⟨g,i*4+3,none⟩=some (.slice v cs[i].body.length u)):=fun i d=>by
  obtain⟨g,k,j⟩:=h.cl i d;obtain⟨v,u,U,_⟩:=j.body;exact⟨g,k,j.lt,j.pred,v,u,U⟩
 have r:=Q5 p;have b0:w.cell? ⟨pb,0,none⟩=some (.slice G cs.length cap):=by rw[h.box.rules.1];rfl
 have b2:w.cell? ⟨pb,2,none⟩=some (.slice m t.length l):=by rw[h.box.rules.1];rfl
 have ac:=h.box.lt;have W:Hid (ym t cs s=ym t (cs.take cs.length) s):=by rw[Hid,vw]
 have N:Hid (∀i (d:i<cs.length),xt t cs[i].head.pred=s->0<cs[i].body.length->(ym t cs s).isEmpty=false):=fun i d k j=>IQ d ⟨k,j⟩;have E:Hid (∀i (d:i<cs.length),¬(xt t cs[i].head.pred=s/\0<cs[i].body.length)->ym t (cs.take i) s=[]->ym t (cs.take (i+1)) s=[]):=fun i d k j=>by rw[ik d,za k,j]
 clear h L p;generalize ym t cs s=T at *;go_enter func124,ntmps124;go_wp2;go_loopw [5,6] (fun H _ wr=>∃i:Nat,i<=cs.length/\H=ι i/\Hid (ym t (cs.take i) s=[])/\wr=w) (fun H _ _=>cs.length-(intOf H).toNat)
 case atStart=>exact⟨0,zv _,rfl,rfl,rfl⟩
 case round=>
  obtain⟨i,d,rfl,y,D⟩:=hrel;obtain rfl:=D.symm;by_cases f:i<cs.length
  ·have C:(i:Int)<(cs.length:Int):=by omega
   obtain⟨g,rfl,hg,c1,v,u,c3⟩:=J.out i f;have a:=zs f;obtain⟨Z,gk,rfl,aa,ck⟩:=A.out _ a;have F:=Q5 (B.out _ a);have Y:=r.out _ a;have X:((zP t cs[i].head.pred:Nat):Int)<(t.length:Int):=by omega
   have H1:=Q5 (N.out i f);have Q:=Q5 (E.out i f);clear a;generalize cs[i].body.length=bl at *;generalize xt t cs[i].head.pred=R at *;generalize zP t cs[i].head.pred=fk at *;generalize cs[i].head.pred=pr at *;by_cases P:R=s
   ·subst P;by_cases O:0<bl
    ·have I:(0:Int)<(bl:Int):=by omega
     have n:=Q5 (H1.out rfl O);go_wp2_with (go_at_call 111;refine F.out.mono ?_;rintro e S ⟨rfl,b⟩;obtain rfl:=b.symm)
     go_ret;exact⟨by rw[n.out];rfl,rfl⟩
    ·have I:¬(0:Int)<(bl:Int):=by omega
     have n:=Q5 (Q.out (fun q=>O q.2) y.out);go_wp2_with (go_at_call 111;refine F.out.mono ?_;rintro e S ⟨rfl,b⟩;obtain rfl:=b.symm)
     go_roundw
     case rel=>exact⟨i+1,by omega,by go_num,n,trivial⟩
     case measure=>simp[intOf];omega
   ·have ab:¬((R:Int)=(s:Int)):=by omega
    have n:=Q5 (Q.out (fun q=>P q.1) y.out);go_wp2_with (go_at_call 111;refine F.out.mono ?_;rintro e S ⟨rfl,b⟩;obtain rfl:=b.symm)
    go_roundw
    case rel=>exact⟨i+1,by omega,by go_num,n,trivial⟩
    case measure=>simp[intOf];omega
  ·have C:¬(i:Int)<(cs.length:Int):=by omega
   obtain rfl:i=cs.length:=by omega
   have n:=Q5 (W.out.trans y.out);go_wp2;go_ret;exact⟨by rw[n.out];rfl,rfl⟩
end
section
open Go.Proofs.Tryz
variable {z:Nat}
theorem Bp(fs l:List zE)(f:zE):l.length<=(ua fs l f).length:=by
 unfold ua;split<;>simp
theorem tE{α:Type}(g:List zE->α->List zE)(b:∀l x,l.length<=(g l x).length):∀(a:List α) (l:List zE),l.length<=(a.foldl g l).length
 |[],_=>zg _
 |x::a,l=>yc (b l x) (tE g b a (g l x))
theorem K2{α:Type}(g:List zE->α->List zE)(b:∀l x,l.length<=(g l x).length)(a:List α)(l:List zE)(k:Nat):((a.take k).foldl g l).length<=(a.foldl g l).length:=by
 conv=>rhs;rw[←qZ k a,j7]
 exact tE g b _ _
theorem K0(fs:List zE)(k:Nat)(a:List zd)(l:List zE):l.length<=(xB fs k a l).length:=tE _ (fun l _=>tE _ (fun l _=>Bp fs l _) _ l) a l
theorem Dl(fs:List zE)(k:Nat)(a b:List zd)(l:List zE):xB fs k (a++b) l=xB fs k b (xB fs k a l):=by
 unfold xB;rw[j7]
theorem Kh(fs:List zE)(k:Nat)(t:List zh)(cs:List zd)(s i:Nat):(xB fs k (ym t (cs.take i) s) []).length<=(xB fs k (ym t cs s) []).length:=by
 have:ym t cs s=ym t (cs.take i) s++ym t (cs.drop i) s:=by
  unfold ym;rw[←r8,qZ]
 rw[this,Dl];exact K0 _ _ _ _
theorem oI{fs:List zE}{h:zj}{body:List zj}:∀(rest:List zj) (B:y5) (r:κ),r∈ye fs h body rest B->r.length=h.args.length
 |[],B,r,a=>by
  unfold ye at a;split at a
  ·cases a
  ·rw[xF.1 a];simp[y7]
 |l::rest,B,r,a=>by
  unfold ye at a;split at a
  ·exact oI rest B r a
  ·obtain⟨f,_,a⟩:=uJ.1 a;split at a
   ·split at a
    ·cases a
    ·exact oI rest _ r a
   ·cases a
theorem Mj{fs l:List zE}{f:zE}{n:Nat}(b:∀g∈l,g.2.1.length<=n)(c:f.2.1.length<=n):∀g∈ua fs l f,g.2.1.length<=n:=by
 intro g a;unfold ua at a;split at a
 ·exact b g a
 ·rcases zI.1 a with q|q
  ·exact b g q
  ·rw[xF.1 q];exact c
theorem i5{fs:List zE}{n:Nat}{p:ByteArray}{k:Nat}:∀(rs:List (κ)) (l:List zE),(∀g∈l,g.2.1.length<=n)->(∀r∈rs,r.length<=n)->∀g∈rs.foldl (fun l r=>ua fs l (p,r,k)) l,g.2.1.length<=n
 |[],_,a,_=>a
 |r::rs,l,a,b=>i5 rs _ (Mj a (b r (by simp))) (fun x c=>b x (by simp[c]))
theorem GV(w:World)(pb mb n s:Nat)(fv:Value)(ao:Option Addr)(cap:Nat)(aX:Option Addr)(ax:Nat)(ad:Option Addr)(S:Nat)(cs:List zd)(t:List zh)(fs:List zE)(h:S5 z w pb ao cap aX ax ad S cs t)(hz:z<w.heap.size)(hm:Q6 w mb #[fv,ι n] 54)(hf:mN w fv fs)(hx:uh cs t)(hl:cs.length<=1000)(ht:t.length<=1000)(ar:∀c∈cs,xt t c.head.pred<=1000)(hs:s<=1000)(a1:∀c∈cs,c.body.length<=30)(Z:∀c∈cs,∀l∈zk c,l.args.length<=3/\∀a∈l.args,0<a.size)(am:fs.length<=10000000)(ae:∀f∈fs,f.2.1.length<=1000000)(hF:r7 cs fs)(ay:(xB fs n (ym t cs s) []).length<1000000000000)(ah:∀c∈cs,(ye fs c.head c.body c.body []).length<=1000000000000):
  Calls prog 125 #[(π pb),(π mb),ι s] w fun e A=>∃v,e=.returned v/\Hid (yX z w.heap.size A v (xB fs n (ym t cs s) []))/\Hid (μ w A):=by
 have aG:Hid (∀W c,μ w W->c∈cs->Calls prog 111 #[(π pb),.string c.head.pred] W fun e A=>e=ε (ι (zP t c.head.pred:Nat))/\A=W):=fun W c m hc=>by
  have:=mD W pb _ _ _ (Q8 t) c.head.pred (h.below m).box (h.below m).names (by simp[Q8];omega);rw[(tK hx hc).1] at this;exact this
 have aP:Hid (∀W c,μ w W->c∈cs->zP t c.head.pred<t.length/\∃g,ad=some ⟨g,0,none⟩/\g<W.heap.size/\W.cell? ⟨g,zP t c.head.pred,none⟩=some (ι (xt t c.head.pred:Nat))):=fun W c m hc=>by
  obtain⟨D,F⟩:=(tK hx hc).2;obtain⟨g,r1,r2,r3⟩:=(h.below m).strata _ D;exact⟨D,g,r1,r2,by rw[r3,F]⟩
 have ak:Hid (∀W i (C:i<cs.length),μ w W->∃g,ao=some ⟨g,0,none⟩/\g<W.heap.size/\g<w.heap.size/\S2 z W g (i*4) cs[i]):=fun W i C m=>by
  obtain⟨g,D,F⟩:=h.cl i C;exact⟨g,D,xP F.lt m.size,F.lt,F.below m⟩
 have aL:Hid (∀W,μ w W->W.cell? ⟨pb,0,none⟩=some (.slice ao cs.length cap)/\W.cell? ⟨pb,2,none⟩=some (.slice ad t.length S)/\pb<W.heap.size):=fun W m=>⟨by rw[(h.below m).box.rules.1];rfl,by rw[(h.below m).box.rules.1];rfl,(h.below m).box.lt⟩;have a6:Hid (∀W i (C:i<cs.length) g,μ w W->S2 z W g (i*4) cs[i]->Calls prog 166 #[(π mb),.pointer (some ⟨g,i*4,none⟩),ι 0,.agg #[ν,ν]] W fun e A=>∃v,e=.returned v/\Hid (vf z W.heap.size A v (ye fs cs[i].head cs[i].body cs[i].body []))/\Hid (μ W A)):=fun W i C g m hc=>by
  have j:=zs C;exact Cx mb n g (i*4) fv cs[i] fs (a1 _ j) (Z _ j) am ae (fun f hf l hl e=>hF.jh f hf _ j l hl e.symm) hF.ne cs[i].body 0 W _ _ [] (zv _) rfl (by simp) (fun v x q=>by cases q) (ah _ j) ⟨hm.below m,hf.below m,hc,QD.nil W,QD.nil W,xP hz m.size⟩
 have T:=Q5 fun W O rv a2 row (ls:List zE) (m:μ w W) (h1:yX z w.heap.size W O ls) (h2:RW z W rv row) (h3:ls.length<1000000000000) (h4:row.length<=1000000) (h5:(∀f∈ls,f.2.1.length<=1000000))=>CK W mb n fv O rv fs ls a2 row (hm.below m) (hf.below m) h1 h2 am h3 h4 ae h5 m.size;have au:=Q5 ar;have HE:Hid (xB fs n (ym t cs s) []=xB fs n (ym t (cs.take cs.length) s) []):=by rw[Hid,vw]
 have aM:=Q5 fun i=>Nat.lt_of_le_of_lt (Kh fs n t cs s i) ay;have aN:Hid (∀i (C:i<cs.length),xt t cs[i].head.pred=s->0<cs[i].body.length->xB fs n (ym t (cs.take (i+1)) s) []=(ye fs cs[i].head cs[i].body cs[i].body []).foldl (fun l r=>ua fs l (cs[i].head.pred,r,n)) (xB fs n (ym t (cs.take i) s) [])):=fun i C D F=>by
  rw[ik C,zc ⟨D,F⟩,Dl];rfl
 have aH:Hid (∀i (C:i<cs.length),¬(xt t cs[i].head.pred=s/\0<cs[i].body.length)->xB fs n (ym t (cs.take (i+1)) s) []=xB fs n (ym t (cs.take i) s) []):=fun i C D=>by rw[ik C,za D]
 have aS:Hid (∀i (C:i<cs.length),∀r∈ye fs cs[i].head cs[i].body cs[i].body [],r.length<=1000000):=fun i C r hr=>by
  rw[oI _ _ r hr];have:=(Z _ (zs C) cs[i].head (by simp[zk])).1;omega
 have a8:=Q5 ah;clear h hm hf hx ar a1 Z ae hF ay ah;generalize xB fs n (ym t cs s) []=bi at *;go_enter func125,ntmps125;go_wp2;go_loopw [7,8,9,10,11,12] (fun v7 v8 _ _ _ _ wr=>∃i:Nat,i<=cs.length/\v8=ι i/\Hid (yX z w.heap.size wr v7 (xB fs n (ym t (cs.take i) s) []))/\Hid (∀f∈xB fs n (ym t (cs.take i) s) [],f.2.1.length<=1000000)/\Hid (μ w wr)) (fun _ v8 _ _ _ _ _=>cs.length-(intOf v8).toNat)
 case atStart=>exact⟨0,zv _,rfl,yX.nil _ _,fun f hf=>(by cases hf),zo _ _⟩
 case round=>
  obtain⟨i,C,rfl,I,N,o⟩:=hrel;obtain⟨b0,b2,aA⟩:=aL.out _ o.out;by_cases B:i<cs.length
  ·have aB:(i:Int)<(cs.length:Int):=by omega
   have j:=zs B;obtain⟨g,rfl,hg,bf,J⟩:=ak.out _ i B o.out;have HC:=Q5 J;obtain⟨ba,gk,rfl,aD,ck⟩:=aP.out _ _ o.out j;have HP:=Q5 (aG.out _ _ o.out j);have be:=au.out _ j;have bk:((zP t cs[i].head.pred:Nat):Int)<(t.length:Int):=by omega
   have c1:=J.pred;obtain⟨ab,cb,c3⟩:∃ab cb,wr.cell? ⟨g,i*4+3,none⟩=some (.slice ab cs[i].body.length cb):=by
    obtain⟨ab,cb,c3,_⟩:=J.body;exact⟨ab,cb,c3⟩
   have H1:=Q5 (aN.out i B);have H2:=Q5 (aH.out i B);have az:=Q5 (aM.out (i+1));have aq:=Q5 (a6.out wr i B g o.out J);have ai:=Q5 (aS.out i B);have aJ:=Q5 (a8.out _ j);have a5:Hid (∀W,μ w W->g<W.heap.size/\W.cell? ⟨g,i*4+1,none⟩=some (.string cs[i].head.pred)):=fun W m=>by
    obtain⟨g',e,D,_,F⟩:=ak.out W i B m;cases e;exact⟨D,F.pred⟩
   clear j J HC;obtain⟨nx,ac⟩:∃nx,xB fs n (ym t (cs.take (i+1)) s) []=nx:=⟨_,rfl⟩;rw[ac] at H1 H2 az;have E:=Q5 ac;clear ac;generalize xB fs n (ym t (cs.take i) s) []=R at *;generalize ye fs cs[i].head cs[i].body cs[i].body []=d at *;generalize cs[i].body.length=bl at *;generalize xt t cs[i].head.pred=sk at *;generalize zP t cs[i].head.pred=fk at *;generalize cs[i].head.pred=G at *;by_cases h1:sk=s
   ·subst h1;by_cases h2:0<bl
    ·have aI:¬((bl:Int)=0):=by omega
     have HN:=Q5 (H1.out rfl h2);have bd:=aJ.out;go_upto_region 9 with (first|(go_at_call 166;refine aq.out.mono ?_;rintro e w2 ⟨aT,rfl,V,X⟩)|(go_at_call 111;refine HP.out.mono ?_;rintro e w1 ⟨rfl,K⟩;obtain rfl:=K.symm))
     have ap:=Q5 (I.out.below X.out);have an:=Q5 (Q9 o.out X.out);clear HP aq b0 b2 aA hg aD ck c1 c3 H1 H2 I X o;obtain⟨L,u,av⟩:∃L u,aT=.slice L d.length u:=by
      obtain⟨_,_,q,_⟩:=V.out;exact zp q
     subst av;go_wp2;go_loopw [7,12] (fun v7 U wz=>∃(k:Nat) (O:Value),k<=d.length/\U=ι k/\v7=O/\Hid (yX z w.heap.size wz O ((d.take k).foldl (fun l r=>ua fs l (G,r,n)) R))/\Hid (vf z 0 wz (.slice L d.length u) d)/\Hid (μ w wz)) (fun _ U _=>d.length-(intOf U).toNat)
     case atStart=>
      obtain⟨y,D,F,q3⟩:=V.out;exact⟨0,_,zv _,rfl,rfl,ap,⟨y,D,yr F (zv _),q3⟩,an⟩
     case round=>
      clear ap an V;obtain⟨k,O,hk,rfl,a0,aj,aw,aa⟩:=hrel;obtain rfl:=a0.symm;clear a0;by_cases Y:k<d.length
      ·have a9:(k:Int)<(d.length:Int):=by omega
       obtain⟨y,r1,r2,r3⟩:=aw.out;obtain⟨M,bb,aC,_,bc,Q⟩:=yv r2 (by omega);cases aC;have ag:k<y.length:=by omega
       have bg:wr.cell? ⟨M,k,none⟩=some y[k]:=Q k _ (by simp[ag]);obtain⟨hg,c1⟩:=a5.out _ aa.out;have aF:Hid ((d.take (k+1)).foldl (fun l r=>ua fs l (G,r,n)) R=ua fs ((d.take k).foldl (fun l r=>ua fs l (G,r,n)) R) (G,d[k],n)):=by
        rw[Hid,yM Y,j7];rfl
       have P:((d.take k).foldl (fun l r=>ua fs l (G,r,n)) R).length<1000000000000:=by
        refine Nat.lt_of_le_of_lt (K2 _ (fun l _=>Bp fs l _) d R k) ?_;rw[←HN.out];exact az.out
       have a4:=i5 (fs:=fs) (p:=G) (k:=n) (d.take k) R N.out (fun r hr=>ai.out r (fS hr));have aQ:Hid (∀W,μ wr W->Calls prog 123 #[(π mb),O,.string G,y[k]] W fun e A=>∃v,e=.returned v/\Hid (yX z w.heap.size A v (ua fs ((d.take k).foldl (fun l r=>ua fs l (G,r,n)) R) (G,d[k],n)))/\Hid (vf z 0 A (.slice (some ⟨M,0,none⟩) d.length u) d)/\Hid (μ w A)/\A.cell? ⟨M,k,none⟩=some y[k]/\A.cell? ⟨g,i*4+1,none⟩=some (.string G)):=fun W m=>by
        have af:=Q9 aa.out m;have a7:=aj.out.below m;refine(T.out W O y[k] G d[k] _ af a7 ((r3 k Y ag).below m) P (ai.out _ (zs Y)) a4).mono ?_;rintro e A ⟨v,D,F,q3⟩;obtain⟨_,_,H,_⟩:=id a7;have hS:=q3.out;have al:=hS.below (fun b m=>yW H (yt m)) af.size;have aK:=aw.out.below m;have a3:=af.trans al;have aR:=yG (zB r2 m) hS (QS.own H) (by decide);obtain⟨g',aZ,e2,_,bm,aO⟩:=yv aR (by omega);cases e2;exact⟨v,D,F,aK.saveT hS (QS.own H) (by decide) (by decide),a3,aO k _ (by simp[ag]),(a5.out _ a3).2⟩
       clear r2 r3 Q P a4 T;generalize y[k]=rv at *;go_upto_region 12 with fail
       go_region_held3 (fun A=>A.cell? ⟨M,k,none⟩=some rv/\A.cell? ⟨g,i*4+1,none⟩=some (.string G)) (first|go_keep|(go_simp;done)) (go_at_call 123;refine(aQ.out _ (by exact(by repeat'(first|with_reducible(first|apply zR|assumption|apply zN|apply zA|apply zD|apply zS)|go_size)))).mono ?_;rintro e w5 ⟨v5,rfl,aW,aV,aU,z0,z1⟩)
       go_wp2;go_roundw
       case rel=>exact⟨k+1,_,by omega,by go_num,rfl,by rw[aF.out];exact aW,aV,aU⟩
       case measure=>simp[intOf];omega
      ·have a9:¬(k:Int)<(d.length:Int):=by omega
       obtain rfl:k=d.length:=by omega
       have aE:Hid (yX z w.heap.size wr O nx):=by
        have q:=aj.out;rw[vw,←HN.out] at q;exact q
       have aY:Hid (∀f∈nx,f.2.1.length<=1000000):=by
        rw[HN.out];exact i5 d R N.out ai.out
       go_wp2;go_roundw
       case rel=>exact⟨i+1,by omega,by go_num,by rw[E.out];exact aE,by rw[E.out];exact aY,aa⟩
       case measure=>simp[intOf];omega
    ·have aI:(bl:Int)=0:=by omega
     have HF:=Q5 (H2.out (fun q=>h2 q.2));go_wp2_with (go_at_call 111;refine HP.out.mono ?_;rintro e w1 ⟨rfl,K⟩;obtain rfl:=K.symm)
     go_roundw
     case rel=>exact⟨i+1,by omega,by go_num,by rw[E.out,HF.out];exact I,by rw[E.out,HF.out];exact N,o⟩
     case measure=>simp[intOf];omega
   ·have bh:¬((sk:Int)=(s:Int)):=by omega
    have HF:=Q5 (H2.out (fun q=>h1 q.1));go_wp2_with (go_at_call 111;refine HP.out.mono ?_;rintro e w1 ⟨rfl,K⟩;obtain rfl:=K.symm)
    go_roundw
    case rel=>exact⟨i+1,by omega,by go_num,by rw[E.out,HF.out];exact I,by rw[E.out,HF.out];exact N,o⟩
    case measure=>simp[intOf];omega
  ·have aB:¬(i:Int)<(cs.length:Int):=by omega
   obtain rfl:i=cs.length:=by omega
   go_wp2;go_ret;exact⟨_,rfl,by rw[Hid,HE.out];exact I.out,o⟩
def pC(z:Nat)(w:World)(a:Option (List zE×Nat))(e:Ending)(w':World):Prop:=match a with
 |none=>e=ε (.pointer none)/\Hid (μ w w')
 |some (L,k)=>∃b,e=ε ((π b))/\Hid (∃c,w.heap.size<=b/\Q6 w' b #[c,ι k] 54/\yX z w.heap.size w' c L)/\Hid (μ w w')
structure Sd (z:Nat) (w wr:World) (mb:Nat) (fv:Value) (L:List zE) (k:Nat):Prop where
 hmb:w.heap.size<=mb
 box:Q6 wr mb #[fv,ι k] 54
 fl:yX z w.heap.size wr fv L
 bel:μ w wr
theorem Sd.below{w wr w':World}{b:Nat}{c:Value}{L:List zE}{k:Nat}(h:Sd z w wr b c L k)(a:μ wr w'):Sd z w w' b c L k:=⟨h.hmb,h.box.below a,h.fl.below a,Q9 h.bel a⟩
theorem Sd.up{w wr:World}{a:Nat}{b:Value}{L:List zE}{k:Nat}(h:Sd z w wr a b L k):Sd z w (wr.setCell ⟨a,1,none⟩ (ι ((k:Int)+1))) a b L (k+1):=by
 refine⟨h.hmb,?_,h.fl.saveT (ze.set _ _ _ _) (QS.box h.box) (by decide) (by decide),h.bel.setCell h.hmb _⟩;have:=h.box.set 1 (ι ((k:Int)+1));simpa using this
theorem Sd.put{w wr:World}{e:Nat}{h a:Value}{g:List zE}{k:Nat}(d:w.heap.size<=e)(b:Q6 wr e #[h,ι k] 54)(f:yX z w.heap.size wr a g)(c:μ w wr):Sd z w (wr.setCell ⟨e,0,none⟩ a) e a g k:=by
 refine⟨d,?_,f.saveT (ze.set _ _ _ _) (QS.box b) (by decide) (by decide),c.setCell d _⟩;have:=b.set 0 a;simpa using this
theorem Cm{cs:List zd}{i:Nat}(a:i<cs.length):xC (cs.take (i+1))=if cs[i].body.length=0 then ua [] (xC (cs.take i)) (cs[i].head.pred,cs[i].head.args,0) else xC (cs.take i):=by
 unfold xC;rw[yM a,r8];by_cases q:cs[i].body.length=0
 ·rw[zc q,List.filter_cons_of_pos (by simpa using q),List.filter_nil,uQ,j7];rfl
 ·rw[za q,List.filter_cons_of_neg (by simpa using q),List.filter_nil,qQ]
theorem Mf(cs:List zd):(xC cs).length<=cs.length/\∀f∈xC cs,∃c∈cs,f=(c.head.pred,c.head.args,0):=by
 have:∀i,i<=cs.length->(xC (cs.take i)).length<=i/\∀f∈xC (cs.take i),∃c∈cs,f=(c.head.pred,c.head.args,0):=by
  intro i;induction i with
  |zero=>intro _;exact⟨by simp[xC],fun f a=>by simp[xC] at a⟩
  |succ i d=>
   intro e;obtain⟨g,b⟩:=d (by omega);rw[Cm (by omega)];split
   ·unfold ua;split
    ·exact⟨by omega,b⟩
    ·refine⟨by simp;omega,fun f a=>?_⟩;rcases zI.1 a with q|q
     ·exact b f q
     ·exact⟨cs[i],zs _,xF.1 q⟩
   ·exact⟨by omega,b⟩
 have h:=this cs.length (zg _);rw[vw] at h;exact h
theorem IH(w:World)(pb mr mx:Nat)(ao:Option Addr)(cap:Nat)(al:Option Addr)(C:Nat)(a7:Option Addr)(X:Nat)(cs:List zd)(t0 t:List zh)(hz:z<w.heap.size)(h:S5 z w pb ao cap al C a7 X cs t)(hp:QL cs t0 t)(hx:uh cs t)(hl:cs.length<=1000)(ht:t.length<=1000)(a3:∀c∈cs,xt t c.head.pred<=1000)(aR:∀c∈cs,c.body.length<=30)(aa:∀c∈cs,∀l∈zk c,l.args.length<=3/\∀a∈l.args,0<a.size)(b5:mr<=1048576)(b4:mx<=1048576)(ai:∀L D,Rv t (zq cs) L D->L.length<1000000000000/\∀c∈cs,(ye L c.head c.body c.body []).length<=1000000000000):
  Calls prog 76 #[(π pb),ι mr,ι mx] w fun e I=>pC z w (yly t cs mr mx) e I:=by
 have b7:=Q5 fun W (j:μ w W)=>h.below j;have a6:Hid (∀W,μ w W->W.cell? ⟨pb,0,none⟩=some (.slice ao cs.length cap)/\W.cell? ⟨pb,1,none⟩=some (.slice al t.length C)/\pb<W.heap.size):=fun W j=>⟨by rw[(h.below j).box.rules.1];rfl,by rw[(h.below j).box.rules.1];rfl,(h.below j).box.lt⟩;have aG:Hid (∀W i (hi:i<cs.length),μ w W->∃g Y ab cb,ao=some ⟨g,0,none⟩/\g<W.heap.size/\g<w.heap.size/\W.cell? ⟨g,i*4+1,none⟩=some (.string cs[i].head.pred)/\W.cell? ⟨g,i*4+2,none⟩=some Y/\RW z W Y cs[i].head.args/\W.cell? ⟨g,i*4+3,none⟩=some (.slice ab cs[i].body.length cb)):=fun W i hi j=>by
  obtain⟨g,q1,q2⟩:=h.cl i hi;have q3:=q2.below j;obtain⟨Y,q4,q5⟩:=q3.args;obtain⟨ab,cb,q6,_⟩:=q3.body;exact⟨g,Y,ab,cb,q1,q3.lt,q2.lt,q3.pred,q4,q5,q6⟩
 have aZ:=Q5 fun W s j hs=>Lo W pb ao cap al C a7 X cs t s (h.below j) hx hl ht a3 hs;have bv:Hid (∀W s mb B L D k,Sd z w W mb B L k->Rv t (zq cs) L D->L.length<=1048576->s<=1000->Calls prog 125 #[(π pb),(π mb),ι (s:Nat)] W fun e I=>∃v,e=.returned v/\Hid (yX z W.heap.size I v (xB L k (ym t cs s) []))/\Hid (μ W I)):=fun W s mb B L D k hM hR hL hs=>by
  have bm:=(ai _ _ (hR.round hp hx s k).1).1;rw[yp] at bm;exact GV W pb mb k s B ao cap al C a7 X cs t L (h.below hM.bel) (xP hz hM.bel.size) hM.box hM.fl.facts hx hl ht a3 hs aR aa (by omega) (fun f hf=>by
   obtain⟨p,bp,r,m,_,rfl⟩:=(hR.mem f).1 hf;simp only[tj];have:=hx.small p bp;omega) (hR.fs hx) (by omega) (ai _ _ hR).2
 have aX:=Q5 aa;have a2:Hid (xC cs=xC (cs.take cs.length)):=by rw[Hid,vw]
 have aA:Hid (∀i,(xC (cs.take i)).length<=1000/\∀f∈xC (cs.take i),f.2.1.length<=1000000):=fun i=>by
  obtain⟨q1,q2⟩:=Mf (cs.take i);refine⟨by simp at q1;omega,fun f hf=>?_⟩;obtain⟨c,hc,rfl⟩:=q2 f hf;have:=(aa c (fS hc) c.head (by simp[zk])).1;show c.head.args.length<=_;omega
 have aJ:Hid (∀i (hi:i<cs.length),xC (cs.take (i+1))=if cs[i].body.length=0 then ua [] (xC (cs.take i)) (cs[i].head.pred,cs[i].head.args,0) else xC (cs.take i)):=fun i hi=>Cm hi;have aS:=Q5 (Cj hx);have aY:=Q5 fun L D s k (q:Rv t (zq cs) L D)=>(q.round hp hx s k).1;have bf:=Q5 fun L D q=>(ai L D q).1;have aU:Hid (yly t cs mr mx=if (xC cs).length<=mr then zyz t cs mr mx t.length 0 0 (xC cs) else none):=rfl;obtain⟨b0,b1,J⟩:=a6.out w (zo _ _);clear h hp hx a3 aR aa ai;generalize yly t cs mr mx=d at *;go_enter func76,ntmps76;go_wp2;have V:Hid (Sd z w (w.alloc (.cells #[ν,ι 0] 54)) w.heap.size (ν) [] 0):=⟨zg _,Q6.new _ _ _,yX.nil _ _,(zo _ _).alloc (zg _) _⟩;generalize bg:w.alloc (.cells #[ν,ι 0] 54)=wA at *;clear bg b0 b1 J;go_loopw [8,9,10] (fun v8 v9 _ wr=>∃(i:Nat) (lv:Value),i<=cs.length/\v9=ι i/\v8=lv/\Hid (yX z wA.heap.size wr lv (xC (cs.take i)))/\Hid (μ wA wr)) (fun _ v9 _ _=>cs.length-(intOf v9).toNat)
 case atStart=>exact⟨0,_,zv _,rfl,rfl,yX.nil _ _,zo _ _⟩
 case round=>
  obtain⟨i,lv,hi,rfl,ah,ae,A⟩:=hrel;obtain rfl:=ah.symm;clear ah;have ak:=Q5 (Q9 V.out.bel A.out);obtain⟨b0,b1,J⟩:=a6.out _ ak.out;by_cases a1:i<cs.length
  ·have ba:(i:Int)<(cs.length:Int):=by omega
   obtain⟨g,Y,ab,cb,rfl,hg,bc,c1,c2,au,c3⟩:=aG.out _ i a1 ak.out;have ag:=Q5 (aJ.out i a1);obtain⟨aV,a9⟩:=aA.out i;have b8:=(aX.out _ (zs a1) cs[i].head (by simp[zk])).1;by_cases j:cs[i].body.length=0
   ·have ar:Hid (xC (cs.take (i+1))=ua [] (xC (cs.take i)) (cs[i].head.pred,cs[i].head.args,0)):=by rw[Hid,ag.out,zc j]
    rw[j] at c3;have bs:Hid (∀W,μ wr W->Calls prog 123 #[.pointer (some ⟨w.heap.size,0,none⟩),lv,.string cs[i].head.pred,Y] W fun e I=>∃v,e=.returned v/\Hid (yX z wA.heap.size I v (ua [] (xC (cs.take i)) (cs[i].head.pred,cs[i].head.args,0)))/\Hid (μ wA I)/\I.cell? ⟨g,i*4+1,none⟩=some (.string cs[i].head.pred)/\I.cell? ⟨g,i*4+2,none⟩=some Y):=fun W j=>by
     have ac:=Q9 A.out j;have aW:=ae.out.below j;refine(CK W w.heap.size 0 _ lv Y [] (xC (cs.take i)) cs[i].head.pred cs[i].head.args (V.out.box.below ac) (yX.nil (z:=z) 0 W).facts aW (au.below j) (by simp) (by omega) (by omega) (fun f hf=>by cases hf) a9 ac.size).mono ?_;rintro e I ⟨v,q1,q2,q3⟩;obtain⟨_,_,aH,_⟩:=id aW;have aB:=ac.trans (q3.out.below (fun b j=>yW aH (yt j)) ac.size);have ad:=xP bc V.out.bel.size;have k1:=(A.out.cell (p:=⟨g,i*4+1,none⟩) ad).symm.trans c1;have k2:=(A.out.cell (p:=⟨g,i*4+2,none⟩) ad).symm.trans c2;exact⟨v,q1,q2,aB,(zl aB ad k1),(zl aB ad k2)⟩
    clear au ag aV a9;generalize ua [] (xC (cs.take i)) (cs[i].head.pred,cs[i].head.args,0)=nx at *;generalize cs[i].head.pred=pr at *;go_upto_region 8 with fail
    go_region_held3 (fun I=>I.cell? ⟨g,i*4+1,none⟩=some (.string pr)/\I.cell? ⟨g,i*4+2,none⟩=some Y) (first|go_keep|(go_simp;done)) (go_at_call 123;refine(bs.out _ (by exact(by repeat'(first|with_reducible(first|apply zR|assumption|apply zN|apply zA|apply zD|apply zS)|go_size)))).mono ?_;rintro e w5 ⟨v5,rfl,bx,bt,z0,z1⟩)
    go_wp2;go_roundw
    case rel=>exact⟨i+1,_,by omega,by go_num,rfl,by rw[ar.out];exact bx,bt⟩
    case measure=>simp[intOf];omega
   ·have ar:Hid (xC (cs.take (i+1))=xC (cs.take i)):=by rw[Hid,ag.out,za j]
    have b2:¬((cs[i].body.length:Int)=0):=by omega
    clear au ag aV a9 j;generalize cs[i].body.length=bl at *;go_wp2;go_roundw
    case rel=>exact⟨i+1,_,by omega,by go_num,rfl,by rw[ar.out];exact ae,A⟩
    case measure=>simp[intOf];omega
  ·have ba:¬(i:Int)<(cs.length:Int):=by omega
   obtain rfl:i=cs.length:=by omega
   have av:Hid (yX z wA.heap.size wr lv (xC cs)):=by rw[a2.out];exact ae
   have aI:=(aA.out cs.length).1;rw[←a2.out] at aI;have a0:=V.out.box.below A.out;have P:=Q5 (Sd.put (zg _) a0 (av.out.low V.out.bel.size) ak.out);have K:=Q5 aU.out;obtain⟨a8,N,ah⟩:∃a8 N,lv=.slice a8 (xC cs).length N:=by
    obtain⟨_,_,q,_⟩:=av.out;exact zp q
   subst ah;obtain⟨mc,mf,x⟩:=a0.boxed;clear a0 av ae a2 aJ aA aX aG aU;generalize xC cs=L0 at *;go_upto_region 10 with fail
   generalize wr.setCell ⟨w.heap.size,0,none⟩ (.slice a8 L0.length N)=wB at *;clear mc mf x b0 b1 J A ak;obtain⟨mc,mf,x⟩:=P.out.box.boxed;obtain⟨b0,b1,J⟩:=a6.out _ P.out.bel;by_cases hq:L0.length<=mr
   ·have aN:¬((mr:Int)<(L0.length:Int)):=by omega
    have aO:Hid (zyz t cs mr mx t.length 0 0 L0=d):=by rw[Hid,K.out,zc hq]
    go_wp2;clear mc mf x b0 b1 J K;go_loopw [12,13,14] (fun aw _ _ wz=>∃(s k:Nat) (L:List zE) (B:Value),s<=t.length/\aw=ι s/\L.length<=mr/\k<=mx/\Hid (Sd z w wz w.heap.size B L k)/\Hid (∃D,Rv t (zq cs) L D)/\Hid (zyz t cs mr mx (t.length-s) s k L=d)) (fun aw _ _ _=>t.length-(intOf aw).toNat)
    case atStart=>exact⟨0,0,L0,_,zv _,rfl,hq,zv _,P,⟨_,aS.out⟩,aO⟩
    case round=>
     clear P aS aO hq aN aI;obtain⟨s,k,L,B,hs,rfl,Z,af,H,F,HS⟩:=hrel;by_cases b6:s<t.length
     ·have bu:(s:Int)<(t.length:Int):=by omega
      obtain⟨n,hn⟩:∃n,t.length-s=n+1:=⟨t.length-s-1,by omega⟩;have bi:=Q5 (show t.length-(s+1)=n by omega);have aP:Hid (d=if ym t cs s=[] then zyz t cs mr mx n (s+1) k L else match z0y t cs mr s (mx-k) k L with|none=>none|some (L',k')=>zyz t cs mr mx n (s+1) k' L'):=by
       have q:=HS.out;rw[hn,zyz] at q;exact q.symm
      have ap:=Q5 (aZ.out wr s H.out.bel (by omega));clear hn HS;go_wp2_with (go_at_call 124;refine ap.out.mono ?_;rintro e w1 ⟨rfl,br⟩;obtain rfl:=br.symm)
      clear ap;go_loopg [13,14] (mx+1) (fun f bn _ wz=>∃(b:Bool) (k:Nat) (L:List zE) (B:Value),bn=.bool b/\(b=true->mx-k<f)/\L.length<=mr/\k<=mx/\Hid (Sd z w wz w.heap.size B L k)/\Hid (∃D,Rv t (zq cs) L D)/\Hid (d=if b=false then zyz t cs mr mx n (s+1) k L else match z0y t cs mr s (mx-k) k L with|none=>none|some (L',k')=>zyz t cs mr mx n (s+1) k' L'))
      case atStart=>
       refine⟨!(ym t cs s).isEmpty,k,L,B,rfl,fun _=>by omega,Z,af,H,F,?_⟩;rw[Hid,aP.out];cases ym t cs s with
       |nil=>rfl
       |cons a b=>rfl
      case round=>
       clear H F aP Z af;obtain⟨b,k,L,B,rfl,az,Z,af,H,F,HS⟩:=hrel;cases b with
       |false=>
        have O:Hid (zyz t cs mr mx n (s+1) k L=d):=HS.out.symm;go_wp2;go_roundw
        case rel=>exact⟨s+1,k,L,B,by omega,by go_num,Z,af,H,F,by rw[bi.out];exact O⟩
        case measure=>simp[intOf];omega
       |true=>
        have O:Hid (d=match z0y t cs mr s (mx-k) k L with|none=>none|some (L',k')=>zyz t cs mr mx n (s+1) k' L'):=HS.out;have b3:=az rfl;obtain⟨mc,mf,x⟩:=H.out.box.boxed;by_cases bq:k=mx
        ·subst bq;have R:Hid (d=none):=by rw[Hid,O.out,jX];rfl
         clear az;go_wp2;go_ret;unfold pC;rw[R.out];exact⟨rfl,H.out.bel⟩
        ·have bz:¬((k:Int)=(mx:Int)):=by omega
         obtain⟨left,T⟩:∃left,mx-k=left+1:=⟨mx-k-1,by omega⟩;have bb:=Q5 (show mx-(k+1)=left by omega);have a5:=O.out;rw[T,z0y] at a5;have HU:=Q5 (H.out.up);have M:=Q5 a5;clear O T az HS a5;go_upto_region 21 with fail
         generalize wr.setCell ⟨w.heap.size,1,none⟩ (ι ((k:Int)+1))=w1 at *;clear mc mf x H;obtain⟨D,hD⟩:=F.out;have aQ:=Q5 (bv.out w1 s w.heap.size B L D (k+1) HU.out hD (by omega) (by omega));have aq:Hid (∃D,Rv t (zq cs) (L++xB L (k+1) (ym t cs s) []) D):=⟨_,aY.out L D s (k+1) hD⟩;have a4:=bf.out _ _ (aY.out L D s (k+1) hD);rw[yp] at a4;clear hD F;generalize xB L (k+1) (ym t cs s) []=o at *;go_upto_region 22 with (go_at_call 125;refine aQ.out.mono ?_;rintro e w2 ⟨bd,rfl,ax,aM⟩)
         have u:=Q5 (HU.out.below aM.out);clear aQ HU aM;obtain⟨am,Q,be⟩:∃am Q,bd=.slice am o.length Q:=by
          obtain⟨_,_,q,_⟩:=ax.out;exact zp q
         subst be;obtain⟨aT,an,bh⟩:∃aT an,B=.slice aT L.length an:=by
          obtain⟨_,_,q,_⟩:=u.out.fl;exact zp q
         subst bh;obtain⟨mc,mf,x⟩:=u.out.box.boxed;go_upto_region 23 with (at_builtin;refine DT rfl (.tmp 97) (.tmp 98) rfl _ _ _ _ rfl rfl u.out.fl ax.out (by omega) u.out.bel.size ?_;intro v8 w8 aD aF;obtain⟨ay,U,h8⟩:∃ay U,v8=.slice ay (L.length+o.length) U:=by{obtain⟨_,_,q,_⟩:=aD;rw[←yp];exact zp q};subst h8;obtain⟨_,_,y,_⟩:=u.out.fl;have aC:=u.out.box.saveT aF (QS.own y) (by decide);obtain⟨bw,bk,aK⟩:=aC.boxed)
         have aj:=Q5 (Sd.put (zg _) aC aD (u.out.bel.trans (aF.below (fun b j=>yW y (yt j)) u.out.bel.size)));clear mc mf x bw bk aK aC y aD aF u ax;generalize w8.setCell ⟨w.heap.size,0,none⟩ (.slice ay (L.length+o.length) U)=wN at *;obtain⟨mc,mf,x⟩:=aj.out.box.boxed;rw[yp] at M;by_cases E:L.length+o.length<=mr
         ·have bo:¬((mr:Int)<((L.length+o.length:Nat):Int)):=by omega
          have S:=M.out;rw[zc E] at S;by_cases G:o=[]
          ·have R:Hid (d=zyz t cs mr mx n (s+1) (k+1) (L++o)):=by rw[Hid,S,zc G]
           have aL:o.length=0:=by rw[G];rfl
           clear G S M a4;have aE:Hid (L.length+o.length=(L++o).length):=yp.symm;generalize L.length+o.length=ll at *;generalize o.length=nl at *;subst aL;go_wp2;go_roundg (mx-(k+1))
           case measure=>omega
           case rel=>exact⟨false,k+1,L++o,_,rfl,fun q=>(by cases q),by rw[←aE.out];exact E,by omega,aj,aq,R⟩
          ·have R:Hid (d=match z0y t cs mr s (mx-(k+1)) (k+1) (L++o) with|none=>none|some (L',k')=>zyz t cs mr mx n (s+1) k' L'):=by rw[Hid,S,za G,bb.out]
           have aL:(0:Int)<(o.length:Int):=by have:=List.length_pos_iff.2 G;omega
           clear G S M a4;have aE:Hid (L.length+o.length=(L++o).length):=yp.symm;generalize L.length+o.length=ll at *;generalize o.length=nl at *;go_wp2;go_roundg (gk-1)
           case measure=>omega
           case rel=>exact⟨true,k+1,L++o,_,congrArg Value.bool (decide_eq_true (by omega)),fun _=>(by omega),by rw[←aE.out];exact E,by omega,aj,aq,R⟩
         ·have bo:((mr:Int)<((L.length+o.length:Nat):Int)):=by omega
          have R:Hid (d=none):=by rw[Hid,M.out,za E]
          generalize L.length+o.length=ll at *;go_wp2;go_ret;unfold pC;rw[R.out];exact⟨rfl,aj.out.bel⟩
     ·have bu:¬(s:Int)<(t.length:Int):=by omega
      obtain rfl:s=t.length:=by omega
      have R:Hid (some (L,k)=d):=by
       have q:=HS.out;rw[jX] at q;exact q
      go_wp2;go_ret;unfold pC;rw[←R.out];exact⟨_,rfl,⟨B,H.out.hmb,H.out.box,H.out.fl⟩,H.out.bel⟩
   ·have aN:((mr:Int)<(L0.length:Int)):=by omega
    have R:Hid (d=none):=by rw[Hid,K.out,za hq]
    go_wp2;go_ret;unfold pC;rw[R.out];exact⟨rfl,P.out.bel⟩
theorem Lh(w:World)(v:Value):Calls prog 34 #[v,.bool true] w fun e a=>e=ε (ν)/\a=w:=by
 go_enter func34,ntmps34;go_wp2;go_ret;exact⟨rfl,rfl⟩
theorem Na(w:World)(u v:Value):Calls prog 36 #[u,v,.bool true] w fun e a=>e=ε (.bool true)/\a=w:=by
 go_enter func36,ntmps36;go_wp2;go_ret;exact⟨rfl,rfl⟩
theorem Ka(w:World)(u v:Value):Calls prog 75 #[u,v,.bool true] w fun e a=>e=ε (.bool true)/\a=w:=by
 go_enter func75,ntmps75;go_wp2;go_ret;exact⟨rfl,rfl⟩
theorem Jz{nb:Bool}(w:World)(u v:Value)(a b:Int)(h:a<0∨1048576<a∨b<0∨1048576<b):Calls prog 37 #[u,v,.bool nb,ι a,ι b] w fun e c=>e=ε (.tuple #[.pointer none,ι 8])/\c=w:=by
 by_cases d:a<0
 ·go_enter func37,ntmps37;go_wp2;go_ret2
  exact⟨rfl,rfl⟩
 ·by_cases g:1048576<a
  ·go_enter func37,ntmps37;go_wp2;go_ret2
   exact⟨rfl,rfl⟩
  ·by_cases f:b<0
   ·go_enter func37,ntmps37;go_wp2;go_ret2
    exact⟨rfl,rfl⟩
   ·have i:1048576<b:=by omega
    go_enter func37,ntmps37;go_wp2;go_ret2
    exact⟨rfl,rfl⟩
def Od(z:Nat)(w:World)(a:Option (List zE×Nat))(e:Ending)(w':World):Prop:=match a with
 |none=>e=ε (.tuple #[.pointer none,ι 10])/\Hid (μ w w')
 |some (L,k)=>∃b,e=ε (.tuple #[(π b),ι 0])/\Hid (∃c,w.heap.size<=b/\Q6 w' b #[c,ι k] 54/\yX z w.heap.size w' c L)/\Hid (μ w w')
end
section
open Go.Proofs.Tryz
variable {z lo:Nat}
theorem PR:(prog.info? 24).map (fun i=>(i.zero,i.size,i.bytes))=some (some (ν),1,24):=by kernel_rfl
theorem Q0:(prog.info? 24).map (·.size)=some 1:=by kernel_rfl
theorem JX(a:List Value)(x:Value):splice (madeCells #[x] (a.length+1)).toList 0 a=a++[x]:=by
 unfold splice;have:(madeCells #[x] (a.length+1)).toList=List.replicate (a.length+1) x:=by
  refine kP (by simp[size_madeCells]) fun i b c=>?_;simp[madeCells,Nat.mod_one]
 rw[this];simp[List.drop_replicate]
theorem F8(w:World)(B:Nat)(D:Value)(a:List Value)(i:w.ownsRow B 24 1 D a.length a)(y:∀v∈a,v.oneCell'=true)(N:a.length<=2000000):
  Calls prog 34 #[D,.bool false] w fun e q=>∃A,e=ε (.slice (some ⟨w.heap.size,0,none⟩) a.length (a.length+1))/\Hid (Q6 q w.heap.size (a++[Value.slice (some ⟨A,0,none⟩) 1 1]).toArray 24/\Q6 q A #[ι 7] 3)/\Hid (μ w q):=by
 obtain⟨J,M,rfl⟩:=zp i;have n:=run_make_row' (P:=prog) 26 24 (ν) 24 underlying26 PR rfl .i64 .i64 (a.length+1) (by omega) (by omega);rw[Int.natCast_add,show((1:Nat):Int)=1 from rfl] at n;have d:Hid (∀W,μ w W->0<a.length->∃C,J=some C/\∀j v,a[j]?=some v->W.cell? (C.add j)=some v):=fun W H k=>by
  obtain⟨u,o,E,_,m,l⟩:=yv i k;simp at E;refine⟨⟨u,0,none⟩,E.1,fun j v K=>?_⟩;rw[Addr.add_lit,vz,H.cell (p:=⟨u,j,none⟩) m];exact l j v K
 have r:=Q5 y;have c:Hid (0+a.length<=(madeCells #[Value.slice none 0 0] (a.length+1)).toList.length):=by rw[Hid];simp[size_madeCells]
 have h:Hid (a.length=Nat.min a.length (a.length+1)):=by rw[Hid];exact(dP (by omega)).symm
 have t:=Q5 (JX a (ν));clear y i;go_enter func34,ntmps34;go_wp2_with (refine wpList_copy_splice rfl (.tmp 13) (.tmp 14) 26 26 rfl 24 underlying26 Q0 _ _ _ _ _ _ rfl rfl w.heap.size 0 (madeCells #[ν] (a.length+1)).toList 24 (by rw[Array.toArray_toList];exact Q6.new _ _ _) a h.out (fun k=>⟨rfl,d.out _ (by exact(zo _ _).alloc (zg _) _) k⟩) c.out r.out w.heap.size w (by exact(zo _ _).alloc (zg _) _) (zg _) ?_;intro f g s;rw[t.out] at g;have b:Q6 f w.heap.size (a++[Value.slice none 0 0]).toArray 24:=g.out;obtain⟨I,L,F⟩:=b.boxed;have G:=s.size)
 go_ret;have x:=b.set a.length (Value.slice (some ⟨f.heap.size,0,none⟩) 1 1);have e:(a++[Value.slice none 0 0]).toArray.setIfInBounds a.length (Value.slice (some ⟨f.heap.size,0,none⟩) 1 1)=(a++[Value.slice (some ⟨f.heap.size,0,none⟩) 1 1]).toArray:=by simp
 rw[e] at x;exact⟨f.heap.size,rfl,⟨x.up _,Q6.newAt _ _ _ _ (by simp[World.setCell])⟩,(show μ w _ from(by repeat'(first|with_reducible(first|apply zR|assumption|apply zN|apply zA|apply zD|apply zS)|go_size)))⟩
theorem uF.nil{w:World}{u:Value}{o:Option (List Int)}(h:uF w u o):(u=ν/\∀W:World,(binOp .eql 24 (ν) (ν)).run prog W=.ok (.bool true) W)∨∃g f n c,u=.slice (some ⟨g,f,none⟩) n c/\∀W:World,(binOp .eql 24 (.slice (some ⟨g,f,none⟩) n c) (ν)).run prog W=.ok (.bool false) W:=by
 cases o with
 |none=>
  refine zf ⟨h,fun W=>?_⟩;have:=run_equal_slice_nil W 24 3 none 0 0 underlying24;simp[binOp,this]
 |some l=>
  obtain⟨g,f,a,rfl,_⟩:=h;refine zb ⟨g,f,l.length,a,rfl,fun W=>?_⟩;have:=run_equal_slice_nil W 24 3 (some ⟨g,f,none⟩) l.length a underlying24;simp[binOp,this]
theorem Gl(w:World)(B:Nat)(P:Value)(a:List Value)(os:List (Option (List Int)))(g v:Nat)(A:w.ownsRow B 24 1 P a.length a)(O:Q6 w g (a++[Value.slice (some ⟨v,0,none⟩) 1 1]).toArray 24)(s:Q6 w v #[ι 7] 3)(M:os.length=a.length)(m:∀k (G:k<a.length) (h2:k<os.length),uF w a[k] os[k]/\(os[k].getD []).length<=2000000)(hn:a.length<=2000000):
  Calls prog 36 #[.slice (some ⟨g,0,none⟩) a.length (a.length+1),P,.bool false] w fun e c=>e=ε (.bool true)/\Hid (μ w c):=by
 obtain⟨U,Y,rfl⟩:=zp A;have J:Hid (∀k (G:k<a.length),∃f,U=some ⟨f,0,none⟩/\f<w.heap.size/\w.cell? ⟨f,k,none⟩=some a[k]):=fun k G=>by
  obtain⟨f,I,Q,_,l,h⟩:=yv A (by omega);simp at Q;exact⟨f,Q.1,l,h k _ (yq G)⟩
 have y:=Q5 O;have t:=Q5 s;have D:=Q5 m;have R:=Q5 M;clear A O s m M;go_enter func36,ntmps36;go_wp2;go_loopw [8] (fun v8 wr=>∃k:Nat,k<=a.length/\v8=ι k/\Hid (μ w wr)) (fun i _=>a.length-(intOf i).toNat)
 case atStart=>exact⟨0,zv _,rfl,zo _ _⟩
 case round=>
  obtain⟨k,hk,rfl,b⟩:=hrel;have S:=b.out.size;by_cases d:k<a.length
  ·obtain⟨f,rfl,l,h⟩:=J.out k d;obtain⟨j,K⟩:=D.out k d (by rw[R.out];exact d);have C:=zl b.out l h;have n:wr.cell? ⟨g,k,none⟩=some a[k]:=by rw[(y.out.below b.out).rules.1];simp[List.getElem?_append_left d]
   have L:f<wr.heap.size:=by omega
   have q:=(y.out.below b.out).lt;have E:=j.nil;have N:=Q5 fun W (p:μ wr W)=>A6 W _ _ _ ((j.below b.out).below p) ((j.below b.out).below p) (by omega);clear h j K;generalize a[k]=u at *;generalize (os[k]'(by rw[R.out];exact d))=o at *;have F:Hid (∀W,μ wr W->Calls prog 18 #[u,u] W fun e c=>e=ε (.bool true)/\Hid (μ w c)/\c.cell? ⟨g,k,none⟩=some u/\c.cell? ⟨f,k,none⟩=some u/\g<c.heap.size/\f<c.heap.size):=fun W p=>by
    refine(N.out W p).mono ?_;rintro e c ⟨T,X⟩;have x:=Q9 p X;have:=x.size;exact⟨T,Q9 b.out x,zl x q n,zl x L C,by omega,by omega⟩
   clear N;go_wp2;go_region_held3 (fun c=>c.cell? ⟨g,k,none⟩=some u/\c.cell? ⟨f,k,none⟩=some u) (go_keep) (go_at_call 18;refine(F.out _ (by exact(by repeat'(first|with_reducible(first|apply zR|assumption|apply zN|apply zA|apply zD|apply zS)|go_size)))).mono ?_;rintro e w5 ⟨rfl,H,z1,z2,z3,z4⟩)
   all_goals
    rcases E with⟨rfl,r⟩|⟨g3,f3,n3,c3,rfl,r⟩
    all_goals
     go_wp2;go_quiet (fail)
     go_wp2;go_roundw
     case rel=>exact⟨k+1,by omega,by go_num,zJ H.out _⟩
     case measure=>simp[intOf];omega
  ·have n:wr.cell? ⟨g,a.length,none⟩=some (.slice (some ⟨v,0,none⟩) 1 1):=by rw[(y.out.below b.out).rules.1];simp
   have Z:wr.cell? ⟨v,0,none⟩=some (ι 7):=by rw[(t.out.below b.out).rules.1];rfl
   have q:=(y.out.below b.out).lt;have V:=(t.out.below b.out).lt;go_wp2;go_ret;exact⟨rfl,b⟩
section
variable {w:World} {v:Value} {nb:Bool} {pb mr mx:Nat} (hmr:mr<=1048576) (hmx:mx<=1048576)
include hmr hmx
theorem PQ(c:Hid (Calls prog 75 #[(π pb),v,.bool nb] w fun e b=>e=ε (.bool false)/\μ w b)):Calls prog 37 #[(π pb),v,.bool nb,ι mr,ι mx] w fun e b=>e=ε (.tuple #[.pointer none,ι 9])/\Hid (μ w b):=by
 have f:¬(mr:Int)<0:=by omega
 have h:¬(1048576:Int)<(mr:Int):=by omega
 have g:¬(mx:Int)<0:=by omega
 have i:¬(1048576:Int)<(mx:Int):=by omega
 go_enter func37,ntmps37;go_wp2_with (go_at_call 75;refine c.out.mono ?_;rintro e d ⟨rfl,a⟩)
 go_ret2
 exact⟨rfl,a⟩
theorem KB(l:Hid (Calls prog 75 #[(π pb),v,.bool nb] w fun e b=>e=ε (.bool true)/\μ w b))(c:Option (List zE×Nat))(h:Hid (∀W,μ w W->Calls prog 76 #[(π pb),ι mr,ι mx] W fun e b=>pC z W c e b)):Calls prog 37 #[(π pb),v,.bool nb,ι mr,ι mx] w fun e b=>Od z w c e b:=by
 have t:¬(mr:Int)<0:=by omega
 have r:¬(1048576:Int)<(mr:Int):=by omega
 have u:¬(mx:Int)<0:=by omega
 have s:¬(1048576:Int)<(mx:Int):=by omega
 cases c with
 |none=>
  have f:Hid (∀W,μ w W->Calls prog 76 #[(π pb),ι mr,ι mx] W fun e b=>e=ε (.pointer none)/\Hid (μ W b)):=h;clear h;go_enter func37,ntmps37;go_wp2_with (first|(go_at_call 75;refine l.out.mono ?_;rintro e q ⟨rfl,a⟩)|(go_at_call 76;refine(f.out _ a).mono ?_;rintro e p ⟨rfl,d⟩))
  go_ret2
  exact⟨rfl,Q9 a d.out⟩
 |some x=>
  obtain⟨L,k⟩:=x;have f:Hid (∀W,μ w W->Calls prog 76 #[(π pb),ι mr,ι mx] W fun e b=>∃g,e=ε ((π g))/\Hid (∃i,W.heap.size<=g/\Q6 b g #[i,ι k] 54/\yX z W.heap.size b i L)/\Hid (μ W b)):=h;clear h;go_enter func37,ntmps37;go_wp2_with (first|(go_at_call 75;refine l.out.mono ?_;rintro e q ⟨rfl,a⟩)|(go_at_call 76;refine(f.out _ a).mono ?_;rintro e p ⟨g,rfl,j,d⟩))
  go_ret2
  obtain⟨i,m,o,n⟩:=j.out;exact⟨g,rfl,⟨i,yc a.size m,o,n.low a.size⟩,Q9 a d.out⟩
end
end
def ML(w:World)(M:List Nat):Prop:=∀b∈M,∃c T,Q6 w b c T/\T≠156/\T≠54
abbrev lq:=Nat×Nat×Nat
def fB(w:World)(r:lq):Prop:=∃(f e d:Value) (c:Option Addr) (b a k:Nat) (m:Int),Q6 w r.1 #[f,e,d,ι a,ι k,ι m] 156/\Q6 w r.2.1 #[.slice c a b,ι k] 54/\0<=m
theorem fB.save{w w':World}{r:lq}(h:fB w r){M:List Nat}(hs:ze M w w')(i:ML w M):fB w' r:=by
 obtain⟨q,p,o,n,d,a,k,m,g,j,l⟩:=h;refine⟨q,p,o,n,d,a,k,m,g.save hs fun b=>?_,j.save hs fun b=>?_,l⟩
 ·obtain⟨c,T,f,e,_⟩:=i _ b;exact e (f.type g)
 ·obtain⟨c,T,f,_,e⟩:=i _ b;exact e (f.type j)
theorem fB.below{w w':World}{r:lq}(h:fB w r)(a:μ w w'):fB w' r:=h.save (ze.of (M:=[]) a) (fun b a=>by cases a)
def kK(rs:List lq):List Value:=rs.flatMap fun r=>[.pointer (some ⟨r.1,0,none⟩),.pointer (some ⟨r.2.1,0,none⟩),.pointer (some ⟨r.2.2,0,none⟩)]
def MM(wb:Nat)(b c a:Value):List Nat:=wb::(b.ownBlock.toList++c.ownBlock.toList++a.ownBlock.toList)
structure SG (B:Nat) (w:World) (wb:Nat) (ps:List fG) (rs:List lq) (row:κ) (psv rsv rowv:Value):Prop where
 low:B<=wb
 box:Q6 w wb #[psv,rsv,ν,ν,ι 0,ι 0,ι 0,ν,.bool true,rowv,ν,ν,ν,ν] 35
 ops:w.ownsRow B 40 2 psv ps.length (kG ps)
 ors:w.ownsRow B 50 3 rsv rs.length (kK rs)
 reg:QD B w rowv row
 pairs:∀p∈ps,lu B w (MM wb psv rsv rowv) p/\∃x,xQ x=.ok (p.2.2.1,p.2.2.2)
 ress:∀r∈rs,fB w r
theorem SG.below{B:Nat}{w w':World}{wb:Nat}{ps:List fG}{rs:List lq}{row:κ}{d e c:Value}(h:SG B w wb ps rs row d e c)(a:μ w w'):SG B w' wb ps rs row d e c:=
 ⟨h.low,h.box.below a,zB h.ops a,zB h.ors a,h.reg.below a,fun p f=>⟨(h.pairs p f).1.save (ze.of (M:=[]) a) (by simp) (fun b a=>zf a),(h.pairs p f).2⟩,fun r g=>(h.ress r g).below a⟩
section
variable {c:Array Value}{v:Value}{xs:List Value}
abbrev fQ:=Nat×Nat×List Int
abbrev pI:=Option (Nat×Nat×Nat×Nat)
def jK:pI->Value
 |none=>ν
 |some (g,f,n,a)=>.slice (some ⟨g,f,none⟩) n (n+a)
def mw(a:List fQ):pI->Prop
 |none=>True
 |some (g,f,n,b)=>∃x∈a,x.1=g/\f+n+b<=x.2.2.length
def xv(a:List fQ):List Value:=a.map fun x=>sl x.1 x.2.2.length
def uz(a:List fQ):List Value:=a.map fun x=>sl x.2.1 x.2.2.length
def xX(l:List Int):Array Value:=(l.map (Value.int .i64)).toArray
structure OM where
 ps:List fG
 rs:List lq
 row:κ
 ins:List fQ
 ord:List pI
 a:Int
 n:Int
 ex:Int
 none:Bool
structure OV where
 psv:Value
 rsv:Value
 rowv:Value
 inv:Value
 iwv:Value
 orv:Value
def yL(wb:Nat)(V:OV)(a:List fQ):List Nat:=wb::(V.psv.ownBlock.toList++(V.rsv.ownBlock.toList++(V.rowv.ownBlock.toList++(V.inv.ownBlock.toList++(V.iwv.ownBlock.toList++(V.orv.ownBlock.toList++(a.map (·.1)++a.map (·.2.1))))))))
def RD(x:Int):Prop:=-9223372036854775808<=x/\x<=9223372036854775807
def kY(M:OM)(V:OV):Array Value:=#[V.psv,V.rsv,V.inv,V.iwv,ι M.a,ι M.n,ι M.ex,V.orv,.bool M.none,V.rowv,ν,ν,ν,ν]
structure su (B:Nat) (w:World) (x:fQ):Prop where
 low:B<=x.1/\B<=x.2.1
 one:Q6 w x.1 (xX x.2.2) 3
 two:Q6 w x.2.1 (xX x.2.2) 3
 len:x.2.2.length<=1048576
structure QX (B:Nat) (w:World) (wb:Nat) (M:OM) (V:OV):Prop where
 low:B<=wb
 box:Q6 w wb (kY M V) 35
 ops:w.ownsRow B 40 2 V.psv M.ps.length (kG M.ps)
 ors:w.ownsRow B 50 3 V.rsv M.rs.length (kK M.rs)
 reg:QD B w V.rowv M.row
 oin:w.ownsRow B 24 1 V.inv M.ins.length (xv M.ins)
 oiw:w.ownsRow B 24 1 V.iwv M.ins.length (uz M.ins)
 oor:w.ownsRow B 24 1 V.orv M.ord.length (M.ord.map jK)
 ints:∀x∈M.ins,su B w x
 dis3:(V.inv.ownBlock.toList++(V.iwv.ownBlock.toList++V.orv.ownBlock.toList)).Nodup
 disI:(M.ins.map (·.1)++M.ins.map (·.2.1)).Nodup
 win:∀o∈M.ord,mw M.ins o
 num:RD M.a/\RD M.n/\RD M.ex
 pairs:∀p∈M.ps,lu B w (yL wb V M.ins) p/\∃x,xQ x=.ok (p.2.2.1,p.2.2.2)
 ress:∀r∈M.rs,fB w r
def NT(w:World)(T:TypeId)(N:List Nat):Prop:=∀b∈N,∃c a,Q6 w b c a/\a≠T
theorem NT.nil{w:World}{T:TypeId}:NT w T []:=fun b a=>by cases a
theorem NT.cons{w:World}{T a:TypeId}{N:List Nat}{b:Nat}(e:Q6 w b c a)(f:a≠T)(h:NT w T N):NT w T (b::N):=fun x d=>by
 rcases zx.1 d with rfl|d
 ·exact⟨c,a,e,f⟩
 ·exact h x d
theorem NT.own{w:World}{T e:TypeId}{a d n:Nat}(h:w.ownsRow a e d v n xs)(i:e≠T):NT w T v.ownBlock.toList:=fun b g=>by
 obtain⟨c,f⟩:=uW h (yt g);exact⟨c,e,f,i⟩
theorem NT.app{w:World}{T:TypeId}{N d:List Nat}(h:NT w T N)(e:NT w T d):NT w T (N++d):=fun b a=>by
 rcases zI.1 a with a|a
 ·exact h b a
 ·exact e b a
theorem NT.not{w:World}{T:TypeId}{N:List Nat}(h:NT w T N){b:Nat}(a:Q6 w b c T):b∉N:=fun d=>by
 obtain⟨g,i,f,e⟩:=h b d;exact e (f.type a)
theorem yJ{w w':World}{N:List Nat}{a:Nat}{e:TypeId}{d n:Nat}(h:w.ownsRow a e d v n xs)(hs:ze N w w')(i:NT w e N):w'.ownsRow a e d v n xs:=yT h hs fun b g=>by
 obtain⟨c,f⟩:=uW h g;exact i.not f
section
variable {B:Nat} {w w':World} {wb:Nat} {M M':OM} {V V':OV} {N:List Nat}
theorem QX.size(h:QX B w wb M V):B<=w.heap.size:=yc h.low (Nat.le_of_lt h.box.lt)
theorem QX.muts(h:QX B w wb M V):∀b∈yL wb V M.ins,B<=b/\∃c T,Q6 w b c T/\T≠156/\T≠54:=by
 intro b a;unfold yL at a;simp only[zx,zI,zy] at a;rcases a with rfl|a|a|a|a|a|a|⟨x,e,rfl⟩|⟨x,e,rfl⟩
 ·exact⟨h.low,_,_,h.box,by decide,by decide⟩
 ·obtain⟨c,d⟩:=uW h.ops (yt a);exact⟨yW h.ops (yt a),c,_,d,by decide,by decide⟩
 ·obtain⟨c,d⟩:=uW h.ors (yt a);exact⟨yW h.ors (yt a),c,_,d,by decide,by decide⟩
 ·obtain⟨c,d⟩:=uW h.reg (yt a);exact⟨yW h.reg (yt a),c,_,d,by decide,by decide⟩
 ·obtain⟨c,d⟩:=uW h.oin (yt a);exact⟨yW h.oin (yt a),c,_,d,by decide,by decide⟩
 ·obtain⟨c,d⟩:=uW h.oiw (yt a);exact⟨yW h.oiw (yt a),c,_,d,by decide,by decide⟩
 ·obtain⟨c,d⟩:=uW h.oor (yt a);exact⟨yW h.oor (yt a),c,_,d,by decide,by decide⟩
 ·exact⟨(h.ints x e).low.1,_,_,(h.ints x e).one,by decide,by decide⟩
 ·exact⟨(h.ints x e).low.2,_,_,(h.ints x e).two,by decide,by decide⟩
theorem QX.down(h:QX B w wb M V)(a:ze N w w')(e:∀b∈N,b∈yL wb V M.ins):Below B w w':=a.below (fun b d=>(h.muts b (e b d)).1) h.size
theorem QX.rest(h:QX B w wb M V)(d:ze N w w')(e:∀b∈N,b∈yL wb V M.ins)(g:∀b∈yL wb V' M'.ins,b∈yL wb V M.ins∨w.heap.size<=b):(∀p∈M.ps,lu B w' (yL wb V' M'.ins) p/\∃x,xQ x=.ok (p.2.2.1,p.2.2.2))/\∀r∈M.rs,fB w' r:=
 ⟨fun p a=>⟨(h.pairs p a).1.save d e g,(h.pairs p a).2⟩,fun r i=>(h.ress r i).save d fun b f=>(h.muts b (e b f)).2⟩
theorem su.save{x:fQ}(h:su B w x)(a:ze N w w')(b:NT w 3 N):su B w' x:=⟨h.low,h.one.save a (b.not h.one),h.two.save a (b.not h.two),h.len⟩
theorem QX.below(h:QX B w wb M V)(d:μ w w'):QX B w' wb M V:=
 have a:ze [] w w':=ze.of d;have e:=h.rest (M':=M) (V':=V) a (by simp) (fun b q=>zf q)
 ⟨h.low,h.box.below d,yJ h.ops a NT.nil,yJ h.ors a NT.nil,yJ h.reg a NT.nil,yJ h.oin a NT.nil,yJ h.oiw a NT.nil,yJ h.oor a NT.nil,fun x f=>(h.ints x f).save a NT.nil,h.dis3,h.disI,h.win,h.num,e.1,e.2⟩
theorem lB{v':Value}{k b:Nat}(d:v'.ownBlock=v.ownBlock∨v'.ownBlock=none∨∃g,v'.ownBlock=some g/\k<=g)(a:b∈v'.ownBlock.toList):b∈v.ownBlock.toList∨k<=b:=by
 rcases d with e|e|⟨g,e,q⟩
 ·rw[e] at a;exact zf a
 ·rw[e] at a;simp at a
 ·rw[e] at a;simp at a;exact zb (by omega)
end
end
section
variable {v':Value}
section
variable {B:Nat} {w w2 w':World} {wb:Nat} {M:OM} {V:OV}
theorem py{v:Value}(b:ze v.ownBlock.toList w w2)(o:Nat)(u:Value):ze (wb::v.ownBlock.toList) w (w2.setCell ⟨wb,o,none⟩ u):=(b.more (fun x a=>by simp[a])).trans ((ze.set w2 wb o u).more (fun x a=>by simp at a;simp[a]))
theorem QX.addP(h:QX B w wb M V){p:fG}(k:lu B w (yL wb V M.ins) p/\∃x,xQ x=.ok (p.2.2.1,p.2.2.2))(r:w2.ownsRow B 40 2 v' (M.ps.length+1) (kG M.ps++[.pointer (some ⟨p.1,0,none⟩),.pointer (some ⟨p.2.1,0,none⟩)]))(m:ze V.psv.ownBlock.toList w w2)(i:v'.ownBlock=V.psv.ownBlock∨∃g,v'.ownBlock=some g/\w.heap.size<=g):QX B (w2.setCell ⟨wb,0,none⟩ v') wb {M with ps:=M.ps++[p]} {V with psv:=v'}/\Below B w (w2.setCell ⟨wb,0,none⟩ v'):=by
 have d:=h.box.save m ((NT.own h.ops (by decide)).not h.box);have a:=py (wb:=wb) m 0 v';have f:∀b∈wb::V.psv.ownBlock.toList,b∈yL wb V M.ins:=fun b c=>by
  simp only[yL,zx,zI] at c ⊢;rcases c with c|c<;>simp[c]
 have l:∀b∈yL wb {V with psv:=v'} M.ins,b∈yL wb V M.ins∨w.heap.size<=b:=fun b c=>by
  simp only[yL,zx,zI] at c ⊢;rcases c with c|c|c
  ·exact zf (zf c)
  ·rcases lB (i.imp_right zb) c with q|q
   ·exact zf (zb (zf q))
   ·exact zb q
  ·exact zf (zb (zb c))
 have n:=h.rest (M':={M with ps:=M.ps++[p]}) a f l;refine⟨⟨h.low,by simpa [kY] using d.set 0 v',?_,yJ h.ors a (NT.cons h.box (by decide) (NT.own h.ops (by decide))),yJ h.reg a (NT.cons h.box (by decide) (NT.own h.ops (by decide))),yJ h.oin a (NT.cons h.box (by decide) (NT.own h.ops (by decide))),yJ h.oiw a (NT.cons h.box (by decide) (NT.own h.ops (by decide))),yJ h.oor a (NT.cons h.box (by decide) (NT.own h.ops (by decide))),fun x s=>(h.ints x s).save a (NT.cons h.box (by decide) (NT.own h.ops (by decide))),h.dis3,h.disI,h.win,h.num,fun q o=>?_,n.2⟩,h.down a f⟩
 ·have e:kG (M.ps++[p])=kG M.ps++[.pointer (some ⟨p.1,0,none⟩),.pointer (some ⟨p.2.1,0,none⟩)]:=by simp[kG]
  show World.ownsRow _ _ _ _ v' (M.ps++[p]).length (kG (M.ps++[p]));rw[e,yp];exact yJ r (ze.set w2 wb 0 v') (NT.cons d (by decide) NT.nil)
 ·rcases zI.1 o with j|j
  ·exact n.1 q j
  ·rw[xF.1 j];exact⟨k.1.save a f l,k.2⟩
theorem QX.addR(h:QX B w wb M V){r:lq}(f:fB w r)(n:w2.ownsRow B 50 3 v' (M.rs.length+1) (kK M.rs++[.pointer (some ⟨r.1,0,none⟩),.pointer (some ⟨r.2.1,0,none⟩),.pointer (some ⟨r.2.2,0,none⟩)]))(l:ze V.rsv.ownBlock.toList w w2)(j:v'.ownBlock=V.rsv.ownBlock∨∃g,v'.ownBlock=some g/\w.heap.size<=g):QX B (w2.setCell ⟨wb,1,none⟩ v') wb {M with rs:=M.rs++[r]} {V with rsv:=v'}/\Below B w (w2.setCell ⟨wb,1,none⟩ v')/\ze (wb::V.rsv.ownBlock.toList) w (w2.setCell ⟨wb,1,none⟩ v'):=by
 have d:=h.box.save l ((NT.own h.ors (by decide)).not h.box);have a:=py (wb:=wb) l 1 v';have i:∀b∈wb::V.rsv.ownBlock.toList,b∈yL wb V M.ins:=fun b c=>by
  simp only[yL,zx,zI] at c ⊢;rcases c with c|c<;>simp[c]
 have p:∀b∈yL wb {V with rsv:=v'} M.ins,b∈yL wb V M.ins∨w.heap.size<=b:=fun b c=>by
  simp only[yL,zx,zI] at c ⊢;rcases c with c|c|c|c
  ·exact zf (zf c)
  ·exact zf (zb (zf c))
  ·rcases lB (j.imp_right zb) c with q|q
   ·exact zf (zb (zb (zf q)))
   ·exact zb q
  ·exact zf (zb (zb (zb c)))
 have m:=h.rest (M':={M with rs:=M.rs++[r]}) a i p;refine⟨⟨h.low,by simpa [kY] using d.set 1 v',yJ h.ops a (NT.cons h.box (by decide) (NT.own h.ors (by decide))),?_,yJ h.reg a (NT.cons h.box (by decide) (NT.own h.ors (by decide))),yJ h.oin a (NT.cons h.box (by decide) (NT.own h.ors (by decide))),yJ h.oiw a (NT.cons h.box (by decide) (NT.own h.ors (by decide))),yJ h.oor a (NT.cons h.box (by decide) (NT.own h.ors (by decide))),fun x s=>(h.ints x s).save a (NT.cons h.box (by decide) (NT.own h.ors (by decide))),h.dis3,h.disI,h.win,h.num,m.1,fun q o=>?_⟩,h.down a i,a⟩
 ·have e:kK (M.rs++[r])=kK M.rs++[.pointer (some ⟨r.1,0,none⟩),.pointer (some ⟨r.2.1,0,none⟩),.pointer (some ⟨r.2.2,0,none⟩)]:=by simp[kK]
  show World.ownsRow _ _ _ _ v' (M.rs++[r]).length (kK (M.rs++[r]));rw[e,yp];exact yJ n (ze.set w2 wb 1 v') (NT.cons d (by decide) NT.nil)
 ·rcases zI.1 o with k|k
  ·exact m.2 q k
  ·rw[xF.1 k];exact f.save a fun b c=>(h.muts b (i b c)).2
theorem QX.turn(h:QX B w wb M V){row':κ}(k:QD B w2 v' row')(f:ze V.rowv.ownBlock.toList w w2)(e:v'.ownBlock=V.rowv.ownBlock∨v'.ownBlock=none∨∃g,v'.ownBlock=some g/\w.heap.size<=g):QX B (w2.setCell ⟨wb,9,none⟩ v') wb {M with row:=row'} {V with rowv:=v'}/\Below B w (w2.setCell ⟨wb,9,none⟩ v'):=by
 have d:=h.box.save f ((NT.own h.reg (by decide)).not h.box);have c:=py (wb:=wb) f 9 v';have i:∀b∈wb::V.rowv.ownBlock.toList,b∈yL wb V M.ins:=fun b a=>by
  simp only[yL,zx,zI] at a ⊢;rcases a with a|a<;>simp[a]
 have l:∀b∈yL wb {V with rowv:=v'} M.ins,b∈yL wb V M.ins∨w.heap.size<=b:=fun b a=>by
  simp only[yL,zx,zI] at a ⊢;rcases a with a|a|a|a|a
  ·exact zf (zf a)
  ·exact zf (zb (zf a))
  ·exact zf (zb (zb (zf a)))
  ·rcases lB e a with q|q
   ·exact zf (zb (zb (zb (zf q))))
   ·exact zb q
  ·exact zf (zb (zb (zb (zb a))))
 have j:=h.rest (M':={M with row:=row'}) c i l;exact⟨⟨h.low,by simpa [kY] using d.set 9 v',yJ h.ops c (NT.cons h.box (by decide) (NT.own h.reg (by decide))),yJ h.ors c (NT.cons h.box (by decide) (NT.own h.reg (by decide))),yJ k (ze.set w2 wb 9 v') (NT.cons d (by decide) NT.nil),yJ h.oin c (NT.cons h.box (by decide) (NT.own h.reg (by decide))),yJ h.oiw c (NT.cons h.box (by decide) (NT.own h.reg (by decide))),yJ h.oor c (NT.cons h.box (by decide) (NT.own h.reg (by decide))),fun x m=>(h.ints x m).save c (NT.cons h.box (by decide) (NT.own h.reg (by decide))),h.dis3,h.disI,h.win,h.num,j.1,j.2⟩,h.down c i⟩
theorem QX.regs(h:QX B w wb M V){a n ex:Int}{nb:Bool}(i:RD a/\RD n/\RD ex)(c:ze [wb] w w')(e:Q6 w' wb (kY {M with a:=a,n:=n,ex:=ex,none:=nb} V) 35):QX B w' wb {M with a:=a,n:=n,ex:=ex,none:=nb} V/\Below B w w':=by
 have f:∀b∈[wb],b∈yL wb V M.ins:=fun b e=>by simp only[xF] at e;simp[yL,e]
 have g:=h.rest (M':={M with a:=a,n:=n,ex:=ex,none:=nb}) (V':=V) c f (fun b q=>zf q);have d:∀{T:TypeId},35≠T->NT w T [wb]:=fun q=>NT.cons h.box q NT.nil;exact⟨⟨h.low,e,yJ h.ops c (d (by decide)),yJ h.ors c (d (by decide)),yJ h.reg c (d (by decide)),yJ h.oin c (d (by decide)),yJ h.oiw c (d (by decide)),yJ h.oor c (d (by decide)),fun x j=>(h.ints x j).save c (d (by decide)),h.dis3,h.disI,h.win,i,g.1,g.2⟩,h.down c f⟩
theorem QX.reord(h:QX B w wb M V){ord':List pI}{nb:Bool}(d:ze (wb::V.orv.ownBlock.toList) w w')(p:Q6 w' wb (kY {M with ord:=ord',none:=nb} {V with orv:=v'}) 35)(u:w'.ownsRow B 24 1 v' ord'.length (ord'.map jK))(k:v'.ownBlock=V.orv.ownBlock∨v'.ownBlock=none∨∃g,v'.ownBlock=some g/\w.heap.size<=g)(A:∀o∈ord',mw M.ins o):QX B w' wb {M with ord:=ord',none:=nb} {V with orv:=v'}/\Below B w w':=by
 have t:∀b∈wb::V.orv.ownBlock.toList,b∈yL wb V M.ins:=fun b a=>by
  simp only[yL,zx,zI] at a ⊢;rcases a with a|a<;>simp[a]
 have j:∀b∈yL wb {V with orv:=v'} M.ins,b∈yL wb V M.ins∨w.heap.size<=b:=fun b a=>by
  simp only[yL,zx,zI] at a ⊢;rcases a with a|a|a|a|a|a|a|a
  ·exact zf (zf a)
  ·exact zf (zb (zf a))
  ·exact zf (zb (zb (zf a)))
  ·exact zf (zb (zb (zb (zf a))))
  ·exact zf (zb (zb (zb (zb (zf a)))))
  ·exact zf (zb (zb (zb (zb (zb (zf a))))))
  ·rcases lB k a with q|q
   ·exact zf (zb (zb (zb (zb (zb (zb (zf q)))))))
   ·exact zb q
  ·exact zf (zb (zb (zb (zb (zb (zb (zb a)))))))
 have s:=h.rest (M':={M with ord:=ord',none:=nb}) d t j;have n:∀{T:TypeId},35≠T->24≠T->NT w T (wb::V.orv.ownBlock.toList):=fun q v=>NT.cons h.box q (NT.own h.oor v);have C:=h.dis3;have m:=qq.1 C;have r:=qq.1 m.2.1;have i:∀b,b∈V.inv.ownBlock.toList∨b∈V.iwv.ownBlock.toList->b∉wb::V.orv.ownBlock.toList:=fun b a j=>by
  rcases zx.1 j with rfl|j
  ·rcases a with a|a
   ·exact uy h.oin h.box (by decide) (yt a) rfl
   ·exact uy h.oiw h.box (by decide) (yt a) rfl
  ·rcases a with a|a
   ·exact m.2.2 b a b (zI.2 (zb j)) rfl
   ·exact r.2.2 b a b j rfl
 have y:v'.ownBlock.toList.Nodup:=by cases v'.ownBlock<;>simp
 have l:∀b,b∈V.inv.ownBlock.toList∨b∈V.iwv.ownBlock.toList->∀c∈v'.ownBlock.toList,b≠c:=fun b a c f e=>by
  subst e;rcases lB k f with q|q
  ·exact i b a (zx.2 (zb q))
  ·rcases a with a|a
   ·have:=xK h.oin (yt a);omega
   ·have:=xK h.oiw (yt a);omega
 refine⟨⟨h.low,p,yJ h.ops d (n (by decide) (by decide)),yJ h.ors d (n (by decide) (by decide)),yJ h.reg d (n (by decide) (by decide)),yT h.oin d (fun b a=>i b (zf (by simp[a]))),yT h.oiw d (fun b a=>i b (zb (by simp[a]))),u,fun x z=>(h.ints x z).save d (n (by decide) (by decide)),?_,h.disI,A,h.num,s.1,s.2⟩,h.down d t⟩;refine qq.2 ⟨m.1,qq.2 ⟨r.1,y,fun b a c f=>l b (zb a) c f⟩,fun b a c f=>?_⟩;rcases zI.1 f with f|f
 ·exact m.2.2 b a c (zI.2 (zf f))
 ·exact l b (zf a) c f
end
end
section
open Go.Proofs.Tryz
theorem Qt:(prog.info? 50).map (fun i=>(i.zero,i.size,i.bytes))=some (some (.agg #[.pointer none,.pointer none,.pointer none]),3,24):=by kernel_rfl
structure SD (cs:List zd) (t0 t:List zh):Prop where
 parts:QL cs t0 t
 ctx:uh cs t
 len:cs.length<=1000
 names:t.length<=1000
 low:∀c∈cs,xt t c.head.pred<=1000
 body:∀c∈cs,c.body.length<=30
 args:∀c∈cs,∀l∈zk c,l.args.length<=3/\∀a∈l.args,0<a.size
 few:∀L D,Rv t (zq cs) L D->L.length<1000000000000/\∀c∈cs,(ye L c.head c.body c.body []).length<=1000000000000
theorem Pn{x:ByteArray}{cs:List zd}{t:List zh}(h:xQ x=.ok (cs,t)):∃i,SD cs i t:=by
 obtain⟨i,b⟩:=DY h;have k:=OT h;have j:=uh.of k b;obtain⟨_,e,_⟩:=b.low;have o:=b.few;have m:t.length<=1000:=by omega
 have g:∀c∈cs,ip c:=fun c q=>(k c q).fine (b.many c q);refine⟨i,b,j,b.runok.1.len,m,fun c d=>?_,fun c d=>?_,fun c d l e=>⟨(j.lit c d l e).2.2.2,fun a n=>(((g c d).1 l e).2.2.2 a n).1⟩,Kr b j m (IC h)⟩
 ·rw[th];have:=iV b.least (ps:=Q8 t) (fun c d l e=>C1 b d e) (C1 b d (l:=c.head) (by simp[zk]));simp only[Q8,uu] at this;omega
 ·have f:=b.many c d;unfold yE at f;simp only[nX,decide_eq_false_iff_not] at f;have:=f.1.1.1;omega
end
end Go.Proofs.YteampbddflhngaaGreat
