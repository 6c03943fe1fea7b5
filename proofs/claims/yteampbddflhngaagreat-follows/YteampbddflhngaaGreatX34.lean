import Derived.Test.YteampbddflhngaaGreatX33
namespace Go.Proofs.YteampbddflhngaaGreat
set_option linter.all false
set_option maxRecDepth 100000
set_option maxHeartbeats 8000000
open Go.Proofs.Tryz Go.RowKit
section
variable {z:Nat}{o1 o2:Option Addr}{wo:Option yx}
section
variable {ops:Array Oper} {rest:List Oper} {o:Oper} {a:Act} {Q:Exit->Act->World->Prop}
theorem uP.saveT{lo:Nat}{w f:World}{v:Value}{c:List (List ByteArray)}{M:List Nat}{T:TypeId}(h:uP z lo w v c)(hs:zd M w f)(e:PN w T M)(l:30≠T)(g:9≠T):uP z lo f v c:=by
 obtain⟨d,m,j,k⟩:=h;exact⟨d,m,yB j hs e l,fun i a b=>(k i a b).saveT hs e g⟩
theorem My{lo C:Nat}{w:World}(f:o.guard=none)(s x:Operand)
  (R:o.op=.call {callee:=.builtin .append,args:=#[s,x],argTypes:=#[31,31]})
  (q i:List (List ByteArray)) (p M:Value) (T:a.eval s=p) (L:a.eval x=M) (h1:uP z lo w p q) (h2:uP z C w M i) (hl:q.length+i.length<=1000000000000) (F:lo<=w.heap.size)
  (h:∀I y,uP z lo y I (q++i)->zd p.ownBlock.toList w y->wpList prog ops Q rest (a.put o.dst I) y):
  wpList prog ops Q (o::rest) a w:=by
 obtain⟨S,N,v,D,J⟩:=info_parts Pd;obtain⟨n,H,m,K⟩:=h1;obtain⟨b,b1,Z,P⟩:=h2;have l:∀u∈b,u.oneCell'=true:=by
  intro u X;obtain⟨j,d,rfl⟩:=gE.1 X;obtain⟨ao,ad,e⟩:=(P j (by omega) d).1.qx;rw[e];simp[Value.oneCell']
 obtain⟨_,⟨t,hn⟩|⟨O,g,U,t,ac,V,ab,aa,Y,G⟩⟩:=id Z
 ·have E:i=[]:=rf hn;refine wpList_append_own_none f s x 31 R lo 30 S 1 underlying31 N _ _ _ T m (by rw[L,t]) ?_;refine h _ _ ?_ (zd.refl _ _);rw[E,qE];exact⟨n,H,m,K⟩
 ·have A:∀j u,b[j]?=some u->w.cell? (Addr.add ⟨O,0,none⟩ j)=some u:=fun j u d=>by
   rw[Addr.add_lit,vF];unfold World.cell?;rw[V];simp only;rw[←G,l9] at d;split at d
   ·simpa using d
   ·simp at d
  refine wpList_append_own _ f s x 31 R lo 30 S _ 1 24 underlying31 N v D J rfl (by decide) _ _ _ T m ⟨O,0,none⟩ i.length g b (by rw[L,t]) (by omega) A l (by unfold maxLen;omega) (by omega) F ?_;intro I w2 r c _;have B:zd p.ownBlock.toList w w2:=⟨c.os,c.tape,c.output,c.size,fun k hk W=>c.block k hk fun e=>W (by rw[←e];simp)⟩;refine h _ _ ⟨n++b,by simp[H,b1],by rw[yv];exact r,fun j q1 q2=>?_⟩ B;by_cases d:j<q.length
  ·rw[uQ (by omega),uQ d];exact(K j d (by omega)).saveT B (PN.own m) (by decide)
  ·rw[mw (by omega),mw (by omega)];simp only[H];simp only[yv] at q1 q2;exact(P _ (by omega) (by omega)).saveT B (PN.own m) (by decide)
end
def dJ(fs:List zE)(h:zj)(body rest:List zj)(l:zj)(B:yx)(f:zE):List (List ByteArray):=if f.1=l.pred then(match xj B l.args f.2.1 with|none=>[]|some b=>ye fs h body rest b) else []
theorem Nz{fs:List zE}{h:zj}{body rest:List zj}{l:zj}{B:yx}(b:l.neg=false):ye fs h body (l::rest) B=fs.flatMap (dJ fs h body rest l B):=by
 unfold ye;rw[za (by simp[b])];rfl
theorem NE{α β:Type}(f:α->List β)(l:List α){i:Nat}(b:i<l.length):(l.take (i+1)).flatMap f=(l.take i).flatMap f++f l[i]:=by
 rw[yP b,List.flatMap_append];simp
theorem Hy{α β:Type}(f:α->List β)(l:List α)(i:Nat):((l.take i).flatMap f).length<=(l.flatMap f).length:=by
 conv=>rhs;rw[←qU i l]
 rw[List.flatMap_append,yv];omega
def QM(c w:World)(m:Nat)(wo:Option yx)(s:Value):Prop:=∃(g f d:Nat) (o1:Option Addr) (e h:Nat) (o2:Option Addr),s=.pointer (some ⟨g,0,none⟩)/\Hid (∀b,wo=some b->P7 0 w (.slice o1 f d) (xh b)/\P7 0 w (.slice o2 e h) (xH b)/\b.length<=m)/\Hid (Py w g #[.slice o1 f d,.slice o2 e h] 270)/\Hid (Below c.heap.size c w)
theorem QM.one{j b:World}{m g d f i:Nat}(l:Below j.heap.size j b)(h:∀c,wo=some c->P7 0 b (.slice o1 g d) (xh c)/\P7 0 b (.slice o2 f i) (xH c)/\c.length<=m):QM j (b.alloc (.cells #[.slice o1 g d,.slice o2 f i] 270)) m wo (.pointer (some ⟨b.heap.size,0,none⟩)):=by
 have k:Below b.heap.size b (b.alloc (.cells #[.slice o1 g d,.slice o2 f i] 270)):=(zo _ _).alloc (zf _) _;exact⟨_,g,d,o1,f,i,o2,rfl,fun c e=>⟨(h c e).1.below k,(h c e).2.1.below k,(h c e).2.2⟩,Py.new b _ _,P3 l k⟩
theorem QM.two{n d:World}{m j g i k b:Nat}{u w:Value}(f:n.heap.size<=b)(x:Below n.heap.size n d)(p:Py d b #[u,w] 270)(h:∀c,wo=some c->P7 0 d (.slice o1 j g) (xh c)/\P7 0 d (.slice o2 i k) (xH c)/\c.length<=m):QM n ((d.setCell ⟨b,0,none⟩ (.slice o1 j g)).setCell ⟨b,1,none⟩ (.slice o2 i k)) m wo (.pointer (some ⟨b,0,none⟩)):=by
 have r:=p.set 0 (.slice o1 j g);have t:=r.set 1 (.slice o2 i k);have s:∀v l,P7 0 d v l->P7 0 ((d.setCell ⟨b,0,none⟩ (.slice o1 j g)).setCell ⟨b,1,none⟩ (.slice o2 i k)) v l:=fun v l q=>yB (yB q (zd.set _ _ _ _) (PN.box p) (by decide)) (zd.set _ _ _ _) (PN.box r) (by decide);exact⟨b,j,g,o1,i,k,o2,rfl,fun c e=>⟨s _ _ (h c e).1,s _ _ (h c e).2.1,(h c e).2.2⟩,show Py _ _ _ _ by simpa using t,(x.setCell f _).setCell f _⟩
theorem LL(w:World)(x O u y:Nat)(M m j:Value)(c:zc)(fs:List zE)(B:yx)(l:zj)(rest:List zj)(k:Nat)(A:fP z w x O u y M m j c fs B)(U:c.body.length<=30)(E:k<c.body.length)(n:c.body[k]=l)(Z:B.length<=3*k)(N:vN B)(F:l.neg=true)(h:(ye fs c.head c.body (l::rest) B).length<=1000000000000)(d:Hid (∀W p r (s:yx),s.length<=3*(k+1)->vN s->(ye fs c.head c.body rest s).length<=1000000000000->fP z W x O u y M p r c fs s->Calls prog 166 #[.pointer (some ⟨x,0,none⟩),.pointer (some ⟨u,y,none⟩),.int .i64 ((k:Int)+1),.agg #[p,r]] W fun e q=>∃v,e=.returned v/\Hid (uP z W.heap.size q v (ye fs c.head c.body rest s))/\Hid (Below W.heap.size W q))):
  Calls prog 166 #[.pointer (some ⟨x,0,none⟩),.pointer (some ⟨u,y,none⟩),.int .i64 k,.agg #[m,j]] w fun e q=>∃v,e=.returned v/\Hid (uP z w.heap.size q v (ye fs c.head c.body (l::rest) B))/\Hid (Below w.heap.size w q):=by
 have f:Hid (ye fs c.head c.body (l::rest) B=ye fs c.head c.body rest B):=by
  unfold Hid;rw[ye,zb F]
 rw[f.out] at h;have i:Hid (Below w.heap.size w (w.alloc (.cells #[m,j] 270))):=(zo _ _).alloc (zf _) _;have H:=Px (A.below i.out);obtain⟨ao,aa,c3,K⟩:=H.out.cl.body;obtain⟨g,rfl,hg,c0,_⟩:=K k E;rw[n,F] at c0;have P:=H.out.cl.lt;have b:=Py.new w #[m,j] 270;have b0:=b.rules.1 0;have b1:=b.rules.1 1;have R:=b.lt;have D:=Px (d.out _ m j B (by omega) N h H.out);obtain⟨_,_,V,_⟩:=A.cl.body;have t:=A.cl.lt;have L:((k:Int) == (c.body.length:Int))=false:=by simp;omega
 have T:(k:Int)<(c.body.length:Int):=by omega
 generalize ye fs c.head c.body (l::rest) B=X at *;clear A K b N h d n F;go_enter func166,ntmps166;go_upto_region 2 with fail
 generalize C:w.alloc (.cells #[m,j] 270)=wA at *;clear C V t;go_wp2_with (first|(go_at_call 166;refine D.out.mono ?_;rintro e w1 ⟨v1,rfl,G,I⟩))
 go_ret;obtain⟨J,Y,q2,S⟩:=G.out;exact⟨_,rfl,by rw[Hid,f.out];exact⟨J,Y,yq q2 i.out.size,S⟩,P3 i.out I.out⟩
theorem GH(w:World)(mb rd gb go:Nat)(fv G D:Value)(c:zc)(fs:List zE)(B:yx)(l:zj)(rest:List zj)(k:Nat)(X:fP z w mb rd gb go fv G D c fs B)(br:c.body.length<=30)(ad:l.args.length<=3/\∀a∈l.args,0<a.size)(bs:fs.length<=10000000)(an:∀f∈fs,f.1=l.pred->f.2.1.length=l.args.length)(al:∀f∈fs,∀x∈f.2.1,x≠ByteArray.empty)(bf:k<c.body.length)(a0:c.body[k]=l)(bq:B.length<=3*k)(hF:vN B)(hn:l.neg=false)(av:(ye fs c.head c.body (l::rest) B).length<=1000000000000)(aM:Hid (∀W a1 aE (d:yx),d.length<=3*(k+1)->vN d->(ye fs c.head c.body rest d).length<=1000000000000->fP z W mb rd gb go fv a1 aE c fs d->Calls prog 166 #[.pointer (some ⟨mb,0,none⟩),.pointer (some ⟨gb,go,none⟩),.int .i64 ((k:Int)+1),.agg #[a1,aE]] W fun e j=>∃v,e=.returned v/\Hid (uP z W.heap.size j v (ye fs c.head c.body rest d))/\Hid (Below W.heap.size W j))):
  Calls prog 166 #[.pointer (some ⟨mb,0,none⟩),.pointer (some ⟨gb,go,none⟩),.int .i64 k,.agg #[G,D]] w fun e j=>∃v,e=.returned v/\Hid (uP z w.heap.size j v (ye fs c.head c.body (l::rest) B))/\Hid (Below w.heap.size w j):=by
 obtain⟨ao,am,rfl,_⟩:=id X.facts;obtain⟨a8,K,aN,_⟩:=X.cl.body;have s:=Nz (fs:=fs) (h:=c.head) (body:=c.body) (rest:=rest) (B:=B) hn;rw[s] at av;have a5:=Px s;have aw:=Px fun W (m:Below w.heap.size w W)=>X.below m;have O:Hid (∀W,Below w.heap.size w W->W.cell? ⟨gb,go+3,none⟩=some (.slice a8 c.body.length K)/\gb<W.heap.size):=fun W m=>⟨(m.cell (p:=⟨gb,go+3,none⟩) X.cl.lt).trans aN,(X.below m).cl.lt⟩;have a9:Hid (∀W,Below w.heap.size w W->∃g,a8=some ⟨g,0,none⟩/\g<W.heap.size/\W.cell? ⟨g,k*3,none⟩=some (.bool false)/\W.cell? ⟨g,k*3+1,none⟩=some (.string l.pred)/\∃E,W.cell? ⟨g,k*3+2,none⟩=some E/\P7 0 W E l.args):=fun W m=>by
  obtain⟨aP,a7,F,V⟩:=(X.below m).cl.body;rw[(O.out W m).1] at F;cases F;have:=V k bf;rw[a0,hn] at this;exact this
 have aF:Hid (∀W,Below w.heap.size w W->W.cell? ⟨mb,0,none⟩=some (.slice ao fs.length am)/\mb<W.heap.size):=fun W m=>⟨by rw[(X.below m).model.rules.1];rfl,(X.below m).model.lt⟩;have bi:Hid (∀W i (T:i<fs.length),Below w.heap.size w W->∃H A,ao=some ⟨H,0,none⟩/\H<W.heap.size/\W.cell? ⟨H,i*3,none⟩=some (.string fs[i].1)/\W.cell? ⟨H,i*3+1,none⟩=some A/\∃lo,P7 lo W A fs[i].2.1):=fun W i T m=>by
  obtain⟨aP,a7,e,q⟩:=(X.below m).facts;cases e;obtain⟨H,A,lo,r1,r2,r3,r4,_,r6⟩:=q i T;exact⟨H,A,r1,r2,r3,r4,lo,r6⟩
 have L:Hid (∀W i (T:i<fs.length) E A N,fs[i].1=l.pred->Below w.heap.size w W->P7 0 W E l.args->P7 N W A fs[i].2.1->Calls prog 196 #[.agg #[G,D],E,A] W fun e j=>∃(I c1:Nat) (o1:Option Addr) (J R:Nat) (o2:Option Addr),e=.returned (.tuple #[.agg #[.slice o1 I c1,.slice o2 J R],.bool (xj B l.args fs[i].2.1).isSome])/\Hid (∀d,xj B l.args fs[i].2.1=some d->P7 0 j (.slice o1 I c1) (xh d)/\P7 0 j (.slice o2 J R) (xH d)/\d.length<=3*(k+1))/\Hid (Below W.heap.size W j)):=fun W i T E A N hp m ha hr=>by
  refine(MK W G D E A B l.args fs[i].2.1 (aw.out W m).fst (aw.out W m).snd ha hr (by omega) (by omega) (an _ (zv T) hp) ad.2 hF (al _ (zv T))).mono ?_;rintro e j ⟨I,c1,o1,J,R,o2,F,V,Y⟩;refine⟨I,c1,o1,J,R,o2,F,fun d aX=>?_,Y⟩;obtain⟨r1,r2,r3⟩:=V.out d aX;exact⟨yq r1 (zx _),yq r2 (zx _),by have:=ad.1;omega⟩
 have ai:Hid (∀i (T:i<fs.length) d,fs[i].1=l.pred->xj B l.args fs[i].2.1=some d->vN d):=fun i T d hp hq=>(nG l.args fs[i].2.1 B d (an _ (zv T) hp).symm (al _ (zv T)) (fun a ha e=>by have:=ad.2 a ha;rw[e] at this;exact zB this (by decide)) hF hq).1;have aW:=Px av;obtain⟨c3,r⟩:=O.out w (zo _ _);have bo:((k:Int) == (c.body.length:Int))=false:=by simp;omega
 have bp:(k:Int)<(c.body.length:Int):=by omega
 clear X ad an al aN s av hF hn a0;generalize ye fs c.head c.body (l::rest) B=bt at *;go_enter func166,ntmps166;go_upto_region 2 with fail
 have ac:Hid (Below w.heap.size w (w.alloc (.cells #[G,D] 270))):=(zo _ _).alloc (zf _) _;have bg:Hid (∀W,Below (w.alloc (.cells #[G,D] 270)).heap.size (w.alloc (.cells #[G,D] 270)) W->W.cell? ⟨w.heap.size,0,none⟩=some G/\W.cell? ⟨w.heap.size,1,none⟩=some D/\w.heap.size<W.heap.size):=fun W m=>by
  have q:=(Py.new w #[G,D] 270).below m;exact⟨by rw[q.rules.1];rfl,by rw[q.rules.1];rfl,q.lt⟩
 clear c3 r;obtain⟨c3,r⟩:=O.out _ ac.out;obtain⟨g,rfl,hg,c0,_⟩:=a9.out _ ac.out;generalize aV:w.alloc (.cells #[G,D] 270)=wA at *;clear aV;go_wp2;clear c3 r c0 hg;go_loopw [9,14,15,16,17] (fun v9 ay _ _ _ wr=>∃i:Nat,i<=fs.length/\ay=.int .i64 i/\Hid (uP z wA.heap.size wr v9 ((fs.take i).flatMap (dJ fs c.head c.body rest l B)))/\Hid (Below wA.heap.size wA wr)) (fun _ ay _ _ _ _=>fs.length-(intOf ay).toNat)
 case atStart=>exact⟨0,zx _,rfl,uP.nil _ _,zo _ _⟩
 case round=>
  obtain⟨i,T,rfl,ab,Z⟩:=hrel;have t:=Px (P3 ac.out Z.out);obtain⟨m0,ae⟩:=aF.out _ t.out;by_cases aa:i<fs.length
  ·have be:(i:Int)<(fs.length:Int):=by omega
   have S:Hid ((fs.take (i+1)).flatMap (dJ fs c.head c.body rest l B)=(fs.take i).flatMap (dJ fs c.head c.body rest l B)++dJ fs c.head c.body rest l B fs[i]):=NE _ _ aa;have bb:Hid (((fs.take (i+1)).flatMap (dJ fs c.head c.body rest l B)).length<=1000000000000):=zT (Hy _ _ _) aW.out;obtain⟨H,A,rfl,az,f0,f1,N,ar⟩:=bi.out _ i aa t.out;obtain⟨g',e',hg,_,c1,E,R,ap⟩:=a9.out _ t.out;cases e';obtain⟨c3,r⟩:=O.out _ t.out;by_cases he:fs[i].1=l.pred
   ·have aR:=kL he;have C:Hid (dJ fs c.head c.body rest l B fs[i]=(match xj B l.args fs[i].2.1 with|none=>[]|some d=>ye fs c.head c.body rest d)):=zb he;have aL:=Px fun W E A N F V Y=>L.out W i aa E A N he F V Y;have ba:=Px fun d q=>ai.out i aa d he q;generalize dJ fs c.head c.body rest l B fs[i]=sn at *;clear he L ai;generalize fs[i].1=x at *;generalize fs[i].2.1=rw at *;go_upto_region 17 with fail
    go_quiet (fail)
    have a4:=Px (ab.out.below (lO wr nq));have aq:=Px (zL Z.out nq);have n:=Px (zL t.out nq);have ah:=ar.below (lO wr nq);have aj:=ap.below (lO wr nq);have aG:=((lO wr nq).cell (p:=⟨H,i*3+1,none⟩) az).trans f1;have aK:=((lO wr nq).cell (p:=⟨g,k*3+2,none⟩) hg).trans R;have ak:=xG az (lO wr nq).size;have aA:=xG hg (lO wr nq).size;clear m0 ae az f0 f1 ar hg c1 R ap c3 r ab Z t;generalize wr.drewN nq=wq at *;obtain⟨m0,ae⟩:=aF.out _ n.out;obtain⟨c3,r⟩:=O.out _ n.out;obtain⟨b0,b1,au⟩:=bg.out _ aq.out;have aJ:Hid (∀W,Below wq.heap.size wq W->Calls prog 196 #[.agg #[G,D],E,A] W fun e j=>∃(I c1:Nat) (o1:Option Addr) (J R:Nat) (o2:Option Addr),e=.returned (.tuple #[.agg #[.slice o1 I c1,.slice o2 J R],.bool (xj B l.args rw).isSome])/\Hid (∀d,xj B l.args rw=some d->P7 0 j (.slice o1 I c1) (xh d)/\P7 0 j (.slice o2 J R) (xH d)/\d.length<=3*(k+1))/\Hid (Below wq.heap.size wq j)/\Hid (Below W.heap.size W j)/\j.cell? ⟨g,k*3+2,none⟩=some E/\j.cell? ⟨w.heap.size,0,none⟩=some G/\j.cell? ⟨w.heap.size,1,none⟩=some D/\j.cell? ⟨mb,0,none⟩=some (.slice (some ⟨H,0,none⟩) fs.length am)/\j.cell? ⟨H,i*3+1,none⟩=some A/\j.cell? ⟨gb,go+3,none⟩=some (.slice (some ⟨g,0,none⟩) c.body.length K)):=fun W m=>by
     refine(aL.out W _ _ _ (P3 n.out m) (aj.below m) (ah.below m)).mono ?_;rintro e j ⟨I,m1,o1,J,m2,o2,F,V,Y⟩;have u:=P3 m Y.out;exact⟨I,m1,o1,J,m2,o2,F,V,u,Y,(zm u aA aK),(zm u au b0),(zm u au b1),(zm u ae m0),(zm u ak aG),(zm u r c3)⟩
    clear aj ah aL;generalize xj B l.args rw=wo at *;go_upto_region 18 with fail
    go_cut [15,16] from 118 to 138 (fun bd aQ wx=>aQ=.bool wo.isSome/\QM wq wx (3*(k+1)) wo bd)
    case first=>
     go_region_held3 (fun j=>j.cell? ⟨g,k*3+2,none⟩=some E/\j.cell? ⟨w.heap.size,0,none⟩=some G/\j.cell? ⟨w.heap.size,1,none⟩=some D/\j.cell? ⟨mb,0,none⟩=some (.slice (some ⟨H,0,none⟩) fs.length am)/\j.cell? ⟨H,i*3+1,none⟩=some A/\j.cell? ⟨gb,go+3,none⟩=some (.slice (some ⟨g,0,none⟩) c.body.length K)) (first|go_keep|(go_simp;done)) (first|(go_at_call 196;refine(aJ.out _ (by exact(by repeat'(first|with_reducible(first|apply zR|assumption|apply zN|apply zA|apply zD|apply zS)|go_size)))).mono ?_;rintro e w5 ⟨I,m1,o1,J,m2,o2,rfl,aC,a2,aY,z0,z1,z2,z3,z4,z5⟩;(try (with_reducible refine Py.carry (Py.drew (Py.new wq #[.slice none 0 0,.slice none 0 0] 270)) aY.out ?_;intro a6;obtain⟨bm,bn,bk⟩:=a6.boxed))))
     all_goals
      go_wp2_with fail
      go_meet
      case rel=>first|exact⟨rfl,QM.one a2.out aC.out⟩|exact⟨rfl,QM.two (zf _) a2.out a6 aC.out⟩
    case rest=>
     obtain⟨rfl,xq,I,m1,o1,J,m2,o2,rfl,HQ,ax,af⟩:=hcut;have aD:=Px (a4.out.below af.out);have ag:=Px (P3 aq.out af.out);have aI:=Px (P3 n.out af.out);clear m0 ae c3 r b0 b1 au aJ aG aK ak aA a4 aq n af;cases wo with
     |none=>
      have HT:Hid (sn=[]):=C.out;go_wp2;go_roundw
      case rel=>exact⟨i+1,by omega,by go_num,by rw[S.out,HT.out,qE];exact aD.out,ag⟩
      case measure=>simp[intOf];omega
     |some d=>
      have HT:Hid (sn=ye fs c.head c.body rest d):=C.out;simp only[jG];obtain⟨s1,s2,s3⟩:=HQ.out d rfl;have U:=aw.out wc aI.out;have P:=bb.out;rw[S.out,HT.out,yv] at P;have a3:=Px (aM.out wc (.slice o1 I m1) (.slice o2 J m2) d s3 (ba.out d rfl) (by omega) ⟨U.model,U.facts,U.cl,s1,s2,U.hz⟩);have q0:=ax.out.rules.1 0;have F:=ax.out.rules.1 1;have bh:=ax.out.lt;have bc:=Px P;clear s1 s2 HQ U P;generalize ye fs c.head c.body rest d=fr at *;go_upto_region 21 with (first|(go_at_call 166;refine a3.out.mono ?_;rintro e w6 ⟨v6,rfl,aT,aB⟩))
      have aH:=Px (aD.out.below aB.out);have M:=Px (P3 ag.out aB.out);clear q0 F bh a3;go_wp2_with (first|(at_builtin;refine My rfl (.tmp 146) (.tmp 147) rfl _ _ _ _ rfl rfl aH.out aT.out bc.out M.out.size ?_;intro v8 w8 aU aZ))
      go_roundw
      case rel=>
       obtain⟨_,_,aO,_⟩:=aH.out;exact⟨i+1,by omega,by go_num,by rw[S.out,HT.out];exact aU,M.out.trans (aZ.below (fun b m=>xb aO (yw m)) M.out.size)⟩
      case measure=>simp[intOf];omega
   ·have aR:=jp he;have C:Hid ((fs.take (i+1)).flatMap (dJ fs c.head c.body rest l B)=(fs.take i).flatMap (dJ fs c.head c.body rest l B)):=by
     rw[Hid,S.out,dJ,za he,qE]
    clear S he f1 ar ap R;generalize fs[i].1=x at *;generalize l.pred=y at *;go_wp2;go_quiet (fail)
    go_wp2;go_roundw
    case rel=>exact⟨i+1,by omega,by go_num,by rw[C.out];exact ab.out.below (lO _ _),zL Z.out _⟩
    case measure=>simp[intOf];omega
  ·have be:¬(i:Int)<(fs.length:Int):=by omega
   obtain rfl:i=fs.length:=by omega
   go_wp2;go_ret;obtain⟨aS,F,V,Y⟩:=ab.out;rw[vf] at F V Y;exact⟨_,rfl,by rw[Hid,a5.out];exact⟨aS,F,yq V ac.out.size,Y⟩,t⟩
theorem DY(m G j n:Nat)(F:Value)(c:zc)(fs:List zE)(s:c.body.length<=30)(b:∀l∈zl c,l.args.length<=3/\∀a∈l.args,0<a.size)(u:fs.length<=10000000)(J:∀f∈fs,f.2.1.length<=1000000)(K:∀f∈fs,∀l∈zl c,f.1=l.pred->f.2.1.length=l.args.length)(I:∀f∈fs,∀x∈f.2.1,x≠ByteArray.empty):∀(rest:List zj) (k:Nat) (w:World) (E C:Value) (B:yx),k<=c.body.length->c.body.drop k=rest->B.length<=3*k->vN B->(ye fs c.head c.body rest B).length<=1000000000000->fP z w m G j n F E C c fs B →
  Calls prog 166 #[.pointer (some ⟨m,0,none⟩),.pointer (some ⟨j,n,none⟩),.int .i64 k,.agg #[E,C]] w fun e H=>∃v,e=.returned v/\Hid (uP z w.heap.size H v (ye fs c.head c.body rest B))/\Hid (Below w.heap.size w H)
 |[],k,w,E,C,B,V,M,A,O,r,L=>by
  have N:k=c.body.length:=by
   have:=congrArg List.length M;simp at this;omega
  subst N;exact F4 w m G j n F E C c fs B L (by omega) (by omega) (fun l R=>⟨by have:=(b l R).1;omega,(b l R).2⟩) u J
 |l::rest,k,w,E,C,B,V,M,A,O,r,L=>by
  have h:k<c.body.length:=by
   have:=congrArg List.length M;simp at this;omega
  have t:=M;rw[xk h] at t;have q:c.body[k]=l:=(List.cons.inj t).1;have D:c.body.drop (k+1)=rest:=(List.cons.inj t).2;have i:l∈zl c:=by simp[zl,←q]
  have p:Hid (∀W d g (y:yx),y.length<=3*(k+1)->vN y->(ye fs c.head c.body rest y).length<=1000000000000->fP z W m G j n F d g c fs y->Calls prog 166 #[.pointer (some ⟨m,0,none⟩),.pointer (some ⟨j,n,none⟩),.int .i64 ((k:Int)+1),.agg #[d,g]] W fun e H=>∃v,e=.returned v/\Hid (uP z W.heap.size H v (ye fs c.head c.body rest y))/\Hid (Below W.heap.size W H)):=fun W d g y Y T S U=>DY m G j n F c fs s b u J K I rest (k+1) W d g y h D Y T S U;cases P:l.neg with
  |true=>exact LL w m G j n F E C c fs B l rest k L s h q A O P r p
  |false=>exact GH w m G j n F E C c fs B l rest k L s (b l i) u (fun f X e=>K f X l i e) I h q A O P r p
end
end Go.Proofs.YteampbddflhngaaGreat
