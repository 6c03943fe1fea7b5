import Derived.Test.YteampbddflhngaaGreatZ33
namespace Go.Proofs.YteampbddflhngaaGreat
set_option linter.all false
set_option maxRecDepth 100000
set_option maxHeartbeats 8000000
open Go.Proofs.Tryz Go.RowKit
section
variable {z:Nat}{o1 o2:Option Addr}{wo:Option yz}
section
variable {ops:Array Oper} {rest:List Oper} {o:Oper} {a:Act} {Q:Exit->Act->World->Prop}
theorem vf.saveT{lo:Nat}{w w':World}{v:Value}{c:List (κ)}{M:List Nat}{T:TypeId}(h:vf z lo w v c)(hs:ze M w w')(e:QU w T M)(k:30≠T)(j:9≠T):vf z lo w' v c:=by
 obtain⟨d,f,g,l⟩:=h;exact⟨d,f,yF g hs e k,fun i a b=>(l i a b).saveT hs e j⟩
theorem Mm{lo y:Nat}{w:World}(n:o.guard=none)(s x:Operand)
  (T:o.op=.call {callee:=.builtin .append,args:=#[s,x],argTypes:=#[31,31]})
  (q m:List (κ)) (p L:Value) (N:a.eval s=p) (P:a.eval x=L) (h1:vf z lo w p q) (h2:vf z y w L m) (hl:q.length+m.length<=1000000000000) (J:lo<=w.heap.size)
  (h:∀I H,vf z lo H I (q++m)->ze p.ownBlock.toList w H->wpList prog ops Q rest (a.put o.dst I) H):
  wpList prog ops Q (o::rest) a w:=by
 obtain⟨M,S,G,A,r⟩:=info_parts Qf;obtain⟨g,F,i,K⟩:=h1;obtain⟨b,Y,b2,O⟩:=h2;have l:∀u∈b,u.oneCell'=true:=by
  intro u X;obtain⟨j,d,rfl⟩:=vw.1 X;obtain⟨ao,ad,e⟩:=(O j (by omega) d).1.qx;rw[e];simp[Value.oneCell']
 obtain⟨_,⟨C,hn⟩|⟨R,f,U,C,aa,hh,ab,ac,V,E⟩⟩:=id b2
 ·have D:m=[]:=rg hn;refine wpList_append_own_none n s x 31 T lo 30 M 1 underlying31 S _ _ _ N i (by rw[P,C]) ?_;refine h _ _ ?_ (ze.refl _ _);rw[D,qM];exact⟨g,F,i,K⟩
 ·have t:∀j u,b[j]?=some u->w.cell? (Addr.add ⟨R,0,none⟩ j)=some u:=fun j u d=>by
   rw[Addr.add_lit,vB];unfold World.cell?;rw[hh];simp only;rw[←E,lF] at d;split at d
   ·simpa using d
   ·simp at d
  refine wpList_append_own _ n s x 31 T lo 30 M _ 1 24 underlying31 S G A r rfl (by decide) _ _ _ N i ⟨R,0,none⟩ m.length f b (by rw[P,C]) (by omega) t l (by unfold maxLen;omega) (by omega) J ?_;intro I Z v c _;have B:ze p.ownBlock.toList w Z:=⟨c.os,c.tape,c.output,c.size,fun k hk hm=>c.block k hk fun e=>hm (by rw[←e];simp)⟩;refine h _ _ ⟨g++b,by simp[F,Y],by rw[yq];exact v,fun j W q2=>?_⟩ B;by_cases d:j<q.length
  ·rw[vu (by omega),vu d];exact(K j d (by omega)).saveT B (QU.own i) (by decide)
  ·rw[mX (by omega),mX (by omega)];simp only[F];simp only[yq] at W q2;exact(O _ (by omega) (by omega)).saveT B (QU.own i) (by decide)
end
def fd(fs:List zE)(h:zj)(body rest:List zj)(l:zj)(B:yz)(f:zE):List (κ):=if f.1=l.pred then(match xj B l.args f.2.1 with|none=>[]|some b=>ye fs h body rest b) else []
theorem Gb{fs:List zE}{h:zj}{body rest:List zj}{l:zj}{B:yz}(b:l.neg=false):ye fs h body (l::rest) B=fs.flatMap (fd fs h body rest l B):=by
 unfold ye;rw[za (by simp[b])];rfl
theorem IM{α β:Type}(f:α->List β)(l:List α){i:Nat}(b:i<l.length):(l.take (i+1)).flatMap f=(l.take i).flatMap f++f l[i]:=by
 rw[yL b,List.flatMap_append];simp
theorem Jw{α β:Type}(f:α->List β)(l:List α)(i:Nat):((l.take i).flatMap f).length<=(l.flatMap f).length:=by
 conv=>rhs;rw[←jt i l]
 rw[List.flatMap_append,yq];omega
def Sc(d w:World)(m:Nat)(wo:Option yz)(s:Value):Prop:=∃(f e c:Nat) (o1:Option Addr) (h g:Nat) (o2:Option Addr),s=(π f)/\Hid (∀b,wo=some b->QF 0 w (.slice o1 e c) (xp b)/\QF 0 w (.slice o2 h g) (xU b)/\b.length<=m)/\Hid (Q8 w f #[.slice o1 e c,.slice o2 h g] 270)/\Hid (μ d w)
theorem Sc.one{j b:World}{m f d i g:Nat}(l:μ j b)(h:∀c,wo=some c->QF 0 b (.slice o1 f d) (xp c)/\QF 0 b (.slice o2 i g) (xU c)/\c.length<=m):Sc j (b.alloc (.cells #[.slice o1 f d,.slice o2 i g] 270)) m wo (.pointer (some ⟨b.heap.size,0,none⟩)):=by
 have k:μ b (b.alloc (.cells #[.slice o1 f d,.slice o2 i g] 270)):=(zo _ _).alloc (zg _) _;exact⟨_,f,d,o1,i,g,o2,rfl,fun c e=>⟨(h c e).1.below k,(h c e).2.1.below k,(h c e).2.2⟩,Q8.new b _ _,QB l k⟩
theorem Sc.two{n d:World}{m g f k j c:Nat}{u t:Value}(i:n.heap.size<=c)(w:μ n d)(s:Q8 d c #[u,t] 270)(h:∀b,wo=some b->QF 0 d (.slice o1 g f) (xp b)/\QF 0 d (.slice o2 k j) (xU b)/\b.length<=m):Sc n ((d.setCell ⟨c,0,none⟩ (.slice o1 g f)).setCell ⟨c,1,none⟩ (.slice o2 k j)) m wo ((π c)):=by
 have r:=s.set 0 (.slice o1 g f);have x:=r.set 1 (.slice o2 k j);have p:∀v l,QF 0 d v l->QF 0 ((d.setCell ⟨c,0,none⟩ (.slice o1 g f)).setCell ⟨c,1,none⟩ (.slice o2 k j)) v l:=fun v l q=>yF (yF q (ze.set _ _ _ _) (QU.box s) (by decide)) (ze.set _ _ _ _) (QU.box r) (by decide);exact⟨c,g,f,o1,k,j,o2,rfl,fun b e=>⟨p _ _ (h b e).1,p _ _ (h b e).2.1,(h b e).2.2⟩,show Q8 _ _ _ _ by simpa using x,(w.setCell i _).setCell i _⟩
theorem NW(w:World)(y N gb x:Nat)(J m j:Value)(c:zd)(fs:List zE)(B:yz)(l:zj)(rest:List zj)(k:Nat)(u:li z w y N gb x J m j c fs B)(S:c.body.length<=30)(D:k<c.body.length)(r:c.body[k]=l)(U:B.length<=3*k)(M:vZ B)(G:l.neg=true)(h:(ye fs c.head c.body (l::rest) B).length<=1000000000000)(d:Hid (∀W p t (n:yz),n.length<=3*(k+1)->vZ n->(ye fs c.head c.body rest n).length<=1000000000000->li z W y N gb x J p t c fs n->Calls prog 166 #[(π y),.pointer (some ⟨gb,x,none⟩),ι ((k:Int)+1),.agg #[p,t]] W fun e s=>∃v,e=.returned v/\Hid (vf z W.heap.size s v (ye fs c.head c.body rest n))/\Hid (μ W s))):
  Calls prog 166 #[(π y),.pointer (some ⟨gb,x,none⟩),ι k,.agg #[m,j]] w fun e s=>∃v,e=.returned v/\Hid (vf z w.heap.size s v (ye fs c.head c.body (l::rest) B))/\Hid (μ w s):=by
 have f:Hid (ye fs c.head c.body (l::rest) B=ye fs c.head c.body rest B):=by
  unfold Hid;rw[ye,zc G]
 rw[f.out] at h;have i:Hid (μ w (w.alloc (.cells #[m,j] 270))):=(zo _ _).alloc (zg _) _;have A:=Q7 (u.below i.out);obtain⟨ao,X,c3,L⟩:=A.out.cl.body;obtain⟨g,rfl,hg,P,_⟩:=L k D;rw[r,G] at P;have Y:=A.out.cl.lt;have b:=Q8.new w #[m,j] 270;have b0:=b.rules.1 0;have b1:=b.rules.1 1;have T:=b.lt;have I:=Q7 (d.out _ m j B (by omega) M h A.out);obtain⟨_,_,V,_⟩:=u.cl.body;have q:=u.cl.lt;have K:((k:Int) == (c.body.length:Int))=false:=by simp;omega
 have aa:(k:Int)<(c.body.length:Int):=by omega
 generalize ye fs c.head c.body (l::rest) B=R at *;clear u L b M h d r G;go_enter func166,ntmps166;go_upto_region 2 with fail
 generalize C:w.alloc (.cells #[m,j] 270)=wA at *;clear C V q;go_wp2_with (go_at_call 166;refine I.out.mono ?_;rintro e w1 ⟨v1,rfl,F,H⟩)
 go_ret;obtain⟨E,O,Z,q3⟩:=F.out;exact⟨_,rfl,by rw[Hid,f.out];exact⟨E,O,yt Z i.out.size,q3⟩,QB i.out H.out⟩
theorem My(w:World)(mb rd gb go:Nat)(fv F D:Value)(c:zd)(fs:List zE)(B:yz)(l:zj)(rest:List zj)(k:Nat)(X:li z w mb rd gb go fv F D c fs B)(br:c.body.length<=30)(Z:l.args.length<=3/\∀a∈l.args,0<a.size)(bp:fs.length<=10000000)(al:∀f∈fs,f.1=l.pred->f.2.1.length=l.args.length)(av:∀f∈fs,∀x∈f.2.1,x≠ByteArray.empty)(bc:k<c.body.length)(a3:c.body[k]=l)(bs:B.length<=3*k)(hF:vZ B)(hn:l.neg=false)(am:(ye fs c.head c.body (l::rest) B).length<=1000000000000)(a5:Hid (∀W aA aM (d:yz),d.length<=3*(k+1)->vZ d->(ye fs c.head c.body rest d).length<=1000000000000->li z W mb rd gb go fv aA aM c fs d->Calls prog 166 #[(π mb),.pointer (some ⟨gb,go,none⟩),ι ((k:Int)+1),.agg #[aA,aM]] W fun e j=>∃v,e=.returned v/\Hid (vf z W.heap.size j v (ye fs c.head c.body rest d))/\Hid (μ W j))):
  Calls prog 166 #[(π mb),.pointer (some ⟨gb,go,none⟩),ι k,.agg #[F,D]] w fun e j=>∃v,e=.returned v/\Hid (vf z w.heap.size j v (ye fs c.head c.body (l::rest) B))/\Hid (μ w j):=by
 obtain⟨ao,aq,rfl,_⟩:=id X.facts;obtain⟨a1,N,aE,_⟩:=X.cl.body;have s:=Gb (fs:=fs) (h:=c.head) (body:=c.body) (rest:=rest) (B:=B) hn;rw[s] at am;have aK:=Q7 s;have ax:=Q7 fun W (m:μ w W)=>X.below m;have M:Hid (∀W,μ w W->W.cell? ⟨gb,go+3,none⟩=some (.slice a1 c.body.length N)/\gb<W.heap.size):=fun W m=>⟨(m.cell (p:=⟨gb,go+3,none⟩) X.cl.lt).trans aE,(X.below m).cl.lt⟩;have aG:Hid (∀W,μ w W->∃g,a1=some ⟨g,0,none⟩/\g<W.heap.size/\W.cell? ⟨g,k*3,none⟩=some (.bool false)/\W.cell? ⟨g,k*3+1,none⟩=some (.string l.pred)/\∃E,W.cell? ⟨g,k*3+2,none⟩=some E/\QF 0 W E l.args):=fun W m=>by
  obtain⟨aW,a9,G,V⟩:=(X.below m).cl.body;rw[(M.out W m).1] at G;cases G;have:=V k bc;rw[a3,hn] at this;exact this
 have aN:Hid (∀W,μ w W->W.cell? ⟨mb,0,none⟩=some (.slice ao fs.length aq)/\mb<W.heap.size):=fun W m=>⟨by rw[(X.below m).model.rules.1];rfl,(X.below m).model.lt⟩;have bf:Hid (∀W i (O:i<fs.length),μ w W->∃H A,ao=some ⟨H,0,none⟩/\H<W.heap.size/\W.cell? ⟨H,i*3,none⟩=some (.string fs[i].1)/\W.cell? ⟨H,i*3+1,none⟩=some A/\∃lo,QF lo W A fs[i].2.1):=fun W i O m=>by
  obtain⟨aW,a9,e,q⟩:=(X.below m).facts;cases e;obtain⟨H,A,lo,r1,r2,r3,r4,_,r6⟩:=q i O;exact⟨H,A,r1,r2,r3,r4,lo,r6⟩
 have L:Hid (∀W i (O:i<fs.length) E A R,fs[i].1=l.pred->μ w W->QF 0 W E l.args->QF R W A fs[i].2.1->Calls prog 196 #[.agg #[F,D],E,A] W fun e j=>∃(J c1:Nat) (o1:Option Addr) (I T:Nat) (o2:Option Addr),e=ε (.tuple #[.agg #[.slice o1 J c1,.slice o2 I T],.bool (xj B l.args fs[i].2.1).isSome])/\Hid (∀d,xj B l.args fs[i].2.1=some d->QF 0 j (.slice o1 J c1) (xp d)/\QF 0 j (.slice o2 I T) (xU d)/\d.length<=3*(k+1))/\Hid (μ W j)):=fun W i O E A R hp m ha hr=>by
  refine(Gq W F D E A B l.args fs[i].2.1 (ax.out W m).fst (ax.out W m).snd ha hr (by omega) (by omega) (al _ (zs O) hp) Z.2 hF (av _ (zs O))).mono ?_;rintro e j ⟨J,c1,o1,I,T,o2,G,V,q3⟩;refine⟨J,c1,o1,I,T,o2,G,fun d aS=>?_,q3⟩;obtain⟨r1,r2,r3⟩:=V.out d aS;exact⟨yt r1 (zv _),yt r2 (zv _),by have:=Z.1;omega⟩
 have ai:Hid (∀i (O:i<fs.length) d,fs[i].1=l.pred->xj B l.args fs[i].2.1=some d->vZ d):=fun i O d hp hq=>(pI l.args fs[i].2.1 B d (al _ (zs O) hp).symm (av _ (zs O)) (fun a ha e=>by have:=Z.2 a ha;rw[e] at this;exact zC this (by decide)) hF hq).1;have be:=Q7 am;obtain⟨c3,n⟩:=M.out w (zo _ _);have bi:((k:Int) == (c.body.length:Int))=false:=by simp;omega
 have bo:(k:Int)<(c.body.length:Int):=by omega
 clear X Z al av aE s am hF hn a3;generalize ye fs c.head c.body (l::rest) B=bq at *;go_enter func166,ntmps166;go_upto_region 2 with fail
 have ad:Hid (μ w (w.alloc (.cells #[F,D] 270))):=(zo _ _).alloc (zg _) _;have aO:Hid (∀W,Below (w.alloc (.cells #[F,D] 270)).heap.size (w.alloc (.cells #[F,D] 270)) W->W.cell? ⟨w.heap.size,0,none⟩=some F/\W.cell? ⟨w.heap.size,1,none⟩=some D/\w.heap.size<W.heap.size):=fun W m=>by
  have q:=(Q8.new w #[F,D] 270).below m;exact⟨by rw[q.rules.1];rfl,by rw[q.rules.1];rfl,q.lt⟩
 clear c3 n;obtain⟨c3,n⟩:=M.out _ ad.out;obtain⟨g,rfl,hg,c0,_⟩:=aG.out _ ad.out;generalize aU:w.alloc (.cells #[F,D] 270)=wA at *;clear aU;go_wp2;clear c3 n c0 hg;go_loopw [9,14,15,16,17] (fun v9 aw _ _ _ wr=>∃i:Nat,i<=fs.length/\aw=ι i/\Hid (vf z wA.heap.size wr v9 ((fs.take i).flatMap (fd fs c.head c.body rest l B)))/\Hid (μ wA wr)) (fun _ aw _ _ _ _=>fs.length-(intOf aw).toNat)
 case atStart=>exact⟨0,zv _,rfl,vf.nil _ _,zo _ _⟩
 case round=>
  obtain⟨i,O,rfl,ae,Y⟩:=hrel;have t:=Q7 (QB ad.out Y.out);obtain⟨m0,aa⟩:=aN.out _ t.out;by_cases ac:i<fs.length
  ·have aX:(i:Int)<(fs.length:Int):=by omega
   have U:Hid ((fs.take (i+1)).flatMap (fd fs c.head c.body rest l B)=(fs.take i).flatMap (fd fs c.head c.body rest l B)++fd fs c.head c.body rest l B fs[i]):=IM _ _ ac;have bb:Hid (((fs.take (i+1)).flatMap (fd fs c.head c.body rest l B)).length<=1000000000000):=yc (Jw _ _ _) be.out;obtain⟨H,A,rfl,au,f0,f1,R,ak⟩:=bf.out _ i ac t.out;obtain⟨g',e',hg,_,c1,E,T,an⟩:=aG.out _ t.out;cases e';obtain⟨c3,n⟩:=M.out _ t.out;by_cases he:fs[i].1=l.pred
   ·have bg:=gE he;have C:Hid (fd fs c.head c.body rest l B fs[i]=(match xj B l.args fs[i].2.1 with|none=>[]|some d=>ye fs c.head c.body rest d)):=zc he;have aD:=Q7 fun W E A R G V q3=>L.out W i ac E A R he G V q3;have aT:=Q7 fun d q=>ai.out i ac d he q;generalize fd fs c.head c.body rest l B fs[i]=sn at *;clear he L ai;generalize fs[i].1=x at *;generalize fs[i].2.1=rw at *;go_upto_region 17 with fail
    go_quiet (fail)
    have aB:=Q7 (ae.out.below (mD wr nq));have ar:=Q7 (zJ Y.out nq);have r:=Q7 (zJ t.out nq);have aj:=ak.below (mD wr nq);have af:=an.below (mD wr nq);have aJ:=((mD wr nq).cell (p:=⟨H,i*3+1,none⟩) au).trans f1;have aH:=((mD wr nq).cell (p:=⟨g,k*3+2,none⟩) hg).trans T;have ag:=xP au (mD wr nq).size;have aC:=xP hg (mD wr nq).size;clear m0 aa au f0 f1 ak hg c1 T an c3 n ae Y t;generalize wr.drewN nq=wq at *;obtain⟨m0,aa⟩:=aN.out _ r.out;obtain⟨c3,n⟩:=M.out _ r.out;obtain⟨b0,b1,ap⟩:=aO.out _ ar.out;have a6:Hid (∀W,μ wq W->Calls prog 196 #[.agg #[F,D],E,A] W fun e j=>∃(J c1:Nat) (o1:Option Addr) (I T:Nat) (o2:Option Addr),e=ε (.tuple #[.agg #[.slice o1 J c1,.slice o2 I T],.bool (xj B l.args rw).isSome])/\Hid (∀d,xj B l.args rw=some d->QF 0 j (.slice o1 J c1) (xp d)/\QF 0 j (.slice o2 I T) (xU d)/\d.length<=3*(k+1))/\Hid (μ wq j)/\Hid (μ W j)/\j.cell? ⟨g,k*3+2,none⟩=some E/\j.cell? ⟨w.heap.size,0,none⟩=some F/\j.cell? ⟨w.heap.size,1,none⟩=some D/\j.cell? ⟨mb,0,none⟩=some (.slice (some ⟨H,0,none⟩) fs.length aq)/\j.cell? ⟨H,i*3+1,none⟩=some A/\j.cell? ⟨gb,go+3,none⟩=some (.slice (some ⟨g,0,none⟩) c.body.length N)):=fun W m=>by
     refine(aD.out W _ _ _ (QB r.out m) (af.below m) (aj.below m)).mono ?_;rintro e j ⟨J,m1,o1,I,m2,o2,G,V,q3⟩;have u:=QB m q3.out;exact⟨J,m1,o1,I,m2,o2,G,V,u,q3,(zl u aC aH),(zl u ap b0),(zl u ap b1),(zl u aa m0),(zl u ag aJ),(zl u n c3)⟩
    clear af aj aD;generalize xj B l.args rw=wo at *;go_upto_region 18 with fail
    go_cut [15,16] from 118 to 138 (fun aP bd wx=>bd=.bool wo.isSome/\Sc wq wx (3*(k+1)) wo aP)
    case first=>
     go_region_held3 (fun j=>j.cell? ⟨g,k*3+2,none⟩=some E/\j.cell? ⟨w.heap.size,0,none⟩=some F/\j.cell? ⟨w.heap.size,1,none⟩=some D/\j.cell? ⟨mb,0,none⟩=some (.slice (some ⟨H,0,none⟩) fs.length aq)/\j.cell? ⟨H,i*3+1,none⟩=some A/\j.cell? ⟨gb,go+3,none⟩=some (.slice (some ⟨g,0,none⟩) c.body.length N)) (first|go_keep|(go_simp;done)) (first|(go_at_call 196;refine(a6.out _ (by exact(by repeat'(first|with_reducible(first|apply zR|assumption|apply zN|apply zA|apply zD|apply zS)|go_size)))).mono ?_;rintro e w5 ⟨J,m1,o1,I,m2,o2,rfl,az,aI,ba,z0,z1,z2,z3,z4,z5⟩;(try (with_reducible refine Q8.carry (Q8.drew (Q8.new wq #[ν,ν] 270)) ba.out ?_;intro a7;obtain⟨bm,bn,bk⟩:=a7.boxed))))
     all_goals
      go_wp2_with fail
      go_meet
      case rel=>first|exact⟨rfl,Sc.one aI.out az.out⟩|exact⟨rfl,Sc.two (zg _) aI.out a7 az.out⟩
    case rest=>
     obtain⟨rfl,xq,J,m1,o1,I,m2,o2,rfl,HQ,ay,ab⟩:=hcut;have a0:=Q7 (aB.out.below ab.out);have ah:=Q7 (QB ar.out ab.out);have a4:=Q7 (QB r.out ab.out);clear m0 aa c3 n b0 b1 ap a6 aJ aH ag aC aB ar r ab;cases wo with
     |none=>
      have HT:Hid (sn=[]):=C.out;go_wp2;go_roundw
      ·exact⟨i+1,by omega,by go_num,by rw[U.out,HT.out,qM];exact a0.out,ah⟩
      ·simp[intOf];omega
     |some d=>
      have HT:Hid (sn=ye fs c.head c.body rest d):=C.out;simp only[kc];obtain⟨s1,s2,s3⟩:=HQ.out d rfl;have P:=ax.out wc a4.out;have K:=bb.out;rw[U.out,HT.out,yq] at K;have a8:=Q7 (a5.out wc (.slice o1 J m1) (.slice o2 I m2) d s3 (aT.out d rfl) (by omega) ⟨P.model,P.facts,P.cl,s1,s2,P.hz⟩);have q0:=ay.out.rules.1 0;have G:=ay.out.rules.1 1;have bh:=ay.out.lt;have aQ:=Q7 K;clear s1 s2 HQ P K;generalize ye fs c.head c.body rest d=fr at *;go_upto_region 21 with (first|(go_at_call 166;refine a8.out.mono ?_;rintro e w6 ⟨v6,rfl,aY,a2⟩))
      have aL:=Q7 (a0.out.below a2.out);have S:=Q7 (QB ah.out a2.out);clear q0 G bh a8;go_wp2_with (at_builtin;refine Mm rfl (.tmp 146) (.tmp 147) rfl _ _ _ _ rfl rfl aL.out aY.out aQ.out S.out.size ?_;intro v8 w8 aZ aR)
      go_roundw
      case rel=>
       obtain⟨_,_,aF,_⟩:=aL.out;exact⟨i+1,by omega,by go_num,by rw[U.out,HT.out];exact aZ,S.out.trans (aR.below (fun b m=>yV aF (yr m)) S.out.size)⟩
      case measure=>simp[intOf];omega
   ·have bg:=j5 he;have C:Hid ((fs.take (i+1)).flatMap (fd fs c.head c.body rest l B)=(fs.take i).flatMap (fd fs c.head c.body rest l B)):=by
     rw[Hid,U.out,fd,za he,qM]
    clear U he f1 ak an T;generalize fs[i].1=x at *;generalize l.pred=y at *;go_wp2;go_quiet (fail)
    go_wp2;go_roundw
    ·exact⟨i+1,by omega,by go_num,by rw[C.out];exact ae.out.below (mD _ _),zJ Y.out _⟩
    ·simp[intOf];omega
  ·have aX:¬(i:Int)<(fs.length:Int):=by omega
   obtain rfl:i=fs.length:=by omega
   go_wp2;go_ret;obtain⟨aV,G,V,q3⟩:=ae.out;rw[vr] at G V q3;exact⟨_,rfl,by rw[Hid,aK.out];exact⟨aV,G,yt V ad.out.size,q3⟩,t⟩
theorem F4(n F gb m:Nat)(E:Value)(c:zd)(fs:List zE)(r:c.body.length<=30)(g:∀l∈zk c,l.args.length<=3/\∀a∈l.args,0<a.size)(D:fs.length<=10000000)(H:∀f∈fs,f.2.1.length<=1000000)(J:∀f∈fs,∀l∈zk c,f.1=l.pred->f.2.1.length=l.args.length)(G:∀f∈fs,∀x∈f.2.1,x≠ByteArray.empty):∀(rest:List zj) (k:Nat) (w:World) (A t:Value) (B:yz),k<=c.body.length->c.body.drop k=rest->B.length<=3*k->vZ B->(ye fs c.head c.body rest B).length<=1000000000000->li z w n F gb m E A t c fs B →
  Calls prog 166 #[(π n),.pointer (some ⟨gb,m,none⟩),ι k,.agg #[A,t]] w fun e I=>∃v,e=.returned v/\Hid (vf z w.heap.size I v (ye fs c.head c.body rest B))/\Hid (μ w I)
 |[],k,w,A,t,B,S,K,u,N,p,L=>by
  have M:k=c.body.length:=by
   have:=congrArg List.length K;simp at this;omega
  subst M;exact PG w n F gb m E A t c fs B L (by omega) (by omega) (fun l O=>⟨by have:=(g l O).1;omega,(g l O).2⟩) D H
 |l::rest,k,w,A,t,B,S,K,u,N,p,L=>by
  have d:k<c.body.length:=by
   have:=congrArg List.length K;simp at this;omega
  have C:=K;rw[xn d] at C;have y:c.body[k]=l:=(List.cons.inj C).1;have s:c.body.drop (k+1)=rest:=(List.cons.inj C).2;have j:l∈zk c:=by simp[zk,←y]
  have i:Hid (∀W b h (q:yz),q.length<=3*(k+1)->vZ q->(ye fs c.head c.body rest q).length<=1000000000000->li z W n F gb m E b h c fs q->Calls prog 166 #[(π n),.pointer (some ⟨gb,m,none⟩),ι ((k:Int)+1),.agg #[b,h]] W fun e I=>∃v,e=.returned v/\Hid (vf z W.heap.size I v (ye fs c.head c.body rest q))/\Hid (μ W I)):=fun W b h q X T V U=>F4 n F gb m E c fs r g D H J G rest (k+1) W b h q d s X T V U;cases P:l.neg with
  |true=>exact NW w n F gb m E A t c fs B l rest k L r d y u N P p i
  |false=>exact My w n F gb m E A t c fs B l rest k L r (g l j) D (fun f R e=>J f R l j e) G d y u N P p i
end
end Go.Proofs.YteampbddflhngaaGreat
