import Derived.Test.YteampbddflhngaaGreatZ33
namespace Go.Proofs.YteampbddflhngaaGreat
set_option linter.all false
set_option maxRecDepth 100000
set_option maxHeartbeats 8000000
open Go.Proofs.Tryz Go.RowKit
section
variable {z:Nat}{o1 o2:Option Addr}{wo:Option y5}
section
variable {ops:Array Oper} {rest:List Oper} {o:Oper} {a:Act} {Q:Exit->Act->World->Prop}
theorem vf.saveT{lo:Nat}{w w':World}{v:Value}{c:List (κ)}{M:List Nat}{T:TypeId}(h:vf z lo w v c)(hs:ze M w w')(e:QS w T M)(g:30≠T)(j:9≠T):vf z lo w' v c:=by
 obtain⟨d,l,k,f⟩:=h;exact⟨d,l,yG k hs e g,fun i a b=>(f i a b).saveT hs e j⟩
theorem PH{lo D:Nat}{w:World}(f:o.guard=none)(s x:Operand)
  (K:o.op=.call {callee:=.builtin .append,args:=#[s,x],argTypes:=#[31,31]})
  (q n:List (κ)) (p N:Value) (O:a.eval s=p) (R:a.eval x=N) (Z:vf z lo w p q) (V:vf z D w N n) (hl:q.length+n.length<=1000000000000) (A:lo<=w.heap.size)
  (h:∀G E,vf z lo E G (q++n)->ze p.ownBlock.toList w E->wpList prog ops Q rest (a.put o.dst G) E):
  wpList prog ops Q (o::rest) a w:=by
 obtain⟨S,M,y,I,B⟩:=info_parts Ql;obtain⟨i,t,g,L⟩:=Z;obtain⟨b,b1,U,T⟩:=V;have l:∀u∈b,u.oneCell'=true:=by
  intro u hu;obtain⟨j,d,rfl⟩:=vx.1 hu;obtain⟨ao,ad,e⟩:=(T j (by omega) d).1.qx;rw[e];simp[Value.oneCell']
 obtain⟨_,⟨F,hn⟩|⟨P,m,aa,F,ab,hh,ae,X,ac,C⟩⟩:=id U
 ·have v:n=[]:=rW hn;refine wpList_append_own_none f s x 31 K lo 30 S 1 underlying31 M _ _ _ O g (by rw[R,F]) ?_;refine h _ _ ?_ (ze.refl _ _);rw[v,qQ];exact⟨i,t,g,L⟩
 ·have H:∀j u,b[j]?=some u->w.cell? (Addr.add ⟨P,0,none⟩ j)=some u:=fun j u d=>by
   rw[Addr.add_lit,vz];unfold World.cell?;rw[hh];simp only;rw[←C,lJ] at d;split at d
   ·simpa using d
   ·simp at d
  refine wpList_append_own _ f s x 31 K lo 30 S _ 1 24 underlying31 M y I B rfl (by decide) _ _ _ O g ⟨P,0,none⟩ n.length m b (by rw[R,F]) (by omega) H l (by unfold maxLen;omega) (by omega) A ?_;intro G w2 J c _;have r:ze p.ownBlock.toList w w2:=⟨c.os,c.tape,c.output,c.size,fun k W hm=>c.block k W fun e=>hm (by rw[←e];simp)⟩;refine h _ _ ⟨i++b,by simp[t,b1],by rw[yp];exact J,fun j Y q2=>?_⟩ r;by_cases d:j<q.length
  ·rw[vq (by omega),vq d];exact(L j d (by omega)).saveT r (QS.own g) (by decide)
  ·rw[mt (by omega),mt (by omega)];simp only[t];simp only[yp] at Y q2;exact(T _ (by omega) (by omega)).saveT r (QS.own g) (by decide)
end
def fc(fs:List zE)(h:zj)(body rest:List zj)(l:zj)(B:y5)(f:zE):List (κ):=if f.1=l.pred then(match xk B l.args f.2.1 with|none=>[]|some b=>ye fs h body rest b) else []
theorem JT{fs:List zE}{h:zj}{body rest:List zj}{l:zj}{B:y5}(b:l.neg=false):ye fs h body (l::rest) B=fs.flatMap (fc fs h body rest l B):=by
 unfold ye;rw[za (by simp[b])];rfl
theorem Ky{α β:Type}(f:α->List β)(l:List α){i:Nat}(b:i<l.length):(l.take (i+1)).flatMap f=(l.take i).flatMap f++f l[i]:=by
 rw[yM b,List.flatMap_append];simp
theorem JH{α β:Type}(f:α->List β)(l:List α)(i:Nat):((l.take i).flatMap f).length<=(l.flatMap f).length:=by
 conv=>rhs;rw[←qZ i l]
 rw[List.flatMap_append,yp];omega
def Sb(h w:World)(m:Nat)(wo:Option y5)(s:Value):Prop:=∃(e d g:Nat) (o1:Option Addr) (f c:Nat) (o2:Option Addr),s=(π e)/\Hid (∀b,wo=some b->QD 0 w (.slice o1 d g) (xj b)/\QD 0 w (.slice o2 f c) (xL b)/\b.length<=m)/\Hid (Q6 w e #[.slice o1 d g,.slice o2 f c] 270)/\Hid (μ h w)
theorem Sb.one{j b:World}{m f i g d:Nat}(l:μ j b)(h:∀c,wo=some c->QD 0 b (.slice o1 f i) (xj c)/\QD 0 b (.slice o2 g d) (xL c)/\c.length<=m):Sb j (b.alloc (.cells #[.slice o1 f i,.slice o2 g d] 270)) m wo (.pointer (some ⟨b.heap.size,0,none⟩)):=by
 have k:μ b (b.alloc (.cells #[.slice o1 f i,.slice o2 g d] 270)):=(zo _ _).alloc (zg _) _;exact⟨_,f,i,o1,g,d,o2,rfl,fun c e=>⟨(h c e).1.below k,(h c e).2.1.below k,(h c e).2.2⟩,Q6.new b _ _,Q9 l k⟩
theorem Sb.two{n d:World}{m i k j g c:Nat}{x w:Value}(f:n.heap.size<=c)(u:μ n d)(r:Q6 d c #[x,w] 270)(h:∀b,wo=some b->QD 0 d (.slice o1 i k) (xj b)/\QD 0 d (.slice o2 j g) (xL b)/\b.length<=m):Sb n ((d.setCell ⟨c,0,none⟩ (.slice o1 i k)).setCell ⟨c,1,none⟩ (.slice o2 j g)) m wo ((π c)):=by
 have s:=r.set 0 (.slice o1 i k);have t:=s.set 1 (.slice o2 j g);have p:∀v l,QD 0 d v l->QD 0 ((d.setCell ⟨c,0,none⟩ (.slice o1 i k)).setCell ⟨c,1,none⟩ (.slice o2 j g)) v l:=fun v l q=>yG (yG q (ze.set _ _ _ _) (QS.box r) (by decide)) (ze.set _ _ _ _) (QS.box s) (by decide);exact⟨c,i,k,o1,j,g,o2,rfl,fun b e=>⟨p _ _ (h b e).1,p _ _ (h b e).2.1,(h b e).2.2⟩,show Q6 _ _ _ _ by simpa using t,(u.setCell f _).setCell f _⟩
theorem JV(w:World)(u N gb y:Nat)(L j m:Value)(c:zd)(fs:List zE)(B:y5)(l:zj)(rest:List zj)(k:Nat)(x:lh z w u N gb y L j m c fs B)(ab:c.body.length<=30)(D:k<c.body.length)(t:c.body[k]=l)(Z:B.length<=3*k)(M:qd B)(G:l.neg=true)(h:(ye fs c.head c.body (l::rest) B).length<=1000000000000)(f:Hid (∀W r n (p:y5),p.length<=3*(k+1)->qd p->(ye fs c.head c.body rest p).length<=1000000000000->lh z W u N gb y L r n c fs p->Calls prog 166 #[(π u),.pointer (some ⟨gb,y,none⟩),ι ((k:Int)+1),.agg #[r,n]] W fun e s=>∃v,e=.returned v/\Hid (vf z W.heap.size s v (ye fs c.head c.body rest p))/\Hid (μ W s))):
  Calls prog 166 #[(π u),.pointer (some ⟨gb,y,none⟩),ι k,.agg #[j,m]] w fun e s=>∃v,e=.returned v/\Hid (vf z w.heap.size s v (ye fs c.head c.body (l::rest) B))/\Hid (μ w s):=by
 have d:Hid (ye fs c.head c.body (l::rest) B=ye fs c.head c.body rest B):=by
  unfold Hid;rw[ye,zc G]
 rw[d.out] at h;have i:Hid (μ w (w.alloc (.cells #[j,m] 270))):=(zo _ _).alloc (zg _) _;have I:=Q5 (x.below i.out);obtain⟨ao,aa,c3,K⟩:=I.out.cl.body;obtain⟨g,rfl,hg,X,_⟩:=K k D;rw[t,G] at X;have V:=I.out.cl.lt;have b:=Q6.new w #[j,m] 270;have b0:=b.rules.1 0;have b1:=b.rules.1 1;have S:=b.lt;have C:=Q5 (f.out _ j m B (by omega) M h I.out);obtain⟨_,_,R,_⟩:=x.cl.body;have q:=x.cl.lt;have J:((k:Int) == (c.body.length:Int))=false:=by simp;omega
 have P:(k:Int)<(c.body.length:Int):=by omega
 generalize ye fs c.head c.body (l::rest) B=O at *;clear x K b M h f t G;go_enter func166,ntmps166;go_upto_region 2 with fail
 generalize A:w.alloc (.cells #[j,m] 270)=wA at *;clear A R q;go_wp2_with (go_at_call 166;refine C.out.mono ?_;rintro e w1 ⟨v1,rfl,H,F⟩)
 go_ret;obtain⟨E,T,Y,U⟩:=H.out;exact⟨_,rfl,by rw[Hid,d.out];exact⟨E,T,yr Y i.out.size,U⟩,Q9 i.out F.out⟩
theorem M1(w:World)(mb rd gb go:Nat)(fv F G:Value)(c:zd)(fs:List zE)(B:y5)(l:zj)(rest:List zj)(k:Nat)(V:lh z w mb rd gb go fv F G c fs B)(bs:c.body.length<=30)(Y:l.args.length<=3/\∀a∈l.args,0<a.size)(bp:fs.length<=10000000)(aq:∀f∈fs,f.1=l.pred->f.2.1.length=l.args.length)(aw:∀f∈fs,∀x∈f.2.1,x≠ByteArray.empty)(aW:k<c.body.length)(aN:c.body[k]=l)(br:B.length<=3*k)(hF:qd B)(hn:l.neg=false)(ar:(ye fs c.head c.body (l::rest) B).length<=1000000000000)(aB:Hid (∀W a9 a0 (d:y5),d.length<=3*(k+1)->qd d->(ye fs c.head c.body rest d).length<=1000000000000->lh z W mb rd gb go fv a9 a0 c fs d->Calls prog 166 #[(π mb),.pointer (some ⟨gb,go,none⟩),ι ((k:Int)+1),.agg #[a9,a0]] W fun e j=>∃v,e=.returned v/\Hid (vf z W.heap.size j v (ye fs c.head c.body rest d))/\Hid (μ W j))):
  Calls prog 166 #[(π mb),.pointer (some ⟨gb,go,none⟩),ι k,.agg #[F,G]] w fun e j=>∃v,e=.returned v/\Hid (vf z w.heap.size j v (ye fs c.head c.body (l::rest) B))/\Hid (μ w j):=by
 obtain⟨ao,ax,rfl,_⟩:=id V.facts;obtain⟨aE,O,aI,_⟩:=V.cl.body;have u:=JT (fs:=fs) (h:=c.head) (body:=c.body) (rest:=rest) (B:=B) hn;rw[u] at ar;have a6:=Q5 u;have am:=Q5 fun W (m:μ w W)=>V.below m;have P:Hid (∀W,μ w W->W.cell? ⟨gb,go+3,none⟩=some (.slice aE c.body.length O)/\gb<W.heap.size):=fun W m=>⟨(m.cell (p:=⟨gb,go+3,none⟩) V.cl.lt).trans aI,(V.below m).cl.lt⟩;have a1:Hid (∀W,μ w W->∃g,aE=some ⟨g,0,none⟩/\g<W.heap.size/\W.cell? ⟨g,k*3,none⟩=some (.bool false)/\W.cell? ⟨g,k*3+1,none⟩=some (.string l.pred)/\∃E,W.cell? ⟨g,k*3+2,none⟩=some E/\QD 0 W E l.args):=fun W m=>by
  obtain⟨aV,aH,D,X⟩:=(V.below m).cl.body;rw[(P.out W m).1] at D;cases D;have:=X k aW;rw[aN,hn] at this;exact this
 have az:Hid (∀W,μ w W->W.cell? ⟨mb,0,none⟩=some (.slice ao fs.length ax)/\mb<W.heap.size):=fun W m=>⟨by rw[(V.below m).model.rules.1];rfl,(V.below m).model.lt⟩;have aR:Hid (∀W i (T:i<fs.length),μ w W->∃I s,ao=some ⟨I,0,none⟩/\I<W.heap.size/\W.cell? ⟨I,i*3,none⟩=some (.string fs[i].1)/\W.cell? ⟨I,i*3+1,none⟩=some s/\∃lo,QD lo W s fs[i].2.1):=fun W i T m=>by
  obtain⟨aV,aH,e,q⟩:=(V.below m).facts;cases e;obtain⟨I,s,lo,r1,r2,r3,r4,_,r6⟩:=q i T;exact⟨I,s,r1,r2,r3,r4,lo,r6⟩
 have K:Hid (∀W i (T:i<fs.length) E s N,fs[i].1=l.pred->μ w W->QD 0 W E l.args->QD N W s fs[i].2.1->Calls prog 196 #[.agg #[F,G],E,s] W fun e j=>∃(J c1:Nat) (o1:Option Addr) (H M:Nat) (o2:Option Addr),e=ε (.tuple #[.agg #[.slice o1 J c1,.slice o2 H M],.bool (xk B l.args fs[i].2.1).isSome])/\Hid (∀d,xk B l.args fs[i].2.1=some d->QD 0 j (.slice o1 J c1) (xj d)/\QD 0 j (.slice o2 H M) (xL d)/\d.length<=3*(k+1))/\Hid (μ W j)):=fun W i T E s N hp m ha hr=>by
  refine(LL W F G E s B l.args fs[i].2.1 (am.out W m).fst (am.out W m).snd ha hr (by omega) (by omega) (aq _ (zs T) hp) Y.2 hF (aw _ (zs T))).mono ?_;rintro e j ⟨J,c1,o1,H,M,o2,D,X,q3⟩;refine⟨J,c1,o1,H,M,o2,D,fun d aO=>?_,q3⟩;obtain⟨r1,r2,r3⟩:=X.out d aO;exact⟨yr r1 (zv _),yr r2 (zv _),by have:=Y.1;omega⟩
 have ag:Hid (∀i (T:i<fs.length) d,fs[i].1=l.pred->xk B l.args fs[i].2.1=some d->qd d):=fun i T d hp hq=>(p9 l.args fs[i].2.1 B d (aq _ (zs T) hp).symm (aw _ (zs T)) (fun a ha e=>by have:=Y.2 a ha;rw[e] at this;exact zC this (by decide)) hF hq).1;have bd:=Q5 ar;obtain⟨c3,n⟩:=P.out w (zo _ _);have bk:((k:Int) == (c.body.length:Int))=false:=by simp;omega
 have bo:(k:Int)<(c.body.length:Int):=by omega
 clear V Y aq aw aI u ar hF hn aN;generalize ye fs c.head c.body (l::rest) B=bq at *;go_enter func166,ntmps166;go_upto_region 2 with fail
 have ad:Hid (μ w (w.alloc (.cells #[F,G] 270))):=(zo _ _).alloc (zg _) _;have bb:Hid (∀W,Below (w.alloc (.cells #[F,G] 270)).heap.size (w.alloc (.cells #[F,G] 270)) W->W.cell? ⟨w.heap.size,0,none⟩=some F/\W.cell? ⟨w.heap.size,1,none⟩=some G/\w.heap.size<W.heap.size):=fun W m=>by
  have q:=(Q6.new w #[F,G] 270).below m;exact⟨by rw[q.rules.1];rfl,by rw[q.rules.1];rfl,q.lt⟩
 clear c3 n;obtain⟨c3,n⟩:=P.out _ ad.out;obtain⟨g,rfl,hg,c0,_⟩:=a1.out _ ad.out;generalize aT:w.alloc (.cells #[F,G] 270)=wA at *;clear aT;go_wp2;clear c3 n c0 hg;go_loopw [9,14,15,16,17] (fun v9 al _ _ _ wr=>∃i:Nat,i<=fs.length/\al=ι i/\Hid (vf z wA.heap.size wr v9 ((fs.take i).flatMap (fc fs c.head c.body rest l B)))/\Hid (μ wA wr)) (fun _ al _ _ _ _=>fs.length-(intOf al).toNat)
 case atStart=>exact⟨0,zv _,rfl,vf.nil _ _,zo _ _⟩
 case round=>
  obtain⟨i,T,rfl,ae,ac⟩:=hrel;have A:=Q5 (Q9 ad.out ac.out);obtain⟨m0,aa⟩:=az.out _ A.out;by_cases Z:i<fs.length
  ·have aP:(i:Int)<(fs.length:Int):=by omega
   have S:Hid ((fs.take (i+1)).flatMap (fc fs c.head c.body rest l B)=(fs.take i).flatMap (fc fs c.head c.body rest l B)++fc fs c.head c.body rest l B fs[i]):=Ky _ _ Z;have aQ:Hid (((fs.take (i+1)).flatMap (fc fs c.head c.body rest l B)).length<=1000000000000):=yc (JH _ _ _) bd.out;obtain⟨I,s,rfl,av,f0,f1,N,au⟩:=aR.out _ i Z A.out;obtain⟨g',e',hg,_,c1,E,M,ak⟩:=a1.out _ A.out;cases e';obtain⟨c3,n⟩:=P.out _ A.out;by_cases he:fs[i].1=l.pred
   ·have bf:=gi he;have C:Hid (fc fs c.head c.body rest l B fs[i]=(match xk B l.args fs[i].2.1 with|none=>[]|some d=>ye fs c.head c.body rest d)):=zc he;have aA:=Q5 fun W E s N D X q3=>K.out W i Z E s N he D X q3;have aY:=Q5 fun d q=>ag.out i Z d he q;generalize fc fs c.head c.body rest l B fs[i]=sn at *;clear he K ag;generalize fs[i].1=x at *;generalize fs[i].2.1=rw at *;go_upto_region 17 with fail
    go_quiet (fail)
    have aC:=Q5 (ae.out.below (mM wr nq));have ay:=Q5 (zJ ac.out nq);have r:=Q5 (zJ A.out nq);have ai:=au.below (mM wr nq);have af:=ak.below (mM wr nq);have aK:=((mM wr nq).cell (p:=⟨I,i*3+1,none⟩) av).trans f1;have a7:=((mM wr nq).cell (p:=⟨g,k*3+2,none⟩) hg).trans M;have aj:=xP av (mM wr nq).size;have aM:=xP hg (mM wr nq).size;clear m0 aa av f0 f1 au hg c1 M ak c3 n ae ac A;generalize wr.drewN nq=wq at *;obtain⟨m0,aa⟩:=az.out _ r.out;obtain⟨c3,n⟩:=P.out _ r.out;obtain⟨b0,b1,an⟩:=bb.out _ ay.out;have a5:Hid (∀W,μ wq W->Calls prog 196 #[.agg #[F,G],E,s] W fun e j=>∃(J c1:Nat) (o1:Option Addr) (H M:Nat) (o2:Option Addr),e=ε (.tuple #[.agg #[.slice o1 J c1,.slice o2 H M],.bool (xk B l.args rw).isSome])/\Hid (∀d,xk B l.args rw=some d->QD 0 j (.slice o1 J c1) (xj d)/\QD 0 j (.slice o2 H M) (xL d)/\d.length<=3*(k+1))/\Hid (μ wq j)/\Hid (μ W j)/\j.cell? ⟨g,k*3+2,none⟩=some E/\j.cell? ⟨w.heap.size,0,none⟩=some F/\j.cell? ⟨w.heap.size,1,none⟩=some G/\j.cell? ⟨mb,0,none⟩=some (.slice (some ⟨I,0,none⟩) fs.length ax)/\j.cell? ⟨I,i*3+1,none⟩=some s/\j.cell? ⟨gb,go+3,none⟩=some (.slice (some ⟨g,0,none⟩) c.body.length O)):=fun W m=>by
     refine(aA.out W _ _ _ (Q9 r.out m) (af.below m) (ai.below m)).mono ?_;rintro e j ⟨J,m1,o1,H,m2,o2,D,X,q3⟩;have t:=Q9 m q3.out;exact⟨J,m1,o1,H,m2,o2,D,X,t,q3,(zl t aM a7),(zl t an b0),(zl t an b1),(zl t aa m0),(zl t aj aK),(zl t n c3)⟩
    clear af ai aA;generalize xk B l.args rw=wo at *;go_upto_region 18 with fail
    go_cut [15,16] from 118 to 138 (fun aZ aU wx=>aU=.bool wo.isSome/\Sb wq wx (3*(k+1)) wo aZ)
    case first=>
     go_region_held3 (fun j=>j.cell? ⟨g,k*3+2,none⟩=some E/\j.cell? ⟨w.heap.size,0,none⟩=some F/\j.cell? ⟨w.heap.size,1,none⟩=some G/\j.cell? ⟨mb,0,none⟩=some (.slice (some ⟨I,0,none⟩) fs.length ax)/\j.cell? ⟨I,i*3+1,none⟩=some s/\j.cell? ⟨gb,go+3,none⟩=some (.slice (some ⟨g,0,none⟩) c.body.length O)) (first|go_keep|(go_simp;done)) (go_at_call 196;refine(a5.out _ (by exact(by repeat'(first|with_reducible(first|apply zR|assumption|apply zN|apply zA|apply zD|apply zS)|go_size)))).mono ?_;rintro e w5 ⟨J,m1,o1,H,m2,o2,rfl,aL,aJ,bg,z0,z1,z2,z3,z4,z5⟩;(try (with_reducible refine Q6.carry (Q6.drew (Q6.new wq #[ν,ν] 270)) bg.out ?_;intro aF;obtain⟨bi,bm,bn⟩:=aF.boxed)))
     all_goals
      go_wp2_with fail
      go_meet
      case rel=>first|exact⟨rfl,Sb.one aJ.out aL.out⟩|exact⟨rfl,Sb.two (zg _) aJ.out aF aL.out⟩
    case rest=>
     obtain⟨rfl,xq,J,m1,o1,H,m2,o2,rfl,HQ,ap,ab⟩:=hcut;have aG:=Q5 (aC.out.below ab.out);have ah:=Q5 (Q9 ay.out ab.out);have aD:=Q5 (Q9 r.out ab.out);clear m0 aa c3 n b0 b1 an a5 aK a7 aj aM aC ay r ab;cases wo with
     |none=>
      have HT:Hid (sn=[]):=C.out;go_wp2;go_roundw
      case rel=>exact⟨i+1,by omega,by go_num,by rw[S.out,HT.out,qQ];exact aG.out,ah⟩
      case measure=>simp[intOf];omega
     |some d=>
      have HT:Hid (sn=ye fs c.head c.body rest d):=C.out;simp only[jV];obtain⟨s1,s2,s3⟩:=HQ.out d rfl;have U:=am.out wc aD.out;have L:=aQ.out;rw[S.out,HT.out,yp] at L;have a8:=Q5 (aB.out wc (.slice o1 J m1) (.slice o2 H m2) d s3 (aY.out d rfl) (by omega) ⟨U.model,U.facts,U.cl,s1,s2,U.hz⟩);have q0:=ap.out.rules.1 0;have D:=ap.out.rules.1 1;have bc:=ap.out.lt;have aS:=Q5 L;clear s1 s2 HQ U L;generalize ye fs c.head c.body rest d=fr at *;go_upto_region 21 with (go_at_call 166;refine a8.out.mono ?_;rintro e w6 ⟨v6,rfl,ba,a2⟩)
      have a4:=Q5 (aG.out.below a2.out);have R:=Q5 (Q9 ah.out a2.out);clear q0 D bc a8;go_wp2_with (at_builtin;refine PH rfl (.tmp 146) (.tmp 147) rfl _ _ _ _ rfl rfl a4.out ba.out aS.out R.out.size ?_;intro v8 w8 be bh)
      go_roundw
      case rel=>
       obtain⟨_,_,a3,_⟩:=a4.out;exact⟨i+1,by omega,by go_num,by rw[S.out,HT.out];exact be,R.out.trans (bh.below (fun b m=>yW a3 (yt m)) R.out.size)⟩
      case measure=>simp[intOf];omega
   ·have bf:=jz he;have C:Hid ((fs.take (i+1)).flatMap (fc fs c.head c.body rest l B)=(fs.take i).flatMap (fc fs c.head c.body rest l B)):=by
     rw[Hid,S.out,fc,za he,qQ]
    clear S he f1 au ak M;generalize fs[i].1=x at *;generalize l.pred=y at *;go_wp2;go_quiet (fail)
    go_wp2;go_roundw
    case rel=>exact⟨i+1,by omega,by go_num,by rw[C.out];exact ae.out.below (mM _ _),zJ ac.out _⟩
    case measure=>simp[intOf];omega
  ·have aP:¬(i:Int)<(fs.length:Int):=by omega
   obtain rfl:i=fs.length:=by omega
   go_wp2;go_ret;obtain⟨aX,D,X,q3⟩:=ae.out;rw[vw] at D X q3;exact⟨_,rfl,by rw[Hid,a6.out];exact⟨aX,D,yr X ad.out.size,q3⟩,A⟩
theorem Cx(i F gb m:Nat)(E:Value)(c:zd)(fs:List zE)(C:c.body.length<=30)(b:∀l∈zk c,l.args.length<=3/\∀a∈l.args,0<a.size)(y:fs.length<=10000000)(I:∀f∈fs,f.2.1.length<=1000000)(J:∀f∈fs,∀l∈zk c,f.1=l.pred->f.2.1.length=l.args.length)(H:∀f∈fs,∀x∈f.2.1,x≠ByteArray.empty):∀(rest:List zj) (k:Nat) (w:World) (t u:Value) (B:y5),k<=c.body.length->c.body.drop k=rest->B.length<=3*k->qd B->(ye fs c.head c.body rest B).length<=1000000000000->lh z w i F gb m E t u c fs B →
  Calls prog 166 #[(π i),.pointer (some ⟨gb,m,none⟩),ι k,.agg #[t,u]] w fun e G=>∃v,e=.returned v/\Hid (vf z w.heap.size G v (ye fs c.head c.body rest B))/\Hid (μ w G)
 |[],k,w,t,u,B,R,L,A,M,q,K=>by
  have N:k=c.body.length:=by
   have:=congrArg List.length L;simp at this;omega
  subst N;exact Pi w i F gb m E t u c fs B K (by omega) (by omega) (fun l O=>⟨by have:=(b l O).1;omega,(b l O).2⟩) y I
 |l::rest,k,w,t,u,B,R,L,A,M,q,K=>by
  have d:k<c.body.length:=by
   have:=congrArg List.length L;simp at this;omega
  have D:=L;rw[xp d] at D;have s:c.body[k]=l:=(List.cons.inj D).1;have p:c.body.drop (k+1)=rest:=(List.cons.inj D).2;have n:l∈zk c:=by simp[zk,←s]
  have j:Hid (∀W h g (r:y5),r.length<=3*(k+1)->qd r->(ye fs c.head c.body rest r).length<=1000000000000->lh z W i F gb m E h g c fs r->Calls prog 166 #[(π i),.pointer (some ⟨gb,m,none⟩),ι ((k:Int)+1),.agg #[h,g]] W fun e G=>∃v,e=.returned v/\Hid (vf z W.heap.size G v (ye fs c.head c.body rest r))/\Hid (μ W G)):=fun W h g r V S X T=>Cx i F gb m E c fs C b y I J H rest (k+1) W h g r d p V S X T;cases P:l.neg with
  |true=>exact JV w i F gb m E t u c fs B l rest k K C d s A M P q j
  |false=>exact M1 w i F gb m E t u c fs B l rest k K C (b l n) y (fun f U e=>J f U l n e) H d s A M P q j
end
end Go.Proofs.YteampbddflhngaaGreat
