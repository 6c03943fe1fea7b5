import Derived.Test.YteampbddflhngaaGreatV29
import Derived.Test.YteampbddflhngaaGreatV30
namespace Go.Proofs.YteampbddflhngaaGreat
set_option linter.all false
set_option maxRecDepth 100000
set_option maxHeartbeats 4000000
open Go.Proofs.Tryz Go.RowKit
section
variable {lo:Nat}{w0 w:World}{rb rr sb st va hp:Nat}{htv plv nlv v':Value}{ht:List zZ}{pls nls:List zt}{vs:List ByteArray}{pl:List Nat}
theorem OE:(prog.info? 204).map (fun i=>(i.zero,i.size,i.bytes))=some (some (.agg #[.int .i64 0,.slice none 0 0]),2,32):=by kernel_rfl
def gT(t:List zg)(ns:List ByteArray)(c:zc)(o:Option (List Int)):zr:=
 {qh:=xz t c.head.pred,vars:=(zy c).length,head:=zK t ns (zy c) (xb (o.getD [])) c.head,qc:=(c.body.filter fun l=>!l.neg).map (zK t ns (zy c) (xb (o.getD []))),qp:=(c.body.filter fun l=>l.neg).map (zK t ns (zy c) (xb (o.getD [])))}
theorem KX(ps:List (Nat×Value))(x:Nat×Value):gE (ps++[x])=gE ps++[.int .i64 (x.1:Nat),x.2]:=by simp[gE]
structure kB (B:Nat) (w0 w:World) (rb rr sb st va hp:Nat) (htv plv nlv:Value) (ht:List zZ) (pls nls:List zt) (vs:List ByteArray) (pl:List Nat):Prop where
 box:OZ w rb #[.int .i64 st,.int .i64 va,.int .i64 hp,htv,plv,nlv] 207
 res:OZ w rr #[.int .i64 0,.int .i64 0,.int .i64 0,.slice none 0 0,.slice none 0 0,.slice none 0 0] 207
 scope:kQ B w sb vs pl
 head:yh B w htv ht
 pln:ub B w plv pls
 nln:ub B w nlv nls
 apart:∀b,plv.ownBlock=some b->nlv.ownBlock≠some b
 below:Below B w0 w
 low:B<=rb/\B<=rr/\rb≠rr
theorem kB.next{B:Nat}{b:World}(h:kB B w0 w rb rr sb st va hp htv plv nlv ht pls nls vs pl)(a:Below w.heap.size w b)(c:B<=w0.heap.size):kB B w0 b rb rr sb st va hp htv plv nlv ht pls nls vs pl:=
 ⟨h.box.below a,h.res.below a,h.scope.below a,h.head.below a,h.pln.below a,h.nln.below a,h.apart,zM h.below a c,h.low⟩
theorem kQ.saveT{c:Nat}{w b:World}{sb:Nat}{vs:List ByteArray}{pl:List Nat}{T:TypeId}{M:List Nat}(h:kQ c w sb vs pl)(d:zd M w b)(a:Px w T M)(j:257≠T)(e:9≠T):kQ c b sb vs pl:=by
 obtain⟨g,k,i,l,f,p,o,m,n⟩:=h;exact⟨g,k,i,l,f,p,o,m.saveT d a j,yE n d a e⟩
theorem ub.push{e:Nat}{i:World}{v:Value}{c:List zt}{ps:List (Nat×Value)}{l:zt}{tv:Value}(m:w.ownsRow e 204 2 v c.length (gE ps))(h:ps.length=c.length)(g:∀k (m:k<c.length) (h:k<ps.length),ps[k].1=c[k].pred/\yh e w ps[k].2 c[k].qg/\c[k].pred<=1000000)(q:c.length+1<=1000)(p:yh e w tv l.qg)(hp:l.pred<=1000000)
  (o:i.ownsRow e 204 2 v' (c.length+1) (gE ps++[.int .i64 l.pred,tv])) (n:zd v.ownBlock.toList w i):ub e i v' (c++[l]):=by
 have j:=Px.own m;refine⟨ps++[(l.pred,tv)],by rw[KX,yz];exact o,by simp[h],by simpa using q,fun k a b=>?_⟩;by_cases f:k<c.length
 ·have d:k<ps.length:=by omega
  rw[uT f,uT d];exact⟨(g k f d).1,(g k f d).2.1.saveT n j (by decide),(g k f d).2.2⟩
 ·obtain rfl:k=c.length:=by simp at a;omega
  simp only[←h,pR];exact⟨trivial,p.saveT n j (by decide),hp⟩
theorem kB.pushP{B:Nat}{j:World}{d:List zt}(h:kB B w0 w rb rr sb st va hp htv plv nlv ht pls nls vs pl)(f:zd plv.ownBlock.toList w j)(n:v'.ownBlock=plv.ownBlock∨∃g,v'.ownBlock=some g/\w.heap.size<=g)(r:ub B j v' d)(t:B<=w.heap.size):kB B w0 (j.setCell ⟨rb,4,none⟩ v') rb rr sb st va hp htv v' nlv ht d nls vs pl:=by
 obtain⟨A,p,_⟩:=h.pln;have k:=Px.own p;have l:=h.box.saveT f k (by decide);have c:=Px.box l;have a:zd [rb] j (j.setCell ⟨rb,4,none⟩ v'):=zd.set _ _ _ _;have u:=l.set 4 v';have o:=h.nln.saveT f k (by decide) fun b i z=>h.apart b (yv z) i;refine⟨by simpa using u,(h.res.saveT f k (by decide)).set_ne (Ne.symm h.low.2.2) _ _,(h.scope.saveT f k (by decide) (by decide)).saveT a c (by decide) (by decide),(h.head.saveT f k (by decide)).saveT a c (by decide),r.saveTT a c (by decide) (by decide),o.saveTT a c (by decide) (by decide),fun b i m=>?_,?_,h.low⟩
 ·obtain⟨v,y,_⟩:=h.nln;have s:=yO y m;rcases n with e|⟨g,e,C⟩
  ·rw[e] at i;exact h.apart b i m
  ·rw[e] at i;simp only[zs] at i;omega
 ·exact(h.below.trans (f.below (fun x q=>yW p (yv q)) t)).setCell h.low.1 _
theorem kB.pushN{B:Nat}{j:World}{f:List zt}(h:kB B w0 w rb rr sb st va hp htv plv nlv ht pls nls vs pl)(i:zd nlv.ownBlock.toList w j)(o:v'.ownBlock=nlv.ownBlock∨∃g,v'.ownBlock=some g/\w.heap.size<=g)(r:ub B j v' f)(t:B<=w.heap.size):kB B w0 (j.setCell ⟨rb,5,none⟩ v') rb rr sb st va hp htv plv v' ht pls f vs pl:=by
 obtain⟨A,p,_⟩:=h.nln;have k:=Px.own p;have l:=h.box.saveT i k (by decide);have d:=Px.box l;have a:zd [rb] j (j.setCell ⟨rb,5,none⟩ v'):=zd.set _ _ _ _;have u:=l.set 5 v';have n:=h.pln.saveT i k (by decide) fun b m z=>h.apart b m (yv z);refine⟨by simpa using u,(h.res.saveT i k (by decide)).set_ne (Ne.symm h.low.2.2) _ _,(h.scope.saveT i k (by decide) (by decide)).saveT a d (by decide) (by decide),(h.head.saveT i k (by decide)).saveT a d (by decide),n.saveTT a d (by decide) (by decide),r.saveTT a d (by decide) (by decide),fun b m c=>?_,?_,h.low⟩
 ·obtain⟨v,y,_⟩:=h.pln;have s:=yO y m;rcases o with e|⟨g,e,C⟩
  ·rw[e] at c;exact h.apart b m c
  ·rw[e] at c;simp only[zs] at c;omega
 ·exact(h.below.trans (i.below (fun x q=>yW p (yv q)) t)).setCell h.low.1 _
theorem wT{α:Type}(p:α->Bool)(l:List α)(k:Nat)(a:k<l.length):(l.take (k+1)).filter p=(l.take k).filter p++(if p l[k] then [l[k]] else []):=by
 rw[yM a,rx];congr 1;cases h:p l[k]<;>simp[h]
theorem D3(t:List zg)(n:ByteArray):zF t n<=t.length:=by
 unfold zF;split
 ·exact eh t n
 ·omega
theorem L4(c:List Int)(h:c.length<=1000):∀y∈xb c,y<=1000:=by
 have:∀(l:List (Int×Nat)) (pl:List Nat),(∀x∈l,x.2<=1000)->(∀y∈pl,y<=1000)->∀y∈l.foldl qQ pl,y<=1000:=by
  intro l;induction l with
  |nil=>intro pl _ h;exact h
  |cons x l f=>
   intro pl d b;refine f _ (fun y a=>d y (nW _ a)) fun y a=>?_;unfold qQ at a;split at a
   ·rcases nZ a with q|q
    ·exact b y q
    ·subst q;exact d x (by simp)
   ·exact b y a
 refine this _ _ (fun x e=>?_) (by decide);have:=List.snd_lt_of_mem_zipIdx e;omega
def IH(w:World)(r:zr)(e:Ending)(d:World):Prop:=∃b c a,e=.returned (kj r b c a)/\uP w.heap.size d b c a r/\Below w.heap.size w d
theorem Ib{ad:Nat}(w:World)(mb tb o cb:Nat)(t:List zg)(ns:List ByteArray)(c:zc)(va vb ov:Value)(Q:Option (List Int))(h:mh lo w mb tb o cb t ns)(hs:Pg ad w va c.head.args)(hb:PB ad w vb c.body)(hl:c.head.args.length+xi c.body<=1000)(cj:c.body.length<=900)(ho:jR w ov Q)(be:(Q.getD []).length<=1000)(bM:xz t c.head.pred<=1000000):
  Calls prog 117 #[.pointer (some ⟨mb,0,none⟩),.agg #[.bool c.head.neg,.string c.head.pred,va,vb],ov] w fun e O=>IH w (gT t ns c Q) e O:=by
 obtain⟨i0,hi,bx,bt,b9⟩:=info_parts OE;obtain⟨ao,aR,rfl⟩:=hs.qw;obtain⟨aI,Z,rfl⟩:=hb.qw;obtain⟨bG,br,rfl⟩:=ho.qw;have b5:=OY fun W I=>NM W c _ _ _ Q (hs.below I) (hb.below I) hl (by omega) (ho.below I) be;have bu:=tG c.body [];have bV:(zy c).length<=1000:=by unfold zy;simp at bu;omega
 clear bu;have aY:Hid (∀W sb (l:zj) (va:Value) (b1 b2:Nat),Below w.heap.size w W->kQ b1 W sb (zy c) (xb (Q.getD []))->Pg b2 W va l.args->l.args.length<=1000->Calls prog 160 #[.pointer (some ⟨mb,0,none⟩),.agg #[.bool l.neg,.string l.pred,va],.pointer (some ⟨sb,0,none⟩)] W fun e O=>∃tv,e=.returned (.agg #[.int .i64 (zF t l.pred:Nat),tv])/\yh W.heap.size O tv (zK t ns (zy c) (xb (Q.getD [])) l).qg/\Below W.heap.size W O):=fun W sb l va b1 b2 I bS bW bK=>Al W mb tb o cb sb t ns _ _ l _ (h.below I) bS bV (L4 _ be) bW bK;have bB:=OY fun W I=>Hh lo W tb o t c.head.pred (h.2.1.below I) h.2.2.2.1;have bD:=OY h.2.2.2.1;have bJ:=h.1;obtain⟨bs,cl,bF⟩:=bJ.boxed;have bY:w.cell? ⟨mb,0,none⟩=some (.pointer (some ⟨tb,o,none⟩)):=by rw[bs];rfl
 have bU:=OY hs;have bR:=OY hb;have HE:Hid (gT t ns c Q={qh:=xz t c.head.pred,vars:=(zy c).length,head:=zK t ns (zy c) (xb (Q.getD [])) c.head,qc:=(c.body.filter fun l=>!l.neg).map (zK t ns (zy c) (xb (Q.getD []))),qp:=(c.body.filter fun l=>l.neg).map (zK t ns (zy c) (xb (Q.getD [])))}):=rfl;have H5:Hid ((xb (Q.getD [])).length=5):=ij _;clear h hs hb ho bs;generalize zy c=vs at *;generalize xb (Q.getD [])=pl at *;generalize xz t c.head.pred=st at *;generalize (zY t c.head.pred).isSome=ci at *;obtain⟨d,j,n,f,m,rfl⟩:=five H5.out;have a5:Hid (∀W,Below w.heap.size w W->Calls prog 158 #[.agg #[.bool c.head.neg,.string c.head.pred,.slice ao c.head.args.length aR,.slice aI c.body.length Z],.slice bG (Q.getD []).length br] W fun e O=>∃nv,e=.returned (.agg #[nv,.int .i64 d,.int .i64 j,.int .i64 n,.int .i64 f,.int .i64 m])/\Pg W.heap.size O nv vs/\Below W.heap.size W O):=b5;clear b5 H5;go_enter func117,ntmps117;go_upto_region 2 with (first|(go_at_call 158;refine(a5.out _ (by exact(by go_grown))).mono ?_;rintro e w1 ⟨nv,rfl,aK,ax⟩;obtain⟨aQ,aa,rfl⟩:=aK.qw))
 have bh:Below w.heap.size w w1:=zM (by go_grown) ax (zh _);have az:=((OZ.new w #[.bool c.head.neg,.string c.head.pred,.slice ao c.head.args.length aR,.slice aI c.body.length Z] 171).below ((zo _ _).alloc (zh _) (.cells #[.int .i64 0,.int .i64 0,.int .i64 0,.slice none 0 0,.slice none 0 0,.slice none 0 0] 207))).below ax;have L:=(OZ.new (w.alloc (.cells #[.bool c.head.neg,.string c.head.pred,.slice ao c.head.args.length aR,.slice aI c.body.length Z] 171)) #[.int .i64 0,.int .i64 0,.int .i64 0,.slice none 0 0,.slice none 0 0,.slice none 0 0] 207).below ax;rw[World.size_alloc] at L;have a1:=aK.low (show w.heap.size<=_ by simp;omega);have u:Below w1.heap.size w1 (w1.alloc (.cells #[.slice aQ vs.length aa,.int .i64 d,.int .i64 j,.int .i64 n,.int .i64 f,.int .i64 m] 257)):=(by go_grown);have a6:=OZ.new w1 #[.slice aQ vs.length aa,.int .i64 d,.int .i64 j,.int .i64 n,.int .i64 f,.int .i64 m] 257;have Y:=az.below u;have aF:=L.below u;have aA:=a1.below u;have p:=Pc bh u;have cg:=L.lt;clear az L a1 aK ax u;generalize w1.alloc (.cells #[.slice aQ vs.length aa,.int .i64 d,.int .i64 j,.int .i64 n,.int .i64 f,.int .i64 m] 257)=V at *;generalize w1.heap.size=sb at *;clear bh w1;obtain⟨ac,X,F⟩:=Y.boxed;have bI:=zl p bF bY;have aX:=p.size;have bo:mb<V.heap.size:=by omega
 go_quiet ((go_at_call 159;exact Calls.quiet_of_same (bB.out _ (by exact(zI p _)))))
 clear a5 bB bI ac X F aX bo;have hq:Below V.heap.size V (V.drewN nq):=zI (zo _ _) nq;have a3:=Y.below hq;have a7:=aF.below hq;have ap:=aA.below hq;have M:=a6.below hq;have aL:=Pc p hq;clear hq Y aF aA a6 p;generalize V.drewN nq=w3 at *;clear V nq;have cn:=aL.size;obtain⟨aD,bC,bz⟩:=M.boxed;go_upto_region 4 with (first|(go_at_call 146;refine(ix _ _ _ vs (by rw[aD];rfl) ap).mono ?_;rintro e w4 ⟨rfl,bH⟩;obtain rfl:=bH.symm))
 clear aD bC bz;have u:Below w3.heap.size w3 (w3.alloc (.cells #[.int .i64 st,.int .i64 vs.length,.int .i64 0,.slice none 0 0,.slice none 0 0,.slice none 0 0] 207)):=(by go_grown);have aB:=OZ.new w3 #[.int .i64 st,.int .i64 vs.length,.int .i64 0,.slice none 0 0,.slice none 0 0,.slice none 0 0] 207;have aj:=a3.below u;have a0:=a7.below u;have ay:=ap.below u;have aC:=M.below u;have ar:=Pc aL u;have cd:=M.lt;clear a3 a7 ap M u;generalize w3.alloc (.cells #[.int .i64 st,.int .i64 vs.length,.int .i64 0,.slice none 0 0,.slice none 0 0,.slice none 0 0] 207)=w4 at *;generalize w3.heap.size=rb at *;clear aL w3;have bb:=ar.size;obtain⟨ac,X,F⟩:=aj.boxed;have av:Hid (kQ w.heap.size w4 sb vs [d,j,n,f,m]):=⟨_,d,j,n,f,m,rfl,aC,ay⟩;go_upto_region 5 with (first|(go_at_call 160;refine(aY.out _ _ c.head _ _ _ (by exact ar) (by exact av.out) (by exact bU.out.below ar) (by omega)).mono ?_;rintro e w5 ⟨tv,rfl,ag,S⟩;obtain⟨C,s,rfl⟩:=ag.qw;have N:=aB.below S;obtain⟨bn,bq,bg⟩:=N.boxed))
 have bm:yh w.heap.size w5 _ _:=⟨yr ag.own bb,ag.len,ag.num⟩;have ak:rb≠w.heap.size+1:=by omega
 have hM:kB w.heap.size w ((w5.setCell ⟨rb,2,none⟩ (.int .i64 (zF t c.head.pred:Nat))).setCell ⟨rb,3,none⟩ (.slice C (zK t ns vs [d,j,n,f,m] c.head).qg.length s)) rb (w.heap.size+1) sb st vs.length (zF t c.head.pred) (.slice C (zK t ns vs [d,j,n,f,m] c.head).qg.length s) (.slice none 0 0) (.slice none 0 0) (zK t ns vs [d,j,n,f,m] c.head).qg [] [] vs [d,j,n,f,m]:=by
  have b0:zd [rb] w5 ((w5.setCell ⟨rb,2,none⟩ (.int .i64 (zF t c.head.pred:Nat))).setCell ⟨rb,3,none⟩ (.slice C (zK t ns vs [d,j,n,f,m] c.head).qg.length s)):=(zd.set _ _ _ _).trans (zd.set _ _ _ _);have bd:=Px.box N;have hq:=(N.set 2 (.int .i64 (zF t c.head.pred:Nat))).set 3 (.slice C (zK t ns vs [d,j,n,f,m] c.head).qg.length s);refine⟨by simpa using hq,((a0.below S).set_ne (Ne.symm ak) _ _).set_ne (Ne.symm ak) _ _,(av.out.below S).saveT b0 bd (by decide) (by decide),bm.saveT b0 bd (by decide),⟨[],yK _ _ _ _,rfl,by simp,fun k a=>by simp at a⟩,⟨[],yK _ _ _ _,rfl,by simp,fun k a=>by simp at a⟩,fun b hb=>by simp[Value.ownBlock] at hb,((Pc ar S).setCell (by simp;omega) _).setCell (by simp;omega) _,by omega,by omega,ak⟩
 have a4:=((aj.below S).set_ne (show w.heap.size≠rb by omega) 2 (.int .i64 (zF t c.head.pred:Nat))).set_ne (show w.heap.size≠rb by omega) 3 (.slice C (zK t ns vs [d,j,n,f,m] c.head).qg.length s);generalize (w5.setCell ⟨rb,2,none⟩ (.int .i64 (zF t c.head.pred:Nat))).setCell ⟨rb,3,none⟩ (.slice C (zK t ns vs [d,j,n,f,m] c.head).qg.length s)=w6 at *;clear N bn bq bg ag bm S w5 ac X F av bb ar aj a0 ay aC aB w4;generalize aw:Value.slice C (zK t ns vs [d,j,n,f,m] c.head).qg.length s=htv at *;have bN:=OY aw;clear aw;obtain⟨ac,X,F⟩:=a4.boxed;go_wp2;clear ac X F a4;have x:Hid (kB _ _ _ _ _ _ _ _ _ _ _ _ _ _ _ _ _):=hM;clear hM;go_loopw [40] (fun bO wr=>∃(k:Nat) (plv nlv:Value),k<=c.body.length/\bO=.int .i64 k/\Hid (kB w.heap.size w wr rb (w.heap.size+1) sb st vs.length (zF t c.head.pred) htv plv nlv (zK t ns vs [d,j,n,f,m] c.head).qg (((c.body.take k).filter fun l=>!l.neg).map (zK t ns vs [d,j,n,f,m])) (((c.body.take k).filter fun l=>l.neg).map (zK t ns vs [d,j,n,f,m])) vs [d,j,n,f,m])) (fun i _=>c.body.length-(intOf i).toNat)
 case atStart=>exact⟨0,_,_,zv _,rfl,x⟩
 case round=>
  clear x;obtain⟨k,plv,nlv,hk,rfl,x⟩:=hrel;have A:=x.out.below;have cc:=A.size;by_cases an:k<c.body.length
  ·obtain⟨g,P,y,bQ,hg,b7,b6,b4,bA⟩:=bR.out.cell k an;subst bQ;have bf:c.body[k].args.length<=1000:=by
    have:=pq c.body k an;rw[yq an] at this;simp at this;omega
   have bc:=zl A hg b7;have ck:=zl A hg b6;have cm:=zl A hg b4;have u:g<wr.heap.size:=by omega
   have R:=wT (fun l:zj=>!l.neg) c.body k an;have U:=wT (fun l:zj=>l.neg) c.body k an;have b8:Hid (Pg ad w _ _):=bA;have bP:=D3 t c.body[k].pred;have bX:=bD.out;clear b7 b6 b4 bA;generalize c.body[k]=l at *;have ch:(((c.body.take k).filter fun l=>!l.neg).map (zK t ns vs [d,j,n,f,m])).length<=k:=by
    have:=rm (fun l:zj=>!l.neg) (c.body.take k);simp at this ⊢;omega
   have ca:(((c.body.take k).filter fun l=>l.neg).map (zK t ns vs [d,j,n,f,m])).length<=k:=by
    have:=rm (fun l:zj=>l.neg) (c.body.take k);simp at this ⊢;omega
   cases hn:l.neg with
   |false=>
    rw[hn] at bc;simp only[hn,Bool.not_false,if_true,kL,if_false,qA] at R U;have aS:Hid (((c.body.take (k+1)).filter fun l=>!l.neg).map (zK t ns vs [d,j,n,f,m])=((c.body.take k).filter fun l=>!l.neg).map (zK t ns vs [d,j,n,f,m])++[zK t ns vs [d,j,n,f,m] l]):=by rw[Hid,R,vB];rfl
    have aP:Hid (((c.body.take (k+1)).filter fun l=>l.neg).map (zK t ns vs [d,j,n,f,m])=((c.body.take k).filter fun l=>l.neg).map (zK t ns vs [d,j,n,f,m])):=by rw[Hid,U]
    clear R U;generalize ((c.body.take k).filter fun l=>!l.neg).map (zK t ns vs [d,j,n,f,m])=pls at *;generalize ((c.body.take k).filter fun l=>l.neg).map (zK t ns vs [d,j,n,f,m])=nls at *;have aM:Hid (∀W,Below wr.heap.size wr W->Calls prog 160 #[.pointer (some ⟨mb,0,none⟩),.agg #[.bool false,.string l.pred,.slice P l.args.length y],.pointer (some ⟨sb,0,none⟩)] W fun e O=>∃tv,e=.returned (.agg #[.int .i64 (zF t l.pred:Nat),tv])/\yh W.heap.size O tv (zK t ns vs [d,j,n,f,m] l).qg/\Below W.heap.size W O):=fun W I=>by
     have q:=aY.out W sb l (.slice P l.args.length y) w.heap.size ad (Pc A I) (x.out.scope.below I) (b8.out.below (Pc A I)) bf;rw[hn] at q;exact q
    generalize au:(zK t ns vs [d,j,n,f,m] l).qg=ts at *;have aT:=OY au;have am:Hid ((zK t ns vs [d,j,n,f,m] l).pred=zF t l.pred):=rfl;clear au;generalize zF t l.pred=fn at *;obtain⟨ps,G,E,_,D⟩:=x.out.pln;obtain⟨T,z,aq⟩:=zq G;subst aq;have H:=OY D;clear D;have bi:pls.length<=900:=by omega
    have ae:=OY E;clear E;go_wp2_with (first|(go_at_call 160;refine(aM.out _ (by exact(by go_grown))).mono ?_;rintro e V ⟨tv,rfl,B,af⟩;obtain⟨aJ,ab,rfl⟩:=B.qw;have p:Below wr.heap.size wr V:=(zM (by go_grown) af (zh _));have aO:=(OZ.new wr #[.bool false,.string l.pred,.slice P l.args.length y] 90).below af;obtain⟨ba,bE,bp⟩:=aO.boxed;have J:=x.out.box.below p;obtain⟨aE,a8,a9⟩:=J.boxed;have aX:=p.size;have r:=zE G p)|(at_builtin;refine d8 V _ [.int .i64 fn,.slice aJ ts.length ab] _ rfl (.tmp 56) (.tmp 58) 205 rfl w.heap.size 204 i0 _ 2 32 underlying205 hi bx bt b9 rfl (by decide) (.slice T pls.length z) pls.length (gE ps) rfl r (by exact(by go_grown)) _ _ rfl (by simp) rfl (by simp[Value.oneCell']) (by omega) (by omega) (by omega) ?_;intro v' w3 ah K ai;obtain⟨bL,aZ,rfl⟩:=zq ah;have al:=J.saveT K (Px.own r) (by decide);obtain⟨aN,aU,aH⟩:=al.boxed))
    have aW:kB _ _ _ _ _ _ _ _ _ _ _ _ _ _ _ _ _:=(x.out.next p (zh _)).pushP K ai (ub.push (l:=zK t ns vs [d,j,n,f,m] l) r ae.out (fun k a b=>⟨(H.out k a b).1,(H.out k a b).2.1.below p,(H.out k a b).2.2⟩) (by omega) (by rw[aT.out];exact⟨yr B.own (by simp;omega),B.len,B.num⟩) (by rw[am.out];omega) (by rw[am.out];exact ah) K) (by omega);go_roundw
    case rel=>exact⟨k+1,_,_,by omega,by go_num,by rw[aS.out,aP.out];exact aW⟩
    case measure=>simp[intOf];omega
   |true=>
    rw[hn] at bc;simp only[hn,mt,if_true,kL,if_false,qA] at R U;have aS:Hid (((c.body.take (k+1)).filter fun l=>!l.neg).map (zK t ns vs [d,j,n,f,m])=((c.body.take k).filter fun l=>!l.neg).map (zK t ns vs [d,j,n,f,m]) ):=by rw[Hid,R]
    have aP:Hid (((c.body.take (k+1)).filter fun l=>l.neg).map (zK t ns vs [d,j,n,f,m])=((c.body.take k).filter fun l=>l.neg).map (zK t ns vs [d,j,n,f,m])++[zK t ns vs [d,j,n,f,m] l]):=by rw[Hid,U,vB];rfl
    clear R U;generalize ((c.body.take k).filter fun l=>!l.neg).map (zK t ns vs [d,j,n,f,m])=pls at *;generalize ((c.body.take k).filter fun l=>l.neg).map (zK t ns vs [d,j,n,f,m])=nls at *;have aM:Hid (∀W,Below wr.heap.size wr W->Calls prog 160 #[.pointer (some ⟨mb,0,none⟩),.agg #[.bool true,.string l.pred,.slice P l.args.length y],.pointer (some ⟨sb,0,none⟩)] W fun e O=>∃tv,e=.returned (.agg #[.int .i64 (zF t l.pred:Nat),tv])/\yh W.heap.size O tv (zK t ns vs [d,j,n,f,m] l).qg/\Below W.heap.size W O):=fun W I=>by
     have q:=aY.out W sb l (.slice P l.args.length y) w.heap.size ad (Pc A I) (x.out.scope.below I) (b8.out.below (Pc A I)) bf;rw[hn] at q;exact q
    generalize au:(zK t ns vs [d,j,n,f,m] l).qg=ts at *;have aT:=OY au;have am:Hid ((zK t ns vs [d,j,n,f,m] l).pred=zF t l.pred):=rfl;clear au;generalize zF t l.pred=fn at *;obtain⟨ps,G,E,_,D⟩:=x.out.nln;obtain⟨T,z,aq⟩:=zq G;subst aq;have H:=OY D;clear D;have bi:nls.length<=900:=by omega
    have ae:=OY E;clear E;go_wp2_with (first|(go_at_call 160;refine(aM.out _ (by exact(by go_grown))).mono ?_;rintro e V ⟨tv,rfl,B,af⟩;obtain⟨aJ,ab,rfl⟩:=B.qw;have p:Below wr.heap.size wr V:=(zM (by go_grown) af (zh _));have aO:=(OZ.new wr #[.bool true,.string l.pred,.slice P l.args.length y] 90).below af;obtain⟨ba,bE,bp⟩:=aO.boxed;have J:=x.out.box.below p;obtain⟨aE,a8,a9⟩:=J.boxed;have aX:=p.size;have r:=zE G p)|(at_builtin;refine d8 V _ [.int .i64 fn,.slice aJ ts.length ab] _ rfl (.tmp 50) (.tmp 52) 205 rfl w.heap.size 204 i0 _ 2 32 underlying205 hi bx bt b9 rfl (by decide) (.slice T nls.length z) nls.length (gE ps) rfl r (by exact(by go_grown)) _ _ rfl (by simp) rfl (by simp[Value.oneCell']) (by omega) (by omega) (by omega) ?_;intro v' w3 ah K ai;obtain⟨bL,aZ,rfl⟩:=zq ah;have al:=J.saveT K (Px.own r) (by decide);obtain⟨aN,aU,aH⟩:=al.boxed))
    have aW:kB _ _ _ _ _ _ _ _ _ _ _ _ _ _ _ _ _:=(x.out.next p (zh _)).pushN K ai (ub.push (l:=zK t ns vs [d,j,n,f,m] l) r ae.out (fun k a b=>⟨(H.out k a b).1,(H.out k a b).2.1.below p,(H.out k a b).2.2⟩) (by omega) (by rw[aT.out];exact⟨yr B.own (by simp;omega),B.len,B.num⟩) (by rw[am.out];omega) (by rw[am.out];exact ah) K) (by omega);go_roundw
    case rel=>exact⟨k+1,_,_,by omega,by go_num,by rw[aP.out,aS.out];exact aW⟩
    case measure=>simp[intOf];omega
  ·have bw:k=c.body.length:=by omega
   have bZ:Hid (c.body.take k=c.body):=by rw[Hid,bw,uO]
   rw[bZ.out] at x;have J:=x.out.box;have bv:=x.out.res;obtain⟨aE,a8,a9⟩:=J.boxed;obtain⟨b3,cf,ce⟩:=bv.boxed;have aw:=bN.out;subst aw;obtain⟨T,z,aq⟩:=zq x.out.pln.choose_spec.1;obtain⟨bk,a2,bT⟩:=zq x.out.nln.choose_spec.1;subst aq;subst bT;clear bw;generalize (c.body.filter fun l=>!l.neg).map (zK t ns vs [d,j,n,f,m])=pls at *;generalize (c.body.filter fun l=>l.neg).map (zK t ns vs [d,j,n,f,m])=nls at *;go_wp2
   (try simp only[Exit.inBlock,Exit.then])
   refine zJ (v:=.agg #[.int .i64 st,.int .i64 vs.length,.int .i64 (zF t c.head.pred:Nat),.slice C (zK t ns vs [d,j,n,f,m] c.head).qg.length s,.slice T pls.length z,.slice bk nls.length a2]) (by simp[results,results117,go_sem,b3]) rfl ⟨_,_,_,by rw[HE.out];rfl,?_,?_⟩
   ·have aV:zd [w.heap.size+1] wr ((((((wr.setCell ⟨w.heap.size+1,0,none⟩ (.int .i64 st)).setCell ⟨w.heap.size+1,1,none⟩ (.int .i64 vs.length)).setCell ⟨w.heap.size+1,2,none⟩ (.int .i64 (zF t c.head.pred:Nat))).setCell ⟨w.heap.size+1,3,none⟩ (.slice C (zK t ns vs [d,j,n,f,m] c.head).qg.length s)).setCell ⟨w.heap.size+1,4,none⟩ (.slice T pls.length z)).setCell ⟨w.heap.size+1,5,none⟩ (.slice bk nls.length a2)):=(((((zd.set _ _ _ _).trans (zd.set _ _ _ _)).trans (zd.set _ _ _ _)).trans (zd.set _ _ _ _)).trans (zd.set _ _ _ _)).trans (zd.set _ _ _ _);have aG:=Px.box bv;have bP:=D3 t c.head.pred;have bX:=bD.out;rw[HE.out];exact⟨x.out.head.saveT aV aG (by decide),x.out.pln.saveTT aV aG (by decide) (by decide),x.out.nln.saveTT aV aG (by decide) (by decide),bM,by simp only;omega,by show zF t c.head.pred<=1000000;omega⟩
   ·exact(((((A.setCell (by simp) _).setCell (by simp) _).setCell (by simp) _).setCell (by simp) _).setCell (by simp) _).setCell (by simp) _
end
section
variable {lo:Nat}{w w0:World}{v' mv1 mv2 av fv rv:Value}{rs:List zr}{ps:List (Value×Value×Value)}{sb sr mb wd:Nat}{xs:List Nat}
theorem Oz:(prog.info? 210).map (fun i=>(i.zero,i.size,i.bytes))=some (some (.agg #[.int .i64 0,.int .i64 0,.int .i64 0,.int .i64 0]),4,32):=by kernel_rfl
theorem O8:(prog.info? 207).map (fun i=>(i.zero,i.size,i.bytes))=some (some (.agg #[.int .i64 0,.int .i64 0,.int .i64 0,.slice none 0 0,.slice none 0 0,.slice none 0 0]),6,96):=by kernel_rfl
def pD(f:jt):List Value:=[.int .i64 f.pred,.int .i64 (f.row.getD 0 0:Nat),.int .i64 (f.row.getD 1 0:Nat),.int .i64 (f.row.getD 2 0:Nat)]
def kz(fs:List jt):List Value:=fs.flatMap pD
def nP(r:zr)(p:Value×Value×Value):List Value:=[.int .i64 r.qh,.int .i64 r.vars,.int .i64 r.head.pred,p.1,p.2.1,p.2.2]
def ky(rs:List zr)(ps:List (Value×Value×Value)):List Value:=(List.zipWith nP rs ps).flatten
theorem Kt(fs:List jt)(f:jt):kz (fs++[f])=kz fs++pD f:=by simp[kz]
theorem F0(rs:List zr)(ps:List (Value×Value×Value))(r:zr)(p:Value×Value×Value)(h:ps.length=rs.length):ky (rs++[r]) (ps++[p])=ky rs ps++nP r p:=by
 unfold ky;rw[eL h.symm];simp
def py(lo:Nat)(w:World)(v:Value)(fs:List jt):Prop:=w.ownsRow lo 210 4 v fs.length (kz fs)
structure qd (lo:Nat) (w:World) (v:Value) (rs:List zr) (ps:List (Value×Value×Value)):Prop where
 own:w.ownsRow lo 207 6 v rs.length (ky rs ps)
 len:ps.length=rs.length
 rule:∀k (_:k<rs.length) (_:k<ps.length),uP lo w ps[k].1 ps[k].2.1 ps[k].2.2 rs[k]
 few:rs.length<=1000
theorem qd.below{w d:World}{v:Value}{rs:List zr}{ps:List (Value×Value×Value)}(h:qd lo w v rs ps)(c:Below w.heap.size w d):qd lo d v rs ps:=⟨zE h.own c,h.len,fun k a b=>(h.rule k a b).below c,h.few⟩
theorem qd.saveT{f:Nat}{w i:World}{v:Value}{rs:List zr}{ps:List (Value×Value×Value)}{T:TypeId}{M:List Nat}(h:qd f w v rs ps)(g:zd M w i)(e:Px w T M)(j:284≠T)(d:204≠T)(c:207≠T):qd f i v rs ps:=⟨yE h.own g e c,h.len,fun k a b=>(h.rule k a b).saveT g e j d,h.few⟩
theorem qd.push{d:Nat}{e:World}{v:Value}{r:zr}{p:Value×Value×Value}(h:qd d w v rs ps)(m:rs.length+1<=1000)(n:uP d w p.1 p.2.1 p.2.2 r)(j:e.ownsRow d 207 6 v' (rs.length+1) (ky rs ps++nP r p))(g:zd v.ownBlock.toList w e):qd d e v' (rs++[r]) (ps++[p]):=by
 have f:=Px.own h.own;refine⟨by rw[F0 _ _ _ _ h.len,yz];exact j,by simp[h.len],fun k a b=>?_,by simpa using m⟩;by_cases i:k<rs.length
 ·have c:k<ps.length:=by have:=h.len;omega
  rw[uT i,uT c];exact(h.rule k i c).saveT g f (by decide) (by decide)
 ·obtain rfl:k=rs.length:=by simp at a;omega
  have l:=h.len;simp only[←l,pR];exact n.saveT g f (by decide) (by decide)
theorem qd.cell{w:World}{j:Option Addr}{n cap:Nat}{rs:List zr}{ps:List (Value×Value×Value)}(h:qd lo w (.slice j n cap) rs ps)(k:Nat)(y:k<rs.length)(e:k<ps.length):∃g,j=some ⟨g,0,none⟩/\g<w.heap.size/\w.cell? ⟨g,k*6,none⟩=some (.int .i64 (rs[k].qh:Nat))/\w.cell? ⟨g,k*6+1,none⟩=some (.int .i64 (rs[k].vars:Nat))/\w.cell? ⟨g,k*6+2,none⟩=some (.int .i64 (rs[k].head.pred:Nat))/\w.cell? ⟨g,k*6+3,none⟩=some ps[k].1/\w.cell? ⟨g,k*6+4,none⟩=some ps[k].2.1/\w.cell? ⟨g,k*6+5,none⟩=some ps[k].2.2:=by
 obtain⟨g,i,f,_,t,b⟩:=y7 h.own (by omega);simp at f;have d:∀(rs:List zr) (ps:List (Value×Value×Value)) (k:Nat) (a:k<rs.length) (c:k<ps.length),(ky rs ps)[k*6]?=some (.int .i64 (rs[k].qh:Nat))/\(ky rs ps)[k*6+1]?=some (.int .i64 (rs[k].vars:Nat))/\(ky rs ps)[k*6+2]?=some (.int .i64 (rs[k].head.pred:Nat))/\(ky rs ps)[k*6+3]?=some ps[k].1/\(ky rs ps)[k*6+4]?=some ps[k].2.1/\(ky rs ps)[k*6+5]?=some ps[k].2.2:=by
  intro rs;induction rs with
  |nil=>intro ps k a;simp at a
  |cons r l s=>
   intro ps k a c;match ps,k,a,c with
   |p::ps,0,_,_=>simp[ky,nP]
   |p::ps,k+1,a,c=>
    have:=s ps k (by simpa using a) (by simpa using c);simp only[ky,ly,lV] at this ⊢;rw[show(k+1)*6=k*6+6 from by omega];have m:k*6+6=(nP r p).length+k*6:=by simp[nP];omega
    rw[m];simp only[Nat.add_assoc,g6 (Nat.le_add_right _ _),sK];simpa using this
 obtain⟨q,x,v,o,z,u⟩:=d rs ps k y e;exact⟨g,f.1,t,b _ _ q,b _ _ x,b _ _ v,b _ _ o,b _ _ z,b _ _ u⟩
theorem oI:∀(fs:List jt) (k:Nat) (h:k<fs.length),(kz fs)[k*4]?=some (.int .i64 (fs[k].pred:Nat))/\(kz fs)[k*4+1]?=some (.int .i64 (fs[k].row.getD 0 0:Nat))/\(kz fs)[k*4+2]?=some (.int .i64 (fs[k].row.getD 1 0:Nat))/\(kz fs)[k*4+3]?=some (.int .i64 (fs[k].row.getD 2 0:Nat))
 |[],k,h=>by simp at h
 |f::l,0,_=>by simp[kz,pD]
 |f::l,k+1,h=>by
  have:=oI l k (by simpa using h);simp only[kz,us] at this ⊢;rw[show(k+1)*4=k*4+4 from by omega];have a:k*4+4=(pD f).length+k*4:=by simp[pD];omega
  rw[a];simp only[Nat.add_assoc,g6 (Nat.le_add_right _ _),sK];simpa using this
def uJ(t:List zg)(ns:List ByteArray)(a:Option (List (Option (List Int))))(cs:List zc):List zr:=cs.zipIdx.filterMap fun x=>if x.1.body.length>0 then some (gT t ns x.1 (vA a x.2)) else none
def vy(t:List zg)(ns:List ByteArray)(cs:List zc):List jt:=(cs.filter fun c=>!decide (c.body.length>0)).map (vF t ns)
def qF(t:List zg)(ns:List ByteArray)(a:Option (List (Option (List Int))))(cs:List zc):qU:={qf:=ns.length,qj:=t.map (·.jf),facts:=vy t ns cs,rules:=uJ t ns a cs}
theorem JS(t:List zg)(ns:List ByteArray)(a:Option (List (Option (List Int))))(cs:List zc)(k:Nat)(b:k<cs.length):uJ t ns a (cs.take (k+1))=uJ t ns a (cs.take k)++(if cs[k].body.length>0 then [gT t ns cs[k] (vA a k)] else []):=by
 unfold uJ;rw[yM b,List.zipIdx_append,rE];congr 1;simp only[List.zipIdx_singleton,qa,uL,List.filterMap_cons,List.filterMap_nil];rw[gP (by omega)];by_cases h:cs[k].body.length>0
 ·rw[zb h,zb h]
 ·rw[za h,za h]
theorem N5(t:List zg)(ns:List ByteArray)(cs:List zc)(k:Nat)(a:k<cs.length):vy t ns (cs.take (k+1))=vy t ns (cs.take k)++(if cs[k].body.length>0 then [] else [vF t ns cs[k]]):=by
 unfold vy;rw[wT _ _ _ a,vB];congr 1;by_cases h:cs[k].body.length>0
 ·simp[h]
 ·simp[h]
theorem IZ(t:List zg)(ns:List ByteArray)(a:Option (List (Option (List Int))))(cs:List zc):(uJ t ns a cs).length<=cs.length:=by
 have:=ra (fun x:zc×Nat=>if x.1.body.length>0 then some (gT t ns x.1 (vA a x.2)) else none) cs.zipIdx;simpa [uJ] using this
theorem Ic(t:List zg)(ns:List ByteArray)(cs:List zc):(vy t ns cs).length<=cs.length:=by
 unfold vy;rw[uH];exact rm _ _
structure j5 (B:Nat) (w0 w:World) (sb sr mb:Nat) (mv1 mv2 av fv rv:Value) (wd:Nat) (xs:List Nat) (fs:List jt) (rs:List zr) (ps:List (Value×Value×Value)):Prop where
 box:OZ w sb #[.int .i64 wd,av,fv,rv] 146
 res:OZ w sr #[.int .i64 0,.slice none 0 0,.slice none 0 0,.slice none 0 0] 146
 mak:OZ w mb #[mv1,mv2] 200
 ari:w.ownsRow B 3 1 av xs.length (xs.map PF)
 fac:py B w fv fs
 rul:qd B w rv rs ps
 below:Below B w0 w
 low:B<=sb/\B<=sr/\sb≠sr
theorem j5.next{B:Nat}{b:World}{fs:List jt}(h:j5 B w0 w sb sr mb mv1 mv2 av fv rv wd xs fs rs ps)(a:Below w.heap.size w b)(c:B<=w0.heap.size):j5 B w0 b sb sr mb mv1 mv2 av fv rv wd xs fs rs ps:=
 ⟨h.box.below a,h.res.below a,h.mak.below a,zE h.ari a,zE h.fac a,h.rul.below a,zM h.below a c,h.low⟩
theorem j5.pushF{B:Nat}{e:World}{fs g:List jt}(h:j5 B w0 w sb sr mb mv1 mv2 av fv rv wd xs fs rs ps)(c:zd fv.ownBlock.toList w e)(k:py B e v' g)(i:B<=w.heap.size):j5 B w0 (e.setCell ⟨sb,2,none⟩ v') sb sr mb mv1 mv2 av v' rv wd xs g rs ps:=by
 have d:=Px.own h.fac;have f:=h.box.saveT c d (by decide);have b:=Px.box f;have a:zd [sb] e (e.setCell ⟨sb,2,none⟩ v'):=zd.set _ _ _ _;have l:=f.set 2 v';exact⟨by simpa using l,(h.res.saveT c d (by decide)).set_ne (Ne.symm h.low.2.2) _ _,(h.mak.saveT c d (by decide)).saveT a b (by decide),yE (yE h.ari c d (by decide)) a b (by decide),yE k a b (by decide),(h.rul.saveT c d (by decide) (by decide) (by decide)).saveT a b (by decide) (by decide) (by decide),(h.below.trans (c.below (fun x j=>yW h.fac (yv j)) i)).setCell h.low.1 _,h.low⟩
theorem j5.pushR{B:Nat}{e:World}{fs:List jt}{i:List zr}{f:List (Value×Value×Value)}(h:j5 B w0 w sb sr mb mv1 mv2 av fv rv wd xs fs rs ps)(c:zd rv.ownBlock.toList w e)(k:qd B e v' i f)(j:B<=w.heap.size):j5 B w0 (e.setCell ⟨sb,3,none⟩ v') sb sr mb mv1 mv2 av fv v' wd xs fs i f:=by
 have d:=Px.own h.rul.own;have g:=h.box.saveT c d (by decide);have b:=Px.box g;have a:zd [sb] e (e.setCell ⟨sb,3,none⟩ v'):=zd.set _ _ _ _;have m:=g.set 3 v';exact⟨by simpa using m,(h.res.saveT c d (by decide)).set_ne (Ne.symm h.low.2.2) _ _,(h.mak.saveT c d (by decide)).saveT a b (by decide),yE (yE h.ari c d (by decide)) a b (by decide),yE (yE h.fac c d (by decide)) a b (by decide),k.saveT a b (by decide) (by decide) (by decide),(h.below.trans (c.below (fun x l=>yW h.rul.own (yv l)) j)).setCell h.low.1 _,h.low⟩
structure kP (lo:Nat) (w:World) (av fv rv:Value) (S:qU) (ps:List (Value×Value×Value)):Prop where
 ari:w.ownsRow lo 3 1 av S.qj.length (S.qj.map PF)
 fac:py lo w fv S.facts
 rul:qd lo w rv S.rules ps
end
section
variable {lo:Nat}
def Oc(w:World)(S:qU)(e:Ending)(d:World):Prop:=∃c a b f,e=.returned (.agg #[.int .i64 S.qf,c,a,b])/\kP w.heap.size d c a b S f/\Below w.heap.size w d
def Qx(t:List zg)(k:Nat):List Nat:=(t.take k).map (·.jf)++List.replicate (t.length-k) 0
theorem iK(t:List zg)(k:Nat)(a:k<=t.length):(Qx t k).length=t.length:=by simp[Qx];omega
theorem It(t:List zg)(k:Nat)(a:k<t.length):(Qx t k).set k (xI t k)=Qx t (k+1):=by
 have e:xI t k=t[k].jf:=by simp[xI,a]
 obtain⟨m,b⟩:∃m,t.length-k=m+1:=⟨t.length-k-1,by omega⟩;unfold Qx;rw[e,fA _ _ (by simp;omega),uH,qa,gP (by omega),jK,b,pN,rp,yM a,vB,show t.length-(k+1)=m from by omega,ki];rfl
theorem J4(t:List zg):Qx t t.length=t.map (·.jf):=by simp[Qx]
theorem Kr{ai:Nat}(w:World)(tb o A:Nat)(t:List zg)(ns:List ByteArray)(cs:List zc)(cv ov:Value)(m:Option (List (Option (List Int))))(hT:TG lo w tb o t)(hC:lA lo w A ns)(b6:t.length<=1000)(bv:ns.length<=1000)(au:PE ai 171 w cv cs)(aJ:∀c∈cs,c.head.args.length+xi c.body<=1000/\c.body.length<=900)(bM:cs.length<=1000)(ho:dW w ov m)(bh:(m.getD []).length<=2000000)(aA:∀o∈m.getD [],(o.getD []).length<=1000)(aI:∀n,xz t n<=1000000):
  Calls prog 73 #[cv,.pointer (some ⟨tb,o,none⟩),.pointer (some ⟨A,0,none⟩),ov] w fun e R=>Oc w (qF t ns m cs) e R:=by
 obtain⟨iI,bm,b1,aD,aZ⟩:=info_parts ON;obtain⟨iF,bn,bw,a7,aN⟩:=info_parts Oz;obtain⟨iR,b0,bu,aw,aV⟩:=info_parts O8;obtain⟨bO,bA,rfl⟩:=au.qw;obtain⟨bE,bB,rfl⟩:=ho.qw;have a6:=OY fun W h=>NY W A ns (hC.below h);have a8:=OY fun W h=>L7 lo W tb o t (hT.below h);have aG:=OY fun W i h=>AW lo W tb o t i (hT.below h);have bk:=OY fun W k h=>MQ W _ m k (ho.below h) bh;have bg:Hid (∀k,((vA m k).getD []).length<=1000):=fun k=>by
  unfold vA;by_cases hk:k<(m.getD []).length
  ·rw[gV,yq hk];exact aA _ (zu hk)
  ·rw[gV,kR (by omega)];simp
 have ay:Hid (∀W mb,Below w.heap.size w W->OZ W mb #[.pointer (some ⟨tb,o,none⟩),.pointer (some ⟨A,0,none⟩)] 200->mh lo W mb tb o A t ns):=fun W mb h hb=>⟨hb,hT.below h,hC.below h,b6,bv⟩;have bi:=OY au;have bo:=OY aJ;have br:=OY aI;have HE:Hid (qF t ns m cs={qf:=ns.length,qj:=t.map (·.jf),facts:=vy t ns cs,rules:=uJ t ns m cs}):=rfl;have aK:=fun W:World=>run_make (P:=prog) (w:=W) 24 3 iI _ underlying24 bm b1 .i64 .i64 (t.length:Int) (t.length:Int) (by omega) (Int.le_refl _) (by rw[aZ];omega) (by omega);rw[aD] at aK;clear hT hC au ho aJ aA aI;go_enter func73,ntmps73;go_upto_region 3 with (first|(go_at_call 114;refine(a6.out _ (by exact(by go_grown))).mono ?_;rintro e w1 ⟨rfl,z⟩;obtain rfl:=z.symm)|(go_at_call 115;refine(a8.out _ (by exact(by go_grown))).mono ?_;rintro e w1 ⟨rfl,z⟩;obtain rfl:=z.symm))
 have hM:j5 w.heap.size w ((((w.alloc (.cells #[.int .i64 0,.slice none 0 0,.slice none 0 0,.slice none 0 0] 146)).alloc (.cells #[.pointer (some ⟨tb,o,none⟩),.pointer (some ⟨A,0,none⟩)] 200)).alloc (.cells (madeCells #[.int .i64 0] t.length) 3)).alloc (.cells #[.int .i64 ns.length,.slice (some ⟨w.heap.size+1+1,0,none⟩) t.length t.length,.slice none 0 0,.slice none 0 0] 146)) (w.heap.size+1+1+1) w.heap.size (w.heap.size+1) (.pointer (some ⟨tb,o,none⟩)) (.pointer (some ⟨A,0,none⟩)) (.slice (some ⟨w.heap.size+1+1,0,none⟩) t.length t.length) (.slice none 0 0) (.slice none 0 0) ns.length (Qx t 0) [] [] []:=by
  refine⟨(OZ.new _ _ _).at' (by simp),((((OZ.new w _ _).up _).up _).up _),((((OZ.new _ _ _).up _).up _).at' (by simp)),?_,yK _ _ _ _,⟨yK _ _ _ _,rfl,fun k a=>by simp at a,by simp⟩,(by go_grown),by omega,by omega,by omega⟩;have q:=Dw ((w.alloc (.cells #[.int .i64 0,.slice none 0 0,.slice none 0 0,.slice none 0 0] 146)).alloc (.cells #[.pointer (some ⟨tb,o,none⟩),.pointer (some ⟨A,0,none⟩)] 200)) t.length 3 (by unfold maxLen;omega);simp only[World.size_alloc] at q;have q2:=zE (yr q (show w.heap.size<=w.heap.size+1+1 by omega)) ((zo _ _).alloc (zh _) (.cells #[.int .i64 ns.length,.slice (some ⟨w.heap.size+1+1,0,none⟩) t.length t.length,.slice none 0 0,.slice none 0 0] 146));rw[iK t 0 (by omega),show Qx t 0=List.replicate t.length 0 from by simp[Qx]];exact q2
 generalize (((w.alloc (.cells #[.int .i64 0,.slice none 0 0,.slice none 0 0,.slice none 0 0] 146)).alloc (.cells #[.pointer (some ⟨tb,o,none⟩),.pointer (some ⟨A,0,none⟩)] 200)).alloc (.cells (madeCells #[.int .i64 0] t.length) 3)).alloc (.cells #[.int .i64 ns.length,.slice (some ⟨w.heap.size+1+1,0,none⟩) t.length t.length,.slice none 0 0,.slice none 0 0] 146)=w3 at *;clear aK a6 a8;have aM:=hM.box;obtain⟨ap,aH,ba⟩:=aM.boxed;go_wp2;clear ap aH ba aM;have d:Hid (j5 _ _ _ _ _ _ _ _ _ _ _ _ _ _ _ _):=hM;clear hM;go_loopw [29] (fun bs wr=>∃k:Nat,k<=t.length/\bs=.int .i64 k/\Hid (j5 w.heap.size w wr (w.heap.size+1+1+1) w.heap.size (w.heap.size+1) (.pointer (some ⟨tb,o,none⟩)) (.pointer (some ⟨A,0,none⟩)) (.slice (some ⟨w.heap.size+1+1,0,none⟩) t.length t.length) (.slice none 0 0) (.slice none 0 0) ns.length (Qx t k) [] [] [])) (fun i _=>t.length-(intOf i).toNat)
 case atStart=>exact⟨0,zv _,rfl,d⟩
 case round=>
  clear d;obtain⟨k,hk,rfl,d⟩:=hrel;have b:=d.out.below;have T:=b.size;by_cases x:k<t.length
  ·have ac:=d.out.box;obtain⟨ap,aH,ba⟩:=ac.boxed;have bN:wr.cell? ⟨w.heap.size+1+1+1,1,none⟩=some (.slice (some ⟨w.heap.size+1+1,0,none⟩) t.length t.length):=by rw[ap];rfl
   have J:=d.out.ari;have af:=iK t k hk;have bU:(k:Int)<(t.length:Int):=by omega
   obtain⟨g',bC,an,_,bH,V⟩:=y7 J (by omega);simp only[Value.slice.injEq,zs,Addr.mk.injEq,and_true] at an;have bf:=an.1;clear an;subst bf;obtain⟨ax,bI⟩:∃ax:Nat,wr.cell? ⟨w.heap.size+1+1,k,none⟩=some (.int .i64 ax):=⟨_,V k (.int .i64 ((Qx t k)[k]'(by omega):Nat)) (by simp[PF,af,x])⟩;have bR:=qt J;have X:=uK J k (by simp;omega) (.int .i64 (xI t k:Nat));have be:Hid (((Qx t k).map PF).set k (.int .i64 (xI t k:Nat))=(Qx t (k+1)).map PF):=by rw[Hid,←It t k x,fu];rfl
   rw[be.out,af] at X;have a3:=OY fun W h=>aG.out W k (Pc b h);clear V af;generalize xI t k=ar at *;go_wp2;go_region_held3 (fun R=>R.cell? ⟨w.heap.size+1+1+1,1,none⟩=some (.slice (some ⟨w.heap.size+1+1,0,none⟩) t.length t.length)) (first|go_keep|(go_simp;done)) (first|(go_at_call 80;refine(a3.out _ (by exact(by go_grown))).mono ?_;rintro e w4 ⟨rfl,z⟩;obtain rfl:=z.symm))
   go_wp2;have K:j5 w.heap.size w (wr.setCell ⟨w.heap.size+1+1,k,none⟩ (.int .i64 ar)) (w.heap.size+1+1+1) w.heap.size (w.heap.size+1) (.pointer (some ⟨tb,o,none⟩)) (.pointer (some ⟨A,0,none⟩)) (.slice (some ⟨w.heap.size+1+1,0,none⟩) t.length t.length) (.slice none 0 0) (.slice none 0 0) ns.length (Qx t (k+1)) [] [] []:=
    ⟨d.out.box.set_ne (by omega) _ _,d.out.res.set_ne (by omega) _ _,d.out.mak.set_ne (by omega) _ _,by rw[iK t (k+1) (by omega)];exact X,yK _ _ _ _,⟨yK _ _ _ _,rfl,fun k a=>by simp at a,by simp⟩,b.setCell (by simp;omega) _,d.out.low⟩
   go_roundw
   case rel=>exact⟨k+1,by omega,by go_num,K.next ((zo _ _).drew) (zh _)⟩
   case measure=>simp[intOf];omega
  ·have bz:k=t.length:=by omega
   subst bz;rw[J4] at d;clear hk x aG;go_wp2;go_loopw [42] (fun bp wr=>∃(k:Nat) (fv rv:Value) (ps:List (Value×Value×Value)),k<=cs.length/\bp=.int .i64 k/\Hid (j5 w.heap.size w wr (w.heap.size+1+1+1) w.heap.size (w.heap.size+1) (.pointer (some ⟨tb,o,none⟩)) (.pointer (some ⟨A,0,none⟩)) (.slice (some ⟨w.heap.size+1+1,0,none⟩) t.length t.length) fv rv ns.length (t.map (·.jf)) (vy t ns (cs.take k)) (uJ t ns m (cs.take k)) ps)) (fun i _=>cs.length-(intOf i).toNat)
   case atStart=>exact⟨0,_,_,_,zv _,rfl,d⟩
   case round=>
    clear d b T;obtain⟨k,fv,rv,ps,hk,rfl,d⟩:=hrel;have b:=d.out.below;have T:=b.size;by_cases x:k<cs.length
    ·obtain⟨g,a0,S,a1,Z,b2,hg,aT,aS,aQ,a4,aY,aO⟩:=bi.out.cell k x;subst b2;have bF:=zl b hg aT;have bL:=zl b hg aS;have bP:=zl b hg aQ;have bD:=zl b hg a4;have bG:g<wr.heap.size:=by omega
     obtain⟨b4,bt⟩:=bo.out cs[k] (zu x);have F:=N5 t ns cs k x;have E:=JS t ns m cs k x;have aW:Hid (Pg ai w _ _):=aY;have aE:Hid (PB ai w _ _):=aO;have bx:=Ic t ns (cs.take k);have aB:=IZ t ns m (cs.take k);rw[qa,gP (by omega)] at bx aB;clear aT aS aQ a4 aY aO;generalize cs[k]=c at *;by_cases bd:c.body.length>0
     ·have aR:(c.body.length:Int)>0:=by omega
      simp only[bd,if_true,qA] at F E;have ao:=OY F;have al:=OY E;clear F E;generalize vy t ns (cs.take k)=D at *;generalize uJ t ns m (cs.take k)=rs at *;have aU:=OY fun W u h hu=>Ib W (w.heap.size+1) tb o A t ns c _ _ u (vA m k) (ay.out W _ (Pc b h) (d.out.mak.below h)) (aW.out.below (Pc b h)) (aE.out.below (Pc b h)) b4 bt hu (bg.out k) (br.out _);have aX:=OY fun W h=>bk.out W k (Pc b h);generalize gT t ns c (vA m k)=r at *;have y:=d.out.rul.own;obtain⟨N,C,ah⟩:=zq y;subst ah;have bc:Hid (∀W u,Below wr.heap.size wr W->jR W u (vA m k)->Calls prog 117 #[.pointer (some ⟨w.heap.size+1,0,none⟩),.agg #[.bool c.head.neg,.string c.head.pred,.slice a0 c.head.args.length S,.slice a1 c.body.length Z],u] W fun e R=>∃tv pv nv,e=.returned (.agg #[.int .i64 r.qh,.int .i64 r.vars,.int .i64 r.head.pred,tv,pv,nv])/\uP W.heap.size R tv pv nv r/\Below W.heap.size W R):=aU;clear aU;go_wp2_with (first|(go_at_call 116;refine(aX.out _ (by exact(by go_grown))).mono ?_;rintro e w1 ⟨u,rfl,hu,z⟩;obtain rfl:=z.symm;obtain⟨bS,b9,rfl⟩:=hu.qw)|(go_at_call 117;refine(bc.out _ _ (by exact(by go_grown)) hu).mono ?_;rintro e w2 ⟨tv,pv,nv,rfl,M,ak⟩;obtain⟨a9,U,rfl⟩:=M.head.qw;obtain⟨a5,Y,rfl⟩:=M.qc.qw;obtain⟨a2,Q,rfl⟩:=M.qp.qw;have l:Below wr.heap.size wr w2:=(zM (by go_grown) ak (zh _));have s:=d.out.box.below l;obtain⟨av,aj,am⟩:=s.boxed;have b5:=l.size;have j:=zE y l)|(at_builtin;refine d8 w2 _ [.int .i64 r.qh,.int .i64 r.vars,.int .i64 r.head.pred,.slice a9 r.head.qg.length U,.slice a5 r.qc.length Y,.slice a2 r.qp.length Q] _ rfl (.tmp 58) (.tmp 60) 144 rfl w.heap.size 207 iR _ 6 96 underlying144 b0 bu aw aV rfl (by decide) (.slice N rs.length C) rs.length (ky rs ps) rfl j (by exact(by go_grown)) _ _ rfl (by simp) rfl (by simp[Value.oneCell']) (by omega) (by omega) (by omega) ?_;intro v' w3 I G aP;obtain⟨aF,O,rfl⟩:=zq I;have H:=s.saveT G (Px.own j) (by decide);obtain⟨aq,ae,aa⟩:=H.boxed))
      have az:uP w.heap.size w2 _ _ _ r:=M.low (show w.heap.size<=_ by simp;omega);have K:j5 _ _ _ _ _ _ _ _ _ _ _ _ _ _ _ _:=(d.out.next l (zh _)).pushR G (qd.push (r:=r) (p:=(.slice a9 r.head.qg.length U,.slice a5 r.qc.length Y,.slice a2 r.qp.length Q)) (d.out.rul.below l) (by omega) az I G) (by omega);go_roundw
      case rel=>exact⟨k+1,_,_,_,by omega,by go_num,by rw[ao.out,al.out];exact K⟩
      case measure=>simp[intOf];omega
     ·have aR:¬(c.body.length:Int)>0:=by omega
      simp only[bd,if_false,qA] at F E;have ao:=OY F;have al:=OY E;clear F E;generalize vy t ns (cs.take k)=D at *;generalize uJ t ns m (cs.take k)=rs at *;have bb:=OY fun W h=>Np W (w.heap.size+1) tb o A t ns c _ _ (ay.out W _ (Pc b h) (d.out.mak.below h)) (aW.out.below (Pc b h)) (aE.out.below (Pc b h)) (by omega);generalize vF t ns c=f at *;have aC:Hid (∀W,Below wr.heap.size wr W->Calls prog 118 #[.pointer (some ⟨w.heap.size+1,0,none⟩),.agg #[.bool c.head.neg,.string c.head.pred,.slice a0 c.head.args.length S,.slice a1 c.body.length Z]] W fun e R=>e=.returned (.agg #[.int .i64 f.pred,.int .i64 (f.row.getD 0 0:Nat),.int .i64 (f.row.getD 1 0:Nat),.int .i64 (f.row.getD 2 0:Nat)])/\Below W.heap.size W R):=bb;have b7:Hid (kz (D++[f])=kz D++[.int .i64 f.pred,.int .i64 (f.row.getD 0 0:Nat),.int .i64 (f.row.getD 1 0:Nat),.int .i64 (f.row.getD 2 0:Nat)]):=Kt D f;clear bb;generalize f.row.getD 0 0=f0 at *;generalize f.row.getD 1 0=f1 at *;generalize f.row.getD 2 0=f2 at *;have y:wr.ownsRow w.heap.size 210 4 fv D.length (kz D):=d.out.fac;obtain⟨L,B,ad⟩:=zq y;subst ad;go_wp2_with (first|(go_at_call 118;refine(aC.out _ (by exact(by go_grown))).mono ?_;rintro e w2 ⟨rfl,ak⟩;have l:Below wr.heap.size wr w2:=(zM (by go_grown) ak (zh _));have s:=d.out.box.below l;obtain⟨av,aj,am⟩:=s.boxed;have b5:=l.size;have j:=zE y l)|(at_builtin;refine d8 w2 _ [.int .i64 f.pred,.int .i64 f0,.int .i64 f1,.int .i64 f2] _ rfl (.tmp 66) (.tmp 68) 143 rfl w.heap.size 210 iF _ 4 32 underlying143 bn bw a7 aN rfl (by decide) (.slice L D.length B) D.length (kz D) rfl j (by exact(by go_grown)) _ _ rfl (by simp) rfl (by simp[Value.oneCell']) (by omega) (by omega) (by omega) ?_;intro v' w3 I G aP;obtain⟨aF,O,rfl⟩:=zq I;have H:=s.saveT G (Px.own j) (by decide);obtain⟨aq,ae,aa⟩:=H.boxed))
      have bq:py w.heap.size w3 (.slice aF (D.length+1) O) (D++[f]):=by
       unfold py;rw[b7.out,yz];exact I
      have K:j5 _ _ _ _ _ _ _ _ _ _ _ _ _ _ _ _:=(d.out.next l (zh _)).pushF G bq (by omega);go_roundw
      case rel=>exact⟨k+1,_,_,_,by omega,by go_num,by rw[ao.out,al.out];exact K⟩
      case measure=>simp[intOf];omega
    ·have b8:Hid (cs.take k=cs):=by rw[Hid,xk (by omega)]
     rw[b8.out] at d;have ac:=d.out.box;have aL:=d.out.res;obtain⟨bQ,bJ,bT⟩:=ac.boxed;obtain⟨b3,bK,aB⟩:=aL.boxed;obtain⟨L,B,ad⟩:=zq d.out.fac;obtain⟨N,C,ah⟩:=zq d.out.rul.own;subst ad;subst ah;generalize vy t ns cs=D at *;generalize uJ t ns m cs=rs at *;go_wp2
     (try simp only[Exit.inBlock,Exit.then])
     refine zJ (v:=.agg #[.int .i64 ns.length,.slice (some ⟨w.heap.size+1+1,0,none⟩) t.length t.length,.slice L D.length B,.slice N rs.length C]) (by simp[results,results73,go_sem,b3]) rfl ⟨_,_,_,ps,by rw[HE.out],?_,?_⟩
     ·have ag:zd [w.heap.size] wr ((((wr.setCell ⟨w.heap.size,0,none⟩ (.int .i64 ns.length)).setCell ⟨w.heap.size,1,none⟩ (.slice (some ⟨w.heap.size+1+1,0,none⟩) t.length t.length)).setCell ⟨w.heap.size,2,none⟩ (.slice L D.length B)).setCell ⟨w.heap.size,3,none⟩ (.slice N rs.length C)):=(((zd.set _ _ _ _).trans (zd.set _ _ _ _)).trans (zd.set _ _ _ _)).trans (zd.set _ _ _ _);have ab:=Px.box aL;rw[HE.out];exact⟨yE d.out.ari ag ab (by decide),yE d.out.fac ag ab (by decide),d.out.rul.saveT ag ab (by decide) (by decide) (by decide)⟩
     ·exact(((b.setCell (by simp) _).setCell (by simp) _).setCell (by simp) _).setCell (by simp) _
end
end Go.Proofs.YteampbddflhngaaGreat
