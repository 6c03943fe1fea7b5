import Derived.Test.YteampbddflhngaaGreatQ05
import Derived.Test.YteampbddflhngaaGreatQ09
import Derived.Test.YteampbddflhngaaGreatQ10
namespace Go.Proofs.YteampbddflhngaaGreat
set_option linter.all false
set_option maxRecDepth 100000
set_option maxHeartbeats 4000000
section
open Go.Proofs.Tryz Go.RowKit
variable {lo:Nat}{w0 w:World}{rb rr sb st va hp:Nat}{htv plv nlv v':Value}{ht:List yd}{pls nls:List zw}{vs:κ}{pl:List Nat}
def Ro:(prog.info? 204).map (λi=>(i.zero,i.size,i.bytes))=some (some (.agg #[ι 0,ν]),2,32):=by kernel_rfl
def vi(t:List zg)(ns:κ)(c:zd)(o:Option (List Int)):zs:=
 {qh:=xH t c.head.pred,vars:=(zx c).length,head:=zK t ns (zx c) (yG (o.getD [])) c.head,qc:=(c.body.filter λl=>!l.neg).map (zK t ns (zx c) (yG (o.getD []))),qw:=(c.body.filter λl=>l.neg).map (zK t ns (zx c) (yG (o.getD [])))}
def Kq(ps:List (Nat×Value))(x:Nat×Value):dF (ps++[x])=dF ps++[ι (x.1:Nat),x.2]:=by simp[dF]
structure kT (B:Nat) (w0 w:World) (rb rr sb st va hp:Nat) (htv plv nlv:Value) (ht:List yd) (pls nls:List zw) (vs:κ) (pl:List Nat):Prop where
 box:Rz w rb #[ι st,ι va,ι hp,htv,plv,nlv] 207
 res:Rz w rr #[ι 0,ι 0,ι 0,ν,ν,ν] 207
 scope:gJ B w sb vs pl
 head:yn B w htv ht
 pln:ui B w plv pls
 nln:ui B w nlv nls
 apart:∀b,plv.ownBlock=some b->nlv.ownBlock≠some b
 below:Below B w0 w
 low:B<=rb/\B<=rr/\rb≠rr
def kT.next{B:Nat}{w':World}(h:kT B w0 w rb rr sb st va hp htv plv nlv ht pls nls vs pl)(a:μ w w')(b:B<=w0.heap.size):kT B w0 w' rb rr sb st va hp htv plv nlv ht pls nls vs pl:=
 ⟨h.box.below a,h.res.below a,h.scope.below a,h.head.below a,h.pln.below a,h.nln.below a,h.apart,zM h.below a b,h.low⟩
def gJ.saveT{a:Nat}{w w':World}{sb:Nat}{vs:κ}{pl:List Nat}{T:TypeId}{M:List Nat}(h:gJ a w sb vs pl)(hs:zc M w w')(b:RL w T M)(l:257≠T)(n:9≠T):gJ a w' sb vs pl:=by
 obtain⟨d,c,f,j,i,g,m,k,e⟩:=h;exact⟨d,c,f,j,i,g,m,k.saveT hs b l,yI e hs b n⟩
def ui.push{e:Nat}{w':World}{v:Value}{c:List zw}{ps:List (Nat×Value)}{l:zw}{tv:Value}(j:w.ownsRow e 204 2 v c.length (dF ps))(h:ps.length=c.length)(g:∀k (j:k<c.length) (h:k<ps.length),ps[k].1=c[k].pred/\yn e w ps[k].2 c[k].qg/\c[k].pred<=1000000)(n:c.length+1<=1000)(o:yn e w tv l.qg)(hp:l.pred<=1000000)
  (m:w'.ownsRow e 204 2 v' (c.length+1) (dF ps++[ι l.pred,tv])) (hs:zc v.ownBlock.toList w w'):ui e w' v' (c++[l]):=by
 have i:=RL.own j;refine⟨ps++[(l.pred,tv)],by rw[Kq,yC];exact m,by simp[h],by simpa using n,λk a b=>?_⟩;by_cases f:k<c.length;have d:k<ps.length:=by omega
 rw[uD f,uD d];exact⟨(g k f d).1,(g k f d).2.1.saveT hs i (by decide),(g k f d).2.2⟩;obtain rfl:k=c.length:=by simp at a;omega
 simp only[←h,nK];exact⟨trivial,o.saveT hs i (by decide),hp⟩
def kT.pushP{B:Nat}{k:World}{d:List zw}(h:kT B w0 w rb rr sb st va hp htv plv nlv ht pls nls vs pl)(hs:zc plv.ownBlock.toList w k)(m:v'.ownBlock=plv.ownBlock∨∃g,v'.ownBlock=some g/\w.heap.size<=g)(q:ui B k v' d)(r:B<=w.heap.size):kT B w0 (k.setCell ⟨rb,4,none⟩ v') rb rr sb st va hp htv v' nlv ht d nls vs pl:=by
 obtain⟨z,o,_⟩:=h.pln;have i:=RL.own o;have l:=h.box.saveT hs i (by decide);have c:=RL.box l;have a:zc [rb] k (k.setCell ⟨rb,4,none⟩ v'):=zc.set _ _ _ _;have s:=l.set 4 v';have n:=h.nln.saveT hs i (by decide) λb f v=>h.apart b (xb v) f;refine⟨by simpa using s,(h.res.saveT hs i (by decide)).set_ne (Ne.symm h.low.2.2) _ _,(h.scope.saveT hs i (by decide) (by decide)).saveT a c (by decide) (by decide),(h.head.saveT hs i (by decide)).saveT a c (by decide),q.saveTT a c (by decide) (by decide),n.saveTT a c (by decide) (by decide),λb f j=>?_,?_,h.low⟩;obtain⟨t,p,_⟩:=h.nln;have y:=yA p j;rcases m with e|⟨g,e,A⟩;rw[e] at f;exact h.apart b f j;rw[e] at f;simp only[zr] at f;omega;exact(h.below.trans (hs.below (λx u=>yX o (xb u)) r)).setCell h.low.1 _
def kT.pushN{B:Nat}{j:World}{f:List zw}(h:kT B w0 w rb rr sb st va hp htv plv nlv ht pls nls vs pl)(hs:zc nlv.ownBlock.toList w j)(m:v'.ownBlock=nlv.ownBlock∨∃g,v'.ownBlock=some g/\w.heap.size<=g)(q:ui B j v' f)(r:B<=w.heap.size):kT B w0 (j.setCell ⟨rb,5,none⟩ v') rb rr sb st va hp htv plv v' ht pls f vs pl:=by
 obtain⟨z,o,_⟩:=h.nln;have i:=RL.own o;have k:=h.box.saveT hs i (by decide);have d:=RL.box k;have c:zc [rb] j (j.setCell ⟨rb,5,none⟩ v'):=zc.set _ _ _ _;have s:=k.set 5 v';have n:=h.pln.saveT hs i (by decide) λb l v=>h.apart b l (xb v);refine⟨by simpa using s,(h.res.saveT hs i (by decide)).set_ne (Ne.symm h.low.2.2) _ _,(h.scope.saveT hs i (by decide) (by decide)).saveT c d (by decide) (by decide),(h.head.saveT hs i (by decide)).saveT c d (by decide),n.saveTT c d (by decide) (by decide),q.saveTT c d (by decide) (by decide),λb l a=>?_,?_,h.low⟩;obtain⟨t,p,_⟩:=h.pln;have y:=yA p l;rcases m with e|⟨g,e,A⟩;rw[e] at a;exact h.apart b l a;rw[e] at a;simp only[zr] at a;omega;exact(h.below.trans (hs.below (λx u=>yX o (xb u)) r)).setCell h.low.1 _
def oB{α:Type}(p:α->Bool)(l:List α)(k:Nat)(a:k<l.length):(l.take (k+1)).filter p=(l.take k).filter p++(if p l[k] then [l[k]] else []):=by
 rw[yP a,rq];congr 1;cases h:p l[k]<;>simp[h]
def Ce(t:List zg)(n:ByteArray):zF t n<=t.length:=by
 unfold zF;split;exact Ah t n;omega
def Nj(os:List Int)(h:os.length<=1000):∀y∈yG os,y<=1000:=by
 have:∀(l:List (Int×Nat)) (pl:List Nat),(∀x∈l,x.2<=1000)->(∀y∈pl,y<=1000)->∀y∈l.foldl vA pl,y<=1000:=by
  intro l;induction l with
  |nil=>intro pl _ h;exact h
  |cons x l e=>
   intro pl b c;refine e _ (λy a=>b y (pF _ a)) λy a=>?_;unfold vA at a;split at a;rcases lz a with q|q;exact c y q;subst q;exact b x (by simp);exact c y a
 refine this _ _ (λx d=>?_) (by decide);have:=List.snd_lt_of_mem_zipIdx d;omega
def IH(w:World)(r:zs)(e:Ending)(w':World):Prop:=∃c b a,e=ε (kQ r c b a)/\vx w.heap.size w' c b a r/\μ w w'
def Py{am:Nat}(w:World)(mb tb o cb:Nat)(t:List zg)(ns:κ)(c:zd)(va vb ov:Value)(T:Option (List Int))(h:mW lo w mb tb o cb t ns)(hs:R7 am w va c.head.args)(hb:Sc am w vb c.body)(hl:c.head.args.length+xg c.body<=1000)(ck:c.body.length<=900)(ho:qe w ov T)(aZ:(T.getD []).length<=1000)(bN:xH t c.head.pred<=1000000):
  Calls prog 117 #[(π mb),.agg #[.bool c.head.neg,.string c.head.pred,va,vb],ov] w λe S=>IH w (vi t ns c T) e S:=by
 obtain⟨i0,hi,bC,bz,b7⟩:=info_parts Ro;obtain⟨ao,aP,rfl⟩:=hs.qy;obtain⟨aQ,ad,rfl⟩:=hb.qy;obtain⟨bK,bp,rfl⟩:=ho.qy;have bv:=Ry λW H=>OF W c _ _ _ T (hs.below H) (hb.below H) hl (by omega) (ho.below H) aZ;have bi:=th c.body [];have bY:(zx c).length<=1000:=by unfold zx;simp at bi;omega
 clear bi;have aW:Hid (∀W sb (l:zk) (va:Value) (b1 b2:Nat),μ w W->gJ b1 W sb (zx c) (yG (T.getD []))->R7 b2 W va l.args->l.args.length<=1000->Calls prog 160 #[(π mb),.agg #[.bool l.neg,.string l.pred,va],(π sb)] W λe S=>∃tv,e=ε (.agg #[ι (zF t l.pred:Nat),tv])/\yn W.heap.size S tv (zK t ns (zx c) (yG (T.getD [])) l).qg/\μ W S):=λW sb l va b1 b2 H bM bG bI=>Bm W mb tb o cb sb t ns _ _ l _ (h.below H) bM bY (Nj _ aZ) bG bI;have bE:=Ry λW H=>Lv lo W tb o t c.head.pred (h.2.1.below H) h.2.2.2.1;have bo:=Ry h.2.2.2.1;have bJ:=h.1;obtain⟨br,ci,bP⟩:=bJ.boxed;have bO:w.cell? ⟨mb,0,none⟩=some (.pointer (some ⟨tb,o,none⟩)):=by rw[br];rfl
 have bW:=Ry hs;have bU:=Ry hb;have HE:Hid (vi t ns c T={qh:=xH t c.head.pred,vars:=(zx c).length,head:=zK t ns (zx c) (yG (T.getD [])) c.head,qc:=(c.body.filter λl=>!l.neg).map (zK t ns (zx c) (yG (T.getD []))),qw:=(c.body.filter λl=>l.neg).map (zK t ns (zx c) (yG (T.getD [])))}):=rfl;have H5:Hid ((yG (T.getD [])).length=5):=tO _;clear h hs hb ho br;generalize zx c=vs at *;generalize yG (T.getD [])=pl at *;generalize xH t c.head.pred=st at *;generalize (zU t c.head.pred).isSome=cn at *;obtain⟨n,m,d,j,f,rfl⟩:=five H5.out;have a9:Hid (∀W,μ w W->Calls prog 158 #[.agg #[.bool c.head.neg,.string c.head.pred,.slice ao c.head.args.length aP,.slice aQ c.body.length ad],.slice bK (T.getD []).length bp] W λe S=>∃nv,e=ε (.agg #[nv,ι n,ι m,ι d,ι j,ι f])/\R7 W.heap.size S nv vs/\μ W S):=bv;clear bv H5;go_enter func117,ntmps117;go_upto_region 2 with (first|(go_at_call 158;refine(a9.out _ (by exact(by go_grown))).mono ?_;rintro e w1 ⟨nv,rfl,aN,ax⟩;obtain⟨aG,au,rfl⟩:=aN.qy))
 have bB:μ w w1:=zM (by go_grown) ax (zf _);have a1:=((Rz.new w #[.bool c.head.neg,.string c.head.pred,.slice ao c.head.args.length aP,.slice aQ c.body.length ad] 171).below ((zp _ _).alloc (zf _) (.cells #[ι 0,ι 0,ι 0,ν,ν,ν] 207))).below ax;have M:=(Rz.new (w.alloc (.cells #[.bool c.head.neg,.string c.head.pred,.slice ao c.head.args.length aP,.slice aQ c.body.length ad] 171)) #[ι 0,ι 0,ι 0,ν,ν,ν] 207).below ax;rw[World.size_alloc] at M;have a7:=aN.low (show w.heap.size<=_ by simp;omega);have u:μ w1 (w1.alloc (.cells #[.slice aG vs.length au,ι n,ι m,ι d,ι j,ι f] 257)):=(by go_grown);have aF:=Rz.new w1 #[.slice aG vs.length au,ι n,ι m,ι d,ι j,ι f] 257;have aj:=a1.below u;have a3:=M.below u;have aD:=a7.below u;have p:=R5 bB u;have ca:=M.lt;clear a1 M a7 aN ax u;generalize w1.alloc (.cells #[.slice aG vs.length au,ι n,ι m,ι d,ι j,ι f] 257)=V at *;generalize w1.heap.size=sb at *;clear bB w1;obtain⟨ap,ab,D⟩:=aj.boxed;have bT:=zl p bP bO;have aY:=p.size;have bq:mb<V.heap.size:=by omega
 go_quiet ((go_at_call 159;exact Calls.quiet_of_same (bE.out _ (by exact(zI p _)))))
 clear a9 bE bT ap ab D aY bq;have hq:μ V (V.drewN nq):=zI (zp _ _) nq;have az:=aj.below hq;have a8:=a3.below hq;have Y:=aD.below hq;have N:=aF.below hq;have aL:=R5 p hq;clear hq aj a3 aD aF p;generalize V.drewN nq=w3 at *;clear V nq;have cj:=aL.size;obtain⟨aE,b9,bh⟩:=N.boxed;go_upto_region 4 with (first|(go_at_call 146;refine(Aq _ _ _ vs (by rw[aE];rfl) Y).mono ?_;rintro e w4 ⟨rfl,bS⟩;obtain rfl:=bS.symm))
 clear aE b9 bh;have u:μ w3 (w3.alloc (.cells #[ι st,ι vs.length,ι 0,ν,ν,ν] 207)):=(by go_grown);have aA:=Rz.new w3 #[ι st,ι vs.length,ι 0,ν,ν,ν] 207;have af:=az.below u;have a4:=a8.below u;have a5:=Y.below u;have ay:=N.below u;have ag:=R5 aL u;have cc:=N.lt;clear az a8 Y N u;generalize w3.alloc (.cells #[ι st,ι vs.length,ι 0,ν,ν,ν] 207)=w4 at *;generalize w3.heap.size=rb at *;clear aL w3;have b3:=ag.size;obtain⟨ap,ab,D⟩:=af.boxed;have ai:Hid (gJ w.heap.size w4 sb vs [n,m,d,j,f]):=⟨_,n,m,d,j,f,rfl,ay,a5⟩;go_upto_region 5 with (first|(go_at_call 160;refine(aW.out _ _ c.head _ _ _ (by exact ag) (by exact ai.out) (by exact bW.out.below ag) (by omega)).mono ?_;rintro e w5 ⟨tv,rfl,ar,R⟩;obtain⟨B,s,rfl⟩:=ar.qy;have L:=aA.below R;obtain⟨b5,bx,bf⟩:=L.boxed))
 have bn:yn w.heap.size w5 _ _:=⟨yk ar.own b3,ar.len,ar.num⟩;have al:rb≠w.heap.size+1:=by omega
 have hM:kT w.heap.size w ((w5.setCell ⟨rb,2,none⟩ (ι (zF t c.head.pred:Nat))).setCell ⟨rb,3,none⟩ (.slice B (zK t ns vs [n,m,d,j,f] c.head).qg.length s)) rb (w.heap.size+1) sb st vs.length (zF t c.head.pred) (.slice B (zK t ns vs [n,m,d,j,f] c.head).qg.length s) (ν) (ν) (zK t ns vs [n,m,d,j,f] c.head).qg [] [] vs [n,m,d,j,f]:=by
  have b6:zc [rb] w5 ((w5.setCell ⟨rb,2,none⟩ (ι (zF t c.head.pred:Nat))).setCell ⟨rb,3,none⟩ (.slice B (zK t ns vs [n,m,d,j,f] c.head).qg.length s)):=(zc.set _ _ _ _).trans (zc.set _ _ _ _);have bd:=RL.box L;have hq:=(L.set 2 (ι (zF t c.head.pred:Nat))).set 3 (.slice B (zK t ns vs [n,m,d,j,f] c.head).qg.length s);refine⟨by simpa using hq,((a4.below R).set_ne (Ne.symm al) _ _).set_ne (Ne.symm al) _ _,(ai.out.below R).saveT b6 bd (by decide) (by decide),bn.saveT b6 bd (by decide),⟨[],yW _ _ _ _,rfl,by simp,λk a=>by simp at a⟩,⟨[],yW _ _ _ _,rfl,by simp,λk a=>by simp at a⟩,λb hb=>by simp[Value.ownBlock] at hb,((R5 ag R).setCell (by simp;omega) _).setCell (by simp;omega) _,by omega,by omega,al⟩
 have a6:=((af.below R).set_ne (show w.heap.size≠rb by omega) 2 (ι (zF t c.head.pred:Nat))).set_ne (show w.heap.size≠rb by omega) 3 (.slice B (zK t ns vs [n,m,d,j,f] c.head).qg.length s);generalize (w5.setCell ⟨rb,2,none⟩ (ι (zF t c.head.pred:Nat))).setCell ⟨rb,3,none⟩ (.slice B (zK t ns vs [n,m,d,j,f] c.head).qg.length s)=w6 at *;clear L b5 bx bf ar bn R w5 ap ab D ai b3 ag af a4 a5 ay aA w4;generalize aw:Value.slice B (zK t ns vs [n,m,d,j,f] c.head).qg.length s=htv at *;have bX:=Ry aw;clear aw;obtain⟨ap,ab,D⟩:=a6.boxed;go_wp2;clear ap ab D a6;have z:Hid (kT _ _ _ _ _ _ _ _ _ _ _ _ _ _ _ _ _):=hM;clear hM;go_loopw [40] (λbQ wr=>∃(k:Nat) (plv nlv:Value),k<=c.body.length/\bQ=ι k/\Hid (kT w.heap.size w wr rb (w.heap.size+1) sb st vs.length (zF t c.head.pred) htv plv nlv (zK t ns vs [n,m,d,j,f] c.head).qg (((c.body.take k).filter λl=>!l.neg).map (zK t ns vs [n,m,d,j,f])) (((c.body.take k).filter λl=>l.neg).map (zK t ns vs [n,m,d,j,f])) vs [n,m,d,j,f])) (λi _=>c.body.length-(intOf i).toNat);exact⟨0,_,_,zv _,rfl,z⟩;clear z;obtain⟨k,plv,nlv,hk,rfl,z⟩:=hrel;have A:=z.out.below;have cg:=A.size;by_cases aq:k<c.body.length
 .obtain⟨g,Q,y,bF,hg,bm,bA,bw,b0⟩:=bU.out.cell k aq;subst bF;have ba:c.body[k].args.length<=1000:=by
   have:=rN c.body k aq;rw[yi aq] at this;simp at this;omega
  have bb:=zl A hg bm;have cm:=zl A hg bA;have cl:=zl A hg bw;have u:g<wr.heap.size:=by omega
  have P:=oB (λl:zk=>!l.neg) c.body k aq;have O:=oB (λl:zk=>l.neg) c.body k aq;have bs:Hid (R7 am w _ _):=b0;have bV:=Ce t c.body[k].pred;have bL:=bo.out;clear bm bA bw b0;generalize c.body[k]=l at *;have cd:(((c.body.take k).filter λl=>!l.neg).map (zK t ns vs [n,m,d,j,f])).length<=k:=by
   have:=pL (λl:zk=>!l.neg) (c.body.take k);simp at this ⊢;omega
  have ch:(((c.body.take k).filter λl=>l.neg).map (zK t ns vs [n,m,d,j,f])).length<=k:=by
   have:=pL (λl:zk=>l.neg) (c.body.take k);simp at this ⊢;omega
  cases hn:l.neg
  .rw[hn] at bb;simp only[hn,Bool.not_false,if_true,gQ,if_false,vR] at P O;have aI:Hid (((c.body.take (k+1)).filter λl=>!l.neg).map (zK t ns vs [n,m,d,j,f])=((c.body.take k).filter λl=>!l.neg).map (zK t ns vs [n,m,d,j,f])++[zK t ns vs [n,m,d,j,f] l]):=by rw[Hid,P,vg];rfl
   have aT:Hid (((c.body.take (k+1)).filter λl=>l.neg).map (zK t ns vs [n,m,d,j,f])=((c.body.take k).filter λl=>l.neg).map (zK t ns vs [n,m,d,j,f])):=by rw[Hid,O]
   clear P O;generalize ((c.body.take k).filter λl=>!l.neg).map (zK t ns vs [n,m,d,j,f])=pls at *;generalize ((c.body.take k).filter λl=>l.neg).map (zK t ns vs [n,m,d,j,f])=nls at *;have aK:Hid (∀W,μ wr W->Calls prog 160 #[(π mb),.agg #[.bool false,.string l.pred,.slice Q l.args.length y],(π sb)] W λe S=>∃tv,e=ε (.agg #[ι (zF t l.pred:Nat),tv])/\yn W.heap.size S tv (zK t ns vs [n,m,d,j,f] l).qg/\μ W S):=λW H=>by
    have q:=aW.out W sb l (.slice Q l.args.length y) w.heap.size am (R5 A H) (z.out.scope.below H) (bs.out.below (R5 A H)) ba;rw[hn] at q;exact q
   generalize ah:(zK t ns vs [n,m,d,j,f] l).qg=ts at *;have aH:=Ry ah;have ak:Hid ((zK t ns vs [n,m,d,j,f] l).pred=zF t l.pred):=rfl;clear ah;generalize zF t l.pred=fn at *;obtain⟨ps,G,F,_,E⟩:=z.out.pln;obtain⟨U,x,aa⟩:=zq G;subst aa;have J:=Ry E;clear E;have bt:pls.length<=900:=by omega
   have ae:=Ry F;clear F;go_wp2_with (first|(go_at_call 160;refine(aK.out _ (by exact(by go_grown))).mono ?_;rintro e V ⟨tv,rfl,C,an⟩;obtain⟨aM,av,rfl⟩:=C.qy;have p:μ wr V:=(zM (by go_grown) an (zf _));have aO:=(Rz.new wr #[.bool false,.string l.pred,.slice Q l.args.length y] 90).below an;obtain⟨be,bD,bk⟩:=aO.boxed;have I:=z.out.box.below p;obtain⟨a2,a0,aB⟩:=I.boxed;have aY:=p.size;have r:=zB G p)|(at_builtin;refine ko V _ [ι fn,.slice aM ts.length av] _ rfl (.tmp 56) (.tmp 58) 205 rfl w.heap.size 204 i0 _ 2 32 underlying205 hi bC bz b7 rfl (by decide) (.slice U pls.length x) pls.length (dF ps) rfl r (by exact(by go_grown)) _ _ rfl (by simp) rfl (by simp[Value.oneCell']) (by omega) (by omega) (by omega) ?_;intro v' w3 Z K ac;obtain⟨bR,bg,rfl⟩:=zq Z;have X:=I.saveT K (RL.own r) (by decide);obtain⟨aS,aU,aV⟩:=X.boxed))
   have aJ:kT _ _ _ _ _ _ _ _ _ _ _ _ _ _ _ _ _:=(z.out.next p (zf _)).pushP K ac (ui.push (l:=zK t ns vs [n,m,d,j,f] l) r ae.out (λk a b=>⟨(J.out k a b).1,(J.out k a b).2.1.below p,(J.out k a b).2.2⟩) (by omega) (by rw[aH.out];exact⟨yk C.own (by simp;omega),C.len,C.num⟩) (by rw[ak.out];omega) (by rw[ak.out];exact Z) K) (by omega);go_roundw;exact⟨k+1,_,_,by omega,by go_num,by rw[aI.out,aT.out];exact aJ⟩;simp[intOf];omega
  rw[hn] at bb;simp only[hn,mX,if_true,gQ,if_false,vR] at P O;have aI:Hid (((c.body.take (k+1)).filter λl=>!l.neg).map (zK t ns vs [n,m,d,j,f])=((c.body.take k).filter λl=>!l.neg).map (zK t ns vs [n,m,d,j,f]) ):=by rw[Hid,P]
  have aT:Hid (((c.body.take (k+1)).filter λl=>l.neg).map (zK t ns vs [n,m,d,j,f])=((c.body.take k).filter λl=>l.neg).map (zK t ns vs [n,m,d,j,f])++[zK t ns vs [n,m,d,j,f] l]):=by rw[Hid,O,vg];rfl
  clear P O;generalize ((c.body.take k).filter λl=>!l.neg).map (zK t ns vs [n,m,d,j,f])=pls at *;generalize ((c.body.take k).filter λl=>l.neg).map (zK t ns vs [n,m,d,j,f])=nls at *;have aK:Hid (∀W,μ wr W->Calls prog 160 #[(π mb),.agg #[.bool true,.string l.pred,.slice Q l.args.length y],(π sb)] W λe S=>∃tv,e=ε (.agg #[ι (zF t l.pred:Nat),tv])/\yn W.heap.size S tv (zK t ns vs [n,m,d,j,f] l).qg/\μ W S):=λW H=>by
   have q:=aW.out W sb l (.slice Q l.args.length y) w.heap.size am (R5 A H) (z.out.scope.below H) (bs.out.below (R5 A H)) ba;rw[hn] at q;exact q
  generalize ah:(zK t ns vs [n,m,d,j,f] l).qg=ts at *;have aH:=Ry ah;have ak:Hid ((zK t ns vs [n,m,d,j,f] l).pred=zF t l.pred):=rfl;clear ah;generalize zF t l.pred=fn at *;obtain⟨ps,G,F,_,E⟩:=z.out.nln;obtain⟨U,x,aa⟩:=zq G;subst aa;have J:=Ry E;clear E;have bt:nls.length<=900:=by omega
  have ae:=Ry F;clear F;go_wp2_with (first|(go_at_call 160;refine(aK.out _ (by exact(by go_grown))).mono ?_;rintro e V ⟨tv,rfl,C,an⟩;obtain⟨aM,av,rfl⟩:=C.qy;have p:μ wr V:=(zM (by go_grown) an (zf _));have aO:=(Rz.new wr #[.bool true,.string l.pred,.slice Q l.args.length y] 90).below an;obtain⟨be,bD,bk⟩:=aO.boxed;have I:=z.out.box.below p;obtain⟨a2,a0,aB⟩:=I.boxed;have aY:=p.size;have r:=zB G p)|(at_builtin;refine ko V _ [ι fn,.slice aM ts.length av] _ rfl (.tmp 50) (.tmp 52) 205 rfl w.heap.size 204 i0 _ 2 32 underlying205 hi bC bz b7 rfl (by decide) (.slice U nls.length x) nls.length (dF ps) rfl r (by exact(by go_grown)) _ _ rfl (by simp) rfl (by simp[Value.oneCell']) (by omega) (by omega) (by omega) ?_;intro v' w3 Z K ac;obtain⟨bR,bg,rfl⟩:=zq Z;have X:=I.saveT K (RL.own r) (by decide);obtain⟨aS,aU,aV⟩:=X.boxed))
  have aJ:kT _ _ _ _ _ _ _ _ _ _ _ _ _ _ _ _ _:=(z.out.next p (zf _)).pushN K ac (ui.push (l:=zK t ns vs [n,m,d,j,f] l) r ae.out (λk a b=>⟨(J.out k a b).1,(J.out k a b).2.1.below p,(J.out k a b).2.2⟩) (by omega) (by rw[aH.out];exact⟨yk C.own (by simp;omega),C.len,C.num⟩) (by rw[ak.out];omega) (by rw[ak.out];exact Z) K) (by omega);go_roundw;exact⟨k+1,_,_,by omega,by go_num,by rw[aT.out,aI.out];exact aJ⟩;simp[intOf];omega
 have b4:k=c.body.length:=by omega
 have bZ:Hid (c.body.take k=c.body):=by rw[Hid,b4,uR]
 rw[bZ.out] at z;have I:=z.out.box;have b8:=z.out.res;obtain⟨a2,a0,aB⟩:=I.boxed;obtain⟨bu,cf,ce⟩:=b8.boxed;have aw:=bX.out;subst aw;obtain⟨U,x,aa⟩:=zq z.out.pln.choose_spec.1;obtain⟨bc,aC,bH⟩:=zq z.out.nln.choose_spec.1;subst aa;subst bH;clear b4;generalize (c.body.filter λl=>!l.neg).map (zK t ns vs [n,m,d,j,f])=pls at *;generalize (c.body.filter λl=>l.neg).map (zK t ns vs [n,m,d,j,f])=nls at *;go_wp2
 (try simp only[Exit.inBlock,Exit.then])
 refine zO (v:=.agg #[ι st,ι vs.length,ι (zF t c.head.pred:Nat),.slice B (zK t ns vs [n,m,d,j,f] c.head).qg.length s,.slice U pls.length x,.slice bc nls.length aC]) (by simp[results,results117,go_sem,bu]) rfl ⟨_,_,_,by rw[HE.out];rfl,?_,?_⟩;have aR:zc [w.heap.size+1] wr ((((((wr.setCell ⟨w.heap.size+1,0,none⟩ (ι st)).setCell ⟨w.heap.size+1,1,none⟩ (ι vs.length)).setCell ⟨w.heap.size+1,2,none⟩ (ι (zF t c.head.pred:Nat))).setCell ⟨w.heap.size+1,3,none⟩ (.slice B (zK t ns vs [n,m,d,j,f] c.head).qg.length s)).setCell ⟨w.heap.size+1,4,none⟩ (.slice U pls.length x)).setCell ⟨w.heap.size+1,5,none⟩ (.slice bc nls.length aC)):=(((((zc.set _ _ _ _).trans (zc.set _ _ _ _)).trans (zc.set _ _ _ _)).trans (zc.set _ _ _ _)).trans (zc.set _ _ _ _)).trans (zc.set _ _ _ _);have aX:=RL.box b8;have bV:=Ce t c.head.pred;have bL:=bo.out;rw[HE.out];exact⟨z.out.head.saveT aR aX (by decide),z.out.pln.saveTT aR aX (by decide) (by decide),z.out.nln.saveTT aR aX (by decide) (by decide),bN,by simp only;omega,by show zF t c.head.pred<=1000000;omega⟩;exact(((((A.setCell (by simp) _).setCell (by simp) _).setCell (by simp) _).setCell (by simp) _).setCell (by simp) _).setCell (by simp) _
end
section
open Go.Proofs.Tryz Go.RowKit
variable {lo:Nat}{w w0:World}{v' mv1 mv2 av fv rv:Value}{rs:List zs}{ps:List (Value×Value×Value)}{sb sr mb wd:Nat}{xs:List Nat}
def Rg:(prog.info? 210).map (λi=>(i.zero,i.size,i.bytes))=some (some (.agg #[ι 0,ι 0,ι 0,ι 0]),4,32):=by kernel_rfl
def Rt:(prog.info? 207).map (λi=>(i.zero,i.size,i.bytes))=some (some (.agg #[ι 0,ι 0,ι 0,ν,ν,ν]),6,96):=by kernel_rfl
def sF(f:qV):List Value:=[ι f.pred,ι (f.row.getD 0 0:Nat),ι (f.row.getD 1 0:Nat),ι (f.row.getD 2 0:Nat)]
def kV(fs:List qV):List Value:=fs.flatMap sF
def rf(r:zs)(p:Value×Value×Value):List Value:=[ι r.qh,ι r.vars,ι r.head.pred,p.1,p.2.1,p.2.2]
def gh(rs:List zs)(ps:List (Value×Value×Value)):List Value:=(List.zipWith rf rs ps).flatten
def KE(fs:List qV)(f:qV):kV (fs++[f])=kV fs++sF f:=by simp[kV]
def KP(rs:List zs)(ps:List (Value×Value×Value))(r:zs)(p:Value×Value×Value)(h:ps.length=rs.length):gh (rs++[r]) (ps++[p])=gh rs ps++rf r p:=by
 unfold gh;rw[i6 h.symm];simp
def sa(lo:Nat)(w:World)(v:Value)(fs:List qV):Prop:=w.ownsRow lo 210 4 v fs.length (kV fs)
structure qA (lo:Nat) (w:World) (v:Value) (rs:List zs) (ps:List (Value×Value×Value)):Prop where
 own:w.ownsRow lo 207 6 v rs.length (gh rs ps)
 len:ps.length=rs.length
 rule:∀k (_:k<rs.length) (_:k<ps.length),vx lo w ps[k].1 ps[k].2.1 ps[k].2.2 rs[k]
 few:rs.length<=1000
def qA.below{w w':World}{v:Value}{rs:List zs}{ps:List (Value×Value×Value)}(h:qA lo w v rs ps)(c:μ w w'):qA lo w' v rs ps:=⟨zB h.own c,h.len,λk a b=>(h.rule k a b).below c,h.few⟩
def qA.saveT{e:Nat}{w w':World}{v:Value}{rs:List zs}{ps:List (Value×Value×Value)}{T:TypeId}{M:List Nat}(h:qA e w v rs ps)(hs:zc M w w')(f:RL w T M)(g:284≠T)(d:204≠T)(c:207≠T):qA e w' v rs ps:=⟨yI h.own hs f c,h.len,λk a b=>(h.rule k a b).saveT hs f g d,h.few⟩
def qA.push{d:Nat}{w':World}{v:Value}{r:zs}{p:Value×Value×Value}(h:qA d w v rs ps)(j:rs.length+1<=1000)(g:vx d w p.1 p.2.1 p.2.2 r)(i:w'.ownsRow d 207 6 v' (rs.length+1) (gh rs ps++rf r p))(hs:zc v.ownBlock.toList w w'):qA d w' v' (rs++[r]) (ps++[p]):=by
 have f:=RL.own h.own;refine⟨by rw[KP _ _ _ _ h.len,yC];exact i,by simp[h.len],λk a b=>?_,by simpa using j⟩;by_cases e:k<rs.length;have c:k<ps.length:=by have:=h.len;omega
 rw[uD e,uD c];exact(h.rule k e c).saveT hs f (by decide) (by decide);obtain rfl:k=rs.length:=by simp at a;omega
 have l:=h.len;simp only[←l,nK];exact g.saveT hs f (by decide) (by decide)
def qA.cell{w:World}{i:Option Addr}{n cap:Nat}{rs:List zs}{ps:List (Value×Value×Value)}(h:qA lo w (.slice i n cap) rs ps)(k:Nat)(o:k<rs.length)(e:k<ps.length):∃g,i=some ⟨g,0,none⟩/\g<w.heap.size/\w.cell? ⟨g,k*6,none⟩=some (ι (rs[k].qh:Nat))/\w.cell? ⟨g,k*6+1,none⟩=some (ι (rs[k].vars:Nat))/\w.cell? ⟨g,k*6+2,none⟩=some (ι (rs[k].head.pred:Nat))/\w.cell? ⟨g,k*6+3,none⟩=some ps[k].1/\w.cell? ⟨g,k*6+4,none⟩=some ps[k].2.1/\w.cell? ⟨g,k*6+5,none⟩=some ps[k].2.2:=by
 obtain⟨g,f,j,_,t,b⟩:=yw h.own (by omega);simp at j;have d:∀(rs:List zs) (ps:List (Value×Value×Value)) (k:Nat) (a:k<rs.length) (c:k<ps.length),(gh rs ps)[k*6]?=some (ι (rs[k].qh:Nat))/\(gh rs ps)[k*6+1]?=some (ι (rs[k].vars:Nat))/\(gh rs ps)[k*6+2]?=some (ι (rs[k].head.pred:Nat))/\(gh rs ps)[k*6+3]?=some ps[k].1/\(gh rs ps)[k*6+4]?=some ps[k].2.1/\(gh rs ps)[k*6+5]?=some ps[k].2.2:=by
  intro rs;induction rs with
  |nil=>intro ps k a;simp at a
  |cons r l x=>
   intro ps k a c;match ps,k,a,c with
   |p::ps,0,_,_=>simp[gh,rf]
   |p::ps,k+1,a,c=>
    have:=x ps k (by simpa using a) (by simpa using c);simp only[gh,mt,mR] at this ⊢;rw[show(k+1)*6=k*6+6 from by omega];have q:k*6+6=(rf r p).length+k*6:=by simp[rf];omega
    rw[q];simp only[Nat.add_assoc,d9 (Nat.le_add_right _ _),eh];simpa using this
 obtain⟨z,v,s,m,u,y⟩:=d rs ps k o e;exact⟨g,j.1,t,b _ _ z,b _ _ v,b _ _ s,b _ _ m,b _ _ u,b _ _ y⟩
def D5:∀(fs:List qV) (k:Nat) (h:k<fs.length),(kV fs)[k*4]?=some (ι (fs[k].pred:Nat))/\(kV fs)[k*4+1]?=some (ι (fs[k].row.getD 0 0:Nat))/\(kV fs)[k*4+2]?=some (ι (fs[k].row.getD 1 0:Nat))/\(kV fs)[k*4+3]?=some (ι (fs[k].row.getD 2 0:Nat))
 |[],k,h=>by simp at h
 |f::l,0,_=>by simp[kV,sF]
 |f::l,k+1,h=>by
  have:=D5 l k (by simpa using h);simp only[kV,uA] at this ⊢;rw[show(k+1)*4=k*4+4 from by omega];have a:k*4+4=(sF f).length+k*4:=by simp[sF];omega
  rw[a];simp only[Nat.add_assoc,d9 (Nat.le_add_right _ _),eh];simpa using this
def uC(t:List zg)(ns:κ)(os:Option (List (Option (List Int))))(cs:List zd):List zs:=cs.zipIdx.filterMap λx=>if x.1.body.length>0 then some (vi t ns x.1 (ue os x.2)) else none
def vo(t:List zg)(ns:κ)(cs:List zd):List qV:=(cs.filter λc=>!decide (c.body.length>0)).map (vO t ns)
def uQ(t:List zg)(ns:κ)(os:Option (List (Option (List Int))))(cs:List zd):qJ:={qf:=ns.length,qj:=t.map (·.ji),facts:=vo t ns cs,rules:=uC t ns os cs}
def J7(t:List zg)(ns:κ)(os:Option (List (Option (List Int))))(cs:List zd)(k:Nat)(a:k<cs.length):uC t ns os (cs.take (k+1))=uC t ns os (cs.take k)++(if cs[k].body.length>0 then [vi t ns cs[k] (ue os k)] else []):=by
 unfold uC;rw[yP a,List.zipIdx_append,wG];congr 1;simp only[List.zipIdx_singleton,qG,vn,sq,List.filterMap_nil];rw[fF (by omega)];by_cases h:cs[k].body.length>0;rw[zb h,zb h];rw[za h,za h]
def Iy(t:List zg)(ns:κ)(cs:List zd)(k:Nat)(a:k<cs.length):vo t ns (cs.take (k+1))=vo t ns (cs.take k)++(if cs[k].body.length>0 then [] else [vO t ns cs[k]]):=by
 unfold vo;rw[oB _ _ _ a,vg];congr 1;by_cases h:cs[k].body.length>0;simp[h];simp[h]
def O1(t:List zg)(ns:κ)(os:Option (List (Option (List Int))))(cs:List zd):(uC t ns os cs).length<=cs.length:=by
 have:=sA (λx:zd×Nat=>if x.1.body.length>0 then some (vi t ns x.1 (ue os x.2)) else none) cs.zipIdx;simpa [uC] using this
def Mf(t:List zg)(ns:κ)(cs:List zd):(vo t ns cs).length<=cs.length:=by
 unfold vo;rw[xY];exact pL _ _
structure jY (B:Nat) (w0 w:World) (sb sr mb:Nat) (mv1 mv2 av fv rv:Value) (wd:Nat) (xs:List Nat) (fs:List qV) (rs:List zs) (ps:List (Value×Value×Value)):Prop where
 box:Rz w sb #[ι wd,av,fv,rv] 146
 res:Rz w sr #[ι 0,ν,ν,ν] 146
 mak:Rz w mb #[mv1,mv2] 200
 ari:w.ownsRow B 3 1 av xs.length (xs.map Sf)
 fac:sa B w fv fs
 rul:qA B w rv rs ps
 below:Below B w0 w
 low:B<=sb/\B<=sr/\sb≠sr
def jY.next{B:Nat}{w':World}{fs:List qV}(h:jY B w0 w sb sr mb mv1 mv2 av fv rv wd xs fs rs ps)(a:μ w w')(b:B<=w0.heap.size):jY B w0 w' sb sr mb mv1 mv2 av fv rv wd xs fs rs ps:=
 ⟨h.box.below a,h.res.below a,h.mak.below a,zB h.ari a,zB h.fac a,h.rul.below a,zM h.below a b,h.low⟩
def jY.pushF{B:Nat}{d:World}{fs e:List qV}(h:jY B w0 w sb sr mb mv1 mv2 av fv rv wd xs fs rs ps)(hs:zc fv.ownBlock.toList w d)(g:sa B d v' e)(i:B<=w.heap.size):jY B w0 (d.setCell ⟨sb,2,none⟩ v') sb sr mb mv1 mv2 av v' rv wd xs e rs ps:=by
 have f:=RL.own h.fac;have c:=h.box.saveT hs f (by decide);have b:=RL.box c;have a:zc [sb] d (d.setCell ⟨sb,2,none⟩ v'):=zc.set _ _ _ _;have j:=c.set 2 v';exact⟨by simpa using j,(h.res.saveT hs f (by decide)).set_ne (Ne.symm h.low.2.2) _ _,(h.mak.saveT hs f (by decide)).saveT a b (by decide),yI (yI h.ari hs f (by decide)) a b (by decide),yI g a b (by decide),(h.rul.saveT hs f (by decide) (by decide) (by decide)).saveT a b (by decide) (by decide) (by decide),(h.below.trans (hs.below (λx k=>yX h.fac (xb k)) i)).setCell h.low.1 _,h.low⟩
def jY.pushR{B:Nat}{f:World}{fs:List qV}{d:List zs}{e:List (Value×Value×Value)}(h:jY B w0 w sb sr mb mv1 mv2 av fv rv wd xs fs rs ps)(hs:zc rv.ownBlock.toList w f)(i:qA B f v' d e)(j:B<=w.heap.size):jY B w0 (f.setCell ⟨sb,3,none⟩ v') sb sr mb mv1 mv2 av fv v' wd xs fs d e:=by
 have g:=RL.own h.rul.own;have c:=h.box.saveT hs g (by decide);have b:=RL.box c;have a:zc [sb] f (f.setCell ⟨sb,3,none⟩ v'):=zc.set _ _ _ _;have k:=c.set 3 v';exact⟨by simpa using k,(h.res.saveT hs g (by decide)).set_ne (Ne.symm h.low.2.2) _ _,(h.mak.saveT hs g (by decide)).saveT a b (by decide),yI (yI h.ari hs g (by decide)) a b (by decide),yI (yI h.fac hs g (by decide)) a b (by decide),i.saveT a b (by decide) (by decide) (by decide),(h.below.trans (hs.below (λx l=>yX h.rul.own (xb l)) j)).setCell h.low.1 _,h.low⟩
structure gK (lo:Nat) (w:World) (av fv rv:Value) (S:qJ) (ps:List (Value×Value×Value)):Prop where
 ari:w.ownsRow lo 3 1 av S.qj.length (S.qj.map Sf)
 fac:sa lo w fv S.facts
 rul:qA lo w rv S.rules ps
end
section
open Go.Proofs.Tryz Go.RowKit
variable {lo:Nat}
def KW(w:World)(S:qJ)(e:Ending)(w':World):Prop:=∃a c b d,e=ε (.agg #[ι S.qf,a,c,b])/\gK w.heap.size w' a c b S d/\μ w w'
def SU(t:List zg)(k:Nat):List Nat:=(t.take k).map (·.ji)++List.replicate (t.length-k) 0
def ij(t:List zg)(k:Nat)(a:k<=t.length):(SU t k).length=t.length:=by simp[SU];omega
def Hh(t:List zg)(k:Nat)(a:k<t.length):(SU t k).set k (yo t k)=SU t (k+1):=by
 have e:yo t k=t[k].ji:=by simp[yo,a]
 obtain⟨m,b⟩:∃m,t.length-k=m+1:=⟨t.length-k-1,by omega⟩;unfold SU;rw[e,fm _ _ (by simp;omega),xY,qG,fF (by omega),jv,b,re,nZ,yP a,vg,show t.length-(k+1)=m from by omega,kz];rfl
def Iv(t:List zg):SU t t.length=t.map (·.ji):=by simp[SU]
def Je{ak:Nat}(w:World)(tb o B:Nat)(t:List zg)(ns:κ)(cs:List zd)(cv ov:Value)(os:Option (List (Option (List Int))))(hT:TG lo w tb o t)(hC:me lo w B ns)(bp:t.length<=1000)(b1:ns.length<=1000)(aj:Se ak 171 w cv cs)(bd:∀c∈cs,c.head.args.length+xg c.body<=1000/\c.body.length<=900)(bG:cs.length<=1000)(ho:j0 w ov os)(be:(os.getD []).length<=2000000)(aM:∀o∈os.getD [],(o.getD []).length<=1000)(a6:∀n,xH t n<=1000000):
  Calls prog 73 #[cv,.pointer (some ⟨tb,o,none⟩),(π B),ov] w λe T=>KW w (uQ t ns os cs) e T:=by
 obtain⟨iI,bi,bk,aP,aR⟩:=info_parts QO;obtain⟨iF,bw,bu,aT,bc⟩:=info_parts Rg;obtain⟨iR,b4,bo,aX,aO⟩:=info_parts Rt;obtain⟨bN,bA,rfl⟩:=aj.qy;obtain⟨bH,b9,rfl⟩:=ho.qy;have aW:=Ry λW h=>Gx W B ns (hC.below h);have aA:=Ry λW h=>Qq lo W tb o t (hT.below h);have ba:=Ry λW i h=>Fk lo W tb o t i (hT.below h);have bg:=Ry λW k h=>Jo W _ os k (ho.below h) be;have bv:Hid (∀k,((ue os k).getD []).length<=1000):=λk=>by
  unfold ue;by_cases hk:k<(os.getD []).length;rw[ks,yi hk];exact aM _ (zt hk);rw[ks,kM (by omega)];simp
 have bb:Hid (∀W mb,μ w W->Rz W mb #[.pointer (some ⟨tb,o,none⟩),(π B)] 200->mW lo W mb tb o B t ns):=λW mb h hb=>⟨hb,hT.below h,hC.below h,bp,b1⟩;have bt:=Ry aj;have b2:=Ry bd;have bh:=Ry a6;have HE:Hid (uQ t ns os cs={qf:=ns.length,qj:=t.map (·.ji),facts:=vo t ns cs,rules:=uC t ns os cs}):=rfl;have aN:=λW:World=>run_make (P:=prog) (w:=W) 24 3 iI _ underlying24 bi bk .i64 .i64 (t.length:Int) (t.length:Int) (by omega) (Int.le_refl _) (by rw[aR];omega) (by omega);rw[aP] at aN;clear hT hC aj ho bd aM a6;go_enter func73,ntmps73;go_upto_region 3 with (first|(go_at_call 114;refine(aW.out _ (by exact(by go_grown))).mono ?_;rintro e w1 ⟨rfl,y⟩;obtain rfl:=y.symm)|(go_at_call 115;refine(aA.out _ (by exact(by go_grown))).mono ?_;rintro e w1 ⟨rfl,y⟩;obtain rfl:=y.symm))
 have hM:jY w.heap.size w ((((w.alloc (.cells #[ι 0,ν,ν,ν] 146)).alloc (.cells #[.pointer (some ⟨tb,o,none⟩),(π B)] 200)).alloc (.cells (madeCells #[ι 0] t.length) 3)).alloc (.cells #[ι ns.length,.slice (some ⟨w.heap.size+1+1,0,none⟩) t.length t.length,ν,ν] 146)) (w.heap.size+1+1+1) w.heap.size (w.heap.size+1) (.pointer (some ⟨tb,o,none⟩)) ((π B)) (.slice (some ⟨w.heap.size+1+1,0,none⟩) t.length t.length) (ν) (ν) ns.length (SU t 0) [] [] []:=by
  refine⟨(Rz.new _ _ _).at' (by simp),((((Rz.new w _ _).up _).up _).up _),((((Rz.new _ _ _).up _).up _).at' (by simp)),?_,yW _ _ _ _,⟨yW _ _ _ _,rfl,λk a=>by simp at a,by simp⟩,(by go_grown),by omega,by omega,by omega⟩;have q:=C4 ((w.alloc (.cells #[ι 0,ν,ν,ν] 146)).alloc (.cells #[.pointer (some ⟨tb,o,none⟩),(π B)] 200)) t.length 3 (by unfold maxLen;omega);simp only[World.size_alloc] at q;have q2:=zB (yk q (show w.heap.size<=w.heap.size+1+1 by omega)) ((zp _ _).alloc (zf _) (.cells #[ι ns.length,.slice (some ⟨w.heap.size+1+1,0,none⟩) t.length t.length,ν,ν] 146));rw[ij t 0 (by omega),show SU t 0=List.replicate t.length 0 from by simp[SU]];exact q2
 generalize (((w.alloc (.cells #[ι 0,ν,ν,ν] 146)).alloc (.cells #[.pointer (some ⟨tb,o,none⟩),(π B)] 200)).alloc (.cells (madeCells #[ι 0] t.length) 3)).alloc (.cells #[ι ns.length,.slice (some ⟨w.heap.size+1+1,0,none⟩) t.length t.length,ν,ν] 146)=w3 at *;clear aN aW aA;have aw:=hM.box;obtain⟨af,aU,aF⟩:=aw.boxed;go_wp2;clear af aU aF aw;have d:Hid (jY _ _ _ _ _ _ _ _ _ _ _ _ _ _ _ _):=hM;clear hM;go_loopw [29] (λbq wr=>∃k:Nat,k<=t.length/\bq=ι k/\Hid (jY w.heap.size w wr (w.heap.size+1+1+1) w.heap.size (w.heap.size+1) (.pointer (some ⟨tb,o,none⟩)) ((π B)) (.slice (some ⟨w.heap.size+1+1,0,none⟩) t.length t.length) (ν) (ν) ns.length (SU t k) [] [] [])) (λi _=>t.length-(intOf i).toNat);exact⟨0,zv _,rfl,d⟩;clear d;obtain⟨k,hk,rfl,d⟩:=hrel;have b:=d.out.below;have U:=b.size;by_cases x:k<t.length
 .have ae:=d.out.box;obtain⟨af,aU,aF⟩:=ae.boxed;have bP:wr.cell? ⟨w.heap.size+1+1+1,1,none⟩=some (.slice (some ⟨w.heap.size+1+1,0,none⟩) t.length t.length):=by rw[af];rfl
  have J:=d.out.ari;have ab:=ij t k hk;have bI:(k:Int)<(t.length:Int):=by omega
  obtain⟨g',bB,aq,_,bC,V⟩:=yw J (by omega);simp only[Value.slice.injEq,zr,Addr.mk.injEq,and_true] at aq;have br:=aq.1;clear aq;subst br;obtain⟨ax,bR⟩:∃ax:Nat,wr.cell? ⟨w.heap.size+1+1,k,none⟩=some (ι (ax:Nat)):=⟨_,V k (ι ((SU t k)[k]'(by omega):Nat)) (by simp[Sf,ab,x])⟩;have bE:=uH J;have S:=uj J k (by simp;omega) (ι (yo t k:Nat));have aI:Hid (((SU t k).map Sf).set k (ι (yo t k:Nat))=(SU t (k+1)).map Sf):=by rw[Hid,←Hh t k x,gA];rfl
  rw[aI.out,ab] at S;have aS:=Ry λW h=>ba.out W k (R5 b h);clear V ab;generalize yo t k=ar at *;go_wp2;go_region_held3 (λT=>T.cell? ⟨w.heap.size+1+1+1,1,none⟩=some (.slice (some ⟨w.heap.size+1+1,0,none⟩) t.length t.length)) (first|go_keep|(go_simp;done)) (first|(go_at_call 80;refine(aS.out _ (by exact(by go_grown))).mono ?_;rintro e w4 ⟨rfl,y⟩;obtain rfl:=y.symm))
  go_wp2;have H:jY w.heap.size w (wr.setCell ⟨w.heap.size+1+1,k,none⟩ (ι ar)) (w.heap.size+1+1+1) w.heap.size (w.heap.size+1) (.pointer (some ⟨tb,o,none⟩)) ((π B)) (.slice (some ⟨w.heap.size+1+1,0,none⟩) t.length t.length) (ν) (ν) ns.length (SU t (k+1)) [] [] []:=
   ⟨d.out.box.set_ne (by omega) _ _,d.out.res.set_ne (by omega) _ _,d.out.mak.set_ne (by omega) _ _,by rw[ij t (k+1) (by omega)];exact S,yW _ _ _ _,⟨yW _ _ _ _,rfl,λk a=>by simp at a,by simp⟩,b.setCell (by simp;omega) _,d.out.low⟩
  go_roundw;exact⟨k+1,by omega,by go_num,H.next ((zp _ _).drew) (zf _)⟩;simp[intOf];omega
 have bx:k=t.length:=by omega
 subst bx;rw[Iv] at d;clear hk x ba;go_wp2;go_loopw [42] (λbz wr=>∃(k:Nat) (fv rv:Value) (ps:List (Value×Value×Value)),k<=cs.length/\bz=ι k/\Hid (jY w.heap.size w wr (w.heap.size+1+1+1) w.heap.size (w.heap.size+1) (.pointer (some ⟨tb,o,none⟩)) ((π B)) (.slice (some ⟨w.heap.size+1+1,0,none⟩) t.length t.length) fv rv ns.length (t.map (·.ji)) (vo t ns (cs.take k)) (uC t ns os (cs.take k)) ps)) (λi _=>cs.length-(intOf i).toNat);exact⟨0,_,_,_,zv _,rfl,d⟩;clear d b U;obtain⟨k,fv,rv,ps,hk,rfl,d⟩:=hrel;have b:=d.out.below;have U:=b.size;by_cases x:k<cs.length
 .obtain⟨g,ay,O,aV,R,bf,hg,a2,aY,aD,aH,aQ,aZ⟩:=bt.out.cell k x;subst bf;have bF:=zl b hg a2;have bS:=zl b hg aY;have bL:=zl b hg aD;have bM:=zl b hg aH;have bT:g<wr.heap.size:=by omega
  obtain⟨b0,bm⟩:=b2.out cs[k] (zt x);have F:=Iy t ns cs k x;have D:=J7 t ns os cs k x;have a9:Hid (R7 ak w _ _):=aQ;have a3:Hid (Sc ak w _ _):=aZ;have b3:=Mf t ns (cs.take k);have aK:=O1 t ns os (cs.take k);rw[qG,fF (by omega)] at b3 aK;clear a2 aY aD aH aQ aZ;generalize cs[k]=c at *;by_cases a5:c.body.length>0
  .have aL:(c.body.length:Int)>0:=by omega
   simp only[a5,if_true,vR] at F D;have ac:=Ry F;have ad:=Ry D;clear F D;generalize vo t ns (cs.take k)=C at *;generalize uC t ns os (cs.take k)=rs at *;have aG:=Ry λW u h hu=>Py W (w.heap.size+1) tb o B t ns c _ _ u (ue os k) (bb.out W _ (R5 b h) (d.out.mak.below h)) (a9.out.below (R5 b h)) (a3.out.below (R5 b h)) b0 bm hu (bv.out k) (bh.out _);have aE:=Ry λW h=>bg.out W k (R5 b h);generalize vi t ns c (ue os k)=r at *;have m:=d.out.rul.own;obtain⟨M,A,ag⟩:=zq m;subst ag;have a8:Hid (∀W u,μ wr W->qe W u (ue os k)->Calls prog 117 #[.pointer (some ⟨w.heap.size+1,0,none⟩),.agg #[.bool c.head.neg,.string c.head.pred,.slice ay c.head.args.length O,.slice aV c.body.length R],u] W λe T=>∃tv pv nv,e=ε (.agg #[ι r.qh,ι r.vars,ι r.head.pred,tv,pv,nv])/\vx W.heap.size T tv pv nv r/\μ W T):=aG;clear aG;go_wp2_with (first|(go_at_call 116;refine(aE.out _ (by exact(by go_grown))).mono ?_;rintro e w1 ⟨u,rfl,hu,y⟩;obtain rfl:=y.symm;obtain⟨bD,b8,rfl⟩:=hu.qy)|(go_at_call 117;refine(a8.out _ _ (by exact(by go_grown)) hu).mono ?_;rintro e w2 ⟨tv,pv,nv,rfl,K,al⟩;obtain⟨aB,X,rfl⟩:=K.head.qy;obtain⟨a0,Y,rfl⟩:=K.qc.qy;obtain⟨a4,N,rfl⟩:=K.qw.qy;have l:μ wr w2:=(zM (by go_grown) al (zf _));have s:=d.out.box.below l;obtain⟨au,ai,an⟩:=s.boxed;have b7:=l.size;have j:=zB m l)|(at_builtin;refine ko w2 _ [ι r.qh,ι r.vars,ι r.head.pred,.slice aB r.head.qg.length X,.slice a0 r.qc.length Y,.slice a4 r.qw.length N] _ rfl (.tmp 58) (.tmp 60) 144 rfl w.heap.size 207 iR _ 6 96 underlying144 b4 bo aX aO rfl (by decide) (.slice M rs.length A) rs.length (gh rs ps) rfl j (by exact(by go_grown)) _ _ rfl (by simp) rfl (by simp[Value.oneCell']) (by omega) (by omega) (by omega) ?_;intro v' w3 G E a1;obtain⟨aJ,Q,rfl⟩:=zq G;have I:=s.saveT E (RL.own j) (by decide);obtain⟨ao,am,ah⟩:=I.boxed))
   have aC:vx w.heap.size w2 _ _ _ r:=K.low (show w.heap.size<=_ by simp;omega);have H:jY _ _ _ _ _ _ _ _ _ _ _ _ _ _ _ _:=(d.out.next l (zf _)).pushR E (qA.push (r:=r) (p:=(.slice aB r.head.qg.length X,.slice a0 r.qc.length Y,.slice a4 r.qw.length N)) (d.out.rul.below l) (by omega) aC G E) (by omega);go_roundw;exact⟨k+1,_,_,_,by omega,by go_num,by rw[ac.out,ad.out];exact H⟩;simp[intOf];omega
  have aL:¬(c.body.length:Int)>0:=by omega
  simp only[a5,if_false,vR] at F D;have ac:=Ry F;have ad:=Ry D;clear F D;generalize vo t ns (cs.take k)=C at *;generalize uC t ns os (cs.take k)=rs at *;have az:=Ry λW h=>QB W (w.heap.size+1) tb o B t ns c _ _ (bb.out W _ (R5 b h) (d.out.mak.below h)) (a9.out.below (R5 b h)) (a3.out.below (R5 b h)) (by omega);generalize vO t ns c=f at *;have av:Hid (∀W,μ wr W->Calls prog 118 #[.pointer (some ⟨w.heap.size+1,0,none⟩),.agg #[.bool c.head.neg,.string c.head.pred,.slice ay c.head.args.length O,.slice aV c.body.length R]] W λe T=>e=ε (.agg #[ι f.pred,ι (f.row.getD 0 0:Nat),ι (f.row.getD 1 0:Nat),ι (f.row.getD 2 0:Nat)])/\μ W T):=az;have bs:Hid (kV (C++[f])=kV C++[ι f.pred,ι (f.row.getD 0 0:Nat),ι (f.row.getD 1 0:Nat),ι (f.row.getD 2 0:Nat)]):=KE C f;clear az;generalize f.row.getD 0 0=f0 at *;generalize f.row.getD 1 0=f1 at *;generalize f.row.getD 2 0=f2 at *;have m:wr.ownsRow w.heap.size 210 4 fv C.length (kV C):=d.out.fac;obtain⟨L,z,aa⟩:=zq m;subst aa;go_wp2_with (first|(go_at_call 118;refine(av.out _ (by exact(by go_grown))).mono ?_;rintro e w2 ⟨rfl,al⟩;have l:μ wr w2:=(zM (by go_grown) al (zf _));have s:=d.out.box.below l;obtain⟨au,ai,an⟩:=s.boxed;have b7:=l.size;have j:=zB m l)|(at_builtin;refine ko w2 _ [ι f.pred,ι f0,ι f1,ι f2] _ rfl (.tmp 66) (.tmp 68) 143 rfl w.heap.size 210 iF _ 4 32 underlying143 bw bu aT bc rfl (by decide) (.slice L C.length z) C.length (kV C) rfl j (by exact(by go_grown)) _ _ rfl (by simp) rfl (by simp[Value.oneCell']) (by omega) (by omega) (by omega) ?_;intro v' w3 G E a1;obtain⟨aJ,Q,rfl⟩:=zq G;have I:=s.saveT E (RL.own j) (by decide);obtain⟨ao,am,ah⟩:=I.boxed))
  have b5:sa w.heap.size w3 (.slice aJ (C.length+1) Q) (C++[f]):=by
   unfold sa;rw[bs.out,yC];exact G
  have H:jY _ _ _ _ _ _ _ _ _ _ _ _ _ _ _ _:=(d.out.next l (zf _)).pushF E b5 (by omega);go_roundw;exact⟨k+1,_,_,_,by omega,by go_num,by rw[ac.out,ad.out];exact H⟩;simp[intOf];omega
 have b6:Hid (cs.take k=cs):=by rw[Hid,xk (by omega)]
 rw[b6.out] at d;have ae:=d.out.box;have a7:=d.out.res;obtain⟨bK,bJ,bO⟩:=ae.boxed;obtain⟨bn,bQ,aK⟩:=a7.boxed;obtain⟨L,z,aa⟩:=zq d.out.fac;obtain⟨M,A,ag⟩:=zq d.out.rul.own;subst aa;subst ag;generalize vo t ns cs=C at *;generalize uC t ns os cs=rs at *;go_wp2
 (try simp only[Exit.inBlock,Exit.then])
 refine zO (v:=.agg #[ι ns.length,.slice (some ⟨w.heap.size+1+1,0,none⟩) t.length t.length,.slice L C.length z,.slice M rs.length A]) (by simp[results,results73,go_sem,bn]) rfl ⟨_,_,_,ps,by rw[HE.out],?_,?_⟩;have Z:zc [w.heap.size] wr ((((wr.setCell ⟨w.heap.size,0,none⟩ (ι ns.length)).setCell ⟨w.heap.size,1,none⟩ (.slice (some ⟨w.heap.size+1+1,0,none⟩) t.length t.length)).setCell ⟨w.heap.size,2,none⟩ (.slice L C.length z)).setCell ⟨w.heap.size,3,none⟩ (.slice M rs.length A)):=(((zc.set _ _ _ _).trans (zc.set _ _ _ _)).trans (zc.set _ _ _ _)).trans (zc.set _ _ _ _);have ap:=RL.box a7;rw[HE.out];exact⟨yI d.out.ari Z ap (by decide),yI d.out.fac Z ap (by decide),d.out.rul.saveT Z ap (by decide) (by decide) (by decide)⟩;exact(((b.setCell (by simp) _).setCell (by simp) _).setCell (by simp) _).setCell (by simp) _
end
section
variable {cs:List zd}{t t0:List zg}{c:zd}{vs:κ}
structure RI (cs:List zd) (t0 t:List zg):Prop where
 few:Ta cs<=500
 many:∀c∈cs,yM c=false
 coll:uq cs=some t0
 tab:SH t0 (cs.flatMap zm)
 safe:∀c∈cs,xt c=true
 jm:xX (t0.length+1) t0 cs=(t,true)
def CZ{s:ByteArray}(h:ur s=.ok (cs,t)):∃t0,RI cs t0 t:=by
 unfold ur at h;split at h;cases h;rename_i l;split at h;cases h;rename_i n i;split at h;cases h;rename_i k j;split at h;cases h;rename_i f;split at h;cases h;rename_i t0 e;split at h;rename_i a;split at h;rename_i b;obtain⟨rfl,rfl⟩:=h;refine⟨t0,?_,λc d=>?_,e,Bu e,λc d=>fL.1 a c d,?_⟩;have o:=tS j;have m:=wK i;omega;cases g:yM c;rfl;exact z9 (gi.2 ⟨c,d,g⟩) f;rw[←b];cases h;cases h
def Sy(t:List zg):List (ByteArray×Nat):=t.map λe=>(e.name,e.ji)
def Lj(t:List zg)(n:ByteArray)(s:Nat):Sy (xL t n s).1=Sy t:=by
 unfold xL;split;rfl;rename_i e a;split;rfl;obtain⟨f,b,j⟩:=jj a;unfold Sy;refine j7 (by simp) λi h g=>?_;simp only[xV,lg];split;rename_i d;subst d;rw[b];rfl
def BN:∀(cs:List zd) (x:List zg×Bool),Sy (cs.foldl vU x).1=Sy x.1
 |[],_=>rfl
 |c::cs,x=>by
  rw[uu,BN cs];exact Lj _ _ _
def nB:∀(m:Nat) (t:List zg) (cs:List zd),Sy (xX m t cs).1=Sy t
 |0,_,_=>rfl
 |m+1,t,cs=>by
  have a:Sy (vL t cs).1=Sy t:=BN cs (t,false);unfold xX;split
  .rw[nB m,a]
  .exact a
def Cz{a:List zg}(h:Sy t=Sy a):R4 t=R4 a:=by
 have:=congrArg (List.map Prod.fst) h;simpa [Sy,R4,Function.comp_def] using this
def RI.lit(h:RI cs t0 t)(w:c∈cs){l:zk}(u:l∈zm c):∃e,zU t l.pred=some e/\e.name=l.pred/\zF t l.pred<t.length/\(t.map (·.ji)).getD (zF t l.pred) 0=l.args.length/\zF t l.pred=zT t l.pred:=by
 have f:Sy t=Sy t0:=by have:=nB (t0.length+1) t0 cs;rw[h.jm] at this;exact this
 have a:=uP.2 ⟨c,w,u⟩;have i:(zU t0 l.pred).isSome=true:=by
  rcases j:zU t0 l.pred with _|e;obtain⟨e,s,p⟩:=zE.1 ((h.tab.names l.pred).2 ⟨l,a,rfl⟩);exact z9 p (nJ h.tab.rise j e s);rfl
 have g:=(BY (Cz f).symm _).1 i;obtain⟨e,j⟩:=hX.1 g;obtain⟨k,n,o⟩:=jj j;have b:zF t l.pred=zT t l.pred:=by unfold zF;rw[zb g]
 refine⟨e,j,o,by rw[b];exact k,?_,b⟩;rw[b];have q:(t.map (·.ji)).getD (zT t l.pred) 0=e.ji:=by simp[List.getD,k,n]
 rw[q];have d:(e.name,e.ji)∈Sy t0:=by
  rw[←f];exact zE.2 ⟨e,by rw[←n];exact zt k,rfl⟩
 obtain⟨v,r,m⟩:=zE.1 d;simp only[yc] at m;rw[←m.2];exact(h.tab.ji v r l a (by rw[m.1,o])).symm
def RI.sol(h:RI cs t0 t):S2 cs (val t):=by
 have a:kw t0 cs:=by
  intro c j l i;have b:=uP.2 ⟨c,j,i⟩;rcases g:zU t0 l.pred with _|e;obtain⟨e,f,d⟩:=zE.1 ((h.tab.names l.pred).2 ⟨l,b,rfl⟩);exact z9 d (nJ h.tab.rise g e f);rfl
 have:=es (t0.length+1) t0 cs a (by rw[h.jm]);rw[h.jm] at this;exact this
def tG(t:List zg)(n:ByteArray):xH t n=val t n:=rfl
def L9{a b:ByteArray}{d f:zg}(k:zU t a=some d)(l:zU t b=some f)(e:zT t a=zT t b):a=b:=by
 obtain⟨n,h,j⟩:=jj k;obtain⟨m,i,g⟩:=jj l;have:d=f:=by rw[←h,←i];simp[e]
 rw[←j,←g,this]
def nA(p:Nat)(ts:List yd)(x:yd):(jt p ts x).var=x.var/\(jt p ts x).num=x.num:=by unfold jt;split<;>exact⟨rfl,rfl⟩
def ox(t:List zg)(ns vs:κ)(a:List Nat)(l:zk)(p:Nat):zJ (zK t ns vs a l) p=zJ ⟨0,uf ns vs a l⟩ p:=by
 unfold zJ zK;simp only[List.any_map];congr 1;funext x;simp only[Function.comp,(nA 0 _ x).1,(nA 0 _ x).2]
def IU(t:List zg)(ns vs:κ)(a:List Nat)(l:zk)(p:Nat):yV (zK t ns vs a l) p=yV ⟨0,uf ns vs a l⟩ p:=by
 unfold yV;rw[ox,show zJ (zK t ns vs a l)=zJ ⟨0,uf ns vs a l⟩ from funext (ox t ns vs a l)]
def LW(ns:κ)(x:ByteArray):(uy ns x).getD 0<zL ns.length:=by
 unfold uy zL;split;rename_i h;simp only[uL];split<;>omega
 simp only[gM];split<;>omega
def eo(t:List zg)(ns vs:κ)(a:List Nat)(l:zk)(o:∀k,a.getD k 0<5)(p:l.args.length<=3):qo (zK t ns vs a l) l.args.length (zL ns.length):=by
 have b:∀x∈(zK t ns vs a l).qg,∃y∈l.args,x=jt 0 (uf ns vs a l) (uF ns vs a y)/\uF ns vs a y∈uf ns vs a l:=by
  intro x e;unfold zK at e;simp only[zE] at e;obtain⟨z,i,rfl⟩:=e;have h:=i;unfold uf at i;obtain⟨y,g,rfl⟩:=zE.1 i;exact⟨y,g,rfl,h⟩
 refine⟨by simp[zK,uf],p,λx e d=>?_,λx e d=>?_⟩;obtain⟨y,g,rfl,m⟩:=b x e;obtain⟨j,n⟩:=nA 0 (uf ns vs a l) (uF ns vs a y);rw[j] at d;rw[n,IU];refine⟨?_,?_⟩;unfold uF at d ⊢;split;unfold uJ;split;exact Nat.lt_of_sub_eq_succ rfl;split;exact Nat.lt_of_sub_eq_succ rfl;exact o _;rename_i f;rw[za f] at d;cases d;have q:zJ ⟨0,uf ns vs a l⟩ (uF ns vs a y).num=true:=(gS _ _).2 ⟨_,m,d,rfl⟩;unfold jt;rw[zb d];simp only;unfold yV;rw[zb q];rfl;obtain⟨y,g,rfl,m⟩:=b x e;obtain⟨j,n⟩:=nA 0 (uf ns vs a l) (uF ns vs a y);unfold uF at d ⊢;split;rename_i f;rw[zb f] at d;cases d;exact LW ns y
def iG{ns:κ}{g:List Nat}{l:zk}{p:Nat}:zJ (zK t ns vs g l) p=true↔∃y∈l.args,zQ y=true/\uJ vs g y=p:=by
 rw[ox,gS];constructor;rintro⟨x,h,d,f⟩;unfold uf at h;obtain⟨y,b,rfl⟩:=zE.1 h;unfold uF at d f;by_cases a:zQ y=true;rw[zb a] at f;exact⟨y,b,a,f⟩;rw[za a] at d;cases d;rintro⟨y,b,a,e⟩;refine⟨uF ns vs g y,zE.2 ⟨y,b,rfl⟩,?_,?_⟩;unfold uF;rw[zb a];unfold uF;rw[zb a];exact e
def GT(h:vs.Nodup)(x:ByteArray):(j5 vs x).Nodup:=by
 unfold j5;split;rename_i d;simp only[uG,sC] at d;rw[pz];refine⟨h,by simp,λa f b e=>?_⟩;simp at e;subst e;rintro rfl;rw[vH.2 f] at d;cases d.2;exact h
def F8:∀(args vs:κ),vs.Nodup->(xz vs args).Nodup
 |[],_,h=>h
 |x::r,vs,h=>F8 r (j5 vs x) (GT h x)
def Bq(c:zd):(zx c).Nodup:=by
 have:∀(a:List zk) (vs:κ),vs.Nodup->(a.foldl vS vs).Nodup:=by
  intro a;induction a with
  |nil=>intro vs h;exact h
  |cons l a b=>
   intro vs h;rw[uu];refine b _ ?_;unfold vS;split;exact h;exact F8 _ _ h
 exact this c.body [] List.nodup_nil
def nU{α:Type}[DecidableEq α]:∀{l1 l2:List α},l1.Nodup->(∀x∈l1,x∈l2)->l1.length<=l2.length
 |[],l2,_,_=>by simp
 |a::l1,l2,d,e=>by
  have f:=e a (by simp);have h:=nU (l1:=l1) (l2:=l2.erase a) (jN.1 d).2 (λx g=>by
   have b:x≠a:=by rintro rfl;exact(jN.1 d).1 g
   exact(m4 b).2 (e x (by simp[g])))
  rw[nI f] at h;have:=nH f;simp;omega
def D2:∀{l:κ} (_:l.Nodup) {k:Nat} (f:k<l.length),y5 l l[k]=some k
 |y::r,b,0,_=>by simp[y5]
 |y::r,b,k+1,f=>by
  have a:k<r.length:=by simpa using f
  have d:y≠r[k]:=by
   rintro e;exact(jN.1 b).1 (e ▸ zt a)
  simp only[pd,y5,za d,D2 (jN.1 b).2 a,jC]
def wV:∀{ps:κ} {n:ByteArray},n∈ps->∃k,k<ps.length/\y5 ps n=some k:=fun{ps n} h=>by
 have:(y5 ps n).isSome=true:=by rw[ii];exact vH.2 h
 obtain⟨k,a⟩:=hX.1 this;obtain⟨b,_⟩:=fZ a;exact⟨k,b,a⟩
def lB(h:yM c=false):c.head.args.length<=3/\c.body.length<=6/\(∀l∈c.body,l.args.length<=3)/\(ud c).length<=5:=by
 simp only[yM,n8,decide_eq_false_iff_not,List.any_eq_false,decide_eq_true_eq] at h;obtain⟨⟨⟨e,f⟩,a⟩,d⟩:=h;exact⟨by omega,by omega,λl b=>by have:=a l b;omega,by omega⟩
def dA(h:yM c=false):(zx c).length<=5:=by
 have f:=(lB h).2.2.2;have:=nU (Bq c) (l2:=ud c) (λx e=>by
  obtain⟨a,l,b,_,d⟩:=gY.1 e;exact tD.2 ⟨a,ze ⟨l,b,d⟩⟩)
 omega
structure jA (pl:List Nat) (k:Nat):Prop where
 five:∀i,pl.getD i 0<5
 low:∀i,i<k->pl.getD i 0<k
 onto:∀p,p<k->∃i,i<k/\pl.getD i 0=p
def FM(h:RI cs t0 t)(v:c∈cs)(ns:κ)(o:Option (List Int))(u:jA (yG (o.getD [])) (zx c).length):nN (vi t ns c o) (t.map (·.ji)) (zL ns.length):=by
 have F:=h.many c v;obtain⟨H,S,C,T⟩:=lB F;have P:=dA F;have B:=h.safe c v;simp only[xt,uG,fL,fu,sC] at B;have a:∀{l:zk} {p:Nat},(∀y∈l.args,zQ y=true->y∈zx c)->zJ (zK t ns (zx c) (yG (o.getD [])) l) p=true->p<(zx c).length:=by
  intro l p s m;obtain⟨y,M,N,n⟩:=iG.1 m;obtain⟨k,R,O⟩:=wV (s y M N);unfold uJ at n;rw[O] at n;simp only at n;rw[za (by omega)] at n;rw[←n];exact u.low k R
 have g:=mG.1 B.1;have d:∀l∈c.body,∀y∈l.args,zQ y=true->y∈zx c:=by
  intro l b y E s;cases D:l.neg;exact gY.2 ⟨s,l,b,D,E⟩;rcases B.2 l b with q|q;rw[D] at q;cases q;exact mG.1 q y E s
 have j:∀l∈c.body,(zK t ns (zx c) (yG (o.getD [])) l).pred<(t.map (·.ji)).length/\qo (zK t ns (zx c) (yG (o.getD [])) l) ((t.map (·.ji)).getD (zK t ns (zx c) (yG (o.getD [])) l).pred 0) (zL ns.length):=by
  intro l b;obtain⟨e,_,_,A,z,_⟩:=h.lit v (l:=l) (by simp[zm,b]);refine⟨by simpa [zK] using A,?_⟩;show qo _ ((t.map (·.ji)).getD (zF t l.pred) 0) _;rw[z];exact eo t ns _ _ l u.five (C l b)
 obtain⟨e,_,_,A,z,_⟩:=h.lit v (l:=c.head) (by simp[zm]);refine⟨⟨P,λl b=>?_,λl b p m=>?_,λl b p m=>?_,λp m=>a g m,λp w=>?_⟩,by simpa [vi,zK] using A,?_,λl b=>?_,λl b=>?_⟩;obtain⟨x,f,rfl⟩:=zE.1 b;have:=C x (xj.1 f).1;simp[zK,uf];omega;obtain⟨x,f,rfl⟩:=zE.1 b;exact a (d x (xj.1 f).1) m;obtain⟨x,f,rfl⟩:=zE.1 b;exact a (d x (xj.1 f).1) m;obtain⟨i,G,Q⟩:=u.onto p w;have r:=zt G;obtain⟨L,l,I,K,J⟩:=gY.1 r;refine⟨_,zE.2 ⟨l,xj.2 ⟨I,by simp[K]⟩,rfl⟩,iG.2 ⟨_,J,L,?_⟩⟩;unfold uJ;rw[D2 (Bq c) G];simp only;rw[za (by omega)];exact Q;show qo _ ((t.map (·.ji)).getD (zF t c.head.pred) 0) _;rw[z];exact eo t ns _ _ c.head u.five H;obtain⟨x,f,rfl⟩:=zE.1 b;exact j x (xj.1 f).1;obtain⟨x,f,rfl⟩:=zE.1 b;exact j x (xj.1 f).1
def rT(h:RI cs t0 t)(ns:κ)(os:Option (List (Option (List Int))))(Z:∀i (d:i<cs.length),jA (yG ((ue os i).getD [])) (zx cs[i]).length):p9 (uQ t ns os cs):=by
 have u:∀a∈t.map (·.ji),a<=3:=by
  intro a P;obtain⟨e,he,rfl⟩:=zE.1 P;have D:Sy t=Sy t0:=by have:=nB (t0.length+1) t0 cs;rw[h.jm] at this;exact this
  have m:(e.name,e.ji)∈Sy t0:=by rw[←D];exact zE.2 ⟨e,he,rfl⟩
  obtain⟨G,J,L⟩:=zE.1 m;simp only[yc] at L;obtain⟨l,K,R⟩:=(h.tab.names G.name).1 (zE.2 ⟨G,J,rfl⟩);have:=h.tab.ji G J l K R;obtain⟨c,F,z⟩:=uP.1 K;obtain⟨q1,_,C,_⟩:=lB (h.many c F);rw[←L.2,←this];rcases zy.1 z with rfl|z;exact q1;exact C l z
 have B:0<zL ns.length:=by unfold zL;split<;>omega
 have b:∀r∈uC t ns os cs,∃i,∃d:i<cs.length,0<cs[i].body.length/\r=vi t ns cs[i] (ue os i):=by
  intro r o;unfold uC at o;obtain⟨⟨c,i⟩,Y,q⟩:=lL.1 o;have O:=pG.1 Y;simp only at q O;obtain⟨d,rfl⟩:=kf.1 O;split at q;rename_i X;simp only[zr] at q;exact⟨i,d,X,q.symm⟩;cases q
 refine⟨u,λf hf=>?_,λr o=>?_,λr o V I E l z=>?_⟩;have v:f∈vo t ns cs:=hf;unfold vo at v;obtain⟨c,F,rfl⟩:=zE.1 v;have s:=(xj.1 F).1;obtain⟨e,_,_,C,U,_⟩:=h.lit s (l:=c.head) (by simp[zm]);have A:qo (zK t ns [] [0,0,0,0,0] c.head) c.head.args.length (zL ns.length):=eo t ns [] _ c.head (λk=>by
  by_cases Q:k<5;have:k=0∨k=1∨k=2∨k=3∨k=4:=by omega
  rcases this with rfl|rfl|rfl|rfl|rfl<;>decide
  simp[List.getD,List.getElem?_eq_none (show([0,0,0,0,0]:List Nat).length<=k by simp;omega)]) (lB (h.many c s)).1
 refine⟨by simpa [vO,uQ] using C,?_,?_⟩;show RK ((t.map (·.ji)).getD (zF t c.head.pred) 0) _;rw[U];exact tw A _;refine FR A B λp _=>?_;by_cases Q:p<5;have:p=0∨p=1∨p=2∨p=3∨p=4:=by omega
 rcases this with rfl|rfl|rfl|rfl|rfl<;>exact B
 rw[show([0,0,0,0,0]:List Nat).getD p 0=0 by simp[List.getD,List.getElem?_eq_none (show([0,0,0,0,0]:List Nat).length<=p by simp;omega)]];exact B;obtain⟨i,d,_,rfl⟩:=b r o;exact FM h (zt d) ns _ (Z i d);obtain⟨i,d,_,rfl⟩:=b r o;obtain⟨j,W,_,rfl⟩:=b V I;obtain⟨x,N,rfl⟩:=zE.1 z;have w:=(xj.1 N).1;have H:x.neg=true:=by simpa using(xj.1 N).2
 have g:=h.sol cs[i] (zt d) x w;unfold up at g;rw[zb H] at g;obtain⟨e1,S,_,_,_,a5⟩:=h.lit (zt d) (l:=x) (by simp[zm,w]);obtain⟨e2,T,_,_,_,b5⟩:=h.lit (zt W) (l:=cs[j].head) (by simp[zm]);intro e;have M:zF t x.pred=zF t cs[j].head.pred:=e;rw[a5,b5] at M;have n:=L9 S T M;have y:xH t cs[i].head.pred=xH t cs[j].head.pred:=E;rw[tG,tG,←n] at y;omega
def nz{k:Nat}(f:k<=5):jA (yG []) k:=by
 have e:yG []=[0,1,2,3,4]:=rfl;have b:∀i,i<5->([0,1,2,3,4]:List Nat).getD i 0=i:=by
  intro i a;have:i=0∨i=1∨i=2∨i=3∨i=4:=by omega
  rcases this with rfl|rfl|rfl|rfl|rfl<;>rfl
 rw[e];refine⟨λi=>?_,λi a=>by rw[b i (by omega)];exact a,λp d=>⟨p,d,b p (by omega)⟩⟩;by_cases a:i<5;rw[b i a];exact a;simp[List.getD,List.getElem?_eq_none (show([0,1,2,3,4]:List Nat).length<=i by simp;omega)]
end
section
open Classical
def RI.low{cs:List zd}{a t:List zg}(h:RI cs a t):t.length=a.length/\t.length<=500/\∀n,xH t n<=t.length:=by
 have f:Sy t=Sy a:=by have:=nB (a.length+1) a cs;rw[h.jm] at this;exact this
 have b:t.length=a.length:=by have:=congrArg List.length f;simpa [Sy] using this
 have q:=wF _ [] a h.coll;have u:=A5 cs;have s:=h.few;simp only[g5,vn] at q;have d:kw a cs:=by
  intro c m l k;have i:=uP.2 ⟨c,m,k⟩;rcases g:zU a l.pred with _|e;obtain⟨e,p,j⟩:=zE.1 ((h.tab.names l.pred).2 ⟨l,i,rfl⟩);exact z9 j (nJ h.tab.rise g e p);rfl
 have r:∀n,val a n=0:=λn=>by
  unfold val;split;rename_i e g;have:=ev _ [] (λe g=>by cases g) a h.coll e (pi g).1;omega;rfl
 have o:=(eA d r).2 (by rw[h.jm]);rw[h.jm] at o;refine⟨b,by omega,λn=>?_⟩;rw[tG];by_cases j:n∈R4 a;have:=A6 o (ps:=R4 a) (λc m l k=>(h.tab.names l.pred).2 ⟨l,uP.2 ⟨c,m,k⟩,rfl⟩) j;simp[R4] at this;show val t n<=_;omega;have:val t n=0:=oQ (by rw[Cz f];exact j);omega
def Dk(cs:List zd):fM cs<=Ta cs:=by
 induction cs with
 |nil=>simp[fM,Ta]
 |cons c cs d=>
  have f:=sO c.body;have e:gP c.body=xg c.body:=by
   have:∀b:List zk,gP b=xg b:=by
    intro b;induction b with
    |nil=>rfl
    |cons a b d=>simp[gP,xg,kC] at d ⊢;omega
   exact this _
  simp[fM,Ta,Tq,kK,kC] at d ⊢;omega
end
section
variable {ns:κ}
def rC(h:yz ns){i j:Nat}(a:i<j)(b:j<ns.length):RX (ns.getD i ByteArray.empty) (ns.getD j ByteArray.empty)=true:=by
 have c:i<ns.length:=by omega
 rw[R6 _ c,R6 _ b];exact nT.1 h i j c b a
def Pi(h:yz ns)(x:ByteArray):∀(n l a:Nat),l<=a->a<=ns.length->a-l<n->(∀i,i<l->RX (ns.getD i ByteArray.empty) x=true)->(∀i,a<=i->i<ns.length->RX (ns.getD i ByteArray.empty) x=false)->Si ns x n l a<=ns.length/\(∀i,i<Si ns x n l a->RX (ns.getD i ByteArray.empty) x=true)/\∀i,Si ns x n l a<=i->i<ns.length->RX (ns.getD i ByteArray.empty) x=false:=by
 intro n;induction n with
 |zero=>intro l a _ _ q;omega
 |succ n p=>
  intro l a v s u j k;unfold Si;by_cases d:l<a;rw[zb d];have t:l+(a-l) / 2<a:=by omega
  have g:l<=l+(a-l) / 2:=by omega
  generalize l+(a-l) / 2=m at *;by_cases e:RX (ns.getD m ByteArray.empty) x=true;rw[zb e];refine p (m+1) a (by omega) s (by omega) (λi o=>?_) k;by_cases b:i=m;rw[b];exact e;exact lt_trans (rC h (show i<m by omega) (by omega)) e;rw[za e];have c:RX (ns.getD m ByteArray.empty) x=false:=by simpa using e
  refine p l m g (by omega) (by omega) j (λi o f=>?_);by_cases b:i=m;rw[b];exact c;cases r:RX (ns.getD i ByteArray.empty) x;rfl;have:=lt_trans (rC h (show m<i by omega) f) r;rw[this] at c;cases c;rw[za d];exact⟨by omega,j,λi o f=>k i (by omega) f⟩
def B0(h:yz ns)(x:ByteArray):uT ns x<=ns.length/\(∀i,i<uT ns x->RX (ns.getD i ByteArray.empty) x=true)/\∀i,uT ns x<=i->i<ns.length->RX (ns.getD i ByteArray.empty) x=false:=
 Pi h x _ 0 ns.length (zv _) (zf _) (by omega) (λi a=>by omega) (λi a b=>by omega)
def s5(h:yz ns){v:Nat}(a:v<ns.length):uy ns (ns.getD v ByteArray.empty)=some v:=by
 obtain⟨e,c,b⟩:=B0 h (ns.getD v ByteArray.empty);have d:uT ns (ns.getD v ByteArray.empty)=v:=by
  rcases pg (uT ns (ns.getD v ByteArray.empty)) v with q|q|q;have:=b _ (zf _) (by omega);rw[rC h q a] at this;cases this;exact q;have:=c v q;rw[RF] at this;cases this
 unfold uy;rw[d,zb ⟨a,rfl⟩]
def KG{x:ByteArray}{v:Nat}(h:uy ns x=some v):v<ns.length/\ns.getD v ByteArray.empty=x:=by
 unfold uy at h;split at h;rename_i a;simp only[zr] at h;subst h;exact a;cases h
def EV(h:yz ns){x:ByteArray}(b:x∈ns):∃v,uy ns x=some v/\v<ns.length:=by
 obtain⟨v,a,rfl⟩:=uO b;have:=s5 h a;rw[R6 _ a] at this;exact⟨v,this,a⟩
def Qs(h:yz ns)(x:ByteArray):yz (lM ns x)/\∀y,y∈lM ns x↔y=x∨y∈ns:=by
 unfold lM;obtain⟨A,w,t⟩:=B0 h x;by_cases f:uT ns x<ns.length/\ns.getD (uT ns x) ByteArray.empty=x;rw[zb f];refine⟨h,λy=>⟨ze,λq=>q.elim (λe=>?_) id⟩⟩;rw[e,←f.2,R6 _ f.1];exact zt f.1;rw[za f];generalize uT ns x=p at *;refine⟨?_,λy=>?_⟩;unfold yz;have n:=jx p ns;have c:=h;unfold yz at c;rw[←n,lH] at c;rw[lH,fR];have l:∀a∈ns.take p,RX a x=true:=λa j=>by
  obtain⟨i,o,rfl⟩:=uO j;have k:i<p:=by simp at o;omega
  have d:i<ns.length:=by omega
  have:=w i k;rw[R6 _ d] at this;simpa using this
 have s:∀b∈ns.drop p,RX x b=true:=λb g=>by
  obtain⟨i,o,rfl⟩:=uO g;have d:p+i<ns.length:=by simp at o;omega
  have u:=t (p+i) (by omega) d;rw[R6 _ d] at u;rw[List.getElem_drop];cases v:RX x ns[p+i];exfalso;have e:=sw u v;by_cases m:i=0;subst m;exact f ⟨by omega,by rw[R6 _ (by omega)];simpa using e⟩;have r:=rC h (show p<p+i by omega) d;rw[R6 _ d,e] at r;have z:=t p (zf _) (by omega);rw[z] at r;cases r;rfl
 refine⟨c.1,⟨s,c.2.1⟩,λa j b g=>?_⟩;rcases zy.1 g with rfl|g;exact l a j;exact c.2.2 a j b g;have:y∈ns↔y∈ns.take p∨y∈ns.drop p:=by
  rw[←zW,jx]
 rw[this];simp only[zW,zy];constructor;rintro(q|q|q);exact ze (zh q);exact zh q;exact ze (ze q);rintro(q|q|q);exact ze (zh q);exact zh q;exact ze (ze q)
def QD(h:yz ns)(x:ByteArray):yz (qr ns x)/\∀y,y∈qr ns x↔(y=x/\zQ x=false)∨y∈ns:=by
 unfold qr;cases a:zQ x;simpa using Qs h x;simp[h]
def oz:∀(xs:κ) {ns:κ},yz ns->yz (xs.foldl qr ns)/\∀y,y∈xs.foldl qr ns↔(y∈xs/\zQ y=false)∨y∈ns
 |[],ns,h=>⟨h,λy=>by simp⟩
 |x::xs,ns,h=>by
  obtain⟨d,f⟩:=QD h x;obtain⟨c,e⟩:=oz xs d;refine⟨c,λy=>?_⟩;rw[uu,e,f];simp only[zy];constructor
  .rintro(⟨b,a⟩|⟨rfl,a⟩|q)
   .exact zh ⟨ze b,a⟩
   .exact zh ⟨zh rfl,a⟩
   .exact ze q
  .rintro(⟨rfl|b,a⟩|q)
   .exact ze (zh ⟨rfl,a⟩)
   .exact zh ⟨b,a⟩
   .exact ze (ze q)
def DW:∀(a:List zk) {ns:κ},yz ns->yz (a.foldl uI ns)/\∀y,y∈a.foldl uI ns↔(∃l∈a,y∈l.args/\zQ y=false)∨y∈ns
 |[],ns,h=>⟨h,λy=>by simp⟩
 |l::a,ns,h=>by
  obtain⟨d,f⟩:=oz l.args h;obtain⟨c,e⟩:=DW a (ns:=uI ns l) d;refine⟨c,λy=>?_⟩;have b:∀y,y∈uI ns l↔(y∈l.args/\zQ y=false)∨y∈ns:=f;rw[uu,e,b];simp only[zy,exists_eq_or_imp];constructor
  .rintro(q|q|q)
   .exact zh (ze q)
   .exact zh (zh q)
   .exact ze q
  .rintro((q|q)|q)
   .exact ze (zh q)
   .exact zh q
   .exact ze (ze q)
def Gb:∀(cs:List zd) {ns:κ},yz ns->yz (cs.foldl vV ns)/\∀y,y∈cs.foldl vV ns↔(∃c∈cs,∃l∈zm c,y∈l.args/\zQ y=false)∨y∈ns
 |[],ns,h=>⟨h,λy=>by simp⟩
 |c::cs,ns,h=>by
  obtain⟨g,j⟩:=oz c.head.args h;obtain⟨e,d⟩:=DW c.body (ns:=uI ns c.head) g;obtain⟨f,i⟩:=Gb cs (ns:=vV ns c) e;refine⟨f,λy=>?_⟩;have b:∀y,y∈uI ns c.head↔(y∈c.head.args/\zQ y=false)∨y∈ns:=j;have a:∀y,y∈vV ns c↔(∃l∈c.body,y∈l.args/\zQ y=false)∨y∈uI ns c.head:=d;rw[uu,i,a,b];simp only[zy,exists_eq_or_imp,zm];constructor
  .rintro(q|q|q|q)
   .exact zh (ze q)
   .exact zh (zh (ze q))
   .exact zh (zh (zh q))
   .exact ze q
  .rintro(((q|q)|q)|q)
   .exact ze (ze (zh q))
   .exact ze (zh q)
   .exact zh q
   .exact ze (ze (ze q))
def dR(cs:List zd):yz (zo cs)/\∀y,y∈zo cs↔∃c∈cs,∃l∈zm c,y∈l.args/\zQ y=false:=by
 obtain⟨b,a⟩:=Gb cs (ns:=[]) List.Pairwise.nil;exact⟨b,λy=>by rw[show zo cs=cs.foldl vV [] from rfl,a];simp⟩
end
section
open Classical
variable {vs ns:κ}{pl:List Nat}{t t0:List zg}{cs:List zd}{os:Option (List (Option (List Int)))}
def jV(ns:κ)(σ:ByteArray->Nat)(l:zk)(i:Nat):Nat:=match l.args[i]? with
 |none=>0
 |some y=>if zQ y=true then σ y else(uy ns y).getD 0
def qd(ns:κ)(σ:ByteArray->Nat)(l:zk):zi:=[jV ns σ l 0,jV ns σ l 1,jV ns σ l 2]
def Dg(a:∀k,pl.getD k 0<5)(n:ByteArray):uJ vs pl n<5:=by
 unfold uJ;split;omega;split;omega;exact a _
def Lu(t:List zg)(ns vs:κ)(d:∀k,pl.getD k 0<5)(l:zk)(y:List Nat)(i:Nat):R0 (zK t ns vs pl l) y i=jV ns (λv=>y.getD (uJ vs pl v) 0) l i:=by
 unfold R0 jV;by_cases h:i<l.args.length;have a:i<(zK t ns vs pl l).qg.length:=by simp[zK,uf];exact h
 rw[zb a,yi h,R6 _ a];have e:(zK t ns vs pl l).qg[i]=jt 0 (uf ns vs pl l) (uF ns vs pl l.args[i]):=by simp[zK,uf]
 obtain⟨c,f⟩:=nA 0 (uf ns vs pl l) (uF ns vs pl l.args[i]);rw[e];unfold SG;rw[c,f];unfold uF;by_cases b:zQ l.args[i]=true;have:=Dg (vs:=vs) d l.args[i];simp[b,this];simp[b];have a:¬i<(zK t ns vs pl l).qg.length:=by simp[zK,uf];omega
 rw[za a,kM (by omega)]
def rF(t:List zg)(ns vs:κ)(a:∀k,pl.getD k 0<5)(l:zk)(y:List Nat):zG (zK t ns vs pl l) y=qd ns (λv=>y.getD (uJ vs pl v) 0) l:=by
 simp only[zG,qd,Lu t ns vs a]
def JV{σ τ:ByteArray->Nat}{l:zk}(h:∀y∈l.args,zQ y=true->σ y=τ y):qd ns σ l=qd ns τ l:=by
 have:∀i,jV ns σ l i=jV ns τ l i:=by
  intro i;unfold jV;rcases c:l.args[i]? with _|y;rfl;have b:=gU c;by_cases a:zQ y=true;simp only[a,if_true];exact h y b a;simp[a]
 simp only[qd,this]
def tj(t:List zg)(ns:κ)(c:zd)(D:DB)(x:zi):Prop:=∃σ,(∀l∈c.body,l.neg=false->RB D (zF t l.pred) (qd ns σ l))/\(∀l∈c.body,l.neg=true->D (zF t l.pred) (qd ns σ l)=none)/\x=qd ns σ c.head
def Pg{k:Nat}{f:Nat->Nat}(h:∀p,p<k->∃i,i<k/\f i=p){i j:Nat}(l:i<k)(n:j<k)(e:f i=f j):i=j:=by
 by_cases b:i=j;exact b;have:=nU (l1:=List.range k) (l2:=((List.range k).erase j).map f) List.nodup_range (λp m=>by
  obtain⟨a,g,d⟩:=h p (kx.1 m);by_cases c:a=j;exact zE.2 ⟨i,(m4 b).2 (kx.2 l),by rw[e,←c,d]⟩;exact zE.2 ⟨a,(m4 c).2 (kx.2 g),d⟩)
 rw[xY,nI (kx.2 n),rY] at this;omega
def II(m:vs.length<=5)(k:jA pl vs.length){u v:ByteArray}(l:u∈vs)(h:v∈vs)(e:uJ vs pl u=uJ vs pl v):u=v:=by
 obtain⟨i,g,d⟩:=wV l;obtain⟨j,f,c⟩:=wV h;unfold uJ at e;rw[d,c] at e;simp only at e;rw[za (by omega),za (by omega)] at e;have:=Pg k.onto g f e;subst this;obtain⟨_,a⟩:=fZ d;obtain⟨_,b⟩:=fZ c;rw[←a,←b]
def DE{c:zd}{o:Option (List Int)}{D:DB}{x:zi}(B:∀l∈zm c,∀y∈l.args,zQ y=true->y∈zx c)(E:(zx c).length<=5)(e:jA (yG (o.getD [])) (zx c).length):Tr (vi t ns c o) D x↔tj t ns c D x:=by
 constructor;rintro⟨y,m,i,s⟩;refine⟨λv=>y.getD (uJ (zx c) (yG (o.getD [])) v) 0,λl b k=>?_,λl b k=>?_,?_⟩;have:=m (zK t ns (zx c) (yG (o.getD [])) l) (zE.2 ⟨l,xj.2 ⟨b,by simp[k]⟩,rfl⟩);rw[rF t ns _ e.five] at this;exact this;have:=i (zK t ns (zx c) (yG (o.getD [])) l) (zE.2 ⟨l,xj.2 ⟨b,by simp[k]⟩,rfl⟩);rw[rF t ns _ e.five] at this;exact this;rw[s];exact rF t ns _ e.five _ _;rintro⟨σ,m,i,s⟩;let f:Nat->Nat:=λp=>if d:∃v,v∈zx c/\uJ (zx c) (yG (o.getD [])) v=p then σ d.choose else 0
 have w:∀v∈zx c,f (uJ (zx c) (yG (o.getD [])) v)=σ v:=by
  intro v h;have d:∃u,u∈zx c/\uJ (zx c) (yG (o.getD [])) u=uJ (zx c) (yG (o.getD [])) v:=⟨v,h,rfl⟩;show(if d:∃u,u∈zx c/\uJ (zx c) (yG (o.getD [])) u=uJ (zx c) (yG (o.getD [])) v then σ d.choose else 0)=σ v;rw[dif_pos d,II E e d.choose_spec.1 h d.choose_spec.2]
 have C:∀p,p<5->((List.range 5).map f).getD p 0=f p:=by
  intro p j;rw[R6 _ (by simp;exact j)];simp
 have a:∀l∈zm c,zG (zK t ns (zx c) (yG (o.getD [])) l) ((List.range 5).map f)=qd ns σ l:=by
  intro l b;rw[rF t ns _ e.five];refine JV λy r n=>?_;rw[C _ (Dg e.five _),w y (B l b y r n)]
 refine⟨(List.range 5).map f,λl b=>?_,λl b=>?_,?_⟩;obtain⟨z,q,rfl⟩:=zE.1 b;obtain⟨g,A⟩:=xj.1 q;rw[a z (by simp[zm,g])];exact m z g (by simpa using A);obtain⟨z,q,rfl⟩:=zE.1 b;obtain⟨g,A⟩:=xj.1 q;rw[a z (by simp[zm,g])];exact i z g (by simpa using A);rw[s];exact(a c.head (by simp[zm])).symm
def RI.covered(h:RI cs t0 t){c:zd}(g:c∈cs):∀l∈zm c,∀y∈l.args,zQ y=true->y∈zx c:=by
 have b:=h.safe c g;simp only[xt,uG,fL,fu,sC] at b;intro l a y d e;rcases zy.1 a with rfl|a;exact mG.1 b.1 y d e;cases f:l.neg;exact gY.2 ⟨e,l,a,f,d⟩;rcases b.2 l a with q|q;rw[f] at q;cases q;exact mG.1 q y d e
def Lx(t:List zg)(ns:κ)(cs:List zd)(s:Nat)(D:DB)(p:Nat)(x:zi):Prop:=∃c∈cs,0<c.body.length/\xH t c.head.pred=s/\p=zF t c.head.pred/\tj t ns c D x
def pB{r:zs}:r∈uC t ns os cs↔∃i,∃b:i<cs.length,0<cs[i].body.length/\r=vi t ns cs[i] (ue os i):=by
 unfold uC;rw[lL];constructor;rintro⟨⟨c,i⟩,f,a⟩;have e:=pG.1 f;simp only at a e;obtain⟨b,rfl⟩:=kf.1 e;split at a;rename_i d;simp only[zr] at a;exact⟨i,b,d,a.symm⟩;cases a;rintro⟨i,b,d,rfl⟩;refine⟨(cs[i],i),pG.2 (by simp[b]),?_⟩;simp only;rw[zb d]
def Av(h:RI cs t0 t)(ns:κ)(os:Option (List (Option (List Int))))(g:∀i (b:i<cs.length),jA (yG ((ue os i).getD [])) (zx cs[i]).length)(s:Nat)(D:DB)(p:Nat)(x:zi):qU ((uC t ns os cs).filter λr=>decide (r.qh=s)) D p x↔Lx t ns cs s D p x:=by
 constructor;rintro⟨r,l,e,f⟩;obtain⟨k,j⟩:=xj.1 l;obtain⟨i,b,d,rfl⟩:=pB.1 k;have a:=zt b;exact⟨cs[i],a,d,of_decide_eq_true j,e,(DE (h.covered a) (dA (h.many _ a)) (g i b)).1 f⟩;rintro⟨c,a,d,e,f,m⟩;obtain⟨i,b,rfl⟩:=qE.1 a;exact⟨vi t ns cs[i] (ue os i),xj.2 ⟨pB.2 ⟨i,b,d,rfl⟩,decide_eq_true e⟩,f,(DE (h.covered a) (dA (h.many _ a)) (g i b)).2 m⟩
def O4{rs a:List zs}(h:∀D p x,qU rs D p x↔qU a D p x)(k:Nat)(D:DB):zx4 rs k D=zx4 a k D:=by
 funext p x;unfold zx4;rcases D p x with _|m;simp only[h D p x];rfl
def Gl{rs a:List zs}(h:∀D p x,qU rs D p x↔qU a D p x)(mr:Nat):∀left k D,zxo rs mr left k D=zxo a mr left k D
 |0,_,_=>rfl
 |left+1,k,D=>by
  unfold zxo;rw[O4 h,Gl h mr left]
def CO{rs a:List zs}(h:∀s D p x,qU (rs.filter λr=>decide (r.qh=s)) D p x↔qU (a.filter λr=>decide (r.qh=s)) D p x)(b:∀s,(rs.filter λr=>decide (r.qh=s))=[]↔(a.filter λr=>decide (r.qh=s))=[])(mr mx:Nat):∀n s k D,zxr rs mr mx n s k D=zxr a mr mx n s k D
 |0,_,_,_=>rfl
 |n+1,s,k,D=>by
  unfold zxr;simp only[b s,Gl (h s) mr,CO h b mr mx n]
def JM(h:RI cs t0 t)(ns:κ)(os a:Option (List (Option (List Int))))(l:∀i (b:i<cs.length),jA (yG ((ue os i).getD [])) (zx cs[i]).length)(f:∀i (b:i<cs.length),jA (yG ((ue a i).getD [])) (zx cs[i]).length)(mr mx:Nat):zzm (uQ t ns os cs) mr mx=zzm (uQ t ns a cs) mr mx:=by
 have g:∀(os:Option (List (Option (List Int)))) s,((uC t ns os cs).filter λr=>decide (r.qh=s))=[]↔∀c∈cs,0<c.body.length->¬xH t c.head.pred=s:=by
  intro os s;rw[ed];constructor;intro q c m d j;obtain⟨i,b,rfl⟩:=qE.1 m;have:=q _ (pB.2 ⟨i,b,d,rfl⟩);exact this (decide_eq_true j);intro q r k;obtain⟨i,b,d,rfl⟩:=pB.1 k;exact λe=>q _ (zt b) d (of_decide_eq_true e)
 unfold zzm;show(if l9 (zy3 (vo t ns cs)) mr then zxr (uC t ns os cs) mr mx _ 0 0 _ else none)=(if l9 (zy3 (vo t ns cs)) mr then zxr (uC t ns a cs) mr mx _ 0 0 _ else none);rw[CO (λs D p x=>(Av h ns os l s D p x).trans (Av h ns a f s D p x).symm) (λs=>(g os s).trans (g a s).symm)];rfl
def BM{n:Nat}:∀{l:List Int} {e:List Bool},kF n l e=true->e.length=5->l.Nodup/\∀x∈l,0<=x/\x<n/\x<5/\e.getD x.toNat false=false
 |[],_,_,_=>⟨List.nodup_nil,by simp⟩
 |x::r,e,h,m=>by
  unfold kF at h;split at h
  .cases h
  .rename_i s;split at h
   .cases h
   .rename_i p;obtain⟨o,j⟩:=BM h (by simp[m]);have i:x.toNat<e.length:=by omega
    have g:∀y∈r,y≠x:=by
     rintro y f rfl;have:=(j y f).2.2.2;rw[nV,zb ⟨rfl,i⟩] at this;cases this
    refine⟨jN.2 ⟨λq=>g x q rfl,o⟩,λy f=>?_⟩;rcases zy.1 f with rfl|f
    .exact⟨by omega,by omega,by omega,by simpa using p⟩
    .obtain⟨a,b,c,d⟩:=j y f;have k:¬x.toNat=y.toNat:=λq=>g y f (by omega);rw[nV,za (λq=>k q.1)] at d;exact⟨a,b,c,d⟩
def KV{l:List Int}(Q:l.length<=5)(h:rz l=true):jA (yG l) l.length:=by
 obtain⟨B,n⟩:=BM h rfl;have g:∀m,m<=l.length->(∀j (c:j<m) (d:j<l.length),((l.take m).zipIdx.foldl vA [0,1,2,3,4]).getD l[j].toNat 0=j)/\∀i,(∀j (c:j<m) (d:j<l.length),l[j].toNat≠i)->((l.take m).zipIdx.foldl vA [0,1,2,3,4]).getD i 0<5:=by
  intro m;induction m with
  |zero=>
   intro _;refine⟨λj c=>by omega,λi _=>?_⟩;have:=(nz (k:=5) (zf _)).five i;exact this
  |succ m G=>
   intro P;have o:m<l.length:=by omega
   obtain⟨a,b⟩:=G (by omega);obtain⟨D,K,H,_⟩:=n l[m] (zt o);have v:((l.take m).zipIdx.foldl vA [0,1,2,3,4]).length=5:=tO (l.take m);rw[CS o];have L:∀X:List Nat,vA X (l[m],m)=X.set l[m].toNat m:=λX=>by unfold vA;exact zb ⟨D,H⟩
   rw[L];refine⟨λj c d=>?_,λi u=>?_⟩;rw[nV];by_cases s:j=m;subst s;rw[zb ⟨rfl,by rw[v];omega⟩];rw[za,a j (by omega) d];intro q;obtain⟨F,_⟩:=n l[j] (zt d);have:l[m]=l[j]:=by omega
   exact s ((List.getElem_inj B).1 this.symm);rw[nV];split;omega;exact b i λj c d=>u j (by omega) d
 obtain⟨a,b⟩:=g l.length (zf _);rw[uR] at a b;have f:∀i,i<l.length->∃j,∃c:j<l.length,l[j].toNat=i:=by
  intro i u;by_cases r:∃j,∃c:j<l.length,l[j].toNat=i;exact r;exfalso;have x:(l.map Int.toNat).Nodup:=by
   refine mP.2 (List.Pairwise.imp_of_mem (λE I w e=>w ?_) B);have O:=n _ E;have N:=n _ I;omega
  have:=nU (l1:=l.map Int.toNat) (l2:=(List.range l.length).erase i) x (λy J=>by
   obtain⟨z,C,rfl⟩:=zE.1 J;obtain⟨F,M,_⟩:=n z C;obtain⟨j,c,rfl⟩:=qE.1 C;exact(m4 (λq=>r ⟨j,c,q⟩)).2 (kx.2 (by omega)))
  rw[xY,nI (kx.2 u),rY] at this;omega
 refine⟨λi=>?_,λi u=>?_,λp A=>?_⟩;by_cases r:∃j,∃c:j<l.length,l[j].toNat=i;obtain⟨j,c,rfl⟩:=r;have:=a j c c;unfold yG;omega;exact b i λj _ c e=>r ⟨j,c,e⟩;obtain⟨j,c,rfl⟩:=f i u;have:=a j c c;unfold yG;omega;obtain⟨D,K,_⟩:=n l[p] (zt A);exact⟨l[p].toNat,by omega,a p A A⟩
def eF(h:jK cs os=true)(j:∀c∈cs,(zx c).length<=5):∀i (f:i<cs.length),jA (yG ((ue os i).getD [])) (zx cs[i]).length:=by
 intro i f;have a:=j _ (zt f);rcases os with _|l;exact nz a;unfold jK at h;simp only[uG,beq_iff_eq,fL] at h;have d:i<l.length:=by omega
 have b:=h.2 (cs[i],l[i]) (by
  rw[qE];exact⟨i,by simp;omega,by simp⟩)
 have e:ue (some l) i=l[i]:=by simp[ue,d]
 rw[e];rcases g:l[i] with _|o;exact nz a;rw[g] at b;simp only[kD,uG,beq_iff_eq] at b;show jA (yG o) _;rw[←b.1];exact KV (by omega) b.2
end
section
variable {r r2:List R8}
def ft(l:zk):Nat:=if l.args.length=0 then 2 else 2*l.args.length+3
def T7(c:zd):Nat:=ft c.head+(c.body.map ft).sum
def mY{k:Int}(h:RP r=k)(a:k≠0):r.length=r.tail.length+1:=by
 rcases r with _|⟨x,r⟩;exact z9 h.symm a;simp
def BU:∀(r:List R8) {ts:κ} {r2:List R8},yq r=some (ts,r2)->2*ts.length+r2.length<=r.length+1
 |[],_,_,h=>by simp[yq] at h
 |[x],ts,r2,h=>by
  simp only[yq] at h;split at h<;>simp at h
  obtain⟨rfl,rfl⟩:=h;simp
 |x::y::r,ts,r2,h=>by
  simp only[yq] at h;split at h
  .split at h
   .cases a:yq r with
    |none=>rw[a] at h;simp at h
    |some z=>
     obtain⟨b,c⟩:=z;rw[a] at h;simp at h;have:=BU r a;obtain⟨rfl,rfl⟩:=h;simp;omega
   .simp at h;obtain⟨rfl,rfl⟩:=h;simp;omega
  .simp at h
def o4{a:zk}(h:xo r=some (a,r2)):ft a+r2.length<=r.length+1:=by
 unfold xo at h;split at h;rename_i e;have:=mY e (by decide);split at h;rename_i c;have:=mY c (by decide);split at h;cases h;rename_i g f b;have:=BU _ b;split at h;rename_i d;have:=mY d (by decide);cases h;unfold ft;dsimp only;split<;>omega
 cases h;cases h;simp[ft];omega;cases h
def Jx{a:zk}(h:uK r=some (a,r2)):ft a+r2.length<=r.length+1:=by
 unfold uK at h;split at h;rename_i c;have:=mY c (by decide);rcases b:xo r.tail with _|z;rw[b] at h;simp at h;obtain⟨e,d⟩:=z;rw[b] at h;simp at h;have:=o4 b;obtain⟨rfl,rfl⟩:=h;simp only[ft] at this ⊢;omega;exact o4 h
def PE{n:Nat}:∀{r r2:List R8} {b:List zk},xW n r=some (b,r2)->(b.map ft).sum+r2.length<=r.length+1:=by
 induction n with
 |zero=>intro r r2 b h;simp[xW] at h
 |succ n g=>
  intro r r2 b h;rcases c:uK r with _|z;rw[rS c] at h;cases h;obtain⟨a,f⟩:=z;have:=Jx c;by_cases d:RP f=6;have:=mY d (by decide);rw[pR c d] at h;rcases e:xW n f.tail with _|z;rw[e] at h;simp at h;rw[e] at h;simp at h;have:=g e;obtain⟨rfl,rfl⟩:=h;simp only[xZ,vN];omega;rw[py c d] at h;simp at h;obtain⟨rfl,rfl⟩:=h;simp;omega
def MU{n:Nat}{c:zd}(h:vl n r=some (c,r2)):T7 c+r2.length<=r.length:=by
 unfold vl at h;split at h;cases h;rename_i a i e;have:=o4 e;split at h;rename_i f;have:=mY f (by decide);split at h;cases h;rename_i b j g;have:=PE g;split at h;rename_i d;have:=mY d (by decide);cases h;unfold T7;dsimp only;omega;cases h;split at h;rename_i d;have:=mY d (by decide);cases h;simp[T7];omega;cases h
def Fl{d:Nat}:∀{m:Nat} {r:List R8} {cs:List zd},yO d m r=some cs->(cs.map T7).sum<=r.length
 |_,[],cs,h=>by simp[yO] at h;subst h;simp
 |0,_::_,cs,h=>by simp[yO] at h
 |m+1,x::r,cs,h=>by
  cases b:vl d (x::r) with
  |none=>rw[tK (by simp) b] at h;cases h
  |some z=>
   obtain⟨c,r2⟩:=z;rw[ry (by simp) b] at h;cases a:yO d m r2 with
   |none=>rw[a] at h;simp at h
   |some e=>
    rw[a] at h;simp at h;subst h;have f:=MU b;have g:=Fl a;simp only[xZ,vN];omega
def Bf{s:ByteArray}{cs:List zd}{t:List zg}(h:ur s=.ok (cs,t)):(cs.map T7).sum<=500:=by
 unfold ur at h;split at h;cases h;rename_i d;split at h;cases h;rename_i e a;split at h;cases h;rename_i c b;have f:=Fl b;have g:=wK a;split at h;cases h;split at h;cases h;split at h;split at h;cases h;omega;cases h;cases h
def kN(a:List zk):Nat:=(a.map λl=>l.args.countP zQ).sum
def ff(b:List zk):Nat:=(b.map λl=>l.args.countP λa=>!zQ a).sum
def eU:∀(b:List zk),(∀l∈b,l.args.length<=3)->3*(kN b+ff b)<=(b.map ft).sum
 |[],_=>by simp[kN,ff]
 |l::b,h=>by
  have d:=eU b (λx c=>h x (by simp[c]));have i:=h l (by simp);have g:=List.length_eq_countP_add_countP zQ (l:=l.args);have f:3*l.args.length<=ft l:=by unfold ft;split<;>omega
  have e:l.args.countP (λa=>decide ¬zQ a=true)=l.args.countP λa=>!zQ a:=by congr 1;funext a;cases zQ a<;>rfl
  simp only[kN,ff,xZ,vN] at d ⊢;omega
def oY:∀(cs:List zd),(∀c∈cs,yM c=false)->3*((cs.map λc=>kN c.body).sum+(cs.map λc=>ff (zm c)).sum)<=(cs.map T7).sum
 |[],_=>by simp
 |c::cs,h=>by
  have g:=oY cs (λx f=>h x (by simp[f]));obtain⟨d,_,b,_⟩:=lB (h c (by simp));have i:=eU c.body b;have e:=eU [c.head] (by simpa using d);have a:ff (zm c)=ff [c.head]+ff c.body:=by simp[ff,zm]
  simp only[xZ,vN,T7,a] at g ⊢;simp at e;omega
def Cw{α β:Type}(f:α->List β):∀l:List α,(l.flatMap f).length=(l.map λx=>(f x).length).sum
 |[]=>rfl
 |a::l=>by simp
def Fx(cs:List zd):(zo cs).length<=(cs.map λc=>ff (zm c)).sum:=by
 obtain⟨i,k⟩:=dR cs;have g:(zo cs).Nodup:=List.Pairwise.imp (fun{a b} q e=>by subst e;rw[RF] at q;cases q) i;have d:=nU g (l2:=cs.flatMap λc=>(zm c).flatMap λl=>l.args.filter λa=>!zQ a) (λx f=>by
  obtain⟨c,m,l,j,f,h⟩:=(k x).1 f;exact uP.2 ⟨c,m,uP.2 ⟨l,j,xj.2 ⟨f,by simp[h]⟩⟩⟩)
 rw[Cw] at d;have e:(λc:zd=>((zm c).flatMap λl=>l.args.filter λa=>!zQ a).length)=λc=>ff (zm c):=by
  funext c;rw[Cw];unfold ff;congr 2;funext l;rw[sP]
 rw[e] at d;exact d
end
def SR(V:Nat):Nat->Nat
 |0=>0
 |k+1=>V*SR V k+1
def Dc{V:Nat}(b:1<=V):∀(k:Nat) (hs:List Nat),hs.length<=k->Sz V hs<=hs.sum*V ^ k+SR V k
 |_,[],_=>by simp[Sz]
 |0,h::r,a=>by simp at a
 |k+1,h::r,a=>by
  have e:=Dc b k r (by simpa using a);have f:V*(h+Sz V r)<=V*(h+(r.sum*V ^ k+SR V k)):=mL _ (by omega);have d:V*(h+(r.sum*V ^ k+SR V k))=V*h+r.sum*(V ^ k*V)+V*SR V k:=by
   rw[Nat.mul_add,Nat.mul_add,Nat.mul_left_comm V,Nat.mul_comm V (V ^ k)];omega
  have c:V*h<=h*(V ^ k*V):=by
   rw[Nat.mul_comm V h];refine mL _ ?_;have:=dM V (Nat.one_le_pow k V b);omega
  simp only[Sz,SR,vN,Nat.pow_succ,lm];omega
def Fj{α:Type}(f g:α->Nat):∀a:List α,(a.map λp=>f p+g p).sum=(a.map f).sum+(a.map g).sum
 |[]=>rfl
 |p::a=>by simp[Fj f g a];omega
def Dh{α:Type}:∀a:List α,(a.map λ_=>0).sum=0
 |[]=>rfl
 |p::a=>by simp[Dh a]
def Gc{α:Type}(q:α->Bool):∀a:List α,(a.map λp=>if q p=true then 1 else 0).sum=a.countP q
 |[]=>rfl
 |p::a=>by simp only[xZ,vN,Gc q a,List.countP_cons];omega
def oq(p:Nat):∀(a:List zw) (k:Nat),((a.zipIdx k).filterMap λx=>(yV x.1 p).map λb=>(x.2,b)).length=a.countP λl=>zJ l p
 |[],_=>rfl
 |l::a,k=>by
  have:=oq p a (k+1);rw[List.zipIdx_cons,sq,List.countP_cons];simp only[yV];cases c:zJ l p<;>simp[yV] at this ⊢<;>omega
def Fa(ps:List Nat):∀a:List zw,(ps.map λp=>a.countP λl=>zJ l p).sum=(a.map λl=>ps.countP (zJ l)).sum
 |[]=>by simp[Dh]
 |l::a=>by
  have c:=Fa ps a;have b:=Fj (λp=>a.countP λl=>zJ l p) (λp=>if zJ l p=true then 1 else 0) ps;simp only[List.countP_cons,xZ,vN] at b ⊢;rw[b,c,Gc];omega
def Np(l:zw)(n:Nat):(List.range n).countP (zJ l)<=l.qg.countP (·.var):=by
 rw[sP,sP];have h:((List.range n).filter (zJ l)).Nodup:=List.Nodup.sublist List.filter_sublist List.nodup_range;have:=A4 h (l2:=(l.qg.filter (·.var)).map (·.num)) (λx b=>by
  obtain⟨t,c,a,d⟩:=(gS l x).1 (xj.1 b).2;exact zE.2 ⟨t,xj.2 ⟨c,a⟩,d⟩)
 simpa using this
def BT{α:Type}{f g:α->Nat}:∀{ps:List α},(∀p∈ps,f p<=g p)->(ps.map f).sum<=(ps.map g).sum
 |[],_=>zf _
 |p::ps,h=>by
  have c:=BT (ps:=ps) (λx a=>h x (by simp[a]));have b:=h p (by simp);simp only[xZ,vN];omega
def Hk(r:zs):(Sr r).sum<=(r.qc.map λl=>l.qg.countP (·.var)).sum:=by
 have e:Sr r=(List.range r.vars).map λp=>r.qc.countP λl=>zJ l p:=by
  unfold Sr xn;congr 1;funext p;exact oq p r.qc 0
 rw[e,Fa];exact BT λl _=>Np l _
def Q4{r:zs}(h:dC r)(f:r.vars≠0):1<=(Sr r).sum:=by
 obtain⟨n,a⟩:∃n,r.vars=n+1:=⟨r.vars-1,by omega⟩;obtain⟨l,b,c⟩:=h.safe 0 (by omega);have e:(xn r 0).length=r.qc.countP λl=>zJ l 0:=oq 0 r.qc 0;have d:0<r.qc.countP λl=>zJ l 0:=List.countP_pos_iff.2 ⟨l,b,c⟩;unfold Sr;rw[a,List.range_succ_eq_map,xZ,vN];omega
def JR{V:Nat}(b:1<=V){r:zs}(h:dC r)(c:r.qc.length<=6):qL V r<=(Sr r).sum*(6*(V ^ 5+SR V 5)):=by
 unfold qL;by_cases a:r.vars=0;simp[Sr,a,Sz];have d:=Q4 h a;have i:=Dc b 5 (Sr r) (by simpa [Sr] using h.vars);have g:1*SR V 5<=(Sr r).sum*SR V 5:=dM _ d;have f:r.qc.length*Sz V (Sr r)<=6*Sz V (Sr r):=dM _ c;have e:(Sr r).sum*(6*(V ^ 5+SR V 5))=6*((Sr r).sum*V ^ 5+(Sr r).sum*SR V 5):=by rw[Nat.mul_left_comm,Nat.mul_add]
 omega
def NQ(t:List zg)(ns vs:κ)(b:List Nat)(l:zk):(zK t ns vs b l).qg.countP (·.var)=l.args.countP zQ:=by
 unfold zK uf;simp only[mT,List.countP_map];congr 1;funext a;show(jt 0 _ (uF ns vs b a)).var=zQ a;rw[(nA _ _ _).1];unfold uF;cases zQ a<;>rfl
def K7{cs:List zd}{k t:List zg}(h:RI cs k t){c:zd}(g:c∈cs)(ns:κ)(o:Option (List Int))(n:jA (yG (o.getD [])) (zx c).length){V:Nat}(i:1<=V):T8 (vi t ns c o)/\qL V (vi t ns c o)<=kN c.body*(6*(V ^ 5+SR V 5)):=by
 have d:=(FM h g ns o n).fine;obtain⟨_,q,_,_⟩:=lB (h.many c g);have j:(vi t ns c o).qc.length<=6:=by
  have:(c.body.filter λl=>!l.neg).length<=c.body.length:=pL _ _;simp only[vi,xY];omega
 have r:=Hk (vi t ns c o);have s:((vi t ns c o).qc.map λl=>l.qg.countP (·.var)).sum<=kN c.body:=by
  simp only[vi,mT];have e:((λl:zw=>l.qg.countP (·.var)) ∘ zK t ns (zx c) (yG (o.getD [])))=λl:zk=>l.args.countP zQ:=by
   funext l;exact NQ t ns _ _ l
  rw[e];unfold kN;generalize c.body=b;induction b with
  |nil=>exact zf _
  |cons a b p=>
   rw[List.filter_cons];split<;>simp only[xZ,vN]<;>omega
 refine⟨⟨d.vars,λe=>?_⟩,zZ (JR i d j) (dM _ (by omega))⟩;by_cases m:(vi t ns c o).vars=0;exact m;obtain⟨l,f,_⟩:=d.safe 0 (by omega);rw[e] at f;cases f
def CX{t:List zg}{ns:κ}{os:Option (List (Option (List Int)))}{V G:Nat}:∀(xs:List (zd×Nat)),(∀x∈xs,T8 (vi t ns x.1 (ue os x.2))/\qL V (vi t ns x.1 (ue os x.2))<=kN x.1.body*G)->(∀r∈xs.filterMap (λx=>if x.1.body.length>0 then some (vi t ns x.1 (ue os x.2)) else none),T8 r)/\((xs.filterMap λx=>if x.1.body.length>0 then some (vi t ns x.1 (ue os x.2)) else none).map (qL V)).sum<=(xs.map λx=>kN x.1.body).sum*G
 |[],_=>by simp
 |x::xs,h=>by
  obtain⟨c,g⟩:=CX (t:=t) (ns:=ns) (os:=os) (V:=V) (G:=G) xs (λy d=>h y (by simp[d]));obtain⟨e,f⟩:=h x (by simp);rw[sq];simp only[xZ,vN,lm];by_cases b:x.1.body.length>0
  .simp only[b,if_true,xZ,vN,zy];refine⟨λr a=>?_,by omega⟩;rcases a with rfl|a
   .exact e
   .exact c r a
  .simp only[b,if_false];exact⟨c,by omega⟩
def Ll:∀v,v<167->1048576*((166-v)*(6*(zL v ^ 5+SR (zL v) 5)))<9223372036854775808:=by decide +kernel
def G4{s:ByteArray}{cs:List zd}{l t:List zg}(p:ur s=.ok (cs,t))(h:RI cs l t)(os:Option (List (Option (List Int))))(o:∀i (v:i<cs.length),jA (yG ((ue os i).getD [])) (zx cs[i]).length){a mr mx:Nat}(b:mx<=1048576){R:zu}(m:mz a (uQ t (zo cs) os cs) mr mx=some (some R)):0<=R.jg:=by
 have u:=Bf p;have w:=oY cs h.many;have r:=Fx cs;have j:1<=zL (zo cs).length:=by unfold zL;split<;>omega
 obtain⟨n,d⟩:=CX (t:=t) (ns:=zo cs) (os:=os) (V:=zL (zo cs).length) (G:=6*(zL (zo cs).length ^ 5+SR (zL (zo cs).length) 5)) cs.zipIdx (λx b=>by
  obtain⟨g,f⟩:=List.mem_zipIdx' b;exact K7 h (by rw[f];exact zt g) _ _ (by rw[f];exact o _ g) j)
 have e:(cs.zipIdx.map λx=>kN x.1.body)=cs.map λc=>kN c.body:=by
  rw[show(λx:zd×Nat=>kN x.1.body)=(λc:zd=>kN c.body) ∘ Prod.fst from rfl,←mT,List.zipIdx_map_fst]
 rw[e] at d;have q:=Ll (zo cs).length (by omega);have k:(cs.map λc=>kN c.body).sum*(6*(zL (zo cs).length ^ 5+SR (zL (zo cs).length) 5))<=(166-(zo cs).length)*(6*(zL (zo cs).length ^ 5+SR (zL (zo cs).length) 5)):=dM _ (by omega);refine Mr b n ?_ m;have:1048576*((uQ t (zo cs) os cs).rules.map (qL (zL (uQ t (zo cs) os cs).qf))).sum<=1048576*((166-(zo cs).length)*(6*(zL (zo cs).length ^ 5+SR (zL (zo cs).length) 5))):=mL _ (zZ d k);omega
end Go.Proofs.YteampbddflhngaaGreat
