import Derived.Test.YteampbddflhngaaGreatX23
import Derived.Test.YteampbddflhngaaGreatX24
namespace Go.Proofs.YteampbddflhngaaGreat
set_option linter.all false
set_option maxRecDepth 100000
set_option maxHeartbeats 4000000
open Go.RowKit
section
open Go.Proofs.Tryz
variable {lo:Nat}{w:World}
structure yT where
 tv:Value
 pv:Value
 nv:Value
 vv:Value
 ntv:Value
 vps:List jo
 nbs:List Nat
def qM(r:zq)(P:yT):List Value:=[.int .i64 r.qh,.int .i64 r.vars,.int .i64 r.head.pred,P.tv,P.pv,P.nv,P.vv,P.ntv]
def vP(wd:Nat)(vs:List y6)(ps:List jo):List Value:=(List.zipWith (kP wd) vs ps).flatten
structure xV (lo:Nat) (w:World) (own:Nat->zn) (k wd:Nat) (W:zZ) (P:yT):Prop where
 rule:uU lo w P.tv P.pv P.nv W.rule
 qm:w.ownsRow lo 301 6 P.vv W.qm.length (vP wd W.qm P.vps)
 vlen:P.vps.length=W.qm.length
 view:∀i (_:i<W.qm.length) (_:i<P.vps.length),vn lo w own k i W.qm[i] P.vps[i]
 vrole:∀b,P.vv.ownBlock=some b->own b=(k+1,0,9)
 qp:w.ownsRow lo 162 1 P.ntv W.rule.qp.length (PH P.nbs)
 nlen:P.nbs.length=W.rule.qp.length
 few:W.qm.length<=1000
theorem BK(wd:Nat):∀(vs:List y6) (ps:List jo) (i:Nat) (b:i<vs.length) (a:i<ps.length),(vP wd vs ps)[i*6]?=some (.int .i64 (vs[i].lit.pred:Nat))/\(vP wd vs ps)[i*6+1]?=some ps[i].tv/\(vP wd vs ps)[i*6+2]?=some (.int .i64 wd)/\(vP wd vs ps)[i*6+3]?=some (pt ps[i].bb)/\(vP wd vs ps)[i*6+4]?=some (pt ps[i].fb)/\(vP wd vs ps)[i*6+5]?=some (pt ps[i].ab)
 |[],_,i,b,_=>by simp at b
 |v::vs,[],i,_,a=>by simp at a
 |v::vs,p::ps,0,_,_=>by simp[vP,kP]
 |v::vs,p::ps,i+1,b,a=>by
  have:=BK wd vs ps i (by simpa using b) (by simpa using a);simp only[vP,lr,lM] at this ⊢;rw[show(i+1)*6=i*6+6 from by omega];have c:i*6+6=(kP wd v p).length+i*6:=by simp[kP];omega
  rw[c];simp only[Nat.add_assoc,gU (Nat.le_add_right _ _),rU];simpa using this
theorem xV.viewAt{own:Nat->zn}{k wd:Nat}{W:zZ}{P:yT}(h:xV lo w own k wd W P)(i:Nat)(o:i<W.qm.length)(c:i<P.vps.length):∃g a,P.vv=.slice (some ⟨g,0,none⟩) W.qm.length a/\g<w.heap.size/\w.cell? ⟨g,i*6,none⟩=some (.int .i64 (W.qm[i].lit.pred:Nat))/\w.cell? ⟨g,i*6+1,none⟩=some P.vps[i].tv/\w.cell? ⟨g,i*6+2,none⟩=some (.int .i64 wd)/\w.cell? ⟨g,i*6+3,none⟩=some (.pointer (some ⟨P.vps[i].bb,0,none⟩))/\w.cell? ⟨g,i*6+4,none⟩=some (.pointer (some ⟨P.vps[i].fb,0,none⟩))/\w.cell? ⟨g,i*6+5,none⟩=some (.pointer (some ⟨P.vps[i].ab,0,none⟩)):=by
 obtain⟨g,a,m,_,e,b⟩:=yC h.qm (by omega);obtain⟨j,p,l,n,f,d⟩:=BK wd W.qm P.vps i o c;exact⟨g,a,m,e,b _ _ j,b _ _ p,b _ _ l,b _ _ n,b _ _ f,b _ _ d⟩
theorem eR{w:World}{own:Nat->zn}{S:zn->Prop}:∀(d:List zi) (bs:List Nat),bs.length=d.length->(∀i (j:i<d.length) (g:i<bs.length),∃ρ,S ρ/\yO lo w own ρ bs[i] d[i])->∃e:List (Nat×List Nat),e.map (·.1)=bs/\(∀i (j:i<d.length) (g:i<e.length),zY lo w e[i].1 d[i] e[i].2)/\∀x∈e,∀b∈x.2,S (own b)
 |[],[],_,_=>⟨[],rfl,fun i h=>by simp at h,fun x f=>by simp at f⟩
 |[],b::bs,h,_=>by simp at h
 |T::d,[],h,_=>by simp at h
 |T::d,b::bs,h,l=>by
  obtain⟨ρ,q,m,j,g⟩:=l 0 (by simp) (by simp);obtain⟨e,p,n,o⟩:=eR d bs (by simpa using h) fun i a c=>by
   have:=l (i+1) (by simpa using a) (by simpa using c);simpa using this
  refine⟨(b,m)::e,by simp[p],fun i a c=>?_,fun x f y k=>?_⟩
  ·match i,a,c with
   |0,_,_=>exact j
   |i+1,a,c=>exact n i (by simpa using a) (by simpa using c)
  ·rcases zu.1 f with rfl|f
   ·rw[g y k];exact q
   ·exact o x f y k
def lL(lo:Nat)(w:World)(own:Nat->zn)(p:Nat)(J:zy)(e:Ending)(a:World):Prop:=∃P,e=.returned (.agg (um J P).toArray)/\jn lo a J P/\nw own P p/\Below w.heap.size w a
theorem Kq{J:zy}{P:xp}(h:jn lo w J P):∀u∈um J P,u.oneCell'=true:=by
 intro u a;obtain⟨l,i,f⟩:=h.head.qx;obtain⟨k,q,b⟩:=zs h.qy;obtain⟨n,o,d⟩:=zs h.bars;simp only[um,zX,zu,z9,lE,or_false] at a;rcases a with ((((((a|a)|⟨_,_,a⟩)|a)|⟨_,_,a⟩)|⟨_,_,a⟩)|a)
 ·rcases a with rfl|rfl|rfl|rfl|rfl
  ·rfl
  ·rw[f];rfl
  ·rfl
  ·rw[b];rfl
  ·rw[d];rfl
 ·obtain⟨p,g,rfl⟩:=vG a;have m:=h.hlen;obtain⟨j,c,e⟩:=zs (h.je p (by omega) g).1;rw[e];rfl
 ·subst a;rfl
 ·subst a;rfl
 ·subst a;rfl
 ·subst a;rfl
 ·rcases a with rfl|rfl<;>rfl
def qs(bs:List Nat)(k:Nat):List Value:=(bs.take k).map pt++List.replicate (bs.length-k) (.pointer none)
theorem CG(bs:List Nat)(k:Nat)(a:k<=bs.length):(qs bs k).length=bs.length:=by simp[qs];omega
theorem DP(bs:List Nat)(k:Nat)(b:k<bs.length):(qs bs k).set k (.pointer (some ⟨bs[k],0,none⟩))=qs bs (k+1):=by
 obtain⟨m,a⟩:∃m,bs.length-k=m+1:=⟨bs.length-k-1,by omega⟩;unfold qs;rw[fG _ _ (by simp;omega),uJ,vU,dH (by omega),jH,a,pS,pg,yP b,vC,show bs.length-(k+1)=m from by omega,kB];rfl
theorem Bx(bs:List Nat):qs bs bs.length=PH bs:=by simp[qs,PH]
theorem OK:(prog.info? 162).map (fun i=>(i.zero,i.size,i.bytes))=some (some (.pointer none),1,8):=by kernel_rfl
theorem Bd{W':World}{own:Nat->zn}{k wd p pb:Nat}{W:zZ}{P:yT}{qc qp:List zi}{bs:List Nat}(d:xV lo w own k wd W P)(K:lo<=w.heap.size)(O:qc.length=W.qm.length)(A:bs.length=qc.length)(t:∀i (v:i<qc.length) (s:i<bs.length),∃ρ,ρ≠(0,p,0)/\yO lo w own ρ bs[i] qc[i])(m:qp.length=W.rule.qp.length)(o:∀i (v:i<qp.length) (s:i<P.nbs.length),∃ρ,ρ≠(0,p,0)/\yO lo w own ρ P.nbs[i] qp[i])(h:Below w.heap.size w W')(j:W'.ownsRow w.heap.size 162 1 (.slice (some ⟨pb,0,none⟩) qc.length qc.length) qc.length (PH bs)):
  Calls prog 214 #[kz W.rule P.tv P.pv P.nv,.slice (some ⟨pb,0,none⟩) qc.length qc.length,P.ntv] W' fun e z=>lL lo W' own p (xv W.rule qc qp) e z:=by
 obtain⟨l,B,L,E⟩:=eR qc bs A t;obtain⟨n,C,M,F⟩:=eR qp P.nbs (by rw[d.nlen,m]) o;have f:l.length=qc.length:=by rw[←A,←B,uJ]
 have g:n.length=qp.length:=by rw[m,←d.nlen,←C,uJ]
 have N:PH bs=l.map fun x=>Ro x.1:=by rw[←B];simp[PH];exact fun _ _ _=>rfl
 have D:PH P.nbs=n.map fun x=>Ro x.1:=by rw[←C];simp[PH];exact fun _ _ _=>rfl
 have y:=d.few;have I:=d.rule.qp.len;have v:dG w.heap.size lo W' (.slice (some ⟨pb,0,none⟩) qc.length qc.length) qc l:=⟨by rw[←N];exact j,f,fun i a b=>(L i a b).below h,by omega⟩;have s:dG lo lo W' P.ntv qp n:=⟨by rw[m,←D];exact zC d.qp h,g,fun i a b=>(M i a b).below h,by omega⟩;refine(Fr W' W.rule P.tv P.pv P.nv _ _ qc qp l n (d.rule.below h) v s m (by have:=h.size;omega)).mono ?_;rintro e z ⟨J,rfl,G,H,r,u⟩;refine⟨J,rfl,G,⟨fun x q b c=>E x (by rw[←H];exact q) b c,fun x q b c=>F x.2 (by rw[←r];exact List.mem_map_of_mem q) b c⟩,u⟩
theorem se{a:World}{b:Nat}(h:ur w b)(e:Below w.heap.size w a):ur a b:=by obtain⟨c,f,d⟩:=h;exact⟨c,f.below e,d⟩
theorem EA{b b' o:Nat}{u:Value}(h:ur w b)(d:b≠b'):ur (w.setCell ⟨b',o,none⟩ u) b:=by obtain⟨c,e,a⟩:=h;exact⟨c,e.set_ne d _ _,a⟩
structure WC (w:World) (gw o:Nat) (r:zq) (P:yT):Prop where
 lt:gw<w.heap.size
 free:∀q,w.frozen? ⟨gw,q,none⟩=false
 c0:w.cell? ⟨gw,o,none⟩=some (.int .i64 r.qh)
 c1:w.cell? ⟨gw,o+1,none⟩=some (.int .i64 r.vars)
 c2:w.cell? ⟨gw,o+2,none⟩=some (.int .i64 r.head.pred)
 c3:w.cell? ⟨gw,o+3,none⟩=some P.tv
 c4:w.cell? ⟨gw,o+4,none⟩=some P.pv
 c5:w.cell? ⟨gw,o+5,none⟩=some P.nv
 c6:w.cell? ⟨gw,o+6,none⟩=some P.vv
 c7:w.cell? ⟨gw,o+7,none⟩=some P.ntv
theorem WC.below{c:World}{a o:Nat}{r:zq}{P:yT}(h:WC w a o r P)(b:Below w.heap.size w c):WC c a o r P:=by
 have e:=fun q=>b.cell (p:=⟨a,q,none⟩) h.lt;exact⟨by have:=b.size;have:=h.lt;omega,fun q=>(b.frozen (p:=⟨a,q,none⟩) h.lt).trans (h.free q),(e _).trans h.c0,(e _).trans h.c1,(e _).trans h.c2,(e _).trans h.c3,(e _).trans h.c4,(e _).trans h.c5,(e _).trans h.c6,(e _).trans h.c7⟩
theorem tj{b:Nat}{J:zy}{P:xp}{c:World}(a:jn lo c J P)(h:ur w b):(storeCells ⟨b,0,none⟩ (um J P)).run prog w=.ok () (kW w b (um J P)):=by
 have e:=pn J P a.hlen.1 a.jk;exact run_storeCells_cells (P:=prog) b 0 (um J P) 0 w (fun j d=>(h.there j (by omega)).1) (fun j d=>(h.there j (by omega)).2) (Kq a)
attribute [local go_sem] r7
theorem FU(w:World)(own:Nat->zn)(k wd p E o:Nat)(W:zZ)(P:yT)(qp:List zi)(h:xV lo w own k wd W P)(hc:WC w E o W.rule P)(aC:lo<=w.heap.size)(hn:qp.length=W.rule.qp.length)(au:∀i (h1:i<qp.length) (h2:i<P.nbs.length),∃ρ,ρ≠(0,p,0)/\yO lo w own ρ P.nbs[i] qp[i]):
  Calls prog 207 #[.pointer (some ⟨E,o,none⟩)] w fun e s=>lL lo w own p (xv W.rule (W.qm.map (·.all)) qp) e s:=by
 obtain⟨i0,hi,aD,aB,a6⟩:=info_parts OK;have L:Hid (∀Q pb,Below w.heap.size w Q->Q.ownsRow w.heap.size 162 1 (.slice (some ⟨pb,0,none⟩) W.qm.length W.qm.length) W.qm.length (PH (P.vps.map (·.ab)))->Calls prog 214 #[kz W.rule P.tv P.pv P.nv,.slice (some ⟨pb,0,none⟩) W.qm.length W.qm.length,P.ntv] Q fun e s=>lL lo Q own p (xv W.rule (W.qm.map (·.all)) qp) e s):=fun Q pb hB c=>by
  have q:=Bd (p:=p) (pb:=pb) (qc:=W.qm.map (·.all)) (bs:=P.vps.map (·.ab)) (qp:=qp) (W':=Q) h aC (by simp) (by simp[h.vlen]) (fun i h1 h2=>⟨(k+1,i,2),by simp,by simp only[vm];exact(h.view i (by simpa using h1) (by simpa using h2)).all⟩) hn au hB (by simpa using c);simpa using q
 have aO:=Px fun i a b=>h.viewAt i a b;have aG:=Px fun i a b=>(h.view i a b).qg.qx;have Y:=Px h.vlen;have aV:=h.few;obtain⟨bd,aY,Z⟩:=zs h.qm;obtain⟨V,y,av⟩:=h.rule.head.qx;obtain⟨S,t,ay⟩:=h.rule.qc.qx;obtain⟨R,A,ah⟩:=h.rule.qp.qx;obtain⟨T,x,M⟩:=zs h.qp;have HW:=Px hc;have aP:=Px Z;have B:Hid (P.tv=.slice V W.rule.head.qg.length y/\P.pv=.slice S W.rule.qc.length t/\P.nv=.slice R W.rule.qp.length A/\P.ntv=.slice T W.rule.qp.length x):=⟨av,ay,ah,M⟩;have aw:=fun W0:World=>run_make (P:=prog) (w:=W0) 150 162 i0 _ underlying150 hi aD .i64 .i64 (W.qm.length:Int) (W.qm.length:Int) (by omega) (Int.le_refl _) (by rw[a6];omega) (by omega);rw[aB] at aw;have ag:=hc.c6;rw[Z] at ag;have a3:=hc.lt;have a8:=hc.free;clear h hc au Z av ay ah M;go_enter func207,ntmps207;go_upto_region 3 with fail
 have a1:Below w.heap.size w ((w.alloc (.cells (bj 0 0 0 none none 0 0 0 0).toArray 310)).alloc (.cells (madeCells #[.pointer none] W.qm.length) 162)):=(by go_grown);have c:=sI (w.alloc (.cells (bj 0 0 0 none none 0 0 0 0).toArray 310)) W.qm.length 162 (.pointer none) (by unfold maxLen;omega);rw[World.size_alloc] at c;have al:ur ((w.alloc (.cells (bj 0 0 0 none none 0 0 0 0).toArray 310)).alloc (.cells (madeCells #[.pointer none] W.qm.length) 162)) w.heap.size:=sp _ _ _ _ _ _ _ _ _ _ _;have aj:(P.vps.map (·.ab)).length=W.qm.length:=by simp[Y.out]
 have ax:Hid (((w.alloc (.cells (bj 0 0 0 none none 0 0 0 0).toArray 310)).alloc (.cells (madeCells #[.pointer none] W.qm.length) 162)).ownsRow w.heap.size 162 1 (.slice (some ⟨w.heap.size+1,0,none⟩) W.qm.length W.qm.length) W.qm.length (qs (P.vps.map (·.ab)) 0)):=by
  have e:qs (P.vps.map (·.ab)) 0=List.replicate W.qm.length (.pointer none):=by simp[qs,Y.out]
  rw[Hid,e];exact yq c (by omega)
 have ab:=Px aj;have aR:Hid (∀i (h1:i<P.vps.length) (h2:i<(P.vps.map (·.ab)).length),(P.vps.map (·.ab))[i]=P.vps[i].ab):=fun i a b=>by simp
 clear c aj ag a3 a8 aw;generalize (w.alloc (.cells (bj 0 0 0 none none 0 0 0 0).toArray 310)).alloc (.cells (madeCells #[.pointer none] W.qm.length) 162)=w1 at *;generalize P.vps.map (·.ab)=O at *;have D:=Px al;clear al;go_loopw [17] (fun aF wr=>∃m:Nat,m<=W.qm.length/\aF=.int .i64 m/\Below w.heap.size w wr/\Hid (ur wr w.heap.size)/\Hid (wr.ownsRow w.heap.size 162 1 (.slice (some ⟨w.heap.size+1,0,none⟩) W.qm.length W.qm.length) W.qm.length (qs O m))) (fun i _=>W.qm.length-(intOf i).toNat)
 case atStart=>exact⟨0,zx _,rfl,a1,D,ax⟩
 case round=>
  clear ax D a1;obtain⟨m,hm,rfl,d,D,HR⟩:=hrel;have aZ:=d.size;by_cases C:m<W.qm.length
  ·have ac:m<P.vps.length:=by rw[Y.out];exact C
   have ae:m<O.length:=by rw[ab.out];exact C
   obtain⟨gv,a2,n,r,q0,q1,q2,q3,q4,q5⟩:=aO.out m C ac;rw[aP.out] at n;simp only[Value.slice.injEq] at n;have aT:=n.1;clear n;subst aT;obtain⟨a9,a0,hq⟩:=aG.out m C ac;rw[hq] at q1;have x0:=zm d r q0;have x1:=zm d r q1;have x2:=zm d r q2;have x3:=zm d r q3;have x4:=zm d r q4;have x5:=zm d r q5;have bf:gv<wr.heap.size:=by omega
   have c:=HR.out;have a7:=CG O m (by omega);obtain⟨sx,bb⟩:∃sx,wr.cell? ⟨w.heap.size+1,m,none⟩=some sx:=by
    obtain⟨g',aX,an,_,_,aq⟩:=yC c (by omega);simp only[Value.slice.injEq,zr,Addr.mk.injEq,and_true] at an;have e:=an.1;subst e;exact⟨_,aq m _ (yr (by omega))⟩
   have bi:=qF c;have bk:w.heap.size+1<wr.heap.size:=yU c rfl;have ak:Hid ((qs O m).set m (.pointer (some ⟨P.vps[m].ab,0,none⟩))=qs O (m+1)):=by
    have q:=DP O m ae;rw[aR.out m ac ae] at q;exact q
   have j:Below (wr.setCell ⟨w.heap.size+1,m,none⟩ (.pointer (some ⟨P.vps[m].ab,0,none⟩))).heap.size (wr.setCell ⟨w.heap.size+1,m,none⟩ (.pointer (some ⟨P.vps[m].ab,0,none⟩))) ((wr.setCell ⟨w.heap.size+1,m,none⟩ (.pointer (some ⟨P.vps[m].ab,0,none⟩))).alloc (.cells #[.int .i64 (W.qm[m].lit.pred:Nat),.slice a9 W.qm[m].lit.qg.length a0,.int .i64 wd,.pointer (some ⟨P.vps[m].bb,0,none⟩),.pointer (some ⟨P.vps[m].fb,0,none⟩),.pointer (some ⟨P.vps[m].ab,0,none⟩)] 301)):=(by go_grown);have g:=se (EA (o:=m) (u:=.pointer (some ⟨P.vps[m].ab,0,none⟩)) D.out (show w.heap.size≠w.heap.size+1 by omega)) j;have l:=uI c m (by omega) (.pointer (some ⟨P.vps[m].ab,0,none⟩));rw[ak.out] at l;have am:=zC l j;have aJ:=P3 (d.setCell (by simp) _) j;clear l;have aW:(m:Int)<(W.qm.length:Int):=by omega
   clear q0 q1 q2 q3 q4 q5 a7 hq ak;generalize W.qm[m].lit.pred=vp at *;generalize W.qm[m].lit.qg.length=vt at *;generalize P.vps[m].bb=bh at *;generalize P.vps[m].fb=bg at *;generalize P.vps[m].ab=be at *;go_wp2;exact⟨⟨m+1,by omega,by go_num,aJ,g,am⟩,by simp[intOf];omega⟩
  ·obtain rfl:m=W.qm.length:=by omega
   have aI:Hid (wr.ownsRow w.heap.size 162 1 (.slice (some ⟨w.heap.size+1,0,none⟩) W.qm.length W.qm.length) W.qm.length (PH O)):=by
    have q:=HR.out;rw[←ab.out,Bx,ab.out] at q;exact q
   have a4:=HW.out.below d;obtain⟨t1,t2,t3,t4⟩:=B.out;obtain⟨bc,aU,d0,d1,d2,d3,d4,d5,d6,d7⟩:=a4;rw[t1] at d3;rw[t2] at d4;rw[t3] at d5;rw[t4] at d7;have f:E≠w.heap.size:=by have:=HW.out.lt;omega
   have aS:Hid (∀W0,Below wr.heap.size wr W0->Calls prog 214 #[.agg #[.int .i64 W.rule.qh,.int .i64 W.rule.vars,.int .i64 W.rule.head.pred,.slice V W.rule.head.qg.length y,.slice S W.rule.qc.length t,.slice R W.rule.qp.length A],.slice (some ⟨w.heap.size+1,0,none⟩) W.qm.length W.qm.length,.slice T W.rule.qp.length x] W0 fun e s=>lL lo W0 own p (xv W.rule (W.qm.map (·.all)) qp) e s):=fun W0 ad=>by
    have q:=L.out W0 (w.heap.size+1) (P3 d ad) (zC aI.out ad);rw[kz,t1,t2,t3,t4] at q;exact q
   clear t1 t2 t3 t4 d6 L C hm;generalize ar:xv W.rule (W.qm.map (·.all)) qp=J at *;have ap:=Px ar;clear ar;go_wp2;go_region_held3 (fun s=>s.cell? ⟨E,o,none⟩=some (.int .i64 W.rule.qh)/\s.cell? ⟨E,o+1,none⟩=some (.int .i64 W.rule.vars)/\s.cell? ⟨E,o+2,none⟩=some (.int .i64 W.rule.head.pred)/\s.cell? ⟨E,o+3,none⟩=some (.slice V W.rule.head.qg.length y)/\s.cell? ⟨E,o+4,none⟩=some (.slice S W.rule.qc.length t)/\s.cell? ⟨E,o+5,none⟩=some (.slice R W.rule.qp.length A)/\s.cell? ⟨E,o+7,none⟩=some (.slice T W.rule.qp.length x)) (first|(exact⟨U,aa,X,G,K,F,H⟩)|(exact⟨(jU _ _ _ _ _ f).trans U,(jU _ _ _ _ _ f).trans aa,(jU _ _ _ _ _ f).trans X,(jU _ _ _ _ _ f).trans G,(jU _ _ _ _ _ f).trans K,(jU _ _ _ _ _ f).trans F,(jU _ _ _ _ _ f).trans H⟩)|go_keep|(go_simp;done)) (first|(go_at_call 214;refine(aS.out _ (by exact(by go_grown))).mono ?_;rintro e w2 ⟨PJ,rfl,z,az,aA⟩;have I:Below wr.heap.size wr w2:=(zP (by go_grown) aA (zf _));have aH:=HW.out.below (P3 d I);obtain⟨ba,af,U,aa,X,G,K,F,_,H⟩:=aH;rw[B.out.1] at G;rw[B.out.2.1] at K;rw[B.out.2.2.1] at F;rw[B.out.2.2.2] at H;have g:=se D.out I;have aL:=tj z g;have N:=pn J PJ z.hlen.1 z.jk;have aQ:=Px z;have aK:=Px az;clear z az;generalize ao:um J PJ=cs at *;have aM:=Px ao;clear ao))
   have aE:=nC (cs:=cs) g N;have ai:=pV w2 w.heap.size cs;have a5:=aQ.out.saveJ ai (PN.box g.choose_spec.1);have aN:=(P3 d I).trans (ai.below (by simp) (by have:=I.size;omega));clear aL d0 d1 d2 d3 d4 d5 d7 U aa X G K F H aU af;generalize kW w2 w.heap.size cs=w5 at *;go_wp2
   (try simp only[Exit.inBlock,Exit.then])
   exact zK (v:=.agg cs.toArray) (th rfl _ _ _ _ _ (by rfl) (run_loadVar_mid w5 w.heap.size 0 310 cs _ aE.range underlying310 rfl (by rw[N];exact Pu))) rfl ⟨PJ,by rw[ap.out,aM.out],by rw[ap.out];exact a5,aK.out,aN⟩
end
section
open Go.Proofs.Tryz
variable {lo:Nat}
def j5(ps:List jo)(place:Nat):List Nat:=ps.zipIdx.map fun x=>if x.2<place then x.1.bb else if x.2=place then x.1.fb else x.1.ab
theorem DX(vs:List y6)(a:Nat):(PL vs a).length=vs.length:=by simp[PL]
theorem O4{w:World}{own:Nat->zn}{k wd p:Nat}{W:zZ}{P:yT}(h:xV lo w own k wd W P)(a i:Nat)(d:i<W.qm.length)(c:i<P.vps.length)(f:i<(PL W.qm a).length)(e:i<(j5 P.vps a).length):∃ρ,ρ≠(0,p,0)/\yO lo w own ρ (j5 P.vps a)[i] (PL W.qm a)[i]:=by
 have b:=h.view i d c;simp only[j5,PL,vm,List.getElem_zipIdx,vF];split
 ·exact⟨_,by simp,b.before⟩
 ·split
  ·exact⟨_,by simp,b.qo⟩
  ·exact⟨_,by simp,b.all⟩
attribute [local go_sem] r7
theorem Lw(w:World)(own:Nat->zn)(k wd p I o d:Nat)(W:zZ)(P:yT)(qp:List zi)(h:xV lo w own k wd W P)(hc:WC w I o W.rule P)(aJ:lo<=w.heap.size)(bb:d<=1000000)(hn:qp.length=W.rule.qp.length)(az:∀i (h1:i<qp.length) (h2:i<P.nbs.length),∃ρ,ρ≠(0,p,0)/\yO lo w own ρ P.nbs[i] qp[i]):
  Calls prog 210 #[.pointer (some ⟨I,o,none⟩),.int .i64 d] w fun e t=>lL lo w own p (xv W.rule (PL W.qm d) qp) e t:=by
 obtain⟨i0,hi,aL,aI,aC⟩:=info_parts OK;have Q:Hid (∀U pb,Below w.heap.size w U->U.ownsRow w.heap.size 162 1 (.slice (some ⟨pb,0,none⟩) W.qm.length W.qm.length) W.qm.length (PH (j5 P.vps d))->Calls prog 214 #[kz W.rule P.tv P.pv P.nv,.slice (some ⟨pb,0,none⟩) W.qm.length W.qm.length,P.ntv] U fun e t=>lL lo U own p (xv W.rule (PL W.qm d) qp) e t):=fun U pb hB c=>by
  have q:=Bd (p:=p) (pb:=pb) (qc:=PL W.qm d) (bs:=j5 P.vps d) (qp:=qp) (W':=U) h aJ (by simp[PL]) (by simp[j5,PL,h.vlen]) (fun i h1 h2=>O4 h d i (by simpa [PL] using h1) (by simpa [j5] using h2) h1 h2) hn az hB (by rw[DX];exact c);rw[DX] at q;exact q
 have aX:=Px fun i a b=>h.viewAt i a b;have aQ:=Px fun i a b=>(h.view i a b).qg.qx;have ae:=Px h.vlen;have bf:=h.few;obtain⟨bp,bi,af⟩:=zs h.qm;obtain⟨ab,A,a0⟩:=h.rule.head.qx;obtain⟨X,y,a3⟩:=h.rule.qc.qx;obtain⟨V,D,an⟩:=h.rule.qp.qx;obtain⟨Z,z,R⟩:=zs h.qp;have HW:=Px hc;have aY:=Px af;have E:Hid (P.tv=.slice ab W.rule.head.qg.length A/\P.pv=.slice X W.rule.qc.length y/\P.nv=.slice V W.rule.qp.length D/\P.ntv=.slice Z W.rule.qp.length z):=⟨a0,a3,an,R⟩;have a1:=fun W0:World=>run_make (P:=prog) (w:=W0) 150 162 i0 _ underlying150 hi aL .i64 .i64 (W.qm.length:Int) (W.qm.length:Int) (by omega) (Int.le_refl _) (by rw[aC];omega) (by omega);rw[aI] at a1;have am:=hc.c6;rw[af] at am;have a9:=hc.lt;have aE:=hc.free;clear h hc az af a0 a3 an R;go_enter func210,ntmps210;go_upto_region 3 with fail
 have a6:Below w.heap.size w ((w.alloc (.cells (bj 0 0 0 none none 0 0 0 0).toArray 310)).alloc (.cells (madeCells #[.pointer none] W.qm.length) 162)):=(by go_grown);have c:=sI (w.alloc (.cells (bj 0 0 0 none none 0 0 0 0).toArray 310)) W.qm.length 162 (.pointer none) (by unfold maxLen;omega);rw[World.size_alloc] at c;have ar:ur ((w.alloc (.cells (bj 0 0 0 none none 0 0 0 0).toArray 310)).alloc (.cells (madeCells #[.pointer none] W.qm.length) 162)) w.heap.size:=sp _ _ _ _ _ _ _ _ _ _ _;have ap:(j5 P.vps d).length=W.qm.length:=by simp[j5,ae.out]
 have a2:Hid (((w.alloc (.cells (bj 0 0 0 none none 0 0 0 0).toArray 310)).alloc (.cells (madeCells #[.pointer none] W.qm.length) 162)).ownsRow w.heap.size 162 1 (.slice (some ⟨w.heap.size+1,0,none⟩) W.qm.length W.qm.length) W.qm.length (qs (j5 P.vps d) 0)):=by
  have e:qs (j5 P.vps d) 0=List.replicate W.qm.length (.pointer none):=by simp[qs,j5,ae.out]
  rw[Hid,e];exact yq c (by omega)
 have ah:=Px ap;have ba:Hid (∀i (h1:i<P.vps.length) (h2:i<(j5 P.vps d).length),(j5 P.vps d)[i]=if i<d then P.vps[i].bb else if i=d then P.vps[i].fb else P.vps[i].ab):=fun i a b=>by simp[j5]
 clear c ap am a9 aE a1;generalize (w.alloc (.cells (bj 0 0 0 none none 0 0 0 0).toArray 310)).alloc (.cells (madeCells #[.pointer none] W.qm.length) 162)=w1 at *;generalize j5 P.vps d=T at *;have H:=Px ar;clear ar;go_loopw [19] (fun aP wr=>∃m:Nat,m<=W.qm.length/\aP=.int .i64 m/\Below w.heap.size w wr/\Hid (ur wr w.heap.size)/\Hid (wr.ownsRow w.heap.size 162 1 (.slice (some ⟨w.heap.size+1,0,none⟩) W.qm.length W.qm.length) W.qm.length (qs T m))) (fun i _=>W.qm.length-(intOf i).toNat)
 case atStart=>exact⟨0,zx _,rfl,a6,H,a2⟩
 case round=>
  clear a2 H a6;obtain⟨m,hm,rfl,f,H,HR⟩:=hrel;have bk:=f.size;by_cases F:m<W.qm.length
  ·have ai:m<P.vps.length:=by rw[ae.out];exact F
   have ak:m<T.length:=by rw[ah.out];exact F
   obtain⟨gv,a7,r,s,q0,q1,q2,q3,q4,q5⟩:=aX.out m F ai;rw[aY.out] at r;simp only[Value.slice.injEq] at r;have bd:=r.1;clear r;subst bd;obtain⟨aF,a5,hq⟩:=aQ.out m F ai;rw[hq] at q1;have x0:=zm f s q0;have x1:=zm f s q1;have x2:=zm f s q2;have x3:=zm f s q3;have x4:=zm f s q4;have x5:=zm f s q5;have bq:gv<wr.heap.size:=by omega
   have c:=HR.out;have aD:=CG T m (by omega);obtain⟨sx,bn⟩:∃sx,wr.cell? ⟨w.heap.size+1,m,none⟩=some sx:=by
    obtain⟨g',bh,au,_,_,ax⟩:=yC c (by omega);simp only[Value.slice.injEq,zr,Addr.mk.injEq,and_true] at au;have e:=au.1;subst e;exact⟨_,ax m _ (yr (by omega))⟩
   have bs:=qF c;have bb:w.heap.size+1<wr.heap.size:=yU c rfl;obtain⟨G,Y⟩:∃G,G=(if m<d then P.vps[m].bb else if m=d then P.vps[m].fb else P.vps[m].ab):=⟨_,rfl⟩;have aq:Hid ((qs T m).set m (.pointer (some ⟨G,0,none⟩))=qs T (m+1)):=by
    have q:=DP T m ak;rw[ba.out m ai ak,←Y] at q;exact q
   have l:Below (wr.setCell ⟨w.heap.size+1,m,none⟩ (.pointer (some ⟨G,0,none⟩))).heap.size (wr.setCell ⟨w.heap.size+1,m,none⟩ (.pointer (some ⟨G,0,none⟩))) ((wr.setCell ⟨w.heap.size+1,m,none⟩ (.pointer (some ⟨G,0,none⟩))).alloc (.cells #[.int .i64 (W.qm[m].lit.pred:Nat),.slice aF W.qm[m].lit.qg.length a5,.int .i64 wd,.pointer (some ⟨P.vps[m].bb,0,none⟩),.pointer (some ⟨P.vps[m].fb,0,none⟩),.pointer (some ⟨P.vps[m].ab,0,none⟩)] 301)):=(by go_grown);have j:=se (EA (o:=m) (u:=.pointer (some ⟨G,0,none⟩)) H.out (show w.heap.size≠w.heap.size+1 by omega)) l;have n:=uI c m (by omega) (.pointer (some ⟨G,0,none⟩));rw[aq.out] at n;have C:=zC n l;have ac:=P3 (f.setCell (by simp) _) l;clear n;have bg:(m:Int)<(W.qm.length:Int):=by omega
   clear q0 q1 q2 q3 q4 q5 aD hq aq;generalize W.qm[m].lit.pred=vp at *;generalize W.qm[m].lit.qg.length=vt at *;generalize P.vps[m].bb=aN at *;generalize P.vps[m].fb=aH at *;generalize P.vps[m].ab=a8 at *;have x:=Px Y;clear Y;by_cases g1:m<d
   ·have aK:(m:Int)<(d:Int):=by omega
    obtain rfl:G=aN:=by rw[x.out,zb g1]
    clear x;go_wp2;exact⟨⟨m+1,by omega,by go_num,ac,j,C⟩,by simp[intOf];omega⟩
   ·have aK:¬(m:Int)<(d:Int):=by omega
    by_cases g2:m=d
    ·have aM:((m:Int) == (d:Int))=true:=by rw[beq_iff_eq];omega
     obtain rfl:G=aH:=by rw[x.out,za g1,zb g2]
     have br:=Px g2;clear x g2;go_wp2;exact⟨⟨m+1,by omega,by go_num,ac,j,C⟩,by simp[intOf];omega⟩
    ·have aM:((m:Int) == (d:Int))=false:=by rw[beq_eq_false_iff_ne];omega
     obtain rfl:G=a8:=by rw[x.out,za g1,za g2]
     clear x;go_wp2;exact⟨⟨m+1,by omega,by go_num,ac,j,C⟩,by simp[intOf];omega⟩
  ·obtain rfl:m=W.qm.length:=by omega
   have aS:Hid (wr.ownsRow w.heap.size 162 1 (.slice (some ⟨w.heap.size+1,0,none⟩) W.qm.length W.qm.length) W.qm.length (PH T)):=by
    have q:=HR.out;rw[←ah.out,Bx,ah.out] at q;exact q
   have aA:=HW.out.below f;obtain⟨t1,t2,t3,t4⟩:=E.out;obtain⟨bo,be,d0,d1,d2,d3,d4,d5,d6,d7⟩:=aA;rw[t1] at d3;rw[t2] at d4;rw[t3] at d5;rw[t4] at d7;have g:I≠w.heap.size:=by have:=HW.out.lt;omega
   have bc:Hid (∀W0,Below wr.heap.size wr W0->Calls prog 214 #[.agg #[.int .i64 W.rule.qh,.int .i64 W.rule.vars,.int .i64 W.rule.head.pred,.slice ab W.rule.head.qg.length A,.slice X W.rule.qc.length y,.slice V W.rule.qp.length D],.slice (some ⟨w.heap.size+1,0,none⟩) W.qm.length W.qm.length,.slice Z W.rule.qp.length z] W0 fun e t=>lL lo W0 own p (xv W.rule (PL W.qm d) qp) e t):=fun W0 aj=>by
    have q:=Q.out W0 (w.heap.size+1) (P3 f aj) (zC aS.out aj);rw[kz,t1,t2,t3,t4] at q;exact q
   clear t1 t2 t3 t4 d6 Q F hm;generalize ay:xv W.rule (PL W.qm d) qp=J at *;have aw:=Px ay;clear ay;go_wp2;go_region_held3 (fun t=>t.cell? ⟨I,o,none⟩=some (.int .i64 W.rule.qh)/\t.cell? ⟨I,o+1,none⟩=some (.int .i64 W.rule.vars)/\t.cell? ⟨I,o+2,none⟩=some (.int .i64 W.rule.head.pred)/\t.cell? ⟨I,o+3,none⟩=some (.slice ab W.rule.head.qg.length A)/\t.cell? ⟨I,o+4,none⟩=some (.slice X W.rule.qc.length y)/\t.cell? ⟨I,o+5,none⟩=some (.slice V W.rule.qp.length D)/\t.cell? ⟨I,o+7,none⟩=some (.slice Z W.rule.qp.length z)) (first|(exact⟨aa,ag,ad,L,O,K,M⟩)|(exact⟨(jU _ _ _ _ _ g).trans aa,(jU _ _ _ _ _ g).trans ag,(jU _ _ _ _ _ g).trans ad,(jU _ _ _ _ _ g).trans L,(jU _ _ _ _ _ g).trans O,(jU _ _ _ _ _ g).trans K,(jU _ _ _ _ _ g).trans M⟩)|go_keep|(go_simp;done)) (first|(go_at_call 214;refine(bc.out _ (by exact(by go_grown))).mono ?_;rintro e w2 ⟨PJ,rfl,B,a4,aG⟩;have N:Below wr.heap.size wr w2:=(zP (by go_grown) aG (zf _));have aR:=HW.out.below (P3 f N);obtain⟨bm,al,aa,ag,ad,L,O,K,_,M⟩:=aR;rw[E.out.1] at L;rw[E.out.2.1] at O;rw[E.out.2.2.1] at K;rw[E.out.2.2.2] at M;have j:=se H.out N;have aU:=tj B j;have S:=pn J PJ B.hlen.1 B.jk;have aZ:=Px B;have aT:=Px a4;clear B a4;generalize av:um J PJ=cs at *;have aV:=Px av;clear av))
   have aO:=nC (cs:=cs) j S;have ao:=pV w2 w.heap.size cs;have aB:=aZ.out.saveJ ao (PN.box j.choose_spec.1);have aW:=(P3 f N).trans (ao.below (by simp) (by have:=N.size;omega));clear aU d0 d1 d2 d3 d4 d5 d7 aa ag ad L O K M be al;generalize kW w2 w.heap.size cs=w5 at *;go_wp2
   (try simp only[Exit.inBlock,Exit.then])
   exact zK (v:=.agg cs.toArray) (th rfl _ _ _ _ _ (by rfl) (run_loadVar_mid w5 w.heap.size 0 310 cs _ aO.range underlying310 rfl (by rw[S];exact Pu))) rfl ⟨PJ,by rw[aw.out,aV.out],by rw[aw.out];exact aB,aT.out,aW⟩
end
section
open Go.Proofs.Tryz
variable {lo:Nat}{w:World}{p:Nat}
structure Ru (c:Array Value) (o:Nat) (r:zq) (P:yT):Prop where
 c0:c[o]?=some (.int .i64 r.qh)
 c1:c[o+1]?=some (.int .i64 r.vars)
 c2:c[o+2]?=some (.int .i64 r.head.pred)
 c3:c[o+3]?=some P.tv
 c4:c[o+4]?=some P.pv
 c5:c[o+5]?=some P.nv
 c6:c[o+6]?=some P.vv
 c7:c[o+7]?=some P.ntv
theorem Ru.at{b o:Nat}{T:TypeId}{c:Array Value}{r:zq}{P:yT}(h:Ru c o r P)(d:Py w b c T):WC w b o r P:=by
 obtain⟨a,e⟩:=d.rules;exact⟨d.lt,e,(a _).trans h.c0,(a _).trans h.c1,(a _).trans h.c2,(a _).trans h.c3,(a _).trans h.c4,(a _).trans h.c5,(a _).trans h.c6,(a _).trans h.c7⟩
theorem xV.mod{ok:TypeId->zn->Prop}{w f:World}{own c:Nat->zn}{k wd:Nat}{W:zZ}{P:yT}(h:xV lo w own k wd W P)(m:P6 lo ok w own f c)(e:∀ρ,¬ok 284 ρ)(g:∀ρ,¬ok 204 ρ)(o:¬ok 301 (k+1,0,9))(l:∀ρ,¬ok 162 ρ)(n:∀i j t,¬Qp t->¬ok t (k+1,i,j)):xV lo f c k wd W P:=
 ⟨h.rule.mod m e g,pE h.qm m fun b d=>by rw[h.vrole b d];exact o,h.vlen,fun i a b=>(h.view i a b).mod m (n i) e,fun b d=>by rw[m.old b (yU h.qm d)];exact h.vrole b d,ve h.qp m l,h.nlen,h.few⟩
theorem mm{t:TypeId}(a:Qp t)(h:t∉[214,161,165,310,323]):∀ρ,¬jQ p t ρ:=fun ρ q=>by
 rcases q with (q|q|q|q)|q
 ·exact q.1 a
 ·subst q;exact h (by decide)
 ·subst q;exact h (by decide)
 ·rw[q.1] at h;exact h (by decide)
 ·rcases zu.1 q with rfl|q
  ·exact h (by decide)
  ·rcases zu.1 q with rfl|q
   ·exact h (by decide)
   ·cases q
theorem Fz{t:TypeId}{ρ:zn}(a:¬Qp t)(h:ρ≠(0,p,0)):¬jQ p t ρ:=fun q=>by
 rcases q with (q|q|q|q)|q
 ·exact h q.2
 ·subst q;exact a (by decide)
 ·subst q;exact a (by decide)
 ·rw[q.1] at a;exact a (by decide)
 ·rcases zu.1 q with rfl|q
  ·exact a (by decide)
  ·rcases zu.1 q with rfl|q
   ·exact a (by decide)
   ·cases q
theorem xV.all{b:World}{own a:Nat->zn}{k wd:Nat}{W:zZ}{P:yT}(h:xV lo w own k wd W P)(m:P6 lo (jQ p) w own b a):xV lo b a k wd W P:=
 h.mod m (mm (by decide) (by decide)) (mm (by decide) (by decide)) (mm (by decide) (by decide) _) (mm (by decide) (by decide)) (fun _ _ _ c=>Fz c (by simp))
def gH(a:List Nat)(n:Nat)(r:zq)(b:List Nat):Prop:=∀i (d:i<r.qp.length) (c:i<b.length),r.qp[i].pred≠r.head.pred/\r.qp[i].pred<n/\∃e:r.qp[i].pred<a.length,b[i]=a[r.qp[i].pred]
theorem CH(wd:Nat)(R:zw)(r:zq):(qN wd R r).length=r.qp.length:=by simp[qN]
theorem gH.tries{w:World}{own:Nat->zn}{f:Nat}{R:zw}{wd mr mx:Nat}{Q:xL}{r:zq}{a:List Nat}(h:gH Q.tbs R.rows.length r a)(l:zW lo w own f R wd mr mx Q)(m:a.length=r.qp.length):∀i (j:i<(qN wd R r).length) (b:i<a.length),∃ρ,ρ≠(0,r.head.pred,0)/\yO lo w own ρ a[i] (qN wd R r)[i]:=by
 intro i j b;obtain⟨k,c,g,d⟩:=h i (by omega) b;refine⟨(0,r.qp[i].pred,0),by simp[k],?_⟩;have e:(qN wd R r)[i]=R.rows[r.qp[i].pred]:=by
  simp only[qN,vm,fR];rw[za (by omega)];simp[c]
 rw[e,d];exact l.tries _ c g
theorem eS{mr:Nat}{R R':zw}{row:zk}{b:Bool}(h:jr mr R p row=some (R',b)):R'.rows.length=R.rows.length:=by
 obtain⟨_,_,_,_,_,a⟩:=iM h;rcases a with⟨_,rfl,_⟩|⟨_,rfl,_⟩<;>simp
theorem pO{mr p:Nat}:∀(n:Nat) (R R':zw) (J:zy) (b:Bool),vj mr p n R J=some (R',b)->R'.rows.length=R.rows.length
 |0,R,R',J,b,h=>by simp[vj] at h
 |n+1,R,R',J,b,h=>by
  unfold vj at h;cases e:dF n J with
  |none=>rw[e] at h;cases h
  |some g=>
   obtain⟨d,f⟩:=g;rw[e] at h;cases f with
   |false=>
    simp only[zr,yc] at h;rw[←h.1]
   |true=>
    dsimp only at h;cases a:jr mr R p (zF d.head d.ja) with
    |none=>rw[a] at h;cases h
    |some c=>
     obtain⟨j,i⟩:=c;rw[a] at h;cases i with
     |false=>
      simp only[zr,yc] at h;rw[←h.1];exact eS a
     |true=>exact(pO n j R' d b h).trans (eS a)
attribute [local go_sem] r7
theorem jn.laid{J:zy}{a:xp}(h:jn lo w J a)(i:lo<=w.heap.size):PP lo (kW (w.alloc (.cells (bj 0 0 0 none none 0 0 0 0).toArray 310)) w.heap.size (um J a)) w.heap.size J a/\Below w.heap.size w (kW (w.alloc (.cells (bj 0 0 0 none none 0 0 0 0).toArray 310)) w.heap.size (um J a)):=by
 have b:Below w.heap.size w (w.alloc (.cells (bj 0 0 0 none none 0 0 0 0).toArray 310)):=(zo _ _).alloc (zf _) _;have e:=pd w 0 0 0 none none 0 0 0 0;have d:=nC e (pn J a h.hlen.1 h.jk);have f:=pV (w.alloc (.cells (bj 0 0 0 none none 0 0 0 0).toArray 310)) w.heap.size (um J a);obtain⟨j,c,_⟩:=e;exact⟨((h.below b).saveJ f (PN.box c)).join i d,b.trans (f.below (fun x g=>by simp at g;omega) (by simp))⟩
theorem I9(w:World)(own:Nat->zn)(A B o k:Nat)(c:Array Value)(R R':zw)(W:zZ)(P:yT)(wd mr mx:Nat)(Q:xL)(n:Nat)(b:Bool)(h:zW lo w own A R wd mr mx Q)(Y:xV lo w own k wd W P)(s:Py w B c 292)(l:Ru c o W.rule P)(C:gH Q.tbs R.rows.length W.rule P.nbs)(y:lo<=w.heap.size)(hr:kq n wd mr true R W=some (R',b)):
  Calls prog 193 #[.pointer (some ⟨A,0,none⟩),.pointer (some ⟨B,o,none⟩),.bool true] w fun e w'=>tB lo w own A W.rule.head.pred R' b wd mr mx Q e w':=by
 have T:=hr;have F:=Px (FU w own k wd W.rule.head.pred B o W P _ Y (l.at s) y (CH _ _ _) (C.tries h Y.nlen));have E:=Px fun W0 jb x t hj K=>BG W0 own A jb R R' _ x wd mr mx Q W.rule.head.pred n b (h.below t) hj K (by have:=t.size;omega) T;have S:=l.at s;have j:=Px S;have O:=Px y;generalize xv W.rule (W.qm.map (·.all)) (qN wd R W.rule)=J at *;generalize D:W.rule.head.pred=p at *;have L:=Px D;go_enter func193,ntmps193;go_upto_region 3 with (first|(go_at_call 207;refine F.out.mono ?_;rintro e i ⟨x,rfl,d,u,g⟩;have ac:Below i.heap.size i (i.alloc (.cells (bj 0 0 0 none none 0 0 0 0).toArray 310)):=(by go_grown);have aa:=tj d (pd i 0 0 0 none none 0 0 0 0);have X:=pn J x d.hlen.1 d.jk;have M:=Px d;have V:=Px u;clear d u;generalize v:um J x=cs at *;have G:=Px v;clear v))
 have I:=zT O.out g.size;have a:=M.out.laid I;rw[G.out] at a;obtain⟨N,H⟩:=a;generalize kW (i.alloc (.cells (bj 0 0 0 none none 0 0 0 0).toArray 310)) i.heap.size cs=Z at *;have f:=g.trans (H.mono g.size);have ab:Z.cell? ⟨B,o+2,none⟩=some (.int .i64 p):=by rw[←L.out];exact(f.cell j.out.lt).trans j.out.c2
 have r:=E.out Z _ x f N V.out;have U:=Px f;go_wp2_with (first|(go_at_call 208;refine r.mono ?_;rintro e w4 ⟨rfl,q,m,z,hm⟩))
 go_ret;exact⟨rfl,q,m,z,(P6.of own U.out).trans hm⟩
end
section
open Go.Proofs.Tryz
variable {lo:Nat}
attribute [local go_sem] r7
theorem Ga(w:World)(own:Nat->zn)(rb gw o k:Nat)(c:Array Value)(R R':zw)(W:zZ)(P:yT)(wd mr mx:Nat)(Q:xL)(n:Nat)(b:Bool)(h:zW lo w own rb R wd mr mx Q)(hw:xV lo w own k wd W P)(X:Py w gw c 292)(M:Ru c o W.rule P)(ak:gH Q.tbs R.rows.length W.rule P.nbs)(ap:lo<=w.heap.size)(hr:kq n wd mr false R W=some (R',b)):
  Calls prog 193 #[.pointer (some ⟨rb,0,none⟩),.pointer (some ⟨gw,o,none⟩),.bool false] w fun e w'=>tB lo w own rb W.rule.head.pred R' b wd mr mx Q e w':=by
 have au:Hid (jv n wd mr W (W.qm.length-0) 0 R=some (R',b)):=hr;have HH:=Px h;have aN:=Px hw;have aO:=Px X;have a1:=Px M;have aA:=Px ak;have aJ:=Px ap;have aQ:=hw.few;obtain⟨aT,aS,ab⟩:=zs hw.qm;have aM:=Px ab;have aa:=M.at X;have aU:=aa.lt;have aD:=aa.c6;rw[ab] at aD;clear hr h hw X M ak ap ab aa;go_enter func193,ntmps193;go_upto_region 5 with fail
 go_loopw [27] (fun aF wr=>∃m:Nat,m<=W.qm.length/\aF=.int .i64 m/\∃B a I,Hid (zW lo wr a rb B wd mr mx ⟨Q.rv,Q.tbs,Q.fv,I⟩)/\Hid (P6 lo (jQ W.rule.head.pred) w own wr a)/\Hid (B.rows.length=R.rows.length)/\Hid (jv n wd mr W (W.qm.length-m) m B=some (R',b))) (fun i _=>W.qm.length-(intOf i).toNat)
 case atStart=>exact⟨0,zx _,rfl,R,own,Q.fvs,HH,P6.refl _ _,rfl,au⟩
 case round=>
  clear au;obtain⟨m,hm,rfl,B,a,I,D,g,ac,a4⟩:=hrel;have aw:=g.out.size;have A:=zT aJ.out aw;by_cases F:m<W.qm.length
  ·have S:=Px (aN.out.all g.out);have ai:=Px (aO.out.mod g.out (mm (by decide) (by decide) _));have C:=S.out;have a6:m<P.vps.length:=by rw[C.vlen];exact F
   obtain⟨gv,a7,r,aV,q0,q1,q2,q3,q4,q5⟩:=C.viewAt m F a6;rw[aM.out] at r;simp only[Value.slice.injEq] at r;have aP:=r.1;clear r;subst aP;have O:=C.view m F a6;obtain⟨am,L,hq⟩:=O.qg.qx;rw[hq] at q1;have d:=a4.out;rw[show W.qm.length-m=(W.qm.length-(m+1))+1 from by omega] at d;unfold jv at d;rw[show W.qm.getD m ⟨⟨0,[]⟩,zi.zero,zi.zero,zi.zero⟩=W.qm[m] by simp[List.getD,F]] at d;obtain⟨aG,ay,_⟩:=O.qo;have ah:=Px fun H hb=>Ec H _ _ aG (ay.below hb);have l:=(a1.out.at ai.out);have a8:=l.lt;have aR:(m:Int)<(W.qm.length:Int):=by omega
   clear ay O hq C;by_cases af:W.qm[m].qo.count>0
   ·rw[zb af] at d;cases ha:vj mr W.rule.head.pred n B (xv W.rule (PL W.qm m) (qN wd B W.rule)) with
    |none=>rw[ha] at d;cases d
    |some ar=>
     obtain⟨R3,b3⟩:=ar;rw[ha] at d;have u:=pO _ _ _ _ _ ha;have aB:=Px (u.trans ac.out);have aj:Hid (∀H,Below wr.heap.size wr H->Calls prog 210 #[.pointer (some ⟨gw,o,none⟩),.int .i64 m] H fun e w'=>lL lo H a W.rule.head.pred (xv W.rule (PL W.qm m) (qN wd B W.rule)) e w'):=fun H hb=>by
      have aC:=P6.of (lo:=lo) (ok:=jQ W.rule.head.pred) a hb;exact Lw H a k wd W.rule.head.pred gw o m W P _ (S.out.all aC) ((a1.out.at ai.out).below hb) (zT A hb.size) (by omega) (CH _ _ _) (gH.tries (by rw[ac.out];exact aA.out) (D.out.below hb) S.out.nlen)
     have ae:=Px fun H jb PJ ag hj aH=>BG H a rb jb B R3 _ PJ wd mr mx _ W.rule.head.pred n b3 (D.out.below ag) hj aH (zT A ag.size) ha;have aL:=Px l.c2;clear l ha u;generalize xv W.rule (PL W.qm m) (qN wd B W.rule)=J at *;have aI:(0:Int)<(W.qm[m].qo.count:Nat):=by omega
     have v:Hid ((match (some (R3,b3):Option (zw×Bool)) with|none=>none|some (R,false)=>some (R,false)|some (R,true)=>jv n wd mr W (W.qm.length-(m+1)) (m+1) R)=some (R',b)):=d;clear d;generalize W.qm[m].qo.count=ct at *;generalize W.qm[m].lit.pred=vp at *;generalize W.qm[m].lit.qg.length=vt at *;generalize P.vps[m].bb=Z at *;generalize P.vps[m].fb=U at *;generalize P.vps[m].ab=N at *;generalize av:W.rule.head.pred=p at *;have aE:=Px av;clear av;have f:Below wr.heap.size wr (wr.alloc (.cells #[.int .i64 vp,.slice am vt L,.int .i64 wd,.pointer (some ⟨Z,0,none⟩),.pointer (some ⟨U,0,none⟩),.pointer (some ⟨N,0,none⟩)] 301)):=(by go_grown);have j:=Px f;clear f;go_upto_region 9 with (first|(go_at_call 209;refine(ah.out _ j.out).mono ?_;rintro e E ⟨rfl,ad⟩;obtain rfl:=ad.symm)|(go_at_call 210;refine(aj.out _ j.out).mono ?_;rintro e E ⟨PJ,rfl,t,a5,an⟩;have V:=P3 j.out an;clear an;have a9:Below E.heap.size E (E.alloc (.cells (bj 0 0 0 none none 0 0 0 0).toArray 310)):=(by go_grown);have aK:=tj t (pd E 0 0 0 none none 0 0 0 0);have ax:=pn J PJ t.hlen.1 t.jk;have a3:=Px t;have a0:=Px a5;clear t a5;generalize ao:um J PJ=cs at *;have a2:=Px ao;clear ao))
     have s:=a3.out.laid (zT A V.size);rw[a2.out] at s;obtain⟨az,al⟩:=s;generalize kW (E.alloc (.cells (bj 0 0 0 none none 0 0 0 0).toArray 310)) E.heap.size cs=W3 at *;have G:=P3 V al;have aW:=zm G a8 aL.out;have K:=ae.out W3 _ PJ G az a0.out;have aq:=Px G;clear az al G a3 a0 a2 aK ax a9 ae aj V;generalize E.heap.size=jb at *;cases b3 with
     |false=>
      have T:Hid (R3=R'/\false=b):=by have q:=v.out;simp only[zr,yc] at q;exact q
      go_wp2_with (first|(go_at_call 208;refine K.mono ?_;rintro e w4 ⟨rfl,z,y,x,Y⟩))
      go_ret;exact⟨by rw[←T.out.2];rfl,z,y,by rw[←T.out.1];exact x,by rw[aE.out];exact g.out.trans ((P6.of a aq.out).trans Y)⟩
     |true=>
      have T:Hid (jv n wd mr W (W.qm.length-(m+1)) (m+1) R3=some (R',b)):=v.out;clear v;go_wp2_with (first|(go_at_call 208;refine K.mono ?_;rintro e w4 ⟨rfl,z,y,x,Y⟩))
      exact⟨⟨m+1,by omega,by go_num,R3,z,y,x,g.out.trans ((P6.of a aq.out).trans Y),aB,T⟩,by simp[intOf];omega⟩
   ·rw[za af] at d;have v:=Px d;clear d l;have aI:¬(0:Int)<(W.qm[m].qo.count:Nat):=by omega
    generalize W.qm[m].qo.count=ct at *;generalize W.qm[m].lit.pred=vp at *;generalize W.qm[m].lit.qg.length=vt at *;generalize P.vps[m].bb=Z at *;generalize P.vps[m].fb=U at *;generalize P.vps[m].ab=N at *;have f:Below wr.heap.size wr (wr.alloc (.cells #[.int .i64 vp,.slice am vt L,.int .i64 wd,.pointer (some ⟨Z,0,none⟩),.pointer (some ⟨U,0,none⟩),.pointer (some ⟨N,0,none⟩)] 301)):=(by go_grown);have j:=Px f;clear f;go_wp2_with (first|(go_at_call 209;refine(ah.out _ j.out).mono ?_;rintro e E ⟨rfl,ad⟩;obtain rfl:=ad.symm))
    exact⟨⟨m+1,by omega,by go_num,B,a,I,D.out.below j.out,g.out.trans (P6.of a j.out),ac,v⟩,by simp[intOf];omega⟩
  ·obtain rfl:m=W.qm.length:=by omega
   have d:=a4.out;rw[jH] at d;simp only[jv,zr,yc] at d;have T:=Px d;clear d;go_wp2;go_ret;exact⟨by rw[←T.out.2];rfl,a,I,by rw[←T.out.1];exact D.out,g.out⟩
theorem NJ(w:World)(own:Nat->zn)(g j o k:Nat)(c:Array Value)(R R':zw)(W:zZ)(P:yT)(wd mr mx:Nat)(Q:xL)(n:Nat)(first b:Bool)(h:zW lo w own g R wd mr mx Q)(m:xV lo w own k wd W P)(i:Py w j c 292)(f:Ru c o W.rule P)(d:gH Q.tbs R.rows.length W.rule P.nbs)(a:lo<=w.heap.size)(l:kq n wd mr first R W=some (R',b)):
  Calls prog 193 #[.pointer (some ⟨g,0,none⟩),.pointer (some ⟨j,o,none⟩),.bool first] w fun e p=>tB lo w own g W.rule.head.pred R' b wd mr mx Q e p:=by
 cases first with
 |true=>exact I9 w own g j o k c R R' W P wd mr mx Q n b h m i f d a l
 |false=>exact Ga w own g j o k c R R' W P wd mr mx Q n b h m i f d a l
end
section
open Go.Proofs.Tryz
variable {lo:Nat}{k wd cap:Nat}{c:Array Value}{w w':World}{own':Nat->zn}{xs:List Value}
def dY(k:Nat):TypeId->zn->Prop:=fun t ρ=>(¬Qp t/\∃i j,ρ=(k+1,i,j))∨(t=301/\ρ=(k+1,0,9))
theorem Kb{i:Nat}{t:TypeId}{ρ:zn}(h:fM k i (k+1,0,9) t ρ):dY k t ρ:=by
 rcases h with⟨b,j,a⟩|h
 ·exact zg ⟨b,i,j,a⟩
 ·exact ze h
theorem lA{t:TypeId}(h:Qp t)(a:t≠301):∀ρ,¬dY k t ρ:=fun ρ q=>by
 rcases q with q|q
 ·exact q.1 h
 ·exact a q.1
theorem nL{t:TypeId}{a b c:Nat}(h:a≠k+1):¬dY k t (a,b,c):=fun q=>by
 rcases q with⟨_,i,j,q⟩|⟨_,q⟩<;>simp at q<;>omega
theorem kR{i:Nat}{ρg:zn}{t:TypeId}(h:Qp t)(a:t≠301):∀ρ,¬fM k i ρg t ρ:=fun ρ q=>by
 rcases q with q|q
 ·exact q.1 h
 ·exact a q.1
theorem zW.work{own:Nat->zn}{a:Nat}{R:zw}{mr mx:Nat}{Q:xL}(h:zW lo w own a R wd mr mx Q)(m:P6 lo (dY k) w own w' own'):zW lo w' own' a R wd mr mx Q:=
 h.mod m (lA (by decide) (by decide)) (lA (by decide) (by decide)) (lA (by decide) (by decide)) (fun _=>nL (by omega)) (fun _ _ _=>nL (by omega))
theorem MV{b:Nat}{e:TypeId}{a g n m:Nat}(h:w.ownsRow b e a (.slice (some ⟨g,0,none⟩) n cap) m xs)(s:w'.heap[g]?=w.heap[g]?):w'.ownsRow b e a (.slice (some ⟨g,0,none⟩) n cap) m xs:=by
 obtain⟨r,i⟩:=h;refine⟨r,?_⟩;rcases i with i|⟨l,d,j,f,o,p,q⟩
 ·exact zg i
 ·refine ze ⟨l,d,j,f,o,?_,q⟩;simp at f;rw[←f.1,s,f.1];exact p
theorem GW{b:Nat}{e:TypeId}{a g n m:Nat}(h:w.ownsRow b e a (.slice (some ⟨g,0,none⟩) n cap) m xs)(f:Py w g c e)(j:Nat)(i:j<xs.length)(u:Value)(d:Py w' g (c.setIfInBounds j u) e):w'.ownsRow b e a (.slice (some ⟨g,0,none⟩) n cap) m (xs.set j u):=by
 refine MV (uI h j i u) ?_;unfold Py at d f;rw[d];simp[World.setCell,Array.getElem?_modify,f]
theorem Ey(wd:Nat):∀(vs:List y6) (ps:List jo),ps.length=vs.length->(vP wd vs ps).length=6*vs.length
 |[],[],_=>rfl
 |[],_::_,h=>by simp at h
 |_::_,[],h=>by simp at h
 |v::vs,p::ps,h=>by
  have:=Ey wd vs ps (by simpa using h);simp only[vP,lr,lM,yv] at this ⊢;rw[this];simp[kP];omega
theorem DE(wd:Nat):∀(vs:List y6) (ps:List jo) (i:Nat) (_:i<vs.length) (b:i<ps.length) (V:y6) (a:Nat),V.lit=(vs.getD i V).lit->vP wd (vs.set i V) (ps.set i ⟨ps[i].tv,ps[i].bb,a,ps[i].ab⟩)=(vP wd vs ps).set (i*6+4) (.pointer (some ⟨a,0,none⟩))
 |[],_,i,d,_,_,_,_=>by simp at d
 |v::vs,[],i,_,b,_,_,_=>by simp at b
 |v::vs,p::ps,0,_,_,V,a,h=>by
  simp at h;simp[vP,kP,h,pt]
 |v::vs,p::ps,i+1,d,b,V,a,h=>by
  have:=DE wd vs ps i (by simpa using d) (by simpa using b) V a (by simpa using h);simp only[vP,mO,lr,lM,mB] at this ⊢;rw[this,List.set_append,za (by simp[kP];omega)];congr 2;simp[kP];omega
def uL{α:Type}(a vs:List α)(m:Nat):List α:=a.take m++vs.drop m
theorem sD{α:Type}{a vs:List α}(h:a.length=vs.length)(m:Nat)(b:m<=vs.length):(uL a vs m).length=vs.length:=by simp[uL];omega
theorem Es{α:Type}{a vs:List α}(h:a.length=vs.length)(m:Nat)(d:m<vs.length)(b:m<(uL a vs m).length):(uL a vs m)[m]=vs[m]:=by
 simp only[uL];rw[mw (by simp;omega)];simp[show min m a.length=m by omega]
theorem BJ{α:Type}{a vs:List α}(h:a.length=vs.length)(m:Nat)(e:m<vs.length)(b:m<a.length):(uL a vs m).set m a[m]=uL a vs (m+1):=by
 have f:=xk e;have d:a.take (m+1)=a.take m++[a[m]]:=by rw[yP b]
 have g:(a.take m).length=m:=by simp;omega
 show(a.take m++vs.drop m).set m a[m]=a.take (m+1)++vs.drop (m+1);rw[f,d,List.set_append,za (by omega),g,jH,pg,kB];rfl
theorem D9{f:Nat}{V b:y6}{a:List zk}(h:gL f wd V a=some b):b.lit=V.lit:=by
 obtain⟨_,_,_,_,_,_,_,_,e⟩:=Ca h;rw[e]
theorem CF{f wd:Nat}{d:List (List zk)}:∀{vs a:List y6},g4 f wd d vs=some a->a.length=vs.length/\∀i (j:i<vs.length) (b:i<a.length),if vs[i].lit.pred<d.length then gL f wd vs[i] (d.getD vs[i].lit.pred [])=some a[i] else a[i]=vs[i]
 |[],a,h=>by
  simp[g4] at h;subst h;exact⟨rfl,fun i h=>by simp at h⟩
 |V::vs,a,h=>by
  unfold g4 at h;split at h
  ·rename_i v m g l;simp at h;subst h;obtain⟨o,n⟩:=CF l;refine⟨by simp[o],fun i j b=>?_⟩;match i,j,b with
   |0,_,_=>
    simp only[gm];by_cases e:V.lit.pred<d.length
    ·rw[zb e] at g ⊢;exact g
    ·rw[za e] at g ⊢;simpa using g.symm
   |i+1,j,b=>
    simp only[mB];exact n i (by simpa using j) (by simpa using b)
  ·cases h
theorem xV.renewed{own:Nat->zn}{i g f:Nat}{W:zZ}{P:yT}{l:y6}(h:xV lo w own k wd W P)(s:i<W.qm.length)(v:i<P.vps.length)(p:P.vv=.slice (some ⟨g,0,none⟩) W.qm.length cap)(B:Py w g c 301)(z:l.lit=W.qm[i].lit)(x:vn lo w' own' k i l ⟨P.vps[i].tv,P.vps[i].bb,f,P.vps[i].ab⟩)(y:Py w' g (c.setIfInBounds (i*6+4) (.pointer (some ⟨f,0,none⟩))) 301)(m:P6 lo (fM k i (k+1,0,9)) w own w' own'):xV lo w' own' k wd ⟨W.rule,W.qm.set i l⟩ {P with vps:=P.vps.set i ⟨P.vps[i].tv,P.vps[i].bb,f,P.vps[i].ab⟩}:=by
 refine⟨h.rule.mod m (kR (by decide) (by decide)) (kR (by decide) (by decide)),?_,by simp[h.vlen],fun j a b=>?_,fun b d=>(m.old b (yU h.qm d)).trans (h.vrole b d),ve h.qp m (kR (by decide) (by decide)),h.nlen,by simpa using h.few⟩
 ·have u:=h.qm;dsimp only;rw[p] at u ⊢;rw[l3];have e:=DE wd W.qm P.vps i s v l f (by simp[List.getD,s,z]);have r:=Ey wd W.qm P.vps h.vlen;have q:=GW u B (i*6+4) (by omega) (.pointer (some ⟨f,0,none⟩)) y;rw[←e] at q;exact q
 ·simp only[l3] at a b;simp only[mJ];by_cases e:i=j
  ·subst e;rw[zb rfl,zb rfl];exact x
  ·rw[za e,za e];refine(h.view j a b).mod m (fun q t A n=>?_) (kR (by decide) (by decide));rcases n with⟨_,C,n⟩|⟨o,n⟩
   ·simp at n;omega
   ·subst o;exact A (by decide)
def Mw(lo:Nat)(w:World)(own:Nat->zn)(k wd:Nat)(W:zZ)(b:List y6)(P:yT)(e:Ending)(w':World):Prop:=e=.returned (.tuple #[])/\∃own' a,xV lo w' own' k wd ⟨W.rule,b⟩ ⟨P.tv,P.pv,P.nv,P.vv,P.ntv,a,P.nbs⟩/\P6 lo (dY k) w own w' own'
theorem IS(w:World)(own:Nat->zn)(rb gw o k:Nat)(c:Array Value)(R:zw)(W:zZ)(f:List y6)(P:yT)(wd mr mx:Nat)(Q:xL)(ae:Nat)(h:zW lo w own rb R wd mr mx Q)(hw:xV lo w own k wd W P)(al:Py w gw c 292)(af:Ru c o W.rule P)(a0:lo<=w.heap.size)(az:∀l∈R.qo,l.length<=1048577)(hr:g4 ae wd R.qo W.qm=some f):
  Calls prog 194 #[.pointer (some ⟨gw,o,none⟩),Q.fv] w fun e w'=>Mw lo w own k wd W f P e w':=by
 obtain⟨a5,aw⟩:=CF hr;have E:=Px a5;have aN:=Px aw;have HH:=Px h;have aM:=Px hw;have aO:=Px al;have a6:=Px af;have aL:=Px a0;have aP:=Px az;have aQ:=hw.few;have aY:=h.few.2.1;obtain⟨aU,y,ao⟩:=zs hw.qm;have F:=Px ao;obtain⟨aZ,aT,aj⟩:=zs h.qo;have a4:=Px aj;have an:=af.at al;have aW:=an.lt;have ax:=an.c6;rw[ao] at ax;rw[aj];clear hr h hw al af a0 ao an a5 aw az aj;go_enter func194,ntmps194;go_upto_region 1 with fail
 go_loopw [11] (fun aK wr=>∃m:Nat,m<=W.qm.length/\aK=.int .i64 m/\∃d a,Hid (xV lo wr d k wd ⟨W.rule,uL f W.qm m⟩ ⟨P.tv,P.pv,P.nv,P.vv,P.ntv,a,P.nbs⟩)/\Hid (P6 lo (dY k) w own wr d)) (fun i _=>W.qm.length-(intOf i).toNat)
 case atStart=>exact⟨0,zx _,rfl,own,P.vps,aM.out,P6.refl _ _⟩
 case round=>
  obtain⟨m,hm,rfl,d,a,H,C⟩:=hrel;have a1:=C.out.size;have a8:=zT aL.out a1;by_cases T:m<W.qm.length
  ·have J:=H.out;have v:m<(uL f W.qm m).length:=by rw[sD E.out m hm];exact T
   have a2:m<f.length:=by rw[E.out];exact T
   have u:=Es E.out m T v;have Y:=BJ E.out m T a2;have ac:m<a.length:=by have:=J.vlen;dsimp only at this;omega
   obtain⟨gv,aB,p,B,q0,q1,q2,q3,q4,q5⟩:=J.viewAt m v ac;dsimp only at p q0 q1 q2 q3 q4 q5;rw[F.out] at p;simp only[Value.slice.injEq] at p;have ar:=p.1;clear p;subst ar;obtain⟨K,s,hq⟩:=(J.view m v ac).qg.qx;dsimp only at hq;rw[hq] at q1;rw[u] at q0 q1;have aR:(m:Int)<(W.qm.length:Int):=by omega
   have ai:=Px (aO.out.mod C.out (lA (by decide) (by decide) _));have a7:wr.cell? ⟨gw,o+6,none⟩=some (.slice (some ⟨gv,0,none⟩) W.qm.length y):=by rw[←F.out];exact(a6.out.at ai.out).c6
   have aC:=ai.out.lt;have j:=aN.out m T a2;have aX:¬(W.qm[m].lit.pred:Int)<0:=by omega
   by_cases M:W.qm[m].lit.pred<R.qo.length
   ·rw[zb M] at j;have aI:=Px (HH.out.work C.out);have D:=aI.out;have a3:W.qm[m].lit.pred<Q.fvs.length:=by rw[D.flen];exact M
    obtain⟨gf,aJ,x,_,aA,ay⟩:=yC D.qo (by omega);rw[a4.out] at x;simp only[Value.slice.injEq] at x;have ar:=x.1;clear x;subst ar;have z:=ay W.qm[m].lit.pred _ (yr a3);have U:=(D.jl _ M a3).1;obtain⟨ap,N,aa⟩:=zs U.1;have aq:R.qo[W.qm[m].lit.pred].length<=1048577:=aP.out _ (zv _);rw[show R.qo.getD W.qm[m].lit.pred []=R.qo[W.qm[m].lit.pred] by simp[List.getD,M]] at j;have av:Hid (∀X,Below wr.heap.size wr X->Py X wr.heap.size #[.int .i64 (W.qm[m].lit.pred:Nat),.slice K W.qm[m].lit.qg.length s,.int .i64 wd,.pointer (some ⟨a[m].bb,0,none⟩),.pointer (some ⟨a[m].fb,0,none⟩),.pointer (some ⟨a[m].ab,0,none⟩)] 301->Calls prog 206 #[.pointer (some ⟨gv,m*6,none⟩),.slice ap R.qo[W.qm[m].lit.pred].length N] X fun e w'=>e=.returned (.tuple #[])/\w'.cell? ⟨gw,o+6,none⟩=some (.slice (some ⟨gv,0,none⟩) W.qm.length y)/\w'.cell? ⟨wr.heap.size,0,none⟩=some (.int .i64 (W.qm[m].lit.pred:Nat))/\w'.cell? ⟨gf,W.qm[m].lit.pred,none⟩=some (.slice ap R.qo[W.qm[m].lit.pred].length N)/\Hid (∃own' I,xV lo w' own' k wd ⟨W.rule,uL f W.qm (m+1)⟩ ⟨P.tv,P.pv,P.nv,P.vv,P.ntv,I,P.nbs⟩/\P6 lo (dY k) w own w' own')):=fun X t V=>by
     have a9:P6 lo (fun _ _=>False) wr d X (ext d wr.heap.size (0,0,5)):=P6.extNew d (0,0,5) t;have Z:=H.out.mod a9 (fun _=>id) (fun _=>id) id (fun _=>id) (fun _ _ _ _=>id);have au:=ai.out.below t;have ab:=Z.qm;dsimp only at ab;rw[F.out] at ab;obtain⟨cg,ah⟩:=qC ab rfl;have ag:=Z.vrole gv (by dsimp only;rw[F.out];rfl);obtain⟨n,_⟩:=ah.rules;obtain⟨cf,ad⟩:=qC (zC D.qo t) (b:=gf) (by rw[a4.out];rfl);have aD:VC cg (m*6) wd W.qm[m].lit.pred a[m].tv a[m].bb a[m].fb a[m].ab:=⟨(n _).symm.trans ((t.cell B).trans q0),(n _).symm.trans ((t.cell B).trans (by rw[q1,hq,u])),(n _).symm.trans ((t.cell B).trans q2),(n _).symm.trans ((t.cell B).trans q3),(n _).symm.trans ((t.cell B).trans q4),(n _).symm.trans ((t.cell B).trans q5)⟩;have am:=Z.view m v ac;dsimp only at am;rw[u] at am;have q:=AN X _ k m gv (m*6) wd ae cg W.qm[m] f[m] a[m] _ _ ah aD am (U.below' t) (xb ab rfl) (zT a8 t.size) D.small.1 aq j;rw[aa] at q;refine q.mono ?_;rintro e w' ⟨rfl,aV,own',aG,aE,A⟩;rw[ag] at A;have ak:=Z.renewed (W:=⟨W.rule,uL f W.qm m⟩) v ac (cap:=y) (by dsimp only;rw[F.out,sD E.out m hm]) ah (by dsimp only;rw[u];exact D9 j) aG aE A;dsimp only at ak;rw[Y] at ak;have c1:=au.mod A (kR (by decide) (by decide) _);have c2:=V.mod A (fun q=>by rcases q with⟨q,_⟩|⟨_,q⟩;exact q (by decide);simp[ext] at q);have c3:=ad.mod A (kR (by decide) (by decide) _);refine⟨rfl,?_,?_,?_,own',_,ak,(C.out.trans (a9.more fun _ _ q=>q.elim)).trans (A.more fun _ _ q=>Kb q)⟩
     ·rw[←F.out];exact(a6.out.at c1).c6
     ·rw[c2.rules.1];rfl
     ·rw[c3.rules.1,←ad.rules.1,t.cell aA,z,aa]
    rw[aa] at z;have aS:=aq;clear aa U ay D j hq J aq u Y v;generalize R.qo[W.qm[m].lit.pred].length=rl at *;have aH:(W.qm[m].lit.pred:Int)<(R.qo.length:Int):=by omega
    generalize W.qm[m].lit.pred=vp at *;generalize W.qm[m].lit.qg.length=vt at *;generalize a[m].bb=S at *;generalize a[m].fb=L at *;generalize a[m].ab=G at *;go_upto_region 4 with fail
    have g:Below wr.heap.size wr (wr.alloc (.cells #[.int .i64 vp,.slice K vt s,.int .i64 wd,.pointer (some ⟨S,0,none⟩),.pointer (some ⟨L,0,none⟩),.pointer (some ⟨G,0,none⟩)] 301)):=(by go_grown);have V:=Py.new wr #[.int .i64 vp,.slice K vt s,.int .i64 wd,.pointer (some ⟨S,0,none⟩),.pointer (some ⟨L,0,none⟩),.pointer (some ⟨G,0,none⟩)] 301;generalize aF:wr.alloc (.cells #[.int .i64 vp,.slice K vt s,.int .i64 wd,.pointer (some ⟨S,0,none⟩),.pointer (some ⟨L,0,none⟩),.pointer (some ⟨G,0,none⟩)] 301)=W1 at *;clear aF;have x1:=zm g aC a7;have x2:=zm g aA z;have x3:W1.cell? ⟨wr.heap.size,0,none⟩=some (.int .i64 vp):=by rw[V.rules.1];rfl
    clear ax a7 z q0 q1 q2 q3 q4 q5;go_region_held3 (fun w'=>w'.cell? ⟨gw,o+6,none⟩=some (.slice (some ⟨gv,0,none⟩) W.qm.length y)/\w'.cell? ⟨wr.heap.size,0,none⟩=some (.int .i64 vp)/\w'.cell? ⟨gf,vp,none⟩=some (.slice ap rl N)) (first|go_keep|(go_simp;done)) (first|(go_at_call 206;refine(av.out _ (by exact(zL g 1)) (Py.drew V)).mono ?_;rintro e w2 ⟨rfl,y1,y2,y3,HX⟩))
    clear x1 x2 x3 y1 y2 y3 V g av;go_wp2;obtain⟨own',I,z1,z2⟩:=HX.out;exact⟨⟨m+1,by omega,by go_num,own',I,z1,z2⟩,by simp[intOf];omega⟩
   ·rw[za M] at j;have r:uL f W.qm (m+1)=uL f W.qm m:=by rw[←Y,j,←u,rB]
    have O:Hid (∀X,Below wr.heap.size wr X->xV lo X d k wd ⟨W.rule,uL f W.qm (m+1)⟩ ⟨P.tv,P.pv,P.nv,P.vv,P.ntv,a,P.nbs⟩/\P6 lo (dY k) w own X d):=fun X t=>by
     rw[r];exact⟨H.out.mod (P6.of (ok:=fun _ _=>False) d t) (fun _=>id) (fun _=>id) id (fun _=>id) (fun _ _ _ _=>id),C.out.trans (P6.of d t)⟩
    have aH:¬(W.qm[m].lit.pred:Int)<(R.qo.length:Int):=by omega
    clear j hq J u Y v r;generalize W.qm[m].lit.pred=vp at *;generalize W.qm[m].lit.qg.length=vt at *;generalize a[m].bb=S at *;generalize a[m].fb=L at *;generalize a[m].ab=G at *;have g:Below wr.heap.size wr (wr.alloc (.cells #[.int .i64 vp,.slice K vt s,.int .i64 wd,.pointer (some ⟨S,0,none⟩),.pointer (some ⟨L,0,none⟩),.pointer (some ⟨G,0,none⟩)] 301)):=(by go_grown);go_wp2;obtain⟨z1,z2⟩:=O.out _ g;exact⟨⟨m+1,by omega,by go_num,d,a,z1,z2⟩,by simp[intOf];omega⟩
  ·obtain rfl:m=W.qm.length:=by omega
   have r:uL f W.qm W.qm.length=f:=by simp[uL,←E.out]
   have O:Hid (xV lo wr d k wd ⟨W.rule,f⟩ ⟨P.tv,P.pv,P.nv,P.vv,P.ntv,a,P.nbs⟩):=by rw[←r];exact H.out
   clear H r;go_wp2
   (try simp only[Exit.inBlock,Exit.then])
   exact zK (results_none rfl _ _ _) rfl ⟨rfl,d,a,O.out,C.out⟩
end
section
variable {lo:Nat}{w w':World}{own':Nat->zn}{wd:Nat}{wv:Value}{Ws:List zZ}{Ps:List yT}
def kV(Ws:List zZ)(Ps:List yT):List Value:=(List.zipWith (fun W P=>qM W.rule P) Ws Ps).flatten
structure uh (lo:Nat) (w:World) (own:Nat->zn) (wd:Nat) (wv:Value) (Ws:List zZ) (Ps:List yT):Prop where
 arr:w.ownsRow lo 292 8 wv Ws.length (kV Ws Ps)
 plen:Ps.length=Ws.length
 work:∀k (_:k<Ws.length) (_:k<Ps.length),xV lo w own k wd Ws[k] Ps[k]
 few:Ws.length<=1000
theorem Br:∀(Ws:List zZ) (Ps:List yT) (k:Nat) (b:k<Ws.length) (a:k<Ps.length) (j:Nat),j<8->(kV Ws Ps)[k*8+j]?=(qM Ws[k].rule Ps[k])[j]?
 |[],_,k,b,_,_,_=>by simp at b
 |v::vs,[],k,_,a,_,_=>by simp at a
 |v::vs,p::c,0,_,_,j,d=>by
  simp only[kV,lr,lM,gm];rw[rQ (by simp[qM];omega)];simp
 |v::vs,p::c,k+1,b,a,j,d=>by
  have:=Br vs c k (by simpa using b) (by simpa using a) j d;simp only[kV,lr,lM,mB] at this ⊢;rw[gU (by simp[qM];omega),←this];congr 1;simp[qM];omega
theorem Dk:∀(Ws:List zZ) (Ps:List yT) (k:Nat) (c:k<Ws.length) (b:k<Ps.length) (W':zZ) (a:yT),qM W'.rule a=qM Ws[k].rule Ps[k]->kV (Ws.set k W') (Ps.set k a)=kV Ws Ps
 |[],_,k,c,_,_,_,_=>by simp at c
 |v::vs,[],k,_,b,_,_,_=>by simp at b
 |v::vs,p::d,0,_,_,W',a,h=>by
  simp only[gm] at h;simp[kV,h]
 |v::vs,p::d,k+1,c,b,W',a,h=>by
  have:=Dk vs d k (by simpa using c) (by simpa using b) W' a (by simpa using h);simp only[kV,mO,lr,lM] at this ⊢;rw[this]
theorem uh.at{w:World}{own:Nat->zn}{wd:Nat}{wv:Value}{Ws:List zZ}{Ps:List yT}(h:uh lo w own wd wv Ws Ps)(k:Nat)(n:k<Ws.length)(i:k<Ps.length):∃d a c,wv=.slice (some ⟨d,0,none⟩) Ws.length a/\lo<=d/\Py w d c 292/\Ru c (k*8) Ws[k].rule Ps[k]:=by
 obtain⟨d,a,f,m,r,p⟩:=yC h.arr (by omega);obtain⟨c,g⟩:=qC h.arr (b:=d) (by rw[f];rfl);have e:∀j,j<8->c[k*8+j]?=(qM Ws[k].rule Ps[k])[j]?:=fun j l=>by
  have q:=Br Ws Ps k n i j l;obtain⟨u,o⟩:∃u,(qM Ws[k].rule Ps[k])[j]?=some u:=⟨_,yr (show j<(qM Ws[k].rule Ps[k]).length by simp[qM];omega)⟩;rw[o] at q ⊢;rw[←g.rules.1];exact p _ _ q
 exact⟨d,a,c,f,m,g,e 0 (by omega),e 1 (by omega),e 2 (by omega),e 3 (by omega),e 4 (by omega),e 5 (by omega),e 6 (by omega),e 7 (by omega)⟩
theorem uh.all{w w':World}{own own':Nat->zn}{wd p:Nat}{wv:Value}{Ws:List zZ}{Ps:List yT}(h:uh lo w own wd wv Ws Ps)(m:P6 lo (jQ p) w own w' own'):uh lo w' own' wd wv Ws Ps:=
 ⟨ve h.arr m (mm (by decide) (by decide)),h.plen,fun k a b=>(h.work k a b).all m,h.few⟩
theorem uh.types{own:Nat->zn}{l:List TypeId}(h:uh lo w own wd wv Ws Ps)(m:P6 lo (kX l) w own w' own')(e:∀t∈l,Qp t/\t∉[292,284,204,301,162]):uh lo w' own' wd wv Ws Ps:=by
 have c:∀t,t∈[292,284,204,301,162]->∀ρ,¬kX l t ρ:=fun t d ρ q=>(e t q).2 d;exact⟨ve h.arr m (c _ (by decide)),h.plen,fun k a b=>(h.work k a b).mod m (c _ (by decide)) (c _ (by decide)) (c _ (by decide) _) (c _ (by decide)) (fun _ _ _ d q=>d (e _ q).1),h.few⟩
theorem uh.below{own:Nat->zn}(h:uh lo w own wd wv Ws Ps)(a:Below w.heap.size w w'):uh lo w' own wd wv Ws Ps:=h.types (l:=[]) (P6.of own a) (by simp)
theorem uh.renewed{own:Nat->zn}{k:Nat}{d:List y6}{c:List jo}(h:uh lo w own wd wv Ws Ps)(i:k<Ws.length)(f:k<Ps.length)(g:xV lo w' own' k wd ⟨Ws[k].rule,d⟩ ⟨Ps[k].tv,Ps[k].pv,Ps[k].nv,Ps[k].vv,Ps[k].ntv,c,Ps[k].nbs⟩)(m:P6 lo (dY k) w own w' own'):uh lo w' own' wd wv (Ws.set k ⟨Ws[k].rule,d⟩) (Ps.set k ⟨Ps[k].tv,Ps[k].pv,Ps[k].nv,Ps[k].vv,Ps[k].ntv,c,Ps[k].nbs⟩):=by
 refine⟨?_,by simp[h.plen],fun j a b=>?_,by simpa using h.few⟩
 ·rw[Dk _ _ _ i f _ _ (by simp[qM]),l3];exact ve h.arr m (lA (by decide) (by decide))
 ·simp only[l3] at a b;simp only[mJ];by_cases e:k=j
  ·subst e;rw[zb rfl,zb rfl];exact g
  ·rw[za e,za e];exact(h.work j a b).mod m (lA (by decide) (by decide)) (lA (by decide) (by decide)) (nL (by omega)) (lA (by decide) (by decide)) (fun _ _ _ _=>nL (by omega))
theorem AP{f wd:Nat}{g:List (List zk)}:∀{b a:List zZ},kM f wd g b=some a->a.length=b.length/\∀i (d:i<b.length) (c:i<a.length),∃vs,g4 f wd g b[i].qm=some vs/\a[i]=⟨b[i].rule,vs⟩
 |[],a,h=>by
  simp[kM] at h;subst h;exact⟨rfl,fun i h=>by simp at h⟩
 |W::b,a,h=>by
  unfold kM at h;split at h
  ·rename_i v l k e;simp at h;subst h;obtain⟨m,j⟩:=AP e;refine⟨by simp[m],fun i d c=>?_⟩;match i,d,c with
   |0,_,_=>exact⟨v,by simpa using k,rfl⟩
   |i+1,d,c=>
    simp only[mB];exact j i (by simpa using d) (by simpa using c)
  ·cases h
def jB(R:zw):Prop:=∀l∈R.qo,l.length<=1048577
theorem jB.clear(R:zw):jB (vX R):=fun l a=>by simp[vX] at a;simp[a.2]
theorem jB.add{mr:Nat}{R R':zw}{p:Nat}{row:zk}{b:Bool}(h:jB R)(c:jr mr R p row=some (R',b)):jB R':=by
 obtain⟨_,_,_,_,e,d⟩:=iM c;rcases d with⟨_,rfl,_⟩|⟨_,rfl,_⟩
 ·exact h
 ·intro l a;rcases nY a with a|rfl
  ·exact h l a
  ·simp only[yv,xd,kE];omega
theorem jB.addAll{mr p:Nat}:∀(n:Nat) (R R':zw) (J:zy) (b:Bool),jB R->vj mr p n R J=some (R',b)->jB R'
 |0,R,R',J,b,_,h=>by simp[vj] at h
 |n+1,R,R',J,b,c,h=>by
  unfold vj at h;cases f:dF n J with
  |none=>rw[f] at h;cases h
  |some i=>
   obtain⟨e,g⟩:=i;rw[f] at h;cases g with
   |false=>
    simp only[zr,yc] at h;rw[←h.1];exact c
   |true=>
    dsimp only at h;cases a:jr mr R p (zF e.head e.ja) with
    |none=>rw[a] at h;cases h
    |some d=>
     obtain⟨k,j⟩:=d;rw[a] at h;cases j with
     |false=>
      simp only[zr,yc] at h;rw[←h.1];exact c.add a
     |true=>exact jB.addAll n k R' e b (c.add a) h
theorem wh{f wd mr:Nat}{W:zZ}:∀(n i:Nat) (R R':zw) (b:Bool),jv f wd mr W n i R=some (R',b)->(jB R->jB R')/\R'.rows.length=R.rows.length
 |0,i,R,R',b,h=>by simp[jv] at h;rw[←h.1];exact⟨id,rfl⟩
 |n+1,i,R,R',b,h=>by
  unfold jv at h;split at h
  ·split at h
   ·cases h
   ·rename_i d a;simp only[zr,yc] at h;rw[←h.1];exact⟨fun c=>c.addAll _ _ _ _ _ a,pO _ _ _ _ _ a⟩
   ·rename_i d a;obtain⟨g,e⟩:=wh n (i+1) d R' b h;exact⟨fun c=>g (c.addAll _ _ _ _ _ a),e.trans (pO _ _ _ _ _ a)⟩
  ·exact wh n (i+1) R R' b h
theorem Eu{f mr:Nat}{first:Bool}{R R':zw}{W:zZ}{b:Bool}(h:kq f wd mr first R W=some (R',b)):(jB R->jB R')/\R'.rows.length=R.rows.length:=by
 unfold kq at h;split at h
 ·exact⟨fun a=>a.addAll _ _ _ _ _ h,pO _ _ _ _ _ h⟩
 ·exact wh _ _ _ _ _ h
def uH:TypeId->zn->Prop:=fun t ρ=>(¬Qp t/\ρ≠(0,0,7))∨t∈[214,161,165,310,323,301]
theorem i9{p:Nat}{t:TypeId}{ρ:zn}(h:jQ p t ρ):uH t ρ:=by
 rcases h with (h|h|h|h)|h
 ·exact zg ⟨h.1,by rw[h.2];simp⟩
 ·subst h;exact ze (by decide)
 ·subst h;exact ze (by decide)
 ·rw[h.1];exact ze (by decide)
 ·rcases zu.1 h with rfl|h
  ·exact ze (by decide)
  ·rcases zu.1 h with rfl|h
   ·exact ze (by decide)
   ·cases h
theorem oI{k:Nat}{t:TypeId}{ρ:zn}(h:dY k t ρ):uH t ρ:=by
 rcases h with⟨a,i,j,rfl⟩|⟨rfl,_⟩
 ·exact zg ⟨a,by simp⟩
 ·exact ze (by decide)
theorem EI{t:TypeId}{ρ:zn}(h:kX [214] t ρ):uH t ρ:=ze (by rw[xO.1 h];decide)
end
section
open Go.Proofs.Tryz
variable {lo:Nat}
def kh(a:List Nat)(n:Nat)(c:List zZ)(b:List yT):Prop:=∀k (_:k<c.length) (_:k<b.length),gH a n c[k].rule b[k].nbs
theorem kh.set{c:List Nat}{n k:Nat}{d:List zZ}{f:List yT}(h:kh c n d f)(o:k<d.length)(m:k<f.length)(g:List y6)(i:yT)(l:i.nbs=f[k].nbs):kh c n (d.set k ⟨d[k].rule,g⟩) (f.set k i):=by
 intro j a b;simp only[l3] at a b;simp only[mJ];by_cases e:k=j
 ·subst e;rw[zb rfl,zb rfl,l];exact h k a b
 ·rw[za e,za e];exact h j a b
def ES(lo:Nat)(w:World)(own:Nat->zn)(i:Nat)(j:Value)(R R':zw)(f:List zZ)(wd mr mx:Nat)(Q:xL)(b:Bool)(e:Ending)(h:World):Prop:=
 e=.returned (.bool b)/\∃a g d c,zW lo h a i R' wd mr mx ⟨Q.rv,Q.tbs,g,d⟩/\uh lo h a wd j f c/\kh Q.tbs R.rows.length f c/\R'.rows.length=R.rows.length/\P6 lo uH w own h a
theorem N7(w:World)(own:Nat->zn)(B:Nat)(wv:Value)(R R':zw)(a d:List zZ)(V:List yT)(wd mr mx:Nat)(Q:xL)(g:Nat)(first b:Bool)(h:zW lo w own B R wd mr mx Q)(hw:uh lo w own wd wv a V)(ao:kh Q.tbs R.rows.length a V)(aa:lo<=w.heap.size)(aL:R.qw<1048576)(P:ni g wd mr first a R=some (R',d,b)):
  Calls prog 165 #[.pointer (some ⟨B,0,none⟩),wv,.bool first] w fun e L=>ES lo w own B wv R R' d wd mr mx Q b e L:=by
 obtain⟨G,b1,hA,M⟩:∃G b1,kG g wd mr first a (vX {R with qw:=R.qw+1})=some (G,b1)/\(b1=false/\G=R'/\a=d/\false=b∨b1=true/\G=R'/\kM g wd G.qo a=some d/\true=b):=by
  unfold ni at P;split at P
  ·cases P
  ·rename_i G hA;simp only[zr,yc] at P;exact⟨G,false,hA,zg ⟨rfl,P⟩⟩
  ·rename_i G hA;rw[vE] at P;obtain⟨aK,h1,h2⟩:=P;simp only[yc] at h2;obtain⟨h3,h4,h5⟩:=h2;subst h4;exact⟨G,true,hA,ze ⟨rfl,h3,h1,h5⟩⟩
 obtain⟨hl,hf,h0,h1,h2,h3,h4,h5,h6,h7⟩:=h.at;have ap:zd [B] w (w.setCell ⟨B,2,none⟩ (.int .i64 ((R.qw:Int)+1))):=zd.set _ _ _ _;have az:P6 lo (kX [214]) w own (w.setCell ⟨B,2,none⟩ (.int .i64 ((R.qw:Int)+1))) own:=P6.set own h.box h.low (xO.2 rfl) _ _;have x:=h.box.set 2 (.int .i64 ((R.qw:Int)+1));have am:=h.rebox (R':={R with qw:=R.qw+1}) ap (by simpa using x) rfl rfl ⟨h.few.2.2.1,by show R.qw+1<=1048576;omega⟩;have a8:=Px (Q5 _ own B _ wd mr mx Q am (by simpa [World.setCell] using aa));have a0:=Px az;have a9:=Px hw;have X:=Px ao;have a4:=Px aa;have HE:=Px M;have HA:Hid (kG g wd mr first (a.drop 0) (vX {R with qw:=R.qw+1})=some (G,b1)):=hA;have aJ:=hw.few;obtain⟨W,D,aH⟩:=zs hw.arr;subst aH;clear P h hw ao aa M hA am az ap x h0 h1 h3 h4 h5 h6 h7;go_enter func165,ntmps165;go_upto_region 4 with (first|(go_at_call 120;refine a8.out.mono ?_;rintro e w2 ⟨rfl,fv,aC,a2,hm⟩))
 have ag:=a0.out.trans hm;have aj:=Px (a9.out.types ag (by decide));have ay:=Px a2;have a7:Hid (P6 lo uH w own w2 own):=ag.more fun _ _ q=>EI q;clear ag hm a2 a8 a0;go_loopw [22] (fun aD wr=>∃m:Nat,m<=a.length/\aD=.int .i64 m/\∃v o K,Hid (zW lo wr o B v wd mr mx ⟨Q.rv,Q.tbs,fv,K⟩)/\Hid (uh lo wr o wd (.slice W a.length D) a V)/\Hid (P6 lo uH w own wr o)/\Hid (v.rows.length=R.rows.length)/\Hid (jB v)/\Hid (kG g wd mr first (a.drop m) v=some (G,b1))) (fun i _=>a.length-(intOf i).toNat)
 case atStart=>exact⟨0,zx _,rfl,_,own,aC,ay,aj,a7,rfl,jB.clear _,HA⟩
 case round=>
  clear HA ay aj a7;obtain⟨m,hm,rfl,v,o,K,t,k,s,ad,aw,ae⟩:=hrel;have S:=s.out.size;have y:=zT a4.out S;by_cases l:m<a.length
  ·have u:m<V.length:=by rw[a9.out.plen];exact l
   obtain⟨gw,a1,c,T,_,x,H⟩:=k.out.at m l u;simp only[Value.slice.injEq] at T;have ah:=T.1;clear T;subst ah;have z:=ae.out;rw[xk l] at z;unfold kG at z;cases ha:kq g wd mr first v a[m] with
   |none=>rw[ha] at z;cases z
   |some ar=>
    obtain⟨R3,b3⟩:=ar;rw[ha] at z;have af:Hid (jB R3/\R3.rows.length=R.rows.length):=⟨(Eu ha).1 aw.out,(Eu ha).2.trans ad.out⟩;have aA:=Px (NJ wr o B gw (m*8) m c v R3 a[m] V[m] wd mr mx _ g first b3 t.out (k.out.work m l u) x H (by rw[ad.out];exact X.out m l u) y ha);have aq:(m:Int)<(a.length:Int):=by omega
    generalize a[m].rule.head.pred=p at *;clear ha x H;cases b3 with
    |false=>
     simp only[zr,yc] at z;have HQ:=Px z;clear z;go_wp2_with (first|(go_at_call 193;refine aA.out.mono ?_;rintro e w4 ⟨rfl,f,J,n,I⟩))
     go_ret;have M:=HE.out;rw[←HQ.out.2,←HQ.out.1] at M;rcases M with⟨_,rfl,rfl,rfl⟩|⟨hx,_⟩
     ·exact⟨rfl,f,fv,J,V,n,k.out.all I,X.out,af.out.2,s.out.trans (I.more fun _ _ q=>i9 q)⟩
     ·cases hx
    |true=>
     have HQ:Hid (kG g wd mr first (a.drop (m+1)) R3=some (G,b1)):=z;clear z;go_wp2_with (first|(go_at_call 193;refine aA.out.mono ?_;rintro e w4 ⟨rfl,f,J,n,I⟩))
     exact⟨⟨m+1,by omega,by go_num,R3,f,J,n,k.out.all I,s.out.trans (I.more fun _ _ q=>i9 q),af.out.2,af.out.1,HQ⟩,by simp[intOf];omega⟩
  ·obtain rfl:m=a.length:=by omega
   have z:=ae.out;rw[List.drop_length] at z;simp only[kG,zr,yc] at z;have M:=HE.out;rw[←z.2,←z.1] at M;have O:Hid (v=R'/\kM g wd v.qo a=some d/\true=b):=by
    rcases M with⟨hx,_⟩|⟨_,hx⟩
    ·cases hx
    ·exact hx
   clear z M ae HE;go_upto_region 10 with fail
   obtain⟨au,av⟩:=AP O.out.2.1;have E:=Px au;have aI:=Px av;clear au av l hm;obtain⟨F,r,ax⟩:=zs t.out.qo;dsimp only at ax;subst ax;have aM:=Px y;clear S y;generalize aF:wr=w5 at *;clear aF;go_loopw [35] (fun aB wr=>∃m:Nat,m<=a.length/\aB=.int .i64 m/\∃j C,Hid (zW lo wr j B v wd mr mx ⟨Q.rv,Q.tbs,.slice F v.qo.length r,K⟩)/\Hid (uh lo wr j wd (.slice W a.length D) (uL d a m) C)/\Hid (kh Q.tbs R.rows.length (uL d a m) C)/\Hid (P6 lo uH w own wr j)) (fun i _=>a.length-(intOf i).toNat)
   case atStart=>exact⟨0,zx _,rfl,o,V,t,k,X,s⟩
   case round=>
    clear t k s;obtain⟨m,hm,rfl,j,C,t,k,Z,s⟩:=hrel;have y:=zT a4.out s.out.size;by_cases l:m<a.length
    ·have A:m<(uL d a m).length:=by rw[sD E.out m hm];exact l
     have ab:m<d.length:=by rw[E.out];exact l
     have ac:=Es E.out m l A;have ai:=BJ E.out m l ab;have u:m<C.length:=by rw[k.out.plen];exact A
     obtain⟨gw,a1,c,T,_,x,H⟩:=k.out.at m A u;rw[sD E.out m hm] at T;simp only[Value.slice.injEq] at T;have ah:=T.1;clear T;subst ah;obtain⟨vs,a3,an⟩:=aI.out m l ab;have aq:(m:Int)<(a.length:Int):=by omega
     have a5:=t.out.at;obtain⟨hl,hf,h0,h1,aG,h3,h4,h5,h6,h7⟩:=a5;have ak:Hid (∀W0,Below wr.heap.size wr W0->Calls prog 194 #[.pointer (some ⟨gw,m*8,none⟩),.slice F v.qo.length r] W0 fun e L=>e=.returned (.tuple #[])/\L.cell? ⟨B,7,none⟩=some (.slice F v.qo.length r)/\Hid (∃f N,zW lo L f B v wd mr mx ⟨Q.rv,Q.tbs,.slice F v.qo.length r,K⟩/\uh lo L f wd (.slice (some ⟨gw,0,none⟩) a.length D) (uL d a (m+1)) N/\kh Q.tbs R.rows.length (uL d a (m+1)) N/\P6 lo uH w own L f)):=fun W0 hb=>by
      have al:=k.out.below hb;have q:=IS W0 j B gw (m*8) m c v (uL d a m)[m] vs C[m] wd mr mx _ g (t.out.below hb) (al.work m A u) (x.below hb) H (zT y hb.size) aw.out (by rw[ac];exact a3);refine q.mono ?_;rintro e L ⟨rfl,f,a6,aE,Y⟩;have n:=(t.out.below hb).work Y;have r1:=al.renewed A u aE Y;have r2:=Z.out.set A u vs ⟨C[m].tv,C[m].pv,C[m].nv,C[m].vv,C[m].ntv,a6,C[m].nbs⟩ rfl;have e2:(⟨(uL d a m)[m].rule,vs⟩:zZ)=d[m]:=by rw[ac,an]
      rw[e2,ai] at r1 r2;exact⟨rfl,n.at.2.2.2.2.2.2.2.2.2,f,_,n,r1,r2,(s.out.trans (P6.of j hb)).trans (Y.more fun _ _ q=>oI q)⟩
     clear x H a3 an ac ai A ab u h0 h1 aG h3 h4 h5 h6;have x7:wr.cell? ⟨B,7,none⟩=some (.slice F v.qo.length r):=h7;clear h7;go_upto_region 12 with fail
     go_region_held3 (fun L=>L.cell? ⟨B,7,none⟩=some (.slice F v.qo.length r)) (first|go_keep|(go_simp;done)) (first|(go_at_call 194;refine(ak.out _ (by exact(zL (zo _ _) 1))).mono ?_;rintro e w2 ⟨rfl,y1,HX⟩))
     clear x7 y1 ak;go_wp2;obtain⟨f,N,z1,z2,z3,z4⟩:=HX.out;exact⟨⟨m+1,by omega,by go_num,f,N,z1,z2,z3,z4⟩,by simp[intOf];omega⟩
    ·obtain rfl:m=a.length:=by omega
     have U:uL d a a.length=d:=by simp[uL,←E.out]
     have HF:Hid (uh lo wr j wd (.slice W a.length D) d C/\kh Q.tbs R.rows.length d C):=by rw[←U];exact⟨k.out,Z.out⟩
     clear U k Z;go_wp2;go_ret;exact⟨by rw[←O.out.2.2];rfl,j,_,K,C,by rw[←O.out.1];exact t.out,HF.out.1,HF.out.2,by rw[←O.out.1];exact ad.out,s.out⟩
end
section
variable {lo:Nat}{k wd t5 t3:Nat}{w w' w0:World}{own' own0:Nat->zn}{r:zq}{P:yT}{vs:List y6}
def fI(k:Nat):TypeId->zn->Prop:=fun t ρ=>dY k t ρ∨(t=301/\ρ=(0,0,5))
theorem G8{i:Nat}{t:TypeId}{ρ:zn}(h:fM k i (0,0,5) t ρ):fI k t ρ:=by
 rcases h with⟨b,j,a⟩|h
 ·exact zg (zg ⟨b,i,j,a⟩)
 ·exact ze h
theorem nc{t:TypeId}(h:Qp t)(a:t≠301):∀ρ,¬fI k t ρ:=fun ρ q=>by
 rcases q with q|q
 ·exact lA h a ρ q
 ·exact a q.1
theorem wg{t:TypeId}{a b c:Nat}(h:a≠k+1)(d:c≠5):¬fI k t (a,b,c):=fun q=>by
 rcases q with q|⟨_,q⟩
 ·exact nL h q
 ·simp at q;omega
theorem Ir{t:TypeId}{ρ:zn}(h:fI k t ρ):uH t ρ:=by
 rcases h with h|⟨rfl,_⟩
 ·exact oI h
 ·exact ze (by decide)
theorem zW.make{own:Nat->zn}{a:Nat}{R:zw}{mr mx:Nat}{Q:xL}(h:zW lo w own a R wd mr mx Q)(m:P6 lo (fI k) w own w' own'):zW lo w' own' a R wd mr mx Q:=
 h.mod m (nc (by decide) (by decide)) (nc (by decide) (by decide)) (nc (by decide) (by decide)) (fun _=>wg (by omega) (by omega)) (fun _ _ _=>wg (by omega) (by omega))
theorem P6.newer{ok:TypeId->zn->Prop}{w wr w':World}{own a:Nat->zn}{M:List Nat}(h:P6 lo ok w own wr a)(hs:zd M wr w')(f:∀b∈M,w.heap.size<=b):P6 lo ok w own w' a:=by
 obtain⟨e,N,c,g⟩:=h;exact⟨e,N,c.newer hs fun x d=>ze (f x d),g⟩
theorem P6.qo{ok:TypeId->zn->Prop}{own:Nat->zn}(c:Below w.heap.size w w')(a:∀b,b<w.heap.size->own' b=own b):P6 lo ok w own w' own':=⟨a,[],zd.of c,by simp⟩
structure qL (lo:Nat) (w0 w:World) (own0 own:Nat->zn) (k wd t5 t3:Nat) (r:zq) (P:yT) (vs:List y6):Prop where
 low:w0.heap.size<=t5
 low0:lo<=w0.heap.size
 box:Py w t5 (qM r P).toArray 292
 rbox:Py w t3 #[.int .i64 r.qh,.int .i64 r.vars,.int .i64 r.head.pred,P.tv,P.pv,P.nv] 207
 rule:uU lo w P.tv P.pv P.nv r
 qm:w.ownsRow lo 301 6 P.vv vs.length (vP wd vs P.vps)
 vlen:P.vps.length=vs.length
 view:∀i (_:i<vs.length) (_:i<P.vps.length),vn lo w own k i vs[i] P.vps[i]
 vrole:∀b,P.vv.ownBlock=some b->own b=(k+1,0,9)
 qp:w.ownsRow lo 162 1 P.ntv P.nbs.length (PH P.nbs)
 mod:P6 lo (fI k) w0 own0 w own
theorem qL.step{own:Nat->zn}(h:qL lo w0 w own0 own k wd t5 t3 r P vs)(m:P6 lo (fM k vs.length (0,0,5)) w own w' own'):qL lo w0 w' own0 own' k wd t5 t3 r P vs:=by
 refine⟨h.low,h.low0,h.box.mod m (kR (by decide) (by decide) _),h.rbox.mod m (kR (by decide) (by decide) _),h.rule.mod m (kR (by decide) (by decide)) (kR (by decide) (by decide)),pE h.qm m (fun b c q=>?_),h.vlen,fun i a b=>(h.view i a b).mod m (fun j t d q=>?_) (kR (by decide) (by decide)),fun b c=>(m.old b (yU h.qm c)).trans (h.vrole b c),ve h.qp m (kR (by decide) (by decide)),h.mod.trans (m.more fun _ _ q=>G8 q)⟩
 ·rw[h.vrole b c] at q;rcases q with q|q
  ·exact q.1 (by decide)
  ·simp at q
 ·rcases q with⟨_,f,q⟩|⟨e,_⟩
  ·simp at q;omega
  ·subst e;exact d (by decide)
theorem qL.below{own:Nat->zn}(h:qL lo w0 w own0 own k wd t5 t3 r P vs)(a:Below w.heap.size w w'):qL lo w0 w' own0 own k wd t5 t3 r P vs:=h.step (P6.of own a)
theorem MR(wd:Nat):∀(vs:List y6) (ps:List jo),ps.length=vs.length->∀(V:y6) (p:jo),vP wd (vs++[V]) (ps++[p])=vP wd vs ps++kP wd V p:=fun vs ps h V p=>by
 simp[vP,List.zipWith_append (h.symm)]
theorem qL.pushV{own:Nat->zn}{V:y6}{p:jo}{v':Value}(h:qL lo w0 w own0 own k wd t5 t3 r P vs)(B:vn lo w own k vs.length V p)(E:w'.ownsRow lo 301 6 v' (vs.length+1) (vP wd vs P.vps++kP wd V p))(hs:zd P.vv.ownBlock.toList w w')(z:v'.ownBlock=P.vv.ownBlock∨∃g,v'.ownBlock=some g/\w.heap.size<=g):
  qL lo w0 (w'.setCell ⟨t5,6,none⟩ v') own0 (ext own w.heap.size (k+1,0,9)) k wd t5 t3 r ⟨P.tv,P.pv,P.nv,v',P.ntv,P.vps++[p],P.nbs⟩ (vs++[V]):=by
 have e:P6 lo (fun t ρ=>t=301/\ρ=(k+1,0,9)) w own w' (ext own w.heap.size (k+1,0,9)):=⟨fun b f=>gR _ _ _ b f,_,hs,fun b f=>by
  have l:P.vv.ownBlock=some b:=by simpa using f
  obtain⟨c,C⟩:=qC h.qm l;exact⟨xb h.qm l,yU h.qm l,c,_,C,rfl,h.vrole b l⟩⟩
 have o:∀t,t≠301->∀ρ,¬(t=301/\ρ=(k+1,0,9)):=fun t y ρ q=>y q.1;have m:=h.box.mod e (o _ (by decide) _);have n:=h.rbox.mod e (o _ (by decide) _);have d:zd [t5] w' (w'.setCell ⟨t5,6,none⟩ v'):=zd.set _ _ _ _;have s:=PN.box m;have v:=fun i V p (q:vn lo w own k i V p)=>(q.mod e (fun j t y q=>by obtain⟨rfl,_⟩:=q;exact y (by decide)) (o _ (by decide))).saveT d s (by decide) (by decide);refine⟨h.low,h.low0,?_,n.saveT d s (by decide),(h.rule.mod e (o _ (by decide)) (o _ (by decide))).saveT d s (by decide) (by decide),?_,by simp[h.vlen],fun i a b=>?_,fun b f=>?_,yB (ve h.qp e (o _ (by decide))) d s (by decide),(h.mod.trans (e.more fun _ _ q=>zg (ze q))).newer d fun b f=>by simp at f;rw[f];exact h.low⟩
 ·have q:=m.set 6 v';simpa [qM] using q
 ·rw[MR wd vs P.vps h.vlen,yv];exact yB E d s (by decide)
 ·simp only[yv,xd,kE] at a b;by_cases x:i<vs.length
  ·have u:i<P.vps.length:=by rw[h.vlen];exact x
   rw[uQ x,uQ u];exact v i _ _ (h.view i x u)
  ·obtain rfl:i=vs.length:=by omega
   have G:(vs++[V])[vs.length]=V:=by simp
   have A:(P.vps++[p])[vs.length]=p:=by simp[←h.vlen]
   rw[G,A];exact v _ _ _ B
 ·rcases z with z|⟨g,D,F⟩
  ·rw[z] at f;rw[gR _ _ _ b (yU h.qm f)];exact h.vrole b f
  ·rw[D] at f;simp at f;subst f;simp[ext,Nat.not_lt.2 F]
theorem qL.pushN{own:Nat->zn}{tb:Nat}{v':Value}(h:qL lo w0 w own0 own k wd t5 t3 r P vs)(j:∀b,P.ntv.ownBlock=some b->w0.heap.size<=b)(m:w'.ownsRow lo 162 1 v' (P.nbs.length+1) (PH P.nbs++[.pointer (some ⟨tb,0,none⟩)]))(hs:zd P.ntv.ownBlock.toList w w'):
  qL lo w0 (w'.setCell ⟨t5,7,none⟩ v') own0 own k wd t5 t3 r ⟨P.tv,P.pv,P.nv,P.vv,v',P.vps,P.nbs++[tb]⟩ vs:=by
 have d:=PN.own h.qp;have f:=h.box.saveT hs d (by decide);have c:zd [t5] w' (w'.setCell ⟨t5,7,none⟩ v'):=zd.set _ _ _ _;have g:=PN.box f;refine⟨h.low,h.low0,?_,(h.rbox.saveT hs d (by decide)).saveT c g (by decide),(h.rule.saveT hs d (by decide) (by decide)).saveT c g (by decide) (by decide),yB (yB h.qm hs d (by decide)) c g (by decide),h.vlen,fun i a b=>((h.view i a b).saveT hs d (by decide) (by decide)).saveT c g (by decide) (by decide),h.vrole,?_,(h.mod.newer hs fun b l=>j b (by simpa using l)).newer c fun b l=>by simp at l;rw[l];exact h.low⟩
 ·have q:=f.set 7 v';simpa [qM] using q
 ·have e:PH (P.nbs++[tb])=PH P.nbs++[.pointer (some ⟨tb,0,none⟩)]:=by simp[PH,pt]
  rw[e,yv];exact yB m c g (by decide)
theorem Cq{f wd:Nat}{R:zw}:∀{c:List zt} {vs:List y6},gO f wd R c=some vs->vs.length=c.length/\∀i (e:i<c.length) (d:i<vs.length),∃a,rowsG f (fR wd R c[i].pred)=some a/\gL f wd (kA wd c[i]) a=some vs[i]
 |[],vs,h=>by
  simp[gO] at h;subst h;exact⟨rfl,fun i h=>by simp at h⟩
 |l::c,vs,h=>by
  unfold gO at h;split at h
  ·cases h
  ·rename_i a b;split at h
   ·rename_i v j n g;simp at h;subst h;obtain⟨o,m⟩:=Cq g;refine⟨by simp[o],fun i e d=>?_⟩;match i,e,d with
    |0,_,_=>exact⟨a,b,n⟩
    |i+1,e,d=>
     simp only[mB];exact m i (by simpa using e) (by simpa using d)
   ·cases h
end
end Go.Proofs.YteampbddflhngaaGreat
