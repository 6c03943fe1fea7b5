import Derived.Test.YteampbddflhngaaGreatZ22
import Derived.Test.YteampbddflhngaaGreatZ23
namespace Go.Proofs.YteampbddflhngaaGreat
set_option linter.all false
set_option maxRecDepth 100000
set_option maxHeartbeats 4000000
open Go.RowKit
section
open Go.Proofs.Tryz
variable {lo:Nat}{w:World}
structure yV where
 tv:Value
 pv:Value
 nv:Value
 vv:Value
 ntv:Value
 vps:List jB
 nbs:List Nat
def qX(r:zr)(P:yV):List Value:=[ι r.qh,ι r.vars,ι r.head.pred,P.tv,P.pv,P.nv,P.vv,P.ntv]
def vY(wd:Nat)(vs:List yA)(ps:List jB):List Value:=(List.zipWith (gz wd) vs ps).flatten
structure ud (lo:Nat) (w:World) (own:Nat->zn) (k wd:Nat) (W:zX) (P:yV):Prop where
 rule:vm lo w P.tv P.pv P.nv W.rule
 qm:w.ownsRow lo 301 6 P.vv W.qm.length (vY wd W.qm P.vps)
 vlen:P.vps.length=W.qm.length
 view:∀i (_:i<W.qm.length) (_:i<P.vps.length),vJ lo w own k i W.qm[i] P.vps[i]
 vrole:∀b,P.vv.ownBlock=some b->own b=(k+1,0,9)
 qp:w.ownsRow lo 162 1 P.ntv W.rule.qp.length (QQ P.nbs)
 nlen:P.nbs.length=W.rule.qp.length
 few:W.qm.length<=1000
theorem Al(wd:Nat):∀(vs:List yA) (ps:List jB) (i:Nat) (b:i<vs.length) (a:i<ps.length),(vY wd vs ps)[i*6]?=some (ι (vs[i].lit.pred:Nat))/\(vY wd vs ps)[i*6+1]?=some ps[i].tv/\(vY wd vs ps)[i*6+2]?=some (ι wd)/\(vY wd vs ps)[i*6+3]?=some (pt ps[i].bb)/\(vY wd vs ps)[i*6+4]?=some (pt ps[i].fb)/\(vY wd vs ps)[i*6+5]?=some (pt ps[i].ab)
 |[],_,i,b,_=>by simp at b
 |v::vs,[],i,_,a=>by simp at a
 |v::vs,p::ps,0,_,_=>by simp[vY,gz]
 |v::vs,p::ps,i+1,b,a=>by
  have:=Al wd vs ps i (by simpa using b) (by simpa using a);simp only[vY,lV,mu] at this ⊢;rw[show(i+1)*6=i*6+6 from by omega];have c:i*6+6=(gz wd v p).length+i*6:=by simp[gz];omega
  rw[c];simp only[Nat.add_assoc,gX (Nat.le_add_right _ _),ww];simpa using this
theorem ud.viewAt{own:Nat->zn}{k wd:Nat}{W:zX}{P:yV}(h:ud lo w own k wd W P)(i:Nat)(e:i<W.qm.length)(m:i<P.vps.length):∃g a,P.vv=.slice (some ⟨g,0,none⟩) W.qm.length a/\g<w.heap.size/\w.cell? ⟨g,i*6,none⟩=some (ι (W.qm[i].lit.pred:Nat))/\w.cell? ⟨g,i*6+1,none⟩=some P.vps[i].tv/\w.cell? ⟨g,i*6+2,none⟩=some (ι wd)/\w.cell? ⟨g,i*6+3,none⟩=some (.pointer (some ⟨P.vps[i].bb,0,none⟩))/\w.cell? ⟨g,i*6+4,none⟩=some (.pointer (some ⟨P.vps[i].fb,0,none⟩))/\w.cell? ⟨g,i*6+5,none⟩=some (.pointer (some ⟨P.vps[i].ab,0,none⟩)):=by
 obtain⟨g,a,l,_,d,b⟩:=yv h.qm (by omega);obtain⟨j,p,n,c,o,f⟩:=Al wd W.qm P.vps i e m;exact⟨g,a,l,d,b _ _ j,b _ _ p,b _ _ n,b _ _ c,b _ _ o,b _ _ f⟩
theorem oO{w:World}{own:Nat->zn}{S:zn->Prop}:∀(d:List zi) (bs:List Nat),bs.length=d.length->(∀i (g:i<d.length) (j:i<bs.length),∃ρ,S ρ/\yQ lo w own ρ bs[i] d[i])->∃e:List (Nat×List Nat),e.map (·.1)=bs/\(∀i (g:i<d.length) (j:i<e.length),zY lo w e[i].1 d[i] e[i].2)/\∀x∈e,∀b∈x.2,S (own b)
 |[],[],_,_=>⟨[],rfl,fun i h=>by simp at h,fun x f=>by simp at f⟩
 |[],b::bs,h,_=>by simp at h
 |T::d,[],h,_=>by simp at h
 |T::d,b::bs,h,l=>by
  obtain⟨ρ,o,n,g,j⟩:=l 0 (by simp) (by simp);obtain⟨e,q,p,m⟩:=oO d bs (by simpa using h) fun i a c=>by
   have:=l (i+1) (by simpa using a) (by simpa using c);simpa using this
  refine⟨(b,n)::e,by simp[q],fun i a c=>?_,fun x f y k=>?_⟩
  ·match i,a,c with
   |0,_,_=>exact g
   |i+1,a,c=>exact p i (by simpa using a) (by simpa using c)
  ·rcases zx.1 f with rfl|f
   ·rw[j y k];exact o
   ·exact m x f y k
def mA(lo:Nat)(w:World)(own:Nat->zn)(p:Nat)(J:z9)(e:Ending)(w':World):Prop:=∃P,e=ε (.agg (un J P).toArray)/\j0 lo w' J P/\nC own P p/\μ w w'
theorem M9{J:z9}{P:xw}(h:j0 lo w J P):∀u∈un J P,u.oneCell'=true:=by
 intro u a;obtain⟨l,m,g⟩:=h.head.qx;obtain⟨q,k,c⟩:=zp h.qy;obtain⟨i,j,f⟩:=zp h.bars;simp only[un,zI,zx,zy,ff,or_false] at a;rcases a with ((((((a|a)|⟨_,_,a⟩)|a)|⟨_,_,a⟩)|⟨_,_,a⟩)|a)
 ·rcases a with rfl|rfl|rfl|rfl|rfl
  ·rfl
  ·rw[g];rfl
  ·rfl
  ·rw[c];rfl
  ·rw[f];rfl
 ·obtain⟨p,b,rfl⟩:=qa a;have n:=h.hlen;obtain⟨o,d,e⟩:=zp (h.je p (by omega) b).1;rw[e];rfl
 ·subst a;rfl
 ·subst a;rfl
 ·subst a;rfl
 ·subst a;rfl
 ·rcases a with rfl|rfl<;>rfl
def qP(bs:List Nat)(k:Nat):List Value:=(bs.take k).map pt++List.replicate (bs.length-k) (.pointer none)
theorem Fp(bs:List Nat)(k:Nat)(a:k<=bs.length):(qP bs k).length=bs.length:=by simp[qP];omega
theorem Es(bs:List Nat)(k:Nat)(b:k<bs.length):(qP bs k).set k (.pointer (some ⟨bs[k],0,none⟩))=qP bs (k+1):=by
 obtain⟨m,a⟩:∃m,bs.length-k=m+1:=⟨bs.length-k-1,by omega⟩;unfold qP;rw[fW _ _ (by simp;omega),uu,qt,dP (by omega),jX,a,rA,nG,yM b,uQ,show bs.length-(k+1)=m from by omega,kH];rfl
theorem Ef(bs:List Nat):qP bs bs.length=QQ bs:=by simp[qP,QQ]
theorem PV:(prog.info? 162).map (fun i=>(i.zero,i.size,i.bytes))=some (some (.pointer none),1,8):=by kernel_rfl
theorem Co{W':World}{own:Nat->zn}{k wd p pb:Nat}{W:zX}{P:yV}{qc qp:List zi}{bs:List Nat}(d:ud lo w own k wd W P)(F:lo<=w.heap.size)(O:qc.length=W.qm.length)(A:bs.length=qc.length)(v:∀i (r:i<qc.length) (q:i<bs.length),∃ρ,ρ≠(0,p,0)/\yQ lo w own ρ bs[i] qc[i])(m:qp.length=W.rule.qp.length)(s:∀i (r:i<qp.length) (q:i<P.nbs.length),∃ρ,ρ≠(0,p,0)/\yQ lo w own ρ P.nbs[i] qp[i])(g:μ w W')(j:W'.ownsRow w.heap.size 162 1 (.slice (some ⟨pb,0,none⟩) qc.length qc.length) qc.length (QQ bs)):
  Calls prog 214 #[kL W.rule P.tv P.pv P.nv,.slice (some ⟨pb,0,none⟩) qc.length qc.length,P.ntv] W' fun e C=>mA lo W' own p (xr W.rule qc qp) e C:=by
 obtain⟨l,y,K,H⟩:=oO qc bs A v;obtain⟨n,z,L,G⟩:=oO qp P.nbs (by rw[d.nlen,m]) s;have h:l.length=qc.length:=by rw[←A,←y,uu]
 have f:n.length=qp.length:=by rw[m,←d.nlen,←z,uu]
 have M:QQ bs=l.map fun x=>Sz x.1:=by rw[←y];simp[QQ];exact fun _ _ _=>rfl
 have I:QQ P.nbs=n.map fun x=>Sz x.1:=by rw[←z];simp[QQ];exact fun _ _ _=>rfl
 have B:=d.few;have N:=d.rule.qp.len;have r:mW w.heap.size lo W' (.slice (some ⟨pb,0,none⟩) qc.length qc.length) qc l:=⟨by rw[←M];exact j,h,fun i a b=>(K i a b).below g,by omega⟩;have q:mW lo lo W' P.ntv qp n:=⟨by rw[m,←I];exact zB d.qp g,f,fun i a b=>(L i a b).below g,by omega⟩;refine(LT W' W.rule P.tv P.pv P.nv _ _ qc qp l n (d.rule.below g) r q m (by have:=g.size;omega)).mono ?_;rintro e C ⟨E,rfl,D,J,u,o⟩;refine⟨E,rfl,D,⟨fun x t b c=>H x (by rw[←J];exact t) b c,fun x t b c=>G x.2 (by rw[←u];exact List.mem_map_of_mem t) b c⟩,o⟩
theorem wh{w':World}{b:Nat}(h:us w b)(a:μ w w'):us w' b:=by obtain⟨c,d,e⟩:=h;exact⟨c,d.below a,e⟩
theorem EJ{b b' o:Nat}{u:Value}(h:us w b)(a:b≠b'):us (w.setCell ⟨b',o,none⟩ u) b:=by obtain⟨c,d,e⟩:=h;exact⟨c,d.set_ne a _ _,e⟩
structure WC (w:World) (gw o:Nat) (r:zr) (P:yV):Prop where
 lt:gw<w.heap.size
 free:∀q,w.frozen? ⟨gw,q,none⟩=false
 c0:w.cell? ⟨gw,o,none⟩=some (ι r.qh)
 c1:w.cell? ⟨gw,o+1,none⟩=some (ι r.vars)
 c2:w.cell? ⟨gw,o+2,none⟩=some (ι r.head.pred)
 c3:w.cell? ⟨gw,o+3,none⟩=some P.tv
 c4:w.cell? ⟨gw,o+4,none⟩=some P.pv
 c5:w.cell? ⟨gw,o+5,none⟩=some P.nv
 c6:w.cell? ⟨gw,o+6,none⟩=some P.vv
 c7:w.cell? ⟨gw,o+7,none⟩=some P.ntv
theorem WC.below{w':World}{a o:Nat}{r:zr}{P:yV}(h:WC w a o r P)(b:μ w w'):WC w' a o r P:=by
 have e:=fun q=>b.cell (p:=⟨a,q,none⟩) h.lt;exact⟨by have:=b.size;have:=h.lt;omega,fun q=>(b.frozen (p:=⟨a,q,none⟩) h.lt).trans (h.free q),(e _).trans h.c0,(e _).trans h.c1,(e _).trans h.c2,(e _).trans h.c3,(e _).trans h.c4,(e _).trans h.c5,(e _).trans h.c6,(e _).trans h.c7⟩
theorem wI{b:Nat}{J:z9}{P:xw}{d:World}(a:j0 lo d J P)(h:us w b):(storeCells ⟨b,0,none⟩ (un J P)).run prog w=.ok () (g4 w b (un J P)):=by
 have e:=pE J P a.hlen.1 a.jk;exact run_storeCells_cells (P:=prog) b 0 (un J P) 0 w (fun j c=>(h.there j (by omega)).1) (fun j c=>(h.there j (by omega)).2) (M9 a)
attribute [local go_sem] pW
theorem LY(w:World)(own:Nat->zn)(k wd p E o:Nat)(W:zX)(P:yV)(qp:List zi)(h:ud lo w own k wd W P)(hc:WC w E o W.rule P)(a3:lo<=w.heap.size)(hn:qp.length=W.rule.qp.length)(ak:∀i (h1:i<qp.length) (h2:i<P.nbs.length),∃ρ,ρ≠(0,p,0)/\yQ lo w own ρ P.nbs[i] qp[i]):
  Calls prog 207 #[.pointer (some ⟨E,o,none⟩)] w fun e s=>mA lo w own p (xr W.rule (W.qm.map (·.all)) qp) e s:=by
 obtain⟨i0,hi,aA,aV,aB⟩:=info_parts PV;have L:Hid (∀Y pb,μ w Y->Y.ownsRow w.heap.size 162 1 (.slice (some ⟨pb,0,none⟩) W.qm.length W.qm.length) W.qm.length (QQ (P.vps.map (·.ab)))->Calls prog 214 #[kL W.rule P.tv P.pv P.nv,.slice (some ⟨pb,0,none⟩) W.qm.length W.qm.length,P.ntv] Y fun e s=>mA lo Y own p (xr W.rule (W.qm.map (·.all)) qp) e s):=fun Y pb hB c=>by
  have q:=Co (p:=p) (pb:=pb) (qc:=W.qm.map (·.all)) (bs:=P.vps.map (·.ab)) (qp:=qp) (W':=Y) h a3 (by simp) (by simp[h.vlen]) (fun i h1 h2=>⟨(k+1,i,2),by simp,by simp only[uM];exact(h.view i (by simpa using h1) (by simpa using h2)).all⟩) hn ak hB (by simpa using c);simpa using q
 have a9:=Q5 fun i a b=>h.viewAt i a b;have aS:=Q5 fun i a b=>(h.view i a b).qg.qx;have U:=Q5 h.vlen;have aX:=h.few;obtain⟨bk,aW,ab⟩:=zp h.qm;obtain⟨V,y,ar⟩:=h.rule.head.qx;obtain⟨ad,A,ag⟩:=h.rule.qc.qx;obtain⟨T,x,ae⟩:=h.rule.qp.qx;obtain⟨aa,B,N⟩:=zp h.qp;have HW:=Q5 hc;have aG:=Q5 ab;have D:Hid (P.tv=.slice V W.rule.head.qg.length y/\P.pv=.slice ad W.rule.qc.length A/\P.nv=.slice T W.rule.qp.length x/\P.ntv=.slice aa W.rule.qp.length B):=⟨ar,ag,ae,N⟩;have ai:=fun Z:World=>run_make (P:=prog) (w:=Z) 150 162 i0 _ underlying150 hi aA .i64 .i64 (W.qm.length:Int) (W.qm.length:Int) (by omega) (Int.le_refl _) (by rw[aB];omega) (by omega);rw[aV] at ai;have au:=hc.c6;rw[ab] at au;have aL:=hc.lt;have a7:=hc.free;clear h hc ak ab ar ag ae N;go_enter func207,ntmps207;go_upto_region 3 with fail
 have aq:μ w ((w.alloc (.cells (bj 0 0 0 none none 0 0 0 0).toArray 310)).alloc (.cells (madeCells #[.pointer none] W.qm.length) 162)):=(by go_grown);have c:=se (w.alloc (.cells (bj 0 0 0 none none 0 0 0 0).toArray 310)) W.qm.length 162 (.pointer none) (by unfold maxLen;omega);rw[World.size_alloc] at c;have al:us ((w.alloc (.cells (bj 0 0 0 none none 0 0 0 0).toArray 310)).alloc (.cells (madeCells #[.pointer none] W.qm.length) 162)) w.heap.size:=t9 _ _ _ _ _ _ _ _ _ _ _;have ay:(P.vps.map (·.ab)).length=W.qm.length:=by simp[U.out]
 have a0:Hid (((w.alloc (.cells (bj 0 0 0 none none 0 0 0 0).toArray 310)).alloc (.cells (madeCells #[.pointer none] W.qm.length) 162)).ownsRow w.heap.size 162 1 (.slice (some ⟨w.heap.size+1,0,none⟩) W.qm.length W.qm.length) W.qm.length (qP (P.vps.map (·.ab)) 0)):=by
  have e:qP (P.vps.map (·.ab)) 0=List.replicate W.qm.length (.pointer none):=by simp[qP,U.out]
  rw[Hid,e];exact yr c (by omega)
 have ac:=Q5 ay;have aJ:Hid (∀i (h1:i<P.vps.length) (h2:i<(P.vps.map (·.ab)).length),(P.vps.map (·.ab))[i]=P.vps[i].ab):=fun i a b=>by simp
 clear c ay au aL a7 ai;generalize (w.alloc (.cells (bj 0 0 0 none none 0 0 0 0).toArray 310)).alloc (.cells (madeCells #[.pointer none] W.qm.length) 162)=w1 at *;generalize P.vps.map (·.ab)=O at *;have t:=Q5 al;clear al;go_loopw [17] (fun aI wr=>∃m:Nat,m<=W.qm.length/\aI=ι m/\μ w wr/\Hid (us wr w.heap.size)/\Hid (wr.ownsRow w.heap.size 162 1 (.slice (some ⟨w.heap.size+1,0,none⟩) W.qm.length W.qm.length) W.qm.length (qP O m))) (fun i _=>W.qm.length-(intOf i).toNat)
 case atStart=>exact⟨0,zv _,rfl,aq,t,a0⟩
 case round=>
  clear a0 t aq;obtain⟨m,hm,rfl,d,t,HR⟩:=hrel;have bb:=d.size;by_cases z:m<W.qm.length
  ·have S:m<P.vps.length:=by rw[U.out];exact z
   have aj:m<O.length:=by rw[ac.out];exact z
   obtain⟨gv,aU,n,r,q0,q1,q2,q3,q4,q5⟩:=a9.out m z S;rw[aG.out] at n;simp only[Value.slice.injEq] at n;have aD:=n.1;clear n;subst aD;obtain⟨aE,af,hq⟩:=aS.out m z S;rw[hq] at q1;have x0:=zl d r q0;have x1:=zl d r q1;have x2:=zl d r q2;have x3:=zl d r q3;have x4:=zl d r q4;have x5:=zl d r q5;have be:gv<wr.heap.size:=by omega
   have c:=HR.out;have aH:=Fp O m (by omega);obtain⟨sx,bi⟩:∃sx,wr.cell? ⟨w.heap.size+1,m,none⟩=some sx:=by
    obtain⟨g',ba,ax,_,_,ao⟩:=yv c (by omega);simp only[Value.slice.injEq,zt,Addr.mk.injEq,and_true] at ax;have e:=ax.1;subst e;exact⟨_,ao m _ (yq (by omega))⟩
   have bc:=qT c;have bm:w.heap.size+1<wr.heap.size:=xK c rfl;have am:Hid ((qP O m).set m (.pointer (some ⟨P.vps[m].ab,0,none⟩))=qP O (m+1)):=by
    have q:=Es O m aj;rw[aJ.out m S aj] at q;exact q
   have l:Below (wr.setCell ⟨w.heap.size+1,m,none⟩ (.pointer (some ⟨P.vps[m].ab,0,none⟩))).heap.size (wr.setCell ⟨w.heap.size+1,m,none⟩ (.pointer (some ⟨P.vps[m].ab,0,none⟩))) ((wr.setCell ⟨w.heap.size+1,m,none⟩ (.pointer (some ⟨P.vps[m].ab,0,none⟩))).alloc (.cells #[ι (W.qm[m].lit.pred:Nat),.slice aE W.qm[m].lit.qg.length af,ι wd,.pointer (some ⟨P.vps[m].bb,0,none⟩),.pointer (some ⟨P.vps[m].fb,0,none⟩),.pointer (some ⟨P.vps[m].ab,0,none⟩)] 301)):=(by go_grown);have g:=wh (EJ (o:=m) (u:=.pointer (some ⟨P.vps[m].ab,0,none⟩)) t.out (show w.heap.size≠w.heap.size+1 by omega)) l;have j:=uZ c m (by omega) (.pointer (some ⟨P.vps[m].ab,0,none⟩));rw[am.out] at j;have an:=zB j l;have aT:=Q9 (d.setCell (by simp) _) l;clear j;have aY:(m:Int)<(W.qm.length:Int):=by omega
   clear q0 q1 q2 q3 q4 q5 aH hq am;generalize W.qm[m].lit.pred=vp at *;generalize W.qm[m].lit.qg.length=vt at *;generalize P.vps[m].bb=bh at *;generalize P.vps[m].fb=bf at *;generalize P.vps[m].ab=bg at *;go_wp2;exact⟨⟨m+1,by omega,by go_num,aT,g,an⟩,by simp[intOf];omega⟩
  ·obtain rfl:m=W.qm.length:=by omega
   have aQ:Hid (wr.ownsRow w.heap.size 162 1 (.slice (some ⟨w.heap.size+1,0,none⟩) W.qm.length W.qm.length) W.qm.length (QQ O)):=by
    have q:=HR.out;rw[←ac.out,Ef,ac.out] at q;exact q
   have aO:=HW.out.below d;obtain⟨t1,t2,t3,t4⟩:=D.out;obtain⟨bd,aP,d0,d1,d2,d3,d4,d5,d6,d7⟩:=aO;rw[t1] at d3;rw[t2] at d4;rw[t3] at d5;rw[t4] at d7;have f:E≠w.heap.size:=by have:=HW.out.lt;omega
   have aR:Hid (∀Z,μ wr Z->Calls prog 214 #[.agg #[ι W.rule.qh,ι W.rule.vars,ι W.rule.head.pred,.slice V W.rule.head.qg.length y,.slice ad W.rule.qc.length A,.slice T W.rule.qp.length x],.slice (some ⟨w.heap.size+1,0,none⟩) W.qm.length W.qm.length,.slice aa W.rule.qp.length B] Z fun e s=>mA lo Z own p (xr W.rule (W.qm.map (·.all)) qp) e s):=fun Z ah=>by
    have q:=L.out Z (w.heap.size+1) (Q9 d ah) (zB aQ.out ah);rw[kL,t1,t2,t3,t4] at q;exact q
   clear t1 t2 t3 t4 d6 L z hm;generalize a1:xr W.rule (W.qm.map (·.all)) qp=J at *;have a2:=Q5 a1;clear a1;go_wp2;go_region_held3 (fun s=>s.cell? ⟨E,o,none⟩=some (ι W.rule.qh)/\s.cell? ⟨E,o+1,none⟩=some (ι W.rule.vars)/\s.cell? ⟨E,o+2,none⟩=some (ι W.rule.head.pred)/\s.cell? ⟨E,o+3,none⟩=some (.slice V W.rule.head.qg.length y)/\s.cell? ⟨E,o+4,none⟩=some (.slice ad W.rule.qc.length A)/\s.cell? ⟨E,o+5,none⟩=some (.slice T W.rule.qp.length x)/\s.cell? ⟨E,o+7,none⟩=some (.slice aa W.rule.qp.length B)) (first|(exact⟨X,Q,R,G,I,K,F⟩)|(exact⟨(kl _ _ _ _ _ f).trans X,(kl _ _ _ _ _ f).trans Q,(kl _ _ _ _ _ f).trans R,(kl _ _ _ _ _ f).trans G,(kl _ _ _ _ _ f).trans I,(kl _ _ _ _ _ f).trans K,(kl _ _ _ _ _ f).trans F⟩)|go_keep|(go_simp;done)) (go_at_call 214;refine(aR.out _ (by exact(by go_grown))).mono ?_;rintro e w2 ⟨PJ,rfl,C,aw,a6⟩;have H:μ wr w2:=(zQ (by go_grown) a6 (zg _));have aN:=HW.out.below (Q9 d H);obtain⟨aZ,az,X,Q,R,G,I,K,_,F⟩:=aN;rw[D.out.1] at G;rw[D.out.2.1] at I;rw[D.out.2.2.1] at K;rw[D.out.2.2.2] at F;have g:=wh t.out H;have aC:=wI C g;have M:=pE J PJ C.hlen.1 C.jk;have aM:=Q5 C;have a8:=Q5 aw;clear C aw;generalize ap:un J PJ=cs at *;have aF:=Q5 ap;clear ap)
   have a5:=pN (cs:=cs) g M;have av:=ri w2 w.heap.size cs;have aK:=aM.out.saveJ av (QS.box g.choose_spec.1);have a4:=(Q9 d H).trans (av.below (by simp) (by have:=H.size;omega));clear aC d0 d1 d2 d3 d4 d5 d7 X Q R G I K F aP az;generalize g4 w2 w.heap.size cs=w5 at *;go_wp2
   (try simp only[Exit.inBlock,Exit.then])
   exact zL (v:=.agg cs.toArray) (sU rfl _ _ _ _ _ (by rfl) (run_loadVar_mid w5 w.heap.size 0 310 cs _ a5.range underlying310 rfl (by rw[M];exact PW))) rfl ⟨PJ,by rw[a2.out,aF.out],by rw[a2.out];exact aK,a8.out,a4⟩
end
section
open Go.Proofs.Tryz
variable {lo:Nat}
def jZ(ps:List jB)(place:Nat):List Nat:=ps.zipIdx.map fun x=>if x.2<place then x.1.bb else if x.2=place then x.1.fb else x.1.ab
theorem B1(vs:List yA)(a:Nat):(QP vs a).length=vs.length:=by simp[QP]
theorem MV{w:World}{own:Nat->zn}{k wd p:Nat}{W:zX}{P:yV}(h:ud lo w own k wd W P)(a i:Nat)(c:i<W.qm.length)(d:i<P.vps.length)(e:i<(QP W.qm a).length)(f:i<(jZ P.vps a).length):∃ρ,ρ≠(0,p,0)/\yQ lo w own ρ (jZ P.vps a)[i] (QP W.qm a)[i]:=by
 have b:=h.view i c d;simp only[jZ,QP,uM,List.getElem_zipIdx,vz];split
 ·exact⟨_,by simp,b.before⟩
 ·split
  ·exact⟨_,by simp,b.qo⟩
  ·exact⟨_,by simp,b.all⟩
attribute [local go_sem] pW
theorem NX(w:World)(own:Nat->zn)(k wd p I o d:Nat)(W:zX)(P:yV)(qp:List zi)(h:ud lo w own k wd W P)(hc:WC w I o W.rule P)(a6:lo<=w.heap.size)(bb:d<=1000000)(hn:qp.length=W.rule.qp.length)(ao:∀i (h1:i<qp.length) (h2:i<P.nbs.length),∃ρ,ρ≠(0,p,0)/\yQ lo w own ρ P.nbs[i] qp[i]):
  Calls prog 210 #[.pointer (some ⟨I,o,none⟩),ι d] w fun e x=>mA lo w own p (xr W.rule (QP W.qm d) qp) e x:=by
 obtain⟨i0,hi,aE,bd,aF⟩:=info_parts PV;have Q:Hid (∀W' pb,μ w W'->W'.ownsRow w.heap.size 162 1 (.slice (some ⟨pb,0,none⟩) W.qm.length W.qm.length) W.qm.length (QQ (jZ P.vps d))->Calls prog 214 #[kL W.rule P.tv P.pv P.nv,.slice (some ⟨pb,0,none⟩) W.qm.length W.qm.length,P.ntv] W' fun e x=>mA lo W' own p (xr W.rule (QP W.qm d) qp) e x):=fun W' pb hB c=>by
  have q:=Co (p:=p) (pb:=pb) (qc:=QP W.qm d) (bs:=jZ P.vps d) (qp:=qp) (W':=W') h a6 (by simp[QP]) (by simp[jZ,QP,h.vlen]) (fun i h1 h2=>MV h d i (by simpa [QP] using h1) (by simpa [jZ] using h2) h1 h2) hn ao hB (by rw[B1];exact c);rw[B1] at q;exact q
 have aD:=Q5 fun i a b=>h.viewAt i a b;have ba:=Q5 fun i a b=>(h.view i a b).qg.qx;have Z:=Q5 h.vlen;have bf:=h.few;obtain⟨br,be,ae⟩:=zp h.qm;obtain⟨aa,C,aw⟩:=h.rule.head.qx;obtain⟨ag,F,ak⟩:=h.rule.qc.qx;obtain⟨Y,B,ai⟩:=h.rule.qp.qx;obtain⟨ad,E,S⟩:=zp h.qp;have HW:=Q5 hc;have aL:=Q5 ae;have H:Hid (P.tv=.slice aa W.rule.head.qg.length C/\P.pv=.slice ag W.rule.qc.length F/\P.nv=.slice Y W.rule.qp.length B/\P.ntv=.slice ad W.rule.qp.length E):=⟨aw,ak,ai,S⟩;have am:=fun W0:World=>run_make (P:=prog) (w:=W0) 150 162 i0 _ underlying150 hi aE .i64 .i64 (W.qm.length:Int) (W.qm.length:Int) (by omega) (Int.le_refl _) (by rw[aF];omega) (by omega);rw[bd] at am;have ax:=hc.c6;rw[ae] at ax;have aQ:=hc.lt;have aB:=hc.free;clear h hc ao ae aw ak ai S;go_enter func210,ntmps210;go_upto_region 3 with fail
 have av:μ w ((w.alloc (.cells (bj 0 0 0 none none 0 0 0 0).toArray 310)).alloc (.cells (madeCells #[.pointer none] W.qm.length) 162)):=(by go_grown);have c:=se (w.alloc (.cells (bj 0 0 0 none none 0 0 0 0).toArray 310)) W.qm.length 162 (.pointer none) (by unfold maxLen;omega);rw[World.size_alloc] at c;have ap:us ((w.alloc (.cells (bj 0 0 0 none none 0 0 0 0).toArray 310)).alloc (.cells (madeCells #[.pointer none] W.qm.length) 162)) w.heap.size:=t9 _ _ _ _ _ _ _ _ _ _ _;have a1:(jZ P.vps d).length=W.qm.length:=by simp[jZ,Z.out]
 have a3:Hid (((w.alloc (.cells (bj 0 0 0 none none 0 0 0 0).toArray 310)).alloc (.cells (madeCells #[.pointer none] W.qm.length) 162)).ownsRow w.heap.size 162 1 (.slice (some ⟨w.heap.size+1,0,none⟩) W.qm.length W.qm.length) W.qm.length (qP (jZ P.vps d) 0)):=by
  have e:qP (jZ P.vps d) 0=List.replicate W.qm.length (.pointer none):=by simp[qP,jZ,Z.out]
  rw[Hid,e];exact yr c (by omega)
 have af:=Q5 a1;have aO:Hid (∀i (h1:i<P.vps.length) (h2:i<(jZ P.vps d).length),(jZ P.vps d)[i]=if i<d then P.vps[i].bb else if i=d then P.vps[i].fb else P.vps[i].ab):=fun i a b=>by simp[jZ]
 clear c a1 ax aQ aB am;generalize (w.alloc (.cells (bj 0 0 0 none none 0 0 0 0).toArray 310)).alloc (.cells (madeCells #[.pointer none] W.qm.length) 162)=w1 at *;generalize jZ P.vps d=T at *;have z:=Q5 ap;clear ap;go_loopw [19] (fun aN wr=>∃m:Nat,m<=W.qm.length/\aN=ι m/\μ w wr/\Hid (us wr w.heap.size)/\Hid (wr.ownsRow w.heap.size 162 1 (.slice (some ⟨w.heap.size+1,0,none⟩) W.qm.length W.qm.length) W.qm.length (qP T m))) (fun i _=>W.qm.length-(intOf i).toNat)
 case atStart=>exact⟨0,zv _,rfl,av,z,a3⟩
 case round=>
  clear a3 z av;obtain⟨m,hm,rfl,f,z,HR⟩:=hrel;have bk:=f.size;by_cases D:m<W.qm.length
  ·have X:m<P.vps.length:=by rw[Z.out];exact D
   have an:m<T.length:=by rw[af.out];exact D
   obtain⟨gv,bc,r,t,q0,q1,q2,q3,q4,q5⟩:=aD.out m D X;rw[aL.out] at r;simp only[Value.slice.injEq] at r;have aI:=r.1;clear r;subst aI;obtain⟨aJ,aj,hq⟩:=ba.out m D X;rw[hq] at q1;have x0:=zl f t q0;have x1:=zl f t q1;have x2:=zl f t q2;have x3:=zl f t q3;have x4:=zl f t q4;have x5:=zl f t q5;have bp:gv<wr.heap.size:=by omega
   have c:=HR.out;have aM:=Fp T m (by omega);obtain⟨sx,bq⟩:∃sx,wr.cell? ⟨w.heap.size+1,m,none⟩=some sx:=by
    obtain⟨g',bi,a0,_,_,ar⟩:=yv c (by omega);simp only[Value.slice.injEq,zt,Addr.mk.injEq,and_true] at a0;have e:=a0.1;subst e;exact⟨_,ar m _ (yq (by omega))⟩
   have bm:=qT c;have bb:w.heap.size+1<wr.heap.size:=xK c rfl;obtain⟨y,ac⟩:∃y,y=(if m<d then P.vps[m].bb else if m=d then P.vps[m].fb else P.vps[m].ab):=⟨_,rfl⟩;have aq:Hid ((qP T m).set m ((π y))=qP T (m+1)):=by
    have q:=Es T m an;rw[aO.out m X an,←ac] at q;exact q
   have n:Below (wr.setCell ⟨w.heap.size+1,m,none⟩ ((π y))).heap.size (wr.setCell ⟨w.heap.size+1,m,none⟩ ((π y))) ((wr.setCell ⟨w.heap.size+1,m,none⟩ ((π y))).alloc (.cells #[ι (W.qm[m].lit.pred:Nat),.slice aJ W.qm[m].lit.qg.length aj,ι wd,.pointer (some ⟨P.vps[m].bb,0,none⟩),.pointer (some ⟨P.vps[m].fb,0,none⟩),.pointer (some ⟨P.vps[m].ab,0,none⟩)] 301)):=(by go_grown);have j:=wh (EJ (o:=m) (u:=(π y)) z.out (show w.heap.size≠w.heap.size+1 by omega)) n;have l:=uZ c m (by omega) ((π y));rw[aq.out] at l;have A:=zB l n;have ah:=Q9 (f.setCell (by simp) _) n;clear l;have bg:(m:Int)<(W.qm.length:Int):=by omega
   clear q0 q1 q2 q3 q4 q5 aM hq aq;generalize W.qm[m].lit.pred=vp at *;generalize W.qm[m].lit.qg.length=vt at *;generalize P.vps[m].bb=aV at *;generalize P.vps[m].fb=aR at *;generalize P.vps[m].ab=aS at *;have s:=Q5 ac;clear ac;by_cases g1:m<d
   ·have aA:(m:Int)<(d:Int):=by omega
    obtain rfl:y=aV:=by rw[s.out,zc g1]
    clear s;go_wp2;exact⟨⟨m+1,by omega,by go_num,ah,j,A⟩,by simp[intOf];omega⟩
   ·have aA:¬(m:Int)<(d:Int):=by omega
    by_cases g2:m=d
    ·have aH:((m:Int) == (d:Int))=true:=by rw[beq_iff_eq];omega
     obtain rfl:y=aR:=by rw[s.out,za g1,zc g2]
     have bn:=Q5 g2;clear s g2;go_wp2;exact⟨⟨m+1,by omega,by go_num,ah,j,A⟩,by simp[intOf];omega⟩
    ·have aH:((m:Int) == (d:Int))=false:=by rw[beq_eq_false_iff_ne];omega
     obtain rfl:y=aS:=by rw[s.out,za g1,za g2]
     clear s;go_wp2;exact⟨⟨m+1,by omega,by go_num,ah,j,A⟩,by simp[intOf];omega⟩
  ·obtain rfl:m=W.qm.length:=by omega
   have aY:Hid (wr.ownsRow w.heap.size 162 1 (.slice (some ⟨w.heap.size+1,0,none⟩) W.qm.length W.qm.length) W.qm.length (QQ T)):=by
    have q:=HR.out;rw[←af.out,Ef,af.out] at q;exact q
   have aW:=HW.out.below f;obtain⟨t1,t2,t3,t4⟩:=H.out;obtain⟨bo,aX,d0,d1,d2,d3,d4,d5,d6,d7⟩:=aW;rw[t1] at d3;rw[t2] at d4;rw[t3] at d5;rw[t4] at d7;have g:I≠w.heap.size:=by have:=HW.out.lt;omega
   have aZ:Hid (∀W0,μ wr W0->Calls prog 214 #[.agg #[ι W.rule.qh,ι W.rule.vars,ι W.rule.head.pred,.slice aa W.rule.head.qg.length C,.slice ag W.rule.qc.length F,.slice Y W.rule.qp.length B],.slice (some ⟨w.heap.size+1,0,none⟩) W.qm.length W.qm.length,.slice ad W.rule.qp.length E] W0 fun e x=>mA lo W0 own p (xr W.rule (QP W.qm d) qp) e x):=fun W0 al=>by
    have q:=Q.out W0 (w.heap.size+1) (Q9 f al) (zB aY.out al);rw[kL,t1,t2,t3,t4] at q;exact q
   clear t1 t2 t3 t4 d6 Q D hm;generalize a4:xr W.rule (QP W.qm d) qp=J at *;have a5:=Q5 a4;clear a4;go_wp2;go_region_held3 (fun x=>x.cell? ⟨I,o,none⟩=some (ι W.rule.qh)/\x.cell? ⟨I,o+1,none⟩=some (ι W.rule.vars)/\x.cell? ⟨I,o+2,none⟩=some (ι W.rule.head.pred)/\x.cell? ⟨I,o+3,none⟩=some (.slice aa W.rule.head.qg.length C)/\x.cell? ⟨I,o+4,none⟩=some (.slice ag W.rule.qc.length F)/\x.cell? ⟨I,o+5,none⟩=some (.slice Y W.rule.qp.length B)/\x.cell? ⟨I,o+7,none⟩=some (.slice ad W.rule.qp.length E)) (first|(exact⟨ab,U,V,L,N,O,K⟩)|(exact⟨(kl _ _ _ _ _ g).trans ab,(kl _ _ _ _ _ g).trans U,(kl _ _ _ _ _ g).trans V,(kl _ _ _ _ _ g).trans L,(kl _ _ _ _ _ g).trans N,(kl _ _ _ _ _ g).trans O,(kl _ _ _ _ _ g).trans K⟩)|go_keep|(go_simp;done)) (go_at_call 214;refine(aZ.out _ (by exact(by go_grown))).mono ?_;rintro e w2 ⟨PJ,rfl,G,az,a9⟩;have M:μ wr w2:=(zQ (by go_grown) a9 (zg _));have aU:=HW.out.below (Q9 f M);obtain⟨bh,a2,ab,U,V,L,N,O,_,K⟩:=aU;rw[H.out.1] at L;rw[H.out.2.1] at N;rw[H.out.2.2.1] at O;rw[H.out.2.2.2] at K;have j:=wh z.out M;have aG:=wI G j;have R:=pE J PJ G.hlen.1 G.jk;have aT:=Q5 G;have aC:=Q5 az;clear G az;generalize au:un J PJ=cs at *;have aK:=Q5 au;clear au)
   have a8:=pN (cs:=cs) j R;have ay:=ri w2 w.heap.size cs;have aP:=aT.out.saveJ ay (QS.box j.choose_spec.1);have a7:=(Q9 f M).trans (ay.below (by simp) (by have:=M.size;omega));clear aG d0 d1 d2 d3 d4 d5 d7 ab U V L N O K aX a2;generalize g4 w2 w.heap.size cs=w5 at *;go_wp2
   (try simp only[Exit.inBlock,Exit.then])
   exact zL (v:=.agg cs.toArray) (sU rfl _ _ _ _ _ (by rfl) (run_loadVar_mid w5 w.heap.size 0 310 cs _ a8.range underlying310 rfl (by rw[R];exact PW))) rfl ⟨PJ,by rw[a5.out,aK.out],by rw[a5.out];exact aP,aC.out,a7⟩
end
section
open Go.Proofs.Tryz
variable {lo:Nat}{w:World}{p:Nat}
structure S6 (c:Array Value) (o:Nat) (r:zr) (P:yV):Prop where
 c0:c[o]?=some (ι r.qh)
 c1:c[o+1]?=some (ι r.vars)
 c2:c[o+2]?=some (ι r.head.pred)
 c3:c[o+3]?=some P.tv
 c4:c[o+4]?=some P.pv
 c5:c[o+5]?=some P.nv
 c6:c[o+6]?=some P.vv
 c7:c[o+7]?=some P.ntv
theorem S6.at{d o:Nat}{T:TypeId}{c:Array Value}{r:zr}{P:yV}(h:S6 c o r P)(b:Q6 w d c T):WC w d o r P:=by
 obtain⟨a,e⟩:=b.rules;exact⟨b.lt,e,(a _).trans h.c0,(a _).trans h.c1,(a _).trans h.c2,(a _).trans h.c3,(a _).trans h.c4,(a _).trans h.c5,(a _).trans h.c6,(a _).trans h.c7⟩
theorem ud.mod{ok:TypeId->zn->Prop}{w w':World}{own c:Nat->zn}{k wd:Nat}{W:zX}{P:yV}(h:ud lo w own k wd W P)(m:QC lo ok w own w' c)(e:∀ρ,¬ok 284 ρ)(l:∀ρ,¬ok 204 ρ)(f:¬ok 301 (k+1,0,9))(n:∀ρ,¬ok 162 ρ)(g:∀i j t,¬Rz t->¬ok t (k+1,i,j)):ud lo w' c k wd W P:=
 ⟨h.rule.mod m e l,pY h.qm m fun b d=>by rw[h.vrole b d];exact f,h.vlen,fun i a b=>(h.view i a b).mod m (g i) e,fun b d=>by rw[m.old b (xK h.qm d)];exact h.vrole b d,vG h.qp m n,h.nlen,h.few⟩
theorem nc{t:TypeId}(a:Rz t)(h:t∉[214,161,165,310,323]):∀ρ,¬kg p t ρ:=fun ρ q=>by
 rcases q with (q|q|q|q)|q
 ·exact q.1 a
 ·subst q;exact h (by decide)
 ·subst q;exact h (by decide)
 ·rw[q.1] at h;exact h (by decide)
 ·rcases zx.1 q with rfl|q
  ·exact h (by decide)
  ·rcases zx.1 q with rfl|q
   ·exact h (by decide)
   ·cases q
theorem O5{t:TypeId}{ρ:zn}(a:¬Rz t)(h:ρ≠(0,p,0)):¬kg p t ρ:=fun q=>by
 rcases q with (q|q|q|q)|q
 ·exact h q.2
 ·subst q;exact a (by decide)
 ·subst q;exact a (by decide)
 ·rw[q.1] at a;exact a (by decide)
 ·rcases zx.1 q with rfl|q
  ·exact a (by decide)
  ·rcases zx.1 q with rfl|q
   ·exact a (by decide)
   ·cases q
theorem ud.all{w':World}{own a:Nat->zn}{k wd:Nat}{W:zX}{P:yV}(h:ud lo w own k wd W P)(m:QC lo (kg p) w own w' a):ud lo w' a k wd W P:=
 h.mod m (nc (by decide) (by decide)) (nc (by decide) (by decide)) (nc (by decide) (by decide) _) (nc (by decide) (by decide)) (fun _ _ _ b=>O5 b (by simp))
def dH(b:List Nat)(n:Nat)(r:zr)(a:List Nat):Prop:=∀i (c:i<r.qp.length) (e:i<a.length),r.qp[i].pred≠r.head.pred/\r.qp[i].pred<n/\∃d:r.qp[i].pred<b.length,a[i]=b[r.qp[i].pred]
theorem Do(wd:Nat)(R:z7)(r:zr):(qV wd R r).length=r.qp.length:=by simp[qV]
theorem dH.tries{w:World}{own:Nat->zn}{g:Nat}{R:z7}{wd mr mx:Nat}{Q:xZ}{r:zr}{a:List Nat}(h:dH Q.tbs R.rows.length r a)(j:zW lo w own g R wd mr mx Q)(m:a.length=r.qp.length):∀i (f:i<(qV wd R r).length) (b:i<a.length),∃ρ,ρ≠(0,r.head.pred,0)/\yQ lo w own ρ a[i] (qV wd R r)[i]:=by
 intro i f b;obtain⟨l,c,d,k⟩:=h i (by omega) b;refine⟨(0,r.qp[i].pred,0),by simp[l],?_⟩;have e:(qV wd R r)[i]=R.rows[r.qp[i].pred]:=by
  simp only[qV,uM,fT];rw[za (by omega)];simp[c]
 rw[e,k];exact j.tries _ c d
theorem ii{mr:Nat}{R R':z7}{row:zm}{b:Bool}(h:addR mr R p row=some (R',b)):R'.rows.length=R.rows.length:=by
 obtain⟨_,_,_,_,_,a⟩:=iJ h;rcases a with⟨_,rfl,_⟩|⟨_,rfl,_⟩<;>simp
theorem rC{mr p:Nat}:∀(n:Nat) (R R':z7) (J:z9) (b:Bool),vC mr p n R J=some (R',b)->R'.rows.length=R.rows.length
 |0,R,R',J,b,h=>by simp[vC] at h
 |n+1,R,R',J,b,h=>by
  unfold vC at h;cases e:dQ n J with
  |none=>rw[e] at h;cases h
  |some f=>
   obtain⟨d,i⟩:=f;rw[e] at h;cases i with
   |false=>
    simp only[zt,ya] at h;rw[←h.1]
   |true=>
    dsimp only at h;cases a:addR mr R p (zF d.head d.ja) with
    |none=>rw[a] at h;cases h
    |some c=>
     obtain⟨g,j⟩:=c;rw[a] at h;cases j with
     |false=>
      simp only[zt,ya] at h;rw[←h.1];exact ii a
     |true=>exact(rC n g R' d b h).trans (ii a)
attribute [local go_sem] pW
theorem j0.laid{J:z9}{a:xw}(h:j0 lo w J a)(g:lo<=w.heap.size):QU lo (g4 (w.alloc (.cells (bj 0 0 0 none none 0 0 0 0).toArray 310)) w.heap.size (un J a)) w.heap.size J a/\μ w (g4 (w.alloc (.cells (bj 0 0 0 none none 0 0 0 0).toArray 310)) w.heap.size (un J a)):=by
 have b:μ w (w.alloc (.cells (bj 0 0 0 none none 0 0 0 0).toArray 310)):=(zo _ _).alloc (zg _) _;have f:=pc w 0 0 0 none none 0 0 0 0;have c:=pN f (pE J a h.hlen.1 h.jk);have e:=ri (w.alloc (.cells (bj 0 0 0 none none 0 0 0 0).toArray 310)) w.heap.size (un J a);obtain⟨j,d,_⟩:=f;exact⟨((h.below b).saveJ e (QS.box d)).join g c,b.trans (e.below (fun x i=>by simp at i;omega) (by simp))⟩
theorem He(w:World)(own:Nat->zn)(A B o k:Nat)(c:Array Value)(R R':z7)(W:zX)(P:yV)(wd mr mx:Nat)(Q:xZ)(n:Nat)(b:Bool)(h:zW lo w own A R wd mr mx Q)(Z:ud lo w own k wd W P)(l:Q6 w B c 292)(m:S6 c o W.rule P)(K:dH Q.tbs R.rows.length W.rule P.nbs)(v:lo<=w.heap.size)(hr:kJ n wd mr true R W=some (R',b)):
  Calls prog 193 #[(π A),.pointer (some ⟨B,o,none⟩),.bool true] w fun e w'=>sA lo w own A W.rule.head.pred R' b wd mr mx Q e w':=by
 have E:=hr;have C:=Q5 (LY w own k wd W.rule.head.pred B o W P _ Z (m.at l) v (Do _ _ _) (K.tries h Z.nlen));have F:=Q5 fun W0 jb s x hj O=>Fy W0 own A jb R R' _ s wd mr mx Q W.rule.head.pred n b (h.below x) hj O (by have:=x.size;omega) E;have N:=m.at l;have q:=Q5 N;have S:=Q5 v;generalize xr W.rule (W.qm.map (·.all)) (qV wd R W.rule)=J at *;generalize I:W.rule.head.pred=p at *;have M:=Q5 I;go_enter func193,ntmps193;go_upto_region 3 with (go_at_call 207;refine C.out.mono ?_;rintro e i ⟨s,rfl,a,j,f⟩;have ab:μ i (i.alloc (.cells (bj 0 0 0 none none 0 0 0 0).toArray 310)):=(by go_grown);have ac:=wI a (pc i 0 0 0 none none 0 0 0 0);have X:=pE J s a.hlen.1 a.jk;have H:=Q5 a;have V:=Q5 j;clear a j;generalize u:un J s=cs at *;have D:=Q5 u;clear u)
 have T:=yc S.out f.size;have d:=H.out.laid T;rw[D.out] at d;obtain⟨L,U⟩:=d;generalize g4 (i.alloc (.cells (bj 0 0 0 none none 0 0 0 0).toArray 310)) i.heap.size cs=Y at *;have g:=f.trans (U.mono f.size);have aa:Y.cell? ⟨B,o+2,none⟩=some (ι p):=by rw[←M.out];exact(g.cell q.out.lt).trans q.out.c2
 have z:=F.out Y _ s g L V.out;have G:=Q5 g;go_wp2_with (go_at_call 208;refine z.mono ?_;rintro e w4 ⟨rfl,r,t,y,hm⟩)
 go_ret;exact⟨rfl,r,t,y,(QC.of own G.out).trans hm⟩
end
section
open Go.Proofs.Tryz
variable {lo:Nat}
attribute [local go_sem] pW
theorem Lb(w:World)(own:Nat->zn)(rb gw o k:Nat)(c:Array Value)(R R':z7)(W:zX)(P:yV)(wd mr mx:Nat)(Q:xZ)(n:Nat)(b:Bool)(h:zW lo w own rb R wd mr mx Q)(hw:ud lo w own k wd W P)(N:Q6 w gw c 292)(O:S6 c o W.rule P)(a4:dH Q.tbs R.rows.length W.rule P.nbs)(ae:lo<=w.heap.size)(hr:kJ n wd mr false R W=some (R',b)):
  Calls prog 193 #[(π rb),.pointer (some ⟨gw,o,none⟩),.bool false] w fun e w'=>sA lo w own rb W.rule.head.pred R' b wd mr mx Q e w':=by
 have az:Hid (jA n wd mr W (W.qm.length-0) 0 R=some (R',b)):=hr;have HH:=Q5 h;have aC:=Q5 hw;have aK:=Q5 N;have aq:=Q5 O;have a9:=Q5 a4;have aN:=Q5 ae;have aR:=hw.few;obtain⟨aW,aQ,Y⟩:=zp hw.qm;have aI:=Q5 Y;have T:=O.at N;have aU:=T.lt;have aF:=T.c6;rw[Y] at aF;clear hr h hw N O a4 ae Y T;go_enter func193,ntmps193;go_upto_region 5 with fail
 go_loopw [27] (fun aL wr=>∃m:Nat,m<=W.qm.length/\aL=ι m/\∃B a C,Hid (zW lo wr a rb B wd mr mx ⟨Q.rv,Q.tbs,Q.fv,C⟩)/\Hid (QC lo (kg W.rule.head.pred) w own wr a)/\Hid (B.rows.length=R.rows.length)/\Hid (jA n wd mr W (W.qm.length-m) m B=some (R',b))) (fun i _=>W.qm.length-(intOf i).toNat)
 case atStart=>exact⟨0,zv _,rfl,R,own,Q.fvs,HH,QC.refl _ _,rfl,az⟩
 case round=>
  clear az;obtain⟨m,hm,rfl,B,a,C,H,j,ad,ay⟩:=hrel;have a6:=j.out.size;have x:=yc aN.out a6;by_cases F:m<W.qm.length
  ·have M:=Q5 (aC.out.all j.out);have aj:=Q5 (aK.out.mod j.out (nc (by decide) (by decide) _));have D:=M.out;have ak:m<P.vps.length:=by rw[D.vlen];exact F
   obtain⟨gv,aP,r,aV,q0,q1,q2,q3,q4,q5⟩:=D.viewAt m F ak;rw[aI.out] at r;simp only[Value.slice.injEq] at r;have aG:=r.1;clear r;subst aG;have X:=D.view m F ak;obtain⟨av,K,hq⟩:=X.qg.qx;rw[hq] at q1;have d:=ay.out;rw[show W.qm.length-m=(W.qm.length-(m+1))+1 from by omega] at d;unfold jA at d;rw[show W.qm.getD m ⟨⟨0,[]⟩,zi.zero,zi.zero,zi.zero⟩=W.qm[m] by simp[List.getD,F]] at d;obtain⟨a8,af,_⟩:=X.qo;have am:=Q5 fun G hb=>CP G _ _ a8 (af.below hb);have l:=(aq.out.at aj.out);have aB:=l.lt;have aS:(m:Int)<(W.qm.length:Int):=by omega
   clear af X hq D;by_cases au:W.qm[m].qo.count>0
   ·rw[zc au] at d;cases ha:vC mr W.rule.head.pred n B (xr W.rule (QP W.qm m) (qV wd B W.rule)) with
    |none=>rw[ha] at d;cases d
    |some ar=>
     obtain⟨R3,b3⟩:=ar;rw[ha] at d;have u:=rC _ _ _ _ _ ha;have aH:=Q5 (u.trans ad.out);have ap:Hid (∀G,μ wr G->Calls prog 210 #[.pointer (some ⟨gw,o,none⟩),ι m] G fun e w'=>mA lo G a W.rule.head.pred (xr W.rule (QP W.qm m) (qV wd B W.rule)) e w'):=fun G hb=>by
      have aJ:=QC.of (lo:=lo) (ok:=kg W.rule.head.pred) a hb;exact NX G a k wd W.rule.head.pred gw o m W P _ (M.out.all aJ) ((aq.out.at aj.out).below hb) (yc x hb.size) (by omega) (Do _ _ _) (dH.tries (by rw[ad.out];exact a9.out) (H.out.below hb) M.out.nlen)
     have a1:=Q5 fun G jb PJ ai hj aM=>Fy G a rb jb B R3 _ PJ wd mr mx _ W.rule.head.pred n b3 (H.out.below ai) hj aM (yc x ai.size) ha;have a7:=Q5 l.c2;clear l ha u;generalize xr W.rule (QP W.qm m) (qV wd B W.rule)=J at *;have aA:(0:Int)<(W.qm[m].qo.count:Nat):=by omega
     have A:Hid ((match (some (R3,b3):Option (z7×Bool)) with|none=>none|some (R,false)=>some (R,false)|some (R,true)=>jA n wd mr W (W.qm.length-(m+1)) (m+1) R)=some (R',b)):=d;clear d;generalize W.qm[m].qo.count=ct at *;generalize W.qm[m].lit.pred=vp at *;generalize W.qm[m].lit.qg.length=vt at *;generalize P.vps[m].bb=ac at *;generalize P.vps[m].fb=Z at *;generalize P.vps[m].ab=ab at *;generalize a3:W.rule.head.pred=p at *;have aO:=Q5 a3;clear a3;have f:μ wr (wr.alloc (.cells #[ι vp,.slice av vt K,ι wd,(π ac),(π Z),(π ab)] 301)):=(by go_grown);have g:=Q5 f;clear f;go_upto_region 9 with (first|(go_at_call 209;refine(am.out _ g.out).mono ?_;rintro e I ⟨rfl,aa⟩;obtain rfl:=aa.symm)|(go_at_call 210;refine(ap.out _ g.out).mono ?_;rintro e I ⟨PJ,rfl,s,aw,ag⟩;have V:=Q9 g.out ag;clear ag;have aD:μ I (I.alloc (.cells (bj 0 0 0 none none 0 0 0 0).toArray 310)):=(by go_grown);have aE:=wI s (pc I 0 0 0 none none 0 0 0 0);have ah:=pE J PJ s.hlen.1 s.jk;have a2:=Q5 s;have al:=Q5 aw;clear s aw;generalize an:un J PJ=cs at *;have ax:=Q5 an;clear an))
     have y:=a2.out.laid (yc x V.size);rw[ax.out] at y;obtain⟨a5,a0⟩:=y;generalize g4 (I.alloc (.cells (bj 0 0 0 none none 0 0 0 0).toArray 310)) I.heap.size cs=W3 at *;have E:=Q9 V a0;have aT:=zl E aB a7.out;have L:=a1.out W3 _ PJ E a5 al.out;have ao:=Q5 E;clear a5 a0 E a2 al ax aE ah aD a1 ap V;generalize I.heap.size=jb at *;cases b3 with
     |false=>
      have U:Hid (R3=R'/\false=b):=by have q:=A.out;simp only[zt,ya] at q;exact q
      go_wp2_with (go_at_call 208;refine L.mono ?_;rintro e w4 ⟨rfl,v,t,z,S⟩)
      go_ret;exact⟨by rw[←U.out.2];rfl,v,t,by rw[←U.out.1];exact z,by rw[aO.out];exact j.out.trans ((QC.of a ao.out).trans S)⟩
     |true=>
      have U:Hid (jA n wd mr W (W.qm.length-(m+1)) (m+1) R3=some (R',b)):=A.out;clear A;go_wp2_with (go_at_call 208;refine L.mono ?_;rintro e w4 ⟨rfl,v,t,z,S⟩)
      exact⟨⟨m+1,by omega,by go_num,R3,v,t,z,j.out.trans ((QC.of a ao.out).trans S),aH,U⟩,by simp[intOf];omega⟩
   ·rw[za au] at d;have A:=Q5 d;clear d l;have aA:¬(0:Int)<(W.qm[m].qo.count:Nat):=by omega
    generalize W.qm[m].qo.count=ct at *;generalize W.qm[m].lit.pred=vp at *;generalize W.qm[m].lit.qg.length=vt at *;generalize P.vps[m].bb=ac at *;generalize P.vps[m].fb=Z at *;generalize P.vps[m].ab=ab at *;have f:μ wr (wr.alloc (.cells #[ι vp,.slice av vt K,ι wd,(π ac),(π Z),(π ab)] 301)):=(by go_grown);have g:=Q5 f;clear f;go_wp2_with (go_at_call 209;refine(am.out _ g.out).mono ?_;rintro e I ⟨rfl,aa⟩;obtain rfl:=aa.symm)
    exact⟨⟨m+1,by omega,by go_num,B,a,C,H.out.below g.out,j.out.trans (QC.of a g.out),ad,A⟩,by simp[intOf];omega⟩
  ·obtain rfl:m=W.qm.length:=by omega
   have d:=ay.out;rw[jX] at d;simp only[jA,zt,ya] at d;have U:=Q5 d;clear d;go_wp2;go_ret;exact⟨by rw[←U.out.2];rfl,a,C,by rw[←U.out.1];exact H.out,j.out⟩
theorem J9(w:World)(own:Nat->zn)(f j o k:Nat)(c:Array Value)(R R':z7)(W:zX)(P:yV)(wd mr mx:Nat)(Q:xZ)(n:Nat)(first b:Bool)(h:zW lo w own f R wd mr mx Q)(l:ud lo w own k wd W P)(a:Q6 w j c 292)(d:S6 c o W.rule P)(g:dH Q.tbs R.rows.length W.rule P.nbs)(i:lo<=w.heap.size)(m:kJ n wd mr first R W=some (R',b)):
  Calls prog 193 #[(π f),.pointer (some ⟨j,o,none⟩),.bool first] w fun e p=>sA lo w own f W.rule.head.pred R' b wd mr mx Q e p:=by
 cases first with
 |true=>exact He w own f j o k c R R' W P wd mr mx Q n b h l a d g i m
 |false=>exact Lb w own f j o k c R R' W P wd mr mx Q n b h l a d g i m
end
section
open Go.Proofs.Tryz
variable {lo:Nat}{k wd cap:Nat}{c:Array Value}{w w':World}{own':Nat->zn}{xs:List Value}
def fD(k:Nat):TypeId->zn->Prop:=fun t ρ=>(¬Rz t/\∃i j,ρ=(k+1,i,j))∨(t=301/\ρ=(k+1,0,9))
theorem MN{i:Nat}{t:TypeId}{ρ:zn}(h:fR k i (k+1,0,9) t ρ):fD k t ρ:=by
 rcases h with⟨a,j,b⟩|h
 ·exact zf ⟨a,i,j,b⟩
 ·exact zb h
theorem lT{t:TypeId}(h:Rz t)(a:t≠301):∀ρ,¬fD k t ρ:=fun ρ q=>by
 rcases q with q|q
 ·exact q.1 h
 ·exact a q.1
theorem pd{t:TypeId}{a b c:Nat}(h:a≠k+1):¬fD k t (a,b,c):=fun q=>by
 rcases q with⟨_,i,j,q⟩|⟨_,q⟩<;>simp at q<;>omega
theorem gA{i:Nat}{ρg:zn}{t:TypeId}(h:Rz t)(a:t≠301):∀ρ,¬fR k i ρg t ρ:=fun ρ q=>by
 rcases q with q|q
 ·exact q.1 h
 ·exact a q.1
theorem zW.work{own:Nat->zn}{a:Nat}{R:z7}{mr mx:Nat}{Q:xZ}(h:zW lo w own a R wd mr mx Q)(m:QC lo (fD k) w own w' own'):zW lo w' own' a R wd mr mx Q:=
 h.mod m (lT (by decide) (by decide)) (lT (by decide) (by decide)) (lT (by decide) (by decide)) (fun _=>pd (by omega)) (fun _ _ _=>pd (by omega))
theorem OI{a:Nat}{e:TypeId}{b g n m:Nat}(h:w.ownsRow a e b (.slice (some ⟨g,0,none⟩) n cap) m xs)(l:w'.heap[g]?=w.heap[g]?):w'.ownsRow a e b (.slice (some ⟨g,0,none⟩) n cap) m xs:=by
 obtain⟨r,i⟩:=h;refine⟨r,?_⟩;rcases i with i|⟨p,d,j,f,q,s,o⟩
 ·exact zf i
 ·refine zb ⟨p,d,j,f,q,?_,o⟩;simp at f;rw[←f.1,l,f.1];exact s
theorem Ma{a:Nat}{e:TypeId}{b g n m:Nat}(h:w.ownsRow a e b (.slice (some ⟨g,0,none⟩) n cap) m xs)(d:Q6 w g c e)(j:Nat)(i:j<xs.length)(u:Value)(f:Q6 w' g (c.setIfInBounds j u) e):w'.ownsRow a e b (.slice (some ⟨g,0,none⟩) n cap) m (xs.set j u):=by
 refine OI (uZ h j i u) ?_;unfold Q6 at f d;rw[f];simp[World.setCell,Array.getElem?_modify,d]
theorem Ea(wd:Nat):∀(vs:List yA) (ps:List jB),ps.length=vs.length->(vY wd vs ps).length=6*vs.length
 |[],[],_=>rfl
 |[],_::_,h=>by simp at h
 |_::_,[],h=>by simp at h
 |v::vs,p::ps,h=>by
  have:=Ea wd vs ps (by simpa using h);simp only[vY,lV,mu,yp] at this ⊢;rw[this];simp[gz];omega
theorem Bu(wd:Nat):∀(vs:List yA) (ps:List jB) (i:Nat) (_:i<vs.length) (b:i<ps.length) (V:yA) (a:Nat),V.lit=(vs.getD i V).lit->vY wd (vs.set i V) (ps.set i ⟨ps[i].tv,ps[i].bb,a,ps[i].ab⟩)=(vY wd vs ps).set (i*6+4) ((π a))
 |[],_,i,d,_,_,_,_=>by simp at d
 |v::vs,[],i,_,b,_,_,_=>by simp at b
 |v::vs,p::ps,0,_,_,V,a,h=>by
  simp at h;simp[vY,gz,h,pt]
 |v::vs,p::ps,i+1,d,b,V,a,h=>by
  have:=Bu wd vs ps i (by simpa using d) (by simpa using b) V a (by simpa using h);simp only[vY,mL,lV,mu,nf] at this ⊢;rw[this,List.set_append,za (by simp[gz];omega)];congr 2;simp[gz];omega
def vc{α:Type}(a vs:List α)(m:Nat):List α:=a.take m++vs.drop m
theorem wy{α:Type}{a vs:List α}(h:a.length=vs.length)(m:Nat)(b:m<=vs.length):(vc a vs m).length=vs.length:=by simp[vc];omega
theorem Fg{α:Type}{a vs:List α}(h:a.length=vs.length)(m:Nat)(d:m<vs.length)(b:m<(vc a vs m).length):(vc a vs m)[m]=vs[m]:=by
 simp only[vc];rw[mt (by simp;omega)];simp[show min m a.length=m by omega]
theorem Ej{α:Type}{a vs:List α}(h:a.length=vs.length)(m:Nat)(e:m<vs.length)(b:m<a.length):(vc a vs m).set m a[m]=vc a vs (m+1):=by
 have g:=xp e;have d:a.take (m+1)=a.take m++[a[m]]:=by rw[yM b]
 have f:(a.take m).length=m:=by simp;omega
 show(a.take m++vs.drop m).set m a[m]=a.take (m+1)++vs.drop (m+1);rw[g,d,List.set_append,za (by omega),f,jX,nG,kH];rfl
theorem Db{f:Nat}{V V':yA}{a:List zm}(h:dN f wd V a=some V'):V'.lit=V.lit:=by
 obtain⟨_,_,_,_,_,_,_,_,e⟩:=Fw h;rw[e]
theorem Fa{f wd:Nat}{j:List (List zm)}:∀{vs a:List yA},dJ f wd j vs=some a->a.length=vs.length/\∀i (b:i<vs.length) (g:i<a.length),if vs[i].lit.pred<j.length then dN f wd vs[i] (j.getD vs[i].lit.pred [])=some a[i] else a[i]=vs[i]
 |[],a,h=>by
  simp[dJ] at h;subst h;exact⟨rfl,fun i h=>by simp at h⟩
 |V::vs,a,h=>by
  unfold dJ at h;split at h
  ·rename_i v n d l;simp at h;subst h;obtain⟨o,m⟩:=Fa l;refine⟨by simp[o],fun i b g=>?_⟩;match i,b,g with
   |0,_,_=>
    simp only[gG];by_cases e:V.lit.pred<j.length
    ·rw[zc e] at d ⊢;exact d
    ·rw[za e] at d ⊢;simpa using d.symm
   |i+1,b,g=>
    simp only[nf];exact m i (by simpa using b) (by simpa using g)
  ·cases h
theorem ud.renewed{own:Nat->zn}{i g d:Nat}{W:zX}{P:yV}{V':yA}(h:ud lo w own k wd W P)(s:i<W.qm.length)(A:i<P.vps.length)(o:P.vv=.slice (some ⟨g,0,none⟩) W.qm.length cap)(u:Q6 w g c 301)(x:V'.lit=W.qm[i].lit)(z:vJ lo w' own' k i V' ⟨P.vps[i].tv,P.vps[i].bb,d,P.vps[i].ab⟩)(v:Q6 w' g (c.setIfInBounds (i*6+4) ((π d))) 301)(m:QC lo (fR k i (k+1,0,9)) w own w' own'):ud lo w' own' k wd ⟨W.rule,W.qm.set i V'⟩ {P with vps:=P.vps.set i ⟨P.vps[i].tv,P.vps[i].bb,d,P.vps[i].ab⟩}:=by
 refine⟨h.rule.mod m (gA (by decide) (by decide)) (gA (by decide) (by decide)),?_,by simp[h.vlen],fun j a b=>?_,fun b f=>(m.old b (xK h.qm f)).trans (h.vrole b f),vG h.qp m (gA (by decide) (by decide)),h.nlen,by simpa using h.few⟩
 ·have p:=h.qm;dsimp only;rw[o] at p ⊢;rw[fA];have e:=Bu wd W.qm P.vps i s A V' d (by simp[List.getD,s,x]);have r:=Ea wd W.qm P.vps h.vlen;have q:=Ma p u (i*6+4) (by omega) ((π d)) v;rw[←e] at q;exact q
 ·simp only[fA] at a b;simp only[lC];by_cases e:i=j
  ·subst e;rw[zc rfl,zc rfl];exact z
  ·rw[za e,za e];refine(h.view j a b).mod m (fun q t y l=>?_) (gA (by decide) (by decide));rcases l with⟨_,B,l⟩|⟨n,l⟩
   ·simp at l;omega
   ·subst n;exact y (by decide)
def Gs(lo:Nat)(w:World)(own:Nat->zn)(k wd:Nat)(W:zX)(b:List yA)(P:yV)(e:Ending)(w':World):Prop:=e=ε (.tuple #[])/\∃own' a,ud lo w' own' k wd ⟨W.rule,b⟩ ⟨P.tv,P.pv,P.nv,P.vv,P.ntv,a,P.nbs⟩/\QC lo (fD k) w own w' own'
theorem MU(w:World)(own:Nat->zn)(rb gw o k:Nat)(c:Array Value)(R:z7)(W:zX)(f:List yA)(P:yV)(wd mr mx:Nat)(Q:xZ)(ad:Nat)(h:zW lo w own rb R wd mr mx Q)(hw:ud lo w own k wd W P)(ai:Q6 w gw c 292)(aj:S6 c o W.rule P)(au:lo<=w.heap.size)(a2:∀l∈R.qo,l.length<=1048577)(hr:dJ ad wd R.qo W.qm=some f):
  Calls prog 194 #[.pointer (some ⟨gw,o,none⟩),Q.fv] w fun e w'=>Gs lo w own k wd W f P e w':=by
 obtain⟨a4,av⟩:=Fa hr;have B:=Q5 a4;have aP:=Q5 av;have HH:=Q5 h;have aE:=Q5 hw;have aH:=Q5 ai;have ax:=Q5 aj;have aJ:=Q5 au;have aG:=Q5 a2;have aR:=hw.few;have aU:=h.few.2.1;obtain⟨aZ,x,ap⟩:=zp hw.qm;have D:=Q5 ap;obtain⟨aY,aQ,ah⟩:=zp h.qo;have a3:=Q5 ah;have ak:=aj.at ai;have aX:=ak.lt;have a0:=ak.c6;rw[ap] at a0;rw[ah];clear hr h hw ai aj au ap ak a4 av a2 ah;go_enter func194,ntmps194;go_upto_region 1 with fail
 go_loopw [11] (fun aL wr=>∃m:Nat,m<=W.qm.length/\aL=ι m/\∃d a,Hid (ud lo wr d k wd ⟨W.rule,vc f W.qm m⟩ ⟨P.tv,P.pv,P.nv,P.vv,P.ntv,a,P.nbs⟩)/\Hid (QC lo (fD k) w own wr d)) (fun i _=>W.qm.length-(intOf i).toNat)
 case atStart=>exact⟨0,zv _,rfl,own,P.vps,aE.out,QC.refl _ _⟩
 case round=>
  obtain⟨m,hm,rfl,d,a,G,A⟩:=hrel;have aA:=A.out.size;have a5:=yc aJ.out aA;by_cases K:m<W.qm.length
  ·have I:=G.out;have u:m<(vc f W.qm m).length:=by rw[wy B.out m hm];exact K
   have ay:m<f.length:=by rw[B.out];exact K
   have v:=Fg B.out m K u;have ab:=Ej B.out m K ay;have aa:m<a.length:=by have:=I.vlen;dsimp only at this;omega
   obtain⟨gv,aO,r,F,q0,q1,q2,q3,q4,q5⟩:=I.viewAt m u aa;dsimp only at r q0 q1 q2 q3 q4 q5;rw[D.out] at r;simp only[Value.slice.injEq] at r;have al:=r.1;clear r;subst al;obtain⟨M,p,hq⟩:=(I.view m u aa).qg.qx;dsimp only at hq;rw[hq] at q1;rw[v] at q0 q1;have aS:(m:Int)<(W.qm.length:Int):=by omega
   have af:=Q5 (aH.out.mod A.out (lT (by decide) (by decide) _));have a6:wr.cell? ⟨gw,o+6,none⟩=some (.slice (some ⟨gv,0,none⟩) W.qm.length x):=by rw[←D.out];exact(ax.out.at af.out).c6
   have aD:=af.out.lt;have j:=aP.out m K ay;have aV:¬(W.qm[m].lit.pred:Int)<0:=by omega
   by_cases J:W.qm[m].lit.pred<R.qo.length
   ·rw[zc J] at j;have aN:=Q5 (HH.out.work A.out);have E:=aN.out;have a9:W.qm[m].lit.pred<Q.fvs.length:=by rw[E.flen];exact J
    obtain⟨gf,aC,z,_,a7,aw⟩:=yv E.qo (by omega);rw[a3.out] at z;simp only[Value.slice.injEq] at z;have al:=z.1;clear z;subst al;have y:=aw W.qm[m].lit.pred _ (yq a9);have X:=(E.jl _ J a9).1;obtain⟨ar,H,ac⟩:=zp X.1;have ao:R.qo[W.qm[m].lit.pred].length<=1048577:=aG.out _ (zs _);rw[show R.qo.getD W.qm[m].lit.pred []=R.qo[W.qm[m].lit.pred] by simp[List.getD,J]] at j;have a8:Hid (∀L,μ wr L->Q6 L wr.heap.size #[ι (W.qm[m].lit.pred:Nat),.slice M W.qm[m].lit.qg.length p,ι wd,.pointer (some ⟨a[m].bb,0,none⟩),.pointer (some ⟨a[m].fb,0,none⟩),.pointer (some ⟨a[m].ab,0,none⟩)] 301->Calls prog 206 #[.pointer (some ⟨gv,m*6,none⟩),.slice ar R.qo[W.qm[m].lit.pred].length H] L fun e w'=>e=ε (.tuple #[])/\w'.cell? ⟨gw,o+6,none⟩=some (.slice (some ⟨gv,0,none⟩) W.qm.length x)/\w'.cell? ⟨wr.heap.size,0,none⟩=some (ι (W.qm[m].lit.pred:Nat))/\w'.cell? ⟨gf,W.qm[m].lit.pred,none⟩=some (.slice ar R.qo[W.qm[m].lit.pred].length H)/\Hid (∃own' O,ud lo w' own' k wd ⟨W.rule,vc f W.qm (m+1)⟩ ⟨P.tv,P.pv,P.nv,P.vv,P.ntv,O,P.nbs⟩/\QC lo (fD k) w own w' own')):=fun L t N=>by
     have az:QC lo (fun _ _=>False) wr d L (ext d wr.heap.size (0,0,5)):=QC.extNew d (0,0,5) t;have Y:=G.out.mod az (fun _=>id) (fun _=>id) id (fun _=>id) (fun _ _ _ _=>id);have a1:=af.out.below t;have Z:=Y.qm;dsimp only at Z;rw[D.out] at Z;obtain⟨cg,ag⟩:=uW Z rfl;have aq:=Y.vrole gv (by dsimp only;rw[D.out];rfl);obtain⟨n,_⟩:=ag.rules;obtain⟨cf,ae⟩:=uW (zB E.qo t) (b:=gf) (by rw[a3.out];rfl);have aF:VC cg (m*6) wd W.qm[m].lit.pred a[m].tv a[m].bb a[m].fb a[m].ab:=⟨(n _).symm.trans ((t.cell F).trans q0),(n _).symm.trans ((t.cell F).trans (by rw[q1,hq,v])),(n _).symm.trans ((t.cell F).trans q2),(n _).symm.trans ((t.cell F).trans q3),(n _).symm.trans ((t.cell F).trans q4),(n _).symm.trans ((t.cell F).trans q5)⟩;have an:=Y.view m u aa;dsimp only at an;rw[v] at an;have q:=Fj L _ k m gv (m*6) wd ad cg W.qm[m] f[m] a[m] _ _ ag aF an (X.below' t) (yW Z rfl) (yc a5 t.size) E.small.1 ao j;rw[ac] at q;refine q.mono ?_;rintro e w' ⟨rfl,aW,own',aK,aI,C⟩;rw[aq] at C;have am:=Y.renewed (W:=⟨W.rule,vc f W.qm m⟩) u aa (cap:=x) (by dsimp only;rw[D.out,wy B.out m hm]) ag (by dsimp only;rw[v];exact Db j) aK aI C;dsimp only at am;rw[ab] at am;have c1:=a1.mod C (gA (by decide) (by decide) _);have c2:=N.mod C (fun q=>by rcases q with⟨q,_⟩|⟨_,q⟩;exact q (by decide);simp[ext] at q);have c3:=ae.mod C (gA (by decide) (by decide) _);refine⟨rfl,?_,?_,?_,own',_,am,(A.out.trans (az.more fun _ _ q=>q.elim)).trans (C.more fun _ _ q=>MN q)⟩
     ·rw[←D.out];exact(ax.out.at c1).c6
     ·rw[c2.rules.1];rfl
     ·rw[c3.rules.1,←ae.rules.1,t.cell a7,y,ac]
    rw[ac] at y;have aT:=ao;clear ac X aw E j hq I ao v ab u;generalize R.qo[W.qm[m].lit.pred].length=rl at *;have aM:(W.qm[m].lit.pred:Int)<(R.qo.length:Int):=by omega
    generalize W.qm[m].lit.pred=vp at *;generalize W.qm[m].lit.qg.length=vt at *;generalize a[m].bb=U at *;generalize a[m].fb=S at *;generalize a[m].ab=T at *;go_upto_region 4 with fail
    have g:μ wr (wr.alloc (.cells #[ι vp,.slice M vt p,ι wd,(π U),(π S),(π T)] 301)):=(by go_grown);have N:=Q6.new wr #[ι vp,.slice M vt p,ι wd,(π U),(π S),(π T)] 301;generalize aB:wr.alloc (.cells #[ι vp,.slice M vt p,ι wd,(π U),(π S),(π T)] 301)=W1 at *;clear aB;have x1:=zl g aD a6;have x2:=zl g a7 y;have x3:W1.cell? ⟨wr.heap.size,0,none⟩=some (ι vp):=by rw[N.rules.1];rfl
    clear a0 a6 y q0 q1 q2 q3 q4 q5;go_region_held3 (fun w'=>w'.cell? ⟨gw,o+6,none⟩=some (.slice (some ⟨gv,0,none⟩) W.qm.length x)/\w'.cell? ⟨wr.heap.size,0,none⟩=some (ι vp)/\w'.cell? ⟨gf,vp,none⟩=some (.slice ar rl H)) (first|go_keep|(go_simp;done)) (go_at_call 206;refine(a8.out _ (by exact(zJ g 1)) (Q6.drew N)).mono ?_;rintro e w2 ⟨rfl,y1,y2,y3,HX⟩)
    clear x1 x2 x3 y1 y2 y3 N g a8;go_wp2;obtain⟨own',O,z1,z2⟩:=HX.out;exact⟨⟨m+1,by omega,by go_num,own',O,z1,z2⟩,by simp[intOf];omega⟩
   ·rw[za J] at j;have s:vc f W.qm (m+1)=vc f W.qm m:=by rw[←ab,j,←v,rc]
    have V:Hid (∀L,μ wr L->ud lo L d k wd ⟨W.rule,vc f W.qm (m+1)⟩ ⟨P.tv,P.pv,P.nv,P.vv,P.ntv,a,P.nbs⟩/\QC lo (fD k) w own L d):=fun L t=>by
     rw[s];exact⟨G.out.mod (QC.of (ok:=fun _ _=>False) d t) (fun _=>id) (fun _=>id) id (fun _=>id) (fun _ _ _ _=>id),A.out.trans (QC.of d t)⟩
    have aM:¬(W.qm[m].lit.pred:Int)<(R.qo.length:Int):=by omega
    clear j hq I v ab u s;generalize W.qm[m].lit.pred=vp at *;generalize W.qm[m].lit.qg.length=vt at *;generalize a[m].bb=U at *;generalize a[m].fb=S at *;generalize a[m].ab=T at *;have g:μ wr (wr.alloc (.cells #[ι vp,.slice M vt p,ι wd,(π U),(π S),(π T)] 301)):=(by go_grown);go_wp2;obtain⟨z1,z2⟩:=V.out _ g;exact⟨⟨m+1,by omega,by go_num,d,a,z1,z2⟩,by simp[intOf];omega⟩
  ·obtain rfl:m=W.qm.length:=by omega
   have s:vc f W.qm W.qm.length=f:=by simp[vc,←B.out]
   have V:Hid (ud lo wr d k wd ⟨W.rule,f⟩ ⟨P.tv,P.pv,P.nv,P.vv,P.ntv,a,P.nbs⟩):=by rw[←s];exact G.out
   clear G s;go_wp2
   (try simp only[Exit.inBlock,Exit.then])
   exact zL (results_none rfl _ _ _) rfl ⟨rfl,d,a,V.out,A.out⟩
end
section
variable {lo:Nat}{w w':World}{own':Nat->zn}{wd:Nat}{wv:Value}{Ws:List zX}{Ps:List yV}
def gH(Ws:List zX)(Ps:List yV):List Value:=(List.zipWith (fun W P=>qX W.rule P) Ws Ps).flatten
structure uk (lo:Nat) (w:World) (own:Nat->zn) (wd:Nat) (wv:Value) (Ws:List zX) (Ps:List yV):Prop where
 arr:w.ownsRow lo 292 8 wv Ws.length (gH Ws Ps)
 plen:Ps.length=Ws.length
 work:∀k (_:k<Ws.length) (_:k<Ps.length),ud lo w own k wd Ws[k] Ps[k]
 few:Ws.length<=1000
theorem Ao:∀(Ws:List zX) (Ps:List yV) (k:Nat) (a:k<Ws.length) (b:k<Ps.length) (j:Nat),j<8->(gH Ws Ps)[k*8+j]?=(qX Ws[k].rule Ps[k])[j]?
 |[],_,k,a,_,_,_=>by simp at a
 |v::vs,[],k,_,b,_,_=>by simp at b
 |v::vs,p::d,0,_,_,j,c=>by
  simp only[gH,lV,mu,gG];rw[wa (by simp[qX];omega)];simp
 |v::vs,p::d,k+1,a,b,j,c=>by
  have:=Ao vs d k (by simpa using a) (by simpa using b) j c;simp only[gH,lV,mu,nf] at this ⊢;rw[gX (by simp[qX];omega),←this];congr 1;simp[qX];omega
theorem DD:∀(Ws:List zX) (Ps:List yV) (k:Nat) (c:k<Ws.length) (b:k<Ps.length) (W':zX) (a:yV),qX W'.rule a=qX Ws[k].rule Ps[k]->gH (Ws.set k W') (Ps.set k a)=gH Ws Ps
 |[],_,k,c,_,_,_,_=>by simp at c
 |v::vs,[],k,_,b,_,_,_=>by simp at b
 |v::vs,p::d,0,_,_,W',a,h=>by
  simp only[gG] at h;simp[gH,h]
 |v::vs,p::d,k+1,c,b,W',a,h=>by
  have:=DD vs d k (by simpa using c) (by simpa using b) W' a (by simpa using h);simp only[gH,mL,lV,mu] at this ⊢;rw[this]
theorem uk.at{w:World}{own:Nat->zn}{wd:Nat}{wv:Value}{Ws:List zX}{Ps:List yV}(h:uk lo w own wd wv Ws Ps)(k:Nat)(n:k<Ws.length)(o:k<Ps.length):∃d a c,wv=.slice (some ⟨d,0,none⟩) Ws.length a/\lo<=d/\Q6 w d c 292/\S6 c (k*8) Ws[k].rule Ps[k]:=by
 obtain⟨d,a,g,m,r,i⟩:=yv h.arr (by omega);obtain⟨c,f⟩:=uW h.arr (b:=d) (by rw[g];rfl);have e:∀j,j<8->c[k*8+j]?=(qX Ws[k].rule Ps[k])[j]?:=fun j l=>by
  have q:=Ao Ws Ps k n o j l;obtain⟨u,p⟩:∃u,(qX Ws[k].rule Ps[k])[j]?=some u:=⟨_,yq (show j<(qX Ws[k].rule Ps[k]).length by simp[qX];omega)⟩;rw[p] at q ⊢;rw[←f.rules.1];exact i _ _ q
 exact⟨d,a,c,g,m,f,e 0 (by omega),e 1 (by omega),e 2 (by omega),e 3 (by omega),e 4 (by omega),e 5 (by omega),e 6 (by omega),e 7 (by omega)⟩
theorem uk.all{w w':World}{own own':Nat->zn}{wd p:Nat}{wv:Value}{Ws:List zX}{Ps:List yV}(h:uk lo w own wd wv Ws Ps)(m:QC lo (kg p) w own w' own'):uk lo w' own' wd wv Ws Ps:=
 ⟨vG h.arr m (nc (by decide) (by decide)),h.plen,fun k a b=>(h.work k a b).all m,h.few⟩
theorem uk.types{own:Nat->zn}{l:List TypeId}(h:uk lo w own wd wv Ws Ps)(m:QC lo (gd l) w own w' own')(e:∀t∈l,Rz t/\t∉[292,284,204,301,162]):uk lo w' own' wd wv Ws Ps:=by
 have c:∀t,t∈[292,284,204,301,162]->∀ρ,¬gd l t ρ:=fun t d ρ q=>(e t q).2 d;exact⟨vG h.arr m (c _ (by decide)),h.plen,fun k a b=>(h.work k a b).mod m (c _ (by decide)) (c _ (by decide)) (c _ (by decide) _) (c _ (by decide)) (fun _ _ _ d q=>d (e _ q).1),h.few⟩
theorem uk.below{own:Nat->zn}(h:uk lo w own wd wv Ws Ps)(a:μ w w'):uk lo w' own wd wv Ws Ps:=h.types (l:=[]) (QC.of own a) (by simp)
theorem uk.renewed{own:Nat->zn}{k:Nat}{d:List yA}{c:List jB}(h:uk lo w own wd wv Ws Ps)(g:k<Ws.length)(i:k<Ps.length)(f:ud lo w' own' k wd ⟨Ws[k].rule,d⟩ ⟨Ps[k].tv,Ps[k].pv,Ps[k].nv,Ps[k].vv,Ps[k].ntv,c,Ps[k].nbs⟩)(m:QC lo (fD k) w own w' own'):uk lo w' own' wd wv (Ws.set k ⟨Ws[k].rule,d⟩) (Ps.set k ⟨Ps[k].tv,Ps[k].pv,Ps[k].nv,Ps[k].vv,Ps[k].ntv,c,Ps[k].nbs⟩):=by
 refine⟨?_,by simp[h.plen],fun j a b=>?_,by simpa using h.few⟩
 ·rw[DD _ _ _ g i _ _ (by simp[qX]),fA];exact vG h.arr m (lT (by decide) (by decide))
 ·simp only[fA] at a b;simp only[lC];by_cases e:k=j
  ·subst e;rw[zc rfl,zc rfl];exact f
  ·rw[za e,za e];exact(h.work j a b).mod m (lT (by decide) (by decide)) (lT (by decide) (by decide)) (pd (by omega)) (lT (by decide) (by decide)) (fun _ _ _ _=>pd (by omega))
theorem D3{f wd:Nat}{g:List (List zm)}:∀{b a:List zX},g7 f wd g b=some a->a.length=b.length/\∀i (c:i<b.length) (d:i<a.length),∃vs,dJ f wd g b[i].qm=some vs/\a[i]=⟨b[i].rule,vs⟩
 |[],a,h=>by
  simp[g7] at h;subst h;exact⟨rfl,fun i h=>by simp at h⟩
 |W::b,a,h=>by
  unfold g7 at h;split at h
  ·rename_i v k j e;simp at h;subst h;obtain⟨m,l⟩:=D3 e;refine⟨by simp[m],fun i c d=>?_⟩;match i,c,d with
   |0,_,_=>exact⟨v,by simpa using j,rfl⟩
   |i+1,c,d=>
    simp only[nf];exact l i (by simpa using c) (by simpa using d)
  ·cases h
def jJ(R:z7):Prop:=∀l∈R.qo,l.length<=1048577
theorem jJ.clear(R:z7):jJ (qs R):=fun l a=>by simp[qs] at a;simp[a.2]
theorem jJ.add{mr:Nat}{R R':z7}{p:Nat}{row:zm}{b:Bool}(h:jJ R)(d:addR mr R p row=some (R',b)):jJ R':=by
 obtain⟨_,_,_,_,e,c⟩:=iJ d;rcases c with⟨_,rfl,_⟩|⟨_,rfl,_⟩
 ·exact h
 ·intro l a;rcases p3 a with a|rfl
  ·exact h l a
  ·simp only[yp,xd,dD];omega
theorem jJ.addAll{mr p:Nat}:∀(n:Nat) (R R':z7) (J:z9) (b:Bool),jJ R->vC mr p n R J=some (R',b)->jJ R'
 |0,R,R',J,b,_,h=>by simp[vC] at h
 |n+1,R,R',J,b,d,h=>by
  unfold vC at h;cases f:dQ n J with
  |none=>rw[f] at h;cases h
  |some g=>
   obtain⟨e,j⟩:=g;rw[f] at h;cases j with
   |false=>
    simp only[zt,ya] at h;rw[←h.1];exact d
   |true=>
    dsimp only at h;cases a:addR mr R p (zF e.head e.ja) with
    |none=>rw[a] at h;cases h
    |some c=>
     obtain⟨i,k⟩:=c;rw[a] at h;cases k with
     |false=>
      simp only[zt,ya] at h;rw[←h.1];exact d.add a
     |true=>exact jJ.addAll n i R' e b (d.add a) h
theorem ou{f wd mr:Nat}{W:zX}:∀(n i:Nat) (R R':z7) (b:Bool),jA f wd mr W n i R=some (R',b)->(jJ R->jJ R')/\R'.rows.length=R.rows.length
 |0,i,R,R',b,h=>by simp[jA] at h;rw[←h.1];exact⟨id,rfl⟩
 |n+1,i,R,R',b,h=>by
  unfold jA at h;split at h
  ·split at h
   ·cases h
   ·rename_i d a;simp only[zt,ya] at h;rw[←h.1];exact⟨fun c=>c.addAll _ _ _ _ _ a,rC _ _ _ _ _ a⟩
   ·rename_i d a;obtain⟨g,e⟩:=ou n (i+1) d R' b h;exact⟨fun c=>g (c.addAll _ _ _ _ _ a),e.trans (rC _ _ _ _ _ a)⟩
  ·exact ou n (i+1) R R' b h
theorem Ez{f mr:Nat}{first:Bool}{R R':z7}{W:zX}{b:Bool}(h:kJ f wd mr first R W=some (R',b)):(jJ R->jJ R')/\R'.rows.length=R.rows.length:=by
 unfold kJ at h;split at h
 ·exact⟨fun a=>a.addAll _ _ _ _ _ h,rC _ _ _ _ _ h⟩
 ·exact ou _ _ _ _ _ h
def uY:TypeId->zn->Prop:=fun t ρ=>(¬Rz t/\ρ≠(0,0,7))∨t∈[214,161,165,310,323,301]
theorem oS{p:Nat}{t:TypeId}{ρ:zn}(h:kg p t ρ):uY t ρ:=by
 rcases h with (h|h|h|h)|h
 ·exact zf ⟨h.1,by rw[h.2];simp⟩
 ·subst h;exact zb (by decide)
 ·subst h;exact zb (by decide)
 ·rw[h.1];exact zb (by decide)
 ·rcases zx.1 h with rfl|h
  ·exact zb (by decide)
  ·rcases zx.1 h with rfl|h
   ·exact zb (by decide)
   ·cases h
theorem BZ{k:Nat}{t:TypeId}{ρ:zn}(h:fD k t ρ):uY t ρ:=by
 rcases h with⟨a,i,j,rfl⟩|⟨rfl,_⟩
 ·exact zf ⟨a,by simp⟩
 ·exact zb (by decide)
theorem DS{t:TypeId}{ρ:zn}(h:gd [214] t ρ):uY t ρ:=zb (by rw[xF.1 h];decide)
end
section
open Go.Proofs.Tryz
variable {lo:Nat}
def kC(a:List Nat)(n:Nat)(b:List zX)(c:List yV):Prop:=∀k (_:k<b.length) (_:k<c.length),dH a n b[k].rule c[k].nbs
theorem kC.set{c:List Nat}{n k:Nat}{f:List zX}{d:List yV}(h:kC c n f d)(m:k<f.length)(o:k<d.length)(g:List yA)(i:yV)(l:i.nbs=d[k].nbs):kC c n (f.set k ⟨f[k].rule,g⟩) (d.set k i):=by
 intro j a b;simp only[fA] at a b;simp only[lC];by_cases e:k=j
 ·subst e;rw[zc rfl,zc rfl,l];exact h k a b
 ·rw[za e,za e];exact h j a b
def NO(lo:Nat)(w:World)(own:Nat->zn)(h:Nat)(i:Value)(R R':z7)(c:List zX)(wd mr mx:Nat)(Q:xZ)(b:Bool)(e:Ending)(w':World):Prop:=
 e=ε (.bool b)/\∃a g d f,zW lo w' a h R' wd mr mx ⟨Q.rv,Q.tbs,g,d⟩/\uk lo w' a wd i c f/\kC Q.tbs R.rows.length c f/\R'.rows.length=R.rows.length/\QC lo uY w own w' a
theorem GZ(w:World)(own:Nat->zn)(B:Nat)(wv:Value)(R R':z7)(a d:List zX)(Z:List yV)(wd mr mx:Nat)(Q:xZ)(g:Nat)(first b:Bool)(h:zW lo w own B R wd mr mx Q)(hw:uk lo w own wd wv a Z)(a8:kC Q.tbs R.rows.length a Z)(W:lo<=w.heap.size)(aN:R.qw<1048576)(P:nE g wd mr first a R=some (R',d,b)):
  Calls prog 165 #[(π B),wv,.bool first] w fun e O=>NO lo w own B wv R R' d wd mr mx Q b e O:=by
 obtain⟨G,b1,hA,M⟩:∃G b1,ky g wd mr first a (qs {R with qw:=R.qw+1})=some (G,b1)/\(b1=false/\G=R'/\a=d/\false=b∨b1=true/\G=R'/\g7 g wd G.qo a=some d/\true=b):=by
  unfold nE at P;split at P
  ·cases P
  ·rename_i G hA;simp only[zt,ya] at P;exact⟨G,false,hA,zf ⟨rfl,P⟩⟩
  ·rename_i G hA;rw[vN] at P;obtain⟨aL,h1,h2⟩:=P;simp only[ya] at h2;obtain⟨h3,h4,h5⟩:=h2;subst h4;exact⟨G,true,hA,zb ⟨rfl,h3,h1,h5⟩⟩
 obtain⟨hl,hf,h0,h1,h2,h3,h4,h5,h6,h7⟩:=h.at;have a0:ze [B] w (w.setCell ⟨B,2,none⟩ (ι ((R.qw:Int)+1))):=ze.set _ _ _ _;have ay:QC lo (gd [214]) w own (w.setCell ⟨B,2,none⟩ (ι ((R.qw:Int)+1))) own:=QC.set own h.box h.low (xF.2 rfl) _ _;have x:=h.box.set 2 (ι ((R.qw:Int)+1));have a1:=h.rebox (R':={R with qw:=R.qw+1}) a0 (by simpa using x) rfl rfl ⟨h.few.2.2.1,by show R.qw+1<=1048576;omega⟩;have am:=Q5 (RG _ own B _ wd mr mx Q a1 (by simpa [World.setCell] using W));have a2:=Q5 ay;have aw:=Q5 hw;have X:=Q5 a8;have a6:=Q5 W;have HE:=Q5 M;have HA:Hid (ky g wd mr first (a.drop 0) (qs {R with qw:=R.qw+1})=some (G,b1)):=hA;have aK:=hw.few;obtain⟨ai,C,aI⟩:=zp hw.arr;subst aI;clear P h hw a8 W M hA a1 ay a0 x h0 h1 h3 h4 h5 h6 h7;go_enter func165,ntmps165;go_upto_region 4 with (go_at_call 120;refine am.out.mono ?_;rintro e w2 ⟨rfl,fv,aF,a5,Y⟩)
 have ab:=a2.out.trans Y;have ap:=Q5 (aw.out.types ab (by decide));have a3:=Q5 a5;have a9:Hid (QC lo uY w own w2 own):=ab.more fun _ _ q=>DS q;clear ab Y a5 am a2;go_loopw [22] (fun aC wr=>∃m:Nat,m<=a.length/\aC=ι m/\∃v o H,Hid (zW lo wr o B v wd mr mx ⟨Q.rv,Q.tbs,fv,H⟩)/\Hid (uk lo wr o wd (.slice ai a.length C) a Z)/\Hid (QC lo uY w own wr o)/\Hid (v.rows.length=R.rows.length)/\Hid (jJ v)/\Hid (ky g wd mr first (a.drop m) v=some (G,b1))) (fun i _=>a.length-(intOf i).toNat)
 case atStart=>exact⟨0,zv _,rfl,_,own,aF,a3,ap,a9,rfl,jJ.clear _,HA⟩
 case round=>
  clear HA a3 ap a9;obtain⟨m,Y,rfl,v,o,H,u,k,t,ah,al,ae⟩:=hrel;have U:=t.out.size;have y:=yc a6.out U;by_cases l:m<a.length
  ·have s:m<Z.length:=by rw[aw.out.plen];exact l
   obtain⟨gw,ax,c,T,_,x,I⟩:=k.out.at m l s;simp only[Value.slice.injEq] at T;have ac:=T.1;clear T;subst ac;have z:=ae.out;rw[xp l] at z;unfold ky at z;cases ha:kJ g wd mr first v a[m] with
   |none=>rw[ha] at z;cases z
   |some ar=>
    obtain⟨R3,b3⟩:=ar;rw[ha] at z;have af:Hid (jJ R3/\R3.rows.length=R.rows.length):=⟨(Ez ha).1 al.out,(Ez ha).2.trans ah.out⟩;have au:=Q5 (J9 wr o B gw (m*8) m c v R3 a[m] Z[m] wd mr mx _ g first b3 u.out (k.out.work m l s) x I (by rw[ah.out];exact X.out m l s) y ha);have aq:(m:Int)<(a.length:Int):=by omega
    generalize a[m].rule.head.pred=p at *;clear ha x I;cases b3 with
    |false=>
     simp only[zt,ya] at z;have HQ:=Q5 z;clear z;go_wp2_with (go_at_call 193;refine au.out.mono ?_;rintro e w4 ⟨rfl,f,K,r,J⟩)
     go_ret;have M:=HE.out;rw[←HQ.out.2,←HQ.out.1] at M;rcases M with⟨_,rfl,rfl,rfl⟩|⟨hx,_⟩
     ·exact⟨rfl,f,fv,K,Z,r,k.out.all J,X.out,af.out.2,t.out.trans (J.more fun _ _ q=>oS q)⟩
     ·cases hx
    |true=>
     have HQ:Hid (ky g wd mr first (a.drop (m+1)) R3=some (G,b1)):=z;clear z;go_wp2_with (go_at_call 193;refine au.out.mono ?_;rintro e w4 ⟨rfl,f,K,r,J⟩)
     exact⟨⟨m+1,by omega,by go_num,R3,f,K,r,k.out.all J,t.out.trans (J.more fun _ _ q=>oS q),af.out.2,af.out.1,HQ⟩,by simp[intOf];omega⟩
  ·obtain rfl:m=a.length:=by omega
   have z:=ae.out;rw[List.drop_length] at z;simp only[ky,zt,ya] at z;have M:=HE.out;rw[←z.2,←z.1] at M;have N:Hid (v=R'/\g7 g wd v.qo a=some d/\true=b):=by
    rcases M with⟨hx,_⟩|⟨_,hx⟩
    ·cases hx
    ·exact hx
   clear z M ae HE;go_upto_region 10 with fail
   obtain⟨a4,ao⟩:=D3 N.out.2.1;have E:=Q5 a4;have aH:=Q5 ao;clear a4 ao l Y;obtain⟨F,n,av⟩:=zp u.out.qo;dsimp only at av;subst av;have aM:=Q5 y;clear U y;generalize aG:wr=w5 at *;clear aG;go_loopw [35] (fun aJ wr=>∃m:Nat,m<=a.length/\aJ=ι m/\∃j D,Hid (zW lo wr j B v wd mr mx ⟨Q.rv,Q.tbs,.slice F v.qo.length n,H⟩)/\Hid (uk lo wr j wd (.slice ai a.length C) (vc d a m) D)/\Hid (kC Q.tbs R.rows.length (vc d a m) D)/\Hid (QC lo uY w own wr j)) (fun i _=>a.length-(intOf i).toNat)
   case atStart=>exact⟨0,zv _,rfl,o,Z,u,k,X,t⟩
   case round=>
    clear u k t;obtain⟨m,Y,rfl,j,D,u,k,V,t⟩:=hrel;have y:=yc a6.out t.out.size;by_cases l:m<a.length
    ·have A:m<(vc d a m).length:=by rw[wy E.out m Y];exact l
     have aa:m<d.length:=by rw[E.out];exact l
     have ag:=Fg E.out m l A;have an:=Ej E.out m l aa;have s:m<D.length:=by rw[k.out.plen];exact A
     obtain⟨gw,ax,c,T,_,x,I⟩:=k.out.at m A s;rw[wy E.out m Y] at T;simp only[Value.slice.injEq] at T;have ac:=T.1;clear T;subst ac;obtain⟨vs,aj,az⟩:=aH.out m l aa;have aq:(m:Int)<(a.length:Int):=by omega
     have aB:=u.out.at;obtain⟨hl,hf,h0,h1,aD,h3,h4,h5,h6,h7⟩:=aB;have aA:Hid (∀W0,μ wr W0->Calls prog 194 #[.pointer (some ⟨gw,m*8,none⟩),.slice F v.qo.length n] W0 fun e O=>e=ε (.tuple #[])/\O.cell? ⟨B,7,none⟩=some (.slice F v.qo.length n)/\Hid (∃f L,zW lo O f B v wd mr mx ⟨Q.rv,Q.tbs,.slice F v.qo.length n,H⟩/\uk lo O f wd (.slice (some ⟨gw,0,none⟩) a.length C) (vc d a (m+1)) L/\kC Q.tbs R.rows.length (vc d a (m+1)) L/\QC lo uY w own O f)):=fun W0 hb=>by
      have ak:=k.out.below hb;have q:=MU W0 j B gw (m*8) m c v (vc d a m)[m] vs D[m] wd mr mx _ g (u.out.below hb) (ak.work m A s) (x.below hb) I (yc y hb.size) al.out (by rw[ag];exact aj);refine q.mono ?_;rintro e O ⟨rfl,f,a7,aE,ad⟩;have r:=(u.out.below hb).work ad;have r1:=ak.renewed A s aE ad;have r2:=V.out.set A s vs ⟨D[m].tv,D[m].pv,D[m].nv,D[m].vv,D[m].ntv,a7,D[m].nbs⟩ rfl;have e2:(⟨(vc d a m)[m].rule,vs⟩:zX)=d[m]:=by rw[ag,az]
      rw[e2,an] at r1 r2;exact⟨rfl,r.at.2.2.2.2.2.2.2.2.2,f,_,r,r1,r2,(t.out.trans (QC.of j hb)).trans (ad.more fun _ _ q=>BZ q)⟩
     clear x I aj az ag an A aa s h0 h1 aD h3 h4 h5 h6;have x7:wr.cell? ⟨B,7,none⟩=some (.slice F v.qo.length n):=h7;clear h7;go_upto_region 12 with fail
     go_region_held3 (fun O=>O.cell? ⟨B,7,none⟩=some (.slice F v.qo.length n)) (first|go_keep|(go_simp;done)) (go_at_call 194;refine(aA.out _ (by exact(zJ (zo _ _) 1))).mono ?_;rintro e w2 ⟨rfl,y1,HX⟩)
     clear x7 y1 aA;go_wp2;obtain⟨f,L,z1,z2,z3,z4⟩:=HX.out;exact⟨⟨m+1,by omega,by go_num,f,L,z1,z2,z3,z4⟩,by simp[intOf];omega⟩
    ·obtain rfl:m=a.length:=by omega
     have S:vc d a a.length=d:=by simp[vc,←E.out]
     have HF:Hid (uk lo wr j wd (.slice ai a.length C) d D/\kC Q.tbs R.rows.length d D):=by rw[←S];exact⟨k.out,V.out⟩
     clear S k V;go_wp2;go_ret;exact⟨by rw[←N.out.2.2];rfl,j,_,H,D,by rw[←N.out.1];exact u.out,HF.out.1,HF.out.2,by rw[←N.out.1];exact ah.out,t.out⟩
end
section
variable {lo:Nat}{k wd t5 t3:Nat}{w w' w0:World}{own' own0:Nat->zn}{r:zr}{P:yV}{vs:List yA}
def lg(k:Nat):TypeId->zn->Prop:=fun t ρ=>fD k t ρ∨(t=301/\ρ=(0,0,5))
theorem Mc{i:Nat}{t:TypeId}{ρ:zn}(h:fR k i (0,0,5) t ρ):lg k t ρ:=by
 rcases h with⟨a,j,b⟩|h
 ·exact zf (zf ⟨a,i,j,b⟩)
 ·exact zb h
theorem ni{t:TypeId}(h:Rz t)(a:t≠301):∀ρ,¬lg k t ρ:=fun ρ q=>by
 rcases q with q|q
 ·exact lT h a ρ q
 ·exact a q.1
theorem ox{t:TypeId}{a b c:Nat}(h:a≠k+1)(d:c≠5):¬lg k t (a,b,c):=fun q=>by
 rcases q with q|⟨_,q⟩
 ·exact pd h q
 ·simp at q;omega
theorem Mb{t:TypeId}{ρ:zn}(h:lg k t ρ):uY t ρ:=by
 rcases h with h|⟨rfl,_⟩
 ·exact BZ h
 ·exact zb (by decide)
theorem zW.make{own:Nat->zn}{a:Nat}{R:z7}{mr mx:Nat}{Q:xZ}(h:zW lo w own a R wd mr mx Q)(m:QC lo (lg k) w own w' own'):zW lo w' own' a R wd mr mx Q:=
 h.mod m (ni (by decide) (by decide)) (ni (by decide) (by decide)) (ni (by decide) (by decide)) (fun _=>ox (by omega) (by omega)) (fun _ _ _=>ox (by omega) (by omega))
theorem QC.newer{ok:TypeId->zn->Prop}{w wr w':World}{own a:Nat->zn}{M:List Nat}(h:QC lo ok w own wr a)(hs:ze M wr w')(e:∀b∈M,w.heap.size<=b):QC lo ok w own w' a:=by
 obtain⟨c,N,f,d⟩:=h;exact⟨c,N,f.newer hs fun x g=>zb (e x g),d⟩
theorem QC.qo{ok:TypeId->zn->Prop}{own:Nat->zn}(c:μ w w')(a:∀b,b<w.heap.size->own' b=own b):QC lo ok w own w' own':=⟨a,[],ze.of c,by simp⟩
structure jt (lo:Nat) (w0 w:World) (own0 own:Nat->zn) (k wd t5 t3:Nat) (r:zr) (P:yV) (vs:List yA):Prop where
 low:w0.heap.size<=t5
 low0:lo<=w0.heap.size
 box:Q6 w t5 (qX r P).toArray 292
 rbox:Q6 w t3 #[ι r.qh,ι r.vars,ι r.head.pred,P.tv,P.pv,P.nv] 207
 rule:vm lo w P.tv P.pv P.nv r
 qm:w.ownsRow lo 301 6 P.vv vs.length (vY wd vs P.vps)
 vlen:P.vps.length=vs.length
 view:∀i (_:i<vs.length) (_:i<P.vps.length),vJ lo w own k i vs[i] P.vps[i]
 vrole:∀b,P.vv.ownBlock=some b->own b=(k+1,0,9)
 qp:w.ownsRow lo 162 1 P.ntv P.nbs.length (QQ P.nbs)
 mod:QC lo (lg k) w0 own0 w own
theorem jt.step{own:Nat->zn}(h:jt lo w0 w own0 own k wd t5 t3 r P vs)(m:QC lo (fR k vs.length (0,0,5)) w own w' own'):jt lo w0 w' own0 own' k wd t5 t3 r P vs:=by
 refine⟨h.low,h.low0,h.box.mod m (gA (by decide) (by decide) _),h.rbox.mod m (gA (by decide) (by decide) _),h.rule.mod m (gA (by decide) (by decide)) (gA (by decide) (by decide)),pY h.qm m (fun b c q=>?_),h.vlen,fun i a b=>(h.view i a b).mod m (fun j t d q=>?_) (gA (by decide) (by decide)),fun b c=>(m.old b (xK h.qm c)).trans (h.vrole b c),vG h.qp m (gA (by decide) (by decide)),h.mod.trans (m.more fun _ _ q=>Mc q)⟩
 ·rw[h.vrole b c] at q;rcases q with q|q
  ·exact q.1 (by decide)
  ·simp at q
 ·rcases q with⟨_,f,q⟩|⟨e,_⟩
  ·simp at q;omega
  ·subst e;exact d (by decide)
theorem jt.below{own:Nat->zn}(h:jt lo w0 w own0 own k wd t5 t3 r P vs)(a:μ w w'):jt lo w0 w' own0 own k wd t5 t3 r P vs:=h.step (QC.of own a)
theorem PK(wd:Nat):∀(vs:List yA) (ps:List jB),ps.length=vs.length->∀(V:yA) (p:jB),vY wd (vs++[V]) (ps++[p])=vY wd vs ps++gz wd V p:=fun vs ps h V p=>by
 simp[vY,List.zipWith_append (h.symm)]
theorem jt.pushV{own:Nat->zn}{V:yA}{p:jB}{v':Value}(h:jt lo w0 w own0 own k wd t5 t3 r P vs)(F:vJ lo w own k vs.length V p)(B:w'.ownsRow lo 301 6 v' (vs.length+1) (vY wd vs P.vps++gz wd V p))(hs:ze P.vv.ownBlock.toList w w')(z:v'.ownBlock=P.vv.ownBlock∨∃g,v'.ownBlock=some g/\w.heap.size<=g):
  jt lo w0 (w'.setCell ⟨t5,6,none⟩ v') own0 (ext own w.heap.size (k+1,0,9)) k wd t5 t3 r ⟨P.tv,P.pv,P.nv,v',P.ntv,P.vps++[p],P.nbs⟩ (vs++[V]):=by
 have e:QC lo (fun t ρ=>t=301/\ρ=(k+1,0,9)) w own w' (ext own w.heap.size (k+1,0,9)):=⟨fun b d=>dE _ _ _ b d,_,hs,fun b d=>by
  have l:P.vv.ownBlock=some b:=by simpa using d
  obtain⟨c,A⟩:=uW h.qm l;exact⟨yW h.qm l,xK h.qm l,c,_,A,rfl,h.vrole b l⟩⟩
 have o:∀t,t≠301->∀ρ,¬(t=301/\ρ=(k+1,0,9)):=fun t y ρ q=>y q.1;have m:=h.box.mod e (o _ (by decide) _);have n:=h.rbox.mod e (o _ (by decide) _);have f:ze [t5] w' (w'.setCell ⟨t5,6,none⟩ v'):=ze.set _ _ _ _;have v:=QS.box m;have s:=fun i V p (q:vJ lo w own k i V p)=>(q.mod e (fun j t y q=>by obtain⟨rfl,_⟩:=q;exact y (by decide)) (o _ (by decide))).saveT f v (by decide) (by decide);refine⟨h.low,h.low0,?_,n.saveT f v (by decide),(h.rule.mod e (o _ (by decide)) (o _ (by decide))).saveT f v (by decide) (by decide),?_,by simp[h.vlen],fun i a b=>?_,fun b d=>?_,yG (vG h.qp e (o _ (by decide))) f v (by decide),(h.mod.trans (e.more fun _ _ q=>zf (zb q))).newer f fun b d=>by simp at d;rw[d];exact h.low⟩
 ·have q:=m.set 6 v';simpa [qX] using q
 ·rw[PK wd vs P.vps h.vlen,yp];exact yG B f v (by decide)
 ·simp only[yp,xd,dD] at a b;by_cases x:i<vs.length
  ·have u:i<P.vps.length:=by rw[h.vlen];exact x
   rw[vq x,vq u];exact s i _ _ (h.view i x u)
  ·obtain rfl:i=vs.length:=by omega
   have G:(vs++[V])[vs.length]=V:=by simp
   have E:(P.vps++[p])[vs.length]=p:=by simp[←h.vlen]
   rw[G,E];exact s _ _ _ F
 ·rcases z with z|⟨g,D,C⟩
  ·rw[z] at d;rw[dE _ _ _ b (xK h.qm d)];exact h.vrole b d
  ·rw[D] at d;simp at d;subst d;simp[ext,Nat.not_lt.2 C]
theorem jt.pushN{own:Nat->zn}{tb:Nat}{v':Value}(h:jt lo w0 w own0 own k wd t5 t3 r P vs)(g:∀b,P.ntv.ownBlock=some b->w0.heap.size<=b)(m:w'.ownsRow lo 162 1 v' (P.nbs.length+1) (QQ P.nbs++[(π tb)]))(hs:ze P.ntv.ownBlock.toList w w'):
  jt lo w0 (w'.setCell ⟨t5,7,none⟩ v') own0 own k wd t5 t3 r ⟨P.tv,P.pv,P.nv,P.vv,v',P.vps,P.nbs++[tb]⟩ vs:=by
 have d:=QS.own h.qp;have f:=h.box.saveT hs d (by decide);have c:ze [t5] w' (w'.setCell ⟨t5,7,none⟩ v'):=ze.set _ _ _ _;have j:=QS.box f;refine⟨h.low,h.low0,?_,(h.rbox.saveT hs d (by decide)).saveT c j (by decide),(h.rule.saveT hs d (by decide) (by decide)).saveT c j (by decide) (by decide),yG (yG h.qm hs d (by decide)) c j (by decide),h.vlen,fun i a b=>((h.view i a b).saveT hs d (by decide) (by decide)).saveT c j (by decide) (by decide),h.vrole,?_,(h.mod.newer hs fun b l=>g b (by simpa using l)).newer c fun b l=>by simp at l;rw[l];exact h.low⟩
 ·have q:=f.set 7 v';simpa [qX] using q
 ·have e:QQ (P.nbs++[tb])=QQ P.nbs++[(π tb)]:=by simp[QQ,pt]
  rw[e,yp];exact yG m c j (by decide)
theorem Cz{f wd:Nat}{R:z7}:∀{c:List zu} {vs:List yA},gW f wd R c=some vs->vs.length=c.length/\∀i (d:i<c.length) (e:i<vs.length),∃a,rowsG f (fT wd R c[i].pred)=some a/\dN f wd (kW wd c[i]) a=some vs[i]
 |[],vs,h=>by
  simp[gW] at h;subst h;exact⟨rfl,fun i h=>by simp at h⟩
 |l::c,vs,h=>by
  unfold gW at h;split at h
  ·cases h
  ·rename_i a b;split at h
   ·rename_i v n j g;simp at h;subst h;obtain⟨o,m⟩:=Cz g;refine⟨by simp[o],fun i d e=>?_⟩;match i,d,e with
    |0,_,_=>exact⟨a,b,j⟩
    |i+1,d,e=>
     simp only[nf];exact m i (by simpa using d) (by simpa using e)
   ·cases h
end
end Go.Proofs.YteampbddflhngaaGreat
