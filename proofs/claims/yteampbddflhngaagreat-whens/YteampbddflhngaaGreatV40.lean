import Derived.Test.YteampbddflhngaaGreatV35
import Derived.Test.YteampbddflhngaaGreatV37
namespace Go.Proofs.YteampbddflhngaaGreat
set_option linter.all false
set_option maxRecDepth 100000
set_option maxHeartbeats 4000000
open Go.RowKit
section
open Go.Proofs.Tryz
variable {lo:Nat}{w:World}
structure yU where
 tv:Value
 pv:Value
 nv:Value
 vv:Value
 ntv:Value
 vps:List jr
 nbs:List Nat
def qR(r:zr)(P:yU):List Value:=[.int .i64 r.qh,.int .i64 r.vars,.int .i64 r.head.pred,P.tv,P.pv,P.nv,P.vv,P.ntv]
def vP(wd:Nat)(vs:List yL)(ps:List jr):List Value:=(List.zipWith (kI wd) vs ps).flatten
structure ug (lo:Nat) (w:World) (own:Nat->zn) (k wd:Nat) (W:yb) (P:yU):Prop where
 rule:uP lo w P.tv P.pv P.nv W.rule
 qm:w.ownsRow lo 301 6 P.vv W.qm.length (vP wd W.qm P.vps)
 vlen:P.vps.length=W.qm.length
 view:∀i (_:i<W.qm.length) (_:i<P.vps.length),vn lo w own k i W.qm[i] P.vps[i]
 vrole:∀b,P.vv.ownBlock=some b->own b=(k+1,0,9)
 qp:w.ownsRow lo 162 1 P.ntv W.rule.qp.length (Pu P.nbs)
 nlen:P.nbs.length=W.rule.qp.length
 few:W.qm.length<=1000
theorem A3(wd:Nat):∀(vs:List yL) (ps:List jr) (i:Nat) (b:i<vs.length) (a:i<ps.length),(vP wd vs ps)[i*6]?=some (.int .i64 (vs[i].lit.pred:Nat))/\(vP wd vs ps)[i*6+1]?=some ps[i].tv/\(vP wd vs ps)[i*6+2]?=some (.int .i64 wd)/\(vP wd vs ps)[i*6+3]?=some (pt ps[i].bb)/\(vP wd vs ps)[i*6+4]?=some (pt ps[i].fb)/\(vP wd vs ps)[i*6+5]?=some (pt ps[i].ab)
 |[],_,i,b,_=>by simp at b
 |v::vs,[],i,_,a=>by simp at a
 |v::vs,p::ps,0,_,_=>by simp[vP,kI]
 |v::vs,p::ps,i+1,b,a=>by
  have:=A3 wd vs ps i (by simpa using b) (by simpa using a);simp only[vP,ly,lV] at this ⊢;rw[show(i+1)*6=i*6+6 from by omega];have c:i*6+6=(kI wd v p).length+i*6:=by simp[kI];omega
  rw[c];simp only[Nat.add_assoc,g6 (Nat.le_add_right _ _),sK];simpa using this
theorem ug.viewAt{own:Nat->zn}{k wd:Nat}{W:yb}{P:yU}(h:ug lo w own k wd W P)(i:Nat)(f:i<W.qm.length)(e:i<P.vps.length):∃g a,P.vv=.slice (some ⟨g,0,none⟩) W.qm.length a/\g<w.heap.size/\w.cell? ⟨g,i*6,none⟩=some (.int .i64 (W.qm[i].lit.pred:Nat))/\w.cell? ⟨g,i*6+1,none⟩=some P.vps[i].tv/\w.cell? ⟨g,i*6+2,none⟩=some (.int .i64 wd)/\w.cell? ⟨g,i*6+3,none⟩=some (.pointer (some ⟨P.vps[i].bb,0,none⟩))/\w.cell? ⟨g,i*6+4,none⟩=some (.pointer (some ⟨P.vps[i].fb,0,none⟩))/\w.cell? ⟨g,i*6+5,none⟩=some (.pointer (some ⟨P.vps[i].ab,0,none⟩)):=by
 obtain⟨g,a,c,_,j,b⟩:=y7 h.qm (by omega);obtain⟨d,o,m,n,p,l⟩:=A3 wd W.qm P.vps i f e;exact⟨g,a,c,j,b _ _ d,b _ _ o,b _ _ m,b _ _ n,b _ _ p,b _ _ l⟩
theorem eB{w:World}{own:Nat->zn}{S:zn->Prop}:∀(d:List zi) (bs:List Nat),bs.length=d.length->(∀i (j:i<d.length) (g:i<bs.length),∃ρ,S ρ/\yN lo w own ρ bs[i] d[i])->∃e:List (Nat×List Nat),e.map (·.1)=bs/\(∀i (j:i<d.length) (g:i<e.length),zX lo w e[i].1 d[i] e[i].2)/\∀x∈e,∀b∈x.2,S (own b)
 |[],[],_,_=>⟨[],rfl,fun i h=>by simp at h,fun x f=>by simp at f⟩
 |[],b::bs,h,_=>by simp at h
 |T::d,[],h,_=>by simp at h
 |T::d,b::bs,h,l=>by
  obtain⟨ρ,n,m,j,g⟩:=l 0 (by simp) (by simp);obtain⟨e,q,o,p⟩:=eB d bs (by simpa using h) fun i a c=>by
   have:=l (i+1) (by simpa using a) (by simpa using c);simpa using this
  refine⟨(b,m)::e,by simp[q],fun i a c=>?_,fun x f y k=>?_⟩
  ·match i,a,c with
   |0,_,_=>exact j
   |i+1,a,c=>exact o i (by simpa using a) (by simpa using c)
  ·rcases zw.1 f with rfl|f
   ·rw[g y k];exact n
   ·exact p x f y k
def mm(lo:Nat)(w:World)(own:Nat->zn)(p:Nat)(J:z9)(e:Ending)(a:World):Prop:=∃P,e=.returned (.agg (um J P).toArray)/\jz lo a J P/\mF own P p/\Below w.heap.size w a
theorem NG{J:z9}{P:xr}(h:jz lo w J P):∀u∈um J P,u.oneCell'=true:=by
 intro u a;obtain⟨q,n,b⟩:=h.head.qw;obtain⟨m,l,f⟩:=zq h.ja;obtain⟨j,k,d⟩:=zq h.bars;simp only[um,zW,zw,zB,lB,or_false] at a;rcases a with ((((((a|a)|⟨_,_,a⟩)|a)|⟨_,_,a⟩)|⟨_,_,a⟩)|a)
 ·rcases a with rfl|rfl|rfl|rfl|rfl
  ·rfl
  ·rw[b];rfl
  ·rfl
  ·rw[f];rfl
  ·rw[d];rfl
 ·obtain⟨p,c,rfl⟩:=vl a;have i:=h.hlen;obtain⟨o,g,e⟩:=zq (h.je p (by omega) c).1;rw[e];rfl
 ·subst a;rfl
 ·subst a;rfl
 ·subst a;rfl
 ·subst a;rfl
 ·rcases a with rfl|rfl<;>rfl
def qB(bs:List Nat)(k:Nat):List Value:=(bs.take k).map pt++List.replicate (bs.length-k) (.pointer none)
theorem BH(bs:List Nat)(k:Nat)(a:k<=bs.length):(qB bs k).length=bs.length:=by simp[qB];omega
theorem BQ(bs:List Nat)(k:Nat)(b:k<bs.length):(qB bs k).set k (.pointer (some ⟨bs[k],0,none⟩))=qB bs (k+1):=by
 obtain⟨m,a⟩:∃m,bs.length-k=m+1:=⟨bs.length-k-1,by omega⟩;unfold qB;rw[fA _ _ (by simp;omega),uH,qa,gP (by omega),jK,a,pN,rp,yM b,vB,show bs.length-(k+1)=m from by omega,ki];rfl
theorem E2(bs:List Nat):qB bs bs.length=Pu bs:=by simp[qB,Pu]
theorem O2:(prog.info? 162).map (fun i=>(i.zero,i.size,i.bytes))=some (some (.pointer none),1,8):=by kernel_rfl
theorem AH{W':World}{own:Nat->zn}{k wd p pb:Nat}{W:yb}{P:yU}{qc qp:List zi}{bs:List Nat}(d:ug lo w own k wd W P)(J:lo<=w.heap.size)(O:qc.length=W.qm.length)(B:bs.length=qc.length)(q:∀i (u:i<qc.length) (s:i<bs.length),∃ρ,ρ≠(0,p,0)/\yN lo w own ρ bs[i] qc[i])(l:qp.length=W.rule.qp.length)(v:∀i (u:i<qp.length) (s:i<P.nbs.length),∃ρ,ρ≠(0,p,0)/\yN lo w own ρ P.nbs[i] qp[i])(h:Below w.heap.size w W')(j:W'.ownsRow w.heap.size 162 1 (.slice (some ⟨pb,0,none⟩) qc.length qc.length) qc.length (Pu bs)):
  Calls prog 214 #[kj W.rule P.tv P.pv P.nv,.slice (some ⟨pb,0,none⟩) qc.length qc.length,P.ntv] W' fun e A=>mm lo W' own p (xF W.rule qc qp) e A:=by
 obtain⟨m,z,K,G⟩:=eB qc bs B q;obtain⟨n,C,H,D⟩:=eB qp P.nbs (by rw[d.nlen,l]) v;have g:m.length=qc.length:=by rw[←B,←z,uH]
 have f:n.length=qp.length:=by rw[l,←d.nlen,←C,uH]
 have L:Pu bs=m.map fun x=>QP x.1:=by rw[←z];simp[Pu];exact fun _ _ _=>rfl
 have M:Pu P.nbs=n.map fun x=>QP x.1:=by rw[←C];simp[Pu];exact fun _ _ _=>rfl
 have y:=d.few;have N:=d.rule.qp.len;have u:fc w.heap.size lo W' (.slice (some ⟨pb,0,none⟩) qc.length qc.length) qc m:=⟨by rw[←L];exact j,g,fun i a b=>(K i a b).below h,by omega⟩;have s:fc lo lo W' P.ntv qp n:=⟨by rw[l,←M];exact zE d.qp h,f,fun i a b=>(H i a b).below h,by omega⟩;refine(ED W' W.rule P.tv P.pv P.nv _ _ qc qp m n (d.rule.below h) u s l (by have:=h.size;omega)).mono ?_;rintro e A ⟨I,rfl,F,E,t,r⟩;refine⟨I,rfl,F,⟨fun x o b c=>G x (by rw[←E];exact o) b c,fun x o b c=>D x.2 (by rw[←t];exact List.mem_map_of_mem o) b c⟩,r⟩
theorem sp{a:World}{b:Nat}(h:un w b)(f:Below w.heap.size w a):un a b:=by obtain⟨c,e,d⟩:=h;exact⟨c,e.below f,d⟩
theorem Dm{b b' o:Nat}{u:Value}(h:un w b)(e:b≠b'):un (w.setCell ⟨b',o,none⟩ u) b:=by obtain⟨c,d,a⟩:=h;exact⟨c,d.set_ne e _ _,a⟩
structure WC (w:World) (gw o:Nat) (r:zr) (P:yU):Prop where
 lt:gw<w.heap.size
 free:∀q,w.frozen? ⟨gw,q,none⟩=false
 c0:w.cell? ⟨gw,o,none⟩=some (.int .i64 r.qh)
 c1:w.cell? ⟨gw,o+1,none⟩=some (.int .i64 r.vars)
 c2:w.cell? ⟨gw,o+2,none⟩=some (.int .i64 r.head.pred)
 c3:w.cell? ⟨gw,o+3,none⟩=some P.tv
 c4:w.cell? ⟨gw,o+4,none⟩=some P.pv
 c5:w.cell? ⟨gw,o+5,none⟩=some P.nv
 c6:w.cell? ⟨gw,o+6,none⟩=some P.vv
 c7:w.cell? ⟨gw,o+7,none⟩=some P.ntv
theorem WC.below{c:World}{a o:Nat}{r:zr}{P:yU}(h:WC w a o r P)(b:Below w.heap.size w c):WC c a o r P:=by
 have e:=fun q=>b.cell (p:=⟨a,q,none⟩) h.lt;exact⟨by have:=b.size;have:=h.lt;omega,fun q=>(b.frozen (p:=⟨a,q,none⟩) h.lt).trans (h.free q),(e _).trans h.c0,(e _).trans h.c1,(e _).trans h.c2,(e _).trans h.c3,(e _).trans h.c4,(e _).trans h.c5,(e _).trans h.c6,(e _).trans h.c7⟩
theorem rV{b:Nat}{J:z9}{P:xr}{d:World}(a:jz lo d J P)(h:un w b):(storeCells ⟨b,0,none⟩ (um J P)).run prog w=.ok () (kF w b (um J P)):=by
 have e:=pn J P a.hlen.1 a.jk;exact run_storeCells_cells (P:=prog) b 0 (um J P) 0 w (fun j c=>(h.there j (by omega)).1) (fun j c=>(h.there j (by omega)).2) (NG a)
attribute [local go_sem] rt
theorem Nf(w:World)(own:Nat->zn)(k wd p E o:Nat)(W:yb)(P:yU)(qp:List zi)(h:ug lo w own k wd W P)(hc:WC w E o W.rule P)(a5:lo<=w.heap.size)(hn:qp.length=W.rule.qp.length)(a1:∀i (h1:i<qp.length) (h2:i<P.nbs.length),∃ρ,ρ≠(0,p,0)/\yN lo w own ρ P.nbs[i] qp[i]):
  Calls prog 207 #[.pointer (some ⟨E,o,none⟩)] w fun e r=>mm lo w own p (xF W.rule (W.qm.map (·.all)) qp) e r:=by
 obtain⟨i0,hi,aL,aI,aS⟩:=info_parts O2;have M:Hid (∀T pb,Below w.heap.size w T->T.ownsRow w.heap.size 162 1 (.slice (some ⟨pb,0,none⟩) W.qm.length W.qm.length) W.qm.length (Pu (P.vps.map (·.ab)))->Calls prog 214 #[kj W.rule P.tv P.pv P.nv,.slice (some ⟨pb,0,none⟩) W.qm.length W.qm.length,P.ntv] T fun e r=>mm lo T own p (xF W.rule (W.qm.map (·.all)) qp) e r):=fun T pb hB c=>by
  have q:=AH (p:=p) (pb:=pb) (qc:=W.qm.map (·.all)) (bs:=P.vps.map (·.ab)) (qp:=qp) (W':=T) h a5 (by simp) (by simp[h.vlen]) (fun i h1 h2=>⟨(k+1,i,2),by simp,by simp only[vO];exact(h.view i (by simpa using h1) (by simpa using h2)).all⟩) hn a1 hB (by simpa using c);simpa using q
 have aN:=OY fun i a b=>h.viewAt i a b;have aM:=OY fun i a b=>(h.view i a b).qg.qw;have aa:=OY h.vlen;have aW:=h.few;obtain⟨bf,aV,Z⟩:=zq h.qm;obtain⟨ac,t,ao⟩:=h.rule.head.qw;obtain⟨ab,A,aw⟩:=h.rule.qc.qw;obtain⟨S,y,av⟩:=h.rule.qp.qw;obtain⟨Q,x,O⟩:=zq h.qp;have HW:=OY hc;have aC:=OY Z;have D:Hid (P.tv=.slice ac W.rule.head.qg.length t/\P.pv=.slice ab W.rule.qc.length A/\P.nv=.slice S W.rule.qp.length y/\P.ntv=.slice Q W.rule.qp.length x):=⟨ao,aw,av,O⟩;have al:=fun W0:World=>run_make (P:=prog) (w:=W0) 150 162 i0 _ underlying150 hi aL .i64 .i64 (W.qm.length:Int) (W.qm.length:Int) (by omega) (Int.le_refl _) (by rw[aS];omega) (by omega);rw[aI] at al;have au:=hc.c6;rw[Z] at au;have aJ:=hc.lt;have a3:=hc.free;clear h hc a1 Z ao aw av O;go_enter func207,ntmps207;go_upto_region 3 with fail
 have ae:Below w.heap.size w ((w.alloc (.cells (bj 0 0 0 none none 0 0 0 0).toArray 310)).alloc (.cells (madeCells #[.pointer none] W.qm.length) 162)):=(by go_grown);have c:=sO (w.alloc (.cells (bj 0 0 0 none none 0 0 0 0).toArray 310)) W.qm.length 162 (.pointer none) (by unfold maxLen;omega);rw[World.size_alloc] at c;have ap:un ((w.alloc (.cells (bj 0 0 0 none none 0 0 0 0).toArray 310)).alloc (.cells (madeCells #[.pointer none] W.qm.length) 162)) w.heap.size:=tc _ _ _ _ _ _ _ _ _ _ _;have a0:(P.vps.map (·.ab)).length=W.qm.length:=by simp[aa.out]
 have ar:Hid (((w.alloc (.cells (bj 0 0 0 none none 0 0 0 0).toArray 310)).alloc (.cells (madeCells #[.pointer none] W.qm.length) 162)).ownsRow w.heap.size 162 1 (.slice (some ⟨w.heap.size+1,0,none⟩) W.qm.length W.qm.length) W.qm.length (qB (P.vps.map (·.ab)) 0)):=by
  have e:qB (P.vps.map (·.ab)) 0=List.replicate W.qm.length (.pointer none):=by simp[qB,aa.out]
  rw[Hid,e];exact yr c (by omega)
 have R:=OY a0;have a7:Hid (∀i (h1:i<P.vps.length) (h2:i<(P.vps.map (·.ab)).length),(P.vps.map (·.ab))[i]=P.vps[i].ab):=fun i a b=>by simp
 clear c a0 au aJ a3 al;generalize (w.alloc (.cells (bj 0 0 0 none none 0 0 0 0).toArray 310)).alloc (.cells (madeCells #[.pointer none] W.qm.length) 162)=w1 at *;generalize P.vps.map (·.ab)=L at *;have B:=OY ap;clear ap;go_loopw [17] (fun aG wr=>∃m:Nat,m<=W.qm.length/\aG=.int .i64 m/\Below w.heap.size w wr/\Hid (un wr w.heap.size)/\Hid (wr.ownsRow w.heap.size 162 1 (.slice (some ⟨w.heap.size+1,0,none⟩) W.qm.length W.qm.length) W.qm.length (qB L m))) (fun i _=>W.qm.length-(intOf i).toNat)
 case atStart=>exact⟨0,zv _,rfl,ae,B,ar⟩
 case round=>
  clear ar B ae;obtain⟨m,hm,rfl,d,B,HR⟩:=hrel;have aX:=d.size;by_cases C:m<W.qm.length
  ·have V:m<P.vps.length:=by rw[aa.out];exact C
   have ad:m<L.length:=by rw[R.out];exact C
   obtain⟨gv,aP,n,s,q0,q1,q2,q3,q4,q5⟩:=aN.out m C V;rw[aC.out] at n;simp only[Value.slice.injEq] at n;have a2:=n.1;clear n;subst a2;obtain⟨aR,am,hq⟩:=aM.out m C V;rw[hq] at q1;have x0:=zl d s q0;have x1:=zl d s q1;have x2:=zl d s q2;have x3:=zl d s q3;have x4:=zl d s q4;have x5:=zl d s q5;have be:gv<wr.heap.size:=by omega
   have c:=HR.out;have a8:=BH L m (by omega);obtain⟨sx,bk⟩:∃sx,wr.cell? ⟨w.heap.size+1,m,none⟩=some sx:=by
    obtain⟨g',ba,aq,_,_,af⟩:=y7 c (by omega);simp only[Value.slice.injEq,zs,Addr.mk.injEq,and_true] at aq;have e:=aq.1;subst e;exact⟨_,af m _ (yq (by omega))⟩
   have bg:=qt c;have bh:w.heap.size+1<wr.heap.size:=yO c rfl;have ai:Hid ((qB L m).set m (.pointer (some ⟨P.vps[m].ab,0,none⟩))=qB L (m+1)):=by
    have q:=BQ L m ad;rw[a7.out m V ad] at q;exact q
   have l:Below (wr.setCell ⟨w.heap.size+1,m,none⟩ (.pointer (some ⟨P.vps[m].ab,0,none⟩))).heap.size (wr.setCell ⟨w.heap.size+1,m,none⟩ (.pointer (some ⟨P.vps[m].ab,0,none⟩))) ((wr.setCell ⟨w.heap.size+1,m,none⟩ (.pointer (some ⟨P.vps[m].ab,0,none⟩))).alloc (.cells #[.int .i64 (W.qm[m].lit.pred:Nat),.slice aR W.qm[m].lit.qg.length am,.int .i64 wd,.pointer (some ⟨P.vps[m].bb,0,none⟩),.pointer (some ⟨P.vps[m].fb,0,none⟩),.pointer (some ⟨P.vps[m].ab,0,none⟩)] 301)):=(by go_grown);have g:=sp (Dm (o:=m) (u:=.pointer (some ⟨P.vps[m].ab,0,none⟩)) B.out (show w.heap.size≠w.heap.size+1 by omega)) l;have j:=uK c m (by omega) (.pointer (some ⟨P.vps[m].ab,0,none⟩));rw[ai.out] at j;have az:=zE j l;have aT:=Pc (d.setCell (by simp) _) l;clear j;have aZ:(m:Int)<(W.qm.length:Int):=by omega
   clear q0 q1 q2 q3 q4 q5 a8 hq ai;generalize W.qm[m].lit.pred=vp at *;generalize W.qm[m].lit.qg.length=vt at *;generalize P.vps[m].bb=bi at *;generalize P.vps[m].fb=bd at *;generalize P.vps[m].ab=bc at *;go_wp2;exact⟨⟨m+1,by omega,by go_num,aT,g,az⟩,by simp[intOf];omega⟩
  ·obtain rfl:m=W.qm.length:=by omega
   have aU:Hid (wr.ownsRow w.heap.size 162 1 (.slice (some ⟨w.heap.size+1,0,none⟩) W.qm.length W.qm.length) W.qm.length (Pu L)):=by
    have q:=HR.out;rw[←R.out,E2,R.out] at q;exact q
   have aH:=HW.out.below d;obtain⟨t1,t2,t3,t4⟩:=D.out;obtain⟨bb,aQ,d0,d1,d2,d3,d4,d5,d6,d7⟩:=aH;rw[t1] at d3;rw[t2] at d4;rw[t3] at d5;rw[t4] at d7;have f:E≠w.heap.size:=by have:=HW.out.lt;omega
   have aD:Hid (∀W0,Below wr.heap.size wr W0->Calls prog 214 #[.agg #[.int .i64 W.rule.qh,.int .i64 W.rule.vars,.int .i64 W.rule.head.pred,.slice ac W.rule.head.qg.length t,.slice ab W.rule.qc.length A,.slice S W.rule.qp.length y],.slice (some ⟨w.heap.size+1,0,none⟩) W.qm.length W.qm.length,.slice Q W.rule.qp.length x] W0 fun e r=>mm lo W0 own p (xF W.rule (W.qm.map (·.all)) qp) e r):=fun W0 ag=>by
    have q:=M.out W0 (w.heap.size+1) (Pc d ag) (zE aU.out ag);rw[kj,t1,t2,t3,t4] at q;exact q
   clear t1 t2 t3 t4 d6 M C hm;generalize aj:xF W.rule (W.qm.map (·.all)) qp=J at *;have an:=OY aj;clear aj;go_wp2;go_region_held3 (fun r=>r.cell? ⟨E,o,none⟩=some (.int .i64 W.rule.qh)/\r.cell? ⟨E,o+1,none⟩=some (.int .i64 W.rule.vars)/\r.cell? ⟨E,o+2,none⟩=some (.int .i64 W.rule.head.pred)/\r.cell? ⟨E,o+3,none⟩=some (.slice ac W.rule.head.qg.length t)/\r.cell? ⟨E,o+4,none⟩=some (.slice ab W.rule.qc.length A)/\r.cell? ⟨E,o+5,none⟩=some (.slice S W.rule.qp.length y)/\r.cell? ⟨E,o+7,none⟩=some (.slice Q W.rule.qp.length x)) (first|(exact⟨X,Y,U,G,F,K,H⟩)|(exact⟨(jT _ _ _ _ _ f).trans X,(jT _ _ _ _ _ f).trans Y,(jT _ _ _ _ _ f).trans U,(jT _ _ _ _ _ f).trans G,(jT _ _ _ _ _ f).trans F,(jT _ _ _ _ _ f).trans K,(jT _ _ _ _ _ f).trans H⟩)|go_keep|(go_simp;done)) (first|(go_at_call 214;refine(aD.out _ (by exact(by go_grown))).mono ?_;rintro e w2 ⟨PJ,rfl,z,ak,aF⟩;have I:Below wr.heap.size wr w2:=(zM (by go_grown) aF (zh _));have aK:=HW.out.below (Pc d I);obtain⟨aY,ah,X,Y,U,G,F,K,_,H⟩:=aK;rw[D.out.1] at G;rw[D.out.2.1] at F;rw[D.out.2.2.1] at K;rw[D.out.2.2.2] at H;have g:=sp B.out I;have aB:=rV z g;have N:=pn J PJ z.hlen.1 z.jk;have aA:=OY z;have aE:=OY ak;clear z ak;generalize ay:um J PJ=cs at *;have aO:=OY ay;clear ay))
   have a6:=n6 (cs:=cs) g N;have ax:=ry w2 w.heap.size cs;have a4:=aA.out.saveJ ax (Px.box g.choose_spec.1);have a9:=(Pc d I).trans (ax.below (by simp) (by have:=I.size;omega));clear aB d0 d1 d2 d3 d4 d5 d7 X Y U G F K H aQ ah;generalize kF w2 w.heap.size cs=w5 at *;go_wp2
   (try simp only[Exit.inBlock,Exit.then])
   exact zJ (v:=.agg cs.toArray) (sg rfl _ _ _ _ _ (by rfl) (run_loadVar_mid w5 w.heap.size 0 310 cs _ a6.range underlying310 rfl (by rw[N];exact OL))) rfl ⟨PJ,by rw[an.out,aO.out],by rw[an.out];exact a4,aE.out,a9⟩
end
section
open Go.Proofs.Tryz
variable {lo:Nat}
def jF(ps:List jr)(place:Nat):List Nat:=ps.zipIdx.map fun x=>if x.2<place then x.1.bb else if x.2=place then x.1.fb else x.1.ab
theorem E1(vs:List yL)(a:Nat):(Py vs a).length=vs.length:=by simp[Py]
theorem JM{w:World}{own:Nat->zn}{k wd p:Nat}{W:yb}{P:yU}(h:ug lo w own k wd W P)(a i:Nat)(d:i<W.qm.length)(c:i<P.vps.length)(f:i<(Py W.qm a).length)(e:i<(jF P.vps a).length):∃ρ,ρ≠(0,p,0)/\yN lo w own ρ (jF P.vps a)[i] (Py W.qm a)[i]:=by
 have b:=h.view i d c;simp only[jF,Py,vO,List.getElem_zipIdx,uL];split
 ·exact⟨_,by simp,b.before⟩
 ·split
  ·exact⟨_,by simp,b.qo⟩
  ·exact⟨_,by simp,b.all⟩
attribute [local go_sem] rt
theorem Mq(w:World)(own:Nat->zn)(k wd p I o d:Nat)(W:yb)(P:yU)(qp:List zi)(h:ug lo w own k wd W P)(hc:WC w I o W.rule P)(aA:lo<=w.heap.size)(aT:d<=1000000)(hn:qp.length=W.rule.qp.length)(a6:∀i (h1:i<qp.length) (h2:i<P.nbs.length),∃ρ,ρ≠(0,p,0)/\yN lo w own ρ P.nbs[i] qp[i]):
  Calls prog 210 #[.pointer (some ⟨I,o,none⟩),.int .i64 d] w fun e s=>mm lo w own p (xF W.rule (Py W.qm d) qp) e s:=by
 obtain⟨i0,hi,aV,aR,bc⟩:=info_parts O2;have R:Hid (∀Z pb,Below w.heap.size w Z->Z.ownsRow w.heap.size 162 1 (.slice (some ⟨pb,0,none⟩) W.qm.length W.qm.length) W.qm.length (Pu (jF P.vps d))->Calls prog 214 #[kj W.rule P.tv P.pv P.nv,.slice (some ⟨pb,0,none⟩) W.qm.length W.qm.length,P.ntv] Z fun e s=>mm lo Z own p (xF W.rule (Py W.qm d) qp) e s):=fun Z pb hB c=>by
  have q:=AH (p:=p) (pb:=pb) (qc:=Py W.qm d) (bs:=jF P.vps d) (qp:=qp) (W':=Z) h aA (by simp[Py]) (by simp[jF,Py,h.vlen]) (fun i h1 h2=>JM h d i (by simpa [Py] using h1) (by simpa [jF] using h2) h1 h2) hn a6 hB (by rw[E1];exact c);rw[E1] at q;exact q
 have aX:=OY fun i a b=>h.viewAt i a b;have aW:=OY fun i a b=>(h.view i a b).qg.qw;have af:=OY h.vlen;have bg:=h.few;obtain⟨bp,bf,ae⟩:=zq h.qm;obtain⟨ai,y,aw⟩:=h.rule.head.qw;obtain⟨ah,D,a2⟩:=h.rule.qc.qw;obtain⟨Y,B,a1⟩:=h.rule.qp.qw;obtain⟨V,A,T⟩:=zq h.qp;have HW:=OY hc;have aL:=OY ae;have G:Hid (P.tv=.slice ai W.rule.head.qg.length y/\P.pv=.slice ah W.rule.qc.length D/\P.nv=.slice Y W.rule.qp.length B/\P.ntv=.slice V W.rule.qp.length A):=⟨aw,a2,a1,T⟩;have ar:=fun W0:World=>run_make (P:=prog) (w:=W0) 150 162 i0 _ underlying150 hi aV .i64 .i64 (W.qm.length:Int) (W.qm.length:Int) (by omega) (Int.le_refl _) (by rw[bc];omega) (by omega);rw[aR] at ar;have a0:=hc.c6;rw[ae] at a0;have aS:=hc.lt;have a8:=hc.free;clear h hc a6 ae aw a2 a1 T;go_enter func210,ntmps210;go_upto_region 3 with fail
 have ak:Below w.heap.size w ((w.alloc (.cells (bj 0 0 0 none none 0 0 0 0).toArray 310)).alloc (.cells (madeCells #[.pointer none] W.qm.length) 162)):=(by go_grown);have c:=sO (w.alloc (.cells (bj 0 0 0 none none 0 0 0 0).toArray 310)) W.qm.length 162 (.pointer none) (by unfold maxLen;omega);rw[World.size_alloc] at c;have ax:un ((w.alloc (.cells (bj 0 0 0 none none 0 0 0 0).toArray 310)).alloc (.cells (madeCells #[.pointer none] W.qm.length) 162)) w.heap.size:=tc _ _ _ _ _ _ _ _ _ _ _;have a5:(jF P.vps d).length=W.qm.length:=by simp[jF,af.out]
 have az:Hid (((w.alloc (.cells (bj 0 0 0 none none 0 0 0 0).toArray 310)).alloc (.cells (madeCells #[.pointer none] W.qm.length) 162)).ownsRow w.heap.size 162 1 (.slice (some ⟨w.heap.size+1,0,none⟩) W.qm.length W.qm.length) W.qm.length (qB (jF P.vps d) 0)):=by
  have e:qB (jF P.vps d) 0=List.replicate W.qm.length (.pointer none):=by simp[qB,jF,af.out]
  rw[Hid,e];exact yr c (by omega)
 have X:=OY a5;have aE:Hid (∀i (h1:i<P.vps.length) (h2:i<(jF P.vps d).length),(jF P.vps d)[i]=if i<d then P.vps[i].bb else if i=d then P.vps[i].fb else P.vps[i].ab):=fun i a b=>by simp[jF]
 clear c a5 a0 aS a8 ar;generalize (w.alloc (.cells (bj 0 0 0 none none 0 0 0 0).toArray 310)).alloc (.cells (madeCells #[.pointer none] W.qm.length) 162)=w1 at *;generalize jF P.vps d=Q at *;have E:=OY ax;clear ax;go_loopw [19] (fun aP wr=>∃m:Nat,m<=W.qm.length/\aP=.int .i64 m/\Below w.heap.size w wr/\Hid (un wr w.heap.size)/\Hid (wr.ownsRow w.heap.size 162 1 (.slice (some ⟨w.heap.size+1,0,none⟩) W.qm.length W.qm.length) W.qm.length (qB Q m))) (fun i _=>W.qm.length-(intOf i).toNat)
 case atStart=>exact⟨0,zv _,rfl,ak,E,az⟩
 case round=>
  clear az E ak;obtain⟨m,hm,rfl,f,E,HR⟩:=hrel;have bh:=f.size;by_cases F:m<W.qm.length
  ·have ab:m<P.vps.length:=by rw[af.out];exact F
   have aj:m<Q.length:=by rw[X.out];exact F
   obtain⟨gv,aZ,r,x,q0,q1,q2,q3,q4,q5⟩:=aX.out m F ab;rw[aL.out] at r;simp only[Value.slice.injEq] at r;have a7:=r.1;clear r;subst a7;obtain⟨bb,au,hq⟩:=aW.out m F ab;rw[hq] at q1;have x0:=zl f x q0;have x1:=zl f x q1;have x2:=zl f x q2;have x3:=zl f x q3;have x4:=zl f x q4;have x5:=zl f x q5;have bo:gv<wr.heap.size:=by omega
   have c:=HR.out;have aH:=BH Q m (by omega);obtain⟨sx,bs⟩:∃sx,wr.cell? ⟨w.heap.size+1,m,none⟩=some sx:=by
    obtain⟨g',bm,ay,_,_,al⟩:=y7 c (by omega);simp only[Value.slice.injEq,zs,Addr.mk.injEq,and_true] at ay;have e:=ay.1;subst e;exact⟨_,al m _ (yq (by omega))⟩
   have bq:=qt c;have aT:w.heap.size+1<wr.heap.size:=yO c rfl;obtain⟨z,U⟩:∃z,z=(if m<d then P.vps[m].bb else if m=d then P.vps[m].fb else P.vps[m].ab):=⟨_,rfl⟩;have ao:Hid ((qB Q m).set m (.pointer (some ⟨z,0,none⟩))=qB Q (m+1)):=by
    have q:=BQ Q m aj;rw[aE.out m ab aj,←U] at q;exact q
   have n:Below (wr.setCell ⟨w.heap.size+1,m,none⟩ (.pointer (some ⟨z,0,none⟩))).heap.size (wr.setCell ⟨w.heap.size+1,m,none⟩ (.pointer (some ⟨z,0,none⟩))) ((wr.setCell ⟨w.heap.size+1,m,none⟩ (.pointer (some ⟨z,0,none⟩))).alloc (.cells #[.int .i64 (W.qm[m].lit.pred:Nat),.slice bb W.qm[m].lit.qg.length au,.int .i64 wd,.pointer (some ⟨P.vps[m].bb,0,none⟩),.pointer (some ⟨P.vps[m].fb,0,none⟩),.pointer (some ⟨P.vps[m].ab,0,none⟩)] 301)):=(by go_grown);have j:=sp (Dm (o:=m) (u:=.pointer (some ⟨z,0,none⟩)) E.out (show w.heap.size≠w.heap.size+1 by omega)) n;have l:=uK c m (by omega) (.pointer (some ⟨z,0,none⟩));rw[ao.out] at l;have H:=zE l n;have ag:=Pc (f.setCell (by simp) _) n;clear l;have bk:(m:Int)<(W.qm.length:Int):=by omega
   clear q0 q1 q2 q3 q4 q5 aH hq ao;generalize W.qm[m].lit.pred=vp at *;generalize W.qm[m].lit.qg.length=vt at *;generalize P.vps[m].bb=be at *;generalize P.vps[m].fb=aC at *;generalize P.vps[m].ab=aB at *;have t:=OY U;clear U;by_cases g1:m<d
   ·have aG:(m:Int)<(d:Int):=by omega
    obtain rfl:z=be:=by rw[t.out,zb g1]
    clear t;go_wp2;exact⟨⟨m+1,by omega,by go_num,ag,j,H⟩,by simp[intOf];omega⟩
   ·have aG:¬(m:Int)<(d:Int):=by omega
    by_cases g2:m=d
    ·have aF:((m:Int) == (d:Int))=true:=by rw[beq_iff_eq];omega
     obtain rfl:z=aC:=by rw[t.out,za g1,zb g2]
     have br:=OY g2;clear t g2;go_wp2;exact⟨⟨m+1,by omega,by go_num,ag,j,H⟩,by simp[intOf];omega⟩
    ·have aF:((m:Int) == (d:Int))=false:=by rw[beq_eq_false_iff_ne];omega
     obtain rfl:z=aB:=by rw[t.out,za g1,za g2]
     clear t;go_wp2;exact⟨⟨m+1,by omega,by go_num,ag,j,H⟩,by simp[intOf];omega⟩
  ·obtain rfl:m=W.qm.length:=by omega
   have bd:Hid (wr.ownsRow w.heap.size 162 1 (.slice (some ⟨w.heap.size+1,0,none⟩) W.qm.length W.qm.length) W.qm.length (Pu Q)):=by
    have q:=HR.out;rw[←X.out,E2,X.out] at q;exact q
   have aQ:=HW.out.below f;obtain⟨t1,t2,t3,t4⟩:=G.out;obtain⟨bn,ba,d0,d1,d2,d3,d4,d5,d6,d7⟩:=aQ;rw[t1] at d3;rw[t2] at d4;rw[t3] at d5;rw[t4] at d7;have g:I≠w.heap.size:=by have:=HW.out.lt;omega
   have aM:Hid (∀W0,Below wr.heap.size wr W0->Calls prog 214 #[.agg #[.int .i64 W.rule.qh,.int .i64 W.rule.vars,.int .i64 W.rule.head.pred,.slice ai W.rule.head.qg.length y,.slice ah W.rule.qc.length D,.slice Y W.rule.qp.length B],.slice (some ⟨w.heap.size+1,0,none⟩) W.qm.length W.qm.length,.slice V W.rule.qp.length A] W0 fun e s=>mm lo W0 own p (xF W.rule (Py W.qm d) qp) e s):=fun W0 am=>by
    have q:=R.out W0 (w.heap.size+1) (Pc f am) (zE bd.out am);rw[kj,t1,t2,t3,t4] at q;exact q
   clear t1 t2 t3 t4 d6 R F hm;generalize ap:xF W.rule (Py W.qm d) qp=J at *;have av:=OY ap;clear ap;go_wp2;go_region_held3 (fun s=>s.cell? ⟨I,o,none⟩=some (.int .i64 W.rule.qh)/\s.cell? ⟨I,o+1,none⟩=some (.int .i64 W.rule.vars)/\s.cell? ⟨I,o+2,none⟩=some (.int .i64 W.rule.head.pred)/\s.cell? ⟨I,o+3,none⟩=some (.slice ai W.rule.head.qg.length y)/\s.cell? ⟨I,o+4,none⟩=some (.slice ah W.rule.qc.length D)/\s.cell? ⟨I,o+5,none⟩=some (.slice Y W.rule.qp.length B)/\s.cell? ⟨I,o+7,none⟩=some (.slice V W.rule.qp.length A)) (first|(exact⟨ac,ad,aa,L,K,O,M⟩)|(exact⟨(jT _ _ _ _ _ g).trans ac,(jT _ _ _ _ _ g).trans ad,(jT _ _ _ _ _ g).trans aa,(jT _ _ _ _ _ g).trans L,(jT _ _ _ _ _ g).trans K,(jT _ _ _ _ _ g).trans O,(jT _ _ _ _ _ g).trans M⟩)|go_keep|(go_simp;done)) (first|(go_at_call 214;refine(aM.out _ (by exact(by go_grown))).mono ?_;rintro e w2 ⟨PJ,rfl,C,aq,aO⟩;have N:Below wr.heap.size wr w2:=(zM (by go_grown) aO (zh _));have aU:=HW.out.below (Pc f N);obtain⟨bi,an,ac,ad,aa,L,K,O,_,M⟩:=aU;rw[G.out.1] at L;rw[G.out.2.1] at K;rw[G.out.2.2.1] at O;rw[G.out.2.2.2] at M;have j:=sp E.out N;have aK:=rV C j;have S:=pn J PJ C.hlen.1 C.jk;have aJ:=OY C;have aN:=OY aq;clear C aq;generalize a4:um J PJ=cs at *;have aY:=OY a4;clear a4))
   have aD:=n6 (cs:=cs) j S;have a3:=ry w2 w.heap.size cs;have a9:=aJ.out.saveJ a3 (Px.box j.choose_spec.1);have aI:=(Pc f N).trans (a3.below (by simp) (by have:=N.size;omega));clear aK d0 d1 d2 d3 d4 d5 d7 ac ad aa L K O M ba an;generalize kF w2 w.heap.size cs=w5 at *;go_wp2
   (try simp only[Exit.inBlock,Exit.then])
   exact zJ (v:=.agg cs.toArray) (sg rfl _ _ _ _ _ (by rfl) (run_loadVar_mid w5 w.heap.size 0 310 cs _ aD.range underlying310 rfl (by rw[S];exact OL))) rfl ⟨PJ,by rw[av.out,aY.out],by rw[av.out];exact a9,aN.out,aI⟩
end
section
open Go.Proofs.Tryz
variable {lo:Nat}{w:World}{p:Nat}
structure QS (c:Array Value) (o:Nat) (r:zr) (P:yU):Prop where
 c0:c[o]?=some (.int .i64 r.qh)
 c1:c[o+1]?=some (.int .i64 r.vars)
 c2:c[o+2]?=some (.int .i64 r.head.pred)
 c3:c[o+3]?=some P.tv
 c4:c[o+4]?=some P.pv
 c5:c[o+5]?=some P.nv
 c6:c[o+6]?=some P.vv
 c7:c[o+7]?=some P.ntv
theorem QS.at{b o:Nat}{T:TypeId}{c:Array Value}{r:zr}{P:yU}(h:QS c o r P)(d:OZ w b c T):WC w b o r P:=by
 obtain⟨a,e⟩:=d.rules;exact⟨d.lt,e,(a _).trans h.c0,(a _).trans h.c1,(a _).trans h.c2,(a _).trans h.c3,(a _).trans h.c4,(a _).trans h.c5,(a _).trans h.c6,(a _).trans h.c7⟩
theorem ug.mod{ok:TypeId->zn->Prop}{w f:World}{own c:Nat->zn}{k wd:Nat}{W:yb}{P:yU}(h:ug lo w own k wd W P)(m:Pe lo ok w own f c)(e:∀ρ,¬ok 284 ρ)(n:∀ρ,¬ok 204 ρ)(o:¬ok 301 (k+1,0,9))(l:∀ρ,¬ok 162 ρ)(g:∀i j t,¬PU t->¬ok t (k+1,i,j)):ug lo f c k wd W P:=
 ⟨h.rule.mod m e n,pz h.qm m fun b d=>by rw[h.vrole b d];exact o,h.vlen,fun i a b=>(h.view i a b).mod m (g i) e,fun b d=>by rw[m.old b (yO h.qm d)];exact h.vrole b d,vd h.qp m l,h.nlen,h.few⟩
theorem lL{t:TypeId}(a:PU t)(h:t∉[214,161,165,310,323]):∀ρ,¬kd p t ρ:=fun ρ q=>by
 rcases q with (q|q|q|q)|q
 ·exact q.1 a
 ·subst q;exact h (by decide)
 ·subst q;exact h (by decide)
 ·rw[q.1] at h;exact h (by decide)
 ·rcases zw.1 q with rfl|q
  ·exact h (by decide)
  ·rcases zw.1 q with rfl|q
   ·exact h (by decide)
   ·cases q
theorem In{t:TypeId}{ρ:zn}(a:¬PU t)(h:ρ≠(0,p,0)):¬kd p t ρ:=fun q=>by
 rcases q with (q|q|q|q)|q
 ·exact h q.2
 ·subst q;exact a (by decide)
 ·subst q;exact a (by decide)
 ·rw[q.1] at a;exact a (by decide)
 ·rcases zw.1 q with rfl|q
  ·exact a (by decide)
  ·rcases zw.1 q with rfl|q
   ·exact a (by decide)
   ·cases q
theorem ug.all{b:World}{own a:Nat->zn}{k wd:Nat}{W:yb}{P:yU}(h:ug lo w own k wd W P)(m:Pe lo (kd p) w own b a):ug lo b a k wd W P:=
 h.mod m (lL (by decide) (by decide)) (lL (by decide) (by decide)) (lL (by decide) (by decide) _) (lL (by decide) (by decide)) (fun _ _ _ c=>In c (by simp))
def gy(a:List Nat)(n:Nat)(r:zr)(b:List Nat):Prop:=∀i (d:i<r.qp.length) (c:i<b.length),r.qp[i].pred≠r.head.pred/\r.qp[i].pred<n/\∃e:r.qp[i].pred<a.length,b[i]=a[r.qp[i].pred]
theorem Ds(wd:Nat)(R:zx)(r:zr):(j0 wd R r).length=r.qp.length:=by simp[j0]
theorem gy.tries{w:World}{own:Nat->zn}{d:Nat}{R:zx}{wd mr mx:Nat}{Q:ua}{r:zr}{a:List Nat}(h:gy Q.tbs R.rows.length r a)(f:zU lo w own d R wd mr mx Q)(m:a.length=r.qp.length):∀i (g:i<(j0 wd R r).length) (b:i<a.length),∃ρ,ρ≠(0,r.head.pred,0)/\yN lo w own ρ a[i] (j0 wd R r)[i]:=by
 intro i g b;obtain⟨k,c,j,l⟩:=h i (by omega) b;refine⟨(0,r.qp[i].pred,0),by simp[k],?_⟩;have e:(j0 wd R r)[i]=R.rows[r.qp[i].pred]:=by
  simp only[j0,vO,fT];rw[za (by omega)];simp[c]
 rw[e,l];exact f.tries _ c j
theorem eC{mr:Nat}{R R':zx}{row:zk}{b:Bool}(h:kN mr R p row=some (R',b)):R'.rows.length=R.rows.length:=by
 obtain⟨_,_,_,_,_,a⟩:=iH h;rcases a with⟨_,rfl,_⟩|⟨_,rfl,_⟩<;>simp
theorem pw{mr p:Nat}:∀(n:Nat) (R R':zx) (J:z9) (b:Bool),qL mr p n R J=some (R',b)->R'.rows.length=R.rows.length
 |0,R,R',J,b,h=>by simp[qL] at h
 |n+1,R,R',J,b,h=>by
  unfold qL at h;cases e:mq n J with
  |none=>rw[e] at h;cases h
  |some i=>
   obtain⟨c,g⟩:=i;rw[e] at h;cases g with
   |false=>
    simp only[zs,yo] at h;rw[←h.1]
   |true=>
    dsimp only at h;cases a:kN mr R p (zG c.head c.qy) with
    |none=>rw[a] at h;cases h
    |some d=>
     obtain⟨j,f⟩:=d;rw[a] at h;cases f with
     |false=>
      simp only[zs,yo] at h;rw[←h.1];exact eC a
     |true=>exact(pw n j R' c b h).trans (eC a)
attribute [local go_sem] rt
theorem jz.laid{J:z9}{a:xr}(h:jz lo w J a)(i:lo<=w.heap.size):P2 lo (kF (w.alloc (.cells (bj 0 0 0 none none 0 0 0 0).toArray 310)) w.heap.size (um J a)) w.heap.size J a/\Below w.heap.size w (kF (w.alloc (.cells (bj 0 0 0 none none 0 0 0 0).toArray 310)) w.heap.size (um J a)):=by
 have b:Below w.heap.size w (w.alloc (.cells (bj 0 0 0 none none 0 0 0 0).toArray 310)):=(zo _ _).alloc (zh _) _;have f:=pd w 0 0 0 none none 0 0 0 0;have c:=n6 f (pn J a h.hlen.1 h.jk);have e:=ry (w.alloc (.cells (bj 0 0 0 none none 0 0 0 0).toArray 310)) w.heap.size (um J a);obtain⟨j,d,_⟩:=f;exact⟨((h.below b).saveJ e (Px.box d)).join i c,b.trans (e.below (fun x g=>by simp at g;omega) (by simp))⟩
theorem LF(w:World)(own:Nat->zn)(A B o k:Nat)(c:Array Value)(R R':zx)(W:yb)(P:yU)(wd mr mx:Nat)(Q:ua)(n:Nat)(b:Bool)(h:zU lo w own A R wd mr mx Q)(Y:ug lo w own k wd W P)(q:OZ w B c 292)(t:QS c o W.rule P)(N:gy Q.tbs R.rows.length W.rule P.nbs)(x:lo<=w.heap.size)(hr:dM n wd mr true R W=some (R',b)):
  Calls prog 193 #[.pointer (some ⟨A,0,none⟩),.pointer (some ⟨B,o,none⟩),.bool true] w fun e w'=>tJ lo w own A W.rule.head.pred R' b wd mr mx Q e w':=by
 have K:=hr;have E:=OY (Nf w own k wd W.rule.head.pred B o W P _ Y (t.at q) x (Ds _ _ _) (N.tries h Y.nlen));have H:=OY fun W0 jb s l hj T=>B9 W0 own A jb R R' _ s wd mr mx Q W.rule.head.pred n b (h.below l) hj T (by have:=l.size;omega) K;have L:=t.at q;have m:=OY L;have I:=OY x;generalize xF W.rule (W.qm.map (·.all)) (j0 wd R W.rule)=J at *;generalize D:W.rule.head.pred=p at *;have G:=OY D;go_enter func193,ntmps193;go_upto_region 3 with (first|(go_at_call 207;refine E.out.mono ?_;rintro e i ⟨s,rfl,d,y,g⟩;have aa:Below i.heap.size i (i.alloc (.cells (bj 0 0 0 none none 0 0 0 0).toArray 310)):=(by go_grown);have ac:=rV d (pd i 0 0 0 none none 0 0 0 0);have X:=pn J s d.hlen.1 d.jk;have M:=OY d;have F:=OY y;clear d y;generalize u:um J s=cs at *;have O:=OY u;clear u))
 have V:=zT I.out g.size;have a:=M.out.laid V;rw[O.out] at a;obtain⟨U,S⟩:=a;generalize kF (i.alloc (.cells (bj 0 0 0 none none 0 0 0 0).toArray 310)) i.heap.size cs=Z at *;have f:=g.trans (S.mono g.size);have ab:Z.cell? ⟨B,o+2,none⟩=some (.int .i64 p):=by rw[←G.out];exact(f.cell m.out.lt).trans m.out.c2
 have j:=H.out Z _ s f U F.out;have C:=OY f;go_wp2_with (first|(go_at_call 208;refine j.mono ?_;rintro e w4 ⟨rfl,z,r,v,hm⟩))
 go_ret;exact⟨rfl,z,r,v,(Pe.of own C.out).trans hm⟩
end
section
open Go.Proofs.Tryz
variable {lo:Nat}
attribute [local go_sem] rt
theorem EM(w:World)(own:Nat->zn)(rb gw o k:Nat)(c:Array Value)(R R':zx)(W:yb)(P:yU)(wd mr mx:Nat)(Q:ua)(n:Nat)(b:Bool)(h:zU lo w own rb R wd mr mx Q)(hw:ug lo w own k wd W P)(O:OZ w gw c 292)(Y:QS c o W.rule P)(ah:gy Q.tbs R.rows.length W.rule P.nbs)(ag:lo<=w.heap.size)(hr:dM n wd mr false R W=some (R',b)):
  Calls prog 193 #[.pointer (some ⟨rb,0,none⟩),.pointer (some ⟨gw,o,none⟩),.bool false] w fun e w'=>tJ lo w own rb W.rule.head.pred R' b wd mr mx Q e w':=by
 have az:Hid (kw n wd mr W (W.qm.length-0) 0 R=some (R',b)):=hr;have HH:=OY h;have aM:=OY hw;have aJ:=OY O;have ai:=OY Y;have aH:=OY ah;have aG:=OY ag;have aR:=hw.few;obtain⟨aT,aQ,aa⟩:=zq hw.qm;have aE:=OY aa;have X:=Y.at O;have aU:=X.lt;have aK:=X.c6;rw[aa] at aK;clear hr h hw O Y ah ag aa X;go_enter func193,ntmps193;go_upto_region 5 with fail
 go_loopw [27] (fun aA wr=>∃m:Nat,m<=W.qm.length/\aA=.int .i64 m/\∃B a E,Hid (zU lo wr a rb B wd mr mx ⟨Q.rv,Q.tbs,Q.fv,E⟩)/\Hid (Pe lo (kd W.rule.head.pred) w own wr a)/\Hid (B.rows.length=R.rows.length)/\Hid (kw n wd mr W (W.qm.length-m) m B=some (R',b))) (fun i _=>W.qm.length-(intOf i).toNat)
 case atStart=>exact⟨0,zv _,rfl,R,own,Q.fvs,HH,Pe.refl _ _,rfl,az⟩
 case round=>
  clear az;obtain⟨m,hm,rfl,B,a,E,I,g,V,ax⟩:=hrel;have af:=g.out.size;have z:=zT aG.out af;by_cases G:m<W.qm.length
  ·have S:=OY (aM.out.all g.out);have ay:=OY (aJ.out.mod g.out (lL (by decide) (by decide) _));have D:=S.out;have av:m<P.vps.length:=by rw[D.vlen];exact G
   obtain⟨gv,aL,r,aW,q0,q1,q2,q3,q4,q5⟩:=D.viewAt m G av;rw[aE.out] at r;simp only[Value.slice.injEq] at r;have a7:=r.1;clear r;subst a7;have ab:=D.view m G av;obtain⟨a2,L,hq⟩:=ab.qg.qw;rw[hq] at q1;have d:=ax.out;rw[show W.qm.length-m=(W.qm.length-(m+1))+1 from by omega] at d;unfold kw at d;rw[show W.qm.getD m ⟨⟨0,[]⟩,zi.zero,zi.zero,zi.zero⟩=W.qm[m] by simp[List.getD,G]] at d;obtain⟨aI,am,_⟩:=ab.qo;have a4:=OY fun H hb=>Ev H _ _ aI (am.below hb);have l:=(ai.out.at ay.out);have a8:=l.lt;have aS:(m:Int)<(W.qm.length:Int):=by omega
   clear am ab hq D;by_cases ae:W.qm[m].qo.count>0
   ·rw[zb ae] at d;cases ha:qL mr W.rule.head.pred n B (xF W.rule (Py W.qm m) (j0 wd B W.rule)) with
    |none=>rw[ha] at d;cases d
    |some ar=>
     obtain⟨R3,b3⟩:=ar;rw[ha] at d;have A:=pw _ _ _ _ _ ha;have aP:=OY (A.trans V.out);have ap:Hid (∀H,Below wr.heap.size wr H->Calls prog 210 #[.pointer (some ⟨gw,o,none⟩),.int .i64 m] H fun e w'=>mm lo H a W.rule.head.pred (xF W.rule (Py W.qm m) (j0 wd B W.rule)) e w'):=fun H hb=>by
      have aO:=Pe.of (lo:=lo) (ok:=kd W.rule.head.pred) a hb;exact Mq H a k wd W.rule.head.pred gw o m W P _ (S.out.all aO) ((ai.out.at ay.out).below hb) (zT z hb.size) (by omega) (Ds _ _ _) (gy.tries (by rw[V.out];exact aH.out) (I.out.below hb) S.out.nlen)
     have al:=OY fun H jb PJ ak hj aC=>B9 H a rb jb B R3 _ PJ wd mr mx _ W.rule.head.pred n b3 (I.out.below ak) hj aC (zT z ak.size) ha;have aN:=OY l.c2;clear l ha A;generalize xF W.rule (Py W.qm m) (j0 wd B W.rule)=J at *;have aF:(0:Int)<(W.qm[m].qo.count:Nat):=by omega
     have s:Hid ((match (some (R3,b3):Option (zx×Bool)) with|none=>none|some (R,false)=>some (R,false)|some (R,true)=>kw n wd mr W (W.qm.length-(m+1)) (m+1) R)=some (R',b)):=d;clear d;generalize W.qm[m].qo.count=ct at *;generalize W.qm[m].lit.pred=vp at *;generalize W.qm[m].lit.qg.length=vt at *;generalize P.vps[m].bb=ad at *;generalize P.vps[m].fb=U at *;generalize P.vps[m].ab=T at *;generalize aw:W.rule.head.pred=p at *;have a9:=OY aw;clear aw;have f:Below wr.heap.size wr (wr.alloc (.cells #[.int .i64 vp,.slice a2 vt L,.int .i64 wd,.pointer (some ⟨ad,0,none⟩),.pointer (some ⟨U,0,none⟩),.pointer (some ⟨T,0,none⟩)] 301)):=(by go_grown);have j:=OY f;clear f;go_upto_region 9 with (first|(go_at_call 209;refine(a4.out _ j.out).mono ?_;rintro e F ⟨rfl,M⟩;obtain rfl:=M.symm)|(go_at_call 210;refine(ap.out _ j.out).mono ?_;rintro e F ⟨PJ,rfl,u,ao,aq⟩;have ac:=Pc j.out aq;clear aq;have aB:Below F.heap.size F (F.alloc (.cells (bj 0 0 0 none none 0 0 0 0).toArray 310)):=(by go_grown);have aD:=rV u (pd F 0 0 0 none none 0 0 0 0);have a0:=pn J PJ u.hlen.1 u.jk;have an:=OY u;have au:=OY ao;clear u ao;generalize a3:um J PJ=cs at *;have a1:=OY a3;clear a3))
     have y:=an.out.laid (zT z ac.size);rw[a1.out] at y;obtain⟨a6,a5⟩:=y;generalize kF (F.alloc (.cells (bj 0 0 0 none none 0 0 0 0).toArray 310)) F.heap.size cs=W3 at *;have C:=Pc ac a5;have aV:=zl C a8 aN.out;have K:=al.out W3 _ PJ C a6 au.out;have aj:=OY C;clear a6 a5 C an au a1 aD a0 aB al ap ac;generalize F.heap.size=jb at *;cases b3 with
     |false=>
      have N:Hid (R3=R'/\false=b):=by have q:=s.out;simp only[zs,yo] at q;exact q
      go_wp2_with (first|(go_at_call 208;refine K.mono ?_;rintro e w4 ⟨rfl,x,t,v,Z⟩))
      go_ret;exact⟨by rw[←N.out.2];rfl,x,t,by rw[←N.out.1];exact v,by rw[a9.out];exact g.out.trans ((Pe.of a aj.out).trans Z)⟩
     |true=>
      have N:Hid (kw n wd mr W (W.qm.length-(m+1)) (m+1) R3=some (R',b)):=s.out;clear s;go_wp2_with (first|(go_at_call 208;refine K.mono ?_;rintro e w4 ⟨rfl,x,t,v,Z⟩))
      exact⟨⟨m+1,by omega,by go_num,R3,x,t,v,g.out.trans ((Pe.of a aj.out).trans Z),aP,N⟩,by simp[intOf];omega⟩
   ·rw[za ae] at d;have s:=OY d;clear d l;have aF:¬(0:Int)<(W.qm[m].qo.count:Nat):=by omega
    generalize W.qm[m].qo.count=ct at *;generalize W.qm[m].lit.pred=vp at *;generalize W.qm[m].lit.qg.length=vt at *;generalize P.vps[m].bb=ad at *;generalize P.vps[m].fb=U at *;generalize P.vps[m].ab=T at *;have f:Below wr.heap.size wr (wr.alloc (.cells #[.int .i64 vp,.slice a2 vt L,.int .i64 wd,.pointer (some ⟨ad,0,none⟩),.pointer (some ⟨U,0,none⟩),.pointer (some ⟨T,0,none⟩)] 301)):=(by go_grown);have j:=OY f;clear f;go_wp2_with (first|(go_at_call 209;refine(a4.out _ j.out).mono ?_;rintro e F ⟨rfl,M⟩;obtain rfl:=M.symm))
    exact⟨⟨m+1,by omega,by go_num,B,a,E,I.out.below j.out,g.out.trans (Pe.of a j.out),V,s⟩,by simp[intOf];omega⟩
  ·obtain rfl:m=W.qm.length:=by omega
   have d:=ax.out;rw[jK] at d;simp only[kw,zs,yo] at d;have N:=OY d;clear d;go_wp2;go_ret;exact⟨by rw[←N.out.2];rfl,a,E,by rw[←N.out.1];exact I.out,g.out⟩
theorem Mt(w:World)(own:Nat->zn)(a j o k:Nat)(c:Array Value)(R R':zx)(W:yb)(P:yU)(wd mr mx:Nat)(Q:ua)(n:Nat)(first b:Bool)(h:zU lo w own a R wd mr mx Q)(l:ug lo w own k wd W P)(g:OZ w j c 292)(d:QS c o W.rule P)(f:gy Q.tbs R.rows.length W.rule P.nbs)(i:lo<=w.heap.size)(m:dM n wd mr first R W=some (R',b)):
  Calls prog 193 #[.pointer (some ⟨a,0,none⟩),.pointer (some ⟨j,o,none⟩),.bool first] w fun e p=>tJ lo w own a W.rule.head.pred R' b wd mr mx Q e p:=by
 cases first with
 |true=>exact LF w own a j o k c R R' W P wd mr mx Q n b h l g d f i m
 |false=>exact EM w own a j o k c R R' W P wd mr mx Q n b h l g d f i m
end
section
open Go.Proofs.Tryz
variable {lo:Nat}{k wd cap:Nat}{c:Array Value}{w w':World}{own':Nat->zn}{xs:List Value}
def dY(k:Nat):TypeId->zn->Prop:=fun t ρ=>(¬PU t/\∃i j,ρ=(k+1,i,j))∨(t=301/\ρ=(k+1,0,9))
theorem G3{i:Nat}{t:TypeId}{ρ:zn}(h:fj k i (k+1,0,9) t ρ):dY k t ρ:=by
 rcases h with⟨b,j,a⟩|h
 ·exact zf ⟨b,i,j,a⟩
 ·exact ze h
theorem l5{t:TypeId}(h:PU t)(a:t≠301):∀ρ,¬dY k t ρ:=fun ρ q=>by
 rcases q with q|q
 ·exact q.1 h
 ·exact a q.1
theorem nB{t:TypeId}{a b c:Nat}(h:a≠k+1):¬dY k t (a,b,c):=fun q=>by
 rcases q with⟨_,i,j,q⟩|⟨_,q⟩<;>simp at q<;>omega
theorem kH{i:Nat}{ρg:zn}{t:TypeId}(h:PU t)(a:t≠301):∀ρ,¬fj k i ρg t ρ:=fun ρ q=>by
 rcases q with q|q
 ·exact q.1 h
 ·exact a q.1
theorem zU.work{own:Nat->zn}{a:Nat}{R:zx}{mr mx:Nat}{Q:ua}(h:zU lo w own a R wd mr mx Q)(m:Pe lo (dY k) w own w' own'):zU lo w' own' a R wd mr mx Q:=
 h.mod m (l5 (by decide) (by decide)) (l5 (by decide) (by decide)) (l5 (by decide) (by decide)) (fun _=>nB (by omega)) (fun _ _ _=>nB (by omega))
theorem FO{b:Nat}{e:TypeId}{a g n m:Nat}(h:w.ownsRow b e a (.slice (some ⟨g,0,none⟩) n cap) m xs)(o:w'.heap[g]?=w.heap[g]?):w'.ownsRow b e a (.slice (some ⟨g,0,none⟩) n cap) m xs:=by
 obtain⟨p,i⟩:=h;refine⟨p,?_⟩;rcases i with i|⟨s,d,j,f,r,q,l⟩
 ·exact zf i
 ·refine ze ⟨s,d,j,f,r,?_,l⟩;simp at f;rw[←f.1,o,f.1];exact q
theorem Fa{b:Nat}{e:TypeId}{a g n m:Nat}(h:w.ownsRow b e a (.slice (some ⟨g,0,none⟩) n cap) m xs)(f:OZ w g c e)(j:Nat)(i:j<xs.length)(u:Value)(d:OZ w' g (c.setIfInBounds j u) e):w'.ownsRow b e a (.slice (some ⟨g,0,none⟩) n cap) m (xs.set j u):=by
 refine FO (uK h j i u) ?_;unfold OZ at d f;rw[d];simp[World.setCell,Array.getElem?_modify,f]
theorem CT(wd:Nat):∀(vs:List yL) (ps:List jr),ps.length=vs.length->(vP wd vs ps).length=6*vs.length
 |[],[],_=>rfl
 |[],_::_,h=>by simp at h
 |_::_,[],h=>by simp at h
 |v::vs,p::ps,h=>by
  have:=CT wd vs ps (by simpa using h);simp only[vP,ly,lV,yz] at this ⊢;rw[this];simp[kI];omega
theorem Ag(wd:Nat):∀(vs:List yL) (ps:List jr) (i:Nat) (_:i<vs.length) (b:i<ps.length) (V:yL) (a:Nat),V.lit=(vs.getD i V).lit->vP wd (vs.set i V) (ps.set i ⟨ps[i].tv,ps[i].bb,a,ps[i].ab⟩)=(vP wd vs ps).set (i*6+4) (.pointer (some ⟨a,0,none⟩))
 |[],_,i,d,_,_,_,_=>by simp at d
 |v::vs,[],i,_,b,_,_,_=>by simp at b
 |v::vs,p::ps,0,_,_,V,a,h=>by
  simp at h;simp[vP,kI,h,pt]
 |v::vs,p::ps,i+1,d,b,V,a,h=>by
  have:=Ag wd vs ps i (by simpa using d) (by simpa using b) V a (by simpa using h);simp only[vP,p8,ly,lV,mC] at this ⊢;rw[this,List.set_append,za (by simp[kI];omega)];congr 2;simp[kI];omega
def uM{α:Type}(a vs:List α)(m:Nat):List α:=a.take m++vs.drop m
theorem sV{α:Type}{a vs:List α}(h:a.length=vs.length)(m:Nat)(b:m<=vs.length):(uM a vs m).length=vs.length:=by simp[uM];omega
theorem o9{α:Type}{a vs:List α}(h:a.length=vs.length)(m:Nat)(d:m<vs.length)(b:m<(uM a vs m).length):(uM a vs m)[m]=vs[m]:=by
 simp only[uM];rw[lK (by simp;omega)];simp[show min m a.length=m by omega]
theorem DG{α:Type}{a vs:List α}(h:a.length=vs.length)(m:Nat)(g:m<vs.length)(b:m<a.length):(uM a vs m).set m a[m]=uM a vs (m+1):=by
 have d:=xg g;have f:a.take (m+1)=a.take m++[a[m]]:=by rw[yM b]
 have e:(a.take m).length=m:=by simp;omega
 show(a.take m++vs.drop m).set m a[m]=a.take (m+1)++vs.drop (m+1);rw[d,f,List.set_append,za (by omega),e,jK,rp,ki];rfl
theorem AA{f:Nat}{V b:yL}{a:List zk}(h:fL f wd V a=some b):b.lit=V.lit:=by
 obtain⟨_,_,_,_,_,_,_,_,e⟩:=A9 h;rw[e]
theorem DD{f wd:Nat}{b:List (List zk)}:∀{vs a:List yL},lD f wd b vs=some a->a.length=vs.length/\∀i (j:i<vs.length) (g:i<a.length),if vs[i].lit.pred<b.length then fL f wd vs[i] (b.getD vs[i].lit.pred [])=some a[i] else a[i]=vs[i]
 |[],a,h=>by
  simp[lD] at h;subst h;exact⟨rfl,fun i h=>by simp at h⟩
 |V::vs,a,h=>by
  unfold lD at h;split at h
  ·rename_i v m d l;simp at h;subst h;obtain⟨o,n⟩:=DD l;refine⟨by simp[o],fun i j g=>?_⟩;match i,j,g with
   |0,_,_=>
    simp only[kK];by_cases e:V.lit.pred<b.length
    ·rw[zb e] at d ⊢;exact d
    ·rw[za e] at d ⊢;simpa using d.symm
   |i+1,j,g=>
    simp only[mC];exact n i (by simpa using j) (by simpa using g)
  ·cases h
theorem ug.renewed{own:Nat->zn}{i g f:Nat}{W:yb}{P:yU}{l:yL}(h:ug lo w own k wd W P)(u:i<W.qm.length)(x:i<P.vps.length)(p:P.vv=.slice (some ⟨g,0,none⟩) W.qm.length cap)(z:OZ w g c 301)(A:l.lit=W.qm[i].lit)(v:vn lo w' own' k i l ⟨P.vps[i].tv,P.vps[i].bb,f,P.vps[i].ab⟩)(y:OZ w' g (c.setIfInBounds (i*6+4) (.pointer (some ⟨f,0,none⟩))) 301)(m:Pe lo (fj k i (k+1,0,9)) w own w' own'):ug lo w' own' k wd ⟨W.rule,W.qm.set i l⟩ {P with vps:=P.vps.set i ⟨P.vps[i].tv,P.vps[i].bb,f,P.vps[i].ab⟩}:=by
 refine⟨h.rule.mod m (kH (by decide) (by decide)) (kH (by decide) (by decide)),?_,by simp[h.vlen],fun j a b=>?_,fun b d=>(m.old b (yO h.qm d)).trans (h.vrole b d),vd h.qp m (kH (by decide) (by decide)),h.nlen,by simpa using h.few⟩
 ·have r:=h.qm;dsimp only;rw[p] at r ⊢;rw[la];have e:=Ag wd W.qm P.vps i u x l f (by simp[List.getD,u,A]);have s:=CT wd W.qm P.vps h.vlen;have q:=Fa r z (i*6+4) (by omega) (.pointer (some ⟨f,0,none⟩)) y;rw[←e] at q;exact q
 ·simp only[la] at a b;simp only[m5];by_cases e:i=j
  ·subst e;rw[zb rfl,zb rfl];exact v
  ·rw[za e,za e];refine(h.view j a b).mod m (fun q t B n=>?_) (kH (by decide) (by decide));rcases n with⟨_,C,n⟩|⟨o,n⟩
   ·simp at n;omega
   ·subst o;exact B (by decide)
def GG(lo:Nat)(w:World)(own:Nat->zn)(k wd:Nat)(W:yb)(b:List yL)(P:yU)(e:Ending)(w':World):Prop:=e=.returned (.tuple #[])/\∃own' a,ug lo w' own' k wd ⟨W.rule,b⟩ ⟨P.tv,P.pv,P.nv,P.vv,P.ntv,a,P.nbs⟩/\Pe lo (dY k) w own w' own'
theorem NS(w:World)(own:Nat->zn)(rb gw o k:Nat)(c:Array Value)(R:zx)(W:yb)(f:List yL)(P:yU)(wd mr mx:Nat)(Q:ua)(ad:Nat)(h:zU lo w own rb R wd mr mx Q)(hw:ug lo w own k wd W P)(ag:OZ w gw c 292)(ak:QS c o W.rule P)(az:lo<=w.heap.size)(a3:∀l∈R.qo,l.length<=1048577)(hr:lD ad wd R.qo W.qm=some f):
  Calls prog 194 #[.pointer (some ⟨gw,o,none⟩),Q.fv] w fun e w'=>GG lo w own k wd W f P e w':=by
 obtain⟨a9,aw⟩:=DD hr;have F:=OY a9;have aP:=OY aw;have HH:=OY h;have aM:=OY hw;have aI:=OY ag;have a1:=OY ak;have aF:=OY az;have aH:=OY a3;have aQ:=hw.few;have aZ:=h.few.2.1;obtain⟨aX,x,ap⟩:=zq hw.qm;have C:=OY ap;obtain⟨aU,aS,ah⟩:=zq h.qo;have a4:=OY ah;have aj:=ak.at ag;have aY:=aj.lt;have a6:=aj.c6;rw[ap] at a6;rw[ah];clear hr h hw ag ak az ap aj a9 aw a3 ah;go_enter func194,ntmps194;go_upto_region 1 with fail
 go_loopw [11] (fun aE wr=>∃m:Nat,m<=W.qm.length/\aE=.int .i64 m/\∃d a,Hid (ug lo wr d k wd ⟨W.rule,uM f W.qm m⟩ ⟨P.tv,P.pv,P.nv,P.vv,P.ntv,a,P.nbs⟩)/\Hid (Pe lo (dY k) w own wr d)) (fun i _=>W.qm.length-(intOf i).toNat)
 case atStart=>exact⟨0,zv _,rfl,own,P.vps,aM.out,Pe.refl _ _⟩
 case round=>
  obtain⟨m,hm,rfl,d,a,G,D⟩:=hrel;have ay:=D.out.size;have aA:=zT aF.out ay;by_cases N:m<W.qm.length
  ·have H:=G.out;have t:m<(uM f W.qm m).length:=by rw[sV F.out m hm];exact N
   have a5:m<f.length:=by rw[F.out];exact N
   have v:=o9 F.out m N t;have Y:=DG F.out m N a5;have ac:m<a.length:=by have:=H.vlen;dsimp only at this;omega
   obtain⟨gv,aL,p,E,q0,q1,q2,q3,q4,q5⟩:=H.viewAt m t ac;dsimp only at p q0 q1 q2 q3 q4 q5;rw[C.out] at p;simp only[Value.slice.injEq] at p;have af:=p.1;clear p;subst af;obtain⟨T,r,hq⟩:=(H.view m t ac).qg.qw;dsimp only at hq;rw[hq] at q1;rw[v] at q0 q1;have aT:(m:Int)<(W.qm.length:Int):=by omega
   have ao:=OY (aI.out.mod D.out (l5 (by decide) (by decide) _));have ax:wr.cell? ⟨gw,o+6,none⟩=some (.slice (some ⟨gv,0,none⟩) W.qm.length x):=by rw[←C.out];exact(a1.out.at ao.out).c6
   have aB:=ao.out.lt;have j:=aP.out m N a5;have aV:¬(W.qm[m].lit.pred:Int)<0:=by omega
   by_cases L:W.qm[m].lit.pred<R.qo.length
   ·rw[zb L] at j;have aN:=OY (HH.out.work D.out);have B:=aN.out;have a0:W.qm[m].lit.pred<Q.fvs.length:=by rw[B.flen];exact L
    obtain⟨gf,aO,z,_,a7,au⟩:=y7 B.qo (by omega);rw[a4.out] at z;simp only[Value.slice.injEq] at z;have af:=z.1;clear z;subst af;have y:=au W.qm[m].lit.pred _ (yq a0);have K:=(B.jl _ L a0).1;obtain⟨am,O,ab⟩:=zq K.1;have ai:R.qo[W.qm[m].lit.pred].length<=1048577:=aH.out _ (zu _);rw[show R.qo.getD W.qm[m].lit.pred []=R.qo[W.qm[m].lit.pred] by simp[List.getD,L]] at j;have a8:Hid (∀U,Below wr.heap.size wr U->OZ U wr.heap.size #[.int .i64 (W.qm[m].lit.pred:Nat),.slice T W.qm[m].lit.qg.length r,.int .i64 wd,.pointer (some ⟨a[m].bb,0,none⟩),.pointer (some ⟨a[m].fb,0,none⟩),.pointer (some ⟨a[m].ab,0,none⟩)] 301->Calls prog 206 #[.pointer (some ⟨gv,m*6,none⟩),.slice am R.qo[W.qm[m].lit.pred].length O] U fun e w'=>e=.returned (.tuple #[])/\w'.cell? ⟨gw,o+6,none⟩=some (.slice (some ⟨gv,0,none⟩) W.qm.length x)/\w'.cell? ⟨wr.heap.size,0,none⟩=some (.int .i64 (W.qm[m].lit.pred:Nat))/\w'.cell? ⟨gf,W.qm[m].lit.pred,none⟩=some (.slice am R.qo[W.qm[m].lit.pred].length O)/\Hid (∃own' V,ug lo w' own' k wd ⟨W.rule,uM f W.qm (m+1)⟩ ⟨P.tv,P.pv,P.nv,P.vv,P.ntv,V,P.nbs⟩/\Pe lo (dY k) w own w' own')):=fun U u M=>by
     have a2:Pe lo (fun _ _=>False) wr d U (ext d wr.heap.size (0,0,5)):=Pe.extNew d (0,0,5) u;have Z:=G.out.mod a2 (fun _=>id) (fun _=>id) id (fun _=>id) (fun _ _ _ _=>id);have av:=ao.out.below u;have aa:=Z.qm;dsimp only at aa;rw[C.out] at aa;obtain⟨cg,aq⟩:=qr aa rfl;have al:=Z.vrole gv (by dsimp only;rw[C.out];rfl);obtain⟨n,_⟩:=aq.rules;obtain⟨cf,ae⟩:=qr (zE B.qo u) (b:=gf) (by rw[a4.out];rfl);have aK:VC cg (m*6) wd W.qm[m].lit.pred a[m].tv a[m].bb a[m].fb a[m].ab:=⟨(n _).symm.trans ((u.cell E).trans q0),(n _).symm.trans ((u.cell E).trans (by rw[q1,hq,v])),(n _).symm.trans ((u.cell E).trans q2),(n _).symm.trans ((u.cell E).trans q3),(n _).symm.trans ((u.cell E).trans q4),(n _).symm.trans ((u.cell E).trans q5)⟩;have an:=Z.view m t ac;dsimp only at an;rw[v] at an;have q:=Bq U _ k m gv (m*6) wd ad cg W.qm[m] f[m] a[m] _ _ aq aK an (K.below' u) (yW aa rfl) (zT aA u.size) B.small.1 ai j;rw[ab] at q;refine q.mono ?_;rintro e w' ⟨rfl,aW,own',aJ,aD,A⟩;rw[al] at A;have ar:=Z.renewed (W:=⟨W.rule,uM f W.qm m⟩) t ac (cap:=x) (by dsimp only;rw[C.out,sV F.out m hm]) aq (by dsimp only;rw[v];exact AA j) aJ aD A;dsimp only at ar;rw[Y] at ar;have c1:=av.mod A (kH (by decide) (by decide) _);have c2:=M.mod A (fun q=>by rcases q with⟨q,_⟩|⟨_,q⟩;exact q (by decide);simp[ext] at q);have c3:=ae.mod A (kH (by decide) (by decide) _);refine⟨rfl,?_,?_,?_,own',_,ar,(D.out.trans (a2.more fun _ _ q=>q.elim)).trans (A.more fun _ _ q=>G3 q)⟩
     ·rw[←C.out];exact(a1.out.at c1).c6
     ·rw[c2.rules.1];rfl
     ·rw[c3.rules.1,←ae.rules.1,u.cell a7,y,ab]
    rw[ab] at y;have aR:=ai;clear ab K au B j hq H ai v Y t;generalize R.qo[W.qm[m].lit.pred].length=rl at *;have aG:(W.qm[m].lit.pred:Int)<(R.qo.length:Int):=by omega
    generalize W.qm[m].lit.pred=vp at *;generalize W.qm[m].lit.qg.length=vt at *;generalize a[m].bb=X at *;generalize a[m].fb=J at *;generalize a[m].ab=I at *;go_upto_region 4 with fail
    have g:Below wr.heap.size wr (wr.alloc (.cells #[.int .i64 vp,.slice T vt r,.int .i64 wd,.pointer (some ⟨X,0,none⟩),.pointer (some ⟨J,0,none⟩),.pointer (some ⟨I,0,none⟩)] 301)):=(by go_grown);have M:=OZ.new wr #[.int .i64 vp,.slice T vt r,.int .i64 wd,.pointer (some ⟨X,0,none⟩),.pointer (some ⟨J,0,none⟩),.pointer (some ⟨I,0,none⟩)] 301;generalize aC:wr.alloc (.cells #[.int .i64 vp,.slice T vt r,.int .i64 wd,.pointer (some ⟨X,0,none⟩),.pointer (some ⟨J,0,none⟩),.pointer (some ⟨I,0,none⟩)] 301)=W1 at *;clear aC;have x1:=zl g aB ax;have x2:=zl g a7 y;have x3:W1.cell? ⟨wr.heap.size,0,none⟩=some (.int .i64 vp):=by rw[M.rules.1];rfl
    clear a6 ax y q0 q1 q2 q3 q4 q5;go_region_held3 (fun w'=>w'.cell? ⟨gw,o+6,none⟩=some (.slice (some ⟨gv,0,none⟩) W.qm.length x)/\w'.cell? ⟨wr.heap.size,0,none⟩=some (.int .i64 vp)/\w'.cell? ⟨gf,vp,none⟩=some (.slice am rl O)) (first|go_keep|(go_simp;done)) (first|(go_at_call 206;refine(a8.out _ (by exact(zI g 1)) (OZ.drew M)).mono ?_;rintro e w2 ⟨rfl,y1,y2,y3,HX⟩))
    clear x1 x2 x3 y1 y2 y3 M g a8;go_wp2;obtain⟨own',V,z1,z2⟩:=HX.out;exact⟨⟨m+1,by omega,by go_num,own',V,z1,z2⟩,by simp[intOf];omega⟩
   ·rw[za L] at j;have s:uM f W.qm (m+1)=uM f W.qm m:=by rw[←Y,j,←v,sW]
    have S:Hid (∀U,Below wr.heap.size wr U->ug lo U d k wd ⟨W.rule,uM f W.qm (m+1)⟩ ⟨P.tv,P.pv,P.nv,P.vv,P.ntv,a,P.nbs⟩/\Pe lo (dY k) w own U d):=fun U u=>by
     rw[s];exact⟨G.out.mod (Pe.of (ok:=fun _ _=>False) d u) (fun _=>id) (fun _=>id) id (fun _=>id) (fun _ _ _ _=>id),D.out.trans (Pe.of d u)⟩
    have aG:¬(W.qm[m].lit.pred:Int)<(R.qo.length:Int):=by omega
    clear j hq H v Y t s;generalize W.qm[m].lit.pred=vp at *;generalize W.qm[m].lit.qg.length=vt at *;generalize a[m].bb=X at *;generalize a[m].fb=J at *;generalize a[m].ab=I at *;have g:Below wr.heap.size wr (wr.alloc (.cells #[.int .i64 vp,.slice T vt r,.int .i64 wd,.pointer (some ⟨X,0,none⟩),.pointer (some ⟨J,0,none⟩),.pointer (some ⟨I,0,none⟩)] 301)):=(by go_grown);go_wp2;obtain⟨z1,z2⟩:=S.out _ g;exact⟨⟨m+1,by omega,by go_num,d,a,z1,z2⟩,by simp[intOf];omega⟩
  ·obtain rfl:m=W.qm.length:=by omega
   have s:uM f W.qm W.qm.length=f:=by simp[uM,←F.out]
   have S:Hid (ug lo wr d k wd ⟨W.rule,f⟩ ⟨P.tv,P.pv,P.nv,P.vv,P.ntv,a,P.nbs⟩):=by rw[←s];exact G.out
   clear G s;go_wp2
   (try simp only[Exit.inBlock,Exit.then])
   exact zJ (results_none rfl _ _ _) rfl ⟨rfl,d,a,S.out,D.out⟩
end
section
variable {lo:Nat}{w w':World}{own':Nat->zn}{wd:Nat}{wv:Value}{Ws:List yb}{Ps:List yU}
def kV(Ws:List yb)(Ps:List yU):List Value:=(List.zipWith (fun W P=>qR W.rule P) Ws Ps).flatten
structure uj (lo:Nat) (w:World) (own:Nat->zn) (wd:Nat) (wv:Value) (Ws:List yb) (Ps:List yU):Prop where
 arr:w.ownsRow lo 292 8 wv Ws.length (kV Ws Ps)
 plen:Ps.length=Ws.length
 work:∀k (_:k<Ws.length) (_:k<Ps.length),ug lo w own k wd Ws[k] Ps[k]
 few:Ws.length<=1000
theorem Eg:∀(Ws:List yb) (Ps:List yU) (k:Nat) (b:k<Ws.length) (a:k<Ps.length) (j:Nat),j<8->(kV Ws Ps)[k*8+j]?=(qR Ws[k].rule Ps[k])[j]?
 |[],_,k,b,_,_,_=>by simp at b
 |v::vs,[],k,_,a,_,_=>by simp at a
 |v::vs,p::d,0,_,_,j,c=>by
  simp only[kV,ly,lV,kK];rw[tT (by simp[qR];omega)];simp
 |v::vs,p::d,k+1,b,a,j,c=>by
  have:=Eg vs d k (by simpa using b) (by simpa using a) j c;simp only[kV,ly,lV,mC] at this ⊢;rw[g6 (by simp[qR];omega),←this];congr 1;simp[qR];omega
theorem AY:∀(Ws:List yb) (Ps:List yU) (k:Nat) (c:k<Ws.length) (b:k<Ps.length) (W':yb) (a:yU),qR W'.rule a=qR Ws[k].rule Ps[k]->kV (Ws.set k W') (Ps.set k a)=kV Ws Ps
 |[],_,k,c,_,_,_,_=>by simp at c
 |v::vs,[],k,_,b,_,_,_=>by simp at b
 |v::vs,p::d,0,_,_,W',a,h=>by
  simp only[kK] at h;simp[kV,h]
 |v::vs,p::d,k+1,c,b,W',a,h=>by
  have:=AY vs d k (by simpa using c) (by simpa using b) W' a (by simpa using h);simp only[kV,p8,ly,lV] at this ⊢;rw[this]
theorem uj.at{w:World}{own:Nat->zn}{wd:Nat}{wv:Value}{Ws:List yb}{Ps:List yU}(h:uj lo w own wd wv Ws Ps)(k:Nat)(n:k<Ws.length)(m:k<Ps.length):∃d a c,wv=.slice (some ⟨d,0,none⟩) Ws.length a/\lo<=d/\OZ w d c 292/\QS c (k*8) Ws[k].rule Ps[k]:=by
 obtain⟨d,a,f,o,r,p⟩:=y7 h.arr (by omega);obtain⟨c,g⟩:=qr h.arr (b:=d) (by rw[f];rfl);have e:∀j,j<8->c[k*8+j]?=(qR Ws[k].rule Ps[k])[j]?:=fun j i=>by
  have q:=Eg Ws Ps k n m j i;obtain⟨u,l⟩:∃u,(qR Ws[k].rule Ps[k])[j]?=some u:=⟨_,yq (show j<(qR Ws[k].rule Ps[k]).length by simp[qR];omega)⟩;rw[l] at q ⊢;rw[←g.rules.1];exact p _ _ q
 exact⟨d,a,c,f,o,g,e 0 (by omega),e 1 (by omega),e 2 (by omega),e 3 (by omega),e 4 (by omega),e 5 (by omega),e 6 (by omega),e 7 (by omega)⟩
theorem uj.all{w w':World}{own own':Nat->zn}{wd p:Nat}{wv:Value}{Ws:List yb}{Ps:List yU}(h:uj lo w own wd wv Ws Ps)(m:Pe lo (kd p) w own w' own'):uj lo w' own' wd wv Ws Ps:=
 ⟨vd h.arr m (lL (by decide) (by decide)),h.plen,fun k a b=>(h.work k a b).all m,h.few⟩
theorem uj.types{own:Nat->zn}{l:List TypeId}(h:uj lo w own wd wv Ws Ps)(m:Pe lo (gd l) w own w' own')(e:∀t∈l,PU t/\t∉[292,284,204,301,162]):uj lo w' own' wd wv Ws Ps:=by
 have c:∀t,t∈[292,284,204,301,162]->∀ρ,¬gd l t ρ:=fun t d ρ q=>(e t q).2 d;exact⟨vd h.arr m (c _ (by decide)),h.plen,fun k a b=>(h.work k a b).mod m (c _ (by decide)) (c _ (by decide)) (c _ (by decide) _) (c _ (by decide)) (fun _ _ _ d q=>d (e _ q).1),h.few⟩
theorem uj.below{own:Nat->zn}(h:uj lo w own wd wv Ws Ps)(a:Below w.heap.size w w'):uj lo w' own wd wv Ws Ps:=h.types (l:=[]) (Pe.of own a) (by simp)
theorem uj.renewed{own:Nat->zn}{k:Nat}{d:List yL}{c:List jr}(h:uj lo w own wd wv Ws Ps)(i:k<Ws.length)(g:k<Ps.length)(f:ug lo w' own' k wd ⟨Ws[k].rule,d⟩ ⟨Ps[k].tv,Ps[k].pv,Ps[k].nv,Ps[k].vv,Ps[k].ntv,c,Ps[k].nbs⟩)(m:Pe lo (dY k) w own w' own'):uj lo w' own' wd wv (Ws.set k ⟨Ws[k].rule,d⟩) (Ps.set k ⟨Ps[k].tv,Ps[k].pv,Ps[k].nv,Ps[k].vv,Ps[k].ntv,c,Ps[k].nbs⟩):=by
 refine⟨?_,by simp[h.plen],fun j a b=>?_,by simpa using h.few⟩
 ·rw[AY _ _ _ i g _ _ (by simp[qR]),la];exact vd h.arr m (l5 (by decide) (by decide))
 ·simp only[la] at a b;simp only[m5];by_cases e:k=j
  ·subst e;rw[zb rfl,zb rfl];exact f
  ·rw[za e,za e];exact(h.work j a b).mod m (l5 (by decide) (by decide)) (l5 (by decide) (by decide)) (nB (by omega)) (l5 (by decide) (by decide)) (fun _ _ _ _=>nB (by omega))
theorem A5{f wd:Nat}{g:List (List zk)}:∀{b a:List yb},l6 f wd g b=some a->a.length=b.length/\∀i (d:i<b.length) (c:i<a.length),∃vs,lD f wd g b[i].qm=some vs/\a[i]=⟨b[i].rule,vs⟩
 |[],a,h=>by
  simp[l6] at h;subst h;exact⟨rfl,fun i h=>by simp at h⟩
 |W::b,a,h=>by
  unfold l6 at h;split at h
  ·rename_i v k j e;simp at h;subst h;obtain⟨m,l⟩:=A5 e;refine⟨by simp[m],fun i d c=>?_⟩;match i,d,c with
   |0,_,_=>exact⟨v,by simpa using j,rfl⟩
   |i+1,d,c=>
    simp only[mC];exact l i (by simpa using d) (by simpa using c)
  ·cases h
def j9(R:zx):Prop:=∀l∈R.qo,l.length<=1048577
theorem j9.clear(R:zx):j9 (qv R):=fun l a=>by simp[qv] at a;simp[a.2]
theorem j9.add{mr:Nat}{R R':zx}{p:Nat}{row:zk}{b:Bool}(h:j9 R)(d:kN mr R p row=some (R',b)):j9 R':=by
 obtain⟨_,_,_,_,e,c⟩:=iH d;rcases c with⟨_,rfl,_⟩|⟨_,rfl,_⟩
 ·exact h
 ·intro l a;rcases nZ a with a|rfl
  ·exact h l a
  ·simp only[yz,yZ,jH];omega
theorem j9.addAll{mr p:Nat}:∀(n:Nat) (R R':zx) (J:z9) (b:Bool),j9 R->qL mr p n R J=some (R',b)->j9 R'
 |0,R,R',J,b,_,h=>by simp[qL] at h
 |n+1,R,R',J,b,e,h=>by
  unfold qL at h;cases f:mq n J with
  |none=>rw[f] at h;cases h
  |some j=>
   obtain⟨c,i⟩:=j;rw[f] at h;cases i with
   |false=>
    simp only[zs,yo] at h;rw[←h.1];exact e
   |true=>
    dsimp only at h;cases a:kN mr R p (zG c.head c.qy) with
    |none=>rw[a] at h;cases h
    |some d=>
     obtain⟨k,g⟩:=d;rw[a] at h;cases g with
     |false=>
      simp only[zs,yo] at h;rw[←h.1];exact e.add a
     |true=>exact j9.addAll n k R' c b (e.add a) h
theorem i3{f wd mr:Nat}{W:yb}:∀(n i:Nat) (R R':zx) (b:Bool),kw f wd mr W n i R=some (R',b)->(j9 R->j9 R')/\R'.rows.length=R.rows.length
 |0,i,R,R',b,h=>by simp[kw] at h;rw[←h.1];exact⟨id,rfl⟩
 |n+1,i,R,R',b,h=>by
  unfold kw at h;split at h
  ·split at h
   ·cases h
   ·rename_i d a;simp only[zs,yo] at h;rw[←h.1];exact⟨fun c=>c.addAll _ _ _ _ _ a,pw _ _ _ _ _ a⟩
   ·rename_i d a;obtain⟨g,e⟩:=i3 n (i+1) d R' b h;exact⟨fun c=>g (c.addAll _ _ _ _ _ a),e.trans (pw _ _ _ _ _ a)⟩
  ·exact i3 n (i+1) R R' b h
theorem B7{f mr:Nat}{first:Bool}{R R':zx}{W:yb}{b:Bool}(h:dM f wd mr first R W=some (R',b)):(j9 R->j9 R')/\R'.rows.length=R.rows.length:=by
 unfold dM at h;split at h
 ·exact⟨fun a=>a.addAll _ _ _ _ _ h,pw _ _ _ _ _ h⟩
 ·exact i3 _ _ _ _ _ h
def uG:TypeId->zn->Prop:=fun t ρ=>(¬PU t/\ρ≠(0,0,7))∨t∈[214,161,165,310,323,301]
theorem en{p:Nat}{t:TypeId}{ρ:zn}(h:kd p t ρ):uG t ρ:=by
 rcases h with (h|h|h|h)|h
 ·exact zf ⟨h.1,by rw[h.2];simp⟩
 ·subst h;exact ze (by decide)
 ·subst h;exact ze (by decide)
 ·rw[h.1];exact ze (by decide)
 ·rcases zw.1 h with rfl|h
  ·exact ze (by decide)
  ·rcases zw.1 h with rfl|h
   ·exact ze (by decide)
   ·cases h
theorem oO{k:Nat}{t:TypeId}{ρ:zn}(h:dY k t ρ):uG t ρ:=by
 rcases h with⟨a,i,j,rfl⟩|⟨rfl,_⟩
 ·exact zf ⟨a,by simp⟩
 ·exact ze (by decide)
theorem DF{t:TypeId}{ρ:zn}(h:gd [214] t ρ):uG t ρ:=ze (by rw[ud.1 h];decide)
end
section
open Go.Proofs.Tryz
variable {lo:Nat}
def ko(a:List Nat)(n:Nat)(c:List yb)(b:List yU):Prop:=∀k (_:k<c.length) (_:k<b.length),gy a n c[k].rule b[k].nbs
theorem ko.set{c:List Nat}{n k:Nat}{f:List yb}{d:List yU}(h:ko c n f d)(o:k<f.length)(m:k<d.length)(g:List yL)(i:yU)(l:i.nbs=d[k].nbs):ko c n (f.set k ⟨f[k].rule,g⟩) (d.set k i):=by
 intro j a b;simp only[la] at a b;simp only[m5];by_cases e:k=j
 ·subst e;rw[zb rfl,zb rfl,l];exact h k a b
 ·rw[za e,za e];exact h j a b
def Ms(lo:Nat)(w:World)(own:Nat->zn)(i:Nat)(j:Value)(R R':zx)(c:List yb)(wd mr mx:Nat)(Q:ua)(b:Bool)(e:Ending)(h:World):Prop:=
 e=.returned (.bool b)/\∃a g d f,zU lo h a i R' wd mr mx ⟨Q.rv,Q.tbs,g,d⟩/\uj lo h a wd j c f/\ko Q.tbs R.rows.length c f/\R'.rows.length=R.rows.length/\Pe lo uG w own h a
theorem HY(w:World)(own:Nat->zn)(B:Nat)(wv:Value)(R R':zx)(d a:List yb)(X:List yU)(wd mr mx:Nat)(Q:ua)(g:Nat)(first b:Bool)(h:zU lo w own B R wd mr mx Q)(hw:uj lo w own wd wv d X)(al:ko Q.tbs R.rows.length d X)(W:lo<=w.heap.size)(aL:R.qx<1048576)(S:ph g wd mr first d R=some (R',a,b)):
  Calls prog 165 #[.pointer (some ⟨B,0,none⟩),wv,.bool first] w fun e L=>Ms lo w own B wv R R' a wd mr mx Q b e L:=by
 obtain⟨G,b1,hA,N⟩:∃G b1,fB g wd mr first d (qv {R with qx:=R.qx+1})=some (G,b1)/\(b1=false/\G=R'/\d=a/\false=b∨b1=true/\G=R'/\l6 g wd G.qo d=some a/\true=b):=by
  unfold ph at S;split at S
  ·cases S
  ·rename_i G hA;simp only[zs,yo] at S;exact⟨G,false,hA,zf ⟨rfl,S⟩⟩
  ·rename_i G hA;rw[vr] at S;obtain⟨aM,h1,h2⟩:=S;simp only[yo] at h2;obtain⟨h3,h4,h5⟩:=h2;subst h4;exact⟨G,true,hA,ze ⟨rfl,h3,h1,h5⟩⟩
 obtain⟨hl,hf,h0,h1,h2,h3,h4,h5,h6,h7⟩:=h.at;have a9:zd [B] w (w.setCell ⟨B,2,none⟩ (.int .i64 ((R.qx:Int)+1))):=zd.set _ _ _ _;have ay:Pe lo (gd [214]) w own (w.setCell ⟨B,2,none⟩ (.int .i64 ((R.qx:Int)+1))) own:=Pe.set own h.box h.low (ud.2 rfl) _ _;have x:=h.box.set 2 (.int .i64 ((R.qx:Int)+1));have a0:=h.rebox (R':={R with qx:=R.qx+1}) a9 (by simpa using x) rfl rfl ⟨h.few.2.2.1,by show R.qx+1<=1048576;omega⟩;have a5:=OY (Qf _ own B _ wd mr mx Q a0 (by simpa [World.setCell] using W));have an:=OY ay;have a7:=OY hw;have ae:=OY al;have a2:=OY W;have HE:=OY N;have HA:Hid (fB g wd mr first (d.drop 0) (qv {R with qx:=R.qx+1})=some (G,b1)):=hA;have aJ:=hw.few;obtain⟨ab,C,aG⟩:=zq hw.arr;subst aG;clear S h hw al W N hA a0 ay a9 x h0 h1 h3 h4 h5 h6 h7;go_enter func165,ntmps165;go_upto_region 4 with (first|(go_at_call 120;refine a5.out.mono ?_;rintro e w2 ⟨rfl,fv,aC,a1,hm⟩))
 have ac:=an.out.trans hm;have aj:=OY (a7.out.types ac (by decide));have a3:=OY a1;have az:Hid (Pe lo uG w own w2 own):=ac.more fun _ _ q=>DF q;clear ac hm a1 a5 an;go_loopw [22] (fun aB wr=>∃m:Nat,m<=d.length/\aB=.int .i64 m/\∃v n I,Hid (zU lo wr n B v wd mr mx ⟨Q.rv,Q.tbs,fv,I⟩)/\Hid (uj lo wr n wd (.slice ab d.length C) d X)/\Hid (Pe lo uG w own wr n)/\Hid (v.rows.length=R.rows.length)/\Hid (j9 v)/\Hid (fB g wd mr first (d.drop m) v=some (G,b1))) (fun i _=>d.length-(intOf i).toNat)
 case atStart=>exact⟨0,zv _,rfl,_,own,aC,a3,aj,az,rfl,j9.clear _,HA⟩
 case round=>
  clear HA a3 aj az;obtain⟨m,hm,rfl,v,n,I,u,k,t,Z,au,af⟩:=hrel;have P:=t.out.size;have y:=zT a2.out P;by_cases l:m<d.length
  ·have s:m<X.length:=by rw[a7.out.plen];exact l
   obtain⟨gw,aA,c,U,_,x,H⟩:=k.out.at m l s;simp only[Value.slice.injEq] at U;have V:=U.1;clear U;subst V;have z:=af.out;rw[xg l] at z;unfold fB at z;cases ha:dM g wd mr first v d[m] with
   |none=>rw[ha] at z;cases z
   |some ar=>
    obtain⟨R3,b3⟩:=ar;rw[ha] at z;have ad:Hid (j9 R3/\R3.rows.length=R.rows.length):=⟨(B7 ha).1 au.out,(B7 ha).2.trans Z.out⟩;have a8:=OY (Mt wr n B gw (m*8) m c v R3 d[m] X[m] wd mr mx _ g first b3 u.out (k.out.work m l s) x H (by rw[Z.out];exact ae.out m l s) y ha);have a4:(m:Int)<(d.length:Int):=by omega
    generalize d[m].rule.head.pred=p at *;clear ha x H;cases b3 with
    |false=>
     simp only[zs,yo] at z;have HQ:=OY z;clear z;go_wp2_with (first|(go_at_call 193;refine a8.out.mono ?_;rintro e w4 ⟨rfl,f,K,r,J⟩))
     go_ret;have N:=HE.out;rw[←HQ.out.2,←HQ.out.1] at N;rcases N with⟨_,rfl,rfl,rfl⟩|⟨hx,_⟩
     ·exact⟨rfl,f,fv,K,X,r,k.out.all J,ae.out,ad.out.2,t.out.trans (J.more fun _ _ q=>en q)⟩
     ·cases hx
    |true=>
     have HQ:Hid (fB g wd mr first (d.drop (m+1)) R3=some (G,b1)):=z;clear z;go_wp2_with (first|(go_at_call 193;refine a8.out.mono ?_;rintro e w4 ⟨rfl,f,K,r,J⟩))
     exact⟨⟨m+1,by omega,by go_num,R3,f,K,r,k.out.all J,t.out.trans (J.more fun _ _ q=>en q),ad.out.2,ad.out.1,HQ⟩,by simp[intOf];omega⟩
  ·obtain rfl:m=d.length:=by omega
   have z:=af.out;rw[List.drop_length] at z;simp only[fB,zs,yo] at z;have N:=HE.out;rw[←z.2,←z.1] at N;have O:Hid (v=R'/\l6 g wd v.qo d=some a/\true=b):=by
    rcases N with⟨hx,_⟩|⟨_,hx⟩
    ·cases hx
    ·exact hx
   clear z N af HE;go_upto_region 10 with fail
   obtain⟨ak,a6⟩:=A5 O.out.2.1;have F:=OY ak;have aF:=OY a6;clear ak a6 l hm;obtain⟨E,o,am⟩:=zq u.out.qo;dsimp only at am;subst am;have aK:=OY y;clear P y;generalize aE:wr=w5 at *;clear aE;go_loopw [35] (fun aI wr=>∃m:Nat,m<=d.length/\aI=.int .i64 m/\∃j D,Hid (zU lo wr j B v wd mr mx ⟨Q.rv,Q.tbs,.slice E v.qo.length o,I⟩)/\Hid (uj lo wr j wd (.slice ab d.length C) (uM a d m) D)/\Hid (ko Q.tbs R.rows.length (uM a d m) D)/\Hid (Pe lo uG w own wr j)) (fun i _=>d.length-(intOf i).toNat)
   case atStart=>exact⟨0,zv _,rfl,n,X,u,k,ae,t⟩
   case round=>
    clear u k t;obtain⟨m,hm,rfl,j,D,u,k,Y,t⟩:=hrel;have y:=zT a2.out t.out.size;by_cases l:m<d.length
    ·have A:m<(uM a d m).length:=by rw[sV F.out m hm];exact l
     have ag:m<a.length:=by rw[F.out];exact l
     have ah:=o9 F.out m l A;have ao:=DG F.out m l ag;have s:m<D.length:=by rw[k.out.plen];exact A
     obtain⟨gw,aA,c,U,_,x,H⟩:=k.out.at m A s;rw[sV F.out m hm] at U;simp only[Value.slice.injEq] at U;have V:=U.1;clear U;subst V;obtain⟨vs,ax,av⟩:=aF.out m l ag;have a4:(m:Int)<(d.length:Int):=by omega
     have ap:=u.out.at;obtain⟨hl,hf,h0,h1,aD,h3,h4,h5,h6,h7⟩:=ap;have ai:Hid (∀W0,Below wr.heap.size wr W0->Calls prog 194 #[.pointer (some ⟨gw,m*8,none⟩),.slice E v.qo.length o] W0 fun e L=>e=.returned (.tuple #[])/\L.cell? ⟨B,7,none⟩=some (.slice E v.qo.length o)/\Hid (∃f M,zU lo L f B v wd mr mx ⟨Q.rv,Q.tbs,.slice E v.qo.length o,I⟩/\uj lo L f wd (.slice (some ⟨gw,0,none⟩) d.length C) (uM a d (m+1)) M/\ko Q.tbs R.rows.length (uM a d (m+1)) M/\Pe lo uG w own L f)):=fun W0 hb=>by
      have aw:=k.out.below hb;have q:=NS W0 j B gw (m*8) m c v (uM a d m)[m] vs D[m] wd mr mx _ g (u.out.below hb) (aw.work m A s) (x.below hb) H (zT y hb.size) au.out (by rw[ah];exact ax);refine q.mono ?_;rintro e L ⟨rfl,f,aq,aH,aa⟩;have r:=(u.out.below hb).work aa;have r1:=aw.renewed A s aH aa;have r2:=Y.out.set A s vs ⟨D[m].tv,D[m].pv,D[m].nv,D[m].vv,D[m].ntv,aq,D[m].nbs⟩ rfl;have e2:(⟨(uM a d m)[m].rule,vs⟩:yb)=a[m]:=by rw[ah,av]
      rw[e2,ao] at r1 r2;exact⟨rfl,r.at.2.2.2.2.2.2.2.2.2,f,_,r,r1,r2,(t.out.trans (Pe.of j hb)).trans (aa.more fun _ _ q=>oO q)⟩
     clear x H ax av ah ao A ag s h0 h1 aD h3 h4 h5 h6;have x7:wr.cell? ⟨B,7,none⟩=some (.slice E v.qo.length o):=h7;clear h7;go_upto_region 12 with fail
     go_region_held3 (fun L=>L.cell? ⟨B,7,none⟩=some (.slice E v.qo.length o)) (first|go_keep|(go_simp;done)) (first|(go_at_call 194;refine(ai.out _ (by exact(zI (zo _ _) 1))).mono ?_;rintro e w2 ⟨rfl,y1,HX⟩))
     clear x7 y1 ai;go_wp2;obtain⟨f,M,z1,z2,z3,z4⟩:=HX.out;exact⟨⟨m+1,by omega,by go_num,f,M,z1,z2,z3,z4⟩,by simp[intOf];omega⟩
    ·obtain rfl:m=d.length:=by omega
     have T:uM a d d.length=a:=by simp[uM,←F.out]
     have HF:Hid (uj lo wr j wd (.slice ab d.length C) a D/\ko Q.tbs R.rows.length a D):=by rw[←T];exact⟨k.out,Y.out⟩
     clear T k Y;go_wp2;go_ret;exact⟨by rw[←O.out.2.2];rfl,j,_,I,D,by rw[←O.out.1];exact u.out,HF.out.1,HF.out.2,by rw[←O.out.1];exact Z.out,t.out⟩
end
end Go.Proofs.YteampbddflhngaaGreat
