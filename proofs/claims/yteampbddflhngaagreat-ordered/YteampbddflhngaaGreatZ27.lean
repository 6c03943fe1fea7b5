import Derived.Test.YteampbddflhngaaGreatZ22
import Derived.Test.YteampbddflhngaaGreatZ23
namespace Go.Proofs.YteampbddflhngaaGreat
set_option linter.all false
set_option maxRecDepth 100000
set_option maxHeartbeats 4000000
open Go.RowKit
section
open Go.Proofs.Tryz
variable {lo:Nat}{w:World}
structure yW where
 tv:Value
 pv:Value
 nv:Value
 vv:Value
 ntv:Value
 vps:List j9
 nbs:List Nat
def jw(r:zr)(P:yW):List Value:=[ι r.qh,ι r.vars,ι r.head.pred,P.tv,P.pv,P.nv,P.vv,P.ntv]
def vY(wd:Nat)(vs:List y6)(ps:List j9):List Value:=(List.zipWith (gI wd) vs ps).flatten
structure uc (lo:Nat) (w:World) (own:Nat->zn) (k wd:Nat) (W:zX) (P:yW):Prop where
 rule:vy lo w P.tv P.pv P.nv W.rule
 qm:w.ownsRow lo 301 6 P.vv W.qm.length (vY wd W.qm P.vps)
 vlen:P.vps.length=W.qm.length
 view:∀i (_:i<W.qm.length) (_:i<P.vps.length),vF lo w own k i W.qm[i] P.vps[i]
 vrole:∀b,P.vv.ownBlock=some b->own b=(k+1,0,9)
 qp:w.ownsRow lo 162 1 P.ntv W.rule.qp.length (QQ P.nbs)
 nlen:P.nbs.length=W.rule.qp.length
 few:W.qm.length<=1000
theorem EN(wd:Nat):∀(vs:List y6) (ps:List j9) (i:Nat) (a:i<vs.length) (b:i<ps.length),(vY wd vs ps)[i*6]?=some (ι (vs[i].lit.pred:Nat))/\(vY wd vs ps)[i*6+1]?=some ps[i].tv/\(vY wd vs ps)[i*6+2]?=some (ι wd)/\(vY wd vs ps)[i*6+3]?=some (pt ps[i].bb)/\(vY wd vs ps)[i*6+4]?=some (pt ps[i].fb)/\(vY wd vs ps)[i*6+5]?=some (pt ps[i].ab)
 |[],_,i,a,_=>by simp at a
 |v::vs,[],i,_,b=>by simp at b
 |v::vs,p::ps,0,_,_=>by simp[vY,gI]
 |v::vs,p::ps,i+1,a,b=>by
  have:=EN wd vs ps i (by simpa using a) (by simpa using b);simp only[vY,lE,nf] at this ⊢;rw[show(i+1)*6=i*6+6 from by omega];have c:i*6+6=(gI wd v p).length+i*6:=by simp[gI];omega
  rw[c];simp only[Nat.add_assoc,d9 (Nat.le_add_right _ _),wa];simpa using this
theorem uc.viewAt{own:Nat->zn}{k wd:Nat}{W:zX}{P:yW}(h:uc lo w own k wd W P)(i:Nat)(o:i<W.qm.length)(n:i<P.vps.length):∃g a,P.vv=.slice (some ⟨g,0,none⟩) W.qm.length a/\g<w.heap.size/\w.cell? ⟨g,i*6,none⟩=some (ι (W.qm[i].lit.pred:Nat))/\w.cell? ⟨g,i*6+1,none⟩=some P.vps[i].tv/\w.cell? ⟨g,i*6+2,none⟩=some (ι wd)/\w.cell? ⟨g,i*6+3,none⟩=some (.pointer (some ⟨P.vps[i].bb,0,none⟩))/\w.cell? ⟨g,i*6+4,none⟩=some (.pointer (some ⟨P.vps[i].fb,0,none⟩))/\w.cell? ⟨g,i*6+5,none⟩=some (.pointer (some ⟨P.vps[i].ab,0,none⟩)):=by
 obtain⟨g,a,c,_,l,b⟩:=yx h.qm (by omega);obtain⟨e,d,f,p,j,m⟩:=EN wd W.qm P.vps i o n;exact⟨g,a,c,l,b _ _ e,b _ _ d,b _ _ f,b _ _ p,b _ _ j,b _ _ m⟩
theorem i5{w:World}{own:Nat->zn}{S:zn->Prop}:∀(d:List zi) (bs:List Nat),bs.length=d.length->(∀i (j:i<d.length) (g:i<bs.length),∃ρ,S ρ/\yR lo w own ρ bs[i] d[i])->∃e:List (Nat×List Nat),e.map (·.1)=bs/\(∀i (j:i<d.length) (g:i<e.length),zY lo w e[i].1 d[i] e[i].2)/\∀x∈e,∀b∈x.2,S (own b)
 |[],[],_,_=>⟨[],rfl,fun i h=>by simp at h,fun x f=>by simp at f⟩
 |[],b::bs,h,_=>by simp at h
 |T::d,[],h,_=>by simp at h
 |T::d,b::bs,h,k=>by
  obtain⟨ρ,q,o,j,g⟩:=k 0 (by simp) (by simp);obtain⟨e,m,n,p⟩:=i5 d bs (by simpa using h) fun i a c=>by
   have:=k (i+1) (by simpa using a) (by simpa using c);simpa using this
  refine⟨(b,o)::e,by simp[m],fun i a c=>?_,fun x f y l=>?_⟩
  ·match i,a,c with
   |0,_,_=>exact j
   |i+1,a,c=>exact n i (by simpa using a) (by simpa using c)
  ·rcases zx.1 f with rfl|f
   ·rw[g y l];exact q
   ·exact p x f y l
def mT(lo:Nat)(w:World)(own:Nat->zn)(p:Nat)(J:z9)(e:Ending)(w':World):Prop:=∃P,e=ε (.agg (uo J P).toArray)/\j4 lo w' J P/\n4 own P p/\μ w w'
theorem FL{J:z9}{P:xy}(h:j4 lo w J P):∀u∈uo J P,u.oneCell'=true:=by
 intro u a;obtain⟨m,l,b⟩:=h.head.qx;obtain⟨o,n,g⟩:=zp h.qy;obtain⟨i,j,d⟩:=zp h.bars;simp only[uo,zI,zx,z7,fG,or_false] at a;rcases a with ((((((a|a)|⟨_,_,a⟩)|a)|⟨_,_,a⟩)|⟨_,_,a⟩)|a)
 ·rcases a with rfl|rfl|rfl|rfl|rfl
  ·rfl
  ·rw[b];rfl
  ·rfl
  ·rw[g];rfl
  ·rw[d];rfl
 ·obtain⟨p,f,rfl⟩:=qk a;have k:=h.hlen;obtain⟨q,c,e⟩:=zp (h.je p (by omega) f).1;rw[e];rfl
 ·subst a;rfl
 ·subst a;rfl
 ·subst a;rfl
 ·subst a;rfl
 ·rcases a with rfl|rfl<;>rfl
def qR(bs:List Nat)(k:Nat):List Value:=(bs.take k).map pt++List.replicate (bs.length-k) (.pointer none)
theorem DR(bs:List Nat)(k:Nat)(a:k<=bs.length):(qR bs k).length=bs.length:=by simp[qR];omega
theorem E3(bs:List Nat)(k:Nat)(b:k<bs.length):(qR bs k).set k (.pointer (some ⟨bs[k],0,none⟩))=qR bs (k+1):=by
 obtain⟨m,a⟩:∃m,bs.length-k=m+1:=⟨bs.length-k-1,by omega⟩;unfold qR;rw[fM _ _ (by simp;omega),uu,qC,d8 (by omega),kf,a,rH,nW,yL b,uP,show bs.length-(k+1)=m from by omega,ky];rfl
theorem CA(bs:List Nat):qR bs bs.length=QQ bs:=by simp[qR,QQ]
theorem Qp:(prog.info? 162).map (fun i=>(i.zero,i.size,i.bytes))=some (some (.pointer none),1,8):=by kernel_rfl
theorem Bo{W':World}{own:Nat->zn}{k wd p pb:Nat}{W:zX}{P:yW}{qc qp:List zi}{bs:List Nat}(d:uc lo w own k wd W P)(J:lo<=w.heap.size)(O:qc.length=W.qm.length)(z:bs.length=qc.length)(t:∀i (v:i<qc.length) (s:i<bs.length),∃ρ,ρ≠(0,p,0)/\yR lo w own ρ bs[i] qc[i])(l:qp.length=W.rule.qp.length)(q:∀i (v:i<qp.length) (s:i<P.nbs.length),∃ρ,ρ≠(0,p,0)/\yR lo w own ρ P.nbs[i] qp[i])(j:μ w W')(g:W'.ownsRow w.heap.size 162 1 (.slice (some ⟨pb,0,none⟩) qc.length qc.length) qc.length (QQ bs)):
  Calls prog 214 #[kT W.rule P.tv P.pv P.nv,.slice (some ⟨pb,0,none⟩) qc.length qc.length,P.ntv] W' fun e B=>mT lo W' own p (xx W.rule qc qp) e B:=by
 obtain⟨m,y,L,M⟩:=i5 qc bs z t;obtain⟨n,C,D,E⟩:=i5 qp P.nbs (by rw[d.nlen,l]) q;have f:m.length=qc.length:=by rw[←z,←y,uu]
 have h:n.length=qp.length:=by rw[l,←d.nlen,←C,uu]
 have F:QQ bs=m.map fun x=>S0 x.1:=by rw[←y];simp[QQ];exact fun _ _ _=>rfl
 have I:QQ P.nbs=n.map fun x=>S0 x.1:=by rw[←C];simp[QQ];exact fun _ _ _=>rfl
 have A:=d.few;have H:=d.rule.qp.len;have v:fj w.heap.size lo W' (.slice (some ⟨pb,0,none⟩) qc.length qc.length) qc m:=⟨by rw[←F];exact g,f,fun i a b=>(L i a b).below j,by omega⟩;have s:fj lo lo W' P.ntv qp n:=⟨by rw[l,←I];exact zB d.qp j,h,fun i a b=>(D i a b).below j,by omega⟩;refine(NA W' W.rule P.tv P.pv P.nv _ _ qc qp m n (d.rule.below j) v s l (by have:=j.size;omega)).mono ?_;rintro e B ⟨N,rfl,K,G,r,u⟩;refine⟨N,rfl,K,⟨fun x o b c=>M x (by rw[←G];exact o) b c,fun x o b c=>E x.2 (by rw[←r];exact List.mem_map_of_mem o) b c⟩,u⟩
theorem tH{w':World}{b:Nat}(h:uy w b)(a:μ w w'):uy w' b:=by obtain⟨c,d,e⟩:=h;exact⟨c,d.below a,e⟩
theorem CB{b b' o:Nat}{u:Value}(h:uy w b)(a:b≠b'):uy (w.setCell ⟨b',o,none⟩ u) b:=by obtain⟨c,d,e⟩:=h;exact⟨c,d.set_ne a _ _,e⟩
structure WC (w:World) (gw o:Nat) (r:zr) (P:yW):Prop where
 lt:gw<w.heap.size
 free:∀q,w.frozen? ⟨gw,q,none⟩=false
 c0:w.cell? ⟨gw,o,none⟩=some (ι r.qh)
 c1:w.cell? ⟨gw,o+1,none⟩=some (ι r.vars)
 c2:w.cell? ⟨gw,o+2,none⟩=some (ι r.head.pred)
 c3:w.cell? ⟨gw,o+3,none⟩=some P.tv
 c4:w.cell? ⟨gw,o+4,none⟩=some P.pv
 c5:w.cell? ⟨gw,o+5,none⟩=some P.nv
 c6:w.cell? ⟨gw,o+6,none⟩=some P.vv
 c7:w.cell? ⟨gw,o+7,none⟩=some P.ntv
theorem WC.below{w':World}{a o:Nat}{r:zr}{P:yW}(h:WC w a o r P)(b:μ w w'):WC w' a o r P:=by
 have e:=fun q=>b.cell (p:=⟨a,q,none⟩) h.lt;exact⟨by have:=b.size;have:=h.lt;omega,fun q=>(b.frozen (p:=⟨a,q,none⟩) h.lt).trans (h.free q),(e _).trans h.c0,(e _).trans h.c1,(e _).trans h.c2,(e _).trans h.c3,(e _).trans h.c4,(e _).trans h.c5,(e _).trans h.c6,(e _).trans h.c7⟩
theorem wg{b:Nat}{J:z9}{P:xy}{d:World}(a:j4 lo d J P)(h:uy w b):(storeCells ⟨b,0,none⟩ (uo J P)).run prog w=.ok () (gh w b (uo J P)):=by
 have e:=pj J P a.hlen.1 a.jk;exact run_storeCells_cells (P:=prog) b 0 (uo J P) 0 w (fun j c=>(h.there j (by omega)).1) (fun j c=>(h.there j (by omega)).2) (FL a)
attribute [local go_sem] rn
theorem K5(w:World)(own:Nat->zn)(k wd p E o:Nat)(W:zX)(P:yW)(qp:List zi)(h:uc lo w own k wd W P)(hc:WC w E o W.rule P)(a7:lo<=w.heap.size)(hn:qp.length=W.rule.qp.length)(av:∀i (h1:i<qp.length) (h2:i<P.nbs.length),∃ρ,ρ≠(0,p,0)/\yR lo w own ρ P.nbs[i] qp[i]):
  Calls prog 207 #[.pointer (some ⟨E,o,none⟩)] w fun e r=>mT lo w own p (xx W.rule (W.qm.map (·.all)) qp) e r:=by
 obtain⟨i0,hi,a4,aI,aM⟩:=info_parts Qp;have N:Hid (∀S pb,μ w S->S.ownsRow w.heap.size 162 1 (.slice (some ⟨pb,0,none⟩) W.qm.length W.qm.length) W.qm.length (QQ (P.vps.map (·.ab)))->Calls prog 214 #[kT W.rule P.tv P.pv P.nv,.slice (some ⟨pb,0,none⟩) W.qm.length W.qm.length,P.ntv] S fun e r=>mT lo S own p (xx W.rule (W.qm.map (·.all)) qp) e r):=fun S pb hB c=>by
  have q:=Bo (p:=p) (pb:=pb) (qc:=W.qm.map (·.all)) (bs:=P.vps.map (·.ab)) (qp:=qp) (W':=S) h a7 (by simp) (by simp[h.vlen]) (fun i h1 h2=>⟨(k+1,i,2),by simp,by simp only[uJ];exact(h.view i (by simpa using h1) (by simpa using h2)).all⟩) hn av hB (by simpa using c);simpa using q
 have aO:=Q7 fun i a b=>h.viewAt i a b;have aH:=Q7 fun i a b=>(h.view i a b).qg.qx;have X:=Q7 h.vlen;have aW:=h.few;obtain⟨bh,aY,ab⟩:=zp h.qm;obtain⟨U,x,az⟩:=h.rule.head.qx;obtain⟨T,A,au⟩:=h.rule.qc.qx;obtain⟨V,z,an⟩:=h.rule.qp.qx;obtain⟨Q,y,M⟩:=zp h.qp;have HW:=Q7 hc;have a8:=Q7 ab;have t:Hid (P.tv=.slice U W.rule.head.qg.length x/\P.pv=.slice T W.rule.qc.length A/\P.nv=.slice V W.rule.qp.length z/\P.ntv=.slice Q W.rule.qp.length y):=⟨az,au,an,M⟩;have a1:=fun W0:World=>run_make (P:=prog) (w:=W0) 150 162 i0 _ underlying150 hi a4 .i64 .i64 (W.qm.length:Int) (W.qm.length:Int) (by omega) (Int.le_refl _) (by rw[aM];omega) (by omega);rw[aI] at a1;have aj:=hc.c6;rw[ab] at aj;have aG:=hc.lt;have aL:=hc.free;clear h hc av ab az au an M;go_enter func207,ntmps207;go_upto_region 3 with fail
 have al:μ w ((w.alloc (.cells (bj 0 0 0 none none 0 0 0 0).toArray 310)).alloc (.cells (madeCells #[.pointer none] W.qm.length) 162)):=(by go_grown);have c:=tQ (w.alloc (.cells (bj 0 0 0 none none 0 0 0 0).toArray 310)) W.qm.length 162 (.pointer none) (by unfold maxLen;omega);rw[World.size_alloc] at c;have ax:uy ((w.alloc (.cells (bj 0 0 0 none none 0 0 0 0).toArray 310)).alloc (.cells (madeCells #[.pointer none] W.qm.length) 162)) w.heap.size:=th _ _ _ _ _ _ _ _ _ _ _;have aw:(P.vps.map (·.ab)).length=W.qm.length:=by simp[X.out]
 have am:Hid (((w.alloc (.cells (bj 0 0 0 none none 0 0 0 0).toArray 310)).alloc (.cells (madeCells #[.pointer none] W.qm.length) 162)).ownsRow w.heap.size 162 1 (.slice (some ⟨w.heap.size+1,0,none⟩) W.qm.length W.qm.length) W.qm.length (qR (P.vps.map (·.ab)) 0)):=by
  have e:qR (P.vps.map (·.ab)) 0=List.replicate W.qm.length (.pointer none):=by simp[qR,X.out]
  rw[Hid,e];exact yt c (by omega)
 have R:=Q7 aw;have aT:Hid (∀i (h1:i<P.vps.length) (h2:i<(P.vps.map (·.ab)).length),(P.vps.map (·.ab))[i]=P.vps[i].ab):=fun i a b=>by simp
 clear c aw aj aG aL a1;generalize (w.alloc (.cells (bj 0 0 0 none none 0 0 0 0).toArray 310)).alloc (.cells (madeCells #[.pointer none] W.qm.length) 162)=w1 at *;generalize P.vps.map (·.ab)=O at *;have B:=Q7 ax;clear ax;go_loopw [17] (fun a2 wr=>∃m:Nat,m<=W.qm.length/\a2=ι m/\μ w wr/\Hid (uy wr w.heap.size)/\Hid (wr.ownsRow w.heap.size 162 1 (.slice (some ⟨w.heap.size+1,0,none⟩) W.qm.length W.qm.length) W.qm.length (qR O m))) (fun i _=>W.qm.length-(intOf i).toNat)
 case atStart=>exact⟨0,zv _,rfl,al,B,am⟩
 case round=>
  clear am B al;obtain⟨m,hm,rfl,d,B,HR⟩:=hrel;have ba:=d.size;by_cases D:m<W.qm.length
  ·have Z:m<P.vps.length:=by rw[X.out];exact D
   have aq:m<O.length:=by rw[R.out];exact D
   obtain⟨gv,a5,n,s,q0,q1,q2,q3,q4,q5⟩:=aO.out m D Z;rw[a8.out] at n;simp only[Value.slice.injEq] at n;have aD:=n.1;clear n;subst aD;obtain⟨a6,ar,hq⟩:=aH.out m D Z;rw[hq] at q1;have x0:=zl d s q0;have x1:=zl d s q1;have x2:=zl d s q2;have x3:=zl d s q3;have x4:=zl d s q4;have x5:=zl d s q5;have bb:gv<wr.heap.size:=by omega
   have c:=HR.out;have aN:=DR O m (by omega);obtain⟨sx,bk⟩:∃sx,wr.cell? ⟨w.heap.size+1,m,none⟩=some sx:=by
    obtain⟨g',aZ,ay,_,_,af⟩:=yx c (by omega);simp only[Value.slice.injEq,zt,Addr.mk.injEq,and_true] at ay;have e:=ay.1;subst e;exact⟨_,af m _ (yp (by omega))⟩
   have be:=qO c;have bf:w.heap.size+1<wr.heap.size:=xI c rfl;have ad:Hid ((qR O m).set m (.pointer (some ⟨P.vps[m].ab,0,none⟩))=qR O (m+1)):=by
    have q:=E3 O m aq;rw[aT.out m Z aq] at q;exact q
   have j:Below (wr.setCell ⟨w.heap.size+1,m,none⟩ (.pointer (some ⟨P.vps[m].ab,0,none⟩))).heap.size (wr.setCell ⟨w.heap.size+1,m,none⟩ (.pointer (some ⟨P.vps[m].ab,0,none⟩))) ((wr.setCell ⟨w.heap.size+1,m,none⟩ (.pointer (some ⟨P.vps[m].ab,0,none⟩))).alloc (.cells #[ι (W.qm[m].lit.pred:Nat),.slice a6 W.qm[m].lit.qg.length ar,ι wd,.pointer (some ⟨P.vps[m].bb,0,none⟩),.pointer (some ⟨P.vps[m].fb,0,none⟩),.pointer (some ⟨P.vps[m].ab,0,none⟩)] 301)):=(by go_grown);have g:=tH (CB (o:=m) (u:=.pointer (some ⟨P.vps[m].ab,0,none⟩)) B.out (show w.heap.size≠w.heap.size+1 by omega)) j;have l:=uW c m (by omega) (.pointer (some ⟨P.vps[m].ab,0,none⟩));rw[ad.out] at l;have ah:=zB l j;have aJ:=QB (d.setCell (by simp) _) j;clear l;have aV:(m:Int)<(W.qm.length:Int):=by omega
   clear q0 q1 q2 q3 q4 q5 aN hq ad;generalize W.qm[m].lit.pred=vp at *;generalize W.qm[m].lit.qg.length=vt at *;generalize P.vps[m].bb=bi at *;generalize P.vps[m].fb=bg at *;generalize P.vps[m].ab=bc at *;go_wp2;exact⟨⟨m+1,by omega,by go_num,aJ,g,ah⟩,by simp[intOf];omega⟩
  ·obtain rfl:m=W.qm.length:=by omega
   have aK:Hid (wr.ownsRow w.heap.size 162 1 (.slice (some ⟨w.heap.size+1,0,none⟩) W.qm.length W.qm.length) W.qm.length (QQ O)):=by
    have q:=HR.out;rw[←R.out,CA,R.out] at q;exact q
   have a9:=HW.out.below d;obtain⟨t1,t2,t3,t4⟩:=t.out;obtain⟨bd,aP,d0,d1,d2,d3,d4,d5,d6,d7⟩:=a9;rw[t1] at d3;rw[t2] at d4;rw[t3] at d5;rw[t4] at d7;have f:E≠w.heap.size:=by have:=HW.out.lt;omega
   have aF:Hid (∀W0,μ wr W0->Calls prog 214 #[.agg #[ι W.rule.qh,ι W.rule.vars,ι W.rule.head.pred,.slice U W.rule.head.qg.length x,.slice T W.rule.qc.length A,.slice V W.rule.qp.length z],.slice (some ⟨w.heap.size+1,0,none⟩) W.qm.length W.qm.length,.slice Q W.rule.qp.length y] W0 fun e r=>mT lo W0 own p (xx W.rule (W.qm.map (·.all)) qp) e r):=fun W0 ap=>by
    have q:=N.out W0 (w.heap.size+1) (QB d ap) (zB aK.out ap);rw[kT,t1,t2,t3,t4] at q;exact q
   clear t1 t2 t3 t4 d6 N D hm;generalize ao:xx W.rule (W.qm.map (·.all)) qp=J at *;have ak:=Q7 ao;clear ao;go_wp2;go_region_held3 (fun r=>r.cell? ⟨E,o,none⟩=some (ι W.rule.qh)/\r.cell? ⟨E,o+1,none⟩=some (ι W.rule.vars)/\r.cell? ⟨E,o+2,none⟩=some (ι W.rule.head.pred)/\r.cell? ⟨E,o+3,none⟩=some (.slice U W.rule.head.qg.length x)/\r.cell? ⟨E,o+4,none⟩=some (.slice T W.rule.qc.length A)/\r.cell? ⟨E,o+5,none⟩=some (.slice V W.rule.qp.length z)/\r.cell? ⟨E,o+7,none⟩=some (.slice Q W.rule.qp.length y)) (first|(exact⟨Y,ac,aa,I,G,K,H⟩)|(exact⟨(kj _ _ _ _ _ f).trans Y,(kj _ _ _ _ _ f).trans ac,(kj _ _ _ _ _ f).trans aa,(kj _ _ _ _ _ f).trans I,(kj _ _ _ _ _ f).trans G,(kj _ _ _ _ _ f).trans K,(kj _ _ _ _ _ f).trans H⟩)|go_keep|(go_simp;done)) (first|(go_at_call 214;refine(aF.out _ (by exact(by go_grown))).mono ?_;rintro e w2 ⟨PJ,rfl,C,a0,aQ⟩;have F:μ wr w2:=(zQ (by go_grown) aQ (zg _));have a3:=HW.out.below (QB d F);obtain⟨aX,ae,Y,ac,aa,I,G,K,_,H⟩:=a3;rw[t.out.1] at I;rw[t.out.2.1] at G;rw[t.out.2.2.1] at K;rw[t.out.2.2.2] at H;have g:=tH B.out F;have aC:=wg C g;have L:=pj J PJ C.hlen.1 C.jk;have aA:=Q7 C;have aE:=Q7 a0;clear C a0;generalize ai:uo J PJ=cs at *;have aS:=Q7 ai;clear ai))
   have aR:=p4 (cs:=cs) g L;have ag:=sc w2 w.heap.size cs;have aU:=aA.out.saveJ ag (QU.box g.choose_spec.1);have aB:=(QB d F).trans (ag.below (by simp) (by have:=F.size;omega));clear aC d0 d1 d2 d3 d4 d5 d7 Y ac aa I G K H aP ae;generalize gh w2 w.heap.size cs=w5 at *;go_wp2
   (try simp only[Exit.inBlock,Exit.then])
   exact zK (v:=.agg cs.toArray) (sU rfl _ _ _ _ _ (by rfl) (run_loadVar_mid w5 w.heap.size 0 310 cs _ aR.range underlying310 rfl (by rw[L];exact PT))) rfl ⟨PJ,by rw[ak.out,aS.out],by rw[ak.out];exact aU,aE.out,aB⟩
end
section
open Go.Proofs.Tryz
variable {lo:Nat}
def jO(ps:List j9)(place:Nat):List Nat:=ps.zipIdx.map fun x=>if x.2<place then x.1.bb else if x.2=place then x.1.fb else x.1.ab
theorem BR(vs:List y6)(a:Nat):(QS vs a).length=vs.length:=by simp[QS]
theorem MY{w:World}{own:Nat->zn}{k wd p:Nat}{W:zX}{P:yW}(h:uc lo w own k wd W P)(a i:Nat)(c:i<W.qm.length)(d:i<P.vps.length)(f:i<(QS W.qm a).length)(e:i<(jO P.vps a).length):∃ρ,ρ≠(0,p,0)/\yR lo w own ρ (jO P.vps a)[i] (QS W.qm a)[i]:=by
 have b:=h.view i c d;simp only[jO,QS,uJ,List.getElem_zipIdx,vB];split
 ·exact⟨_,by simp,b.before⟩
 ·split
  ·exact⟨_,by simp,b.qo⟩
  ·exact⟨_,by simp,b.all⟩
attribute [local go_sem] rn
theorem PC(w:World)(own:Nat->zn)(k wd p I o d:Nat)(W:zX)(P:yW)(qp:List zi)(h:uc lo w own k wd W P)(hc:WC w I o W.rule P)(aD:lo<=w.heap.size)(aK:d<=1000000)(hn:qp.length=W.rule.qp.length)(a0:∀i (h1:i<qp.length) (h2:i<P.nbs.length),∃ρ,ρ≠(0,p,0)/\yR lo w own ρ P.nbs[i] qp[i]):
  Calls prog 210 #[.pointer (some ⟨I,o,none⟩),ι d] w fun e t=>mT lo w own p (xx W.rule (QS W.qm d) qp) e t:=by
 obtain⟨i0,hi,aA,aR,aV⟩:=info_parts Qp;have S:Hid (∀X pb,μ w X->X.ownsRow w.heap.size 162 1 (.slice (some ⟨pb,0,none⟩) W.qm.length W.qm.length) W.qm.length (QQ (jO P.vps d))->Calls prog 214 #[kT W.rule P.tv P.pv P.nv,.slice (some ⟨pb,0,none⟩) W.qm.length W.qm.length,P.ntv] X fun e t=>mT lo X own p (xx W.rule (QS W.qm d) qp) e t):=fun X pb hB c=>by
  have q:=Bo (p:=p) (pb:=pb) (qc:=QS W.qm d) (bs:=jO P.vps d) (qp:=qp) (W':=X) h aD (by simp[QS]) (by simp[jO,QS,h.vlen]) (fun i h1 h2=>MY h d i (by simpa [QS] using h1) (by simpa [jO] using h2) h1 h2) hn a0 hB (by rw[BR];exact c);rw[BR] at q;exact q
 have aX:=Q7 fun i a b=>h.viewAt i a b;have aQ:=Q7 fun i a b=>(h.view i a b).qg.qx;have ac:=Q7 h.vlen;have bg:=h.few;obtain⟨br,bi,ah⟩:=zp h.qm;obtain⟨aa,z,a4⟩:=h.rule.head.qx;obtain⟨Y,D,az⟩:=h.rule.qc.qx;obtain⟨ab,C,au⟩:=h.rule.qp.qx;obtain⟨U,B,R⟩:=zp h.qp;have HW:=Q7 hc;have aE:=Q7 ah;have y:Hid (P.tv=.slice aa W.rule.head.qg.length z/\P.pv=.slice Y W.rule.qc.length D/\P.nv=.slice ab W.rule.qp.length C/\P.ntv=.slice U W.rule.qp.length B):=⟨a4,az,au,R⟩;have a6:=fun W0:World=>run_make (P:=prog) (w:=W0) 150 162 i0 _ underlying150 hi aA .i64 .i64 (W.qm.length:Int) (W.qm.length:Int) (by omega) (Int.le_refl _) (by rw[aV];omega) (by omega);rw[aR] at a6;have ao:=hc.c6;rw[ah] at ao;have aP:=hc.lt;have aU:=hc.free;clear h hc a0 ah a4 az au R;go_enter func210,ntmps210;go_upto_region 3 with fail
 have aq:μ w ((w.alloc (.cells (bj 0 0 0 none none 0 0 0 0).toArray 310)).alloc (.cells (madeCells #[.pointer none] W.qm.length) 162)):=(by go_grown);have c:=tQ (w.alloc (.cells (bj 0 0 0 none none 0 0 0 0).toArray 310)) W.qm.length 162 (.pointer none) (by unfold maxLen;omega);rw[World.size_alloc] at c;have a2:uy ((w.alloc (.cells (bj 0 0 0 none none 0 0 0 0).toArray 310)).alloc (.cells (madeCells #[.pointer none] W.qm.length) 162)) w.heap.size:=th _ _ _ _ _ _ _ _ _ _ _;have a1:(jO P.vps d).length=W.qm.length:=by simp[jO,ac.out]
 have ar:Hid (((w.alloc (.cells (bj 0 0 0 none none 0 0 0 0).toArray 310)).alloc (.cells (madeCells #[.pointer none] W.qm.length) 162)).ownsRow w.heap.size 162 1 (.slice (some ⟨w.heap.size+1,0,none⟩) W.qm.length W.qm.length) W.qm.length (qR (jO P.vps d) 0)):=by
  have e:qR (jO P.vps d) 0=List.replicate W.qm.length (.pointer none):=by simp[qR,jO,ac.out]
  rw[Hid,e];exact yt c (by omega)
 have V:=Q7 a1;have bd:Hid (∀i (h1:i<P.vps.length) (h2:i<(jO P.vps d).length),(jO P.vps d)[i]=if i<d then P.vps[i].bb else if i=d then P.vps[i].fb else P.vps[i].ab):=fun i a b=>by simp[jO]
 clear c a1 ao aP aU a6;generalize (w.alloc (.cells (bj 0 0 0 none none 0 0 0 0).toArray 310)).alloc (.cells (madeCells #[.pointer none] W.qm.length) 162)=w1 at *;generalize jO P.vps d=T at *;have E:=Q7 a2;clear a2;go_loopw [19] (fun a7 wr=>∃m:Nat,m<=W.qm.length/\a7=ι m/\μ w wr/\Hid (uy wr w.heap.size)/\Hid (wr.ownsRow w.heap.size 162 1 (.slice (some ⟨w.heap.size+1,0,none⟩) W.qm.length W.qm.length) W.qm.length (qR T m))) (fun i _=>W.qm.length-(intOf i).toNat)
 case atStart=>exact⟨0,zv _,rfl,aq,E,ar⟩
 case round=>
  clear ar E aq;obtain⟨m,hm,rfl,f,E,HR⟩:=hrel;have bm:=f.size;by_cases H:m<W.qm.length
  ·have ae:m<P.vps.length:=by rw[ac.out];exact H
   have ax:m<T.length:=by rw[V.out];exact H
   obtain⟨gv,aB,r,x,q0,q1,q2,q3,q4,q5⟩:=aX.out m H ae;rw[aE.out] at r;simp only[Value.slice.injEq] at r;have aM:=r.1;clear r;subst aM;obtain⟨aC,ay,hq⟩:=aQ.out m H ae;rw[hq] at q1;have x0:=zl f x q0;have x1:=zl f x q1;have x2:=zl f x q2;have x3:=zl f x q3;have x4:=zl f x q4;have x5:=zl f x q5;have bn:gv<wr.heap.size:=by omega
   have c:=HR.out;have aW:=DR T m (by omega);obtain⟨sx,bs⟩:∃sx,wr.cell? ⟨w.heap.size+1,m,none⟩=some sx:=by
    obtain⟨g',bk,a3,_,_,al⟩:=yx c (by omega);simp only[Value.slice.injEq,zt,Addr.mk.injEq,and_true] at a3;have e:=a3.1;subst e;exact⟨_,al m _ (yp (by omega))⟩
   have bq:=qO c;have aK:w.heap.size+1<wr.heap.size:=xI c rfl;obtain⟨F,Z⟩:∃F,F=(if m<d then P.vps[m].bb else if m=d then P.vps[m].fb else P.vps[m].ab):=⟨_,rfl⟩;have ak:Hid ((qR T m).set m ((π F))=qR T (m+1)):=by
    have q:=E3 T m ax;rw[bd.out m ae ax,←Z] at q;exact q
   have l:Below (wr.setCell ⟨w.heap.size+1,m,none⟩ ((π F))).heap.size (wr.setCell ⟨w.heap.size+1,m,none⟩ ((π F))) ((wr.setCell ⟨w.heap.size+1,m,none⟩ ((π F))).alloc (.cells #[ι (W.qm[m].lit.pred:Nat),.slice aC W.qm[m].lit.qg.length ay,ι wd,.pointer (some ⟨P.vps[m].bb,0,none⟩),.pointer (some ⟨P.vps[m].fb,0,none⟩),.pointer (some ⟨P.vps[m].ab,0,none⟩)] 301)):=(by go_grown);have j:=tH (CB (o:=m) (u:=(π F)) E.out (show w.heap.size≠w.heap.size+1 by omega)) l;have n:=uW c m (by omega) ((π F));rw[ak.out] at n;have A:=zB n l;have ag:=QB (f.setCell (by simp) _) l;clear n;have bf:(m:Int)<(W.qm.length:Int):=by omega
   clear q0 q1 q2 q3 q4 q5 aW hq ak;generalize W.qm[m].lit.pred=vp at *;generalize W.qm[m].lit.qg.length=vt at *;generalize P.vps[m].bb=bb at *;generalize P.vps[m].fb=aT at *;generalize P.vps[m].ab=a8 at *;have s:=Q7 Z;clear Z;by_cases g1:m<d
   ·have aL:(m:Int)<(d:Int):=by omega
    obtain rfl:F=bb:=by rw[s.out,zc g1]
    clear s;go_wp2;exact⟨⟨m+1,by omega,by go_num,ag,j,A⟩,by simp[intOf];omega⟩
   ·have aL:¬(m:Int)<(d:Int):=by omega
    by_cases g2:m=d
    ·have aI:((m:Int) == (d:Int))=true:=by rw[beq_iff_eq];omega
     obtain rfl:F=aT:=by rw[s.out,za g1,zc g2]
     have bp:=Q7 g2;clear s g2;go_wp2;exact⟨⟨m+1,by omega,by go_num,ag,j,A⟩,by simp[intOf];omega⟩
    ·have aI:((m:Int) == (d:Int))=false:=by rw[beq_eq_false_iff_ne];omega
     obtain rfl:F=a8:=by rw[s.out,za g1,za g2]
     clear s;go_wp2;exact⟨⟨m+1,by omega,by go_num,ag,j,A⟩,by simp[intOf];omega⟩
  ·obtain rfl:m=W.qm.length:=by omega
   have aS:Hid (wr.ownsRow w.heap.size 162 1 (.slice (some ⟨w.heap.size+1,0,none⟩) W.qm.length W.qm.length) W.qm.length (QQ T)):=by
    have q:=HR.out;rw[←V.out,CA,V.out] at q;exact q
   have aF:=HW.out.below f;obtain⟨t1,t2,t3,t4⟩:=y.out;obtain⟨bo,aY,d0,d1,d2,d3,d4,d5,d6,d7⟩:=aF;rw[t1] at d3;rw[t2] at d4;rw[t3] at d5;rw[t4] at d7;have g:I≠w.heap.size:=by have:=HW.out.lt;omega
   have aO:Hid (∀W0,μ wr W0->Calls prog 214 #[.agg #[ι W.rule.qh,ι W.rule.vars,ι W.rule.head.pred,.slice aa W.rule.head.qg.length z,.slice Y W.rule.qc.length D,.slice ab W.rule.qp.length C],.slice (some ⟨w.heap.size+1,0,none⟩) W.qm.length W.qm.length,.slice U W.rule.qp.length B] W0 fun e t=>mT lo W0 own p (xx W.rule (QS W.qm d) qp) e t):=fun W0 aw=>by
    have q:=S.out W0 (w.heap.size+1) (QB f aw) (zB aS.out aw);rw[kT,t1,t2,t3,t4] at q;exact q
   clear t1 t2 t3 t4 d6 S H hm;generalize av:xx W.rule (QS W.qm d) qp=J at *;have ap:=Q7 av;clear av;go_wp2;go_region_held3 (fun t=>t.cell? ⟨I,o,none⟩=some (ι W.rule.qh)/\t.cell? ⟨I,o+1,none⟩=some (ι W.rule.vars)/\t.cell? ⟨I,o+2,none⟩=some (ι W.rule.head.pred)/\t.cell? ⟨I,o+3,none⟩=some (.slice aa W.rule.head.qg.length z)/\t.cell? ⟨I,o+4,none⟩=some (.slice Y W.rule.qc.length D)/\t.cell? ⟨I,o+5,none⟩=some (.slice ab W.rule.qp.length C)/\t.cell? ⟨I,o+7,none⟩=some (.slice U W.rule.qp.length B)) (first|(exact⟨ad,ai,af,N,L,O,M⟩)|(exact⟨(kj _ _ _ _ _ g).trans ad,(kj _ _ _ _ _ g).trans ai,(kj _ _ _ _ _ g).trans af,(kj _ _ _ _ _ g).trans N,(kj _ _ _ _ _ g).trans L,(kj _ _ _ _ _ g).trans O,(kj _ _ _ _ _ g).trans M⟩)|go_keep|(go_simp;done)) (first|(go_at_call 214;refine(aO.out _ (by exact(by go_grown))).mono ?_;rintro e w2 ⟨PJ,rfl,G,a5,aZ⟩;have K:μ wr w2:=(zQ (by go_grown) aZ (zg _));have a9:=HW.out.below (QB f K);obtain⟨bh,aj,ad,ai,af,N,L,O,_,M⟩:=a9;rw[y.out.1] at N;rw[y.out.2.1] at L;rw[y.out.2.2.1] at O;rw[y.out.2.2.2] at M;have j:=tH E.out K;have aJ:=wg G j;have Q:=pj J PJ G.hlen.1 G.jk;have aG:=Q7 G;have aN:=Q7 a5;clear G a5;generalize an:uo J PJ=cs at *;have bc:=Q7 an;clear an))
   have ba:=p4 (cs:=cs) j Q;have am:=sc w2 w.heap.size cs;have be:=aG.out.saveJ am (QU.box j.choose_spec.1);have aH:=(QB f K).trans (am.below (by simp) (by have:=K.size;omega));clear aJ d0 d1 d2 d3 d4 d5 d7 ad ai af N L O M aY aj;generalize gh w2 w.heap.size cs=w5 at *;go_wp2
   (try simp only[Exit.inBlock,Exit.then])
   exact zK (v:=.agg cs.toArray) (sU rfl _ _ _ _ _ (by rfl) (run_loadVar_mid w5 w.heap.size 0 310 cs _ ba.range underlying310 rfl (by rw[Q];exact PT))) rfl ⟨PJ,by rw[ap.out,bc.out],by rw[ap.out];exact be,aN.out,aH⟩
end
section
open Go.Proofs.Tryz
variable {lo:Nat}{w:World}{p:Nat}
structure S9 (c:Array Value) (o:Nat) (r:zr) (P:yW):Prop where
 c0:c[o]?=some (ι r.qh)
 c1:c[o+1]?=some (ι r.vars)
 c2:c[o+2]?=some (ι r.head.pred)
 c3:c[o+3]?=some P.tv
 c4:c[o+4]?=some P.pv
 c5:c[o+5]?=some P.nv
 c6:c[o+6]?=some P.vv
 c7:c[o+7]?=some P.ntv
theorem S9.at{b o:Nat}{T:TypeId}{c:Array Value}{r:zr}{P:yW}(h:S9 c o r P)(d:Q8 w b c T):WC w b o r P:=by
 obtain⟨a,e⟩:=d.rules;exact⟨d.lt,e,(a _).trans h.c0,(a _).trans h.c1,(a _).trans h.c2,(a _).trans h.c3,(a _).trans h.c4,(a _).trans h.c5,(a _).trans h.c6,(a _).trans h.c7⟩
theorem uc.mod{ok:TypeId->zn->Prop}{w w':World}{own c:Nat->zn}{k wd:Nat}{W:zX}{P:yW}(h:uc lo w own k wd W P)(m:QE lo ok w own w' c)(e:∀ρ,¬ok 284 ρ)(l:∀ρ,¬ok 204 ρ)(n:¬ok 301 (k+1,0,9))(g:∀ρ,¬ok 162 ρ)(f:∀i j t,¬Rz t->¬ok t (k+1,i,j)):uc lo w' c k wd W P:=
 ⟨h.rule.mod m e l,rm h.qm m fun b d=>by rw[h.vrole b d];exact n,h.vlen,fun i a b=>(h.view i a b).mod m (f i) e,fun b d=>by rw[m.old b (xI h.qm d)];exact h.vrole b d,vK h.qp m g,h.nlen,h.few⟩
theorem mC{t:TypeId}(a:Rz t)(h:t∉[214,161,165,310,323]):∀ρ,¬kl p t ρ:=fun ρ q=>by
 rcases q with (q|q|q|q)|q
 ·exact q.1 a
 ·subst q;exact h (by decide)
 ·subst q;exact h (by decide)
 ·rw[q.1] at h;exact h (by decide)
 ·rcases zx.1 q with rfl|q
  ·exact h (by decide)
  ·rcases zx.1 q with rfl|q
   ·exact h (by decide)
   ·cases q
theorem GA{t:TypeId}{ρ:zn}(a:¬Rz t)(h:ρ≠(0,p,0)):¬kl p t ρ:=fun q=>by
 rcases q with (q|q|q|q)|q
 ·exact h q.2
 ·subst q;exact a (by decide)
 ·subst q;exact a (by decide)
 ·rw[q.1] at a;exact a (by decide)
 ·rcases zx.1 q with rfl|q
  ·exact a (by decide)
  ·rcases zx.1 q with rfl|q
   ·exact a (by decide)
   ·cases q
theorem uc.all{w':World}{own a:Nat->zn}{k wd:Nat}{W:zX}{P:yW}(h:uc lo w own k wd W P)(m:QE lo (kl p) w own w' a):uc lo w' a k wd W P:=
 h.mod m (mC (by decide) (by decide)) (mC (by decide) (by decide)) (mC (by decide) (by decide) _) (mC (by decide) (by decide)) (fun _ _ _ b=>GA b (by simp))
def gY(b:List Nat)(n:Nat)(r:zr)(a:List Nat):Prop:=∀i (c:i<r.qp.length) (d:i<a.length),r.qp[i].pred≠r.head.pred/\r.qp[i].pred<n/\∃e:r.qp[i].pred<b.length,a[i]=b[r.qp[i].pred]
theorem DX(wd:Nat)(R:zy)(r:zr):(qZ wd R r).length=r.qp.length:=by simp[qZ]
theorem gY.tries{w:World}{own:Nat->zn}{d:Nat}{R:zy}{wd mr mx:Nat}{Q:ue}{r:zr}{a:List Nat}(h:gY Q.tbs R.rows.length r a)(l:zW lo w own d R wd mr mx Q)(m:a.length=r.qp.length):∀i (j:i<(qZ wd R r).length) (c:i<a.length),∃ρ,ρ≠(0,r.head.pred,0)/\yR lo w own ρ a[i] (qZ wd R r)[i]:=by
 intro i j c;obtain⟨f,b,k,g⟩:=h i (by omega) c;refine⟨(0,r.qp[i].pred,0),by simp[f],?_⟩;have e:(qZ wd R r)[i]=R.rows[r.qp[i].pred]:=by
  simp only[qZ,uJ,fK];rw[za (by omega)];simp[b]
 rw[e,g];exact l.tries _ b k
theorem im{mr:Nat}{R R':zy}{row:zm}{b:Bool}(h:addR mr R p row=some (R',b)):R'.rows.length=R.rows.length:=by
 obtain⟨_,_,_,_,_,a⟩:=oO h;rcases a with⟨_,rfl,_⟩|⟨_,rfl,_⟩<;>simp
theorem ru{mr p:Nat}:∀(n:Nat) (R R':zy) (J:z9) (b:Bool),vH mr p n R J=some (R',b)->R'.rows.length=R.rows.length
 |0,R,R',J,b,h=>by simp[vH] at h
 |n+1,R,R',J,b,h=>by
  unfold vH at h;cases e:f5 n J with
  |none=>rw[e] at h;cases h
  |some f=>
   obtain⟨c,j⟩:=f;rw[e] at h;cases j with
   |false=>
    simp only[zt,ya] at h;rw[←h.1]
   |true=>
    dsimp only at h;cases a:addR mr R p (zF c.head c.ja) with
    |none=>rw[a] at h;cases h
    |some d=>
     obtain⟨g,i⟩:=d;rw[a] at h;cases i with
     |false=>
      simp only[zt,ya] at h;rw[←h.1];exact im a
     |true=>exact(ru n g R' c b h).trans (im a)
attribute [local go_sem] rn
theorem j4.laid{J:z9}{a:xy}(h:j4 lo w J a)(g:lo<=w.heap.size):QW lo (gh (w.alloc (.cells (bj 0 0 0 none none 0 0 0 0).toArray 310)) w.heap.size (uo J a)) w.heap.size J a/\μ w (gh (w.alloc (.cells (bj 0 0 0 none none 0 0 0 0).toArray 310)) w.heap.size (uo J a)):=by
 have b:μ w (w.alloc (.cells (bj 0 0 0 none none 0 0 0 0).toArray 310)):=(zo _ _).alloc (zg _) _;have f:=pg w 0 0 0 none none 0 0 0 0;have d:=p4 f (pj J a h.hlen.1 h.jk);have e:=sc (w.alloc (.cells (bj 0 0 0 none none 0 0 0 0).toArray 310)) w.heap.size (uo J a);obtain⟨j,c,_⟩:=f;exact⟨((h.below b).saveJ e (QU.box c)).join g d,b.trans (e.below (fun x i=>by simp at i;omega) (by simp))⟩
theorem Mp(w:World)(own:Nat->zn)(B A o k:Nat)(c:Array Value)(R R':zy)(W:zX)(P:yW)(wd mr mx:Nat)(Q:ue)(n:Nat)(b:Bool)(h:zW lo w own B R wd mr mx Q)(Z:uc lo w own k wd W P)(u:Q8 w A c 292)(t:S9 c o W.rule P)(L:gY Q.tbs R.rows.length W.rule P.nbs)(y:lo<=w.heap.size)(hr:kU n wd mr true R W=some (R',b)):
  Calls prog 193 #[(π B),.pointer (some ⟨A,o,none⟩),.bool true] w fun e w'=>wE lo w own B W.rule.head.pred R' b wd mr mx Q e w':=by
 have T:=hr;have O:=Q7 (K5 w own k wd W.rule.head.pred A o W P _ Z (t.at u) y (DX _ _ _) (L.tries h Z.nlen));have D:=Q7 fun W0 jb z v hj M=>Ew W0 own B jb R R' _ z wd mr mx Q W.rule.head.pred n b (h.below v) hj M (by have:=v.size;omega) T;have G:=t.at u;have m:=Q7 G;have F:=Q7 y;generalize xx W.rule (W.qm.map (·.all)) (qZ wd R W.rule)=J at *;generalize S:W.rule.head.pred=p at *;have N:=Q7 S;go_enter func193,ntmps193;go_upto_region 3 with (first|(go_at_call 207;refine O.out.mono ?_;rintro e i ⟨z,rfl,a,r,f⟩;have aa:μ i (i.alloc (.cells (bj 0 0 0 none none 0 0 0 0).toArray 310)):=(by go_grown);have ac:=wg a (pg i 0 0 0 none none 0 0 0 0);have X:=pj J z a.hlen.1 a.jk;have C:=Q7 a;have U:=Q7 r;clear a r;generalize l:uo J z=cs at *;have I:=Q7 l;clear l))
 have E:=yc F.out f.size;have d:=C.out.laid E;rw[I.out] at d;obtain⟨V,H⟩:=d;generalize gh (i.alloc (.cells (bj 0 0 0 none none 0 0 0 0).toArray 310)) i.heap.size cs=Y at *;have g:=f.trans (H.mono f.size);have ab:Y.cell? ⟨A,o+2,none⟩=some (ι p):=by rw[←N.out];exact(g.cell m.out.lt).trans m.out.c2
 have q:=D.out Y _ z g V U.out;have K:=Q7 g;go_wp2_with (go_at_call 208;refine q.mono ?_;rintro e w4 ⟨rfl,j,s,x,hm⟩)
 go_ret;exact⟨rfl,j,s,x,(QE.of own K.out).trans hm⟩
end
section
open Go.Proofs.Tryz
variable {lo:Nat}
attribute [local go_sem] rn
theorem MB(w:World)(own:Nat->zn)(rb gw o k:Nat)(c:Array Value)(R R':zy)(W:zX)(P:yW)(wd mr mx:Nat)(Q:ue)(n:Nat)(b:Bool)(h:zW lo w own rb R wd mr mx Q)(hw:uc lo w own k wd W P)(X:Q8 w gw c 292)(S:S9 c o W.rule P)(az:gY Q.tbs R.rows.length W.rule P.nbs)(ah:lo<=w.heap.size)(hr:kU n wd mr false R W=some (R',b)):
  Calls prog 193 #[(π rb),.pointer (some ⟨gw,o,none⟩),.bool false] w fun e w'=>wE lo w own rb W.rule.head.pred R' b wd mr mx Q e w':=by
 have aw:Hid (jz n wd mr W (W.qm.length-0) 0 R=some (R',b)):=hr;have HH:=Q7 h;have aF:=Q7 hw;have a7:=Q7 X;have a0:=Q7 S;have a9:=Q7 az;have aA:=Q7 ah;have aR:=hw.few;obtain⟨aV,aS,ab⟩:=zp hw.qm;have aD:=Q7 ab;have Y:=S.at X;have aU:=Y.lt;have aG:=Y.c6;rw[ab] at aG;clear hr h hw X S az ah ab Y;go_enter func193,ntmps193;go_upto_region 5 with fail
 go_loopw [27] (fun aE wr=>∃m:Nat,m<=W.qm.length/\aE=ι m/\∃B a G,Hid (zW lo wr a rb B wd mr mx ⟨Q.rv,Q.tbs,Q.fv,G⟩)/\Hid (QE lo (kl W.rule.head.pred) w own wr a)/\Hid (B.rows.length=R.rows.length)/\Hid (jz n wd mr W (W.qm.length-m) m B=some (R',b))) (fun i _=>W.qm.length-(intOf i).toNat)
 case atStart=>exact⟨0,zv _,rfl,R,own,Q.fvs,HH,QE.refl _ _,rfl,aw⟩
 case round=>
  clear aw;obtain⟨m,hm,rfl,B,a,G,C,g,M,ap⟩:=hrel;have a6:=g.out.size;have z:=yc aA.out a6;by_cases I:m<W.qm.length
  ·have ac:=Q7 (aF.out.all g.out);have a4:=Q7 (a7.out.mod g.out (mC (by decide) (by decide) _));have H:=ac.out;have ax:m<P.vps.length:=by rw[H.vlen];exact I
   obtain⟨gv,aC,l,aW,q0,q1,q2,q3,q4,q5⟩:=H.viewAt m I ax;rw[aD.out] at l;simp only[Value.slice.injEq] at l;have aI:=l.1;clear l;subst aI;have aa:=H.view m I ax;obtain⟨ag,K,hq⟩:=aa.qg.qx;rw[hq] at q1;have d:=ap.out;rw[show W.qm.length-m=(W.qm.length-(m+1))+1 from by omega] at d;unfold jz at d;rw[show W.qm.getD m ⟨⟨0,[]⟩,zi.zero,zi.zero,zi.zero⟩=W.qm[m] by simp[List.getD,I]] at d;obtain⟨aM,au,_⟩:=aa.qo;have af:=Q7 fun E hb=>Bw E _ _ aM (au.below hb);have r:=(a0.out.at a4.out);have aB:=r.lt;have aQ:(m:Int)<(W.qm.length:Int):=by omega
   clear au aa hq H;by_cases am:W.qm[m].qo.count>0
   ·rw[zc am] at d;cases ha:vH mr W.rule.head.pred n B (xx W.rule (QS W.qm m) (qZ wd B W.rule)) with
    |none=>rw[ha] at d;cases d
    |some ar=>
     obtain⟨R3,b3⟩:=ar;rw[ha] at d;have u:=ru _ _ _ _ _ ha;have aK:=Q7 (u.trans M.out);have a5:Hid (∀E,μ wr E->Calls prog 210 #[.pointer (some ⟨gw,o,none⟩),ι m] E fun e w'=>mT lo E a W.rule.head.pred (xx W.rule (QS W.qm m) (qZ wd B W.rule)) e w'):=fun E hb=>by
      have aJ:=QE.of (lo:=lo) (ok:=kl W.rule.head.pred) a hb;exact PC E a k wd W.rule.head.pred gw o m W P _ (ac.out.all aJ) ((a0.out.at a4.out).below hb) (yc z hb.size) (by omega) (DX _ _ _) (gY.tries (by rw[M.out];exact a9.out) (C.out.below hb) ac.out.nlen)
     have av:=Q7 fun E jb PJ ao hj aL=>Ew E a rb jb B R3 _ PJ wd mr mx _ W.rule.head.pred n b3 (C.out.below ao) hj aL (yc z ao.size) ha;have aO:=Q7 r.c2;clear r ha u;generalize xx W.rule (QS W.qm m) (qZ wd B W.rule)=J at *;have aN:(0:Int)<(W.qm[m].qo.count:Nat):=by omega
     have t:Hid ((match (some (R3,b3):Option (zy×Bool)) with|none=>none|some (R,false)=>some (R,false)|some (R,true)=>jz n wd mr W (W.qm.length-(m+1)) (m+1) R)=some (R',b)):=d;clear d;generalize W.qm[m].qo.count=ct at *;generalize W.qm[m].lit.pred=vp at *;generalize W.qm[m].lit.qg.length=vt at *;generalize P.vps[m].bb=ad at *;generalize P.vps[m].fb=Z at *;generalize P.vps[m].ab=N at *;generalize an:W.rule.head.pred=p at *;have aP:=Q7 an;clear an;have f:μ wr (wr.alloc (.cells #[ι vp,.slice ag vt K,ι wd,(π ad),(π Z),(π N)] 301)):=(by go_grown);have j:=Q7 f;clear f;go_upto_region 9 with (first|(go_at_call 209;refine(af.out _ j.out).mono ?_;rintro e F ⟨rfl,U⟩;obtain rfl:=U.symm)|(go_at_call 210;refine(a5.out _ j.out).mono ?_;rintro e F ⟨PJ,rfl,A,a3,a1⟩;have O:=QB j.out a1;clear a1;have a8:μ F (F.alloc (.cells (bj 0 0 0 none none 0 0 0 0).toArray 310)):=(by go_grown);have aH:=wg A (pg F 0 0 0 none none 0 0 0 0);have al:=pj J PJ A.hlen.1 A.jk;have aj:=Q7 A;have aq:=Q7 a3;clear A a3;generalize ak:uo J PJ=cs at *;have a2:=Q7 ak;clear ak))
     have y:=aj.out.laid (yc z O.size);rw[a2.out] at y;obtain⟨ai,ay⟩:=y;generalize gh (F.alloc (.cells (bj 0 0 0 none none 0 0 0 0).toArray 310)) F.heap.size cs=W3 at *;have D:=QB O ay;have aT:=zl D aB aO.out;have L:=av.out W3 _ PJ D ai aq.out;have ae:=Q7 D;clear ai ay D aj aq a2 aH al a8 av a5 O;generalize F.heap.size=jb at *;cases b3 with
     |false=>
      have T:Hid (R3=R'/\false=b):=by have q:=t.out;simp only[zt,ya] at q;exact q
      go_wp2_with (go_at_call 208;refine L.mono ?_;rintro e w4 ⟨rfl,s,v,x,V⟩)
      go_ret;exact⟨by rw[←T.out.2];rfl,s,v,by rw[←T.out.1];exact x,by rw[aP.out];exact g.out.trans ((QE.of a ae.out).trans V)⟩
     |true=>
      have T:Hid (jz n wd mr W (W.qm.length-(m+1)) (m+1) R3=some (R',b)):=t.out;clear t;go_wp2_with (go_at_call 208;refine L.mono ?_;rintro e w4 ⟨rfl,s,v,x,V⟩)
      exact⟨⟨m+1,by omega,by go_num,R3,s,v,x,g.out.trans ((QE.of a ae.out).trans V),aK,T⟩,by simp[intOf];omega⟩
   ·rw[za am] at d;have t:=Q7 d;clear d r;have aN:¬(0:Int)<(W.qm[m].qo.count:Nat):=by omega
    generalize W.qm[m].qo.count=ct at *;generalize W.qm[m].lit.pred=vp at *;generalize W.qm[m].lit.qg.length=vt at *;generalize P.vps[m].bb=ad at *;generalize P.vps[m].fb=Z at *;generalize P.vps[m].ab=N at *;have f:μ wr (wr.alloc (.cells #[ι vp,.slice ag vt K,ι wd,(π ad),(π Z),(π N)] 301)):=(by go_grown);have j:=Q7 f;clear f;go_wp2_with (go_at_call 209;refine(af.out _ j.out).mono ?_;rintro e F ⟨rfl,U⟩;obtain rfl:=U.symm)
    exact⟨⟨m+1,by omega,by go_num,B,a,G,C.out.below j.out,g.out.trans (QE.of a j.out),M,t⟩,by simp[intOf];omega⟩
  ·obtain rfl:m=W.qm.length:=by omega
   have d:=ap.out;rw[kf] at d;simp only[jz,zt,ya] at d;have T:=Q7 d;clear d;go_wp2;go_ret;exact⟨by rw[←T.out.2];rfl,a,G,by rw[←T.out.1];exact C.out,g.out⟩
theorem P3(w:World)(own:Nat->zn)(a j o k:Nat)(c:Array Value)(R R':zy)(W:zX)(P:yW)(wd mr mx:Nat)(Q:ue)(n:Nat)(first b:Bool)(h:zW lo w own a R wd mr mx Q)(l:uc lo w own k wd W P)(g:Q8 w j c 292)(f:S9 c o W.rule P)(i:gY Q.tbs R.rows.length W.rule P.nbs)(d:lo<=w.heap.size)(m:kU n wd mr first R W=some (R',b)):
  Calls prog 193 #[(π a),.pointer (some ⟨j,o,none⟩),.bool first] w fun e p=>wE lo w own a W.rule.head.pred R' b wd mr mx Q e p:=by
 cases first with
 |true=>exact Mp w own a j o k c R R' W P wd mr mx Q n b h l g f i d m
 |false=>exact MB w own a j o k c R R' W P wd mr mx Q n b h l g f i d m
end
section
open Go.Proofs.Tryz
variable {lo:Nat}{k wd cap:Nat}{c:Array Value}{w w':World}{own':Nat->zn}{xs:List Value}
def dY(k:Nat):TypeId->zn->Prop:=fun t ρ=>(¬Rz t/\∃i j,ρ=(k+1,i,j))∨(t=301/\ρ=(k+1,0,9))
theorem Lz{i:Nat}{t:TypeId}{ρ:zn}(h:fR k i (k+1,0,9) t ρ):dY k t ρ:=by
 rcases h with⟨a,j,b⟩|h
 ·exact zf ⟨a,i,j,b⟩
 ·exact zb h
theorem l0{t:TypeId}(h:Rz t)(a:t≠301):∀ρ,¬dY k t ρ:=fun ρ q=>by
 rcases q with q|q
 ·exact q.1 h
 ·exact a q.1
theorem p9{t:TypeId}{a b c:Nat}(h:a≠k+1):¬dY k t (a,b,c):=fun q=>by
 rcases q with⟨_,i,j,q⟩|⟨_,q⟩<;>simp at q<;>omega
theorem gm{i:Nat}{ρg:zn}{t:TypeId}(h:Rz t)(a:t≠301):∀ρ,¬fR k i ρg t ρ:=fun ρ q=>by
 rcases q with q|q
 ·exact q.1 h
 ·exact a q.1
theorem zW.work{own:Nat->zn}{a:Nat}{R:zy}{mr mx:Nat}{Q:ue}(h:zW lo w own a R wd mr mx Q)(m:QE lo (dY k) w own w' own'):zW lo w' own' a R wd mr mx Q:=
 h.mod m (l0 (by decide) (by decide)) (l0 (by decide) (by decide)) (l0 (by decide) (by decide)) (fun _=>p9 (by omega)) (fun _ _ _=>p9 (by omega))
theorem Mb{a:Nat}{e:TypeId}{b g n m:Nat}(h:w.ownsRow a e b (.slice (some ⟨g,0,none⟩) n cap) m xs)(r:w'.heap[g]?=w.heap[g]?):w'.ownsRow a e b (.slice (some ⟨g,0,none⟩) n cap) m xs:=by
 obtain⟨s,j⟩:=h;refine⟨s,?_⟩;rcases j with j|⟨q,d,i,f,o,l,p⟩
 ·exact zf j
 ·refine zb ⟨q,d,i,f,o,?_,p⟩;simp at f;rw[←f.1,r,f.1];exact l
theorem LK{a:Nat}{e:TypeId}{b g n m:Nat}(h:w.ownsRow a e b (.slice (some ⟨g,0,none⟩) n cap) m xs)(d:Q8 w g c e)(j:Nat)(i:j<xs.length)(u:Value)(f:Q8 w' g (c.setIfInBounds j u) e):w'.ownsRow a e b (.slice (some ⟨g,0,none⟩) n cap) m (xs.set j u):=by
 refine Mb (uW h j i u) ?_;unfold Q8 at f d;rw[f];simp[World.setCell,Array.getElem?_modify,d]
theorem DO(wd:Nat):∀(vs:List y6) (ps:List j9),ps.length=vs.length->(vY wd vs ps).length=6*vs.length
 |[],[],_=>rfl
 |[],_::_,h=>by simp at h
 |_::_,[],h=>by simp at h
 |v::vs,p::ps,h=>by
  have:=DO wd vs ps (by simpa using h);simp only[vY,lE,nf,yq] at this ⊢;rw[this];simp[gI];omega
theorem EQ(wd:Nat):∀(vs:List y6) (ps:List j9) (i:Nat) (_:i<vs.length) (b:i<ps.length) (V:y6) (a:Nat),V.lit=(vs.getD i V).lit->vY wd (vs.set i V) (ps.set i ⟨ps[i].tv,ps[i].bb,a,ps[i].ab⟩)=(vY wd vs ps).set (i*6+4) ((π a))
 |[],_,i,d,_,_,_,_=>by simp at d
 |v::vs,[],i,_,b,_,_,_=>by simp at b
 |v::vs,p::ps,0,_,_,V,a,h=>by
  simp at h;simp[vY,gI,h,pt]
 |v::vs,p::ps,i+1,d,b,V,a,h=>by
  have:=EQ wd vs ps i (by simpa using d) (by simpa using b) V a (by simpa using h);simp only[vY,ml,lE,nf,nh] at this ⊢;rw[this,List.set_append,za (by simp[gI];omega)];congr 2;simp[gI];omega
def uY{α:Type}(a vs:List α)(m:Nat):List α:=a.take m++vs.drop m
theorem tK{α:Type}{a vs:List α}(h:a.length=vs.length)(m:Nat)(b:m<=vs.length):(uY a vs m).length=vs.length:=by simp[uY];omega
theorem A3{α:Type}{a vs:List α}(h:a.length=vs.length)(m:Nat)(d:m<vs.length)(b:m<(uY a vs m).length):(uY a vs m)[m]=vs[m]:=by
 simp only[uY];rw[mX (by simp;omega)];simp[show min m a.length=m by omega]
theorem Dy{α:Type}{a vs:List α}(h:a.length=vs.length)(m:Nat)(e:m<vs.length)(b:m<a.length):(uY a vs m).set m a[m]=uY a vs (m+1):=by
 have d:=xn e;have g:a.take (m+1)=a.take m++[a[m]]:=by rw[yL b]
 have f:(a.take m).length=m:=by simp;omega
 show(a.take m++vs.drop m).set m a[m]=a.take (m+1)++vs.drop (m+1);rw[d,g,List.set_append,za (by omega),f,kf,nW,ky];rfl
theorem Ep{f:Nat}{V V':y6}{a:List zm}(h:dM f wd V a=some V'):V'.lit=V.lit:=by
 obtain⟨_,_,_,_,_,_,_,_,e⟩:=Fl h;rw[e]
theorem EJ{f wd:Nat}{j:List (List zm)}:∀{vs a:List y6},dP f wd j vs=some a->a.length=vs.length/\∀i (g:i<vs.length) (d:i<a.length),if vs[i].lit.pred<j.length then dM f wd vs[i] (j.getD vs[i].lit.pred [])=some a[i] else a[i]=vs[i]
 |[],a,h=>by
  simp[dP] at h;subst h;exact⟨rfl,fun i h=>by simp at h⟩
 |V::vs,a,h=>by
  unfold dP at h;split at h
  ·rename_i v o b l;simp at h;subst h;obtain⟨m,n⟩:=EJ l;refine⟨by simp[m],fun i g d=>?_⟩;match i,g,d with
   |0,_,_=>
    simp only[gH];by_cases e:V.lit.pred<j.length
    ·rw[zc e] at b ⊢;exact b
    ·rw[za e] at b ⊢;simpa using b.symm
   |i+1,g,d=>
    simp only[nh];exact n i (by simpa using g) (by simpa using d)
  ·cases h
theorem uc.renewed{own:Nat->zn}{i g d:Nat}{W:zX}{P:yW}{V':y6}(h:uc lo w own k wd W P)(p:i<W.qm.length)(A:i<P.vps.length)(o:P.vv=.slice (some ⟨g,0,none⟩) W.qm.length cap)(v:Q8 w g c 301)(y:V'.lit=W.qm[i].lit)(u:vF lo w' own' k i V' ⟨P.vps[i].tv,P.vps[i].bb,d,P.vps[i].ab⟩)(z:Q8 w' g (c.setIfInBounds (i*6+4) ((π d))) 301)(m:QE lo (fR k i (k+1,0,9)) w own w' own'):uc lo w' own' k wd ⟨W.rule,W.qm.set i V'⟩ {P with vps:=P.vps.set i ⟨P.vps[i].tv,P.vps[i].bb,d,P.vps[i].ab⟩}:=by
 refine⟨h.rule.mod m (gm (by decide) (by decide)) (gm (by decide) (by decide)),?_,by simp[h.vlen],fun j a b=>?_,fun b f=>(m.old b (xI h.qm f)).trans (h.vrole b f),vK h.qp m (gm (by decide) (by decide)),h.nlen,by simpa using h.few⟩
 ·have r:=h.qm;dsimp only;rw[o] at r ⊢;rw[fh];have e:=EQ wd W.qm P.vps i p A V' d (by simp[List.getD,p,y]);have s:=DO wd W.qm P.vps h.vlen;have q:=LK r v (i*6+4) (by omega) ((π d)) z;rw[←e] at q;exact q
 ·simp only[fh] at a b;simp only[lO];by_cases e:i=j
  ·subst e;rw[zc rfl,zc rfl];exact u
  ·rw[za e,za e];refine(h.view j a b).mod m (fun q t x l=>?_) (gm (by decide) (by decide));rcases l with⟨_,B,l⟩|⟨n,l⟩
   ·simp at l;omega
   ·subst n;exact x (by decide)
def I3(lo:Nat)(w:World)(own:Nat->zn)(k wd:Nat)(W:zX)(b:List y6)(P:yW)(e:Ending)(w':World):Prop:=e=ε (.tuple #[])/\∃own' a,uc lo w' own' k wd ⟨W.rule,b⟩ ⟨P.tv,P.pv,P.nv,P.vv,P.ntv,a,P.nbs⟩/\QE lo (dY k) w own w' own'
theorem G6(w:World)(own:Nat->zn)(rb gw o k:Nat)(c:Array Value)(R:zy)(W:zX)(f:List y6)(P:yW)(wd mr mx:Nat)(Q:ue)(ad:Nat)(h:zW lo w own rb R wd mr mx Q)(hw:uc lo w own k wd W P)(aj:Q8 w gw c 292)(ag:S9 c o W.rule P)(av:lo<=w.heap.size)(ay:∀l∈R.qo,l.length<=1048577)(hr:dP ad wd R.qo W.qm=some f):
  Calls prog 194 #[.pointer (some ⟨gw,o,none⟩),Q.fv] w fun e w'=>I3 lo w own k wd W f P e w':=by
 obtain⟨a0,a9⟩:=EJ hr;have C:=Q7 a0;have aK:=Q7 a9;have HH:=Q7 h;have aG:=Q7 hw;have aB:=Q7 aj;have a3:=Q7 ag;have aC:=Q7 av;have aM:=Q7 ay;have aR:=hw.few;have aZ:=h.few.2.1;obtain⟨aY,x,am⟩:=zp hw.qm;have A:=Q7 am;obtain⟨aU,aS,ah⟩:=zp h.qo;have a6:=Q7 ah;have ak:=ag.at aj;have aX:=ak.lt;have ax:=ak.c6;rw[am] at ax;rw[ah];clear hr h hw aj ag av am ak a0 a9 ay ah;go_enter func194,ntmps194;go_upto_region 1 with fail
 go_loopw [11] (fun aL wr=>∃m:Nat,m<=W.qm.length/\aL=ι m/\∃d a,Hid (uc lo wr d k wd ⟨W.rule,uY f W.qm m⟩ ⟨P.tv,P.pv,P.nv,P.vv,P.ntv,a,P.nbs⟩)/\Hid (QE lo (dY k) w own wr d)) (fun i _=>W.qm.length-(intOf i).toNat)
 case atStart=>exact⟨0,zv _,rfl,own,P.vps,aG.out,QE.refl _ _⟩
 case round=>
  obtain⟨m,hm,rfl,d,a,T,D⟩:=hrel;have aA:=D.out.size;have a4:=yc aC.out aA;by_cases X:m<W.qm.length
  ·have V:=T.out;have u:m<(uY f W.qm m).length:=by rw[tK C.out m hm];exact X
   have a1:m<f.length:=by rw[C.out];exact X
   have v:=A3 C.out m X u;have Z:=Dy C.out m X a1;have ab:m<a.length:=by have:=V.vlen;dsimp only at this;omega
   obtain⟨gv,aF,p,F,q0,q1,q2,q3,q4,q5⟩:=V.viewAt m u ab;dsimp only at p q0 q1 q2 q3 q4 q5;rw[A.out] at p;simp only[Value.slice.injEq] at p;have ai:=p.1;clear p;subst ai;obtain⟨I,r,hq⟩:=(V.view m u ab).qg.qx;dsimp only at hq;rw[hq] at q1;rw[v] at q0 q1;have aQ:(m:Int)<(W.qm.length:Int):=by omega
   have ao:=Q7 (aB.out.mod D.out (l0 (by decide) (by decide) _));have az:wr.cell? ⟨gw,o+6,none⟩=some (.slice (some ⟨gv,0,none⟩) W.qm.length x):=by rw[←A.out];exact(a3.out.at ao.out).c6
   have aD:=ao.out.lt;have j:=aK.out m X a1;have aV:¬(W.qm[m].lit.pred:Int)<0:=by omega
   by_cases N:W.qm[m].lit.pred<R.qo.length
   ·rw[zc N] at j;have aI:=Q7 (HH.out.work D.out);have E:=aI.out;have a8:W.qm[m].lit.pred<Q.fvs.length:=by rw[E.flen];exact N
    obtain⟨gf,aJ,y,_,a5,a2⟩:=yx E.qo (by omega);rw[a6.out] at y;simp only[Value.slice.injEq] at y;have ai:=y.1;clear y;subst ai;have z:=a2 W.qm[m].lit.pred _ (yp a8);have J:=(E.jm _ N a8).1;obtain⟨aq,O,Y⟩:=zp J.1;have ar:R.qo[W.qm[m].lit.pred].length<=1048577:=aM.out _ (zs _);rw[show R.qo.getD W.qm[m].lit.pred []=R.qo[W.qm[m].lit.pred] by simp[List.getD,N]] at j;have au:Hid (∀S,μ wr S->Q8 S wr.heap.size #[ι (W.qm[m].lit.pred:Nat),.slice I W.qm[m].lit.qg.length r,ι wd,.pointer (some ⟨a[m].bb,0,none⟩),.pointer (some ⟨a[m].fb,0,none⟩),.pointer (some ⟨a[m].ab,0,none⟩)] 301->Calls prog 206 #[.pointer (some ⟨gv,m*6,none⟩),.slice aq R.qo[W.qm[m].lit.pred].length O] S fun e w'=>e=ε (.tuple #[])/\w'.cell? ⟨gw,o+6,none⟩=some (.slice (some ⟨gv,0,none⟩) W.qm.length x)/\w'.cell? ⟨wr.heap.size,0,none⟩=some (ι (W.qm[m].lit.pred:Nat))/\w'.cell? ⟨gf,W.qm[m].lit.pred,none⟩=some (.slice aq R.qo[W.qm[m].lit.pred].length O)/\Hid (∃own' K,uc lo w' own' k wd ⟨W.rule,uY f W.qm (m+1)⟩ ⟨P.tv,P.pv,P.nv,P.vv,P.ntv,K,P.nbs⟩/\QE lo (dY k) w own w' own')):=fun S t H=>by
     have a7:QE lo (fun _ _=>False) wr d S (ext d wr.heap.size (0,0,5)):=QE.extNew d (0,0,5) t;have aa:=T.out.mod a7 (fun _=>id) (fun _=>id) id (fun _=>id) (fun _ _ _ _=>id);have aw:=ao.out.below t;have ac:=aa.qm;dsimp only at ac;rw[A.out] at ac;obtain⟨cg,ap⟩:=uV ac rfl;have an:=aa.vrole gv (by dsimp only;rw[A.out];rfl);obtain⟨n,_⟩:=ap.rules;obtain⟨cf,ae⟩:=uV (zB E.qo t) (b:=gf) (by rw[a6.out];rfl);have aP:VC cg (m*6) wd W.qm[m].lit.pred a[m].tv a[m].bb a[m].fb a[m].ab:=⟨(n _).symm.trans ((t.cell F).trans q0),(n _).symm.trans ((t.cell F).trans (by rw[q1,hq,v])),(n _).symm.trans ((t.cell F).trans q2),(n _).symm.trans ((t.cell F).trans q3),(n _).symm.trans ((t.cell F).trans q4),(n _).symm.trans ((t.cell F).trans q5)⟩;have af:=aa.view m u ab;dsimp only at af;rw[v] at af;have q:=A4 S _ k m gv (m*6) wd ad cg W.qm[m] f[m] a[m] _ _ ap aP af (J.below' t) (yV ac rfl) (yc a4 t.size) E.small.1 ar j;rw[Y] at q;refine q.mono ?_;rintro e w' ⟨rfl,aW,own',aO,aH,B⟩;rw[an] at B;have al:=aa.renewed (W:=⟨W.rule,uY f W.qm m⟩) u ab (cap:=x) (by dsimp only;rw[A.out,tK C.out m hm]) ap (by dsimp only;rw[v];exact Ep j) aO aH B;dsimp only at al;rw[Z] at al;have c1:=aw.mod B (gm (by decide) (by decide) _);have c2:=H.mod B (fun q=>by rcases q with⟨q,_⟩|⟨_,q⟩;exact q (by decide);simp[ext] at q);have c3:=ae.mod B (gm (by decide) (by decide) _);refine⟨rfl,?_,?_,?_,own',_,al,(D.out.trans (a7.more fun _ _ q=>q.elim)).trans (B.more fun _ _ q=>Lz q)⟩
     ·rw[←A.out];exact(a3.out.at c1).c6
     ·rw[c2.rules.1];rfl
     ·rw[c3.rules.1,←ae.rules.1,t.cell a5,z,Y]
    rw[Y] at z;have aT:=ar;clear Y J a2 E j hq V ar v Z u;generalize R.qo[W.qm[m].lit.pred].length=rl at *;have aE:(W.qm[m].lit.pred:Int)<(R.qo.length:Int):=by omega
    generalize W.qm[m].lit.pred=vp at *;generalize W.qm[m].lit.qg.length=vt at *;generalize a[m].bb=U at *;generalize a[m].fb=M at *;generalize a[m].ab=G at *;go_upto_region 4 with fail
    have g:μ wr (wr.alloc (.cells #[ι vp,.slice I vt r,ι wd,(π U),(π M),(π G)] 301)):=(by go_grown);have H:=Q8.new wr #[ι vp,.slice I vt r,ι wd,(π U),(π M),(π G)] 301;generalize aN:wr.alloc (.cells #[ι vp,.slice I vt r,ι wd,(π U),(π M),(π G)] 301)=W1 at *;clear aN;have x1:=zl g aD az;have x2:=zl g a5 z;have x3:W1.cell? ⟨wr.heap.size,0,none⟩=some (ι vp):=by rw[H.rules.1];rfl
    clear ax az z q0 q1 q2 q3 q4 q5;go_region_held3 (fun w'=>w'.cell? ⟨gw,o+6,none⟩=some (.slice (some ⟨gv,0,none⟩) W.qm.length x)/\w'.cell? ⟨wr.heap.size,0,none⟩=some (ι vp)/\w'.cell? ⟨gf,vp,none⟩=some (.slice aq rl O)) (first|go_keep|(go_simp;done)) (first|(go_at_call 206;refine(au.out _ (by exact(zJ g 1)) (Q8.drew H)).mono ?_;rintro e w2 ⟨rfl,y1,y2,y3,HX⟩))
    clear x1 x2 x3 y1 y2 y3 H g au;go_wp2;obtain⟨own',K,z1,z2⟩:=HX.out;exact⟨⟨m+1,by omega,by go_num,own',K,z1,z2⟩,by simp[intOf];omega⟩
   ·rw[za N] at j;have s:uY f W.qm (m+1)=uY f W.qm m:=by rw[←Z,j,←v,rA]
    have L:Hid (∀S,μ wr S->uc lo S d k wd ⟨W.rule,uY f W.qm (m+1)⟩ ⟨P.tv,P.pv,P.nv,P.vv,P.ntv,a,P.nbs⟩/\QE lo (dY k) w own S d):=fun S t=>by
     rw[s];exact⟨T.out.mod (QE.of (ok:=fun _ _=>False) d t) (fun _=>id) (fun _=>id) id (fun _=>id) (fun _ _ _ _=>id),D.out.trans (QE.of d t)⟩
    have aE:¬(W.qm[m].lit.pred:Int)<(R.qo.length:Int):=by omega
    clear j hq V v Z u s;generalize W.qm[m].lit.pred=vp at *;generalize W.qm[m].lit.qg.length=vt at *;generalize a[m].bb=U at *;generalize a[m].fb=M at *;generalize a[m].ab=G at *;have g:μ wr (wr.alloc (.cells #[ι vp,.slice I vt r,ι wd,(π U),(π M),(π G)] 301)):=(by go_grown);go_wp2;obtain⟨z1,z2⟩:=L.out _ g;exact⟨⟨m+1,by omega,by go_num,d,a,z1,z2⟩,by simp[intOf];omega⟩
  ·obtain rfl:m=W.qm.length:=by omega
   have s:uY f W.qm W.qm.length=f:=by simp[uY,←C.out]
   have L:Hid (uc lo wr d k wd ⟨W.rule,f⟩ ⟨P.tv,P.pv,P.nv,P.vv,P.ntv,a,P.nbs⟩):=by rw[←s];exact T.out
   clear T s;go_wp2
   (try simp only[Exit.inBlock,Exit.then])
   exact zK (results_none rfl _ _ _) rfl ⟨rfl,d,a,L.out,D.out⟩
end
section
variable {lo:Nat}{w w':World}{own':Nat->zn}{wd:Nat}{wv:Value}{Ws:List zX}{Ps:List yW}
def gK(Ws:List zX)(Ps:List yW):List Value:=(List.zipWith (fun W P=>jw W.rule P) Ws Ps).flatten
structure un (lo:Nat) (w:World) (own:Nat->zn) (wd:Nat) (wv:Value) (Ws:List zX) (Ps:List yW):Prop where
 arr:w.ownsRow lo 292 8 wv Ws.length (gK Ws Ps)
 plen:Ps.length=Ws.length
 work:∀k (_:k<Ws.length) (_:k<Ps.length),uc lo w own k wd Ws[k] Ps[k]
 few:Ws.length<=1000
theorem EZ:∀(Ws:List zX) (Ps:List yW) (k:Nat) (a:k<Ws.length) (b:k<Ps.length) (j:Nat),j<8->(gK Ws Ps)[k*8+j]?=(jw Ws[k].rule Ps[k])[j]?
 |[],_,k,a,_,_,_=>by simp at a
 |v::vs,[],k,_,b,_,_=>by simp at b
 |v::vs,p::c,0,_,_,j,d=>by
  simp only[gK,lE,nf,gH];rw[s6 (by simp[jw];omega)];simp
 |v::vs,p::c,k+1,a,b,j,d=>by
  have:=EZ vs c k (by simpa using a) (by simpa using b) j d;simp only[gK,lE,nf,nh] at this ⊢;rw[d9 (by simp[jw];omega),←this];congr 1;simp[jw];omega
theorem DT:∀(Ws:List zX) (Ps:List yW) (k:Nat) (b:k<Ws.length) (c:k<Ps.length) (W':zX) (a:yW),jw W'.rule a=jw Ws[k].rule Ps[k]->gK (Ws.set k W') (Ps.set k a)=gK Ws Ps
 |[],_,k,b,_,_,_,_=>by simp at b
 |v::vs,[],k,_,c,_,_,_=>by simp at c
 |v::vs,p::d,0,_,_,W',a,h=>by
  simp only[gH] at h;simp[gK,h]
 |v::vs,p::d,k+1,b,c,W',a,h=>by
  have:=DT vs d k (by simpa using b) (by simpa using c) W' a (by simpa using h);simp only[gK,ml,lE,nf] at this ⊢;rw[this]
theorem un.at{w:World}{own:Nat->zn}{wd:Nat}{wv:Value}{Ws:List zX}{Ps:List yW}(h:un lo w own wd wv Ws Ps)(k:Nat)(p:k<Ws.length)(n:k<Ps.length):∃d a c,wv=.slice (some ⟨d,0,none⟩) Ws.length a/\lo<=d/\Q8 w d c 292/\S9 c (k*8) Ws[k].rule Ps[k]:=by
 obtain⟨d,a,f,l,r,i⟩:=yx h.arr (by omega);obtain⟨c,g⟩:=uV h.arr (b:=d) (by rw[f];rfl);have e:∀j,j<8->c[k*8+j]?=(jw Ws[k].rule Ps[k])[j]?:=fun j m=>by
  have q:=EZ Ws Ps k p n j m;obtain⟨u,o⟩:∃u,(jw Ws[k].rule Ps[k])[j]?=some u:=⟨_,yp (show j<(jw Ws[k].rule Ps[k]).length by simp[jw];omega)⟩;rw[o] at q ⊢;rw[←g.rules.1];exact i _ _ q
 exact⟨d,a,c,f,l,g,e 0 (by omega),e 1 (by omega),e 2 (by omega),e 3 (by omega),e 4 (by omega),e 5 (by omega),e 6 (by omega),e 7 (by omega)⟩
theorem un.all{w w':World}{own own':Nat->zn}{wd p:Nat}{wv:Value}{Ws:List zX}{Ps:List yW}(h:un lo w own wd wv Ws Ps)(m:QE lo (kl p) w own w' own'):un lo w' own' wd wv Ws Ps:=
 ⟨vK h.arr m (mC (by decide) (by decide)),h.plen,fun k a b=>(h.work k a b).all m,h.few⟩
theorem un.types{own:Nat->zn}{l:List TypeId}(h:un lo w own wd wv Ws Ps)(m:QE lo (gA l) w own w' own')(e:∀t∈l,Rz t/\t∉[292,284,204,301,162]):un lo w' own' wd wv Ws Ps:=by
 have c:∀t,t∈[292,284,204,301,162]->∀ρ,¬gA l t ρ:=fun t d ρ q=>(e t q).2 d;exact⟨vK h.arr m (c _ (by decide)),h.plen,fun k a b=>(h.work k a b).mod m (c _ (by decide)) (c _ (by decide)) (c _ (by decide) _) (c _ (by decide)) (fun _ _ _ d q=>d (e _ q).1),h.few⟩
theorem un.below{own:Nat->zn}(h:un lo w own wd wv Ws Ps)(a:μ w w'):un lo w' own wd wv Ws Ps:=h.types (l:=[]) (QE.of own a) (by simp)
theorem un.renewed{own:Nat->zn}{k:Nat}{d:List y6}{c:List j9}(h:un lo w own wd wv Ws Ps)(i:k<Ws.length)(g:k<Ps.length)(f:uc lo w' own' k wd ⟨Ws[k].rule,d⟩ ⟨Ps[k].tv,Ps[k].pv,Ps[k].nv,Ps[k].vv,Ps[k].ntv,c,Ps[k].nbs⟩)(m:QE lo (dY k) w own w' own'):un lo w' own' wd wv (Ws.set k ⟨Ws[k].rule,d⟩) (Ps.set k ⟨Ps[k].tv,Ps[k].pv,Ps[k].nv,Ps[k].vv,Ps[k].ntv,c,Ps[k].nbs⟩):=by
 refine⟨?_,by simp[h.plen],fun j a b=>?_,by simpa using h.few⟩
 ·rw[DT _ _ _ i g _ _ (by simp[jw]),fh];exact vK h.arr m (l0 (by decide) (by decide))
 ·simp only[fh] at a b;simp only[lO];by_cases e:k=j
  ·subst e;rw[zc rfl,zc rfl];exact f
  ·rw[za e,za e];exact(h.work j a b).mod m (l0 (by decide) (by decide)) (l0 (by decide) (by decide)) (p9 (by omega)) (l0 (by decide) (by decide)) (fun _ _ _ _=>p9 (by omega))
theorem DW{f wd:Nat}{g:List (List zm)}:∀{b a:List zX},gu f wd g b=some a->a.length=b.length/\∀i (d:i<b.length) (c:i<a.length),∃vs,dP f wd g b[i].qm=some vs/\a[i]=⟨b[i].rule,vs⟩
 |[],a,h=>by
  simp[gu] at h;subst h;exact⟨rfl,fun i h=>by simp at h⟩
 |W::b,a,h=>by
  unfold gu at h;split at h
  ·rename_i v m j e;simp at h;subst h;obtain⟨k,l⟩:=DW e;refine⟨by simp[k],fun i d c=>?_⟩;match i,d,c with
   |0,_,_=>exact⟨v,by simpa using j,rfl⟩
   |i+1,d,c=>
    simp only[nh];exact l i (by simpa using d) (by simpa using c)
  ·cases h
def jP(R:zy):Prop:=∀l∈R.qo,l.length<=1048577
theorem jP.clear(R:zy):jP (qF R):=fun l a=>by simp[qF] at a;simp[a.2]
theorem jP.add{mr:Nat}{R R':zy}{p:Nat}{row:zm}{b:Bool}(h:jP R)(c:addR mr R p row=some (R',b)):jP R':=by
 obtain⟨_,_,_,_,e,d⟩:=oO c;rcases d with⟨_,rfl,_⟩|⟨_,rfl,_⟩
 ·exact h
 ·intro l a;rcases pG a with a|rfl
  ·exact h l a
  ·simp only[yq,xi,dK];omega
theorem jP.addAll{mr p:Nat}:∀(n:Nat) (R R':zy) (J:z9) (b:Bool),jP R->vH mr p n R J=some (R',b)->jP R'
 |0,R,R',J,b,_,h=>by simp[vH] at h
 |n+1,R,R',J,b,e,h=>by
  unfold vH at h;cases f:f5 n J with
  |none=>rw[f] at h;cases h
  |some g=>
   obtain⟨c,k⟩:=g;rw[f] at h;cases k with
   |false=>
    simp only[zt,ya] at h;rw[←h.1];exact e
   |true=>
    dsimp only at h;cases a:addR mr R p (zF c.head c.ja) with
    |none=>rw[a] at h;cases h
    |some d=>
     obtain⟨i,j⟩:=d;rw[a] at h;cases j with
     |false=>
      simp only[zt,ya] at h;rw[←h.1];exact e.add a
     |true=>exact jP.addAll n i R' c b (e.add a) h
theorem o6{f wd mr:Nat}{W:zX}:∀(n i:Nat) (R R':zy) (b:Bool),jz f wd mr W n i R=some (R',b)->(jP R->jP R')/\R'.rows.length=R.rows.length
 |0,i,R,R',b,h=>by simp[jz] at h;rw[←h.1];exact⟨id,rfl⟩
 |n+1,i,R,R',b,h=>by
  unfold jz at h;split at h
  ·split at h
   ·cases h
   ·rename_i d a;simp only[zt,ya] at h;rw[←h.1];exact⟨fun c=>c.addAll _ _ _ _ _ a,ru _ _ _ _ _ a⟩
   ·rename_i d a;obtain⟨e,g⟩:=o6 n (i+1) d R' b h;exact⟨fun c=>e (c.addAll _ _ _ _ _ a),g.trans (ru _ _ _ _ _ a)⟩
  ·exact o6 n (i+1) R R' b h
theorem EY{f mr:Nat}{first:Bool}{R R':zy}{W:zX}{b:Bool}(h:kU f wd mr first R W=some (R',b)):(jP R->jP R')/\R'.rows.length=R.rows.length:=by
 unfold kU at h;split at h
 ·exact⟨fun a=>a.addAll _ _ _ _ _ h,ru _ _ _ _ _ h⟩
 ·exact o6 _ _ _ _ _ h
def uZ:TypeId->zn->Prop:=fun t ρ=>(¬Rz t/\ρ≠(0,0,7))∨t∈[214,161,165,310,323,301]
theorem eO{p:Nat}{t:TypeId}{ρ:zn}(h:kl p t ρ):uZ t ρ:=by
 rcases h with (h|h|h|h)|h
 ·exact zf ⟨h.1,by rw[h.2];simp⟩
 ·subst h;exact zb (by decide)
 ·subst h;exact zb (by decide)
 ·rw[h.1];exact zb (by decide)
 ·rcases zx.1 h with rfl|h
  ·exact zb (by decide)
  ·rcases zx.1 h with rfl|h
   ·exact zb (by decide)
   ·cases h
theorem BD{k:Nat}{t:TypeId}{ρ:zn}(h:dY k t ρ):uZ t ρ:=by
 rcases h with⟨a,i,j,rfl⟩|⟨rfl,_⟩
 ·exact zf ⟨a,by simp⟩
 ·exact zb (by decide)
theorem DS{t:TypeId}{ρ:zn}(h:gA [214] t ρ):uZ t ρ:=zb (by rw[xG.1 h];decide)
end
section
open Go.Proofs.Tryz
variable {lo:Nat}
def kJ(a:List Nat)(n:Nat)(c:List zX)(b:List yW):Prop:=∀k (_:k<c.length) (_:k<b.length),gY a n c[k].rule b[k].nbs
theorem kJ.set{c:List Nat}{n k:Nat}{f:List zX}{d:List yW}(h:kJ c n f d)(o:k<f.length)(m:k<d.length)(g:List y6)(i:yW)(l:i.nbs=d[k].nbs):kJ c n (f.set k ⟨f[k].rule,g⟩) (d.set k i):=by
 intro j a b;simp only[fh] at a b;simp only[lO];by_cases e:k=j
 ·subst e;rw[zc rfl,zc rfl,l];exact h k a b
 ·rw[za e,za e];exact h j a b
def Ja(lo:Nat)(w:World)(own:Nat->zn)(h:Nat)(i:Value)(R R':zy)(d:List zX)(wd mr mx:Nat)(Q:ue)(b:Bool)(e:Ending)(w':World):Prop:=
 e=ε (.bool b)/\∃a g c f,zW lo w' a h R' wd mr mx ⟨Q.rv,Q.tbs,g,c⟩/\un lo w' a wd i d f/\kJ Q.tbs R.rows.length d f/\R'.rows.length=R.rows.length/\QE lo uZ w own w' a
theorem J2(w:World)(own:Nat->zn)(A:Nat)(wv:Value)(R R':zy)(a d:List zX)(Z:List yW)(wd mr mx:Nat)(Q:ue)(g:Nat)(first b:Bool)(h:zW lo w own A R wd mr mx Q)(hw:un lo w own wd wv a Z)(a2:kJ Q.tbs R.rows.length a Z)(aa:lo<=w.heap.size)(aN:R.qw<1048576)(S:nS g wd mr first a R=some (R',d,b)):
  Calls prog 165 #[(π A),wv,.bool first] w fun e O=>Ja lo w own A wv R R' d wd mr mx Q b e O:=by
 obtain⟨G,Y,hA,L⟩:∃G Y,kO g wd mr first a (qF {R with qw:=R.qw+1})=some (G,Y)/\(Y=false/\G=R'/\a=d/\false=b∨Y=true/\G=R'/\gu g wd G.qo a=some d/\true=b):=by
  unfold nS at S;split at S
  ·cases S
  ·rename_i G hA;simp only[zt,ya] at S;exact⟨G,false,hA,zf ⟨rfl,S⟩⟩
  ·rename_i G hA;rw[vM] at S;obtain⟨aL,h1,h2⟩:=S;simp only[ya] at h2;obtain⟨h3,h4,h5⟩:=h2;subst h4;exact⟨G,true,hA,zb ⟨rfl,h3,h1,h5⟩⟩
 obtain⟨hl,hf,h0,h1,h2,h3,h4,h5,h6,h7⟩:=h.at;have ao:ze [A] w (w.setCell ⟨A,2,none⟩ (ι ((R.qw:Int)+1))):=ze.set _ _ _ _;have a4:QE lo (gA [214]) w own (w.setCell ⟨A,2,none⟩ (ι ((R.qw:Int)+1))) own:=QE.set own h.box h.low (xG.2 rfl) _ _;have x:=h.box.set 2 (ι ((R.qw:Int)+1));have an:=h.rebox (R':={R with qw:=R.qw+1}) ao (by simpa using x) rfl rfl ⟨h.few.2.2.1,by show R.qw+1<=1048576;omega⟩;have a1:=Q7 (RJ _ own A _ wd mr mx Q an (by simpa [World.setCell] using aa));have au:=Q7 a4;have av:=Q7 hw;have X:=Q7 a2;have al:=Q7 aa;have HE:=Q7 L;have HA:Hid (kO g wd mr first (a.drop 0) (qF {R with qw:=R.qw+1})=some (G,Y)):=hA;have aK:=hw.few;obtain⟨ae,D,aH⟩:=zp hw.arr;subst aH;clear S h hw a2 aa L hA an a4 ao x h0 h1 h3 h4 h5 h6 h7;go_enter func165,ntmps165;go_upto_region 4 with (first|(go_at_call 120;refine a1.out.mono ?_;rintro e w2 ⟨rfl,fv,aC,a3,hm⟩))
 have ah:=au.out.trans hm;have aj:=Q7 (av.out.types ah (by decide));have a0:=Q7 a3;have a7:Hid (QE lo uZ w own w2 own):=ah.more fun _ _ q=>DS q;clear ah hm a3 a1 au;go_loopw [22] (fun aI wr=>∃m:Nat,m<=a.length/\aI=ι m/\∃v o K,Hid (zW lo wr o A v wd mr mx ⟨Q.rv,Q.tbs,fv,K⟩)/\Hid (un lo wr o wd (.slice ae a.length D) a Z)/\Hid (QE lo uZ w own wr o)/\Hid (v.rows.length=R.rows.length)/\Hid (jP v)/\Hid (kO g wd mr first (a.drop m) v=some (G,Y))) (fun i _=>a.length-(intOf i).toNat)
 case atStart=>exact⟨0,zv _,rfl,_,own,aC,a0,aj,a7,rfl,jP.clear _,HA⟩
 case round=>
  clear HA a0 aj a7;obtain⟨m,hm,rfl,v,o,K,s,k,t,V,ap,ad⟩:=hrel;have U:=t.out.size;have y:=yc al.out U;by_cases l:m<a.length
  ·have u:m<Z.length:=by rw[av.out.plen];exact l
   obtain⟨gw,aA,c,P,_,x,I⟩:=k.out.at m l u;simp only[Value.slice.injEq] at P;have ac:=P.1;clear P;subst ac;have z:=ad.out;rw[xn l] at z;unfold kO at z;cases ha:kU g wd mr first v a[m] with
   |none=>rw[ha] at z;cases z
   |some ar=>
    obtain⟨R3,b3⟩:=ar;rw[ha] at z;have ag:Hid (jP R3/\R3.rows.length=R.rows.length):=⟨(EY ha).1 ap.out,(EY ha).2.trans V.out⟩;have a6:=Q7 (P3 wr o A gw (m*8) m c v R3 a[m] Z[m] wd mr mx _ g first b3 s.out (k.out.work m l u) x I (by rw[V.out];exact X.out m l u) y ha);have am:(m:Int)<(a.length:Int):=by omega
    generalize a[m].rule.head.pred=p at *;clear ha x I;cases b3 with
    |false=>
     simp only[zt,ya] at z;have HQ:=Q7 z;clear z;go_wp2_with (go_at_call 193;refine a6.out.mono ?_;rintro e w4 ⟨rfl,f,H,n,J⟩)
     go_ret;have L:=HE.out;rw[←HQ.out.2,←HQ.out.1] at L;rcases L with⟨_,rfl,rfl,rfl⟩|⟨hx,_⟩
     ·exact⟨rfl,f,fv,H,Z,n,k.out.all J,X.out,ag.out.2,t.out.trans (J.more fun _ _ q=>eO q)⟩
     ·cases hx
    |true=>
     have HQ:Hid (kO g wd mr first (a.drop (m+1)) R3=some (G,Y)):=z;clear z;go_wp2_with (go_at_call 193;refine a6.out.mono ?_;rintro e w4 ⟨rfl,f,H,n,J⟩)
     exact⟨⟨m+1,by omega,by go_num,R3,f,H,n,k.out.all J,t.out.trans (J.more fun _ _ q=>eO q),ag.out.2,ag.out.1,HQ⟩,by simp[intOf];omega⟩
  ·obtain rfl:m=a.length:=by omega
   have z:=ad.out;rw[List.drop_length] at z;simp only[kO,zt,ya] at z;have L:=HE.out;rw[←z.2,←z.1] at L;have M:Hid (v=R'/\gu g wd v.qo a=some d/\true=b):=by
    rcases L with⟨hx,_⟩|⟨_,hx⟩
    ·cases hx
    ·exact hx
   clear z L ad HE;go_upto_region 10 with fail
   obtain⟨aB,aw⟩:=DW M.out.2.1;have F:=Q7 aB;have aD:=Q7 aw;clear aB aw l hm;obtain⟨E,r,ay⟩:=zp s.out.qo;dsimp only at ay;subst ay;have aM:=Q7 y;clear U y;generalize aJ:wr=w5 at *;clear aJ;go_loopw [35] (fun aG wr=>∃m:Nat,m<=a.length/\aG=ι m/\∃j C,Hid (zW lo wr j A v wd mr mx ⟨Q.rv,Q.tbs,.slice E v.qo.length r,K⟩)/\Hid (un lo wr j wd (.slice ae a.length D) (uY d a m) C)/\Hid (kJ Q.tbs R.rows.length (uY d a m) C)/\Hid (QE lo uZ w own wr j)) (fun i _=>a.length-(intOf i).toNat)
   case atStart=>exact⟨0,zv _,rfl,o,Z,s,k,X,t⟩
   case round=>
    clear s k t;obtain⟨m,hm,rfl,j,C,s,k,W,t⟩:=hrel;have y:=yc al.out t.out.size;by_cases l:m<a.length
    ·have B:m<(uY d a m).length:=by rw[tK F.out m hm];exact l
     have af:m<d.length:=by rw[F.out];exact l
     have ai:=A3 F.out m l B;have aq:=Dy F.out m l af;have u:m<C.length:=by rw[k.out.plen];exact B
     obtain⟨gw,aA,c,P,_,x,I⟩:=k.out.at m B u;rw[tK F.out m hm] at P;simp only[Value.slice.injEq] at P;have ac:=P.1;clear P;subst ac;obtain⟨vs,ak,a8⟩:=aD.out m l af;have am:(m:Int)<(a.length:Int):=by omega
     have a5:=s.out.at;obtain⟨hl,hf,h0,h1,aE,h3,h4,h5,h6,h7⟩:=a5;have a9:Hid (∀W0,μ wr W0->Calls prog 194 #[.pointer (some ⟨gw,m*8,none⟩),.slice E v.qo.length r] W0 fun e O=>e=ε (.tuple #[])/\O.cell? ⟨A,7,none⟩=some (.slice E v.qo.length r)/\Hid (∃f N,zW lo O f A v wd mr mx ⟨Q.rv,Q.tbs,.slice E v.qo.length r,K⟩/\un lo O f wd (.slice (some ⟨gw,0,none⟩) a.length D) (uY d a (m+1)) N/\kJ Q.tbs R.rows.length (uY d a (m+1)) N/\QE lo uZ w own O f)):=fun W0 hb=>by
      have az:=k.out.below hb;have q:=G6 W0 j A gw (m*8) m c v (uY d a m)[m] vs C[m] wd mr mx _ g (s.out.below hb) (az.work m B u) (x.below hb) I (yc y hb.size) ap.out (by rw[ai];exact ak);refine q.mono ?_;rintro e O ⟨rfl,f,ax,aF,ab⟩;have n:=(s.out.below hb).work ab;have r1:=az.renewed B u aF ab;have r2:=W.out.set B u vs ⟨C[m].tv,C[m].pv,C[m].nv,C[m].vv,C[m].ntv,ax,C[m].nbs⟩ rfl;have e2:(⟨(uY d a m)[m].rule,vs⟩:zX)=d[m]:=by rw[ai,a8]
      rw[e2,aq] at r1 r2;exact⟨rfl,n.at.2.2.2.2.2.2.2.2.2,f,_,n,r1,r2,(t.out.trans (QE.of j hb)).trans (ab.more fun _ _ q=>BD q)⟩
     clear x I ak a8 ai aq B af u h0 h1 aE h3 h4 h5 h6;have x7:wr.cell? ⟨A,7,none⟩=some (.slice E v.qo.length r):=h7;clear h7;go_upto_region 12 with fail
     go_region_held3 (fun O=>O.cell? ⟨A,7,none⟩=some (.slice E v.qo.length r)) (first|go_keep|(go_simp;done)) (first|(go_at_call 194;refine(a9.out _ (by exact(zJ (zo _ _) 1))).mono ?_;rintro e w2 ⟨rfl,y1,HX⟩))
     clear x7 y1 a9;go_wp2;obtain⟨f,N,z1,z2,z3,z4⟩:=HX.out;exact⟨⟨m+1,by omega,by go_num,f,N,z1,z2,z3,z4⟩,by simp[intOf];omega⟩
    ·obtain rfl:m=a.length:=by omega
     have T:uY d a a.length=d:=by simp[uY,←F.out]
     have HF:Hid (un lo wr j wd (.slice ae a.length D) d C/\kJ Q.tbs R.rows.length d C):=by rw[←T];exact⟨k.out,W.out⟩
     clear T k W;go_wp2;go_ret;exact⟨by rw[←M.out.2.2];rfl,j,_,K,C,by rw[←M.out.1];exact s.out,HF.out.1,HF.out.2,by rw[←M.out.1];exact V.out,t.out⟩
end
section
variable {lo:Nat}{k wd t5 t3:Nat}{w w' w0:World}{own' own0:Nat->zn}{r:zr}{P:yW}{vs:List y6}
def lq(k:Nat):TypeId->zn->Prop:=fun t ρ=>dY k t ρ∨(t=301/\ρ=(0,0,5))
theorem OZ{i:Nat}{t:TypeId}{ρ:zn}(h:fR k i (0,0,5) t ρ):lq k t ρ:=by
 rcases h with⟨a,j,b⟩|h
 ·exact zf (zf ⟨a,i,j,b⟩)
 ·exact zb h
theorem nw{t:TypeId}(h:Rz t)(a:t≠301):∀ρ,¬lq k t ρ:=fun ρ q=>by
 rcases q with q|q
 ·exact l0 h a ρ q
 ·exact a q.1
theorem oz{t:TypeId}{a b c:Nat}(h:a≠k+1)(d:c≠5):¬lq k t (a,b,c):=fun q=>by
 rcases q with q|⟨_,q⟩
 ·exact p9 h q
 ·simp at q;omega
theorem PN{t:TypeId}{ρ:zn}(h:lq k t ρ):uZ t ρ:=by
 rcases h with h|⟨rfl,_⟩
 ·exact BD h
 ·exact zb (by decide)
theorem zW.make{own:Nat->zn}{a:Nat}{R:zy}{mr mx:Nat}{Q:ue}(h:zW lo w own a R wd mr mx Q)(m:QE lo (lq k) w own w' own'):zW lo w' own' a R wd mr mx Q:=
 h.mod m (nw (by decide) (by decide)) (nw (by decide) (by decide)) (nw (by decide) (by decide)) (fun _=>oz (by omega) (by omega)) (fun _ _ _=>oz (by omega) (by omega))
theorem QE.newer{ok:TypeId->zn->Prop}{w wr w':World}{own a:Nat->zn}{M:List Nat}(h:QE lo ok w own wr a)(hs:ze M wr w')(d:∀b∈M,w.heap.size<=b):QE lo ok w own w' a:=by
 obtain⟨c,N,f,g⟩:=h;exact⟨c,N,f.newer hs fun x e=>zb (d x e),g⟩
theorem QE.qo{ok:TypeId->zn->Prop}{own:Nat->zn}(a:μ w w')(c:∀b,b<w.heap.size->own' b=own b):QE lo ok w own w' own':=⟨c,[],ze.of a,by simp⟩
structure jx (lo:Nat) (w0 w:World) (own0 own:Nat->zn) (k wd t5 t3:Nat) (r:zr) (P:yW) (vs:List y6):Prop where
 low:w0.heap.size<=t5
 low0:lo<=w0.heap.size
 box:Q8 w t5 (jw r P).toArray 292
 rbox:Q8 w t3 #[ι r.qh,ι r.vars,ι r.head.pred,P.tv,P.pv,P.nv] 207
 rule:vy lo w P.tv P.pv P.nv r
 qm:w.ownsRow lo 301 6 P.vv vs.length (vY wd vs P.vps)
 vlen:P.vps.length=vs.length
 view:∀i (_:i<vs.length) (_:i<P.vps.length),vF lo w own k i vs[i] P.vps[i]
 vrole:∀b,P.vv.ownBlock=some b->own b=(k+1,0,9)
 qp:w.ownsRow lo 162 1 P.ntv P.nbs.length (QQ P.nbs)
 mod:QE lo (lq k) w0 own0 w own
theorem jx.step{own:Nat->zn}(h:jx lo w0 w own0 own k wd t5 t3 r P vs)(m:QE lo (fR k vs.length (0,0,5)) w own w' own'):jx lo w0 w' own0 own' k wd t5 t3 r P vs:=by
 refine⟨h.low,h.low0,h.box.mod m (gm (by decide) (by decide) _),h.rbox.mod m (gm (by decide) (by decide) _),h.rule.mod m (gm (by decide) (by decide)) (gm (by decide) (by decide)),rm h.qm m (fun b c q=>?_),h.vlen,fun i a b=>(h.view i a b).mod m (fun j t d q=>?_) (gm (by decide) (by decide)),fun b c=>(m.old b (xI h.qm c)).trans (h.vrole b c),vK h.qp m (gm (by decide) (by decide)),h.mod.trans (m.more fun _ _ q=>OZ q)⟩
 ·rw[h.vrole b c] at q;rcases q with q|q
  ·exact q.1 (by decide)
  ·simp at q
 ·rcases q with⟨_,f,q⟩|⟨e,_⟩
  ·simp at q;omega
  ·subst e;exact d (by decide)
theorem jx.below{own:Nat->zn}(h:jx lo w0 w own0 own k wd t5 t3 r P vs)(a:μ w w'):jx lo w0 w' own0 own k wd t5 t3 r P vs:=h.step (QE.of own a)
theorem Gj(wd:Nat):∀(vs:List y6) (ps:List j9),ps.length=vs.length->∀(V:y6) (p:j9),vY wd (vs++[V]) (ps++[p])=vY wd vs ps++gI wd V p:=fun vs ps h V p=>by
 simp[vY,List.zipWith_append (h.symm)]
theorem jx.pushV{own:Nat->zn}{V:y6}{p:j9}{v':Value}(h:jx lo w0 w own0 own k wd t5 t3 r P vs)(A:vF lo w own k vs.length V p)(G:w'.ownsRow lo 301 6 v' (vs.length+1) (vY wd vs P.vps++gI wd V p))(hs:ze P.vv.ownBlock.toList w w')(x:v'.ownBlock=P.vv.ownBlock∨∃g,v'.ownBlock=some g/\w.heap.size<=g):
  jx lo w0 (w'.setCell ⟨t5,6,none⟩ v') own0 (ext own w.heap.size (k+1,0,9)) k wd t5 t3 r ⟨P.tv,P.pv,P.nv,v',P.ntv,P.vps++[p],P.nbs⟩ (vs++[V]):=by
 have d:QE lo (fun t ρ=>t=301/\ρ=(k+1,0,9)) w own w' (ext own w.heap.size (k+1,0,9)):=⟨fun b e=>dH _ _ _ b e,_,hs,fun b e=>by
  have l:P.vv.ownBlock=some b:=by simpa using e
  obtain⟨c,F⟩:=uV h.qm l;exact⟨yV h.qm l,xI h.qm l,c,_,F,rfl,h.vrole b l⟩⟩
 have o:∀t,t≠301->∀ρ,¬(t=301/\ρ=(k+1,0,9)):=fun t y ρ q=>y q.1;have m:=h.box.mod d (o _ (by decide) _);have n:=h.rbox.mod d (o _ (by decide) _);have f:ze [t5] w' (w'.setCell ⟨t5,6,none⟩ v'):=ze.set _ _ _ _;have v:=QU.box m;have u:=fun i V p (q:vF lo w own k i V p)=>(q.mod d (fun j t y q=>by obtain⟨rfl,_⟩:=q;exact y (by decide)) (o _ (by decide))).saveT f v (by decide) (by decide);refine⟨h.low,h.low0,?_,n.saveT f v (by decide),(h.rule.mod d (o _ (by decide)) (o _ (by decide))).saveT f v (by decide) (by decide),?_,by simp[h.vlen],fun i a b=>?_,fun b e=>?_,yF (vK h.qp d (o _ (by decide))) f v (by decide),(h.mod.trans (d.more fun _ _ q=>zf (zb q))).newer f fun b e=>by simp at e;rw[e];exact h.low⟩
 ·have q:=m.set 6 v';simpa [jw] using q
 ·rw[Gj wd vs P.vps h.vlen,yq];exact yF G f v (by decide)
 ·simp only[yq,xi,dK] at a b;by_cases z:i<vs.length
  ·have s:i<P.vps.length:=by rw[h.vlen];exact z
   rw[vu z,vu s];exact u i _ _ (h.view i z s)
  ·obtain rfl:i=vs.length:=by omega
   have C:(vs++[V])[vs.length]=V:=by simp
   have E:(P.vps++[p])[vs.length]=p:=by simp[←h.vlen]
   rw[C,E];exact u _ _ _ A
 ·rcases x with x|⟨g,D,B⟩
  ·rw[x] at e;rw[dH _ _ _ b (xI h.qm e)];exact h.vrole b e
  ·rw[D] at e;simp at e;subst e;simp[ext,Nat.not_lt.2 B]
theorem jx.pushN{own:Nat->zn}{tb:Nat}{v':Value}(h:jx lo w0 w own0 own k wd t5 t3 r P vs)(j:∀b,P.ntv.ownBlock=some b->w0.heap.size<=b)(m:w'.ownsRow lo 162 1 v' (P.nbs.length+1) (QQ P.nbs++[(π tb)]))(hs:ze P.ntv.ownBlock.toList w w'):
  jx lo w0 (w'.setCell ⟨t5,7,none⟩ v') own0 own k wd t5 t3 r ⟨P.tv,P.pv,P.nv,P.vv,v',P.vps,P.nbs++[tb]⟩ vs:=by
 have d:=QU.own h.qp;have f:=h.box.saveT hs d (by decide);have c:ze [t5] w' (w'.setCell ⟨t5,7,none⟩ v'):=ze.set _ _ _ _;have g:=QU.box f;refine⟨h.low,h.low0,?_,(h.rbox.saveT hs d (by decide)).saveT c g (by decide),(h.rule.saveT hs d (by decide) (by decide)).saveT c g (by decide) (by decide),yF (yF h.qm hs d (by decide)) c g (by decide),h.vlen,fun i a b=>((h.view i a b).saveT hs d (by decide) (by decide)).saveT c g (by decide) (by decide),h.vrole,?_,(h.mod.newer hs fun b l=>j b (by simpa using l)).newer c fun b l=>by simp at l;rw[l];exact h.low⟩
 ·have q:=f.set 7 v';simpa [jw] using q
 ·have e:QQ (P.nbs++[tb])=QQ P.nbs++[(π tb)]:=by simp[QQ,pt]
  rw[e,yq];exact yF m c g (by decide)
theorem DP{f wd:Nat}{R:zy}:∀{c:List zu} {vs:List y6},dD f wd R c=some vs->vs.length=c.length/\∀i (d:i<c.length) (e:i<vs.length),∃a,rowsG f (fK wd R c[i].pred)=some a/\dM f wd (kG wd c[i]) a=some vs[i]
 |[],vs,h=>by
  simp[dD] at h;subst h;exact⟨rfl,fun i h=>by simp at h⟩
 |l::c,vs,h=>by
  unfold dD at h;split at h
  ·cases h
  ·rename_i a b;split at h
   ·rename_i v o j g;simp at h;subst h;obtain⟨m,n⟩:=DP g;refine⟨by simp[m],fun i d e=>?_⟩;match i,d,e with
    |0,_,_=>exact⟨a,b,j⟩
    |i+1,d,e=>
     simp only[nh];exact n i (by simpa using d) (by simpa using e)
   ·cases h
end
end Go.Proofs.YteampbddflhngaaGreat
