import Derived.Test.YteampbddflhngaaGreatR09
import Derived.Test.YteampbddflhngaaGreatR10
import Derived.Test.YteampbddflhngaaGreatR11
import Derived.Test.YteampbddflhngaaGreatR12
namespace Go.Proofs.YteampbddflhngaaGreat
open List renaming length→List.j,getD→List.g,take→List.G,map→List.w,toArray→List.F,foldl→List.H
open _root_.Array renaming size→Array.q,getD→Array.g,map→Array.w,foldl→Array.H
open _root_.ByteArray renaming size→ByteArray.q
open Go.RowKit.Below renaming size→Go.RowKit.Below.q,setCell→Go.RowKit.Below.x,mono→Go.RowKit.Below.y,trans→Go.RowKit.Below.A,alloc→Go.RowKit.Below.C
open Go.TypeInfo renaming size→Go.TypeInfo.q
open Go.RowKit.Hid renaming out→Go.RowKit.Hid.l
open Go.Shut renaming out→Go.Shut.l
open Go.World renaming heap→Go.World.o,setCell→Go.World.x,cell?→Go.World.p,alloc→Go.World.C,ownsRow→Go.World.r
open Go.Value renaming slice→Go.Value.k,string→Go.Value.d,bool→Go.Value.i,cells→Go.Value.E,ownBlock→Go.Value.m,pointer→Go.Value.u,tuple→Go.Value.B
open Go.TypeDesc renaming slice→Go.TypeDesc.k,string→Go.TypeDesc.d,bool→Go.TypeDesc.i,pointer→Go.TypeDesc.u,tuple→Go.TypeDesc.B
open Option renaming getD→Option.g,map→Option.w,isSome→Option.I,some→Z,none→Y
open Go.Calls renaming mono→Go.Calls.y
open Eq renaming trans→Eq.A,symm→Eq.z
open Iff renaming trans→Iff.A,symm→Iff.z
open Go.Obj renaming cells→Go.Obj.E
open Int renaming toNat→Int.D
open UInt8 renaming toNat→UInt8.D
open Ne renaming symm→Ne.z
open Go.RowKit renaming Hid→X
open Go renaming World→U,Value→O
set_option linter.all false
set_option maxRecDepth 100000
set_option maxHeartbeats 4000000
section
open Go.Proofs.Tryz Go.RowKit
variable {lo:Nat}{w:U}
structure xo where
 tv:O
 pv:O
 nv:O
 vv:O
 ntv:O
 vps:List jN
 nbs:List Nat
def j9(r:zu)(P:xo):List Value:=[ι r.L,ι r.m,ι r.g.o,P.tv,P.pv,P.nv,P.vv,P.ntv]
def qE(wd:Nat)(vs:List yH)(ps:List jN):List Value:=(List.zipWith (dR wd) vs ps).flatten
structure uy (lo:Nat) (w:U) (own:Nat->zo) (k wd:Nat) (W:yd) (P:xo):Prop where
 p:vG lo w P.tv P.pv P.nv W.p
 F:w.r lo 301 6 P.vv W.F.j (qE wd W.F P.vps)
 vlen:P.vps.j=W.F.j
 view:∀i (_:i<W.F.j) (_:i<P.vps.j),vK lo w own k i W.F[i] P.vps[i]
 vrole:∀b,P.vv.m=Z b->own b=(k+1,0,9)
 qx:w.r lo 162 1 P.ntv W.p.qx.j (T1 P.nbs)
 nlen:P.nbs.j=W.p.qx.j
 K:W.F.j<=1000
def C7(wd:Nat):∀(vs:List yH) (ps:List jN) (i:Nat) (b:i<vs.j) (a:i<ps.j),(qE wd vs ps)[i*6]?=Z (ι (vs[i].lit.o:Nat))/\(qE wd vs ps)[i*6+1]?=Z ps[i].tv/\(qE wd vs ps)[i*6+2]?=Z (ι wd)/\(qE wd vs ps)[i*6+3]?=Z (pt ps[i].bb)/\(qE wd vs ps)[i*6+4]?=Z (pt ps[i].fb)/\(qE wd vs ps)[i*6+5]?=Z (pt ps[i].ab)
 |[],_,i,b,_=>by simp at b
 |v::vs,[],i,_,a=>by simp at a
 |v::vs,p::ps,0,_,_=>by simp[qE,dR]
 |v::vs,p::ps,i+1,b,a=>by
  have:=C7 wd vs ps i (by simpa using b) (by simpa using a);simp only[qE,ny,nM] at this ⊢;rw[show(i+1)*6=i*6+6 from by omega];have c:i*6+6=(dR wd v p).j+i*6:=by simp[dR];omega
  rw[c];simp only[Nat.add_assoc,ff (Nat.le_add_right _ _),i4];simpa using this
def uy.viewAt{own:Nat->zo}{k wd:Nat}{W:yd}{P:xo}(h:uy lo w own k wd W P)(i:Nat)(o:i<W.F.j)(n:i<P.vps.j):∃g a,P.vv=.k (Z (δ g)) W.F.j a/\g<w.o.q/\w.p (ω g (i*6))=Z (ι (W.F[i].lit.o:Nat))/\w.p (ω g (i*6+1))=Z P.vps[i].tv/\w.p (ω g (i*6+2))=Z (ι wd)/\w.p (ω g (i*6+3))=Z (.u (Z (δ P.vps[i].bb)))/\w.p (ω g (i*6+4))=Z (.u (Z (δ P.vps[i].fb)))/\w.p (ω g (i*6+5))=Z (.u (Z (δ P.vps[i].ab))):=by
 obtain⟨g,a,f,_,e,b⟩:=yr h.F η;obtain⟨d,l,m,c,p,j⟩:=C7 wd W.F P.vps i o n;exact⟨g,a,f,e,b _ _ d,b _ _ l,b _ _ m,b _ _ c,b _ _ p,b _ _ j⟩
def AC{w:U}{own:Nat->zo}{S:zo->Prop}:∀(d:List zl) (bs:Φ),bs.j=d.j->(∀i (j:i<d.j) (g:i<bs.j),∃ρ,S ρ/\xg lo w own ρ bs[i] d[i])->∃e:List (Nat×Φ),e.w (·.1)=bs/\(∀i (j:i<d.j) (g:i<e.j),yb lo w e[i].1 d[i] e[i].2)/\∀x∈e,∀b∈x.2,S (own b)
 |[],[],_,_=>⟨[],rfl,λi h=>by simp at h,λx f=>by simp at f⟩
 |[],b::bs,h,_=>by simp at h
 |T::d,[],h,_=>by simp at h
 |T::d,b::bs,h,l=>by
  obtain⟨ρ,p,q,j,g⟩:=l 0 ζ ζ;obtain⟨e,n,o,m⟩:=AC d bs (by simpa using h) λi a c=>by
   have:=l (i+1) (by simpa using a) (by simpa using c);simpa using this
  refine⟨(b,q)::e,by simp[n],λi a c=>?_,λx f y k=>?_⟩
  .match i,a,c with
   |0,_,_=>exact j
   |i+1,a,c=>exact o i (by simpa using a) (by simpa using c)
  .rcases zG.1 f with rfl|f
   .rw[g y k];exact p
   .exact m x f y k
def nU(lo:Nat)(w:U)(own:Nat->zo)(p:Nat)(J:zE)(e:Ending)(w':U):Prop:=∃P,e=ε (.agg (uM J P).F)/\jL lo w' J P/\pJ own P p/\μ w w'
def NW{J:zE}{P:xI}(h:jL lo w J P):∀u∈uM J P,u.oneCell'=true:=by
 intro u a;obtain⟨k,i,b⟩:=h.g.qy;obtain⟨o,j,g⟩:=zr h.ja;obtain⟨l,m,d⟩:=zr h.bars;simp only[uM,ya,zG,zF,nB,or_false] at a;rcases a with ((((((a|a)|⟨_,_,a⟩)|a)|⟨_,_,a⟩)|⟨_,_,a⟩)|a)
 rcases a with rfl|rfl|rfl|rfl|rfl;rfl;rw[b];rfl;rfl;rw[g];rfl;rw[d];rfl;obtain⟨p,f,rfl⟩:=vd a;have q:=h.hlen;obtain⟨n,c,e⟩:=zr (h.jf p η f).1;rw[e];rfl;subst a;rfl;subst a;rfl;subst a;rfl;subst a;rfl;rcases a with rfl|rfl<;>rfl
def jr(bs:List Nat)(k:Nat):List Value:=(bs.G k).w pt++List.replicate (bs.j-k) (.u Y)
def Dy(bs:Φ)(k:Nat)(a:k<=bs.j):(jr bs k).j=bs.j:=by simp[jr];omega
def EI(bs:Φ)(k:Nat)(b:k<bs.j):(jr bs k).set k (.u (Z (δ bs[k])))=jr bs (k+1):=by
 obtain⟨m,a⟩:∃m,bs.j-k=m+1:=⟨bs.j-k-1,η⟩;unfold jr;rw[l0 _ _ υ,xu,vc,gV η,jC,a,sq,pF,yM b,qF,show bs.j-(k+1)=m from by omega,kO];rfl
def Hg(bs:Φ):jr bs bs.j=T1 bs:=by simp[jr,T1]
def S7:(prog.info? 162).w (λi=>(i.zero,i.q,i.bytes))=Z (Z (.u Y),1,8):=χ
def Et{W':U}{own:Nat->zo}{k wd p pb:Nat}{W:yd}{P:xo}{qc qx:List zl}{bs:Φ}(d:uy lo w own k wd W P)(M:lo<=w.o.q)(Q:qc.j=W.F.j)(C:bs.j=qc.j)(o:∀i (s:i<qc.j) (q:i<bs.j),∃ρ,ρ≠(0,p,0)/\xg lo w own ρ bs[i] qc[i])(n:qx.j=W.p.qx.j)(t:∀i (s:i<qx.j) (q:i<P.nbs.j),∃ρ,ρ≠(0,p,0)/\xg lo w own ρ P.nbs[i] qx[i])(f:μ w W')(g:W'.r w.o.q 162 1 (.k (Z (δ pb)) qc.j qc.j) qc.j (T1 bs)):
  Calls prog 214 #[gi W.p P.tv P.pv P.nv,.k (Z (δ pb)) qc.j qc.j,P.ntv] W' λe B=>nU lo W' own p (xK W.p qc qx) e B:=by
 obtain⟨l,A,J,I⟩:=AC qc bs C o;obtain⟨m,y,L,K⟩:=AC qx P.nbs (by rw[d.nlen,n]) t;have h:l.j=qc.j:=by rw[←C,←A,xu]
 have j:m.j=qx.j:=by rw[n,←d.nlen,←y,xu]
 have E:T1 bs=l.w λx=>Vg x.1:=by rw[←A];simp[T1];exact λ_ _ _=>rfl
 have N:T1 P.nbs=m.w λx=>Vg x.1:=by rw[←y];simp[T1];exact λ_ _ _=>rfl
 have z:=d.K;have D:=d.p.qx.len;have s:hX w.o.q lo W' (.k (Z (δ pb)) qc.j qc.j) qc l:=⟨by rw[←E];exact g,h,λi a b=>(J i a b).u f,η⟩;have q:hX lo lo W' P.ntv qx m:=⟨by rw[n,←N];exact zy d.qx f,j,λi a b=>(L i a b).u f,η⟩;refine(JA W' W.p P.tv P.pv P.nv _ _ qc qx l m (d.p.u f) s q n (by have:=f.q;omega)).y ?_;rintro e B ⟨F,rfl,G,H,r,u⟩;refine⟨F,rfl,G,⟨λx v b c=>I x (by rw[←H];exact v) b c,λx v b c=>K x.2 (by rw[←r];exact List.mem_map_of_mem v) b c⟩,u⟩
def iP{w':U}{b:Nat}(h:uS w b)(a:μ w w'):uS w' b:=by obtain⟨c,e,d⟩:=h;exact⟨c,e.u a,d⟩
def Eb{b b' o:Nat}{u:O}(h:uS w b)(e:b≠b'):uS (w.x (ω b' o) u) b:=by obtain⟨c,d,a⟩:=h;exact⟨c,d.set_ne e _ _,a⟩
structure WC (w:U) (gw o:Nat) (r:zu) (P:xo):Prop where
 lt:gw<w.o.q
 free:∀q,w.frozen? ⟨gw,q,Y⟩=false
 c0:w.p ⟨gw,o,Y⟩=Z (ι r.L)
 c1:w.p ⟨gw,o+1,Y⟩=Z (ι r.m)
 c2:w.p ⟨gw,o+2,Y⟩=Z (ι r.g.o)
 c3:w.p ⟨gw,o+3,Y⟩=Z P.tv
 c4:w.p ⟨gw,o+4,Y⟩=Z P.pv
 c5:w.p ⟨gw,o+5,Y⟩=Z P.nv
 c6:w.p ⟨gw,o+6,Y⟩=Z P.vv
 c7:w.p ⟨gw,o+7,Y⟩=Z P.ntv
def WC.u{w':U}{a o:Nat}{r:zu}{P:xo}(h:WC w a o r P)(b:μ w w'):WC w' a o r P:=by
 have e:=λq=>b.cell (p:=(ω a q)) h.lt;exact⟨by have:=b.q;have:=h.lt;omega,λq=>(b.frozen (p:=(ω a q)) h.lt).A (h.free q),(e _).A h.c0,(e _).A h.c1,(e _).A h.c2,(e _).A h.c3,(e _).A h.c4,(e _).A h.c5,(e _).A h.c6,(e _).A h.c7⟩
def ij{b:Nat}{J:zE}{P:xI}{c:U}(a:jL lo c J P)(h:uS w b):(storeCells (δ b) (uM J P)).run prog w=.ok () (gO w b (uM J P)):=by
 have e:=sC J P a.hlen.1 a.jl;exact run_storeCells_cells (P:=prog) b 0 (uM J P) 0 w (λj d=>(h.there j η).1) (λj d=>(h.there j η).2) (NW a)
attribute [local go_sem] tK
def Jh(w:U)(own:Nat->zo)(k wd p E o:Nat)(W:yd)(P:xo)(qx:List zl)(h:uy lo w own k wd W P)(hc:WC w E o W.p P)(aO:lo<=w.o.q)(hn:qx.j=W.p.qx.j)(ax:∀i (h1:i<qx.j) (h2:i<P.nbs.j),∃ρ,ρ≠(0,p,0)/\xg lo w own ρ P.nbs[i] qx[i]):
  Calls prog 207 #[.u (Z ⟨E,o,Y⟩)] w λe s=>nU lo w own p (xK W.p (W.F.map (·.all)) qx) e s:=by
 obtain⟨i0,hi,aD,aU,a8⟩:=info_parts S7;have N:X (∀T pb,μ w T->T.r w.o.q 162 1 (.k (Z ⟨pb,0,Y⟩) W.F.j W.F.j) W.F.j (T1 (P.vps.map (·.ab)))->Calls prog 214 #[gi W.p P.tv P.pv P.nv,.k (Z ⟨pb,0,Y⟩) W.F.j W.F.j,P.ntv] T λe s=>nU lo T own p (xK W.p (W.F.map (·.all)) qx) e s):=λT pb hB c=>by
  have q:=Et (p:=p) (pb:=pb) (qc:=W.F.map (·.all)) (bs:=P.vps.map (·.ab)) (qx:=qx) (W':=T) h aO ζ (by simp[h.vlen]) (λi h1 h2=>⟨(k+1,i,2),ζ,by simp only[ub];exact(h.view i (by simpa using h1) (by simpa using h2)).all⟩) hn ax hB (by simpa using c);simpa using q
 have aL:=Tg λi a b=>h.viewAt i a b;have aZ:=Tg λi a b=>(h.view i a b).v.qy;have ac:=Tg h.vlen;have bc:=h.K;obtain⟨bg,bf,ab⟩:=zr h.F;obtain⟨R,C,ao⟩:=h.p.g.qy;obtain⟨S,D,a5⟩:=h.p.qc.qy;obtain⟨ah,z,am⟩:=h.p.qx.qy;obtain⟨ag,x,Q⟩:=zr h.qx;have HW:=Tg hc;have aG:=Tg ab;have A:X (P.tv=.k R W.p.g.v.j C/\P.pv=.k S W.p.qc.j D/\P.nv=.k ah W.p.qx.j z/\P.ntv=.k ag W.p.qx.j x):=⟨ao,a5,am,Q⟩;have av:=λW0:U=>run_make (P:=prog) (w:=W0) 150 162 i0 _ underlying150 hi aD .i64 .i64 (W.F.j:Int) (W.F.j:Int) η (Int.le_refl _) (by rw[a8];omega) η;rw[aU] at av;have ai:=hc.c6;rw[ab] at ai;have aX:=hc.lt;have aM:=hc.free;clear h hc ax ab ao a5 am Q;go_enter func207,ntmps207;go_upto_region 3 with fail
 have aq:μ w ((w.C (.E (bj 0 0 0 Y Y 0 0 0 0).F 310)).C (.E (madeCells #[.u Y] W.F.j) 162)):=γ;have c:=rZ (w.C (.E (bj 0 0 0 Y Y 0 0 0 0).F 310)) W.F.j 162 (.u Y) b_;rw[U.size_alloc] at c;have ar:uS ((w.C (.E (bj 0 0 0 Y Y 0 0 0 0).F 310)).C (.E (madeCells #[.u Y] W.F.j) 162)) w.o.q:=eD _ _ _ _ _ _ _ _ _ _ _;have a0:(P.vps.map (·.ab)).j=W.F.j:=by simp[ac.l]
 have au:X (((w.C (.E (bj 0 0 0 Y Y 0 0 0 0).F 310)).C (.E (madeCells #[.u Y] W.F.j) 162)).r w.o.q 162 1 (.k (Z ⟨w.o.q+1,0,Y⟩) W.F.j W.F.j) W.F.j (jr (P.vps.map (·.ab)) 0)):=by
  have e:jr (P.vps.map (·.ab)) 0=List.replicate W.F.j (.u Y):=by simp[jr,ac.l]
  rw[X,e];exact yo c η
 have V:=Tg a0;have a9:X (∀i (h1:i<P.vps.j) (h2:i<(P.vps.map (·.ab)).j),(P.vps.map (·.ab))[i]=P.vps[i].ab):=λi a b=>ζ;clear c a0 ai aX aM av;generalize (w.C (.E (bj 0 0 0 Y Y 0 0 0 0).F 310)).C (.E (madeCells #[.u Y] W.F.j) 162)=w1 at *;generalize P.vps.map (·.ab)=L at *;have y:=Tg ar;clear ar;go_loopw [17] (λaJ wr=>∃m:Nat,m<=W.F.j/\aJ=ι m/\μ w wr/\X (uS wr w.o.q)/\X (wr.r w.o.q 162 1 (.k (Z ⟨w.o.q+1,0,Y⟩) W.F.j W.F.j) W.F.j (jr L m))) (λi _=>W.F.j-(intOf i).D);exact⟨0,zs _,rfl,aq,y,au⟩;clear au y aq;obtain⟨m,hm,rfl,d,y,HR⟩:=hrel;have bb:=d.q;by_cases t:m<W.F.j
 .have aa:m<P.vps.j:=by rw[ac.l];exact t
  have az:m<L.j:=by rw[V.l];exact t
  obtain⟨gv,aR,n,r,q0,q1,q2,q3,q4,q5⟩:=aL.l m t aa;rw[aG.l] at n;simp only[O.slice.injEq] at n;have aI:=n.1;clear n;subst aI;obtain⟨aA,a1,hq⟩:=aZ.l m t aa;rw[hq] at q1;have x0:=zi d r q0;have x1:=zi d r q1;have x2:=zi d r q2;have x3:=zi d r q3;have x4:=zi d r q4;have x5:=zi d r q5;have bm:gv<wr.o.q:=η;have c:=HR.l;have aF:=Dy L m η;obtain⟨sx,bq⟩:∃sx,wr.p ⟨w.o.q+1,m,Y⟩=Z sx:=by
   obtain⟨g',bd,a2,_,_,ak⟩:=yr c η;simp only[O.slice.injEq,zt,Addr.mk.injEq,and_true] at a2;have e:=a2.1;subst e;exact⟨_,ak m _ (yn η)⟩
  have bo:=vg c;have bp:w.o.q+1<wr.o.q:=yG c rfl;have aj:X ((jr L m).set m (.u (Z ⟨P.vps[m].ab,0,Y⟩))=jr L (m+1)):=by
   have q:=EI L m az;rw[a9.l m aa az] at q;exact q
  have l:Below (wr.x ⟨w.o.q+1,m,Y⟩ (.u (Z ⟨P.vps[m].ab,0,Y⟩))).o.q (wr.x ⟨w.o.q+1,m,Y⟩ (.u (Z ⟨P.vps[m].ab,0,Y⟩))) ((wr.x ⟨w.o.q+1,m,Y⟩ (.u (Z ⟨P.vps[m].ab,0,Y⟩))).C (.E #[ι (W.F[m].lit.o:Nat),.k aA W.F[m].lit.v.j a1,ι wd,.u (Z ⟨P.vps[m].bb,0,Y⟩),.u (Z ⟨P.vps[m].fb,0,Y⟩),.u (Z ⟨P.vps[m].ab,0,Y⟩)] 301)):=γ;have g:=iP (Eb (o:=m) (u:=.u (Z ⟨P.vps[m].ab,0,Y⟩)) y.l (show w.o.q≠w.o.q+1 by omega)) l;have j:=uB c m η (.u (Z ⟨P.vps[m].ab,0,Y⟩));rw[aj.l] at j;have an:=zy j l;have a7:=Tk (d.x ζ _) l;clear j;have ba:(m:Int)<(W.F.j:Int):=η;clear q0 q1 q2 q3 q4 q5 aF hq aj;generalize W.F[m].lit.o=vp at *;generalize W.F[m].lit.v.j=vt at *;generalize P.vps[m].bb=bk at *;generalize P.vps[m].fb=bh at *;generalize P.vps[m].ab=bi at *;go_wp2;exact⟨⟨m+1,η,ξ,a7,g,an⟩,by simp[intOf];omega⟩
 obtain rfl:m=W.F.j:=η;have aV:X (wr.r w.o.q 162 1 (.k (Z ⟨w.o.q+1,0,Y⟩) W.F.j W.F.j) W.F.j (T1 L)):=by
  have q:=HR.l;rw[←V.l,Hg,V.l] at q;exact q
 have aH:=HW.l.u d;obtain⟨t1,t2,t3,t4⟩:=A.l;obtain⟨bn,aQ,d0,d1,d2,d3,d4,d5,d6,d7⟩:=aH;rw[t1] at d3;rw[t2] at d4;rw[t3] at d5;rw[t4] at d7;have f:E≠w.o.q:=by have:=HW.l.lt;omega
 have aW:X (∀W0,μ wr W0->Calls prog 214 #[.agg #[ι W.p.L,ι W.p.m,ι W.p.g.o,.k R W.p.g.v.j C,.k S W.p.qc.j D,.k ah W.p.qx.j z],.k (Z ⟨w.o.q+1,0,Y⟩) W.F.j W.F.j,.k ag W.p.qx.j x] W0 λe s=>nU lo W0 own p (xK W.p (W.F.map (·.all)) qx) e s):=λW0 al=>by
  have q:=N.l W0 (w.o.q+1) (Tk d al) (zy aV.l al);rw[gi,t1,t2,t3,t4] at q;exact q
 clear t1 t2 t3 t4 d6 N t hm;generalize a4:xK W.p (W.F.map (·.all)) qx=J at *;have aw:=Tg a4;clear a4;go_wp2;go_region_held3 (λs=>s.p ⟨E,o,Y⟩=Z (ι W.p.L)/\s.p ⟨E,o+1,Y⟩=Z (ι W.p.m)/\s.p ⟨E,o+2,Y⟩=Z (ι W.p.g.o)/\s.p ⟨E,o+3,Y⟩=Z (.k R W.p.g.v.j C)/\s.p ⟨E,o+4,Y⟩=Z (.k S W.p.qc.j D)/\s.p ⟨E,o+5,Y⟩=Z (.k ah W.p.qx.j z)/\s.p ⟨E,o+7,Y⟩=Z (.k ag W.p.qx.j x)) (first|(exact⟨ae,af,ad,I,F,H,G⟩)|(exact⟨(kM _ _ _ _ _ f).A ae,(kM _ _ _ _ _ f).A af,(kM _ _ _ _ _ f).A ad,(kM _ _ _ _ _ f).A I,(kM _ _ _ _ _ f).A F,(kM _ _ _ _ _ f).A H,(kM _ _ _ _ _ f).A G⟩)|go_keep|(go_simp;done)) (first|(go_at_call 214;refine(aW.l _ γ).y ?_;rintro e w2 ⟨PJ,rfl,B,ay,aN⟩;have K:μ wr w2:=(zQ γ aN (zg _));have aE:=HW.l.u (Tk d K);obtain⟨be,a6,ae,af,ad,I,F,H,_,G⟩:=aE;rw[A.l.1] at I;rw[A.l.2.1] at F;rw[A.l.2.2.1] at H;rw[A.l.2.2.2] at G;have g:=iP y.l K;have aT:=ij B g;have M:=sC J PJ B.hlen.1 B.jl;have aC:=Tg B;have aY:=Tg ay;clear B ay;generalize ap:uM J PJ=cs at *;have aP:=Tg ap;clear ap))
 have aK:=sw (cs:=cs) g M;have a3:=tx w2 w.o.q cs;have aS:=aC.l.saveJ a3 (T2.box g.choose_spec.1);have aB:=(Tk d K).A (a3.u ζ (by have:=K.q;omega));clear aT d0 d1 d2 d3 d4 d5 d7 ae af ad I F H G aQ a6;generalize gO w2 w.o.q cs=w5 at *;go_wp2
 (try simp only[Exit.inBlock,Exit.then])
 exact zO (v:=.agg cs.F) (i8 rfl _ _ _ _ _ (by rfl) (run_loadVar_mid w5 w.o.q 0 310 cs _ aK.range underlying310 rfl (by rw[M];exact S8))) rfl ⟨PJ,by rw[aw.l,aP.l],by rw[aw.l];exact aS,aY.l,aB⟩
end
section
open Go.Proofs.Tryz Go.RowKit
variable {lo:Nat}
def ks(ps:List jN)(place:Nat):List Nat:=ps.zipIdx.map λx=>if x.2<place then x.1.bb else if x.2=place then x.1.fb else x.1.ab
def FH(vs:List yH)(a:Nat):(T5 vs a).j=vs.j:=by simp[T5]
def N6{w:U}{own:Nat->zo}{k wd p:Nat}{W:yd}{P:xo}(h:uy lo w own k wd W P)(a i:Nat)(d:i<W.F.j)(c:i<P.vps.j)(f:i<(T5 W.F a).j)(e:i<(ks P.vps a).j):∃ρ,ρ≠(0,p,0)/\xg lo w own ρ (ks P.vps a)[i] (T5 W.F a)[i]:=by
 have b:=h.view i d c;simp only[ks,T5,ub,List.getElem_zipIdx,vx];split;exact⟨_,ζ,b.before⟩;split;exact⟨_,ζ,b.qw⟩;exact⟨_,ζ,b.all⟩
attribute [local go_sem] tK
def Nt(w:U)(own:Nat->zo)(k wd p I o d:Nat)(W:yd)(P:xo)(qx:List zl)(h:uy lo w own k wd W P)(hc:WC w I o W.p P)(aU:lo<=w.o.q)(be:d<=1000000)(hn:qx.j=W.p.qx.j)(a1:∀i (h1:i<qx.j) (h2:i<P.nbs.j),∃ρ,ρ≠(0,p,0)/\xg lo w own ρ P.nbs[i] qx[i]):
  Calls prog 210 #[.u (Z ⟨I,o,Y⟩),ι d] w λe x=>nU lo w own p (xK W.p (T5 W.F d) qx) e x:=by
 obtain⟨i0,hi,aI,bc,aC⟩:=info_parts S7;have T:X (∀W' pb,μ w W'->W'.r w.o.q 162 1 (.k (Z ⟨pb,0,Y⟩) W.F.j W.F.j) W.F.j (T1 (ks P.vps d))->Calls prog 214 #[gi W.p P.tv P.pv P.nv,.k (Z ⟨pb,0,Y⟩) W.F.j W.F.j,P.ntv] W' λe x=>nU lo W' own p (xK W.p (T5 W.F d) qx) e x):=λW' pb hB c=>by
  have q:=Et (p:=p) (pb:=pb) (qc:=T5 W.F d) (bs:=ks P.vps d) (qx:=qx) (W':=W') h aU (by simp[T5]) (by simp[ks,T5,h.vlen]) (λi h1 h2=>N6 h d i (by simpa [T5] using h1) (by simpa [ks] using h2) h1 h2) hn a1 hB (by rw[FH];exact c);rw[FH] at q;exact q
 have aR:=Tg λi a b=>h.viewAt i a b;have bi:=Tg λi a b=>(h.view i a b).v.qy;have ag:=Tg h.vlen;have bn:=h.K;obtain⟨br,bq,af⟩:=zr h.F;obtain⟨ab,G,au⟩:=h.p.g.qy;obtain⟨ac,H,a9⟩:=h.p.qc.qy;obtain⟨am,D,ar⟩:=h.p.qx.qy;obtain⟨al,A,V⟩:=zr h.qx;have HW:=Tg hc;have aL:=Tg af;have E:X (P.tv=.k ab W.p.g.v.j G/\P.pv=.k ac W.p.qc.j H/\P.nv=.k am W.p.qx.j D/\P.ntv=.k al W.p.qx.j A):=⟨au,a9,ar,V⟩;have az:=λW0:U=>run_make (P:=prog) (w:=W0) 150 162 i0 _ underlying150 hi aI .i64 .i64 (W.F.j:Int) (W.F.j:Int) η (Int.le_refl _) (by rw[aC];omega) η;rw[bc] at az;have an:=hc.c6;rw[af] at an;have bg:=hc.lt;have aS:=hc.free;clear h hc a1 af au a9 ar V;go_enter func210,ntmps210;go_upto_region 3 with fail
 have aw:μ w ((w.C (.E (bj 0 0 0 Y Y 0 0 0 0).F 310)).C (.E (madeCells #[.u Y] W.F.j) 162)):=γ;have c:=rZ (w.C (.E (bj 0 0 0 Y Y 0 0 0 0).F 310)) W.F.j 162 (.u Y) b_;rw[U.size_alloc] at c;have ax:uS ((w.C (.E (bj 0 0 0 Y Y 0 0 0 0).F 310)).C (.E (madeCells #[.u Y] W.F.j) 162)) w.o.q:=eD _ _ _ _ _ _ _ _ _ _ _;have a4:(ks P.vps d).j=W.F.j:=by simp[ks,ag.l]
 have ay:X (((w.C (.E (bj 0 0 0 Y Y 0 0 0 0).F 310)).C (.E (madeCells #[.u Y] W.F.j) 162)).r w.o.q 162 1 (.k (Z ⟨w.o.q+1,0,Y⟩) W.F.j W.F.j) W.F.j (jr (ks P.vps d) 0)):=by
  have e:jr (ks P.vps d) 0=List.replicate W.F.j (.u Y):=by simp[jr,ks,ag.l]
  rw[X,e];exact yo c η
 have ad:=Tg a4;have aD:X (∀i (h1:i<P.vps.j) (h2:i<(ks P.vps d).j),(ks P.vps d)[i]=if i<d then P.vps[i].bb else if i=d then P.vps[i].fb else P.vps[i].ab):=λi a b=>by simp[ks]
 clear c a4 an bg aS az;generalize (w.C (.E (bj 0 0 0 Y Y 0 0 0 0).F 310)).C (.E (madeCells #[.u Y] W.F.j) 162)=w1 at *;generalize ks P.vps d=R at *;have B:=Tg ax;clear ax;go_loopw [19] (λaO wr=>∃m:Nat,m<=W.F.j/\aO=ι m/\μ w wr/\X (uS wr w.o.q)/\X (wr.r w.o.q 162 1 (.k (Z ⟨w.o.q+1,0,Y⟩) W.F.j W.F.j) W.F.j (jr R m))) (λi _=>W.F.j-(intOf i).D);exact⟨0,zs _,rfl,aw,B,ay⟩;clear ay B aw;obtain⟨m,hm,rfl,f,B,HR⟩:=hrel;have bm:=f.q;by_cases z:m<W.F.j
 .have ae:m<P.vps.j:=by rw[ag.l];exact z
  have a3:m<R.j:=by rw[ad.l];exact z
  obtain⟨gv,aX,r,s,q0,q1,q2,q3,q4,q5⟩:=aR.l m z ae;rw[aL.l] at r;simp only[O.slice.injEq] at r;have aN:=r.1;clear r;subst aN;obtain⟨aE,a5,hq⟩:=bi.l m z ae;rw[hq] at q1;have x0:=zi f s q0;have x1:=zi f s q1;have x2:=zi f s q2;have x3:=zi f s q3;have x4:=zi f s q4;have x5:=zi f s q5;have bt:gv<wr.o.q:=η;have c:=HR.l;have aK:=Dy R m η;obtain⟨sx,bw⟩:∃sx,wr.p ⟨w.o.q+1,m,Y⟩=Z sx:=by
   obtain⟨g',bo,a6,_,_,ap⟩:=yr c η;simp only[O.slice.injEq,zt,Addr.mk.injEq,and_true] at a6;have e:=a6.1;subst e;exact⟨_,ap m _ (yn η)⟩
  have bv:=vg c;have be:w.o.q+1<wr.o.q:=yG c rfl;obtain⟨C,ai⟩:∃C,C=(if m<d then P.vps[m].bb else if m=d then P.vps[m].fb else P.vps[m].ab):=⟨_,rfl⟩;have ao:X ((jr R m).set m ((π C))=jr R (m+1)):=by
   have q:=EI R m a3;rw[aD.l m ae a3,←ai] at q;exact q
  have n:Below (wr.x ⟨w.o.q+1,m,Y⟩ ((π C))).o.q (wr.x ⟨w.o.q+1,m,Y⟩ ((π C))) ((wr.x ⟨w.o.q+1,m,Y⟩ ((π C))).C (.E #[ι (W.F[m].lit.o:Nat),.k aE W.F[m].lit.v.j a5,ι wd,.u (Z ⟨P.vps[m].bb,0,Y⟩),.u (Z ⟨P.vps[m].fb,0,Y⟩),.u (Z ⟨P.vps[m].ab,0,Y⟩)] 301)):=γ;have g:=iP (Eb (o:=m) (u:=(π C)) B.l (show w.o.q≠w.o.q+1 by omega)) n;have l:=uB c m η ((π C));rw[ao.l] at l;have y:=zy l n;have aa:=Tk (f.x ζ _) n;clear l;have bk:(m:Int)<(W.F.j:Int):=η;clear q0 q1 q2 q3 q4 q5 aK hq ao;generalize W.F[m].lit.o=vp at *;generalize W.F[m].lit.v.j=vt at *;generalize P.vps[m].bb=aY at *;generalize P.vps[m].fb=aH at *;generalize P.vps[m].ab=aQ at *;have t:=Tg ai;clear ai;by_cases g1:m<d
  .have aB:(m:Int)<(d:Int):=η;obtain rfl:C=aY:=by rw[t.l,zb g1]
   clear t;go_wp2;exact⟨⟨m+1,η,ξ,aa,g,y⟩,by simp[intOf];omega⟩
  have aB:¬(m:Int)<(d:Int):=η;by_cases g2:m=d
  .have ba:((m:Int) == (d:Int))=true:=by rw[beq_iff_eq];omega
   obtain rfl:C=aH:=by rw[t.l,za g1,zb g2]
   have bs:=Tg g2;clear t g2;go_wp2;exact⟨⟨m+1,η,ξ,aa,g,y⟩,by simp[intOf];omega⟩
  have ba:((m:Int) == (d:Int))=false:=by rw[beq_eq_false_iff_ne];omega
  obtain rfl:C=aQ:=by rw[t.l,za g1,za g2]
  clear t;go_wp2;exact⟨⟨m+1,η,ξ,aa,g,y⟩,by simp[intOf];omega⟩
 obtain rfl:m=W.F.j:=η;have bd:X (wr.r w.o.q 162 1 (.k (Z ⟨w.o.q+1,0,Y⟩) W.F.j W.F.j) W.F.j (T1 R)):=by
  have q:=HR.l;rw[←ad.l,Hg,ad.l] at q;exact q
 have aM:=HW.l.u f;obtain⟨t1,t2,t3,t4⟩:=E.l;obtain⟨bu,aW,d0,d1,d2,d3,d4,d5,d6,d7⟩:=aM;rw[t1] at d3;rw[t2] at d4;rw[t3] at d5;rw[t4] at d7;have j:I≠w.o.q:=by have:=HW.l.lt;omega
 have bf:X (∀W0,μ wr W0->Calls prog 214 #[.agg #[ι W.p.L,ι W.p.m,ι W.p.g.o,.k ab W.p.g.v.j G,.k ac W.p.qc.j H,.k am W.p.qx.j D],.k (Z ⟨w.o.q+1,0,Y⟩) W.F.j W.F.j,.k al W.p.qx.j A] W0 λe x=>nU lo W0 own p (xK W.p (T5 W.F d) qx) e x):=λW0 aq=>by
  have q:=T.l W0 (w.o.q+1) (Tk f aq) (zy bd.l aq);rw[gi,t1,t2,t3,t4] at q;exact q
 clear t1 t2 t3 t4 d6 T z hm;generalize a8:xK W.p (T5 W.F d) qx=J at *;have a0:=Tg a8;clear a8;go_wp2;go_region_held3 (λx=>x.p ⟨I,o,Y⟩=Z (ι W.p.L)/\x.p ⟨I,o+1,Y⟩=Z (ι W.p.m)/\x.p ⟨I,o+2,Y⟩=Z (ι W.p.g.o)/\x.p ⟨I,o+3,Y⟩=Z (.k ab W.p.g.v.j G)/\x.p ⟨I,o+4,Y⟩=Z (.k ac W.p.qc.j H)/\x.p ⟨I,o+5,Y⟩=Z (.k am W.p.qx.j D)/\x.p ⟨I,o+7,Y⟩=Z (.k al W.p.qx.j A)) (first|(exact⟨aj,ak,ah,N,K,M,L⟩)|(exact⟨(kM _ _ _ _ _ j).A aj,(kM _ _ _ _ _ j).A ak,(kM _ _ _ _ _ j).A ah,(kM _ _ _ _ _ j).A N,(kM _ _ _ _ _ j).A K,(kM _ _ _ _ _ j).A M,(kM _ _ _ _ _ j).A L⟩)|go_keep|(go_simp;done)) (first|(go_at_call 214;refine(bf.l _ γ).y ?_;rintro e w2 ⟨PJ,rfl,F,a2,aT⟩;have Q:μ wr w2:=(zQ γ aT (zg _));have aJ:=HW.l.u (Tk f Q);obtain⟨bp,aA,aj,ak,ah,N,K,M,_,L⟩:=aJ;rw[E.l.1] at N;rw[E.l.2.1] at K;rw[E.l.2.2.1] at M;rw[E.l.2.2.2] at L;have g:=iP B.l Q;have bb:=ij F g;have S:=sC J PJ F.hlen.1 F.jl;have aG:=Tg F;have bh:=Tg a2;clear F a2;generalize av:uM J PJ=cs at *;have aV:=Tg av;clear av))
 have aP:=sw (cs:=cs) g S;have a7:=tx w2 w.o.q cs;have aZ:=aG.l.saveJ a7 (T2.box g.choose_spec.1);have aF:=(Tk f Q).A (a7.u ζ (by have:=Q.q;omega));clear bb d0 d1 d2 d3 d4 d5 d7 aj ak ah N K M L aW aA;generalize gO w2 w.o.q cs=w5 at *;go_wp2
 (try simp only[Exit.inBlock,Exit.then])
 exact zO (v:=.agg cs.F) (i8 rfl _ _ _ _ _ (by rfl) (run_loadVar_mid w5 w.o.q 0 310 cs _ aP.range underlying310 rfl (by rw[S];exact S8))) rfl ⟨PJ,by rw[a0.l,aV.l],by rw[a0.l];exact aZ,bh.l,aF⟩
end
section
open Go.Proofs.Tryz Go.RowKit
variable {lo:Nat}{w:U}{p:Nat}
structure Vm (c:Array O) (o:Nat) (r:zu) (P:xo):Prop where
 c0:c[o]?=Z (ι r.L)
 c1:c[o+1]?=Z (ι r.m)
 c2:c[o+2]?=Z (ι r.g.o)
 c3:c[o+3]?=Z P.tv
 c4:c[o+4]?=Z P.pv
 c5:c[o+5]?=Z P.nv
 c6:c[o+6]?=Z P.vv
 c7:c[o+7]?=Z P.ntv
def Vm.at{b o:Nat}{T:TypeId}{c:Array O}{r:zu}{P:xo}(h:Vm c o r P)(d:Th w b c T):WC w b o r P:=by
 obtain⟨a,e⟩:=d.H;exact⟨d.lt,e,(a _).A h.c0,(a _).A h.c1,(a _).A h.c2,(a _).A h.c3,(a _).A h.c4,(a _).A h.c5,(a _).A h.c6,(a _).A h.c7⟩
def uy.mod{ok:TypeId->zo->Prop}{w w':U}{own own':Nat->zo}{k wd:Nat}{W:yd}{P:xo}(h:uy lo w own k wd W P)(m:Tp lo ok w own w' own')(d:∀ρ,¬ok 284 ρ)(f:∀ρ,¬ok 204 ρ)(l:¬ok 301 (k+1,0,9))(g:∀ρ,¬ok 162 ρ)(e:∀i j t,¬Uh t->¬ok t (k+1,i,j)):uy lo w' own' k wd W P:=
 ⟨h.p.mod m d f,sP h.F m λb c=>by rw[h.vrole b c];exact l,h.vlen,λi a b=>(h.view i a b).mod m (e i) d,λb c=>by rw[m.old b (yG h.F c)];exact h.vrole b c,vT h.qx m g,h.nlen,h.K⟩
def nJ{t:TypeId}(a:Uh t)(h:t∉[214,161,165,310,323]):∀ρ,¬kQ p t ρ:=λρ q=>by
 rcases q with (q|q|q|q)|q
 .exact q.1 a
 .subst q;exact h θ
 .subst q;exact h θ
 .rw[q.1] at h;exact h θ
 .rcases zG.1 q with rfl|q
  .exact h θ
  .rcases zG.1 q with rfl|q
   .exact h θ
   .cases q
def ON{t:TypeId}{ρ:zo}(a:¬Uh t)(h:ρ≠(0,p,0)):¬kQ p t ρ:=λq=>by
 rcases q with (q|q|q|q)|q
 .exact h q.2
 .subst q;exact a θ
 .subst q;exact a θ
 .rw[q.1] at a;exact a θ
 .rcases zG.1 q with rfl|q
  .exact a θ
  .rcases zG.1 q with rfl|q
   .exact a θ
   .cases q
def uy.all{w':U}{own own':Nat->zo}{k wd:Nat}{W:yd}{P:xo}(h:uy lo w own k wd W P)(m:Tp lo (kQ p) w own w' own'):uy lo w' own' k wd W P:=
 h.mod m (nJ θ θ) (nJ θ θ) (nJ θ θ _) (nJ θ θ) (λ_ _ _ a=>ON a ζ)
def fq(a:List Nat)(n:Nat)(r:zu)(b:List Nat):Prop:=∀i (d:i<r.qx.j) (c:i<b.j),r.qx[i].o≠r.g.o/\r.qx[i].o<n/\∃e:r.qx[i].o<a.j,b[i]=a[r.qx[i].o]
def Gf(wd:Nat)(R:zv)(r:zu):(j0 wd R r).j=r.qx.j:=by simp[j0]
def fq.tries{w:U}{own:Nat->zo}{f:Nat}{R:zv}{wd mr mx:Nat}{Q:uz}{r:zu}{a:Φ}(h:fq Q.tbs R.I.j r a)(j:zZ lo w own f R wd mr mx Q)(m:a.j=r.qx.j):∀i (k:i<(j0 wd R r).j) (c:i<a.j),∃ρ,ρ≠(0,r.g.o,0)/\xg lo w own ρ a[i] (j0 wd R r)[i]:=by
 intro i k c;obtain⟨g,b,d,l⟩:=h i η c;refine⟨(0,r.qx[i].o,0),by simp[g],?_⟩;have e:(j0 wd R r)[i]=R.I[r.qx[i].o]:=by
  simp only[j0,ub,ma];rw[za η];simp[b]
 rw[e,l];exact j.tries _ b d
def BG{mr:Nat}{R R':zv}{row:zk}{b:Bool}(h:jV mr R p row=Z (R',b)):R'.I.j=R.I.j:=by
 obtain⟨_,_,_,_,_,a⟩:=Br h;rcases a with⟨_,rfl,_⟩|⟨_,rfl,_⟩<;>simp
def wg{mr p:Nat}:∀(n:Nat) (R R':zv) (J:zE) (b:Bool),vX mr p n R J=Z (R',b)->R'.I.j=R.I.j
 |0,R,R',J,b,h=>by simp[vX] at h
 |n+1,R,R',J,b,h=>by
  unfold vX at h;cases e:lf n J with
  |none=>rw[e] at h;cases h
  |some i=>
   obtain⟨c,f⟩:=i;rw[e] at h;cases f with
   |false=>
    simp only[zt,ye] at h;rw[←h.1]
   |true=>
    dsimp only at h;cases a:jV mr R p (zH c.g c.P) with
    |none=>rw[a] at h;cases h
    |some d=>
     obtain⟨g,j⟩:=d;rw[a] at h;cases j with
     |false=>
      simp only[zt,ye] at h;rw[←h.1];exact BG a
     |true=>exact(wg n g R' c b h).A (BG a)
attribute [local go_sem] tK
def jL.laid{J:zE}{a:xI}(h:jL lo w J a)(g:lo<=w.o.q):T7 lo (gO (w.C (.E (bj 0 0 0 Y Y 0 0 0 0).F 310)) w.o.q (uM J a)) w.o.q J a/\μ w (gO (w.C (.E (bj 0 0 0 Y Y 0 0 0 0).F 310)) w.o.q (uM J a)):=by
 have b:μ w (w.C (.E (bj 0 0 0 Y Y 0 0 0 0).F 310)):=(zn _ _).C (zg _) _;have f:=rX w 0 0 0 Y Y 0 0 0 0;have c:=sw f (sC J a h.hlen.1 h.jl);have e:=tx (w.C (.E (bj 0 0 0 Y Y 0 0 0 0).F 310)) w.o.q (uM J a);obtain⟨j,d,_⟩:=f;exact⟨((h.u b).saveJ e (T2.box d)).join g c,b.A (e.u (λx i=>by simp at i;omega) ζ)⟩
def Ky(w:U)(own:Nat->zo)(A B o k:Nat)(c:Array O)(R R':zv)(W:yd)(P:xo)(wd mr mx:Nat)(Q:uz)(n:Nat)(b:Bool)(h:zZ lo w own A R wd mr mx Q)(hw:uy lo w own k wd W P)(s:Th w B c 292)(u:Vm c o W.p P)(I:fq Q.tbs R.I.j W.p P.nbs)(y:lo<=w.o.q)(hr:gh n wd mr true R W=Z (R',b)):
  Calls prog 193 #[(π A),.u (Z (ω B o)),.i true] w λe w'=>wJ lo w own A W.p.g.o R' b wd mr mx Q e w':=by
 have N:=hr;have K:=Tg (Jh w own k wd W.p.g.o B o W P _ hw (u.at s) y (Gf _ _ _) (I.tries h hw.nlen));have M:=Tg λW0 jb t q hj G=>FK W0 own A jb R R' _ t wd mr mx Q W.p.g.o n b (h.u q) hj G (by have:=q.q;omega) N;have ab:=u.at s;have z:=Tg ab;have D:=Tg y;generalize xK W.p (W.F.map (·.all)) (j0 wd R W.p)=J at *;generalize S:W.p.g.o=p at *;have F:=Tg S;go_enter func193,ntmps193;go_upto_region 3 with (first|(go_at_call 207;refine K.l.y ?_;rintro e i ⟨t,rfl,a,l,g⟩;have af:μ i (i.C (.E (bj 0 0 0 Y Y 0 0 0 0).F 310)):=γ;have ad:=ij a (rX i 0 0 0 Y Y 0 0 0 0);have ac:=sC J t a.hlen.1 a.jl;have H:=Tg a;have T:=Tg l;clear a l;generalize v:uM J t=cs at *;have aa:=Tg v;clear v))
 have E:=zY D.l g.q;have d:=H.l.laid E;rw[aa.l] at d;obtain⟨L,C⟩:=d;generalize gO (i.C (.E (bj 0 0 0 Y Y 0 0 0 0).F 310)) i.o.q cs=W3 at *;have f:=g.A (C.y g.q);have ae:W3.p (ω B (o+2))=Z (ι p):=by rw[←F.l];exact(f.cell z.l.lt).A z.l.c2
 have j:=M.l W3 _ t f L T.l;have V:=Tg f;go_wp2_with (go_at_call 208;refine j.y ?_;rintro e w4 ⟨rfl,m,r,x,hm⟩)
 go_ret;exact⟨rfl,m,r,x,(Tp.of own V.l).A hm⟩
end
section
open Go.Proofs.Tryz Go.RowKit
variable {lo:Nat}
attribute [local go_sem] tK
def PC(w:U)(own:Nat->zo)(rb gw o k:Nat)(c:Array O)(R R':zv)(W:yd)(P:xo)(wd mr mx:Nat)(Q:uz)(n:Nat)(b:Bool)(h:zZ lo w own rb R wd mr mx Q)(hw:uy lo w own k wd W P)(S:Th w gw c 292)(V:Vm c o W.p P)(aw:fq Q.tbs R.I.j W.p P.nbs)(a0:lo<=w.o.q)(hr:gh n wd mr false R W=Z (R',b)):
  Calls prog 193 #[(π rb),.u (Z (ω gw o)),.i false] w λe w'=>wJ lo w own rb W.p.g.o R' b wd mr mx Q e w':=by
 have a7:X (jR n wd mr W (W.F.j-0) 0 R=Z (R',b)):=hr;have HH:=Tg h;have aD:=Tg hw;have aT:=Tg S;have a8:=Tg V;have aC:=Tg aw;have aE:=Tg a0;have aV:=hw.K;obtain⟨aX,aW,aa⟩:=zr hw.F;have aH:=Tg aa;have ad:=V.at S;have ba:=ad.lt;have aB:=ad.c6;rw[aa] at aB;clear hr h hw S V aw a0 aa ad;go_enter func193,ntmps193;go_upto_region 5 with fail
 go_loopw [27] (λaG wr=>∃m:Nat,m<=W.F.j/\aG=ι m/\∃B a E,X (zZ lo wr a rb B wd mr mx ⟨Q.rv,Q.tbs,Q.fv,E⟩)/\X (Tp lo (kQ W.p.g.o) w own wr a)/\X (B.I.j=R.I.j)/\X (jR n wd mr W (W.F.j-m) m B=Z (R',b))) (λi _=>W.F.j-(intOf i).D);exact⟨0,zs _,rfl,R,own,Q.fvs,HH,Tp.refl _ _,rfl,a7⟩;clear a7;obtain⟨m,hm,rfl,B,a,E,G,j,ab,au⟩:=hrel;have am:=j.l.q;have z:=zY aE.l am;by_cases C:m<W.F.j
 .have af:=Tg (aD.l.all j.l);have ai:=Tg (aT.l.mod j.l (nJ θ θ _));have I:=af.l;have av:m<P.vps.j:=by rw[I.vlen];exact C
  obtain⟨gv,aL,r,aY,q0,q1,q2,q3,q4,q5⟩:=I.viewAt m C av;rw[aH.l] at r;simp only[O.slice.injEq] at r;have aI:=r.1;clear r;subst aI;have N:=I.view m C av;obtain⟨ak,L,hq⟩:=N.v.qy;rw[hq] at q1;have d:=au.l;rw[show W.F.j-m=(W.F.j-(m+1))+1 from by omega] at d;unfold jR at d;rw[show W.F.g m ⟨⟨0,[]⟩,zl.zero,zl.zero,zl.zero⟩=W.F[m] by simp[List.getD,C]] at d;obtain⟨aK,ao,_⟩:=N.qw;have a2:=Tg λH hb=>FO H _ _ aK (ao.u hb);have l:=(a8.l.at ai.l);have aS:=l.lt;have aU:(m:Int)<(W.F.j:Int):=η;clear ao N hq I;by_cases al:W.F[m].qw.count>0
  .rw[zb al] at d;rcases ha:vX mr W.p.g.o n B (xK W.p (T5 W.F m) (j0 wd B W.p)) with _|ar;rw[ha] at d;cases d;obtain⟨R3,b3⟩:=ar;rw[ha] at d;have A:=wg _ _ _ _ _ ha;have aM:=Tg (A.A ab.l);have aA:X (∀H,μ wr H->Calls prog 210 #[.u (Z (ω gw o)),ι m] H λe w'=>nU lo H a W.p.g.o (xK W.p (T5 W.F m) (j0 wd B W.p)) e w'):=λH hb=>by
    have aF:=Tp.of (lo:=lo) (ok:=kQ W.p.g.o) a hb;exact Nt H a k wd W.p.g.o gw o m W P _ (af.l.all aF) ((a8.l.at ai.l).u hb) (zY z hb.q) η (Gf _ _ _) (fq.tries (by rw[ab.l];exact aC.l) (G.l.u hb) af.l.nlen)
   have a6:=Tg λH jb PJ aj hj aO=>FK H a rb jb B R3 _ PJ wd mr mx _ W.p.g.o n b3 (G.l.u aj) hj aO (zY z aj.q) ha;have aR:=Tg l.c2;clear l ha A;generalize xK W.p (T5 W.F m) (j0 wd B W.p)=J at *;have aN:(0:Int)<(W.F[m].qw.count:Nat):=η;have u:X ((match (Z (R3,b3):Option (zv×Bool)) with|none=>Y|some (R,false)=>Z (R,false)|some (R,true)=>jR n wd mr W (W.F.j-(m+1)) (m+1) R)=Z (R',b)):=d;clear d;generalize W.F[m].qw.count=ct at *;generalize W.F[m].lit.o=vp at *;generalize W.F[m].lit.v.j=vt at *;generalize P.vps[m].bb=ac at *;generalize P.vps[m].fb=M at *;generalize P.vps[m].ab=T at *;generalize ax:W.p.g.o=p at *;have aJ:=Tg ax;clear ax;have f:μ wr (wr.C (.E #[ι vp,.k ak vt L,ι wd,(π ac),(π M),(π T)] 301)):=γ;have g:=Tg f;clear f;go_upto_region 9 with (first|(go_at_call 209;refine(a2.l _ g.l).y ?_;rintro e F ⟨rfl,ah⟩;obtain rfl:=ah.z)|(go_at_call 210;refine(aA.l _ g.l).y ?_;rintro e F ⟨PJ,rfl,y,a3,az⟩;have ag:=Tk g.l az;clear az;have aP:μ F (F.C (.E (bj 0 0 0 Y Y 0 0 0 0).F 310)):=γ;have aQ:=ij y (rX F 0 0 0 Y Y 0 0 0 0);have ay:=sC J PJ y.hlen.1 y.jl;have an:=Tg y;have a9:=Tg a3;clear y a3;generalize ap:uM J PJ=cs at *;have a1:=Tg ap;clear ap))
   have t:=an.l.laid (zY z ag.q);rw[a1.l] at t;obtain⟨a5,a4⟩:=t;generalize gO (F.C (.E (bj 0 0 0 Y Y 0 0 0 0).F 310)) F.o.q cs=W3 at *;have D:=Tk ag a4;have aZ:=zi D aS aR.l;have K:=a6.l W3 _ PJ D a5 a9.l;have aq:=Tg D;clear a5 a4 D an a9 a1 aQ ay aP a6 aA ag;generalize F.o.q=jb at *;cases b3
   .have HE:X (R3=R'/\false=b):=by have q:=u.l;simp only[zt,ye] at q;exact q
    go_wp2_with (go_at_call 208;refine K.y ?_;rintro e w4 ⟨rfl,s,x,v,ae⟩)
    go_ret;exact⟨by rw[←HE.l.2];rfl,s,x,by rw[←HE.l.1];exact v,by rw[aJ.l];exact j.l.A ((Tp.of a aq.l).A ae)⟩
   have HE:X (jR n wd mr W (W.F.j-(m+1)) (m+1) R3=Z (R',b)):=u.l;clear u;go_wp2_with (go_at_call 208;refine K.y ?_;rintro e w4 ⟨rfl,s,x,v,ae⟩)
   exact⟨⟨m+1,η,ξ,R3,s,x,v,j.l.A ((Tp.of a aq.l).A ae),aM,HE⟩,by simp[intOf];omega⟩
  rw[za al] at d;have u:=Tg d;clear d l;have aN:¬(0:Int)<(W.F[m].qw.count:Nat):=η;generalize W.F[m].qw.count=ct at *;generalize W.F[m].lit.o=vp at *;generalize W.F[m].lit.v.j=vt at *;generalize P.vps[m].bb=ac at *;generalize P.vps[m].fb=M at *;generalize P.vps[m].ab=T at *;have f:μ wr (wr.C (.E #[ι vp,.k ak vt L,ι wd,(π ac),(π M),(π T)] 301)):=γ;have g:=Tg f;clear f;go_wp2_with (go_at_call 209;refine(a2.l _ g.l).y ?_;rintro e F ⟨rfl,ah⟩;obtain rfl:=ah.z)
  exact⟨⟨m+1,η,ξ,B,a,E,G.l.u g.l,j.l.A (Tp.of a g.l),ab,u⟩,by simp[intOf];omega⟩
 obtain rfl:m=W.F.j:=η;have d:=au.l;rw[jC] at d;simp only[jR,zt,ye] at d;have HE:=Tg d;clear d;go_wp2;go_ret;exact⟨by rw[←HE.l.2];rfl,a,E,by rw[←HE.l.1];exact G.l,j.l⟩
def N3(w:U)(own:Nat->zo)(d j o k:Nat)(c:Array O)(R R':zv)(W:yd)(P:xo)(wd mr mx:Nat)(Q:uz)(n:Nat)(first b:Bool)(h:zZ lo w own d R wd mr mx Q)(l:uy lo w own k wd W P)(f:Th w j c 292)(i:Vm c o W.p P)(a:fq Q.tbs R.I.j W.p P.nbs)(g:lo<=w.o.q)(m:gh n wd mr first R W=Z (R',b)):
  Calls prog 193 #[(π d),.u (Z (ω j o)),.i first] w λe p=>wJ lo w own d W.p.g.o R' b wd mr mx Q e p:=by
 cases first
 exact PC w own d j o k c R R' W P wd mr mx Q n b h l f i a g m;exact Ky w own d j o k c R R' W P wd mr mx Q n b h l f i a g m
end
section
open Go.Proofs.Tryz Go.RowKit
variable {lo:Nat}{k wd cap:Nat}{c:Array O}{w w':U}{own':Nat->zo}{xs:List O}
def ld(k:Nat):TypeId->zo->Prop:=λt ρ=>(¬Uh t/\∃i j,ρ=(k+1,i,j))∨(t=301/\ρ=(k+1,0,9))
def LF{i:Nat}{t:TypeId}{ρ:zo}(h:lZ k i (k+1,0,9) t ρ):ld k t ρ:=by
 rcases h with⟨b,j,a⟩|h
 exact zh ⟨b,i,j,a⟩;exact ze h
def nu{t:TypeId}(h:Uh t)(a:t≠301):∀ρ,¬ld k t ρ:=λρ q=>by
 rcases q with q|q
 .exact q.1 h
 .exact a q.1
def rT{t:TypeId}{a b c:Nat}(h:a≠k+1):¬ld k t (a,b,c):=λq=>by
 rcases q with⟨_,i,j,q⟩|⟨_,q⟩<;>simp at q<;>omega
def gZ{i:Nat}{ρg:zo}{t:TypeId}(h:Uh t)(a:t≠301):∀ρ,¬lZ k i ρg t ρ:=λρ q=>by
 rcases q with q|q
 .exact q.1 h
 .exact a q.1
def zZ.work{own:Nat->zo}{a:Nat}{R:zv}{mr mx:Nat}{Q:uz}(h:zZ lo w own a R wd mr mx Q)(m:Tp lo (ld k) w own w' own'):zZ lo w' own' a R wd mr mx Q:=
 h.mod m (nu θ θ) (nu θ θ) (nu θ θ) (λ_=>rT η) (λ_ _ _=>rT η)
def Pl{b:Nat}{e:TypeId}{a g n m:Nat}(h:w.r b e a (.k (Z (δ g)) n cap) m xs)(s:w'.o[g]?=w.o[g]?):w'.r b e a (.k (Z (δ g)) n cap) m xs:=by
 obtain⟨r,i⟩:=h;refine⟨r,?_⟩;rcases i with i|⟨o,d,j,f,l,p,q⟩;exact zh i;refine ze ⟨o,d,j,f,l,?_,q⟩;simp at f;rw[←f.1,s,f.1];exact p
def RR{b:Nat}{e:TypeId}{a g n m:Nat}(h:w.r b e a (.k (Z (δ g)) n cap) m xs)(d:Th w g c e)(j:Nat)(i:j<xs.j)(u:O)(f:Th w' g (c.setIfInBounds j u) e):w'.r b e a (.k (Z (δ g)) n cap) m (xs.set j u):=by
 refine Pl (uB h j i u) ?_;unfold Th at f d;rw[f];simp[U.setCell,Array.getElem?_modify,d]
def Fw(wd:Nat):∀(vs:List yH) (ps:List jN),ps.j=vs.j->(qE wd vs ps).j=6*vs.j
 |[],[],_=>rfl
 |[],_::_,h=>by simp at h
 |_::_,[],h=>by simp at h
 |v::vs,p::ps,h=>by
  have:=Fw wd vs ps (by simpa using h);simp only[qE,ny,nM,yN] at this ⊢;rw[this];simp[dR];omega
def GU(wd:Nat):∀(vs:List yH) (ps:List jN) (i:Nat) (_:i<vs.j) (b:i<ps.j) (V:yH) (a:Nat),V.lit=(vs.g i V).lit->qE wd (vs.set i V) (ps.set i ⟨ps[i].tv,ps[i].bb,a,ps[i].ab⟩)=(qE wd vs ps).set (i*6+4) ((π a))
 |[],_,i,d,_,_,_,_=>by simp at d
 |v::vs,[],i,_,b,_,_,_=>by simp at b
 |v::vs,p::ps,0,_,_,V,a,h=>by
  simp at h;simp[qE,dR,h,pt]
 |v::vs,p::ps,i+1,d,b,V,a,h=>by
  have:=GU wd vs ps i (by simpa using d) (by simpa using b) V a (by simpa using h);simp only[qE,rt,ny,nM,pC] at this ⊢;rw[this,List.set_append,za (by simp[dR];omega)];congr 2;simp[dR];omega
def vq{α:Type}(a vs:List α)(m:Nat):List α:=a.G m++vs.drop m
def en{α:Type}{a vs:List α}(h:a.j=vs.j)(m:Nat)(b:m<=vs.j):(vq a vs m).j=vs.j:=by simp[vq];omega
def Gu{α:Type}{a vs:List α}(h:a.j=vs.j)(m:Nat)(d:m<vs.j)(b:m<(vq a vs m).j):(vq a vs m)[m]=vs[m]:=by
 simp only[vq];rw[lB υ];simp[show min m a.j=m by omega]
def Cu{α:Type}{a vs:List α}(h:a.j=vs.j)(m:Nat)(d:m<vs.j)(b:m<a.j):(vq a vs m).set m a[m]=vq a vs (m+1):=by
 have e:=xn d;have g:a.G (m+1)=a.G m++[a[m]]:=by rw[yM b]
 have f:(a.G m).j=m:=by simp;omega
 show(a.G m++vs.drop m).set m a[m]=a.G (m+1)++vs.drop (m+1);rw[e,g,List.set_append,za η,f,jC,pF,kO];rfl
def DY{f:Nat}{V b:yH}{a:List zk}(h:fz f wd V a=Z b):b.lit=V.lit:=by
 obtain⟨_,_,_,_,_,_,_,_,e⟩:=CS h;rw[e]
def Cs{f wd:Nat}{j:List (List zk)}:∀{vs a:List yH},f6 f wd j vs=Z a->a.j=vs.j/\∀i (g:i<vs.j) (d:i<a.j),if vs[i].lit.o<j.j then fz f wd vs[i] (j.g vs[i].lit.o [])=Z a[i] else a[i]=vs[i]
 |[],a,h=>by
  simp[f6] at h;subst h;exact⟨rfl,λi h=>by simp at h⟩
 |V::vs,a,h=>by
  unfold f6 at h;split at h
  .rename_i v o b l;simp at h;subst h;obtain⟨m,n⟩:=Cs l;refine⟨by simp[m],λi g d=>?_⟩;match i,g,d with
   |0,_,_=>
    simp only[dZ];by_cases e:V.lit.o<j.j
    .rw[zb e] at b ⊢;exact b
    .rw[za e] at b ⊢;simpa using b.z
   |i+1,g,d=>
    simp only[pC];exact n i (by simpa using g) (by simpa using d)
  .cases h
def uy.renewed{own:Nat->zo}{i g f:Nat}{W:yd}{P:xo}{l:yH}(h:uy lo w own k wd W P)(s:i<W.F.j)(A:i<P.vps.j)(p:P.vv=.k (Z (δ g)) W.F.j cap)(y:Th w g c 301)(v:l.lit=W.F[i].lit)(x:vK lo w' own' k i l ⟨P.vps[i].tv,P.vps[i].bb,f,P.vps[i].ab⟩)(z:Th w' g (c.setIfInBounds (i*6+4) ((π f))) 301)(m:Tp lo (lZ k i (k+1,0,9)) w own w' own'):uy lo w' own' k wd ⟨W.p,W.F.set i l⟩ {P with vps:=P.vps.set i ⟨P.vps[i].tv,P.vps[i].bb,f,P.vps[i].ab⟩}:=by
 refine⟨h.p.mod m (gZ θ θ) (gZ θ θ),?_,by simp[h.vlen],λj a b=>?_,λb d=>(m.old b (yG h.F d)).A (h.vrole b d),vT h.qx m (gZ θ θ),h.nlen,by simpa using h.K⟩;have u:=h.F;dsimp only;rw[p] at u ⊢;rw[fo];have e:=GU wd W.F P.vps i s A l f (by simp[List.getD,s,v]);have r:=Fw wd W.F P.vps h.vlen;have q:=RR u y (i*6+4) η ((π f)) z;rw[←e] at q;exact q;simp only[fo] at a b;simp only[lV];by_cases e:i=j;subst e;rw[zb rfl,zb rfl];exact x;rw[za e,za e];refine(h.view j a b).mod m (λq t B n=>?_) (gZ θ θ);rcases n with⟨_,C,n⟩|⟨o,n⟩
 simp at n;omega;subst o;exact B θ
def Pp(lo:Nat)(w:U)(own:Nat->zo)(k wd:Nat)(W:yd)(b:List yH)(P:xo)(e:Ending)(w':U):Prop:=e=ε (.B #[])/\∃own' a,uy lo w' own' k wd ⟨W.p,b⟩ ⟨P.tv,P.pv,P.nv,P.vv,P.ntv,a,P.nbs⟩/\Tp lo (ld k) w own w' own'
def Mz(w:U)(own:Nat->zo)(rb gw o k:Nat)(c:Array O)(R:zv)(W:yd)(f:List yH)(P:xo)(wd mr mx:Nat)(Q:uz)(ai:Nat)(h:zZ lo w own rb R wd mr mx Q)(hw:uy lo w own k wd W P)(am:Th w gw c 292)(ao:Vm c o W.p P)(a5:lo<=w.o.q)(aB:∀l∈R.qw,l.j<=1048577)(hr:f6 ai wd R.qw W.F=Z f):
  Calls prog 194 #[.u (Z ⟨gw,o,Y⟩),Q.fv] w λe w'=>Pp lo w own k wd W f P e w':=by
 obtain⟨az,a8⟩:=Cs hr;have E:=Tg az;have aT:=Tg a8;have HH:=Tg h;have aF:=Tg hw;have aQ:=Tg am;have aC:=Tg ao;have aG:=Tg a5;have aJ:=Tg aB;have aV:=hw.K;have bb:=h.K.2.1;obtain⟨aZ,z,ar⟩:=zr hw.F;have B:=Tg ar;obtain⟨aY,aX,aq⟩:=zr h.qw;have aD:=Tg aq;have av:=ao.at am;have bc:=av.lt;have ay:=av.c6;rw[ar] at ay;rw[aq];clear hr h hw am ao a5 ar av az a8 aB aq;go_enter func194,ntmps194;go_upto_region 1 with fail
 go_loopw [11] (λaI wr=>∃m:Nat,m<=W.F.j/\aI=ι m/\∃d a,X (uy lo wr d k wd ⟨W.p,vq f W.F m⟩ ⟨P.tv,P.pv,P.nv,P.vv,P.ntv,a,P.nbs⟩)/\X (Tp lo (ld k) w own wr d)) (λi _=>W.F.j-(intOf i).D);exact⟨0,zs _,rfl,own,P.vps,aF.l,Tp.refl _ _⟩;obtain⟨m,hm,rfl,d,a,ab,C⟩:=hrel;have a0:=C.l.q;have aA:=zY aG.l a0;by_cases K:m<W.F.j
 .have aa:=ab.l;have u:m<(vq f W.F m).j:=by rw[en E.l m hm];exact K
  have a9:m<f.j:=by rw[E.l];exact K
  have t:=Gu E.l m K u;have ad:=Cu E.l m K a9;have ae:m<a.j:=by have:=aa.vlen;dsimp only at this;omega
  obtain⟨gv,aM,r,A,q0,q1,q2,q3,q4,q5⟩:=aa.viewAt m u ae;dsimp only at r q0 q1 q2 q3 q4 q5;rw[B.l] at r;simp only[O.slice.injEq] at r;have al:=r.1;clear r;subst al;obtain⟨H,s,hq⟩:=(aa.view m u ae).v.qy;dsimp only at hq;rw[hq] at q1;rw[t] at q0 q1;have aU:(m:Int)<(W.F.j:Int):=η;have aj:=Tg (aQ.l.mod C.l (nu θ θ _));have a1:wr.p ⟨gw,o+6,Y⟩=Z (.k (Z ⟨gv,0,Y⟩) W.F.j z):=by rw[←B.l];exact(aC.l.at aj.l).c6
  have aP:=aj.l.lt;have j:=aT.l m K a9;have bd:¬(W.F[m].lit.o:Int)<0:=η;by_cases I:W.F[m].lit.o<R.qw.j
  .rw[zb I] at j;have aO:=Tg (HH.l.work C.l);have D:=aO.l;have aE:W.F[m].lit.o<Q.fvs.j:=by rw[D.flen];exact I
   obtain⟨gf,aH,x,_,a7,a4⟩:=yr D.qw η;rw[aD.l] at x;simp only[O.slice.injEq] at x;have al:=x.1;clear x;subst al;have y:=a4 W.F[m].lit.o _ (yn aE);have V:=(D.jo _ I aE).1;obtain⟨au,G,ag⟩:=zr V.1;have ak:R.qw[W.F[m].lit.o].j<=1048577:=aJ.l _ (zq _);rw[show R.qw.g W.F[m].lit.o []=R.qw[W.F[m].lit.o] by simp[List.getD,I]] at j;have a6:X (∀W0,μ wr W0->Th W0 wr.o.q #[ι (W.F[m].lit.o:Nat),.k H W.F[m].lit.v.j s,ι wd,.u (Z ⟨a[m].bb,0,Y⟩),.u (Z ⟨a[m].fb,0,Y⟩),.u (Z ⟨a[m].ab,0,Y⟩)] 301->Calls prog 206 #[.u (Z ⟨gv,m*6,Y⟩),.k au R.qw[W.F[m].lit.o].j G] W0 λe w'=>e=ε (.B #[])/\w'.p ⟨gw,o+6,Y⟩=Z (.k (Z ⟨gv,0,Y⟩) W.F.j z)/\w'.p ⟨wr.o.q,0,Y⟩=Z (ι (W.F[m].lit.o:Nat))/\w'.p ⟨gf,W.F[m].lit.o,Y⟩=Z (.k au R.qw[W.F[m].lit.o].j G)/\X (∃own' S,uy lo w' own' k wd ⟨W.p,vq f W.F (m+1)⟩ ⟨P.tv,P.pv,P.nv,P.vv,P.ntv,S,P.nbs⟩/\Tp lo (ld k) w own w' own')):=λW0 v L=>by
    have a2:Tp lo (λ_ _=>False) wr d W0 (ext d wr.o.q (0,0,5)):=Tp.extNew d (0,0,5) v;have ac:=ab.l.mod a2 (λ_=>id) (λ_=>id) id (λ_=>id) (λ_ _ _ _=>id);have a3:=aj.l.u v;have af:=ac.F;dsimp only at af;rw[B.l] at af;obtain⟨cg,an⟩:=jO af rfl;have ap:=ac.vrole gv (by dsimp only;rw[B.l];rfl);obtain⟨n,_⟩:=an.H;obtain⟨cf,ah⟩:=jO (zy D.qw v) (b:=gf) (by rw[aD.l];rfl);have aS:VC cg (m*6) wd W.F[m].lit.o a[m].tv a[m].bb a[m].fb a[m].ab:=⟨(n _).z.A ((v.cell A).A q0),(n _).z.A ((v.cell A).A (by rw[q1,hq,t])),(n _).z.A ((v.cell A).A q2),(n _).z.A ((v.cell A).A q3),(n _).z.A ((v.cell A).A q4),(n _).z.A ((v.cell A).A q5)⟩;have ax:=ac.view m u ae;dsimp only at ax;rw[t] at ax;have q:=F8 W0 _ k m gv (m*6) wd ai cg W.F[m] f[m] a[m] _ _ an aS ax (V.below' v) (yU af rfl) (zY aA v.q) D.small.1 ak j;rw[ag] at q;refine q.y ?_;rintro e w' ⟨rfl,ba,own',aN,aL,F⟩;rw[ap] at F;have aw:=ac.renewed (W:=⟨W.p,vq f W.F m⟩) u ae (cap:=z) (by dsimp only;rw[B.l,en E.l m hm]) an (by dsimp only;rw[t];exact DY j) aN aL F;dsimp only at aw;rw[ad] at aw;have c1:=a3.mod F (gZ θ θ _);have c2:=L.mod F (λq=>by rcases q with⟨q,_⟩|⟨_,q⟩;exact q θ;simp[ext] at q);have c3:=ah.mod F (gZ θ θ _);refine⟨rfl,?_,?_,?_,own',_,aw,(C.l.A (a2.more λ_ _ q=>q.elim)).A (F.more λ_ _ q=>LF q)⟩;rw[←B.l];exact(aC.l.at c1).c6;rw[c2.H.1];rfl;rw[c3.H.1,←ah.H.1,v.cell a7,y,ag]
   rw[ag] at y;have aW:=ak;clear ag V a4 D j hq aa ak t ad u;generalize R.qw[W.F[m].lit.o].j=rl at *;have aK:(W.F[m].lit.o:Int)<(R.qw.j:Int):=η;generalize W.F[m].lit.o=vp at *;generalize W.F[m].lit.v.j=vt at *;generalize a[m].bb=T at *;generalize a[m].fb=J at *;generalize a[m].ab=N at *;go_upto_region 4 with fail
   have g:μ wr (wr.C (.E #[ι vp,.k H vt s,ι wd,(π T),(π J),(π N)] 301)):=γ;have L:=Th.new wr #[ι vp,.k H vt s,ι wd,(π T),(π J),(π N)] 301;generalize aR:wr.C (.E #[ι vp,.k H vt s,ι wd,(π T),(π J),(π N)] 301)=W1 at *;clear aR;have x1:=zi g aP a1;have x2:=zi g a7 y;have x3:W1.p ⟨wr.o.q,0,Y⟩=Z (ι vp):=by rw[L.H.1];rfl
   clear ay a1 y q0 q1 q2 q3 q4 q5;go_region_held3 (λw'=>w'.p ⟨gw,o+6,Y⟩=Z (.k (Z ⟨gv,0,Y⟩) W.F.j z)/\w'.p ⟨wr.o.q,0,Y⟩=Z (ι vp)/\w'.p ⟨gf,vp,Y⟩=Z (.k au rl G)) (first|go_keep|(go_simp;done)) (first|(go_at_call 206;refine(a6.l _ (by exact(zI g 1)) (Th.drew L)).y ?_;rintro e w2 ⟨rfl,y1,y2,y3,HX⟩))
   clear x1 x2 x3 y1 y2 y3 L g a6;go_wp2;obtain⟨own',S,z1,z2⟩:=HX.l;exact⟨⟨m+1,η,ξ,own',S,z1,z2⟩,by simp[intOf];omega⟩
  rw[za I] at j;have p:vq f W.F (m+1)=vq f W.F m:=by rw[←ad,j,←t,ic]
  have M:X (∀W0,μ wr W0->uy lo W0 d k wd ⟨W.p,vq f W.F (m+1)⟩ ⟨P.tv,P.pv,P.nv,P.vv,P.ntv,a,P.nbs⟩/\Tp lo (ld k) w own W0 d):=λW0 v=>by
   rw[p];exact⟨ab.l.mod (Tp.of (ok:=λ_ _=>False) d v) (λ_=>id) (λ_=>id) id (λ_=>id) (λ_ _ _ _=>id),C.l.A (Tp.of d v)⟩
  have aK:¬(W.F[m].lit.o:Int)<(R.qw.j:Int):=η;clear j hq aa t ad u p;generalize W.F[m].lit.o=vp at *;generalize W.F[m].lit.v.j=vt at *;generalize a[m].bb=T at *;generalize a[m].fb=J at *;generalize a[m].ab=N at *;have g:μ wr (wr.C (.E #[ι vp,.k H vt s,ι wd,(π T),(π J),(π N)] 301)):=γ;go_wp2;obtain⟨z1,z2⟩:=M.l _ g;exact⟨⟨m+1,η,ξ,d,a,z1,z2⟩,by simp[intOf];omega⟩
 obtain rfl:m=W.F.j:=η;have p:vq f W.F W.F.j=f:=by simp[vq,←E.l]
 have M:X (uy lo wr d k wd ⟨W.p,f⟩ ⟨P.tv,P.pv,P.nv,P.vv,P.ntv,a,P.nbs⟩):=by rw[←p];exact ab.l
 clear ab p;go_wp2
 (try simp only[Exit.inBlock,Exit.then])
 exact zO (results_none rfl _ _ _) rfl ⟨rfl,d,a,M.l,C.l⟩
end
section
open Go.RowKit
variable {lo:Nat}{w w':U}{own':Nat->zo}{wd:Nat}{wv:O}{Ws:List yd}{Ps:List xo}
def gP(Ws:List yd)(Ps:List xo):List Value:=(List.zipWith (λW P=>j9 W.p P) Ws Ps).flatten
structure uJ (lo:Nat) (w:U) (own:Nat->zo) (wd:Nat) (wv:O) (Ws:List yd) (Ps:List xo):Prop where
 arr:w.r lo 292 8 wv Ws.j (gP Ws Ps)
 plen:Ps.j=Ws.j
 work:∀k (_:k<Ws.j) (_:k<Ps.j),uy lo w own k wd Ws[k] Ps[k]
 K:Ws.j<=1000
def D3:∀(Ws:List yd) (Ps:List xo) (k:Nat) (b:k<Ws.j) (a:k<Ps.j) (j:Nat),j<8->(gP Ws Ps)[k*8+j]?=(j9 Ws[k].p Ps[k])[j]?
 |[],_,k,b,_,_,_=>by simp at b
 |v::vs,[],k,_,a,_,_=>by simp at a
 |v::vs,p::c,0,_,_,j,d=>by
  simp only[gP,ny,nM,dZ];rw[rV (by simp[j9];omega)];simp
 |v::vs,p::c,k+1,b,a,j,d=>by
  have:=D3 vs c k (by simpa using b) (by simpa using a) j d;simp only[gP,ny,nM,pC] at this ⊢;rw[ff (by simp[j9];omega),←this];congr 1;simp[j9];omega
def EG:∀(Ws:List yd) (Ps:List xo) (k:Nat) (c:k<Ws.j) (b:k<Ps.j) (W':yd) (a:xo),j9 W'.p a=j9 Ws[k].p Ps[k]->gP (Ws.set k W') (Ps.set k a)=gP Ws Ps
 |[],_,k,c,_,_,_,_=>by simp at c
 |v::vs,[],k,_,b,_,_,_=>by simp at b
 |v::vs,p::d,0,_,_,W',a,h=>by
  simp only[dZ] at h;simp[gP,h]
 |v::vs,p::d,k+1,c,b,W',a,h=>by
  have:=EG vs d k (by simpa using c) (by simpa using b) W' a (by simpa using h);simp only[gP,rt,ny,nM] at this ⊢;rw[this]
def uJ.at{w:U}{own:Nat->zo}{wd:Nat}{wv:O}{Ws:List yd}{Ps:List xo}(h:uJ lo w own wd wv Ws Ps)(k:Nat)(p:k<Ws.j)(n:k<Ps.j):∃d a c,wv=.k (Z (δ d)) Ws.j a/\lo<=d/\Th w d c 292/\Vm c (k*8) Ws[k].p Ps[k]:=by
 obtain⟨d,a,f,i,r,l⟩:=yr h.arr η;obtain⟨c,g⟩:=jO h.arr (b:=d) (by rw[f];rfl);have e:∀j,j<8->c[k*8+j]?=(j9 Ws[k].p Ps[k])[j]?:=λj m=>by
  have q:=D3 Ws Ps k p n j m;obtain⟨u,o⟩:∃u,(j9 Ws[k].p Ps[k])[j]?=Z u:=⟨_,yn (show j<(j9 Ws[k].p Ps[k]).j by simp[j9];omega)⟩;rw[o] at q ⊢;rw[←g.H.1];exact l _ _ q
 exact⟨d,a,c,f,i,g,e 0 η,e 1 η,e 2 η,e 3 η,e 4 η,e 5 η,e 6 η,e 7 η⟩
def uJ.all{w w':U}{own own':Nat->zo}{wd p:Nat}{wv:O}{Ws:List yd}{Ps:List xo}(h:uJ lo w own wd wv Ws Ps)(m:Tp lo (kQ p) w own w' own'):uJ lo w' own' wd wv Ws Ps:=
 ⟨vT h.arr m (nJ θ θ),h.plen,λk a b=>(h.work k a b).all m,h.K⟩
def uJ.types{own:Nat->zo}{l:List TypeId}(h:uJ lo w own wd wv Ws Ps)(m:Tp lo (gU l) w own w' own')(e:∀t∈l,Uh t/\t∉[292,284,204,301,162]):uJ lo w' own' wd wv Ws Ps:=by
 have c:∀t,t∈[292,284,204,301,162]->∀ρ,¬gU l t ρ:=λt d ρ q=>(e t q).2 d;exact⟨vT h.arr m (c _ θ),h.plen,λk a b=>(h.work k a b).mod m (c _ θ) (c _ θ) (c _ θ _) (c _ θ) (λ_ _ _ d q=>d (e _ q).1),h.K⟩
def uJ.u{own:Nat->zo}(h:uJ lo w own wd wv Ws Ps)(a:μ w w'):uJ lo w' own wd wv Ws Ps:=h.types (l:=[]) (Tp.of own a) ζ
def uJ.renewed{own:Nat->zo}{k:Nat}{d:List yH}{c:List jN}(h:uJ lo w own wd wv Ws Ps)(i:k<Ws.j)(g:k<Ps.j)(f:uy lo w' own' k wd ⟨Ws[k].p,d⟩ ⟨Ps[k].tv,Ps[k].pv,Ps[k].nv,Ps[k].vv,Ps[k].ntv,c,Ps[k].nbs⟩)(m:Tp lo (ld k) w own w' own'):uJ lo w' own' wd wv (Ws.set k ⟨Ws[k].p,d⟩) (Ps.set k ⟨Ps[k].tv,Ps[k].pv,Ps[k].nv,Ps[k].vv,Ps[k].ntv,c,Ps[k].nbs⟩):=by
 refine⟨?_,by simp[h.plen],λj a b=>?_,by simpa using h.K⟩;rw[EG _ _ _ i g _ _ (by simp[j9]),fo];exact vT h.arr m (nu θ θ);simp only[fo] at a b;simp only[lV];by_cases e:k=j;subst e;rw[zb rfl,zb rfl];exact f;rw[za e,za e];exact(h.work j a b).mod m (nu θ θ) (nu θ θ) (rT η) (nu θ θ) (λ_ _ _ _=>rT η)
def DD{f wd:Nat}{g:List (List zk)}:∀{b a:List yd},fe f wd g b=Z a->a.j=b.j/\∀i (d:i<b.j) (c:i<a.j),∃vs,f6 f wd g b[i].F=Z vs/\a[i]=⟨b[i].p,vs⟩
 |[],a,h=>by
  simp[fe] at h;subst h;exact⟨rfl,λi h=>by simp at h⟩
 |W::b,a,h=>by
  unfold fe at h;split at h
  .rename_i v m k e;simp at h;subst h;obtain⟨j,l⟩:=DD e;refine⟨by simp[j],λi d c=>?_⟩;match i,d,c with
   |0,_,_=>exact⟨v,by simpa using k,rfl⟩
   |i+1,d,c=>
    simp only[pC];exact l i (by simpa using d) (by simpa using c)
  .cases h
def kA(R:zv):Prop:=∀l∈R.qw,l.j<=1048577
def kA.clear(R:zv):kA (qS R):=λl a=>by simp[qS] at a;simp[a.2]
def kA.add{mr:Nat}{R R':zv}{p:Nat}{row:zk}{b:Bool}(h:kA R)(c:jV mr R p row=Z (R',b)):kA R':=by
 obtain⟨_,_,_,_,e,d⟩:=Br c;rcases d with⟨_,rfl,_⟩|⟨_,rfl,_⟩
 exact h;intro l a;rcases lK a with a|rfl;exact h l a;simp only[yN,xt,qW];omega
def kA.addAll{mr p:Nat}:∀(n:Nat) (R R':zv) (J:zE) (b:Bool),kA R->vX mr p n R J=Z (R',b)->kA R'
 |0,R,R',J,b,_,h=>by simp[vX] at h
 |n+1,R,R',J,b,c,h=>by
  unfold vX at h;cases f:lf n J with
  |none=>rw[f] at h;cases h
  |some j=>
   obtain⟨d,g⟩:=j;rw[f] at h;cases g with
   |false=>
    simp only[zt,ye] at h;rw[←h.1];exact c
   |true=>
    dsimp only at h;cases a:jV mr R p (zH d.g d.P) with
    |none=>rw[a] at h;cases h
    |some e=>
     obtain⟨i,k⟩:=e;rw[a] at h;cases k with
     |false=>
      simp only[zt,ye] at h;rw[←h.1];exact c.add a
     |true=>exact kA.addAll n i R' d b (c.add a) h
def oi{f wd mr:Nat}{W:yd}:∀(n i:Nat) (R R':zv) (b:Bool),jR f wd mr W n i R=Z (R',b)->(kA R->kA R')/\R'.I.j=R.I.j
 |0,i,R,R',b,h=>by simp[jR] at h;rw[←h.1];exact⟨id,rfl⟩
 |n+1,i,R,R',b,h=>by
  unfold jR at h;split at h
  .split at h
   .cases h
   .rename_i d a;simp only[zt,ye] at h;rw[←h.1];exact⟨λc=>c.addAll _ _ _ _ _ a,wg _ _ _ _ _ a⟩
   .rename_i d a;obtain⟨e,g⟩:=oi n (i+1) d R' b h;exact⟨λc=>e (c.addAll _ _ _ _ _ a),g.A (wg _ _ _ _ _ a)⟩
  .exact oi n (i+1) R R' b h
def Dt{f mr:Nat}{first:Bool}{R R':zv}{W:yd}{b:Bool}(h:gh f wd mr first R W=Z (R',b)):(kA R->kA R')/\R'.I.j=R.I.j:=by
 unfold gh at h;split at h;exact⟨λa=>a.addAll _ _ _ _ _ h,wg _ _ _ _ _ h⟩;exact oi _ _ _ _ _ h
def vo:TypeId->zo->Prop:=λt ρ=>(¬Uh t/\ρ≠(0,0,7))∨t∈[214,161,165,310,323,301]
def AW{p:Nat}{t:TypeId}{ρ:zo}(h:kQ p t ρ):vo t ρ:=by
 rcases h with (h|h|h|h)|h
 exact zh ⟨h.1,by rw[h.2];simp⟩;subst h;exact ze θ;subst h;exact ze θ;rw[h.1];exact ze θ;rcases zG.1 h with rfl|h;exact ze θ;rcases zG.1 h with rfl|h;exact ze θ;cases h
def Gp{k:Nat}{t:TypeId}{ρ:zo}(h:ld k t ρ):vo t ρ:=by
 rcases h with⟨a,i,j,rfl⟩|⟨rfl,_⟩
 exact zh ⟨a,ζ⟩;exact ze θ
def Fy{t:TypeId}{ρ:zo}(h:gU [214] t ρ):vo t ρ:=ze (by rw[xQ.1 h];decide)
end
section
open Go.Proofs.Tryz Go.RowKit
variable {lo:Nat}
def kZ(a:List Nat)(n:Nat)(c:List yd)(b:List xo):Prop:=∀k (_:k<c.j) (_:k<b.j),fq a n c[k].p b[k].nbs
def kZ.set{c:Φ}{n k:Nat}{d:List yd}{f:List xo}(h:kZ c n d f)(o:k<d.j)(m:k<f.j)(g:List yH)(i:xo)(l:i.nbs=f[k].nbs):kZ c n (d.set k ⟨d[k].p,g⟩) (f.set k i):=by
 intro j a b;simp only[fo] at a b;simp only[lV];by_cases e:k=j;subst e;rw[zb rfl,zb rfl,l];exact h k a b;rw[za e,za e];exact h j a b
def L1(lo:Nat)(w:U)(own:Nat->zo)(h:Nat)(i:O)(R R':zv)(f:List yd)(wd mr mx:Nat)(Q:uz)(b:Bool)(e:Ending)(w':U):Prop:=
 e=ε (.i b)/\∃a g c d,zZ lo w' a h R' wd mr mx ⟨Q.rv,Q.tbs,g,c⟩/\uJ lo w' a wd i f d/\kZ Q.tbs R.I.j f d/\R'.I.j=R.I.j/\Tp lo vo w own w' a
def Jw(w:U)(own:Nat->zo)(A:Nat)(wv:O)(R R':zv)(a d:List yd)(Ps:List xo)(wd mr mx:Nat)(Q:uz)(g:Nat)(first b:Bool)(h:zZ lo w own A R wd mr mx Q)(hw:uJ lo w own wd wv a Ps)(a3:kZ Q.tbs R.I.j a Ps)(af:lo<=w.o.q)(aO:R.Q<1048576)(V:pT g wd mr first a R=Z (R',d,b)):
  Calls prog 165 #[(π A),wv,.i first] w λe P=>L1 lo w own A wv R R' d wd mr mx Q b e P:=by
 obtain⟨G,b1,hA,L⟩:∃G b1,gq g wd mr first a (qS {R with Q:=R.Q+1})=Z (G,b1)/\(b1=false/\G=R'/\a=d/\false=b∨b1=true/\G=R'/\fe g wd G.qw a=Z d/\true=b):=by
  unfold pT at V;split at V;cases V;rename_i G hA;simp only[zt,ye] at V;exact⟨G,false,hA,zh ⟨rfl,V⟩⟩;rename_i G hA;rw[qn] at V;obtain⟨aP,h1,h2⟩:=V;simp only[ye] at h2;obtain⟨h3,h4,h5⟩:=h2;subst h4;exact⟨G,true,hA,ze ⟨rfl,h3,h1,h5⟩⟩
 obtain⟨hl,hf,h0,h1,h2,h3,h4,h5,h6,h7⟩:=h.at;have a8:zd [A] w (w.x ⟨A,2,Y⟩ (ι ((R.Q:Int)+1))):=zd.set _ _ _ _;have a5:Tp lo (gU [214]) w own (w.x ⟨A,2,Y⟩ (ι ((R.Q:Int)+1))) own:=Tp.set own h.box h.low (xQ.2 rfl) _ _;have x:=h.box.set 2 (ι ((R.Q:Int)+1));have a1:=h.rebox (R':={R with Q:=R.Q+1}) a8 (by simpa using x) rfl rfl ⟨h.K.2.2.1,by show R.Q+1<=1048576;omega⟩;have a6:=Tg (Uu _ own A _ wd mr mx Q a1 (by simpa [U.setCell] using af));have aq:=Tg a5;have am:=Tg hw;have aa:=Tg a3;have av:=Tg af;have HE:=Tg L;have HA:X (gq g wd mr first (a.drop 0) (qS {R with Q:=R.Q+1})=Z (G,b1)):=hA;have aN:=hw.K;obtain⟨ab,D,aJ⟩:=zr hw.arr;subst aJ;clear V h hw a3 af L hA a1 a5 a8 x h0 h1 h3 h4 h5 h6 h7;go_enter func165,ntmps165;go_upto_region 4 with (first|(go_at_call 120;refine a6.l.y ?_;rintro e w2 ⟨rfl,fv,aF,a7,hm⟩))
 have ah:=aq.l.A hm;have an:=Tg (am.l.types ah θ);have aA:=Tg a7;have au:X (Tp lo vo w own w2 own):=ah.more λ_ _ q=>Fy q;clear ah hm a7 a6 aq;go_loopw [22] (λaI wr=>∃m:Nat,m<=a.j/\aI=ι m/\∃v n I,X (zZ lo wr n A v wd mr mx ⟨Q.rv,Q.tbs,fv,I⟩)/\X (uJ lo wr n wd (.k ab a.j D) a Ps)/\X (Tp lo vo w own wr n)/\X (v.I.j=R.I.j)/\X (kA v)/\X (gq g wd mr first (a.drop m) v=Z (G,b1))) (λi _=>a.j-(intOf i).D);exact⟨0,zs _,rfl,_,own,aF,aA,an,au,rfl,kA.clear _,HA⟩;clear HA aA an au;obtain⟨m,hm,rfl,v,n,I,u,l,s,ae,ay,ad⟩:=hrel;have T:=s.l.q;have y:=zY av.l T;by_cases k:m<a.j
 .have t:m<Ps.j:=by rw[am.l.plen];exact k
  obtain⟨gw,aC,c,S,_,x,H⟩:=l.l.at m k t;simp only[O.slice.injEq] at S;have ac:=S.1;clear S;subst ac;have z:=ad.l;rw[xn k] at z;unfold gq at z;rcases ha:gh g wd mr first v a[m] with _|ar;rw[ha] at z;cases z;obtain⟨R3,b3⟩:=ar;rw[ha] at z;have ai:X (kA R3/\R3.I.j=R.I.j):=⟨(Dt ha).1 ay.l,(Dt ha).2.A ae.l⟩;have a0:=Tg (N3 wr n A gw (m*8) m c v R3 a[m] Ps[m] wd mr mx _ g first b3 u.l (l.l.work m k t) x H (by rw[ae.l];exact aa.l m k t) y ha);have ao:(m:Int)<(a.j:Int):=η;generalize a[m].p.g.o=p at *;clear ha x H;cases b3
  .simp only[zt,ye] at z;have HQ:=Tg z;clear z;go_wp2_with (go_at_call 193;refine a0.l.y ?_;rintro e w4 ⟨rfl,f,K,o,J⟩)
   go_ret;have L:=HE.l;rw[←HQ.l.2,←HQ.l.1] at L;rcases L with⟨_,rfl,rfl,rfl⟩|⟨hx,_⟩
   exact⟨rfl,f,fv,K,Ps,o,l.l.all J,aa.l,ai.l.2,s.l.A (J.more λ_ _ q=>AW q)⟩;cases hx
  have HQ:X (gq g wd mr first (a.drop (m+1)) R3=Z (G,b1)):=z;clear z;go_wp2_with (go_at_call 193;refine a0.l.y ?_;rintro e w4 ⟨rfl,f,K,o,J⟩)
  exact⟨⟨m+1,η,ξ,R3,f,K,o,l.l.all J,s.l.A (J.more λ_ _ q=>AW q),ai.l.2,ai.l.1,HQ⟩,by simp[intOf];omega⟩
 obtain rfl:m=a.j:=η;have z:=ad.l;rw[List.drop_length] at z;simp only[gq,zt,ye] at z;have L:=HE.l;rw[←z.2,←z.1] at L;have N:X (v=R'/\fe g wd v.qw a=Z d/\true=b):=by
  rcases L with⟨hx,_⟩|⟨_,hx⟩
  cases hx;exact hx
 clear z L ad HE;go_upto_region 10 with fail
 obtain⟨az,aw⟩:=DD N.l.2.1;have F:=Tg az;have aK:=Tg aw;clear az aw k hm;obtain⟨E,r,a4⟩:=zr u.l.qw;dsimp only at a4;subst a4;have aQ:=Tg y;clear T y;generalize aG:wr=w5 at *;clear aG;go_loopw [35] (λaL wr=>∃m:Nat,m<=a.j/\aL=ι m/\∃j C,X (zZ lo wr j A v wd mr mx ⟨Q.rv,Q.tbs,.k E v.qw.j r,I⟩)/\X (uJ lo wr j wd (.k ab a.j D) (vq d a m) C)/\X (kZ Q.tbs R.I.j (vq d a m) C)/\X (Tp lo vo w own wr j)) (λi _=>a.j-(intOf i).D);exact⟨0,zs _,rfl,n,Ps,u,l,aa,s⟩;clear u l s;obtain⟨m,hm,rfl,j,C,u,l,al,s⟩:=hrel;have y:=zY av.l s.l.q;by_cases k:m<a.j
 .have B:m<(vq d a m).j:=by rw[en F.l m hm];exact k
  have ak:m<d.j:=by rw[F.l];exact k
  have ag:=Gu F.l m k B;have ax:=Cu F.l m k ak;have t:m<C.j:=by rw[l.l.plen];exact B
  obtain⟨gw,aC,c,S,_,x,H⟩:=l.l.at m B t;rw[en F.l m hm] at S;simp only[O.slice.injEq] at S;have ac:=S.1;clear S;subst ac;obtain⟨vs,aE,a2⟩:=aK.l m k ak;have ao:(m:Int)<(a.j:Int):=η;have aD:=u.l.at;obtain⟨hl,hf,h0,h1,aM,h3,h4,h5,h6,h7⟩:=aD;have aB:X (∀W0,μ wr W0->Calls prog 194 #[.u (Z ⟨gw,m*8,Y⟩),.k E v.qw.j r] W0 λe P=>e=ε (.B #[])/\P.p ⟨A,7,Y⟩=Z (.k E v.qw.j r)/\X (∃f M,zZ lo P f A v wd mr mx ⟨Q.rv,Q.tbs,.k E v.qw.j r,I⟩/\uJ lo P f wd (.k (Z ⟨gw,0,Y⟩) a.j D) (vq d a (m+1)) M/\kZ Q.tbs R.I.j (vq d a (m+1)) M/\Tp lo vo w own P f)):=λW0 hb=>by
   have ap:=l.l.u hb;have q:=Mz W0 j A gw (m*8) m c v (vq d a m)[m] vs C[m] wd mr mx _ g (u.l.u hb) (ap.work m B t) (x.u hb) H (zY y hb.q) ay.l (by rw[ag];exact aE);refine q.y ?_;rintro e P ⟨rfl,f,a9,aH,aj⟩;have o:=(u.l.u hb).work aj;have r1:=ap.renewed B t aH aj;have r2:=al.l.set B t vs ⟨C[m].tv,C[m].pv,C[m].nv,C[m].vv,C[m].ntv,a9,C[m].nbs⟩ rfl;have e2:(⟨(vq d a m)[m].p,vs⟩:yd)=d[m]:=by rw[ag,a2]
   rw[e2,ax] at r1 r2;exact⟨rfl,o.at.2.2.2.2.2.2.2.2.2,f,_,o,r1,r2,(s.l.A (Tp.of j hb)).A (aj.more λ_ _ q=>Gp q)⟩
  clear x H aE a2 ag ax B ak t h0 h1 aM h3 h4 h5 h6;have x7:wr.p ⟨A,7,Y⟩=Z (.k E v.qw.j r):=h7;clear h7;go_upto_region 12 with fail
  go_region_held3 (λP=>P.p ⟨A,7,Y⟩=Z (.k E v.qw.j r)) (first|go_keep|(go_simp;done)) (first|(go_at_call 194;refine(aB.l _ (by exact(zI (zn _ _) 1))).y ?_;rintro e w2 ⟨rfl,y1,HX⟩))
  clear x7 y1 aB;go_wp2;obtain⟨f,M,z1,z2,z3,z4⟩:=HX.l;exact⟨⟨m+1,η,ξ,f,M,z1,z2,z3,z4⟩,by simp[intOf];omega⟩
 obtain rfl:m=a.j:=η;have W:vq d a a.j=d:=by simp[vq,←F.l]
 have HF:X (uJ lo wr j wd (.k ab a.j D) d C/\kZ Q.tbs R.I.j d C):=by rw[←W];exact⟨l.l,al.l⟩
 clear W l al;go_wp2;go_ret;exact⟨by rw[←N.l.2.2];rfl,j,_,I,C,by rw[←N.l.1];exact u.l,HF.l.1,HF.l.2,by rw[←N.l.1];exact ae.l,s.l⟩
end
section
open Go.RowKit
variable {lo:Nat}{k wd t5 t3:Nat}{w w' w0:U}{own' own0:Nat->zo}{r:zu}{P:xo}{vs:List yH}
def lC(k:Nat):TypeId->zo->Prop:=λt ρ=>ld k t ρ∨(t=301/\ρ=(0,0,5))
def KK{i:Nat}{t:TypeId}{ρ:zo}(h:lZ k i (0,0,5) t ρ):lC k t ρ:=by
 rcases h with⟨b,j,a⟩|h
 exact zh (zh ⟨b,i,j,a⟩);exact ze h
def pP{t:TypeId}(h:Uh t)(a:t≠301):∀ρ,¬lC k t ρ:=λρ q=>by
 rcases q with q|q
 .exact nu h a ρ q
 .exact a q.1
def oa{t:TypeId}{a b c:Nat}(h:a≠k+1)(d:c≠5):¬lC k t (a,b,c):=λq=>by
 rcases q with q|⟨_,q⟩
 .exact rT h q
 .simp at q;omega
def OZ{t:TypeId}{ρ:zo}(h:lC k t ρ):vo t ρ:=by
 rcases h with h|⟨rfl,_⟩;exact Gp h;exact ze θ
def zZ.make{own:Nat->zo}{a:Nat}{R:zv}{mr mx:Nat}{Q:uz}(h:zZ lo w own a R wd mr mx Q)(m:Tp lo (lC k) w own w' own'):zZ lo w' own' a R wd mr mx Q:=
 h.mod m (pP θ θ) (pP θ θ) (pP θ θ) (λ_=>oa η η) (λ_ _ _=>oa η η)
def Tp.newer{ok:TypeId->zo->Prop}{w wr w':U}{own a:Nat->zo}{M:Φ}(h:Tp lo ok w own wr a)(hs:zd M wr w')(c:∀b∈M,w.o.q<=b):Tp lo ok w own w' a:=by
 obtain⟨e,N,d,g⟩:=h;exact⟨e,N,d.newer hs λx f=>ze (c x f),g⟩
def Tp.qw{ok:TypeId->zo->Prop}{own:Nat->zo}(a:μ w w')(c:∀b,b<w.o.q->own' b=own b):Tp lo ok w own w' own':=⟨c,[],zd.of a,ζ⟩
structure jz (lo:Nat) (w0 w:U) (own0 own:Nat->zo) (k wd t5 t3:Nat) (r:zu) (P:xo) (vs:List yH):Prop where
 low:w0.o.q<=t5
 low0:lo<=w0.o.q
 box:Th w t5 (j9 r P).F 292
 rbox:Th w t3 #[ι r.L,ι r.m,ι r.g.o,P.tv,P.pv,P.nv] 207
 p:vG lo w P.tv P.pv P.nv r
 F:w.r lo 301 6 P.vv vs.j (qE wd vs P.vps)
 vlen:P.vps.j=vs.j
 view:∀i (_:i<vs.j) (_:i<P.vps.j),vK lo w own k i vs[i] P.vps[i]
 vrole:∀b,P.vv.m=Z b->own b=(k+1,0,9)
 qx:w.r lo 162 1 P.ntv P.nbs.j (T1 P.nbs)
 mod:Tp lo (lC k) w0 own0 w own
def jz.step{own:Nat->zo}(h:jz lo w0 w own0 own k wd t5 t3 r P vs)(m:Tp lo (lZ k vs.j (0,0,5)) w own w' own'):jz lo w0 w' own0 own' k wd t5 t3 r P vs:=by
 refine⟨h.low,h.low0,h.box.mod m (gZ θ θ _),h.rbox.mod m (gZ θ θ _),h.p.mod m (gZ θ θ) (gZ θ θ),sP h.F m (λb c q=>?_),h.vlen,λi a b=>(h.view i a b).mod m (λj t e q=>?_) (gZ θ θ),λb c=>(m.old b (yG h.F c)).A (h.vrole b c),vT h.qx m (gZ θ θ),h.mod.A (m.more λ_ _ q=>KK q)⟩;rw[h.vrole b c] at q;rcases q with q|q;exact q.1 θ;simp at q;rcases q with⟨_,f,q⟩|⟨d,_⟩
 simp at q;omega;subst d;exact e θ
def jz.u{own:Nat->zo}(h:jz lo w0 w own0 own k wd t5 t3 r P vs)(a:μ w w'):jz lo w0 w' own0 own k wd t5 t3 r P vs:=h.step (Tp.of own a)
def Iw(wd:Nat):∀(vs:List yH) (ps:List jN),ps.j=vs.j->∀(V:yH) (p:jN),qE wd (vs++[V]) (ps++[p])=qE wd vs ps++dR wd V p:=λvs ps h V p=>by
 simp[qE,List.zipWith_append (h.z)]
def jz.pushV{own:Nat->zo}{V:yH}{p:jN}{v':O}(h:jz lo w0 w own0 own k wd t5 t3 r P vs)(B:vK lo w own k vs.j V p)(F:w'.r lo 301 6 v' (vs.j+1) (qE wd vs P.vps++dR wd V p))(hs:zd P.vv.m.toList w w')(z:v'.m=P.vv.m∨∃g,v'.m=Z g/\w.o.q<=g):
  jz lo w0 (w'.x (ω t5 6) v') own0 (ext own w.o.q (k+1,0,9)) k wd t5 t3 r ⟨P.tv,P.pv,P.nv,v',P.ntv,P.vps++[p],P.nbs⟩ (vs++[V]):=by
 have e:Tp lo (λt ρ=>t=301/\ρ=(k+1,0,9)) w own w' (ext own w.o.q (k+1,0,9)):=⟨λb f=>fM _ _ _ b f,_,hs,λb f=>by
  have l:P.vv.m=Z b:=by simpa using f
  obtain⟨c,E⟩:=jO h.F l;exact⟨yU h.F l,yG h.F l,c,_,E,rfl,h.vrole b l⟩⟩
 have o:∀t,t≠301->∀ρ,¬(t=301/\ρ=(k+1,0,9)):=λt x ρ q=>x q.1;have m:=h.box.mod e (o _ θ _);have n:=h.rbox.mod e (o _ θ _);have d:zd [t5] w' (w'.x (ω t5 6) v'):=zd.set _ _ _ _;have u:=T2.box m;have v:=λi V p (q:vK lo w own k i V p)=>(q.mod e (λj t x q=>by obtain⟨rfl,_⟩:=q;exact x θ) (o _ θ)).saveT d u θ θ;refine⟨h.low,h.low0,?_,n.saveT d u θ,(h.p.mod e (o _ θ) (o _ θ)).saveT d u θ θ,?_,by simp[h.vlen],λi a b=>?_,λb f=>?_,yJ (vT h.qx e (o _ θ)) d u θ,(h.mod.A (e.more λ_ _ q=>zh (ze q))).newer d λb f=>by simp at f;rw[f];exact h.low⟩;have q:=m.set 6 v';simpa [j9] using q;rw[Iw wd vs P.vps h.vlen,yN];exact yJ F d u θ;simp only[yN,xt,qW] at a b;by_cases y:i<vs.j;have s:i<P.vps.j:=by rw[h.vlen];exact y
 rw[uH y,uH s];exact v i _ _ (h.view i y s);obtain rfl:i=vs.j:=η;have A:(vs++[V])[vs.j]=V:=ζ;have G:(P.vps++[p])[vs.j]=p:=by simp[←h.vlen]
 rw[A,G];exact v _ _ _ B;rcases z with z|⟨g,C,D⟩;rw[z] at f;rw[fM _ _ _ b (yG h.F f)];exact h.vrole b f;rw[C] at f;simp at f;subst f;simp[ext,Nat.not_lt.2 D]
def jz.pushN{own:Nat->zo}{tb:Nat}{v':O}(h:jz lo w0 w own0 own k wd t5 t3 r P vs)(j:∀b,P.ntv.m=Z b->w0.o.q<=b)(m:w'.r lo 162 1 v' (P.nbs.j+1) (T1 P.nbs++[(π tb)]))(hs:zd P.ntv.m.toList w w'):
  jz lo w0 (w'.x (ω t5 7) v') own0 own k wd t5 t3 r ⟨P.tv,P.pv,P.nv,P.vv,v',P.vps,P.nbs++[tb]⟩ vs:=by
 have d:=T2.own h.qx;have f:=h.box.saveT hs d θ;have c:zd [t5] w' (w'.x (ω t5 7) v'):=zd.set _ _ _ _;have g:=T2.box f;refine⟨h.low,h.low0,?_,(h.rbox.saveT hs d θ).saveT c g θ,(h.p.saveT hs d θ θ).saveT c g θ θ,yJ (yJ h.F hs d θ) c g θ,h.vlen,λi a b=>((h.view i a b).saveT hs d θ θ).saveT c g θ θ,h.vrole,?_,(h.mod.newer hs λb l=>j b (by simpa using l)).newer c λb l=>by simp at l;rw[l];exact h.low⟩;have q:=f.set 7 v';simpa [j9] using q;have e:T1 (P.nbs++[tb])=T1 P.nbs++[(π tb)]:=by simp[T1,pt]
 rw[e,yN];exact yJ m c g θ
def CI{f wd:Nat}{R:zv}:∀{c:List zw} {vs:List yH},fA f wd R c=Z vs->vs.j=c.j/\∀i (e:i<c.j) (d:i<vs.j),∃a,rowsG f (ma wd R c[i].o)=Z a/\fz f wd (gF wd c[i]) a=Z vs[i]
 |[],vs,h=>by
  simp[fA] at h;subst h;exact⟨rfl,λi h=>by simp at h⟩
 |l::c,vs,h=>by
  unfold fA at h;split at h
  .cases h
  .rename_i a b;split at h
   .rename_i v o j g;simp at h;subst h;obtain⟨m,n⟩:=CI g;refine⟨by simp[m],λi e d=>?_⟩;match i,e,d with
    |0,_,_=>exact⟨a,b,j⟩
    |i+1,e,d=>
     simp only[pC];exact n i (by simpa using e) (by simpa using d)
   .cases h
end
section
open Go.Proofs.Tryz Go.RowKit
variable {lo:Nat}{ownk own1:Nat->zo}{wd:Nat}
def RN(lo:Nat)(w:U)(own:Nat->zo)(k wd:Nat)(r:zu)(vs:List yH)(b:List Nat)(n:Nat)(e:Ending)(w':U):Prop:=∃P a,e=ε (.agg (j9 r P).F)/\uy lo w' a k wd ⟨r,vs⟩ P/\fq b n r P.nbs/\Tp lo (lC k) w own w' a
def z8:List Value:=[ι 0,ι 0,ι 0,ν,ν,ν,ν,ν]
def Sz:(prog.info? 301).map (λi=>(i.zero,i.q,i.bytes))=Z (Z (.agg #[ι 0,ν,ι 0,.u Y,.u Y,.u Y]),6,64):=χ
def Vu(a wd:Nat)(tv:O)(d c b:Nat):Array Value:=#[ι a,tv,ι wd,(π d),(π c),(π b)]
structure Ve (lo:Nat) (wr W3:U) (ownk own2:Nat->zo) (k m wd g8:Nat) (l:zw) (tv:O) (bb fb ab:Nat):Prop where
 view:vK lo W3 own2 k m (gF wd l) ⟨tv,bb,fb,ab⟩
 role:own2 g8=(0,0,5)
 old:∀b,b<wr.o.q->own2 b=ownk b
 box:Th W3 g8 (Vu l.o wd tv bb fb ab) 301
 lbox:Th W3 wr.o.q #[ι l.o,tv] 204
 u:μ wr W3
 ge:wr.o.q<=g8
def Ve.one{wr e a:U}{k m:Nat}{l:zw}{tv:O}{f h g:Nat}(d:μ wr e)(j:Th e wr.o.q #[ι l.o,tv] 204)(c:μ e a)(n:vK lo a own1 k m (gF wd l) ⟨tv,f,h,g⟩)(o:∀b,b<e.o.q->own1 b=ext ownk wr.o.q (0,0,5) b):Ve lo wr (a.C (.E (Vu l.o wd tv f h g) 301)) ownk (ext own1 a.o.q (0,0,5)) k m wd a.o.q l tv f h g:=by
 have i:μ a (a.C (.E (Vu l.o wd tv f h g) 301)):=(zn _ _).C (zg _) _;have q:=d.q;have r:=c.q;refine⟨n.mod (Tp.extNew (ok:=λ_ _=>False) own1 (0,0,5) i) (λ_ _ _=>id) (λ_=>id),by simp[ext],λb p=>?_,Th.new _ _ _,(j.u c).u i,Tk (Tk d c) i,η⟩;rw[fM _ _ _ b η,o b η,fM _ _ _ b p]
def Ve.two{wr a j:U}{k m:Nat}{l:zw}{tv:O}{c g e:Nat}{z:Array O}(h:μ wr a)(p:Th a wr.o.q #[ι l.o,tv] 204)(i:Below (a.C (.E z 301)).o.q (a.C (.E z 301)) j)(q:Th j a.o.q #[ι 0,ν,ι 0,.u Y,.u Y,.u Y] 301)(v:vK lo j own1 k m (gF wd l) ⟨tv,c,g,e⟩)(u:∀b,b<(a.C (.E z 301)).o.q->own1 b=ext ownk wr.o.q (0,0,5) b):Ve lo wr ((((((j.x (δ a.o.q) (ι l.o)).x (ω a.o.q 1) tv).x (ω a.o.q 2) (ι wd)).x (ω a.o.q 3) ((π c))).x (ω a.o.q 4) ((π g))).x (ω a.o.q 5) ((π e))) ownk own1 k m wd a.o.q l tv c g e:=by
 have r:=h.q;have t:μ a (a.C (.E z 301)):=(zn _ _).C (zg _) _;have n:=zd.sets a.o.q [ι l.o,tv,ι wd,(π c),(π g),(π e)] 0 j;have o:=(((((q.set 0 (ι l.o)).set 1 tv).set 2 (ι wd)).set 3 ((π c))).set 4 ((π g))).set 5 ((π e));have s:=T2.box q;have d:=Tk (Tk h t) i;have f:=(p.u t).u i;have w:(a.C (.E z 301)).o.q=a.o.q+1:=ζ;refine⟨v.saveT n s θ θ,?_,λb A=>?_,by simpa [Vu] using o,f.saveT n s θ,?_,r⟩;rw[u _ η];simp[ext,Nat.not_lt.2 r];rw[u b η,fM _ _ _ b A];exact d.A (n.u (λx y=>by simp at y;omega) (by have:=d.q;omega))
def jz.done{f w w':U}{c own:Nat->zo}{k m n e:Nat}{o:Array O}{r:zu}{P:xo}{vs:List yH}(h:jz lo f w c own k wd m n r P vs)(g:Th w e o 292)(p:f.o.q<=e)(hs:zd [e] w w')(j:P.nbs.j=r.qx.j)(l:vs.j<=1000):uy lo w' own k wd ⟨r,vs⟩ P/\Tp lo (lC k) f c w' own:=by
 have d:=T2.box g;have q:=yJ h.qx hs d θ;rw[j] at q;exact⟨⟨h.p.saveT hs d θ θ,yJ h.F hs d θ,h.vlen,λi a b=>(h.view i a b).saveT hs d θ θ,h.vrole,q,j,l⟩,h.mod.newer hs λb g=>by simp at g;omega⟩
def Mm{f:Nat}{T:zl}{a:List zk}(h:rowsG f T=Z a):a.j<=1048577:=by
 unfold rowsG at h;split at h;cases h;split at h;simp at h;subst h;omega;cases h
def LV(w:U)(own:Nat->zo)(rb k:Nat)(R:zv)(r:zu)(tv pv nv:O)(vs:List yH)(wd mr mx:Nat)(Q:uz)(a1:Nat)(h:zZ lo w own rb R wd mr mx Q)(hr:vG lo w tv pv nv r)(bd:lo<=w.o.q)(bp:∀l∈r.qc,l.o<R.I.j)(bb:∀l∈r.qx,l.o<R.I.j/\l.o≠r.g.o)(hv:fA a1 wd R r.qc=Z vs):
  Calls prog 192 #[(π rb),gi r tv pv nv] w λe I=>RN lo w own k wd r vs Q.tbs R.I.j e I:=by
 obtain⟨i0,hi,b9,bT,b4⟩:=info_parts Sz;obtain⟨i1,bQ,bh,bo,b1⟩:=info_parts S7;obtain⟨aU,bi⟩:=CI hv;have aM:=Tg aU;have bZ:=Tg bi;have HH:=Tg h;have bM:=Tg hr;have aB:=Tg bd;have bB:=Tg bp;have bR:=Tg bb;obtain⟨o,f,b8⟩:=hr.g.qy;obtain⟨u,j,bY⟩:=hr.qc.qy;obtain⟨t,d,b6⟩:=hr.qx.qy;have ca:r.qc.j<=1000:=by obtain⟨_,_,_,q,_⟩:=hr.qc;exact q
 have cl:r.qx.j<=1000:=by obtain⟨_,_,_,q,_⟩:=hr.qx;exact q
 subst b8 bY b6;clear h hr bd bp bb hv aU bi;simp only[gi];go_enter func192,ntmps192;go_upto_region 3 with fail
 have N:μ w (((w.C (.E #[ι r.L,ι r.m,ι r.g.o,.k o r.g.v.j f,.k u r.qc.j j,.k t r.qx.j d] 207)).C (.E #[ι 0,ι 0,ι 0,ν,ν,ν,ν,ν] 292)).C (.E #[ι r.L,ι r.m,ι r.g.o,.k o r.g.v.j f,.k u r.qc.j j,.k t r.qx.j d,ν,ν] 292)):=γ;have ar:=((Th.new w #[ι r.L,ι r.m,ι r.g.o,.k o r.g.v.j f,.k u r.qc.j j,.k t r.qx.j d] 207).up (.E #[ι 0,ι 0,ι 0,ν,ν,ν,ν,ν] 292)).up (.E #[ι r.L,ι r.m,ι r.g.o,.k o r.g.v.j f,.k u r.qc.j j,.k t r.qx.j d,ν,ν] 292);have a3:=((Th.new (w.C (.E #[ι r.L,ι r.m,ι r.g.o,.k o r.g.v.j f,.k u r.qc.j j,.k t r.qx.j d] 207)) z8.F 292).up (.E #[ι r.L,ι r.m,ι r.g.o,.k o r.g.v.j f,.k u r.qc.j j,.k t r.qx.j d,ν,ν] 292)).at' (b':=w.o.q+1) ζ;have aR:=(Th.new ((w.C (.E #[ι r.L,ι r.m,ι r.g.o,.k o r.g.v.j f,.k u r.qc.j j,.k t r.qx.j d] 207)).C (.E z8.F 292)) #[ι r.L,ι r.m,ι r.g.o,.k o r.g.v.j f,.k u r.qc.j j,.k t r.qx.j d,ν,ν] 292).at' (b':=w.o.q+1+1) ζ;have x:jz lo w (((w.C (.E #[ι r.L,ι r.m,ι r.g.o,.k o r.g.v.j f,.k u r.qc.j j,.k t r.qx.j d] 207)).C (.E #[ι 0,ι 0,ι 0,ν,ν,ν,ν,ν] 292)).C (.E #[ι r.L,ι r.m,ι r.g.o,.k o r.g.v.j f,.k u r.qc.j j,.k t r.qx.j d,ν,ν] 292)) own own k wd (w.o.q+1+1) w.o.q r ⟨.k o r.g.v.j f,.k u r.qc.j j,.k t r.qx.j d,ν,ν,[],[]⟩ []:=⟨η,aB.l,aR,ar,bM.l.u N,xp _ _ _ _,rfl,(λi a=>by simp at a),(λb J=>by cases J),xp _ _ _ _,Tp.of own N⟩;have S:X (Th (((w.C (.E #[ι r.L,ι r.m,ι r.g.o,.k o r.g.v.j f,.k u r.qc.j j,.k t r.qx.j d] 207)).C (.E #[ι 0,ι 0,ι 0,ν,ν,ν,ν,ν] 292)).C (.E #[ι r.L,ι r.m,ι r.g.o,.k o r.g.v.j f,.k u r.qc.j j,.k t r.qx.j d,ν,ν] 292)) (w.o.q+1) z8.F 292):=a3;have a9:=Tg x;clear x ar a3 aR N;generalize bC:((w.C (.E #[ι r.L,ι r.m,ι r.g.o,.k o r.g.v.j f,.k u r.qc.j j,.k t r.qx.j d] 207)).C (.E #[ι 0,ι 0,ι 0,ν,ν,ν,ν,ν] 292)).C (.E #[ι r.L,ι r.m,ι r.g.o,.k o r.g.v.j f,.k u r.qc.j j,.k t r.qx.j d,ν,ν] 292)=w1 at *;clear bC;generalize h5:w.o.q+1+1=t5 at *;generalize h4:w.o.q+1=t4 at *;have aP:t4≠t5:=η;have ck:w.o.q<t4:=η;clear h5 h4;go_loopw [18] (λb5 wr=>∃m:Nat,m<=r.qc.j/\b5=ι m/\∃ownk vv aq,X (jz lo w wr own ownk k wd t5 w.o.q r ⟨.k o r.g.v.j f,.k u r.qc.j j,.k t r.qx.j d,vv,ν,aq,[]⟩ (vs.G m))/\X (Th wr t4 z8.F 292)) (λi _=>r.qc.j-(intOf i).D);exact⟨0,zs _,rfl,own,_,[],a9,S⟩;clear a9 S;obtain⟨m,hm,rfl,ownk,vv,aq,x,S⟩:=hrel;have al:=x.l.mod.q;have ao:=zY aB.l al;by_cases aj:m<r.qc.j
 .obtain⟨g,n,c,aL,hg,q0,q1,bc⟩:=x.l.p.qc.cell m aj;subst aL;have bu:m<vs.j:=by rw[aM.l];exact aj
  obtain⟨T,ak,au⟩:=bZ.l m aj bu;have ac:=Tg (HH.l.make x.l.mod);have aa:r.qc[m].o<R.I.j:=bB.l _ (zq _);have ax:r.qc[m].o<Q.tbs.j:=by rw[ac.l.tlen];exact aa
  have bm:X (∀F,μ wr F->Calls prog 204 #[.agg #[ι (r.qc[m].o:Nat),.k n r.qc[m].v.j c],ι wd] F λe I=>∃K fb L own1,e=ε (.agg #[ι (r.qc[m].o:Nat),.k n r.qc[m].v.j c,ι wd,(π K),(π fb),(π L)])/\X (vK lo I own1 k m (gF wd r.qc[m]) ⟨.k n r.qc[m].v.j c,K,fb,L⟩/\∀b,b<F.o.q->own1 b=ext ownk wr.o.q (0,0,5) b)/\μ F I):=λF J=>by
   refine(Me F (ext ownk wr.o.q (0,0,5)) k m r.qc[m] (.k n r.qc[m].v.j c) wd (bc.u J) (zY ao J.q) ac.l.small.1).y ?_;rintro e I ⟨⟨cn,K,fb,L⟩,own1,rfl,rfl,bH,bz,P⟩;exact⟨K,fb,L,own1,rfl,⟨bH,bz⟩,P⟩
  obtain⟨hl,hf,d0,d1,d2,d3,d4,d5,d6,d7⟩:=ac.l.at;have aT:(m:Int)<(r.qc.j:Int):=η;clear d0 d1 d2 d3 d5 d6 d7;go_upto_region 5 with fail
  have N:μ wr (wr.C (.E #[ι (r.qc[m].o:Nat),.k n r.qc[m].v.j c] 204)):=γ;have ap:=Th.new wr #[ι (r.qc[m].o:Nat),.k n r.qc[m].v.j c] 204;have bs:wr.o.q<(wr.C (.E #[ι (r.qc[m].o:Nat),.k n r.qc[m].v.j c] 204)).o.q:=ζ;generalize bX:wr.C (.E #[ι (r.qc[m].o:Nat),.k n r.qc[m].v.j c] 204)=W1 at *;clear bX;have x4:=zi N hl d4;have x0:W1.p ⟨wr.o.q,0,Y⟩=Z (ι (r.qc[m].o:Nat)):=by rw[ap.H.1];rfl
  have x1:W1.p ⟨wr.o.q,1,Y⟩=Z (.k n r.qc[m].v.j c):=by rw[ap.H.1];rfl
  have a0:X (∀F,μ W1 F->Calls prog 204 #[.agg #[ι (r.qc[m].o:Nat),.k n r.qc[m].v.j c],ι wd] F λe I=>∃K fb L own1,e=ε (.agg #[ι (r.qc[m].o:Nat),.k n r.qc[m].v.j c,ι wd,(π K),(π fb),(π L)])/\X (vK lo I own1 k m (gF wd r.qc[m]) ⟨.k n r.qc[m].v.j c,K,fb,L⟩/\∀b,b<F.o.q->own1 b=ext ownk wr.o.q (0,0,5) b)/\μ F I/\I.p ⟨rb,4,Y⟩=Z (ι wd)/\I.p ⟨wr.o.q,0,Y⟩=Z (ι (r.qc[m].o:Nat))/\I.p ⟨wr.o.q,1,Y⟩=Z (.k n r.qc[m].v.j c)):=λF J=>by
   refine(bm.l F (Tk N J)).y ?_;rintro e I ⟨K,fb,L,own1,rfl,HX,P⟩;have ar:=Tk J P;exact⟨K,fb,L,own1,rfl,HX,P,(ar.cell (by show rb<_;omega)).A x4,(ar.cell (by show wr.o.q<_;omega)).A x0,(ar.cell (by show wr.o.q<_;omega)).A x1⟩
  clear bm;clear q0 q1 d4;go_region_held3 (λI=>I.p ⟨rb,4,Y⟩=Z (ι wd)/\I.p ⟨wr.o.q,0,Y⟩=Z (ι (r.qc[m].o:Nat))/\I.p ⟨wr.o.q,1,Y⟩=Z (.k n r.qc[m].v.j c)) (first|go_keep|(go_simp;done)) (first|(go_at_call 204;refine(a0.l _ γ).y ?_;rintro e w2 ⟨K,fb,L,own1,rfl,HX,P,y4,y0,y1⟩;(try (with_reducible refine Th.carry (Th.drew (Th.new W1 #[ι 0,ν,ι 0,.u Y,.u Y,.u Y] 301)) P ?_;intro aI;obtain⟨aY,bw,ba⟩:=aI.e))))
  obtain⟨M,HP⟩:∃M,X (Ve lo wr (w2.C (.E #[ι (r.qc[m].o:Nat),.k n r.qc[m].v.j c,ι wd,(π K),(π fb),(π L)] 301)) ownk M k m wd w2.o.q r.qc[m] (.k n r.qc[m].v.j c) K fb L):=⟨_,Ve.one N ap (Tk (zI (zn _ _) 1) P) HX.l.1 HX.l.2⟩;clear HX P y4 y0 y1 x4 x0 x1 N ap bs a0;generalize w2.C (.E #[ι (r.qc[m].o:Nat),.k n r.qc[m].v.j c,ι wd,(π K),(π fb),(π L)] 301)=W3 at *;generalize w2.o.q=g8 at *;rotate_left
  obtain⟨M,HP⟩:∃M,X (Ve lo wr ((((((w2.x ⟨W1.o.q,0,Y⟩ (ι (r.qc[m].o:Nat))).x ⟨W1.o.q,1,Y⟩ (.k n r.qc[m].v.j c)).x ⟨W1.o.q,2,Y⟩ (ι wd)).x ⟨W1.o.q,3,Y⟩ ((π K))).x ⟨W1.o.q,4,Y⟩ ((π fb))).x ⟨W1.o.q,5,Y⟩ ((π L))) ownk M k m wd W1.o.q r.qc[m] (.k n r.qc[m].v.j c) K fb L):=⟨_,Ve.two (z:=#[ι 0,ν,ι 0,.u Y,.u Y,.u Y]) N ap (Tk (zI (zn _ _) 1) P) aI HX.l.1 HX.l.2⟩;clear HX P y4 y0 y1 x4 x0 x1 N ap bs a0 aI aY bw ba;generalize ((((((w2.x ⟨W1.o.q,0,Y⟩ (ι (r.qc[m].o:Nat))).x ⟨W1.o.q,1,Y⟩ (.k n r.qc[m].v.j c)).x ⟨W1.o.q,2,Y⟩ (ι wd)).x ⟨W1.o.q,3,Y⟩ ((π K))).x ⟨W1.o.q,4,Y⟩ ((π fb))).x ⟨W1.o.q,5,Y⟩ ((π L)))=W3 at *;generalize W1.o.q=g8 at *
  all_goals
   have hP:=HP.l;have aF:=Tg λF J=>Gj F ownk rb R wd mr mx Q _ (ac.l.u J) aa ax;have b2:X (∀F,μ wr F->Calls prog 78 #[.u (Z ⟨Q.tbs[r.qc[m].o],0,Y⟩)] F λe I=>∃aw ag,e=ε (.k aw T.j ag)/\X (Tw F.o.q I (.k aw T.j ag) T)/\μ F I):=λF J=>by
    have q:=GY F ownk (0,r.qc[m].o,0) Q.tbs[r.qc[m].o] R.I[r.qc[m].o] a1 T ((ac.l.u J).tries _ aa ax) (by rw[←ak,ma,za η];simp[List.getD,aa]);refine q.y ?_;rintro e I ⟨v,rfl,a2,aH⟩;obtain⟨aw,ag,rfl⟩:=zr a2.1;exact⟨aw,ag,rfl,a2,aH⟩
   have bP:X (∀W4 b0 rv,μ W3 W4->Tw b0 W4 rv T->Calls prog 206 #[(π g8),rv] W4 λe I=>e=ε (.B #[])/\∃ad C,X (vK lo I C k m vs[m] ⟨.k n r.qc[m].v.j c,K,ad,L⟩/\Tp lo (lZ k m (0,0,5)) wr ownk I C)/\Th I g8 #[ι (r.qc[m].o:Nat),.k n r.qc[m].v.j c,ι wd,(π K),(π ad),(π L)] 301):=λW4 b0 rv J a2=>by
    have z1:=HP.l.u.q;have q:=F8 W4 M k m g8 0 wd a1 (Vu r.qc[m].o wd (.k n r.qc[m].v.j c) K fb L) (gF wd r.qc[m]) vs[m] ⟨.k n r.qc[m].v.j c,K,fb,L⟩ rv T (HP.l.box.u J) ⟨rfl,rfl,rfl,rfl,rfl,rfl⟩ (HP.l.view.u J) a2 (by have:=HP.l.ge;omega) (by have:=J.q;omega) ac.l.small.1 (Mm ak) au;refine q.y ?_;rintro e I ⟨rfl,ad,C,bN,aH,bq⟩;rw[HP.l.role] at bq;exact⟨rfl,ad,C,⟨bN,((Tp.qw HP.l.u HP.l.old).A (Tp.of M J)).A bq⟩,by simpa [Vu] using aH⟩
   have am:(vs.G m).j=m:=by simp;omega
   have bS:X (∀w5 C,Tp lo (lZ k m (0,0,5)) wr ownk w5 C->jz lo w w5 own C k wd t5 w.o.q r ⟨.k o r.g.v.j f,.k (Z ⟨g,0,Y⟩) r.qc.j j,.k t r.qx.j d,vv,ν,aq,[]⟩ (vs.G m)/\Th w5 t4 z8.F 292):=λw5 C bt=>⟨x.l.step (by rw[am];exact bt),S.l.mod bt (gZ θ θ _)⟩;have a6:=Tg am;obtain⟨y,s,W⟩:=zr x.l.F;dsimp only at W;rw[am] at W;subst W;have aV:=hP.u;have aZ:=hP.lbox;obtain⟨cd,cc,cb⟩:=aZ.e;have br:=Tg aV;have bL:X (vs[m].lit.o=r.qc[m].o):=show vs[m].lit.o=r.qc[m].o by rw[DY au];rfl
   have bO:=Tg (yM bu);clear hP aV aZ am au ak;generalize bE:vs[m]=V' at *;clear bE;generalize Q.tbs[r.qc[m].o]=tb at *;generalize r.qc[m].o=vp at *;generalize r.qc[m].v.j=vt at *;go_wp2_with (first|(go_at_call 205;refine(aF.l _ br.l).y ?_;rintro e w4 ⟨rfl,aQ⟩;obtain rfl:=aQ.z)|(go_at_call 78;refine(b2.l _ br.l).y ?_;rintro e w4 ⟨aw,ag,rfl,bG,a3⟩)|(go_at_call 206;refine(bP.l _ _ _ a3 bG.l).y ?_;rintro e w5 ⟨rfl,ad,C,bx,be⟩;obtain⟨E,aA⟩:=bS.l _ _ bx.l.2;have G:Th w5 t5 #[ι r.L,ι r.m,ι r.g.o,.k o r.g.v.j f,.k (Z ⟨g,0,Y⟩) r.qc.j j,.k t r.qx.j d,.k y m s,ν] 292:=E.box;obtain⟨aD,aC,aE⟩:=G.e;obtain⟨cm,co,ce⟩:=be.e;have ae:=E.F;have D:=Tg E;have av:=Tg aA;clear E aA G be)|(at_builtin;refine kc w5 _ [ι vp,.k n vt c,ι wd,(π K),(π ad),(π L)] _ rfl (.tmp 36) (.tmp 38) 290 rfl lo 301 i0 _ 6 64 underlying290 hi b9 bT b4 rfl θ (.k y m s) (vs.G m).j (qE wd (vs.G m) aq) rfl ae γ _ _ rfl ζ rfl a_ (by rw[a6.l];omega) (by rw[a6.l];omega) (by exact(zY D.l.low0 D.l.mod.q)) ?_;intro v' w6 ai ab az;obtain⟨aW,aJ,an⟩:=zr ai;rw[a6.l] at an;subst an;have ah:Th w6 t5 #[ι r.L,ι r.m,ι r.g.o,.k o r.g.v.j f,.k (Z ⟨g,0,Y⟩) r.qc.j j,.k t r.qx.j d,.k y m s,ν] 292:=D.l.box.saveT ab (T2.own D.l.F) θ;obtain⟨b3,bW,bI⟩:=ah.e;have ay:=Tg (av.l.saveT ab (T2.own D.l.F) θ);have aK:X (zd _ w5 w6):=ab;have aG:X (_∨_):=az;have aN:X (U.ownsRow w6 lo 301 6 _ _ _):=ai;clear ab az ai ah))
   have bU:dR wd V' ⟨.k n vt c,K,ad,L⟩=[ι vp,.k n vt c,ι wd,(π K),(π ad),(π L)]:=by simp[dR,bL.l,pt]
   have af:=D.l.pushV (V:=V') (p:=⟨.k n vt c,K,ad,L⟩) (by rw[a6.l];exact bx.l.1) (by rw[bU];exact aN.l) aK.l aG.l;rw[←bO.l] at af;exact⟨⟨m+1,η,ξ,_,_,_,af,ay.l.set_ne aP _ _⟩,by simp[intOf];omega⟩
 obtain rfl:m=r.qc.j:=η;have aX:vs.G r.qc.j=vs:=by rw[←aM.l];exact uW
 rw[aX] at x;clear aX;obtain⟨y,s,W⟩:=zr x.l.F;dsimp only at W;subst W;obtain⟨bg,bD,bJ⟩:=x.l.rbox.e;dsimp only at bg;go_upto_region 11 with fail
 clear bg bD bJ hm aj;have cf:=Tg ao;clear al ao;generalize bF:wr=w5 at *;clear bF;go_loopw [45] (λbK wr=>∃m:Nat,m<=r.qx.j/\bK=ι m/\∃aO B,X (jz lo w wr own ownk k wd t5 w.o.q r ⟨.k o r.g.v.j f,.k u r.qc.j j,.k t r.qx.j d,.k y vs.j s,aO,aq,B⟩ vs)/\X (Th wr t4 z8.F 292)/\X (B.j=m)/\X (fq Q.tbs R.I.j r B)/\X (∀b,aO.m=Z b->w.o.q<=b)) (λi _=>r.qx.j-(intOf i).D);exact⟨0,zs _,rfl,_,[],x,S,rfl,λi _ h2=>by simp at h2,λb J=>by cases J⟩;clear x S;obtain⟨m,hm,rfl,aO,B,x,S,a4,aS,bv⟩:=hrel;have al:=x.l.mod.q;have ao:=zY aB.l al;obtain⟨H,A,a7⟩:=zr x.l.qx;dsimp only at a7;subst a7;by_cases aj:m<r.qx.j
 .obtain⟨g,n,c,aL,hg,q0,q1,bc⟩:=x.l.p.qx.cell m aj;subst aL;have ac:=Tg (HH.l.make x.l.mod);have aa:=bR.l _ (zq aj);have ax:r.qx[m].o<Q.tbs.j:=by rw[ac.l.tlen];exact aa.1
  have aF:=Tg λF J=>Gj F ownk rb R wd mr mx Q _ (ac.l.u J) aa.1 ax;have bV:X (fq Q.tbs R.I.j r (B++[Q.tbs[r.qx[m].o]])):=λi h1 h2=>by
   by_cases hi:i<B.j;have q:=aS.l i h1 hi;rw[uH hi];exact q;obtain rfl:i=m:=by have:=a4.l;simp at h2;omega
   refine⟨aa.2,aa.1,ax,?_⟩;rw[lB η];simp
  have a5:μ wr (wr.C (.E #[ι (r.qx[m].o:Nat),.k n r.qx[m].v.j c] 204)):=γ;have E:=x.l.u a5;have G:Th (wr.C (.E #[ι (r.qx[m].o:Nat),.k n r.qx[m].v.j c] 204)) t5 #[ι r.L,ι r.m,ι r.g.o,.k o r.g.v.j f,.k u r.qc.j j,.k (Z ⟨g,0,Y⟩) r.qx.j d,.k y vs.j s,.k H B.j A] 292:=E.box;obtain⟨aD,aC,aE⟩:=G.e;have ae:=E.qx;dsimp only at ae;have D:=Tg E;have av:=Tg (S.l.u a5);have b7:=Tg a5;have aT:(m:Int)<(r.qx.j:Int):=η;have ci:B.j<=1000:=by rw[a4.l];omega
  clear E G a5;generalize Q.tbs[r.qx[m].o]=tb at *;generalize r.qx[m].o=vp at *;generalize r.qx[m].v.j=vt at *;generalize bn:B.j=nl at *;have bf:=Tg bn;clear bn;go_upto_region 14 with (first|(go_at_call 205;refine(aF.l _ b7.l).y ?_;rintro e w4 ⟨rfl,aQ⟩;obtain rfl:=aQ.z))
  generalize wr.C (.E #[ι vp,.k n vt c] 204)=W5 at *;go_wp2_with (at_builtin;refine kc W5 _ [(π tb)] _ rfl (.tmp 54) (.tmp 56) 150 rfl lo 162 i1 _ 1 8 underlying150 bQ bh bo b1 rfl θ (.k H nl A) nl (T1 B) rfl ae γ _ _ rfl ζ rfl a_ η η (by exact(zY D.l.low0 D.l.mod.q)) ?_;intro v' w6 ai ab az;obtain⟨aW,aJ,an⟩:=zr ai;subst an;have ah:Th w6 t5 #[ι r.L,ι r.m,ι r.g.o,.k o r.g.v.j f,.k u r.qc.j j,.k (Z ⟨g,0,Y⟩) r.qx.j d,.k y vs.j s,.k H nl A] 292:=D.l.box.saveT ab (T2.own D.l.qx) θ;obtain⟨b3,bW,bI⟩:=ah.e;have ay:=Tg (av.l.saveT ab (T2.own D.l.qx) θ);have aK:X (zd _ W5 w6):=ab;have aG:X (_∨_):=az;have aN:X (U.ownsRow w6 lo 162 1 _ _ _):=ai;clear ab az ai ah)
  have af:=D.l.pushN (tb:=tb) bv.l (by rw[bf.l];exact aN.l) aK.l;exact⟨⟨m+1,η,ξ,_,_,af,ay.l.set_ne aP _ _,show(B++[tb]).j=m+1 by simp[bf.l,a4.l],bV,λb J=>by
   rcases aG.l with e|⟨g',e,cg⟩;rw[e] at J;exact bv.l b J;rw[e] at J;simp at J;have:=D.l.mod.q;omega⟩,by simp[intOf];omega⟩
 obtain rfl:m=r.qx.j:=η;have G:Th wr t5 #[ι r.L,ι r.m,ι r.g.o,.k o r.g.v.j f,.k u r.qc.j j,.k t r.qx.j d,.k y vs.j s,.k H B.j A] 292:=x.l.box;obtain⟨aD,aC,aE⟩:=G.e;have a8:Th wr t4 #[ι 0,ι 0,ι 0,ν,ν,ν,ν,ν] 292:=S.l;obtain⟨bA,cj,cp⟩:=a8.e;have ch:t5≠t4:=λe=>aP e.z;clear G a8;go_wp2
 (try simp only[Exit.inBlock,Exit.then])
 have bk:zd [t4] wr ((((((((wr.x ⟨t4,0,Y⟩ (ι r.L)).x ⟨t4,1,Y⟩ (ι r.m)).x ⟨t4,2,Y⟩ (ι r.g.o)).x ⟨t4,3,Y⟩ (.k o r.g.v.j f)).x ⟨t4,4,Y⟩ (.k u r.qc.j j)).x ⟨t4,5,Y⟩ (.k t r.qx.j d)).x ⟨t4,6,Y⟩ (.k y vs.j s)).x ⟨t4,7,Y⟩ (.k H B.j A)):=zd.sets t4 [ι r.L,ι r.m,ι r.g.o,.k o r.g.v.j f,.k u r.qc.j j,.k t r.qx.j d,.k y vs.j s,.k H B.j A] 0 wr;have hd:=x.l.done S.l η bk a4.l (by rw[aM.l];exact ca);have HD:X (_/\_):=hd;clear hd bk;refine zO (v:=.agg #[ι r.L,ι r.m,ι r.g.o,.k o r.g.v.j f,.k u r.qc.j j,.k t r.qx.j d,.k y vs.j s,.k H B.j A]) ?_ rfl ⟨⟨.k o r.g.v.j f,.k u r.qc.j j,.k t r.qx.j d,.k y vs.j s,.k H B.j A,aq,B⟩,ownk,rfl,HD.l.1,aS.l,HD.l.2⟩;clear HD aD aC aE;simp[results,results192,go_sem,bA]
end
section
open Go.Proofs.Tryz Go.RowKit
variable {lo:Nat}{Ws:List yd}{Ps:List xo}
def Sx:(prog.info? 292).map (λi=>(i.zero,i.q,i.bytes))=Z (Z (.agg #[ι 0,ι 0,ι 0,ν,ν,ν,ν,ν]),8,144):=χ
def mW{t:TypeId}(h:Uh t)(a:t∉[214,161,165,310,323,301]):∀ρ,¬vo t ρ:=λρ q=>by
 rcases q with q|q
 .exact q.1 h
 .exact a q
def qH.mod{c:Nat}{ok:TypeId->zo->Prop}{w w':U}{own own':Nat->zo}{v:O}{rs:List zu}{ps:List (O×O×O)}(h:qH c w v rs ps)(m:Tp lo ok w own w' own')(f:∀ρ,¬ok 284 ρ)(d:∀ρ,¬ok 204 ρ)(e:∀ρ,¬ok 207 ρ):qH c w' v rs ps:=⟨vT h.own m e,h.len,λk a b=>(h.p k a b).mod m f d,h.K⟩
def uJ.make{w w':U}{own own':Nat->zo}{wd:Nat}{c:O}(h:uJ lo w own wd c Ws Ps)(m:Tp lo (lC Ws.j) w own w' own'):uJ lo w' own' wd c Ws Ps:=
 ⟨vT h.arr m (pP θ θ),h.plen,λk a b=>(h.work k a b).mod m (pP θ θ) (pP θ θ) (oa η η) (pP θ θ) (λi j t d q=>by
  rcases q with q|⟨rfl,_⟩
  .exact rT η q
  .exact d θ),h.K⟩
def Mg(Ws:List yd)(Ps:List xo)(h:Ps.j=Ws.j)(W:yd)(P:xo):gP (Ws++[W]) (Ps++[P])=gP Ws Ps++j9 W.p P:=by
 simp[gP,List.zipWith_append h.z]
def uJ.push{w w':U}{own:Nat->zo}{wd:Nat}{j v':O}{W:yd}{P:xo}(h:uJ lo w own wd j Ws Ps)(o:uy lo w own Ws.j wd W P)(n:Ws.j+1<=1000)(s:w'.r lo 292 8 v' (Ws.j+1) (gP Ws Ps++j9 W.p P))(hs:zd j.m.toList w w'):uJ lo w' own wd v' (Ws++[W]) (Ps++[P])/\Tp lo (gU [292]) w own w' own:=by
 have l:Tp lo (gU [292]) w own w' own:=Tp.ofSave own hs λb v=>by
  have d:j.m=Z b:=by simpa using v
  obtain⟨c,r⟩:=jO h.arr d;exact⟨yU h.arr d,yG h.arr d,c,_,r,xQ.2 rfl⟩
 have f:∀t,t∉[292]->∀ρ,¬gU [292] t ρ:=λt g ρ q=>g q;have m:=λk W P (q:uy lo w own k wd W P)=>q.mod l (f _ θ) (f _ θ) (f _ θ _) (f _ θ) (λ_ _ t g q=>by rw[xQ.1 q] at g;exact g θ);refine⟨⟨?_,by simp[h.plen],λk a b=>?_,by simpa using n⟩,l⟩;rw[Mg Ws Ps h.plen,yN];exact s;simp only[yN,xt,qW] at a b;by_cases i:k<Ws.j;have e:k<Ps.j:=by rw[h.plen];exact i
 rw[uH i,uH e];exact m _ _ _ (h.work k i e);obtain rfl:k=Ws.j:=η;have p:(Ws++[W])[Ws.j]=W:=ζ;have u:(Ps++[P])[Ws.j]=P:=by simp[←h.plen]
 rw[p,u];exact m _ _ _ o
def kZ.push{c:Φ}{n:Nat}(h:kZ c n Ws Ps)(f:Ps.j=Ws.j){W:yd}{P:xo}(i:fq c n W.p P.nbs):kZ c n (Ws++[W]) (Ps++[P]):=by
 intro k a b;simp only[yN,xt,qW] at a b;by_cases e:k<Ws.j;have d:k<Ps.j:=by rw[f];exact e
 rw[uH e,uH d];exact h k e d;obtain rfl:k=Ws.j:=η;have g:(Ws++[W])[Ws.j]=W:=ζ;have j:(Ps++[P])[Ws.j]=P:=by simp[←f]
 rw[g,j];exact i
def ik(n:Nat)(rs:List zu):Prop:=∀r∈rs,(∀l∈r.qc,l.o<n)/\∀l∈r.qx,l.o<n/\l.o≠r.g.o
def O4(lo:Nat)(w:U)(own:Nat->zo)(d:Nat)(R:zv)(b:List yd)(wd mr mx:Nat)(Q:uz)(e:Ending)(w':U):Prop:=∃c a Ps,e=.returned c/\uJ lo w' a wd c b Ps/\kZ Q.tbs R.I.j b Ps/\zZ lo w' a d R wd mr mx Q/\Tp lo vo w own w' a
def IG(w:U)(own:Nat->zo)(rb s:Nat)(R:zv)(rv:O)(rs:List zu)(ps:List (O×O×O))(ws:List yd)(wd mr mx:Nat)(Q:uz)(j:Nat)(h:zZ lo w own rb R wd mr mx Q)(hr:qH lo w rv rs ps)(a3:lo<=w.o.q)(p:ik R.I.j rs)(hv:TE j wd R s rs=Z ws):
  Calls prog 164 #[(π rb),rv,ι s] w λe w'=>O4 lo w own rb R ws wd mr mx Q e w':=by
 obtain⟨i0,hi,aG,aR,aE⟩:=info_parts Sx;have HH:=Tg h;have aK:=Tg hr;have aF:=Tg a3;have aL:=Tg p;have az:X (TE j wd R s (rs.drop 0)=Z ws):=hv;have bg:=hr.K;obtain⟨bm,aZ,aS⟩:=zr hr.own;subst aS;clear h hr a3 p hv;go_enter func164,ntmps164;go_upto_region 3 with fail
 go_loopw [7,13] (λv7 aN wr=>∃m:Nat,m<=rs.j/\aN=ι m/\∃l rest c Ps,X (uJ lo wr c wd v7 l Ps)/\X (kZ Q.tbs R.I.j l Ps)/\X (zZ lo wr c rb R wd mr mx Q)/\X (Tp lo vo w own wr c)/\X (TE j wd R s (rs.drop m)=Z rest)/\X (l++rest=ws)/\X (l.j<=m)/\X (∀b,v7.m=Z b->w.o.q<=b)) (λ_ i _=>rs.j-(intOf i).D);exact⟨0,zs _,rfl,[],ws,own,[],⟨xp _ _ _ _,rfl,λk a=>by simp at a,ζ⟩,(λk a=>by simp at a),HH,Tp.refl _ _,az,rfl,zg _,λb z=>by cases z⟩;clear az;obtain⟨m,hm,rfl,l,rest,c,Ps,aa,ai,ab,D,a9,ap,ak,aq⟩:=hrel;have ay:=D.l.q;have ad:=zY aF.l ay;obtain⟨aV,aB,aW⟩:=zr aa.l.arr;subst aW;by_cases B:m<rs.j
 .have av:=Tg (aK.l.mod D.l (mW θ θ) (mW θ θ) (mW θ θ));have a2:m<ps.j:=by rw[av.l.len];exact B
  obtain⟨g,aM,hg,q0,q1,q2,q3,q4,q5⟩:=av.l.cell m B a2;subst aM;have u:=av.l.p m B a2;obtain⟨ag,S,af⟩:=u.g.qy;obtain⟨ah,V,au⟩:=u.qc.qy;obtain⟨aw,J,ae⟩:=u.qx.qy;rw[af] at q3;rw[au] at q4;rw[ae] at q5;rw[af,au,ae] at u;have d:=a9.l;rw[xn B] at d;unfold TE at d;have aY:(m:Int)<(rs.j:Int):=η;have p:=aL.l _ (zq B);clear af au ae;generalize rs[m]=r at *;by_cases an:r.L=s
  .rw[zb an] at d;subst an;obtain⟨vs,n,aD,ac,L⟩:∃vs n,fA j wd R r.qc=Z vs/\TE j wd R r.L (rs.drop (m+1))=Z n/\rest=⟨r,vs⟩::n:=by
    split at d;rename_i vs n h1 h2;exact⟨vs,n,h1,h2,by simpa using d.z⟩;cases d
   have am:=Tg ac;have aX:X ((l++[⟨r,vs⟩])++n=ws):=show(l++[⟨r,vs⟩])++n=ws by rw[←ap.l,L];simp
   have aU:X (∀W0,μ wr W0->Calls prog 192 #[(π rb),.agg #[ι r.L,ι r.m,ι r.g.o,.k ag r.g.v.j S,.k ah r.qc.j V,.k aw r.qx.j J]] W0 λe w'=>∃a1 N K E A T G F C I y o f,e=ε (.agg #[ι r.L,ι r.m,ι r.g.o,.k a1 r.g.v.j N,.k K r.qc.j E,.k A r.qx.j T,.k G vs.j F,.k C r.qx.j I])/\X (uy lo w' f l.j wd ⟨r,vs⟩ ⟨.k a1 r.g.v.j N,.k K r.qc.j E,.k A r.qx.j T,.k G vs.j F,.k C r.qx.j I,y,o⟩/\fq Q.tbs R.I.j r o/\Tp lo (lC l.j) W0 c w' f)):=λW0 z=>by
    refine(LV W0 c rb l.j R r _ _ _ vs wd mr mx Q j (ab.l.u z) (u.u z) (zY ad z.q) p.1 p.2 aD).y ?_;rintro e w' ⟨⟨tv,pv,nv,vv,bo,y,o⟩,f,rfl,x,aO,aT⟩;obtain⟨a1,N,e1⟩:=x.p.g.qy;obtain⟨K,E,e2⟩:=x.p.qc.qy;obtain⟨A,T,e3⟩:=x.p.qx.qy;obtain⟨G,F,e4⟩:=zr x.F;obtain⟨C,I,e5⟩:=zr x.qx;dsimp only at e1 e2 e3 e4 e5;subst e1 e2 e3 e4 e5;exact⟨a1,N,K,E,A,T,G,F,C,I,y,o,f,rfl,x,aO,aT⟩
   have M:μ wr (wr.C (.E #[ι r.L,ι r.m,ι r.g.o,.k ag r.g.v.j S,.k ah r.qc.j V,.k aw r.qx.j J] 207)):=γ;have v:=Tg M;have bi:l.j<=999:=by have:=ak.l;omega
   clear d u M p L ac aD;go_upto_region 7 with (first|(go_at_call 192;refine(aU.l _ v.l).y ?_;rintro e w5 ⟨a1,N,K,E,A,T,G,F,C,I,y,o,f,rfl,HX⟩))
   have al:μ w5 (w5.C (.E #[ι r.L,ι r.m,ι r.g.o,.k a1 r.g.v.j N,.k K r.qc.j E,.k A r.qx.j T,.k G vs.j F,.k C r.qx.j I] 292)):=γ;have a0:=Th.new w5 #[ι r.L,ι r.m,ι r.g.o,.k a1 r.g.v.j N,.k K r.qc.j E,.k A r.qx.j T,.k G vs.j F,.k C r.qx.j I] 292;have a4:=(Tp.of c v.l).A HX.l.2.2;have H:=Tg (a4.A (Tp.of f al));have aP:=Tg (HX.l.1.mod (Tp.of (ok:=λ_ _=>False) f al) (λ_=>id) (λ_=>id) id (λ_=>id) (λ_ _ _ _=>id));clear a4 al;obtain⟨be,bd,bf⟩:=a0.e;generalize aQ:w5.C (.E #[ι r.L,ι r.m,ι r.g.o,.k a1 r.g.v.j N,.k K r.qc.j E,.k A r.qx.j T,.k G vs.j F,.k C r.qx.j I] 292)=W6 at *;clear aQ a0;have aj:=Tg (aa.l.make H.l);have ar:=aj.l.arr;generalize w5.o.q=bk at *;have bb:=zY ad H.l.q;go_wp2_with (at_builtin;refine kc W6 _ [ι r.L,ι r.m,ι r.g.o,.k a1 r.g.v.j N,.k K r.qc.j E,.k A r.qx.j T,.k G vs.j F,.k C r.qx.j I] _ rfl (.tmp 24) (.tmp 26) 265 rfl lo 292 i0 _ 8 144 underlying265 hi aG aR aE rfl θ (.k aV l.j aB) l.j (gP l Ps) rfl ar γ _ _ rfl ζ rfl a_ η η η ?_;intro v' w7 ao aC ax;obtain⟨ba,aJ,a7⟩:=zr ao;subst a7;have a5:X (zd _ W6 w7):=aC;have aH:X (_∨_):=ax;have aI:X (U.ownsRow w7 lo 292 8 _ _ _):=ao;clear aC ax ao)
   have aA:=aj.l.push (W:=⟨r,vs⟩) (P:=⟨.k a1 r.g.v.j N,.k K r.qc.j E,.k A r.qx.j T,.k G vs.j F,.k C r.qx.j I,y,o⟩) aP.l η aI.l a5.l;have a8:=(ab.l.make H.l).mod aA.2 (gM θ) (gM θ) (gM θ) (λ_=>gM θ _) (λ_ t ht q=>by rw[xQ.1 q] at ht;exact ht θ);have a6:=(D.l.A (H.l.more λ_ _ q=>OZ q)).newer a5.l λb z=>aq.l b (by simpa using z);have bn:=H.l.q;exact⟨⟨m+1,η,ξ,l++[(⟨r,vs⟩:yd)],n,f,Ps++[(⟨.k a1 r.g.v.j N,.k K r.qc.j E,.k A r.qx.j T,.k G vs.j F,.k C r.qx.j I,y,o⟩:xo)],aA.1,ai.l.push aj.l.plen HX.l.2.1,a8,a6,am,aX,show(l++[(⟨r,vs⟩:yd)]).j<=m+1 by have:=ak.l;simp;omega,λb z=>by
    rcases aH.l with e|⟨g',e,bh⟩;rw[e] at z;exact aq.l b z;rw[e] at z;simp at z;omega⟩,by simp[intOf];omega⟩
  rw[za an] at d;have am:=Tg d;have bc:¬(r.L:Int)=(s:Int):=η;have M:μ wr (wr.C (.E #[ι r.L,ι r.m,ι r.g.o,.k ag r.g.v.j S,.k ah r.qc.j V,.k aw r.qx.j J] 207)):=γ;have v:X (μ wr _):=M;clear d u M p;go_wp2;exact⟨⟨m+1,η,ξ,l,rest,c,Ps,aa.l.u v.l,ai,ab.l.u v.l,D.l.A (Tp.of c v.l),am,ap,Nat.le_succ_of_le ak.l,aq⟩,by simp[intOf];omega⟩
 obtain rfl:m=rs.j:=η;have d:=a9.l;rw[List.drop_length] at d;simp only[TE,zt] at d;have HE:X (l=ws):=show l=ws by rw[←ap.l,←d];simp
 clear d;go_wp2;go_ret;exact⟨_,c,Ps,rfl,by rw[←HE.l];exact aa.l,by rw[←HE.l];exact ai.l,ab.l,D.l⟩
end
section
open Go.Proofs.Tryz Go.RowKit
variable {lo:Nat}
def OV(lo:Nat)(w:U)(own:Nat->zo)(f:Nat)(R R':zv)(wd mr mx:Nat)(Q:uz)(b:Bool)(e:Ending)(w':U):Prop:=e=ε (.i b)/\∃a d c,zZ lo w' a f R' wd mr mx ⟨Q.rv,Q.tbs,d,c⟩/\R'.I.j=R.I.j/\Tp lo vo w own w' a
def Jl(w:U)(own:Nat->zo)(D s:Nat)(R R':zv)(rv:O)(rs:List zu)(ps:List (O×O×O))(wd mr mx:Nat)(Q:uz)(g:Nat)(b:Bool)(h:zZ lo w own D R wd mr mx Q)(hr:qH lo w rv rs ps)(F:lo<=w.o.q)(ac:ik R.I.j rs)(c:pO g wd mr mx rs R s=Z (R',b)):
  Calls prog 122 #[(π D),rv,ι s] w λe w'=>OV lo w own D R R' wd mr mx Q b e w':=by
 unfold pO at c;rcases A:TE g wd R s rs with _|L;rw[A] at c;cases c;rw[A] at c;have al:=Tg (IG w own D s R rv rs ps L wd mr mx Q g h hr F ac A);have aj:=Tg F;have au:=h.small;obtain⟨ar,ao,ak⟩:=zr hr.own;subst ak;have N:X (if decide (0<L.j)=true then kY wd mr mx g true L R=Z (R',b) else(R=R'/\true=b)):=by
  by_cases hz:L.j>0;rw[X,zb (by simpa using hz)];simpa [hz] using c;rw[X,za (by simpa using hz)];simpa [hz] using c
 clear h hr F ac A c;go_enter func122,ntmps122;go_upto_region 4 with (first|(go_at_call 164;refine al.l.y ?_;rintro e w2 ⟨wv,ad,Ps,rfl,G,V,ae,S⟩;obtain⟨am,af,an⟩:=zr G.arr;subst an;have t:=Tg G;have y:=Tg V;have i:=Tg ae;have d:=Tg S;clear G V ae S))
 go_loopg [8,9] g (λk v8 v9 wr=>∃(first more:Bool) (f:zv) (a:Nat->zo) (v:O) (z:Γ) (E:List yd) (Pk:List xo),v8=.i first/\v9=.i more/\X (zZ lo wr a D f wd mr mx ⟨Q.rv,Q.tbs,v,z⟩)/\X (uJ lo wr a wd (.k am L.j af) E Pk)/\X (kZ Q.tbs R.I.j E Pk)/\X (Tp lo vo w own wr a)/\X (f.I.j=R.I.j)/\X (if more=true then kY wd mr mx k first E f=Z (R',b) else(f=R'/\true=b)))
 case atStart=>exact⟨true,decide (0<L.j),R,ad,Q.fv,Q.fvs,L,Ps,rfl,rfl,i,t,y,d,rfl,N⟩
 clear t y i d N;obtain⟨first,more,f,a,v,z,E,Pk,rfl,rfl,i,t,y,d,n,N⟩:=hrel;cases more
 .have c:f=R'/\true=b:=by simpa using N.l
  have o:=Tg c;clear c;go_wp2;go_ret;exact⟨by rw[←o.l.2];rfl,a,v,z,by rw[←o.l.1];exact i.l,by rw[←o.l.1];exact n.l,d.l⟩
 have c:kY wd mr mx gk first E f=Z (R',b):=by simpa using N.l
 clear N;rcases gk with _|m;simp[kY] at c;unfold kY at c;obtain⟨hl,hf,h0,h1,h2,h3,h4,h5,h6,h7⟩:=i.l.at;have ag:=zY aj.l d.l.q;clear h0 h3 h4 h5 h7;by_cases ab:f.Q≥mx
 .rw[zb ab] at c;have o:=Tg (show f=R'/\false=b by simpa using c);have ai:(mx:Int)<=(f.Q:Int):=η;clear c;go_upto_region 5 with fail
  go_quiet (fail)
  have J:μ wr (wr.drewN nq):=zI (zn _ _) nq;have I:=Tg J;clear J;generalize wr.drewN nq=w3 at *;go_wp2;go_ret;exact⟨by rw[←o.l.2];rfl,a,v,z,by rw[←o.l.1];exact i.l.u I.l,by rw[←o.l.1];exact n.l,d.l.A (Tp.of a I.l)⟩
 rw[za ab] at c;have ai:¬(mx:Int)<=(f.Q:Int):=η;rcases C:pT m wd mr first E f with _|x;rw[C] at c;cases c;obtain⟨p,u,b3⟩:=x;rw[C] at c;have T:=Tg λW0 hb=>Jw W0 a D _ f p E u Pk wd mr mx _ m first b3 (i.l.u hb) (t.l.u hb) (by rw[n.l];exact y.l) (zY ag hb.q) η C
 clear C;have H:X ((b3=false->p=R'/\false=b)/\(b3=true->(if p.count>f.count then kY wd mr mx m false u p else Z (p,true))=Z (R',b))):=⟨λe=>by subst e;simpa using c,λe=>by subst e;exact c⟩;clear c;go_upto_region 5 with fail
 go_quiet (fail)
 have J:μ wr (wr.drewN nq):=zI (zn _ _) nq;have x1:=zi J hl h1;have I:=Tg J;have aq:=ym hl J.q;clear J;generalize wr.drewN nq=w3 at *;clear h1 h2 h6 hf hl;cases b3
 .have o:=Tg (H.l.1 rfl);go_wp2_with (go_at_call 165;refine(T.l _ I.l).y ?_;rintro e w4 ⟨rfl,j,B,l,aa,r,P,W,M,K⟩)
  go_ret;exact⟨by rw[←o.l.2];rfl,j,B,l,by rw[←o.l.1];exact r,by rw[←o.l.1];exact M.A n.l,(d.l.A (Tp.of a I.l)).A K⟩
 have o:X (if decide (f.count<p.count)=true then kY wd mr mx m false u p=Z (R',b) else(p=R'/\true=b)):=by
  have q:=H.l.2 rfl;by_cases hc:p.count>f.count;rw[X,zb (by simpa using hc)];simpa [hc] using q;rw[X,za (by simpa using hc)];simpa [hc] using q
 clear H;go_wp2_with (go_at_call 165;refine(T.l _ I.l).y ?_;rintro e w4 ⟨rfl,j,B,l,aa,r,P,W,M,K⟩;obtain⟨ap,_,_,y1,_⟩:=r.at;have ah:X (zZ lo w4 j D p wd mr mx ⟨Q.rv,Q.tbs,B,l⟩):=r;clear r)
 go_roundg m
 case measure=>omega
 exact⟨false,decide (f.count<p.count),p,j,B,l,u,aa,rfl,ζ,ah,P,by rw[←n.l];exact W,(d.l.A (Tp.of a I.l)).A K,M.A n.l,o⟩
end
section
open Go.Proofs.Tryz Go.RowKit
variable {lo:Nat}{w0 w:U}{own0:Nat->zo}{t8 wd mr mx:Nat}{tbs:List Nat}
structure hO (lo:Nat) (w0 w:U) (own0 own:Nat->zo) (t8 g n wd mr mx:Nat) (ar:List Nat) (tbs:List Nat):Prop where
 low:w0.o.q<=t8
 lowg:w0.o.q<=g
 ne:t8≠g
 box:Th w t8 #[.k (Z ⟨g,0,Y⟩) n n,ι 0,ι 0,ι 0,ι wd,ι mr,ι mx,ν] 214
 I:w.r lo 162 1 (.k (Z ⟨g,0,Y⟩) n n) n (T1 tbs++List.replicate (n-tbs.j) (.u Y))
 tries:∀i (_:i<ar.j) (_:i<tbs.j),xg lo w own (0,i,0) tbs[i] (xk wd ar[i])
 mod:Tp lo vo w0 own0 w own
def Hk:TypeId->zo->Prop:=λ_ _=>False
def hO.step{w':U}{own own':Nat->zo}{g n:Nat}{c:Φ}(h:hO lo w0 w own0 own t8 g n wd mr mx c tbs)(m:Tp lo Hk w own w' own'):hO lo w0 w' own0 own' t8 g n wd mr mx c tbs:=
 ⟨h.low,h.lowg,h.ne,h.box.mod m id,vT h.I m (λ_=>id),λi a b=>(h.tries i a b).mod m (λ_ _=>id),h.mod.A (m.more λ_ _ q=>q.elim)⟩
def hO.push{w':U}{own:Nat->zo}{g n tb:Nat}{c fp:Φ}(h:hO lo w0 w own0 own t8 g n wd mr mx c tbs)(o:lo<=w.o.q)(x:tbs.j<n)(v:yb w.o.q w' tb (xk wd (c.g tbs.j 0)) fp)(j:μ w w'):
  hO lo w0 (w'.x (ω g tbs.j) ((π tb))) own0 (ext own w.o.q (0,tbs.j,0)) t8 g n wd mr mx c (tbs++[tb]):=by
 have r:=Tp.extNew (lo:=lo) (ok:=Hk) own (0,tbs.j,0) j;have d:=h.step r;have f:zd [g] w' (w'.x (ω g tbs.j) ((π tb))):=zd.set _ _ _ _;obtain⟨y,m⟩:=jO d.I rfl;have l:=T2.box m;refine⟨h.low,h.lowg,h.ne,d.box.saveT f l θ,?_,λi a b=>?_,d.mod.newer f λb j=>by simp at j;rw[j];exact h.lowg⟩;have q:=uB d.I tbs.j (by simp[T1];omega) ((π tb));have e:(T1 tbs++List.replicate (n-tbs.j) (O.pointer Y)).set tbs.j ((π tb))=T1 (tbs++[tb])++List.replicate (n-(tbs++[tb]).j) (O.pointer Y):=by
  obtain⟨k,u⟩:∃k,n-tbs.j=k+1:=⟨n-tbs.j-1,η⟩;rw[List.set_append,za (by simp[T1]),u,sq];have s:n-(tbs++[tb]).j=k:=by simp;omega
  rw[s];simp[T1,pt]
 rw[e] at q;exact q;simp only[yN,xt,qW] at b;by_cases p:i<tbs.j;rw[uH p];exact(d.tries i a p).saveT f l θ;obtain rfl:i=tbs.j:=η;have t:(tbs++[tb])[tbs.j]=tb:=ζ;rw[t];have q:=v.new own (0,tbs.j,0) o;rw[show c.g tbs.j 0=c[tbs.j] by simp[List.getD,a]] at q;exact q.saveT f l θ
def hO.done{own:Nat->zo}{g:Nat}{c:Φ}(h:hO lo w0 w own0 own t8 g c.j wd mr mx c tbs)(e:lo<=w0.o.q)(d:tbs.j=c.j)(hs:c.j<=1000)(f:wd<=1000/\mr<=1048576/\mx<=1048576):zZ lo w own t8 ⟨c.map (xk wd),0,0,0,[]⟩ wd mr mx ⟨.k (Z (δ g)) c.j c.j,tbs,ν,[]⟩:=by
 refine⟨zY e h.low,h.box,?_,by simp[d],λp a b=>?_,xp _ _ _ _,rfl,λp a=>by simp at a,⟨by simpa using hs,ζ,ζ,ζ⟩,f⟩;have q:=h.I;rw[d,jC] at q;simpa using q;simp only[xu] at a;simp only[ub];exact h.tries p a b
def OP(lo:Nat)(w:U)(own:Nat->zo)(wd mr mx:Nat)(b:Option zv)(e:Ending)(w':U):Prop:=match b with
 |none=>e=ε (.B #[.agg #[ν,ι 0,ι 0,ι 0],.i false])/\∃a,Tp lo vo w own w' a
 |some R=>∃a c Q,e=ε (.B #[.agg #[Q.rv,ι R.count,ι R.Q,ι R.jg],.i true])/\zZ lo w' a c R wd mr mx Q/\Tp lo vo w own w' a
def gz:Nat->zo:=λ_=>(0,0,7)
def Vc(w:U)(S:js)(ps:List (O×O×O))(av fv rv:O)(mr mx G:Nat)(aa:Option zv)(h:dX lo w av fv rv S ps)(aV:lo<=w.o.q)(bg:ik S.M.j S.H)(bN:S.M.j<=1000)(a2:∀a∈S.M,a<=100000000)(M:∀f∈S.facts,f.row.j=3)(bW:S.facts.j<=1000000)(bd:S.r<=1000/\mr<=1048576/\mx<=1048576)(hr:pk G S mr mx=Z aa):
  Calls prog 74 #[.agg #[ι S.r,av,fv,rv],ι mr,ι mx] w λe w'=>OP lo w gz S.r mr mx aa e w':=by
 obtain⟨i0,hi,b0,bF,bx⟩:=info_parts S7;have HS:=Tg h;have ag:=Tg aV;have bD:=Tg bg;have bK:=Tg a2;have b9:=Tg M;have HR:=Tg hr;obtain⟨u,d,bI⟩:=zr h.ari;obtain⟨H,l,bA⟩:=zr h.fac;obtain⟨C,j,bG⟩:=zr h.rul.own;subst bI bA bG;have bQ:=h.rul.K;have aS:=λW0:U=>run_make (P:=prog) (w:=W0) 150 162 i0 _ underlying150 hi b0 .i64 .i64 (S.M.j:Int) (S.M.j:Int) η (Int.le_refl _) (by rw[bx];omega) η;rw[bF] at aS;clear h aV bg a2 M hr;go_enter func74,ntmps74;go_upto_region 4 with fail
 have aP:μ w ((((w.C (.E #[ι S.r,.k u S.M.j d,.k H S.facts.j l,.k C S.H.j j] 146)).C (.E #[ν,ι 0,ι 0,ι 0] 152)).C (.E #[.k (Z ⟨w.o.q+1+1+1,0,Y⟩) S.M.j S.M.j,ι 0,ι 0,ι 0,ι S.r,ι mr,ι mx,ν] 214)).C (.E (madeCells #[.u Y] S.M.j) 162)):=γ;have bm:=(((Th.new w #[ι S.r,.k u S.M.j d,.k H S.facts.j l,.k C S.H.j j] 146).up (.E #[ν,ι 0,ι 0,ι 0] 152)).up (.E #[.k (Z ⟨w.o.q+1+1+1,0,Y⟩) S.M.j S.M.j,ι 0,ι 0,ι 0,ι S.r,ι mr,ι mx,ν] 214)).up (.E (madeCells #[.u Y] S.M.j) 162);have aR:=(((Th.new (w.C (.E #[ι S.r,.k u S.M.j d,.k H S.facts.j l,.k C S.H.j j] 146)) #[ν,ι 0,ι 0,ι 0] 152).up (.E #[.k (Z ⟨w.o.q+1+1+1,0,Y⟩) S.M.j S.M.j,ι 0,ι 0,ι 0,ι S.r,ι mr,ι mx,ν] 214)).up (.E (madeCells #[.u Y] S.M.j) 162)).at' (b':=w.o.q+1) ζ;have bv:=((Th.new ((w.C (.E #[ι S.r,.k u S.M.j d,.k H S.facts.j l,.k C S.H.j j] 146)).C (.E #[ν,ι 0,ι 0,ι 0] 152)) #[.k (Z ⟨w.o.q+1+1+1,0,Y⟩) S.M.j S.M.j,ι 0,ι 0,ι 0,ι S.r,ι mr,ι mx,ν] 214).up (.E (madeCells #[.u Y] S.M.j) 162)).at' (b':=w.o.q+1+1) ζ;have af:=rZ (((w.C (.E #[ι S.r,.k u S.M.j d,.k H S.facts.j l,.k C S.H.j j] 146)).C (.E #[ν,ι 0,ι 0,ι 0] 152)).C (.E #[.k (Z ⟨w.o.q+1+1+1,0,Y⟩) S.M.j S.M.j,ι 0,ι 0,ι 0,ι S.r,ι mr,ι mx,ν] 214)) S.M.j 162 (.u Y) b_;have aZ:(((w.C (.E #[ι S.r,.k u S.M.j d,.k H S.facts.j l,.k C S.H.j j] 146)).C (.E #[ν,ι 0,ι 0,ι 0] 152)).C (.E #[.k (Z ⟨w.o.q+1+1+1,0,Y⟩) S.M.j S.M.j,ι 0,ι 0,ι 0,ι S.r,ι mr,ι mx,ν] 214)).o.q=w.o.q+1+1+1:=ζ;rw[aZ] at af;have a7:X (hO lo w ((((w.C (.E #[ι S.r,.k u S.M.j d,.k H S.facts.j l,.k C S.H.j j] 146)).C (.E #[ν,ι 0,ι 0,ι 0] 152)).C (.E #[.k (Z ⟨w.o.q+1+1+1,0,Y⟩) S.M.j S.M.j,ι 0,ι 0,ι 0,ι S.r,ι mr,ι mx,ν] 214)).C (.E (madeCells #[.u Y] S.M.j) 162)) gz gz (w.o.q+1+1) (w.o.q+1+1+1) S.M.j S.r mr mx S.M []):=⟨η,η,η,bv,yo af (by have:=ag.l;omega),(λi a b=>by simp at b),Tp.of gz aP⟩;have s:=Tg bm;have A:=Tg aR;clear aP bm aR bv af aZ aS;generalize ((((w.C (.E #[ι S.r,.k u S.M.j d,.k H S.facts.j l,.k C S.H.j j] 146)).C (.E #[ν,ι 0,ι 0,ι 0] 152)).C (.E #[.k (Z ⟨w.o.q+1+1+1,0,Y⟩) S.M.j S.M.j,ι 0,ι 0,ι 0,ι S.r,ι mr,ι mx,ν] 214)).C (.E (madeCells #[.u Y] S.M.j) 162))=w1 at *;generalize hg:w.o.q+1+1+1=g at *;generalize h8:w.o.q+1+1=t8 at *;generalize h6:w.o.q+1=t6 at *;have bM:t6≠t8:=η;have bT:w.o.q<t6:=η;have bR:t8<g:=η;have bP:t6<g:=η;clear hg h8 h6;go_loopw [28] (λb7 wr=>∃m:Nat,m<=S.M.j/\b7=ι m/\∃k tbs,X (hO lo w wr gz k t8 g S.M.j S.r mr mx S.M tbs)/\X (tbs.j=m)/\X (Th wr w.o.q #[ι S.r,.k u S.M.j d,.k H S.facts.j l,.k C S.H.j j] 146)/\X (Th wr t6 #[ν,ι 0,ι 0,ι 0] 152)) (λi _=>S.M.j-(intOf i).D);exact⟨0,zs _,rfl,gz,[],a7,rfl,s,A⟩;clear a7 s A;obtain⟨m,hm,rfl,k,tbs,T,aI,s,A⟩:=hrel;have I:=T.l.mod.q;have E:=zY ag.l I;by_cases N:m<S.M.j
 .have a9:wr.r lo 3 1 (.k u S.M.j d) S.M.j (S.M.map TN):=sP HS.l.ari T.l.mod (λb _ q=>by
   rcases q with q|q;exact q.2 rfl;revert q;decide)
  obtain⟨ga,bw,ad,_,bU,aX⟩:=yr a9 η;simp only[O.slice.injEq] at ad;have aF:=ad.1;clear ad;subst aF;have q0:=aX m (ι (S.M[m]:Nat)) (by simp[N,TN]);have b8:S.M[m]<=100000000:=bK.l _ (zq _);obtain⟨bf,bq,aN⟩:=T.l.box.e;obtain⟨V,M,ac⟩:=s.l.e;have az:(m:Int)<(S.M.j:Int):=η;have HN:X (∀W0,μ wr W0->Calls prog 119 #[ι S.r,ι (S.M[m]:Nat)] W0 λe w'=>∃tb,e=ε ((π tb))/\w'.p ⟨t8,0,Y⟩=Z (.k (Z ⟨g,0,Y⟩) S.M.j S.M.j)/\w'.p ⟨w.o.q,0,Y⟩=Z (ι S.r)/\w'.p ⟨g,m,Y⟩=Z (.u Y)/\(∀o,w'.frozen? ⟨g,o,Y⟩=false)/\g<w'.o.q/\X (μ wr w'/\∃ap,hO lo w (w'.x ⟨g,m,Y⟩ ((π tb))) gz ap t8 g S.M.j S.r mr mx S.M (tbs++[tb]))):=λW0 hb=>by
   refine(BB W0 S.r S.M[m] bd.1 b8).y ?_;rintro e w' ⟨tb,fp,rfl,ht,aU⟩;have hB:=Tk hb aU;have h0:=T.l.step (Tp.of k hb);have h1:=T.l.step (Tp.of k hB);have aG:=aI.l;have hp:=h0.push (tb:=tb) (fp:=fp) (zY E hb.q) η (by rw[aG,show S.M.g m 0=S.M[m] by simp[List.getD,N]];exact ht) aU;rw[aG] at hp;refine⟨tb,rfl,h1.box.H.1 0,(hB.cell ac).A (V 0),?_,vg h1.I,yG h1.I rfl,hB,_,hp⟩;obtain⟨g',bO,be,_,_,bH⟩:=yr h1.I η;simp only[O.slice.injEq,zt,Addr.mk.injEq,and_true] at be;have e:=be.1;subst e;refine bH m _ ?_;rw[ff (by simp[T1,aG]),List.getElem?_replicate,zb (by simp only[T1,xu];omega)]
  have x8:wr.p ⟨t8,0,Y⟩=Z (.k (Z ⟨g,0,Y⟩) S.M.j S.M.j):=bf 0;have x3:wr.p ⟨w.o.q,0,Y⟩=Z (ι S.r):=V 0;clear bf V aX a9;generalize S.M[m]=am at *;go_upto_region 6 with fail
  go_region_held3 (λw'=>w'.p ⟨t8,0,Y⟩=Z (.k (Z ⟨g,0,Y⟩) S.M.j S.M.j)/\w'.p ⟨w.o.q,0,Y⟩=Z (ι S.r)) (first|go_keep|(go_simp;done)) (first|(go_at_call 119;refine(HN.l _ (by exact(zI (zn _ _) 1))).y ?_;rintro e w2 ⟨tb,rfl,y8,y3,yg,yf,yl,HX⟩))
  have aK:=HX.l.1;obtain⟨ap,bh⟩:=HX.l.2;have bL:=Tg bh;have aQ:X (Th (w2.x ⟨g,m,Y⟩ ((π tb))) w.o.q _ 146):=(s.l.u aK).set_ne η _ _;have aW:X (Th (w2.x ⟨g,m,Y⟩ ((π tb))) t6 _ 152):=(A.l.u aK).set_ne η _ _;clear aK bh HX y8 y3 yg yf yl HN x8 x3 bq aN M ac q0;generalize w2.x ⟨g,m,Y⟩ ((π tb))=W3 at *;go_wp2;exact⟨⟨m+1,η,ξ,ap,tbs++[tb],bL,show(tbs++[tb]).j=m+1 by simp[aI.l],aQ,aW⟩,by simp[intOf];omega⟩
 obtain rfl:m=S.M.j:=η;have a8:=Tg (T.l.done ag.l aI.l bN bd);have aB:=Tg T.l.mod;have bb:=Tg (Uu wr k t8 _ S.r mr mx _ a8.l E);clear T N hm;go_upto_region 9 with (first|(go_at_call 120;refine bb.l.y ?_;rintro e w2 ⟨rfl,bo,a4,bc,ay⟩))
 have aq:=Tg (s.l.mod ay (gM θ _));have aC:X (Th w2 t6 _ 152):=A.l.mod ay (gM θ _);have a5:X (zZ lo w2 k t8 (l7 S) S.r mr mx ⟨.k (Z ⟨g,0,Y⟩) S.M.j S.M.j,tbs,bo,a4⟩):=bc;have a1:=Tg (aB.l.A (ay.more λ_ _ q=>Fy q));clear s A a8 aB bb bc ay I E;obtain⟨R1,b1,hF,hE⟩:∃R1 b1,gJ mr S.facts (l7 S)=Z (R1,b1)/\(b1=false/\aa=Y∨b1=true/\∃R2 b2,kP G S.r mr mx S.H S.M.j 0 R1=Z (R2,b2)/\aa=if b2 then Z R2 else Y):=by
  have hr:=HR.l;unfold pk at hr;split at hr;cases hr;rename_i R1 hA;simp at hr;exact⟨R1,false,hA,zh ⟨rfl,hr.z⟩⟩;rename_i R1 hA;rw[qn] at hr;obtain⟨⟨R2,b2⟩,h1,h2⟩:=hr;exact⟨R1,true,hA,ze ⟨rfl,R2,b2,h1,h2.z⟩⟩
 have HE:=Tg hE;have aO:X (gJ mr (S.facts.drop 0) (l7 S)=Z (R1,b1)):=hF;clear hE hF;obtain⟨V,M,ac⟩:=aq.l.e;go_upto_region 10 with fail
 clear V M ac;generalize b5:w2=w5 at *;clear b5;have bt:=Tg (show(l7 S).I.j=S.M.j by simp[l7,qS]);go_loopw [47] (λbJ wr=>∃m:Nat,m<=S.facts.j/\bJ=ι m/\∃Rk k ah an,X (zZ lo wr k t8 Rk S.r mr mx ⟨.k (Z ⟨g,0,Y⟩) S.M.j S.M.j,tbs,ah,an⟩)/\X (Tp lo vo w gz wr k)/\X (Rk.I.j=S.M.j)/\X (Th wr w.o.q #[ι S.r,.k u S.M.j d,.k H S.facts.j l,.k C S.H.j j] 146)/\X (Th wr t6 #[ν,ι 0,ι 0,ι 0] 152)/\X (gJ mr (S.facts.drop m) Rk=Z (R1,b1))) (λi _=>S.facts.j-(intOf i).D);exact⟨0,zs _,rfl,l7 S,k,bo,a4,a5,a1,bt,aq,aC,aO⟩;clear a5 a1 bt aq aC aO;obtain⟨m,hm,rfl,Rk,R,ah,an,ae,L,ai,s,A,aE⟩:=hrel;have I:=L.l.q;have E:=zY ag.l I;by_cases N:m<S.facts.j
 .have a3:=vT HS.l.fac L.l (mW θ θ);obtain⟨gf,b4,ad,_,bV,ao⟩:=yr a3 η;simp only[O.slice.injEq] at ad;have aF:=ad.1;clear ad;subst aF;obtain⟨k0,k1,k2,k3⟩:=FZ S.facts m N;have q0:=ao _ _ k0;have q1:=ao _ _ k1;have q2:=ao _ _ k2;have q3:=ao _ _ k3;have n:=aE.l;rw[xn N] at n;unfold gJ at n;have h3:=b9.l _ (zq N);obtain⟨x,y,z,a0⟩:∃x y z,S.facts[m].row=[x,y,z]:=by
   match af:S.facts[m].row,h3 with
   |[x,y,z],_=>exact⟨x,y,z,rfl⟩
  rw[a0] at q1 q2 q3 n;simp only[List.getD_cons_zero,List.getD_cons_succ] at q1 q2 q3;have az:(m:Int)<(S.facts.j:Int):=η;clear h3 k0 k1 k2 k3 ao a3 a0;generalize S.facts[m].o=p at *;rcases ha:jV mr Rk p [x,y,z] with _|ar;rw[ha] at n;cases n;obtain⟨R3,b3⟩:=ar;rw[ha] at n;have bC:=Tg ((BG ha).A ai.l);have br:=Tg λW0 hb=>E2 W0 R t8 Rk R3 S.r mr mx _ p x y z b3 (ae.l.u hb) (zY E hb.q) ha;have bi:μ wr (wr.C (.E #[ι p,ι x,ι y,ι z] 210)):=γ;have aD:=Tg bi;have au:X (∀Q c,Tp lo (mw p) (wr.C (.E #[ι p,ι x,ι y,ι z] 210)) R Q c->Tp lo vo w gz Q c/\Th Q w.o.q #[ι S.r,.k u S.M.j d,.k (Z ⟨gf,0,Y⟩) S.facts.j l,.k C S.H.j j] 146/\Th Q t6 #[ν,ι 0,ι 0,ι 0] 152):=λQ c D=>by
   have aL:Tp lo (kQ p) wr R Q c:=(Tp.of R aD.l).A (D.more λ_ _ q=>zh q);exact⟨L.l.A (aL.more λ_ _ q=>AW q),s.l.mod aL (nJ θ θ _),A.l.mod aL (nJ θ θ _)⟩
  clear ha bi;cases b3
  .simp only[zt,ye] at n;have HQ:=Tg n.2;clear n;go_wp2_with (go_at_call 121;refine(br.l _ aD.l).y ?_;rintro e Q ⟨rfl,c,W,ab,D⟩;obtain⟨K,_,J⟩:=au.l _ _ D;obtain⟨aj,bp,aJ⟩:=J.e)
   have B:aa=none:=by
    have hE:=HE.l;rw[←HQ.l] at hE;rcases hE with⟨_,hE⟩|⟨hx,_⟩
    exact hE;cases hx
   have aw:X (Tp lo vo w gz _ c):=K.newer (zd.sets t6 [ν,ι 0,ι 0,ι 0] 0 Q) (λb hb=>by simp at hb;omega);refine zO (v:=.B #[.agg #[ν,ι 0,ι 0,ι 0],.i false]) (by simp[results,results74,go_sem,aj]) rfl ?_;rw[B];exact⟨rfl,c,aw.l⟩
  have HQ:X (gJ mr (S.facts.drop (m+1)) R3=Z (R1,b1)):=n;clear n;go_wp2_with (go_at_call 121;refine(br.l _ aD.l).y ?_;rintro e Q ⟨rfl,c,W,ab,D⟩)
  obtain⟨K,al,J⟩:=au.l _ _ D;exact⟨⟨m+1,η,ξ,R3,c,ah,W,ab,K,bC,al,J,HQ⟩,by simp[intOf];omega⟩
 obtain rfl:m=S.facts.j:=η;have n:=aE.l;rw[List.drop_length] at n;simp only[gJ,zt,ye] at n;obtain⟨R2,b2,bn,B⟩:∃R2 b2,kP G S.r mr mx S.H S.M.j 0 Rk=Z (R2,b2)/\aa=if b2 then Z R2 else none:=by
  have hE:=HE.l;rw[←n.2,←n.1] at hE;rcases hE with⟨hx,_⟩|⟨_,hE⟩
  cases hx;exact hE
 have aA:X (kP G S.r mr mx S.H (S.M.j-0) 0 Rk=Z (R2,b2)):=bn;have ak:=Tg B;clear n bn B aE HE N hm I E;obtain⟨V,M,ac⟩:=s.l.e;go_upto_region 16 with fail
 clear V M ac;generalize bE:wr=w6 at *;clear bE;go_loopw [62] (λbz wr=>∃m:Nat,m<=S.M.j/\bz=ι m/\∃Rk k ah an,X (zZ lo wr k t8 Rk S.r mr mx ⟨.k (Z ⟨g,0,Y⟩) S.M.j S.M.j,tbs,ah,an⟩)/\X (Tp lo vo w gz wr k)/\X (Rk.I.j=S.M.j)/\X (Th wr w.o.q #[ι S.r,.k u S.M.j d,.k H S.facts.j l,.k C S.H.j j] 146)/\X (Th wr t6 #[ν,ι 0,ι 0,ι 0] 152)/\X (kP G S.r mr mx S.H (S.M.j-m) m Rk=Z (R2,b2))) (λi _=>S.M.j-(intOf i).D);exact⟨0,zs _,rfl,Rk,R,ah,an,ae,L,ai,s,A,aA⟩;clear ae L ai s A aA;obtain⟨m,hm,rfl,Ri,F,bu,bs,ae,L,ai,s,A,bk⟩:=hrel;have I:=L.l.q;have E:=zY ag.l I;by_cases N:m<S.M.j
 .have r:=bk.l;rw[show S.M.j-m=(S.M.j-(m+1))+1 from by omega] at r;unfold kP at r;rcases ax:pO G S.r mr mx S.H Ri m with _|ar;rw[ax] at r;cases r;obtain⟨R3,b3⟩:=ar;rw[ax] at r;have ba:=HS.l.rul.mod L.l (mW θ θ) (mW θ θ) (mW θ θ);have aT:=Tg (Jl wr F t8 m Ri R3 _ S.H ps S.r mr mx _ G b3 ae.l ba E (by rw[ai.l];exact bD.l) ax);have au:X (∀Q c,Tp lo vo wr F Q c->Tp lo vo w gz Q c/\Th Q w.o.q #[ι S.r,.k u S.M.j d,.k H S.facts.j l,.k C S.H.j j] 146/\Th Q t6 #[ν,ι 0,ι 0,ι 0] 152):=λQ c D=>⟨L.l.A D,s.l.mod D (mW θ θ _),A.l.mod D (mW θ θ _)⟩;obtain⟨V,M,ac⟩:=s.l.e;have az:(m:Int)<(S.M.j:Int):=η;clear ax ba;cases b3
  .simp only[zt,ye] at r;have HQ:=Tg r.2;clear r;go_wp2_with (go_at_call 122;refine aT.l.y ?_;rintro e Q ⟨rfl,c,aY,W,ab,a6,D⟩;obtain⟨K,_,J⟩:=au.l _ _ D;obtain⟨aj,bp,aJ⟩:=J.e)
   have B:aa=none:=by rw[ak.l,←HQ.l];rfl
   have aw:X (Tp lo vo w gz _ c):=K.newer (zd.sets t6 [ν,ι 0,ι 0,ι 0] 0 Q) (λb hb=>by simp at hb;omega);refine zO (v:=.B #[.agg #[ν,ι 0,ι 0,ι 0],.i false]) (by simp[results,results74,go_sem,aj]) rfl ?_;rw[B];exact⟨rfl,c,aw.l⟩
  have HQ:X (kP G S.r mr mx S.H (S.M.j-(m+1)) (m+1) R3=Z (R2,b2)):=r;clear r;go_wp2_with (go_at_call 122;refine aT.l.y ?_;rintro e Q ⟨rfl,c,aY,W,ab,a6,D⟩)
  obtain⟨K,al,J⟩:=au.l _ _ D;exact⟨⟨m+1,η,ξ,R3,c,aY,W,ab,K,a6.A ai.l,al,J,HQ⟩,by simp[intOf];omega⟩
 obtain rfl:m=S.M.j:=η;have r:=bk.l;rw[jC] at r;simp only[kP,zt,ye] at r;have B:aa=Z Ri:=by rw[ak.l,←r.2,←r.1];rfl
 have bB:=Tg B;clear r B ak;obtain⟨aN,bq,d0,d1,d2,d3,d4,d5,d6,d7⟩:=ae.l.at;obtain⟨aj,bp,aJ⟩:=A.l.e;dsimp only at d0;clear d4 d5 d6 d7;have bS:t8≠t6:=λe=>bM e.z;go_wp2;have aH:=zd.sets t6 [.k (Z ⟨g,0,Y⟩) S.M.j S.M.j,ι Ri.count,ι Ri.Q,ι Ri.jg] 0 wr;have aM:Tp lo (gU [152]) wr F _ F:=Tp.ofSave F aH (λb hb=>by
  simp at hb;subst hb;exact⟨by have:=ag.l;omega,aJ,_,_,A.l,xQ.2 rfl⟩)
 have b6:X (zZ lo _ F t8 Ri S.r mr mx ⟨.k (Z ⟨g,0,Y⟩) S.M.j S.M.j,tbs,bu,bs⟩):=ae.l.mod aM (gM θ) (gM θ) (gM θ) (λ_=>gM θ _) (λ_ t ht q=>by rw[xQ.1 q] at ht;exact ht θ);have aw:X (Tp lo vo w gz _ F):=L.l.newer aH (λb hb=>by simp at hb;omega);clear aH aM;refine zO (v:=.B #[.agg #[.k (Z ⟨g,0,Y⟩) S.M.j S.M.j,ι Ri.count,ι Ri.Q,ι Ri.jg],.i true]) (by simp[results,results74,go_sem,aj]) rfl ?_;rw[bB.l];exact⟨F,t8,⟨.k (Z ⟨g,0,Y⟩) S.M.j S.M.j,tbs,bu,bs⟩,rfl,b6.l,aw.l⟩
end
section
open Go.Proofs.Tryz Go.RowKit
variable {lo:Nat}
def zW(ns:κ)(row:zk)(a m:Nat):κ:=(List.range a).map λi=>if i<m then ns.g (row.g i 0) ByteArray.empty else ByteArray.empty
def kS(ns:κ)(row:zk)(a m:Nat):(zW ns row a m).j=a:=by simp[zW]
def RG(ns:κ)(row:zk)(a:Nat):zW ns row a 0=List.replicate a ByteArray.empty:=by
 apply jy;simp[zW];intro i c b;simp[zW]
def PB(ns:κ)(row:zk)(a m:Nat):(zW ns row a m).set m (ns.g (row.g m 0) ByteArray.empty)=zW ns row a (m+1):=by
 apply jy;simp[zW];intro i d c;simp only[lV];by_cases e:m=i;subst e;simp[zW];rw[za e];simp only[zW,ub,fR];by_cases b:i<m;rw[zb b,zb η];rw[za b,za η]
def Rb(ns:κ)(row:zk)(a m:Nat)(h:a<=m):zW ns row a (m+1)=zW ns row a m:=by
 apply jy;simp[zW];intro i b c;rw[kS] at b;simp only[zW,ub,fR];rw[zb η,zb η]
attribute [local go_sem] SC SS S1
def N5(w:U)(B a x y z:Nat)(ns:κ)(h:Vd lo w B 1 ns)(ab:a<=1000):
  Calls prog 79 #[(π B),.agg #[ι x,ι y,ι z],ι a] w λe G=>∃g,w.o.q<=g/\e=ε (.k (Z (δ g)) a a)/\Tn w.o.q G (.k (Z (δ g)) a a) (zW ns [x,y,z] a 3)/\μ w G:=by
 have T:=Tg h;have H:=h.1;obtain⟨i0,S,D,u,A⟩:=info_parts SL;have r:=λW0:U=>run_make (P:=prog) (w:=W0) 30 9 i0 _ underlying30 S D .i64 .i64 (a:Int) (a:Int) η (Int.le_refl _) (by rw[A];omega) η;rw[u] at r;clear h;go_enter func79,ntmps79;go_upto_region 3 with fail
 have t:μ w ((w.C (.E #[ι x,ι y,ι z] 165)).C (.E (madeCells #[.d ByteArray.empty] a) 9)):=γ;have d:=rZ (w.C (.E #[ι x,ι y,ι z] 165)) a 9 (.d ByteArray.empty) b_;have o:(w.C (.E #[ι x,ι y,ι z] 165)).o.q=w.o.q+1:=ζ;rw[o] at d;have p:X (U.ownsRow ((w.C (.E #[ι x,ι y,ι z] 165)).C (.E (madeCells #[.d ByteArray.empty] a) 9)) w.o.q 9 1 (.k (Z (δ (w.o.q+1))) a a) a ((zW ns [x,y,z] a 0).map O.string)):=by
  rw[X,RG,List.map_replicate];exact yo d η
 clear d o r;generalize ((w.C (.E #[ι x,ι y,ι z] 165)).C (.E (madeCells #[.d ByteArray.empty] a) 9))=w1 at *;generalize M:w.o.q+1=g at *;have Q:w.o.q<g:=η;clear M;go_loopw [13] (λC wr=>∃m:Nat,m<=3/\C=ι m/\μ w wr/\X (wr.r w.o.q 9 1 (.k (Z (δ g)) a a) a ((zW ns [x,y,z] a m).map O.string))) (λi _=>3-(intOf i).D);exact⟨0,η,rfl,t,p⟩;clear p t;obtain⟨m,hm,rfl,c,j⟩:=hrel;have L:g<wr.o.q:=yG j.l rfl;have R:=vg j.l;have V:=ym H c.q;by_cases N:m<3
 .have W:=Tg λv=>RK wr B 1 ns v (T.l.u c);by_cases ha:m<a
  .obtain⟨J,aa⟩:∃J,wr.p (ω g m)=Z J:=by
    obtain⟨g',K,s,_,_,l⟩:=yr j.l η;simp only[O.slice.injEq,zt,Addr.mk.injEq,and_true] at s;have e:=s.1;subst e;exact⟨_,l m _ (yn (by simp[zW];omega))⟩
   have f:=uB j.l m (by simp[zW];omega) (.d (ns.g ([x,y,z].g m 0) ByteArray.empty));rw[←lx,PB] at f;have I:(m:Int)<(a:Int):=η;have n:μ w (wr.x (ω g m) (.d (ns.g ([x,y,z].g m 0) ByteArray.empty))):=c.x υ _;have b:X (_/\_):=And.intro f n;clear f n;have E:m=0∨m=1∨m=2:=η;rcases E with rfl|rfl|rfl
   all_goals (
    go_wp2_with (go_at_call 128;refine(W.l _).y ?_;rintro e G ⟨rfl,F⟩;obtain rfl:=F.z))
   exact⟨⟨1,η,rfl,by simpa [List.getD] using b.l.2,by have q:=b.l.1;simpa [X,List.getD] using q⟩,by simp[intOf]⟩;exact⟨⟨2,η,rfl,by simpa [List.getD] using b.l.2,by have q:=b.l.1;simpa [X,List.getD] using q⟩,by simp[intOf]⟩;exact⟨⟨3,η,rfl,by simpa [List.getD] using b.l.2,by have q:=b.l.1;simpa [X,List.getD] using q⟩,by simp[intOf]⟩
  have k:X (wr.r w.o.q 9 1 (.k (Z (δ g)) a a) a ((zW ns [x,y,z] a (m+1)).map O.string)):=by
   rw[Rb ns [x,y,z] a m η];exact j
  have I:¬(m:Int)<(a:Int):=η;have E:m=0∨m=1∨m=2:=η;clear j;rcases E with rfl|rfl|rfl
  all_goals go_wp2
  exact⟨⟨1,η,rfl,c,k⟩,by simp[intOf]⟩;exact⟨⟨2,η,rfl,c,k⟩,by simp[intOf]⟩;exact⟨⟨3,η,rfl,c,k⟩,by simp[intOf]⟩
 obtain rfl:m=3:=η;go_wp2;go_ret;have q:=j.l;exact⟨g,η,rfl,by unfold Tn;rw[kS];exact q,c⟩
def uO(ns:κ):κ->Nat->zk->Option zk
 |[],_,r=>Z r
 |t::a,i,r=>match xr ns t with
  |none=>Y
  |some v=>if i≥3 then Y else uO ns a (i+1) (r.set i v)
def Af:Option zk->O
 |none=>.B #[.agg #[ι 0,ι 0,ι 0],.i false]
 |some r=>.B #[.agg #[ι (r.g 0 0:Nat),ι (r.g 1 0:Nat),ι (r.g 2 0:Nat)],.i true]
def QD{R:Nat}(w:U)(K:Nat)(ns ts:κ)(tv:O)(h:Vd lo w K 1 ns)(hn:ns.j<=1000)(ht:Tn R w tv ts)(hl:ts.j<=2000000):
  Calls prog 82 #[(π K),tv] w λe L=>e=ε (Af (uO ns ts 0 [0,0,0]))/\μ w L:=by
 have HC:=Tg h;have HT:=Tg ht;obtain⟨ao,ac,rfl⟩:=ht.qy;have ab:=h.1;have HV:X (∀W x,μ w W->Calls prog 129 #[.u (Z (ω K 1)),.d x] W λe L=>e=ε (.B #[ι (((xr ns x).g 0:Nat):Int),.i (xr ns x).I])/\μ W L):=λW x hb=>(LG W K 1 ns x (HC.l.u hb) hn).y (by
  rintro e L ⟨rfl,m,rfl⟩;exact⟨rfl,zI (zn _ _) m⟩)
 obtain⟨f,y⟩:∃f,f=uO ns ts 0 [0,0,0]:=⟨_,rfl⟩;rw[←y];have F:X (uO ns (ts.drop 0) 0 [0,0,0]=f):=y.z;clear h ht y;go_enter func82,ntmps82;go_upto_region 3 with fail
 have H:μ w ((w.C (.E #[ι 0,ι 0,ι 0] 165)).C (.E #[ι 0,ι 0,ι 0] 165)):=γ;have D:=(Th.new w #[ι 0,ι 0,ι 0] 165).up (.E #[ι 0,ι 0,ι 0] 165);have C:=(Th.new (w.C (.E #[ι 0,ι 0,ι 0] 165)) #[ι 0,ι 0,ι 0] 165).at' (b':=w.o.q+1) ζ;have l:X (Th _ w.o.q #[ι 0,ι 0,ι 0] 165):=D;have t:X (Th _ (w.o.q+1) #[ι ((0:Nat):Int),ι ((0:Nat):Int),ι ((0:Nat):Int)] 165):=C;clear D C;generalize (w.C (.E #[ι 0,ι 0,ι 0] 165)).C (.E #[ι 0,ι 0,ι 0] 165)=w1 at *;generalize hg:w.o.q+1=S at *;have ag:w.o.q<S:=η;clear hg;go_loopw [13] (λV wr=>∃m:Nat,m<=ts.j/\V=ι m/\∃a b c:Nat,μ w wr/\X (Th wr w.o.q #[ι 0,ι 0,ι 0] 165)/\X (Th wr S #[ι (a:Nat),ι (b:Nat),ι (c:Nat)] 165)/\X (uO ns (ts.drop m) m [a,b,c]=f)) (λi _=>ts.j-(intOf i).D);exact⟨0,η,rfl,0,0,0,H,l,t,F⟩;clear l t F H;obtain⟨m,hm,rfl,a,b,c,n,l,t,M⟩:=hrel;have ad:=ym ab n.q;by_cases E:m<ts.j
 .obtain⟨g,T,hg,P⟩:=(HT.l.u n).cell m E;subst T;have o:=M.l;rw[xn E] at o;unfold uO at o;have ah:(m:Int)<(ts.j:Int):=η;generalize ts[m]=x at *;have j:=HV.l wr x n;rcases J:xr ns x with _|v
  .rw[J] at o j;simp only[kG,kN] at j;have G:X (f=Y):=o.z;clear o J;go_wp2_with (go_at_call 129;refine j.y ?_;rintro e w4 ⟨rfl,d⟩;have u:=l.l.u d;obtain⟨z,B,I⟩:=u.e;have k:=Tk n d)
   refine zO (v:=.B #[.agg #[ι 0,ι 0,ι 0],.i false]) (by simp[results,results82,go_sem,z]) rfl ?_;rw[G.l];exact⟨rfl,((k.x ζ _).x ζ _).x ζ _⟩
  rw[J] at o j;simp only[uD,j8] at j;clear J;by_cases h3:m≥3
  .have G:=Tg (show f=Y by simpa [h3] using o.z);have ae:(3:Int)<=(m:Int):=η;clear o;go_wp2_with (go_at_call 129;refine j.y ?_;rintro e w4 ⟨rfl,d⟩;have u:=l.l.u d;obtain⟨z,B,I⟩:=u.e;have k:=Tk n d)
   refine zO (v:=.B #[.agg #[ι 0,ι 0,ι 0],.i false]) (by simp[results,results82,go_sem,z]) rfl ?_;rw[G.l];exact⟨rfl,((k.x ζ _).x ζ _).x ζ _⟩
  have A:=Tg (show uO ns (ts.drop (m+1)) (m+1) ([a,b,c].set m v)=f by simpa [h3] using o);clear o M;have hc:m=0∨m=1∨m=2:=η;rcases hc with rfl|rfl|rfl
  all_goals go_wp2_with (go_at_call 129;refine j.y ?_;rintro e w4 ⟨rfl,d⟩;have s:=t.l.u d;have r:=Tg (l.l.u d);have p:=Tg s;obtain⟨N,Q,aa⟩:=s.e;have k:=Tk n d;clear s)
  exact⟨⟨1,η,rfl,v,b,c,k.x υ _,r.l.set_ne η _ _,by have q:=p.l.set 0 (ι v);simpa [X] using q,A⟩,by simp[intOf];omega⟩;exact⟨⟨2,η,rfl,a,v,c,k.x υ _,r.l.set_ne η _ _,by have q:=p.l.set 1 (ι v);simpa [X] using q,A⟩,by simp[intOf];omega⟩;exact⟨⟨3,η,rfl,a,b,v,k.x υ _,r.l.set_ne η _ _,by have q:=p.l.set 2 (ι v);simpa [X] using q,A⟩,by simp[intOf];omega⟩
 obtain rfl:m=ts.j:=η;have o:=M.l;rw[List.drop_length,uO] at o;have G:X (f=Z [a,b,c]):=o.z;clear o;obtain⟨z,B,I⟩:=l.l.e;obtain⟨N,Q,aa⟩:=t.l.e;have af:S≠w.o.q:=η;go_wp2;refine zO (v:=.B #[.agg #[ι a,ι b,ι c],.i true]) (by simp[results,results82,go_sem,z]) rfl ?_;rw[G.l];exact⟨rfl,((n.x ζ _).x ζ _).x ζ _⟩
end
section
open Go.Proofs.Tryz Go.RowKit
variable {lo lp:Nat}{ns:κ}{tbs:List Nat}
structure ko (lo lp:Nat) (w:U) (rb:Nat) (t:List zf) (ns:κ) (R:zv) (pv nv rv:O) (tbs:List Nat):Prop where
 low:lo<=rb
 box:Th w rb #[pv,nv,rv,ι R.count,ι R.Q,ι R.jg] 156
 preds:w.r lp 221 3 pv t.j (um t)
 vals:Tn lo w nv ns
 I:w.r lo 162 1 rv R.I.j (T1 tbs)
 tlen:tbs.j=R.I.j
 tries:∀p (_:p<R.I.j) (_:p<tbs.j),∃fp,yb lo w tbs[p] R.I[p] fp
 K:t.j<=1000/\ns.j<=1000/\R.I.j<=1000
def ko.u{w w':U}{d:Nat}{t:Ψ}{ns:κ}{R:zv}{f e g:O}{tbs:Φ}(h:ko lo lp w d t ns R f e g tbs)(c:μ w w'):ko lo lp w' d t ns R f e g tbs:=
 ⟨h.low,h.box.u c,zy h.preds c,h.vals.u c,zy h.I c,h.tlen,λp a b=>by obtain⟨i,q⟩:=h.tries p a b;exact⟨i,q.u c⟩,h.K⟩
def ko.tg{w:U}{b:Nat}{t:Ψ}{R:zv}{a d c:O}(h:ko lo lp w b t ns R a d c tbs):TG lp w b 0 t:=⟨a,h.box.lt,h.box.H.1 0,h.preds⟩
def ko.cat{w:U}{b:Nat}{t:Ψ}{R:zv}{d a c:O}(h:ko lo lp w b t ns R d a c tbs):Vd lo w b 1 ns:=⟨h.box.lt,a,h.box.H.1 1,h.vals⟩
def ri(t:List zf)(ns:κ)(R:zv)(a:ByteArray)(row:κ):Nat×Nat:=
 if (zU t a).I=false∨zC t a≥R.I.j then(0,11)
 else if row.j≠yc t (zC t a) then(0,12)
 else match uO ns row 0 [0,0,0] with
  |none=>(0,12)
  |some r=>match ua (R.I.g (zC t a) zl.zero) r with
   |none=>(0,12)
   |some k=>(k,0)
def Cr(ns:κ):∀(ts:κ) (i:Nat) (r a:zk),uO ns ts i r=Z a->a.j=r.j
 |[],i,r,a,h=>by simp[uO] at h;rw[h]
 |t::ts,i,r,a,h=>by
  unfold uO at h;split at h
  .cases h
  .split at h
   .cases h
   .have:=Cr ns ts (i+1) _ a h;simpa using this
def A6(w:U):μ w w:=zn _ _
def Nj{ad:Nat}(w:U)(B:Nat)(t:Ψ)(ns:κ)(R:zv)(pv nv rv:O)(tbs:Φ)(b:ByteArray)(row:κ)(tv:O)(h:ko lo lp w B t ns R pv nv rv tbs)(ht:Tn ad w tv row)(hl:row.j<=2000000):
  Calls prog 43 #[(π B),.d b,tv] w λe f=>e=ε (.B #[ι ((ri t ns R b row).1:Nat),ι ((ri t ns R b row).2:Nat)])/\μ w f:=by
 have k:=Tg (ek lp w B 0 t b h.tg h.K.1);have A:X (Calls prog 80 #[(π B),ι (zC t b:Nat)] w λe f=>e=ε (ι (yc t (zC t b):Nat))/\f=w):=Bu lp w B 0 t _ h.tg;have o:=Tg (QD w B ns row tv h.cat h.K.2.1 ht hl);have J:=Tg h;obtain⟨aw,u⟩:∃a,a=ri t ns R b row:=⟨_,rfl⟩;rw[←u];have c:=Tg u;clear u;unfold ri at c;obtain⟨hc,hf,S⟩:=h.box.e;obtain⟨ax,p,an⟩:=zr h.I;subst an;obtain⟨av,au,ag⟩:=ht.qy;subst ag;have d2:=hc 2;have ar:=h.K.2.2;clear h ht hc;by_cases G:(zU t b).I=false
 .rw[zb (zh G)] at c;rw[G] at k;clear G;generalize zC t b=g at *;go_enter func43,ntmps43;go_wp2_with (go_at_call 77;refine k.l.y ?_;rintro e H ⟨rfl,d⟩;obtain rfl:=d.z)
  go_ret2
  exact⟨by rw[c.l];rfl,A6 w⟩
 have K:(zU t b).I=true:=by cases D:(zU t b).I with|true=>rfl|false=>exact zB D G
 rw[K] at k;by_cases V:zC t b≥R.I.j
 .rw[zb (ze V)] at c;have ae:(R.I.j:Int)<=(zC t b:Int):=η;clear G K;generalize zC t b=g at *;go_enter func43,ntmps43;go_wp2_with (go_at_call 77;refine k.l.y ?_;rintro e H ⟨rfl,d⟩;obtain rfl:=d.z)
  go_ret2
  exact⟨by rw[c.l];rfl,A6 w⟩
 rw[za (by rintro(q|q);exact G q;exact V q)] at c;have ae:¬(R.I.j:Int)<=(zC t b:Int):=η;clear G K;generalize zC t b=g at *;by_cases C:row.j≠yc t g
 .rw[zb C] at c;have Q:¬(row.j:Int)=(yc t g:Int):=η;clear C;generalize yc t g=af at *;go_enter func43,ntmps43;go_wp2_with (first|(go_at_call 77;refine k.l.y ?_;rintro e H ⟨rfl,d⟩;obtain rfl:=d.z)|(go_at_call 80;refine A.l.y ?_;rintro e H ⟨rfl,d⟩;obtain rfl:=d.z))
  go_ret2
  exact⟨by rw[c.l];rfl,A6 w⟩
 rw[za C] at c;have Q:(row.j:Int)=(yc t g:Int):=η;have ao:=Tg (show row.j=yc t g by omega);rw[←ao.l] at A;clear C Q;rcases s:uO ns row 0 [0,0,0] with _|r
 .rw[s] at c o;simp only[Af] at o;clear s;go_enter func43,ntmps43;go_wp2_with (first|(go_at_call 77;refine k.l.y ?_;rintro e H ⟨rfl,d⟩;obtain rfl:=d.z)|(go_at_call 80;refine A.l.y ?_;rintro e H ⟨rfl,d⟩;obtain rfl:=d.z)|(go_at_call 82;refine o.l.y ?_;rintro e i ⟨rfl,l⟩))
  go_ret2
  exact⟨by rw[c.l];rfl,zQ l γ (zg _)⟩
 rw[s] at c o;have N:=Cr ns row 0 _ r s;obtain⟨x,y,z,rfl⟩:∃x y z,r=[x,y,z]:=by
  match r,N with
  |[x,y,z],_=>exact⟨x,y,z,rfl⟩
 simp only[Af,List.getD_cons_zero,List.getD_cons_succ] at o;have E:g<R.I.j:=η;have P:g<tbs.j:=by rw[J.l.tlen];exact E
 obtain⟨M,am,F,_,ac,ab⟩:=yr J.l.I η;simp only[O.slice.injEq] at F;have ai:=F.1;clear F;subst ai;have ah:=ab g (.u (Z ⟨tbs[g],0,Y⟩)) (by simp[T1,P,pt]);have T:X (∀v,μ w v->Calls prog 83 #[.u (Z ⟨tbs[g],0,Y⟩),.agg #[ι x,ι y,ι z]] v λe f=>e=ε (.B #[ι (((ua R.I[g] [x,y,z]).g 0:Nat):Int),.i (ua R.I[g] [x,y,z]).I])/\μ v f):=λv hb=>by
  obtain⟨fp,q⟩:=J.l.tries g E P;exact Cg v _ _ fp x y z (q.u hb)
 dsimp only at c;rw[show R.I.g g zl.zero=R.I[g] by simp[List.getD,E]] at c;generalize ua R.I[g] [x,y,z]=mk at *;generalize tbs[g]=tb at *;have aq:(g:Int)<(R.I.j:Int):=η;clear s N ab;go_enter func43,ntmps43;go_upto_region 9 with (first|(go_at_call 77;refine k.l.y ?_;rintro e H ⟨rfl,d⟩;obtain rfl:=d.z)|(go_at_call 80;refine A.l.y ?_;rintro e H ⟨rfl,d⟩;obtain rfl:=d.z)|(go_at_call 82;refine o.l.y ?_;rintro e i ⟨rfl,l⟩;have y2:=zi l S d2;have yp:=zi l ac ah;have yl:=ym S l.q;have yg:=ym ac l.q))
 have n:μ i (i.C (.E #[ι x,ι y,ι z] 165)):=γ;have j:=Th.new i #[ι x,ι y,ι z] 165;generalize i.C (.E #[ι x,ι y,ι z] 165)=W at *;have u2:=zi n yl y2;have up:=zi n yg yp;have v0:W.p ⟨i.o.q,0,Y⟩=Z (ι x):=by rw[j.H.1];rfl
 have v1:W.p ⟨i.o.q,1,Y⟩=Z (ι y):=by rw[j.H.1];rfl
 have v2:W.p ⟨i.o.q,2,Y⟩=Z (ι z):=by rw[j.H.1];rfl
 have aa:=Tk l n;have aj:=ym yl n.q;have ak:=ym yg n.q;have I:=j.lt;have m:X (∀v,μ W v->Calls prog 83 #[(π tb),.agg #[ι x,ι y,ι z]] v λe f=>e=ε (.B #[ι ((mk.g 0:Nat):Int),.i mk.I])/\X (μ w f)/\f.p ⟨B,2,Y⟩=Z (.k (Z ⟨M,0,Y⟩) R.I.j p)/\f.p ⟨M,g,Y⟩=Z ((π tb))/\f.p ⟨i.o.q,0,Y⟩=Z (ι x)/\f.p ⟨i.o.q,1,Y⟩=Z (ι y)/\f.p ⟨i.o.q,2,Y⟩=Z (ι z)):=λv hb=>by
  refine(T.l v (Tk aa hb)).y ?_;rintro e f ⟨rfl,al⟩;have D:=Tk hb al;exact⟨rfl,Tk aa D,(D.cell aj).A u2,(D.cell ak).A up,(D.cell I).A v0,(D.cell I).A v1,(D.cell I).A v2⟩
 clear j n y2 yp yl yg T;rcases mk with _|kk
 .simp only[kG,kN] at m;go_region_held3 (λf=>f.p ⟨B,2,Y⟩=Z (.k (Z ⟨M,0,Y⟩) R.I.j p)/\f.p ⟨M,g,Y⟩=Z ((π tb))/\f.p ⟨i.o.q,0,Y⟩=Z (ι x)/\f.p ⟨i.o.q,1,Y⟩=Z (ι y)/\f.p ⟨i.o.q,2,Y⟩=Z (ι z)) (first|go_keep|(go_simp;done)) (first|(go_at_call 83;refine(m.l _ (by exact(zI (zn _ _) 1))).y ?_;rintro e w5 ⟨rfl,L,a2,ap,a0,a1,a3⟩))
  go_wp2;go_ret2
  exact⟨by rw[c.l];rfl,L.l⟩
 simp only[uD,j8] at m;go_region_held3 (λf=>f.p ⟨B,2,Y⟩=Z (.k (Z ⟨M,0,Y⟩) R.I.j p)/\f.p ⟨M,g,Y⟩=Z ((π tb))/\f.p ⟨i.o.q,0,Y⟩=Z (ι x)/\f.p ⟨i.o.q,1,Y⟩=Z (ι y)/\f.p ⟨i.o.q,2,Y⟩=Z (ι z)) (first|go_keep|(go_simp;done)) (first|(go_at_call 83;refine(m.l _ (by exact(zI (zn _ _) 1))).y ?_;rintro e w5 ⟨rfl,L,a2,ap,a0,a1,a3⟩))
 go_wp2;go_ret2
 exact⟨by rw[c.l];rfl,L.l⟩
end
section
open Classical
def IJ{S:js}(P:DB->Prop)(i:P (zz3 S.facts))(hs:∀s k D,P D->P (zy4 (S.H.filter λr=>decide (r.L=s)) k D)){mr mx:Nat}{D:DB}{k:Nat}(h:z0n S mr mx=Z (D,k)):P D:=by
 have g:∀s (left k:Nat) (D a:DB) (b:Nat),P D->zyo (S.H.filter λr=>decide (r.L=s)) mr left k D=Z (a,b)->P a:=by
  intro s left;induction left with
  |zero=>intro k D a b _ h;cases h
  |succ left d=>
   intro k D a b c h;unfold zyo at h;split at h;split at h;simp only[zt,ye] at h;rw[←h.1];exact hs s _ D c;exact d (k+1) _ a b (hs s _ D c) h;cases h
 have l:∀(n s k:Nat) (D a:DB) (b:Nat),P D->zyq S.H mr mx n s k D=Z (a,b)->P a:=by
  intro n;induction n with
  |zero=>
   intro s k D a b c h;unfold zyq at h;simp only[zt,ye] at h;rw[←h.1];exact c
  |succ n d=>
   intro s k D a b c h;unfold zyq at h;split at h;exact d (s+1) k D a b c h;split at h;cases h;rename_i f e j;exact d (s+1) e f a b (g s _ k D f e c j) h
 unfold z0n at h;split at h;exact l _ 0 0 _ D k i h;cases h
def iu(a:List Nat)(n:Nat)(D:DB):Prop:=∀p x,Tq D p x->∀i,i<a.g p 0->x.g i 0<n
def C3{cs:Ξ}{c:zc}(k:c∈cs){l:zj}(h:l∈zm c)(t:Ψ)(vs:κ)(a:Φ):∀x∈(zL t (zp cs) vs a l).v,x.var=false->x.z<(zp cs).j:=by
 intro x d b;unfold zL at d;simp only[zF] at d;obtain⟨z,f,rfl⟩:=d;unfold ut at f;obtain⟨y,j,rfl⟩:=zF.1 f;obtain⟨o,p⟩:=rh 0 (ut (zp cs) vs a l) (uR (zp cs) vs a y);obtain⟨i,n⟩:=gQ cs;unfold uR at b ⊢;by_cases e:zT y=true;rw[zb e] at b;cases b;rw[za e];obtain⟨v,g,m⟩:=Cw i ((n y).2 ⟨c,k,l,h,j,by simpa using e⟩);rw[g];exact m
def Ff{l:zw}{a W n:Nat}(h:qz l a W)(c:∀x∈l.v,x.var=false->x.z<n){y:Φ}(f:∀p,zK l p=true->y.g p 0<n):∀i,i<a->(zH l y).g i 0<n:=by
 intro i g;have b:i<l.v.j:=by rw[h.len];exact g
 rw[sH l y (by have:=h.le3;omega)];unfold Tj;rw[zb b,show l.v.g i ⟨false,0,0⟩=l.v[i] by simp[List.getD,b]];have d:=zq b;unfold U0;cases e:l.v[i].var;rw[za ζ];exact c _ d e;rw[zb (by simp[(h.lev _ d e).1])];exact f _ ((fJ l _).2 ⟨_,d,e,rfl⟩)
def JM{cs:Ξ}{Q t:Ψ}(h:Ty cs Q t)(os:Option (List (Option (List Int))))(hp:∀i (w:i<cs.j),ka (yL ((uo os i).g [])) (zx cs[i]).j){mr mx:Nat}{D:DB}{k:Nat}(hr:z0n (vf t (zp cs) os cs) mr mx=Z (D,k)):iu (t.w (·.jh)) (zp cs).j D:=by
 have u:=tT h (zp cs) os hp;refine IJ (S:=vf t (zp cs) os cs) (λD=>iu (t.w (·.jh)) (zp cs).j D) ?_ ?_ hr;intro p x g i w;unfold Tq zz3 at g;split at g;rename_i R;obtain⟨f,f1,rfl,rfl⟩:=R;have q:=f1;unfold vJ at q;obtain⟨c,P,rfl⟩:=zF.1 q;have b:=(xz.1 P).1;have hb:c.d=[]:=by
  have:=(xz.1 P).2;simp at this;exact this
 obtain⟨e,_,_,q3,q4,_⟩:=h.lit b (l:=c.g) (by simp[zm]);have F:i<c.g.k.j:=by
  have a:i<(t.w (·.jh)).g (zC t c.g.o) 0:=w;rw[q4] at a;exact a
 have d:qz (zL t (zp cs) [] [0,0,0,0,0] c.g) c.g.k.j (zM (zp cs).j):=eO t _ [] _ c.g (λk=>by
  by_cases hk:k<5;have:k=0∨k=1∨k=2∨k=3∨k=4:=η;rcases this with rfl|rfl|rfl|rfl|rfl<;>decide
  simp[List.getD,List.getElem?_eq_none (show([0,0,0,0,0]:Φ).j<=k by simp;omega)]) (mI (h.many c b)).1
 refine Ff d (C3 b (by simp[zm]) t [] _) (λp n=>?_) i F;obtain⟨y,G,N,_⟩:=B7.1 n;have M:=h.safe c b;simp only[xB,uK] at M;have:=nN.1 M.1 y G N;have v:zx c=[]:=by unfold zx;rw[hb];rfl
 rw[v] at this;cases this;cases g;intro s k D J p x g i w;unfold Tq zy4 at g;rcases z:D p x with _|m;rw[z] at g;simp only at g;split at g;rename_i C;obtain⟨r,E,rfl,y,G,N,rfl⟩:=C;have o:=(xz.1 E).1;have d:=u.H.H r o;unfold uP at o;obtain⟨⟨c,j⟩,V,A⟩:=mP.1 o;have W:=su.1 V;have b:=fD W;split at A;simp only[zt] at A;subst A;refine Ff d.g (C3 b (by simp[zm]) t _ _) (λp n=>?_) i w;obtain⟨l,I,l2⟩:=d.fine.safe p (d.fine.g p n);obtain⟨tm,L,K,T⟩:=(fJ l p).1 l2;obtain⟨H,a,rfl⟩:=vd L;obtain⟨w1,B⟩:=d.qc l I;have:=J l.o (zH l y) (G l I) H (by have:=B.len;have z:=a;rw[this] at z;exact z);rw[sH l y (by have:=B.len;have:=B.le3;omega)] at this;unfold Tj at this;rw[zb a,show l.v.g H ⟨false,0,0⟩=l.v[H] by simp[List.getD,a]] at this;unfold U0 at this;rw[zb (by simp[K,(B.lev _ L K).1]),T] at this;exact this;cases A;cases g;exact J p x (by unfold Tq;rw[z];rfl) i w
def lY{ns:κ}(n:y9 ns){d:Nat}(o:d<=3){r:zk}(j:T0 d r)(k:∀i,i<d->r.g i 0<ns.j):uO ns (zW ns r d 3) 0 [0,0,0]=Z r:=by
 obtain⟨x,y,z,rfl⟩:∃x y z,r=[x,y,z]:=by
  match r,j.1 with
  |[x,y,z],_=>exact⟨x,y,z,rfl⟩
 have e:=j.2;have f:=λi (q:i<d)=>sX n (k i q);have m:d=0∨d=1∨d=2∨d=3:=η;rcases m with rfl|rfl|rfl|rfl;have a:=e 0 η;have b:=e 1 η;have c:=e 2 η;simp at a b c;subst a;subst b;subst c;rfl;have b:=e 1 η;have c:=e 2 η;simp at b c;subst b;subst c;have g:xr ns (ns[x]?.g ByteArray.empty)=Z x:=by have:=f 0 η;simpa using this
 simp[zW,uO,g];have c:=e 2 η;simp at c;subst c;have g:xr ns (ns[x]?.g ByteArray.empty)=Z x:=by have:=f 0 η;simpa using this
 have h:xr ns (ns[y]?.g ByteArray.empty)=Z y:=by have:=f 1 η;simpa using this
 simp[zW,uO,g,h,List.range_succ];have g:xr ns (ns[x]?.g ByteArray.empty)=Z x:=by have:=f 0 η;simpa using this
 have h:xr ns (ns[y]?.g ByteArray.empty)=Z y:=by have:=f 1 η;simpa using this
 have l:xr ns (ns[z]?.g ByteArray.empty)=Z z:=by have:=f 2 η;simpa using this
 simp[zW,uO,g,h,l,List.range_succ]
end
section
open Go.Proofs.Tryz Go.RowKit
variable {lo lp:Nat}{a1 a2 a3:Option Addr}{ps:List (O×O×O)}
structure IP (S:js):Prop where
 H:ik S.M.j S.H
 many:S.M.j<=1000
 small:∀a∈S.M,a<=100000000
 I:∀f∈S.facts,f.row.j=3
 facts:S.facts.j<=1000000
 r:S.r<=1000
structure tn (cs:List zc) (t:List zf) (os:Option (List (Option (List Int)))):Prop where
 len:cs.j<=1000
 names:t.j<=1000
 fine:∀c∈cs,qo c
 sums:∀c∈cs,c.g.k.j+xj c.d<=1000/\c.d.j<=900
 K:DK cs
 vals:(zp cs).j<=1000
 jm:∀n,xP t n<=1000000
 ords:(os.g []).j<=2000000
 each:∀o∈os.g [],(o.g []).j<=2000000
 ordok:vC cs os=true->∀o∈os.g [],(o.g []).j<=1000
 set:vC cs os=true->IP (vf t (zp cs) os cs)
def rc(a w:U)(S:js)(s:O):Prop:=∃(c b:Nat) (a1:Option Addr) (d:Nat) (a2:Option Addr) (e:Nat) (a3:Option Addr) (f:Nat) (ps:List (O×O×O)),s=(π b)/\a.o.q<=b/\a.o.q<=c/\c<=w.o.q/\Th w b #[ι S.r,.k a1 S.M.j d,.k a2 S.facts.j e,.k a3 S.H.j f] 146/\X (dX c w (.k a1 S.M.j d) (.k a2 S.facts.j e) (.k a3 S.H.j f) S ps)/\X (μ a w)
def dX.saveT{w w':U}{e d f:O}{S:js}{ps:List (O×O×O)}{T:TypeId}{M:Φ}(h:dX lo w e d f S ps)(hs:zd M w w')(b:T2 w T M)(i:3≠T)(j:210≠T)(g:284≠T)(c:204≠T)(a:207≠T):dX lo w' e d f S ps:=⟨yJ h.ari hs b i,yJ h.fac hs b j,h.rul.saveT hs b g c a⟩
def dX.u{w w':U}{d b c:O}{S:js}{ps:List (O×O×O)}(h:dX lo w d b c S ps)(a:μ w w'):dX lo w' d b c S ps:=⟨zy h.ari a,zy h.fac a,h.rul.u a⟩
def rc.one{f W a:U}{S:js}{b c d:Nat}(g:μ f W)(i:μ W a)(h:dX W.o.q a (.k a1 S.M.j b) (.k a2 S.facts.j c) (.k a3 S.H.j d) S ps):rc f (a.C (.E #[ι S.r,.k a1 S.M.j b,.k a2 S.facts.j c,.k a3 S.H.j d] 146)) S (.u (Z (δ a.o.q))):=by
 have e:μ a (a.C (.E #[ι S.r,.k a1 S.M.j b,.k a2 S.facts.j c,.k a3 S.H.j d] 146)):=(zn _ _).C (zg _) _;have j:=g.q;have k:=i.q;have l:=e.q;exact⟨W.o.q,a.o.q,a1,b,a2,c,a3,d,ps,rfl,η,j,η,Th.new _ _ _,h.u e,Tk (Tk g i) e⟩
def rc.two{g W f:U}{a:Nat}{p o t s:O}{S:js}{d c e:Nat}(b:g.o.q<=a)(j:μ g W)(n:μ W f)(m:Th f a #[p,o,t,s] 146)(h:dX W.o.q f (.k a1 S.M.j d) (.k a2 S.facts.j c) (.k a3 S.H.j e) S ps):rc g ((((f.x (δ a) (ι S.r)).x (ω a 1) (.k a1 S.M.j d)).x (ω a 2) (.k a2 S.facts.j c)).x (ω a 3) (.k a3 S.H.j e)) S ((π a)):=by
 have u:=j.q;have v:=n.q;have i:=m.set 0 (ι S.r);have k:=i.set 1 (.k a1 S.M.j d);have l:=k.set 2 (.k a2 S.facts.j c);have r:=l.set 3 (.k a3 S.H.j e);have q:dX W.o.q ((((f.x (δ a) (ι S.r)).x (ω a 1) (.k a1 S.M.j d)).x (ω a 2) (.k a2 S.facts.j c)).x (ω a 3) (.k a3 S.H.j e)) (.k a1 S.M.j d) (.k a2 S.facts.j c) (.k a3 S.H.j e) S ps:=(((h.saveT (zd.set _ _ _ (ι S.r)) (T2.box m) θ θ θ θ θ).saveT (zd.set _ _ _ (.k a1 S.M.j d)) (T2.box i) θ θ θ θ θ).saveT (zd.set _ _ _ (.k a2 S.facts.j c)) (T2.box k) θ θ θ θ θ).saveT (zd.set _ _ _ (.k a3 S.H.j e)) (T2.box l) θ θ θ θ θ;exact⟨W.o.q,a,a1,d,a2,c,a3,e,ps,rfl,b,u,by simp;omega,by simpa using r,q,((((Tk j n).x b _).x b _).x b _).x b _⟩
def Tp.belowLo{ok:TypeId->zo->Prop}{w w':U}{own own':Nat->zo}(h:Tp lo ok w own w' own')(d:lo<=w.o.q):Below lo w w':=by
 obtain⟨_,M,a,c⟩:=h;exact a.u (λb e=>(c b e).1) d
def Kk(lp pb:Nat)(t:List zf)(ns:κ)(b:Option zv)(w:U)(e:Ending)(w':U):Prop:=match b with
 |none=>e=ε (.B #[.u Y,ι 10])/\μ w w'
 |some R=>∃c d f g a,w.p ⟨pb,1,Y⟩=Z d/\e=ε (.B #[(π c),ι 0])/\ko w.o.q lp w' c t ns R d f g a/\μ w w'
def Kd(w:U)(f i:O)(a b:Int)(d:-9223372036854775808<=a/\a<9223372036854775808)(c:-9223372036854775808<=b/\b<9223372036854775808)(h:a<0∨1048576<a∨b<0∨1048576<b):
  Calls prog 35 #[f,i,ι a,ι b] w λe g=>e=ε (.B #[.u Y,ι 8])/\g=w:=by
 go_enter func35,ntmps35;by_cases k:a<0
 .go_wp2;go_ret2
  exact⟨rfl,rfl⟩
 by_cases j:1048576<a
 .go_wp2;go_ret2
  exact⟨rfl,rfl⟩
 by_cases m:b<0
 .go_wp2;go_ret2
  exact⟨rfl,rfl⟩
 have l:1048576<b:=η;go_wp2;go_ret2
 exact⟨rfl,rfl⟩
def JL(w:U)(pb:Nat)(cs:Ξ)(t:Ψ)(h:O)(os:Option (List (Option (List Int))))(a i:Nat)(l:jq lp w pb cs t)(n:jU w h os)(c:tn cs t os)(j:vC cs os=false)(u:a<=1048576)(p:i<=1048576):
  Calls prog 35 #[(π pb),h,ι a,ι i] w λe m=>e=ε (.B #[.u Y,ι 9])/\μ w m:=by
 obtain⟨_,k,v,g,d,_⟩:=l;have b:=Tg (Ge w k h cs os d c.fine c.len n c.ords c.each);rw[j] at b;obtain⟨s,q,o⟩:=g.e;clear j;go_enter func35,ntmps35;go_wp2_with (go_at_call 71;refine b.l.y ?_;rintro e r ⟨rfl,f⟩)
 go_ret2
 exact⟨rfl,f⟩
def Rr(w:U)(pb:Nat)(cs:Ξ)(t:Ψ)(ov:O)(os:Option (List (Option (List Int))))(h qm ab:Nat)(K:Option zv)(hP:jq lp w pb cs t)(ho:jU w ov os)(i:tn cs t os)(M:vC cs os=true)(h1:h<=1048576)(m:qm<=1048576)(a6:lp<=w.o.q)(hr:pk ab (vf t (zp cs) os cs) h qm=Z K):
  Calls prog 35 #[(π pb),ov,ι h,ι qm] w λe j=>Kk lp pb t (zp cs) K w e j:=by
 have HP:=Tg hP;obtain⟨_,cv,pv,z,G,an⟩:=hP;have ae:=Tg (Ge w cv ov cs os G i.fine i.len ho i.ords i.each);rw[M] at ae;have a9:=Tg λW hW=>P5 W cv cs (G.u hW) i.K;have au:=Tg λW cb hW hC=>NI W pb 1 cb t (zp cs) cs cv ov os ⟨pv,(z.u hW).lt,(z.u hW).H.1 1,zy an hW⟩ hC i.names i.vals (G.u hW) i.sums i.len (ho.u hW) i.ords (i.ordok M) i.jm;have k:=Tg (i.set M);have a7:X ((zp cs).j<=1000/\t.j<=1000):=⟨i.vals,i.names⟩;have a5:=Tg hr;obtain⟨hc,hf,s⟩:=z.e;have d0:=hc 0;have d1:=hc 1;simp only[mQ,hY,mE] at d0 d1;clear M hr hc i G ho;generalize vf t (zp cs) os cs=S at *;generalize zp cs=ns at *;have aO:=Tg z;have ar:=Tg an;clear z an;go_enter func35,ntmps35;go_upto_region 6 with (first|(go_at_call 71;refine ae.l.y ?_;rintro e w1 ⟨rfl,r⟩;have y0:=zi r s d0;have yl:=ym s r.q)|(go_at_call 72;refine(a9.l _ r).y ?_;rintro e w2 ⟨v2,rfl,ap,az⟩;obtain⟨l,f,rfl⟩:=ap.qy))
 obtain⟨W3,ac⟩:∃W3,W3=w2.C (.E #[.k l ns.j f] 141):=⟨_,rfl⟩;have af:μ w2 (w2.C (.E #[.k l ns.j f] 141)):=γ;have L:=Th.new w2 #[.k l ns.j f] 141;have ah:=(ap.u af).low (show w.o.q<=w1.o.q from r.q);have am:=Tk r az;have v:=Tk am af;have aG:=am.q;rw[←ac] at L ah v;rw[←ac];generalize w2.o.q=cb at *;have ag:=Tg L;have ai:=Tg ah;have x0:=zi v s d0;have aC:=L.lt;have xl:=ym s v.q;have P:X (∀W,μ W3 W->Calls prog 73 #[cv,.u (Z ⟨pb,1,Y⟩),(π cb),ov] W λe j=>∃a1 c1 a2 T a3 c3 ps,e=ε (.agg #[ι S.r,.k a1 S.M.j c1,.k a2 S.facts.j T,.k a3 S.H.j c3])/\X (dX W.o.q j (.k a1 S.M.j c1) (.k a2 S.facts.j T) (.k a3 S.H.j c3) S ps)/\μ W j/\j.p ⟨pb,0,Y⟩=Z cv):=λW M=>by
  refine(au.l W cb (Tk v M) ⟨zY a6 aG,_,ag.l.u M,(ai.l.u M).low a6⟩).y ?_;rintro e j ⟨av,fv,rv,ps,h1,m,h3⟩;have hq:=Tk M h3;obtain⟨a1,c1,rfl⟩:=zr m.ari;obtain⟨a2,T,rfl⟩:=zr m.fac;obtain⟨a3,c3,rfl⟩:=zr m.rul.own;exact⟨a1,c1,a2,T,a3,c3,ps,h1,m,h3,(hq.cell xl).A x0⟩
 clear ac L ah af a9 ae au y0 yl ap az r am w1 w2 d0;go_cut [11] from 40 to 48 (λaF wx=>rc W3 wx S aF)
 .go_region_held3 (λj=>j.p ⟨pb,0,Y⟩=Z cv) (first|go_keep|(go_simp;done)) (first|(go_at_call 73;refine(P.l _ γ).y ?_;rintro e w4 ⟨a1,c1,a2,T,a3,c3,ps,rfl,D,ad,z0⟩;(try (with_reducible refine Th.carry (Th.drew (Th.new W3 #[ι 0,ν,ν,ν] 146)) ad ?_;intro ay;obtain⟨aJ,aL,aK⟩:=ay.e))))
  all_goals
   go_wp2_with fail
   go_meet
   first|exact rc.one (W:=W3.drew) γ ad D.l|exact rc.two (zg _) (W:=(W3.C (.E #[ι 0,ν,ν,ν] 146)).drew) γ ad ay D.l
 clear P x0;obtain⟨fl,sb,a1,c1,a2,T,a3,c3,ps,rfl,aM,a4,al,aB,D,ak⟩:=hcut;have I:=Tg (Vc wc S ps _ _ _ h qm ab K D.l al k.l.H k.l.many k.l.small k.l.I k.l.facts ⟨k.l.r,h1,m⟩ a5.l);obtain⟨aD,aH,aE⟩:=aB.e;have aj:=Tk v ak.l;have aN:=Tg aC;have J:=zY v.q a4;clear D k a5 aC xl;rcases K with _|R
 .have n:X (Calls prog 74 #[.agg #[ι S.r,.k a1 S.M.j c1,.k a2 S.facts.j T,.k a3 S.H.j c3],ι h,ι qm] wc λe j=>e=ε (.B #[.agg #[ν,ι 0,ι 0,ι 0],.i false])/\Below fl wc j):=by
   refine I.l.y ?_;rintro e j ⟨h1,a0,m⟩;exact⟨h1,m.belowLo al⟩
  clear I;go_wp2_with (go_at_call 74;refine n.l.y ?_;rintro e E ⟨rfl,y⟩)
  go_ret2
  exact⟨rfl,zQ (aj.A (y.y J)) γ (zg _)⟩
 have n:X (Calls prog 74 #[.agg #[ι S.r,.k a1 S.M.j c1,.k a2 S.facts.j T,.k a3 S.H.j c3],ι h,ι qm] wc λe j=>∃d c g,e=ε (.B #[.agg #[.k d R.I.j c,ι R.count,ι R.Q,ι R.jg],.i true])/\X (j.r fl 162 1 (.k d R.I.j c) R.I.j (T1 g)/\g.j=R.I.j/\(∀p (_:p<R.I.j) (_:p<g.j),∃H,yb fl j g[p] R.I[p] H)/\R.I.j<=1000)/\Below fl wc j):=by
  refine I.l.y ?_;rintro e j ⟨a0,rb,Q,h1,m,h3⟩;obtain⟨d,c,aA⟩:=zr m.I;refine⟨d,c,Q.tbs,by rw[h1,aA],⟨by rw[←aA];exact m.I,m.tlen,λp a b=>?_,m.K.1⟩,h3.belowLo al⟩;obtain⟨H,q,_⟩:=m.tries p a b;exact⟨H,q⟩
 clear I;go_upto_region 10 with (first|(go_at_call 74;refine n.l.y ?_;rintro e E ⟨d,c,g,rfl,a8,y⟩))
 have ax:=aj.A (y.y J);have A:=ak.l.A (y.y a4);have x:μ E (E.C (.E #[.k d R.I.j c,ι R.count,ι R.Q,ι R.jg] 152)):=γ;have V:=Th.new E #[.k d R.I.j c,ι R.count,ι R.Q,ι R.jg] 152;have aa:=(ag.l.u A).u x;have aq:=Tg ((ai.l.u A).u x);have B:=Tk ax x;have aw:=Tg (zy ar.l B);have C:X (U.ownsRow (E.C (.E #[.k d R.I.j c,ι R.count,ι R.Q,ι R.jg] 152)) w.o.q 162 1 (.k d R.I.j c) R.I.j (T1 g)/\g.j=R.I.j/\(∀p (_:p<R.I.j) (_:p<g.j),∃H,yb w.o.q (E.C (.E #[.k d R.I.j c,ι R.count,ι R.Q,ι R.jg] 152)) g[p] R.I[p] H)/\R.I.j<=1000):=by
  obtain⟨q1,q2,q3,q4⟩:=a8.l;refine⟨yo (zy q1 x) J,q2,λp a b=>?_,q4⟩;obtain⟨H,q⟩:=q3 p a b;exact⟨H,(q.u x).low J⟩
 obtain⟨F,o,aI⟩:=zr ar.l;subst aI;have y1:=zi B s d1;have yl:=ym s B.q;have ao:=B.q;clear x A ax a8 n y aj ak ai ag aB aD aH aE;generalize E.C (.E #[.k d R.I.j c,ι R.count,ι R.Q,ι R.jg] 152)=W6 at *;generalize E.o.q=ob at *;obtain⟨oc,of,ol⟩:=V.e;have o0:=oc 0;have o1:=oc 1;have o2:=oc 2;have o3:=oc 3;obtain⟨bc,bf,bl⟩:=aa.e;have b0:=bc 0;simp only[mQ,hY,mE] at o0 o1 o2 o3 b0;clear oc bc V aa;go_region
 have u:μ W6 (W6.C (.E #[.k F t.j o,.k l ns.j f,.k d R.I.j c,ι R.count,ι R.Q,ι R.jg] 156)).drew:=γ;have N:X (ko w.o.q lp (W6.C (.E #[.k F t.j o,.k l ns.j f,.k d R.I.j c,ι R.count,ι R.Q,ι R.jg] 156)).drew W6.o.q t ns R (.k F t.j o) (.k l ns.j f) (.k d R.I.j c) g/\μ w (W6.C (.E #[.k F t.j o,.k l ns.j f,.k d R.I.j c,ι R.count,ι R.Q,ι R.jg] 156)).drew):=by
  refine⟨⟨ao,Th.drew (Th.new _ _ _),zy aw.l u,aq.l.u u,zy C.l.1 u,C.l.2.1,λp a b=>?_,⟨a7.l.2,a7.l.1,C.l.2.2.2⟩⟩,Tk B u⟩;obtain⟨H,q⟩:=C.l.2.2.1 p a b;exact⟨H,q.u u⟩
 clear u aw aq C o0 o1 o2 o3 b0;go_wp2;go_ret2
 exact⟨W6.o.q,_,_,_,g,d1,rfl,N.l.1,N.l.2⟩
end
section
open Go.RowKit
def Ty.runok{cs:Ξ}{w t:Ψ}(h:Ty cs w t):tn cs t Y/\rJ (vf t (zp cs) Y cs):=by
 have b:rJ (vf t (zp cs) Y cs):=tT h _ Y (λi v=>pu (fL (h.many _ (zq v))));obtain⟨_,j,m⟩:=h.low;have q:=h.K;have s:=oG cs;have p:=GS cs;have o:(zp cs).j<=500:=by
  have:=Bv cs [];simp only[qW,vx] at this;show(cs.H q7 []).j<=500;omega
 have d:=oW (cs:=cs) η;have e:∀c∈cs,c.d.j<=6:=λc g=>(mI (h.many c g)).2.1;refine⟨⟨η,η,d,λc g=>⟨(d c g).1,by have:=e c g;omega⟩,⟨η,η,λc g=>(d c g).2⟩,η,λn=>by have:=m n;omega,ζ,ζ,λ_=>ζ,λ_=>⟨λr k=>⟨λl j=>((b.H.H r k).qc l j).1,λl j=>⟨((b.H.H r k).qx l j).1,b.H.apart r k r k rfl l j⟩⟩,?_,λa u=>by have:=b.small a u;omega,λf q=>(b.facts f q).2.1.1,?_,by show(zp cs).j<=1000;omega⟩⟩,b⟩;show(t.w (·.jh)).j<=1000;simp;omega;show(vJ t (zp cs) cs).j<=1000000;have:(vJ t (zp cs) cs).j<=cs.j:=by
  unfold vJ;rw[xu];exact rL _ _
 omega
end
section
open Go.RowKit
variable {b:κ}
def mH(w:U)(m:Nat):μ w (w.drewN m):=zI (zn _ _) m
def yS:κ->κ->Bool
 |a::x,b::y=>if a=b then yS x y else TB a b
 |_,_=>false
def OA{a:κ}{k:Nat}(d:k<a.j)(c:k<b.j):yS (a.drop k) (b.drop k)=if a[k]=b[k] then yS (a.drop (k+1)) (b.drop (k+1)) else TB a[k] b[k]:=by
 rw[xn d,xn c];rfl
def Og{a:κ}{k:Nat}(h:¬(k<a.j/\k<b.j)):yS (a.drop k) (b.drop k)=false:=by
 by_cases c:k<a.j;rw[ui (show b.j<=k by omega)];cases a.drop k<;>rfl
 rw[ui (show a.j<=k by omega)];rfl
abbrev z9:=ByteArray×κ×Nat
abbrev Θ:=List z9
def BR(w:U)(v:O)(fs:List z9):Prop:=∃d a,v=.k d fs.j a/\∀i (h:i<fs.j),∃g c e,d=Z ⟨g,0,Y⟩/\g<w.o.q/\w.p ⟨g,i*3,Y⟩=Z (.d fs[i].1)/\w.p ⟨g,i*3+1,Y⟩=Z (.k (Z ⟨c,0,Y⟩) fs[i].2.1.j fs[i].2.1.j)/\w.p ⟨g,i*3+2,Y⟩=Z (ι (fs[i].2.2:Nat))/\Tn e w (.k (Z ⟨c,0,Y⟩) fs[i].2.1.j fs[i].2.1.j) fs[i].2.1
def BR.u{w w':U}{v:O}{fs:Θ}(h:BR w v fs)(a:μ w w'):BR w' v fs:=by
 obtain⟨q,d,p,o⟩:=h;refine⟨q,d,p,λi n=>?_⟩;obtain⟨g,l,e,k,c,f,r,m,j⟩:=o i n;exact⟨g,l,e,k,ym c a.q,(zi a c f),(zi a c r),(zi a c m),j.u a⟩
def yP(a:ByteArray)(row:κ):List z9->Option Nat
 |[]=>Y
 |f::c=>if f.1=a/\f.2.1=row then Z 0 else(yP a row c).w (·+1)
def kl(a:ByteArray)(row:κ)(fs:List z9):Int:=match yP a row fs with
 |none=>-1
 |some k=>k
def FY{a:ByteArray}{row:κ}{fs:Θ}{k:Nat}(c:k<fs.j):yP a row (fs.drop k)=if fs[k].1=a/\fs[k].2.1=row then Z 0 else(yP a row (fs.drop (k+1))).w (·+1):=by
 rw[xn c];rfl
end
section
open Go.Proofs.Tryz Go.RowKit
def EO{lo z:Nat}(w:U)(G vb:O)(a b:κ)(u:Tn lo w G a)(v:Tn z w vb b)(hl:a.j<=1000000)(V:b.j<=2000000):
  Calls prog 84 #[G,vb] w λe w'=>e=ε (.i (decide (a=b)))/\μ w w':=by
 obtain⟨ao,Q,rfl⟩:=u.qy;obtain⟨aa,E,rfl⟩:=v.qy;by_cases d:a.j=b.j
 .have p:=Tg d;rw[←d];clear d;have W:X (∀k,k<a.j->a.g k ByteArray.empty≠b.g k ByteArray.empty->decide (a=b)=false):=λk _ q=>by
   simp only[decide_eq_false_iff_not];rintro rfl;exact q rfl
  have S:X ((∀k,k<a.j->a.g k ByteArray.empty=b.g k ByteArray.empty)->decide (a=b)=true):=λq=>by
   simp only[decide_eq_true_eq];refine jy p.l λi K N=>?_;have:=q i K;rwa [Tl _ K,Tl _ N] at this
  generalize decide (a=b)=r at *;have P:=Tg u;have HB:=Tg v;clear u v;go_enter func84,ntmps84;go_wp2;go_loopw [5] (λi wr=>∃k:Nat,k<=a.j/\i=ι k/\X (∀j,j<k->a.g j ByteArray.empty=b.g j ByteArray.empty)/\μ w wr) (λi _=>a.j-(intOf i).D);exact⟨0,zs _,rfl,λj M=>η,zn _ _⟩;obtain⟨k,hk,rfl,I,c⟩:=hrel;have H:=c.q;by_cases f:k<a.j
  .have l:k<b.j:=by rw[←p.l];exact f
   obtain⟨g,rfl,R,s⟩:=P.l.cell k f;obtain⟨g2,e2,C,h⟩:=HB.l.cell k l;subst e2;have T:=zi c R s;have L:=zi c C h;have ab:g<wr.o.q:=η;have J:g2<wr.o.q:=η;clear s h;have t:X (a.g k ByteArray.empty=a[k]):=Tl _ f;have o:X (b.g k ByteArray.empty=b[k]):=Tl _ l;by_cases m:a[k]=b[k]
   .have D:=jt m;have B:=Tg m;clear m;generalize a[k]=x at *;generalize b[k]=y at *;go_wp2;go_quiet (fail)
    go_wp2;go_roundw
    case rel=>exact⟨k+1,η,ξ,λj M=>(by
     by_cases A:j=k;rw[A,t.l,o.l,B.l];exact I.l j η),zI c _⟩
    simp[intOf];omega
   have D:=vV m;have n:=Tg (W.l k f (by rw[t.l,o.l];exact m));clear m;generalize a[k]=x at *;generalize b[k]=y at *;go_wp2;go_quiet (fail)
   go_wp2;go_ret;exact⟨by rw[n.l];rfl,zI c _⟩
  have n:=Tg (S.l λj M=>I.l j η);go_wp2;go_ret;exact⟨by rw[n.l];rfl,c⟩
 have F:¬(a.j:Int)=(b.j:Int):=η;have n:X (decide (a=b)=false):=show decide (a=b)=false by
  simp only[decide_eq_false_iff_not];rintro rfl;exact d rfl
 generalize decide (a=b)=r at *;clear u v d;go_enter func84,ntmps84;go_wp2;go_ret;exact⟨by rw[n.l];rfl,zn _ _⟩
def pi(w:U)(v:O)(fs:List z9):Prop:=∃c a,v=.k c fs.j a/\∀i (h:i<fs.j),∃g b d,c=Z ⟨g,0,Y⟩/\g<w.o.q/\w.p ⟨g,i*3,Y⟩=Z (.d fs[i].1)/\w.p ⟨g,i*3+1,Y⟩=Z b/\w.p ⟨g,i*3+2,Y⟩=Z (ι (fs[i].2.2:Nat))/\Tn d w b fs[i].2.1
def pi.u{w w':U}{v:O}{fs:Θ}(h:pi w v fs)(a:μ w w'):pi w' v fs:=by
 obtain⟨p,c,o,n⟩:=h;refine⟨p,c,o,λi l=>?_⟩;obtain⟨g,m,d,j,b,e,q,k,f⟩:=n i l;exact⟨g,m,d,j,ym b a.q,(zi a b e),(zi a b q),(zi a b k),f.u a⟩
def A9{D:Nat}(w:U)(t rd:Nat)(v:O)(fs:Θ)(b:ByteArray)(K:O)(row:κ)(N:Th w t #[v,ι rd] 54)(h:pi w v fs)(M:Tn D w K row)(hl:fs.j<=10000000)(G:row.j<=2000000)(A:∀f∈fs,f.2.1.j<=1000000):
  Calls prog 45 #[(π t),.d b,K] w λe w'=>e=ε (ι (kl b row fs))/\μ w w':=by
 have L:=Tg λW lo S (a:κ) (hb:μ w W) (ha:Tn lo W S a) (hq:a.j<=1000000)=>EO W S K a row ha (M.u hb) hq G;obtain⟨aa,Q,rfl⟩:=M.qy;obtain⟨ao,E,rfl,d⟩:=h;have cm:w.p (δ t)=Z (.k ao fs.j E):=by rw[N.H.1];rfl
 have u:=N.lt;have HC:=Tg d;have H:=Tg A;have H0:X (yP b row fs=(yP b row (fs.drop 0)).map (·+0)):=show yP b row fs=_ by simp
 have HI:X (kl b row fs=match yP b row fs with|none=>-1|some k=>(k:Int)):=show kl b row fs=_ from rfl
 clear d M A N;generalize kl b row fs=C at *;generalize yP b row fs=o at *;go_enter func45,ntmps45;go_wp2;go_loopw [7,8] (λi _ wr=>∃k:Nat,k<=fs.j/\i=ι k/\X (o=(yP b row (fs.drop k)).map (·+k))/\μ w wr) (λi _ _=>fs.j-(intOf i).D);exact⟨0,zs _,rfl,H0,zn _ _⟩;obtain⟨k,hk,rfl,J,c⟩:=hrel;have V:=c.q;by_cases p:k<fs.j
 .have y:(k:Int)<(fs.j:Int):=η;obtain⟨g,rv,F,rfl,T,c0,R,_,hS⟩:=HC.l k p;have xm:=zi c u cm;have x:t<wr.o.q:=η;have q:=J.l;rw[FY p] at q;have r:=Tg q;clear q J;have x0:=zi c T c0;have x1:=zi c T R;have ab:g<wr.o.q:=η;have B:=Tg (L.l wr F _ _ c (hS.u c) (H.l _ (zq p)));clear c0 R hS;generalize fs[k].2.1=I at *;generalize fs[k].1=fp at *;by_cases l:fp=b
  .have P:=jt l;by_cases j:I=row
   .have s:X (o=Z k):=show o=Z k by rw[r.l,zb ⟨l,j⟩];simp
    have n:=Tg (show C=(k:Int) by rw[HI.l,s.l]);rw[show decide (I=row)=true by simp[j]] at B;clear r l j;go_wp2_with (go_at_call 84;refine B.l.y ?_;rintro e w1 ⟨rfl,m⟩)
    go_ret;exact⟨by rw[n.l];rfl,Tk c m⟩
   have s:X (o=(yP b row (fs.drop (k+1))).map (·+(k+1))):=show o=_ by
    rw[r.l,za (λz=>j z.2),Option.map_map];congr 1;funext z;simp only[Function.comp];omega
   rw[show decide (I=row)=false by simp[j]] at B;clear r l j;go_wp2_with (go_at_call 84;refine B.l.y ?_;rintro e w1 ⟨rfl,m⟩)
   exact⟨⟨k+1,η,ξ,s,Tk c m⟩,by simp[intOf];omega⟩
  have P:=vV l;have s:X (o=(yP b row (fs.drop (k+1))).map (·+(k+1))):=show o=_ by
   rw[r.l,za (λz=>l z.1),Option.map_map];congr 1;funext z;simp only[Function.comp];omega
  clear r l;go_wp2;exact⟨⟨k+1,η,ξ,s,c⟩,by simp[intOf];omega⟩
 have y:¬(k:Int)<(fs.j:Int):=η;have xm:=zi c u cm;have x:t<wr.o.q:=η;have n:X (C=-1):=show C=-1 by
  rw[HI.l,J.l,ui η];rfl
 go_wp2;go_ret;exact⟨by rw[n.l];rfl,c⟩
end
section
variable {t:List zf}{ns:κ}
structure TS (t:List zf) (ns:κ) (R:zv):Prop where
 rise:y9 (Ti t)
 nrise:y9 ns
 inv:qQ (t.w (·.jh)) (zM ns.j) R
 small:∀a∈t.w (·.jh),a<=3
 inside:iu (t.w (·.jh)) ns.j (zyx (t.w (·.jh)) R)
 K:R.count<=1048576/\t.j<=1000/\ns.j<=1000
def jT(R:zv)(p:Nat):List zk:=(TD (R.I.g p zl.zero)).w λk=>Uk k (R.I.g p zl.zero).ql
def vh(t:List zf)(p:Nat):ByteArray:=(Ti t).g p ByteArray.empty
def TS.len{t:Ψ}{ns:κ}{R:zv}(h:TS t ns R):R.I.j=t.j:=by have:=h.inv.len;simpa using this
def TS.name{t:Ψ}{ns:κ}{R:zv}(h:TS t ns R){p:Nat}(d:p<t.j):(zU t (vh t p)).I=true/\zC t (vh t p)=p/\vh t p=t[p].name:=by
 have f:vh t p=t[p].name:=by unfold vh Ti;simp[List.getD,d]
 have a:zV t t[p].name=p:=by
  rcases rm (zV t t[p].name) p with q|q|q;have b:=sQ t t[p].name h.rise t[zV t t[p].name] (by
   rw[vL];exact⟨0,by simp;omega,ζ⟩)
  have e:=rx.1 h.rise (zV t t[p].name) p (by simp[Ti];omega) (by simp[Ti];omega) q;simp only[Ti,ub] at e;rw[e] at b;cases b;exact q;have b:=sR t t[p].name t[p] (by
   rw[vL];exact⟨p,by simp;omega,ζ⟩)
  rw[Tv] at b;cases b
 have c:zU t t[p].name=Z t[p]:=by
  unfold zU;rw[a,yn d];simp
 rw[f];exact⟨by rw[c];rfl,by unfold zC;rw[c,a];rfl,rfl⟩
def TS.ar{R:zv}(h:TS t ns R){p:Nat}(a:p<t.j):yc t p<=3/\(t.w (·.jh)).g p 0=yc t p:=by
 refine⟨?_,rfl⟩;unfold yc;rw[Tl _ (by simpa using a)];exact h.small _ (zq _)
def TS.row{R:zv}(h:TS t ns R){p:Nat}(d:p<t.j){r:zk}(c:r∈jT R p):Tq (zyx (t.w (·.jh)) R) p r/\T0 (yc t p) r/\∀i,i<yc t p->r.g i 0<ns.j:=by
 have b:p<R.I.j:=by rw[h.len];exact d
 have a:Tq (zyx (t.w (·.jh)) R) p r:=by
  refine(rS h.inv h.small b r).1 ?_;unfold jT at c;rw[Tl _ b] at c;exact c
 exact⟨a,(tM _ R p r a).2,h.inside p r a⟩
def TS.I{t:Ψ}{ns:κ}{R:zv}(h:TS t ns R){p:Nat}(b:p<R.I.j):∃a,rowsG a R.I[p]=Z (jT R p)/\(jT R p).j<=1048576:=by
 obtain⟨d,g,f,e⟩:=h.inv.tries p b;have c:=eL R.I p b;rw[←h.inv.cnt] at c;have:=h.K.1;refine⟨3*(R.I[p].r+1),?_,?_⟩;rw[d.rowsG _ (zg _) η];unfold jT;rw[Tl _ b];unfold jT;rw[Tl _ b,xu,d.cnt];omega
def Dv{ns:κ}(f:y9 ns):∀(a b:zk),(∀v∈a,v<ns.j)->(∀v∈b,v<ns.j)->Vy a b->yS (a.w λv=>ns.g v ByteArray.empty) (b.w λv=>ns.g v ByteArray.empty)=true
 |x::a,y::b,i,g,h=>by
  simp only[un,yS];rcases h with h|⟨rfl,h⟩
  .have c:=tH f h (g y ζ);rw[za]
   .exact c
   .intro e;rw[e,Tv] at c;cases c
  .rw[zb rfl];exact Dv f a b (λv d=>i v (by simp[d])) (λv d=>g v (by simp[d])) h
 |[],_,_,_,h=>h.elim
 |_::_,[],_,_,h=>h.elim
def CX{k:zk}{a:Nat}(c:k.j=a)(f:a<=3):zW ns (Uk k a) a 3=k.w λv=>ns.g v ByteArray.empty:=by
 refine jy (by simp[zW,c]) λi b e=>?_;have d:i<a:=by rw[kS] at b;exact b
 simp only[zW,ub,fR];rw[zb η];congr 1;unfold Uk;rw[kL,rV η,yn η];rfl
def TS.sorted{R:zv}(h:TS t ns R){p:Nat}(m:p<t.j){i j:Nat}(x:i<j)(n:j<(jT R p).j):yS (zW ns ((jT R p)[i]'η) (yc t p) 3) (zW ns (jT R p)[j] (yc t p) 3)=true:=by
 have f:p<R.I.j:=by rw[h.len];exact m
 obtain⟨H,G,w,I⟩:=h.inv.tries p f;obtain⟨c,o⟩:=h.ar m;have z:R.I.g p zl.zero=R.I[p]:=Tl _ f;have a:=(h.row m (zq (show i<(jT R p).j by omega))).2;have b:=(h.row m (zq n)).2;simp only[jT,z,xu] at n;simp only[jT,z,ub] at a b ⊢;have l:=rx.1 (Ak R.I[p] R.I[p].ql 0 0) i j (show i<(TD R.I[p]).j by omega) n x;have e:=((qU R.I[p] _).1 (zq (show i<(TD R.I[p]).j by omega))).1;have d:=((qU R.I[p] _).1 (zq n)).1;change Vy (TD R.I[p])[i] (TD R.I[p])[j] at l;generalize (TD R.I[p])[i]=r at *;generalize (TD R.I[p])[j]=s at *;rw[o] at w;by_cases u:yc t p=0;have q:R.I[p].ql=1:=by rw[w,u];rfl
 rw[q] at e d a b;have y:∀k:zk,k.j=1->T0 0 (Uk k 1)->k=[0]:=by
  intro k A D;match k,A with
  |[v],_=>
   have:=D.2 0 (zg _);simp[Uk] at this;rw[this]
 rw[u] at a b;rw[y r e a.1,y s d b.1] at l;exact zB l (AP _);have C:R.I[p].ql=yc t p:=by rw[w,tW u c]
 rw[C] at e d a b ⊢;rw[CX e c,CX d c];have g:∀k:zk,k.j=yc t p->(∀i,i<yc t p->(Uk k (yc t p)).g i 0<ns.j)->∀v∈k,v<ns.j:=by
  intro k A F v B;obtain⟨i,E,rfl⟩:=vd B;have:=F i η;unfold Uk at this;rw[kL,rV η,yn E] at this;exact this
 exact Dv h.nrise r s (g r e a.2) (g s d b.2) l
end
section
open Go.Proofs.Tryz Go.RowKit
variable {lo lp:Nat}
def SK:(prog.info? 30).map (λi=>(i.zero,i.q,i.bytes))=Z (Z (ν),1,24):=χ
def JH(w:U)(tb:Nat)(T:zl)(fp:Φ)(n:Nat)(rs:List zk)(h:yb lo w tb T fp)(a:rowsG n T=Z rs):
  Calls prog 78 #[(π tb)] w λe d=>∃v,e=.returned v/\Tw w.o.q d v rs/\μ w d:=by
 unfold rowsG at a;rcases c:my n T with _|b;rw[c] at a;cases a;rw[c] at a;simp only at a;split at a;simp only[zt] at a;subst a;exact Ee w tb T fp h n b c (by assumption);cases a
def Sb{n:Nat}{T:zl}{rs:List zk}(a:rowsG n T=Z rs):rs.j<=1048576:=by
 unfold rowsG at a;rcases b:my n T with _|c;rw[b] at a;cases a;rw[b] at a;simp only at a;split at a;simp only[zt] at a;subst a;assumption
 cases a
def pB(ns:κ)(a:Nat)(r:zk):zj:=⟨false,ByteArray.empty,zW ns r a 3⟩
def vn(a g:Nat):Value:=.k (Z ⟨g,0,Y⟩) a a
def C5(ns:κ)(b:Nat)(rs:List zk)(w:U)(e:Ending)(w':U):Prop:=∃g a,w.o.q<=g/\e=ε (.B #[.k (Z ⟨g,0,Y⟩) rs.j rs.j,ι 0])/\w'.r w.o.q 30 1 (.k (Z ⟨g,0,Y⟩) rs.j rs.j) rs.j (a.map (vn b))/\T8 w.o.q w' (rs.map (pB ns b)) a/\μ w w'
def RI(w:U)(g:Nat)(t:Ψ)(ns:κ)(R:zv)(y u o:O)(i:Φ)(a:ByteArray)(h:ko lo lp w g t ns R y u o i)(k:(zU t a).I=false∨zC t a≥R.I.j):
  Calls prog 38 #[(π g),.d a] w λe l=>e=ε (.B #[ν,ι 11])/\l=w:=by
 have b:X (Calls prog 77 #[(π g),.d a] w λe l=>e=ε (.B #[ι (zC t a:Nat),.i (zU t a).I])/\l=w):=ek lp w g 0 t a h.tg h.K.1;obtain⟨n,B⟩:=h.box.H;have A:=h.box.lt;obtain⟨s,m,j⟩:=zr h.I;subst j;have C:=n 2;clear h n;by_cases f:(zU t a).I=false
 .rw[f] at b;clear f k;generalize zC t a=v at *;go_enter func38,ntmps38;go_wp2_with (go_at_call 77;refine b.l.y ?_;rintro e r ⟨rfl,c⟩;obtain rfl:=c.z)
  go_ret2
  exact⟨rfl,rfl⟩
 have d:(zU t a).I=true:=by cases x:(zU t a).I with|true=>rfl|false=>exact zB x f
 rw[d] at b;have z:zC t a≥R.I.j:=by rcases k with q|q;exact zB q f;exact q
 have p:(R.I.j:Int)<=(zC t a:Int):=η;clear f d k;generalize zC t a=v at *;go_enter func38,ntmps38;go_wp2_with (go_at_call 77;refine b.l.y ?_;rintro e r ⟨rfl,c⟩;obtain rfl:=c.z)
 go_ret2
 exact⟨rfl,rfl⟩
def LN(w:U)(B:Nat)(t:Ψ)(ns:κ)(R:zv)(pv nv rv:O)(F:Φ)(c:ByteArray)(h:ko lo lp w B t ns R pv nv rv F)(aD:(zU t c).I=true)(au:zC t c<R.I.j)(n:Nat)(rs:List zk)(hr:rowsG n R.I[zC t c]=Z rs)(ba:yc t (zC t c)<=1000):
  Calls prog 38 #[(π B),.d c] w λe f=>C5 ns (yc t (zC t c)) rs w e f:=by
 have al:X (Calls prog 77 #[(π B),.d c] w λe f=>e=ε (.B #[ι (zC t c:Nat),.i (zU t c).I])/\f=w):=ek lp w B 0 t c h.tg h.K.1;rw[aD] at al;have J:X (ko lo lp w B t ns R pv nv rv F):=h;obtain⟨hc,hf⟩:=h.box.H;have aK:=h.box.lt;obtain⟨bp,bb,aX⟩:=zr h.I;subst aX;have d2:=hc 2;have bd:=h.K.2.2;have bh:¬(R.I.j:Int)<=(zC t c:Int):=η;clear h hc aD;have aO:X (∀W,μ w W->Calls prog 80 #[(π B),ι (zC t c:Nat)] W λe f=>e=ε (ι (yc t (zC t c):Nat))/\f=W):=λW D=>Bu lp W B 0 t _ (J.l.u D).tg;generalize zC t c=s at *;have ar:s<F.j:=by rw[J.l.tlen];exact au
 obtain⟨gr,aW,ae,_,bq,aB⟩:=yr J.l.I η;simp only[O.slice.injEq] at ae;have ac:=ae.1;clear ae;subst ac;have bk:=aB s (.u (Z ⟨F[s],0,Y⟩)) (by simp[T1,ar,pt]);have a7:X (Calls prog 78 #[.u (Z ⟨F[s],0,Y⟩)] w λe f=>∃v,e=.returned v/\Tw w.o.q f v rs/\μ w f):=by
  obtain⟨fp,q⟩:=J.l.tries s au ar;exact JH w _ _ fp n rs q hr
 have bm:=Sb hr;have bc:(s:Int)<(R.I.j:Int):=η;obtain⟨i0,hi,aH,aV,aG⟩:=info_parts SK;have az:=λW0:U=>run_make (P:=prog) (w:=W0) 31 30 i0 _ underlying31 hi aH .i64 .i64 (rs.j:Int) (rs.j:Int) η (Int.le_refl _) (by rw[aG];omega) η;rw[aV] at az;have aN:X (∀W (x y z:Nat),μ w W->Calls prog 79 #[(π B),.agg #[ι (x:Nat),ι (y:Nat),ι (z:Nat)],ι (yc t s)] W λe f=>∃g,W.o.q<=g/\e=ε (.k (Z ⟨g,0,Y⟩) (yc t s) (yc t s))/\Tn W.o.q f (.k (Z ⟨g,0,Y⟩) (yc t s) (yc t s)) (zW ns [x,y,z] (yc t s) 3)/\μ W f):=λW x y z D=>N5 W B _ x y z ns (J.l.u D).cat ba;generalize yc t s=d at *;generalize F[s]=tb at *;clear aB hr;go_enter func38,ntmps38;go_wp2_with (first|(go_at_call 77;refine al.l.y ?_;rintro e G ⟨rfl,am⟩;obtain rfl:=am.z)|(go_at_call 78;refine a7.l.y ?_;rintro e G ⟨v1,rfl,Q,N⟩;obtain⟨aq,C,rfl⟩:=zr Q.1))
 have aj:μ G (G.C (.E (madeCells #[ν] rs.j) 30)):=γ;have av:μ w (G.C (.E (madeCells #[ν] rs.j) 30)):=zQ N aj (zg _);have aa:=yo (rZ G rs.j 30 (ν) b_) N.q;have ay:X (U.ownsRow (G.C (.E (madeCells #[ν] rs.j) 30)) w.o.q 30 1 (.k (Z ⟨G.o.q,0,Y⟩) rs.j rs.j) rs.j (([]:Φ).map (vn d)++List.replicate (rs.j-0) (ν))):=aa;have a5:X (Tw w.o.q (G.C (.E (madeCells #[ν] rs.j) 30)) (.k aq rs.j C) rs):=⟨zy Q.1 aj,Q.2⟩;have aE:w.o.q<=G.o.q:=N.q;clear aa az a7 Q aj al;generalize G.C (.E (madeCells #[ν] rs.j) 30)=w2 at *;generalize G.o.q=g at *;clear N;go_loopw [46] (λaI wr=>∃(m:Nat) (u:Φ),m<=rs.j/\aI=ι m/\μ w wr/\u.j=m/\X (wr.r w.o.q 30 1 (.k (Z ⟨g,0,Y⟩) rs.j rs.j) rs.j (u.map (vn d)++List.replicate (rs.j-m) (ν)))/\X (T8 w.o.q wr ((rs.G m).map (pB ns d)) u)/\X (Tw w.o.q wr (.k aq rs.j C) rs)) (λi _=>rs.j-(intOf i).D);exact⟨0,[],zs _,rfl,av,rfl,ay,T8.nil _,a5⟩;clear ay a5 av;obtain⟨m,u,hm,rfl,L,a9,HR,HC,HV⟩:=hrel;have E:X (u.j=m):=a9;clear a9;have bf:g<wr.o.q:=yG HR.l rfl;have aR:=vg HR.l;have bg:B<wr.o.q:=ym aK L.q;by_cases aC:m<rs.j
 .obtain⟨gv,cv,x,y,z,hv,aJ,S,c0,c1,c2⟩:=HV.l.cell m aC;simp only[O.slice.injEq] at hv;have ac:=hv.1;clear hv;subst ac;have bo:(m:Int)<(rs.j:Int):=η;have aU:X (rs.G (m+1)=rs.G m++[[x,y,z]]):=show rs.G (m+1)=rs.G m++[[x,y,z]] by rw[yM aC,S]
  clear S;have T:X (∀W,μ wr W->Calls prog 79 #[(π B),.agg #[ι x,ι y,ι z],ι d] W λe f=>∃g,W.o.q<=g/\e=ε (.k (Z ⟨g,0,Y⟩) d d)/\X (Tn W.o.q f (.k (Z ⟨g,0,Y⟩) d d) (zW ns [x,y,z] d 3))/\μ W f):=λW D=>aN.l W x y z (zQ L D (zg _));have V:X (∀W,μ wr W->Calls prog 80 #[(π B),ι s] W λe f=>e=ε (ι d)/\f=W):=λW D=>aO.l W (zQ L D (zg _));go_upto_region 9 with fail
  have A:μ wr (wr.C (.E #[ι x,ι y,ι z] 165)):=γ;have r:=Th.new wr #[ι x,ι y,ι z] 165;generalize wr.C (.E #[ι x,ι y,ι z] 165)=p at *;have v0:p.p ⟨wr.o.q,0,Y⟩=Z (ι x):=by rw[r.H.1];rfl
  have v1:p.p ⟨wr.o.q,1,Y⟩=Z (ι y):=by rw[r.H.1];rfl
  have v2:p.p ⟨wr.o.q,2,Y⟩=Z (ι z):=by rw[r.H.1];rfl
  have ai:wr.o.q<p.o.q:=r.lt;have I:=zy HR.l A;have a6:g<p.o.q:=yG I rfl;obtain⟨sx,aZ⟩:∃sx,p.p ⟨g,m,Y⟩=Z sx:=by
   obtain⟨g',be,aA,_,_,ap⟩:=yr I η;simp only[O.slice.injEq,zt,Addr.mk.injEq,and_true] at aA;have e:=aA.1;subst e;exact⟨_,ap m _ (yn (by simp[E.l];omega))⟩
  have bn:=vg I;have ab:X (p.r w.o.q 30 1 (.k (Z ⟨g,0,Y⟩) rs.j rs.j) rs.j (u.map (vn d)++List.replicate (rs.j-m) (ν))):=I;have ak:X (T8 w.o.q p ((rs.G m).map (pB ns d)) u):=HC.l.y (λ_ _ q=>q.u A);have an:X (Tw w.o.q p (.k (Z ⟨gv,0,Y⟩) rs.j C) rs):=HV.l.below' A;have a8:μ w p:=zQ L A (zg _);have a3:X (∀W,μ p W->Calls prog 79 #[(π B),.agg #[ι x,ι y,ι z],ι d] W λe f=>∃j,p.o.q<=j/\e=ε (.k (Z ⟨j,0,Y⟩) d d)/\X (Tn p.o.q f (.k (Z ⟨j,0,Y⟩) d d) (zW ns [x,y,z] d 3))/\X (μ p f)/\f.p ⟨wr.o.q,0,Y⟩=Z (ι x)/\f.p ⟨wr.o.q,1,Y⟩=Z (ι y)/\f.p ⟨wr.o.q,2,Y⟩=Z (ι z)/\f.p ⟨g,m,Y⟩=Z sx/\g<f.o.q/\∀o,f.frozen? ⟨g,o,Y⟩=false):=λW D=>by
   refine(T.l W (zQ A D (zg _))).y ?_;rintro e f ⟨j,h1,h2,h3,h4⟩;have hq:=zQ D h4 (zg _);have hs:=D.q;exact⟨j,η,h2,h3.l.low D.q,hq,(hq.cell ai).A v0,(hq.cell ai).A v1,(hq.cell ai).A v2,(hq.cell a6).A aZ,ym a6 hq.q,vg (zy ab.l hq)⟩
  have a4:X (∀W,μ p W->Calls prog 80 #[(π B),ι s] W λe f=>e=ε (ι d)/\f=W):=λW D=>V.l W (zQ A D (zg _));clear T V I r A HR HC HV c0 c1 c2 aJ aR;go_region_held3 (λf=>f.p ⟨wr.o.q,0,Y⟩=Z (ι x)/\f.p ⟨wr.o.q,1,Y⟩=Z (ι y)/\f.p ⟨wr.o.q,2,Y⟩=Z (ι z)) (first|go_keep|(go_simp;done)) (first|(go_at_call 79;refine(a3.l _ γ).y ?_;rintro e M ⟨j,bi,rfl,aw,K,a0,a1,a2,ax,ag,af⟩)|(go_at_call 80;refine(a4.l _ γ).y ?_;rintro e w6 ⟨rfl,am⟩;obtain rfl:=am.z))
  have ao:=zy ab.l K.l;have aL:X ((u.map (vn d)++List.replicate (rs.j-m) (O.slice Y 0 0)).set m (vn d j)=(u++[j]).map (vn d)++List.replicate (rs.j-(m+1)) (O.slice Y 0 0)):=show _=_ by
   obtain⟨k,hk⟩:∃k,rs.j-m=k+1:=⟨rs.j-m-1,η⟩;have aM:rs.j-(m+1)=k:=η;rw[List.set_append,za (by simp[E.l]),hk,aM,sq];simp[E.l]
  have H:=uB ao m (by simp[E.l];omega) (vn d j);rw[aL.l] at H;have ah:zd [g] M (M.x ⟨g,m,Y⟩ (.k (Z ⟨j,0,Y⟩) d d)):=zd.set _ _ _ _;obtain⟨cg,aP⟩:=jO ao (b:=g) rfl;have ad:=T2.box aP;have aQ:X (U.ownsRow (M.x ⟨g,m,Y⟩ (.k (Z ⟨j,0,Y⟩) d d)) w.o.q 30 1 (.k (Z ⟨g,0,Y⟩) rs.j rs.j) rs.j ((u++[j]).map (vn d)++List.replicate (rs.j-(m+1)) (ν))):=H;have aY:X (T8 w.o.q (M.x ⟨g,m,Y⟩ (.k (Z ⟨j,0,Y⟩) d d)) ((rs.G (m+1)).map (pB ns d)) (u++[j])):=show T8 _ _ _ _ by
   rw[aU.l,qF];have hz:=a8.q;refine T8.y (w:=M) ?_ (λ_ _ q=>yJ q ah ad θ);refine(ak.l.y (λ_ _ q=>q.u K.l)).snoc (l:=pB ns d [x,y,z]) (λa ha=>by have:=ak.l.lt a ha;omega) η ?_;show Tn w.o.q M (.k (Z ⟨j,0,Y⟩) (zW ns [x,y,z] d 3).j (zW ns [x,y,z] d 3).j) (zW ns [x,y,z] d 3);rw[kS];exact aw.l.low η
  have aT:X (Tw w.o.q (M.x ⟨g,m,Y⟩ (.k (Z ⟨j,0,Y⟩) d d)) (.k (Z ⟨gv,0,Y⟩) rs.j C) rs):=⟨yJ (an.l.below' K.l).1 ah ad θ,an.l.2⟩;have aS:μ w (M.x ⟨g,m,Y⟩ (.k (Z ⟨j,0,Y⟩) d d)):=(zQ a8 K.l (zg _)).x (by simpa using aE) _;have aF:X ((u++[j]).j=m+1):=show(u++[j]).j=m+1 by simp[E.l]
  clear H ao ah ad ab ak an aw K a0 a1 a2 ax ag af v0 v1 v2;generalize M.x ⟨g,m,Y⟩ (.k (Z ⟨j,0,Y⟩) d d)=w7 at *;go_wp2;go_roundw;exact⟨m+1,u++[j],η,ξ,aS,aF.l,aQ,aY,aT⟩;simp[intOf];omega
 obtain rfl:m=rs.j:=η;have q1:=HR.l;have q2:=HC.l;rw[jC,List.replicate_zero,qb] at q1;rw[uW] at q2;have HQ:X (_/\_):=And.intro q1 q2;clear q1 q2 HR HC HV E;go_wp2;go_ret2
 exact⟨g,u,aE,rfl,HQ.l.1,HQ.l.2,L⟩
end
section
open Go.RowKit
def MP(f:z9)(g:Nat):List Value:=[.d f.1,.k (Z ⟨g,0,Y⟩) f.2.1.j f.2.1.j,ι (f.2.2:Nat)]
def Pe(fs:List z9)(a:List Nat):List Value:=(List.zipWith MP fs a).flatten
structure oA (B:Nat) (w:U) (v:O) (fs:List z9) (gs:List Nat):Prop where
 len:gs.j=fs.j
 own:w.r B 114 3 v fs.j (Pe fs gs)
 I:∀i (h:i<fs.j) (h2:i<gs.j),Tn B w (.k (Z ⟨gs[i],0,Y⟩) fs[i].2.1.j fs[i].2.1.j) fs[i].2.1
def oA.u{B:Nat}{w w':U}{v:O}{fs:Θ}{c:Φ}(h:oA B w v fs c)(d:μ w w'):oA B w' v fs c:=⟨h.len,zy h.own d,λi a b=>(h.I i a b).u d⟩
def Ty.told{cs:Ξ}{a t:Ψ}(h:Ty cs a t){R:zv}{D:DB}{k mr mx:Nat}(c:qQ (t.w (·.jh)) (zM (zp cs).j) R)(l:zyx (t.w (·.jh)) R=D)(n:z0n (vf t (zp cs) Y cs) mr mx=Z (D,k))(m:R.count<=1048576):TS t (zp cs) R:=by
 have g:∀i (c:i<cs.j),ka (yL ((uo Y i).g [])) (zx cs[i]).j:=λi c=>pu (fL (h.many _ (zq c)));have b:=tT h (zp cs) Y g;have e:Uc t=Uc a:=by have:=ru (a.j+1) a cs;rw[h.jm] at this;exact this
 have j:Ti t=Ti a:=by
  have:=congrArg (List.map Prod.fst) e;simpa [Uc,Ti,Function.comp_def] using this
 obtain⟨_,p,_⟩:=h.low;have o:=h.K;have f:=GS cs;have d:(zp cs).j<=500:=by
  have:=Bv cs [];simp only[qW,vx] at this;show(cs.H q7 []).j<=500;omega
 exact⟨by rw[j];exact h.tab.rise,(gQ cs).1,c,b.small,by rw[l];exact JM h Y g n,m,η,η⟩
def CA:∀a:κ,yS a a=false
 |[]=>rfl
 |x::a=>by unfold yS;rw[zb rfl];exact CA a
def Ty.runos{cs:Ξ}{n t:Ψ}(h:Ty cs n t){os:Option (List (Option (List Int)))}(j:vC cs os=true):tn cs t os/\rJ (vf t (zp cs) os cs):=by
 have a:rJ (vf t (zp cs) os cs):=tT h _ os (oL j λc m=>fL (h.many c m));obtain⟨b,_⟩:=h.runok;have f:(os.g []).j<=cs.j/\∀o∈os.g [],(o.g []).j<=5:=by
  rcases os with _|l;simp;unfold vC at j;simp only[uK,beq_iff_eq,gd] at j;refine⟨by simp;omega,λo f=>?_⟩;obtain⟨i,q,rfl⟩:=vL.1 (show o∈l from f);have:=j.2 (cs[i]'η,l[i]) (by
   rw[vL];exact⟨i,by simp;omega,ζ⟩)
  rcases k:l[i] with _|o;simp;rw[k] at this;simp only[vz,uK,beq_iff_eq] at this;have p:=fL (h.many cs[i] (zq η));simp only[uD];omega
 have e:=b.len;refine⟨⟨b.len,b.names,b.fine,b.sums,b.K,b.vals,b.jm,η,λo h=>by have:=f.2 o h;omega,λ_ o h=>by have:=f.2 o h;omega,λ_=>?_⟩,a⟩;have d:=b.set rfl;exact⟨λr g=>⟨λl e=>((a.H.H r g).qc l e).1,λl e=>⟨((a.H.H r g).qx l e).1,a.H.apart r g r g rfl l e⟩⟩,d.many,d.small,d.I,d.facts,d.r⟩
end
section
open Classical
variable {t t0:List zf}{cs:List zc}
def JG{c:Ψ}{l:zj}(b:∀e∈t,e.L=0)(h:vS t l=Z c):∀e∈c,e.L=0:=by
 unfold vS at h;split at h;split at h;simp only[zt] at h;subst h;exact b;cases h;simp only[zt] at h;subst h;intro e a;rcases tO.1 a with rfl|a;rfl;exact b e a
def FF:∀(b done:Ω) (t:Ψ),U2 t done->(∀e∈t,e.L=0)->(∀x∈done++b,∀y∈done++b,x.o=y.o->x.k.j=y.k.j)->∃c,b.H uI (Z t)=Z c/\U2 c (done++b)/\∀e∈c,e.L=0
 |[],done,t,h,g,_=>⟨t,rfl,by simpa using h,g⟩
 |l::b,done,t,h,g,j=>by
  rw[uG];cases a:vS t l with
  |none=>
   exfalso;unfold vS at a;split at a
   .rename_i e o;obtain⟨k,q⟩:=pQ o;split at a
    .cases a
    .rename_i i;obtain⟨m,f,d⟩:=(h.names e.name).1 (zF.2 ⟨e,k,rfl⟩);apply i;rw[←h.jh e k m f d];exact j m (by simp[f]) l ζ (d.A q)
   .cases a
  |some n=>
   rw[show uI (Z t) l=Z n from a];obtain⟨c,p,r,s⟩:=FF b (done++[l]) n (h.step a) (JG g a) (by simpa [List.append_assoc] using j);exact⟨c,p,by simpa [List.append_assoc] using r,s⟩
def I9{c:Ω}(h:U2 t c){x y:zj}(f:x∈c)(g:y∈c)(e:x.o=y.o):x.k.j=y.k.j:=by
 obtain⟨a,d,b⟩:=zF.1 ((h.names x.o).2 ⟨x,f,rfl⟩);rw[h.jh a d x f b.z,h.jh a d y g (e.z.A b.z)]
def Hj(h:U2 t (cs.flatMap zm)):kJ t cs:=by
 intro c f l b;rcases d:zU t l.o with _|e;obtain⟨e,a,g⟩:=zF.1 ((h.names l.o).2 ⟨l,ve.2 ⟨c,f,b⟩,rfl⟩);exact zB g (rp h.rise d e a);rfl
def Si(h:∀e∈t,e.L=0)(n:ByteArray):val t n=0:=by
 unfold val;split;rename_i e a;exact h e (pQ a).1;rfl
def Sd(h:uC cs=Z t0):∀e∈t0,e.L=0:=by
 have a:=Dn h;obtain⟨u,u1,u2,u3⟩:=FF (cs.flatMap zm) [] [] eV (λe b=>by cases b) (λx f y c e=>I9 a (by simpa using f) (by simpa using c) e);have d:u=t0:=by unfold uC at h;rw[u1] at h;simpa using h
 subst d;exact u3
def Ty.least(h:Ty cs t0 t):TT cs (val t):=by
 have:=(ef (Hj h.tab) (Si (Sd h.coll))).2 (by rw[h.jm]);rwa [h.jm] at this
def Ty.nam(h:Ty cs t0 t):Ti t=Ti t0/\Uc t=Uc t0:=by
 have b:=iG (t0.j+1) t0 cs (Hj h.tab);have a:=ru (t0.j+1) t0 cs;rw[h.jm] at b a;exact⟨b,a⟩
end
section
open Go.RowKit
def Em(t:List zf)(ns:κ)(D:DB)(f:z9):Prop:=∃p,p<t.j/\∃r m,D p r=Z m/\f=(vh t p,zW ns r (yc t p) 3,m)
def CK(t:List zf)(ns:κ)(A:Option (DB×Nat))(b:List zf)(a:κ)(B:Option (DB×Nat)):Prop:=match A,B with
 |none,Y=>True
 |some (D,k),Z (E,l)=>k=l/\∀f,Em t ns D f↔Em b a E f
 |_,_=>False
end
section
open Classical
def EU{cs:Ξ}{a t:Ψ}(h:Ty cs a t){c:zc}(d:c∈cs){l:zj}(b:l∈zm c):l.o∈Ti t:=by
 rw[h.nam.1];exact(h.tab.names l.o).2 ⟨l,ve.2 ⟨c,d,b⟩,rfl⟩
def Fd{t:Ψ}{ns:κ}(cs:Ξ)(s:Nat):((uP t ns Y cs).filter λr=>decide (r.L=s))=[]↔¬∃c∈cs,0<c.d.j/\xP t c.g.o=s:=by
 rw[eZ];constructor;rintro q ⟨c,f,b,d⟩;obtain⟨i,a,rfl⟩:=vL.1 f;have:=q _ (rH.2 ⟨i,a,b,rfl⟩);exact this (decide_eq_true d);intro q r g;obtain⟨i,a,b,rfl⟩:=rH.1 g;exact λe=>q ⟨_,zq a,b,of_decide_eq_true e⟩
def On{rs:List zu}{k:Nat}{D:DB}{p:Nat}{x:zk}{m:Nat}(h:D p x=Z m):zy4 rs k D p x=Z m:=by
 unfold zy4;rw[h]
end
section
open Classical
variable {ns:κ}
def TI(σ:ByteArray->ByteArray)(l:zj):κ:=l.k.w λa=>if zT a=true then σ a else a
def og{i:Nat}(h:i<ns.j):ns.g i ByteArray.empty∈ns:=by
 rw[Tl _ h];exact zq h
def ie{cs:Ξ}{c:zc}(k:c∈cs){l:zj}(h:l∈zm c)(p:l.k.j<=3)(σ:ByteArray->Nat):zW (zp cs) (qu (zp cs) σ l) l.k.j 3=TI (λv=>(zp cs).g (σ v) ByteArray.empty) l:=by
 have b:=gQ cs;have a:∀i (d:i<l.k.j),(zp cs).g ((qu (zp cs) σ l).g i 0) ByteArray.empty=if zT l.k[i]=true then(zp cs).g (σ l.k[i]) ByteArray.empty else l.k[i]:=by
  intro i d;have e:(qu (zp cs) σ l).g i 0=kz (zp cs) σ l i:=by
   have:i=0∨i=1∨i=2:=η;rcases this with rfl|rfl|rfl<;>rfl
  rw[e];unfold kz;rw[yn d];simp only;split;rfl;rename_i j;have g:=(b.2 _).2 ⟨c,k,l,h,zq d,by simpa using j⟩;obtain⟨v,f,n⟩:=Cw b.1 g;rw[f];exact(pX f).2
 apply jy;simp[zW,TI];intro i m o;have d:i<l.k.j:=by simpa [zW] using m
 simp only[zW,TI,ub,fR];rw[zb η,a i d]
def MM(o:y9 ns){l:zj}{r:zk}(g:T0 l.k.j r)(k:∀i,i<l.k.j->r.g i 0<ns.j){σ:ByteArray->ByteArray}(h:zW ns r l.k.j 3=TI σ l):r=qu ns (λv=>(xr ns (σ v)).g 0) l:=by
 have d:∀i,i<3->r.g i 0=kz ns (λv=>(xr ns (σ v)).g 0) l i:=by
  intro i s;unfold kz;by_cases j:i<l.k.j;have e:(zW ns r l.k.j 3)[i]'(by rw[kS];exact j)=(TI σ l)[i]'(by simp[TI];exact j):=by simp only[h]
  simp only[zW,TI,ub,fR] at e;rw[zb η] at e;have m:=sX o (k i j);rw[yn j];simp only;split;rename_i f;rw[zb f] at e;rw[←e,m];rfl;rename_i f;rw[za f] at e;rw[←e,m];rfl;rw[gL η];exact g.2 i η
 match r,g.1 with
 |[a,b,c],_=>
  have n:=d 0 η;have q:=d 1 η;have p:=d 2 η;unfold qu;rw[←n,←q,←p];rfl
end
section
open Classical
abbrev yB:=List (ByteArray×ByteArray)
def Tz:yB->ByteArray->Option ByteArray
 |[],_=>Y
 |x::B,t=>if x.1=t then Z x.2 else Tz B t
def yq(B:yB)(t:ByteArray):ByteArray:=if zT t=true then(Tz B t).g ByteArray.empty else t
def xH:yB->κ->κ->Option yB
 |B,[],_=>Z B
 |B,a::b,row=>if yq B a=ByteArray.empty then xH (B++[(a,row.headD ByteArray.empty)]) b row.tail else if yq B a=row.headD ByteArray.empty then xH B b row.tail else Y
def yO(B:yB)(args:κ):κ:=args.w (yq B)
abbrev VD:=List Bool×Bool
def tZ(B C:yB)(t:ByteArray):Tz (B++C) t=(Tz B t).or (Tz C t):=by
 induction B with
 |nil=>rfl
 |cons x B a=>
  rw[lr,Tz,Tz];split;rfl;exact a
def qv(B:yB):Prop:=∀v x,Tz B v=Z x->x≠ByteArray.empty
def UY(B C:yB):Prop:=∀v x,Tz B v=Z x->Tz C v=Z x
def UY.A{A B C:yB}(h:UY A B)(k:UY B C):UY A C:=λv x q=>k v x (h v x q)
def pI{B C:yB}(h:UY B C){t:ByteArray}(a:yq B t≠ByteArray.empty):yq C t=yq B t:=by
 unfold yq at *;split;rename_i q;rw[zb q] at a;rcases b:Tz B t with _|x;rw[b] at a;exact zB rfl a;rw[h t x b];rfl
def sy:∀(args row:κ) (B b:yB),args.j=row.j->(∀x∈row,x≠ByteArray.empty)->(∀a∈args,a≠ByteArray.empty)->qv B->xH B args row=Z b->qv b/\UY B b/\yO b args=row
 |[],row,B,b,m,_,_,i,h=>by
  simp only[xH,zt] at h;subst h;have:row=[]:=by cases row with|nil=>rfl|cons a r=>simp at m
  subst this;exact⟨i,λv x q=>q,rfl⟩
 |a::g,[],B,b,m,_,_,_,_=>by simp at m
 |a::g,r::j,B,b,m,t,u,i,h=>by
  have l:g.j=j.j:=by simpa using m
  have A:=t r ζ;have p:=u a ζ;unfold xH at h;change (if yq B a=ByteArray.empty then xH (B++[(a,r)]) g j else if yq B a=r then xH B g j else Y)=Z b at h;split at h
  .rename_i c;have d:zT a=true:=by
    false_or_by_contra
    rename_i q;unfold yq at c;rw[za q] at c;exact p c
   have z:Tz B a=none:=by
    unfold yq at c;rw[zb d] at c;cases f:Tz B a with
    |none=>rfl
    |some x=>rw[f] at c;exact zB c (i a x f)
   have s:qv (B++[(a,r)]):=by
    intro v x q;rw[tZ] at q;cases f:Tz B v with
    |some y=>rw[f] at q;simp only[Option.some_or,zt] at q;rw[←q];exact i v y f
    |none=>
     rw[f] at q;simp only[Option.none_or,Tz] at q;split at q
     .simp only[zt] at q;rw[←q];exact A
     .cases q
   have C:UY B (B++[(a,r)]):=by
    intro v x q;rw[tZ,q];rfl
   obtain⟨w,k,n⟩:=sy g j _ b l (λx e=>t x (by simp[e])) (λx e=>u x (by simp[e])) s h;refine⟨w,C.A k,?_⟩;unfold yO at n ⊢;rw[un,n];congr 1;have:Tz (B++[(a,r)]) a=Z r:=by
    rw[tZ,z];simp[Tz]
   unfold yq;rw[zb d,k a r this];rfl
  .rename_i c;by_cases o:yq B a=r
   .rw[zb o] at h;obtain⟨w,k,n⟩:=sy g j B b l (λx e=>t x (by simp[e])) (λx e=>u x (by simp[e])) i h;refine⟨w,k,?_⟩;unfold yO at n ⊢;rw[un,n,pI k c,o]
   .rw[za o] at h;cases h
def U9(B:yB)(σ:ByteArray->ByteArray):Prop:=∀v x,Tz B v=Z x->σ v=x
def wQ{σ:ByteArray->ByteArray}(c:∀a,σ a≠ByteArray.empty):∀(args:κ) (B:yB),(∀a∈args,a≠ByteArray.empty)->U9 B σ->∃l,xH B args (args.w λa=>if zT a=true then σ a else a)=Z l/\U9 l σ
 |[],B,_,h=>⟨B,rfl,h⟩
 |a::i,B,g,h=>by
  unfold xH;simp only[un,List.headD_cons,mR];by_cases b:zT a=true
  .rw[zb b];cases j:Tz B a with
   |none=>
    have f:yq B a=ByteArray.empty:=by unfold yq;rw[zb b,j];rfl
    rw[zb f];refine wQ c i _ (λx d=>g x (by simp[d])) λv x q=>?_;rw[tZ] at q;cases k:Tz B v with
    |some y=>rw[k] at q;simp only[Option.some_or,zt] at q;rw[←q];exact h v y k
    |none=>
     rw[k] at q;simp only[Option.none_or,Tz] at q;split at q
     .rename_i e;simp only[zt] at q;rw[←q,e]
     .cases q
   |some x=>
    have d:=h a x j;have f:yq B a=x:=by unfold yq;rw[zb b,j];rfl
    rw[f,za (by rw[←d];exact c a),zb d.z];exact wQ c i B (λx d=>g x (by simp[d])) h
  .have f:yq B a=a:=by unfold yq;rw[za b]
   rw[za b,f,za (g a ζ),zb rfl];exact wQ c i B (λx d=>g x (by simp[d])) h
def eb{a:ByteArray}{row:κ}:∀{fs:Θ} {k:Nat},yP a row fs=Z k->∃e:k<fs.j,fs[k].1=a/\fs[k].2.1=row
 |[],_,h=>by cases h
 |f::fs,k,h=>by
  unfold yP at h;split at h
  .rename_i q;simp only[zt] at h;subst h;exact⟨ζ,by simpa using q⟩
  .obtain⟨j,c,rfl⟩:=qn.1 h;obtain⟨b,d⟩:=eb c;exact⟨by simpa using b,by simpa using d⟩
def BJ{a:ByteArray}{row:κ}:∀{fs:Θ},yP a row fs=Y->∀m,(a,row,m)∉fs
 |[],_,m,h=>by cases h
 |f::fs,b,m,h=>by
  unfold yP at b;split at b
  .cases b
  .rename_i q;rw[Option.map_eq_none_iff] at b;rcases zG.1 h with e|h
   .rw[←e] at q;exact q ⟨rfl,rfl⟩
   .exact BJ b m h
def Cm(a b:VD):Prop:=b.1.j=a.1.j/\∀i,a.1.g i false=true->b.1.g i false=true
def Cm.refl(a:VD):Cm a a:=⟨rfl,λ_ h=>h⟩
def U9.val{B:yB}{σ:ByteArray->ByteArray}(h:U9 B σ){a:ByteArray}(b:yq B a≠ByteArray.empty):yq B a=if zT a=true then σ a else a:=by
 unfold yq at *;split;rename_i q;rw[zb q] at b;rcases c:Tz B a with _|x;rw[c] at b;exact zB rfl b;rw[h a x c];rfl;rfl
end
section
open Go.RowKit
def xE(B:yB):κ:=B.w (·.1)
def uk(B:yB):κ:=B.w (·.2)
def Qq{B:yB}{k:Nat}(a:k<B.j)(t:ByteArray):Tz (B.drop k) t=if B[k].1=t then Z B[k].2 else Tz (B.drop (k+1)) t:=by
 rw[xn a];rfl
end
section
open Go.Proofs.Tryz Go.RowKit
def gS(B:yB)(t:ByteArray):Bool:=!zT t||(Tz B t).I
def C8{lo A:Nat}(w:U)(N M:O)(B:yB)(t:ByteArray)(x:Tn lo w N (xE B))(v:Tn A w M (uk B))(hl:B.j<=1000)(T:0<t.q):
  Calls prog 211 #[.agg #[N,M],.d t] w λe J=>e=ε (.B #[.d (yq B t),.i (gS B t)])/\X (μ w J):=by
 have d:X (∀W,Calls prog 154 #[.d t] W λe J=>e=ε (.i (zT t))/\J=W):=λW=>iE t W T;have z:(xE B).j=B.j:=by simp[xE]
 have K:(uk B).j=B.j:=by simp[uk]
 obtain⟨i,c,rfl⟩:=x.qy;obtain⟨h,a,rfl⟩:=v.qy;rw[z] at x ⊢;rw[K] at v ⊢;have r:X (∀W k (p:k<B.j),μ w W->∃g,i=Z (δ g)/\g<W.o.q/\W.p (ω g k)=Z (.d B[k].1)):=λW k p L=>by
  obtain⟨g,I,F,D⟩:=(x.u L).cell k (by rw[z];exact p);exact⟨g,I,F,by rw[D];simp[xE]⟩
 have u:X (∀W k (p:k<B.j),μ w W->∃g,h=Z (δ g)/\g<W.o.q/\W.p (ω g k)=Z (.d B[k].2)):=λW k p L=>by
  obtain⟨g,I,F,D⟩:=(v.u L).cell k (by rw[K];exact p);exact⟨g,I,F,by rw[D];simp[uk]⟩
 clear x v z K;cases n:zT t
 .rw[n] at d;have f:X (yq B t=t/\gS B t=true):=by unfold X yq gS;rw[n];simp
  clear n r u;go_enter func211,ntmps211;go_wp2_with (go_at_call 154;refine(d.l _).y ?_;rintro e R ⟨rfl,m⟩;obtain rfl:=m.z)
  go_ret2
  exact⟨by rw[f.l.1,f.l.2];rfl,(zn _ _).C (zg _) _⟩
 rw[n] at d;have f:X (yq B t=(Tz B t).g ByteArray.empty/\gS B t=(Tz B t).I):=by unfold X yq gS;rw[n];simp
 clear n;go_enter func211,ntmps211;go_wp2_with (go_at_call 154;refine(d.l _).y ?_;rintro e R ⟨rfl,m⟩;obtain rfl:=m.z)
 have j:X (μ w (w.C (.E #[.k i B.j c,.k h B.j a] 270))):=(zn _ _).C (zg _) _;have s:=Th.new w #[.k i B.j c,.k h B.j a] 270;obtain⟨hc,hf,aa⟩:=s.e;clear s;generalize G:w.C (.E #[.k i B.j c,.k h B.j a] 270)=wA at *;clear G;go_loopw [7] (λE wr=>∃k:Nat,k<=B.j/\E=ι k/\X (Tz B t=Tz (B.drop k) t)/\wr=wA) (λE _=>B.j-(intOf E).D);exact⟨0,zs _,rfl,rfl,rfl⟩;obtain⟨k,p,rfl,H,y⟩:=hrel;obtain rfl:=y.z;by_cases l:k<B.j
 .have C:(k:Int)<(B.j:Int):=η;obtain⟨g1,rfl,P,c1⟩:=r.l _ k l j.l;obtain⟨g2,rfl,ab,c2⟩:=u.l _ k l j.l;have o:=Qq l t;by_cases q:B[k].1=t
  .have Q:=jt q;rw[zb q] at o;have b:X (yq B t=B[k].2/\gS B t=true):=by rw[X,f.l.1,f.l.2,H.l,o];exact⟨rfl,rfl⟩
   clear q o H f;generalize B[k].1=V at *;generalize B[k].2=x2 at *;go_wp2;go_ret2
   exact⟨by rw[b.l.1,b.l.2];rfl,j⟩
  have Q:=vV q;rw[za q] at o;have S:X (Tz B t=Tz (B.drop (k+1)) t):=by rw[X,H.l,o]
  clear q o H;generalize B[k].1=V at *;go_wp2;go_roundw;exact⟨k+1,η,ξ,S,trivial⟩;simp[intOf];omega
 have C:¬(k:Int)<(B.j:Int):=η;have b:X (yq B t=ByteArray.empty/\gS B t=false):=by
  rw[X,f.l.1,f.l.2,H.l,ui η];exact⟨rfl,rfl⟩
 clear H f;go_wp2;go_ret2
 exact⟨by rw[b.l.1,b.l.2];rfl,j⟩
def Ow{lo F G:Nat}(w:U)(i f av:O)(B:yB)(args:κ)(h1:Tn lo w i (xE B))(h2:Tn F w f (uk B))(T:Tn G w av args)(hl:B.j<=1000)(ha:args.j<=1000)(aa:∀a∈args,0<a.q):
  Calls prog 195 #[.agg #[i,f],av] w λe b=>∃v,e=.returned v/\X (Tn w.o.q b v (yO B args))/\X (μ w b):=by
 obtain⟨i0,hi,N,C,E⟩:=info_parts SL;have ab:=Tg λW t r M=>C8 W i f B t (h1.u r) (h2.u r) hl M;obtain⟨ao,aj,rfl⟩:=T.qy;have HA:X (∀W k (hk:k<args.j),μ w W->∃g,ao=Z ⟨g,0,Y⟩/\g<W.o.q/\W.p ⟨g,k,Y⟩=Z (.d args[k])):=λW k hk r=>(T.u r).cell k hk;clear h1 h2 T;go_enter func195,ntmps195;go_wp2;have z:X (μ w (w.C (.E #[i,f] 270))):=(zn _ _).C (zg _) _;have l:=Th.new w #[i,f] 270;have I:=Tg l;have ag:=l.lt;clear l;generalize V:w.C (.E #[i,f] 270)=A at *;clear V;go_loopw [5,6] (λv5 P wr=>∃k:Nat,k<=args.j/\P=ι k/\wr.r A.o.q 9 1 v5 k ((yO B (args.G k)).map O.string)/\X (μ A wr)) (λ_ P _=>args.j-(intOf P).D);exact⟨0,zs _,rfl,xp _ _ _ _,zn _ _⟩;obtain⟨k,hk,rfl,c,h⟩:=hrel;obtain⟨ak,ad,rfl⟩:=zr c;have n:=Tg (Tk z.l (h.l));have ae:=h.l.q;by_cases m:k<args.j
 .have L:(k:Int)<(args.j:Int):=η;obtain⟨g,rfl,hg,s⟩:=HA.l _ k m n.l;have M:=aa _ (zq m);have d:=(I.l.u h.l);obtain⟨hc,hf,af⟩:=d.e;have S:X (yO B (args.G (k+1))=yO B (args.G k)++[yq B args[k]]):=by
   unfold X yO;rw[yM m,qF];rfl
  have HV:X (∀W,μ wr W->Calls prog 211 #[.agg #[i,f],.d args[k]] W λe b=>e=ε (.B #[.d (yq B args[k]),.i (gS B args[k])])/\X (μ wr b)/\b.p ⟨g,k,Y⟩=Z (.d args[k])/\b.p ⟨w.o.q,0,Y⟩=Z i/\b.p ⟨w.o.q,1,Y⟩=Z f):=λW r=>by
   refine(ab.l W args[k] (Tk n.l r) M).y ?_;rintro e b ⟨q1,q2⟩;have o:=Tk r q2.l;have u:=d.u o;exact⟨q1,o,(zi o hg s),by rw[u.H.1];rfl,by rw[u.H.1];rfl⟩
  clear d;generalize yq B args[k]=x at *;generalize gS B args[k]=kn at *;generalize args[k]=y at *;go_upto_region 5 with fail
  go_cut [7,8] from 15 to 23 (λs7 _ wx=>s7=.d x/\X (μ wr wx))
  .go_region_held3 (λb=>b.p ⟨g,k,Y⟩=Z (.d y)/\b.p ⟨w.o.q,0,Y⟩=Z i/\b.p ⟨w.o.q,1,Y⟩=Z f) (first|go_keep|(go_simp;done)) (first|(go_at_call 211;refine(HV.l _ φ).y ?_;rintro e w5 ⟨rfl,D,z0,z1,z2⟩))
   go_wp2;go_meet
   exact⟨rfl,D⟩
  obtain⟨rfl,p⟩:=hcut;have R:=zy c p.l;have ah:=p.l.q;have j:=Tg (Tk h.l p.l);clear hc hf s;go_wp2_with (at_builtin;refine gu wc _ _ _ rfl (.tmp 24) (.tmp 26) 30 rfl A.o.q 9 i0 _ 1 16 underlying30 hi N C E rfl θ _ _ _ rfl R (zn _ _) _ _ rfl ζ rfl a_ η η j.l.q ?_;intro v' w2 J K H Q ai ac;clear H Q)
  go_roundw;exact⟨k+1,η,ξ,by rw[S.l];simpa using J,j.l.A K⟩;simp[intOf];omega
 have L:¬(k:Int)<(args.j:Int):=η;obtain rfl:k=args.j:=η;go_wp2;go_ret;refine⟨_,rfl,?_,n⟩;have q:=c;rw[uW] at q;have e:(yO B args).j=args.j:=by simp[yO]
 unfold X Tn;rw[e];exact yo q (by have:=z.l.q;omega)
section
variable {ops:Array Oper} {rest:List Oper} {o:Oper} {a:Act} {Q:Exit->Act->U->Prop}
def El{lo:Nat}{w:U}(d:o.guard=Y)(s x:Operand)
  (D:o.op=.call {callee:=.builtin .append,args:=#[s,x],argTypes:=#[30,30]})
  (b:κ) (v:O) (z:a.eval s=ν) (E:a.eval x=v) (J:Tn lo w v b) (P:b.j<=1000000)
  (h:∀t y,Tn w.o.q y t b->μ w y->wpList prog ops Q rest (a.put o.dst t) y):
  wpList prog ops Q (o::rest) a w:=by
 obtain⟨C,B,q,f,i⟩:=info_parts SL;obtain⟨_,⟨g,K⟩|⟨A,c,M,g,G,F,N,I,H,n⟩⟩:=J;have p:b=[]:=lP K;refine wpList_append_own_none d s x 30 D w.o.q 9 C 1 underlying30 B _ 0 [] z (xp _ _ _ _) (by rw[E,g]) ?_;refine h _ _ ?_ (zn _ _);rw[p];exact xp _ _ _ _;have m:∀j u,(b.map O.string)[j]?=Z u->w.p (Addr.add (δ A) j)=Z u:=λj u e=>by
  rw[Addr.add_lit,vx];unfold U.cell?;rw[F];simp only;rw[←n,nc] at e;split at e;simpa using e;simp at e
 refine wpList_append_own _ d s x 30 D w.o.q 9 C _ 1 16 underlying30 B q f i rfl θ _ 0 [] z (xp _ _ _ _) (δ A) b.j c (b.map O.string) (by rw[E,g]) ζ m a_ b_ η (zg _) ?_;intro t R l r _;refine h _ _ ?_ ((zn _ _).grown r (zg _) (λk L=>by cases L));simpa [Tn] using l
end
def Ah{w:U}{b:Nat}{c:Array O}{T:TypeId}(h:Th w b c T)(o:Obj):Th (w.C o) b c T:=h.u ((zn _ _).C (zg _) o)
structure CB (lo:Nat) (w:U) (cb:Nat) (B:yB) (v1 v2:O):Prop where
 box:Th w cb #[v1,v2] 111
 fst:w.r lo 9 1 v1 B.j ((xE B).map O.string)
 snd:w.r lo 9 1 v2 B.j ((uk B).map O.string)
 ne:∀b,v1.m=Z b->v2.m≠Z b
def BQ(B:yB):(xE B).j=B.j:=by simp[xE]
def AT(B:yB):(uk B).j=B.j:=by simp[uk]
def CB.u{lo:Nat}{w w':U}{e:Nat}{B:yB}{d c:O}(h:CB lo w e B d c)(b:μ w w'):CB lo w' e B d c:=⟨h.box.u b,zy h.fst b,zy h.snd b,h.ne⟩
def Kw{B:yB}{args row:κ}{k:Nat}(c:k<args.j)(b:k<row.j):xH B (args.drop k) (row.drop k)=if yq B args[k]=ByteArray.empty then xH (B++[(args[k],row[k])]) (args.drop (k+1)) (row.drop (k+1)) else if yq B args[k]=row[k] then xH B (args.drop (k+1)) (row.drop (k+1)) else none:=by
 rw[xn c,xn b];rfl
end
section
open Classical
def yt(fs:List z9)(h:zj)(body:List zj):List zj->yB->List (κ)
 |[],B=>if (body.any λl=>l.i&&(yP l.o (yO B l.k) fs).I)=true then [] else [yO B h.k]
 |l::rest,B=>if l.i=true then yt fs h body rest B else fs.flatMap λf=>if f.1=l.o then(match xH B l.k f.2.1 with|none=>[]|some a=>yt fs h body rest a) else []
structure tG (cs:List zc) (fs:List z9):Prop where
 jh:∀f∈fs,∀c∈cs,∀l∈zm c,l.o=f.1->f.2.1.j=l.k.j
 ne:∀f∈fs,∀x∈f.2.1,x≠ByteArray.empty
def se(fs:List z9)(c:zc)(x:κ):Prop:=∃σ:ByteArray->ByteArray,(∀a,σ a≠ByteArray.empty)/\(∀l∈c.d,l.i=false->∃m,(l.o,TI σ l,m)∈fs)/\(∀l∈c.d,l.i=true->∀m,(l.o,TI σ l,m)∉fs)/\x=TI σ c.g
def rN{fs:Θ}{p:ByteArray}{r:κ}:(yP p r fs).I=true↔∃m,(p,r,m)∈fs:=by
 rcases a:yP p r fs with _|k;exact⟨λq=>(by cases q),fun⟨m,b⟩=>zB b (BJ a m)⟩;obtain⟨d,e,c⟩:=eb a;exact⟨λ_=>⟨fs[k].2.2,by rw[←e,←c];exact zq d⟩,λ_=>rfl⟩
def AE{cs:Ξ}{fs:Θ}(u:tG cs fs){c:zc}(C:c∈cs)(p:∀l∈zm c,∀a∈l.k,a≠ByteArray.empty)(i:∀l∈zm c,∀y∈l.k,zT y=true->y∈zx c){x:κ}:∀(rest done:Ω) (B:yB),c.d=done++rest->qv B->(∀l∈done,l.i=false->(∃m,(l.o,yO B l.k,m)∈fs)/\∀a∈l.k,yq B a≠ByteArray.empty)->x∈yt fs c.g c.d rest B->se fs c x
 |[],done,B,e,z,r,d=>by
  rw[qb] at e;unfold yt at d;split at d
  .cases d
  .rename_i E;rw[xQ] at d;have b:∀l∈zm c,yO B l.k=TI (λv=>if (Tz B v).g ByteArray.empty=ByteArray.empty then⟨#[0]⟩ else(Tz B v).g ByteArray.empty) l:=by
    intro l n;refine kV λa k=>?_;unfold yq;split
    .rename_i F;obtain⟨_,o,h,f,D⟩:=fm.1 (i l n a k F);have:=(r o (by rw[←e];exact h) f).2 a D;unfold yq at this;rw[zb F] at this;exact(za this).z
    .rfl
   refine⟨_,λa=>?_,λl n t=>?_,λl n t m G=>E ?_,d.A (b _ (by simp[zm]))⟩
   .split
    .decide
    .assumption
   .rw[←b l (by simp[zm,n])];exact(r l (by rw[←e];exact n) t).1
   .rw[←b l (by simp[zm,n])] at G;rw[fc];exact⟨l,n,by rw[t,nY];exact rN.2 ⟨m,G⟩⟩
 |l::rest,done,B,e,z,r,d=>by
  have I:c.d=(done++[l])++rest:=by rw[e];simp
  have s:l∈zm c:=by simp[zm,e]
  unfold yt at d;split at d
  .rename_i t;refine AE u C p i rest (done++[l]) B I z (λo h f=>?_) d;rcases ya.1 h with q|q
   .exact r o q f
   .rw[xQ.1 q,t] at f;cases f
  .obtain⟨g,j,d⟩:=ve.1 d;split at d
   .rename_i H;split at d
    .cases d
    .rename_i w M;obtain⟨N,J,K⟩:=sy l.k g.2.1 B w (u.jh g j c C l s H.z).z (u.ne g j) (p l s) z M;refine AE u C p i rest (done++[l]) w I N (λo h f=>?_) d;rcases ya.1 h with q|q
     .obtain⟨⟨m,L⟩,A⟩:=r o q f;have b:yO w o.k=yO B o.k:=kV λa k=>pI J (A a k);exact⟨⟨m,by rw[b];exact L⟩,λa k=>by rw[pI J (A a k)];exact A a k⟩
     .rw[xQ.1 q];refine⟨⟨g.2.2,by rw[K,←H];exact j⟩,λa k=>?_⟩;have:yq w a∈yO w l.k:=zF.2 ⟨a,k,rfl⟩;rw[K] at this;exact u.ne g j _ this
   .cases d
def AM{fs:Θ}{c:zc}(d:∀l∈zm c,∀a∈l.k,a≠ByteArray.empty)(i:∀l∈zm c,∀y∈l.k,zT y=true->y∈zx c){σ:ByteArray->ByteArray}(j:∀a,σ a≠ByteArray.empty)(f:∀l∈c.d,l.i=false->∃m,(l.o,TI σ l,m)∈fs)(h:∀l∈c.d,l.i=true->∀m,(l.o,TI σ l,m)∉fs):∀(rest done:Ω) (B:yB),c.d=done++rest->qv B->U9 B σ->(∀l∈done,l.i=false->∀a∈l.k,yq B a≠ByteArray.empty)->TI σ c.g∈yt fs c.g c.d rest B
 |[],done,B,e,A,z,r=>by
  rw[qb] at e;have n:∀l∈zm c,yO B l.k=TI σ l:=by
   intro l v;refine kV λa k=>z.val ?_;by_cases H:zT a=true
   .obtain⟨_,p,g,b,F⟩:=fm.1 (i l v a k H);exact r p (by rw[←e];exact g) b a F
   .unfold yq;rw[za H];exact d l v a k
  unfold yt;rw[za]
  .rw[n c.g (by simp[zm])];simp
  .intro q;rw[fc] at q;obtain⟨l,v,E⟩:=q;rw[uK,n l (by simp[zm,v])] at E;obtain⟨m,L⟩:=rN.1 E.2;exact h l v E.1 m L
 |l::rest,done,B,e,A,z,r=>by
  have I:c.d=(done++[l])++rest:=by rw[e];simp
  have s:l∈c.d:=by rw[e];simp
  have o:l∈zm c:=by simp[zm,s]
  unfold yt;split
  .rename_i D;refine AM d i j f h rest (done++[l]) B I A z λp g b=>?_;rcases ya.1 g with q|q
   .exact r p q b
   .rw[xQ.1 q,D] at b;cases b
  .rename_i D;obtain⟨m,K⟩:=f l s (by simpa using D);obtain⟨w,G,C⟩:=wQ j l.k B (d l o) z;have u:xH B l.k (TI σ l)=Z w:=G;have t:∀x∈TI σ l,x≠ByteArray.empty:=by
    intro x J;obtain⟨a,k,rfl⟩:=zF.1 J;split
    .exact j a
    .exact d l o a k
   obtain⟨M,N,P⟩:=sy l.k (TI σ l) B w (by simp[TI]) t (d l o) A u;refine ve.2 ⟨_,K,?_⟩;rw[zb rfl,u];refine AM d i j f h rest (done++[l]) w I M C λp g b a k=>?_;rcases ya.1 g with q|q
   .rw[pI N (r p q b a k)];exact r p q b a k
   .rw[xQ.1 q] at k;have:yq w a∈yO w l.k:=zF.2 ⟨a,k,rfl⟩;rw[P] at this;exact t _ this
def FA{cs:Ξ}{fs:Θ}(j:tG cs fs){c:zc}(f:c∈cs)(d:∀l∈zm c,∀a∈l.k,a≠ByteArray.empty)(b:∀l∈zm c,∀y∈l.k,zT y=true->y∈zx c){x:κ}:x∈yt fs c.g c.d c.d []↔se fs c x:=
 ⟨AE j f d b c.d [] [] rfl (λv x q=>by cases q) (λl e=>by cases e),fun⟨_,i,g,k,h⟩=>h ▸ AM d b i g k c.d [] [] rfl (λv x q=>by cases q) (λv x q=>by cases q) (λl e=>by cases e)⟩
end
section
open Classical
variable {t:List zf}{cs:List zc}{L:List z9}{D:DB}{c:zc}
def o7(a:y9 (Ti t)){p:Nat}(f:p<t.j):zU t t[p].name=Z t[p]/\zV t t[p].name=p:=by
 have b:zV t t[p].name=p:=by
  rcases rm (zV t t[p].name) p with q|q|q;have d:=sQ t t[p].name a t[zV t t[p].name] (by
   rw[vL];exact⟨0,by simp;omega,ζ⟩)
  have e:=rx.1 a (zV t t[p].name) p (by simp[Ti];omega) (by simp[Ti];omega) q;simp only[Ti,ub] at e;rw[e] at d;cases d;exact q;have d:=sR t t[p].name t[p] (by
   rw[vL];exact⟨p,by simp;omega,ζ⟩)
  rw[Tv] at d;cases d
 refine⟨?_,b⟩;unfold zU;rw[b,yn f];simp
def gX(a:y9 (Ti t)){p:Nat}(d:p<t.j):zC t (vh t p)=p/\vh t p=t[p].name:=by
 have f:vh t p=t[p].name:=by unfold vh Ti;simp[List.getD,d]
 obtain⟨e,b⟩:=o7 a d;rw[f];exact⟨by unfold zC;rw[e,b];rfl,rfl⟩
structure TW (t:List zf) (ns:κ) (L:List z9) (D:DB):Prop where
 mem:∀f,f∈L↔∃p,p<t.j/\∃r m,D p r=Z m/\f=(vh t p,zW ns r (yc t p) 3,m)
 once:L.Nodup
 ok:tC (t.w (·.jh)) D
 inside:iu (t.w (·.jh)) ns.j D
structure uh (cs:List zc) (t:List zf):Prop where
 words:∀c∈cs,rq c
 lit:∀c∈cs,∀l∈zm c,zC t l.o<t.j/\yc t (zC t l.o)=l.k.j/\vh t (zC t l.o)=l.o/\l.k.j<=3
 rise:y9 (Ti t)
 small:∀p,p<t.j->yc t p<=3
 cov:∀c∈cs,∀l∈zm c,∀y∈l.k,zT y=true->y∈zx c
def uh.of{a:Ψ}(o:∀c∈cs,rq c)(h:Ty cs a t):uh cs t:=by
 have d:Uc t=Uc a:=by have:=ru (a.j+1) a cs;rw[h.jm] at this;exact this
 have n:Ti t=Ti a:=by
  have:=congrArg (List.map Prod.fst) d;simpa [Uc,Ti,Function.comp_def] using this
 have k:y9 (Ti t):=by rw[n];exact h.tab.rise
 have v:∀i (j:i<cs.j),ka (yL ((uo Y i).g [])) (zx cs[i]).j:=λi j=>pu (fL (h.many _ (zq j)));refine⟨o,λc b l f=>?_,k,λp q=>?_,λc b=>h.covered b⟩;obtain⟨e,m,w,g,s,r⟩:=h.lit b f;obtain⟨A,x,B⟩:=jw m;refine⟨g,s,?_,?_⟩;rw[(gX k g).2];have:t[zC t l.o]=e:=by simp only[r,x]
 rw[this,w];obtain⟨u,z,y,_⟩:=mI (h.many c b);rcases zG.1 f with rfl|q;exact u;exact y l q;unfold yc;rw[Tl _ (by simpa using q)];exact(tT h (zp cs) Y v).small _ (zq _)
def uh.ne{cs:Ξ}{t:Ψ}(h:uh cs t){c:zc}(d:c∈cs):∀l∈zm c,∀a∈l.k,a≠ByteArray.empty:=by
 intro l g a f e;have b:pj l:=by
  rcases zG.1 g with rfl|q;exact(h.words c d).2.1;exact(h.words c d).2.2 l q
 have:=(b.2 a f).ne;rw[e] at this;exact this rfl
def uh.nsz(h:uh cs t):∀y∈zp cs,y≠ByteArray.empty:=by
 intro y b;obtain⟨c,d,l,e,a,_⟩:=((gQ cs).2 y).1 b;exact h.ne d l e y a
def TW.lit{cs:Ξ}{t:Ψ}{L:Θ}{D:DB}(d:uh cs t)(h:TW t (zp cs) L D){c:zc}(j:c∈cs){l:zj}(f:l∈zm c)(row:κ)(m:Nat):(l.o,row,m)∈L↔∃r,D (zC t l.o) r=Z m/\row=zW (zp cs) r l.k.j 3:=by
 obtain⟨o,b,i,q⟩:=d.lit c j l f;rw[h.mem];constructor;rintro⟨p,k,r,s,a,e⟩;simp only[ye] at e;obtain⟨g,n,rfl⟩:=e;have:zC t l.o=p:=by rw[g];exact(gX d.rise k).1
 subst this;exact⟨r,a,by rw[n,b]⟩;rintro⟨r,a,rfl⟩;exact⟨zC t l.o,o,r,m,a,by rw[b,i]⟩
def TW.can(j:uh cs t)(h:TW t (zp cs) L D)(g:c∈cs){l:zj}(f:l∈zm c){r:zk}(a:Tq D (zC t l.o) r):T0 l.k.j r/\∀i,i<l.k.j->r.g i 0<(zp cs).j:=by
 have b:=(h.ok _ _ a).2;have d:=h.inside _ _ a;have e:(t.w (·.jh)).g (zC t l.o) 0=l.k.j:=(j.lit c g l f).2.1;rw[e] at b d;exact⟨b,d⟩
def TW.fs(d:uh cs t)(h:TW t (zp cs) L D):tG cs L:=by
 refine⟨?_,?_⟩;intro f b c k l g e;obtain⟨s,row,m⟩:=f;simp only at e ⊢;subst e;obtain⟨r,_,rfl⟩:=(h.lit d k g row m).1 b;rw[kS];intro f b x a;obtain⟨p,j,r,m,q,rfl⟩:=(h.mem f).1 b;have o:=h.inside p r (by unfold Tq;rw[q];rfl);simp only[zW,zF,qG] at a;obtain⟨i,n,rfl⟩:=a;have:=d.small p j;rw[zb η];exact d.nsz _ (og (o i n))
def oD(ns:κ)(σ:ByteArray->Nat)(l:zj){i:Nat}(a:i<3):(qu ns σ l).g i 0=kz ns σ l i:=by
 have:i=0∨i=1∨i=2:=η;rcases this with rfl|rfl|rfl<;>rfl
def uh.can(n:uh cs t)(g:c∈cs){σ:ByteArray->Nat}(m:∀v∈zx c,σ v<(zp cs).j):∀l∈zm c,T0 l.k.j (qu (zp cs) σ l)/\∀i,i<l.k.j->(qu (zp cs) σ l).g i 0<(zp cs).j:=by
 have b:=gQ cs;intro l f;have q:=(n.lit c g l f).2.2.2;refine⟨⟨rfl,λi d=>?_⟩,λi d=>?_⟩;by_cases p:i<3;rw[oD _ _ _ p];unfold kz;rw[gL d];rw[List.getD,gL (by simp[qu];omega)];rfl;rw[oD _ _ _ η];unfold kz;rw[yn d];simp only;split;rename_i h;exact m _ (n.cov c g l f _ (zq d) h);rename_i h;have o:=(b.2 _).2 ⟨c,g,l,f,zq d,by simpa using h⟩;obtain⟨k,j,e⟩:=vL.1 o;have a:=sX b.1 j;rw[List.getD,yn j,uD,e] at a;rw[a];exact j
def TW.der1(g:uh cs t)(h:TW t (zp cs) L D)(f:c∈cs){r:zk}(H:ey t (zp cs) c D r):se L c (zW (zp cs) r c.g.k.j 3)/\T0 c.g.k.j r/\∀i,i<c.g.k.j->r.g i 0<(zp cs).j:=by
 obtain⟨σ,C,I,E⟩:=H;have k:=gQ cs;have s:∀v∈zx c,σ v<(zp cs).j:=by
  intro v w;obtain⟨o,l,d,p,z⟩:=fm.1 w;have b:l∈zm c:=by simp[zm,d]
  obtain⟨u,x⟩:=h.can g f b (C l d p);obtain⟨i,F,rfl⟩:=vL.1 z;have y:=(g.lit c f l b).2.2.2;have:=x i F;rw[oD _ _ _ η] at this;unfold kz at this;rw[yn F] at this;simpa only[zb o] using this
 have e:=g.can f s;have j:∀l∈zm c,TI (λv=>if v∈zx c then(zp cs).g (σ v) ByteArray.empty else⟨#[0]⟩) l=zW (zp cs) (qu (zp cs) σ l) l.k.j 3:=by
  intro l d;rw[ie f d (g.lit c f l d).2.2.2];unfold TI;refine kV λa M=>?_;split;rename_i w;exact zb (g.cov c f l d a M w);rfl
 have n:c.g∈zm c:=by simp[zm]
 refine⟨⟨_,λa=>?_,λl d p=>?_,λl d p m A=>?_,by rw[j _ n,E]⟩,by rw[E];exact e _ n⟩;split;rename_i q;exact g.nsz _ (og (s a q));decide;have b:l∈zm c:=by simp[zm,d]
 obtain⟨m,A⟩:=mh.1 (C l d p);exact⟨m,(h.lit g f b _ m).2 ⟨_,A,j l b⟩⟩;have b:l∈zm c:=by simp[zm,d]
 obtain⟨K,u,x⟩:=(h.lit g f b _ m).1 A;obtain⟨G,J⟩:=h.can g f b (r:=K) (by unfold Tq;rw[u];rfl);have y:=(g.lit c f l b).2.2.2;have B:=lY k.1 y G J;have N:=lY k.1 y (e l b).1 (e l b).2;rw[←x,j l b,N,zt] at B;rw[←B,I l d p] at u;cases u
def TW.der2(g:uh cs t)(h:TW t (zp cs) L D)(d:c∈cs){x:κ}(G:se L c x):∃r,ey t (zp cs) c D r/\x=zW (zp cs) r c.g.k.j 3:=by
 obtain⟨σ,_,E,H,rfl⟩:=G;have k:=gQ cs;have J:∀l∈c.d,l.i=false->Tq D (zC t l.o) (qu (zp cs) (λv=>(xr (zp cs) (σ v)).g 0) l):=by
  intro l f s;have b:l∈zm c:=by simp[zm,f]
  obtain⟨m,A⟩:=E l f s;obtain⟨r,n,e⟩:=(h.lit g d b _ m).1 A;have C:Tq D (zC t l.o) r:=by unfold Tq;rw[n];rfl
  obtain⟨F,y⟩:=h.can g d b C;rw[←MM k.1 F y e.z];exact C
 have p:∀v∈zx c,(zp cs).g ((xr (zp cs) (σ v)).g 0) ByteArray.empty=σ v:=by
  intro v u;obtain⟨q,l,f,s,z⟩:=fm.1 u;have b:l∈zm c:=by simp[zm,f]
  obtain⟨m,A⟩:=E l f s;obtain⟨r,n,e⟩:=(h.lit g d b _ m).1 A;obtain⟨F,y⟩:=h.can g d b (r:=r) (by unfold Tq;rw[n];rfl);have K:=(g.lit c d l b).2.2.2;obtain⟨i,w,rfl⟩:=vL.1 z;have B:(zW (zp cs) r l.k.j 3)[i]'(by rw[kS];exact w)=(TI σ l)[i]'(by simp[TI];exact w):=by simp only[←e]
  simp only[zW,TI,ub,fR] at B;rw[zb η,zb q] at B;rw[←B,sX k.1 (y i w)];rfl
 have o:∀l∈zm c,TI (λv=>(zp cs).g ((xr (zp cs) (σ v)).g 0) ByteArray.empty) l=TI σ l:=by
  intro l f;refine kV λa I=>?_;split;rename_i u;exact p a (g.cov c d l f a I u);rfl
 have j:c.g∈zm c:=by simp[zm]
 refine⟨_,⟨_,J,λl f s=>?_,rfl⟩,by rw[ie d j (g.lit c d c.g j).2.2.2,o c.g j]⟩;have b:l∈zm c:=by simp[zm,f]
 rcases n:D (zC t l.o) (qu (zp cs) (λv=>(xr (zp cs) (σ v)).g 0) l) with _|m;rfl;exfalso;refine H l f s m ((h.lit g d b _ m).2 ⟨_,n,?_⟩);rw[ie d b (g.lit c d l b).2.2.2,o l b]
end
section
open Classical
variable {cs:List zc}{t:List zf}{L:List z9}
def uw(fs l:List z9)(f:z9):List z9:=if (yP f.1 f.2.1 fs).I=true∨(yP f.1 f.2.1 l).I=true then l else l++[f]
def w9{fs:Θ}{k:Nat}:∀(d l:Θ),(∀g∈d,g.2.2=k)->(∀g∈l,g.2.2=k)->l.Nodup->(∀g∈l,¬∃m,(g.1,g.2.1,m)∈fs)->(d.H (uw fs) l).Nodup/\∀f,f∈d.H (uw fs) l↔f∈l∨(f∈d/\¬∃m,(f.1,f.2.1,m)∈fs)
 |[],l,_,_,o,_=>⟨o,λf=>ζ⟩
 |g::d,l,w,p,o,u=>by
  have y:=w g ζ;have j:∀g∈d,g.2.2=k:=λx n=>w x (by simp[n]);rw[uG];by_cases q:(∃m,(g.1,g.2.1,m)∈fs)∨∃m,(g.1,g.2.1,m)∈l
  .rw[show uw fs l g=l from zb (q.imp rN.2 rN.2)];obtain⟨r,s⟩:=w9 d l j p o u;refine⟨r,λf=>(s f).A ⟨λh=>h.imp_right λh=>⟨by simp[h.1],h.2⟩,λh=>?_⟩⟩;rcases h with h|⟨c,i⟩
   .exact zh h
   .rcases zG.1 c with rfl|c
    .rcases q with q|⟨m,q⟩
     .exact zB q i
     .have:f=(f.1,f.2.1,m):=Prod.ext rfl (Prod.ext rfl (y.A (p _ q).z));exact zh (by rw[this];exact q)
    .exact ze ⟨c,i⟩
  .rw[show uw fs l g=l++[g] from za λz=>q (z.imp rN.1 rN.1)];have v:¬∃m,(g.1,g.2.1,m)∈fs:=λz=>q (zh z);have B:g∉l:=λz=>q (ze ⟨g.2.2,z⟩);obtain⟨r,s⟩:=w9 d (l++[g]) j (λx n=>by
    rcases ya.1 n with z|z
    .exact p x z
    .rw[xQ.1 z];exact y) (sj.2 ⟨o,ζ,λa A b C e=>by rw[xQ.1 C] at e;exact B (e ▸ A)⟩) (λx n=>by
    rcases ya.1 n with z|z
    .exact u x z
    .rw[xQ.1 z];exact v)
   refine⟨r,λf=>(s f).A ⟨λh=>?_,λh=>?_⟩⟩
   .rcases h with h|⟨c,i⟩
    .rcases ya.1 h with z|z
     .exact zh z
     .rw[xQ.1 z];exact ze ⟨ζ,v⟩
    .exact ze ⟨by simp[c],i⟩
   .rcases h with h|⟨c,i⟩
    .exact zh (List.mem_append_left _ h)
    .rcases zG.1 c with rfl|c
     .exact zh ζ
     .exact ze ⟨c,i⟩
def xX(fs:List z9)(k:Nat)(a:List zc)(l:List z9):List z9:=a.H (λl c=>(yt fs c.g c.d c.d []).H (λl r=>uw fs l (c.g.o,r,k)) l) l
def GO(fs:Θ)(k:Nat):∀(a:Ξ) (l:Θ),xX fs k a l=(a.flatMap λc=>(yt fs c.g c.d c.d []).w λr=>(c.g.o,r,k)).H (uw fs) l
 |[],l=>rfl
 |c::a,l=>by
  rw[uU,qZ,List.foldl_map,←GO fs k a];rfl
def yw(t:List zf)(cs:List zc)(s:Nat):List zc:=cs.filter λc=>decide (xP t c.g.o=s/\0<c.d.j)
def TW.round{t0:Ψ}(A:Ty cs t0 t)(o:uh cs t){D:DB}(h:TW t (zp cs) L D)(s k:Nat):TW t (zp cs) (L++xX L k (yw t cs s) []) (zy4 ((uP t (zp cs) Y cs).filter λr=>decide (r.L=s)) k D)/\(xX L k (yw t cs s) []=[]↔∀p x,Tq (zy4 ((uP t (zp cs) Y cs).filter λr=>decide (r.L=s)) k D) p x->Tq D p x):=by
 have u:∀i (hi:i<cs.j),ka (yL ((uo Y i).g [])) (zx cs[i]).j:=λi hi=>pu (fL (A.many _ (zq hi)));have I:=AY A (zp cs) Y u s D;generalize (uP t (zp cs) Y cs).filter (λr=>decide (r.L=s))=Q at *;have K:=(gQ cs).1;obtain⟨n1,n2⟩:(xX L k (yw t cs s) []).Nodup/\∀f,f∈xX L k (yw t cs s) []↔(∃c∈cs,xP t c.g.o=s/\0<c.d.j/\∃x,se L c x/\f=(c.g.o,x,k))/\¬∃m,(f.1,f.2.1,m)∈L:=by
  rw[GO];obtain⟨i1,i2⟩:=w9 (fs:=L) (k:=k) ((yw t cs s).flatMap λc=>(yt L c.g c.d c.d []).w λr=>(c.g.o,r,k)) [] (λg C=>by
   obtain⟨c,_,C⟩:=ve.1 C;obtain⟨r,_,rfl⟩:=zF.1 C;rfl) (λg C=>by cases C) List.nodup_nil (λg C=>by cases C)
  refine⟨i1,λf=>(i2 f).A ?_⟩;simp only[nB,false_or];refine and_congr_left λ_=>?_;rw[ve];constructor;rintro⟨c,n,B⟩;obtain⟨H,G⟩:=xz.1 n;obtain⟨r,T,rfl⟩:=zF.1 B;have G:=of_decide_eq_true G;exact⟨c,H,G.1,G.2,r,(FA (h.fs o) H (o.ne H) (o.cov c H)).1 T,rfl⟩;rintro⟨c,n,H,G,r,T,rfl⟩;exact⟨c,xz.2 ⟨n,decide_eq_true ⟨H,G⟩⟩,zF.2 ⟨r,(FA (h.fs o) n (o.ne n) (o.cov c n)).2 T,rfl⟩⟩
 generalize xX L k (yw t cs s) []=l at *;have q:∀p r,j6 Q D p r->∃c∈cs,xP t c.g.o=s/\0<c.d.j/\p=zC t c.g.o/\se L c (zW (zp cs) r (yc t p) 3)/\vh t p=c.g.o/\p<t.j/\T0 (yc t p) r/\∀i,i<yc t p->r.g i 0<(zp cs).j:=by
  intro p r j;obtain⟨c,n,F,R,rfl,M⟩:=(I p r).1 j;obtain⟨l1,V,W,l4⟩:=o.lit c n c.g (by simp[zm]);obtain⟨d1,d2,d3⟩:=h.der1 o n M;exact⟨c,n,R,F,rfl,by rw[V];exact d1,W,l1,by rw[V];exact d2,by rw[V];exact d3⟩
 have w:∀p r,D p r=Y->j6 Q D p r->(vh t p,zW (zp cs) r (yc t p) 3,k)∈l:=by
  intro p r d j;obtain⟨c,n,R,F,ad,M,aa,u,P,N⟩:=q p r j;refine(n2 _).2 ⟨⟨c,n,R,F,_,M,by rw[aa]⟩,fun⟨m,hm⟩=>?_⟩;obtain⟨p',ab,S,m',J,e⟩:=(h.mem _).1 hm;simp only[ye] at e;have:p=p':=by rw[←(gX o.rise u).1,←(gX o.rise ab).1,e.1]
  subst this;have hI:Tq D p S:=by unfold Tq;rw[J];rfl
  have e1:=lY K (o.small p u) P N;have e2:=lY K (o.small p u) (h.ok p S hI).2 (h.inside p S hI);rw[e.2.1] at e1;change uO (zp cs) (zW (zp cs) S (yc t p) 3) 0 [0,0,0]=Z S at e2;rw[e1,zt] at e2;rw[e2,J] at d;cases d
 have y:∀f∈l,∃p,p<t.j/\∃r,D p r=Y/\j6 Q D p r/\f=(vh t p,zW (zp cs) r (yc t p) 3,k):=by
  intro f B;obtain⟨⟨c,n,R,F,x,M,rfl⟩,ac⟩:=(n2 f).1 B;obtain⟨r,T,rfl⟩:=h.der2 o n M;have hh:c.g∈zm c:=by simp[zm]
  obtain⟨l1,V,W,l4⟩:=o.lit c n c.g hh;refine⟨zC t c.g.o,l1,r,?_,(I _ r).2 ⟨c,n,F,R,rfl,T⟩,by rw[V,W]⟩;rcases d:D (zC t c.g.o) r with _|m;rfl;exact zB ⟨m,(h.lit o n hh _ m).2 ⟨r,d,rfl⟩⟩ ac
 have E:∀p r,Tq (zy4 Q k D) p r->Tq D p r∨(D p r=Y/\j6 Q D p r):=by
  intro p r j;unfold Tq zy4 at j;rcases d:D p r with _|m;rw[d] at j;simp only at j;split at j;rename_i z;exact ze ⟨rfl,z⟩;cases j;exact zh (by unfold Tq;rw[d];rfl)
 refine⟨⟨λf=>?_,sj.2 ⟨h.once,n1,λa ha b F e=>?_⟩,λp r j=>?_,λp r j=>?_⟩,λe p r j=>?_,λe=>?_⟩;rw[ya];constructor;rintro(B|B);obtain⟨p,A,r,m,d,rfl⟩:=(h.mem f).1 B;exact⟨p,A,r,m,On d,rfl⟩;obtain⟨p,A,r,d,j,rfl⟩:=y f B;refine⟨p,A,r,k,?_,rfl⟩;unfold zy4;rw[d];exact zb j;rintro⟨p,A,r,m,d,rfl⟩;unfold zy4 at d;rcases v:D p r with _|m';rw[v] at d;simp only at d;split at d;rename_i z;cases d;exact ze (w p r v z);cases d;rw[v] at d;cases d;exact zh ((h.mem _).2 ⟨p,A,r,m,v,rfl⟩);subst e;exact((n2 a).1 F).2 ⟨a.2.2,ha⟩;rcases E p r j with z|⟨_,z⟩;exact h.ok p r z;obtain⟨c,_,_,_,_,_,_,q1,q2,_⟩:=q p r z;exact⟨by simpa using q1,q2⟩;rcases E p r j with z|⟨_,z⟩;exact h.inside p r z;obtain⟨c,_,_,_,_,_,_,q1,q2,q3⟩:=q p r z;exact q3;rcases E p r j with z|⟨z1,z2⟩;exact z;have:=w p r z1 z2;rw[e] at this;cases this;rcases l with _|⟨f,l⟩;rfl;obtain⟨p,_,r,d,j,_⟩:=y f ζ;have:=e p r (Ct p r j);unfold Tq at this;rw[d] at this;cases this
def TW.card(q:uh cs t){D:DB}(h:TW t (zp cs) L D):l9 D L.j:=by
 have o:=(gQ cs).1;have d:=λp r (j:Tq D p r)=>lY o (q.small p (by have:=(h.ok p r j).1;simpa using this)) (h.ok p r j).2 (h.inside p r j);have c:∀f∈L,∃p r m,D p r=Z m/\f=(vh t p,zW (zp cs) r (yc t p) 3,m)/\(zC t f.1,(uO (zp cs) f.2.1 0 [0,0,0]).g [])=(p,r):=by
  intro f s;obtain⟨p,n,r,m,k,rfl⟩:=(h.mem f).1 s;exact⟨p,r,m,k,rfl,by rw[(gX q.rise n).1,d p r (by unfold Tq;rw[k];rfl)];rfl⟩
 refine⟨L.w λf=>(zC t f.1,(uO (zp cs) f.2.1 0 [0,0,0]).g []),?_,λp x=>?_,ζ⟩;rw[pG,mT];have:=h.once;rw[pG] at this;refine this.imp_of_mem fun{a b} A E u e=>u ?_;obtain⟨p,r,m,k,v,C⟩:=c a A;obtain⟨w,z,y,g,l,i⟩:=c b E;rw[C,i] at e;cases e;rw[g] at k;cases k;rw[v,l];rw[zF];constructor;rintro⟨f,s,e⟩;obtain⟨w,z,y,g,l,i⟩:=c f s;rw[i] at e;cases e;unfold Tq;rw[g];rfl;intro j;obtain⟨m,B⟩:=mh.1 j;have n:p<t.j:=by have:=(h.ok p x j).1;simpa using this
 refine⟨_,(h.mem _).2 ⟨p,n,x,m,B,rfl⟩,?_⟩;rw[(gX q.rise n).1,d p x j];rfl
def TW.small(a:uh cs t){D:DB}(h:TW t (zp cs) L D)(mr:Nat):mC D mr↔L.j<=mr:=
 ⟨fun⟨n,c,b⟩=>by rw[←Bt b (h.card a)];exact c,λq=>⟨_,q,h.card a⟩⟩
end
section
open Classical
variable {t:List zf}{cs:List zc}
noncomputable def z1i(t:List zf)(cs:List zc)(mr s:Nat):Nat->Nat->List z9->Option (List z9×Nat)
 |0,_,_=>Y
 |left+1,k,L=>
  if (L++xX L (k+1) (yw t cs s) []).j<=mr then
   if xX L (k+1) (yw t cs s) []=[] then Z (L++xX L (k+1) (yw t cs s) [],k+1)
   else z1i t cs mr s left (k+1) (L++xX L (k+1) (yw t cs s) [])
  else Y
noncomputable def zzk(t:List zf)(cs:List zc)(mr mx:Nat):Nat->Nat->Nat->List z9->Option (List z9×Nat)
 |0,_,k,L=>Z (L,k)
 |n+1,s,k,L=>
  if yw t cs s=[] then zzk t cs mr mx n (s+1) k L
  else match z1i t cs mr s (mx-k) k L with
   |none=>Y
   |some (L',k')=>zzk t cs mr mx n (s+1) k' L'
def ue(cs:List zc):List z9:=((cs.filter λc=>decide (c.d.j=0)).w λc=>(c.g.o,c.g.k,0)).H (uw []) []
noncomputable def ynt(t:List zf)(cs:List zc)(mr mx:Nat):Option (List z9×Nat):=if (ue cs).j<=mr then zzk t cs mr mx t.j 0 0 (ue cs) else Y
def BW(t:List zf)(ns:κ):Option (List z9×Nat)->Option (DB×Nat)->Prop
 |none,Y=>True
 |some (L,k),Z (D,e)=>k=e/\TW t ns L D
 |_,_=>False
def Io{cs:Ξ}{f t:Ψ}(c:Ty cs f t)(b:uh cs t)(mr s:Nat):∀(left k:Nat) (L:Θ) (D:DB),TW t (zp cs) L D->BW t (zp cs) (z1i t cs mr s left k L) (zyo ((uP t (zp cs) Y cs).filter λr=>decide (r.L=s)) mr left k D)
 |0,k,L,D,h=>trivial
 |left+1,k,L,D,h=>by
  obtain⟨a,d⟩:=h.round c b s (k+1);have e:=a.small b mr;unfold z1i zyo;by_cases q:(L++xX L (k+1) (yw t cs s) []).j<=mr
  .rw[zb q,zb (e.2 q)];by_cases z:xX L (k+1) (yw t cs s) []=[]
   .rw[zb z,zb (d.1 z)];exact⟨rfl,a⟩
   .rw[za z,za λy=>z (d.2 y)];exact Io c b mr s left (k+1) _ _ a
  .rw[za q,za λy=>q (e.1 y)];trivial
def EL{s:Nat}:yw t cs s=[]↔¬∃c∈cs,0<c.d.j/\xP t c.g.o=s:=by
 unfold yw;rw[eZ];exact⟨λh ⟨c,a,d,b⟩=>h c a (decide_eq_true ⟨b,d⟩),λh c a q=>h ⟨c,a,(of_decide_eq_true q).2,(of_decide_eq_true q).1⟩⟩
def Bn{cs:Ξ}{g t:Ψ}(c:Ty cs g t)(e:uh cs t)(mr mx:Nat):∀(n s k:Nat) (L:Θ) (D:DB),TW t (zp cs) L D->BW t (zp cs) (zzk t cs mr mx n s k L) (zyq (uP t (zp cs) Y cs) mr mx n s k D)
 |0,s,k,L,D,h=>⟨rfl,h⟩
 |n+1,s,k,L,D,h=>by
  unfold zzk zyq;by_cases q:yw t cs s=[]
  .rw[zb q,zb ((Fd cs s).2 (EL.1 q))];exact Bn c e mr mx n (s+1) k L D h
  .rw[za q,za λz=>q (EL.2 ((Fd cs s).1 z))];have a:=Io c e mr s (mx-k) k L D h;cases d:z1i t cs mr s (mx-k) k L with
   |none=>
    cases b:zyo ((uP t (zp cs) Y cs).filter λr=>decide (r.L=s)) mr (mx-k) k D with
    |none=>trivial
    |some y=>rw[d,b] at a;exact a.elim
   |some x=>
    cases b:zyo ((uP t (zp cs) Y cs).filter λr=>decide (r.L=s)) mr (mx-k) k D with
    |none=>rw[d,b] at a;exact a.elim
    |some y=>
     rw[d,b] at a;obtain⟨f,i⟩:=x;obtain⟨j,l⟩:=y;obtain⟨rfl,a⟩:=a;exact Bn c e mr mx n (s+1) i f j a
def il(h:uh cs t){c:zc}(f:c∈cs)(o:c.d.j=0):zW (zp cs) (qq t (zp cs) c).row c.g.k.j 3=c.g.k/\T0 c.g.k.j (qq t (zp cs) c).row/\∀i,i<c.g.k.j->(qq t (zp cs) c).row.g i 0<(zp cs).j:=by
 have b:c.g∈zm c:=by simp[zm]
 have n:∀k,([0,0,0,0,0]:Φ).g k 0<5:=by
  intro k;rcases k with _|_|_|_|_|k<;>simp
 have g:=pe.1 o;have e:∀v,v∉zx c:=by
  intro v d;rw[fm,g] at d;obtain⟨_,l,m,_⟩:=d;cases m
 unfold qq;rw[wt t (zp cs) [] n];refine⟨?_,h.can f (λv d=>zB d (e v)) c.g b⟩;rw[ie f b (h.lit c f c.g b).2.2.2];unfold TI;conv=>rhs;rw[←List.map_id c.g.k]
 refine kV λa j=>?_;rw[za λd=>e a (h.cov c f c.g b a j d)];rfl
def Dp(d:uh cs t):TW t (zp cs) (ue cs) (zz3 (vJ t (zp cs) cs)):=by
 have q:∀p x,zz3 (vJ t (zp cs) cs) p x=if ∃c∈cs,c.d.j=0/\p=zC t c.g.o/\(qq t (zp cs) c).row=x then Z 0 else none:=by
  intro p x;unfold zz3;congr 1;apply propext;unfold vJ;simp only[zF,xz];constructor;rintro⟨f,⟨c,⟨a,b⟩,rfl⟩,u,v⟩;exact⟨c,a,by simpa using b,u.z,v⟩;rintro⟨c,a,b,u,v⟩;exact⟨_,⟨c,⟨a,by simp[b]⟩,rfl⟩,u.z,v⟩
 have j:∀p x,Tq (zz3 (vJ t (zp cs) cs)) p x->∃c∈cs,c.d.j=0/\p=zC t c.g.o/\(qq t (zp cs) c).row=x:=by
  intro p x h;unfold Tq at h;rw[q] at h;split at h;assumption
  cases h
 obtain⟨z,A⟩:=w9 (fs:=[]) (k:=0) ((cs.filter λc:zc=>decide (c.d.j=0)).w λc:zc=>((c.g.o,c.g.k,0):z9)) [] (λg n=>by
  obtain⟨c,_,rfl⟩:=zF.1 n;rfl) (λg n=>by cases n) List.nodup_nil (λg n=>by cases n)
 refine⟨λf=>(A f).A ?_,z,λp x h=>?_,λp x h=>?_⟩;simp only[nB,false_or,exists_false,not_false_eq_true,and_true,zF,xz,decide_eq_true_eq];constructor;rintro⟨c,⟨a,b⟩,rfl⟩;obtain⟨o,e,l,s⟩:=d.lit c a c.g (by simp[zm]);exact⟨_,o,(qq t (zp cs) c).row,0,by rw[q];exact zb ⟨c,a,b,rfl,rfl⟩,by rw[e,l,(il d a b).1]⟩;rintro⟨p,B,r,m,w,rfl⟩;have y:Tq (zz3 (vJ t (zp cs) cs)) p r:=by unfold Tq;rw[w];rfl
 obtain⟨c,a,b,rfl,rfl⟩:=j p r y;rw[q,zb ⟨c,a,b,rfl,rfl⟩] at w;cases w;obtain⟨o,e,l,s⟩:=d.lit c a c.g (by simp[zm]);exact⟨c,⟨a,b⟩,by rw[e,l,(il d a b).1]⟩;obtain⟨c,a,b,rfl,rfl⟩:=j p x h;obtain⟨o,e,l,s⟩:=d.lit c a c.g (by simp[zm]);refine⟨by simpa using o,?_⟩;change T0 (yc t _) _;rw[e];exact(il d a b).2.1;obtain⟨c,a,b,rfl,rfl⟩:=j p x h;obtain⟨o,e,l,s⟩:=d.lit c a c.g (by simp[zm]);change ∀i,i<yc t _->_;rw[e];exact(il d a b).2.2
def K0{f:Ψ}(d:Ty cs f t)(b:uh cs t)(mr mx:Nat):BW t (zp cs) (ynt t cs mr mx) (z0n (vf t (zp cs) Y cs) mr mx):=by
 have h:=Dp b;have c:=h.small b mr;unfold ynt z0n;have e:(vf t (zp cs) Y cs).M.j=t.j:=by simp[vf]
 rw[e];by_cases q:(ue cs).j<=mr;rw[zb q];have a:mC (zz3 (vf t (zp cs) Y cs).facts) mr:=c.2 q;rw[zb a];exact Bn d b mr mx _ 0 0 _ _ h;rw[za q];have a:¬mC (zz3 (vf t (zp cs) Y cs).facts) mr:=λy=>q (c.1 y);rw[za a];trivial
def RP{ns ts:κ}{r:zk}(h:uO ns ts 0 [0,0,0]=Z r):T0 ts.j r/\zW ns r ts.j 3=ts:=by
 match ts,h with
 |[],h=>
  simp only[uO,zt] at h;subst h;exact⟨⟨rfl,λi _=>by rcases i with _|_|_|i<;>rfl⟩,rfl⟩
 |[a],h=>
  simp only[uO] at h;rcases e:xr ns a with _|x;rw[e] at h;cases h;have j:=(pX e).2;simp[e] at h;subst h;refine⟨⟨rfl,λi g=>?_⟩,by simpa [zW] using j⟩;rcases i with _|_|_|i;simp at g
  all_goals rfl
 |[a,b],h=>
  simp only[uO] at h;rcases e:xr ns a with _|x;rw[e] at h;cases h;rcases f:xr ns b with _|y;simp[e,f] at h;have j:=(pX e).2;have l:=(pX f).2;simp[e,f] at h;subst h;refine⟨⟨rfl,λi g=>?_⟩,by simpa [zW,List.range_succ] using⟨j,l⟩⟩;rcases i with _|_|_|i;simp at g;simp at g
  all_goals rfl
 |[a,b,c],h=>
  simp only[uO] at h;rcases e:xr ns a with _|x;rw[e] at h;cases h;rcases f:xr ns b with _|y;simp[e,f] at h;rcases k:xr ns c with _|z;simp[e,f,k] at h;have j:=(pX e).2;have l:=(pX f).2;have m:=(pX k).2;simp[e,f,k] at h;subst h;refine⟨⟨rfl,λi g=>?_⟩,by simpa [zW,List.range_succ] using⟨j,l,m⟩⟩;rcases i with _|_|_|i;simp at g;simp at g;simp at g;rfl
 |a::b::c::d::ts,h=>
  exfalso;simp only[uO] at h;repeat' split at h
  all_goals first|(cases h;done)|(simp at *;done)
def Lt(n:uh cs t){L:Θ}{R:zv}(x:TS t (zp cs) R)(h:TW t (zp cs) L (zyx (t.w (·.jh)) R))(a:ByteArray)(row:κ):ri t (zp cs) R a row=if (zU t a).I=true then(match yP a row L with|none=>(0,12)|some k=>(((L[k]?).w (·.2.2)).g 0,0)) else(0,11):=by
 unfold ri;rcases q:zU t a with _|e;rfl;obtain⟨w,D,y⟩:=jw q;have c:zC t a=zV t a:=by unfold zC;rw[q];rfl
 have b:zC t a<t.j:=by rw[c];exact w
 have l:vh t (zC t a)=a:=by
  have:t[zC t a]=e:=by simp only[c,D]
  rw[(gX n.rise b).2,this,y]
 rw[za (by rintro(z|z);cases z;have:=x.len;omega),zb (show(Z e).I=true from rfl)];rcases u:yP a row L with _|k;simp only;split;rfl;rename_i j;split;rfl;rename_i r A;obtain⟨g,d⟩:=RP A;have j:row.j=yc t (zC t a):=by simpa using j
 rw[j] at g d;rcases B:ua (R.I.g (zC t a) zl.zero) r with _|m;rfl;refine zB ((h.mem _).2 ⟨zC t a,b,r,m,?_,rfl⟩) (by rw[l,d];exact BJ u m);unfold zyx;rw[zb ⟨by simpa using b,g⟩];exact B;obtain⟨v,o,i⟩:=eb u;obtain⟨p,C,r,m,f,e⟩:=(h.mem _).1 (zq v);simp only;rw[yn v];rw[e] at o i ⊢;simp only at o i;have:zC t a=p:=by rw[←o];exact(gX n.rise C).1
 subst this;have s:Tq (zyx (t.w (·.jh)) R) (zC t a) r:=by unfold Tq;rw[f];rfl
 obtain⟨g,d⟩:=h.ok _ _ s;rw[←i,za (by rw[kS];simp),lY (gQ cs).1 (n.small _ b) d (h.inside _ _ s)];simp only;unfold zyx at f;rw[zb ⟨g,d⟩] at f;rw[f];rfl
end
section
open Classical
variable {cs:List zc}{t:List zf}
def BD{α β:Type}(f:α->List β)(m:Nat):∀(l:List α),(∀x∈l,(f x).j=m)->(l.flatMap f).j=l.j*m
 |[],_=>ζ
 |a::l,h=>by
  rw[uU,yN,BD f m l (λx b=>h x (by simp[b])),h a ζ,xt,Nat.succ_mul];omega
def ph{α:Type}(ns:List α):Nat->List (List α)
 |0=>[[]]
 |k+1=>ns.flatMap λx=>(ph ns k).w (x::·)
def Bl{α:Type}(ns:List α):∀k,(ph ns k).j=ns.j ^ k
 |0=>rfl
 |k+1=>by
  unfold ph;rw[BD _ (ns.j ^ k) ns (λx _=>by rw[xu];exact Bl ns k),Nat.pow_succ,Nat.mul_comm]
def ou{α:Type}{ns:List α}:∀(l:List α),(∀x∈l,x∈ns)->l∈ph ns l.j
 |[],_=>by simp[ph]
 |x::l,h=>by
  rw[xt];unfold ph;exact ve.2 ⟨x,h x ζ,zF.2 ⟨l,ou l (λy a=>h y (by simp[a])),rfl⟩⟩
def NV(b:uh cs t){L:Θ}{D:DB}(h:TW t (zp cs) L D):L.j<=t.j*((zp cs).j+1) ^ 3:=by
 obtain⟨l,n,m,o⟩:=h.card b;rw[←o];have k:(((List.range t.j).flatMap λp=>(ph (List.range ((zp cs).j+1)) 3).w λr=>(p,r))).j=t.j*((zp cs).j+1) ^ 3:=by
  rw[BD _ (((zp cs).j+1) ^ 3) _ (λx _=>by rw[xu,Bl,pE]),pE]
 rw[←k];refine mU n λx a=>?_;obtain⟨p,r⟩:=x;have c:=(m p r).1 a;obtain⟨j,e⟩:=h.ok p r c;have g:=h.inside p r c;refine ve.2 ⟨p,qG.2 (by simpa using j),zF.2 ⟨r,?_,rfl⟩⟩;have:=ou (ns:=List.range ((zp cs).j+1)) r (λx b=>?_);rw[e.1] at this;exact this;obtain⟨i,d,rfl⟩:=vL.1 b;rw[qG];by_cases f:i<(t.w (·.jh)).g p 0;have:=g i f;rw[List.getD,yn d,uD] at this;omega;have:=e.2 i η;rw[List.getD,yn d,uD] at this;omega
def qB(fs:List z9):List zj->yB->List yB
 |[],B=>[B]
 |l::rest,B=>if l.i=true then qB fs rest B else fs.flatMap λf=>if f.1=l.o then(match xH B l.k f.2.1 with|none=>[]|some a=>qB fs rest a) else []
def AQ(fs:Θ)(h:zj)(body:Ω):∀(rest:Ω) (B:yB),(yt fs h body rest B).j<=(qB fs rest B).j
 |[],B=>by
  unfold yt qB;split<;>simp
 |l::rest,B=>by
  unfold yt qB;split
  .exact AQ fs h body rest B
  .have:∀a:Θ,(a.flatMap λf=>if f.1=l.o then(match xH B l.k f.2.1 with|none=>[]|some b=>yt fs h body rest b) else []).j<=(a.flatMap λf=>if f.1=l.o then(match xH B l.k f.2.1 with|none=>[]|some b=>qB fs rest b) else []).j:=by
    intro a;induction a with
    |nil=>simp
    |cons g a c=>
     rw[uU,uU,yN,yN];refine Nat.add_le_add ?_ c;split
     .split
      .exact zg _
      .exact AQ fs h body rest _
     .exact zg _
   exact this fs
def fG(body:List zj)(B:yB):List (κ):=body.w λl=>if l.i=true then [] else yO B l.k
def B5{cs:Ξ}{fs:Θ}(L:tG cs fs){c:zc}(hc:c∈cs)(D:∀l∈zm c,∀a∈l.k,a≠ByteArray.empty)(ho:∀f∈fs,∀g∈fs,f.1=g.1->f.2.1=g.2.1->f=g)(hn:fs.Nodup):∀(rest done:Ω) (B:yB),c.d=done++rest->qv B->(∀l∈done,l.i=false->∀a∈l.k,yq B a≠ByteArray.empty)->(∀k∈qB fs rest B,qv k/\UY B k/\∀l∈rest,l.i=false->(∃m,(l.o,yO k l.k,m)∈fs)/\∀a∈l.k,yq k a≠ByteArray.empty)/\((qB fs rest B).w (fG rest)).Nodup
 |[],done,B,e,P,Q=>by
  unfold qB;refine⟨λk d=>?_,ζ⟩;rw[xQ.1 d];exact⟨P,λv x q=>q,λl hl=>by cases hl⟩
 |l::rest,done,B,e,P,Q=>by
  have e2:c.d=(done++[l])++rest:=by rw[e];simp
  have I:l∈zm c:=by simp[zm,e]
  unfold qB;split
  .rename_i i;obtain⟨M,R⟩:=B5 L hc D ho hn rest (done++[l]) B e2 P (λs p j=>by
    rcases ya.1 p with q|q
    .exact Q s q j
    .rw[xQ.1 q,i] at j;cases j)
   refine⟨λk d=>⟨(M k d).1,(M k d).2.1,λs p j=>?_⟩,?_⟩
   .rcases zG.1 p with rfl|q
    .rw[i] at j;cases j
    .exact(M k d).2.2 s q j
   .have:(qB fs rest B).w (fG (l::rest))=((qB fs rest B).w (fG rest)).w ([]::·):=by
     rw[nA];refine kV λk _=>?_;simp[fG,i]
    rw[this,pG,mT];rw[pG] at R;exact R.imp λh q=>h (by simpa using q)
  .rename_i i;have i:l.i=false:=by simpa using i
   have n:∀f∈fs,f.1=l.o->∀o,xH B l.k f.2.1=Z o->(∀k∈qB fs rest o,qv k/\UY B k/\yO k l.k=f.2.1/\(∀a∈l.k,yq k a≠ByteArray.empty)/\∀s∈rest,s.i=false->(∃m,(s.o,yO k s.k,m)∈fs)/\∀a∈s.k,yq k a≠ByteArray.empty)/\((qB fs rest o).w (fG rest)).Nodup:=by
    intro f w C o E;obtain⟨j1,j2,j3⟩:=sy l.k f.2.1 B o (L.jh f w c hc l I C.z).z (L.ne f w) (D l I) P E;have z:∀a∈l.k,yq o a≠ByteArray.empty:=λa u=>by
     have:yq o a∈yO o l.k:=zF.2 ⟨a,u,rfl⟩;rw[j3] at this;exact L.ne f w _ this
    obtain⟨M,R⟩:=B5 L hc D ho hn rest (done++[l]) o e2 j1 (λs p j a u=>by
     rcases ya.1 p with q|q
     .rw[pI j2 (Q s q j a u)];exact Q s q j a u
     .rw[xQ.1 q] at u;exact z a u)
    refine⟨λk d=>?_,R⟩;obtain⟨k1,N,S⟩:=M k d;exact⟨k1,j2.A N,by rw[←j3];exact kV λa u=>pI N (z a u),λa u=>by rw[pI N (z a u)];exact z a u,S⟩
   refine⟨λk d=>?_,?_⟩
   .obtain⟨f,w,d⟩:=ve.1 d;split at d
    .rename_i C;split at d
     .cases d
     .rename_i o E;obtain⟨k1,N,S,k4,k5⟩:=(n f w C o E).1 k d;refine⟨k1,N,λs p j=>?_⟩;rcases zG.1 p with rfl|q
      .exact⟨⟨f.2.2,by rw[S,←C];exact w⟩,k4⟩
      .exact k5 s q j
    .cases d
   .have hg:∀G:Θ,G.Nodup->(∀g∈G,g∈fs)->((G.flatMap λf=>if f.1=l.o then(match xH B l.k f.2.1 with|none=>[]|some k=>qB fs rest k) else []).w (fG (l::rest))).Nodup:=by
     intro G;induction G with
     |nil=>intro _ _;simp
     |cons g G ih=>
      intro V y;obtain⟨T,ab⟩:=jp.1 V;rw[uU,qF,sj];have F:=y g ζ;refine⟨?_,ih ab (λx hx=>y x (by simp[hx])),?_⟩
      .split
       .rename_i C;split
        .simp
        .rename_i o E;obtain⟨s1,s2⟩:=n g F C o E;have:(qB fs rest o).w (fG (l::rest))=((qB fs rest o).w (fG rest)).w (g.2.1::·):=by
          rw[nA];refine kV λk d=>?_;simp[fG,i,(s1 k d).2.2.1]
         rw[this,pG,mT];rw[pG] at s2;exact s2.imp λh q=>h (by simpa using q)
       .simp
      .intro a u b hb J;obtain⟨A,K,rfl⟩:=zF.1 u;obtain⟨A2,r,rfl⟩:=zF.1 hb;obtain⟨f,w,r⟩:=ve.1 r;split at K
       .rename_i C;split at K
        .cases K
        .rename_i o E;split at r
         .rename_i H;split at r
          .cases r
          .rename_i B2 aa;have r1:=((n g F C o E).1 A K).2.2.1;have r2:=((n f (y f (by simp[w])) H B2 aa).1 A2 r).2.2.1;have:yO A l.k=yO A2 l.k:=by
            simp only[fG,un,i,m4] at J;simpa using J.1
           have W:=ho g F f (y f (by simp[w])) (C.A H.z) (by rw[←r1,←r2,this]);exact T (W ▸ w)
         .cases r
       .cases K
    exact hg fs hn (λg hg=>hg)
def Mt(d:uh cs t){L:Θ}{D:DB}(h:TW t (zp cs) L D){c:zc}(w:c∈cs):(yt L c.g c.d c.d []).j<=(zp cs).j ^ (zx c).j:=by
 refine zY (AQ L c.g c.d c.d []) ?_;have ho:∀f∈L,∀g∈L,f.1=g.1->f.2.1=g.2.1->f=g:=by
  intro f hf g hg T e2;obtain⟨p,Q,r,m,A,rfl⟩:=(h.mem f).1 hf;obtain⟨p',M,z,m',o,rfl⟩:=(h.mem g).1 hg;simp only at T e2;have:p=p':=by rw[←(gX d.rise Q).1,←(gX d.rise M).1,T]
  subst this;have i1:Tq D p r:=by unfold Tq;rw[A];rfl
  have i2:Tq D p z:=by unfold Tq;rw[o];rfl
  have E:=lY (gQ cs).1 (d.small p Q) (h.ok p r i1).2 (h.inside p r i1);have C:=lY (gQ cs).1 (d.small p Q) (h.ok p z i2).2 (h.inside p z i2);change uO (zp cs) (zW (zp cs) r (yc t p) 3) 0 [0,0,0]=Z r at E;change uO (zp cs) (zW (zp cs) z (yc t p) 3) 0 [0,0,0]=Z z at C;rw[e2,C,zt] at E;subst E;rw[o] at A;cases A;rfl
 obtain⟨h1,V⟩:=B5 (h.fs d) w (d.ne w) ho h.once c.d [] [] rfl (λv x q=>by cases q) (λl n=>by cases n);have u:∀B∈qB L c.d [],∀v∈zx c,yq B v∈zp cs:=by
  intro B F v j;obtain⟨W,l,n,I,K⟩:=fm.1 j;obtain⟨⟨m,N⟩,_⟩:=(h1 B F).2.2 l n I;have k:l∈zm c:=by simp[zm,n]
  obtain⟨r,A,er⟩:=(h.lit d w k _ m).1 N;obtain⟨E,C⟩:=h.can d w k (r:=r) (by unfold Tq;rw[A];rfl);have:yq B v∈yO B l.k:=zF.2 ⟨v,K,rfl⟩;rw[er] at this;simp only[zW,zF,qG] at this;obtain⟨i,hi,e⟩:=this;have h3:=(d.lit c w l k).2.2.2;rw[zb η] at e;rw[←e];exact og (C i hi)
 have s:∀R∈qB L c.d [],∀S∈qB L c.d [],(zx c).w (yq R)=(zx c).w (yq S)->fG c.d R=fG c.d S:=by
  intro R _ S _ e;refine kV λl n=>?_;split;rfl;rename_i I;refine kV λa P=>?_;by_cases j:zT a=true;have N:=fm.2 ⟨j,l,n,by simpa using I,P⟩;exact List.map_inj_left.1 e a N;unfold yq;rw[za j,za j]
 have G:((qB L c.d []).w λB=>(zx c).w (yq B)).Nodup:=by
  rw[pG,mT] at V ⊢;exact V.imp_of_mem fun{a b} P hb J e=>J (s a P b hb e)
 have:=mU G (l2:=ph (zp cs) (zx c).j) (λx H=>by
  obtain⟨B,F,rfl⟩:=zF.1 H;have:=ou (ns:=zp cs) ((zx c).w (yq B)) (λy hy=>by
   obtain⟨v,j,rfl⟩:=zF.1 hy;exact u B F v j)
  rw[xu] at this;exact this)
 rw[xu,Bl] at this;exact this
def Q6{g:Ψ}(e:Ty cs g t)(d:uh cs t)(m:t.j<=1000)(f:(zp cs).j<=250):∀L D,TW t (zp cs) L D->L.j<1000000000000/\∀c∈cs,(yt L c.g c.d c.d []).j<=1000000000000:=by
 intro L D h;refine⟨?_,λc a=>?_⟩;have i:=NV d h;have b:((zp cs).j+1) ^ 3<=251 ^ 3:=Nat.pow_le_pow_left η 3;have k:=Nat.mul_le_mul m b;have j:(1000*251 ^ 3:Nat)=15813251000:=θ;omega;have i:=Mt d h a;have l:=fL (e.many c a);have b:(zp cs).j ^ (zx c).j<=250 ^ (zx c).j:=Nat.pow_le_pow_left f _;have k:250 ^ (zx c).j<=250 ^ 5:=Nat.pow_le_pow_right η l;have j:(250 ^ 5:Nat)=976562500000:=θ;omega
def LD{s:ByteArray}(h:uF s=.ok (cs,t)):(zp cs).j<=250:=by
 obtain⟨b,a⟩:=FJ h;have d:=Gn h;have c:=A5 cs a.many;have e:=C1 cs;omega
end
section
open Go.Proofs.Tryz Go.RowKit
def NL{lo v:Nat}(w:U)(H vb:O)(a b:κ)(B:Tn lo w H a)(E:Tn v w vb b)(N:b.j=a.j)(hl:a.j<=1000000):
  Calls prog 81 #[H,vb] w λe V=>e=ε (.i (yS a b))/\μ w V:=by
 obtain⟨ao,L,rfl⟩:=B.qy;obtain⟨R,F,rfl⟩:=E.qy;have K:=Tg B;have T:=Tg E;have Q:X (yS a b=yS (a.drop 0) (b.drop 0)):=show yS a b=_ from rfl
 clear B E;generalize yS a b=r at *;go_enter func81,ntmps81;go_wp2;go_loopw [5] (λi wr=>∃k:Nat,k<=a.j/\i=ι k/\X (r=yS (a.drop k) (b.drop k))/\μ w wr) (λi _=>a.j-(intOf i).D);exact⟨0,zs _,rfl,Q,zn _ _⟩;obtain⟨k,hk,rfl,A,c⟩:=hrel;have I:=c.q;by_cases m:k<a.j
 .have j:k<b.j:=η;have q:=A.l;rw[OA m j] at q;have u:=Tg q;clear q A;obtain⟨g,rfl,M,s⟩:=K.l.cell k m;obtain⟨W,rfl,C,f⟩:=T.l.cell k j;have p:=zi c M s;have l:=zi c C f;have t:g<wr.o.q:=η;have h:W<wr.o.q:=η;clear s f;by_cases n:a[k]=b[k]
  .have D:=jt n;have o:=Tg (show r=_ by rw[u.l,zb n]);clear n u;generalize a[k]=x at *;generalize b[k]=y at *;go_wp2;go_quiet (fail)
   go_wp2;go_roundw;exact⟨k+1,η,ξ,o,zI c _⟩;simp[intOf];omega
  have D:=vV n;have o:=Tg (show r=_ by rw[u.l,za n]);clear n u;unfold TB at o;generalize a[k]=x at *;generalize b[k]=y at *;go_wp2;go_quiet (fail)
  have d:=mH wr nq;have S:=zi d t p;have G:=zi d h l;have P:=ym t d.q;have J:=ym h d.q;have z:μ w (wr.drewN nq):=zI c _;clear p l;generalize wr.drewN nq=wq at *;go_wp2;go_quiet (fail)
  go_wp2;go_ret;exact⟨by rw[o.l];rfl,zI z _⟩
 have o:X (r=false):=show r=false by rw[A.l];exact Og (λq=>m q.1)
 go_wp2;go_ret;exact⟨by rw[o.l];rfl,c⟩
end
def jK:List (κ)->Nat->List (κ)
 |l,0=>l
 |l,k+1=>if yS (l.g (k+1) []) (l.g k []) then jK ((l.set (k+1) (l.g k [])).set k (l.g (k+1) [])) k else l
def mm(L:List z9)(n:ByteArray):List (κ):=L.H (λa f=>if f.1=n then jK (a++[f.2.1]) a.j else a) []
def eU:∀(a b c:κ),yS a b=true->yS b c=true->yS a c=true
 |[],_,_,h,_=>by simp[yS] at h
 |_::_,[],_,h,_=>by simp[yS] at h
 |_::_,_::_,[],_,h=>by simp[yS] at h
 |a::x,b::y,c::z,e,d=>by
  simp only[yS] at e d ⊢;by_cases g:a=b
  .subst g;rw[zb rfl] at e;by_cases f:a=c
   .subst f;rw[zb rfl] at d ⊢;exact eU x y z e d
   .rw[za f] at d ⊢;exact d
  .rw[za g] at e;by_cases f:b=c
   .subst f;rw[za g];exact e
   .rw[za f] at d;have i:=lt_trans e d;rw[za]
    .exact i
    .rintro rfl;rw[Tv] at i;cases i
def ET:∀(a b:κ),a.j=b.j->a≠b->yS a b=false->yS b a=true
 |[],[],_,h,_=>zB rfl h
 |[],_::_,h,_,_=>by simp at h
 |_::_,[],h,_,_=>by simp at h
 |a::x,b::y,d,c,h=>by
  simp only[yS] at h ⊢;by_cases e:a=b
  .subst e;rw[zb rfl] at h ⊢;exact ET x y (by simpa using d) (λq=>c (by rw[q])) h
  .rw[za e] at h;rw[za (Ne.symm e)];cases f:TB b a with
   |true=>rfl
   |false=>exact zB (sV h f) e
def FL(x:κ):∀(n:Nat) (p s:List (κ)),p.j=n->p.Pairwise (λa b=>yS a b=true)->jK (p++x::s) p.j=p.filter (λy=>!yS x y)++x::(p.filter (yS x ·)++s)
 |0,p,s,g,_=>by
  obtain rfl:=lP g;simp[jK]
 |n+1,p,s,g,m=>by
  obtain⟨q,y,rfl⟩:∃q y,p=q++[y]:=⟨p.dropLast,p.getLast (by intro e;simp[e] at g),(Aw _).z⟩;have t:q.j=n:=by simpa using g
  have d:=m7.1 m;have l:(q++[y]++x::s).g (q.j+1) []=x:=by simp[List.getD_eq_getElem?_getD]
  have o:(q++[y]++x::s).g q.j []=y:=by simp[List.getD_eq_getElem?_getD]
  rw[yN,List.length_singleton];simp only[jK];rw[l,o];by_cases c:yS x y=true
  .rw[zb c];have e:((q++[y]++x::s).set (q.j+1) y).set q.j x=q++x::(y::s):=ζ;rw[e,FL x n q (y::s) t d.1];simp[List.filter_append,c]
  .rw[za c];have i:yS x y=false:=by simpa using c
   have f:∀z∈q,yS x z=false:=λz f=>by
    cases j:yS x z with
    |false=>rfl
    |true=>exact zB (eU _ _ _ j (d.2.2 z f y ζ)) c
   have r:q.filter (λy=>!yS x y)=q:=List.filter_eq_self.2 λz h=>by simp[f z h]
   have k:q.filter (yS x ·)=[]:=eZ.2 λz h=>by simp[f z h]
   simp[List.filter_append,r,k,i]
def PZ{p:List (κ)}{x:κ}(f:p.Pairwise (λa b=>yS a b=true))(j:∀y∈p,x.j=y.j)(k:x∉p):(jK (p++[x]) p.j).Pairwise (λa b=>yS a b=true)/\∀y,y∈jK (p++[x]) p.j↔y=x∨y∈p:=by
 rw[FL x _ p [] rfl f];have i:∀y∈p,yS x y=false->yS y x=true:=λy c h=>ET x y (j y c) (λe=>k (e ▸ c)) h;refine⟨m7.2 ⟨f.filter _,lH.2 ⟨λy c=>?_,by simpa using f.filter _⟩,λy c z d=>?_⟩,λy=>?_⟩;simp at c;exact c.2;simp at c d;have g:=i y c.1 c.2;rcases d with rfl|d;exact g;exact eU _ _ _ g d.2;simp only[ya,zG,xz,qb,tp];constructor;rintro(h|h|h);exact ze h.1;exact zh h;exact ze h.1;rintro(h|h);exact ze (zh h);cases l:yS x y;exact zh ⟨h,rfl⟩;exact ze (ze ⟨h,rfl⟩)
def oI(n:ByteArray)(k:Nat):∀(L:Θ) (c:List (κ)),c.Pairwise (λa b=>yS a b=true)->(∀y∈c,y.j=k)->(∀f∈L,f.1=n->f.2.1.j=k/\f.2.1∉c)->L.Pairwise (λf g=>f.1=g.1->f.2.1≠g.2.1)->(L.H (λc f=>if f.1=n then jK (c++[f.2.1]) c.j else c) c).Pairwise (λa b=>yS a b=true)/\∀y,y∈L.H (λc f=>if f.1=n then jK (c++[f.2.1]) c.j else c) c↔y∈c∨∃f∈L,f.1=n/\f.2.1=y
 |[],c,r,_,_,_=>⟨r,λy=>ζ⟩
 |f::L,c,r,v,p,A=>by
  obtain⟨s,m⟩:=lH.1 A;rw[uG];by_cases i:f.1=n
  .rw[zb i];obtain⟨w,x⟩:=p f ζ i;obtain⟨z,o⟩:=PZ r (λy l=>by rw[w,v y l]) x;obtain⟨t,u⟩:=oI n k L _ z (λy l=>by
    rcases(o y).1 l with rfl|l
    .exact w
    .exact v y l) (λg d e=>⟨(p g (by simp[d]) e).1,λj=>by
    rcases(o _).1 j with j|j
    .exact s g d (by rw[i,e]) j.z
    .exact(p g (by simp[d]) e).2 j⟩) m
   refine⟨t,λy=>(u y).A ⟨λh=>?_,λh=>?_⟩⟩
   .rcases h with h|⟨g,d,e,q⟩
    .rcases(o y).1 h with rfl|h
     .exact ze ⟨f,ζ,i,rfl⟩
     .exact zh h
    .exact ze ⟨g,by simp[d],e,q⟩
   .rcases h with h|⟨g,d,e,q⟩
    .exact zh ((o y).2 (ze h))
    .rcases zG.1 d with rfl|d
     .exact zh ((o y).2 (zh q.z))
     .exact ze ⟨g,d,e,q⟩
  .rw[za i];obtain⟨t,u⟩:=oI n k L c r v (λg d e=>p g (by simp[d]) e) m;refine⟨t,λy=>(u y).A ⟨λh=>?_,λh=>?_⟩⟩
   .rcases h with h|⟨g,d,q⟩
    .exact zh h
    .exact ze ⟨g,by simp[d],q⟩
   .rcases h with h|⟨g,d,q⟩
    .exact zh h
    .rcases zG.1 d with rfl|d
     .exact zB q.1 i
     .exact ze ⟨g,d,q⟩
def PN{L:Θ}{n:ByteArray}{k:Nat}(j:∀f∈L,f.1=n->f.2.1.j=k)(d:L.Pairwise (λf g=>f.1=g.1->f.2.1≠g.2.1)):(mm L n).Pairwise (λa b=>yS a b=true)/\∀y,y∈mm L n↔∃f∈L,f.1=n/\f.2.1=y:=by
 obtain⟨i,h⟩:=oI n k L [] List.Pairwise.nil ζ (λf c e=>⟨j f c e,ζ⟩) d;exact⟨i,λy=>by simpa [mm] using h y⟩
section
variable {t:List zf}
def Ih{α:Type}{lt:α->α->Prop}(c:∀a b,lt a b->¬lt b a):∀{l m:List α},l.Pairwise lt->m.Pairwise lt->(∀x,x∈l↔x∈m)->l=m
 |[],[],_,_,_=>rfl
 |[],y::m,_,_,h=>by have:=(h y).2 ζ;cases this
 |x::l,[],_,_,h=>by have:=(h x).1 ζ;cases this
 |x::l,y::m,k,i,h=>by
  obtain⟨g,j⟩:=lH.1 k;obtain⟨f,n⟩:=lH.1 i;obtain rfl:x=y:=by
   rcases zG.1 ((h x).1 ζ) with q|q
   .exact q
   .rcases zG.1 ((h y).2 ζ) with e|e
    .exact e.z
    .exact zB (g y e) (c _ _ (f x q))
  rw[Ih c j n λz=>⟨λd=>?_,λd=>?_⟩]
  .rcases zG.1 ((h z).1 (by simp[d])) with rfl|q
   .exact zB (g z d) (λq=>c _ _ q q)
   .exact q
  .rcases zG.1 ((h z).2 (by simp[d])) with rfl|q
   .exact zB (f z d) (λq=>c _ _ q q)
   .exact q
def PU{cs:Ξ}{L:Θ}{R:zv}(d:TS t (zp cs) R)(h:TW t (zp cs) L (zyx (t.w (·.jh)) R)){p:Nat}(B:p<t.j):mm L (vh t p)=(jT R p).w λr=>zW (zp cs) r (yc t p) 3:=by
 have l:∀{q z:Nat},q<t.j->z<t.j->vh t q=vh t z->q=z:=fun{q z} a b e=>by
  have w:=(d.name a).2.1;rw[e,(d.name b).2.1] at w;exact w.z
 have A:∀{q:Nat} {r s:zk} {m D:Nat},q<t.j->zyx (t.w (·.jh)) R q r=Z m->zyx (t.w (·.jh)) R q s=Z D->zW (zp cs) r (yc t q) 3=zW (zp cs) s (yc t q) 3->r=s:=fun{q r s m D} a b c e=>by
  have H:=tM _ R q r (by unfold Tq;rw[b];rfl);have J:=tM _ R q s (by unfold Tq;rw[c];rfl);have Q:=d.inside q r (by unfold Tq;rw[b];rfl);have M:=d.inside q s (by unfold Tq;rw[c];rfl);have w:=lY d.nrise (d.ar a).1 H.2 Q;rw[e,lY d.nrise (d.ar a).1 J.2 M] at w;exact(Option.some.inj w).z
 obtain⟨N,V⟩:=PN (L:=L) (n:=vh t p) (k:=yc t p) (λf x e=>by
  obtain⟨q,o,r,m,v,rfl⟩:=(h.mem f).1 x;obtain rfl:=l o B e;exact kS _ _ _ _) (by
  refine h.once.imp_of_mem fun{f g} x K E e W=>E ?_;obtain⟨q,o,r,m,v,rfl⟩:=(h.mem f).1 x;obtain⟨z,C,s,D,u,rfl⟩:=(h.mem g).1 K;obtain rfl:=l o C e;obtain rfl:=A o v u W;rw[v] at u;cases u;rfl)
 refine Ih (lt:=λa b=>yS a b=true) (λa b S I=>?_) N ?_ λy=>?_;have:=eU a b a S I;rw[CA] at this;cases this;rw[rx];intro i j P G F;simp only[xu] at P G;simp only[ub];exact d.sorted B F G;rw[V,zF];constructor;rintro⟨f,x,e,rfl⟩;obtain⟨q,o,r,m,v,rfl⟩:=(h.mem f).1 x;obtain rfl:=l o B e;refine⟨r,?_,rfl⟩;have:=(rS d.inv d.small (by rw[d.len];exact o) r).2 (by unfold Tq;rw[v];rfl);unfold jT;rw[Tl _ (by rw[d.len];exact o)];exact this;rintro⟨r,v,rfl⟩;have q:=(d.row B v).1;unfold Tq at q;obtain⟨m,T⟩:=mh.1 q;exact⟨_,(h.mem _).2 ⟨p,B,r,m,T,rfl⟩,rfl,rfl⟩
def Sv{cs:Ξ}{L:Θ}{R:zv}(a:TS t (zp cs) R)(h:TW t (zp cs) L (zyx (t.w (·.jh)) R)){p:Nat}(d:p<t.j):∀f∈L,f.1=vh t p->f.2.1.j=yc t p:=λf c e=>by
 obtain⟨q,g,r,m,i,rfl⟩:=(h.mem f).1 c;have b:=(a.name g).2.1;rw[show vh t q=vh t p from e,(a.name d).2.1] at b;subst b;exact kS _ _ _ _
def QK{ns:κ}{R:zv}(f:TS t ns R){a:ByteArray}(i:(zU t a).I=true):∃p,p<t.j/\zC t a=p/\vh t p=a:=by
 obtain⟨e,g⟩:=mh.1 i;obtain⟨c,j,h⟩:=jw g;obtain⟨_,d,b⟩:=f.name c;rw[j,h] at b;exact⟨_,c,by rw[b] at d;exact d,b⟩
end
section
open Go.RowKit
def CK.refl(t:Ψ)(ns:κ)(A:Option (DB×Nat)):CK t ns A t ns A:=by
 rcases A with _|x;trivial
 exact⟨rfl,λf=>Iff.rfl⟩
def Q9{s:ByteArray}{cs:Ξ}{t:Ψ}(h:uF s=.ok (cs,t)):∀c∈cs,rq c:=by
 unfold uF at h;split at h;cases h;split at h;cases h;rename_i l b;split at h;cases h;rename_i f e;have d:=FC _ e (RO b);have a:f=cs:=by
  repeat'(split at h)
  all_goals first|(cases h;done)|(simp only[Except.ok.injEq,ye] at h;exact h.1)
 subst a;exact d
def pV.sz{x:ByteArray}(h:pV (bl x)):0<x.q/\x.q<=6:=by
 have d:=h.ne;have c:=h.six;have e:(bl x).j=x.q:=rfl;rcases b:bl x with _|⟨a,r⟩;exact zB b d;rw[b] at e c;simp only[xt] at e c;omega
def pj.fine{l:zj}(h:pj l)(b:l.k.j<=3):sB l:=
 ⟨h.1.1.sz.2,h.1.1.sz.1,η,λx a=>h.2 x a |>.sz⟩
def rq.fine{c:zc}(h:rq c)(b:yR c=false):rf c:=by
 unfold yR at b;simp only[pN,decide_eq_false_iff_not] at b;obtain⟨⟨⟨f,e⟩,d⟩,_⟩:=b;refine⟨λl a=>?_,η⟩;rcases zG.1 a with rfl|a;exact h.2.1.fine η;have:=List.any_eq_false.1 d l a;simp only[decide_eq_true_eq] at this;exact(h.2.2 l a).fine η
end
section
open Go.Proofs.Tryz Go.RowKit
def Kg(w:U)(c:Nat)(f d i:O)(a k:Nat)(m:Int)(h:Th w c #[f,d,i,ι a,ι k,ι m] 156):
  Calls prog 42 #[(π c)] w λe g=>e=ε (.B #[ι a,ι k,ι m])/\∃n,g=w.drewN n:=by
 obtain⟨b,j⟩:=h.H;have l:=h.lt;have p:=b 3;have q:=b 4;have o:=b 5;clear h b;go_enter func42,ntmps42;go_upto_region 1 with fail
 go_quiet (fail)
 go_wp2;go_ret3
 exact⟨rfl,_,rfl⟩
def LM(w:U)(x m p:Nat)(d c f:O)(j:Option Addr)(cap a k:Nat)(b:Int)(g:Th w x #[d,c,f,ι a,ι k,ι b] 156)(i:Th w m #[.k j a cap,ι k] 54)(u:0<=b):
  Calls prog 20 #[.agg #[(π x),(π m),(π p)]] w λe h=>e=ε (.i true)/\X (μ w h):=by
 have l:=Tg λW (o:μ w W)=>Kg W x d c f a k b (g.u o);obtain⟨s,q,r⟩:=i.e;clear g;go_enter func20,ntmps20;go_wp2_with (go_at_call 42;refine(l.l _ φ).y ?_;rintro e t ⟨rfl,n,rfl⟩)
 go_ret;exact⟨rfl,zI φ n⟩
end
end Go.Proofs.YteampbddflhngaaGreat
