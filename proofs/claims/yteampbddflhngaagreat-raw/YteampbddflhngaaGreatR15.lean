import Derived.Test.YteampbddflhngaaGreatR09
import Derived.Test.YteampbddflhngaaGreatR10
import Derived.Test.YteampbddflhngaaGreatR11
import Derived.Test.YteampbddflhngaaGreatR12
namespace Go.Proofs.YteampbddflhngaaGreat
open List renaming length→List.j,getD→List.g,take→List.G,map→List.w,toArray→List.F,foldl→List.H
open _root_.Array renaming size→Array.q,getD→Array.g,map→Array.w,foldl→Array.H
open _root_.ByteArray renaming size→ByteArray.q
open Go.RowKit.Below renaming size→Go.RowKit.Below.q,setCell→Go.RowKit.Below.x,mono→Go.RowKit.Below.y,trans→Go.RowKit.Below.A,alloc→Go.RowKit.Below.C
open Go.TypeInfo renaming size→Go.TypeInfo.q
open Go.RowKit.Hid renaming out→Go.RowKit.Hid.l
open Go.Shut renaming out→Go.Shut.l
open Go.World renaming heap→Go.World.o,setCell→Go.World.x,cell?→Go.World.p,alloc→Go.World.C,ownsRow→Go.World.r
open Go.Value renaming slice→Go.Value.k,string→Go.Value.d,bool→Go.Value.i,cells→Go.Value.E,ownBlock→Go.Value.m,pointer→Go.Value.u,tuple→Go.Value.B
open Go.TypeDesc renaming slice→Go.TypeDesc.k,string→Go.TypeDesc.d,bool→Go.TypeDesc.i,pointer→Go.TypeDesc.u,tuple→Go.TypeDesc.B
open Option renaming getD→Option.g,map→Option.w,isSome→Option.I,some→Z,none→Y
open Go.Calls renaming mono→Go.Calls.y
open Eq renaming trans→Eq.A,symm→Eq.z
open Iff renaming trans→Iff.A,symm→Iff.z
open Go.Obj renaming cells→Go.Obj.E
open Int renaming toNat→Int.D
open UInt8 renaming toNat→UInt8.D
open Ne renaming symm→Ne.z
open Go.RowKit renaming Hid→X
open Go renaming World→U,Value→O
set_option linter.all false
set_option maxRecDepth 100000
set_option maxHeartbeats 4000000
section
open Go.Proofs.Tryz Go.RowKit
variable {lo:Nat}{w:U}
structure xr where
 tv:O
 pv:O
 nv:O
 vv:O
 ntv:O
 vps:List jX
 nbs:List Nat
def jG(r:zu)(P:xr):List Value:=[ι r.L,ι r.m,ι r.g.o,P.tv,P.pv,P.nv,P.vv,P.ntv]
def qs(wd:Nat)(vs:List yO)(ps:List jX):List Value:=(List.zipWith (gS wd) vs ps).flatten
structure uw (lo:Nat) (w:U) (own:Nat->zo) (k wd:Nat) (W:yd) (P:xr):Prop where
 p:vE lo w P.tv P.pv P.nv W.p
 F:w.r lo 301 6 P.vv W.F.j (qs wd W.F P.vps)
 vlen:P.vps.j=W.F.j
 view:∀i (_:i<W.F.j) (_:i<P.vps.j),vY lo w own k i W.F[i] P.vps[i]
 vrole:∀b,P.vv.m=Z b->own b=(k+1,0,9)
 qx:w.r lo 162 1 P.ntv W.p.qx.j (T2 P.nbs)
 nlen:P.nbs.j=W.p.qx.j
 K:W.F.j<=1000
def GU(wd:Nat):∀(vs:List yO) (ps:List jX) (i:Nat) (a:i<vs.j) (b:i<ps.j),(qs wd vs ps)[i*6]?=Z (ι (vs[i].lit.o:Nat))/\(qs wd vs ps)[i*6+1]?=Z ps[i].tv/\(qs wd vs ps)[i*6+2]?=Z (ι wd)/\(qs wd vs ps)[i*6+3]?=Z (pt ps[i].bb)/\(qs wd vs ps)[i*6+4]?=Z (pt ps[i].fb)/\(qs wd vs ps)[i*6+5]?=Z (pt ps[i].ab)
 |[],_,i,a,_=>by simp at a
 |v::vs,[],i,_,b=>by simp at b
 |v::vs,p::ps,0,_,_=>by simp[qs,gS]
 |v::vs,p::ps,i+1,a,b=>by
  have:=GU wd vs ps i (by simpa using a) (by simpa using b);simp only[qs,mJ,ph] at this ⊢;rw[show(i+1)*6=i*6+6 from by omega];have c:i*6+6=(gS wd v p).j+i*6:=by simp[gS];omega
  rw[c];simp only[Nat.add_assoc,fR (Nat.le_add_right _ _),e8];simpa using this
def uw.viewAt{own:Nat->zo}{k wd:Nat}{W:yd}{P:xr}(h:uw lo w own k wd W P)(i:Nat)(c:i<W.F.j)(n:i<P.vps.j):∃g a,P.vv=.k (Z (δ g)) W.F.j a/\g<w.o.q/\w.p (ω g (i*6))=Z (ι (W.F[i].lit.o:Nat))/\w.p (ω g (i*6+1))=Z P.vps[i].tv/\w.p (ω g (i*6+2))=Z (ι wd)/\w.p (ω g (i*6+3))=Z (.u (Z (δ P.vps[i].bb)))/\w.p (ω g (i*6+4))=Z (.u (Z (δ P.vps[i].fb)))/\w.p (ω g (i*6+5))=Z (.u (Z (δ P.vps[i].ab))):=by
 obtain⟨g,a,j,_,p,b⟩:=yq h.F η;obtain⟨o,d,l,m,f,e⟩:=GU wd W.F P.vps i c n;exact⟨g,a,j,p,b _ _ o,b _ _ d,b _ _ l,b _ _ m,b _ _ f,b _ _ e⟩
def BX{w:U}{own:Nat->zo}{S:zo->Prop}:∀(d:List zl) (bs:Φ),bs.j=d.j->(∀i (g:i<d.j) (j:i<bs.j),∃ρ,S ρ/\xh lo w own ρ bs[i] d[i])->∃e:List (Nat×Φ),e.w (·.1)=bs/\(∀i (g:i<d.j) (j:i<e.j),yb lo w e[i].1 d[i] e[i].2)/\∀x∈e,∀b∈x.2,S (own b)
 |[],[],_,_=>⟨[],rfl,λi h=>by simp at h,λx f=>by simp at f⟩
 |[],b::bs,h,_=>by simp at h
 |T::d,[],h,_=>by simp at h
 |T::d,b::bs,h,l=>by
  obtain⟨ρ,q,p,g,j⟩:=l 0 ζ ζ;obtain⟨e,m,n,o⟩:=BX d bs (by simpa using h) λi a c=>by
   have:=l (i+1) (by simpa using a) (by simpa using c);simpa using this
  refine⟨(b,p)::e,by simp[m],λi a c=>?_,λx f y k=>?_⟩
  .match i,a,c with
   |0,_,_=>exact g
   |i+1,a,c=>exact n i (by simpa using a) (by simpa using c)
  .rcases zG.1 f with rfl|f
   .rw[j y k];exact q
   .exact o x f y k
def nL(lo:Nat)(w:U)(own:Nat->zo)(p:Nat)(J:zE)(e:Ending)(w':U):Prop:=∃P,e=ε (.agg (uM J P).F)/\kc lo w' J P/\rp own P p/\μ w w'
def Om{J:zE}{P:xI}(h:kc lo w J P):∀u∈uM J P,u.oneCell'=true:=by
 intro u a;obtain⟨m,q,b⟩:=h.g.qy;obtain⟨i,l,g⟩:=zr h.ja;obtain⟨k,o,d⟩:=zr h.bars;simp only[uM,ya,zG,zF,nQ,or_false] at a;rcases a with ((((((a|a)|⟨_,_,a⟩)|a)|⟨_,_,a⟩)|⟨_,_,a⟩)|a)
 rcases a with rfl|rfl|rfl|rfl|rfl;rfl;rw[b];rfl;rfl;rw[g];rfl;rw[d];rfl;obtain⟨p,f,rfl⟩:=vh a;have j:=h.hlen;obtain⟨n,c,e⟩:=zr (h.jf p η f).1;rw[e];rfl;subst a;rfl;subst a;rfl;subst a;rfl;subst a;rfl;rcases a with rfl|rfl<;>rfl
def js(bs:List Nat)(k:Nat):List Value:=(bs.G k).w pt++List.replicate (bs.j-k) (.u Y)
def Ej(bs:Φ)(k:Nat)(a:k<=bs.j):(js bs k).j=bs.j:=by simp[js];omega
def G8(bs:Φ)(k:Nat)(a:k<bs.j):(js bs k).set k (.u (Z (δ bs[k])))=js bs (k+1):=by
 obtain⟨m,b⟩:∃m,bs.j-k=m+1:=⟨bs.j-k-1,η⟩;unfold js;rw[fY _ _ υ,xt,vd,dX η,j4,b,rT,rq,yN a,qF,show bs.j-(k+1)=m from by omega,kT];rfl
def C3(bs:Φ):js bs bs.j=T2 bs:=by simp[js,T2]
def SU:(prog.info? 162).w (λi=>(i.zero,i.q,i.bytes))=Z (Z (.u Y),1,8):=χ
def CY{W':U}{own:Nat->zo}{k wd p pb:Nat}{W:yd}{P:xr}{qc qx:List zl}{bs:Φ}(d:uw lo w own k wd W P)(D:lo<=w.o.q)(Q:qc.j=W.F.j)(A:bs.j=qc.j)(r:∀i (s:i<qc.j) (u:i<bs.j),∃ρ,ρ≠(0,p,0)/\xh lo w own ρ bs[i] qc[i])(n:qx.j=W.p.qx.j)(q:∀i (s:i<qx.j) (u:i<P.nbs.j),∃ρ,ρ≠(0,p,0)/\xh lo w own ρ P.nbs[i] qx[i])(h:μ w W')(j:W'.r w.o.q 162 1 (.k (Z (δ pb)) qc.j qc.j) qc.j (T2 bs)):
  Calls prog 214 #[gH W.p P.tv P.pv P.nv,.k (Z (δ pb)) qc.j qc.j,P.ntv] W' λe C=>nL lo W' own p (xK W.p qc qx) e C:=by
 obtain⟨l,y,L,F⟩:=BX qc bs A r;obtain⟨m,z,H,I⟩:=BX qx P.nbs (by rw[d.nlen,n]) q;have f:l.j=qc.j:=by rw[←A,←y,xt]
 have g:m.j=qx.j:=by rw[n,←d.nlen,←z,xt]
 have J:T2 bs=l.w λx=>Vi x.1:=by rw[←y];simp[T2];exact λ_ _ _=>rfl
 have N:T2 P.nbs=m.w λx=>Vi x.1:=by rw[←z];simp[T2];exact λ_ _ _=>rfl
 have B:=d.K;have K:=d.p.qx.len;have s:lB w.o.q lo W' (.k (Z (δ pb)) qc.j qc.j) qc l:=⟨by rw[←J];exact j,f,λi a b=>(L i a b).u h,η⟩;have u:lB lo lo W' P.ntv qx m:=⟨by rw[n,←N];exact zy d.qx h,g,λi a b=>(H i a b).u h,η⟩;refine(Rp W' W.p P.tv P.pv P.nv _ _ qc qx l m (d.p.u h) s u n (by have:=h.q;omega)).y ?_;rintro e C ⟨G,rfl,M,E,o,v⟩;refine⟨G,rfl,M,⟨λx t b c=>F x (by rw[←E];exact t) b c,λx t b c=>I x.2 (by rw[←o];exact List.mem_map_of_mem t) b c⟩,v⟩
def ir{w':U}{b:Nat}(h:uO w b)(a:μ w w'):uO w' b:=by obtain⟨c,d,e⟩:=h;exact⟨c,d.u a,e⟩
def FD{b b' o:Nat}{u:O}(h:uO w b)(a:b≠b'):uO (w.x (ω b' o) u) b:=by obtain⟨c,d,e⟩:=h;exact⟨c,d.set_ne a _ _,e⟩
structure WC (w:U) (gw o:Nat) (r:zu) (P:xr):Prop where
 lt:gw<w.o.q
 free:∀q,w.frozen? ⟨gw,q,Y⟩=false
 c0:w.p ⟨gw,o,Y⟩=Z (ι r.L)
 c1:w.p ⟨gw,o+1,Y⟩=Z (ι r.m)
 c2:w.p ⟨gw,o+2,Y⟩=Z (ι r.g.o)
 c3:w.p ⟨gw,o+3,Y⟩=Z P.tv
 c4:w.p ⟨gw,o+4,Y⟩=Z P.pv
 c5:w.p ⟨gw,o+5,Y⟩=Z P.nv
 c6:w.p ⟨gw,o+6,Y⟩=Z P.vv
 c7:w.p ⟨gw,o+7,Y⟩=Z P.ntv
def WC.u{w':U}{a o:Nat}{r:zu}{P:xr}(h:WC w a o r P)(b:μ w w'):WC w' a o r P:=by
 have e:=λq=>b.cell (p:=(ω a q)) h.lt;exact⟨by have:=b.q;have:=h.lt;omega,λq=>(b.frozen (p:=(ω a q)) h.lt).A (h.free q),(e _).A h.c0,(e _).A h.c1,(e _).A h.c2,(e _).A h.c3,(e _).A h.c4,(e _).A h.c5,(e _).A h.c6,(e _).A h.c7⟩
def eh{b:Nat}{J:zE}{P:xI}{c:U}(a:kc lo c J P)(h:uO w b):(storeCells (δ b) (uM J P)).run prog w=.ok () (dZ w b (uM J P)):=by
 have e:=rZ J P a.hlen.1 a.jl;exact run_storeCells_cells (P:=prog) b 0 (uM J P) 0 w (λj d=>(h.there j η).1) (λj d=>(h.there j η).2) (Om a)
attribute [local go_sem] tZ
def MP(w:U)(own:Nat->zo)(k wd p E o:Nat)(W:yd)(P:xr)(qx:List zl)(h:uw lo w own k wd W P)(hc:WC w E o W.p P)(a8:lo<=w.o.q)(hn:qx.j=W.p.qx.j)(a0:∀i (h1:i<qx.j) (h2:i<P.nbs.j),∃ρ,ρ≠(0,p,0)/\xh lo w own ρ P.nbs[i] qx[i]):
  Calls prog 207 #[.u (Z ⟨E,o,Y⟩)] w λe s=>nL lo w own p (xK W.p (W.F.w (·.all)) qx) e s:=by
 obtain⟨i0,hi,a9,aO,aQ⟩:=info_parts SU;have M:X (∀S pb,μ w S->S.r w.o.q 162 1 (.k (Z ⟨pb,0,Y⟩) W.F.j W.F.j) W.F.j (T2 (P.vps.w (·.ab)))->Calls prog 214 #[gH W.p P.tv P.pv P.nv,.k (Z ⟨pb,0,Y⟩) W.F.j W.F.j,P.ntv] S λe s=>nL lo S own p (xK W.p (W.F.w (·.all)) qx) e s):=λS pb hB c=>by
  have q:=CY (p:=p) (pb:=pb) (qc:=W.F.w (·.all)) (bs:=P.vps.w (·.ab)) (qx:=qx) (W':=S) h a8 ζ (by simp[h.vlen]) (λi h1 h2=>⟨(k+1,i,2),ζ,by simp only[ue];exact(h.view i (by simpa using h1) (by simpa using h2)).all⟩) hn a0 hB (by simpa using c);simpa using q
 have aG:=Th λi a b=>h.viewAt i a b;have aA:=Th λi a b=>(h.view i a b).v.qy;have ad:=Th h.vlen;have ba:=h.K;obtain⟨bh,be,V⟩:=zr h.F;obtain⟨aa,z,ak⟩:=h.p.g.qy;obtain⟨R,t,aw⟩:=h.p.qc.qy;obtain⟨T,B,aq⟩:=h.p.qx.qy;obtain⟨ab,A,Q⟩:=zr h.qx;have HW:=Th hc;have aV:=Th V;have D:X (P.tv=.k aa W.p.g.v.j z/\P.pv=.k R W.p.qc.j t/\P.nv=.k T W.p.qx.j B/\P.ntv=.k ab W.p.qx.j A):=⟨ak,aw,aq,Q⟩;have a6:=λW0:U=>run_make (P:=prog) (w:=W0) 150 162 i0 _ underlying150 hi a9 .i64 .i64 (W.F.j:Int) (W.F.j:Int) η (Int.le_refl _) (by rw[aQ];omega) η;rw[aO] at a6;have ay:=hc.c6;rw[V] at ay;have a7:=hc.lt;have aW:=hc.free;clear h hc a0 V ak aw aq Q;go_enter func207,ntmps207;go_upto_region 3 with fail
 have an:μ w ((w.C (.E (bj 0 0 0 Y Y 0 0 0 0).F 310)).C (.E (madeCells #[.u Y] W.F.j) 162)):=γ;have c:=rQ (w.C (.E (bj 0 0 0 Y Y 0 0 0 0).F 310)) W.F.j 162 (.u Y) b_;rw[U.size_alloc] at c;have a3:uO ((w.C (.E (bj 0 0 0 Y Y 0 0 0 0).F 310)).C (.E (madeCells #[.u Y] W.F.j) 162)) w.o.q:=iJ _ _ _ _ _ _ _ _ _ _ _;have a5:(P.vps.w (·.ab)).j=W.F.j:=by simp[ad.l]
 have av:X (((w.C (.E (bj 0 0 0 Y Y 0 0 0 0).F 310)).C (.E (madeCells #[.u Y] W.F.j) 162)).r w.o.q 162 1 (.k (Z ⟨w.o.q+1,0,Y⟩) W.F.j W.F.j) W.F.j (js (P.vps.w (·.ab)) 0)):=by
  have e:js (P.vps.w (·.ab)) 0=List.replicate W.F.j (.u Y):=by simp[js,ad.l]
  rw[X,e];exact yo c η
 have ae:=Th a5;have aT:X (∀i (h1:i<P.vps.j) (h2:i<(P.vps.w (·.ab)).j),(P.vps.w (·.ab))[i]=P.vps[i].ab):=λi a b=>ζ;clear c a5 ay a7 aW a6;generalize (w.C (.E (bj 0 0 0 Y Y 0 0 0 0).F 310)).C (.E (madeCells #[.u Y] W.F.j) 162)=w1 at *;generalize P.vps.w (·.ab)=L at *;have y:=Th a3;clear a3;go_loopw [17] (λaX wr=>∃m:Nat,m<=W.F.j/\aX=ι m/\μ w wr/\X (uO wr w.o.q)/\X (wr.r w.o.q 162 1 (.k (Z ⟨w.o.q+1,0,Y⟩) W.F.j W.F.j) W.F.j (js L m))) (λi _=>W.F.j-(intOf i).D);exact⟨0,zs _,rfl,an,y,av⟩;clear av y an;obtain⟨m,hm,rfl,d,y,HR⟩:=hrel;have bf:=d.q;by_cases C:m<W.F.j
 .have af:m<P.vps.j:=by rw[ad.l];exact C
  have a4:m<L.j:=by rw[ae.l];exact C
  obtain⟨gv,aJ,n,r,q0,q1,q2,q3,q4,q5⟩:=aG.l m C af;rw[aV.l] at n;simp only[O.slice.injEq] at n;have aR:=n.1;clear n;subst aR;obtain⟨aB,ao,hq⟩:=aA.l m C af;rw[hq] at q1;have x0:=zi d r q0;have x1:=zi d r q1;have x2:=zi d r q2;have x3:=zi d r q3;have x4:=zi d r q4;have x5:=zi d r q5;have bk:gv<wr.o.q:=η;have c:=HR.l;have aK:=Ej L m η;obtain⟨sx,bp⟩:∃sx,wr.p ⟨w.o.q+1,m,Y⟩=Z sx:=by
   obtain⟨g',bd,az,_,_,al⟩:=yq c η;simp only[O.slice.injEq,zt,Addr.mk.injEq,and_true] at az;have e:=az.1;subst e;exact⟨_,al m _ (yn η)⟩
  have bo:=vl c;have bq:w.o.q+1<wr.o.q:=yF c rfl;have ax:X ((js L m).set m (.u (Z ⟨P.vps[m].ab,0,Y⟩))=js L (m+1)):=by
   have q:=G8 L m a4;rw[aT.l m af a4] at q;exact q
  have l:Below (wr.x ⟨w.o.q+1,m,Y⟩ (.u (Z ⟨P.vps[m].ab,0,Y⟩))).o.q (wr.x ⟨w.o.q+1,m,Y⟩ (.u (Z ⟨P.vps[m].ab,0,Y⟩))) ((wr.x ⟨w.o.q+1,m,Y⟩ (.u (Z ⟨P.vps[m].ab,0,Y⟩))).C (.E #[ι (W.F[m].lit.o:Nat),.k aB W.F[m].lit.v.j ao,ι wd,.u (Z ⟨P.vps[m].bb,0,Y⟩),.u (Z ⟨P.vps[m].fb,0,Y⟩),.u (Z ⟨P.vps[m].ab,0,Y⟩)] 301)):=γ;have g:=ir (FD (o:=m) (u:=.u (Z ⟨P.vps[m].ab,0,Y⟩)) y.l (show w.o.q≠w.o.q+1 by omega)) l;have j:=uD c m η (.u (Z ⟨P.vps[m].ab,0,Y⟩));rw[ax.l] at j;have am:=zy j l;have aS:=Tl (d.x ζ _) l;clear j;have bb:(m:Int)<(W.F.j:Int):=η;clear q0 q1 q2 q3 q4 q5 aK hq ax;generalize W.F[m].lit.o=vp at *;generalize W.F[m].lit.v.j=vt at *;generalize P.vps[m].bb=bi at *;generalize P.vps[m].fb=bn at *;generalize P.vps[m].ab=bg at *;go_wp2;exact⟨⟨m+1,η,ξ,aS,g,am⟩,by simp[intOf];omega⟩
 obtain rfl:m=W.F.j:=η;have aC:X (wr.r w.o.q 162 1 (.k (Z ⟨w.o.q+1,0,Y⟩) W.F.j W.F.j) W.F.j (T2 L)):=by
  have q:=HR.l;rw[←ae.l,C3,ae.l] at q;exact q
 have aN:=HW.l.u d;obtain⟨t1,t2,t3,t4⟩:=D.l;obtain⟨bm,aP,d0,d1,d2,d3,d4,d5,d6,d7⟩:=aN;rw[t1] at d3;rw[t2] at d4;rw[t3] at d5;rw[t4] at d7;have f:E≠w.o.q:=by have:=HW.l.lt;omega
 have aD:X (∀W0,μ wr W0->Calls prog 214 #[.agg #[ι W.p.L,ι W.p.m,ι W.p.g.o,.k aa W.p.g.v.j z,.k R W.p.qc.j t,.k T W.p.qx.j B],.k (Z ⟨w.o.q+1,0,Y⟩) W.F.j W.F.j,.k ab W.p.qx.j A] W0 λe s=>nL lo W0 own p (xK W.p (W.F.w (·.all)) qx) e s):=λW0 au=>by
  have q:=M.l W0 (w.o.q+1) (Tl d au) (zy aC.l au);rw[gH,t1,t2,t3,t4] at q;exact q
 clear t1 t2 t3 t4 d6 M C hm;generalize a1:xK W.p (W.F.w (·.all)) qx=J at *;have ai:=Th a1;clear a1;go_wp2;go_region_held3 (λs=>s.p ⟨E,o,Y⟩=Z (ι W.p.L)/\s.p ⟨E,o+1,Y⟩=Z (ι W.p.m)/\s.p ⟨E,o+2,Y⟩=Z (ι W.p.g.o)/\s.p ⟨E,o+3,Y⟩=Z (.k aa W.p.g.v.j z)/\s.p ⟨E,o+4,Y⟩=Z (.k R W.p.qc.j t)/\s.p ⟨E,o+5,Y⟩=Z (.k T W.p.qx.j B)/\s.p ⟨E,o+7,Y⟩=Z (.k ab W.p.qx.j A)) (first|(exact⟨ag,ac,ah,H,F,I,G⟩)|(exact⟨(kJ _ _ _ _ _ f).A ag,(kJ _ _ _ _ _ f).A ac,(kJ _ _ _ _ _ f).A ah,(kJ _ _ _ _ _ f).A H,(kJ _ _ _ _ _ f).A F,(kJ _ _ _ _ _ f).A I,(kJ _ _ _ _ _ f).A G⟩)|go_keep|(go_simp;done)) (first|(go_at_call 214;refine(aD.l _ γ).y ?_;rintro e w2 ⟨PJ,rfl,x,ap,aM⟩;have K:μ wr w2:=(zT γ aM (zf _));have aZ:=HW.l.u (Tl d K);obtain⟨bc,ar,ag,ac,ah,H,F,I,_,G⟩:=aZ;rw[D.l.1] at H;rw[D.l.2.1] at F;rw[D.l.2.2.1] at I;rw[D.l.2.2.2] at G;have g:=ir y.l K;have aI:=eh x g;have N:=rZ J PJ x.hlen.1 x.jl;have aY:=Th x;have aH:=Th ap;clear x ap;generalize aj:uM J PJ=cs at *;have aE:=Th aj;clear aj))
 have aU:=sF (cs:=cs) g N;have a2:=sI w2 w.o.q cs;have aF:=aY.l.saveJ a2 (T3.box g.choose_spec.1);have aL:=(Tl d K).A (a2.u ζ (by have:=K.q;omega));clear aI d0 d1 d2 d3 d4 d5 d7 ag ac ah H F I G aP ar;generalize dZ w2 w.o.q cs=w5 at *;go_wp2
 (try simp only[Exit.inBlock,Exit.then])
 exact zP (v:=.agg cs.F) (ix rfl _ _ _ _ _ (by rfl) (run_loadVar_mid w5 w.o.q 0 310 cs _ aU.range underlying310 rfl (by rw[N];exact SP))) rfl ⟨PJ,by rw[ai.l,aE.l],by rw[ai.l];exact aF,aH.l,aL⟩
end
section
open Go.Proofs.Tryz Go.RowKit
variable {lo:Nat}
def kt(ps:List jX)(place:Nat):List Nat:=ps.zipIdx.w λx=>if x.2<place then x.1.bb else if x.2=place then x.1.fb else x.1.ab
def Gi(vs:List yO)(a:Nat):(T5 vs a).j=vs.j:=by simp[T5]
def QV{w:U}{own:Nat->zo}{k wd p:Nat}{W:yd}{P:xr}(h:uw lo w own k wd W P)(a i:Nat)(c:i<W.F.j)(d:i<P.vps.j)(e:i<(T5 W.F a).j)(f:i<(kt P.vps a).j):∃ρ,ρ≠(0,p,0)/\xh lo w own ρ (kt P.vps a)[i] (T5 W.F a)[i]:=by
 have b:=h.view i c d;simp only[kt,T5,ue,List.getElem_zipIdx,vJ];split;exact⟨_,ζ,b.before⟩;split;exact⟨_,ζ,b.qw⟩;exact⟨_,ζ,b.all⟩
attribute [local go_sem] tZ
def PO(w:U)(own:Nat->zo)(k wd p I o d:Nat)(W:yd)(P:xr)(qx:List zl)(h:uw lo w own k wd W P)(hc:WC w I o W.p P)(aC:lo<=w.o.q)(be:d<=1000000)(hn:qx.j=W.p.qx.j)(a3:∀i (h1:i<qx.j) (h2:i<P.nbs.j),∃ρ,ρ≠(0,p,0)/\xh lo w own ρ P.nbs[i] qx[i]):
  Calls prog 210 #[.u (Z ⟨I,o,Y⟩),ι d] w λe x=>nL lo w own p (xK W.p (T5 W.F d) qx) e x:=by
 obtain⟨i0,hi,aD,aV,aX⟩:=info_parts SU;have S:X (∀W' pb,μ w W'->W'.r w.o.q 162 1 (.k (Z ⟨pb,0,Y⟩) W.F.j W.F.j) W.F.j (T2 (kt P.vps d))->Calls prog 214 #[gH W.p P.tv P.pv P.nv,.k (Z ⟨pb,0,Y⟩) W.F.j W.F.j,P.ntv] W' λe x=>nL lo W' own p (xK W.p (T5 W.F d) qx) e x):=λW' pb hB c=>by
  have q:=CY (p:=p) (pb:=pb) (qc:=T5 W.F d) (bs:=kt P.vps d) (qx:=qx) (W':=W') h aC (by simp[T5]) (by simp[kt,T5,h.vlen]) (λi h1 h2=>QV h d i (by simpa [T5] using h1) (by simpa [kt] using h2) h1 h2) hn a3 hB (by rw[Gi];exact c);rw[Gi] at q;exact q
 have aL:=Th λi a b=>h.viewAt i a b;have aE:=Th λi a b=>(h.view i a b).v.qy;have ah:=Th h.vlen;have bk:=h.K;obtain⟨br,bp,ac⟩:=zr h.F;obtain⟨ad,D,ao⟩:=h.p.g.qy;obtain⟨aa,z,az⟩:=h.p.qc.qy;obtain⟨ab,F,av⟩:=h.p.qx.qy;obtain⟨ae,E,V⟩:=zr h.qx;have HW:=Th hc;have bd:=Th ac;have H:X (P.tv=.k ad W.p.g.v.j D/\P.pv=.k aa W.p.qc.j z/\P.nv=.k ab W.p.qx.j F/\P.ntv=.k ae W.p.qx.j E):=⟨ao,az,av,V⟩;have a9:=λW0:U=>run_make (P:=prog) (w:=W0) 150 162 i0 _ underlying150 hi aD .i64 .i64 (W.F.j:Int) (W.F.j:Int) η (Int.le_refl _) (by rw[aX];omega) η;rw[aV] at a9;have a1:=hc.c6;rw[ac] at a1;have aB:=hc.lt;have bf:=hc.free;clear h hc a3 ac ao az av V;go_enter func210,ntmps210;go_upto_region 3 with fail
 have aq:μ w ((w.C (.E (bj 0 0 0 Y Y 0 0 0 0).F 310)).C (.E (madeCells #[.u Y] W.F.j) 162)):=γ;have c:=rQ (w.C (.E (bj 0 0 0 Y Y 0 0 0 0).F 310)) W.F.j 162 (.u Y) b_;rw[U.size_alloc] at c;have a6:uO ((w.C (.E (bj 0 0 0 Y Y 0 0 0 0).F 310)).C (.E (madeCells #[.u Y] W.F.j) 162)) w.o.q:=iJ _ _ _ _ _ _ _ _ _ _ _;have a8:(kt P.vps d).j=W.F.j:=by simp[kt,ah.l]
 have ay:X (((w.C (.E (bj 0 0 0 Y Y 0 0 0 0).F 310)).C (.E (madeCells #[.u Y] W.F.j) 162)).r w.o.q 162 1 (.k (Z ⟨w.o.q+1,0,Y⟩) W.F.j W.F.j) W.F.j (js (kt P.vps d) 0)):=by
  have e:js (kt P.vps d) 0=List.replicate W.F.j (.u Y):=by simp[js,kt,ah.l]
  rw[X,e];exact yo c η
 have ai:=Th a8;have ba:X (∀i (h1:i<P.vps.j) (h2:i<(kt P.vps d).j),(kt P.vps d)[i]=if i<d then P.vps[i].bb else if i=d then P.vps[i].fb else P.vps[i].ab):=λi a b=>by simp[kt]
 clear c a8 a1 aB bf a9;generalize (w.C (.E (bj 0 0 0 Y Y 0 0 0 0).F 310)).C (.E (madeCells #[.u Y] W.F.j) 162)=w1 at *;generalize kt P.vps d=R at *;have C:=Th a6;clear a6;go_loopw [19] (λbg wr=>∃m:Nat,m<=W.F.j/\bg=ι m/\μ w wr/\X (uO wr w.o.q)/\X (wr.r w.o.q 162 1 (.k (Z ⟨w.o.q+1,0,Y⟩) W.F.j W.F.j) W.F.j (js R m))) (λi _=>W.F.j-(intOf i).D);exact⟨0,zs _,rfl,aq,C,ay⟩;clear ay C aq;obtain⟨m,hm,rfl,f,C,HR⟩:=hrel;have bq:=f.q;by_cases G:m<W.F.j
 .have ak:m<P.vps.j:=by rw[ah.l];exact G
  have a7:m<R.j:=by rw[ai.l];exact G
  obtain⟨gv,aP,r,s,q0,q1,q2,q3,q4,q5⟩:=aL.l m G ak;rw[bd.l] at r;simp only[O.slice.injEq] at r;have aY:=r.1;clear r;subst aY;obtain⟨aF,ar,hq⟩:=aE.l m G ak;rw[hq] at q1;have x0:=zi f s q0;have x1:=zi f s q1;have x2:=zi f s q2;have x3:=zi f s q3;have x4:=zi f s q4;have x5:=zi f s q5;have bs:gv<wr.o.q:=η;have c:=HR.l;have aQ:=Ej R m η;obtain⟨sx,bw⟩:∃sx,wr.p ⟨w.o.q+1,m,Y⟩=Z sx:=by
   obtain⟨g',bo,a2,_,_,ap⟩:=yq c η;simp only[O.slice.injEq,zt,Addr.mk.injEq,and_true] at a2;have e:=a2.1;subst e;exact⟨_,ap m _ (yn η)⟩
  have bu:=vl c;have be:w.o.q+1<wr.o.q:=yF c rfl;obtain⟨B,aj⟩:∃B,B=(if m<d then P.vps[m].bb else if m=d then P.vps[m].fb else P.vps[m].ab):=⟨_,rfl⟩;have a0:X ((js R m).set m ((π B))=js R (m+1)):=by
   have q:=G8 R m a7;rw[ba.l m ak a7,←aj] at q;exact q
  have n:Below (wr.x ⟨w.o.q+1,m,Y⟩ ((π B))).o.q (wr.x ⟨w.o.q+1,m,Y⟩ ((π B))) ((wr.x ⟨w.o.q+1,m,Y⟩ ((π B))).C (.E #[ι (W.F[m].lit.o:Nat),.k aF W.F[m].lit.v.j ar,ι wd,.u (Z ⟨P.vps[m].bb,0,Y⟩),.u (Z ⟨P.vps[m].fb,0,Y⟩),.u (Z ⟨P.vps[m].ab,0,Y⟩)] 301)):=γ;have j:=ir (FD (o:=m) (u:=(π B)) C.l (show w.o.q≠w.o.q+1 by omega)) n;have l:=uD c m η ((π B));rw[a0.l] at l;have y:=zy l n;have ag:=Tl (f.x ζ _) n;clear l;have bm:(m:Int)<(W.F.j:Int):=η;clear q0 q1 q2 q3 q4 q5 aQ hq a0;generalize W.F[m].lit.o=vp at *;generalize W.F[m].lit.v.j=vt at *;generalize P.vps[m].bb=aO at *;generalize P.vps[m].fb=aZ at *;generalize P.vps[m].ab=aH at *;have t:=Th aj;clear aj;by_cases g1:m<d
  .have aT:(m:Int)<(d:Int):=η;obtain rfl:B=aO:=by rw[t.l,zb g1]
   clear t;go_wp2;exact⟨⟨m+1,η,ξ,ag,j,y⟩,by simp[intOf];omega⟩
  have aT:¬(m:Int)<(d:Int):=η;by_cases g2:m=d
  .have bb:((m:Int) == (d:Int))=true:=by rw[beq_iff_eq];omega
   obtain rfl:B=aZ:=by rw[t.l,za g1,zb g2]
   have bv:=Th g2;clear t g2;go_wp2;exact⟨⟨m+1,η,ξ,ag,j,y⟩,by simp[intOf];omega⟩
  have bb:((m:Int) == (d:Int))=false:=by rw[beq_eq_false_iff_ne];omega
  obtain rfl:B=aH:=by rw[t.l,za g1,za g2]
  clear t;go_wp2;exact⟨⟨m+1,η,ξ,ag,j,y⟩,by simp[intOf];omega⟩
 obtain rfl:m=W.F.j:=η;have aG:X (wr.r w.o.q 162 1 (.k (Z ⟨w.o.q+1,0,Y⟩) W.F.j W.F.j) W.F.j (T2 R)):=by
  have q:=HR.l;rw[←ai.l,C3,ai.l] at q;exact q
 have aU:=HW.l.u f;obtain⟨t1,t2,t3,t4⟩:=H.l;obtain⟨bt,aW,d0,d1,d2,d3,d4,d5,d6,d7⟩:=aU;rw[t1] at d3;rw[t2] at d4;rw[t3] at d5;rw[t4] at d7;have g:I≠w.o.q:=by have:=HW.l.lt;omega
 have aI:X (∀W0,μ wr W0->Calls prog 214 #[.agg #[ι W.p.L,ι W.p.m,ι W.p.g.o,.k ad W.p.g.v.j D,.k aa W.p.qc.j z,.k ab W.p.qx.j F],.k (Z ⟨w.o.q+1,0,Y⟩) W.F.j W.F.j,.k ae W.p.qx.j E] W0 λe x=>nL lo W0 own p (xK W.p (T5 W.F d) qx) e x):=λW0 ax=>by
  have q:=S.l W0 (w.o.q+1) (Tl f ax) (zy aG.l ax);rw[gH,t1,t2,t3,t4] at q;exact q
 clear t1 t2 t3 t4 d6 S G hm;generalize a4:xK W.p (T5 W.F d) qx=J at *;have aA:=Th a4;clear a4;go_wp2;go_region_held3 (λx=>x.p ⟨I,o,Y⟩=Z (ι W.p.L)/\x.p ⟨I,o+1,Y⟩=Z (ι W.p.m)/\x.p ⟨I,o+2,Y⟩=Z (ι W.p.g.o)/\x.p ⟨I,o+3,Y⟩=Z (.k ad W.p.g.v.j D)/\x.p ⟨I,o+4,Y⟩=Z (.k aa W.p.qc.j z)/\x.p ⟨I,o+5,Y⟩=Z (.k ab W.p.qx.j F)/\x.p ⟨I,o+7,Y⟩=Z (.k ae W.p.qx.j E)) (first|(exact⟨al,af,am,M,K,N,L⟩)|(exact⟨(kJ _ _ _ _ _ g).A al,(kJ _ _ _ _ _ g).A af,(kJ _ _ _ _ _ g).A am,(kJ _ _ _ _ _ g).A M,(kJ _ _ _ _ _ g).A K,(kJ _ _ _ _ _ g).A N,(kJ _ _ _ _ _ g).A L⟩)|go_keep|(go_simp;done)) (first|(go_at_call 214;refine(aI.l _ γ).y ?_;rintro e w2 ⟨PJ,rfl,A,au,aS⟩;have Q:μ wr w2:=(zT γ aS (zf _));have bi:=HW.l.u (Tl f Q);obtain⟨bn,aw,al,af,am,M,K,N,_,L⟩:=bi;rw[H.l.1] at M;rw[H.l.2.1] at K;rw[H.l.2.2.1] at N;rw[H.l.2.2.2] at L;have j:=ir C.l Q;have aN:=eh A j;have T:=rZ J PJ A.hlen.1 A.jl;have bh:=Th A;have aM:=Th au;clear A au;generalize an:uM J PJ=cs at *;have aJ:=Th an;clear an))
 have bc:=sF (cs:=cs) j T;have a5:=sI w2 w.o.q cs;have aK:=bh.l.saveJ a5 (T3.box j.choose_spec.1);have aR:=(Tl f Q).A (a5.u ζ (by have:=Q.q;omega));clear aN d0 d1 d2 d3 d4 d5 d7 al af am M K N L aW aw;generalize dZ w2 w.o.q cs=w5 at *;go_wp2
 (try simp only[Exit.inBlock,Exit.then])
 exact zP (v:=.agg cs.F) (ix rfl _ _ _ _ _ (by rfl) (run_loadVar_mid w5 w.o.q 0 310 cs _ bc.range underlying310 rfl (by rw[T];exact SP))) rfl ⟨PJ,by rw[aA.l,aJ.l],by rw[aA.l];exact aK,aM.l,aR⟩
end
section
open Go.Proofs.Tryz Go.RowKit
variable {lo:Nat}{w:U}{p:Nat}
structure Vr (c:Array O) (o:Nat) (r:zu) (P:xr):Prop where
 c0:c[o]?=Z (ι r.L)
 c1:c[o+1]?=Z (ι r.m)
 c2:c[o+2]?=Z (ι r.g.o)
 c3:c[o+3]?=Z P.tv
 c4:c[o+4]?=Z P.pv
 c5:c[o+5]?=Z P.nv
 c6:c[o+6]?=Z P.vv
 c7:c[o+7]?=Z P.ntv
def Vr.at{d o:Nat}{T:TypeId}{c:Array O}{r:zu}{P:xr}(h:Vr c o r P)(b:Ti w d c T):WC w d o r P:=by
 obtain⟨a,e⟩:=b.H;exact⟨b.lt,e,(a _).A h.c0,(a _).A h.c1,(a _).A h.c2,(a _).A h.c3,(a _).A h.c4,(a _).A h.c5,(a _).A h.c6,(a _).A h.c7⟩
def uw.mod{ok:TypeId->zo->Prop}{w w':U}{own own':Nat->zo}{k wd:Nat}{W:yd}{P:xr}(h:uw lo w own k wd W P)(m:Tq lo ok w own w' own')(d:∀ρ,¬ok 284 ρ)(f:∀ρ,¬ok 204 ρ)(e:¬ok 301 (k+1,0,9))(g:∀ρ,¬ok 162 ρ)(l:∀i j t,¬Ue t->¬ok t (k+1,i,j)):uw lo w' own' k wd W P:=
 ⟨h.p.mod m d f,tC h.F m λb c=>by rw[h.vrole b c];exact e,h.vlen,λi a b=>(h.view i a b).mod m (l i) d,λb c=>by rw[m.old b (yF h.F c)];exact h.vrole b c,vR h.qx m g,h.nlen,h.K⟩
def pp{t:TypeId}(a:Ue t)(h:t∉[214,161,165,310,323]):∀ρ,¬kL p t ρ:=λρ q=>by
 rcases q with (q|q|q|q)|q
 .exact q.1 a
 .subst q;exact h θ
 .subst q;exact h θ
 .rw[q.1] at h;exact h θ
 .rcases zG.1 q with rfl|q
  .exact h θ
  .rcases zG.1 q with rfl|q
   .exact h θ
   .cases q
def Ss{t:TypeId}{ρ:zo}(a:¬Ue t)(h:ρ≠(0,p,0)):¬kL p t ρ:=λq=>by
 rcases q with (q|q|q|q)|q
 .exact h q.2
 .subst q;exact a θ
 .subst q;exact a θ
 .rw[q.1] at a;exact a θ
 .rcases zG.1 q with rfl|q
  .exact a θ
  .rcases zG.1 q with rfl|q
   .exact a θ
   .cases q
def uw.all{w':U}{own own':Nat->zo}{k wd:Nat}{W:yd}{P:xr}(h:uw lo w own k wd W P)(m:Tq lo (kL p) w own w' own'):uw lo w' own' k wd W P:=
 h.mod m (pp θ θ) (pp θ θ) (pp θ θ _) (pp θ θ) (λ_ _ _ a=>Ss a ζ)
def fj(a:List Nat)(n:Nat)(r:zu)(b:List Nat):Prop:=∀i (c:i<r.qx.j) (e:i<b.j),r.qx[i].o≠r.g.o/\r.qx[i].o<n/\∃d:r.qx[i].o<a.j,b[i]=a[r.qx[i].o]
def GO(wd:Nat)(R:zv)(r:zu):(jH wd R r).j=r.qx.j:=by simp[jH]
def fj.tries{w:U}{own:Nat->zo}{l:Nat}{R:zv}{wd mr mx:Nat}{Q:uz}{r:zu}{a:Φ}(h:fj Q.tbs R.I.j r a)(d:zZ lo w own l R wd mr mx Q)(m:a.j=r.qx.j):∀i (f:i<(jH wd R r).j) (c:i<a.j),∃ρ,ρ≠(0,r.g.o,0)/\xh lo w own ρ a[i] (jH wd R r)[i]:=by
 intro i f c;obtain⟨g,b,k,j⟩:=h i η c;refine⟨(0,r.qx[i].o,0),by simp[g],?_⟩;have e:(jH wd R r)[i]=R.I[r.qx[i].o]:=by
  simp only[jH,ue,lP];rw[za η];simp[b]
 rw[e,j];exact d.tries _ b k
def BK{mr:Nat}{R R':zv}{row:zk}{b:Bool}(h:jV mr R p row=Z (R',b)):R'.I.j=R.I.j:=by
 obtain⟨_,_,_,_,_,a⟩:=iZ h;rcases a with⟨_,rfl,_⟩|⟨_,rfl,_⟩<;>simp
def tS{mr p:Nat}:∀(n:Nat) (R R':zv) (J:zE) (b:Bool),vM mr p n R J=Z (R',b)->R'.I.j=R.I.j
 |0,R,R',J,b,h=>by simp[vM] at h
 |n+1,R,R',J,b,h=>by
  unfold vM at h;cases e:ly n J with
  |none=>rw[e] at h;cases h
  |some i=>
   obtain⟨d,f⟩:=i;rw[e] at h;cases f with
   |false=>
    simp only[zt,ye] at h;rw[←h.1]
   |true=>
    dsimp only at h;cases a:jV mr R p (zH d.g d.P) with
    |none=>rw[a] at h;cases h
    |some c=>
     obtain⟨g,j⟩:=c;rw[a] at h;cases j with
     |false=>
      simp only[zt,ye] at h;rw[←h.1];exact BK a
     |true=>exact(tS n g R' d b h).A (BK a)
attribute [local go_sem] tZ
def kc.laid{J:zE}{a:xI}(h:kc lo w J a)(g:lo<=w.o.q):T8 lo (dZ (w.C (.E (bj 0 0 0 Y Y 0 0 0 0).F 310)) w.o.q (uM J a)) w.o.q J a/\μ w (dZ (w.C (.E (bj 0 0 0 Y Y 0 0 0 0).F 310)) w.o.q (uM J a)):=by
 have b:μ w (w.C (.E (bj 0 0 0 Y Y 0 0 0 0).F 310)):=(zn _ _).C (zf _) _;have f:=sj w 0 0 0 Y Y 0 0 0 0;have d:=sF f (rZ J a h.hlen.1 h.jl);have e:=sI (w.C (.E (bj 0 0 0 Y Y 0 0 0 0).F 310)) w.o.q (uM J a);obtain⟨j,c,_⟩:=f;exact⟨((h.u b).saveJ e (T3.box c)).join g d,b.A (e.u (λx i=>by simp at i;omega) ζ)⟩
def Ly(w:U)(own:Nat->zo)(B A o k:Nat)(c:Array O)(R R':zv)(W:yd)(P:xr)(wd mr mx:Nat)(Q:uz)(n:Nat)(b:Bool)(h:zZ lo w own B R wd mr mx Q)(hw:uw lo w own k wd W P)(l:Ti w A c 292)(t:Vr c o W.p P)(H:fj Q.tbs R.I.j W.p P.nbs)(j:lo<=w.o.q)(hr:kV n wd mr true R W=Z (R',b)):
  Calls prog 193 #[(π B),.u (Z (ω A o)),.i true] w λe w'=>eC lo w own B W.p.g.o R' b wd mr mx Q e w':=by
 have T:=hr;have M:=Th (MP w own k wd W.p.g.o A o W P _ hw (t.at l) j (GO _ _ _) (H.tries h hw.nlen));have N:=Th λW0 jb m x hj I=>G0 W0 own B jb R R' _ m wd mr mx Q W.p.g.o n b (h.u x) hj I (by have:=x.q;omega) T;have C:=t.at l;have z:=Th C;have aa:=Th j;generalize xK W.p (W.F.w (·.all)) (jH wd R W.p)=J at *;generalize G:W.p.g.o=p at *;have L:=Th G;go_enter func193,ntmps193;go_upto_region 3 with (first|(go_at_call 207;refine M.l.y ?_;rintro e i ⟨m,rfl,d,q,g⟩;have af:μ i (i.C (.E (bj 0 0 0 Y Y 0 0 0 0).F 310)):=γ;have ad:=eh d (sj i 0 0 0 Y Y 0 0 0 0);have ac:=rZ J m d.hlen.1 d.jl;have S:=Th d;have E:=Th q;clear d q;generalize r:uM J m=cs at *;have ab:=Th r;clear r))
 have F:=zY aa.l g.q;have a:=S.l.laid F;rw[ab.l] at a;obtain⟨K,V⟩:=a;generalize dZ (i.C (.E (bj 0 0 0 Y Y 0 0 0 0).F 310)) i.o.q cs=W3 at *;have f:=g.A (V.y g.q);have ae:W3.p (ω A (o+2))=Z (ι p):=by rw[←L.l];exact(f.cell z.l.lt).A z.l.c2
 have s:=N.l W3 _ m f K E.l;have D:=Th f;go_wp2_with (go_at_call 208;refine s.y ?_;rintro e w4 ⟨rfl,y,v,u,hm⟩)
 go_ret;exact⟨rfl,y,v,u,(Tq.of own D.l).A hm⟩
end
section
open Go.Proofs.Tryz Go.RowKit
variable {lo:Nat}
attribute [local go_sem] tZ
def P3(w:U)(own:Nat->zo)(rb gw o k:Nat)(c:Array O)(R R':zv)(W:yd)(P:xr)(wd mr mx:Nat)(Q:uz)(n:Nat)(b:Bool)(h:zZ lo w own rb R wd mr mx Q)(hw:uw lo w own k wd W P)(ac:Ti w gw c 292)(T:Vr c o W.p P)(aw:fj Q.tbs R.I.j W.p P.nbs)(aj:lo<=w.o.q)(hr:kV n wd mr false R W=Z (R',b)):
  Calls prog 193 #[(π rb),.u (Z (ω gw o)),.i false] w λe w'=>eC lo w own rb W.p.g.o R' b wd mr mx Q e w':=by
 have a2:X (kl n wd mr W (W.F.j-0) 0 R=Z (R',b)):=hr;have HH:=Th h;have aR:=Th hw;have aJ:=Th ac;have a4:=Th T;have aP:=Th aw;have aG:=Th aj;have aV:=hw.K;obtain⟨ba,aX,aa⟩:=zr hw.F;have aT:=Th aa;have ag:=T.at ac;have aY:=ag.lt;have aO:=ag.c6;rw[aa] at aO;clear hr h hw ac T aw aj aa ag;go_enter func193,ntmps193;go_upto_region 5 with fail
 go_loopw [27] (λaF wr=>∃m:Nat,m<=W.F.j/\aF=ι m/\∃B a G,X (zZ lo wr a rb B wd mr mx ⟨Q.rv,Q.tbs,Q.fv,G⟩)/\X (Tq lo (kL W.p.g.o) w own wr a)/\X (B.I.j=R.I.j)/\X (kl n wd mr W (W.F.j-m) m B=Z (R',b))) (λi _=>W.F.j-(intOf i).D);exact⟨0,zs _,rfl,R,own,Q.fvs,HH,Tq.refl _ _,rfl,a2⟩;clear a2;obtain⟨m,hm,rfl,B,a,G,C,j,af,am⟩:=hrel;have aB:=j.l.q;have s:=zY aG.l aB;by_cases H:m<W.F.j
 .have ae:=Th (aR.l.all j.l);have al:=Th (aJ.l.mod j.l (pp θ θ _));have D:=ae.l;have a7:m<P.vps.j:=by rw[D.vlen];exact H
  obtain⟨gv,aI,r,aZ,q0,q1,q2,q3,q4,q5⟩:=D.viewAt m H a7;rw[aT.l] at r;simp only[O.slice.injEq] at r;have aQ:=r.1;clear r;subst aQ;have M:=D.view m H a7;obtain⟨ao,K,hq⟩:=M.v.qy;rw[hq] at q1;have d:=am.l;rw[show W.F.j-m=(W.F.j-(m+1))+1 from by omega] at d;unfold kl at d;rw[show W.F.g m ⟨⟨0,[]⟩,zl.zero,zl.zero,zl.zero⟩=W.F[m] by simp[List.getD,H]] at d;obtain⟨aN,a6,_⟩:=M.qw;have a3:=Th λI hb=>Df I _ _ aN (a6.u hb);have l:=(a4.l.at al.l);have aM:=l.lt;have aW:(m:Int)<(W.F.j:Int):=η;clear a6 M hq D;by_cases ay:W.F[m].qw.count>0
  .rw[zb ay] at d;rcases ha:vM mr W.p.g.o n B (xK W.p (T5 W.F m) (jH wd B W.p)) with _|ar;rw[ha] at d;cases d;obtain⟨R3,b3⟩:=ar;rw[ha] at d;have t:=tS _ _ _ _ _ ha;have aK:=Th (t.A af.l);have a1:X (∀I,μ wr I->Calls prog 210 #[.u (Z (ω gw o)),ι m] I λe w'=>nL lo I a W.p.g.o (xK W.p (T5 W.F m) (jH wd B W.p)) e w'):=λI hb=>by
    have aS:=Tq.of (lo:=lo) (ok:=kL W.p.g.o) a hb;exact PO I a k wd W.p.g.o gw o m W P _ (ae.l.all aS) ((a4.l.at al.l).u hb) (zY s hb.q) η (GO _ _ _) (fj.tries (by rw[af.l];exact aP.l) (C.l.u hb) ae.l.nlen)
   have ap:=Th λI jb PJ az hj aU=>G0 I a rb jb B R3 _ PJ wd mr mx _ W.p.g.o n b3 (C.l.u az) hj aU (zY s az.q) ha;have aD:=Th l.c2;clear l ha t;generalize xK W.p (T5 W.F m) (jH wd B W.p)=J at *;have aC:(0:Int)<(W.F[m].qw.count:Nat):=η;have y:X ((match (Z (R3,b3):Option (zv×Bool)) with|none=>Y|some (R,false)=>Z (R,false)|some (R,true)=>kl n wd mr W (W.F.j-(m+1)) (m+1) R)=Z (R',b)):=d;clear d;generalize W.F[m].qw.count=ct at *;generalize W.F[m].lit.o=vp at *;generalize W.F[m].lit.v.j=vt at *;generalize P.vps[m].bb=V at *;generalize P.vps[m].fb=ad at *;generalize P.vps[m].ab=S at *;generalize av:W.p.g.o=p at *;have aE:=Th av;clear av;have f:μ wr (wr.C (.E #[ι vp,.k ao vt K,ι wd,(π V),(π ad),(π S)] 301)):=γ;have g:=Th f;clear f;go_upto_region 9 with (first|(go_at_call 209;refine(a3.l _ g.l).y ?_;rintro e F ⟨rfl,ab⟩;obtain rfl:=ab.z)|(go_at_call 210;refine(a1.l _ g.l).y ?_;rintro e F ⟨PJ,rfl,v,ax,a0⟩;have ah:=Tl g.l a0;clear a0;have aL:μ F (F.C (.E (bj 0 0 0 Y Y 0 0 0 0).F 310)):=γ;have aH:=eh v (sj F 0 0 0 Y Y 0 0 0 0);have a5:=rZ J PJ v.hlen.1 v.jl;have a9:=Th v;have au:=Th ax;clear v ax;generalize an:uM J PJ=cs at *;have aq:=Th an;clear an))
   have z:=a9.l.laid (zY s ah.q);rw[aq.l] at z;obtain⟨a8,aA⟩:=z;generalize dZ (F.C (.E (bj 0 0 0 Y Y 0 0 0 0).F 310)) F.o.q cs=W3 at *;have E:=Tl ah aA;have bb:=zi E aM aD.l;have L:=ap.l W3 _ PJ E a8 au.l;have ak:=Th E;clear a8 aA E a9 au aq aH a5 aL ap a1 ah;generalize F.o.q=jb at *;cases b3
   .have N:X (R3=R'/\false=b):=by have q:=y.l;simp only[zt,ye] at q;exact q
    go_wp2_with (go_at_call 208;refine L.y ?_;rintro e w4 ⟨rfl,x,A,u,ai⟩)
    go_ret;exact⟨by rw[←N.l.2];rfl,x,A,by rw[←N.l.1];exact u,by rw[aE.l];exact j.l.A ((Tq.of a ak.l).A ai)⟩
   have N:X (kl n wd mr W (W.F.j-(m+1)) (m+1) R3=Z (R',b)):=y.l;clear y;go_wp2_with (go_at_call 208;refine L.y ?_;rintro e w4 ⟨rfl,x,A,u,ai⟩)
   exact⟨⟨m+1,η,ξ,R3,x,A,u,j.l.A ((Tq.of a ak.l).A ai),aK,N⟩,by simp[intOf];omega⟩
  rw[za ay] at d;have y:=Th d;clear d l;have aC:¬(0:Int)<(W.F[m].qw.count:Nat):=η;generalize W.F[m].qw.count=ct at *;generalize W.F[m].lit.o=vp at *;generalize W.F[m].lit.v.j=vt at *;generalize P.vps[m].bb=V at *;generalize P.vps[m].fb=ad at *;generalize P.vps[m].ab=S at *;have f:μ wr (wr.C (.E #[ι vp,.k ao vt K,ι wd,(π V),(π ad),(π S)] 301)):=γ;have g:=Th f;clear f;go_wp2_with (go_at_call 209;refine(a3.l _ g.l).y ?_;rintro e F ⟨rfl,ab⟩;obtain rfl:=ab.z)
  exact⟨⟨m+1,η,ξ,B,a,G,C.l.u g.l,j.l.A (Tq.of a g.l),af,y⟩,by simp[intOf];omega⟩
 obtain rfl:m=W.F.j:=η;have d:=am.l;rw[j4] at d;simp only[kl,zt,ye] at d;have N:=Th d;clear d;go_wp2;go_ret;exact⟨by rw[←N.l.2];rfl,a,G,by rw[←N.l.1];exact C.l,j.l⟩
def LG(w:U)(own:Nat->zo)(i j o k:Nat)(c:Array O)(R R':zv)(W:yd)(P:xr)(wd mr mx:Nat)(Q:uz)(n:Nat)(first b:Bool)(h:zZ lo w own i R wd mr mx Q)(l:uw lo w own k wd W P)(d:Ti w j c 292)(g:Vr c o W.p P)(f:fj Q.tbs R.I.j W.p P.nbs)(a:lo<=w.o.q)(m:kV n wd mr first R W=Z (R',b)):
  Calls prog 193 #[(π i),.u (Z (ω j o)),.i first] w λe p=>eC lo w own i W.p.g.o R' b wd mr mx Q e p:=by
 cases first
 exact P3 w own i j o k c R R' W P wd mr mx Q n b h l d g f a m;exact Ly w own i j o k c R R' W P wd mr mx Q n b h l d g f a m
end
section
open Go.Proofs.Tryz Go.RowKit
variable {lo:Nat}{k wd cap:Nat}{c:Array O}{w w':U}{own':Nat->zo}{xs:List O}
def l0(k:Nat):TypeId->zo->Prop:=λt ρ=>(¬Ue t/\∃i j,ρ=(k+1,i,j))∨(t=301/\ρ=(k+1,0,9))
def O4{i:Nat}{t:TypeId}{ρ:zo}(h:lE k i (k+1,0,9) t ρ):l0 k t ρ:=by
 rcases h with⟨a,j,b⟩|h
 exact zh ⟨a,i,j,b⟩;exact ze h
def nz{t:TypeId}(h:Ue t)(a:t≠301):∀ρ,¬l0 k t ρ:=λρ q=>by
 rcases q with q|q
 .exact q.1 h
 .exact a q.1
def s5{t:TypeId}{a b c:Nat}(h:a≠k+1):¬l0 k t (a,b,c):=λq=>by
 rcases q with⟨_,i,j,q⟩|⟨_,q⟩<;>simp at q<;>omega
def dY{i:Nat}{ρg:zo}{t:TypeId}(h:Ue t)(a:t≠301):∀ρ,¬lE k i ρg t ρ:=λρ q=>by
 rcases q with q|q
 .exact q.1 h
 .exact a q.1
def zZ.work{own:Nat->zo}{a:Nat}{R:zv}{mr mx:Nat}{Q:uz}(h:zZ lo w own a R wd mr mx Q)(m:Tq lo (l0 k) w own w' own'):zZ lo w' own' a R wd mr mx Q:=
 h.mod m (nz θ θ) (nz θ θ) (nz θ θ) (λ_=>s5 η) (λ_ _ _=>s5 η)
def KX{a:Nat}{e:TypeId}{b g n m:Nat}(h:w.r a e b (.k (Z (δ g)) n cap) m xs)(r:w'.o[g]?=w.o[g]?):w'.r a e b (.k (Z (δ g)) n cap) m xs:=by
 obtain⟨l,i⟩:=h;refine⟨l,?_⟩;rcases i with i|⟨p,d,j,f,s,q,o⟩;exact zh i;refine ze ⟨p,d,j,f,s,?_,o⟩;simp at f;rw[←f.1,r,f.1];exact q
def I8{a:Nat}{e:TypeId}{b g n m:Nat}(h:w.r a e b (.k (Z (δ g)) n cap) m xs)(d:Ti w g c e)(j:Nat)(i:j<xs.j)(u:O)(f:Ti w' g (c.setIfInBounds j u) e):w'.r a e b (.k (Z (δ g)) n cap) m (xs.set j u):=by
 refine KX (uD h j i u) ?_;unfold Ti at f d;rw[f];simp[U.setCell,Array.getElem?_modify,d]
def EE(wd:Nat):∀(vs:List yO) (ps:List jX),ps.j=vs.j->(qs wd vs ps).j=6*vs.j
 |[],[],_=>rfl
 |[],_::_,h=>by simp at h
 |_::_,[],h=>by simp at h
 |v::vs,p::ps,h=>by
  have:=EE wd vs ps (by simpa using h);simp only[qs,mJ,ph,yK] at this ⊢;rw[this];simp[gS];omega
def Dp(wd:Nat):∀(vs:List yO) (ps:List jX) (i:Nat) (_:i<vs.j) (b:i<ps.j) (V:yO) (a:Nat),V.lit=(vs.g i V).lit->qs wd (vs.set i V) (ps.set i ⟨ps[i].tv,ps[i].bb,a,ps[i].ab⟩)=(qs wd vs ps).set (i*6+4) ((π a))
 |[],_,i,d,_,_,_,_=>by simp at d
 |v::vs,[],i,_,b,_,_,_=>by simp at b
 |v::vs,p::ps,0,_,_,V,a,h=>by
  simp at h;simp[qs,gS,h,pt]
 |v::vs,p::ps,i+1,d,b,V,a,h=>by
  have:=Dp wd vs ps i (by simpa using d) (by simpa using b) V a (by simpa using h);simp only[qs,pC,mJ,ph,pF] at this ⊢;rw[this,List.set_append,za (by simp[gS];omega)];congr 2;simp[gS];omega
def vq{α:Type}(a vs:List α)(m:Nat):List α:=a.G m++vs.drop m
def wZ{α:Type}{a vs:List α}(h:a.j=vs.j)(m:Nat)(b:m<=vs.j):(vq a vs m).j=vs.j:=by simp[vq];omega
def Dv{α:Type}{a vs:List α}(h:a.j=vs.j)(m:Nat)(d:m<vs.j)(b:m<(vq a vs m).j):(vq a vs m)[m]=vs[m]:=by
 simp only[vq];rw[lW υ];simp[show min m a.j=m by omega]
def FV{α:Type}{a vs:List α}(h:a.j=vs.j)(m:Nat)(e:m<vs.j)(b:m<a.j):(vq a vs m).set m a[m]=vq a vs (m+1):=by
 have d:=xp e;have g:a.G (m+1)=a.G m++[a[m]]:=by rw[yN b]
 have f:(a.G m).j=m:=by simp;omega
 show(a.G m++vs.drop m).set m a[m]=a.G (m+1)++vs.drop (m+1);rw[d,g,List.set_append,za η,f,j4,rq,kT];rfl
def EI{f:Nat}{V b:yO}{a:List zk}(h:fQ f wd V a=Z b):b.lit=V.lit:=by
 obtain⟨_,_,_,_,_,_,_,_,e⟩:=E7 h;rw[e]
def CN{f wd:Nat}{d:List (List zk)}:∀{vs a:List yO},f6 f wd d vs=Z a->a.j=vs.j/\∀i (b:i<vs.j) (j:i<a.j),if vs[i].lit.o<d.j then fQ f wd vs[i] (d.g vs[i].lit.o [])=Z a[i] else a[i]=vs[i]
 |[],a,h=>by
  simp[f6] at h;subst h;exact⟨rfl,λi h=>by simp at h⟩
 |V::vs,a,h=>by
  unfold f6 at h;split at h
  .rename_i v n g l;simp at h;subst h;obtain⟨m,o⟩:=CN l;refine⟨by simp[m],λi b j=>?_⟩;match i,b,j with
   |0,_,_=>
    simp only[gQ];by_cases e:V.lit.o<d.j
    .rw[zb e] at g ⊢;exact g
    .rw[za e] at g ⊢;simpa using g.z
   |i+1,b,j=>
    simp only[pF];exact o i (by simpa using b) (by simpa using j)
  .cases h
def uw.renewed{own:Nat->zo}{i g f:Nat}{W:yd}{P:xr}{n:yO}(h:uw lo w own k wd W P)(s:i<W.F.j)(B:i<P.vps.j)(p:P.vv=.k (Z (δ g)) W.F.j cap)(z:Ti w g c 301)(x:n.lit=W.F[i].lit)(y:vY lo w' own' k i n ⟨P.vps[i].tv,P.vps[i].bb,f,P.vps[i].ab⟩)(A:Ti w' g (c.setIfInBounds (i*6+4) ((π f))) 301)(m:Tq lo (lE k i (k+1,0,9)) w own w' own'):uw lo w' own' k wd ⟨W.p,W.F.set i n⟩ {P with vps:=P.vps.set i ⟨P.vps[i].tv,P.vps[i].bb,f,P.vps[i].ab⟩}:=by
 refine⟨h.p.mod m (dY θ θ) (dY θ θ),?_,by simp[h.vlen],λj a b=>?_,λb d=>(m.old b (yF h.F d)).A (h.vrole b d),vR h.qx m (dY θ θ),h.nlen,by simpa using h.K⟩;have u:=h.F;dsimp only;rw[p] at u ⊢;rw[fz];have e:=Dp wd W.F P.vps i s B n f (by simp[List.getD,s,x]);have r:=EE wd W.F P.vps h.vlen;have q:=I8 u z (i*6+4) η ((π f)) A;rw[←e] at q;exact q;simp only[fz] at a b;simp only[lT];by_cases e:i=j;subst e;rw[zb rfl,zb rfl];exact y;rw[za e,za e];refine(h.view j a b).mod m (λq t v l=>?_) (dY θ θ);rcases l with⟨_,C,l⟩|⟨o,l⟩
 simp at l;omega;subst o;exact v θ
def NH(lo:Nat)(w:U)(own:Nat->zo)(k wd:Nat)(W:yd)(b:List yO)(P:xr)(e:Ending)(w':U):Prop:=e=ε (.B #[])/\∃own' a,uw lo w' own' k wd ⟨W.p,b⟩ ⟨P.tv,P.pv,P.nv,P.vv,P.ntv,a,P.nbs⟩/\Tq lo (l0 k) w own w' own'
def KL(w:U)(own:Nat->zo)(rb gw o k:Nat)(c:Array O)(R:zv)(W:yd)(f:List yO)(P:xr)(wd mr mx:Nat)(Q:uz)(ai:Nat)(h:zZ lo w own rb R wd mr mx Q)(hw:uw lo w own k wd W P)(ar:Ti w gw c 292)(ap:Vr c o W.p P)(ay:lo<=w.o.q)(a9:∀l∈R.qw,l.j<=1048577)(hr:f6 ai wd R.qw W.F=Z f):
  Calls prog 194 #[.u (Z ⟨gw,o,Y⟩),Q.fv] w λe w'=>NH lo w own k wd W f P e w':=by
 obtain⟨a3,a2⟩:=CN hr;have C:=Th a3;have aN:=Th a2;have HH:=Th h;have aT:=Th hw;have aP:=Th ar;have a7:=Th ap;have aL:=Th ay;have aF:=Th a9;have aU:=hw.K;have bc:=h.K.2.1;obtain⟨bb,z,aq⟩:=zr hw.F;have D:=Th aq;obtain⟨ba,aW,am⟩:=zr h.qw;have aC:=Th am;have ax:=ap.at ar;have aY:=ax.lt;have a5:=ax.c6;rw[aq] at a5;rw[am];clear hr h hw ar ap ay aq ax a3 a2 a9 am;go_enter func194,ntmps194;go_upto_region 1 with fail
 go_loopw [11] (λaK wr=>∃m:Nat,m<=W.F.j/\aK=ι m/\∃d a,X (uw lo wr d k wd ⟨W.p,vq f W.F m⟩ ⟨P.tv,P.pv,P.nv,P.vv,P.ntv,a,P.nbs⟩)/\X (Tq lo (l0 k) w own wr d)) (λi _=>W.F.j-(intOf i).D);exact⟨0,zs _,rfl,own,P.vps,aT.l,Tq.refl _ _⟩;obtain⟨m,hm,rfl,d,a,V,B⟩:=hrel;have aE:=B.l.q;have a0:=zY aL.l aE;by_cases T:m<W.F.j
 .have K:=V.l;have v:m<(vq f W.F m).j:=by rw[wZ C.l m hm];exact T
  have a1:m<f.j:=by rw[C.l];exact T
  have u:=Dv C.l m T v;have ag:=FV C.l m T a1;have af:m<a.j:=by have:=K.vlen;dsimp only at this;omega
  obtain⟨gv,aO,s,A,q0,q1,q2,q3,q4,q5⟩:=K.viewAt m v af;dsimp only at s q0 q1 q2 q3 q4 q5;rw[D.l] at s;simp only[O.slice.injEq] at s;have aw:=s.1;clear s;subst aw;obtain⟨H,p,hq⟩:=(K.view m v af).v.qy;dsimp only at hq;rw[hq] at q1;rw[u] at q0 q1;have aV:(m:Int)<(W.F.j:Int):=η;have al:=Th (aP.l.mod B.l (nz θ θ _));have az:wr.p ⟨gw,o+6,Y⟩=Z (.k (Z ⟨gv,0,Y⟩) W.F.j z):=by rw[←D.l];exact(a7.l.at al.l).c6
  have aR:=al.l.lt;have j:=aN.l m T a1;have bd:¬(W.F[m].lit.o:Int)<0:=η;by_cases aa:W.F[m].lit.o<R.qw.j
  .rw[zb aa] at j;have aG:=Th (HH.l.work B.l);have F:=aG.l;have aA:W.F[m].lit.o<Q.fvs.j:=by rw[F.flen];exact aa
   obtain⟨gf,aI,y,_,a6,aB⟩:=yq F.qw η;rw[aC.l] at y;simp only[O.slice.injEq] at y;have aw:=y.1;clear y;subst aw;have x:=aB W.F[m].lit.o _ (yn aA);have N:=(F.jo _ aa aA).1;obtain⟨ak,M,ad⟩:=zr N.1;have au:R.qw[W.F[m].lit.o].j<=1048577:=aF.l _ (zq _);rw[show R.qw.g W.F[m].lit.o []=R.qw[W.F[m].lit.o] by simp[List.getD,aa]] at j;have a8:X (∀W0,μ wr W0->Ti W0 wr.o.q #[ι (W.F[m].lit.o:Nat),.k H W.F[m].lit.v.j p,ι wd,.u (Z ⟨a[m].bb,0,Y⟩),.u (Z ⟨a[m].fb,0,Y⟩),.u (Z ⟨a[m].ab,0,Y⟩)] 301->Calls prog 206 #[.u (Z ⟨gv,m*6,Y⟩),.k ak R.qw[W.F[m].lit.o].j M] W0 λe w'=>e=ε (.B #[])/\w'.p ⟨gw,o+6,Y⟩=Z (.k (Z ⟨gv,0,Y⟩) W.F.j z)/\w'.p ⟨wr.o.q,0,Y⟩=Z (ι (W.F[m].lit.o:Nat))/\w'.p ⟨gf,W.F[m].lit.o,Y⟩=Z (.k ak R.qw[W.F[m].lit.o].j M)/\X (∃own' ab,uw lo w' own' k wd ⟨W.p,vq f W.F (m+1)⟩ ⟨P.tv,P.pv,P.nv,P.vv,P.ntv,ab,P.nbs⟩/\Tq lo (l0 k) w own w' own')):=λW0 t G=>by
    have aD:Tq lo (λ_ _=>False) wr d W0 (ext d wr.o.q (0,0,5)):=Tq.extNew d (0,0,5) t;have ae:=V.l.mod aD (λ_=>id) (λ_=>id) id (λ_=>id) (λ_ _ _ _=>id);have a4:=al.l.u t;have ac:=ae.F;dsimp only at ac;rw[D.l] at ac;obtain⟨cg,an⟩:=jM ac rfl;have ao:=ae.vrole gv (by dsimp only;rw[D.l];rfl);obtain⟨n,_⟩:=an.H;obtain⟨cf,ah⟩:=jM (zy F.qw t) (b:=gf) (by rw[aC.l];rfl);have aJ:VC cg (m*6) wd W.F[m].lit.o a[m].tv a[m].bb a[m].fb a[m].ab:=⟨(n _).z.A ((t.cell A).A q0),(n _).z.A ((t.cell A).A (by rw[q1,hq,u])),(n _).z.A ((t.cell A).A q2),(n _).z.A ((t.cell A).A q3),(n _).z.A ((t.cell A).A q4),(n _).z.A ((t.cell A).A q5)⟩;have aj:=ae.view m v af;dsimp only at aj;rw[u] at aj;have q:=ER W0 _ k m gv (m*6) wd ai cg W.F[m] f[m] a[m] _ _ an aJ aj (N.below' t) (yW ac rfl) (zY a0 t.q) F.small.1 au j;rw[ad] at q;refine q.y ?_;rintro e w' ⟨rfl,aZ,own',aS,aM,E⟩;rw[ao] at E;have av:=ae.renewed (W:=⟨W.p,vq f W.F m⟩) v af (cap:=z) (by dsimp only;rw[D.l,wZ C.l m hm]) an (by dsimp only;rw[u];exact EI j) aS aM E;dsimp only at av;rw[ag] at av;have c1:=a4.mod E (dY θ θ _);have c2:=G.mod E (λq=>by rcases q with⟨q,_⟩|⟨_,q⟩;exact q θ;simp[ext] at q);have c3:=ah.mod E (dY θ θ _);refine⟨rfl,?_,?_,?_,own',_,av,(B.l.A (aD.more λ_ _ q=>q.elim)).A (E.more λ_ _ q=>O4 q)⟩;rw[←D.l];exact(a7.l.at c1).c6;rw[c2.H.1];rfl;rw[c3.H.1,←ah.H.1,t.cell a6,x,ad]
   rw[ad] at x;have aX:=au;clear ad N aB F j hq K au u ag v;generalize R.qw[W.F[m].lit.o].j=rl at *;have aH:(W.F[m].lit.o:Int)<(R.qw.j:Int):=η;generalize W.F[m].lit.o=vp at *;generalize W.F[m].lit.v.j=vt at *;generalize a[m].bb=L at *;generalize a[m].fb=S at *;generalize a[m].ab=J at *;go_upto_region 4 with fail
   have g:μ wr (wr.C (.E #[ι vp,.k H vt p,ι wd,(π L),(π S),(π J)] 301)):=γ;have G:=Ti.new wr #[ι vp,.k H vt p,ι wd,(π L),(π S),(π J)] 301;generalize aQ:wr.C (.E #[ι vp,.k H vt p,ι wd,(π L),(π S),(π J)] 301)=W1 at *;clear aQ;have x1:=zi g aR az;have x2:=zi g a6 x;have x3:W1.p ⟨wr.o.q,0,Y⟩=Z (ι vp):=by rw[G.H.1];rfl
   clear a5 az x q0 q1 q2 q3 q4 q5;go_region_held3 (λw'=>w'.p ⟨gw,o+6,Y⟩=Z (.k (Z ⟨gv,0,Y⟩) W.F.j z)/\w'.p ⟨wr.o.q,0,Y⟩=Z (ι vp)/\w'.p ⟨gf,vp,Y⟩=Z (.k ak rl M)) (first|go_keep|(go_simp;done)) (first|(go_at_call 206;refine(a8.l _ (by exact(zI g 1)) (Ti.drew G)).y ?_;rintro e w2 ⟨rfl,y1,y2,y3,HX⟩))
   clear x1 x2 x3 y1 y2 y3 G g a8;go_wp2;obtain⟨own',ab,z1,z2⟩:=HX.l;exact⟨⟨m+1,η,ξ,own',ab,z1,z2⟩,by simp[intOf];omega⟩
  rw[za aa] at j;have r:vq f W.F (m+1)=vq f W.F m:=by rw[←ag,j,←u,ik]
  have I:X (∀W0,μ wr W0->uw lo W0 d k wd ⟨W.p,vq f W.F (m+1)⟩ ⟨P.tv,P.pv,P.nv,P.vv,P.ntv,a,P.nbs⟩/\Tq lo (l0 k) w own W0 d):=λW0 t=>by
   rw[r];exact⟨V.l.mod (Tq.of (ok:=λ_ _=>False) d t) (λ_=>id) (λ_=>id) id (λ_=>id) (λ_ _ _ _=>id),B.l.A (Tq.of d t)⟩
  have aH:¬(W.F[m].lit.o:Int)<(R.qw.j:Int):=η;clear j hq K u ag v r;generalize W.F[m].lit.o=vp at *;generalize W.F[m].lit.v.j=vt at *;generalize a[m].bb=L at *;generalize a[m].fb=S at *;generalize a[m].ab=J at *;have g:μ wr (wr.C (.E #[ι vp,.k H vt p,ι wd,(π L),(π S),(π J)] 301)):=γ;go_wp2;obtain⟨z1,z2⟩:=I.l _ g;exact⟨⟨m+1,η,ξ,d,a,z1,z2⟩,by simp[intOf];omega⟩
 obtain rfl:m=W.F.j:=η;have r:vq f W.F W.F.j=f:=by simp[vq,←C.l]
 have I:X (uw lo wr d k wd ⟨W.p,f⟩ ⟨P.tv,P.pv,P.nv,P.vv,P.ntv,a,P.nbs⟩):=by rw[←r];exact V.l
 clear V r;go_wp2
 (try simp only[Exit.inBlock,Exit.then])
 exact zP (results_none rfl _ _ _) rfl ⟨rfl,d,a,I.l,B.l⟩
end
section
open Go.RowKit
variable {lo:Nat}{w w':U}{own':Nat->zo}{wd:Nat}{wv:O}{Ws:List yd}{Ps:List xr}
def gU(Ws:List yd)(Ps:List xr):List Value:=(List.zipWith (λW P=>jG W.p P) Ws Ps).flatten
structure uL (lo:Nat) (w:U) (own:Nat->zo) (wd:Nat) (wv:O) (Ws:List yd) (Ps:List xr):Prop where
 arr:w.r lo 292 8 wv Ws.j (gU Ws Ps)
 plen:Ps.j=Ws.j
 work:∀k (_:k<Ws.j) (_:k<Ps.j),uw lo w own k wd Ws[k] Ps[k]
 K:Ws.j<=1000
def Hq:∀(Ws:List yd) (Ps:List xr) (k:Nat) (a:k<Ws.j) (b:k<Ps.j) (j:Nat),j<8->(gU Ws Ps)[k*8+j]?=(jG Ws[k].p Ps[k])[j]?
 |[],_,k,a,_,_,_=>by simp at a
 |v::vs,[],k,_,b,_,_=>by simp at b
 |v::vs,p::c,0,_,_,j,d=>by
  simp only[gU,mJ,ph,gQ];rw[r9 (by simp[jG];omega)];simp
 |v::vs,p::c,k+1,a,b,j,d=>by
  have:=Hq vs c k (by simpa using a) (by simpa using b) j d;simp only[gU,mJ,ph,pF] at this ⊢;rw[fR (by simp[jG];omega),←this];congr 1;simp[jG];omega
def Gw:∀(Ws:List yd) (Ps:List xr) (k:Nat) (b:k<Ws.j) (c:k<Ps.j) (W':yd) (a:xr),jG W'.p a=jG Ws[k].p Ps[k]->gU (Ws.set k W') (Ps.set k a)=gU Ws Ps
 |[],_,k,b,_,_,_,_=>by simp at b
 |v::vs,[],k,_,c,_,_,_=>by simp at c
 |v::vs,p::d,0,_,_,W',a,h=>by
  simp only[gQ] at h;simp[gU,h]
 |v::vs,p::d,k+1,b,c,W',a,h=>by
  have:=Gw vs d k (by simpa using b) (by simpa using c) W' a (by simpa using h);simp only[gU,pC,mJ,ph] at this ⊢;rw[this]
def uL.at{w:U}{own:Nat->zo}{wd:Nat}{wv:O}{Ws:List yd}{Ps:List xr}(h:uL lo w own wd wv Ws Ps)(k:Nat)(i:k<Ws.j)(m:k<Ps.j):∃d a c,wv=.k (Z (δ d)) Ws.j a/\lo<=d/\Ti w d c 292/\Vr c (k*8) Ws[k].p Ps[k]:=by
 obtain⟨d,a,f,p,r,l⟩:=yq h.arr η;obtain⟨c,g⟩:=jM h.arr (b:=d) (by rw[f];rfl);have e:∀j,j<8->c[k*8+j]?=(jG Ws[k].p Ps[k])[j]?:=λj o=>by
  have q:=Hq Ws Ps k i m j o;obtain⟨u,n⟩:∃u,(jG Ws[k].p Ps[k])[j]?=Z u:=⟨_,yn (show j<(jG Ws[k].p Ps[k]).j by simp[jG];omega)⟩;rw[n] at q ⊢;rw[←g.H.1];exact l _ _ q
 exact⟨d,a,c,f,p,g,e 0 η,e 1 η,e 2 η,e 3 η,e 4 η,e 5 η,e 6 η,e 7 η⟩
def uL.all{w w':U}{own own':Nat->zo}{wd p:Nat}{wv:O}{Ws:List yd}{Ps:List xr}(h:uL lo w own wd wv Ws Ps)(m:Tq lo (kL p) w own w' own'):uL lo w' own' wd wv Ws Ps:=
 ⟨vR h.arr m (pp θ θ),h.plen,λk a b=>(h.work k a b).all m,h.K⟩
def uL.types{own:Nat->zo}{l:List TypeId}(h:uL lo w own wd wv Ws Ps)(m:Tq lo (dT l) w own w' own')(e:∀t∈l,Ue t/\t∉[292,284,204,301,162]):uL lo w' own' wd wv Ws Ps:=by
 have c:∀t,t∈[292,284,204,301,162]->∀ρ,¬dT l t ρ:=λt d ρ q=>(e t q).2 d;exact⟨vR h.arr m (c _ θ),h.plen,λk a b=>(h.work k a b).mod m (c _ θ) (c _ θ) (c _ θ _) (c _ θ) (λ_ _ _ d q=>d (e _ q).1),h.K⟩
def uL.u{own:Nat->zo}(h:uL lo w own wd wv Ws Ps)(a:μ w w'):uL lo w' own wd wv Ws Ps:=h.types (l:=[]) (Tq.of own a) ζ
def uL.renewed{own:Nat->zo}{k:Nat}{d:List yO}{c:List jX}(h:uL lo w own wd wv Ws Ps)(f:k<Ws.j)(i:k<Ps.j)(g:uw lo w' own' k wd ⟨Ws[k].p,d⟩ ⟨Ps[k].tv,Ps[k].pv,Ps[k].nv,Ps[k].vv,Ps[k].ntv,c,Ps[k].nbs⟩)(m:Tq lo (l0 k) w own w' own'):uL lo w' own' wd wv (Ws.set k ⟨Ws[k].p,d⟩) (Ps.set k ⟨Ps[k].tv,Ps[k].pv,Ps[k].nv,Ps[k].vv,Ps[k].ntv,c,Ps[k].nbs⟩):=by
 refine⟨?_,by simp[h.plen],λj a b=>?_,by simpa using h.K⟩;rw[Gw _ _ _ f i _ _ (by simp[jG]),fz];exact vR h.arr m (nz θ θ);simp only[fz] at a b;simp only[lT];by_cases e:k=j;subst e;rw[zb rfl,zb rfl];exact g;rw[za e,za e];exact(h.work j a b).mod m (nz θ θ) (nz θ θ) (s5 η) (nz θ θ) (λ_ _ _ _=>s5 η)
def Ek{f wd:Nat}{g:List (List zk)}:∀{b a:List yd},fc f wd g b=Z a->a.j=b.j/\∀i (c:i<b.j) (d:i<a.j),∃vs,f6 f wd g b[i].F=Z vs/\a[i]=⟨b[i].p,vs⟩
 |[],a,h=>by
  simp[fc] at h;subst h;exact⟨rfl,λi h=>by simp at h⟩
 |W::b,a,h=>by
  unfold fc at h;split at h
  .rename_i v j l e;simp at h;subst h;obtain⟨k,m⟩:=Ek e;refine⟨by simp[k],λi c d=>?_⟩;match i,c,d with
   |0,_,_=>exact⟨v,by simpa using l,rfl⟩
   |i+1,c,d=>
    simp only[pF];exact m i (by simpa using c) (by simpa using d)
  .cases h
def kD(R:zv):Prop:=∀l∈R.qw,l.j<=1048577
def kD.clear(R:zv):kD (qT R):=λl a=>by simp[qT] at a;simp[a.2]
def kD.add{mr:Nat}{R R':zv}{p:Nat}{row:zk}{b:Bool}(h:kD R)(d:jV mr R p row=Z (R',b)):kD R':=by
 obtain⟨_,_,_,_,e,c⟩:=iZ d;rcases c with⟨_,rfl,_⟩|⟨_,rfl,_⟩
 exact h;intro l a;rcases mn a with a|rfl;exact h l a;simp only[yK,xu,jr];omega
def kD.addAll{mr p:Nat}:∀(n:Nat) (R R':zv) (J:zE) (b:Bool),kD R->vM mr p n R J=Z (R',b)->kD R'
 |0,R,R',J,b,_,h=>by simp[vM] at h
 |n+1,R,R',J,b,e,h=>by
  unfold vM at h;cases f:ly n J with
  |none=>rw[f] at h;cases h
  |some j=>
   obtain⟨d,g⟩:=j;rw[f] at h;cases g with
   |false=>
    simp only[zt,ye] at h;rw[←h.1];exact e
   |true=>
    dsimp only at h;cases a:jV mr R p (zH d.g d.P) with
    |none=>rw[a] at h;cases h
    |some c=>
     obtain⟨i,k⟩:=c;rw[a] at h;cases k with
     |false=>
      simp only[zt,ye] at h;rw[←h.1];exact e.add a
     |true=>exact kD.addAll n i R' d b (e.add a) h
def Ac{f wd mr:Nat}{W:yd}:∀(n i:Nat) (R R':zv) (b:Bool),kl f wd mr W n i R=Z (R',b)->(kD R->kD R')/\R'.I.j=R.I.j
 |0,i,R,R',b,h=>by simp[kl] at h;rw[←h.1];exact⟨id,rfl⟩
 |n+1,i,R,R',b,h=>by
  unfold kl at h;split at h
  .split at h
   .cases h
   .rename_i d a;simp only[zt,ye] at h;rw[←h.1];exact⟨λc=>c.addAll _ _ _ _ _ a,tS _ _ _ _ _ a⟩
   .rename_i d a;obtain⟨e,g⟩:=Ac n (i+1) d R' b h;exact⟨λc=>e (c.addAll _ _ _ _ _ a),g.A (tS _ _ _ _ _ a)⟩
  .exact Ac n (i+1) R R' b h
def Hf{f mr:Nat}{first:Bool}{R R':zv}{W:yd}{b:Bool}(h:kV f wd mr first R W=Z (R',b)):(kD R->kD R')/\R'.I.j=R.I.j:=by
 unfold kV at h;split at h;exact⟨λa=>a.addAll _ _ _ _ _ h,tS _ _ _ _ _ h⟩;exact Ac _ _ _ _ _ h
def vo:TypeId->zo->Prop:=λt ρ=>(¬Ue t/\ρ≠(0,0,7))∨t∈[214,161,165,310,323,301]
def BZ{p:Nat}{t:TypeId}{ρ:zo}(h:kL p t ρ):vo t ρ:=by
 rcases h with (h|h|h|h)|h
 exact zh ⟨h.1,by rw[h.2];simp⟩;subst h;exact ze θ;subst h;exact ze θ;rw[h.1];exact ze θ;rcases zG.1 h with rfl|h;exact ze θ;rcases zG.1 h with rfl|h;exact ze θ;cases h
def D6{k:Nat}{t:TypeId}{ρ:zo}(h:l0 k t ρ):vo t ρ:=by
 rcases h with⟨a,i,j,rfl⟩|⟨rfl,_⟩
 exact zh ⟨a,ζ⟩;exact ze θ
def Gj{t:TypeId}{ρ:zo}(h:dT [214] t ρ):vo t ρ:=ze (by rw[xL.1 h];decide)
end
section
open Go.Proofs.Tryz Go.RowKit
variable {lo:Nat}
def gy(a:List Nat)(n:Nat)(b:List yd)(c:List xr):Prop:=∀k (_:k<b.j) (_:k<c.j),fj a n b[k].p c[k].nbs
def gy.set{c:Φ}{n k:Nat}{f:List yd}{d:List xr}(h:gy c n f d)(m:k<f.j)(o:k<d.j)(g:List yO)(i:xr)(l:i.nbs=d[k].nbs):gy c n (f.set k ⟨f[k].p,g⟩) (d.set k i):=by
 intro j a b;simp only[fz] at a b;simp only[lT];by_cases e:k=j;subst e;rw[zb rfl,zb rfl,l];exact h k a b;rw[za e,za e];exact h j a b
def Rr(lo:Nat)(w:U)(own:Nat->zo)(i:Nat)(h:O)(R R':zv)(f:List yd)(wd mr mx:Nat)(Q:uz)(b:Bool)(e:Ending)(w':U):Prop:=
 e=ε (.i b)/\∃a g d c,zZ lo w' a i R' wd mr mx ⟨Q.rv,Q.tbs,g,d⟩/\uL lo w' a wd h f c/\gy Q.tbs R.I.j f c/\R'.I.j=R.I.j/\Tq lo vo w own w' a
def J9(w:U)(own:Nat->zo)(B:Nat)(wv:O)(R R':zv)(d a:List yd)(Ps:List xr)(wd mr mx:Nat)(Q:uz)(g:Nat)(first b:Bool)(h:zZ lo w own B R wd mr mx Q)(hw:uL lo w own wd wv d Ps)(ap:gy Q.tbs R.I.j d Ps)(aa:lo<=w.o.q)(aP:R.Q<1048576)(V:rt g wd mr first d R=Z (R',a,b)):
  Calls prog 165 #[(π B),wv,.i first] w λe P=>Rr lo w own B wv R R' a wd mr mx Q b e P:=by
 obtain⟨G,b1,hA,N⟩:∃G b1,gx g wd mr first d (qT {R with Q:=R.Q+1})=Z (G,b1)/\(b1=false/\G=R'/\d=a/\false=b∨b1=true/\G=R'/\fc g wd G.qw d=Z a/\true=b):=by
  unfold rt at V;split at V;cases V;rename_i G hA;simp only[zt,ye] at V;exact⟨G,false,hA,zh ⟨rfl,V⟩⟩;rename_i G hA;rw[qq] at V;obtain⟨aQ,h1,h2⟩:=V;simp only[ye] at h2;obtain⟨h3,h4,h5⟩:=h2;subst h4;exact⟨G,true,hA,ze ⟨rfl,h3,h1,h5⟩⟩
 obtain⟨hl,hf,h0,h1,h2,h3,h4,h5,h6,h7⟩:=h.at;have a9:zd [B] w (w.x ⟨B,2,Y⟩ (ι ((R.Q:Int)+1))):=zd.set _ _ _ _;have a5:Tq lo (dT [214]) w own (w.x ⟨B,2,Y⟩ (ι ((R.Q:Int)+1))) own:=Tq.set own h.box h.low (xL.2 rfl) _ _;have y:=h.box.set 2 (ι ((R.Q:Int)+1));have a6:=h.rebox (R':={R with Q:=R.Q+1}) a9 (by simpa using y) rfl rfl ⟨h.K.2.2.1,by show R.Q+1<=1048576;omega⟩;have a4:=Th (Ux _ own B _ wd mr mx Q a6 (by simpa [U.setCell] using aa));have ay:=Th a5;have a1:=Th hw;have ah:=Th ap;have an:=Th aa;have HE:=Th N;have HA:X (gx g wd mr first (d.drop 0) (qT {R with Q:=R.Q+1})=Z (G,b1)):=hA;have aN:=hw.K;obtain⟨af,D,aI⟩:=zr hw.arr;subst aI;clear V h hw ap aa N hA a6 a5 a9 y h0 h1 h3 h4 h5 h6 h7;go_enter func165,ntmps165;go_upto_region 4 with (first|(go_at_call 120;refine a4.l.y ?_;rintro e w2 ⟨rfl,fv,aF,a7,hm⟩))
 have ae:=ay.l.A hm;have av:=Th (a1.l.types ae θ);have a0:=Th a7;have a8:X (Tq lo vo w own w2 own):=ae.more λ_ _ q=>Gj q;clear ae hm a7 a4 ay;go_loopw [22] (λaL wr=>∃m:Nat,m<=d.j/\aL=ι m/\∃v o I,X (zZ lo wr o B v wd mr mx ⟨Q.rv,Q.tbs,fv,I⟩)/\X (uL lo wr o wd (.k af d.j D) d Ps)/\X (Tq lo vo w own wr o)/\X (v.I.j=R.I.j)/\X (kD v)/\X (gx g wd mr first (d.drop m) v=Z (G,b1))) (λi _=>d.j-(intOf i).D);exact⟨0,zs _,rfl,_,own,aF,a0,av,a8,rfl,kD.clear _,HA⟩;clear HA a0 av a8;obtain⟨m,hm,rfl,v,o,I,s,k,t,aj,aB,ab⟩:=hrel;have W:=t.l.q;have x:=zY an.l W;by_cases l:m<d.j
 .have u:m<Ps.j:=by rw[a1.l.plen];exact l
  obtain⟨gw,a3,c,S,_,y,H⟩:=k.l.at m l u;simp only[O.slice.injEq] at S;have ai:=S.1;clear S;subst ai;have z:=ab.l;rw[xp l] at z;unfold gx at z;rcases ha:kV g wd mr first v d[m] with _|ar;rw[ha] at z;cases z;obtain⟨R3,b3⟩:=ar;rw[ha] at z;have ak:X (kD R3/\R3.I.j=R.I.j):=⟨(Hf ha).1 aB.l,(Hf ha).2.A aj.l⟩;have aC:=Th (LG wr o B gw (m*8) m c v R3 d[m] Ps[m] wd mr mx _ g first b3 s.l (k.l.work m l u) y H (by rw[aj.l];exact ah.l m l u) x ha);have ao:(m:Int)<(d.j:Int):=η;generalize d[m].p.g.o=p at *;clear ha y H;cases b3
  .simp only[zt,ye] at z;have HQ:=Th z;clear z;go_wp2_with (go_at_call 193;refine aC.l.y ?_;rintro e w4 ⟨rfl,f,J,n,K⟩)
   go_ret;have N:=HE.l;rw[←HQ.l.2,←HQ.l.1] at N;rcases N with⟨_,rfl,rfl,rfl⟩|⟨hx,_⟩
   exact⟨rfl,f,fv,J,Ps,n,k.l.all K,ah.l,ak.l.2,t.l.A (K.more λ_ _ q=>BZ q)⟩;cases hx
  have HQ:X (gx g wd mr first (d.drop (m+1)) R3=Z (G,b1)):=z;clear z;go_wp2_with (go_at_call 193;refine aC.l.y ?_;rintro e w4 ⟨rfl,f,J,n,K⟩)
  exact⟨⟨m+1,η,ξ,R3,f,J,n,k.l.all K,t.l.A (K.more λ_ _ q=>BZ q),ak.l.2,ak.l.1,HQ⟩,by simp[intOf];omega⟩
 obtain rfl:m=d.j:=η;have z:=ab.l;rw[List.drop_length] at z;simp only[gx,zt,ye] at z;have N:=HE.l;rw[←z.2,←z.1] at N;have L:X (v=R'/\fc g wd v.qw d=Z a/\true=b):=by
  rcases N with⟨hx,_⟩|⟨_,hx⟩
  cases hx;exact hx
 clear z N ab HE;go_upto_region 10 with fail
 obtain⟨aD,ax⟩:=Ek L.l.2.1;have E:=Th aD;have aM:=Th ax;clear aD ax l hm;obtain⟨F,r,am⟩:=zr s.l.qw;dsimp only at am;subst am;have aO:=Th x;clear W x;generalize aG:wr=w5 at *;clear aG;go_loopw [35] (λaH wr=>∃m:Nat,m<=d.j/\aH=ι m/\∃j C,X (zZ lo wr j B v wd mr mx ⟨Q.rv,Q.tbs,.k F v.qw.j r,I⟩)/\X (uL lo wr j wd (.k af d.j D) (vq a d m) C)/\X (gy Q.tbs R.I.j (vq a d m) C)/\X (Tq lo vo w own wr j)) (λi _=>d.j-(intOf i).D);exact⟨0,zs _,rfl,o,Ps,s,k,ah,t⟩;clear s k t;obtain⟨m,hm,rfl,j,C,s,k,ad,t⟩:=hrel;have x:=zY an.l t.l.q;by_cases l:m<d.j
 .have A:m<(vq a d m).j:=by rw[wZ E.l m hm];exact l
  have ac:m<a.j:=by rw[E.l];exact l
  have ag:=Dv E.l m l A;have aE:=FV E.l m l ac;have u:m<C.j:=by rw[k.l.plen];exact A
  obtain⟨gw,a3,c,S,_,y,H⟩:=k.l.at m A u;rw[wZ E.l m hm] at S;simp only[O.slice.injEq] at S;have ai:=S.1;clear S;subst ai;obtain⟨vs,a2,aw⟩:=aM.l m l ac;have ao:(m:Int)<(d.j:Int):=η;have aq:=s.l.at;obtain⟨hl,hf,h0,h1,aJ,h3,h4,h5,h6,h7⟩:=aq;have az:X (∀W0,μ wr W0->Calls prog 194 #[.u (Z ⟨gw,m*8,Y⟩),.k F v.qw.j r] W0 λe P=>e=ε (.B #[])/\P.p ⟨B,7,Y⟩=Z (.k F v.qw.j r)/\X (∃f M,zZ lo P f B v wd mr mx ⟨Q.rv,Q.tbs,.k F v.qw.j r,I⟩/\uL lo P f wd (.k (Z ⟨gw,0,Y⟩) d.j D) (vq a d (m+1)) M/\gy Q.tbs R.I.j (vq a d (m+1)) M/\Tq lo vo w own P f)):=λW0 hb=>by
   have au:=k.l.u hb;have q:=KL W0 j B gw (m*8) m c v (vq a d m)[m] vs C[m] wd mr mx _ g (s.l.u hb) (au.work m A u) (y.u hb) H (zY x hb.q) aB.l (by rw[ag];exact a2);refine q.y ?_;rintro e P ⟨rfl,f,aA,aK,al⟩;have n:=(s.l.u hb).work al;have r1:=au.renewed A u aK al;have r2:=ad.l.set A u vs ⟨C[m].tv,C[m].pv,C[m].nv,C[m].vv,C[m].ntv,aA,C[m].nbs⟩ rfl;have e2:(⟨(vq a d m)[m].p,vs⟩:yd)=a[m]:=by rw[ag,aw]
   rw[e2,aE] at r1 r2;exact⟨rfl,n.at.2.2.2.2.2.2.2.2.2,f,_,n,r1,r2,(t.l.A (Tq.of j hb)).A (al.more λ_ _ q=>D6 q)⟩
  clear y H a2 aw ag aE A ac u h0 h1 aJ h3 h4 h5 h6;have x7:wr.p ⟨B,7,Y⟩=Z (.k F v.qw.j r):=h7;clear h7;go_upto_region 12 with fail
  go_region_held3 (λP=>P.p ⟨B,7,Y⟩=Z (.k F v.qw.j r)) (first|go_keep|(go_simp;done)) (first|(go_at_call 194;refine(az.l _ (by exact(zI (zn _ _) 1))).y ?_;rintro e w2 ⟨rfl,y1,HX⟩))
  clear x7 y1 az;go_wp2;obtain⟨f,M,z1,z2,z3,z4⟩:=HX.l;exact⟨⟨m+1,η,ξ,f,M,z1,z2,z3,z4⟩,by simp[intOf];omega⟩
 obtain rfl:m=d.j:=η;have T:vq a d d.j=a:=by simp[vq,←E.l]
 have HF:X (uL lo wr j wd (.k af d.j D) a C/\gy Q.tbs R.I.j a C):=by rw[←T];exact⟨k.l,ad.l⟩
 clear T k ad;go_wp2;go_ret;exact⟨by rw[←L.l.2.2];rfl,j,_,I,C,by rw[←L.l.1];exact s.l,HF.l.1,HF.l.2,by rw[←L.l.1];exact aj.l,t.l⟩
end
section
open Go.RowKit
variable {lo:Nat}{k wd t5 t3:Nat}{w w' w0:U}{own' own0:Nat->zo}{r:zu}{P:xr}{vs:List yO}
def lR(k:Nat):TypeId->zo->Prop:=λt ρ=>l0 k t ρ∨(t=301/\ρ=(0,0,5))
def Pl{i:Nat}{t:TypeId}{ρ:zo}(h:lE k i (0,0,5) t ρ):lR k t ρ:=by
 rcases h with⟨a,j,b⟩|h
 exact zh (zh ⟨a,i,j,b⟩);exact ze h
def pA{t:TypeId}(h:Ue t)(a:t≠301):∀ρ,¬lR k t ρ:=λρ q=>by
 rcases q with q|q
 .exact nz h a ρ q
 .exact a q.1
def AV{t:TypeId}{a b c:Nat}(h:a≠k+1)(d:c≠5):¬lR k t (a,b,c):=λq=>by
 rcases q with q|⟨_,q⟩
 .exact s5 h q
 .simp at q;omega
def QF{t:TypeId}{ρ:zo}(h:lR k t ρ):vo t ρ:=by
 rcases h with h|⟨rfl,_⟩;exact D6 h;exact ze θ
def zZ.make{own:Nat->zo}{a:Nat}{R:zv}{mr mx:Nat}{Q:uz}(h:zZ lo w own a R wd mr mx Q)(m:Tq lo (lR k) w own w' own'):zZ lo w' own' a R wd mr mx Q:=
 h.mod m (pA θ θ) (pA θ θ) (pA θ θ) (λ_=>AV η η) (λ_ _ _=>AV η η)
def Tq.newer{ok:TypeId->zo->Prop}{w wr w':U}{own a:Nat->zo}{M:Φ}(h:Tq lo ok w own wr a)(hs:zd M wr w')(g:∀b∈M,w.o.q<=b):Tq lo ok w own w' a:=by
 obtain⟨c,N,f,e⟩:=h;exact⟨c,N,f.newer hs λx d=>ze (g x d),e⟩
def Tq.qw{ok:TypeId->zo->Prop}{own:Nat->zo}(a:μ w w')(c:∀b,b<w.o.q->own' b=own b):Tq lo ok w own w' own':=⟨c,[],zd.of a,ζ⟩
structure jE (lo:Nat) (w0 w:U) (own0 own:Nat->zo) (k wd t5 t3:Nat) (r:zu) (P:xr) (vs:List yO):Prop where
 low:w0.o.q<=t5
 low0:lo<=w0.o.q
 box:Ti w t5 (jG r P).F 292
 rbox:Ti w t3 #[ι r.L,ι r.m,ι r.g.o,P.tv,P.pv,P.nv] 207
 p:vE lo w P.tv P.pv P.nv r
 F:w.r lo 301 6 P.vv vs.j (qs wd vs P.vps)
 vlen:P.vps.j=vs.j
 view:∀i (_:i<vs.j) (_:i<P.vps.j),vY lo w own k i vs[i] P.vps[i]
 vrole:∀b,P.vv.m=Z b->own b=(k+1,0,9)
 qx:w.r lo 162 1 P.ntv P.nbs.j (T2 P.nbs)
 mod:Tq lo (lR k) w0 own0 w own
def jE.step{own:Nat->zo}(h:jE lo w0 w own0 own k wd t5 t3 r P vs)(m:Tq lo (lE k vs.j (0,0,5)) w own w' own'):jE lo w0 w' own0 own' k wd t5 t3 r P vs:=by
 refine⟨h.low,h.low0,h.box.mod m (dY θ θ _),h.rbox.mod m (dY θ θ _),h.p.mod m (dY θ θ) (dY θ θ),tC h.F m (λb c q=>?_),h.vlen,λi a b=>(h.view i a b).mod m (λj t e q=>?_) (dY θ θ),λb c=>(m.old b (yF h.F c)).A (h.vrole b c),vR h.qx m (dY θ θ),h.mod.A (m.more λ_ _ q=>Pl q)⟩;rw[h.vrole b c] at q;rcases q with q|q;exact q.1 θ;simp at q;rcases q with⟨_,f,q⟩|⟨d,_⟩
 simp at q;omega;subst d;exact e θ
def jE.u{own:Nat->zo}(h:jE lo w0 w own0 own k wd t5 t3 r P vs)(a:μ w w'):jE lo w0 w' own0 own k wd t5 t3 r P vs:=h.step (Tq.of own a)
def N6(wd:Nat):∀(vs:List yO) (ps:List jX),ps.j=vs.j->∀(V:yO) (p:jX),qs wd (vs++[V]) (ps++[p])=qs wd vs ps++gS wd V p:=λvs ps h V p=>by
 simp[qs,List.zipWith_append (h.z)]
def jE.pushV{own:Nat->zo}{V:yO}{p:jX}{v':O}(h:jE lo w0 w own0 own k wd t5 t3 r P vs)(A:vY lo w own k vs.j V p)(B:w'.r lo 301 6 v' (vs.j+1) (qs wd vs P.vps++gS wd V p))(hs:zd P.vv.m.toList w w')(y:v'.m=P.vv.m∨∃g,v'.m=Z g/\w.o.q<=g):
  jE lo w0 (w'.x (ω t5 6) v') own0 (ext own w.o.q (k+1,0,9)) k wd t5 t3 r ⟨P.tv,P.pv,P.nv,v',P.ntv,P.vps++[p],P.nbs⟩ (vs++[V]):=by
 have f:Tq lo (λt ρ=>t=301/\ρ=(k+1,0,9)) w own w' (ext own w.o.q (k+1,0,9)):=⟨λb e=>fC _ _ _ b e,_,hs,λb e=>by
  have l:P.vv.m=Z b:=by simpa using e
  obtain⟨c,C⟩:=jM h.F l;exact⟨yW h.F l,yF h.F l,c,_,C,rfl,h.vrole b l⟩⟩
 have o:∀t,t≠301->∀ρ,¬(t=301/\ρ=(k+1,0,9)):=λt x ρ q=>x q.1;have m:=h.box.mod f (o _ θ _);have n:=h.rbox.mod f (o _ θ _);have d:zd [t5] w' (w'.x (ω t5 6) v'):=zd.set _ _ _ _;have u:=T3.box m;have s:=λi V p (q:vY lo w own k i V p)=>(q.mod f (λj t x q=>by obtain⟨rfl,_⟩:=q;exact x θ) (o _ θ)).saveT d u θ θ;refine⟨h.low,h.low0,?_,n.saveT d u θ,(h.p.mod f (o _ θ) (o _ θ)).saveT d u θ θ,?_,by simp[h.vlen],λi a b=>?_,λb e=>?_,yL (vR h.qx f (o _ θ)) d u θ,(h.mod.A (f.more λ_ _ q=>zh (ze q))).newer d λb e=>by simp at e;rw[e];exact h.low⟩;have q:=m.set 6 v';simpa [jG] using q;rw[N6 wd vs P.vps h.vlen,yK];exact yL B d u θ;simp only[yK,xu,jr] at a b;by_cases z:i<vs.j;have v:i<P.vps.j:=by rw[h.vlen];exact z
 rw[uG z,uG v];exact s i _ _ (h.view i z v);obtain rfl:i=vs.j:=η;have D:(vs++[V])[vs.j]=V:=ζ;have G:(P.vps++[p])[vs.j]=p:=by simp[←h.vlen]
 rw[D,G];exact s _ _ _ A;rcases y with y|⟨g,E,F⟩;rw[y] at e;rw[fC _ _ _ b (yF h.F e)];exact h.vrole b e;rw[E] at e;simp at e;subst e;simp[ext,Nat.not_lt.2 F]
def jE.pushN{own:Nat->zo}{tb:Nat}{v':O}(h:jE lo w0 w own0 own k wd t5 t3 r P vs)(g:∀b,P.ntv.m=Z b->w0.o.q<=b)(m:w'.r lo 162 1 v' (P.nbs.j+1) (T2 P.nbs++[(π tb)]))(hs:zd P.ntv.m.toList w w'):
  jE lo w0 (w'.x (ω t5 7) v') own0 own k wd t5 t3 r ⟨P.tv,P.pv,P.nv,P.vv,v',P.vps,P.nbs++[tb]⟩ vs:=by
 have d:=T3.own h.qx;have f:=h.box.saveT hs d θ;have c:zd [t5] w' (w'.x (ω t5 7) v'):=zd.set _ _ _ _;have j:=T3.box f;refine⟨h.low,h.low0,?_,(h.rbox.saveT hs d θ).saveT c j θ,(h.p.saveT hs d θ θ).saveT c j θ θ,yL (yL h.F hs d θ) c j θ,h.vlen,λi a b=>((h.view i a b).saveT hs d θ θ).saveT c j θ θ,h.vrole,?_,(h.mod.newer hs λb l=>g b (by simpa using l)).newer c λb l=>by simp at l;rw[l];exact h.low⟩;have q:=f.set 7 v';simpa [jG] using q;have e:T2 (P.nbs++[tb])=T2 P.nbs++[(π tb)]:=by simp[T2,pt]
 rw[e,yK];exact yL m c j θ
def F2{f wd:Nat}{R:zv}:∀{c:List zw} {vs:List yO},fA f wd R c=Z vs->vs.j=c.j/\∀i (d:i<c.j) (e:i<vs.j),∃a,rowsG f (lP wd R c[i].o)=Z a/\fQ f wd (gF wd c[i]) a=Z vs[i]
 |[],vs,h=>by
  simp[fA] at h;subst h;exact⟨rfl,λi h=>by simp at h⟩
 |l::c,vs,h=>by
  unfold fA at h;split at h
  .cases h
  .rename_i a b;split at h
   .rename_i v m n g;simp at h;subst h;obtain⟨j,o⟩:=F2 g;refine⟨by simp[j],λi d e=>?_⟩;match i,d,e with
    |0,_,_=>exact⟨a,b,n⟩
    |i+1,d,e=>
     simp only[pF];exact o i (by simpa using d) (by simpa using e)
   .cases h
end
section
open Go.Proofs.Tryz Go.RowKit
variable {lo:Nat}{ownk own1:Nat->zo}{wd:Nat}
def ML(lo:Nat)(w:U)(own:Nat->zo)(k wd:Nat)(r:zu)(vs:List yO)(b:List Nat)(n:Nat)(e:Ending)(w':U):Prop:=∃P a,e=ε (.agg (jG r P).F)/\uw lo w' a k wd ⟨r,vs⟩ P/\fj b n r P.nbs/\Tq lo (lR k) w own w' a
def z8:List Value:=[ι 0,ι 0,ι 0,ν,ν,ν,ν,ν]
def SC:(prog.info? 301).w (λi=>(i.zero,i.q,i.bytes))=Z (Z (.agg #[ι 0,ν,ι 0,.u Y,.u Y,.u Y]),6,64):=χ
def Vw(c wd:Nat)(tv:O)(d a b:Nat):Array Value:=#[ι c,tv,ι wd,(π d),(π a),(π b)]
structure Vf (lo:Nat) (wr W3:U) (ownk own2:Nat->zo) (k m wd g8:Nat) (l:zw) (tv:O) (bb fb ab:Nat):Prop where
 view:vY lo W3 own2 k m (gF wd l) ⟨tv,bb,fb,ab⟩
 role:own2 g8=(0,0,5)
 old:∀b,b<wr.o.q->own2 b=ownk b
 box:Ti W3 g8 (Vw l.o wd tv bb fb ab) 301
 lbox:Ti W3 wr.o.q #[ι l.o,tv] 204
 u:μ wr W3
 ge:wr.o.q<=g8
def Vf.one{wr d a:U}{k m:Nat}{l:zw}{tv:O}{f g h:Nat}(e:μ wr d)(i:Ti d wr.o.q #[ι l.o,tv] 204)(c:μ d a)(n:vY lo a own1 k m (gF wd l) ⟨tv,f,g,h⟩)(o:∀b,b<d.o.q->own1 b=ext ownk wr.o.q (0,0,5) b):Vf lo wr (a.C (.E (Vw l.o wd tv f g h) 301)) ownk (ext own1 a.o.q (0,0,5)) k m wd a.o.q l tv f g h:=by
 have j:μ a (a.C (.E (Vw l.o wd tv f g h) 301)):=(zn _ _).C (zf _) _;have r:=e.q;have q:=c.q;refine⟨n.mod (Tq.extNew (ok:=λ_ _=>False) own1 (0,0,5) j) (λ_ _ _=>id) (λ_=>id),by simp[ext],λb p=>?_,Ti.new _ _ _,(i.u c).u j,Tl (Tl e c) j,η⟩;rw[fC _ _ _ b η,o b η,fC _ _ _ b p]
def Vf.two{wr a f:U}{k m:Nat}{l:zw}{tv:O}{i d h:Nat}{z:Array O}(g:μ wr a)(p:Ti a wr.o.q #[ι l.o,tv] 204)(j:Below (a.C (.E z 301)).o.q (a.C (.E z 301)) f)(s:Ti f a.o.q #[ι 0,ν,ι 0,.u Y,.u Y,.u Y] 301)(v:vY lo f own1 k m (gF wd l) ⟨tv,i,d,h⟩)(r:∀b,b<(a.C (.E z 301)).o.q->own1 b=ext ownk wr.o.q (0,0,5) b):Vf lo wr ((((((f.x (δ a.o.q) (ι l.o)).x (ω a.o.q 1) tv).x (ω a.o.q 2) (ι wd)).x (ω a.o.q 3) ((π i))).x (ω a.o.q 4) ((π d))).x (ω a.o.q 5) ((π h))) ownk own1 k m wd a.o.q l tv i d h:=by
 have q:=g.q;have u:μ a (a.C (.E z 301)):=(zn _ _).C (zf _) _;have o:=zd.sets a.o.q [ι l.o,tv,ι wd,(π i),(π d),(π h)] 0 f;have n:=(((((s.set 0 (ι l.o)).set 1 tv).set 2 (ι wd)).set 3 ((π i))).set 4 ((π d))).set 5 ((π h));have t:=T3.box s;have e:=Tl (Tl g u) j;have c:=(p.u u).u j;have A:(a.C (.E z 301)).o.q=a.o.q+1:=ζ;refine⟨v.saveT o t θ θ,?_,λb w=>?_,by simpa [Vw] using n,c.saveT o t θ,?_,q⟩;rw[r _ η];simp[ext,Nat.not_lt.2 q];rw[r b η,fC _ _ _ b w];exact e.A (o.u (λx y=>by simp at y;omega) (by have:=e.q;omega))
def jE.done{f w w':U}{c own:Nat->zo}{k n m e:Nat}{l:Array O}{r:zu}{P:xr}{vs:List yO}(h:jE lo f w c own k wd n m r P vs)(g:Ti w e l 292)(p:f.o.q<=e)(hs:zd [e] w w')(j:P.nbs.j=r.qx.j)(o:vs.j<=1000):uw lo w' own k wd ⟨r,vs⟩ P/\Tq lo (lR k) f c w' own:=by
 have d:=T3.box g;have q:=yL h.qx hs d θ;rw[j] at q;exact⟨⟨h.p.saveT hs d θ θ,yL h.F hs d θ,h.vlen,λi a b=>(h.view i a b).saveT hs d θ θ,h.vrole,q,j,o⟩,h.mod.newer hs λb g=>by simp at g;omega⟩
def Qz{f:Nat}{T:zl}{a:List zk}(h:rowsG f T=Z a):a.j<=1048577:=by
 unfold rowsG at h;split at h;cases h;split at h;simp at h;subst h;omega;cases h
def N1(w:U)(own:Nat->zo)(rb k:Nat)(R:zv)(r:zu)(tv pv nv:O)(vs:List yO)(wd mr mx:Nat)(Q:uz)(a1:Nat)(h:zZ lo w own rb R wd mr mx Q)(hr:vE lo w tv pv nv r)(aR:lo<=w.o.q)(bv:∀l∈r.qc,l.o<R.I.j)(bp:∀l∈r.qx,l.o<R.I.j/\l.o≠r.g.o)(hv:fA a1 wd R r.qc=Z vs):
  Calls prog 192 #[(π rb),gH r tv pv nv] w λe J=>ML lo w own k wd r vs Q.tbs R.I.j e J:=by
 obtain⟨i0,hi,b2,bQ,bV⟩:=info_parts SC;obtain⟨i1,bO,aV,bk,bh⟩:=info_parts SU;obtain⟨aZ,aY⟩:=F2 hv;have aN:=Th aZ;have bH:=Th aY;have HH:=Th h;have bD:=Th hr;have aF:=Th aR;have b9:=Th bv;have bN:=Th bp;obtain⟨o,f,b5⟩:=hr.g.qy;obtain⟨u,d,bR⟩:=hr.qc.qy;obtain⟨s,j,bF⟩:=hr.qx.qy;have bY:r.qc.j<=1000:=by obtain⟨_,_,_,q,_⟩:=hr.qc;exact q
 have cn:r.qx.j<=1000:=by obtain⟨_,_,_,q,_⟩:=hr.qx;exact q
 subst b5 bR bF;clear h hr aR bv bp hv aZ aY;simp only[gH];go_enter func192,ntmps192;go_upto_region 3 with fail
 have P:μ w (((w.C (.E #[ι r.L,ι r.m,ι r.g.o,.k o r.g.v.j f,.k u r.qc.j d,.k s r.qx.j j] 207)).C (.E #[ι 0,ι 0,ι 0,ν,ν,ν,ν,ν] 292)).C (.E #[ι r.L,ι r.m,ι r.g.o,.k o r.g.v.j f,.k u r.qc.j d,.k s r.qx.j j,ν,ν] 292)):=γ;have ap:=((Ti.new w #[ι r.L,ι r.m,ι r.g.o,.k o r.g.v.j f,.k u r.qc.j d,.k s r.qx.j j] 207).up (.E #[ι 0,ι 0,ι 0,ν,ν,ν,ν,ν] 292)).up (.E #[ι r.L,ι r.m,ι r.g.o,.k o r.g.v.j f,.k u r.qc.j d,.k s r.qx.j j,ν,ν] 292);have a3:=((Ti.new (w.C (.E #[ι r.L,ι r.m,ι r.g.o,.k o r.g.v.j f,.k u r.qc.j d,.k s r.qx.j j] 207)) z8.F 292).up (.E #[ι r.L,ι r.m,ι r.g.o,.k o r.g.v.j f,.k u r.qc.j d,.k s r.qx.j j,ν,ν] 292)).at' (b':=w.o.q+1) ζ;have bn:=(Ti.new ((w.C (.E #[ι r.L,ι r.m,ι r.g.o,.k o r.g.v.j f,.k u r.qc.j d,.k s r.qx.j j] 207)).C (.E z8.F 292)) #[ι r.L,ι r.m,ι r.g.o,.k o r.g.v.j f,.k u r.qc.j d,.k s r.qx.j j,ν,ν] 292).at' (b':=w.o.q+1+1) ζ;have x:jE lo w (((w.C (.E #[ι r.L,ι r.m,ι r.g.o,.k o r.g.v.j f,.k u r.qc.j d,.k s r.qx.j j] 207)).C (.E #[ι 0,ι 0,ι 0,ν,ν,ν,ν,ν] 292)).C (.E #[ι r.L,ι r.m,ι r.g.o,.k o r.g.v.j f,.k u r.qc.j d,.k s r.qx.j j,ν,ν] 292)) own own k wd (w.o.q+1+1) w.o.q r ⟨.k o r.g.v.j f,.k u r.qc.j d,.k s r.qx.j j,ν,ν,[],[]⟩ []:=⟨η,aF.l,bn,ap,bD.l.u P,xo _ _ _ _,rfl,(λi a=>by simp at a),(λb I=>by cases I),xo _ _ _ _,Tq.of own P⟩;have N:X (Ti (((w.C (.E #[ι r.L,ι r.m,ι r.g.o,.k o r.g.v.j f,.k u r.qc.j d,.k s r.qx.j j] 207)).C (.E #[ι 0,ι 0,ι 0,ν,ν,ν,ν,ν] 292)).C (.E #[ι r.L,ι r.m,ι r.g.o,.k o r.g.v.j f,.k u r.qc.j d,.k s r.qx.j j,ν,ν] 292)) (w.o.q+1) z8.F 292):=a3;have a9:=Th x;clear x ap a3 bn P;generalize b7:((w.C (.E #[ι r.L,ι r.m,ι r.g.o,.k o r.g.v.j f,.k u r.qc.j d,.k s r.qx.j j] 207)).C (.E #[ι 0,ι 0,ι 0,ν,ν,ν,ν,ν] 292)).C (.E #[ι r.L,ι r.m,ι r.g.o,.k o r.g.v.j f,.k u r.qc.j d,.k s r.qx.j j,ν,ν] 292)=w1 at *;clear b7;generalize h5:w.o.q+1+1=t5 at *;generalize h4:w.o.q+1=t4 at *;have aM:t4≠t5:=η;have ci:w.o.q<t4:=η;clear h5 h4;go_loopw [18] (λbL wr=>∃m:Nat,m<=r.qc.j/\bL=ι m/\∃ownk vv ar,X (jE lo w wr own ownk k wd t5 w.o.q r ⟨.k o r.g.v.j f,.k u r.qc.j d,.k s r.qx.j j,vv,ν,ar,[]⟩ (vs.G m))/\X (Ti wr t4 z8.F 292)) (λi _=>r.qc.j-(intOf i).D);exact⟨0,zs _,rfl,own,_,[],a9,N⟩;clear a9 N;obtain⟨m,hm,rfl,ownk,vv,ar,x,N⟩:=hrel;have ao:=x.l.mod.q;have am:=zY aF.l ao;by_cases aj:m<r.qc.j
 .obtain⟨g,n,c,aD,hg,q0,q1,bd⟩:=x.l.p.qc.cell m aj;subst aD;have aX:m<vs.j:=by rw[aN.l];exact aj
  obtain⟨T,ak,av⟩:=bH.l m aj aX;have aa:=Th (HH.l.make x.l.mod);have af:r.qc[m].o<R.I.j:=b9.l _ (zq _);have a0:r.qc[m].o<Q.tbs.j:=by rw[aa.l.tlen];exact af
  have bi:X (∀F,μ wr F->Calls prog 204 #[.agg #[ι (r.qc[m].o:Nat),.k n r.qc[m].v.j c],ι wd] F λe J=>∃K fb L own1,e=ε (.agg #[ι (r.qc[m].o:Nat),.k n r.qc[m].v.j c,ι wd,(π K),(π fb),(π L)])/\X (vY lo J own1 k m (gF wd r.qc[m]) ⟨.k n r.qc[m].v.j c,K,fb,L⟩/\∀b,b<F.o.q->own1 b=ext ownk wr.o.q (0,0,5) b)/\μ F J):=λF I=>by
   refine(Nv F (ext ownk wr.o.q (0,0,5)) k m r.qc[m] (.k n r.qc[m].v.j c) wd (bd.u I) (zY am I.q) aa.l.small.1).y ?_;rintro e J ⟨⟨cm,K,fb,L⟩,own1,rfl,rfl,bC,bg,S⟩;exact⟨K,fb,L,own1,rfl,⟨bC,bg⟩,S⟩
  obtain⟨hl,hf,d0,d1,d2,d3,d4,d5,d6,d7⟩:=aa.l.at;have be:(m:Int)<(r.qc.j:Int):=η;clear d0 d1 d2 d3 d5 d6 d7;go_upto_region 5 with fail
  have P:μ wr (wr.C (.E #[ι (r.qc[m].o:Nat),.k n r.qc[m].v.j c] 204)):=γ;have aq:=Ti.new wr #[ι (r.qc[m].o:Nat),.k n r.qc[m].v.j c] 204;have bw:wr.o.q<(wr.C (.E #[ι (r.qc[m].o:Nat),.k n r.qc[m].v.j c] 204)).o.q:=ζ;generalize bM:wr.C (.E #[ι (r.qc[m].o:Nat),.k n r.qc[m].v.j c] 204)=W1 at *;clear bM;have x4:=zi P hl d4;have x0:W1.p ⟨wr.o.q,0,Y⟩=Z (ι (r.qc[m].o:Nat)):=by rw[aq.H.1];rfl
  have x1:W1.p ⟨wr.o.q,1,Y⟩=Z (.k n r.qc[m].v.j c):=by rw[aq.H.1];rfl
  have ay:X (∀F,μ W1 F->Calls prog 204 #[.agg #[ι (r.qc[m].o:Nat),.k n r.qc[m].v.j c],ι wd] F λe J=>∃K fb L own1,e=ε (.agg #[ι (r.qc[m].o:Nat),.k n r.qc[m].v.j c,ι wd,(π K),(π fb),(π L)])/\X (vY lo J own1 k m (gF wd r.qc[m]) ⟨.k n r.qc[m].v.j c,K,fb,L⟩/\∀b,b<F.o.q->own1 b=ext ownk wr.o.q (0,0,5) b)/\μ F J/\J.p ⟨rb,4,Y⟩=Z (ι wd)/\J.p ⟨wr.o.q,0,Y⟩=Z (ι (r.qc[m].o:Nat))/\J.p ⟨wr.o.q,1,Y⟩=Z (.k n r.qc[m].v.j c)):=λF I=>by
   refine(bi.l F (Tl P I)).y ?_;rintro e J ⟨K,fb,L,own1,rfl,HX,S⟩;have ap:=Tl I S;exact⟨K,fb,L,own1,rfl,HX,S,(ap.cell (by show rb<_;omega)).A x4,(ap.cell (by show wr.o.q<_;omega)).A x0,(ap.cell (by show wr.o.q<_;omega)).A x1⟩
  clear bi;clear q0 q1 d4;go_region_held3 (λJ=>J.p ⟨rb,4,Y⟩=Z (ι wd)/\J.p ⟨wr.o.q,0,Y⟩=Z (ι (r.qc[m].o:Nat))/\J.p ⟨wr.o.q,1,Y⟩=Z (.k n r.qc[m].v.j c)) (first|go_keep|(go_simp;done)) (first|(go_at_call 204;refine(ay.l _ γ).y ?_;rintro e w2 ⟨K,fb,L,own1,rfl,HX,S,y4,y0,y1⟩;(try (with_reducible refine Ti.carry (Ti.drew (Ti.new W1 #[ι 0,ν,ι 0,.u Y,.u Y,.u Y] 301)) S ?_;intro aJ;obtain⟨bo,bq,aS⟩:=aJ.e))))
  obtain⟨M,HP⟩:∃M,X (Vf lo wr (w2.C (.E #[ι (r.qc[m].o:Nat),.k n r.qc[m].v.j c,ι wd,(π K),(π fb),(π L)] 301)) ownk M k m wd w2.o.q r.qc[m] (.k n r.qc[m].v.j c) K fb L):=⟨_,Vf.one P aq (Tl (zI (zn _ _) 1) S) HX.l.1 HX.l.2⟩;clear HX S y4 y0 y1 x4 x0 x1 P aq bw ay;generalize w2.C (.E #[ι (r.qc[m].o:Nat),.k n r.qc[m].v.j c,ι wd,(π K),(π fb),(π L)] 301)=W3 at *;generalize w2.o.q=g8 at *;rotate_left
  obtain⟨M,HP⟩:∃M,X (Vf lo wr ((((((w2.x ⟨W1.o.q,0,Y⟩ (ι (r.qc[m].o:Nat))).x ⟨W1.o.q,1,Y⟩ (.k n r.qc[m].v.j c)).x ⟨W1.o.q,2,Y⟩ (ι wd)).x ⟨W1.o.q,3,Y⟩ ((π K))).x ⟨W1.o.q,4,Y⟩ ((π fb))).x ⟨W1.o.q,5,Y⟩ ((π L))) ownk M k m wd W1.o.q r.qc[m] (.k n r.qc[m].v.j c) K fb L):=⟨_,Vf.two (z:=#[ι 0,ν,ι 0,.u Y,.u Y,.u Y]) P aq (Tl (zI (zn _ _) 1) S) aJ HX.l.1 HX.l.2⟩;clear HX S y4 y0 y1 x4 x0 x1 P aq bw ay aJ bo bq aS;generalize ((((((w2.x ⟨W1.o.q,0,Y⟩ (ι (r.qc[m].o:Nat))).x ⟨W1.o.q,1,Y⟩ (.k n r.qc[m].v.j c)).x ⟨W1.o.q,2,Y⟩ (ι wd)).x ⟨W1.o.q,3,Y⟩ ((π K))).x ⟨W1.o.q,4,Y⟩ ((π fb))).x ⟨W1.o.q,5,Y⟩ ((π L)))=W3 at *;generalize W1.o.q=g8 at *
  all_goals
   have hP:=HP.l;have aG:=Th λF I=>FC F ownk rb R wd mr mx Q _ (aa.l.u I) af a0;have bJ:X (∀F,μ wr F->Calls prog 78 #[.u (Z ⟨Q.tbs[r.qc[m].o],0,Y⟩)] F λe J=>∃au ah,e=ε (.k au T.j ah)/\X (Tx F.o.q J (.k au T.j ah) T)/\μ F J):=λF I=>by
    have q:=Fq F ownk (0,r.qc[m].o,0) Q.tbs[r.qc[m].o] R.I[r.qc[m].o] a1 T ((aa.l.u I).tries _ af a0) (by rw[←ak,lP,za η];simp[List.getD,af]);refine q.y ?_;rintro e J ⟨v,rfl,a5,aH⟩;obtain⟨au,ah,rfl⟩:=zr a5.1;exact⟨au,ah,rfl,a5,aH⟩
   have bB:X (∀W4 b0 rv,μ W3 W4->Tx b0 W4 rv T->Calls prog 206 #[(π g8),rv] W4 λe J=>e=ε (.B #[])/\∃ad C,X (vY lo J C k m vs[m] ⟨.k n r.qc[m].v.j c,K,ad,L⟩/\Tq lo (lE k m (0,0,5)) wr ownk J C)/\Ti J g8 #[ι (r.qc[m].o:Nat),.k n r.qc[m].v.j c,ι wd,(π K),(π ad),(π L)] 301):=λW4 b0 rv I a5=>by
    have z1:=HP.l.u.q;have q:=ER W4 M k m g8 0 wd a1 (Vw r.qc[m].o wd (.k n r.qc[m].v.j c) K fb L) (gF wd r.qc[m]) vs[m] ⟨.k n r.qc[m].v.j c,K,fb,L⟩ rv T (HP.l.box.u I) ⟨rfl,rfl,rfl,rfl,rfl,rfl⟩ (HP.l.view.u I) a5 (by have:=HP.l.ge;omega) (by have:=I.q;omega) aa.l.small.1 (Qz ak) av;refine q.y ?_;rintro e J ⟨rfl,ad,C,bT,aH,bt⟩;rw[HP.l.role] at bt;exact⟨rfl,ad,C,⟨bT,((Tq.qw HP.l.u HP.l.old).A (Tq.of M I)).A bt⟩,by simpa [Vw] using aH⟩
   have an:(vs.G m).j=m:=by simp;omega
   have bW:X (∀w5 C,Tq lo (lE k m (0,0,5)) wr ownk w5 C->jE lo w w5 own C k wd t5 w.o.q r ⟨.k o r.g.v.j f,.k (Z ⟨g,0,Y⟩) r.qc.j d,.k s r.qx.j j,vv,ν,ar,[]⟩ (vs.G m)/\Ti w5 t4 z8.F 292):=λw5 C bz=>⟨x.l.step (by rw[an];exact bz),N.l.mod bz (dY θ θ _)⟩;have a4:=Th an;obtain⟨y,t,W⟩:=zr x.l.F;dsimp only at W;rw[an] at W;subst W;have bu:=hP.u;have bx:=hP.lbox;obtain⟨cd,cb,cc⟩:=bx.e;have aW:=Th bu;have b4:X (vs[m].lit.o=r.qc[m].o):=show vs[m].lit.o=r.qc[m].o by rw[EI av];rfl
   have bP:=Th (yN aX);clear hP bu bx an av ak;generalize b6:vs[m]=V' at *;clear b6;generalize Q.tbs[r.qc[m].o]=tb at *;generalize r.qc[m].o=vp at *;generalize r.qc[m].v.j=vt at *;go_wp2_with (first|(go_at_call 205;refine(aG.l _ aW.l).y ?_;rintro e w4 ⟨rfl,aL⟩;obtain rfl:=aL.z)|(go_at_call 78;refine(bJ.l _ aW.l).y ?_;rintro e w4 ⟨au,ah,rfl,b3,a3⟩)|(go_at_call 206;refine(bB.l _ _ _ a3 b3.l).y ?_;rintro e w5 ⟨rfl,ad,C,bf,br⟩;obtain⟨E,a7⟩:=bW.l _ _ bf.l.2;have G:Ti w5 t5 #[ι r.L,ι r.m,ι r.g.o,.k o r.g.v.j f,.k (Z ⟨g,0,Y⟩) r.qc.j d,.k s r.qx.j j,.k y m t,ν] 292:=E.box;obtain⟨aO,aE,aQ⟩:=G.e;obtain⟨ch,cf,cl⟩:=br.e;have ae:=E.F;have D:=Th E;have aw:=Th a7;clear E a7 G br)|(at_builtin;refine kd w5 _ [ι vp,.k n vt c,ι wd,(π K),(π ad),(π L)] _ rfl (.tmp 36) (.tmp 38) 290 rfl lo 301 i0 _ 6 64 underlying290 hi b2 bQ bV rfl θ (.k y m t) (vs.G m).j (qs wd (vs.G m) ar) rfl ae γ _ _ rfl ζ rfl a_ (by rw[a4.l];omega) (by rw[a4.l];omega) (by exact(zY D.l.low0 D.l.mod.q)) ?_;intro v' w6 ai ab ax;obtain⟨bs,aI,al⟩:=zr ai;rw[a4.l] at al;subst al;have ag:Ti w6 t5 #[ι r.L,ι r.m,ι r.g.o,.k o r.g.v.j f,.k (Z ⟨g,0,Y⟩) r.qc.j d,.k s r.qx.j j,.k y m t,ν] 292:=D.l.box.saveT ab (T3.own D.l.F) θ;obtain⟨bS,bU,bI⟩:=ag.e;have az:=Th (aw.l.saveT ab (T3.own D.l.F) θ);have aP:X (zd _ w5 w6):=ab;have aK:X (_∨_):=ax;have aB:X (U.ownsRow w6 lo 301 6 _ _ _):=ai;clear ab ax ai ag))
   have bA:gS wd V' ⟨.k n vt c,K,ad,L⟩=[ι vp,.k n vt c,ι wd,(π K),(π ad),(π L)]:=by simp[gS,b4.l,pt]
   have ac:=D.l.pushV (V:=V') (p:=⟨.k n vt c,K,ad,L⟩) (by rw[a4.l];exact bf.l.1) (by rw[bA];exact aB.l) aP.l aK.l;rw[←bP.l] at ac;exact⟨⟨m+1,η,ξ,_,_,_,ac,az.l.set_ne aM _ _⟩,by simp[intOf];omega⟩
 obtain rfl:m=r.qc.j:=η;have bb:vs.G r.qc.j=vs:=by rw[←aN.l];exact uY
 rw[bb] at x;clear bb;obtain⟨y,t,W⟩:=zr x.l.F;dsimp only at W;subst W;obtain⟨aU,bZ,b8⟩:=x.l.rbox.e;dsimp only at aU;go_upto_region 11 with fail
 clear aU bZ b8 hm aj;have cj:=Th am;clear ao am;generalize bE:wr=w5 at *;clear bE;go_loopw [45] (λbG wr=>∃m:Nat,m<=r.qx.j/\bG=ι m/\∃aC A,X (jE lo w wr own ownk k wd t5 w.o.q r ⟨.k o r.g.v.j f,.k u r.qc.j d,.k s r.qx.j j,.k y vs.j t,aC,ar,A⟩ vs)/\X (Ti wr t4 z8.F 292)/\X (A.j=m)/\X (fj Q.tbs R.I.j r A)/\X (∀b,aC.m=Z b->w.o.q<=b)) (λi _=>r.qx.j-(intOf i).D);exact⟨0,zs _,rfl,_,[],x,N,rfl,λi _ h2=>by simp at h2,λb I=>by cases I⟩;clear x N;obtain⟨m,hm,rfl,aC,A,x,N,a6,bm,bc⟩:=hrel;have ao:=x.l.mod.q;have am:=zY aF.l ao;obtain⟨H,B,aA⟩:=zr x.l.qx;dsimp only at aA;subst aA;by_cases aj:m<r.qx.j
 .obtain⟨g,n,c,aD,hg,q0,q1,bd⟩:=x.l.p.qx.cell m aj;subst aD;have aa:=Th (HH.l.make x.l.mod);have af:=bN.l _ (zq aj);have a0:r.qx[m].o<Q.tbs.j:=by rw[aa.l.tlen];exact af.1
  have aG:=Th λF I=>FC F ownk rb R wd mr mx Q _ (aa.l.u I) af.1 a0;have bX:X (fj Q.tbs R.I.j r (A++[Q.tbs[r.qx[m].o]])):=λi h1 h2=>by
   by_cases hi:i<A.j;have q:=bm.l i h1 hi;rw[uG hi];exact q;obtain rfl:i=m:=by have:=a6.l;simp at h2;omega
   refine⟨af.2,af.1,a0,?_⟩;rw[lW η];simp
  have a2:μ wr (wr.C (.E #[ι (r.qx[m].o:Nat),.k n r.qx[m].v.j c] 204)):=γ;have E:=x.l.u a2;have G:Ti (wr.C (.E #[ι (r.qx[m].o:Nat),.k n r.qx[m].v.j c] 204)) t5 #[ι r.L,ι r.m,ι r.g.o,.k o r.g.v.j f,.k u r.qc.j d,.k (Z ⟨g,0,Y⟩) r.qx.j j,.k y vs.j t,.k H A.j B] 292:=E.box;obtain⟨aO,aE,aQ⟩:=G.e;have ae:=E.qx;dsimp only at ae;have D:=Th E;have aw:=Th (N.l.u a2);have bK:=Th a2;have be:(m:Int)<(r.qx.j:Int):=η;have cg:A.j<=1000:=by rw[a6.l];omega
  clear E G a2;generalize Q.tbs[r.qx[m].o]=tb at *;generalize r.qx[m].o=vp at *;generalize r.qx[m].v.j=vt at *;generalize ba:A.j=nl at *;have b1:=Th ba;clear ba;go_upto_region 14 with (first|(go_at_call 205;refine(aG.l _ bK.l).y ?_;rintro e w4 ⟨rfl,aL⟩;obtain rfl:=aL.z))
  generalize wr.C (.E #[ι vp,.k n vt c] 204)=W5 at *;go_wp2_with (at_builtin;refine kd W5 _ [(π tb)] _ rfl (.tmp 54) (.tmp 56) 150 rfl lo 162 i1 _ 1 8 underlying150 bO aV bk bh rfl θ (.k H nl B) nl (T2 A) rfl ae γ _ _ rfl ζ rfl a_ η η (by exact(zY D.l.low0 D.l.mod.q)) ?_;intro v' w6 ai ab ax;obtain⟨bs,aI,al⟩:=zr ai;subst al;have ag:Ti w6 t5 #[ι r.L,ι r.m,ι r.g.o,.k o r.g.v.j f,.k u r.qc.j d,.k (Z ⟨g,0,Y⟩) r.qx.j j,.k y vs.j t,.k H nl B] 292:=D.l.box.saveT ab (T3.own D.l.qx) θ;obtain⟨bS,bU,bI⟩:=ag.e;have az:=Th (aw.l.saveT ab (T3.own D.l.qx) θ);have aP:X (zd _ W5 w6):=ab;have aK:X (_∨_):=ax;have aB:X (U.ownsRow w6 lo 162 1 _ _ _):=ai;clear ab ax ai ag)
  have ac:=D.l.pushN (tb:=tb) bc.l (by rw[b1.l];exact aB.l) aP.l;exact⟨⟨m+1,η,ξ,_,_,ac,az.l.set_ne aM _ _,show(A++[tb]).j=m+1 by simp[b1.l,a6.l],bX,λb I=>by
   rcases aK.l with e|⟨g',e,cp⟩;rw[e] at I;exact bc.l b I;rw[e] at I;simp at I;have:=D.l.mod.q;omega⟩,by simp[intOf];omega⟩
 obtain rfl:m=r.qx.j:=η;have G:Ti wr t5 #[ι r.L,ι r.m,ι r.g.o,.k o r.g.v.j f,.k u r.qc.j d,.k s r.qx.j j,.k y vs.j t,.k H A.j B] 292:=x.l.box;obtain⟨aO,aE,aQ⟩:=G.e;have a8:Ti wr t4 #[ι 0,ι 0,ι 0,ν,ν,ν,ν,ν] 292:=N.l;obtain⟨ca,co,ce⟩:=a8.e;have ck:t5≠t4:=λe=>aM e.z;clear G a8;go_wp2
 (try simp only[Exit.inBlock,Exit.then])
 have aT:zd [t4] wr ((((((((wr.x ⟨t4,0,Y⟩ (ι r.L)).x ⟨t4,1,Y⟩ (ι r.m)).x ⟨t4,2,Y⟩ (ι r.g.o)).x ⟨t4,3,Y⟩ (.k o r.g.v.j f)).x ⟨t4,4,Y⟩ (.k u r.qc.j d)).x ⟨t4,5,Y⟩ (.k s r.qx.j j)).x ⟨t4,6,Y⟩ (.k y vs.j t)).x ⟨t4,7,Y⟩ (.k H A.j B)):=zd.sets t4 [ι r.L,ι r.m,ι r.g.o,.k o r.g.v.j f,.k u r.qc.j d,.k s r.qx.j j,.k y vs.j t,.k H A.j B] 0 wr;have hd:=x.l.done N.l η aT a6.l (by rw[aN.l];exact bY);have HD:X (_/\_):=hd;clear hd aT;refine zP (v:=.agg #[ι r.L,ι r.m,ι r.g.o,.k o r.g.v.j f,.k u r.qc.j d,.k s r.qx.j j,.k y vs.j t,.k H A.j B]) ?_ rfl ⟨⟨.k o r.g.v.j f,.k u r.qc.j d,.k s r.qx.j j,.k y vs.j t,.k H A.j B,ar,A⟩,ownk,rfl,HD.l.1,bm.l,HD.l.2⟩;clear HD aO aE aQ;simp[results,results192,go_sem,ca]
end
section
open Go.Proofs.Tryz Go.RowKit
variable {lo:Nat}{Ws:List yd}{Ps:List xr}
def SQ:(prog.info? 292).w (λi=>(i.zero,i.q,i.bytes))=Z (Z (.agg #[ι 0,ι 0,ι 0,ν,ν,ν,ν,ν]),8,144):=χ
def mT{t:TypeId}(h:Ue t)(a:t∉[214,161,165,310,323,301]):∀ρ,¬vo t ρ:=λρ q=>by
 rcases q with q|q
 .exact q.1 h
 .exact a q
def qM.mod{c:Nat}{ok:TypeId->zo->Prop}{w w':U}{own own':Nat->zo}{v:O}{rs:List zu}{ps:List (O×O×O)}(h:qM c w v rs ps)(m:Tq lo ok w own w' own')(d:∀ρ,¬ok 284 ρ)(f:∀ρ,¬ok 204 ρ)(e:∀ρ,¬ok 207 ρ):qM c w' v rs ps:=⟨vR h.own m e,h.len,λk a b=>(h.p k a b).mod m d f,h.K⟩
def uL.make{w w':U}{own own':Nat->zo}{wd:Nat}{c:O}(h:uL lo w own wd c Ws Ps)(m:Tq lo (lR Ws.j) w own w' own'):uL lo w' own' wd c Ws Ps:=
 ⟨vR h.arr m (pA θ θ),h.plen,λk a b=>(h.work k a b).mod m (pA θ θ) (pA θ θ) (AV η η) (pA θ θ) (λi j t d q=>by
  rcases q with q|⟨rfl,_⟩
  .exact s5 η q
  .exact d θ),h.K⟩
def Ou(Ws:List yd)(Ps:List xr)(h:Ps.j=Ws.j)(W:yd)(P:xr):gU (Ws++[W]) (Ps++[P])=gU Ws Ps++jG W.p P:=by
 simp[gU,List.zipWith_append h.z]
def uL.push{w w':U}{own:Nat->zo}{wd:Nat}{i v':O}{W:yd}{P:xr}(h:uL lo w own wd i Ws Ps)(r:uw lo w own Ws.j wd W P)(o:Ws.j+1<=1000)(p:w'.r lo 292 8 v' (Ws.j+1) (gU Ws Ps++jG W.p P))(hs:zd i.m.toList w w'):uL lo w' own wd v' (Ws++[W]) (Ps++[P])/\Tq lo (dT [292]) w own w' own:=by
 have m:Tq lo (dT [292]) w own w' own:=Tq.ofSave own hs λb u=>by
  have d:i.m=Z b:=by simpa using u
  obtain⟨c,s⟩:=jM h.arr d;exact⟨yW h.arr d,yF h.arr d,c,_,s,xL.2 rfl⟩
 have g:∀t,t∉[292]->∀ρ,¬dT [292] t ρ:=λt f ρ q=>f q;have l:=λk W P (q:uw lo w own k wd W P)=>q.mod m (g _ θ) (g _ θ) (g _ θ _) (g _ θ) (λ_ _ t f q=>by rw[xL.1 q] at f;exact f θ);refine⟨⟨?_,by simp[h.plen],λk a b=>?_,by simpa using o⟩,m⟩;rw[Ou Ws Ps h.plen,yK];exact p;simp only[yK,xu,jr] at a b;by_cases j:k<Ws.j;have e:k<Ps.j:=by rw[h.plen];exact j
 rw[uG j,uG e];exact l _ _ _ (h.work k j e);obtain rfl:k=Ws.j:=η;have n:(Ws++[W])[Ws.j]=W:=ζ;have v:(Ps++[P])[Ws.j]=P:=by simp[←h.plen]
 rw[n,v];exact l _ _ _ r
def gy.push{c:Φ}{n:Nat}(h:gy c n Ws Ps)(f:Ps.j=Ws.j){W:yd}{P:xr}(i:fj c n W.p P.nbs):gy c n (Ws++[W]) (Ps++[P]):=by
 intro k a b;simp only[yK,xu,jr] at a b;by_cases e:k<Ws.j;have d:k<Ps.j:=by rw[f];exact e
 rw[uG e,uG d];exact h k e d;obtain rfl:k=Ws.j:=η;have g:(Ws++[W])[Ws.j]=W:=ζ;have j:(Ps++[P])[Ws.j]=P:=by simp[←f]
 rw[g,j];exact i
def ww(n:Nat)(rs:List zu):Prop:=∀r∈rs,(∀l∈r.qc,l.o<n)/\∀l∈r.qx,l.o<n/\l.o≠r.g.o
def Sb(lo:Nat)(w:U)(own:Nat->zo)(d:Nat)(R:zv)(c:List yd)(wd mr mx:Nat)(Q:uz)(e:Ending)(w':U):Prop:=∃b a Ps,e=.returned b/\uL lo w' a wd b c Ps/\gy Q.tbs R.I.j c Ps/\zZ lo w' a d R wd mr mx Q/\Tq lo vo w own w' a
def NK(w:U)(own:Nat->zo)(rb s:Nat)(R:zv)(rv:O)(rs:List zu)(ps:List (O×O×O))(ws:List yd)(wd mr mx:Nat)(Q:uz)(j:Nat)(h:zZ lo w own rb R wd mr mx Q)(hr:qM lo w rv rs ps)(ax:lo<=w.o.q)(u:ww R.I.j rs)(hv:TF j wd R s rs=Z ws):
  Calls prog 164 #[(π rb),rv,ι s] w λe w'=>Sb lo w own rb R ws wd mr mx Q e w':=by
 obtain⟨i0,hi,aE,aP,aS⟩:=info_parts SQ;have HH:=Th h;have aH:=Th hr;have aI:=Th ax;have aV:=Th u;have aA:X (TF j wd R s (rs.drop 0)=Z ws):=hv;have bf:=hr.K;obtain⟨bd,aZ,aN⟩:=zr hr.own;subst aN;clear h hr ax u hv;go_enter func164,ntmps164;go_upto_region 3 with fail
 go_loopw [7,13] (λv7 aK wr=>∃m:Nat,m<=rs.j/\aK=ι m/\∃l rest c Ps,X (uL lo wr c wd v7 l Ps)/\X (gy Q.tbs R.I.j l Ps)/\X (zZ lo wr c rb R wd mr mx Q)/\X (Tq lo vo w own wr c)/\X (TF j wd R s (rs.drop m)=Z rest)/\X (l++rest=ws)/\X (l.j<=m)/\X (∀b,v7.m=Z b->w.o.q<=b)) (λ_ i _=>rs.j-(intOf i).D);exact⟨0,zs _,rfl,[],ws,own,[],⟨xo _ _ _ _,rfl,λk a=>by simp at a,ζ⟩,(λk a=>by simp at a),HH,Tq.refl _ _,aA,rfl,zf _,λb z=>by cases z⟩;clear aA;obtain⟨m,hm,rfl,l,rest,c,Ps,ab,av,aa,J,a2,aw,af,aj⟩:=hrel;have aC:=J.l.q;have ac:=zY aI.l aC;obtain⟨aR,a9,aT⟩:=zr ab.l.arr;subst aT;by_cases M:m<rs.j
 .have ae:=Th (aH.l.mod J.l (mT θ θ) (mT θ θ) (mT θ θ));have aB:m<ps.j:=by rw[ae.l.len];exact M
  obtain⟨g,aF,hg,q0,q1,q2,q3,q4,q5⟩:=ae.l.cell m M aB;subst aF;have p:=ae.l.p m M aB;obtain⟨ar,G,ah⟩:=p.g.qy;obtain⟨ag,C,aq⟩:=p.qc.qy;obtain⟨ak,L,al⟩:=p.qx.qy;rw[ah] at q3;rw[aq] at q4;rw[al] at q5;rw[ah,aq,al] at p;have d:=a2.l;rw[xp M] at d;unfold TF at d;have aY:(m:Int)<(rs.j:Int):=η;have u:=aV.l _ (zq M);clear ah aq al;generalize rs[m]=r at *;by_cases am:r.L=s
  .rw[zb am] at d;subst am;obtain⟨vs,n,a8,ad,S⟩:∃vs n,fA j wd R r.qc=Z vs/\TF j wd R r.L (rs.drop (m+1))=Z n/\rest=⟨r,vs⟩::n:=by
    split at d;rename_i vs n h1 h2;exact⟨vs,n,h1,h2,by simpa using d.z⟩;cases d
   have au:=Th ad;have aQ:X ((l++[⟨r,vs⟩])++n=ws):=show(l++[⟨r,vs⟩])++n=ws by rw[←aw.l,S];simp
   have aU:X (∀W0,μ wr W0->Calls prog 192 #[(π rb),.agg #[ι r.L,ι r.m,ι r.g.o,.k ar r.g.v.j G,.k ag r.qc.j C,.k ak r.qx.j L]] W0 λe w'=>∃a1 A V N E T H K B I y o f,e=ε (.agg #[ι r.L,ι r.m,ι r.g.o,.k a1 r.g.v.j A,.k V r.qc.j N,.k E r.qx.j T,.k H vs.j K,.k B r.qx.j I])/\X (uw lo w' f l.j wd ⟨r,vs⟩ ⟨.k a1 r.g.v.j A,.k V r.qc.j N,.k E r.qx.j T,.k H vs.j K,.k B r.qx.j I,y,o⟩/\fj Q.tbs R.I.j r o/\Tq lo (lR l.j) W0 c w' f)):=λW0 z=>by
    refine(N1 W0 c rb l.j R r _ _ _ vs wd mr mx Q j (aa.l.u z) (p.u z) (zY ac z.q) u.1 u.2 a8).y ?_;rintro e w' ⟨⟨tv,pv,nv,vv,bc,y,o⟩,f,rfl,v,aX,aW⟩;obtain⟨a1,A,e1⟩:=v.p.g.qy;obtain⟨V,N,e2⟩:=v.p.qc.qy;obtain⟨E,T,e3⟩:=v.p.qx.qy;obtain⟨H,K,e4⟩:=zr v.F;obtain⟨B,I,e5⟩:=zr v.qx;dsimp only at e1 e2 e3 e4 e5;subst e1 e2 e3 e4 e5;exact⟨a1,A,V,N,E,T,H,K,B,I,y,o,f,rfl,v,aX,aW⟩
   have D:μ wr (wr.C (.E #[ι r.L,ι r.m,ι r.g.o,.k ar r.g.v.j G,.k ag r.qc.j C,.k ak r.qx.j L] 207)):=γ;have x:=Th D;have bk:l.j<=999:=by have:=af.l;omega
   clear d p D u S ad a8;go_upto_region 7 with (first|(go_at_call 192;refine(aU.l _ x.l).y ?_;rintro e w5 ⟨a1,A,V,N,E,T,H,K,B,I,y,o,f,rfl,HX⟩))
   have an:μ w5 (w5.C (.E #[ι r.L,ι r.m,ι r.g.o,.k a1 r.g.v.j A,.k V r.qc.j N,.k E r.qx.j T,.k H vs.j K,.k B r.qx.j I] 292)):=γ;have a6:=Ti.new w5 #[ι r.L,ι r.m,ι r.g.o,.k a1 r.g.v.j A,.k V r.qc.j N,.k E r.qx.j T,.k H vs.j K,.k B r.qx.j I] 292;have a4:=(Tq.of c x.l).A HX.l.2.2;have F:=Th (a4.A (Tq.of f an));have aJ:=Th (HX.l.1.mod (Tq.of (ok:=λ_ _=>False) f an) (λ_=>id) (λ_=>id) id (λ_=>id) (λ_ _ _ _=>id));clear a4 an;obtain⟨bh,bi,bm⟩:=a6.e;generalize aO:w5.C (.E #[ι r.L,ι r.m,ι r.g.o,.k a1 r.g.v.j A,.k V r.qc.j N,.k E r.qx.j T,.k H vs.j K,.k B r.qx.j I] 292)=W6 at *;clear aO a6;have ai:=Th (ab.l.make F.l);have ap:=ai.l.arr;generalize w5.o.q=bn at *;have ba:=zY ac F.l.q;go_wp2_with (at_builtin;refine kd W6 _ [ι r.L,ι r.m,ι r.g.o,.k a1 r.g.v.j A,.k V r.qc.j N,.k E r.qx.j T,.k H vs.j K,.k B r.qx.j I] _ rfl (.tmp 24) (.tmp 26) 265 rfl lo 292 i0 _ 8 144 underlying265 hi aE aP aS rfl θ (.k aR l.j a9) l.j (gU l Ps) rfl ap γ _ _ rfl ζ rfl a_ η η η ?_;intro v' w7 ao aD ay;obtain⟨bb,aL,az⟩:=zr ao;subst az;have a3:X (zd _ W6 w7):=aD;have aM:X (_∨_):=ay;have aG:X (U.ownsRow w7 lo 292 8 _ _ _):=ao;clear aD ay ao)
   have a7:=ai.l.push (W:=⟨r,vs⟩) (P:=⟨.k a1 r.g.v.j A,.k V r.qc.j N,.k E r.qx.j T,.k H vs.j K,.k B r.qx.j I,y,o⟩) aJ.l η aG.l a3.l;have a0:=(aa.l.make F.l).mod a7.2 (gI θ) (gI θ) (gI θ) (λ_=>gI θ _) (λ_ t ht q=>by rw[xL.1 q] at ht;exact ht θ);have a5:=(J.l.A (F.l.more λ_ _ q=>QF q)).newer a3.l λb z=>aj.l b (by simpa using z);have be:=F.l.q;exact⟨⟨m+1,η,ξ,l++[(⟨r,vs⟩:yd)],n,f,Ps++[(⟨.k a1 r.g.v.j A,.k V r.qc.j N,.k E r.qx.j T,.k H vs.j K,.k B r.qx.j I,y,o⟩:xr)],a7.1,av.l.push ai.l.plen HX.l.2.1,a0,a5,au,aQ,show(l++[(⟨r,vs⟩:yd)]).j<=m+1 by have:=af.l;simp;omega,λb z=>by
    rcases aM.l with e|⟨g',e,bo⟩;rw[e] at z;exact aj.l b z;rw[e] at z;simp at z;omega⟩,by simp[intOf];omega⟩
  rw[za am] at d;have au:=Th d;have bg:¬(r.L:Int)=(s:Int):=η;have D:μ wr (wr.C (.E #[ι r.L,ι r.m,ι r.g.o,.k ar r.g.v.j G,.k ag r.qc.j C,.k ak r.qx.j L] 207)):=γ;have x:X (μ wr _):=D;clear d p D u;go_wp2;exact⟨⟨m+1,η,ξ,l,rest,c,Ps,ab.l.u x.l,av,aa.l.u x.l,J.l.A (Tq.of c x.l),au,aw,Nat.le_succ_of_le af.l,aj⟩,by simp[intOf];omega⟩
 obtain rfl:m=rs.j:=η;have d:=a2.l;rw[List.drop_length] at d;simp only[TF,zt] at d;have HE:X (l=ws):=show l=ws by rw[←aw.l,←d];simp
 clear d;go_wp2;go_ret;exact⟨_,c,Ps,rfl,by rw[←HE.l];exact ab.l,by rw[←HE.l];exact av.l,aa.l,J.l⟩
end
section
open Go.Proofs.Tryz Go.RowKit
variable {lo:Nat}
def I1(lo:Nat)(w:U)(own:Nat->zo)(f:Nat)(R R':zv)(wd mr mx:Nat)(Q:uz)(b:Bool)(e:Ending)(w':U):Prop:=e=ε (.i b)/\∃a d c,zZ lo w' a f R' wd mr mx ⟨Q.rv,Q.tbs,d,c⟩/\R'.I.j=R.I.j/\Tq lo vo w own w' a
def N8(w:U)(own:Nat->zo)(M s:Nat)(R R':zv)(rv:O)(rs:List zu)(ps:List (O×O×O))(wd mr mx:Nat)(Q:uz)(g:Nat)(b:Bool)(h:zZ lo w own M R wd mr mx Q)(hr:qM lo w rv rs ps)(D:lo<=w.o.q)(ag:ww R.I.j rs)(c:py g wd mr mx rs R s=Z (R',b)):
  Calls prog 122 #[(π M),rv,ι s] w λe w'=>I1 lo w own M R R' wd mr mx Q b e w':=by
 unfold py at c;rcases B:TF g wd R s rs with _|L;rw[B] at c;cases c;rw[B] at c;have an:=Th (NK w own M s R rv rs ps L wd mr mx Q g h hr D ag B);have ah:=Th D;have ar:=h.small;obtain⟨ap,ao,ai⟩:=zr hr.own;subst ai;have N:X (if decide (0<L.j)=true then gD wd mr mx g true L R=Z (R',b) else(R=R'/\true=b)):=by
  by_cases hz:L.j>0;rw[X,zb (by simpa using hz)];simpa [hz] using c;rw[X,za (by simpa using hz)];simpa [hz] using c
 clear h hr D ag B c;go_enter func122,ntmps122;go_upto_region 4 with (first|(go_at_call 164;refine an.l.y ?_;rintro e w2 ⟨wv,P,Ps,rfl,G,ab,af,T⟩;obtain⟨ak,ae,am⟩:=zr G.arr;subst am;have A:=Th G;have C:=Th ab;have i:=Th af;have f:=Th T;clear G ab af T))
 go_loopg [8,9] g (λk v8 v9 wr=>∃(first more:Bool) (d:zv) (a:Nat->zo) (t:O) (v:Γ) (H:List yd) (Pk:List xr),v8=.i first/\v9=.i more/\X (zZ lo wr a M d wd mr mx ⟨Q.rv,Q.tbs,t,v⟩)/\X (uL lo wr a wd (.k ak L.j ae) H Pk)/\X (gy Q.tbs R.I.j H Pk)/\X (Tq lo vo w own wr a)/\X (d.I.j=R.I.j)/\X (if more=true then gD wd mr mx k first H d=Z (R',b) else(d=R'/\true=b)))
 case atStart=>exact⟨true,decide (0<L.j),R,P,Q.fv,Q.fvs,L,Ps,rfl,rfl,i,A,C,f,rfl,N⟩
 clear A C i f N;obtain⟨first,more,d,a,t,v,H,Pk,rfl,rfl,i,A,C,f,o,N⟩:=hrel;cases more
 .have c:d=R'/\true=b:=by simpa using N.l
  have n:=Th c;clear c;go_wp2;go_ret;exact⟨by rw[←n.l.2];rfl,a,t,v,by rw[←n.l.1];exact i.l,by rw[←n.l.1];exact o.l,f.l⟩
 have c:gD wd mr mx gk first H d=Z (R',b):=by simpa using N.l
 clear N;rcases gk with _|m;simp[gD] at c;unfold gD at c;obtain⟨hl,hf,h0,h1,h2,h3,h4,h5,h6,h7⟩:=i.l.at;have S:=zY ah.l f.l.q;clear h0 h3 h4 h5 h7;by_cases aa:d.Q≥mx
 .rw[zb aa] at c;have n:=Th (show d=R'/\false=b by simpa using c);have al:(mx:Int)<=(d.Q:Int):=η;clear c;go_upto_region 5 with fail
  go_quiet (fail)
  have I:μ wr (wr.drewN nq):=zI (zn _ _) nq;have J:=Th I;clear I;generalize wr.drewN nq=w3 at *;go_wp2;go_ret;exact⟨by rw[←n.l.2];rfl,a,t,v,by rw[←n.l.1];exact i.l.u J.l,by rw[←n.l.1];exact o.l,f.l.A (Tq.of a J.l)⟩
 rw[za aa] at c;have al:¬(mx:Int)<=(d.Q:Int):=η;rcases z:rt m wd mr first H d with _|x;rw[z] at c;cases c;obtain⟨p,y,b3⟩:=x;rw[z] at c;have ac:=Th λW0 hb=>J9 W0 a M _ d p H y Pk wd mr mx _ m first b3 (i.l.u hb) (A.l.u hb) (by rw[o.l];exact C.l) (zY S hb.q) η z
 clear z;have F:X ((b3=false->p=R'/\false=b)/\(b3=true->(if p.count>d.count then gD wd mr mx m false y p else Z (p,true))=Z (R',b))):=⟨λe=>by subst e;simpa using c,λe=>by subst e;exact c⟩;clear c;go_upto_region 5 with fail
 go_quiet (fail)
 have I:μ wr (wr.drewN nq):=zI (zn _ _) nq;have x1:=zi I hl h1;have J:=Th I;have aq:=ym hl I.q;clear I;generalize wr.drewN nq=w3 at *;clear h1 h2 h6 hf hl;cases b3
 .have n:=Th (F.l.1 rfl);go_wp2_with (go_at_call 165;refine(ac.l _ J.l).y ?_;rintro e w4 ⟨rfl,j,u,l,ad,r,V,W,E,K⟩)
  go_ret;exact⟨by rw[←n.l.2];rfl,j,u,l,by rw[←n.l.1];exact r,by rw[←n.l.1];exact E.A o.l,(f.l.A (Tq.of a J.l)).A K⟩
 have n:X (if decide (d.count<p.count)=true then gD wd mr mx m false y p=Z (R',b) else(p=R'/\true=b)):=by
  have q:=F.l.2 rfl;by_cases hc:p.count>d.count;rw[X,zb (by simpa using hc)];simpa [hc] using q;rw[X,za (by simpa using hc)];simpa [hc] using q
 clear F;go_wp2_with (go_at_call 165;refine(ac.l _ J.l).y ?_;rintro e w4 ⟨rfl,j,u,l,ad,r,V,W,E,K⟩;obtain⟨au,_,_,y1,_⟩:=r.at;have aj:X (zZ lo w4 j M p wd mr mx ⟨Q.rv,Q.tbs,u,l⟩):=r;clear r)
 go_roundg m
 case measure=>omega
 exact⟨false,decide (d.count<p.count),p,j,u,l,y,ad,rfl,ζ,aj,V,by rw[←o.l];exact W,(f.l.A (Tq.of a J.l)).A K,E.A o.l,n⟩
end
section
open Go.Proofs.Tryz Go.RowKit
variable {lo:Nat}{w0 w:U}{own0:Nat->zo}{t8 wd mr mx:Nat}{tbs:List Nat}
structure fW (lo:Nat) (w0 w:U) (own0 own:Nat->zo) (t8 g n wd mr mx:Nat) (ar:List Nat) (tbs:List Nat):Prop where
 low:w0.o.q<=t8
 lowg:w0.o.q<=g
 ne:t8≠g
 box:Ti w t8 #[.k (Z ⟨g,0,Y⟩) n n,ι 0,ι 0,ι 0,ι wd,ι mr,ι mx,ν] 214
 I:w.r lo 162 1 (.k (Z ⟨g,0,Y⟩) n n) n (T2 tbs++List.replicate (n-tbs.j) (.u Y))
 tries:∀i (_:i<ar.j) (_:i<tbs.j),xh lo w own (0,i,0) tbs[i] (xk wd ar[i])
 mod:Tq lo vo w0 own0 w own
def Fi:TypeId->zo->Prop:=λ_ _=>False
def fW.step{w':U}{own own':Nat->zo}{g n:Nat}{c:Φ}(h:fW lo w0 w own0 own t8 g n wd mr mx c tbs)(m:Tq lo Fi w own w' own'):fW lo w0 w' own0 own' t8 g n wd mr mx c tbs:=
 ⟨h.low,h.lowg,h.ne,h.box.mod m id,vR h.I m (λ_=>id),λi a b=>(h.tries i a b).mod m (λ_ _=>id),h.mod.A (m.more λ_ _ q=>q.elim)⟩
def fW.push{w':U}{own:Nat->zo}{g n tb:Nat}{d fp:Φ}(h:fW lo w0 w own0 own t8 g n wd mr mx d tbs)(l:lo<=w.o.q)(x:tbs.j<n)(t:yb w.o.q w' tb (xk wd (d.g tbs.j 0)) fp)(j:μ w w'):
  fW lo w0 (w'.x (ω g tbs.j) ((π tb))) own0 (ext own w.o.q (0,tbs.j,0)) t8 g n wd mr mx d (tbs++[tb]):=by
 have s:=Tq.extNew (lo:=lo) (ok:=Fi) own (0,tbs.j,0) j;have c:=h.step s;have f:zd [g] w' (w'.x (ω g tbs.j) ((π tb))):=zd.set _ _ _ _;obtain⟨y,o⟩:=jM c.I rfl;have m:=T3.box o;refine⟨h.low,h.lowg,h.ne,c.box.saveT f m θ,?_,λi a b=>?_,c.mod.newer f λb j=>by simp at j;rw[j];exact h.lowg⟩;have q:=uD c.I tbs.j (by simp[T2];omega) ((π tb));have e:(T2 tbs++List.replicate (n-tbs.j) (O.pointer Y)).set tbs.j ((π tb))=T2 (tbs++[tb])++List.replicate (n-(tbs++[tb]).j) (O.pointer Y):=by
  obtain⟨k,u⟩:∃k,n-tbs.j=k+1:=⟨n-tbs.j-1,η⟩;rw[List.set_append,za (by simp[T2]),u,rT];have r:n-(tbs++[tb]).j=k:=by simp;omega
  rw[r];simp[T2,pt]
 rw[e] at q;exact q;simp only[yK,xu,jr] at b;by_cases p:i<tbs.j;rw[uG p];exact(c.tries i a p).saveT f m θ;obtain rfl:i=tbs.j:=η;have v:(tbs++[tb])[tbs.j]=tb:=ζ;rw[v];have q:=t.new own (0,tbs.j,0) l;rw[show d.g tbs.j 0=d[tbs.j] by simp[List.getD,a]] at q;exact q.saveT f m θ
def fW.done{own:Nat->zo}{g:Nat}{c:Φ}(h:fW lo w0 w own0 own t8 g c.j wd mr mx c tbs)(e:lo<=w0.o.q)(d:tbs.j=c.j)(hs:c.j<=1000)(f:wd<=1000/\mr<=1048576/\mx<=1048576):zZ lo w own t8 ⟨c.w (xk wd),0,0,0,[]⟩ wd mr mx ⟨.k (Z (δ g)) c.j c.j,tbs,ν,[]⟩:=by
 refine⟨zY e h.low,h.box,?_,by simp[d],λp a b=>?_,xo _ _ _ _,rfl,λp a=>by simp at a,⟨by simpa using hs,ζ,ζ,ζ⟩,f⟩;have q:=h.I;rw[d,j4] at q;simpa using q;simp only[xt] at a;simp only[ue];exact h.tries p a b
def Is(lo:Nat)(w:U)(own:Nat->zo)(wd mr mx:Nat)(b:Option zv)(e:Ending)(w':U):Prop:=match b with
 |none=>e=ε (.B #[.agg #[ν,ι 0,ι 0,ι 0],.i false])/\∃a,Tq lo vo w own w' a
 |some R=>∃a c Q,e=ε (.B #[.agg #[Q.rv,ι R.count,ι R.Q,ι R.jg],.i true])/\zZ lo w' a c R wd mr mx Q/\Tq lo vo w own w' a
def gG:Nat->zo:=λ_=>(0,0,7)
def UZ(w:U)(S:qY)(ps:List (O×O×O))(av fv rv:O)(mr mx G:Nat)(ab:Option zv)(h:gX lo w av fv rv S ps)(aM:lo<=w.o.q)(bo:ww S.M.j S.H)(bN:S.M.j<=1000)(a8:∀a∈S.M,a<=100000000)(N:∀f∈S.facts,f.row.j=3)(bR:S.facts.j<=1000000)(bt:S.r<=1000/\mr<=1048576/\mx<=1048576)(hr:pn G S mr mx=Z ab):
  Calls prog 74 #[.agg #[ι S.r,av,fv,rv],ι mr,ι mx] w λe w'=>Is lo w gG S.r mr mx ab e w':=by
 obtain⟨i0,hi,bx,bG,bI⟩:=info_parts SU;have HS:=Th h;have ah:=Th aM;have bK:=Th bo;have b9:=Th a8;have b7:=Th N;have HR:=Th hr;obtain⟨u,d,bM⟩:=zr h.ari;obtain⟨H,k,b4⟩:=zr h.fac;obtain⟨C,l,bC⟩:=zr h.rul.own;subst bM b4 bC;have bT:=h.rul.K;have bv:=λW0:U=>run_make (P:=prog) (w:=W0) 150 162 i0 _ underlying150 hi bx .i64 .i64 (S.M.j:Int) (S.M.j:Int) η (Int.le_refl _) (by rw[bI];omega) η;rw[bG] at bv;clear h aM bo a8 N hr;go_enter func74,ntmps74;go_upto_region 4 with fail
 have aP:μ w ((((w.C (.E #[ι S.r,.k u S.M.j d,.k H S.facts.j k,.k C S.H.j l] 146)).C (.E #[ν,ι 0,ι 0,ι 0] 152)).C (.E #[.k (Z ⟨w.o.q+1+1+1,0,Y⟩) S.M.j S.M.j,ι 0,ι 0,ι 0,ι S.r,ι mr,ι mx,ν] 214)).C (.E (madeCells #[.u Y] S.M.j) 162)):=γ;have aQ:=(((Ti.new w #[ι S.r,.k u S.M.j d,.k H S.facts.j k,.k C S.H.j l] 146).up (.E #[ν,ι 0,ι 0,ι 0] 152)).up (.E #[.k (Z ⟨w.o.q+1+1+1,0,Y⟩) S.M.j S.M.j,ι 0,ι 0,ι 0,ι S.r,ι mr,ι mx,ν] 214)).up (.E (madeCells #[.u Y] S.M.j) 162);have bp:=(((Ti.new (w.C (.E #[ι S.r,.k u S.M.j d,.k H S.facts.j k,.k C S.H.j l] 146)) #[ν,ι 0,ι 0,ι 0] 152).up (.E #[.k (Z ⟨w.o.q+1+1+1,0,Y⟩) S.M.j S.M.j,ι 0,ι 0,ι 0,ι S.r,ι mr,ι mx,ν] 214)).up (.E (madeCells #[.u Y] S.M.j) 162)).at' (b':=w.o.q+1) ζ;have bq:=((Ti.new ((w.C (.E #[ι S.r,.k u S.M.j d,.k H S.facts.j k,.k C S.H.j l] 146)).C (.E #[ν,ι 0,ι 0,ι 0] 152)) #[.k (Z ⟨w.o.q+1+1+1,0,Y⟩) S.M.j S.M.j,ι 0,ι 0,ι 0,ι S.r,ι mr,ι mx,ν] 214).up (.E (madeCells #[.u Y] S.M.j) 162)).at' (b':=w.o.q+1+1) ζ;have af:=rQ (((w.C (.E #[ι S.r,.k u S.M.j d,.k H S.facts.j k,.k C S.H.j l] 146)).C (.E #[ν,ι 0,ι 0,ι 0] 152)).C (.E #[.k (Z ⟨w.o.q+1+1+1,0,Y⟩) S.M.j S.M.j,ι 0,ι 0,ι 0,ι S.r,ι mr,ι mx,ν] 214)) S.M.j 162 (.u Y) b_;have aO:(((w.C (.E #[ι S.r,.k u S.M.j d,.k H S.facts.j k,.k C S.H.j l] 146)).C (.E #[ν,ι 0,ι 0,ι 0] 152)).C (.E #[.k (Z ⟨w.o.q+1+1+1,0,Y⟩) S.M.j S.M.j,ι 0,ι 0,ι 0,ι S.r,ι mr,ι mx,ν] 214)).o.q=w.o.q+1+1+1:=ζ;rw[aO] at af;have a6:X (fW lo w ((((w.C (.E #[ι S.r,.k u S.M.j d,.k H S.facts.j k,.k C S.H.j l] 146)).C (.E #[ν,ι 0,ι 0,ι 0] 152)).C (.E #[.k (Z ⟨w.o.q+1+1+1,0,Y⟩) S.M.j S.M.j,ι 0,ι 0,ι 0,ι S.r,ι mr,ι mx,ν] 214)).C (.E (madeCells #[.u Y] S.M.j) 162)) gG gG (w.o.q+1+1) (w.o.q+1+1+1) S.M.j S.r mr mx S.M []):=⟨η,η,η,bq,yo af (by have:=ah.l;omega),(λi a b=>by simp at b),Tq.of gG aP⟩;have s:=Th aQ;have B:=Th bp;clear aP aQ bp bq af aO bv;generalize ((((w.C (.E #[ι S.r,.k u S.M.j d,.k H S.facts.j k,.k C S.H.j l] 146)).C (.E #[ν,ι 0,ι 0,ι 0] 152)).C (.E #[.k (Z ⟨w.o.q+1+1+1,0,Y⟩) S.M.j S.M.j,ι 0,ι 0,ι 0,ι S.r,ι mr,ι mx,ν] 214)).C (.E (madeCells #[.u Y] S.M.j) 162))=w1 at *;generalize hg:w.o.q+1+1+1=g at *;generalize h8:w.o.q+1+1=t8 at *;generalize h6:w.o.q+1=t6 at *;have bB:t6≠t8:=η;have bS:w.o.q<t6:=η;have bP:t8<g:=η;have bU:t6<g:=η;clear hg h8 h6;go_loopw [28] (λbH wr=>∃m:Nat,m<=S.M.j/\bH=ι m/\∃j tbs,X (fW lo w wr gG j t8 g S.M.j S.r mr mx S.M tbs)/\X (tbs.j=m)/\X (Ti wr w.o.q #[ι S.r,.k u S.M.j d,.k H S.facts.j k,.k C S.H.j l] 146)/\X (Ti wr t6 #[ν,ι 0,ι 0,ι 0] 152)) (λi _=>S.M.j-(intOf i).D);exact⟨0,zs _,rfl,gG,[],a6,rfl,s,B⟩;clear a6 s B;obtain⟨m,hm,rfl,j,tbs,W,aK,s,B⟩:=hrel;have K:=W.l.mod.q;have E:=zY ah.l K;by_cases M:m<S.M.j
 .have aB:wr.r lo 3 1 (.k u S.M.j d) S.M.j (S.M.w TO):=tC HS.l.ari W.l.mod (λb _ q=>by
   rcases q with q|q;exact q.2 rfl;revert q;decide)
  obtain⟨ga,bJ,ad,_,bW,aX⟩:=yq aB η;simp only[O.slice.injEq] at ad;have aJ:=ad.1;clear ad;subst aJ;have q0:=aX m (ι (S.M[m]:Nat)) (by simp[M,TO]);have bF:S.M[m]<=100000000:=b9.l _ (zq _);obtain⟨aU,aS,bm⟩:=W.l.box.e;obtain⟨R,N,ae⟩:=s.l.e;have a1:(m:Int)<(S.M.j:Int):=η;have HN:X (∀W0,μ wr W0->Calls prog 119 #[ι S.r,ι (S.M[m]:Nat)] W0 λe w'=>∃tb,e=ε ((π tb))/\w'.p ⟨t8,0,Y⟩=Z (.k (Z ⟨g,0,Y⟩) S.M.j S.M.j)/\w'.p ⟨w.o.q,0,Y⟩=Z (ι S.r)/\w'.p ⟨g,m,Y⟩=Z (.u Y)/\(∀o,w'.frozen? ⟨g,o,Y⟩=false)/\g<w'.o.q/\X (μ wr w'/\∃aj,fW lo w (w'.x ⟨g,m,Y⟩ ((π tb))) gG aj t8 g S.M.j S.r mr mx S.M (tbs++[tb]))):=λW0 hb=>by
   refine(AM W0 S.r S.M[m] bt.1 bF).y ?_;rintro e w' ⟨tb,fp,rfl,ht,aZ⟩;have hB:=Tl hb aZ;have h0:=W.l.step (Tq.of j hb);have h1:=W.l.step (Tq.of j hB);have aF:=aK.l;have hp:=h0.push (tb:=tb) (fp:=fp) (zY E hb.q) η (by rw[aF,show S.M.g m 0=S.M[m] by simp[List.getD,M]];exact ht) aZ;rw[aF] at hp;refine⟨tb,rfl,h1.box.H.1 0,(hB.cell ae).A (R 0),?_,vl h1.I,yF h1.I rfl,hB,_,hp⟩;obtain⟨g',bO,be,_,_,bw⟩:=yq h1.I η;simp only[O.slice.injEq,zt,Addr.mk.injEq,and_true] at be;have e:=be.1;subst e;refine bw m _ ?_;rw[fR (by simp[T2,aF]),List.getElem?_replicate,zb (by simp only[T2,xt];omega)]
  have x8:wr.p ⟨t8,0,Y⟩=Z (.k (Z ⟨g,0,Y⟩) S.M.j S.M.j):=aU 0;have x3:wr.p ⟨w.o.q,0,Y⟩=Z (ι S.r):=R 0;clear aU R aX aB;generalize S.M[m]=am at *;go_upto_region 6 with fail
  go_region_held3 (λw'=>w'.p ⟨t8,0,Y⟩=Z (.k (Z ⟨g,0,Y⟩) S.M.j S.M.j)/\w'.p ⟨w.o.q,0,Y⟩=Z (ι S.r)) (first|go_keep|(go_simp;done)) (first|(go_at_call 119;refine(HN.l _ (by exact(zI (zn _ _) 1))).y ?_;rintro e w2 ⟨tb,rfl,y8,y3,yg,yf,yl,HX⟩))
  have aH:=HX.l.1;obtain⟨aj,bd⟩:=HX.l.2;have bz:=Th bd;have bb:X (Ti (w2.x ⟨g,m,Y⟩ ((π tb))) w.o.q _ 146):=(s.l.u aH).set_ne η _ _;have ba:X (Ti (w2.x ⟨g,m,Y⟩ ((π tb))) t6 _ 152):=(B.l.u aH).set_ne η _ _;clear aH bd HX y8 y3 yg yf yl HN x8 x3 aS bm N ae q0;generalize w2.x ⟨g,m,Y⟩ ((π tb))=W3 at *;go_wp2;exact⟨⟨m+1,η,ξ,aj,tbs++[tb],bz,show(tbs++[tb]).j=m+1 by simp[aK.l],bb,ba⟩,by simp[intOf];omega⟩
 obtain rfl:m=S.M.j:=η;have a5:=Th (W.l.done ah.l aK.l bN bt);have aC:=Th W.l.mod;have bn:=Th (Ux wr j t8 _ S.r mr mx _ a5.l E);clear W M hm;go_upto_region 9 with (first|(go_at_call 120;refine bn.l.y ?_;rintro e w2 ⟨rfl,bc,a0,br,ax⟩))
 have aq:=Th (s.l.mod ax (gI θ _));have az:X (Ti w2 t6 _ 152):=B.l.mod ax (gI θ _);have a3:X (zZ lo w2 j t8 (lz S) S.r mr mx ⟨.k (Z ⟨g,0,Y⟩) S.M.j S.M.j,tbs,bc,a0⟩):=br;have aA:=Th (aC.l.A (ax.more λ_ _ q=>Gj q));clear s B a5 aC bn br ax K E;obtain⟨R1,b1,hF,hE⟩:∃R1 b1,kY mr S.facts (lz S)=Z (R1,b1)/\(b1=false/\ab=Y∨b1=true/\∃R2 b2,kR G S.r mr mx S.H S.M.j 0 R1=Z (R2,b2)/\ab=if b2 then Z R2 else Y):=by
  have hr:=HR.l;unfold pn at hr;split at hr;cases hr;rename_i R1 hA;simp at hr;exact⟨R1,false,hA,zh ⟨rfl,hr.z⟩⟩;rename_i R1 hA;rw[qq] at hr;obtain⟨⟨R2,b2⟩,h1,h2⟩:=hr;exact⟨R1,true,hA,ze ⟨rfl,R2,b2,h1,h2.z⟩⟩
 have HE:=Th hE;have bi:X (kY mr (S.facts.drop 0) (lz S)=Z (R1,b1)):=hF;clear hE hF;obtain⟨R,N,ae⟩:=aq.l.e;go_upto_region 10 with fail
 clear R N ae;generalize b8:w2=w5 at *;clear b8;have aN:=Th (show(lz S).I.j=S.M.j by simp[lz,qT]);go_loopw [47] (λbD wr=>∃m:Nat,m<=S.facts.j/\bD=ι m/\∃Rk j ag ak,X (zZ lo wr j t8 Rk S.r mr mx ⟨.k (Z ⟨g,0,Y⟩) S.M.j S.M.j,tbs,ag,ak⟩)/\X (Tq lo vo w gG wr j)/\X (Rk.I.j=S.M.j)/\X (Ti wr w.o.q #[ι S.r,.k u S.M.j d,.k H S.facts.j k,.k C S.H.j l] 146)/\X (Ti wr t6 #[ν,ι 0,ι 0,ι 0] 152)/\X (kY mr (S.facts.drop m) Rk=Z (R1,b1))) (λi _=>S.facts.j-(intOf i).D);exact⟨0,zs _,rfl,lz S,j,bc,a0,a3,aA,aN,aq,az,bi⟩;clear a3 aA aN aq az bi;obtain⟨m,hm,rfl,Rk,V,ag,ak,ac,L,ai,s,B,aD⟩:=hrel;have K:=L.l.q;have E:=zY ah.l K;by_cases M:m<S.facts.j
 .have a9:=vR HS.l.fac L.l (mT θ θ);obtain⟨gf,b0,ad,_,bV,au⟩:=yq a9 η;simp only[O.slice.injEq] at ad;have aJ:=ad.1;clear ad;subst aJ;obtain⟨k0,k1,k2,k3⟩:=CV S.facts m M;have q0:=au _ _ k0;have q1:=au _ _ k1;have q2:=au _ _ k2;have q3:=au _ _ k3;have n:=aD.l;rw[xp M] at n;unfold kY at n;have h3:=b7.l _ (zq M);obtain⟨x,y,z,a4⟩:∃x y z,S.facts[m].row=[x,y,z]:=by
   match af:S.facts[m].row,h3 with
   |[x,y,z],_=>exact⟨x,y,z,rfl⟩
  rw[a4] at q1 q2 q3 n;simp only[List.getD_cons_zero,List.getD_cons_succ] at q1 q2 q3;have a1:(m:Int)<(S.facts.j:Int):=η;clear h3 k0 k1 k2 k3 au a9 a4;generalize S.facts[m].o=p at *;rcases ha:jV mr Rk p [x,y,z] with _|ar;rw[ha] at n;cases n;obtain⟨R3,b3⟩:=ar;rw[ha] at n;have bE:=Th ((BK ha).A ai.l);have bg:=Th λW0 hb=>Cq W0 V t8 Rk R3 S.r mr mx _ p x y z b3 (ac.l.u hb) (zY E hb.q) ha;have aY:μ wr (wr.C (.E #[ι p,ι x,ι y,ι z] 210)):=γ;have aG:=Th aY;have ap:X (∀Q c,Tq lo (lC p) (wr.C (.E #[ι p,ι x,ι y,ι z] 210)) V Q c->Tq lo vo w gG Q c/\Ti Q w.o.q #[ι S.r,.k u S.M.j d,.k (Z ⟨gf,0,Y⟩) S.facts.j k,.k C S.H.j l] 146/\Ti Q t6 #[ν,ι 0,ι 0,ι 0] 152):=λQ c D=>by
   have aL:Tq lo (kL p) wr V Q c:=(Tq.of V aG.l).A (D.more λ_ _ q=>zh q);exact⟨L.l.A (aL.more λ_ _ q=>BZ q),s.l.mod aL (pp θ θ _),B.l.mod aL (pp θ θ _)⟩
  clear ha aY;cases b3
  .simp only[zt,ye] at n;have HQ:=Th n.2;clear n;go_wp2_with (go_at_call 121;refine(bg.l _ aG.l).y ?_;rintro e Q ⟨rfl,c,T,aa,D⟩;obtain⟨J,_,I⟩:=ap.l _ _ D;obtain⟨an,bf,aE⟩:=I.e)
   have A:ab=none:=by
    have hE:=HE.l;rw[←HQ.l] at hE;rcases hE with⟨_,hE⟩|⟨hx,_⟩
    exact hE;cases hx
   have al:X (Tq lo vo w gG _ c):=J.newer (zd.sets t6 [ν,ι 0,ι 0,ι 0] 0 Q) (λb hb=>by simp at hb;omega);refine zP (v:=.B #[.agg #[ν,ι 0,ι 0,ι 0],.i false]) (by simp[results,results74,go_sem,an]) rfl ?_;rw[A];exact⟨rfl,c,al.l⟩
  have HQ:X (kY mr (S.facts.drop (m+1)) R3=Z (R1,b1)):=n;clear n;go_wp2_with (go_at_call 121;refine(bg.l _ aG.l).y ?_;rintro e Q ⟨rfl,c,T,aa,D⟩)
  obtain⟨J,ao,I⟩:=ap.l _ _ D;exact⟨⟨m+1,η,ξ,R3,c,ag,T,aa,J,bE,ao,I,HQ⟩,by simp[intOf];omega⟩
 obtain rfl:m=S.facts.j:=η;have n:=aD.l;rw[List.drop_length] at n;simp only[kY,zt,ye] at n;obtain⟨R2,b2,aV,A⟩:∃R2 b2,kR G S.r mr mx S.H S.M.j 0 Rk=Z (R2,b2)/\ab=if b2 then Z R2 else none:=by
  have hE:=HE.l;rw[←n.2,←n.1] at hE;rcases hE with⟨hx,_⟩|⟨_,hE⟩
  cases hx;exact hE
 have a7:X (kR G S.r mr mx S.H (S.M.j-0) 0 Rk=Z (R2,b2)):=aV;have aw:=Th A;clear n aV A aD HE M hm K E;obtain⟨R,N,ae⟩:=s.l.e;go_upto_region 16 with fail
 clear R N ae;generalize bA:wr=w6 at *;clear bA;go_loopw [62] (λbL wr=>∃m:Nat,m<=S.M.j/\bL=ι m/\∃Rk j ag ak,X (zZ lo wr j t8 Rk S.r mr mx ⟨.k (Z ⟨g,0,Y⟩) S.M.j S.M.j,tbs,ag,ak⟩)/\X (Tq lo vo w gG wr j)/\X (Rk.I.j=S.M.j)/\X (Ti wr w.o.q #[ι S.r,.k u S.M.j d,.k H S.facts.j k,.k C S.H.j l] 146)/\X (Ti wr t6 #[ν,ι 0,ι 0,ι 0] 152)/\X (kR G S.r mr mx S.H (S.M.j-m) m Rk=Z (R2,b2))) (λi _=>S.M.j-(intOf i).D);exact⟨0,zs _,rfl,Rk,V,ag,ak,ac,L,ai,s,B,a7⟩;clear ac L ai s B a7;obtain⟨m,hm,rfl,Ri,F,bu,bk,ac,L,ai,s,B,bh⟩:=hrel;have K:=L.l.q;have E:=zY ah.l K;by_cases M:m<S.M.j
 .have r:=bh.l;rw[show S.M.j-m=(S.M.j-(m+1))+1 from by omega] at r;unfold kR at r;rcases ay:py G S.r mr mx S.H Ri m with _|ar;rw[ay] at r;cases r;obtain⟨R3,b3⟩:=ar;rw[ay] at r;have aR:=HS.l.rul.mod L.l (mT θ θ) (mT θ θ) (mT θ θ);have aT:=Th (N8 wr F t8 m Ri R3 _ S.H ps S.r mr mx _ G b3 ac.l aR E (by rw[ai.l];exact bK.l) ay);have ap:X (∀Q c,Tq lo vo wr F Q c->Tq lo vo w gG Q c/\Ti Q w.o.q #[ι S.r,.k u S.M.j d,.k H S.facts.j k,.k C S.H.j l] 146/\Ti Q t6 #[ν,ι 0,ι 0,ι 0] 152):=λQ c D=>⟨L.l.A D,s.l.mod D (mT θ θ _),B.l.mod D (mT θ θ _)⟩;obtain⟨R,N,ae⟩:=s.l.e;have a1:(m:Int)<(S.M.j:Int):=η;clear ay aR;cases b3
  .simp only[zt,ye] at r;have HQ:=Th r.2;clear r;go_wp2_with (go_at_call 122;refine aT.l.y ?_;rintro e Q ⟨rfl,c,aW,T,aa,a2,D⟩;obtain⟨J,_,I⟩:=ap.l _ _ D;obtain⟨an,bf,aE⟩:=I.e)
   have A:ab=none:=by rw[aw.l,←HQ.l];rfl
   have al:X (Tq lo vo w gG _ c):=J.newer (zd.sets t6 [ν,ι 0,ι 0,ι 0] 0 Q) (λb hb=>by simp at hb;omega);refine zP (v:=.B #[.agg #[ν,ι 0,ι 0,ι 0],.i false]) (by simp[results,results74,go_sem,an]) rfl ?_;rw[A];exact⟨rfl,c,al.l⟩
  have HQ:X (kR G S.r mr mx S.H (S.M.j-(m+1)) (m+1) R3=Z (R2,b2)):=r;clear r;go_wp2_with (go_at_call 122;refine aT.l.y ?_;rintro e Q ⟨rfl,c,aW,T,aa,a2,D⟩)
  obtain⟨J,ao,I⟩:=ap.l _ _ D;exact⟨⟨m+1,η,ξ,R3,c,aW,T,aa,J,a2.A ai.l,ao,I,HQ⟩,by simp[intOf];omega⟩
 obtain rfl:m=S.M.j:=η;have r:=bh.l;rw[j4] at r;simp only[kR,zt,ye] at r;have A:ab=Z Ri:=by rw[aw.l,←r.2,←r.1];rfl
 have b5:=Th A;clear r A aw;obtain⟨bm,aS,d0,d1,d2,d3,d4,d5,d6,d7⟩:=ac.l.at;obtain⟨an,bf,aE⟩:=B.l.e;dsimp only at d0;clear d4 d5 d6 d7;have bQ:t8≠t6:=λe=>bB e.z;go_wp2;have aI:=zd.sets t6 [.k (Z ⟨g,0,Y⟩) S.M.j S.M.j,ι Ri.count,ι Ri.Q,ι Ri.jg] 0 wr;have bs:Tq lo (dT [152]) wr F _ F:=Tq.ofSave F aI (λb hb=>by
  simp at hb;subst hb;exact⟨by have:=ah.l;omega,aE,_,_,B.l,xL.2 rfl⟩)
 have b6:X (zZ lo _ F t8 Ri S.r mr mx ⟨.k (Z ⟨g,0,Y⟩) S.M.j S.M.j,tbs,bu,bk⟩):=ac.l.mod bs (gI θ) (gI θ) (gI θ) (λ_=>gI θ _) (λ_ t ht q=>by rw[xL.1 q] at ht;exact ht θ);have al:X (Tq lo vo w gG _ F):=L.l.newer aI (λb hb=>by simp at hb;omega);clear aI bs;refine zP (v:=.B #[.agg #[.k (Z ⟨g,0,Y⟩) S.M.j S.M.j,ι Ri.count,ι Ri.Q,ι Ri.jg],.i true]) (by simp[results,results74,go_sem,an]) rfl ?_;rw[b5.l];exact⟨F,t8,⟨.k (Z ⟨g,0,Y⟩) S.M.j S.M.j,tbs,bu,bk⟩,rfl,b6.l,al.l⟩
end
section
open Go.Proofs.Tryz Go.RowKit
variable {lo:Nat}
def zV(ns:κ)(row:zk)(a m:Nat):κ:=(List.range a).w λi=>if i<m then ns.g (row.g i 0) ByteArray.empty else ByteArray.empty
def kN(ns:κ)(row:zk)(a m:Nat):(zV ns row a m).j=a:=by simp[zV]
def RG(ns:κ)(row:zk)(a:Nat):zV ns row a 0=List.replicate a ByteArray.empty:=by
 apply jv;simp[zV];intro i b c;simp[zV]
def Sm(ns:κ)(row:zk)(a m:Nat):(zV ns row a m).set m (ns.g (row.g m 0) ByteArray.empty)=zV ns row a (m+1):=by
 apply jv;simp[zV];intro i c d;simp only[lT];by_cases e:m=i;subst e;simp[zV];rw[za e];simp only[zV,ue,l8];by_cases b:i<m;rw[zb b,zb η];rw[za b,za η]
def II(ns:κ)(row:zk)(a m:Nat)(h:a<=m):zV ns row a (m+1)=zV ns row a m:=by
 apply jv;simp[zV];intro i b c;rw[kN] at b;simp only[zV,ue,l8];rw[zb η,zb η]
attribute [local go_sem] Tg Sz SL
def R9(w:U)(H a x y z:Nat)(ns:κ)(h:Vd lo w H 1 ns)(aa:a<=1000):
  Calls prog 79 #[(π H),.agg #[ι x,ι y,ι z],ι a] w λe I=>∃g,w.o.q<=g/\e=ε (.k (Z (δ g)) a a)/\To w.o.q I (.k (Z (δ g)) a a) (zV ns [x,y,z] a 3)/\μ w I:=by
 have W:=Th h;have G:=h.1;obtain⟨S,V,A,B,E⟩:=info_parts SG;have s:=λW0:U=>run_make (P:=prog) (w:=W0) 30 9 S _ underlying30 V A .i64 .i64 (a:Int) (a:Int) η (Int.le_refl _) (by rw[E];omega) η;rw[B] at s;clear h;go_enter func79,ntmps79;go_upto_region 3 with fail
 have r:μ w ((w.C (.E #[ι x,ι y,ι z] 165)).C (.E (madeCells #[.d ByteArray.empty] a) 9)):=γ;have f:=rQ (w.C (.E #[ι x,ι y,ι z] 165)) a 9 (.d ByteArray.empty) b_;have o:(w.C (.E #[ι x,ι y,ι z] 165)).o.q=w.o.q+1:=ζ;rw[o] at f;have t:X (U.ownsRow ((w.C (.E #[ι x,ι y,ι z] 165)).C (.E (madeCells #[.d ByteArray.empty] a) 9)) w.o.q 9 1 (.k (Z (δ (w.o.q+1))) a a) a ((zV ns [x,y,z] a 0).w O.string)):=by
  rw[X,RG,List.map_replicate];exact yo f η
 clear f o s;generalize ((w.C (.E #[ι x,ι y,ι z] 165)).C (.E (madeCells #[.d ByteArray.empty] a) 9))=w1 at *;generalize hg:w.o.q+1=g at *;have T:w.o.q<g:=η;clear hg;go_loopw [13] (λD wr=>∃m:Nat,m<=3/\D=ι m/\μ w wr/\X (wr.r w.o.q 9 1 (.k (Z (δ g)) a a) a ((zV ns [x,y,z] a m).w O.string))) (λi _=>3-(intOf i).D);exact⟨0,η,rfl,r,t⟩;clear t r;obtain⟨m,hm,rfl,c,k⟩:=hrel;have M:g<wr.o.q:=yF k.l rfl;have L:=vl k.l;have N:=ym G c.q;by_cases R:m<3
 .have HN:=Th λv=>Pw wr H 1 ns v (W.l.u c);by_cases ha:m<a
  .obtain⟨J,Q⟩:∃J,wr.p (ω g m)=Z J:=by
    obtain⟨g',K,p,_,_,n⟩:=yq k.l η;simp only[O.slice.injEq,zt,Addr.mk.injEq,and_true] at p;have e:=p.1;subst e;exact⟨_,n m _ (yn (by simp[zV];omega))⟩
   have d:=uD k.l m (by simp[zV];omega) (.d (ns.g ([x,y,z].g m 0) ByteArray.empty));rw[←lf,Sm] at d;have u:(m:Int)<(a:Int):=η;have l:μ w (wr.x (ω g m) (.d (ns.g ([x,y,z].g m 0) ByteArray.empty))):=c.x υ _;have b:X (_/\_):=And.intro d l;clear d l;have C:m=0∨m=1∨m=2:=η;rcases C with rfl|rfl|rfl
   all_goals (
    go_wp2_with (go_at_call 128;refine(HN.l _).y ?_;rintro e I ⟨rfl,F⟩;obtain rfl:=F.z))
   exact⟨⟨1,η,rfl,by simpa [List.getD] using b.l.2,by have q:=b.l.1;simpa [X,List.getD] using q⟩,by simp[intOf]⟩;exact⟨⟨2,η,rfl,by simpa [List.getD] using b.l.2,by have q:=b.l.1;simpa [X,List.getD] using q⟩,by simp[intOf]⟩;exact⟨⟨3,η,rfl,by simpa [List.getD] using b.l.2,by have q:=b.l.1;simpa [X,List.getD] using q⟩,by simp[intOf]⟩
  have j:X (wr.r w.o.q 9 1 (.k (Z (δ g)) a a) a ((zV ns [x,y,z] a (m+1)).w O.string)):=by
   rw[II ns [x,y,z] a m η];exact k
  have u:¬(m:Int)<(a:Int):=η;have C:m=0∨m=1∨m=2:=η;clear k;rcases C with rfl|rfl|rfl
  all_goals go_wp2
  exact⟨⟨1,η,rfl,c,j⟩,by simp[intOf]⟩;exact⟨⟨2,η,rfl,c,j⟩,by simp[intOf]⟩;exact⟨⟨3,η,rfl,c,j⟩,by simp[intOf]⟩
 obtain rfl:m=3:=η;go_wp2;go_ret;have q:=k.l;exact⟨g,η,rfl,by unfold To;rw[kN];exact q,c⟩
def uQ(ns:κ):κ->Nat->zk->Option zk
 |[],_,r=>Z r
 |t::a,i,r=>match xn ns t with
  |none=>Y
  |some v=>if i≥3 then Y else uQ ns a (i+1) (r.set i v)
def AK:Option zk->O
 |none=>.B #[.agg #[ι 0,ι 0,ι 0],.i false]
 |some r=>.B #[.agg #[ι (r.g 0 0:Nat),ι (r.g 1 0:Nat),ι (r.g 2 0:Nat)],.i true]
def Pm{P:Nat}(w:U)(K:Nat)(ns ts:κ)(tv:O)(h:Vd lo w K 1 ns)(hn:ns.j<=1000)(M:To P w tv ts)(hl:ts.j<=2000000):
  Calls prog 82 #[(π K),tv] w λe L=>e=ε (AK (uQ ns ts 0 [0,0,0]))/\μ w L:=by
 have HC:=Th h;have HT:=Th M;obtain⟨ao,af,rfl⟩:=M.qy;have ab:=h.1;have HV:X (∀W x,μ w W->Calls prog 129 #[.u (Z (ω K 1)),.d x] W λe L=>e=ε (.B #[ι (((xn ns x).g 0:Nat):Int),.i (xn ns x).I])/\μ W L):=λW x hb=>(P5 W K 1 ns x (HC.l.u hb) hn).y (by
  rintro e L ⟨rfl,m,rfl⟩;exact⟨rfl,zI (zn _ _) m⟩)
 obtain⟨f,p⟩:∃f,f=uQ ns ts 0 [0,0,0]:=⟨_,rfl⟩;rw[←p];have F:X (uQ ns (ts.drop 0) 0 [0,0,0]=f):=p.z;clear h M p;go_enter func82,ntmps82;go_upto_region 3 with fail
 have D:μ w ((w.C (.E #[ι 0,ι 0,ι 0] 165)).C (.E #[ι 0,ι 0,ι 0] 165)):=γ;have E:=(Ti.new w #[ι 0,ι 0,ι 0] 165).up (.E #[ι 0,ι 0,ι 0] 165);have B:=(Ti.new (w.C (.E #[ι 0,ι 0,ι 0] 165)) #[ι 0,ι 0,ι 0] 165).at' (b':=w.o.q+1) ζ;have n:X (Ti _ w.o.q #[ι 0,ι 0,ι 0] 165):=E;have t:X (Ti _ (w.o.q+1) #[ι ((0:Nat):Int),ι ((0:Nat):Int),ι ((0:Nat):Int)] 165):=B;clear E B;generalize (w.C (.E #[ι 0,ι 0,ι 0] 165)).C (.E #[ι 0,ι 0,ι 0] 165)=w1 at *;generalize hg:w.o.q+1=t6 at *;have ag:w.o.q<t6:=η;clear hg;go_loopw [13] (λS wr=>∃m:Nat,m<=ts.j/\S=ι m/\∃a b c:Nat,μ w wr/\X (Ti wr w.o.q #[ι 0,ι 0,ι 0] 165)/\X (Ti wr t6 #[ι (a:Nat),ι (b:Nat),ι (c:Nat)] 165)/\X (uQ ns (ts.drop m) m [a,b,c]=f)) (λi _=>ts.j-(intOf i).D);exact⟨0,η,rfl,0,0,0,D,n,t,F⟩;clear n t F D;obtain⟨m,hm,rfl,a,b,c,l,n,t,T⟩:=hrel;have ad:=ym ab l.q;by_cases I:m<ts.j
 .obtain⟨g,N,hg,R⟩:=(HT.l.u l).cell m I;subst N;have o:=T.l;rw[xp I] at o;unfold uQ at o;have ae:(m:Int)<(ts.j:Int):=η;generalize ts[m]=x at *;have k:=HV.l wr x l;rcases J:xn ns x with _|v
  .rw[J] at o k;simp only[kF,kK] at k;have H:X (f=Y):=o.z;clear o J;go_wp2_with (go_at_call 129;refine k.y ?_;rintro e w4 ⟨rfl,d⟩;have y:=n.l.u d;obtain⟨z,G,C⟩:=y.e;have j:=Tl l d)
   refine zP (v:=.B #[.agg #[ι 0,ι 0,ι 0],.i false]) (by simp[results,results82,go_sem,z]) rfl ?_;rw[H.l];exact⟨rfl,((j.x ζ _).x ζ _).x ζ _⟩
  rw[J] at o k;simp only[uE,j6] at k;clear J;by_cases h3:m≥3
  .have H:=Th (show f=Y by simpa [h3] using o.z);have ac:(3:Int)<=(m:Int):=η;clear o;go_wp2_with (go_at_call 129;refine k.y ?_;rintro e w4 ⟨rfl,d⟩;have y:=n.l.u d;obtain⟨z,G,C⟩:=y.e;have j:=Tl l d)
   refine zP (v:=.B #[.agg #[ι 0,ι 0,ι 0],.i false]) (by simp[results,results82,go_sem,z]) rfl ?_;rw[H.l];exact⟨rfl,((j.x ζ _).x ζ _).x ζ _⟩
  have A:=Th (show uQ ns (ts.drop (m+1)) (m+1) ([a,b,c].set m v)=f by simpa [h3] using o);clear o T;have hc:m=0∨m=1∨m=2:=η;rcases hc with rfl|rfl|rfl
  all_goals go_wp2_with (go_at_call 129;refine k.y ?_;rintro e w4 ⟨rfl,d⟩;have r:=t.l.u d;have s:=Th (n.l.u d);have u:=Th r;obtain⟨V,aa,Q⟩:=r.e;have j:=Tl l d;clear r)
  exact⟨⟨1,η,rfl,v,b,c,j.x υ _,s.l.set_ne η _ _,by have q:=u.l.set 0 (ι v);simpa [X] using q,A⟩,by simp[intOf];omega⟩;exact⟨⟨2,η,rfl,a,v,c,j.x υ _,s.l.set_ne η _ _,by have q:=u.l.set 1 (ι v);simpa [X] using q,A⟩,by simp[intOf];omega⟩;exact⟨⟨3,η,rfl,a,b,v,j.x υ _,s.l.set_ne η _ _,by have q:=u.l.set 2 (ι v);simpa [X] using q,A⟩,by simp[intOf];omega⟩
 obtain rfl:m=ts.j:=η;have o:=T.l;rw[List.drop_length,uQ] at o;have H:X (f=Z [a,b,c]):=o.z;clear o;obtain⟨z,G,C⟩:=n.l.e;obtain⟨V,aa,Q⟩:=t.l.e;have ah:t6≠w.o.q:=η;go_wp2;refine zP (v:=.B #[.agg #[ι a,ι b,ι c],.i true]) (by simp[results,results82,go_sem,z]) rfl ?_;rw[H.l];exact⟨rfl,((l.x ζ _).x ζ _).x ζ _⟩
end
section
open Go.Proofs.Tryz Go.RowKit
variable {lo lp:Nat}{ns:κ}{tbs:List Nat}
structure kz (lo lp:Nat) (w:U) (rb:Nat) (t:List zg) (ns:κ) (R:zv) (pv nv rv:O) (tbs:List Nat):Prop where
 low:lo<=rb
 box:Ti w rb #[pv,nv,rv,ι R.count,ι R.Q,ι R.jg] 156
 preds:w.r lp 221 3 pv t.j (uo t)
 vals:To lo w nv ns
 I:w.r lo 162 1 rv R.I.j (T2 tbs)
 tlen:tbs.j=R.I.j
 tries:∀p (_:p<R.I.j) (_:p<tbs.j),∃fp,yb lo w tbs[p] R.I[p] fp
 K:t.j<=1000/\ns.j<=1000/\R.I.j<=1000
def kz.u{w w':U}{g:Nat}{t:Ψ}{ns:κ}{R:zv}{d f e:O}{tbs:Φ}(h:kz lo lp w g t ns R d f e tbs)(c:μ w w'):kz lo lp w' g t ns R d f e tbs:=
 ⟨h.low,h.box.u c,zy h.preds c,h.vals.u c,zy h.I c,h.tlen,λp a b=>by obtain⟨i,q⟩:=h.tries p a b;exact⟨i,q.u c⟩,h.K⟩
def kz.tg{w:U}{b:Nat}{t:Ψ}{R:zv}{a d c:O}(h:kz lo lp w b t ns R a d c tbs):TG lp w b 0 t:=⟨a,h.box.lt,h.box.H.1 0,h.preds⟩
def kz.cat{w:U}{b:Nat}{t:Ψ}{R:zv}{c a d:O}(h:kz lo lp w b t ns R c a d tbs):Vd lo w b 1 ns:=⟨h.box.lt,a,h.box.H.1 1,h.vals⟩
def pu(t:List zg)(ns:κ)(R:zv)(a:ByteArray)(row:κ):Nat×Nat:=
 if (zU t a).I=false∨zB t a≥R.I.j then(0,11)
 else if row.j≠yc t (zB t a) then(0,12)
 else match uQ ns row 0 [0,0,0] with
  |none=>(0,12)
  |some r=>match uf (R.I.g (zB t a) zl.zero) r with
   |none=>(0,12)
   |some k=>(k,0)
def DA(ns:κ):∀(ts:κ) (i:Nat) (r a:zk),uQ ns ts i r=Z a->a.j=r.j
 |[],i,r,a,h=>by simp[uQ] at h;rw[h]
 |t::ts,i,r,a,h=>by
  unfold uQ at h;split at h
  .cases h
  .split at h
   .cases h
   .have:=DA ns ts (i+1) _ a h;simpa using this
def oi(w:U):μ w w:=zn _ _
def RH{an:Nat}(w:U)(C:Nat)(t:Ψ)(ns:κ)(R:zv)(pv nv rv:O)(tbs:Φ)(b:ByteArray)(row:κ)(tv:O)(h:kz lo lp w C t ns R pv nv rv tbs)(ht:To an w tv row)(hl:row.j<=2000000):
  Calls prog 43 #[(π C),.d b,tv] w λe f=>e=ε (.B #[ι ((pu t ns R b row).1:Nat),ι ((pu t ns R b row).2:Nat)])/\μ w f:=by
 have l:=Th (eF lp w C 0 t b h.tg h.K.1);have B:X (Calls prog 80 #[(π C),ι (zB t b:Nat)] w λe f=>e=ε (ι (yc t (zB t b):Nat))/\f=w):=Aw lp w C 0 t _ h.tg;have o:=Th (Pm w C ns row tv h.cat h.K.2.1 ht hl);have I:=Th h;obtain⟨aw,s⟩:∃a,a=pu t ns R b row:=⟨_,rfl⟩;rw[←s];have c:=Th s;clear s;unfold pu at c;obtain⟨hc,hf,ac⟩:=h.box.e;obtain⟨av,u,ai⟩:=zr h.I;subst ai;obtain⟨ax,au,ad⟩:=ht.qy;subst ad;have d2:=hc 2;have aq:=h.K.2.2;clear h ht hc;by_cases E:(zU t b).I=false
 .rw[zb (zh E)] at c;rw[E] at l;clear E;generalize zB t b=g at *;go_enter func43,ntmps43;go_wp2_with (go_at_call 77;refine l.l.y ?_;rintro e G ⟨rfl,d⟩;obtain rfl:=d.z)
  go_ret2
  exact⟨by rw[c.l];rfl,oi w⟩
 have F:(zU t b).I=true:=by cases D:(zU t b).I with|true=>rfl|false=>exact zC D E
 rw[F] at l;by_cases V:zB t b≥R.I.j
 .rw[zb (ze V)] at c;have al:(R.I.j:Int)<=(zB t b:Int):=η;clear E F;generalize zB t b=g at *;go_enter func43,ntmps43;go_wp2_with (go_at_call 77;refine l.l.y ?_;rintro e G ⟨rfl,d⟩;obtain rfl:=d.z)
  go_ret2
  exact⟨by rw[c.l];rfl,oi w⟩
 rw[za (by rintro(q|q);exact E q;exact V q)] at c;have al:¬(R.I.j:Int)<=(zB t b:Int):=η;clear E F;generalize zB t b=g at *;by_cases A:row.j≠yc t g
 .rw[zb A] at c;have ab:¬(row.j:Int)=(yc t g:Int):=η;clear A;generalize yc t g=af at *;go_enter func43,ntmps43;go_wp2_with (first|(go_at_call 77;refine l.l.y ?_;rintro e G ⟨rfl,d⟩;obtain rfl:=d.z)|(go_at_call 80;refine B.l.y ?_;rintro e G ⟨rfl,d⟩;obtain rfl:=d.z))
  go_ret2
  exact⟨by rw[c.l];rfl,oi w⟩
 rw[za A] at c;have ab:(row.j:Int)=(yc t g:Int):=η;have ag:=Th (show row.j=yc t g by omega);rw[←ag.l] at B;clear A ab;rcases p:uQ ns row 0 [0,0,0] with _|r
 .rw[p] at c o;simp only[AK] at o;clear p;go_enter func43,ntmps43;go_wp2_with (first|(go_at_call 77;refine l.l.y ?_;rintro e G ⟨rfl,d⟩;obtain rfl:=d.z)|(go_at_call 80;refine B.l.y ?_;rintro e G ⟨rfl,d⟩;obtain rfl:=d.z)|(go_at_call 82;refine o.l.y ?_;rintro e i ⟨rfl,k⟩))
  go_ret2
  exact⟨by rw[c.l];rfl,zT k γ (zf _)⟩
 rw[p] at c o;have S:=DA ns row 0 _ r p;obtain⟨x,y,z,rfl⟩:∃x y z,r=[x,y,z]:=by
  match r,S with
  |[x,y,z],_=>exact⟨x,y,z,rfl⟩
 simp only[AK,List.getD_cons_zero,List.getD_cons_succ] at o;have J:g<R.I.j:=η;have W:g<tbs.j:=by rw[I.l.tlen];exact J
 obtain⟨M,ao,K,_,T,N⟩:=yq I.l.I η;simp only[O.slice.injEq] at K;have am:=K.1;clear K;subst am;have ak:=N g (.u (Z ⟨tbs[g],0,Y⟩)) (by simp[T2,W,pt]);have aa:X (∀v,μ w v->Calls prog 83 #[.u (Z ⟨tbs[g],0,Y⟩),.agg #[ι x,ι y,ι z]] v λe f=>e=ε (.B #[ι (((uf R.I[g] [x,y,z]).g 0:Nat):Int),.i (uf R.I[g] [x,y,z]).I])/\μ v f):=λv hb=>by
  obtain⟨fp,q⟩:=I.l.tries g J W;exact Fu v _ _ fp x y z (q.u hb)
 dsimp only at c;rw[show R.I.g g zl.zero=R.I[g] by simp[List.getD,J]] at c;generalize uf R.I[g] [x,y,z]=mk at *;generalize tbs[g]=tb at *;have ar:(g:Int)<(R.I.j:Int):=η;clear p S N;go_enter func43,ntmps43;go_upto_region 9 with (first|(go_at_call 77;refine l.l.y ?_;rintro e G ⟨rfl,d⟩;obtain rfl:=d.z)|(go_at_call 80;refine B.l.y ?_;rintro e G ⟨rfl,d⟩;obtain rfl:=d.z)|(go_at_call 82;refine o.l.y ?_;rintro e i ⟨rfl,k⟩;have y2:=zi k ac d2;have yp:=zi k T ak;have yl:=ym ac k.q;have yg:=ym T k.q))
 have n:μ i (i.C (.E #[ι x,ι y,ι z] 165)):=γ;have j:=Ti.new i #[ι x,ι y,ι z] 165;generalize i.C (.E #[ι x,ι y,ι z] 165)=P at *;have u2:=zi n yl y2;have up:=zi n yg yp;have v0:P.p ⟨i.o.q,0,Y⟩=Z (ι x):=by rw[j.H.1];rfl
 have v1:P.p ⟨i.o.q,1,Y⟩=Z (ι y):=by rw[j.H.1];rfl
 have v2:P.p ⟨i.o.q,2,Y⟩=Z (ι z):=by rw[j.H.1];rfl
 have Q:=Tl k n;have ae:=ym yl n.q;have ah:=ym yg n.q;have H:=j.lt;have m:X (∀v,μ P v->Calls prog 83 #[(π tb),.agg #[ι x,ι y,ι z]] v λe f=>e=ε (.B #[ι ((mk.g 0:Nat):Int),.i mk.I])/\X (μ w f)/\f.p ⟨C,2,Y⟩=Z (.k (Z ⟨M,0,Y⟩) R.I.j u)/\f.p ⟨M,g,Y⟩=Z ((π tb))/\f.p ⟨i.o.q,0,Y⟩=Z (ι x)/\f.p ⟨i.o.q,1,Y⟩=Z (ι y)/\f.p ⟨i.o.q,2,Y⟩=Z (ι z)):=λv hb=>by
  refine(aa.l v (Tl Q hb)).y ?_;rintro e f ⟨rfl,aj⟩;have D:=Tl hb aj;exact⟨rfl,Tl Q D,(D.cell ae).A u2,(D.cell ah).A up,(D.cell H).A v0,(D.cell H).A v1,(D.cell H).A v2⟩
 clear j n y2 yp yl yg aa;rcases mk with _|kk
 .simp only[kF,kK] at m;go_region_held3 (λf=>f.p ⟨C,2,Y⟩=Z (.k (Z ⟨M,0,Y⟩) R.I.j u)/\f.p ⟨M,g,Y⟩=Z ((π tb))/\f.p ⟨i.o.q,0,Y⟩=Z (ι x)/\f.p ⟨i.o.q,1,Y⟩=Z (ι y)/\f.p ⟨i.o.q,2,Y⟩=Z (ι z)) (first|go_keep|(go_simp;done)) (first|(go_at_call 83;refine(m.l _ (by exact(zI (zn _ _) 1))).y ?_;rintro e w5 ⟨rfl,L,a2,ap,a0,a1,a3⟩))
  go_wp2;go_ret2
  exact⟨by rw[c.l];rfl,L.l⟩
 simp only[uE,j6] at m;go_region_held3 (λf=>f.p ⟨C,2,Y⟩=Z (.k (Z ⟨M,0,Y⟩) R.I.j u)/\f.p ⟨M,g,Y⟩=Z ((π tb))/\f.p ⟨i.o.q,0,Y⟩=Z (ι x)/\f.p ⟨i.o.q,1,Y⟩=Z (ι y)/\f.p ⟨i.o.q,2,Y⟩=Z (ι z)) (first|go_keep|(go_simp;done)) (first|(go_at_call 83;refine(m.l _ (by exact(zI (zn _ _) 1))).y ?_;rintro e w5 ⟨rfl,L,a2,ap,a0,a1,a3⟩))
 go_wp2;go_ret2
 exact⟨by rw[c.l];rfl,L.l⟩
end
section
open Classical
def L7{S:qY}(P:DB->Prop)(j:P (zz3 S.facts))(hs:∀s k D,P D->P (zy4 (S.H.filter λr=>decide (r.L=s)) k D)){mr mx:Nat}{D:DB}{k:Nat}(h:z0n S mr mx=Z (D,k)):P D:=by
 have l:∀s (left k:Nat) (D a:DB) (b:Nat),P D->zyo (S.H.filter λr=>decide (r.L=s)) mr left k D=Z (a,b)->P a:=by
  intro s left;induction left with
  |zero=>intro k D a b _ h;cases h
  |succ left d=>
   intro k D a b c h;unfold zyo at h;split at h;split at h;simp only[zt,ye] at h;rw[←h.1];exact hs s _ D c;exact d (k+1) _ a b (hs s _ D c) h;cases h
 have i:∀(n s k:Nat) (D a:DB) (b:Nat),P D->zyq S.H mr mx n s k D=Z (a,b)->P a:=by
  intro n;induction n with
  |zero=>
   intro s k D a b c h;unfold zyq at h;simp only[zt,ye] at h;rw[←h.1];exact c
  |succ n d=>
   intro s k D a b c h;unfold zyq at h;split at h;exact d (s+1) k D a b c h;split at h;cases h;rename_i f e g;exact d (s+1) e f a b (l s _ k D f e c g) h
 unfold z0n at h;split at h;exact i _ 0 0 _ D k j h;cases h
def wF(a:List Nat)(n:Nat)(D:DB):Prop:=∀p x,Tr D p x->∀i,i<a.g p 0->x.g i 0<n
def Cw{cs:Ξ}{c:zc}(m:c∈cs){l:zj}(g:l∈zm c)(t:Ψ)(vs:κ)(b:Φ):∀x∈(zL t (zp cs) vs b l).v,x.var=false->x.z<(zp cs).j:=by
 intro x d e;unfold zL at d;simp only[zF] at d;obtain⟨z,f,rfl⟩:=d;unfold ur at f;obtain⟨y,j,rfl⟩:=zF.1 f;obtain⟨o,p⟩:=pz 0 (ur (zp cs) vs b l) (uR (zp cs) vs b y);obtain⟨k,i⟩:=ff cs;unfold uR at e ⊢;by_cases a:zQ y=true;rw[zb a] at e;cases e;rw[za a];obtain⟨v,n,h⟩:=GH k ((i y).2 ⟨c,m,l,g,j,by simpa using a⟩);rw[n];exact h
def Gl{l:zw}{a W n:Nat}(h:qA l a W)(c:∀x∈l.v,x.var=false->x.z<n){y:Φ}(g:∀p,zK l p=true->y.g p 0<n):∀i,i<a->(zH l y).g i 0<n:=by
 intro i f;have b:i<l.v.j:=by rw[h.len];exact f
 rw[tK l y (by have:=h.le3;omega)];unfold Tk;rw[zb b,show l.v.g i ⟨false,0,0⟩=l.v[i] by simp[List.getD,b]];have d:=zq b;unfold U1;cases e:l.v[i].var;rw[za ζ];exact c _ d e;rw[zb (by simp[(h.lev _ d e).1])];exact g _ ((fH l _).2 ⟨_,d,e,rfl⟩)
def M7{cs:Ξ}{t0 t:Ψ}(h:T0 cs t0 t)(os:Option (List (Option (List Int))))(hp:∀i (w:i<cs.j),ka (yH ((un os i).g [])) (zx cs[i]).j){mr mx:Nat}{D:DB}{k:Nat}(hr:z0n (vf t (zp cs) os cs) mr mx=Z (D,k)):wF (t.w (·.jh)) (zp cs).j D:=by
 have u:=tP h (zp cs) os hp;refine L7 (S:=vf t (zp cs) os cs) (λD=>wF (t.w (·.jh)) (zp cs).j D) ?_ ?_ hr;intro p x g i w;unfold Tr zz3 at g;split at g;rename_i R;obtain⟨f,T,rfl,rfl⟩:=R;have z:=T;unfold vx at z;obtain⟨c,N,rfl⟩:=zF.1 z;have b:=(xy.1 N).1;have hb:c.d=[]:=by
  have:=(xy.1 N).2;simp at this;exact this
 obtain⟨e,_,_,q3,W,_⟩:=h.lit b (l:=c.g) (by simp[zm]);have H:i<c.g.k.j:=by
  have d:i<(t.w (·.jh)).g (zB t c.g.o) 0:=w;rw[W] at d;exact d
 have a:qA (zL t (zp cs) [] [0,0,0,0,0] c.g) c.g.k.j (zM (zp cs).j):=iW t _ [] _ c.g (λk=>by
  by_cases hk:k<5;have:k=0∨k=1∨k=2∨k=3∨k=4:=η;rcases this with rfl|rfl|rfl|rfl|rfl<;>decide
  simp[List.getD,List.getElem?_eq_none (show([0,0,0,0,0]:Φ).j<=k by simp;omega)]) (nu (h.many c b)).1
 refine Gl a (Cw b (by simp[zm]) t [] _) (λp n=>?_) i H;obtain⟨y,G,P,_⟩:=o4.1 n;have K:=h.safe c b;simp only[xB,uI] at K;have:=n8.1 K.1 y G P;have v:zx c=[]:=by unfold zx;rw[hb];rfl
 rw[v] at this;cases this;cases g;intro s k D J p x g i w;unfold Tr zy4 at g;rcases q:D p x with _|m;rw[q] at g;simp only at g;split at g;rename_i E;obtain⟨r,C,rfl,y,G,P,rfl⟩:=E;have o:=(xy.1 C).1;have a:=u.H.H r o;unfold uP at o;obtain⟨⟨c,j⟩,h1,B⟩:=mM.1 o;have h3:=se.1 h1;have b:=ft h3;split at B;simp only[zt] at B;subst B;refine Gl a.g (Cw b (by simp[zm]) t _ _) (λp n=>?_) i w;obtain⟨l,L,V⟩:=a.fine.safe p (a.fine.g p n);obtain⟨tm,I,M,Q⟩:=(fH l p).1 V;obtain⟨F,d,rfl⟩:=vh I;obtain⟨w1,A⟩:=a.qc l L;have:=J l.o (zH l y) (G l L) F (by have:=A.len;have q:=d;rw[this] at q;exact q);rw[tK l y (by have:=A.len;have:=A.le3;omega)] at this;unfold Tk at this;rw[zb d,show l.v.g F ⟨false,0,0⟩=l.v[F] by simp[List.getD,d]] at this;unfold U1 at this;rw[zb (by simp[M,(A.lev _ I M).1]),Q] at this;exact this;cases B;cases g;exact J p x (by unfold Tr;rw[q];rfl) i w
def lL{ns:κ}(n:y6 ns){d:Nat}(o:d<=3){r:zk}(j:T1 d r)(l:∀i,i<d->r.g i 0<ns.j):uQ ns (zV ns r d 3) 0 [0,0,0]=Z r:=by
 obtain⟨x,y,z,rfl⟩:∃x y z,r=[x,y,z]:=by
  match r,j.1 with
  |[x,y,z],_=>exact⟨x,y,z,rfl⟩
 have e:=j.2;have f:=λi (q:i<d)=>tW n (l i q);have m:d=0∨d=1∨d=2∨d=3:=η;rcases m with rfl|rfl|rfl|rfl;have a:=e 0 η;have b:=e 1 η;have c:=e 2 η;simp at a b c;subst a;subst b;subst c;rfl;have b:=e 1 η;have c:=e 2 η;simp at b c;subst b;subst c;have g:xn ns (ns[x]?.g ByteArray.empty)=Z x:=by have:=f 0 η;simpa using this
 simp[zV,uQ,g];have c:=e 2 η;simp at c;subst c;have g:xn ns (ns[x]?.g ByteArray.empty)=Z x:=by have:=f 0 η;simpa using this
 have h:xn ns (ns[y]?.g ByteArray.empty)=Z y:=by have:=f 1 η;simpa using this
 simp[zV,uQ,g,h,List.range_succ];have g:xn ns (ns[x]?.g ByteArray.empty)=Z x:=by have:=f 0 η;simpa using this
 have h:xn ns (ns[y]?.g ByteArray.empty)=Z y:=by have:=f 1 η;simpa using this
 have k:xn ns (ns[z]?.g ByteArray.empty)=Z z:=by have:=f 2 η;simpa using this
 simp[zV,uQ,g,h,k,List.range_succ]
end
section
open Go.Proofs.Tryz Go.RowKit
variable {lo lp:Nat}{a1 a2 a3:Option Addr}{ps:List (O×O×O)}
structure LY (S:qY):Prop where
 H:ww S.M.j S.H
 many:S.M.j<=1000
 small:∀a∈S.M,a<=100000000
 I:∀f∈S.facts,f.row.j=3
 facts:S.facts.j<=1000000
 r:S.r<=1000
structure tn (cs:List zc) (t:List zg) (os:Option (List (Option (List Int)))):Prop where
 len:cs.j<=1000
 names:t.j<=1000
 fine:∀c∈cs,qb c
 sums:∀c∈cs,c.g.k.j+xj c.d<=1000/\c.d.j<=900
 K:G5 cs
 vals:(zp cs).j<=1000
 jm:∀n,xM t n<=1000000
 ords:(os.g []).j<=2000000
 each:∀o∈os.g [],(o.g []).j<=2000000
 ordok:vw cs os=true->∀o∈os.g [],(o.g []).j<=1000
 set:vw cs os=true->LY (vf t (zp cs) os cs)
def p5(a w:U)(S:qY)(s:O):Prop:=∃(b c:Nat) (a1:Option Addr) (f:Nat) (a2:Option Addr) (d:Nat) (a3:Option Addr) (e:Nat) (ps:List (O×O×O)),s=(π c)/\a.o.q<=c/\a.o.q<=b/\b<=w.o.q/\Ti w c #[ι S.r,.k a1 S.M.j f,.k a2 S.facts.j d,.k a3 S.H.j e] 146/\X (gX b w (.k a1 S.M.j f) (.k a2 S.facts.j d) (.k a3 S.H.j e) S ps)/\X (μ a w)
def gX.saveT{w w':U}{f d e:O}{S:qY}{ps:List (O×O×O)}{T:TypeId}{M:Φ}(h:gX lo w f d e S ps)(hs:zd M w w')(c:T3 w T M)(i:3≠T)(g:210≠T)(j:284≠T)(b:204≠T)(a:207≠T):gX lo w' f d e S ps:=⟨yL h.ari hs c i,yL h.fac hs c g,h.rul.saveT hs c j b a⟩
def gX.u{w w':U}{d b c:O}{S:qY}{ps:List (O×O×O)}(h:gX lo w d b c S ps)(a:μ w w'):gX lo w' d b c S ps:=⟨zy h.ari a,zy h.fac a,h.rul.u a⟩
def p5.one{e W a:U}{S:qY}{d b c:Nat}(g:μ e W)(i:μ W a)(h:gX W.o.q a (.k a1 S.M.j d) (.k a2 S.facts.j b) (.k a3 S.H.j c) S ps):p5 e (a.C (.E #[ι S.r,.k a1 S.M.j d,.k a2 S.facts.j b,.k a3 S.H.j c] 146)) S (.u (Z (δ a.o.q))):=by
 have f:μ a (a.C (.E #[ι S.r,.k a1 S.M.j d,.k a2 S.facts.j b,.k a3 S.H.j c] 146)):=(zn _ _).C (zf _) _;have j:=g.q;have l:=i.q;have k:=f.q;exact⟨W.o.q,a.o.q,a1,d,a2,b,a3,c,ps,rfl,η,j,η,Ti.new _ _ _,h.u f,Tl (Tl g i) f⟩
def p5.two{g W f:U}{a:Nat}{s o u r:O}{S:qY}{d c e:Nat}(b:g.o.q<=a)(n:μ g W)(j:μ W f)(m:Ti f a #[s,o,u,r] 146)(h:gX W.o.q f (.k a1 S.M.j d) (.k a2 S.facts.j c) (.k a3 S.H.j e) S ps):p5 g ((((f.x (δ a) (ι S.r)).x (ω a 1) (.k a1 S.M.j d)).x (ω a 2) (.k a2 S.facts.j c)).x (ω a 3) (.k a3 S.H.j e)) S ((π a)):=by
 have t:=n.q;have v:=j.q;have i:=m.set 0 (ι S.r);have k:=i.set 1 (.k a1 S.M.j d);have l:=k.set 2 (.k a2 S.facts.j c);have q:=l.set 3 (.k a3 S.H.j e);have p:gX W.o.q ((((f.x (δ a) (ι S.r)).x (ω a 1) (.k a1 S.M.j d)).x (ω a 2) (.k a2 S.facts.j c)).x (ω a 3) (.k a3 S.H.j e)) (.k a1 S.M.j d) (.k a2 S.facts.j c) (.k a3 S.H.j e) S ps:=(((h.saveT (zd.set _ _ _ (ι S.r)) (T3.box m) θ θ θ θ θ).saveT (zd.set _ _ _ (.k a1 S.M.j d)) (T3.box i) θ θ θ θ θ).saveT (zd.set _ _ _ (.k a2 S.facts.j c)) (T3.box k) θ θ θ θ θ).saveT (zd.set _ _ _ (.k a3 S.H.j e)) (T3.box l) θ θ θ θ θ;exact⟨W.o.q,a,a1,d,a2,c,a3,e,ps,rfl,b,t,by simp;omega,by simpa using q,p,((((Tl n j).x b _).x b _).x b _).x b _⟩
def Tq.belowLo{ok:TypeId->zo->Prop}{w w':U}{own own':Nat->zo}(h:Tq lo ok w own w' own')(a:lo<=w.o.q):Below lo w w':=by
 obtain⟨_,M,e,d⟩:=h;exact e.u (λb c=>(d b c).1) a
def Rq(lp pb:Nat)(t:List zg)(ns:κ)(b:Option zv)(w:U)(e:Ending)(w':U):Prop:=match b with
 |none=>e=ε (.B #[.u Y,ι 10])/\μ w w'
 |some R=>∃d c g f a,w.p ⟨pb,1,Y⟩=Z c/\e=ε (.B #[(π d),ι 0])/\kz w.o.q lp w' d t ns R c g f a/\μ w w'
def KO(w:U)(f g:O)(a b:Int)(c:-9223372036854775808<=a/\a<9223372036854775808)(d:-9223372036854775808<=b/\b<9223372036854775808)(h:a<0∨1048576<a∨b<0∨1048576<b):
  Calls prog 35 #[f,g,ι a,ι b] w λe i=>e=ε (.B #[.u Y,ι 8])/\i=w:=by
 go_enter func35,ntmps35;by_cases j:a<0
 .go_wp2;go_ret2
  exact⟨rfl,rfl⟩
 by_cases l:1048576<a
 .go_wp2;go_ret2
  exact⟨rfl,rfl⟩
 by_cases k:b<0
 .go_wp2;go_ret2
  exact⟨rfl,rfl⟩
 have m:1048576<b:=η;go_wp2;go_ret2
 exact⟨rfl,rfl⟩
def Rw(w:U)(pb:Nat)(cs:Ξ)(t:Ψ)(h:O)(os:Option (List (Option (List Int))))(a j:Nat)(m:qX lp w pb cs t)(l:jZ w h os)(c:tn cs t os)(i:vw cs os=false)(u:a<=1048576)(v:j<=1048576):
  Calls prog 35 #[(π pb),h,ι a,ι j] w λe k=>e=ε (.B #[.u Y,ι 9])/\μ w k:=by
 obtain⟨_,o,p,d,f,_⟩:=m;have b:=Th (D5 w o h cs os f c.fine c.len l c.ords c.each);rw[i] at b;obtain⟨s,q,n⟩:=d.e;clear i;go_enter func35,ntmps35;go_wp2_with (go_at_call 71;refine b.l.y ?_;rintro e r ⟨rfl,g⟩)
 go_ret2
 exact⟨rfl,g⟩
def OA(w:U)(pb:Nat)(cs:Ξ)(t:Ψ)(ov:O)(os:Option (List (Option (List Int))))(h qm ad:Nat)(J:Option zv)(hP:qX lp w pb cs t)(ho:jZ w ov os)(i:tn cs t os)(G:vw cs os=true)(h1:h<=1048576)(o:qm<=1048576)(aD:lp<=w.o.q)(hr:pn ad (vf t (zp cs) os cs) h qm=Z J):
  Calls prog 35 #[(π pb),ov,ι h,ι qm] w λe j=>Rq lp pb t (zp cs) J w e j:=by
 have HP:=Th hP;obtain⟨_,cv,pv,z,H,ak⟩:=hP;have an:=Th (D5 w cv ov cs os H i.fine i.len ho i.ords i.each);rw[G] at an;have aw:=Th λW hW=>RQ W cv cs (H.u hW) i.K;have az:=Th λW cb hW hC=>Sk W pb 1 cb t (zp cs) cs cv ov os ⟨pv,(z.u hW).lt,(z.u hW).H.1 1,zy ak hW⟩ hC i.names i.vals (H.u hW) i.sums i.len (ho.u hW) i.ords (i.ordok G) i.jm;have l:=Th (i.set G);have aC:X ((zp cs).j<=1000/\t.j<=1000):=⟨i.vals,i.names⟩;have a0:=Th hr;obtain⟨hc,hf,v⟩:=z.e;have d0:=hc 0;have d1:=hc 1;simp only[m6,l9,np] at d0 d1;clear G hr hc i H ho;generalize vf t (zp cs) os cs=S at *;generalize zp cs=P at *;have aP:=Th z;have a9:=Th ak;clear z ak;go_enter func35,ntmps35;go_upto_region 6 with (first|(go_at_call 71;refine an.l.y ?_;rintro e w1 ⟨rfl,u⟩;have y0:=zi u v d0;have yl:=ym v u.q)|(go_at_call 72;refine(aw.l _ u).y ?_;rintro e w2 ⟨v2,rfl,ar,a7⟩;obtain⟨k,g,rfl⟩:=ar.qy))
 obtain⟨T,ae⟩:∃T,T=w2.C (.E #[.k k P.j g] 141):=⟨_,rfl⟩;have aj:μ w2 (w2.C (.E #[.k k P.j g] 141)):=γ;have I:=Ti.new w2 #[.k k P.j g] 141;have am:=(ar.u aj).low (show w.o.q<=w1.o.q from u.q);have aq:=Tl u a7;have r:=Tl aq aj;have aK:=aq.q;rw[←ae] at I am r;rw[←ae];generalize w2.o.q=cb at *;have ao:=Th I;have al:=Th am;have x0:=zi r v d0;have au:=I.lt;have xl:=ym v r.q;have ac:X (∀W,μ T W->Calls prog 73 #[cv,.u (Z ⟨pb,1,Y⟩),(π cb),ov] W λe j=>∃a1 N a2 c2 a3 c3 ps,e=ε (.agg #[ι S.r,.k a1 S.M.j N,.k a2 S.facts.j c2,.k a3 S.H.j c3])/\X (gX W.o.q j (.k a1 S.M.j N) (.k a2 S.facts.j c2) (.k a3 S.H.j c3) S ps)/\μ W j/\j.p ⟨pb,0,Y⟩=Z cv):=λW G=>by
  refine(az.l W cb (Tl r G) ⟨zY aD aK,_,ao.l.u G,(al.l.u G).low aD⟩).y ?_;rintro e j ⟨av,fv,rv,ps,h1,o,h3⟩;have hq:=Tl G h3;obtain⟨a1,N,rfl⟩:=zr o.ari;obtain⟨a2,c2,rfl⟩:=zr o.fac;obtain⟨a3,c3,rfl⟩:=zr o.rul.own;exact⟨a1,N,a2,c2,a3,c3,ps,h1,o,h3,(hq.cell xl).A x0⟩
 clear ae I am aj aw an az y0 yl ar a7 u aq w1 w2 d0;go_cut [11] from 40 to 48 (λaF wx=>p5 T wx S aF)
 .go_region_held3 (λj=>j.p ⟨pb,0,Y⟩=Z cv) (first|go_keep|(go_simp;done)) (first|(go_at_call 73;refine(ac.l _ γ).y ?_;rintro e w4 ⟨a1,N,a2,c2,a3,c3,ps,rfl,B,ai,z0⟩;(try (with_reducible refine Ti.carry (Ti.drew (Ti.new T #[ι 0,ν,ν,ν] 146)) ai ?_;intro a6;obtain⟨aM,aN,aL⟩:=a6.e))))
  all_goals
   go_wp2_with fail
   go_meet
   first|exact p5.one (W:=T.drew) γ ai B.l|exact p5.two (zf _) (W:=(T.C (.E #[ι 0,ν,ν,ν] 146)).drew) γ ai a6 B.l
 clear ac x0;obtain⟨fl,sb,a1,N,a2,c2,a3,c3,ps,rfl,aQ,a8,ag,a4,B,af⟩:=hcut;have L:=Th (UZ wc S ps _ _ _ h qm ad J B.l ag l.l.H l.l.many l.l.small l.l.I l.l.facts ⟨l.l.r,h1,o⟩ a0.l);obtain⟨aH,aJ,aG⟩:=a4.e;have ah:=Tl r af.l;have aO:=Th au;have F:=zY r.q a8;clear B l a0 au xl;rcases J with _|R
 .have n:X (Calls prog 74 #[.agg #[ι S.r,.k a1 S.M.j N,.k a2 S.facts.j c2,.k a3 S.H.j c3],ι h,ι qm] wc λe j=>e=ε (.B #[.agg #[ν,ι 0,ι 0,ι 0],.i false])/\Below fl wc j):=by
   refine L.l.y ?_;rintro e j ⟨h1,ay,o⟩;exact⟨h1,o.belowLo ag⟩
  clear L;go_wp2_with (go_at_call 74;refine n.l.y ?_;rintro e K ⟨rfl,C⟩)
  go_ret2
  exact⟨rfl,zT (ah.A (C.y F)) γ (zf _)⟩
 have n:X (Calls prog 74 #[.agg #[ι S.r,.k a1 S.M.j N,.k a2 S.facts.j c2,.k a3 S.H.j c3],ι h,ι qm] wc λe j=>∃d c f,e=ε (.B #[.agg #[.k d R.I.j c,ι R.count,ι R.Q,ι R.jg],.i true])/\X (j.r fl 162 1 (.k d R.I.j c) R.I.j (T2 f)/\f.j=R.I.j/\(∀p (_:p<R.I.j) (_:p<f.j),∃M,yb fl j f[p] R.I[p] M)/\R.I.j<=1000)/\Below fl wc j):=by
  refine L.l.y ?_;rintro e j ⟨ay,rb,Q,h1,o,h3⟩;obtain⟨d,c,a5⟩:=zr o.I;refine⟨d,c,Q.tbs,by rw[h1,a5],⟨by rw[←a5];exact o.I,o.tlen,λp a b=>?_,o.K.1⟩,h3.belowLo ag⟩;obtain⟨M,q,_⟩:=o.tries p a b;exact⟨M,q⟩
 clear L;go_upto_region 10 with (first|(go_at_call 74;refine n.l.y ?_;rintro e K ⟨d,c,f,rfl,ax,C⟩))
 have aA:=ah.A (C.y F);have D:=af.l.A (C.y a8);have s:μ K (K.C (.E #[.k d R.I.j c,ι R.count,ι R.Q,ι R.jg] 152)):=γ;have ab:=Ti.new K #[.k d R.I.j c,ι R.count,ι R.Q,ι R.jg] 152;have aa:=(ao.l.u D).u s;have aB:=Th ((al.l.u D).u s);have y:=Tl aA s;have aE:=Th (zy a9.l y);have A:X (U.ownsRow (K.C (.E #[.k d R.I.j c,ι R.count,ι R.Q,ι R.jg] 152)) w.o.q 162 1 (.k d R.I.j c) R.I.j (T2 f)/\f.j=R.I.j/\(∀p (_:p<R.I.j) (_:p<f.j),∃M,yb w.o.q (K.C (.E #[.k d R.I.j c,ι R.count,ι R.Q,ι R.jg] 152)) f[p] R.I[p] M)/\R.I.j<=1000):=by
  obtain⟨q1,q2,q3,q4⟩:=ax.l;refine⟨yo (zy q1 s) F,q2,λp a b=>?_,q4⟩;obtain⟨M,q⟩:=q3 p a b;exact⟨M,(q.u s).low F⟩
 obtain⟨E,m,aI⟩:=zr a9.l;subst aI;have y1:=zi y v d1;have yl:=ym v y.q;have ap:=y.q;clear s D aA ax n C ah af al ao a4 aH aJ aG;generalize K.C (.E #[.k d R.I.j c,ι R.count,ι R.Q,ι R.jg] 152)=W6 at *;generalize K.o.q=ob at *;obtain⟨oc,of,ol⟩:=ab.e;have o0:=oc 0;have o1:=oc 1;have o2:=oc 2;have o3:=oc 3;obtain⟨bc,bf,bl⟩:=aa.e;have b0:=bc 0;simp only[m6,l9,np] at o0 o1 o2 o3 b0;clear oc bc ab aa;go_region
 have x:μ W6 (W6.C (.E #[.k E t.j m,.k k P.j g,.k d R.I.j c,ι R.count,ι R.Q,ι R.jg] 156)).drew:=γ;have V:X (kz w.o.q lp (W6.C (.E #[.k E t.j m,.k k P.j g,.k d R.I.j c,ι R.count,ι R.Q,ι R.jg] 156)).drew W6.o.q t P R (.k E t.j m) (.k k P.j g) (.k d R.I.j c) f/\μ w (W6.C (.E #[.k E t.j m,.k k P.j g,.k d R.I.j c,ι R.count,ι R.Q,ι R.jg] 156)).drew):=by
  refine⟨⟨ap,Ti.drew (Ti.new _ _ _),zy aE.l x,aB.l.u x,zy A.l.1 x,A.l.2.1,λp a b=>?_,⟨aC.l.2,aC.l.1,A.l.2.2.2⟩⟩,Tl y x⟩;obtain⟨M,q⟩:=A.l.2.2.1 p a b;exact⟨M,q.u x⟩
 clear x aE aB A o0 o1 o2 o3 b0;go_wp2;go_ret2
 exact⟨W6.o.q,_,_,_,f,d1,rfl,V.l.1,V.l.2⟩
end
section
open Go.RowKit
def T0.runok{cs:Ξ}{v t:Ψ}(h:T0 cs v t):tn cs t Y/\rV (vf t (zp cs) Y cs):=by
 have b:rV (vf t (zp cs) Y cs):=tP h _ Y (λi u=>p6 (fm (h.many _ (zq u))));obtain⟨_,j,m⟩:=h.low;have s:=h.K;have q:=oQ cs;have o:=Dw cs;have p:(zp cs).j<=500:=by
  have:=AN cs [];simp only[jr,vJ] at this;show(cs.H qG []).j<=500;omega
 have d:=Bw (cs:=cs) η;have e:∀c∈cs,c.d.j<=6:=λc g=>(nu (h.many c g)).2.1;refine⟨⟨η,η,d,λc g=>⟨(d c g).1,by have:=e c g;omega⟩,⟨η,η,λc g=>(d c g).2⟩,η,λn=>by have:=m n;omega,ζ,ζ,λ_=>ζ,λ_=>⟨λr k=>⟨λl j=>((b.H.H r k).qc l j).1,λl j=>⟨((b.H.H r k).qx l j).1,b.H.apart r k r k rfl l j⟩⟩,?_,λa w=>by have:=b.small a w;omega,λf s=>(b.facts f s).2.1.1,?_,by show(zp cs).j<=1000;omega⟩⟩,b⟩;show(t.w (·.jh)).j<=1000;simp;omega;show(vx t (zp cs) cs).j<=1000000;have:(vx t (zp cs) cs).j<=cs.j:=by
  unfold vx;rw[xt];exact rA _ _
 omega
end
section
open Go.RowKit
variable {b:κ}
def mE(w:U)(m:Nat):μ w (w.drewN m):=zI (zn _ _) m
def yR:κ->κ->Bool
 |a::x,b::y=>if a=b then yR x y else TC a b
 |_,_=>false
def JA{a:κ}{k:Nat}(c:k<a.j)(d:k<b.j):yR (a.drop k) (b.drop k)=if a[k]=b[k] then yR (a.drop (k+1)) (b.drop (k+1)) else TC a[k] b[k]:=by
 rw[xp c,xp d];rfl
def Mp{a:κ}{k:Nat}(h:¬(k<a.j/\k<b.j)):yR (a.drop k) (b.drop k)=false:=by
 by_cases c:k<a.j;rw[uk (show b.j<=k by omega)];cases a.drop k<;>rfl
 rw[uk (show a.j<=k by omega)];rfl
abbrev z9:=ByteArray×κ×Nat
abbrev Θ:=List z9
def AR(w:U)(v:O)(fs:List z9):Prop:=∃c a,v=.k c fs.j a/\∀i (h:i<fs.j),∃g d e,c=Z ⟨g,0,Y⟩/\g<w.o.q/\w.p ⟨g,i*3,Y⟩=Z (.d fs[i].1)/\w.p ⟨g,i*3+1,Y⟩=Z (.k (Z ⟨d,0,Y⟩) fs[i].2.1.j fs[i].2.1.j)/\w.p ⟨g,i*3+2,Y⟩=Z (ι (fs[i].2.2:Nat))/\To e w (.k (Z ⟨d,0,Y⟩) fs[i].2.1.j fs[i].2.1.j) fs[i].2.1
def AR.u{w w':U}{v:O}{fs:Θ}(h:AR w v fs)(a:μ w w'):AR w' v fs:=by
 obtain⟨k,d,e,p⟩:=h;refine⟨k,d,e,λi m=>?_⟩;obtain⟨g,l,q,f,c,o,n,j,r⟩:=p i m;exact⟨g,l,q,f,ym c a.q,(zi a c o),(zi a c n),(zi a c j),r.u a⟩
def yP(a:ByteArray)(row:κ):List z9->Option Nat
 |[]=>Y
 |f::c=>if f.1=a/\f.2.1=row then Z 0 else(yP a row c).w (·+1)
def kg(a:ByteArray)(row:κ)(fs:List z9):Int:=match yP a row fs with
 |none=>-1
 |some k=>k
def G2{a:ByteArray}{row:κ}{fs:Θ}{k:Nat}(c:k<fs.j):yP a row (fs.drop k)=if fs[k].1=a/\fs[k].2.1=row then Z 0 else(yP a row (fs.drop (k+1))).w (·+1):=by
 rw[xp c];rfl
end
section
open Go.Proofs.Tryz Go.RowKit
def F4{lo z:Nat}(w:U)(H vb:O)(a b:κ)(u:To lo w H a)(v:To z w vb b)(hl:a.j<=1000000)(S:b.j<=2000000):
  Calls prog 84 #[H,vb] w λe w'=>e=ε (.i (decide (a=b)))/\μ w w':=by
 obtain⟨ao,T,rfl⟩:=u.qy;obtain⟨P,E,rfl⟩:=v.qy;by_cases d:a.j=b.j
 .have t:=Th d;rw[←d];clear d;have HD:X (∀k,k<a.j->a.g k ByteArray.empty≠b.g k ByteArray.empty->decide (a=b)=false):=λk _ q=>by
   simp only[decide_eq_false_iff_not];rintro rfl;exact q rfl
  have V:X ((∀k,k<a.j->a.g k ByteArray.empty=b.g k ByteArray.empty)->decide (a=b)=true):=λq=>by
   simp only[decide_eq_true_eq];refine jv t.l λi K h2=>?_;have:=q i K;rwa [Tn _ K,Tn _ h2] at this
  generalize decide (a=b)=r at *;have N:=Th u;have W:=Th v;clear u v;go_enter func84,ntmps84;go_wp2;go_loopw [5] (λi wr=>∃k:Nat,k<=a.j/\i=ι k/\X (∀j,j<k->a.g j ByteArray.empty=b.g j ByteArray.empty)/\μ w wr) (λi _=>a.j-(intOf i).D);exact⟨0,zs _,rfl,λj J=>η,zn _ _⟩;obtain⟨k,hk,rfl,I,c⟩:=hrel;have L:=c.q;by_cases f:k<a.j
  .have l:k<b.j:=by rw[←t.l];exact f
   obtain⟨g,rfl,hg,n⟩:=N.l.cell k f;obtain⟨R,e2,B,h⟩:=W.l.cell k l;subst e2;have Q:=zi c hg n;have G:=zi c B h;have aa:g<wr.o.q:=η;have M:R<wr.o.q:=η;clear n h;have p:X (a.g k ByteArray.empty=a[k]):=Tn _ f;have o:X (b.g k ByteArray.empty=b[k]):=Tn _ l;by_cases m:a[k]=b[k]
   .have A:=jq m;have C:=Th m;clear m;generalize a[k]=x at *;generalize b[k]=y at *;go_wp2;go_quiet (fail)
    go_wp2;go_roundw
    case rel=>exact⟨k+1,η,ξ,λj J=>(by
     by_cases D:j=k;rw[D,p.l,o.l,C.l];exact I.l j η),zI c _⟩
    simp[intOf];omega
   have A:=vU m;have s:=Th (HD.l k f (by rw[p.l,o.l];exact m));clear m;generalize a[k]=x at *;generalize b[k]=y at *;go_wp2;go_quiet (fail)
   go_wp2;go_ret;exact⟨by rw[s.l];rfl,zI c _⟩
  have s:=Th (V.l λj J=>I.l j η);go_wp2;go_ret;exact⟨by rw[s.l];rfl,c⟩
 have F:¬(a.j:Int)=(b.j:Int):=η;have s:X (decide (a=b)=false):=show decide (a=b)=false by
  simp only[decide_eq_false_iff_not];rintro rfl;exact d rfl
 generalize decide (a=b)=r at *;clear u v d;go_enter func84,ntmps84;go_wp2;go_ret;exact⟨by rw[s.l];rfl,zn _ _⟩
def po(w:U)(v:O)(fs:List z9):Prop:=∃c a,v=.k c fs.j a/\∀i (h:i<fs.j),∃g b d,c=Z ⟨g,0,Y⟩/\g<w.o.q/\w.p ⟨g,i*3,Y⟩=Z (.d fs[i].1)/\w.p ⟨g,i*3+1,Y⟩=Z b/\w.p ⟨g,i*3+2,Y⟩=Z (ι (fs[i].2.2:Nat))/\To d w b fs[i].2.1
def po.u{w w':U}{v:O}{fs:Θ}(h:po w v fs)(a:μ w w'):po w' v fs:=by
 obtain⟨j,c,d,o⟩:=h;refine⟨j,c,d,λi l=>?_⟩;obtain⟨g,n,p,e,b,m,k,f,q⟩:=o i l;exact⟨g,n,p,e,ym b a.q,(zi a b m),(zi a b k),(zi a b f),q.u a⟩
def AF{F:Nat}(w:U)(u rd:Nat)(v:O)(fs:Θ)(b:ByteArray)(C:O)(row:κ)(P:Ti w u #[v,ι rd] 54)(h:po w v fs)(N:To F w C row)(hl:fs.j<=10000000)(I:row.j<=2000000)(y:∀f∈fs,f.2.1.j<=1000000):
  Calls prog 45 #[(π u),.d b,C] w λe w'=>e=ε (ι (kg b row fs))/\μ w w':=by
 have D:=Th λW lo Q (a:κ) (hb:μ w W) (ha:To lo W Q a) (hq:a.j<=1000000)=>F4 W Q C a row ha (N.u hb) hq I;obtain⟨ab,S,rfl⟩:=N.qy;obtain⟨ao,K,rfl,d⟩:=h;have cm:w.p (δ u)=Z (.k ao fs.j K):=by rw[P.H.1];rfl
 have t:=P.lt;have HC:=Th d;have M:=Th y;have H0:X (yP b row fs=(yP b row (fs.drop 0)).w (·+0)):=show yP b row fs=_ by simp
 have HI:X (kg b row fs=match yP b row fs with|none=>-1|some k=>(k:Int)):=show kg b row fs=_ from rfl
 clear d N y P;generalize kg b row fs=E at *;generalize yP b row fs=n at *;go_enter func45,ntmps45;go_wp2;go_loopw [7,8] (λi _ wr=>∃k:Nat,k<=fs.j/\i=ι k/\X (n=(yP b row (fs.drop k)).w (·+k))/\μ w wr) (λi _ _=>fs.j-(intOf i).D);exact⟨0,zs _,rfl,H0,zn _ _⟩;obtain⟨k,hk,rfl,H,c⟩:=hrel;have aa:=c.q;by_cases o:k<fs.j
 .have A:(k:Int)<(fs.j:Int):=η;obtain⟨g,rv,G,rfl,V,T,R,_,hS⟩:=HC.l k o;have xm:=zi c t cm;have s:u<wr.o.q:=η;have q:=H.l;rw[G2 o] at q;have r:=Th q;clear q H;have x0:=zi c V T;have x1:=zi c V R;have ac:g<wr.o.q:=η;have B:=Th (D.l wr G _ _ c (hS.u c) (M.l _ (zq o)));clear T R hS;generalize fs[k].2.1=L at *;generalize fs[k].1=fp at *;by_cases p:fp=b
  .have J:=jq p;by_cases j:L=row
   .have x:X (n=Z k):=show n=Z k by rw[r.l,zb ⟨p,j⟩];simp
    have l:=Th (show E=(k:Int) by rw[HI.l,x.l]);rw[show decide (L=row)=true by simp[j]] at B;clear r p j;go_wp2_with (go_at_call 84;refine B.l.y ?_;rintro e w1 ⟨rfl,m⟩)
    go_ret;exact⟨by rw[l.l];rfl,Tl c m⟩
   have x:X (n=(yP b row (fs.drop (k+1))).w (·+(k+1))):=show n=_ by
    rw[r.l,za (λz=>j z.2),Option.map_map];congr 1;funext z;simp only[Function.comp];omega
   rw[show decide (L=row)=false by simp[j]] at B;clear r p j;go_wp2_with (go_at_call 84;refine B.l.y ?_;rintro e w1 ⟨rfl,m⟩)
   exact⟨⟨k+1,η,ξ,x,Tl c m⟩,by simp[intOf];omega⟩
  have J:=vU p;have x:X (n=(yP b row (fs.drop (k+1))).w (·+(k+1))):=show n=_ by
   rw[r.l,za (λz=>p z.1),Option.map_map];congr 1;funext z;simp only[Function.comp];omega
  clear r p;go_wp2;exact⟨⟨k+1,η,ξ,x,c⟩,by simp[intOf];omega⟩
 have A:¬(k:Int)<(fs.j:Int):=η;have xm:=zi c t cm;have s:u<wr.o.q:=η;have l:X (E=-1):=show E=-1 by
  rw[HI.l,H.l,uk η];rfl
 go_wp2;go_ret;exact⟨by rw[l.l];rfl,c⟩
end
section
variable {t:List zg}{ns:κ}
structure TT (t:List zg) (ns:κ) (R:zv):Prop where
 rise:y6 (Tj t)
 nrise:y6 ns
 inv:qK (t.w (·.jh)) (zM ns.j) R
 small:∀a∈t.w (·.jh),a<=3
 inside:wF (t.w (·.jh)) ns.j (zyx (t.w (·.jh)) R)
 K:R.count<=1048576/\t.j<=1000/\ns.j<=1000
def jN(R:zv)(p:Nat):List zk:=(TE (R.I.g p zl.zero)).w λk=>Um k (R.I.g p zl.zero).ql
def vc(t:List zg)(p:Nat):ByteArray:=(Tj t).g p ByteArray.empty
def TT.len{t:Ψ}{ns:κ}{R:zv}(h:TT t ns R):R.I.j=t.j:=by have:=h.inv.len;simpa using this
def TT.name{t:Ψ}{ns:κ}{R:zv}(h:TT t ns R){p:Nat}(e:p<t.j):(zU t (vc t p)).I=true/\zB t (vc t p)=p/\vc t p=t[p].name:=by
 have f:vc t p=t[p].name:=by unfold vc Tj;simp[List.getD,e]
 have b:zW t t[p].name=p:=by
  rcases rf (zW t t[p].name) p with q|q|q;have a:=tJ t t[p].name h.rise t[zW t t[p].name] (by
   rw[vQ];exact⟨0,by simp;omega,ζ⟩)
  have c:=pM.1 h.rise (zW t t[p].name) p (by simp[Tj];omega) (by simp[Tj];omega) q;simp only[Tj,ue] at c;rw[c] at a;cases a;exact q;have a:=tY t t[p].name t[p] (by
   rw[vQ];exact⟨p,by simp;omega,ζ⟩)
  rw[Tw] at a;cases a
 have d:zU t t[p].name=Z t[p]:=by
  unfold zU;rw[b,yn e];simp
 rw[f];exact⟨by rw[d];rfl,by unfold zB;rw[d,b];rfl,rfl⟩
def TT.ar{R:zv}(h:TT t ns R){p:Nat}(a:p<t.j):yc t p<=3/\(t.w (·.jh)).g p 0=yc t p:=by
 refine⟨?_,rfl⟩;unfold yc;rw[Tn _ (by simpa using a)];exact h.small _ (zq _)
def TT.row{R:zv}(h:TT t ns R){p:Nat}(d:p<t.j){r:zk}(c:r∈jN R p):Tr (zyx (t.w (·.jh)) R) p r/\T1 (yc t p) r/\∀i,i<yc t p->r.g i 0<ns.j:=by
 have b:p<R.I.j:=by rw[h.len];exact d
 have a:Tr (zyx (t.w (·.jh)) R) p r:=by
  refine(rX h.inv h.small b r).1 ?_;unfold jN at c;rw[Tn _ b] at c;exact c
 exact⟨a,(sL _ R p r a).2,h.inside p r a⟩
def TT.I{t:Ψ}{ns:κ}{R:zv}(h:TT t ns R){p:Nat}(b:p<R.I.j):∃a,rowsG a R.I[p]=Z (jN R p)/\(jN R p).j<=1048576:=by
 obtain⟨d,g,e,f⟩:=h.inv.tries p b;have c:=ev R.I p b;rw[←h.inv.cnt] at c;have:=h.K.1;refine⟨3*(R.I[p].r+1),?_,?_⟩;rw[d.rowsG _ (zf _) η];unfold jN;rw[Tn _ b];unfold jN;rw[Tn _ b,xt,d.cnt];omega
def DU{ns:κ}(f:y6 ns):∀(a b:zk),(∀v∈a,v<ns.j)->(∀v∈b,v<ns.j)->V2 a b->yR (a.w λv=>ns.g v ByteArray.empty) (b.w λv=>ns.g v ByteArray.empty)=true
 |x::a,y::b,i,g,h=>by
  simp only[uq,yR];rcases h with h|⟨rfl,h⟩
  .have c:=th f h (g y ζ);rw[za]
   .exact c
   .intro e;rw[e,Tw] at c;cases c
  .rw[zb rfl];exact DU f a b (λv d=>i v (by simp[d])) (λv d=>g v (by simp[d])) h
 |[],_,_,_,h=>h.elim
 |_::_,[],_,_,h=>h.elim
def Ez{k:zk}{a:Nat}(c:k.j=a)(e:a<=3):zV ns (Um k a) a 3=k.w λv=>ns.g v ByteArray.empty:=by
 refine jv (by simp[zV,c]) λi b f=>?_;have d:i<a:=by rw[kN] at b;exact b
 simp only[zV,ue,l8];rw[zb η];congr 1;unfold Um;rw[kS,r9 η,yn η];rfl
def TT.sorted{R:zv}(h:TT t ns R){p:Nat}(n:p<t.j){i j:Nat}(s:i<j)(m:j<(jN R p).j):yR (zV ns ((jN R p)[i]'η) (yc t p) 3) (zV ns (jN R p)[j] (yc t p) 3)=true:=by
 have g:p<R.I.j:=by rw[h.len];exact n
 obtain⟨G,I,o,H⟩:=h.inv.tries p g;obtain⟨c,q⟩:=h.ar n;have A:R.I.g p zl.zero=R.I[p]:=Tn _ g;have b:=(h.row n (zq (show i<(jN R p).j by omega))).2;have a:=(h.row n (zq m)).2;simp only[jN,A,xt] at m;simp only[jN,A,ue] at b a ⊢;have l:=pM.1 (oB R.I[p] R.I[p].ql 0 0) i j (show i<(TE R.I[p]).j by omega) m s;have d:=((qN R.I[p] _).1 (zq (show i<(TE R.I[p]).j by omega))).1;have f:=((qN R.I[p] _).1 (zq m)).1;change V2 (TE R.I[p])[i] (TE R.I[p])[j] at l;generalize (TE R.I[p])[i]=u at *;generalize (TE R.I[p])[j]=w at *;rw[q] at o;by_cases x:yc t p=0;have r:R.I[p].ql=1:=by rw[o,x];rfl
 rw[r] at d f b a;have z:∀k:zk,k.j=1->T1 0 (Um k 1)->k=[0]:=by
  intro k y E;match k,y with
  |[v],_=>
   have:=E.2 0 (zf _);simp[Um] at this;rw[this]
 rw[x] at b a;rw[z u d b.1,z w f a.1] at l;exact zC l (Bx _);have D:R.I[p].ql=yc t p:=by rw[o,tD x c]
 rw[D] at d f b a ⊢;rw[Ez d c,Ez f c];have e:∀k:zk,k.j=yc t p->(∀i,i<yc t p->(Um k (yc t p)).g i 0<ns.j)->∀v∈k,v<ns.j:=by
  intro k y B v C;obtain⟨i,F,rfl⟩:=vh C;have:=B i η;unfold Um at this;rw[kS,r9 η,yn F] at this;exact this
 exact DU h.nrise u w (e u d b.2) (e w f a.2) l
end
section
open Go.Proofs.Tryz Go.RowKit
variable {lo lp:Nat}
def SJ:(prog.info? 30).w (λi=>(i.zero,i.q,i.bytes))=Z (Z (ν),1,24):=χ
def Sp(w:U)(tb:Nat)(T:zl)(fp:Φ)(n:Nat)(rs:List zk)(h:yb lo w tb T fp)(a:rowsG n T=Z rs):
  Calls prog 78 #[(π tb)] w λe d=>∃v,e=.returned v/\Tx w.o.q d v rs/\μ w d:=by
 unfold rowsG at a;rcases c:mY n T with _|b;rw[c] at a;cases a;rw[c] at a;simp only at a;split at a;simp only[zt] at a;subst a;exact CF w tb T fp h n b c (by assumption);cases a
def Q0{n:Nat}{T:zl}{rs:List zk}(a:rowsG n T=Z rs):rs.j<=1048576:=by
 unfold rowsG at a;rcases b:mY n T with _|c;rw[b] at a;cases a;rw[b] at a;simp only at a;split at a;simp only[zt] at a;subst a;assumption
 cases a
def pY(ns:κ)(a:Nat)(r:zk):zj:=⟨false,ByteArray.empty,zV ns r a 3⟩
def vr(a g:Nat):Value:=.k (Z ⟨g,0,Y⟩) a a
def FF(ns:κ)(b:Nat)(rs:List zk)(w:U)(e:Ending)(w':U):Prop:=∃g a,w.o.q<=g/\e=ε (.B #[.k (Z ⟨g,0,Y⟩) rs.j rs.j,ι 0])/\w'.r w.o.q 30 1 (.k (Z ⟨g,0,Y⟩) rs.j rs.j) rs.j (a.w (vr b))/\T9 w.o.q w' (rs.w (pY ns b)) a/\μ w w'
def K3(w:U)(g:Nat)(t:Ψ)(ns:κ)(R:zv)(p u A:O)(k:Φ)(a:ByteArray)(h:kz lo lp w g t ns R p u A k)(j:(zU t a).I=false∨zB t a≥R.I.j):
  Calls prog 38 #[(π g),.d a] w λe l=>e=ε (.B #[ν,ι 11])/\l=w:=by
 have b:X (Calls prog 77 #[(π g),.d a] w λe l=>e=ε (.B #[ι (zB t a:Nat),.i (zU t a).I])/\l=w):=eF lp w g 0 t a h.tg h.K.1;obtain⟨m,B⟩:=h.box.H;have z:=h.box.lt;obtain⟨r,n,i⟩:=zr h.I;subst i;have C:=m 2;clear h m;by_cases d:(zU t a).I=false
 .rw[d] at b;clear d j;generalize zB t a=v at *;go_enter func38,ntmps38;go_wp2_with (go_at_call 77;refine b.l.y ?_;rintro e s ⟨rfl,c⟩;obtain rfl:=c.z)
  go_ret2
  exact⟨rfl,rfl⟩
 have f:(zU t a).I=true:=by cases o:(zU t a).I with|true=>rfl|false=>exact zC o d
 rw[f] at b;have y:zB t a≥R.I.j:=by rcases j with q|q;exact zC q d;exact q
 have x:(R.I.j:Int)<=(zB t a:Int):=η;clear d f j;generalize zB t a=v at *;go_enter func38,ntmps38;go_wp2_with (go_at_call 77;refine b.l.y ?_;rintro e s ⟨rfl,c⟩;obtain rfl:=c.z)
 go_ret2
 exact⟨rfl,rfl⟩
def MB(w:U)(D:Nat)(t:Ψ)(ns:κ)(R:zv)(pv nv rv:O)(F:Φ)(c:ByteArray)(h:kz lo lp w D t ns R pv nv rv F)(ap:(zU t c).I=true)(a7:zB t c<R.I.j)(n:Nat)(rs:List zk)(hr:rowsG n R.I[zB t c]=Z rs)(ba:yc t (zB t c)<=1000):
  Calls prog 38 #[(π D),.d c] w λe f=>FF ns (yc t (zB t c)) rs w e f:=by
 have ac:X (Calls prog 77 #[(π D),.d c] w λe f=>e=ε (.B #[ι (zB t c:Nat),.i (zU t c).I])/\f=w):=eF lp w D 0 t c h.tg h.K.1;rw[ap] at ac;have I:X (kz lo lp w D t ns R pv nv rv F):=h;obtain⟨hc,hf⟩:=h.box.H;have aU:=h.box.lt;obtain⟨bh,bf,aL⟩:=zr h.I;subst aL;have d2:=hc 2;have bb:=h.K.2.2;have bp:¬(R.I.j:Int)<=(zB t c:Int):=η;clear h hc ap;have aV:X (∀W,μ w W->Calls prog 80 #[(π D),ι (zB t c:Nat)] W λe f=>e=ε (ι (yc t (zB t c):Nat))/\f=W):=λW B=>Aw lp W D 0 t _ (I.l.u B).tg;generalize zB t c=s at *;have a4:s<F.j:=by rw[I.l.tlen];exact a7
 obtain⟨gr,aZ,al,_,bk,au⟩:=yq I.l.I η;simp only[O.slice.injEq] at al;have ak:=al.1;clear al;subst ak;have bo:=au s (.u (Z ⟨F[s],0,Y⟩)) (by simp[T2,a4,pt]);have av:X (Calls prog 78 #[.u (Z ⟨F[s],0,Y⟩)] w λe f=>∃v,e=.returned v/\Tx w.o.q f v rs/\μ w f):=by
  obtain⟨fp,q⟩:=I.l.tries s a7 a4;exact Sp w _ _ fp n rs q hr
 have bn:=Q0 hr;have bc:(s:Int)<(R.I.j:Int):=η;obtain⟨i0,hi,aG,aQ,aT⟩:=info_parts SJ;have aE:=λW0:U=>run_make (P:=prog) (w:=W0) 31 30 i0 _ underlying31 hi aG .i64 .i64 (rs.j:Int) (rs.j:Int) η (Int.le_refl _) (by rw[aT];omega) η;rw[aQ] at aE;have aX:X (∀W (x y z:Nat),μ w W->Calls prog 79 #[(π D),.agg #[ι (x:Nat),ι (y:Nat),ι (z:Nat)],ι (yc t s)] W λe f=>∃g,W.o.q<=g/\e=ε (.k (Z ⟨g,0,Y⟩) (yc t s) (yc t s))/\To W.o.q f (.k (Z ⟨g,0,Y⟩) (yc t s) (yc t s)) (zV ns [x,y,z] (yc t s) 3)/\μ W f):=λW x y z B=>R9 W D _ x y z ns (I.l.u B).cat ba;generalize yc t s=d at *;generalize F[s]=tb at *;clear au hr;go_enter func38,ntmps38;go_wp2_with (first|(go_at_call 77;refine ac.l.y ?_;rintro e G ⟨rfl,ai⟩;obtain rfl:=ai.z)|(go_at_call 78;refine av.l.y ?_;rintro e G ⟨v1,rfl,Q,M⟩;obtain⟨aw,C,rfl⟩:=zr Q.1))
 have an:μ G (G.C (.E (madeCells #[ν] rs.j) 30)):=γ;have ar:μ w (G.C (.E (madeCells #[ν] rs.j) 30)):=zT M an (zf _);have V:=yo (rQ G rs.j 30 (ν) b_) M.q;have a5:X (U.ownsRow (G.C (.E (madeCells #[ν] rs.j) 30)) w.o.q 30 1 (.k (Z ⟨G.o.q,0,Y⟩) rs.j rs.j) rs.j (([]:Φ).w (vr d)++List.replicate (rs.j-0) (ν))):=V;have aB:X (Tx w.o.q (G.C (.E (madeCells #[ν] rs.j) 30)) (.k aw rs.j C) rs):=⟨zy Q.1 an,Q.2⟩;have a6:w.o.q<=G.o.q:=M.q;clear V aE av Q an ac;generalize G.C (.E (madeCells #[ν] rs.j) 30)=w2 at *;generalize G.o.q=g at *;clear M;go_loopw [46] (λaS wr=>∃(m:Nat) (u:Φ),m<=rs.j/\aS=ι m/\μ w wr/\u.j=m/\X (wr.r w.o.q 30 1 (.k (Z ⟨g,0,Y⟩) rs.j rs.j) rs.j (u.w (vr d)++List.replicate (rs.j-m) (ν)))/\X (T9 w.o.q wr ((rs.G m).w (pY ns d)) u)/\X (Tx w.o.q wr (.k aw rs.j C) rs)) (λi _=>rs.j-(intOf i).D);exact⟨0,[],zs _,rfl,ar,rfl,a5,T9.nil _,aB⟩;clear a5 aB ar;obtain⟨m,u,hm,rfl,K,aF,HR,HC,HV⟩:=hrel;have E:X (u.j=m):=aF;clear aF;have bd:g<wr.o.q:=yF HR.l rfl;have aN:=vl HR.l;have bg:D<wr.o.q:=ym aU K.q;by_cases aD:m<rs.j
 .obtain⟨gv,cv,x,y,z,hv,aK,T,c0,c1,c2⟩:=HV.l.cell m aD;simp only[O.slice.injEq] at hv;have ak:=hv.1;clear hv;subst ak;have bq:(m:Int)<(rs.j:Int):=η;have aO:X (rs.G (m+1)=rs.G m++[[x,y,z]]):=show rs.G (m+1)=rs.G m++[[x,y,z]] by rw[yN aD,T]
  clear T;have aa:X (∀W,μ wr W->Calls prog 79 #[(π D),.agg #[ι x,ι y,ι z],ι d] W λe f=>∃g,W.o.q<=g/\e=ε (.k (Z ⟨g,0,Y⟩) d d)/\X (To W.o.q f (.k (Z ⟨g,0,Y⟩) d d) (zV ns [x,y,z] d 3))/\μ W f):=λW B=>aX.l W x y z (zT K B (zf _));have S:X (∀W,μ wr W->Calls prog 80 #[(π D),ι s] W λe f=>e=ε (ι d)/\f=W):=λW B=>aV.l W (zT K B (zf _));go_upto_region 9 with fail
  have A:μ wr (wr.C (.E #[ι x,ι y,ι z] 165)):=γ;have r:=Ti.new wr #[ι x,ι y,ι z] 165;generalize wr.C (.E #[ι x,ι y,ι z] 165)=p at *;have v0:p.p ⟨wr.o.q,0,Y⟩=Z (ι x):=by rw[r.H.1];rfl
  have v1:p.p ⟨wr.o.q,1,Y⟩=Z (ι y):=by rw[r.H.1];rfl
  have v2:p.p ⟨wr.o.q,2,Y⟩=Z (ι z):=by rw[r.H.1];rfl
  have ab:wr.o.q<p.o.q:=r.lt;have J:=zy HR.l A;have a3:g<p.o.q:=yF J rfl;obtain⟨sx,aW⟩:∃sx,p.p ⟨g,m,Y⟩=Z sx:=by
   obtain⟨g',be,a9,_,_,aq⟩:=yq J η;simp only[O.slice.injEq,zt,Addr.mk.injEq,and_true] at a9;have e:=a9.1;subst e;exact⟨_,aq m _ (yn (by simp[E.l];omega))⟩
  have bm:=vl J;have ah:X (p.r w.o.q 30 1 (.k (Z ⟨g,0,Y⟩) rs.j rs.j) rs.j (u.w (vr d)++List.replicate (rs.j-m) (ν))):=J;have am:X (T9 w.o.q p ((rs.G m).w (pY ns d)) u):=HC.l.y (λ_ _ q=>q.u A);have ae:X (Tx w.o.q p (.k (Z ⟨gv,0,Y⟩) rs.j C) rs):=HV.l.below' A;have az:μ w p:=zT K A (zf _);have aA:X (∀W,μ p W->Calls prog 79 #[(π D),.agg #[ι x,ι y,ι z],ι d] W λe f=>∃j,p.o.q<=j/\e=ε (.k (Z ⟨j,0,Y⟩) d d)/\X (To p.o.q f (.k (Z ⟨j,0,Y⟩) d d) (zV ns [x,y,z] d 3))/\X (μ p f)/\f.p ⟨wr.o.q,0,Y⟩=Z (ι x)/\f.p ⟨wr.o.q,1,Y⟩=Z (ι y)/\f.p ⟨wr.o.q,2,Y⟩=Z (ι z)/\f.p ⟨g,m,Y⟩=Z sx/\g<f.o.q/\∀o,f.frozen? ⟨g,o,Y⟩=false):=λW B=>by
   refine(aa.l W (zT A B (zf _))).y ?_;rintro e f ⟨j,h1,h2,h3,h4⟩;have hq:=zT B h4 (zf _);have hs:=B.q;exact⟨j,η,h2,h3.l.low B.q,hq,(hq.cell ab).A v0,(hq.cell ab).A v1,(hq.cell ab).A v2,(hq.cell a3).A aW,ym a3 hq.q,vl (zy ah.l hq)⟩
  have a8:X (∀W,μ p W->Calls prog 80 #[(π D),ι s] W λe f=>e=ε (ι d)/\f=W):=λW B=>S.l W (zT A B (zf _));clear aa S J r A HR HC HV c0 c1 c2 aK aN;go_region_held3 (λf=>f.p ⟨wr.o.q,0,Y⟩=Z (ι x)/\f.p ⟨wr.o.q,1,Y⟩=Z (ι y)/\f.p ⟨wr.o.q,2,Y⟩=Z (ι z)) (first|go_keep|(go_simp;done)) (first|(go_at_call 79;refine(aA.l _ γ).y ?_;rintro e N ⟨j,bi,rfl,ay,L,a0,a1,a2,ax,ag,af⟩)|(go_at_call 80;refine(a8.l _ γ).y ?_;rintro e w6 ⟨rfl,ai⟩;obtain rfl:=ai.z))
  have ad:=zy ah.l L.l;have aP:X ((u.w (vr d)++List.replicate (rs.j-m) (O.slice Y 0 0)).set m (vr d j)=(u++[j]).w (vr d)++List.replicate (rs.j-(m+1)) (O.slice Y 0 0)):=show _=_ by
   obtain⟨k,hk⟩:∃k,rs.j-m=k+1:=⟨rs.j-m-1,η⟩;have aY:rs.j-(m+1)=k:=η;rw[List.set_append,za (by simp[E.l]),hk,aY,rT];simp[E.l]
  have H:=uD ad m (by simp[E.l];omega) (vr d j);rw[aP.l] at H;have aj:zd [g] N (N.x ⟨g,m,Y⟩ (.k (Z ⟨j,0,Y⟩) d d)):=zd.set _ _ _ _;obtain⟨cg,aJ⟩:=jM ad (b:=g) rfl;have ao:=T3.box aJ;have aR:X (U.ownsRow (N.x ⟨g,m,Y⟩ (.k (Z ⟨j,0,Y⟩) d d)) w.o.q 30 1 (.k (Z ⟨g,0,Y⟩) rs.j rs.j) rs.j ((u++[j]).w (vr d)++List.replicate (rs.j-(m+1)) (ν))):=H;have aH:X (T9 w.o.q (N.x ⟨g,m,Y⟩ (.k (Z ⟨j,0,Y⟩) d d)) ((rs.G (m+1)).w (pY ns d)) (u++[j])):=show T9 _ _ _ _ by
   rw[aO.l,qF];have hz:=az.q;refine T9.y (w:=N) ?_ (λ_ _ q=>yL q aj ao θ);refine(am.l.y (λ_ _ q=>q.u L.l)).snoc (l:=pY ns d [x,y,z]) (λa ha=>by have:=am.l.lt a ha;omega) η ?_;show To w.o.q N (.k (Z ⟨j,0,Y⟩) (zV ns [x,y,z] d 3).j (zV ns [x,y,z] d 3).j) (zV ns [x,y,z] d 3);rw[kN];exact ay.l.low η
  have aM:X (Tx w.o.q (N.x ⟨g,m,Y⟩ (.k (Z ⟨j,0,Y⟩) d d)) (.k (Z ⟨gv,0,Y⟩) rs.j C) rs):=⟨yL (ae.l.below' L.l).1 aj ao θ,ae.l.2⟩;have aI:μ w (N.x ⟨g,m,Y⟩ (.k (Z ⟨j,0,Y⟩) d d)):=(zT az L.l (zf _)).x (by simpa using a6) _;have aC:X ((u++[j]).j=m+1):=show(u++[j]).j=m+1 by simp[E.l]
  clear H ad aj ao ah am ae ay L a0 a1 a2 ax ag af v0 v1 v2;generalize N.x ⟨g,m,Y⟩ (.k (Z ⟨j,0,Y⟩) d d)=w7 at *;go_wp2;go_roundw;exact⟨m+1,u++[j],η,ξ,aI,aC.l,aR,aH,aM⟩;simp[intOf];omega
 obtain rfl:m=rs.j:=η;have q1:=HR.l;have q2:=HC.l;rw[j4,List.replicate_zero,qn] at q1;rw[uY] at q2;have HQ:X (_/\_):=And.intro q1 q2;clear q1 q2 HR HC HV E;go_wp2;go_ret2
 exact⟨g,u,a6,rfl,HQ.l.1,HQ.l.2,K⟩
end
section
open Go.RowKit
def RB(f:z9)(g:Nat):List Value:=[.d f.1,.k (Z ⟨g,0,Y⟩) f.2.1.j f.2.1.j,ι (f.2.2:Nat)]
def I9(fs:List z9)(a:List Nat):List Value:=(List.zipWith RB fs a).flatten
structure AD (B:Nat) (w:U) (v:O) (fs:List z9) (gs:List Nat):Prop where
 len:gs.j=fs.j
 own:w.r B 114 3 v fs.j (I9 fs gs)
 I:∀i (h:i<fs.j) (h2:i<gs.j),To B w (.k (Z ⟨gs[i],0,Y⟩) fs[i].2.1.j fs[i].2.1.j) fs[i].2.1
def AD.u{B:Nat}{w w':U}{v:O}{fs:Θ}{c:Φ}(h:AD B w v fs c)(d:μ w w'):AD B w' v fs c:=⟨h.len,zy h.own d,λi a b=>(h.I i a b).u d⟩
def T0.told{cs:Ξ}{b t:Ψ}(h:T0 cs b t){R:zv}{D:DB}{k mr mx:Nat}(c:qK (t.w (·.jh)) (zM (zp cs).j) R)(m:zyx (t.w (·.jh)) R=D)(n:z0n (vf t (zp cs) Y cs) mr mx=Z (D,k))(l:R.count<=1048576):TT t (zp cs) R:=by
 have g:∀i (c:i<cs.j),ka (yH ((un Y i).g [])) (zx cs[i]).j:=λi c=>p6 (fm (h.many _ (zq c)));have a:=tP h (zp cs) Y g;have f:Uf t=Uf b:=by have:=rj (b.j+1) b cs;rw[h.jm] at this;exact this
 have j:Tj t=Tj b:=by
  have:=congrArg (List.map Prod.fst) f;simpa [Uf,Tj,Function.comp_def] using this
 obtain⟨_,o,_⟩:=h.low;have p:=h.K;have d:=Dw cs;have e:(zp cs).j<=500:=by
  have:=AN cs [];simp only[jr,vJ] at this;show(cs.H qG []).j<=500;omega
 exact⟨by rw[j];exact h.tab.rise,(ff cs).1,c,a.small,by rw[m];exact M7 h Y g n,l,η,η⟩
def GW:∀a:κ,yR a a=false
 |[]=>rfl
 |x::a=>by unfold yR;rw[zb rfl];exact GW a
def T0.runos{cs:Ξ}{m t:Ψ}(h:T0 cs m t){os:Option (List (Option (List Int)))}(g:vw cs os=true):tn cs t os/\rV (vf t (zp cs) os cs):=by
 have a:rV (vf t (zp cs) os cs):=tP h _ os (BA g λc n=>fm (h.many c n));obtain⟨b,_⟩:=h.runok;have f:(os.g []).j<=cs.j/\∀o∈os.g [],(o.g []).j<=5:=by
  rcases os with _|l;simp;unfold vw at g;simp only[uI,beq_iff_eq,gO] at g;refine⟨by simp;omega,λo f=>?_⟩;obtain⟨i,p,rfl⟩:=vQ.1 (show o∈l from f);have:=g.2 (cs[i]'η,l[i]) (by
   rw[vQ];exact⟨i,by simp;omega,ζ⟩)
  rcases k:l[i] with _|o;simp;rw[k] at this;simp only[vz,uI,beq_iff_eq] at this;have q:=fm (h.many cs[i] (zq η));simp only[uE];omega
 have e:=b.len;refine⟨⟨b.len,b.names,b.fine,b.sums,b.K,b.vals,b.jm,η,λo h=>by have:=f.2 o h;omega,λ_ o h=>by have:=f.2 o h;omega,λ_=>?_⟩,a⟩;have d:=b.set rfl;exact⟨λr j=>⟨λl e=>((a.H.H r j).qc l e).1,λl e=>⟨((a.H.H r j).qx l e).1,a.H.apart r j r j rfl l e⟩⟩,d.many,d.small,d.I,d.facts,d.r⟩
end
section
open Classical
variable {t t0:List zg}{cs:List zc}
def I2{c:Ψ}{l:zj}(b:∀e∈t,e.L=0)(h:vP t l=Z c):∀e∈c,e.L=0:=by
 unfold vP at h;split at h;split at h;simp only[zt] at h;subst h;exact b;cases h;simp only[zt] at h;subst h;intro e a;rcases sG.1 a with rfl|a;rfl;exact b e a
def Co:∀(b done:Ω) (t:Ψ),U2 t done->(∀e∈t,e.L=0)->(∀x∈done++b,∀y∈done++b,x.o=y.o->x.k.j=y.k.j)->∃c,b.H uK (Z t)=Z c/\U2 c (done++b)/\∀e∈c,e.L=0
 |[],done,t,h,g,_=>⟨t,rfl,by simpa using h,g⟩
 |l::b,done,t,h,g,n=>by
  rw[uJ];cases a:vP t l with
  |none=>
   exfalso;unfold vP at a;split at a
   .rename_i e s;obtain⟨j,q⟩:=rx s;split at a
    .cases a
    .rename_i i;obtain⟨m,f,d⟩:=(h.names e.name).1 (zF.2 ⟨e,j,rfl⟩);apply i;rw[←h.jh e j m f d];exact n m (by simp[f]) l ζ (d.A q)
   .cases a
  |some k=>
   rw[show uK (Z t) l=Z k from a];obtain⟨c,p,r,o⟩:=Co b (done++[l]) k (h.step a) (I2 g a) (by simpa [List.append_assoc] using n);exact⟨c,p,by simpa [List.append_assoc] using r,o⟩
def RS{c:Ω}(h:U2 t c){x y:zj}(f:x∈c)(g:y∈c)(e:x.o=y.o):x.k.j=y.k.j:=by
 obtain⟨a,d,b⟩:=zF.1 ((h.names x.o).2 ⟨x,f,rfl⟩);rw[h.jh a d x f b.z,h.jh a d y g (e.z.A b.z)]
def CD(h:U2 t (cs.flatMap zm)):kP t cs:=by
 intro c f l b;rcases g:zU t l.o with _|e;obtain⟨e,a,d⟩:=zF.1 ((h.names l.o).2 ⟨l,vg.2 ⟨c,f,b⟩,rfl⟩);exact zC d (ry h.rise g e a);rfl
def LT(h:∀e∈t,e.L=0)(n:ByteArray):val t n=0:=by
 unfold val;split;rename_i e a;exact h e (rx a).1;rfl
def Np(h:uF cs=Z t0):∀e∈t0,e.L=0:=by
 have b:=Cl h;obtain⟨u,u1,u2,u3⟩:=Co (cs.flatMap zm) [] [] iN (λe f=>by cases f) (λx a y c e=>RS b (by simpa using a) (by simpa using c) e);have d:u=t0:=by unfold uF at h;rw[u1] at h;simpa using h
 subst d;exact u3
def T0.least(h:T0 cs t0 t):TU cs (val t):=by
 have:=(wG (CD h.tab) (LT (Np h.coll))).2 (by rw[h.jm]);rwa [h.jm] at this
def T0.nam(h:T0 cs t0 t):Tj t=Tj t0/\Uf t=Uf t0:=by
 have a:=iy (t0.j+1) t0 cs (CD h.tab);have b:=rj (t0.j+1) t0 cs;rw[h.jm] at a b;exact⟨a,b⟩
end
section
open Go.RowKit
def E9(t:List zg)(ns:κ)(D:DB)(f:z9):Prop:=∃p,p<t.j/\∃r m,D p r=Z m/\f=(vc t p,zV ns r (yc t p) 3,m)
def Hk(t:List zg)(ns:κ)(A:Option (DB×Nat))(b:List zg)(a:κ)(B:Option (DB×Nat)):Prop:=match A,B with
 |none,Y=>True
 |some (D,k),Z (E,l)=>k=l/\∀f,E9 t ns D f↔E9 b a E f
 |_,_=>False
end
section
open Classical
def Hc{cs:Ξ}{a t:Ψ}(h:T0 cs a t){c:zc}(d:c∈cs){l:zj}(b:l∈zm c):l.o∈Tj t:=by
 rw[h.nam.1];exact(h.tab.names l.o).2 ⟨l,vg.2 ⟨c,d,b⟩,rfl⟩
def Ie{t:Ψ}{ns:κ}(cs:Ξ)(s:Nat):((uP t ns Y cs).filter λr=>decide (r.L=s))=[]↔¬∃c∈cs,0<c.d.j/\xM t c.g.o=s:=by
 rw[iD];constructor;rintro q ⟨c,f,b,d⟩;obtain⟨i,a,rfl⟩:=vQ.1 f;have:=q _ (rO.2 ⟨i,a,b,rfl⟩);exact this (decide_eq_true d);intro q r g;obtain⟨i,a,b,rfl⟩:=rO.1 g;exact λe=>q ⟨_,zq a,b,of_decide_eq_true e⟩
def ID{rs:List zu}{k:Nat}{D:DB}{p:Nat}{x:zk}{m:Nat}(h:D p x=Z m):zy4 rs k D p x=Z m:=by
 unfold zy4;rw[h]
end
section
open Classical
variable {ns:κ}
def TJ(σ:ByteArray->ByteArray)(l:zj):κ:=l.k.w λa=>if zQ a=true then σ a else a
def oD{i:Nat}(h:i<ns.j):ns.g i ByteArray.empty∈ns:=by
 rw[Tn _ h];exact zq h
def eO{cs:Ξ}{c:zc}(m:c∈cs){l:zj}(j:l∈zm c)(o:l.k.j<=3)(σ:ByteArray->Nat):zV (zp cs) (q7 (zp cs) σ l) l.k.j 3=TJ (λv=>(zp cs).g (σ v) ByteArray.empty) l:=by
 have b:=ff cs;have a:∀i (d:i<l.k.j),(zp cs).g ((q7 (zp cs) σ l).g i 0) ByteArray.empty=if zQ l.k[i]=true then(zp cs).g (σ l.k[i]) ByteArray.empty else l.k[i]:=by
  intro i d;have e:(q7 (zp cs) σ l).g i 0=kq (zp cs) σ l i:=by
   have:i=0∨i=1∨i=2:=η;rcases this with rfl|rfl|rfl<;>rfl
  rw[e];unfold kq;rw[yn d];simp only;split;rfl;rename_i k;have g:=(b.2 _).2 ⟨c,m,l,j,zq d,by simpa using k⟩;obtain⟨v,f,n⟩:=GH b.1 g;rw[f];exact(p4 f).2
 apply jv;simp[zV,TJ];intro i h p;have d:i<l.k.j:=by simpa [zV] using h
 simp only[zV,TJ,ue,l8];rw[zb η,a i d]
def Rm(p:y6 ns){l:zj}{r:zk}(g:T1 l.k.j r)(k:∀i,i<l.k.j->r.g i 0<ns.j){σ:ByteArray->ByteArray}(h:zV ns r l.k.j 3=TJ σ l):r=q7 ns (λv=>(xn ns (σ v)).g 0) l:=by
 have d:∀i,i<3->r.g i 0=kq ns (λv=>(xn ns (σ v)).g 0) l i:=by
  intro i s;unfold kq;by_cases j:i<l.k.j;have e:(zV ns r l.k.j 3)[i]'(by rw[kN];exact j)=(TJ σ l)[i]'(by simp[TJ];exact j):=by simp only[h]
  simp only[zV,TJ,ue,l8] at e;rw[zb η] at e;have m:=tW p (k i j);rw[yn j];simp only;split;rename_i f;rw[zb f] at e;rw[←e,m];rfl;rename_i f;rw[za f] at e;rw[←e,m];rfl;rw[gi η];exact g.2 i η
 match r,g.1 with
 |[a,b,c],_=>
  have o:=d 0 η;have n:=d 1 η;have q:=d 2 η;unfold q7;rw[←o,←n,←q];rfl
end
section
open Classical
abbrev y9:=List (ByteArray×ByteArray)
def Tz:y9->ByteArray->Option ByteArray
 |[],_=>Y
 |x::B,t=>if x.1=t then Z x.2 else Tz B t
def yr(B:y9)(t:ByteArray):ByteArray:=if zQ t=true then(Tz B t).g ByteArray.empty else t
def xG:y9->κ->κ->Option y9
 |B,[],_=>Z B
 |B,a::b,row=>if yr B a=ByteArray.empty then xG (B++[(a,row.headD ByteArray.empty)]) b row.tail else if yr B a=row.headD ByteArray.empty then xG B b row.tail else Y
def yI(B:y9)(args:κ):κ:=args.w (yr B)
abbrev VB:=List Bool×Bool
def wa(B C:y9)(t:ByteArray):Tz (B++C) t=(Tz B t).or (Tz C t):=by
 induction B with
 |nil=>rfl
 |cons x B a=>
  rw[lr,Tz,Tz];split;rfl;exact a
def qz(B:y9):Prop:=∀v x,Tz B v=Z x->x≠ByteArray.empty
def UX(B C:y9):Prop:=∀v x,Tz B v=Z x->Tz C v=Z x
def UX.A{A B C:y9}(h:UX A B)(k:UX B C):UX A C:=λv x q=>k v x (h v x q)
def pN{B C:y9}(h:UX B C){t:ByteArray}(a:yr B t≠ByteArray.empty):yr C t=yr B t:=by
 unfold yr at *;split;rename_i q;rw[zb q] at a;rcases b:Tz B t with _|x;rw[b] at a;exact zC rfl a;rw[h t x b];rfl
def sw:∀(args row:κ) (B b:y9),args.j=row.j->(∀x∈row,x≠ByteArray.empty)->(∀a∈args,a≠ByteArray.empty)->qz B->xG B args row=Z b->qz b/\UX B b/\yI b args=row
 |[],row,B,b,n,_,_,m,h=>by
  simp only[xG,zt] at h;subst h;have:row=[]:=by cases row with|nil=>rfl|cons a r=>simp at n
  subst this;exact⟨m,λv x q=>q,rfl⟩
 |a::g,[],B,b,n,_,_,_,_=>by simp at n
 |a::g,r::i,B,b,n,z,s,m,h=>by
  have j:g.j=i.j:=by simpa using n
  have t:=z r ζ;have w:=s a ζ;unfold xG at h;change (if yr B a=ByteArray.empty then xG (B++[(a,r)]) g i else if yr B a=r then xG B g i else Y)=Z b at h;split at h
  .rename_i c;have d:zQ a=true:=by
    false_or_by_contra
    rename_i q;unfold yr at c;rw[za q] at c;exact w c
   have u:Tz B a=none:=by
    unfold yr at c;rw[zb d] at c;cases f:Tz B a with
    |none=>rfl
    |some x=>rw[f] at c;exact zC c (m a x f)
   have p:qz (B++[(a,r)]):=by
    intro v x q;rw[wa] at q;cases f:Tz B v with
    |some y=>rw[f] at q;simp only[Option.some_or,zt] at q;rw[←q];exact m v y f
    |none=>
     rw[f] at q;simp only[Option.none_or,Tz] at q;split at q
     .simp only[zt] at q;rw[←q];exact t
     .cases q
   have C:UX B (B++[(a,r)]):=by
    intro v x q;rw[wa,q];rfl
   obtain⟨o,k,l⟩:=sw g i _ b j (λx e=>z x (by simp[e])) (λx e=>s x (by simp[e])) p h;refine⟨o,C.A k,?_⟩;unfold yI at l ⊢;rw[uq,l];congr 1;have:Tz (B++[(a,r)]) a=Z r:=by
    rw[wa,u];simp[Tz]
   unfold yr;rw[zb d,k a r this];rfl
  .rename_i c;by_cases A:yr B a=r
   .rw[zb A] at h;obtain⟨o,k,l⟩:=sw g i B b j (λx e=>z x (by simp[e])) (λx e=>s x (by simp[e])) m h;refine⟨o,k,?_⟩;unfold yI at l ⊢;rw[uq,l,pN k c,A]
   .rw[za A] at h;cases h
def U9(B:y9)(σ:ByteArray->ByteArray):Prop:=∀v x,Tz B v=Z x->σ v=x
def eA{σ:ByteArray->ByteArray}(c:∀a,σ a≠ByteArray.empty):∀(args:κ) (B:y9),(∀a∈args,a≠ByteArray.empty)->U9 B σ->∃l,xG B args (args.w λa=>if zQ a=true then σ a else a)=Z l/\U9 l σ
 |[],B,_,h=>⟨B,rfl,h⟩
 |a::j,B,g,h=>by
  unfold xG;simp only[uq,List.headD_cons,mR];by_cases b:zQ a=true
  .rw[zb b];cases i:Tz B a with
   |none=>
    have f:yr B a=ByteArray.empty:=by unfold yr;rw[zb b,i];rfl
    rw[zb f];refine eA c j _ (λx d=>g x (by simp[d])) λv x q=>?_;rw[wa] at q;cases k:Tz B v with
    |some y=>rw[k] at q;simp only[Option.some_or,zt] at q;rw[←q];exact h v y k
    |none=>
     rw[k] at q;simp only[Option.none_or,Tz] at q;split at q
     .rename_i e;simp only[zt] at q;rw[←q,e]
     .cases q
   |some x=>
    have d:=h a x i;have f:yr B a=x:=by unfold yr;rw[zb b,i];rfl
    rw[f,za (by rw[←d];exact c a),zb d.z];exact eA c j B (λx d=>g x (by simp[d])) h
  .have f:yr B a=a:=by unfold yr;rw[za b]
   rw[za b,f,za (g a ζ),zb rfl];exact eA c j B (λx d=>g x (by simp[d])) h
def wY{a:ByteArray}{row:κ}:∀{fs:Θ} {k:Nat},yP a row fs=Z k->∃e:k<fs.j,fs[k].1=a/\fs[k].2.1=row
 |[],_,h=>by cases h
 |f::fs,k,h=>by
  unfold yP at h;split at h
  .rename_i q;simp only[zt] at h;subst h;exact⟨ζ,by simpa using q⟩
  .obtain⟨j,d,rfl⟩:=qq.1 h;obtain⟨b,c⟩:=wY d;exact⟨by simpa using b,by simpa using c⟩
def AO{a:ByteArray}{row:κ}:∀{fs:Θ},yP a row fs=Y->∀m,(a,row,m)∉fs
 |[],_,m,h=>by cases h
 |f::fs,b,m,h=>by
  unfold yP at b;split at b
  .cases b
  .rename_i q;rw[Option.map_eq_none_iff] at b;rcases zG.1 h with e|h
   .rw[←e] at q;exact q ⟨rfl,rfl⟩
   .exact AO b m h
def Dm(a b:VB):Prop:=b.1.j=a.1.j/\∀i,a.1.g i false=true->b.1.g i false=true
def Dm.refl(a:VB):Dm a a:=⟨rfl,λ_ h=>h⟩
def U9.val{B:y9}{σ:ByteArray->ByteArray}(h:U9 B σ){a:ByteArray}(b:yr B a≠ByteArray.empty):yr B a=if zQ a=true then σ a else a:=by
 unfold yr at *;split;rename_i q;rw[zb q] at b;rcases c:Tz B a with _|x;rw[c] at b;exact zC rfl b;rw[h a x c];rfl;rfl
end
section
open Go.RowKit
def xF(B:y9):κ:=B.w (·.1)
def ul(B:y9):κ:=B.w (·.2)
def Nr{B:y9}{k:Nat}(a:k<B.j)(t:ByteArray):Tz (B.drop k) t=if B[k].1=t then Z B[k].2 else Tz (B.drop (k+1)) t:=by
 rw[xp a];rfl
end
section
open Go.Proofs.Tryz Go.RowKit
def fe(B:y9)(t:ByteArray):Bool:=!zQ t||(Tz B t).I
def FJ{lo C:Nat}(w:U)(M N:O)(B:y9)(t:ByteArray)(v:To lo w M (xF B))(x:To C w N (ul B))(hl:B.j<=1000)(P:0<t.q):
  Calls prog 211 #[.agg #[M,N],.d t] w λe L=>e=ε (.B #[.d (yr B t),.i (fe B t)])/\X (μ w L):=by
 have j:X (∀W,Calls prog 154 #[.d t] W λe L=>e=ε (.i (zQ t))/\L=W):=λW=>wR t W P;have J:(xF B).j=B.j:=by simp[xF]
 have G:(ul B).j=B.j:=by simp[ul]
 obtain⟨f,c,rfl⟩:=v.qy;obtain⟨d,a,rfl⟩:=x.qy;rw[J] at v ⊢;rw[G] at x ⊢;have u:X (∀W k (o:k<B.j),μ w W->∃g,f=Z (δ g)/\g<W.o.q/\W.p (ω g k)=Z (.d B[k].1)):=λW k o I=>by
  obtain⟨g,y,K,A⟩:=(v.u I).cell k (by rw[J];exact o);exact⟨g,y,K,by rw[A];simp[xF]⟩
 have s:X (∀W k (o:k<B.j),μ w W->∃g,d=Z (δ g)/\g<W.o.q/\W.p (ω g k)=Z (.d B[k].2)):=λW k o I=>by
  obtain⟨g,y,K,A⟩:=(x.u I).cell k (by rw[G];exact o);exact⟨g,y,K,by rw[A];simp[ul]⟩
 clear v x J G;cases n:zQ t
 .rw[n] at j;have h:X (yr B t=t/\fe B t=true):=by unfold X yr fe;rw[n];simp
  clear n u s;go_enter func211,ntmps211;go_wp2_with (go_at_call 154;refine(j.l _).y ?_;rintro e T ⟨rfl,m⟩;obtain rfl:=m.z)
  go_ret2
  exact⟨by rw[h.l.1,h.l.2];rfl,(zn _ _).C (zf _) _⟩
 rw[n] at j;have h:X (yr B t=(Tz B t).g ByteArray.empty/\fe B t=(Tz B t).I):=by unfold X yr fe;rw[n];simp
 clear n;go_enter func211,ntmps211;go_wp2_with (go_at_call 154;refine(j.l _).y ?_;rintro e T ⟨rfl,m⟩;obtain rfl:=m.z)
 have i:X (μ w (w.C (.E #[.k f B.j c,.k d B.j a] 270))):=(zn _ _).C (zf _) _;have r:=Ti.new w #[.k f B.j c,.k d B.j a] 270;obtain⟨hc,hf,ac⟩:=r.e;clear r;generalize F:w.C (.E #[.k f B.j c,.k d B.j a] 270)=R at *;clear F;go_loopw [7] (λz wr=>∃k:Nat,k<=B.j/\z=ι k/\X (Tz B t=Tz (B.drop k) t)/\wr=R) (λz _=>B.j-(intOf z).D);exact⟨0,zs _,rfl,rfl,rfl⟩;obtain⟨k,o,rfl,H,E⟩:=hrel;obtain rfl:=E.z;by_cases l:k<B.j
 .have D:(k:Int)<(B.j:Int):=η;obtain⟨g1,rfl,ab,c1⟩:=u.l _ k l i.l;obtain⟨g2,rfl,aa,c2⟩:=s.l _ k l i.l;have p:=Nr l t;by_cases q:B[k].1=t
  .have S:=jq q;rw[zb q] at p;have b:X (yr B t=B[k].2/\fe B t=true):=by rw[X,h.l.1,h.l.2,H.l,p];exact⟨rfl,rfl⟩
   clear q p H h;generalize B[k].1=V at *;generalize B[k].2=x2 at *;go_wp2;go_ret2
   exact⟨by rw[b.l.1,b.l.2];rfl,i⟩
  have S:=vU q;rw[za q] at p;have Q:X (Tz B t=Tz (B.drop (k+1)) t):=by rw[X,H.l,p]
  clear q p H;generalize B[k].1=V at *;go_wp2;go_roundw;exact⟨k+1,η,ξ,Q,trivial⟩;simp[intOf];omega
 have D:¬(k:Int)<(B.j:Int):=η;have b:X (yr B t=ByteArray.empty/\fe B t=false):=by
  rw[X,h.l.1,h.l.2,H.l,uk η];exact⟨rfl,rfl⟩
 clear H h;go_wp2;go_ret2
 exact⟨by rw[b.l.1,b.l.2];rfl,i⟩
def Ls{lo J N:Nat}(w:U)(f i av:O)(B:y9)(args:κ)(h1:To lo w f (xF B))(h2:To J w i (ul B))(h3:To N w av args)(hl:B.j<=1000)(ha:args.j<=1000)(V:∀a∈args,0<a.q):
  Calls prog 195 #[.agg #[f,i],av] w λe b=>∃v,e=.returned v/\X (To w.o.q b v (yI B args))/\X (μ w b):=by
 obtain⟨i0,hi,C,I,T⟩:=info_parts SG;have M:=Th λW t n E=>FJ W f i B t (h1.u n) (h2.u n) hl E;obtain⟨ao,ai,rfl⟩:=h3.qy;have HA:X (∀W k (H:k<args.j),μ w W->∃g,ao=Z ⟨g,0,Y⟩/\g<W.o.q/\W.p ⟨g,k,Y⟩=Z (.d args[k])):=λW k H n=>(h3.u n).cell k H;clear h1 h2 h3;go_enter func195,ntmps195;go_wp2;have z:X (μ w (w.C (.E #[f,i] 270))):=(zn _ _).C (zf _) _;have m:=Ti.new w #[f,i] 270;have S:=Th m;have ah:=m.lt;clear m;generalize P:w.C (.E #[f,i] 270)=A at *;clear P;go_loopw [5,6] (λv5 G wr=>∃k:Nat,k<=args.j/\G=ι k/\wr.r A.o.q 9 1 v5 k ((yI B (args.G k)).w O.string)/\X (μ A wr)) (λ_ G _=>args.j-(intOf G).D);exact⟨0,zs _,rfl,xo _ _ _ _,zn _ _⟩;obtain⟨k,H,rfl,d,h⟩:=hrel;obtain⟨aj,ac,rfl⟩:=zr d;have l:=Th (Tl z.l (h.l));have ag:=h.l.q;by_cases o:k<args.j
 .have K:(k:Int)<(args.j:Int):=η;obtain⟨g,rfl,hg,s⟩:=HA.l _ k o l.l;have E:=V _ (zq o);have c:=(S.l.u h.l);obtain⟨hc,hf,ad⟩:=c.e;have F:X (yI B (args.G (k+1))=yI B (args.G k)++[yr B args[k]]):=by
   unfold X yI;rw[yN o,qF];rfl
  have HV:X (∀W,μ wr W->Calls prog 211 #[.agg #[f,i],.d args[k]] W λe b=>e=ε (.B #[.d (yr B args[k]),.i (fe B args[k])])/\X (μ wr b)/\b.p ⟨g,k,Y⟩=Z (.d args[k])/\b.p ⟨w.o.q,0,Y⟩=Z f/\b.p ⟨w.o.q,1,Y⟩=Z i):=λW n=>by
   refine(M.l W args[k] (Tl l.l n) E).y ?_;rintro e b ⟨q1,q2⟩;have p:=Tl n q2.l;have u:=c.u p;exact⟨q1,p,(zi p hg s),by rw[u.H.1];rfl,by rw[u.H.1];rfl⟩
  clear c;generalize yr B args[k]=x at *;generalize fe B args[k]=kn at *;generalize args[k]=y at *;go_upto_region 5 with fail
  go_cut [7,8] from 15 to 23 (λs7 _ wx=>s7=.d x/\X (μ wr wx))
  .go_region_held3 (λb=>b.p ⟨g,k,Y⟩=Z (.d y)/\b.p ⟨w.o.q,0,Y⟩=Z f/\b.p ⟨w.o.q,1,Y⟩=Z i) (first|go_keep|(go_simp;done)) (first|(go_at_call 211;refine(HV.l _ φ).y ?_;rintro e w5 ⟨rfl,ab,z0,z1,z2⟩))
   go_wp2;go_meet
   exact⟨rfl,ab⟩
  obtain⟨rfl,r⟩:=hcut;have L:=zy d r.l;have af:=r.l.q;have j:=Th (Tl h.l r.l);clear hc hf s;go_wp2_with (at_builtin;refine gz wc _ _ _ rfl (.tmp 24) (.tmp 26) 30 rfl A.o.q 9 i0 _ 1 16 underlying30 hi C I T rfl θ _ _ _ rfl L (zn _ _) _ _ rfl ζ rfl a_ η η j.l.q ?_;intro v' w2 D Q R aa ak ae;clear R aa)
  go_roundw;exact⟨k+1,η,ξ,by rw[F.l];simpa using D,j.l.A Q⟩;simp[intOf];omega
 have K:¬(k:Int)<(args.j:Int):=η;obtain rfl:k=args.j:=η;go_wp2;go_ret;refine⟨_,rfl,?_,l⟩;have q:=d;rw[uY] at q;have e:(yI B args).j=args.j:=by simp[yI]
 unfold X To;rw[e];exact yo q (by have:=z.l.q;omega)
section
variable {ops:Array Oper} {rest:List Oper} {o:Oper} {a:Act} {Q:Exit->Act->U->Prop}
def Io{lo:Nat}{w:U}(c:o.guard=Y)(s x:Operand)
  (A:o.op=.call {callee:=.builtin .append,args:=#[s,x],argTypes:=#[30,30]})
  (b:κ) (v:O) (z:a.eval s=ν) (D:a.eval x=v) (M:To lo w v b) (R:b.j<=1000000)
  (h:∀q y,To w.o.q y q b->μ w y->wpList prog ops Q rest (a.put o.dst q) y):
  wpList prog ops Q (o::rest) a w:=by
 obtain⟨B,C,g,p,t⟩:=info_parts SG;obtain⟨_,⟨m,L⟩|⟨E,d,N,m,J,H,K,I,G,l⟩⟩:=M;have n:b=[]:=lI L;refine wpList_append_own_none c s x 30 A w.o.q 9 B 1 underlying30 C _ 0 [] z (xo _ _ _ _) (by rw[D,m]) ?_;refine h _ _ ?_ (zn _ _);rw[n];exact xo _ _ _ _;have f:∀j u,(b.w O.string)[j]?=Z u->w.p (Addr.add (δ E) j)=Z u:=λj u e=>by
  rw[Addr.add_lit,vJ];unfold U.cell?;rw[H];simp only;rw[←l,nf] at e;split at e;simpa using e;simp at e
 refine wpList_append_own _ c s x 30 A w.o.q 9 B _ 1 16 underlying30 C g p t rfl θ _ 0 [] z (xo _ _ _ _) (δ E) b.j d (b.w O.string) (by rw[D,m]) ζ f a_ b_ η (zf _) ?_;intro q P i r _;refine h _ _ ?_ ((zn _ _).grown r (zf _) (λk F=>by cases F));simpa [To] using i
end
def B3{w:U}{b:Nat}{c:Array O}{T:TypeId}(h:Ti w b c T)(o:Obj):Ti (w.C o) b c T:=h.u ((zn _ _).C (zf _) o)
structure CB (lo:Nat) (w:U) (cb:Nat) (B:y9) (v1 v2:O):Prop where
 box:Ti w cb #[v1,v2] 111
 fst:w.r lo 9 1 v1 B.j ((xF B).w O.string)
 snd:w.r lo 9 1 v2 B.j ((ul B).w O.string)
 ne:∀b,v1.m=Z b->v2.m≠Z b
def oJ(B:y9):(xF B).j=B.j:=by simp[xF]
def BU(B:y9):(ul B).j=B.j:=by simp[ul]
def CB.u{lo:Nat}{w w':U}{e:Nat}{B:y9}{d c:O}(h:CB lo w e B d c)(b:μ w w'):CB lo w' e B d c:=⟨h.box.u b,zy h.fst b,zy h.snd b,h.ne⟩
def M5{B:y9}{args row:κ}{k:Nat}(b:k<args.j)(c:k<row.j):xG B (args.drop k) (row.drop k)=if yr B args[k]=ByteArray.empty then xG (B++[(args[k],row[k])]) (args.drop (k+1)) (row.drop (k+1)) else if yr B args[k]=row[k] then xG B (args.drop (k+1)) (row.drop (k+1)) else none:=by
 rw[xp b,xp c];rfl
end
section
open Classical
def yu(fs:List z9)(h:zj)(body:List zj):List zj->y9->List (κ)
 |[],B=>if (body.any λl=>l.i&&(yP l.o (yI B l.k) fs).I)=true then [] else [yI B h.k]
 |l::rest,B=>if l.i=true then yu fs h body rest B else fs.flatMap λf=>if f.1=l.o then(match xG B l.k f.2.1 with|none=>[]|some a=>yu fs h body rest a) else []
structure ty (cs:List zc) (fs:List z9):Prop where
 jh:∀f∈fs,∀c∈cs,∀l∈zm c,l.o=f.1->f.2.1.j=l.k.j
 ne:∀f∈fs,∀x∈f.2.1,x≠ByteArray.empty
def sd(fs:List z9)(c:zc)(x:κ):Prop:=∃σ:ByteArray->ByteArray,(∀a,σ a≠ByteArray.empty)/\(∀l∈c.d,l.i=false->∃m,(l.o,TJ σ l,m)∈fs)/\(∀l∈c.d,l.i=true->∀m,(l.o,TJ σ l,m)∉fs)/\x=TJ σ c.g
def rH{fs:Θ}{p:ByteArray}{r:κ}:(yP p r fs).I=true↔∃m,(p,r,m)∈fs:=by
 rcases a:yP p r fs with _|k;exact⟨λq=>(by cases q),fun⟨m,b⟩=>zC b (AO a m)⟩;obtain⟨c,e,d⟩:=wY a;exact⟨λ_=>⟨fs[k].2.2,by rw[←e,←d];exact zq c⟩,λ_=>rfl⟩
def Bq{cs:Ξ}{fs:Θ}(u:ty cs fs){c:zc}(z:c∈cs)(o:∀l∈zm c,∀a∈l.k,a≠ByteArray.empty)(i:∀l∈zm c,∀y∈l.k,zQ y=true->y∈zx c){x:κ}:∀(rest done:Ω) (B:y9),c.d=done++rest->qz B->(∀l∈done,l.i=false->(∃m,(l.o,yI B l.k,m)∈fs)/\∀a∈l.k,yr B a≠ByteArray.empty)->x∈yu fs c.g c.d rest B->sd fs c x
 |[],done,B,e,D,r,d=>by
  rw[qn] at e;unfold yu at d;split at d
  .cases d
  .rename_i C;rw[xL] at d;have b:∀l∈zm c,yI B l.k=TJ (λv=>if (Tz B v).g ByteArray.empty=ByteArray.empty then⟨#[0]⟩ else(Tz B v).g ByteArray.empty) l:=by
    intro l p;refine gE λa k=>?_;unfold yr;split
    .rename_i F;obtain⟨_,n,h,f,E⟩:=fL.1 (i l p a k F);have:=(r n (by rw[←e];exact h) f).2 a E;unfold yr at this;rw[zb F] at this;exact(za this).z
    .rfl
   refine⟨_,λa=>?_,λl p w=>?_,λl p w m J=>C ?_,d.A (b _ (by simp[zm]))⟩
   .split
    .decide
    .assumption
   .rw[←b l (by simp[zm,p])];exact(r l (by rw[←e];exact p) w).1
   .rw[←b l (by simp[zm,p])] at J;rw[fg];exact⟨l,p,by rw[w,nM];exact rH.2 ⟨m,J⟩⟩
 |l::rest,done,B,e,D,r,d=>by
  have K:c.d=(done++[l])++rest:=by rw[e];simp
  have s:l∈zm c:=by simp[zm,e]
  unfold yu at d;split at d
  .rename_i w;refine Bq u z o i rest (done++[l]) B K D (λn h f=>?_) d;rcases ya.1 h with q|q
   .exact r n q f
   .rw[xL.1 q,w] at f;cases f
  .obtain⟨g,j,d⟩:=vg.1 d;split at d
   .rename_i I;split at d
    .cases d
    .rename_i t M;obtain⟨L,G,H⟩:=sw l.k g.2.1 B t (u.jh g j c z l s I.z).z (u.ne g j) (o l s) D M;refine Bq u z o i rest (done++[l]) t K L (λn h f=>?_) d;rcases ya.1 h with q|q
     .obtain⟨⟨m,N⟩,A⟩:=r n q f;have b:yI t n.k=yI B n.k:=gE λa k=>pN G (A a k);exact⟨⟨m,by rw[b];exact N⟩,λa k=>by rw[pN G (A a k)];exact A a k⟩
     .rw[xL.1 q];refine⟨⟨g.2.2,by rw[H,←I];exact j⟩,λa k=>?_⟩;have:yr t a∈yI t l.k:=zF.2 ⟨a,k,rfl⟩;rw[H] at this;exact u.ne g j _ this
   .cases d
def BH{fs:Θ}{c:zc}(d:∀l∈zm c,∀a∈l.k,a≠ByteArray.empty)(h:∀l∈zm c,∀y∈l.k,zQ y=true->y∈zx c){σ:ByteArray->ByteArray}(k:∀a,σ a≠ByteArray.empty)(i:∀l∈c.d,l.i=false->∃m,(l.o,TJ σ l,m)∈fs)(g:∀l∈c.d,l.i=true->∀m,(l.o,TJ σ l,m)∉fs):∀(rest done:Ω) (B:y9),c.d=done++rest->qz B->U9 B σ->(∀l∈done,l.i=false->∀a∈l.k,yr B a≠ByteArray.empty)->TJ σ c.g∈yu fs c.g c.d rest B
 |[],done,B,e,D,z,r=>by
  rw[qn] at e;have n:∀l∈zm c,yI B l.k=TJ σ l:=by
   intro l w;refine gE λa j=>z.val ?_;by_cases H:zQ a=true
   .obtain⟨_,p,f,b,F⟩:=fL.1 (h l w a j H);exact r p (by rw[←e];exact f) b a F
   .unfold yr;rw[za H];exact d l w a j
  unfold yu;rw[za]
  .rw[n c.g (by simp[zm])];simp
  .intro q;rw[fg] at q;obtain⟨l,w,C⟩:=q;rw[uI,n l (by simp[zm,w])] at C;obtain⟨m,N⟩:=rH.1 C.2;exact g l w C.1 m N
 |l::rest,done,B,e,D,z,r=>by
  have I:c.d=(done++[l])++rest:=by rw[e];simp
  have v:l∈c.d:=by rw[e];simp
  have o:l∈zm c:=by simp[zm,v]
  unfold yu;split
  .rename_i E;refine BH d h k i g rest (done++[l]) B I D z λp f b=>?_;rcases ya.1 f with q|q
   .exact r p q b
   .rw[xL.1 q,E] at b;cases b
  .rename_i E;obtain⟨m,K⟩:=i l v (by simpa using E);obtain⟨u,G,A⟩:=eA k l.k B (d l o) z;have s:xG B l.k (TJ σ l)=Z u:=G;have t:∀x∈TJ σ l,x≠ByteArray.empty:=by
    intro x P;obtain⟨a,j,rfl⟩:=zF.1 P;split
    .exact k a
    .exact d l o a j
   obtain⟨J,L,M⟩:=sw l.k (TJ σ l) B u (by simp[TJ]) t (d l o) D s;refine vg.2 ⟨_,K,?_⟩;rw[zb rfl,s];refine BH d h k i g rest (done++[l]) u I J A λp f b a j=>?_;rcases ya.1 f with q|q
   .rw[pN L (r p q b a j)];exact r p q b a j
   .rw[xL.1 q] at j;have:yr u a∈yI u l.k:=zF.2 ⟨a,j,rfl⟩;rw[M] at this;exact t _ this
def GF{cs:Ξ}{fs:Θ}(g:ty cs fs){c:zc}(i:c∈cs)(d:∀l∈zm c,∀a∈l.k,a≠ByteArray.empty)(b:∀l∈zm c,∀y∈l.k,zQ y=true->y∈zx c){x:κ}:x∈yu fs c.g c.d c.d []↔sd fs c x:=
 ⟨Bq g i d b c.d [] [] rfl (λv x q=>by cases q) (λl e=>by cases e),fun⟨_,f,j,h,k⟩=>k ▸ BH d b f j h c.d [] [] rfl (λv x q=>by cases q) (λv x q=>by cases q) (λl e=>by cases e)⟩
end
section
open Classical
variable {t:List zg}{cs:List zc}{L:List z9}{D:DB}{c:zc}
def oP(a:y6 (Tj t)){p:Nat}(f:p<t.j):zU t t[p].name=Z t[p]/\zW t t[p].name=p:=by
 have d:zW t t[p].name=p:=by
  rcases rf (zW t t[p].name) p with q|q|q;have b:=tJ t t[p].name a t[zW t t[p].name] (by
   rw[vQ];exact⟨0,by simp;omega,ζ⟩)
  have e:=pM.1 a (zW t t[p].name) p (by simp[Tj];omega) (by simp[Tj];omega) q;simp only[Tj,ue] at e;rw[e] at b;cases b;exact q;have b:=tY t t[p].name t[p] (by
   rw[vQ];exact⟨p,by simp;omega,ζ⟩)
  rw[Tw] at b;cases b
 refine⟨?_,d⟩;unfold zU;rw[d,yn f];simp
def gT(a:y6 (Tj t)){p:Nat}(d:p<t.j):zB t (vc t p)=p/\vc t p=t[p].name:=by
 have e:vc t p=t[p].name:=by unfold vc Tj;simp[List.getD,d]
 obtain⟨f,b⟩:=oP a d;rw[e];exact⟨by unfold zB;rw[f,b];rfl,rfl⟩
structure TX (t:List zg) (ns:κ) (L:List z9) (D:DB):Prop where
 mem:∀f,f∈L↔∃p,p<t.j/\∃r m,D p r=Z m/\f=(vc t p,zV ns r (yc t p) 3,m)
 once:L.Nodup
 ok:tj (t.w (·.jh)) D
 inside:wF (t.w (·.jh)) ns.j D
structure uj (cs:List zc) (t:List zg):Prop where
 words:∀c∈cs,pP c
 lit:∀c∈cs,∀l∈zm c,zB t l.o<t.j/\yc t (zB t l.o)=l.k.j/\vc t (zB t l.o)=l.o/\l.k.j<=3
 rise:y6 (Tj t)
 small:∀p,p<t.j->yc t p<=3
 cov:∀c∈cs,∀l∈zm c,∀y∈l.k,zQ y=true->y∈zx c
def uj.of{a:Ψ}(v:∀c∈cs,pP c)(h:T0 cs a t):uj cs t:=by
 have d:Uf t=Uf a:=by have:=rj (a.j+1) a cs;rw[h.jm] at this;exact this
 have r:Tj t=Tj a:=by
  have:=congrArg (List.map Prod.fst) d;simpa [Uf,Tj,Function.comp_def] using this
 have j:y6 (Tj t):=by rw[r];exact h.tab.rise
 have w:∀i (g:i<cs.j),ka (yH ((un Y i).g [])) (zx cs[i]).j:=λi g=>p6 (fm (h.many _ (zq g)));refine⟨v,λc b l k=>?_,j,λp q=>?_,λc b=>h.covered b⟩;obtain⟨e,o,y,f,x,m⟩:=h.lit b k;obtain⟨A,s,B⟩:=jn o;refine⟨f,x,?_,?_⟩;rw[(gT j f).2];have:t[zB t l.o]=e:=by simp only[m,s]
 rw[this,y];obtain⟨u,z,n,_⟩:=nu (h.many c b);rcases zG.1 k with rfl|q;exact u;exact n l q;unfold yc;rw[Tn _ (by simpa using q)];exact(tP h (zp cs) Y w).small _ (zq _)
def uj.ne{cs:Ξ}{t:Ψ}(h:uj cs t){c:zc}(d:c∈cs):∀l∈zm c,∀a∈l.k,a≠ByteArray.empty:=by
 intro l f a g e;have b:nW l:=by
  rcases zG.1 f with rfl|q;exact(h.words c d).2.1;exact(h.words c d).2.2 l q
 have:=(b.2 a g).ne;rw[e] at this;exact this rfl
def uj.nsz(h:uj cs t):∀y∈zp cs,y≠ByteArray.empty:=by
 intro y d;obtain⟨c,e,l,b,a,_⟩:=((ff cs).2 y).1 d;exact h.ne e l b y a
def TX.lit{cs:Ξ}{t:Ψ}{L:Θ}{D:DB}(d:uj cs t)(h:TX t (zp cs) L D){c:zc}(k:c∈cs){l:zj}(g:l∈zm c)(row:κ)(m:Nat):(l.o,row,m)∈L↔∃r,D (zB t l.o) r=Z m/\row=zV (zp cs) r l.k.j 3:=by
 obtain⟨i,b,j,q⟩:=d.lit c k l g;rw[h.mem];constructor;rintro⟨p,o,r,s,a,e⟩;simp only[ye] at e;obtain⟨f,n,rfl⟩:=e;have:zB t l.o=p:=by rw[f];exact(gT d.rise o).1
 subst this;exact⟨r,a,by rw[n,b]⟩;rintro⟨r,a,rfl⟩;exact⟨zB t l.o,i,r,m,a,by rw[b,j]⟩
def TX.can(f:uj cs t)(h:TX t (zp cs) L D)(j:c∈cs){l:zj}(g:l∈zm c){r:zk}(b:Tr D (zB t l.o) r):T1 l.k.j r/\∀i,i<l.k.j->r.g i 0<(zp cs).j:=by
 have a:=(h.ok _ _ b).2;have d:=h.inside _ _ b;have e:(t.w (·.jh)).g (zB t l.o) 0=l.k.j:=(f.lit c j l g).2.1;rw[e] at a d;exact⟨a,d⟩
def TX.fs(b:uj cs t)(h:TX t (zp cs) L D):ty cs L:=by
 refine⟨?_,?_⟩;intro f d c o l g e;obtain⟨s,row,m⟩:=f;simp only at e ⊢;subst e;obtain⟨r,_,rfl⟩:=(h.lit b o g row m).1 d;rw[kN];intro f d x a;obtain⟨p,q,r,m,j,rfl⟩:=(h.mem f).1 d;have n:=h.inside p r (by unfold Tr;rw[j];rfl);simp only[zV,zF,qv] at a;obtain⟨i,k,rfl⟩:=a;have:=b.small p q;rw[zb η];exact b.nsz _ (oD (n i k))
def B4(ns:κ)(σ:ByteArray->Nat)(l:zj){i:Nat}(a:i<3):(q7 ns σ l).g i 0=kq ns σ l i:=by
 have:i=0∨i=1∨i=2:=η;rcases this with rfl|rfl|rfl<;>rfl
def uj.can(n:uj cs t)(m:c∈cs){σ:ByteArray->Nat}(g:∀v∈zx c,σ v<(zp cs).j):∀l∈zm c,T1 l.k.j (q7 (zp cs) σ l)/\∀i,i<l.k.j->(q7 (zp cs) σ l).g i 0<(zp cs).j:=by
 have a:=ff cs;intro l f;have q:=(n.lit c m l f).2.2.2;refine⟨⟨rfl,λi d=>?_⟩,λi d=>?_⟩;by_cases p:i<3;rw[B4 _ _ _ p];unfold kq;rw[gi d];rw[List.getD,gi (by simp[q7];omega)];rfl;rw[B4 _ _ _ η];unfold kq;rw[yn d];simp only;split;rename_i h;exact g _ (n.cov c m l f _ (zq d) h);rename_i h;have o:=(a.2 _).2 ⟨c,m,l,f,zq d,by simpa using h⟩;obtain⟨k,j,e⟩:=vQ.1 o;have b:=tW a.1 j;rw[List.getD,yn j,uE,e] at b;rw[b];exact j
def TX.der1(g:uj cs t)(h:TX t (zp cs) L D)(f:c∈cs){r:zk}(G:iw t (zp cs) c D r):sd L c (zV (zp cs) r c.g.k.j 3)/\T1 c.g.k.j r/\∀i,i<c.g.k.j->r.g i 0<(zp cs).j:=by
 obtain⟨σ,C,K,F⟩:=G;have n:=ff cs;have s:∀v∈zx c,σ v<(zp cs).j:=by
  intro v w;obtain⟨k,l,d,p,x⟩:=fL.1 w;have b:l∈zm c:=by simp[zm,d]
  obtain⟨u,y⟩:=h.can g f b (C l d p);obtain⟨i,E,rfl⟩:=vQ.1 x;have A:=(g.lit c f l b).2.2.2;have:=y i E;rw[B4 _ _ _ η] at this;unfold kq at this;rw[yn E] at this;simpa only[zb k] using this
 have e:=g.can f s;have j:∀l∈zm c,TJ (λv=>if v∈zx c then(zp cs).g (σ v) ByteArray.empty else⟨#[0]⟩) l=zV (zp cs) (q7 (zp cs) σ l) l.k.j 3:=by
  intro l d;rw[eO f d (g.lit c f l d).2.2.2];unfold TJ;refine gE λa I=>?_;split;rename_i w;exact zb (g.cov c f l d a I w);rfl
 have o:c.g∈zm c:=by simp[zm]
 refine⟨⟨_,λa=>?_,λl d p=>?_,λl d p m z=>?_,by rw[j _ o,F]⟩,by rw[F];exact e _ o⟩;split;rename_i q;exact g.nsz _ (oD (s a q));decide;have b:l∈zm c:=by simp[zm,d]
 obtain⟨m,z⟩:=lV.1 (C l d p);exact⟨m,(h.lit g f b _ m).2 ⟨_,z,j l b⟩⟩;have b:l∈zm c:=by simp[zm,d]
 obtain⟨N,u,y⟩:=(h.lit g f b _ m).1 z;obtain⟨H,M⟩:=h.can g f b (r:=N) (by unfold Tr;rw[u];rfl);have A:=(g.lit c f l b).2.2.2;have B:=lL n.1 A H M;have J:=lL n.1 A (e l b).1 (e l b).2;rw[←y,j l b,J,zt] at B;rw[←B,K l d p] at u;cases u
def TX.der2(g:uj cs t)(h:TX t (zp cs) L D)(d:c∈cs){x:κ}(G:sd L c x):∃r,iw t (zp cs) c D r/\x=zV (zp cs) r c.g.k.j 3:=by
 obtain⟨σ,_,F,J,rfl⟩:=G;have p:=ff cs;have I:∀l∈c.d,l.i=false->Tr D (zB t l.o) (q7 (zp cs) (λv=>(xn (zp cs) (σ v)).g 0) l):=by
  intro l f q;have b:l∈zm c:=by simp[zm,f]
  obtain⟨m,A⟩:=F l f q;obtain⟨r,k,e⟩:=(h.lit g d b _ m).1 A;have E:Tr D (zB t l.o) r:=by unfold Tr;rw[k];rfl
  obtain⟨C,z⟩:=h.can g d b E;rw[←Rm p.1 C z e.z];exact E
 have o:∀v∈zx c,(zp cs).g ((xn (zp cs) (σ v)).g 0) ByteArray.empty=σ v:=by
  intro v u;obtain⟨n,l,f,q,w⟩:=fL.1 u;have b:l∈zm c:=by simp[zm,f]
  obtain⟨m,A⟩:=F l f q;obtain⟨r,k,e⟩:=(h.lit g d b _ m).1 A;obtain⟨C,z⟩:=h.can g d b (r:=r) (by unfold Tr;rw[k];rfl);have K:=(g.lit c d l b).2.2.2;obtain⟨i,y,rfl⟩:=vQ.1 w;have B:(zV (zp cs) r l.k.j 3)[i]'(by rw[kN];exact y)=(TJ σ l)[i]'(by simp[TJ];exact y):=by simp only[←e]
  simp only[zV,TJ,ue,l8] at B;rw[zb η,zb n] at B;rw[←B,tW p.1 (z i y)];rfl
 have s:∀l∈zm c,TJ (λv=>(zp cs).g ((xn (zp cs) (σ v)).g 0) ByteArray.empty) l=TJ σ l:=by
  intro l f;refine gE λa H=>?_;split;rename_i u;exact o a (g.cov c d l f a H u);rfl
 have j:c.g∈zm c:=by simp[zm]
 refine⟨_,⟨_,I,λl f q=>?_,rfl⟩,by rw[eO d j (g.lit c d c.g j).2.2.2,s c.g j]⟩;have b:l∈zm c:=by simp[zm,f]
 rcases k:D (zB t l.o) (q7 (zp cs) (λv=>(xn (zp cs) (σ v)).g 0) l) with _|m;rfl;exfalso;refine J l f q m ((h.lit g d b _ m).2 ⟨_,k,?_⟩);rw[eO d b (g.lit c d l b).2.2.2,s l b]
end
section
open Classical
variable {cs:List zc}{t:List zg}{L:List z9}
def uy(fs l:List z9)(f:z9):List z9:=if (yP f.1 f.2.1 fs).I=true∨(yP f.1 f.2.1 l).I=true then l else l++[f]
def et{fs:Θ}{k:Nat}:∀(d l:Θ),(∀g∈d,g.2.2=k)->(∀g∈l,g.2.2=k)->l.Nodup->(∀g∈l,¬∃m,(g.1,g.2.1,m)∈fs)->(d.H (uy fs) l).Nodup/\∀f,f∈d.H (uy fs) l↔f∈l∨(f∈d/\¬∃m,(f.1,f.2.1,m)∈fs)
 |[],l,_,_,o,_=>⟨o,λf=>ζ⟩
 |g::d,l,y,r,o,w=>by
  have v:=y g ζ;have j:∀g∈d,g.2.2=k:=λx n=>y x (by simp[n]);rw[uJ];by_cases q:(∃m,(g.1,g.2.1,m)∈fs)∨∃m,(g.1,g.2.1,m)∈l
  .rw[show uy fs l g=l from zb (q.imp rH.2 rH.2)];obtain⟨p,s⟩:=et d l j r o w;refine⟨p,λf=>(s f).A ⟨λh=>h.imp_right λh=>⟨by simp[h.1],h.2⟩,λh=>?_⟩⟩;rcases h with h|⟨c,i⟩
   .exact zh h
   .rcases zG.1 c with rfl|c
    .rcases q with q|⟨m,q⟩
     .exact zC q i
     .have:f=(f.1,f.2.1,m):=Prod.ext rfl (Prod.ext rfl (v.A (r _ q).z));exact zh (by rw[this];exact q)
    .exact ze ⟨c,i⟩
  .rw[show uy fs l g=l++[g] from za λz=>q (z.imp rH.1 rH.1)];have u:¬∃m,(g.1,g.2.1,m)∈fs:=λz=>q (zh z);have A:g∉l:=λz=>q (ze ⟨g.2.2,z⟩);obtain⟨p,s⟩:=et d (l++[g]) j (λx n=>by
    rcases ya.1 n with z|z
    .exact r x z
    .rw[xL.1 z];exact v) (rF.2 ⟨o,ζ,λa B b C e=>by rw[xL.1 C] at e;exact A (e ▸ B)⟩) (λx n=>by
    rcases ya.1 n with z|z
    .exact w x z
    .rw[xL.1 z];exact u)
   refine⟨p,λf=>(s f).A ⟨λh=>?_,λh=>?_⟩⟩
   .rcases h with h|⟨c,i⟩
    .rcases ya.1 h with z|z
     .exact zh z
     .rw[xL.1 z];exact ze ⟨ζ,u⟩
    .exact ze ⟨by simp[c],i⟩
   .rcases h with h|⟨c,i⟩
    .exact zh (List.mem_append_left _ h)
    .rcases zG.1 c with rfl|c
     .exact zh ζ
     .exact ze ⟨c,i⟩
def xY(fs:List z9)(k:Nat)(a:List zc)(l:List z9):List z9:=a.H (λl c=>(yu fs c.g c.d c.d []).H (λl r=>uy fs l (c.g.o,r,k)) l) l
def GG(fs:Θ)(k:Nat):∀(a:Ξ) (l:Θ),xY fs k a l=(a.flatMap λc=>(yu fs c.g c.d c.d []).w λr=>(c.g.o,r,k)).H (uy fs) l
 |[],l=>rfl
 |c::a,l=>by
  rw[uX,qZ,List.foldl_map,←GG fs k a];rfl
def yv(t:List zg)(cs:List zc)(s:Nat):List zc:=cs.filter λc=>decide (xM t c.g.o=s/\0<c.d.j)
def TX.round{t0:Ψ}(A:T0 cs t0 t)(q:uj cs t){D:DB}(h:TX t (zp cs) L D)(s k:Nat):TX t (zp cs) (L++xY L k (yv t cs s) []) (zy4 ((uP t (zp cs) Y cs).filter λr=>decide (r.L=s)) k D)/\(xY L k (yv t cs s) []=[]↔∀p x,Tr (zy4 ((uP t (zp cs) Y cs).filter λr=>decide (r.L=s)) k D) p x->Tr D p x):=by
 have u:∀i (hi:i<cs.j),ka (yH ((un Y i).g [])) (zx cs[i]).j:=λi hi=>p6 (fm (A.many _ (zq hi)));have Q:=Af A (zp cs) Y u s D;generalize (uP t (zp cs) Y cs).filter (λr=>decide (r.L=s))=I at *;have P:=(ff cs).1;obtain⟨n1,n2⟩:(xY L k (yv t cs s) []).Nodup/\∀f,f∈xY L k (yv t cs s) []↔(∃c∈cs,xM t c.g.o=s/\0<c.d.j/\∃x,sd L c x/\f=(c.g.o,x,k))/\¬∃m,(f.1,f.2.1,m)∈L:=by
  rw[GG];obtain⟨i1,i2⟩:=et (fs:=L) (k:=k) ((yv t cs s).flatMap λc=>(yu L c.g c.d c.d []).w λr=>(c.g.o,r,k)) [] (λg E=>by
   obtain⟨c,_,E⟩:=vg.1 E;obtain⟨r,_,rfl⟩:=zF.1 E;rfl) (λg E=>by cases E) List.nodup_nil (λg E=>by cases E)
  refine⟨i1,λf=>(i2 f).A ?_⟩;simp only[nQ,false_or];refine and_congr_left λ_=>?_;rw[vg];constructor;rintro⟨c,n,B⟩;obtain⟨G,H⟩:=xy.1 n;obtain⟨r,T,rfl⟩:=zF.1 B;have H:=of_decide_eq_true H;exact⟨c,G,H.1,H.2,r,(GF (h.fs q) G (q.ne G) (q.cov c G)).1 T,rfl⟩;rintro⟨c,n,G,H,r,T,rfl⟩;exact⟨c,xy.2 ⟨n,decide_eq_true ⟨G,H⟩⟩,zF.2 ⟨r,(GF (h.fs q) n (q.ne n) (q.cov c n)).2 T,rfl⟩⟩
 generalize xY L k (yv t cs s) []=l at *;have o:∀p r,j5 I D p r->∃c∈cs,xM t c.g.o=s/\0<c.d.j/\p=zB t c.g.o/\sd L c (zV (zp cs) r (yc t p) 3)/\vc t p=c.g.o/\p<t.j/\T1 (yc t p) r/\∀i,i<yc t p->r.g i 0<(zp cs).j:=by
  intro p r j;obtain⟨c,n,C,N,rfl,J⟩:=(Q p r).1 j;obtain⟨l1,M,l3,l4⟩:=q.lit c n c.g (by simp[zm]);obtain⟨d1,d2,d3⟩:=h.der1 q n J;exact⟨c,n,N,C,rfl,by rw[M];exact d1,l3,l1,by rw[M];exact d2,by rw[M];exact d3⟩
 have w:∀p r,D p r=Y->j5 I D p r->(vc t p,zV (zp cs) r (yc t p) 3,k)∈l:=by
  intro p r d j;obtain⟨c,n,N,C,ac,J,aa,u,S,R⟩:=o p r j;refine(n2 _).2 ⟨⟨c,n,N,C,_,J,by rw[aa]⟩,fun⟨m,hm⟩=>?_⟩;obtain⟨p',W,K,m',V,e⟩:=(h.mem _).1 hm;simp only[ye] at e;have:p=p':=by rw[←(gT q.rise u).1,←(gT q.rise W).1,e.1]
  subst this;have hI:Tr D p K:=by unfold Tr;rw[V];rfl
  have e1:=lL P (q.small p u) S R;have e2:=lL P (q.small p u) (h.ok p K hI).2 (h.inside p K hI);rw[e.2.1] at e1;change uQ (zp cs) (zV (zp cs) K (yc t p) 3) 0 [0,0,0]=Z K at e2;rw[e1,zt] at e2;rw[e2,V] at d;cases d
 have y:∀f∈l,∃p,p<t.j/\∃r,D p r=Y/\j5 I D p r/\f=(vc t p,zV (zp cs) r (yc t p) 3,k):=by
  intro f B;obtain⟨⟨c,n,N,C,x,J,rfl⟩,ab⟩:=(n2 f).1 B;obtain⟨r,T,rfl⟩:=h.der2 q n J;have hh:c.g∈zm c:=by simp[zm]
  obtain⟨l1,M,l3,l4⟩:=q.lit c n c.g hh;refine⟨zB t c.g.o,l1,r,?_,(Q _ r).2 ⟨c,n,C,N,rfl,T⟩,by rw[M,l3]⟩;rcases d:D (zB t c.g.o) r with _|m;rfl;exact zC ⟨m,(h.lit q n hh _ m).2 ⟨r,d,rfl⟩⟩ ab
 have F:∀p r,Tr (zy4 I k D) p r->Tr D p r∨(D p r=Y/\j5 I D p r):=by
  intro p r j;unfold Tr zy4 at j;rcases d:D p r with _|m;rw[d] at j;simp only at j;split at j;rename_i z;exact ze ⟨rfl,z⟩;cases j;exact zh (by unfold Tr;rw[d];rfl)
 refine⟨⟨λf=>?_,rF.2 ⟨h.once,n1,λa ha b C e=>?_⟩,λp r j=>?_,λp r j=>?_⟩,λe p r j=>?_,λe=>?_⟩;rw[ya];constructor;rintro(B|B);obtain⟨p,A,r,m,d,rfl⟩:=(h.mem f).1 B;exact⟨p,A,r,m,ID d,rfl⟩;obtain⟨p,A,r,d,j,rfl⟩:=y f B;refine⟨p,A,r,k,?_,rfl⟩;unfold zy4;rw[d];exact zb j;rintro⟨p,A,r,m,d,rfl⟩;unfold zy4 at d;rcases v:D p r with _|m';rw[v] at d;simp only at d;split at d;rename_i z;cases d;exact ze (w p r v z);cases d;rw[v] at d;cases d;exact zh ((h.mem _).2 ⟨p,A,r,m,v,rfl⟩);subst e;exact((n2 a).1 C).2 ⟨a.2.2,ha⟩;rcases F p r j with z|⟨_,z⟩;exact h.ok p r z;obtain⟨c,_,_,_,_,_,_,q1,q2,_⟩:=o p r z;exact⟨by simpa using q1,q2⟩;rcases F p r j with z|⟨_,z⟩;exact h.inside p r z;obtain⟨c,_,_,_,_,_,_,q1,q2,q3⟩:=o p r z;exact q3;rcases F p r j with z|⟨z1,z2⟩;exact z;have:=w p r z1 z2;rw[e] at this;cases this;rcases l with _|⟨f,l⟩;rfl;obtain⟨p,_,r,d,j,_⟩:=y f ζ;have:=e p r (Ga p r j);unfold Tr at this;rw[d] at this;cases this
def TX.card(u:uj cs t){D:DB}(h:TX t (zp cs) L D):lA D L.j:=by
 have q:=(ff cs).1;have d:=λp r (g:Tr D p r)=>lL q (u.small p (by have:=(h.ok p r g).1;simpa using this)) (h.ok p r g).2 (h.inside p r g);have c:∀f∈L,∃p r m,D p r=Z m/\f=(vc t p,zV (zp cs) r (yc t p) 3,m)/\(zB t f.1,(uQ (zp cs) f.2.1 0 [0,0,0]).g [])=(p,r):=by
  intro f o;obtain⟨p,n,r,m,k,rfl⟩:=(h.mem f).1 o;exact⟨p,r,m,k,rfl,by rw[(gT u.rise n).1,d p r (by unfold Tr;rw[k];rfl)];rfl⟩
 refine⟨L.w λf=>(zB t f.1,(uQ (zp cs) f.2.1 0 [0,0,0]).g []),?_,λp x=>?_,ζ⟩;rw[pV,mX];have:=h.once;rw[pV] at this;refine this.imp_of_mem fun{a b} w y s e=>s ?_;obtain⟨p,r,m,k,z,E⟩:=c a w;obtain⟨v,C,B,i,l,j⟩:=c b y;rw[E,j] at e;cases e;rw[i] at k;cases k;rw[z,l];rw[zF];constructor;rintro⟨f,o,e⟩;obtain⟨v,C,B,i,l,j⟩:=c f o;rw[j] at e;cases e;unfold Tr;rw[i];rfl;intro g;obtain⟨m,A⟩:=lV.1 g;have n:p<t.j:=by have:=(h.ok p x g).1;simpa using this
 refine⟨_,(h.mem _).2 ⟨p,n,x,m,A,rfl⟩,?_⟩;rw[(gT u.rise n).1,d p x g];rfl
def TX.small(a:uj cs t){D:DB}(h:TX t (zp cs) L D)(mr:Nat):mU D mr↔L.j<=mr:=
 ⟨fun⟨n,b,c⟩=>by rw[←oE c (h.card a)];exact b,λq=>⟨_,q,h.card a⟩⟩
end
section
open Classical
variable {t:List zg}{cs:List zc}
noncomputable def z1i(t:List zg)(cs:List zc)(mr s:Nat):Nat->Nat->List z9->Option (List z9×Nat)
 |0,_,_=>Y
 |left+1,k,L=>
  if (L++xY L (k+1) (yv t cs s) []).j<=mr then
   if xY L (k+1) (yv t cs s) []=[] then Z (L++xY L (k+1) (yv t cs s) [],k+1)
   else z1i t cs mr s left (k+1) (L++xY L (k+1) (yv t cs s) [])
  else Y
noncomputable def zzk(t:List zg)(cs:List zc)(mr mx:Nat):Nat->Nat->Nat->List z9->Option (List z9×Nat)
 |0,_,k,L=>Z (L,k)
 |n+1,s,k,L=>
  if yv t cs s=[] then zzk t cs mr mx n (s+1) k L
  else match z1i t cs mr s (mx-k) k L with
   |none=>Y
   |some (L',k')=>zzk t cs mr mx n (s+1) k' L'
def ud(cs:List zc):List z9:=((cs.filter λc=>decide (c.d.j=0)).w λc=>(c.g.o,c.g.k,0)).H (uy []) []
noncomputable def ynt(t:List zg)(cs:List zc)(mr mx:Nat):Option (List z9×Nat):=if (ud cs).j<=mr then zzk t cs mr mx t.j 0 0 (ud cs) else Y
def AJ(t:List zg)(ns:κ):Option (List z9×Nat)->Option (DB×Nat)->Prop
 |none,Y=>True
 |some (L,k),Z (D,e)=>k=e/\TX t ns L D
 |_,_=>False
def GM{cs:Ξ}{f t:Ψ}(e:T0 cs f t)(b:uj cs t)(mr s:Nat):∀(left k:Nat) (L:Θ) (D:DB),TX t (zp cs) L D->AJ t (zp cs) (z1i t cs mr s left k L) (zyo ((uP t (zp cs) Y cs).filter λr=>decide (r.L=s)) mr left k D)
 |0,k,L,D,h=>trivial
 |left+1,k,L,D,h=>by
  obtain⟨a,d⟩:=h.round e b s (k+1);have c:=a.small b mr;unfold z1i zyo;by_cases q:(L++xY L (k+1) (yv t cs s) []).j<=mr
  .rw[zb q,zb (c.2 q)];by_cases z:xY L (k+1) (yv t cs s) []=[]
   .rw[zb z,zb (d.1 z)];exact⟨rfl,a⟩
   .rw[za z,za λy=>z (d.2 y)];exact GM e b mr s left (k+1) _ _ a
  .rw[za q,za λy=>q (c.1 y)];trivial
def CP{s:Nat}:yv t cs s=[]↔¬∃c∈cs,0<c.d.j/\xM t c.g.o=s:=by
 unfold yv;rw[iD];exact⟨λh ⟨c,a,b,d⟩=>h c a (decide_eq_true ⟨d,b⟩),λh c a q=>h ⟨c,a,(of_decide_eq_true q).2,(of_decide_eq_true q).1⟩⟩
def An{cs:Ξ}{g t:Ψ}(e:T0 cs g t)(d:uj cs t)(mr mx:Nat):∀(n s k:Nat) (L:Θ) (D:DB),TX t (zp cs) L D->AJ t (zp cs) (zzk t cs mr mx n s k L) (zyq (uP t (zp cs) Y cs) mr mx n s k D)
 |0,s,k,L,D,h=>⟨rfl,h⟩
 |n+1,s,k,L,D,h=>by
  unfold zzk zyq;by_cases q:yv t cs s=[]
  .rw[zb q,zb ((Ie cs s).2 (CP.1 q))];exact An e d mr mx n (s+1) k L D h
  .rw[za q,za λz=>q (CP.2 ((Ie cs s).1 z))];have a:=GM e d mr s (mx-k) k L D h;cases c:z1i t cs mr s (mx-k) k L with
   |none=>
    cases b:zyo ((uP t (zp cs) Y cs).filter λr=>decide (r.L=s)) mr (mx-k) k D with
    |none=>trivial
    |some y=>rw[c,b] at a;exact a.elim
   |some x=>
    cases b:zyo ((uP t (zp cs) Y cs).filter λr=>decide (r.L=s)) mr (mx-k) k D with
    |none=>rw[c,b] at a;exact a.elim
    |some y=>
     rw[c,b] at a;obtain⟨j,f⟩:=x;obtain⟨i,l⟩:=y;obtain⟨rfl,a⟩:=a;exact An e d mr mx n (s+1) f j i a
def wQ(g:uj cs t){c:zc}(f:c∈cs)(n:c.d.j=0):zV (zp cs) (qo t (zp cs) c).row c.g.k.j 3=c.g.k/\T1 c.g.k.j (qo t (zp cs) c).row/\∀i,i<c.g.k.j->(qo t (zp cs) c).row.g i 0<(zp cs).j:=by
 have b:c.g∈zm c:=by simp[zm]
 have o:∀k,([0,0,0,0,0]:Φ).g k 0<5:=by
  intro k;rcases k with _|_|_|_|_|k<;>simp
 have h:=nU.1 n;have e:∀v,v∉zx c:=by
  intro v d;rw[fL,h] at d;obtain⟨_,l,j,_⟩:=d;cases j
 unfold qo;rw[wg t (zp cs) [] o];refine⟨?_,g.can f (λv d=>zC d (e v)) c.g b⟩;rw[eO f b (g.lit c f c.g b).2.2.2];unfold TJ;conv=>rhs;rw[←List.map_id c.g.k]
 refine gE λa m=>?_;rw[za λd=>e a (g.cov c f c.g b a m d)];rfl
def E8(d:uj cs t):TX t (zp cs) (ud cs) (zz3 (vx t (zp cs) cs)):=by
 have w:∀p x,zz3 (vx t (zp cs) cs) p x=if ∃c∈cs,c.d.j=0/\p=zB t c.g.o/\(qo t (zp cs) c).row=x then Z 0 else none:=by
  intro p x;unfold zz3;congr 1;apply propext;unfold vx;simp only[zF,xy];constructor;rintro⟨f,⟨c,⟨a,b⟩,rfl⟩,s,v⟩;exact⟨c,a,by simpa using b,s.z,v⟩;rintro⟨c,a,b,s,v⟩;exact⟨_,⟨c,⟨a,by simp[b]⟩,rfl⟩,s.z,v⟩
 have j:∀p x,Tr (zz3 (vx t (zp cs) cs)) p x->∃c∈cs,c.d.j=0/\p=zB t c.g.o/\(qo t (zp cs) c).row=x:=by
  intro p x h;unfold Tr at h;rw[w] at h;split at h;assumption
  cases h
 obtain⟨y,A⟩:=et (fs:=[]) (k:=0) ((cs.filter λc:zc=>decide (c.d.j=0)).w λc:zc=>((c.g.o,c.g.k,0):z9)) [] (λg o=>by
  obtain⟨c,_,rfl⟩:=zF.1 o;rfl) (λg o=>by cases o) List.nodup_nil (λg o=>by cases o)
 refine⟨λf=>(A f).A ?_,y,λp x h=>?_,λp x h=>?_⟩;simp only[nQ,false_or,exists_false,not_false_eq_true,and_true,zF,xy,decide_eq_true_eq];constructor;rintro⟨c,⟨a,b⟩,rfl⟩;obtain⟨l,e,n,q⟩:=d.lit c a c.g (by simp[zm]);exact⟨_,l,(qo t (zp cs) c).row,0,by rw[w];exact zb ⟨c,a,b,rfl,rfl⟩,by rw[e,n,(wQ d a b).1]⟩;rintro⟨p,B,r,m,u,rfl⟩;have z:Tr (zz3 (vx t (zp cs) cs)) p r:=by unfold Tr;rw[u];rfl
 obtain⟨c,a,b,rfl,rfl⟩:=j p r z;rw[w,zb ⟨c,a,b,rfl,rfl⟩] at u;cases u;obtain⟨l,e,n,q⟩:=d.lit c a c.g (by simp[zm]);exact⟨c,⟨a,b⟩,by rw[e,n,(wQ d a b).1]⟩;obtain⟨c,a,b,rfl,rfl⟩:=j p x h;obtain⟨l,e,n,q⟩:=d.lit c a c.g (by simp[zm]);refine⟨by simpa using l,?_⟩;change T1 (yc t _) _;rw[e];exact(wQ d a b).2.1;obtain⟨c,a,b,rfl,rfl⟩:=j p x h;obtain⟨l,e,n,q⟩:=d.lit c a c.g (by simp[zm]);change ∀i,i<yc t _->_;rw[e];exact(wQ d a b).2.2
def Ph{d:Ψ}(f:T0 cs d t)(a:uj cs t)(mr mx:Nat):AJ t (zp cs) (ynt t cs mr mx) (z0n (vf t (zp cs) Y cs) mr mx):=by
 have h:=E8 a;have c:=h.small a mr;unfold ynt z0n;have e:(vf t (zp cs) Y cs).M.j=t.j:=by simp[vf]
 rw[e];by_cases q:(ud cs).j<=mr;rw[zb q];have b:mU (zz3 (vf t (zp cs) Y cs).facts) mr:=c.2 q;rw[zb b];exact An f a mr mx _ 0 0 _ _ h;rw[za q];have b:¬mU (zz3 (vf t (zp cs) Y cs).facts) mr:=λy=>q (c.1 y);rw[za b];trivial
def Pr{ns ts:κ}{r:zk}(h:uQ ns ts 0 [0,0,0]=Z r):T1 ts.j r/\zV ns r ts.j 3=ts:=by
 match ts,h with
 |[],h=>
  simp only[uQ,zt] at h;subst h;exact⟨⟨rfl,λi _=>by rcases i with _|_|_|i<;>rfl⟩,rfl⟩
 |[a],h=>
  simp only[uQ] at h;rcases e:xn ns a with _|x;rw[e] at h;cases h;have j:=(p4 e).2;simp[e] at h;subst h;refine⟨⟨rfl,λi f=>?_⟩,by simpa [zV] using j⟩;rcases i with _|_|_|i;simp at f
  all_goals rfl
 |[a,b],h=>
  simp only[uQ] at h;rcases e:xn ns a with _|x;rw[e] at h;cases h;rcases g:xn ns b with _|y;simp[e,g] at h;have j:=(p4 e).2;have k:=(p4 g).2;simp[e,g] at h;subst h;refine⟨⟨rfl,λi f=>?_⟩,by simpa [zV,List.range_succ] using⟨j,k⟩⟩;rcases i with _|_|_|i;simp at f;simp at f
  all_goals rfl
 |[a,b,c],h=>
  simp only[uQ] at h;rcases e:xn ns a with _|x;rw[e] at h;cases h;rcases g:xn ns b with _|y;simp[e,g] at h;rcases l:xn ns c with _|z;simp[e,g,l] at h;have j:=(p4 e).2;have k:=(p4 g).2;have m:=(p4 l).2;simp[e,g,l] at h;subst h;refine⟨⟨rfl,λi f=>?_⟩,by simpa [zV,List.range_succ] using⟨j,k,m⟩⟩;rcases i with _|_|_|i;simp at f;simp at f;simp at f;rfl
 |a::b::c::d::ts,h=>
  exfalso;simp only[uQ] at h;repeat' split at h
  all_goals first|(cases h;done)|(simp at *;done)
def Ob(n:uj cs t){L:Θ}{R:zv}(y:TT t (zp cs) R)(h:TX t (zp cs) L (zyx (t.w (·.jh)) R))(a:ByteArray)(row:κ):pu t (zp cs) R a row=if (zU t a).I=true then(match yP a row L with|none=>(0,12)|some k=>(((L[k]?).w (·.2.2)).g 0,0)) else(0,11):=by
 unfold pu;rcases v:zU t a with _|e;rfl;obtain⟨x,D,w⟩:=jn v;have c:zB t a=zW t a:=by unfold zB;rw[v];rfl
 have b:zB t a<t.j:=by rw[c];exact x
 have i:vc t (zB t a)=a:=by
  have:t[zB t a]=e:=by simp only[c,D]
  rw[(gT n.rise b).2,this,w]
 rw[za (by rintro(z|z);cases z;have:=y.len;omega),zb (show(Z e).I=true from rfl)];rcases q:yP a row L with _|k;simp only;split;rfl;rename_i o;split;rfl;rename_i r B;obtain⟨f,d⟩:=Pr B;have o:row.j=yc t (zB t a):=by simpa using o
 rw[o] at f d;rcases C:uf (R.I.g (zB t a) zl.zero) r with _|m;rfl;refine zC ((h.mem _).2 ⟨zB t a,b,r,m,?_,rfl⟩) (by rw[i,d];exact AO q m);unfold zyx;rw[zb ⟨by simpa using b,f⟩];exact C;obtain⟨u,l,j⟩:=wY q;obtain⟨p,A,r,m,g,e⟩:=(h.mem _).1 (zq u);simp only;rw[yn u];rw[e] at l j ⊢;simp only at l j;have:zB t a=p:=by rw[←l];exact(gT n.rise A).1
 subst this;have s:Tr (zyx (t.w (·.jh)) R) (zB t a) r:=by unfold Tr;rw[g];rfl
 obtain⟨f,d⟩:=h.ok _ _ s;rw[←j,za (by rw[kN];simp),lL (ff cs).1 (n.small _ b) d (h.inside _ _ s)];simp only;unfold zyx at g;rw[zb ⟨f,d⟩] at g;rw[g];rfl
end
section
open Classical
variable {cs:List zc}{t:List zg}
def BW{α β:Type}(f:α->List β)(m:Nat):∀(l:List α),(∀x∈l,(f x).j=m)->(l.flatMap f).j=l.j*m
 |[],_=>ζ
 |a::l,h=>by
  rw[uX,yK,BW f m l (λx b=>h x (by simp[b])),h a ζ,xu,Nat.succ_mul];omega
def pe{α:Type}(ns:List α):Nat->List (List α)
 |0=>[[]]
 |k+1=>ns.flatMap λx=>(pe ns k).w (x::·)
def oL{α:Type}(ns:List α):∀k,(pe ns k).j=ns.j ^ k
 |0=>rfl
 |k+1=>by
  unfold pe;rw[BW _ (ns.j ^ k) ns (λx _=>by rw[xt];exact oL ns k),Nat.pow_succ,Nat.mul_comm]
def B7{α:Type}{ns:List α}:∀(l:List α),(∀x∈l,x∈ns)->l∈pe ns l.j
 |[],_=>by simp[pe]
 |x::l,h=>by
  rw[xu];unfold pe;exact vg.2 ⟨x,h x ζ,zF.2 ⟨l,B7 l (λy a=>h y (by simp[a])),rfl⟩⟩
def Ry(a:uj cs t){L:Θ}{D:DB}(h:TX t (zp cs) L D):L.j<=t.j*((zp cs).j+1) ^ 3:=by
 obtain⟨l,f,n,k⟩:=h.card a;rw[←k];have o:(((List.range t.j).flatMap λp=>(pe (List.range ((zp cs).j+1)) 3).w λr=>(p,r))).j=t.j*((zp cs).j+1) ^ 3:=by
  rw[BW _ (((zp cs).j+1) ^ 3) _ (λx _=>by rw[xt,oL,ri]),ri]
 rw[←o];refine mO f λx b=>?_;obtain⟨p,r⟩:=x;have c:=(n p r).1 b;obtain⟨g,e⟩:=h.ok p r c;have j:=h.inside p r c;refine vg.2 ⟨p,qv.2 (by simpa using g),zF.2 ⟨r,?_,rfl⟩⟩;have:=B7 (ns:=List.range ((zp cs).j+1)) r (λx a=>?_);rw[e.1] at this;exact this;obtain⟨i,d,rfl⟩:=vQ.1 a;rw[qv];by_cases m:i<(t.w (·.jh)).g p 0;have:=j i m;rw[List.getD,yn d,uE] at this;omega;have:=e.2 i η;rw[List.getD,yn d,uE] at this;omega
def qB(fs:List z9):List zj->y9->List y9
 |[],B=>[B]
 |l::rest,B=>if l.i=true then qB fs rest B else fs.flatMap λf=>if f.1=l.o then(match xG B l.k f.2.1 with|none=>[]|some a=>qB fs rest a) else []
def ot(fs:Θ)(h:zj)(body:Ω):∀(rest:Ω) (B:y9),(yu fs h body rest B).j<=(qB fs rest B).j
 |[],B=>by
  unfold yu qB;split<;>simp
 |l::rest,B=>by
  unfold yu qB;split
  .exact ot fs h body rest B
  .have:∀a:Θ,(a.flatMap λf=>if f.1=l.o then(match xG B l.k f.2.1 with|none=>[]|some b=>yu fs h body rest b) else []).j<=(a.flatMap λf=>if f.1=l.o then(match xG B l.k f.2.1 with|none=>[]|some b=>qB fs rest b) else []).j:=by
    intro a;induction a with
    |nil=>simp
    |cons g a c=>
     rw[uX,uX,yK,yK];refine Nat.add_le_add ?_ c;split
     .split
      .exact zf _
      .exact ot fs h body rest _
     .exact zf _
   exact this fs
def f9(body:List zj)(B:y9):List (κ):=body.w λl=>if l.i=true then [] else yI B l.k
def B8{cs:Ξ}{fs:Θ}(N:ty cs fs){c:zc}(W:c∈cs)(F:∀l∈zm c,∀a∈l.k,a≠ByteArray.empty)(V:∀f∈fs,∀g∈fs,f.1=g.1->f.2.1=g.2.1->f=g)(hn:fs.Nodup):∀(rest done:Ω) (B:y9),c.d=done++rest->qz B->(∀l∈done,l.i=false->∀a∈l.k,yr B a≠ByteArray.empty)->(∀k∈qB fs rest B,qz k/\UX B k/\∀l∈rest,l.i=false->(∃m,(l.o,yI k l.k,m)∈fs)/\∀a∈l.k,yr k a≠ByteArray.empty)/\((qB fs rest B).w (f9 rest)).Nodup
 |[],done,B,e,R,P=>by
  unfold qB;refine⟨λk d=>?_,ζ⟩;rw[xL.1 d];exact⟨R,λv x q=>q,λl hl=>by cases hl⟩
 |l::rest,done,B,e,R,P=>by
  have e2:c.d=(done++[l])++rest:=by rw[e];simp
  have J:l∈zm c:=by simp[zm,e]
  unfold qB;split
  .rename_i i;obtain⟨I,Q⟩:=B8 N W F V hn rest (done++[l]) B e2 R (λs r j=>by
    rcases ya.1 r with q|q
    .exact P s q j
    .rw[xL.1 q,i] at j;cases j)
   refine⟨λk d=>⟨(I k d).1,(I k d).2.1,λs r j=>?_⟩,?_⟩
   .rcases zG.1 r with rfl|q
    .rw[i] at j;cases j
    .exact(I k d).2.2 s q j
   .have:(qB fs rest B).w (f9 (l::rest))=((qB fs rest B).w (f9 rest)).w ([]::·):=by
     rw[pg];refine gE λk _=>?_;simp[f9,i]
    rw[this,pV,mX];rw[pV] at Q;exact Q.imp λh q=>h (by simpa using q)
  .rename_i i;have i:l.i=false:=by simpa using i
   have n:∀f∈fs,f.1=l.o->∀o,xG B l.k f.2.1=Z o->(∀k∈qB fs rest o,qz k/\UX B k/\yI k l.k=f.2.1/\(∀a∈l.k,yr k a≠ByteArray.empty)/\∀s∈rest,s.i=false->(∃m,(s.o,yI k s.k,m)∈fs)/\∀a∈s.k,yr k a≠ByteArray.empty)/\((qB fs rest o).w (f9 rest)).Nodup:=by
    intro f w y o D;obtain⟨j1,j2,j3⟩:=sw l.k f.2.1 B o (N.jh f w c W l J y.z).z (N.ne f w) (F l J) R D;have z:∀a∈l.k,yr o a≠ByteArray.empty:=λa u=>by
     have:yr o a∈yI o l.k:=zF.2 ⟨a,u,rfl⟩;rw[j3] at this;exact N.ne f w _ this
    obtain⟨I,Q⟩:=B8 N W F V hn rest (done++[l]) o e2 j1 (λs r j a u=>by
     rcases ya.1 r with q|q
     .rw[pN j2 (P s q j a u)];exact P s q j a u
     .rw[xL.1 q] at u;exact z a u)
    refine⟨λk d=>?_,Q⟩;obtain⟨k1,K,k3⟩:=I k d;exact⟨k1,j2.A K,by rw[←j3];exact gE λa u=>pN K (z a u),λa u=>by rw[pN K (z a u)];exact z a u,k3⟩
   refine⟨λk d=>?_,?_⟩
   .obtain⟨f,w,d⟩:=vg.1 d;split at d
    .rename_i y;split at d
     .cases d
     .rename_i o D;obtain⟨k1,K,k3,k4,k5⟩:=(n f w y o D).1 k d;refine⟨k1,K,λs r j=>?_⟩;rcases zG.1 r with rfl|q
      .exact⟨⟨f.2.2,by rw[k3,←y];exact w⟩,k4⟩
      .exact k5 s q j
    .cases d
   .have hg:∀G:Θ,G.Nodup->(∀g∈G,g∈fs)->((G.flatMap λf=>if f.1=l.o then(match xG B l.k f.2.1 with|none=>[]|some k=>qB fs rest k) else []).w (f9 (l::rest))).Nodup:=by
     intro G;induction G with
     |nil=>intro _ _;simp
     |cons g G ih=>
      intro aa C;obtain⟨T,ab⟩:=jx.1 aa;rw[uX,qF,rF];have E:=C g ζ;refine⟨?_,ih ab (λx hx=>C x (by simp[hx])),?_⟩
      .split
       .rename_i y;split
        .simp
        .rename_i o D;obtain⟨s1,s2⟩:=n g E y o D;have:(qB fs rest o).w (f9 (l::rest))=((qB fs rest o).w (f9 rest)).w (g.2.1::·):=by
          rw[pg];refine gE λk d=>?_;simp[f9,i,(s1 k d).2.2.1]
         rw[this,pV,mX];rw[pV] at s2;exact s2.imp λh q=>h (by simpa using q)
       .simp
      .intro a u b hb L;obtain⟨A,M,rfl⟩:=zF.1 u;obtain⟨A2,p,rfl⟩:=zF.1 hb;obtain⟨f,w,p⟩:=vg.1 p;split at M
       .rename_i y;split at M
        .cases M
        .rename_i o D;split at p
         .rename_i H;split at p
          .cases p
          .rename_i B2 S;have r1:=((n g E y o D).1 A M).2.2.1;have r2:=((n f (C f (by simp[w])) H B2 S).1 A2 p).2.2.1;have:yI A l.k=yI A2 l.k:=by
            simp only[f9,uq,i,mS] at L;simpa using L.1
           have ac:=V g E f (C f (by simp[w])) (y.A H.z) (by rw[←r1,←r2,this]);exact T (ac ▸ w)
         .cases p
       .cases M
    exact hg fs hn (λg hg=>hg)
def I3(d:uj cs t){L:Θ}{D:DB}(h:TX t (zp cs) L D){c:zc}(u:c∈cs):(yu L c.g c.d c.d []).j<=(zp cs).j ^ (zx c).j:=by
 refine zY (ot L c.g c.d c.d []) ?_;have ho:∀f∈L,∀g∈L,f.1=g.1->f.2.1=g.2.1->f=g:=by
  intro f hf g hg e1 e2;obtain⟨p,N,r,m,o,rfl⟩:=(h.mem f).1 hf;obtain⟨p',G,A,m',z,rfl⟩:=(h.mem g).1 hg;simp only at e1 e2;have:p=p':=by rw[←(gT d.rise N).1,←(gT d.rise G).1,e1]
  subst this;have T:Tr D p r:=by unfold Tr;rw[o];rfl
  have W:Tr D p A:=by unfold Tr;rw[z];rfl
  have C:=lL (ff cs).1 (d.small p N) (h.ok p r T).2 (h.inside p r T);have E:=lL (ff cs).1 (d.small p N) (h.ok p A W).2 (h.inside p A W);change uQ (zp cs) (zV (zp cs) r (yc t p) 3) 0 [0,0,0]=Z r at C;change uQ (zp cs) (zV (zp cs) A (yc t p) 3) 0 [0,0,0]=Z A at E;rw[e2,E,zt] at C;subst C;rw[z] at o;cases o;rfl
 obtain⟨h1,h2⟩:=B8 (h.fs d) u (d.ne u) ho h.once c.d [] [] rfl (λv x q=>by cases q) (λl n=>by cases n);have s:∀B∈qB L c.d [],∀v∈zx c,yr B v∈zp cs:=by
  intro B M v j;obtain⟨V,l,n,R,J⟩:=fL.1 j;obtain⟨⟨m,Q⟩,_⟩:=(h1 B M).2.2 l n R;have k:l∈zm c:=by simp[zm,n]
  obtain⟨r,o,er⟩:=(h.lit d u k _ m).1 Q;obtain⟨C,E⟩:=h.can d u k (r:=r) (by unfold Tr;rw[o];rfl);have:yr B v∈yI B l.k:=zF.2 ⟨v,J,rfl⟩;rw[er] at this;simp only[zV,zF,qv] at this;obtain⟨i,hi,e⟩:=this;have h3:=(d.lit c u l k).2.2.2;rw[zb η] at e;rw[←e];exact oD (E i hi)
 have w:∀F∈qB L c.d [],∀H∈qB L c.d [],(zx c).w (yr F)=(zx c).w (yr H)->f9 c.d F=f9 c.d H:=by
  intro F _ H _ e;refine gE λl n=>?_;split;rfl;rename_i R;refine gE λa I=>?_;by_cases j:zQ a=true;have Q:=fL.2 ⟨j,l,n,by simpa using R,I⟩;exact List.map_inj_left.1 e a Q;unfold yr;rw[za j,za j]
 have K:((qB L c.d []).w λB=>(zx c).w (yr B)).Nodup:=by
  rw[pV,mX] at h2 ⊢;exact h2.imp_of_mem fun{a b} I hb P e=>P (w a I b hb e)
 have:=mO K (l2:=pe (zp cs) (zx c).j) (λx S=>by
  obtain⟨B,M,rfl⟩:=zF.1 S;have:=B7 (ns:=zp cs) ((zx c).w (yr B)) (λy hy=>by
   obtain⟨v,j,rfl⟩:=zF.1 hy;exact s B M v j)
  rw[xt] at this;exact this)
 rw[xt,oL] at this;exact this
def Lx{i:Ψ}(m:T0 cs i t)(a:uj cs t)(f:t.j<=1000)(g:(zp cs).j<=250):∀L D,TX t (zp cs) L D->L.j<1000000000000/\∀c∈cs,(yu L c.g c.d c.d []).j<=1000000000000:=by
 intro L D h;refine⟨?_,λc b=>?_⟩;have e:=Ry a h;have d:((zp cs).j+1) ^ 3<=251 ^ 3:=Nat.pow_le_pow_left η 3;have j:=Nat.mul_le_mul f d;have k:(1000*251 ^ 3:Nat)=15813251000:=θ;omega;have e:=I3 a h b;have l:=fm (m.many c b);have d:(zp cs).j ^ (zx c).j<=250 ^ (zx c).j:=Nat.pow_le_pow_left g _;have j:250 ^ (zx c).j<=250 ^ 5:=Nat.pow_le_pow_right η l;have k:(250 ^ 5:Nat)=976562500000:=θ;omega
def Mn{s:ByteArray}(h:uC s=.ok (cs,t)):(zp cs).j<=250:=by
 obtain⟨c,a⟩:=Im h;have b:=D2 h;have e:=BR cs a.many;have d:=Ic cs;omega
end
section
open Go.Proofs.Tryz Go.RowKit
def LW{lo v:Nat}(w:U)(G vb:O)(a b:κ)(A:To lo w G a)(B:To v w vb b)(S:b.j=a.j)(hl:a.j<=1000000):
  Calls prog 81 #[G,vb] w λe W=>e=ε (.i (yR a b))/\μ w W:=by
 obtain⟨ao,P,rfl⟩:=A.qy;obtain⟨L,F,rfl⟩:=B.qy;have K:=Th A;have R:=Th B;have N:X (yR a b=yR (a.drop 0) (b.drop 0)):=show yR a b=_ from rfl
 clear A B;generalize yR a b=r at *;go_enter func81,ntmps81;go_wp2;go_loopw [5] (λi wr=>∃k:Nat,k<=a.j/\i=ι k/\X (r=yR (a.drop k) (b.drop k))/\μ w wr) (λi _=>a.j-(intOf i).D);exact⟨0,zs _,rfl,N,zn _ _⟩;obtain⟨k,hk,rfl,z,c⟩:=hrel;have J:=c.q;by_cases m:k<a.j
 .have h:k<b.j:=η;have q:=z.l;rw[JA m h] at q;have u:=Th q;clear q z;obtain⟨g,rfl,T,p⟩:=K.l.cell k m;obtain⟨M,rfl,E,l⟩:=R.l.cell k h;have s:=zi c T p;have f:=zi c E l;have t:g<wr.o.q:=η;have j:M<wr.o.q:=η;clear p l;by_cases o:a[k]=b[k]
  .have D:=jq o;have n:=Th (show r=_ by rw[u.l,zb o]);clear o u;generalize a[k]=x at *;generalize b[k]=y at *;go_wp2;go_quiet (fail)
   go_wp2;go_roundw;exact⟨k+1,η,ξ,n,zI c _⟩;simp[intOf];omega
  have D:=vU o;have n:=Th (show r=_ by rw[u.l,za o]);clear o u;unfold TC at n;generalize a[k]=x at *;generalize b[k]=y at *;go_wp2;go_quiet (fail)
  have d:=mE wr nq;have Q:=zi d t s;have H:=zi d j f;have V:=ym t d.q;have I:=ym j d.q;have C:μ w (wr.drewN nq):=zI c _;clear s f;generalize wr.drewN nq=wq at *;go_wp2;go_quiet (fail)
  go_wp2;go_ret;exact⟨by rw[n.l];rfl,zI C _⟩
 have n:X (r=false):=show r=false by rw[z.l];exact Mp (λq=>m q.1)
 go_wp2;go_ret;exact⟨by rw[n.l];rfl,c⟩
end
def jJ:List (κ)->Nat->List (κ)
 |l,0=>l
 |l,k+1=>if yR (l.g (k+1) []) (l.g k []) then jJ ((l.set (k+1) (l.g k [])).set k (l.g (k+1) [])) k else l
def lO(L:List z9)(n:ByteArray):List (κ):=L.H (λa f=>if f.1=n then jJ (a++[f.2.1]) a.j else a) []
def iK:∀(a b c:κ),yR a b=true->yR b c=true->yR a c=true
 |[],_,_,h,_=>by simp[yR] at h
 |_::_,[],_,h,_=>by simp[yR] at h
 |_::_,_::_,[],_,h=>by simp[yR] at h
 |a::x,b::y,c::z,e,d=>by
  simp only[yR] at e d ⊢;by_cases g:a=b
  .subst g;rw[zb rfl] at e;by_cases f:a=c
   .subst f;rw[zb rfl] at d ⊢;exact iK x y z e d
   .rw[za f] at d ⊢;exact d
  .rw[za g] at e;by_cases f:b=c
   .subst f;rw[za g];exact e
   .rw[za f] at d;have i:=lt_trans e d;rw[za]
    .exact i
    .rintro rfl;rw[Tw] at i;cases i
def F5:∀(a b:κ),a.j=b.j->a≠b->yR a b=false->yR b a=true
 |[],[],_,h,_=>zC rfl h
 |[],_::_,h,_,_=>by simp at h
 |_::_,[],h,_,_=>by simp at h
 |a::x,b::y,d,c,h=>by
  simp only[yR] at h ⊢;by_cases e:a=b
  .subst e;rw[zb rfl] at h ⊢;exact F5 x y (by simpa using d) (λq=>c (by rw[q])) h
  .rw[za e] at h;rw[za (Ne.symm e)];cases f:TC b a with
   |true=>rfl
   |false=>exact zC (tE h f) e
def Gs(x:κ):∀(n:Nat) (p s:List (κ)),p.j=n->p.Pairwise (λa b=>yR a b=true)->jJ (p++x::s) p.j=p.filter (λy=>!yR x y)++x::(p.filter (yR x ·)++s)
 |0,p,s,f,_=>by
  obtain rfl:=lI f;simp[jJ]
 |n+1,p,s,f,t=>by
  obtain⟨q,y,rfl⟩:∃q y,p=q++[y]:=⟨p.dropLast,p.getLast (by intro e;simp[e] at f),(Ad _).z⟩;have m:q.j=n:=by simpa using f
  have c:=mH.1 t;have r:(q++[y]++x::s).g (q.j+1) []=x:=by simp[List.getD_eq_getElem?_getD]
  have o:(q++[y]++x::s).g q.j []=y:=by simp[List.getD_eq_getElem?_getD]
  rw[yK,List.length_singleton];simp only[jJ];rw[r,o];by_cases d:yR x y=true
  .rw[zb d];have e:((q++[y]++x::s).set (q.j+1) y).set q.j x=q++x::(y::s):=ζ;rw[e,Gs x n q (y::s) m c.1];simp[List.filter_append,d]
  .rw[za d];have j:yR x y=false:=by simpa using d
   have g:∀z∈q,yR x z=false:=λz g=>by
    cases i:yR x z with
    |false=>rfl
    |true=>exact zC (iK _ _ _ i (c.2.2 z g y ζ)) d
   have k:q.filter (λy=>!yR x y)=q:=List.filter_eq_self.2 λz h=>by simp[g z h]
   have l:q.filter (yR x ·)=[]:=iD.2 λz h=>by simp[g z h]
   simp[List.filter_append,k,l,j]
def Jv{p:List (κ)}{x:κ}(f:p.Pairwise (λa b=>yR a b=true))(i:∀y∈p,x.j=y.j)(j:x∉p):(jJ (p++[x]) p.j).Pairwise (λa b=>yR a b=true)/\∀y,y∈jJ (p++[x]) p.j↔y=x∨y∈p:=by
 rw[Gs x _ p [] rfl f];have k:∀y∈p,yR x y=false->yR y x=true:=λy c h=>F5 x y (i y c) (λe=>j (e ▸ c)) h;refine⟨mH.2 ⟨f.filter _,mp.2 ⟨λy c=>?_,by simpa using f.filter _⟩,λy c z d=>?_⟩,λy=>?_⟩;simp at c;exact c.2;simp at c d;have g:=k y c.1 c.2;rcases d with rfl|d;exact g;exact iK _ _ _ g d.2;simp only[ya,zG,xy,qn,sX];constructor;rintro(h|h|h);exact ze h.1;exact zh h;exact ze h.1;rintro(h|h);exact ze (zh h);cases l:yR x y;exact zh ⟨h,rfl⟩;exact ze (ze ⟨h,rfl⟩)
def Bk(n:ByteArray)(k:Nat):∀(L:Θ) (c:List (κ)),c.Pairwise (λa b=>yR a b=true)->(∀y∈c,y.j=k)->(∀f∈L,f.1=n->f.2.1.j=k/\f.2.1∉c)->L.Pairwise (λf g=>f.1=g.1->f.2.1≠g.2.1)->(L.H (λc f=>if f.1=n then jJ (c++[f.2.1]) c.j else c) c).Pairwise (λa b=>yR a b=true)/\∀y,y∈L.H (λc f=>if f.1=n then jJ (c++[f.2.1]) c.j else c) c↔y∈c∨∃f∈L,f.1=n/\f.2.1=y
 |[],c,p,_,_,_=>⟨p,λy=>ζ⟩
 |f::L,c,p,t,r,A=>by
  obtain⟨v,o⟩:=mp.1 A;rw[uJ];by_cases i:f.1=n
  .rw[zb i];obtain⟨w,x⟩:=r f ζ i;obtain⟨z,l⟩:=Jv p (λy m=>by rw[w,t y m]) x;obtain⟨u,s⟩:=Bk n k L _ z (λy m=>by
    rcases(l y).1 m with rfl|m
    .exact w
    .exact t y m) (λg d e=>⟨(r g (by simp[d]) e).1,λj=>by
    rcases(l _).1 j with j|j
    .exact v g d (by rw[i,e]) j.z
    .exact(r g (by simp[d]) e).2 j⟩) o
   refine⟨u,λy=>(s y).A ⟨λh=>?_,λh=>?_⟩⟩
   .rcases h with h|⟨g,d,e,q⟩
    .rcases(l y).1 h with rfl|h
     .exact ze ⟨f,ζ,i,rfl⟩
     .exact zh h
    .exact ze ⟨g,by simp[d],e,q⟩
   .rcases h with h|⟨g,d,e,q⟩
    .exact zh ((l y).2 (ze h))
    .rcases zG.1 d with rfl|d
     .exact zh ((l y).2 (zh q.z))
     .exact ze ⟨g,d,e,q⟩
  .rw[za i];obtain⟨u,s⟩:=Bk n k L c p t (λg d e=>r g (by simp[d]) e) o;refine⟨u,λy=>(s y).A ⟨λh=>?_,λh=>?_⟩⟩
   .rcases h with h|⟨g,d,q⟩
    .exact zh h
    .exact ze ⟨g,by simp[d],q⟩
   .rcases h with h|⟨g,d,q⟩
    .exact zh h
    .rcases zG.1 d with rfl|d
     .exact zC q.1 i
     .exact ze ⟨g,d,q⟩
def NQ{L:Θ}{n:ByteArray}{k:Nat}(d:∀f∈L,f.1=n->f.2.1.j=k)(h:L.Pairwise (λf g=>f.1=g.1->f.2.1≠g.2.1)):(lO L n).Pairwise (λa b=>yR a b=true)/\∀y,y∈lO L n↔∃f∈L,f.1=n/\f.2.1=y:=by
 obtain⟨c,j⟩:=Bk n k L [] List.Pairwise.nil ζ (λf i e=>⟨d f i e,ζ⟩) h;exact⟨c,λy=>by simpa [lO] using j y⟩
section
variable {t:List zg}
def Ci{α:Type}{lt:α->α->Prop}(c:∀a b,lt a b->¬lt b a):∀{l m:List α},l.Pairwise lt->m.Pairwise lt->(∀x,x∈l↔x∈m)->l=m
 |[],[],_,_,_=>rfl
 |[],y::m,_,_,h=>by have:=(h y).2 ζ;cases this
 |x::l,[],_,_,h=>by have:=(h x).1 ζ;cases this
 |x::l,y::m,n,k,h=>by
  obtain⟨g,i⟩:=mp.1 n;obtain⟨f,j⟩:=mp.1 k;obtain rfl:x=y:=by
   rcases zG.1 ((h x).1 ζ) with q|q
   .exact q
   .rcases zG.1 ((h y).2 ζ) with e|e
    .exact e.z
    .exact zC (g y e) (c _ _ (f x q))
  rw[Ci c i j λz=>⟨λd=>?_,λd=>?_⟩]
  .rcases zG.1 ((h z).1 (by simp[d])) with rfl|q
   .exact zC (g z d) (λq=>c _ _ q q)
   .exact q
  .rcases zG.1 ((h z).2 (by simp[d])) with rfl|q
   .exact zC (f z d) (λq=>c _ _ q q)
   .exact q
def La{cs:Ξ}{L:Θ}{R:zv}(d:TT t (zp cs) R)(h:TX t (zp cs) L (zyx (t.w (·.jh)) R)){p:Nat}(z:p<t.j):lO L (vc t p)=(jN R p).w λr=>zV (zp cs) r (yc t p) 3:=by
 have l:∀{q A:Nat},q<t.j->A<t.j->vc t q=vc t A->q=A:=fun{q A} a b e=>by
  have x:=(d.name a).2.1;rw[e,(d.name b).2.1] at x;exact x.z
 have B:∀{q:Nat} {r v:zk} {m F:Nat},q<t.j->zyx (t.w (·.jh)) R q r=Z m->zyx (t.w (·.jh)) R q v=Z F->zV (zp cs) r (yc t q) 3=zV (zp cs) v (yc t q) 3->r=v:=fun{q r v m F} a b c e=>by
  have K:=sL _ R q r (by unfold Tr;rw[b];rfl);have I:=sL _ R q v (by unfold Tr;rw[c];rfl);have P:=d.inside q r (by unfold Tr;rw[b];rfl);have H:=d.inside q v (by unfold Tr;rw[c];rfl);have x:=lL d.nrise (d.ar a).1 K.2 P;rw[e,lL d.nrise (d.ar a).1 I.2 H] at x;exact(Option.some.inj x).z
 obtain⟨J,M⟩:=NQ (L:=L) (n:=vc t p) (k:=yc t p) (λf w e=>by
  obtain⟨q,o,r,m,u,rfl⟩:=(h.mem f).1 w;obtain rfl:=l o z e;exact kN _ _ _ _) (by
  refine h.once.imp_of_mem fun{f g} w S E e N=>E ?_;obtain⟨q,o,r,m,u,rfl⟩:=(h.mem f).1 w;obtain⟨A,D,v,F,s,rfl⟩:=(h.mem g).1 S;obtain rfl:=l o D e;obtain rfl:=B o u s N;rw[u] at s;cases s;rfl)
 refine Ci (lt:=λa b=>yR a b=true) (λa b T W=>?_) J ?_ λy=>?_;have:=iK a b a T W;rw[GW] at this;cases this;rw[pM];intro i j Q G C;simp only[xt] at Q G;simp only[ue];exact d.sorted z C G;rw[M,zF];constructor;rintro⟨f,w,e,rfl⟩;obtain⟨q,o,r,m,u,rfl⟩:=(h.mem f).1 w;obtain rfl:=l o z e;refine⟨r,?_,rfl⟩;have:=(rX d.inv d.small (by rw[d.len];exact o) r).2 (by unfold Tr;rw[u];rfl);unfold jN;rw[Tn _ (by rw[d.len];exact o)];exact this;rintro⟨r,u,rfl⟩;have q:=(d.row z u).1;unfold Tr at q;obtain⟨m,V⟩:=lV.1 q;exact⟨_,(h.mem _).2 ⟨p,z,r,m,V,rfl⟩,rfl,rfl⟩
def Qt{cs:Ξ}{L:Θ}{R:zv}(b:TT t (zp cs) R)(h:TX t (zp cs) L (zyx (t.w (·.jh)) R)){p:Nat}(g:p<t.j):∀f∈L,f.1=vc t p->f.2.1.j=yc t p:=λf d e=>by
 obtain⟨q,c,r,m,i,rfl⟩:=(h.mem f).1 d;have a:=(b.name c).2.1;rw[show vc t q=vc t p from e,(b.name g).2.1] at a;subst a;exact kN _ _ _ _
def JC{ns:κ}{R:zv}(h:TT t ns R){a:ByteArray}(j:(zU t a).I=true):∃p,p<t.j/\zB t a=p/\vc t p=a:=by
 obtain⟨e,i⟩:=lV.1 j;obtain⟨c,g,f⟩:=jn i;obtain⟨_,d,b⟩:=h.name c;rw[g,f] at b;exact⟨_,c,by rw[b] at d;exact d,b⟩
end
section
open Go.RowKit
def Hk.refl(t:Ψ)(ns:κ)(A:Option (DB×Nat)):Hk t ns A t ns A:=by
 rcases A with _|x;trivial
 exact⟨rfl,λf=>Iff.rfl⟩
def IF{s:ByteArray}{cs:Ξ}{t:Ψ}(h:uC s=.ok (cs,t)):∀c∈cs,pP c:=by
 unfold uC at h;split at h;cases h;split at h;cases h;rename_i l b;split at h;cases h;rename_i d e;have f:=DC _ e (LO b);have a:d=cs:=by
  repeat'(split at h)
  all_goals first|(cases h;done)|(simp only[Except.ok.injEq,ye] at h;exact h.1)
 subst a;exact f
def rm.sz{x:ByteArray}(h:rm (bl x)):0<x.q/\x.q<=6:=by
 have d:=h.ne;have c:=h.six;have e:(bl x).j=x.q:=rfl;rcases b:bl x with _|⟨a,r⟩;exact zC b d;rw[b] at e c;simp only[xu] at e c;omega
def nW.fine{l:zj}(h:nW l)(b:l.k.j<=3):rE l:=
 ⟨h.1.1.sz.2,h.1.1.sz.1,η,λx a=>h.2 x a |>.sz⟩
def pP.fine{c:zc}(h:pP c)(b:yQ c=false):rz c:=by
 unfold yQ at b;simp only[pJ,decide_eq_false_iff_not] at b;obtain⟨⟨⟨e,f⟩,d⟩,_⟩:=b;refine⟨λl a=>?_,η⟩;rcases zG.1 a with rfl|a;exact h.2.1.fine η;have:=List.any_eq_false.1 d l a;simp only[decide_eq_true_eq] at this;exact(h.2.2 l a).fine η
end
section
open Go.Proofs.Tryz Go.RowKit
def MH(w:U)(c:Nat)(d g f:O)(a k:Nat)(m:Int)(h:Ti w c #[d,g,f,ι a,ι k,ι m] 156):
  Calls prog 42 #[(π c)] w λe i=>e=ε (.B #[ι a,ι k,ι m])/\∃n,i=w.drewN n:=by
 obtain⟨b,p⟩:=h.H;have l:=h.lt;have o:=b 3;have q:=b 4;have j:=b 5;clear h b;go_enter func42,ntmps42;go_upto_region 1 with fail
 go_quiet (fail)
 go_wp2;go_ret3
 exact⟨rfl,_,rfl⟩
def MD(w:U)(x m p:Nat)(d g f:O)(h:Option Addr)(cap a k:Nat)(b:Int)(c:Ti w x #[d,g,f,ι a,ι k,ι b] 156)(i:Ti w m #[.k h a cap,ι k] 54)(s:0<=b):
  Calls prog 20 #[.agg #[(π x),(π m),(π p)]] w λe o=>e=ε (.i true)/\X (μ w o):=by
 have l:=Th λW (j:μ w W)=>MH W x d g f a k b (c.u j);obtain⟨t,u,q⟩:=i.e;clear c;go_enter func20,ntmps20;go_wp2_with (go_at_call 42;refine(l.l _ φ).y ?_;rintro e r ⟨rfl,n,rfl⟩)
 go_ret;exact⟨rfl,zI φ n⟩
end
end Go.Proofs.YteampbddflhngaaGreat
