import Derived.Test.YteampbddflhngaaGreatA10
import Derived.Test.YteampbddflhngaaGreatA11
import Derived.Test.YteampbddflhngaaGreatA12
namespace Go.Proofs.YteampbddflhngaaGreat
open List renaming length→List.j,getD→List.d,take→List.G,map→List.w,toArray→List.F,foldl→List.H,getD→i_,replicate→j_,drop_length→n_,set_append→o_,range_succ→p_,getD_eq_getElem?_getD→r_,zipWith_append→t_,getD_cons_zero→u_,getD_cons_succ→v_,range→w_,filter_append→y_,zipWith→z_,append_assoc→B_,nodup_nil→F_
open _root_.Array renaming size→Array.q,getD→Array.d,map→Array.w,foldl→Array.H
open _root_.ByteArray renaming size→ByteArray.q,empty→g_
open Go.RowKit.Below renaming size→Go.RowKit.Below.q,setCell→Go.RowKit.Below.x,mono→Go.RowKit.Below.y,trans→Go.RowKit.Below.A,alloc→Go.RowKit.Below.C
open Go.TypeInfo renaming size→Go.TypeInfo.q
open Go.RowKit.Hid renaming out→Go.RowKit.Hid.l
open Go.Shut renaming out→Go.Shut.l
open Go.World renaming heap→Go.World.o,setCell→Go.World.x,cell?→Go.World.p,alloc→Go.World.C,ownsRow→Go.World.r,ownsRow→l_
open Go.Value renaming slice→Go.Value.k,string→Go.Value.g,bool→Go.Value.i,cells→Go.Value.E,ownBlock→Go.Value.m,pointer→Go.Value.u,tuple→Go.Value.B,string→k_
open Go.TypeDesc renaming slice→Go.TypeDesc.k,string→Go.TypeDesc.g,bool→Go.TypeDesc.i,pointer→Go.TypeDesc.u,tuple→Go.TypeDesc.B
open Option renaming getD→Option.d,map→Option.w,isSome→Option.I,map_map→C_,some_or→D_,none_or→E_,some→Z,none→Y
open Go.Calls renaming mono→Go.Calls.y
open Eq renaming trans→Eq.A,symm→Eq.z
open Iff renaming trans→Iff.A,symm→Iff.z
open Go.Obj renaming cells→Go.Obj.E
open Int renaming toNat→Int.D,le_refl→q_
open UInt8 renaming toNat→UInt8.D
open Ne renaming symm→Ne.z
open Go.Value.slice renaming injEq→h_
open Go.Addr.mk renaming injEq→m_
open Go.Exit renaming inBlock→s_
open Nat renaming pow_le_pow_left→x_
open Go.RowKit renaming Hid→X,intOf→d_
open Go renaming World→U,Value→O,Calls→c_,TypeId→f_
open Go.Proofs.Tryz renaming prog→e_
set_option linter.all false
set_option maxRecDepth 100000
set_option maxHeartbeats 4000000
section
open Go.Proofs.Tryz Go.RowKit
variable {lo:Nat}{w:U}
structure xt where
 tv:O
 pv:O
 nv:O
 vv:O
 ntv:O
 vps:List ke
 nbs:List Nat
def jO(r:zv)(P:xt):List Value:=[ι r.L,ι r.m,ι r.g.o,P.tv,P.pv,P.nv,P.vv,P.ntv]
def qL(wd:Nat)(vs:List yQ)(ps:List ke):List Value:=(z_ (dV wd) vs ps).flatten
structure uB (lo:Nat) (w:U) (own:Nat->zo) (k wd:Nat) (W:yi) (P:xt):Prop where
 p:vQ lo w P.tv P.pv P.nv W.p
 J:w.r lo 301 6 P.vv W.J.j (qL wd W.J P.vps)
 vlen:P.vps.j=W.J.j
 view:∀i (_:i<W.J.j) (_:i<P.vps.j),qn lo w own k i W.J[i] P.vps[i]
 vrole:∀b,P.vv.m=Z b->own b=(k+1,0,9)
 qx:w.r lo 162 1 P.ntv W.p.qx.j (UO P.nbs)
 nlen:P.nbs.j=W.p.qx.j
 M:W.J.j<=1000
def C1(wd:Nat):∀(vs:List yQ) (ps:List ke) (i:Nat) (a:i<vs.j) (b:i<ps.j),(qL wd vs ps)[i*6]?=Z (ι (vs[i].lit.o:Nat))/\(qL wd vs ps)[i*6+1]?=Z ps[i].tv/\(qL wd vs ps)[i*6+2]?=Z (ι wd)/\(qL wd vs ps)[i*6+3]?=Z (pt ps[i].bb)/\(qL wd vs ps)[i*6+4]?=Z (pt ps[i].fb)/\(qL wd vs ps)[i*6+5]?=Z (pt ps[i].ab)
 |[],_,i,a,_=>by simp at a
 |v::vs,[],i,_,b=>by simp at b
 |v::vs,p::ps,0,_,_=>by simp[qL,dV]
 |v::vs,p::ps,i+1,a,b=>by
  have:=C1 wd vs ps i (by simpa using a) (by simpa using b);simp only[qL,l7,pw] at this ⊢;rw[show(i+1)*6=i*6+6 from by omega];have c:i*6+6=(dV wd v p).j+i*6:=by simp[dV];omega
  rw[c];simp only[Nat.add_assoc,gJ (Nat.le_add_right _ _),oo];simpa using this
def uB.viewAt{own:Nat->zo}{k wd:Nat}{W:yi}{P:xt}(h:uB lo w own k wd W P)(i:Nat)(d:i<W.J.j)(o:i<P.vps.j):∃g a,P.vv=.k (Z (δ g)) W.J.j a/\g<w.o.q/\w.p (ω g (i*6))=Z (ι (W.J[i].lit.o:Nat))/\w.p (ω g (i*6+1))=Z P.vps[i].tv/\w.p (ω g (i*6+2))=Z (ι wd)/\w.p (ω g (i*6+3))=Z (.u (Z (δ P.vps[i].bb)))/\w.p (ω g (i*6+4))=Z (.u (Z (δ P.vps[i].fb)))/\w.p (ω g (i*6+5))=Z (.u (Z (δ P.vps[i].ab))):=by
 obtain⟨g,a,m,_,p,b⟩:=yt h.J η;obtain⟨e,j,c,n,l,f⟩:=C1 wd W.J P.vps i d o;exact⟨g,a,m,p,b _ _ e,b _ _ j,b _ _ c,b _ _ n,b _ _ l,b _ _ f⟩
def BP{w:U}{own:Nat->zo}{S:zo->Prop}:∀(d:List zm) (bs:Φ),bs.j=d.j->(∀i (j:i<d.j) (g:i<bs.j),∃ρ,S ρ/\xe lo w own ρ bs[i] d[i])->∃e:List (Nat×Φ),e.w (·.1)=bs/\(∀i (j:i<d.j) (g:i<e.j),yc lo w e[i].1 d[i] e[i].2)/\∀x∈e,∀b∈x.2,S (own b)
 |[],[],_,_=>⟨[],rfl,λi h=>by simp at h,λx f=>by simp at f⟩
 |[],b::bs,h,_=>by simp at h
 |T::d,[],h,_=>by simp at h
 |T::d,b::bs,h,k=>by
  obtain⟨ρ,n,p,j,g⟩:=k 0 ζ ζ;obtain⟨e,o,m,q⟩:=BP d bs (by simpa using h) λi a c=>by
   have:=k (i+1) (by simpa using a) (by simpa using c);simpa using this
  refine⟨(b,p)::e,by simp[o],λi a c=>?_,λx f y l=>?_⟩
  .match i,a,c with
   |0,_,_=>exact j
   |i+1,a,c=>exact m i (by simpa using a) (by simpa using c)
  .rcases z7.1 f with rfl|f
   .rw[g y l];exact n
   .exact q x f y l
def py(lo:Nat)(w:U)(own:Nat->zo)(p:Nat)(J:zF)(e:Ending)(w':U):Prop:=∃P,e=ε (.agg (uL J P).F)/\kd lo w' J P/\rx own P p/\μ w w'
def Qu{J:zF}{P:xP}(h:kd lo w J P):∀u∈uL J P,u.oneCell'=true:=by
 intro u a;obtain⟨k,q,d⟩:=h.g.qm;obtain⟨o,l,c⟩:=zq h.ja;obtain⟨i,m,b⟩:=zq h.bars;simp only[uL,zW,z7,z9,n6,or_false] at a;rcases a with ((((((a|a)|⟨_,_,a⟩)|a)|⟨_,_,a⟩)|⟨_,_,a⟩)|a)
 rcases a with rfl|rfl|rfl|rfl|rfl;rfl;rw[d];rfl;rfl;rw[c];rfl;rw[b];rfl;obtain⟨p,g,rfl⟩:=uT a;have n:=h.hlen;obtain⟨j,f,e⟩:=zq (h.jf p η g).1;rw[e];rfl;subst a;rfl;subst a;rfl;subst a;rfl;subst a;rfl;rcases a with rfl|rfl<;>rfl
def jA(bs:List Nat)(k:Nat):List Value:=(bs.G k).w pt++j_ (bs.j-k) (.u Y)
def Iz(bs:Φ)(k:Nat)(a:k<=bs.j):(jA bs k).j=bs.j:=by simp[jA];omega
def EF(bs:Φ)(k:Nat)(a:k<bs.j):(jA bs k).set k (.u (Z (δ bs[k])))=jA bs (k+1):=by
 obtain⟨m,b⟩:∃m,bs.j-k=m+1:=⟨bs.j-k-1,η⟩;unfold jA;rw[gz _ _ υ,xv,vi,dC η,vF,b,p8,ml,yF a,uY,show bs.j-(k+1)=m from by omega,jt];rfl
def GG(bs:Φ):jA bs bs.j=UO bs:=by simp[jA,UO]
def Ui:(e_.info? 162).w (λi=>(i.zero,i.q,i.bytes))=Z (Z (.u Y),1,8):=χ
def Gu{W':U}{own:Nat->zo}{k wd p pb:Nat}{W:yi}{P:xt}{qc qx:List zm}{bs:Φ}(d:uB lo w own k wd W P)(K:lo<=w.o.q)(Q:qc.j=W.J.j)(y:bs.j=qc.j)(u:∀i (o:i<qc.j) (v:i<bs.j),∃ρ,ρ≠(0,p,0)/\xe lo w own ρ bs[i] qc[i])(m:qx.j=W.p.qx.j)(q:∀i (o:i<qx.j) (v:i<P.nbs.j),∃ρ,ρ≠(0,p,0)/\xe lo w own ρ P.nbs[i] qx[i])(h:μ w W')(f:W'.r w.o.q 162 1 (.k (Z (δ pb)) qc.j qc.j) qc.j (UO bs)):
  c_ e_ 214 #[gH W.p P.tv P.pv P.nv,.k (Z (δ pb)) qc.j qc.j,P.ntv] W' λe B=>py lo W' own p (xL W.p qc qx) e B:=by
 obtain⟨n,C,I,F⟩:=BP qc bs y u;obtain⟨l,z,D,G⟩:=BP qx P.nbs (by rw[d.nlen,m]) q;have g:n.j=qc.j:=by rw[←y,←C,xv]
 have j:l.j=qx.j:=by rw[m,←d.nlen,←z,xv]
 have M:UO bs=n.w λx=>WK x.1:=by rw[←C];simp[UO];exact λ_ _ _=>rfl
 have L:UO P.nbs=l.w λx=>WK x.1:=by rw[←z];simp[UO];exact λ_ _ _=>rfl
 have A:=d.M;have N:=d.p.qx.len;have o:lH w.o.q lo W' (.k (Z (δ pb)) qc.j qc.j) qc n:=⟨by rw[←M];exact f,g,λi a b=>(I i a b).u h,η⟩;have v:lH lo lo W' P.ntv qx l:=⟨by rw[m,←L];exact zy d.qx h,j,λi a b=>(D i a b).u h,η⟩;refine(Qh W' W.p P.tv P.pv P.nv _ _ qc qx n l (d.p.u h) o v m (by have:=h.q;omega)).y ?_;rintro e B ⟨H,rfl,J,E,s,r⟩;refine⟨H,rfl,J,⟨λx t b c=>F x (by rw[←E];exact t) b c,λx t b c=>G x.2 (by rw[←s];exact List.mem_map_of_mem t) b c⟩,r⟩
def i3{w':U}{b:Nat}(h:vc w b)(a:μ w w'):vc w' b:=by obtain⟨c,d,e⟩:=h;exact⟨c,d.u a,e⟩
def Ix{b b' o:Nat}{u:O}(h:vc w b)(a:b≠b'):vc (w.x (ω b' o) u) b:=by obtain⟨c,d,e⟩:=h;exact⟨c,d.set_ne a _ _,e⟩
structure WC (w:U) (gw o:Nat) (r:zv) (P:xt):Prop where
 lt:gw<w.o.q
 free:∀q,w.frozen? ⟨gw,q,Y⟩=false
 c0:w.p ⟨gw,o,Y⟩=Z (ι r.L)
 c1:w.p ⟨gw,o+1,Y⟩=Z (ι r.m)
 c2:w.p ⟨gw,o+2,Y⟩=Z (ι r.g.o)
 c3:w.p ⟨gw,o+3,Y⟩=Z P.tv
 c4:w.p ⟨gw,o+4,Y⟩=Z P.pv
 c5:w.p ⟨gw,o+5,Y⟩=Z P.nv
 c6:w.p ⟨gw,o+6,Y⟩=Z P.vv
 c7:w.p ⟨gw,o+7,Y⟩=Z P.ntv
def WC.u{w':U}{a o:Nat}{r:zv}{P:xt}(h:WC w a o r P)(b:μ w w'):WC w' a o r P:=by
 have e:=λq=>b.cell (p:=(ω a q)) h.lt;exact⟨by have:=b.q;have:=h.lt;omega,λq=>(b.frozen (p:=(ω a q)) h.lt).A (h.free q),(e _).A h.c0,(e _).A h.c1,(e _).A h.c2,(e _).A h.c3,(e _).A h.c4,(e _).A h.c5,(e _).A h.c6,(e _).A h.c7⟩
def iZ{b:Nat}{J:zF}{P:xP}{c:U}(a:kd lo c J P)(h:vc w b):(storeCells (δ b) (uL J P)).run e_ w=.ok () (dH w b (uL J P)):=by
 have e:=rT J P a.hlen.1 a.jl;exact run_storeCells_cells (P:=e_) b 0 (uL J P) 0 w (λj d=>(h.there j η).1) (λj d=>(h.there j η).2) (Qu a)
attribute [local go_sem] tZ
def Pt(w:U)(own:Nat->zo)(k wd p E o:Nat)(W:yi)(P:xt)(qx:List zm)(h:uB lo w own k wd W P)(hc:WC w E o W.p P)(a9:lo<=w.o.q)(hn:qx.j=W.p.qx.j)(ay:∀i (h1:i<qx.j) (h2:i<P.nbs.j),∃ρ,ρ≠(0,p,0)/\xe lo w own ρ P.nbs[i] qx[i]):
  c_ e_ 207 #[.u (Z ⟨E,o,Y⟩)] w λe r=>py lo w own p (xL W.p (W.J.map (·.all)) qx) e r:=by
 obtain⟨i0,hi,aM,aG,aX⟩:=info_parts Ui;have Q:X (∀W' pb,μ w W'->W'.r w.o.q 162 1 (.k (Z ⟨pb,0,Y⟩) W.J.j W.J.j) W.J.j (UO (P.vps.map (·.ab)))->c_ e_ 214 #[gH W.p P.tv P.pv P.nv,.k (Z ⟨pb,0,Y⟩) W.J.j W.J.j,P.ntv] W' λe r=>py lo W' own p (xL W.p (W.J.map (·.all)) qx) e r):=λW' pb hB c=>by
  have q:=Gu (p:=p) (pb:=pb) (qc:=W.J.map (·.all)) (bs:=P.vps.map (·.ab)) (qx:=qx) (W':=W') h a9 ζ (by simp[h.vlen]) (λi h1 h2=>⟨(k+1,i,2),ζ,by simp only[xM];exact(h.view i (by simpa using h1) (by simpa using h2)).all⟩) hn ay hB (by simpa using c);simpa using q
 have aI:=U2 λi a b=>h.viewAt i a b;have aD:=U2 λi a b=>(h.view i a b).v.qm;have ad:=U2 h.vlen;have bc:=h.M;obtain⟨bm,bd,ab⟩:=zq h.J;obtain⟨ae,A,al⟩:=h.p.g.qm;obtain⟨ah,x,ai⟩:=h.p.qc.qm;obtain⟨ag,t,aw⟩:=h.p.qx.qm;obtain⟨ac,z,L⟩:=zq h.qx;have HW:=U2 hc;have aT:=U2 ab;have D:X (P.tv=.k ae W.p.g.v.j A/\P.pv=.k ah W.p.qc.j x/\P.nv=.k ag W.p.qx.j t/\P.ntv=.k ac W.p.qx.j z):=⟨al,ai,aw,L⟩;have av:=λR:U=>run_make (P:=e_) (w:=R) 150 162 i0 _ underlying150 hi aM .i64 .i64 (W.J.j:Int) (W.J.j:Int) η (q_ _) (by rw[aX];omega) η;rw[aG] at av;have ao:=hc.c6;rw[ab] at ao;have aV:=hc.lt;have aP:=hc.free;clear h hc ay ab al ai aw L;go_enter func207,ntmps207;go_upto_region 3 with fail
 have ap:μ w ((w.C (.E (bj 0 0 0 Y Y 0 0 0 0).F 310)).C (.E (madeCells #[.u Y] W.J.j) 162)):=γ;have c:=sq (w.C (.E (bj 0 0 0 Y Y 0 0 0 0).F 310)) W.J.j 162 (.u Y) b_;rw[U.size_alloc] at c;have a0:vc ((w.C (.E (bj 0 0 0 Y Y 0 0 0 0).F 310)).C (.E (madeCells #[.u Y] W.J.j) 162)) w.o.q:=iH _ _ _ _ _ _ _ _ _ _ _;have aq:(P.vps.map (·.ab)).j=W.J.j:=by simp[ad.l]
 have a6:X (((w.C (.E (bj 0 0 0 Y Y 0 0 0 0).F 310)).C (.E (madeCells #[.u Y] W.J.j) 162)).r w.o.q 162 1 (.k (Z ⟨w.o.q+1,0,Y⟩) W.J.j W.J.j) W.J.j (jA (P.vps.map (·.ab)) 0)):=by
  have e:jA (P.vps.map (·.ab)) 0=j_ W.J.j (.u Y):=by simp[jA,ad.l]
  rw[X,e];exact yq c η
 have af:=U2 aq;have aB:X (∀i (h1:i<P.vps.j) (h2:i<(P.vps.map (·.ab)).j),(P.vps.map (·.ab))[i]=P.vps[i].ab):=λi a b=>ζ;clear c aq ao aV aP av;generalize (w.C (.E (bj 0 0 0 Y Y 0 0 0 0).F 310)).C (.E (madeCells #[.u Y] W.J.j) 162)=w1 at *;generalize P.vps.map (·.ab)=N at *;have C:=U2 a0;clear a0;go_loopw [17] (λaQ wr=>∃m:Nat,m<=W.J.j/\aQ=ι m/\μ w wr/\X (vc wr w.o.q)/\X (wr.r w.o.q 162 1 (.k (Z ⟨w.o.q+1,0,Y⟩) W.J.j W.J.j) W.J.j (jA N m))) (λi _=>W.J.j-(d_ i).D);exact⟨0,zs _,rfl,ap,C,a6⟩;clear a6 C ap;obtain⟨m,hm,rfl,d,C,HR⟩:=hrel;have bb:=d.q;by_cases y:m<W.J.j
 .have S:m<P.vps.j:=by rw[ad.l];exact y
  have aj:m<N.j:=by rw[af.l];exact y
  obtain⟨gv,aO,n,s,q0,q1,q2,q3,q4,q5⟩:=aI.l m y S;rw[aT.l] at n;simp only[h_] at n;have aE:=n.1;clear n;subst aE;obtain⟨aA,a2,hq⟩:=aD.l m y S;rw[hq] at q1;have x0:=zi d s q0;have x1:=zi d s q1;have x2:=zi d s q2;have x3:=zi d s q3;have x4:=zi d s q4;have x5:=zi d s q5;have bp:gv<wr.o.q:=η;have c:=HR.l;have a8:=Iz N m η;obtain⟨sx,bi⟩:∃sx,wr.p ⟨w.o.q+1,m,Y⟩=Z sx:=by
   obtain⟨g',ba,a1,_,_,a4⟩:=yt c η;simp only[h_,zt,m_,and_true] at a1;have e:=a1.1;subst e;exact⟨_,a4 m _ (yn η)⟩
  have bg:=uv c;have bn:w.o.q+1<wr.o.q:=yb c rfl;have ax:X ((jA N m).set m (.u (Z ⟨P.vps[m].ab,0,Y⟩))=jA N (m+1)):=by
   have q:=EF N m aj;rw[aB.l m S aj] at q;exact q
  have l:Below (wr.x ⟨w.o.q+1,m,Y⟩ (.u (Z ⟨P.vps[m].ab,0,Y⟩))).o.q (wr.x ⟨w.o.q+1,m,Y⟩ (.u (Z ⟨P.vps[m].ab,0,Y⟩))) ((wr.x ⟨w.o.q+1,m,Y⟩ (.u (Z ⟨P.vps[m].ab,0,Y⟩))).C (.E #[ι (W.J[m].lit.o:Nat),.k aA W.J[m].lit.v.j a2,ι wd,.u (Z ⟨P.vps[m].bb,0,Y⟩),.u (Z ⟨P.vps[m].fb,0,Y⟩),.u (Z ⟨P.vps[m].ab,0,Y⟩)] 301)):=γ;have g:=i3 (Ix (o:=m) (u:=.u (Z ⟨P.vps[m].ab,0,Y⟩)) C.l (show w.o.q≠w.o.q+1 by omega)) l;have j:=um c m η (.u (Z ⟨P.vps[m].ab,0,Y⟩));rw[ax.l] at j;have am:=zy j l;have aC:=U6 (d.x ζ _) l;clear j;have be:(m:Int)<(W.J.j:Int):=η;clear q0 q1 q2 q3 q4 q5 a8 hq ax;generalize W.J[m].lit.o=vp at *;generalize W.J[m].lit.v.j=vt at *;generalize P.vps[m].bb=bh at *;generalize P.vps[m].fb=bo at *;generalize P.vps[m].ab=bk at *;go_wp2;exact⟨⟨m+1,η,ξ,aC,g,am⟩,by simp[d_];omega⟩
 obtain rfl:m=W.J.j:=η;have aU:X (wr.r w.o.q 162 1 (.k (Z ⟨w.o.q+1,0,Y⟩) W.J.j W.J.j) W.J.j (UO N)):=by
  have q:=HR.l;rw[←af.l,GG,af.l] at q;exact q
 have aR:=HW.l.u d;obtain⟨t1,t2,t3,t4⟩:=D.l;obtain⟨bq,a7,d0,d1,d2,d3,d4,d5,d6,d7⟩:=aR;rw[t1] at d3;rw[t2] at d4;rw[t3] at d5;rw[t4] at d7;have f:E≠w.o.q:=by have:=HW.l.lt;omega
 have aZ:X (∀R,μ wr R->c_ e_ 214 #[.agg #[ι W.p.L,ι W.p.m,ι W.p.g.o,.k ae W.p.g.v.j A,.k ah W.p.qc.j x,.k ag W.p.qx.j t],.k (Z ⟨w.o.q+1,0,Y⟩) W.J.j W.J.j,.k ac W.p.qx.j z] R λe r=>py lo R own p (xL W.p (W.J.map (·.all)) qx) e r):=λR ar=>by
  have q:=Q.l R (w.o.q+1) (U6 d ar) (zy aU.l ar);rw[gH,t1,t2,t3,t4] at q;exact q
 clear t1 t2 t3 t4 d6 Q y hm;generalize a3:xL W.p (W.J.map (·.all)) qx=J at *;have az:=U2 a3;clear a3;go_wp2;go_region_held3 (λr=>r.p ⟨E,o,Y⟩=Z (ι W.p.L)/\r.p ⟨E,o+1,Y⟩=Z (ι W.p.m)/\r.p ⟨E,o+2,Y⟩=Z (ι W.p.g.o)/\r.p ⟨E,o+3,Y⟩=Z (.k ae W.p.g.v.j A)/\r.p ⟨E,o+4,Y⟩=Z (.k ah W.p.qc.j x)/\r.p ⟨E,o+5,Y⟩=Z (.k ag W.p.qx.j t)/\r.p ⟨E,o+7,Y⟩=Z (.k ac W.p.qx.j z)) (first|(exact⟨aa,T,V,F,H,I,K⟩)|(exact⟨(gx _ _ _ _ _ f).A aa,(gx _ _ _ _ _ f).A T,(gx _ _ _ _ _ f).A V,(gx _ _ _ _ _ f).A F,(gx _ _ _ _ _ f).A H,(gx _ _ _ _ _ f).A I,(gx _ _ _ _ _ f).A K⟩)|go_keep|(go_simp;done)) (first|(go_at_call 214;refine(aZ.l _ γ).y ?_;rintro e w2 ⟨PJ,rfl,B,an,aL⟩;have G:μ wr w2:=(zJ γ aL (ze _));have aW:=HW.l.u (U6 d G);obtain⟨bf,ak,aa,T,V,F,H,I,_,K⟩:=aW;rw[D.l.1] at F;rw[D.l.2.1] at H;rw[D.l.2.2.1] at I;rw[D.l.2.2.2] at K;have g:=i3 C.l G;have aH:=iZ B g;have M:=rT J PJ B.hlen.1 B.jl;have aK:=U2 B;have aY:=U2 an;clear B an;generalize au:uL J PJ=cs at *;have aF:=U2 au;clear au))
 have aS:=rR (cs:=cs) g M;have a5:=tu w2 w.o.q cs;have aJ:=aK.l.saveJ a5 (UP.box g.choose_spec.1);have aN:=(U6 d G).A (a5.u ζ (by have:=G.q;omega));clear aH d0 d1 d2 d3 d4 d5 d7 aa T V F H I K a7 ak;generalize dH w2 w.o.q cs=w5 at *;go_wp2
 (try simp only[s_,Exit.then])
 exact zP (v:=.agg cs.F) (eM rfl _ _ _ _ _ (by rfl) (run_loadVar_mid w5 w.o.q 0 310 cs _ aS.range underlying310 rfl (by rw[M];exact Ug))) rfl ⟨PJ,by rw[az.l,aF.l],by rw[az.l];exact aJ,aY.l,aN⟩
end
section
open Go.Proofs.Tryz Go.RowKit
variable {lo:Nat}
def kD(ps:List ke)(place:Nat):List Nat:=ps.zipIdx.map λx=>if x.2<place then x.1.bb else if x.2=place then x.1.fb else x.1.ab
def F9(vs:List yQ)(a:Nat):(UR vs a).j=vs.j:=by simp[UR]
def QW{w:U}{own:Nat->zo}{k wd p:Nat}{W:yi}{P:xt}(h:uB lo w own k wd W P)(a i:Nat)(c:i<W.J.j)(d:i<P.vps.j)(e:i<(UR W.J a).j)(f:i<(kD P.vps a).j):∃ρ,ρ≠(0,p,0)/\xe lo w own ρ (kD P.vps a)[i] (UR W.J a)[i]:=by
 have b:=h.view i c d;simp only[kD,UR,xM,List.getElem_zipIdx,uM];split;exact⟨_,ζ,b.before⟩;split;exact⟨_,ζ,b.qw⟩;exact⟨_,ζ,b.all⟩
attribute [local go_sem] tZ
def Qn(w:U)(own:Nat->zo)(k wd p I o d:Nat)(W:yi)(P:xt)(qx:List zm)(h:uB lo w own k wd W P)(hc:WC w I o W.p P)(aD:lo<=w.o.q)(aM:d<=1000000)(hn:qx.j=W.p.qx.j)(a1:∀i (h1:i<qx.j) (h2:i<P.nbs.j),∃ρ,ρ≠(0,p,0)/\xe lo w own ρ P.nbs[i] qx[i]):
  c_ e_ 210 #[.u (Z ⟨I,o,Y⟩),ι d] w λe s=>py lo w own p (xL W.p (UR W.J d) qx) e s:=by
 obtain⟨i0,hi,aU,aL,bg⟩:=info_parts Ui;have V:X (∀W' pb,μ w W'->W'.r w.o.q 162 1 (.k (Z ⟨pb,0,Y⟩) W.J.j W.J.j) W.J.j (UO (kD P.vps d))->c_ e_ 214 #[gH W.p P.tv P.pv P.nv,.k (Z ⟨pb,0,Y⟩) W.J.j W.J.j,P.ntv] W' λe s=>py lo W' own p (xL W.p (UR W.J d) qx) e s):=λW' pb hB c=>by
  have q:=Gu (p:=p) (pb:=pb) (qc:=UR W.J d) (bs:=kD P.vps d) (qx:=qx) (W':=W') h aD (by simp[UR]) (by simp[kD,UR,h.vlen]) (λi h1 h2=>QW h d i (by simpa [UR] using h1) (by simpa [kD] using h2) h1 h2) hn a1 hB (by rw[F9];exact c);rw[F9] at q;exact q
 have aQ:=U2 λi a b=>h.viewAt i a b;have aH:=U2 λi a b=>(h.view i a b).v.qm;have ah:=U2 h.vlen;have bn:=h.M;obtain⟨bt,bo,ae⟩:=zq h.J;obtain⟨ai,E,aq⟩:=h.p.g.qm;obtain⟨am,B,an⟩:=h.p.qc.qm;obtain⟨al,y,a2⟩:=h.p.qx.qm;obtain⟨af,D,R⟩:=zq h.qx;have HW:=U2 hc;have bc:=U2 ae;have H:X (P.tv=.k ai W.p.g.v.j E/\P.pv=.k am W.p.qc.j B/\P.nv=.k al W.p.qx.j y/\P.ntv=.k af W.p.qx.j D):=⟨aq,an,a2,R⟩;have az:=λW0:U=>run_make (P:=e_) (w:=W0) 150 162 i0 _ underlying150 hi aU .i64 .i64 (W.J.j:Int) (W.J.j:Int) η (q_ _) (by rw[bg];omega) η;rw[aL] at az;have au:=hc.c6;rw[ae] at au;have be:=hc.lt;have aY:=hc.free;clear h hc a1 ae aq an a2 R;go_enter func210,ntmps210;go_upto_region 3 with fail
 have av:μ w ((w.C (.E (bj 0 0 0 Y Y 0 0 0 0).F 310)).C (.E (madeCells #[.u Y] W.J.j) 162)):=γ;have c:=sq (w.C (.E (bj 0 0 0 Y Y 0 0 0 0).F 310)) W.J.j 162 (.u Y) b_;rw[U.size_alloc] at c;have a4:vc ((w.C (.E (bj 0 0 0 Y Y 0 0 0 0).F 310)).C (.E (madeCells #[.u Y] W.J.j) 162)) w.o.q:=iH _ _ _ _ _ _ _ _ _ _ _;have aw:(kD P.vps d).j=W.J.j:=by simp[kD,ah.l]
 have aA:X (((w.C (.E (bj 0 0 0 Y Y 0 0 0 0).F 310)).C (.E (madeCells #[.u Y] W.J.j) 162)).r w.o.q 162 1 (.k (Z ⟨w.o.q+1,0,Y⟩) W.J.j W.J.j) W.J.j (jA (kD P.vps d) 0)):=by
  have e:jA (kD P.vps d) 0=j_ W.J.j (.u Y):=by simp[jA,kD,ah.l]
  rw[X,e];exact yq c η
 have ak:=U2 aw;have aG:X (∀i (h1:i<P.vps.j) (h2:i<(kD P.vps d).j),(kD P.vps d)[i]=if i<d then P.vps[i].bb else if i=d then P.vps[i].fb else P.vps[i].ab):=λi a b=>by simp[kD]
 clear c aw au be aY az;generalize (w.C (.E (bj 0 0 0 Y Y 0 0 0 0).F 310)).C (.E (madeCells #[.u Y] W.J.j) 162)=w1 at *;generalize kD P.vps d=T at *;have G:=U2 a4;clear a4;go_loopw [19] (λaZ wr=>∃m:Nat,m<=W.J.j/\aZ=ι m/\μ w wr/\X (vc wr w.o.q)/\X (wr.r w.o.q 162 1 (.k (Z ⟨w.o.q+1,0,Y⟩) W.J.j W.J.j) W.J.j (jA T m))) (λi _=>W.J.j-(d_ i).D);exact⟨0,zs _,rfl,av,G,aA⟩;clear aA G av;obtain⟨m,hm,rfl,f,G,HR⟩:=hrel;have bm:=f.q;by_cases C:m<W.J.j
 .have aa:m<P.vps.j:=by rw[ah.l];exact C
  have ao:m<T.j:=by rw[ak.l];exact C
  obtain⟨gv,aW,r,t,q0,q1,q2,q3,q4,q5⟩:=aQ.l m C aa;rw[bc.l] at r;simp only[h_] at r;have aI:=r.1;clear r;subst aI;obtain⟨aF,a6,hq⟩:=aH.l m C aa;rw[hq] at q1;have x0:=zi f t q0;have x1:=zi f t q1;have x2:=zi f t q2;have x3:=zi f t q3;have x4:=zi f t q4;have x5:=zi f t q5;have bv:gv<wr.o.q:=η;have c:=HR.l;have aC:=Iz T m η;obtain⟨sx,bs⟩:∃sx,wr.p ⟨w.o.q+1,m,Y⟩=Z sx:=by
   obtain⟨g',bk,a5,_,_,a9⟩:=yt c η;simp only[h_,zt,m_,and_true] at a5;have e:=a5.1;subst e;exact⟨_,a9 m _ (yn η)⟩
  have br:=uv c;have aM:w.o.q+1<wr.o.q:=yb c rfl;obtain⟨z,aj⟩:∃z,z=(if m<d then P.vps[m].bb else if m=d then P.vps[m].fb else P.vps[m].ab):=⟨_,rfl⟩;have a0:X ((jA T m).set m ((π z))=jA T (m+1)):=by
   have q:=EF T m ao;rw[aG.l m aa ao,←aj] at q;exact q
  have n:Below (wr.x ⟨w.o.q+1,m,Y⟩ ((π z))).o.q (wr.x ⟨w.o.q+1,m,Y⟩ ((π z))) ((wr.x ⟨w.o.q+1,m,Y⟩ ((π z))).C (.E #[ι (W.J[m].lit.o:Nat),.k aF W.J[m].lit.v.j a6,ι wd,.u (Z ⟨P.vps[m].bb,0,Y⟩),.u (Z ⟨P.vps[m].fb,0,Y⟩),.u (Z ⟨P.vps[m].ab,0,Y⟩)] 301)):=γ;have j:=i3 (Ix (o:=m) (u:=(π z)) G.l (show w.o.q≠w.o.q+1 by omega)) n;have l:=um c m η ((π z));rw[a0.l] at l;have A:=zy l n;have ag:=U6 (f.x ζ _) n;clear l;have bp:(m:Int)<(W.J.j:Int):=η;clear q0 q1 q2 q3 q4 q5 aC hq a0;generalize W.J[m].lit.o=vp at *;generalize W.J[m].lit.v.j=vt at *;generalize P.vps[m].bb=aE at *;generalize P.vps[m].fb=aO at *;generalize P.vps[m].ab=aJ at *;have x:=U2 aj;clear aj;by_cases g1:m<d
  .have aP:(m:Int)<(d:Int):=η;obtain rfl:z=aE:=by rw[x.l,zb g1]
   clear x;go_wp2;exact⟨⟨m+1,η,ξ,ag,j,A⟩,by simp[d_];omega⟩
  have aP:¬(m:Int)<(d:Int):=η;by_cases g2:m=d
  .have aX:((m:Int) == (d:Int))=true:=by rw[beq_iff_eq];omega
   obtain rfl:z=aO:=by rw[x.l,za g1,zb g2]
   have bu:=U2 g2;clear x g2;go_wp2;exact⟨⟨m+1,η,ξ,ag,j,A⟩,by simp[d_];omega⟩
  have aX:((m:Int) == (d:Int))=false:=by rw[beq_eq_false_iff_ne];omega
  obtain rfl:z=aJ:=by rw[x.l,za g1,za g2]
  clear x;go_wp2;exact⟨⟨m+1,η,ξ,ag,j,A⟩,by simp[d_];omega⟩
 obtain rfl:m=W.J.j:=η;have bd:X (wr.r w.o.q 162 1 (.k (Z ⟨w.o.q+1,0,Y⟩) W.J.j W.J.j) W.J.j (UO T)):=by
  have q:=HR.l;rw[←ak.l,GG,ak.l] at q;exact q
 have ba:=HW.l.u f;obtain⟨t1,t2,t3,t4⟩:=H.l;obtain⟨bw,aB,d0,d1,d2,d3,d4,d5,d6,d7⟩:=ba;rw[t1] at d3;rw[t2] at d4;rw[t3] at d5;rw[t4] at d7;have g:I≠w.o.q:=by have:=HW.l.lt;omega
 have bi:X (∀W0,μ wr W0->c_ e_ 214 #[.agg #[ι W.p.L,ι W.p.m,ι W.p.g.o,.k ai W.p.g.v.j E,.k am W.p.qc.j B,.k al W.p.qx.j y],.k (Z ⟨w.o.q+1,0,Y⟩) W.J.j W.J.j,.k af W.p.qx.j D] W0 λe s=>py lo W0 own p (xL W.p (UR W.J d) qx) e s):=λW0 ax=>by
  have q:=V.l W0 (w.o.q+1) (U6 f ax) (zy bd.l ax);rw[gH,t1,t2,t3,t4] at q;exact q
 clear t1 t2 t3 t4 d6 V C hm;generalize a7:xL W.p (UR W.J d) qx=J at *;have a3:=U2 a7;clear a7;go_wp2;go_region_held3 (λs=>s.p ⟨I,o,Y⟩=Z (ι W.p.L)/\s.p ⟨I,o+1,Y⟩=Z (ι W.p.m)/\s.p ⟨I,o+2,Y⟩=Z (ι W.p.g.o)/\s.p ⟨I,o+3,Y⟩=Z (.k ai W.p.g.v.j E)/\s.p ⟨I,o+4,Y⟩=Z (.k am W.p.qc.j B)/\s.p ⟨I,o+5,Y⟩=Z (.k al W.p.qx.j y)/\s.p ⟨I,o+7,Y⟩=Z (.k af W.p.qx.j D)) (first|(exact⟨ad,ab,ac,K,M,N,Q⟩)|(exact⟨(gx _ _ _ _ _ g).A ad,(gx _ _ _ _ _ g).A ab,(gx _ _ _ _ _ g).A ac,(gx _ _ _ _ _ g).A K,(gx _ _ _ _ _ g).A M,(gx _ _ _ _ _ g).A N,(gx _ _ _ _ _ g).A Q⟩)|go_keep|(go_simp;done)) (first|(go_at_call 214;refine(bi.l _ γ).y ?_;rintro e w2 ⟨PJ,rfl,F,ar,aT⟩;have L:μ wr w2:=(zJ γ aT (ze _));have bf:=HW.l.u (U6 f L);obtain⟨bq,ap,ad,ab,ac,K,M,N,_,Q⟩:=bf;rw[H.l.1] at K;rw[H.l.2.1] at M;rw[H.l.2.2.1] at N;rw[H.l.2.2.2] at Q;have j:=i3 G.l L;have aN:=iZ F j;have S:=rT J PJ F.hlen.1 F.jl;have aS:=U2 F;have bh:=U2 ar;clear F ar;generalize ay:uL J PJ=cs at *;have aK:=U2 ay;clear ay))
 have bb:=rR (cs:=cs) j S;have a8:=tu w2 w.o.q cs;have aR:=aS.l.saveJ a8 (UP.box j.choose_spec.1);have aV:=(U6 f L).A (a8.u ζ (by have:=L.q;omega));clear aN d0 d1 d2 d3 d4 d5 d7 ad ab ac K M N Q aB ap;generalize dH w2 w.o.q cs=w5 at *;go_wp2
 (try simp only[s_,Exit.then])
 exact zP (v:=.agg cs.F) (eM rfl _ _ _ _ _ (by rfl) (run_loadVar_mid w5 w.o.q 0 310 cs _ bb.range underlying310 rfl (by rw[S];exact Ug))) rfl ⟨PJ,by rw[a3.l,aK.l],by rw[a3.l];exact aR,bh.l,aV⟩
end
section
open Go.Proofs.Tryz Go.RowKit
variable {lo:Nat}{w:U}{p:Nat}
structure WT (c:Array O) (o:Nat) (r:zv) (P:xt):Prop where
 c0:c[o]?=Z (ι r.L)
 c1:c[o+1]?=Z (ι r.m)
 c2:c[o+2]?=Z (ι r.g.o)
 c3:c[o+3]?=Z P.tv
 c4:c[o+4]?=Z P.pv
 c5:c[o+5]?=Z P.nv
 c6:c[o+6]?=Z P.vv
 c7:c[o+7]?=Z P.ntv
def WT.at{b o:Nat}{T:f_}{c:Array O}{r:zv}{P:xt}(h:WT c o r P)(d:U3 w b c T):WC w b o r P:=by
 obtain⟨a,e⟩:=d.H;exact⟨d.lt,e,(a _).A h.c0,(a _).A h.c1,(a _).A h.c2,(a _).A h.c3,(a _).A h.c4,(a _).A h.c5,(a _).A h.c6,(a _).A h.c7⟩
def uB.mod{ok:f_->zo->Prop}{w w':U}{own own':Nat->zo}{k wd:Nat}{W:yi}{P:xt}(h:uB lo w own k wd W P)(m:UB lo ok w own w' own')(d:∀ρ,¬ok 284 ρ)(l:∀ρ,¬ok 204 ρ)(e:¬ok 301 (k+1,0,9))(f:∀ρ,¬ok 162 ρ)(g:∀i j t,¬V2 t->¬ok t (k+1,i,j)):uB lo w' own' k wd W P:=
 ⟨h.p.mod m d l,tC h.J m λb c=>by rw[h.vrole b c];exact e,h.vlen,λi a b=>(h.view i a b).mod m (g i) d,λb c=>by rw[m.old b (yb h.J c)];exact h.vrole b c,qs h.qx m f,h.nlen,h.M⟩
def pc{t:f_}(a:V2 t)(h:t∉[214,161,165,310,323]):∀ρ,¬kY p t ρ:=λρ q=>by
 rcases q with (q|q|q|q)|q
 .exact q.1 a
 .subst q;exact h θ
 .subst q;exact h θ
 .rw[q.1] at h;exact h θ
 .rcases z7.1 q with rfl|q
  .exact h θ
  .rcases z7.1 q with rfl|q
   .exact h θ
   .cases q
def Kz{t:f_}{ρ:zo}(a:¬V2 t)(h:ρ≠(0,p,0)):¬kY p t ρ:=λq=>by
 rcases q with (q|q|q|q)|q
 .exact h q.2
 .subst q;exact a θ
 .subst q;exact a θ
 .rw[q.1] at a;exact a θ
 .rcases z7.1 q with rfl|q
  .exact a θ
  .rcases z7.1 q with rfl|q
   .exact a θ
   .cases q
def uB.all{w':U}{own own':Nat->zo}{k wd:Nat}{W:yi}{P:xt}(h:uB lo w own k wd W P)(m:UB lo (kY p) w own w' own'):uB lo w' own' k wd W P:=
 h.mod m (pc θ θ) (pc θ θ) (pc θ θ _) (pc θ θ) (λ_ _ _ a=>Kz a ζ)
def fR(b:List Nat)(n:Nat)(r:zv)(a:List Nat):Prop:=∀i (c:i<r.qx.j) (e:i<a.j),r.qx[i].o≠r.g.o/\r.qx[i].o<n/\∃d:r.qx[i].o<b.j,a[i]=b[r.qx[i].o]
def Gq(wd:Nat)(R:zw)(r:zv):(jS wd R r).j=r.qx.j:=by simp[jS]
def fR.tries{w:U}{own:Nat->zo}{d:Nat}{R:zw}{wd mr mx:Nat}{Q:uC}{r:zv}{a:Φ}(h:fR Q.tbs R.rows.j r a)(g:ya lo w own d R wd mr mx Q)(m:a.j=r.qx.j):∀i (f:i<(jS wd R r).j) (c:i<a.j),∃ρ,ρ≠(0,r.g.o,0)/\xe lo w own ρ a[i] (jS wd R r)[i]:=by
 intro i f c;obtain⟨j,b,k,l⟩:=h i η c;refine⟨(0,r.qx[i].o,0),by simp[j],?_⟩;have e:(jS wd R r)[i]=R.rows[r.qx[i].o]:=by
  simp only[jS,xM,m7];rw[za η];simp[b]
 rw[e,l];exact g.tries _ b k
def oH{mr:Nat}{R R':zw}{row:zl}{b:Bool}(h:kq mr R p row=Z (R',b)):R'.rows.j=R.rows.j:=by
 obtain⟨_,_,_,_,_,a⟩:=Bf h;rcases a with⟨_,rfl,_⟩|⟨_,rfl,_⟩<;>simp
def tL{mr p:Nat}:∀(n:Nat) (R R':zw) (J:zF) (b:Bool),qa mr p n R J=Z (R',b)->R'.rows.j=R.rows.j
 |0,R,R',J,b,h=>by simp[qa] at h
 |n+1,R,R',J,b,h=>by
  unfold qa at h;cases e:hX n J with
  |none=>rw[e] at h;cases h
  |some i=>
   obtain⟨c,g⟩:=i;rw[e] at h;cases g with
   |false=>
    simp only[zt,yk] at h;rw[←h.1]
   |true=>
    dsimp only at h;cases a:kq mr R p (zI c.g c.P) with
    |none=>rw[a] at h;cases h
    |some d=>
     obtain⟨f,j⟩:=d;rw[a] at h;cases j with
     |false=>
      simp only[zt,yk] at h;rw[←h.1];exact oH a
     |true=>exact(tL n f R' c b h).A (oH a)
attribute [local go_sem] tZ
def kd.laid{J:zF}{a:xP}(h:kd lo w J a)(i:lo<=w.o.q):UT lo (dH (w.C (.E (bj 0 0 0 Y Y 0 0 0 0).F 310)) w.o.q (uL J a)) w.o.q J a/\μ w (dH (w.C (.E (bj 0 0 0 Y Y 0 0 0 0).F 310)) w.o.q (uL J a)):=by
 have b:μ w (w.C (.E (bj 0 0 0 Y Y 0 0 0 0).F 310)):=(zn _ _).C (ze _) _;have f:=rW w 0 0 0 Y Y 0 0 0 0;have d:=rR f (rT J a h.hlen.1 h.jl);have e:=tu (w.C (.E (bj 0 0 0 Y Y 0 0 0 0).F 310)) w.o.q (uL J a);obtain⟨j,c,_⟩:=f;exact⟨((h.u b).saveJ e (UP.box c)).join i d,b.A (e.u (λx g=>by simp at g;omega) ζ)⟩
def O9(w:U)(own:Nat->zo)(A B o k:Nat)(c:Array O)(R R':zw)(W:yi)(P:xt)(wd mr mx:Nat)(Q:uC)(n:Nat)(b:Bool)(h:ya lo w own A R wd mr mx Q)(hw:uB lo w own k wd W P)(t:U3 w B c 292)(y:WT c o W.p P)(M:fR Q.tbs R.rows.j W.p P.nbs)(x:lo<=w.o.q)(hr:gS n wd mr true R W=Z (R',b)):
  c_ e_ 193 #[(π A),.u (Z (ω B o)),.i true] w λe w'=>i9 lo w own A W.p.g.o R' b wd mr mx Q e w':=by
 have F:=hr;have T:=U2 (Pt w own k wd W.p.g.o B o W P _ hw (y.at t) x (Gq _ _ _) (M.tries h hw.nlen));have D:=U2 λW0 jb m r hj I=>IA W0 own A jb R R' _ m wd mr mx Q W.p.g.o n b (h.u r) hj I (by have:=r.q;omega) F;have V:=y.at t;have v:=U2 V;have S:=U2 x;generalize xL W.p (W.J.map (·.all)) (jS wd R W.p)=J at *;generalize L:W.p.g.o=p at *;have aa:=U2 L;go_enter func193,ntmps193;go_upto_region 3 with (first|(go_at_call 207;refine T.l.y ?_;rintro e i ⟨m,rfl,a,q,g⟩;have af:μ i (i.C (.E (bj 0 0 0 Y Y 0 0 0 0).F 310)):=γ;have ae:=iZ a (rW i 0 0 0 Y Y 0 0 0 0);have ac:=rT J m a.hlen.1 a.jl;have G:=U2 a;have N:=U2 q;clear a q;generalize u:uL J m=cs at *;have K:=U2 u;clear u))
 have C:=zX S.l g.q;have d:=G.l.laid C;rw[K.l] at d;obtain⟨H,ab⟩:=d;generalize dH (i.C (.E (bj 0 0 0 Y Y 0 0 0 0).F 310)) i.o.q cs=W3 at *;have f:=g.A (ab.y g.q);have ad:W3.p (ω B (o+2))=Z (ι p):=by rw[←aa.l];exact(f.cell v.l.lt).A v.l.c2
 have j:=D.l W3 _ m f H N.l;have E:=U2 f;go_wp2_with (go_at_call 208;refine j.y ?_;rintro e w4 ⟨rfl,l,z,s,hm⟩)
 go_ret;exact⟨rfl,l,z,s,(UB.of own E.l).A hm⟩
end
section
open Go.Proofs.Tryz Go.RowKit
variable {lo:Nat}
attribute [local go_sem] tZ
def Pm(w:U)(own:Nat->zo)(rb gw o k:Nat)(c:Array O)(R R':zw)(W:yi)(P:xt)(wd mr mx:Nat)(Q:uC)(n:Nat)(b:Bool)(h:ya lo w own rb R wd mr mx Q)(hw:uB lo w own k wd W P)(ab:U3 w gw c 292)(T:WT c o W.p P)(aw:fR Q.tbs R.rows.j W.p P.nbs)(an:lo<=w.o.q)(hr:gS n wd mr false R W=Z (R',b)):
  c_ e_ 193 #[(π rb),.u (Z (ω gw o)),.i false] w λe w'=>i9 lo w own rb W.p.g.o R' b wd mr mx Q e w':=by
 have ay:X (kw n wd mr W (W.J.j-0) 0 R=Z (R',b)):=hr;have HH:=U2 h;have aP:=U2 hw;have aF:=U2 ab;have a7:=U2 T;have aH:=U2 aw;have aD:=U2 an;have aU:=hw.M;obtain⟨aY,aV,S⟩:=zq hw.J;have aO:=U2 S;have N:=T.at ab;have ba:=N.lt;have aI:=N.c6;rw[S] at aI;clear hr h hw ab T aw an S N;go_enter func193,ntmps193;go_upto_region 5 with fail
 go_loopw [27] (λaT wr=>∃m:Nat,m<=W.J.j/\aT=ι m/\∃B a I,X (ya lo wr a rb B wd mr mx ⟨Q.rv,Q.tbs,Q.fv,I⟩)/\X (UB lo (kY W.p.g.o) w own wr a)/\X (B.rows.j=R.rows.j)/\X (kw n wd mr W (W.J.j-m) m B=Z (R',b))) (λi _=>W.J.j-(d_ i).D);exact⟨0,zs _,rfl,R,own,Q.fvs,HH,UB.refl _ _,rfl,ay⟩;clear ay;obtain⟨m,hm,rfl,B,a,I,E,g,ae,a3⟩:=hrel;have ax:=g.l.q;have x:=zX aD.l ax;by_cases H:m<W.J.j
 .have ag:=U2 (aP.l.all g.l);have a8:=U2 (aF.l.mod g.l (pc θ θ _));have D:=ag.l;have ai:m<P.vps.j:=by rw[D.vlen];exact H
  obtain⟨gv,aM,r,aZ,q0,q1,q2,q3,q4,q5⟩:=D.viewAt m H ai;rw[aO.l] at r;simp only[h_] at r;have aJ:=r.1;clear r;subst aJ;have M:=D.view m H ai;obtain⟨ao,L,hq⟩:=M.v.qm;rw[hq] at q1;have d:=a3.l;rw[show W.J.j-m=(W.J.j-(m+1))+1 from by omega] at d;unfold kw at d;rw[show W.J.d m ⟨⟨0,[]⟩,zm.zero,zm.zero,zm.zero⟩=W.J[m] by simp[i_,H]] at d;obtain⟨aG,am,_⟩:=M.qw;have aj:=U2 λC hb=>DJ C _ _ aG (am.u hb);have l:=(a7.l.at a8.l);have aR:=l.lt;have aW:(m:Int)<(W.J.j:Int):=η;clear am M hq D;by_cases ak:W.J[m].qw.count>0
  .rw[zb ak] at d;rcases ha:qa mr W.p.g.o n B (xL W.p (UR W.J m) (jS wd B W.p)) with _|ar;rw[ha] at d;cases d;obtain⟨R3,b3⟩:=ar;rw[ha] at d;have y:=tL _ _ _ _ _ ha;have aS:=U2 (y.A ae.l);have al:X (∀C,μ wr C->c_ e_ 210 #[.u (Z (ω gw o)),ι m] C λe w'=>py lo C a W.p.g.o (xL W.p (UR W.J m) (jS wd B W.p)) e w'):=λC hb=>by
    have aB:=UB.of (lo:=lo) (ok:=kY W.p.g.o) a hb;exact Qn C a k wd W.p.g.o gw o m W P _ (ag.l.all aB) ((a7.l.at a8.l).u hb) (zX x hb.q) η (Gq _ _ _) (fR.tries (by rw[ae.l];exact aH.l) (E.l.u hb) ag.l.nlen)
   have ap:=U2 λC jb PJ a4 hj aL=>IA C a rb jb B R3 _ PJ wd mr mx _ W.p.g.o n b3 (E.l.u a4) hj aL (zX x a4.q) ha;have aQ:=U2 l.c2;clear l ha y;generalize xL W.p (UR W.J m) (jS wd B W.p)=J at *;have aC:(0:Int)<(W.J[m].qw.count:Nat):=η;have v:X ((match (Z (R3,b3):Option (zw×Bool)) with|none=>Y|some (R,false)=>Z (R,false)|some (R,true)=>kw n wd mr W (W.J.j-(m+1)) (m+1) R)=Z (R',b)):=d;clear d;generalize W.J[m].qw.count=ct at *;generalize W.J[m].lit.o=vp at *;generalize W.J[m].lit.v.j=vt at *;generalize P.vps[m].bb=V at *;generalize P.vps[m].fb=ad at *;generalize P.vps[m].ab=aa at *;generalize a5:W.p.g.o=p at *;have aE:=U2 a5;clear a5;have f:μ wr (wr.C (.E #[ι vp,.k ao vt L,ι wd,(π V),(π ad),(π aa)] 301)):=γ;have j:=U2 f;clear f;go_upto_region 9 with (first|(go_at_call 209;refine(aj.l _ j.l).y ?_;rintro e G ⟨rfl,af⟩;obtain rfl:=af.z)|(go_at_call 210;refine(al.l _ j.l).y ?_;rintro e G ⟨PJ,rfl,z,au,a1⟩;have ac:=U6 j.l a1;clear a1;have aN:μ G (G.C (.E (bj 0 0 0 Y Y 0 0 0 0).F 310)):=γ;have aK:=iZ z (rW G 0 0 0 Y Y 0 0 0 0);have a2:=rT J PJ z.hlen.1 z.jl;have a0:=U2 z;have aA:=U2 au;clear z au;generalize a6:uL J PJ=cs at *;have av:=U2 a6;clear a6))
   have t:=a0.l.laid (zX x ac.q);rw[av.l] at t;obtain⟨a9,az⟩:=t;generalize dH (G.C (.E (bj 0 0 0 Y Y 0 0 0 0).F 310)) G.o.q cs=W3 at *;have F:=U6 ac az;have aX:=zi F aR aQ.l;have K:=ap.l W3 _ PJ F a9 aA.l;have aq:=U2 F;clear a9 az F a0 aA av aK a2 aN ap al ac;generalize G.o.q=jb at *;cases b3
   .have HE:X (R3=R'/\false=b):=by have q:=v.l;simp only[zt,yk] at q;exact q
    go_wp2_with (go_at_call 208;refine K.y ?_;rintro e w4 ⟨rfl,u,A,s,ah⟩)
    go_ret;exact⟨by rw[←HE.l.2];rfl,u,A,by rw[←HE.l.1];exact s,by rw[aE.l];exact g.l.A ((UB.of a aq.l).A ah)⟩
   have HE:X (kw n wd mr W (W.J.j-(m+1)) (m+1) R3=Z (R',b)):=v.l;clear v;go_wp2_with (go_at_call 208;refine K.y ?_;rintro e w4 ⟨rfl,u,A,s,ah⟩)
   exact⟨⟨m+1,η,ξ,R3,u,A,s,g.l.A ((UB.of a aq.l).A ah),aS,HE⟩,by simp[d_];omega⟩
  rw[za ak] at d;have v:=U2 d;clear d l;have aC:¬(0:Int)<(W.J[m].qw.count:Nat):=η;generalize W.J[m].qw.count=ct at *;generalize W.J[m].lit.o=vp at *;generalize W.J[m].lit.v.j=vt at *;generalize P.vps[m].bb=V at *;generalize P.vps[m].fb=ad at *;generalize P.vps[m].ab=aa at *;have f:μ wr (wr.C (.E #[ι vp,.k ao vt L,ι wd,(π V),(π ad),(π aa)] 301)):=γ;have j:=U2 f;clear f;go_wp2_with (go_at_call 209;refine(aj.l _ j.l).y ?_;rintro e G ⟨rfl,af⟩;obtain rfl:=af.z)
  exact⟨⟨m+1,η,ξ,B,a,I,E.l.u j.l,g.l.A (UB.of a j.l),ae,v⟩,by simp[d_];omega⟩
 obtain rfl:m=W.J.j:=η;have d:=a3.l;rw[vF] at d;simp only[kw,zt,yk] at d;have HE:=U2 d;clear d;go_wp2;go_ret;exact⟨by rw[←HE.l.2];rfl,a,I,by rw[←HE.l.1];exact E.l,g.l⟩
def OD(w:U)(own:Nat->zo)(d j o k:Nat)(c:Array O)(R R':zw)(W:yi)(P:xt)(wd mr mx:Nat)(Q:uC)(n:Nat)(first b:Bool)(h:ya lo w own d R wd mr mx Q)(m:uB lo w own k wd W P)(g:U3 w j c 292)(f:WT c o W.p P)(i:fR Q.tbs R.rows.j W.p P.nbs)(a:lo<=w.o.q)(l:gS n wd mr first R W=Z (R',b)):
  c_ e_ 193 #[(π d),.u (Z (ω j o)),.i first] w λe p=>i9 lo w own d W.p.g.o R' b wd mr mx Q e p:=by
 cases first
 exact Pm w own d j o k c R R' W P wd mr mx Q n b h m g f i a l;exact O9 w own d j o k c R R' W P wd mr mx Q n b h m g f i a l
end
section
open Go.Proofs.Tryz Go.RowKit
variable {lo:Nat}{k wd cap:Nat}{c:Array O}{w w':U}{own':Nat->zo}{xs:List O}
def lg(k:Nat):f_->zo->Prop:=λt ρ=>(¬V2 t/\∃i j,ρ=(k+1,i,j))∨(t=301/\ρ=(k+1,0,9))
def J5{i:Nat}{t:f_}{ρ:zo}(h:lI k i (k+1,0,9) t ρ):lg k t ρ:=by
 rcases h with⟨a,j,b⟩|h
 exact zh ⟨a,i,j,b⟩;exact zg h
def mS{t:f_}(h:V2 t)(a:t≠301):∀ρ,¬lg k t ρ:=λρ q=>by
 rcases q with q|q
 .exact q.1 h
 .exact a q.1
def rN{t:f_}{a b c:Nat}(h:a≠k+1):¬lg k t (a,b,c):=λq=>by
 rcases q with⟨_,i,j,q⟩|⟨_,q⟩<;>simp at q<;>omega
def fc{i:Nat}{ρg:zo}{t:f_}(h:V2 t)(a:t≠301):∀ρ,¬lI k i ρg t ρ:=λρ q=>by
 rcases q with q|q
 .exact q.1 h
 .exact a q.1
def ya.work{own:Nat->zo}{a:Nat}{R:zw}{mr mx:Nat}{Q:uC}(h:ya lo w own a R wd mr mx Q)(m:UB lo (lg k) w own w' own'):ya lo w' own' a R wd mr mx Q:=
 h.mod m (mS θ θ) (mS θ θ) (mS θ θ) (λ_=>rN η) (λ_ _ _=>rN η)
def Sn{b:Nat}{e:f_}{a g n m:Nat}(h:w.r b e a (.k (Z (δ g)) n cap) m xs)(o:w'.o[g]?=w.o[g]?):w'.r b e a (.k (Z (δ g)) n cap) m xs:=by
 obtain⟨p,j⟩:=h;refine⟨p,?_⟩;rcases j with j|⟨q,d,i,f,s,l,r⟩;exact zh j;refine zg ⟨q,d,i,f,s,?_,r⟩;simp at f;rw[←f.1,o,f.1];exact l
def Ou{a:Nat}{e:f_}{b g n m:Nat}(h:w.r a e b (.k (Z (δ g)) n cap) m xs)(f:U3 w g c e)(j:Nat)(i:j<xs.j)(u:O)(d:U3 w' g (c.setIfInBounds j u) e):w'.r a e b (.k (Z (δ g)) n cap) m (xs.set j u):=by
 refine Sn (um h j i u) ?_;unfold U3 at d f;rw[d];simp[U.setCell,Array.getElem?_modify,f]
def Dp(wd:Nat):∀(vs:List yQ) (ps:List ke),ps.j=vs.j->(qL wd vs ps).j=6*vs.j
 |[],[],_=>rfl
 |[],_::_,h=>by simp at h
 |_::_,[],h=>by simp at h
 |v::vs,p::ps,h=>by
  have:=Dp wd vs ps (by simpa using h);simp only[qL,l7,pw,yB] at this ⊢;rw[this];simp[dV];omega
def ER(wd:Nat):∀(vs:List yQ) (ps:List ke) (i:Nat) (_:i<vs.j) (b:i<ps.j) (V:yQ) (a:Nat),V.lit=(vs.d i V).lit->qL wd (vs.set i V) (ps.set i ⟨ps[i].tv,ps[i].bb,a,ps[i].ab⟩)=(qL wd vs ps).set (i*6+4) ((π a))
 |[],_,i,d,_,_,_,_=>by simp at d
 |v::vs,[],i,_,b,_,_,_=>by simp at b
 |v::vs,p::ps,0,_,_,V,a,h=>by
  simp at h;simp[qL,dV,h,pt]
 |v::vs,p::ps,i+1,d,b,V,a,h=>by
  have:=ER wd vs ps i (by simpa using d) (by simpa using b) V a (by simpa using h);simp only[qL,pu,l7,pw,ri] at this ⊢;rw[this,o_,za (by simp[dV];omega)];congr 2;simp[dV];omega
def vA{α:Type}(a vs:List α)(m:Nat):List α:=a.G m++vs.drop m
def eG{α:Type}{a vs:List α}(h:a.j=vs.j)(m:Nat)(b:m<=vs.j):(vA a vs m).j=vs.j:=by simp[vA];omega
def Io{α:Type}{a vs:List α}(h:a.j=vs.j)(m:Nat)(d:m<vs.j)(b:m<(vA a vs m).j):(vA a vs m)[m]=vs[m]:=by
 simp only[vA];rw[mh υ];simp[show min m a.j=m by omega]
def GC{α:Type}{a vs:List α}(h:a.j=vs.j)(m:Nat)(g:m<vs.j)(b:m<a.j):(vA a vs m).set m a[m]=vA a vs (m+1):=by
 have f:=yK g;have e:a.G (m+1)=a.G m++[a[m]]:=by rw[yF b]
 have d:(a.G m).j=m:=by simp;omega
 show(a.G m++vs.drop m).set m a[m]=a.G (m+1)++vs.drop (m+1);rw[f,e,o_,za η,d,vF,ml,jt];rfl
def EN{f:Nat}{V b:yQ}{a:List zl}(h:fB f wd V a=Z b):b.lit=V.lit:=by
 obtain⟨_,_,_,_,_,_,_,_,e⟩:=GN h;rw[e]
def GU{f wd:Nat}{g:List (List zl)}:∀{vs a:List yQ},fP f wd g vs=Z a->a.j=vs.j/\∀i (b:i<vs.j) (j:i<a.j),if vs[i].lit.o<g.j then fB f wd vs[i] (g.d vs[i].lit.o [])=Z a[i] else a[i]=vs[i]
 |[],a,h=>by
  simp[fP] at h;subst h;exact⟨rfl,λi h=>by simp at h⟩
 |V::vs,a,h=>by
  unfold fP at h;split at h
  .rename_i v n d l;simp at h;subst h;obtain⟨o,m⟩:=GU l;refine⟨by simp[o],λi b j=>?_⟩;match i,b,j with
   |0,_,_=>
    simp only[dB];by_cases e:V.lit.o<g.j
    .rw[zb e] at d ⊢;exact d
    .rw[za e] at d ⊢;simpa using d.z
   |i+1,b,j=>
    simp only[ri];exact m i (by simpa using b) (by simpa using j)
  .cases h
def uB.renewed{own:Nat->zo}{i g f:Nat}{W:yi}{P:xt}{n:yQ}(h:uB lo w own k wd W P)(s:i<W.J.j)(A:i<P.vps.j)(o:P.vv=.k (Z (δ g)) W.J.j cap)(B:U3 w g c 301)(y:n.lit=W.J[i].lit)(z:qn lo w' own' k i n ⟨P.vps[i].tv,P.vps[i].bb,f,P.vps[i].ab⟩)(v:U3 w' g (c.setIfInBounds (i*6+4) ((π f))) 301)(m:UB lo (lI k i (k+1,0,9)) w own w' own'):uB lo w' own' k wd ⟨W.p,W.J.set i n⟩ {P with vps:=P.vps.set i ⟨P.vps[i].tv,P.vps[i].bb,f,P.vps[i].ab⟩}:=by
 refine⟨h.p.mod m (fc θ θ) (fc θ θ),?_,by simp[h.vlen],λj a b=>?_,λb d=>(m.old b (yb h.J d)).A (h.vrole b d),qs h.qx m (fc θ θ),h.nlen,by simpa using h.M⟩;have r:=h.J;dsimp only;rw[o] at r ⊢;rw[dG];have e:=ER wd W.J P.vps i s A n f (by simp[i_,s,y]);have u:=Dp wd W.J P.vps h.vlen;have q:=Ou r B (i*6+4) η ((π f)) v;rw[←e] at q;exact q;simp only[dG] at a b;simp only[fG];by_cases e:i=j;subst e;rw[zb rfl,zb rfl];exact z;rw[za e,za e];refine(h.view j a b).mod m (λq t x l=>?_) (fc θ θ);rcases l with⟨_,C,l⟩|⟨p,l⟩
 simp at l;omega;subst p;exact x θ
def SY(lo:Nat)(w:U)(own:Nat->zo)(k wd:Nat)(W:yi)(b:List yQ)(P:xt)(e:Ending)(w':U):Prop:=e=ε (.B #[])/\∃own' a,uB lo w' own' k wd ⟨W.p,b⟩ ⟨P.tv,P.pv,P.nv,P.vv,P.ntv,a,P.nbs⟩/\UB lo (lg k) w own w' own'
def PA(w:U)(own:Nat->zo)(rb gw o k:Nat)(c:Array O)(R:zw)(W:yi)(f:List yQ)(P:xt)(wd mr mx:Nat)(Q:uC)(aj:Nat)(h:ya lo w own rb R wd mr mx Q)(hw:uB lo w own k wd W P)(ap:U3 w gw c 292)(am:WT c o W.p P)(a4:lo<=w.o.q)(aE:∀l∈R.qw,l.j<=1048577)(hr:fP aj wd R.qw W.J=Z f):
  c_ e_ 194 #[.u (Z ⟨gw,o,Y⟩),Q.fv] w λe w'=>SY lo w own k wd W f P e w':=by
 obtain⟨aB,a0⟩:=GU hr;have A:=U2 aB;have aR:=U2 a0;have HH:=U2 h;have aP:=U2 hw;have aK:=U2 ap;have aA:=U2 am;have aI:=U2 a4;have aH:=U2 aE;have aW:=hw.M;have bb:=h.M.2.1;obtain⟨ba,y,al⟩:=zq hw.J;have F:=U2 al;obtain⟨aZ,aY,an⟩:=zq h.qw;have a5:=U2 an;have ak:=am.at ap;have be:=ak.lt;have a6:=ak.c6;rw[al] at a6;rw[an];clear hr h hw ap am a4 al ak aB a0 aE an;go_enter func194,ntmps194;go_upto_region 1 with fail
 go_loopw [11] (λaO wr=>∃m:Nat,m<=W.J.j/\aO=ι m/\∃d a,X (uB lo wr d k wd ⟨W.p,vA f W.J m⟩ ⟨P.tv,P.pv,P.nv,P.vv,P.ntv,a,P.nbs⟩)/\X (UB lo (lg k) w own wr d)) (λi _=>W.J.j-(d_ i).D);exact⟨0,zs _,rfl,own,P.vps,aP.l,UB.refl _ _⟩;obtain⟨m,hm,rfl,d,a,ac,D⟩:=hrel;have a7:=D.l.q;have a8:=zX aI.l a7;by_cases V:m<W.J.j
 .have H:=ac.l;have t:m<(vA f W.J m).j:=by rw[eG A.l m hm];exact V
  have aC:m<f.j:=by rw[A.l];exact V
  have u:=Io A.l m V t;have ah:=GC A.l m V aC;have ad:m<a.j:=by have:=H.vlen;dsimp only at this;omega
  obtain⟨gv,aN,p,E,q0,q1,q2,q3,q4,q5⟩:=H.viewAt m t ad;dsimp only at p q0 q1 q2 q3 q4 q5;rw[F.l] at p;simp only[h_] at p;have ao:=p.1;clear p;subst ao;obtain⟨M,r,hq⟩:=(H.view m t ad).v.qm;dsimp only at hq;rw[hq] at q1;rw[u] at q0 q1;have aX:(m:Int)<(W.J.j:Int):=η;have ax:=U2 (aK.l.mod D.l (mS θ θ _));have a2:wr.p ⟨gw,o+6,Y⟩=Z (.k (Z ⟨gv,0,Y⟩) W.J.j y):=by rw[←F.l];exact(aA.l.at ax.l).c6
  have aS:=ax.l.lt;have j:=aR.l m V aC;have bc:¬(W.J[m].lit.o:Int)<0:=η;by_cases K:W.J[m].lit.o<R.qw.j
  .rw[zb K] at j;have aJ:=U2 (HH.l.work D.l);have C:=aJ.l;have aD:W.J[m].lit.o<Q.fvs.j:=by rw[C.flen];exact K
   obtain⟨gf,aG,x,_,a1,a9⟩:=yt C.qw η;rw[a5.l] at x;simp only[h_] at x;have ao:=x.1;clear x;subst ao;have z:=a9 W.J[m].lit.o _ (yn aD);have T:=(C.jo _ K aD).1;obtain⟨aq,ab,ae⟩:=zq T.1;have au:R.qw[W.J[m].lit.o].j<=1048577:=aH.l _ (zr _);rw[show R.qw.d W.J[m].lit.o []=R.qw[W.J[m].lit.o] by simp[i_,K]] at j;have a3:X (∀G,μ wr G->U3 G wr.o.q #[ι (W.J[m].lit.o:Nat),.k M W.J[m].lit.v.j r,ι wd,.u (Z ⟨a[m].bb,0,Y⟩),.u (Z ⟨a[m].fb,0,Y⟩),.u (Z ⟨a[m].ab,0,Y⟩)] 301->c_ e_ 206 #[.u (Z ⟨gv,m*6,Y⟩),.k aq R.qw[W.J[m].lit.o].j ab] G λe w'=>e=ε (.B #[])/\w'.p ⟨gw,o+6,Y⟩=Z (.k (Z ⟨gv,0,Y⟩) W.J.j y)/\w'.p ⟨wr.o.q,0,Y⟩=Z (ι (W.J[m].lit.o:Nat))/\w'.p ⟨gf,W.J[m].lit.o,Y⟩=Z (.k aq R.qw[W.J[m].lit.o].j ab)/\X (∃own' J,uB lo w' own' k wd ⟨W.p,vA f W.J (m+1)⟩ ⟨P.tv,P.pv,P.nv,P.vv,P.ntv,J,P.nbs⟩/\UB lo (lg k) w own w' own')):=λG v aa=>by
    have az:UB lo (λ_ _=>False) wr d G (ext d wr.o.q (0,0,5)):=UB.extNew d (0,0,5) v;have ag:=ac.l.mod az (λ_=>id) (λ_=>id) id (λ_=>id) (λ_ _ _ _=>id);have aF:=ax.l.u v;have af:=ag.J;dsimp only at af;rw[F.l] at af;obtain⟨cg,av⟩:=kx af rfl;have ar:=ag.vrole gv (by dsimp only;rw[F.l];rfl);obtain⟨n,_⟩:=av.H;obtain⟨cf,ai⟩:=kx (zy C.qw v) (b:=gf) (by rw[a5.l];rfl);have aM:VC cg (m*6) wd W.J[m].lit.o a[m].tv a[m].bb a[m].fb a[m].ab:=⟨(n _).z.A ((v.cell E).A q0),(n _).z.A ((v.cell E).A (by rw[q1,hq,u])),(n _).z.A ((v.cell E).A q2),(n _).z.A ((v.cell E).A q3),(n _).z.A ((v.cell E).A q4),(n _).z.A ((v.cell E).A q5)⟩;have aw:=ag.view m t ad;dsimp only at aw;rw[u] at aw;have q:=EP G _ k m gv (m*6) wd aj cg W.J[m] f[m] a[m] _ _ av aM aw (T.below' v) (yZ af rfl) (zX a8 v.q) C.small.1 au j;rw[ae] at q;refine q.y ?_;rintro e w' ⟨rfl,bd,own',aQ,aU,B⟩;rw[ar] at B;have ay:=ag.renewed (W:=⟨W.p,vA f W.J m⟩) t ad (cap:=y) (by dsimp only;rw[F.l,eG A.l m hm]) av (by dsimp only;rw[u];exact EN j) aQ aU B;dsimp only at ay;rw[ah] at ay;have c1:=aF.mod B (fc θ θ _);have c2:=aa.mod B (λq=>by rcases q with⟨q,_⟩|⟨_,q⟩;exact q θ;simp[ext] at q);have c3:=ai.mod B (fc θ θ _);refine⟨rfl,?_,?_,?_,own',_,ay,(D.l.A (az.more λ_ _ q=>q.elim)).A (B.more λ_ _ q=>J5 q)⟩;rw[←F.l];exact(aA.l.at c1).c6;rw[c2.H.1];rfl;rw[c3.H.1,←ai.H.1,v.cell a1,z,ae]
   rw[ae] at z;have aV:=au;clear ae T a9 C j hq H au u ah t;generalize R.qw[W.J[m].lit.o].j=rl at *;have aT:(W.J[m].lit.o:Int)<(R.qw.j:Int):=η;generalize W.J[m].lit.o=vp at *;generalize W.J[m].lit.v.j=vt at *;generalize a[m].bb=L at *;generalize a[m].fb=S at *;generalize a[m].ab=N at *;go_upto_region 4 with fail
   have g:μ wr (wr.C (.E #[ι vp,.k M vt r,ι wd,(π L),(π S),(π N)] 301)):=γ;have aa:=U3.new wr #[ι vp,.k M vt r,ι wd,(π L),(π S),(π N)] 301;generalize aL:wr.C (.E #[ι vp,.k M vt r,ι wd,(π L),(π S),(π N)] 301)=W1 at *;clear aL;have x1:=zi g aS a2;have x2:=zi g a1 z;have x3:W1.p ⟨wr.o.q,0,Y⟩=Z (ι vp):=by rw[aa.H.1];rfl
   clear a6 a2 z q0 q1 q2 q3 q4 q5;go_region_held3 (λw'=>w'.p ⟨gw,o+6,Y⟩=Z (.k (Z ⟨gv,0,Y⟩) W.J.j y)/\w'.p ⟨wr.o.q,0,Y⟩=Z (ι vp)/\w'.p ⟨gf,vp,Y⟩=Z (.k aq rl ab)) (first|go_keep|(go_simp;done)) (first|(go_at_call 206;refine(a3.l _ (by exact(zG g 1)) (U3.drew aa)).y ?_;rintro e w2 ⟨rfl,y1,y2,y3,HX⟩))
   clear x1 x2 x3 y1 y2 y3 aa g a3;go_wp2;obtain⟨own',J,z1,z2⟩:=HX.l;exact⟨⟨m+1,η,ξ,own',J,z1,z2⟩,by simp[d_];omega⟩
  rw[za K] at j;have s:vA f W.J (m+1)=vA f W.J m:=by rw[←ah,j,←u,tr]
  have I:X (∀G,μ wr G->uB lo G d k wd ⟨W.p,vA f W.J (m+1)⟩ ⟨P.tv,P.pv,P.nv,P.vv,P.ntv,a,P.nbs⟩/\UB lo (lg k) w own G d):=λG v=>by
   rw[s];exact⟨ac.l.mod (UB.of (ok:=λ_ _=>False) d v) (λ_=>id) (λ_=>id) id (λ_=>id) (λ_ _ _ _=>id),D.l.A (UB.of d v)⟩
  have aT:¬(W.J[m].lit.o:Int)<(R.qw.j:Int):=η;clear j hq H u ah t s;generalize W.J[m].lit.o=vp at *;generalize W.J[m].lit.v.j=vt at *;generalize a[m].bb=L at *;generalize a[m].fb=S at *;generalize a[m].ab=N at *;have g:μ wr (wr.C (.E #[ι vp,.k M vt r,ι wd,(π L),(π S),(π N)] 301)):=γ;go_wp2;obtain⟨z1,z2⟩:=I.l _ g;exact⟨⟨m+1,η,ξ,d,a,z1,z2⟩,by simp[d_];omega⟩
 obtain rfl:m=W.J.j:=η;have s:vA f W.J W.J.j=f:=by simp[vA,←A.l]
 have I:X (uB lo wr d k wd ⟨W.p,f⟩ ⟨P.tv,P.pv,P.nv,P.vv,P.ntv,a,P.nbs⟩):=by rw[←s];exact ac.l
 clear ac s;go_wp2
 (try simp only[s_,Exit.then])
 exact zP (results_none rfl _ _ _) rfl ⟨rfl,d,a,I.l,D.l⟩
end
section
open Go.RowKit
variable {lo:Nat}{w w':U}{own':Nat->zo}{wd:Nat}{wv:O}{Ws:List yi}{Ps:List xt}
def dR(Ws:List yi)(Ps:List xt):List Value:=(z_ (λW P=>jO W.p P) Ws Ps).flatten
structure uO (lo:Nat) (w:U) (own:Nat->zo) (wd:Nat) (wv:O) (Ws:List yi) (Ps:List xt):Prop where
 arr:w.r lo 292 8 wv Ws.j (dR Ws Ps)
 plen:Ps.j=Ws.j
 work:∀k (_:k<Ws.j) (_:k<Ps.j),uB lo w own k wd Ws[k] Ps[k]
 M:Ws.j<=1000
def Dr:∀(Ws:List yi) (Ps:List xt) (k:Nat) (a:k<Ws.j) (b:k<Ps.j) (j:Nat),j<8->(dR Ws Ps)[k*8+j]?=(jO Ws[k].p Ps[k])[j]?
 |[],_,k,a,_,_,_=>by simp at a
 |v::vs,[],k,_,b,_,_=>by simp at b
 |v::vs,p::d,0,_,_,j,c=>by
  simp only[dR,l7,pw,dB];rw[sw (by simp[jO];omega)];simp
 |v::vs,p::d,k+1,a,b,j,c=>by
  have:=Dr vs d k (by simpa using a) (by simpa using b) j c;simp only[dR,l7,pw,ri] at this ⊢;rw[gJ (by simp[jO];omega),←this];congr 1;simp[jO];omega
def DD:∀(Ws:List yi) (Ps:List xt) (k:Nat) (b:k<Ws.j) (c:k<Ps.j) (W':yi) (a:xt),jO W'.p a=jO Ws[k].p Ps[k]->dR (Ws.set k W') (Ps.set k a)=dR Ws Ps
 |[],_,k,b,_,_,_,_=>by simp at b
 |v::vs,[],k,_,c,_,_,_=>by simp at c
 |v::vs,p::d,0,_,_,W',a,h=>by
  simp only[dB] at h;simp[dR,h]
 |v::vs,p::d,k+1,b,c,W',a,h=>by
  have:=DD vs d k (by simpa using b) (by simpa using c) W' a (by simpa using h);simp only[dR,pu,l7,pw] at this ⊢;rw[this]
def uO.at{w:U}{own:Nat->zo}{wd:Nat}{wv:O}{Ws:List yi}{Ps:List xt}(h:uO lo w own wd wv Ws Ps)(k:Nat)(l:k<Ws.j)(m:k<Ps.j):∃d a c,wv=.k (Z (δ d)) Ws.j a/\lo<=d/\U3 w d c 292/\WT c (k*8) Ws[k].p Ps[k]:=by
 obtain⟨d,a,g,p,r,o⟩:=yt h.arr η;obtain⟨c,f⟩:=kx h.arr (b:=d) (by rw[g];rfl);have e:∀j,j<8->c[k*8+j]?=(jO Ws[k].p Ps[k])[j]?:=λj i=>by
  have q:=Dr Ws Ps k l m j i;obtain⟨u,n⟩:∃u,(jO Ws[k].p Ps[k])[j]?=Z u:=⟨_,yn (show j<(jO Ws[k].p Ps[k]).j by simp[jO];omega)⟩;rw[n] at q ⊢;rw[←f.H.1];exact o _ _ q
 exact⟨d,a,c,g,p,f,e 0 η,e 1 η,e 2 η,e 3 η,e 4 η,e 5 η,e 6 η,e 7 η⟩
def uO.all{w w':U}{own own':Nat->zo}{wd p:Nat}{wv:O}{Ws:List yi}{Ps:List xt}(h:uO lo w own wd wv Ws Ps)(m:UB lo (kY p) w own w' own'):uO lo w' own' wd wv Ws Ps:=
 ⟨qs h.arr m (pc θ θ),h.plen,λk a b=>(h.work k a b).all m,h.M⟩
def uO.types{own:Nat->zo}{l:List f_}(h:uO lo w own wd wv Ws Ps)(m:UB lo (dF l) w own w' own')(e:∀t∈l,V2 t/\t∉[292,284,204,301,162]):uO lo w' own' wd wv Ws Ps:=by
 have c:∀t,t∈[292,284,204,301,162]->∀ρ,¬dF l t ρ:=λt d ρ q=>(e t q).2 d;exact⟨qs h.arr m (c _ θ),h.plen,λk a b=>(h.work k a b).mod m (c _ θ) (c _ θ) (c _ θ _) (c _ θ) (λ_ _ _ d q=>d (e _ q).1),h.M⟩
def uO.u{own:Nat->zo}(h:uO lo w own wd wv Ws Ps)(a:μ w w'):uO lo w' own wd wv Ws Ps:=h.types (l:=[]) (UB.of own a) ζ
def uO.renewed{own:Nat->zo}{k:Nat}{d:List yQ}{c:List ke}(h:uO lo w own wd wv Ws Ps)(f:k<Ws.j)(i:k<Ps.j)(g:uB lo w' own' k wd ⟨Ws[k].p,d⟩ ⟨Ps[k].tv,Ps[k].pv,Ps[k].nv,Ps[k].vv,Ps[k].ntv,c,Ps[k].nbs⟩)(m:UB lo (lg k) w own w' own'):uO lo w' own' wd wv (Ws.set k ⟨Ws[k].p,d⟩) (Ps.set k ⟨Ps[k].tv,Ps[k].pv,Ps[k].nv,Ps[k].vv,Ps[k].ntv,c,Ps[k].nbs⟩):=by
 refine⟨?_,by simp[h.plen],λj a b=>?_,by simpa using h.M⟩;rw[DD _ _ _ f i _ _ (by simp[jO]),dG];exact qs h.arr m (mS θ θ);simp only[dG] at a b;simp only[fG];by_cases e:k=j;subst e;rw[zb rfl,zb rfl];exact g;rw[za e,za e];exact(h.work j a b).mod m (mS θ θ) (mS θ θ) (rN η) (mS θ θ) (λ_ _ _ _=>rN η)
def EO{f wd:Nat}{g:List (List zl)}:∀{b a:List yi},dO f wd g b=Z a->a.j=b.j/\∀i (c:i<b.j) (d:i<a.j),∃vs,fP f wd g b[i].J=Z vs/\a[i]=⟨b[i].p,vs⟩
 |[],a,h=>by
  simp[dO] at h;subst h;exact⟨rfl,λi h=>by simp at h⟩
 |W::b,a,h=>by
  unfold dO at h;split at h
  .rename_i v k m e;simp at h;subst h;obtain⟨l,j⟩:=EO e;refine⟨by simp[l],λi c d=>?_⟩;match i,c,d with
   |0,_,_=>exact⟨v,by simpa using m,rfl⟩
   |i+1,c,d=>
    simp only[ri];exact j i (by simpa using c) (by simpa using d)
  .cases h
def kM(R:zw):Prop:=∀l∈R.qw,l.j<=1048577
def kM.clear(R:zw):kM (qZ R):=λl a=>by simp[qZ] at a;simp[a.2]
def kM.add{mr:Nat}{R R':zw}{p:Nat}{row:zl}{b:Bool}(h:kM R)(c:kq mr R p row=Z (R',b)):kM R':=by
 obtain⟨_,_,_,_,e,d⟩:=Bf c;rcases d with⟨_,rfl,_⟩|⟨_,rfl,_⟩
 exact h;intro l a;rcases mA a with a|rfl;exact h l a;simp only[yB,xp,jD];omega
def kM.addAll{mr p:Nat}:∀(n:Nat) (R R':zw) (J:zF) (b:Bool),kM R->qa mr p n R J=Z (R',b)->kM R'
 |0,R,R',J,b,_,h=>by simp[qa] at h
 |n+1,R,R',J,b,d,h=>by
  unfold qa at h;cases f:hX n J with
  |none=>rw[f] at h;cases h
  |some j=>
   obtain⟨c,i⟩:=j;rw[f] at h;cases i with
   |false=>
    simp only[zt,yk] at h;rw[←h.1];exact d
   |true=>
    dsimp only at h;cases a:kq mr R p (zI c.g c.P) with
    |none=>rw[a] at h;cases h
    |some e=>
     obtain⟨g,k⟩:=e;rw[a] at h;cases k with
     |false=>
      simp only[zt,yk] at h;rw[←h.1];exact d.add a
     |true=>exact kM.addAll n g R' c b (d.add a) h
def AS{f wd mr:Nat}{W:yi}:∀(n i:Nat) (R R':zw) (b:Bool),kw f wd mr W n i R=Z (R',b)->(kM R->kM R')/\R'.rows.j=R.rows.j
 |0,i,R,R',b,h=>by simp[kw] at h;rw[←h.1];exact⟨id,rfl⟩
 |n+1,i,R,R',b,h=>by
  unfold kw at h;split at h
  .split at h
   .cases h
   .rename_i d a;simp only[zt,yk] at h;rw[←h.1];exact⟨λc=>c.addAll _ _ _ _ _ a,tL _ _ _ _ _ a⟩
   .rename_i d a;obtain⟨g,e⟩:=AS n (i+1) d R' b h;exact⟨λc=>g (c.addAll _ _ _ _ _ a),e.A (tL _ _ _ _ _ a)⟩
  .exact AS n (i+1) R R' b h
def CK{f mr:Nat}{first:Bool}{R R':zw}{W:yi}{b:Bool}(h:gS f wd mr first R W=Z (R',b)):(kM R->kM R')/\R'.rows.j=R.rows.j:=by
 unfold gS at h;split at h;exact⟨λa=>a.addAll _ _ _ _ _ h,tL _ _ _ _ _ h⟩;exact AS _ _ _ _ _ h
def vz:f_->zo->Prop:=λt ρ=>(¬V2 t/\ρ≠(0,0,7))∨t∈[214,161,165,310,323,301]
def o7{p:Nat}{t:f_}{ρ:zo}(h:kY p t ρ):vz t ρ:=by
 rcases h with (h|h|h|h)|h
 exact zh ⟨h.1,by rw[h.2];simp⟩;subst h;exact zg θ;subst h;exact zg θ;rw[h.1];exact zg θ;rcases z7.1 h with rfl|h;exact zg θ;rcases z7.1 h with rfl|h;exact zg θ;cases h
def F6{k:Nat}{t:f_}{ρ:zo}(h:lg k t ρ):vz t ρ:=by
 rcases h with⟨a,i,j,rfl⟩|⟨rfl,_⟩
 exact zh ⟨a,ζ⟩;exact zg θ
def Ct{t:f_}{ρ:zo}(h:dF [214] t ρ):vz t ρ:=zg (by rw[xo.1 h];decide)
end
section
open Go.Proofs.Tryz Go.RowKit
variable {lo:Nat}
def gY(a:List Nat)(n:Nat)(b:List yi)(c:List xt):Prop:=∀k (_:k<b.j) (_:k<c.j),fR a n b[k].p c[k].nbs
def gY.set{c:Φ}{n k:Nat}{f:List yi}{d:List xt}(h:gY c n f d)(m:k<f.j)(o:k<d.j)(g:List yQ)(i:xt)(l:i.nbs=d[k].nbs):gY c n (f.set k ⟨f[k].p,g⟩) (d.set k i):=by
 intro j a b;simp only[dG] at a b;simp only[fG];by_cases e:k=j;subst e;rw[zb rfl,zb rfl,l];exact h k a b;rw[za e,za e];exact h j a b
def Nl(lo:Nat)(w:U)(own:Nat->zo)(h:Nat)(i:O)(R R':zw)(c:List yi)(wd mr mx:Nat)(Q:uC)(b:Bool)(e:Ending)(w':U):Prop:=
 e=ε (.i b)/\∃a g f d,ya lo w' a h R' wd mr mx ⟨Q.rv,Q.tbs,g,f⟩/\uO lo w' a wd i c d/\gY Q.tbs R.rows.j c d/\R'.rows.j=R.rows.j/\UB lo vz w own w' a
def Q2(w:U)(own:Nat->zo)(B:Nat)(wv:O)(R R':zw)(d a:List yi)(Ps:List xt)(wd mr mx:Nat)(Q:uC)(g:Nat)(first b:Bool)(h:ya lo w own B R wd mr mx Q)(hw:uO lo w own wd wv d Ps)(az:gY Q.tbs R.rows.j d Ps)(ab:lo<=w.o.q)(aP:R.Q<1048576)(S:rm g wd mr first d R=Z (R',a,b)):
  c_ e_ 165 #[(π B),wv,.i first] w λe N=>Nl lo w own B wv R R' a wd mr mx Q b e N:=by
 obtain⟨G,b1,hA,L⟩:∃G b1,gP g wd mr first d (qZ {R with Q:=R.Q+1})=Z (G,b1)/\(b1=false/\G=R'/\d=a/\false=b∨b1=true/\G=R'/\dO g wd G.qw d=Z a/\true=b):=by
  unfold rm at S;split at S;cases S;rename_i G hA;simp only[zt,yk] at S;exact⟨G,false,hA,zh ⟨rfl,S⟩⟩;rename_i G hA;rw[qG] at S;obtain⟨aO,h1,h2⟩:=S;simp only[yk] at h2;obtain⟨h3,h4,h5⟩:=h2;subst h4;exact⟨G,true,hA,zg ⟨rfl,h3,h1,h5⟩⟩
 obtain⟨hl,hf,h0,h1,h2,h3,h4,h5,h6,h7⟩:=h.at;have aE:zc [B] w (w.x ⟨B,2,Y⟩ (ι ((R.Q:Int)+1))):=zc.set _ _ _ _;have a1:UB lo (dF [214]) w own (w.x ⟨B,2,Y⟩ (ι ((R.Q:Int)+1))) own:=UB.set own h.box h.low (xo.2 rfl) _ _;have x:=h.box.set 2 (ι ((R.Q:Int)+1));have a2:=h.rebox (R':={R with Q:=R.Q+1}) aE (by simpa using x) rfl rfl ⟨h.M.2.2.1,by show R.Q+1<=1048576;omega⟩;have av:=U2 (VN _ own B _ wd mr mx Q a2 (by simpa [U.setCell] using ab));have au:=U2 a1;have aB:=U2 hw;have ac:=U2 az;have aq:=U2 ab;have HE:=U2 L;have HA:X (gP g wd mr first (d.drop 0) (qZ {R with Q:=R.Q+1})=Z (G,b1)):=hA;have aN:=hw.M;obtain⟨ae,D,aG⟩:=zq hw.arr;subst aG;clear S h hw az ab L hA a2 a1 aE x h0 h1 h3 h4 h5 h6 h7;go_enter func165,ntmps165;go_upto_region 4 with (first|(go_at_call 120;refine av.l.y ?_;rintro e w2 ⟨rfl,fv,aH,a6,hm⟩))
 have aa:=au.l.A hm;have ay:=U2 (aB.l.types aa θ);have a3:=U2 a6;have aC:X (UB lo vz w own w2 own):=aa.more λ_ _ q=>Ct q;clear aa hm a6 av au;go_loopw [22] (λaM wr=>∃m:Nat,m<=d.j/\aM=ι m/\∃v r I,X (ya lo wr r B v wd mr mx ⟨Q.rv,Q.tbs,fv,I⟩)/\X (uO lo wr r wd (.k ae d.j D) d Ps)/\X (UB lo vz w own wr r)/\X (v.rows.j=R.rows.j)/\X (kM v)/\X (gP g wd mr first (d.drop m) v=Z (G,b1))) (λi _=>d.j-(d_ i).D);exact⟨0,zs _,rfl,_,own,aH,a3,ay,aC,rfl,kM.clear _,HA⟩;clear HA a3 ay aC;obtain⟨m,hm,rfl,v,r,I,t,l,u,af,ap,ag⟩:=hrel;have V:=u.l.q;have y:=zX aq.l V;by_cases k:m<d.j
 .have s:m<Ps.j:=by rw[aB.l.plen];exact k
  obtain⟨gw,ao,c,T,_,x,H⟩:=l.l.at m k s;simp only[h_] at T;have ad:=T.1;clear T;subst ad;have z:=ag.l;rw[yK k] at z;unfold gP at z;rcases ha:gS g wd mr first v d[m] with _|ar;rw[ha] at z;cases z;obtain⟨R3,b3⟩:=ar;rw[ha] at z;have al:X (kM R3/\R3.rows.j=R.rows.j):=⟨(CK ha).1 ap.l,(CK ha).2.A af.l⟩;have a4:=U2 (OD wr r B gw (m*8) m c v R3 d[m] Ps[m] wd mr mx _ g first b3 t.l (l.l.work m k s) x H (by rw[af.l];exact ac.l m k s) y ha);have aA:(m:Int)<(d.j:Int):=η;generalize d[m].p.g.o=p at *;clear ha x H;cases b3
  .simp only[zt,yk] at z;have HQ:=U2 z;clear z;go_wp2_with (go_at_call 193;refine a4.l.y ?_;rintro e w4 ⟨rfl,f,K,n,J⟩)
   go_ret;have L:=HE.l;rw[←HQ.l.2,←HQ.l.1] at L;rcases L with⟨_,rfl,rfl,rfl⟩|⟨hx,_⟩
   exact⟨rfl,f,fv,K,Ps,n,l.l.all J,ac.l,al.l.2,u.l.A (J.more λ_ _ q=>o7 q)⟩;cases hx
  have HQ:X (gP g wd mr first (d.drop (m+1)) R3=Z (G,b1)):=z;clear z;go_wp2_with (go_at_call 193;refine a4.l.y ?_;rintro e w4 ⟨rfl,f,K,n,J⟩)
  exact⟨⟨m+1,η,ξ,R3,f,K,n,l.l.all J,u.l.A (J.more λ_ _ q=>o7 q),al.l.2,al.l.1,HQ⟩,by simp[d_];omega⟩
 obtain rfl:m=d.j:=η;have z:=ag.l;rw[n_] at z;simp only[gP,zt,yk] at z;have L:=HE.l;rw[←z.2,←z.1] at L;have P:X (v=R'/\dO g wd v.qw d=Z a/\true=b):=by
  rcases L with⟨hx,_⟩|⟨_,hx⟩
  cases hx;exact hx
 clear z L ag HE;go_upto_region 10 with fail
 obtain⟨aD,an⟩:=EO P.l.2.1;have F:=U2 aD;have aI:=U2 an;clear aD an k hm;obtain⟨E,o,aw⟩:=zq t.l.qw;dsimp only at aw;subst aw;have aQ:=U2 y;clear V y;generalize aK:wr=w5 at *;clear aK;go_loopw [35] (λaF wr=>∃m:Nat,m<=d.j/\aF=ι m/\∃j C,X (ya lo wr j B v wd mr mx ⟨Q.rv,Q.tbs,.k E v.qw.j o,I⟩)/\X (uO lo wr j wd (.k ae d.j D) (vA a d m) C)/\X (gY Q.tbs R.rows.j (vA a d m) C)/\X (UB lo vz w own wr j)) (λi _=>d.j-(d_ i).D);exact⟨0,zs _,rfl,r,Ps,t,l,ac,u⟩;clear t l u;obtain⟨m,hm,rfl,j,C,t,l,ak,u⟩:=hrel;have y:=zX aq.l u.l.q;by_cases k:m<d.j
 .have A:m<(vA a d m).j:=by rw[eG F.l m hm];exact k
  have aj:m<a.j:=by rw[F.l];exact k
  have ah:=Io F.l m k A;have a8:=GC F.l m k aj;have s:m<C.j:=by rw[l.l.plen];exact A
  obtain⟨gw,ao,c,T,_,x,H⟩:=l.l.at m A s;rw[eG F.l m hm] at T;simp only[h_] at T;have ad:=T.1;clear T;subst ad;obtain⟨vs,a7,ax⟩:=aI.l m k aj;have aA:(m:Int)<(d.j:Int):=η;have a9:=t.l.at;obtain⟨hl,hf,h0,h1,aJ,h3,h4,h5,h6,h7⟩:=a9;have a0:X (∀W0,μ wr W0->c_ e_ 194 #[.u (Z ⟨gw,m*8,Y⟩),.k E v.qw.j o] W0 λe N=>e=ε (.B #[])/\N.p ⟨B,7,Y⟩=Z (.k E v.qw.j o)/\X (∃f M,ya lo N f B v wd mr mx ⟨Q.rv,Q.tbs,.k E v.qw.j o,I⟩/\uO lo N f wd (.k (Z ⟨gw,0,Y⟩) d.j D) (vA a d (m+1)) M/\gY Q.tbs R.rows.j (vA a d (m+1)) M/\UB lo vz w own N f)):=λW0 hb=>by
   have a5:=l.l.u hb;have q:=PA W0 j B gw (m*8) m c v (vA a d m)[m] vs C[m] wd mr mx _ g (t.l.u hb) (a5.work m A s) (x.u hb) H (zX y hb.q) ap.l (by rw[ah];exact a7);refine q.y ?_;rintro e N ⟨rfl,f,am,aL,ai⟩;have n:=(t.l.u hb).work ai;have r1:=a5.renewed A s aL ai;have r2:=ak.l.set A s vs ⟨C[m].tv,C[m].pv,C[m].nv,C[m].vv,C[m].ntv,am,C[m].nbs⟩ rfl;have e2:(⟨(vA a d m)[m].p,vs⟩:yi)=a[m]:=by rw[ah,ax]
   rw[e2,a8] at r1 r2;exact⟨rfl,n.at.2.2.2.2.2.2.2.2.2,f,_,n,r1,r2,(u.l.A (UB.of j hb)).A (ai.more λ_ _ q=>F6 q)⟩
  clear x H a7 ax ah a8 A aj s h0 h1 aJ h3 h4 h5 h6;have x7:wr.p ⟨B,7,Y⟩=Z (.k E v.qw.j o):=h7;clear h7;go_upto_region 12 with fail
  go_region_held3 (λN=>N.p ⟨B,7,Y⟩=Z (.k E v.qw.j o)) (first|go_keep|(go_simp;done)) (first|(go_at_call 194;refine(a0.l _ (by exact(zG (zn _ _) 1))).y ?_;rintro e w2 ⟨rfl,y1,HX⟩))
  clear x7 y1 a0;go_wp2;obtain⟨f,M,z1,z2,z3,z4⟩:=HX.l;exact⟨⟨m+1,η,ξ,f,M,z1,z2,z3,z4⟩,by simp[d_];omega⟩
 obtain rfl:m=d.j:=η;have W:vA a d d.j=a:=by simp[vA,←F.l]
 have HF:X (uO lo wr j wd (.k ae d.j D) a C/\gY Q.tbs R.rows.j a C):=by rw[←W];exact⟨l.l,ak.l⟩
 clear W l ak;go_wp2;go_ret;exact⟨by rw[←P.l.2.2];rfl,j,_,I,C,by rw[←P.l.1];exact t.l,HF.l.1,HF.l.2,by rw[←P.l.1];exact af.l,u.l⟩
end
section
open Go.RowKit
variable {lo:Nat}{k wd t5 t3:Nat}{w w' w0:U}{own' own0:Nat->zo}{r:zv}{P:xt}{vs:List yQ}
def lQ(k:Nat):f_->zo->Prop:=λt ρ=>lg k t ρ∨(t=301/\ρ=(0,0,5))
def MP{i:Nat}{t:f_}{ρ:zo}(h:lI k i (0,0,5) t ρ):lQ k t ρ:=by
 rcases h with⟨a,j,b⟩|h
 exact zh (zh ⟨a,i,j,b⟩);exact zg h
def pI{t:f_}(h:V2 t)(a:t≠301):∀ρ,¬lQ k t ρ:=λρ q=>by
 rcases q with q|q
 .exact mS h a ρ q
 .exact a q.1
def AE{t:f_}{a b c:Nat}(h:a≠k+1)(d:c≠5):¬lQ k t (a,b,c):=λq=>by
 rcases q with q|⟨_,q⟩
 .exact rN h q
 .simp at q;omega
def Mw{t:f_}{ρ:zo}(h:lQ k t ρ):vz t ρ:=by
 rcases h with h|⟨rfl,_⟩;exact F6 h;exact zg θ
def ya.make{own:Nat->zo}{a:Nat}{R:zw}{mr mx:Nat}{Q:uC}(h:ya lo w own a R wd mr mx Q)(m:UB lo (lQ k) w own w' own'):ya lo w' own' a R wd mr mx Q:=
 h.mod m (pI θ θ) (pI θ θ) (pI θ θ) (λ_=>AE η η) (λ_ _ _=>AE η η)
def UB.newer{ok:f_->zo->Prop}{w wr w':U}{own a:Nat->zo}{M:Φ}(h:UB lo ok w own wr a)(hs:zc M wr w')(f:∀b∈M,w.o.q<=b):UB lo ok w own w' a:=by
 obtain⟨d,N,g,e⟩:=h;exact⟨d,N,g.newer hs λx c=>zg (f x c),e⟩
def UB.qw{ok:f_->zo->Prop}{own:Nat->zo}(c:μ w w')(a:∀b,b<w.o.q->own' b=own b):UB lo ok w own w' own':=⟨a,[],zc.of c,ζ⟩
structure jT (lo:Nat) (w0 w:U) (own0 own:Nat->zo) (k wd t5 t3:Nat) (r:zv) (P:xt) (vs:List yQ):Prop where
 low:w0.o.q<=t5
 low0:lo<=w0.o.q
 box:U3 w t5 (jO r P).F 292
 rbox:U3 w t3 #[ι r.L,ι r.m,ι r.g.o,P.tv,P.pv,P.nv] 207
 p:vQ lo w P.tv P.pv P.nv r
 J:w.r lo 301 6 P.vv vs.j (qL wd vs P.vps)
 vlen:P.vps.j=vs.j
 view:∀i (_:i<vs.j) (_:i<P.vps.j),qn lo w own k i vs[i] P.vps[i]
 vrole:∀b,P.vv.m=Z b->own b=(k+1,0,9)
 qx:w.r lo 162 1 P.ntv P.nbs.j (UO P.nbs)
 mod:UB lo (lQ k) w0 own0 w own
def jT.step{own:Nat->zo}(h:jT lo w0 w own0 own k wd t5 t3 r P vs)(m:UB lo (lI k vs.j (0,0,5)) w own w' own'):jT lo w0 w' own0 own' k wd t5 t3 r P vs:=by
 refine⟨h.low,h.low0,h.box.mod m (fc θ θ _),h.rbox.mod m (fc θ θ _),h.p.mod m (fc θ θ) (fc θ θ),tC h.J m (λb c q=>?_),h.vlen,λi a b=>(h.view i a b).mod m (λj t d q=>?_) (fc θ θ),λb c=>(m.old b (yb h.J c)).A (h.vrole b c),qs h.qx m (fc θ θ),h.mod.A (m.more λ_ _ q=>MP q)⟩;rw[h.vrole b c] at q;rcases q with q|q;exact q.1 θ;simp at q;rcases q with⟨_,f,q⟩|⟨e,_⟩
 simp at q;omega;subst e;exact d θ
def jT.u{own:Nat->zo}(h:jT lo w0 w own0 own k wd t5 t3 r P vs)(a:μ w w'):jT lo w0 w' own0 own k wd t5 t3 r P vs:=h.step (UB.of own a)
def Nd(wd:Nat):∀(vs:List yQ) (ps:List ke),ps.j=vs.j->∀(V:yQ) (p:ke),qL wd (vs++[V]) (ps++[p])=qL wd vs ps++dV wd V p:=λvs ps h V p=>by
 simp[qL,t_ (h.z)]
def jT.pushV{own:Nat->zo}{V:yQ}{p:ke}{v':O}(h:jT lo w0 w own0 own k wd t5 t3 r P vs)(G:qn lo w own k vs.j V p)(B:w'.r lo 301 6 v' (vs.j+1) (qL wd vs P.vps++dV wd V p))(hs:zc P.vv.m.toList w w')(y:v'.m=P.vv.m∨∃g,v'.m=Z g/\w.o.q<=g):
  jT lo w0 (w'.x (ω t5 6) v') own0 (ext own w.o.q (k+1,0,9)) k wd t5 t3 r ⟨P.tv,P.pv,P.nv,v',P.ntv,P.vps++[p],P.nbs⟩ (vs++[V]):=by
 have e:UB lo (λt ρ=>t=301/\ρ=(k+1,0,9)) w own w' (ext own w.o.q (k+1,0,9)):=⟨λb d=>fj _ _ _ b d,_,hs,λb d=>by
  have l:P.vv.m=Z b:=by simpa using d
  obtain⟨c,A⟩:=kx h.J l;exact⟨yZ h.J l,yb h.J l,c,_,A,rfl,h.vrole b l⟩⟩
 have o:∀t,t≠301->∀ρ,¬(t=301/\ρ=(k+1,0,9)):=λt x ρ q=>x q.1;have m:=h.box.mod e (o _ θ _);have n:=h.rbox.mod e (o _ θ _);have f:zc [t5] w' (w'.x (ω t5 6) v'):=zc.set _ _ _ _;have s:=UP.box m;have u:=λi V p (q:qn lo w own k i V p)=>(q.mod e (λj t x q=>by obtain⟨rfl,_⟩:=q;exact x θ) (o _ θ)).saveT f s θ θ;refine⟨h.low,h.low0,?_,n.saveT f s θ,(h.p.mod e (o _ θ) (o _ θ)).saveT f s θ θ,?_,by simp[h.vlen],λi a b=>?_,λb d=>?_,yR (qs h.qx e (o _ θ)) f s θ,(h.mod.A (e.more λ_ _ q=>zh (zg q))).newer f λb d=>by simp at d;rw[d];exact h.low⟩;have q:=m.set 6 v';simpa [jO] using q;rw[Nd wd vs P.vps h.vlen,yB];exact yR B f s θ;simp only[yB,xp,jD] at a b;by_cases z:i<vs.j;have v:i<P.vps.j:=by rw[h.vlen];exact z
 rw[uI z,uI v];exact u i _ _ (h.view i z v);obtain rfl:i=vs.j:=η;have F:(vs++[V])[vs.j]=V:=ζ;have E:(P.vps++[p])[vs.j]=p:=by simp[←h.vlen]
 rw[F,E];exact u _ _ _ G;rcases y with y|⟨g,C,D⟩;rw[y] at d;rw[fj _ _ _ b (yb h.J d)];exact h.vrole b d;rw[C] at d;simp at d;subst d;simp[ext,Nat.not_lt.2 D]
def jT.pushN{own:Nat->zo}{tb:Nat}{v':O}(h:jT lo w0 w own0 own k wd t5 t3 r P vs)(g:∀b,P.ntv.m=Z b->w0.o.q<=b)(m:w'.r lo 162 1 v' (P.nbs.j+1) (UO P.nbs++[(π tb)]))(hs:zc P.ntv.m.toList w w'):
  jT lo w0 (w'.x (ω t5 7) v') own0 own k wd t5 t3 r ⟨P.tv,P.pv,P.nv,P.vv,v',P.vps,P.nbs++[tb]⟩ vs:=by
 have d:=UP.own h.qx;have f:=h.box.saveT hs d θ;have c:zc [t5] w' (w'.x (ω t5 7) v'):=zc.set _ _ _ _;have j:=UP.box f;refine⟨h.low,h.low0,?_,(h.rbox.saveT hs d θ).saveT c j θ,(h.p.saveT hs d θ θ).saveT c j θ θ,yR (yR h.J hs d θ) c j θ,h.vlen,λi a b=>((h.view i a b).saveT hs d θ θ).saveT c j θ θ,h.vrole,?_,(h.mod.newer hs λb l=>g b (by simpa using l)).newer c λb l=>by simp at l;rw[l];exact h.low⟩;have q:=f.set 7 v';simpa [jO] using q;have e:UO (P.nbs++[tb])=UO P.nbs++[(π tb)]:=by simp[UO,pt]
 rw[e,yB];exact yR m c j θ
def FF{f wd:Nat}{R:zw}:∀{ls:List zx} {vs:List yQ},fC f wd R ls=Z vs->vs.j=ls.j/\∀i (c:i<ls.j) (d:i<vs.j),∃a,rowsG f (m7 wd R ls[i].o)=Z a/\fB f wd (gD wd ls[i]) a=Z vs[i]
 |[],vs,h=>by
  simp[fC] at h;subst h;exact⟨rfl,λi h=>by simp at h⟩
 |l::ls,vs,h=>by
  unfold fC at h;split at h
  .cases h
  .rename_i a b;split at h
   .rename_i v j n e;simp at h;subst h;obtain⟨m,g⟩:=FF e;refine⟨by simp[m],λi c d=>?_⟩;match i,c,d with
    |0,_,_=>exact⟨a,b,n⟩
    |i+1,c,d=>
     simp only[ri];exact g i (by simpa using c) (by simpa using d)
   .cases h
end
section
open Go.Proofs.Tryz Go.RowKit
variable {lo:Nat}{ownk own1:Nat->zo}{wd:Nat}
def Pj(lo:Nat)(w:U)(own:Nat->zo)(k wd:Nat)(r:zv)(vs:List yQ)(b:List Nat)(n:Nat)(e:Ending)(w':U):Prop:=∃P a,e=ε (.agg (jO r P).F)/\uB lo w' a k wd ⟨r,vs⟩ P/\fR b n r P.nbs/\UB lo (lQ k) w own w' a
def z8:List Value:=[ι 0,ι 0,ι 0,ν,ν,ν,ν,ν]
def Uq:(e_.info? 301).map (λi=>(i.zero,i.q,i.bytes))=Z (Z (.agg #[ι 0,ν,ι 0,.u Y,.u Y,.u Y]),6,64):=χ
def WW(d wd:Nat)(tv:O)(b c a:Nat):Array Value:=#[ι d,tv,ι wd,(π b),(π c),(π a)]
structure WN (lo:Nat) (wr W3:U) (ownk own2:Nat->zo) (k m wd g8:Nat) (l:zx) (tv:O) (bb fb ab:Nat):Prop where
 view:qn lo W3 own2 k m (gD wd l) ⟨tv,bb,fb,ab⟩
 role:own2 g8=(0,0,5)
 old:∀b,b<wr.o.q->own2 b=ownk b
 box:U3 W3 g8 (WW l.o wd tv bb fb ab) 301
 lbox:U3 W3 wr.o.q #[ι l.o,tv] 204
 u:μ wr W3
 ge:wr.o.q<=g8
def WN.one{wr d a:U}{k m:Nat}{l:zx}{tv:O}{g f h:Nat}(e:μ wr d)(i:U3 d wr.o.q #[ι l.o,tv] 204)(c:μ d a)(p:qn lo a own1 k m (gD wd l) ⟨tv,g,f,h⟩)(o:∀b,b<d.o.q->own1 b=ext ownk wr.o.q (0,0,5) b):WN lo wr (a.C (.E (WW l.o wd tv g f h) 301)) ownk (ext own1 a.o.q (0,0,5)) k m wd a.o.q l tv g f h:=by
 have j:μ a (a.C (.E (WW l.o wd tv g f h) 301)):=(zn _ _).C (ze _) _;have q:=e.q;have r:=c.q;refine⟨p.mod (UB.extNew (ok:=λ_ _=>False) own1 (0,0,5) j) (λ_ _ _=>id) (λ_=>id),by simp[ext],λb n=>?_,U3.new _ _ _,(i.u c).u j,U6 (U6 e c) j,η⟩;rw[fj _ _ _ b η,o b η,fj _ _ _ b n]
def WN.two{wr a h:U}{k m:Nat}{l:zx}{tv:O}{e c i:Nat}{z:Array O}(f:μ wr a)(o:U3 a wr.o.q #[ι l.o,tv] 204)(d:Below (a.C (.E z 301)).o.q (a.C (.E z 301)) h)(u:U3 h a.o.q #[ι 0,ν,ι 0,.u Y,.u Y,.u Y] 301)(y:qn lo h own1 k m (gD wd l) ⟨tv,e,c,i⟩)(s:∀b,b<(a.C (.E z 301)).o.q->own1 b=ext ownk wr.o.q (0,0,5) b):WN lo wr ((((((h.x (δ a.o.q) (ι l.o)).x (ω a.o.q 1) tv).x (ω a.o.q 2) (ι wd)).x (ω a.o.q 3) ((π e))).x (ω a.o.q 4) ((π c))).x (ω a.o.q 5) ((π i))) ownk own1 k m wd a.o.q l tv e c i:=by
 have q:=f.q;have t:μ a (a.C (.E z 301)):=(zn _ _).C (ze _) _;have n:=zc.sets a.o.q [ι l.o,tv,ι wd,(π e),(π c),(π i)] 0 h;have p:=(((((u.set 0 (ι l.o)).set 1 tv).set 2 (ι wd)).set 3 ((π e))).set 4 ((π c))).set 5 ((π i));have r:=UP.box u;have j:=U6 (U6 f t) d;have g:=(o.u t).u d;have A:(a.C (.E z 301)).o.q=a.o.q+1:=ζ;refine⟨y.saveT n r θ θ,?_,λb v=>?_,by simpa [WW] using p,g.saveT n r θ,?_,q⟩;rw[s _ η];simp[ext,Nat.not_lt.2 q];rw[s b η,fj _ _ _ b v];exact j.A (n.u (λx w=>by simp at w;omega) (by have:=j.q;omega))
def jT.done{f w w':U}{c own:Nat->zo}{k m l g:Nat}{o:Array O}{r:zv}{P:xt}{vs:List yQ}(h:jT lo f w c own k wd m l r P vs)(e:U3 w g o 292)(p:f.o.q<=g)(hs:zc [g] w w')(j:P.nbs.j=r.qx.j)(n:vs.j<=1000):uB lo w' own k wd ⟨r,vs⟩ P/\UB lo (lQ k) f c w' own:=by
 have d:=UP.box e;have q:=yR h.qx hs d θ;rw[j] at q;exact⟨⟨h.p.saveT hs d θ θ,yR h.J hs d θ,h.vlen,λi a b=>(h.view i a b).saveT hs d θ θ,h.vrole,q,j,n⟩,h.mod.newer hs λb e=>by simp at e;omega⟩
def Py{f:Nat}{T:zm}{a:List zl}(h:rowsG f T=Z a):a.j<=1048577:=by
 unfold rowsG at h;split at h;cases h;split at h;simp at h;subst h;omega;cases h
def QE(w:U)(own:Nat->zo)(rb k:Nat)(R:zw)(r:zv)(tv pv nv:O)(vs:List yQ)(wd mr mx:Nat)(Q:uC)(a1:Nat)(h:ya lo w own rb R wd mr mx Q)(hr:vQ lo w tv pv nv r)(aW:lo<=w.o.q)(bb:∀l∈r.qc,l.o<R.rows.j)(bn:∀l∈r.qx,l.o<R.rows.j/\l.o≠r.g.o)(hv:fC a1 wd R r.qc=Z vs):
  c_ e_ 192 #[(π rb),gH r tv pv nv] w λe I=>Pj lo w own k wd r vs Q.tbs R.rows.j e I:=by
 obtain⟨i0,hi,bJ,bE,bZ⟩:=info_parts Uq;obtain⟨i1,b3,bo,bv,br⟩:=info_parts Ui;obtain⟨bk,aR⟩:=FF hv;have aF:=U2 bk;have bX:=U2 aR;have HH:=U2 h;have bV:=U2 hr;have aC:=U2 aW;have bR:=U2 bb;have bA:=U2 bn;obtain⟨o,j,b7⟩:=hr.g.qm;obtain⟨u,f,b2⟩:=hr.qc.qm;obtain⟨t,d,bQ⟩:=hr.qx.qm;have bU:r.qc.j<=1000:=by obtain⟨_,_,_,q,_⟩:=hr.qc;exact q
 have cj:r.qx.j<=1000:=by obtain⟨_,_,_,q,_⟩:=hr.qx;exact q
 subst b7 b2 bQ;clear h hr aW bb bn hv bk aR;simp only[gH];go_enter func192,ntmps192;go_upto_region 3 with fail
 have P:μ w (((w.C (.E #[ι r.L,ι r.m,ι r.g.o,.k o r.g.v.j j,.k u r.qc.j f,.k t r.qx.j d] 207)).C (.E #[ι 0,ι 0,ι 0,ν,ν,ν,ν,ν] 292)).C (.E #[ι r.L,ι r.m,ι r.g.o,.k o r.g.v.j j,.k u r.qc.j f,.k t r.qx.j d,ν,ν] 292)):=γ;have ap:=((U3.new w #[ι r.L,ι r.m,ι r.g.o,.k o r.g.v.j j,.k u r.qc.j f,.k t r.qx.j d] 207).up (.E #[ι 0,ι 0,ι 0,ν,ν,ν,ν,ν] 292)).up (.E #[ι r.L,ι r.m,ι r.g.o,.k o r.g.v.j j,.k u r.qc.j f,.k t r.qx.j d,ν,ν] 292);have a3:=((U3.new (w.C (.E #[ι r.L,ι r.m,ι r.g.o,.k o r.g.v.j j,.k u r.qc.j f,.k t r.qx.j d] 207)) z8.F 292).up (.E #[ι r.L,ι r.m,ι r.g.o,.k o r.g.v.j j,.k u r.qc.j f,.k t r.qx.j d,ν,ν] 292)).at' (b':=w.o.q+1) ζ;have aX:=(U3.new ((w.C (.E #[ι r.L,ι r.m,ι r.g.o,.k o r.g.v.j j,.k u r.qc.j f,.k t r.qx.j d] 207)).C (.E z8.F 292)) #[ι r.L,ι r.m,ι r.g.o,.k o r.g.v.j j,.k u r.qc.j f,.k t r.qx.j d,ν,ν] 292).at' (b':=w.o.q+1+1) ζ;have x:jT lo w (((w.C (.E #[ι r.L,ι r.m,ι r.g.o,.k o r.g.v.j j,.k u r.qc.j f,.k t r.qx.j d] 207)).C (.E #[ι 0,ι 0,ι 0,ν,ν,ν,ν,ν] 292)).C (.E #[ι r.L,ι r.m,ι r.g.o,.k o r.g.v.j j,.k u r.qc.j f,.k t r.qx.j d,ν,ν] 292)) own own k wd (w.o.q+1+1) w.o.q r ⟨.k o r.g.v.j j,.k u r.qc.j f,.k t r.qx.j d,ν,ν,[],[]⟩ []:=⟨η,aC.l,aX,ap,bV.l.u P,xj _ _ _ _,rfl,(λi a=>by simp at a),(λb J=>by cases J),xj _ _ _ _,UB.of own P⟩;have N:X (U3 (((w.C (.E #[ι r.L,ι r.m,ι r.g.o,.k o r.g.v.j j,.k u r.qc.j f,.k t r.qx.j d] 207)).C (.E #[ι 0,ι 0,ι 0,ν,ν,ν,ν,ν] 292)).C (.E #[ι r.L,ι r.m,ι r.g.o,.k o r.g.v.j j,.k u r.qc.j f,.k t r.qx.j d,ν,ν] 292)) (w.o.q+1) z8.F 292):=a3;have a7:=U2 x;clear x ap a3 aX P;generalize bI:((w.C (.E #[ι r.L,ι r.m,ι r.g.o,.k o r.g.v.j j,.k u r.qc.j f,.k t r.qx.j d] 207)).C (.E #[ι 0,ι 0,ι 0,ν,ν,ν,ν,ν] 292)).C (.E #[ι r.L,ι r.m,ι r.g.o,.k o r.g.v.j j,.k u r.qc.j f,.k t r.qx.j d,ν,ν] 292)=w1 at *;clear bI;generalize h5:w.o.q+1+1=t5 at *;generalize h4:w.o.q+1=t4 at *;have aH:t4≠t5:=η;have ch:w.o.q<t4:=η;clear h5 h4;go_loopw [18] (λbS wr=>∃m:Nat,m<=r.qc.j/\bS=ι m/\∃ownk vv ar,X (jT lo w wr own ownk k wd t5 w.o.q r ⟨.k o r.g.v.j j,.k u r.qc.j f,.k t r.qx.j d,vv,ν,ar,[]⟩ (vs.G m))/\X (U3 wr t4 z8.F 292)) (λi _=>r.qc.j-(d_ i).D);exact⟨0,zs _,rfl,own,_,[],a7,N⟩;clear a7 N;obtain⟨m,hm,rfl,ownk,vv,ar,x,N⟩:=hrel;have al:=x.l.mod.q;have an:=zX aC.l al;by_cases ak:m<r.qc.j
 .obtain⟨g,n,c,aN,hg,q0,q1,bs⟩:=x.l.p.qc.cell m ak;subst aN;have bm:m<vs.j:=by rw[aF.l];exact ak
  obtain⟨W,aj,ay⟩:=bX.l m ak bm;have ac:=U2 (HH.l.make x.l.mod);have ab:r.qc[m].o<R.rows.j:=bR.l _ (zr _);have au:r.qc[m].o<Q.tbs.j:=by rw[ac.l.tlen];exact ab
  have bd:X (∀F,μ wr F->c_ e_ 204 #[.agg #[ι (r.qc[m].o:Nat),.k n r.qc[m].v.j c],ι wd] F λe I=>∃K fb L own1,e=ε (.agg #[ι (r.qc[m].o:Nat),.k n r.qc[m].v.j c,ι wd,(π K),(π fb),(π L)])/\X (qn lo I own1 k m (gD wd r.qc[m]) ⟨.k n r.qc[m].v.j c,K,fb,L⟩/\∀b,b<F.o.q->own1 b=ext ownk wr.o.q (0,0,5) b)/\μ F I):=λF J=>by
   refine(Nj F (ext ownk wr.o.q (0,0,5)) k m r.qc[m] (.k n r.qc[m].v.j c) wd (bs.u J) (zX an J.q) ac.l.small.1).y ?_;rintro e I ⟨⟨ce,K,fb,L⟩,own1,rfl,rfl,bM,aZ,S⟩;exact⟨K,fb,L,own1,rfl,⟨bM,aZ⟩,S⟩
  obtain⟨hl,hf,d0,d1,d2,d3,d4,d5,d6,d7⟩:=ac.l.at;have bf:(m:Int)<(r.qc.j:Int):=η;clear d0 d1 d2 d3 d5 d6 d7;go_upto_region 5 with fail
  have P:μ wr (wr.C (.E #[ι (r.qc[m].o:Nat),.k n r.qc[m].v.j c] 204)):=γ;have aq:=U3.new wr #[ι (r.qc[m].o:Nat),.k n r.qc[m].v.j c] 204;have bu:wr.o.q<(wr.C (.E #[ι (r.qc[m].o:Nat),.k n r.qc[m].v.j c] 204)).o.q:=ζ;generalize bL:wr.C (.E #[ι (r.qc[m].o:Nat),.k n r.qc[m].v.j c] 204)=W1 at *;clear bL;have x4:=zi P hl d4;have x0:W1.p ⟨wr.o.q,0,Y⟩=Z (ι (r.qc[m].o:Nat)):=by rw[aq.H.1];rfl
  have x1:W1.p ⟨wr.o.q,1,Y⟩=Z (.k n r.qc[m].v.j c):=by rw[aq.H.1];rfl
  have aw:X (∀F,μ W1 F->c_ e_ 204 #[.agg #[ι (r.qc[m].o:Nat),.k n r.qc[m].v.j c],ι wd] F λe I=>∃K fb L own1,e=ε (.agg #[ι (r.qc[m].o:Nat),.k n r.qc[m].v.j c,ι wd,(π K),(π fb),(π L)])/\X (qn lo I own1 k m (gD wd r.qc[m]) ⟨.k n r.qc[m].v.j c,K,fb,L⟩/\∀b,b<F.o.q->own1 b=ext ownk wr.o.q (0,0,5) b)/\μ F I/\I.p ⟨rb,4,Y⟩=Z (ι wd)/\I.p ⟨wr.o.q,0,Y⟩=Z (ι (r.qc[m].o:Nat))/\I.p ⟨wr.o.q,1,Y⟩=Z (.k n r.qc[m].v.j c)):=λF J=>by
   refine(bd.l F (U6 P J)).y ?_;rintro e I ⟨K,fb,L,own1,rfl,HX,S⟩;have ap:=U6 J S;exact⟨K,fb,L,own1,rfl,HX,S,(ap.cell (by show rb<_;omega)).A x4,(ap.cell (by show wr.o.q<_;omega)).A x0,(ap.cell (by show wr.o.q<_;omega)).A x1⟩
  clear bd;clear q0 q1 d4;go_region_held3 (λI=>I.p ⟨rb,4,Y⟩=Z (ι wd)/\I.p ⟨wr.o.q,0,Y⟩=Z (ι (r.qc[m].o:Nat))/\I.p ⟨wr.o.q,1,Y⟩=Z (.k n r.qc[m].v.j c)) (first|go_keep|(go_simp;done)) (first|(go_at_call 204;refine(aw.l _ γ).y ?_;rintro e w2 ⟨K,fb,L,own1,rfl,HX,S,y4,y0,y1⟩;(try (with_reducible refine U3.carry (U3.drew (U3.new W1 #[ι 0,ν,ι 0,.u Y,.u Y,.u Y] 301)) S ?_;intro aL;obtain⟨bg,bi,aS⟩:=aL.I))))
  obtain⟨M,HP⟩:∃M,X (WN lo wr (w2.C (.E #[ι (r.qc[m].o:Nat),.k n r.qc[m].v.j c,ι wd,(π K),(π fb),(π L)] 301)) ownk M k m wd w2.o.q r.qc[m] (.k n r.qc[m].v.j c) K fb L):=⟨_,WN.one P aq (U6 (zG (zn _ _) 1) S) HX.l.1 HX.l.2⟩;clear HX S y4 y0 y1 x4 x0 x1 P aq bu aw;generalize w2.C (.E #[ι (r.qc[m].o:Nat),.k n r.qc[m].v.j c,ι wd,(π K),(π fb),(π L)] 301)=W3 at *;generalize w2.o.q=g8 at *;rotate_left
  obtain⟨M,HP⟩:∃M,X (WN lo wr ((((((w2.x ⟨W1.o.q,0,Y⟩ (ι (r.qc[m].o:Nat))).x ⟨W1.o.q,1,Y⟩ (.k n r.qc[m].v.j c)).x ⟨W1.o.q,2,Y⟩ (ι wd)).x ⟨W1.o.q,3,Y⟩ ((π K))).x ⟨W1.o.q,4,Y⟩ ((π fb))).x ⟨W1.o.q,5,Y⟩ ((π L))) ownk M k m wd W1.o.q r.qc[m] (.k n r.qc[m].v.j c) K fb L):=⟨_,WN.two (z:=#[ι 0,ν,ι 0,.u Y,.u Y,.u Y]) P aq (U6 (zG (zn _ _) 1) S) aL HX.l.1 HX.l.2⟩;clear HX S y4 y0 y1 x4 x0 x1 P aq bu aw aL bg bi aS;generalize ((((((w2.x ⟨W1.o.q,0,Y⟩ (ι (r.qc[m].o:Nat))).x ⟨W1.o.q,1,Y⟩ (.k n r.qc[m].v.j c)).x ⟨W1.o.q,2,Y⟩ (ι wd)).x ⟨W1.o.q,3,Y⟩ ((π K))).x ⟨W1.o.q,4,Y⟩ ((π fb))).x ⟨W1.o.q,5,Y⟩ ((π L)))=W3 at *;generalize W1.o.q=g8 at *
  all_goals
   have hP:=HP.l;have aI:=U2 λF J=>Ii F ownk rb R wd mr mx Q _ (ac.l.u J) ab au;have b9:X (∀F,μ wr F->c_ e_ 78 #[.u (Z ⟨Q.tbs[r.qc[m].o],0,Y⟩)] F λe I=>∃ax ah,e=ε (.k ax W.j ah)/\X (UI F.o.q I (.k ax W.j ah) W)/\μ F I):=λF J=>by
    have q:=Cy F ownk (0,r.qc[m].o,0) Q.tbs[r.qc[m].o] R.rows[r.qc[m].o] a1 W ((ac.l.u J).tries _ ab au) (by rw[←aj,m7,za η];simp[i_,ab]);refine q.y ?_;rintro e I ⟨v,rfl,a5,aP⟩;obtain⟨ax,ah,rfl⟩:=zq a5.1;exact⟨ax,ah,rfl,a5,aP⟩
   have bG:X (∀W4 b0 rv,μ W3 W4->UI b0 W4 rv W->c_ e_ 206 #[(π g8),rv] W4 λe I=>e=ε (.B #[])/\∃ae E,X (qn lo I E k m vs[m] ⟨.k n r.qc[m].v.j c,K,ae,L⟩/\UB lo (lI k m (0,0,5)) wr ownk I E)/\U3 I g8 #[ι (r.qc[m].o:Nat),.k n r.qc[m].v.j c,ι wd,(π K),(π ae),(π L)] 301):=λW4 b0 rv J a5=>by
    have z1:=HP.l.u.q;have q:=EP W4 M k m g8 0 wd a1 (WW r.qc[m].o wd (.k n r.qc[m].v.j c) K fb L) (gD wd r.qc[m]) vs[m] ⟨.k n r.qc[m].v.j c,K,fb,L⟩ rv W (HP.l.box.u J) ⟨rfl,rfl,rfl,rfl,rfl,rfl⟩ (HP.l.view.u J) a5 (by have:=HP.l.ge;omega) (by have:=J.q;omega) ac.l.small.1 (Py aj) ay;refine q.y ?_;rintro e I ⟨rfl,ae,E,bW,aP,be⟩;rw[HP.l.role] at be;exact⟨rfl,ae,E,⟨bW,((UB.qw HP.l.u HP.l.old).A (UB.of M J)).A be⟩,by simpa [WW] using aP⟩
   have am:(vs.G m).j=m:=by simp;omega
   have bO:X (∀w5 E,UB lo (lI k m (0,0,5)) wr ownk w5 E->jT lo w w5 own E k wd t5 w.o.q r ⟨.k o r.g.v.j j,.k (Z ⟨g,0,Y⟩) r.qc.j f,.k t r.qx.j d,vv,ν,ar,[]⟩ (vs.G m)/\U3 w5 t4 z8.F 292):=λw5 E bp=>⟨x.l.step (by rw[am];exact bp),N.l.mod bp (fc θ θ _)⟩;have a6:=U2 am;obtain⟨y,s,T⟩:=zq x.l.J;dsimp only at T;rw[am] at T;subst T;have b1:=hP.u;have bx:=hP.lbox;obtain⟨cc,cd,cb⟩:=bx.I;have aV:=U2 b1;have bF:X (vs[m].lit.o=r.qc[m].o):=show vs[m].lit.o=r.qc[m].o by rw[EN ay];rfl
   have bP:=U2 (yF bm);clear hP b1 bx am ay aj;generalize b5:vs[m]=V' at *;clear b5;generalize Q.tbs[r.qc[m].o]=tb at *;generalize r.qc[m].o=vp at *;generalize r.qc[m].v.j=vt at *;go_wp2_with (first|(go_at_call 205;refine(aI.l _ aV.l).y ?_;rintro e w4 ⟨rfl,aK⟩;obtain rfl:=aK.z)|(go_at_call 78;refine(b9.l _ aV.l).y ?_;rintro e w4 ⟨ax,ah,rfl,bK,a3⟩)|(go_at_call 206;refine(bG.l _ _ _ a3 bK.l).y ?_;rintro e w5 ⟨rfl,ae,E,bt,ba⟩;obtain⟨C,a9⟩:=bO.l _ _ bt.l.2;have G:U3 w5 t5 #[ι r.L,ι r.m,ι r.g.o,.k o r.g.v.j j,.k (Z ⟨g,0,Y⟩) r.qc.j f,.k t r.qx.j d,.k y m s,ν] 292:=C.box;obtain⟨aB,aJ,aO⟩:=G.I;obtain⟨ci,cf,cn⟩:=ba.I;have aa:=C.J;have D:=U2 C;have a0:=U2 a9;clear C a9 G ba)|(at_builtin;refine jx w5 _ [ι vp,.k n vt c,ι wd,(π K),(π ae),(π L)] _ rfl (.tmp 36) (.tmp 38) 290 rfl lo 301 i0 _ 6 64 underlying290 hi bJ bE bZ rfl θ (.k y m s) (vs.G m).j (qL wd (vs.G m) ar) rfl aa γ _ _ rfl ζ rfl a_ (by rw[a6.l];omega) (by rw[a6.l];omega) (by exact(zX D.l.low0 D.l.mod.q)) ?_;intro v' w6 ai ad az;obtain⟨aU,aM,ao⟩:=zq ai;rw[a6.l] at ao;subst ao;have ag:U3 w6 t5 #[ι r.L,ι r.m,ι r.g.o,.k o r.g.v.j j,.k (Z ⟨g,0,Y⟩) r.qc.j f,.k t r.qx.j d,.k y m s,ν] 292:=D.l.box.saveT ad (UP.own D.l.J) θ;obtain⟨bB,b4,bT⟩:=ag.I;have av:=U2 (a0.l.saveT ad (UP.own D.l.J) θ);have aD:X (zc _ w5 w6):=ad;have aQ:X (_∨_):=az;have aE:X (l_ w6 lo 301 6 _ _ _):=ai;clear ad az ai ag))
   have b8:dV wd V' ⟨.k n vt c,K,ae,L⟩=[ι vp,.k n vt c,ι wd,(π K),(π ae),(π L)]:=by simp[dV,bF.l,pt]
   have af:=D.l.pushV (V:=V') (p:=⟨.k n vt c,K,ae,L⟩) (by rw[a6.l];exact bt.l.1) (by rw[b8];exact aE.l) aD.l aQ.l;rw[←bP.l] at af;exact⟨⟨m+1,η,ξ,_,_,_,af,av.l.set_ne aH _ _⟩,by simp[d_];omega⟩
 obtain rfl:m=r.qc.j:=η;have bc:vs.G r.qc.j=vs:=by rw[←aF.l];exact ve
 rw[bc] at x;clear bc;obtain⟨y,s,T⟩:=zq x.l.J;dsimp only at T;subst T;obtain⟨aT,bD,bN⟩:=x.l.rbox.I;dsimp only at aT;go_upto_region 11 with fail
 clear aT bD bN hm ak;have co:=U2 an;clear al an;generalize bC:wr=w5 at *;clear bC;go_loopw [45] (λbY wr=>∃m:Nat,m<=r.qx.j/\bY=ι m/\∃aG B,X (jT lo w wr own ownk k wd t5 w.o.q r ⟨.k o r.g.v.j j,.k u r.qc.j f,.k t r.qx.j d,.k y vs.j s,aG,ar,B⟩ vs)/\X (U3 wr t4 z8.F 292)/\X (B.j=m)/\X (fR Q.tbs R.rows.j r B)/\X (∀b,aG.m=Z b->w.o.q<=b)) (λi _=>r.qx.j-(d_ i).D);exact⟨0,zs _,rfl,_,[],x,N,rfl,λi _ h2=>by simp at h2,λb J=>by cases J⟩;clear x N;obtain⟨m,hm,rfl,aG,B,x,N,a2,aY,bz⟩:=hrel;have al:=x.l.mod.q;have an:=zX aC.l al;obtain⟨H,A,a8⟩:=zq x.l.qx;dsimp only at a8;subst a8;by_cases ak:m<r.qx.j
 .obtain⟨g,n,c,aN,hg,q0,q1,bs⟩:=x.l.p.qx.cell m ak;subst aN;have ac:=U2 (HH.l.make x.l.mod);have ab:=bA.l _ (zr ak);have au:r.qx[m].o<Q.tbs.j:=by rw[ac.l.tlen];exact ab.1
  have aI:=U2 λF J=>Ii F ownk rb R wd mr mx Q _ (ac.l.u J) ab.1 au;have b6:X (fR Q.tbs R.rows.j r (B++[Q.tbs[r.qx[m].o]])):=λi h1 h2=>by
   by_cases hi:i<B.j;have q:=aY.l i h1 hi;rw[uI hi];exact q;obtain rfl:i=m:=by have:=a2.l;simp at h2;omega
   refine⟨ab.2,ab.1,au,?_⟩;rw[mh η];simp
  have a4:μ wr (wr.C (.E #[ι (r.qx[m].o:Nat),.k n r.qx[m].v.j c] 204)):=γ;have C:=x.l.u a4;have G:U3 (wr.C (.E #[ι (r.qx[m].o:Nat),.k n r.qx[m].v.j c] 204)) t5 #[ι r.L,ι r.m,ι r.g.o,.k o r.g.v.j j,.k u r.qc.j f,.k (Z ⟨g,0,Y⟩) r.qx.j d,.k y vs.j s,.k H B.j A] 292:=C.box;obtain⟨aB,aJ,aO⟩:=G.I;have aa:=C.qx;dsimp only at aa;have D:=U2 C;have a0:=U2 (N.l.u a4);have ca:=U2 a4;have bf:(m:Int)<(r.qx.j:Int):=η;have cm:B.j<=1000:=by rw[a2.l];omega
  clear C G a4;generalize Q.tbs[r.qx[m].o]=tb at *;generalize r.qx[m].o=vp at *;generalize r.qx[m].v.j=vt at *;generalize bh:B.j=nl at *;have bq:=U2 bh;clear bh;go_upto_region 14 with (first|(go_at_call 205;refine(aI.l _ ca.l).y ?_;rintro e w4 ⟨rfl,aK⟩;obtain rfl:=aK.z))
  generalize wr.C (.E #[ι vp,.k n vt c] 204)=W5 at *;go_wp2_with (at_builtin;refine jx W5 _ [(π tb)] _ rfl (.tmp 54) (.tmp 56) 150 rfl lo 162 i1 _ 1 8 underlying150 b3 bo bv br rfl θ (.k H nl A) nl (UO B) rfl aa γ _ _ rfl ζ rfl a_ η η (by exact(zX D.l.low0 D.l.mod.q)) ?_;intro v' w6 ai ad az;obtain⟨aU,aM,ao⟩:=zq ai;subst ao;have ag:U3 w6 t5 #[ι r.L,ι r.m,ι r.g.o,.k o r.g.v.j j,.k u r.qc.j f,.k (Z ⟨g,0,Y⟩) r.qx.j d,.k y vs.j s,.k H nl A] 292:=D.l.box.saveT ad (UP.own D.l.qx) θ;obtain⟨bB,b4,bT⟩:=ag.I;have av:=U2 (a0.l.saveT ad (UP.own D.l.qx) θ);have aD:X (zc _ W5 w6):=ad;have aQ:X (_∨_):=az;have aE:X (l_ w6 lo 162 1 _ _ _):=ai;clear ad az ai ag)
  have af:=D.l.pushN (tb:=tb) bz.l (by rw[bq.l];exact aE.l) aD.l;exact⟨⟨m+1,η,ξ,_,_,af,av.l.set_ne aH _ _,show(B++[tb]).j=m+1 by simp[bq.l,a2.l],b6,λb J=>by
   rcases aQ.l with e|⟨g',e,cg⟩;rw[e] at J;exact bz.l b J;rw[e] at J;simp at J;have:=D.l.mod.q;omega⟩,by simp[d_];omega⟩
 obtain rfl:m=r.qx.j:=η;have G:U3 wr t5 #[ι r.L,ι r.m,ι r.g.o,.k o r.g.v.j j,.k u r.qc.j f,.k t r.qx.j d,.k y vs.j s,.k H B.j A] 292:=x.l.box;obtain⟨aB,aJ,aO⟩:=G.I;have aA:U3 wr t4 #[ι 0,ι 0,ι 0,ν,ν,ν,ν,ν] 292:=N.l;obtain⟨bH,ck,cl⟩:=aA.I;have cp:t5≠t4:=λe=>aH e.z;clear G aA;go_wp2
 (try simp only[s_,Exit.then])
 have bw:zc [t4] wr ((((((((wr.x ⟨t4,0,Y⟩ (ι r.L)).x ⟨t4,1,Y⟩ (ι r.m)).x ⟨t4,2,Y⟩ (ι r.g.o)).x ⟨t4,3,Y⟩ (.k o r.g.v.j j)).x ⟨t4,4,Y⟩ (.k u r.qc.j f)).x ⟨t4,5,Y⟩ (.k t r.qx.j d)).x ⟨t4,6,Y⟩ (.k y vs.j s)).x ⟨t4,7,Y⟩ (.k H B.j A)):=zc.sets t4 [ι r.L,ι r.m,ι r.g.o,.k o r.g.v.j j,.k u r.qc.j f,.k t r.qx.j d,.k y vs.j s,.k H B.j A] 0 wr;have hd:=x.l.done N.l η bw a2.l (by rw[aF.l];exact bU);have HD:X (_/\_):=hd;clear hd bw;refine zP (v:=.agg #[ι r.L,ι r.m,ι r.g.o,.k o r.g.v.j j,.k u r.qc.j f,.k t r.qx.j d,.k y vs.j s,.k H B.j A]) ?_ rfl ⟨⟨.k o r.g.v.j j,.k u r.qc.j f,.k t r.qx.j d,.k y vs.j s,.k H B.j A,ar,B⟩,ownk,rfl,HD.l.1,aY.l,HD.l.2⟩;clear HD aB aJ aO;simp[results,results192,go_sem,bH]
end
section
open Go.Proofs.Tryz Go.RowKit
variable {lo:Nat}{Ws:List yi}{Ps:List xt}
def Uy:(e_.info? 292).map (λi=>(i.zero,i.q,i.bytes))=Z (Z (.agg #[ι 0,ι 0,ι 0,ν,ν,ν,ν,ν]),8,144):=χ
def mT{t:f_}(h:V2 t)(a:t∉[214,161,165,310,323,301]):∀ρ,¬vz t ρ:=λρ q=>by
 rcases q with q|q
 .exact q.1 h
 .exact a q
def jv.mod{c:Nat}{ok:f_->zo->Prop}{w w':U}{own own':Nat->zo}{v:O}{rs:List zv}{ps:List (O×O×O)}(h:jv c w v rs ps)(m:UB lo ok w own w' own')(d:∀ρ,¬ok 284 ρ)(e:∀ρ,¬ok 204 ρ)(f:∀ρ,¬ok 207 ρ):jv c w' v rs ps:=⟨qs h.own m f,h.len,λk a b=>(h.p k a b).mod m d e,h.M⟩
def uO.make{w w':U}{own own':Nat->zo}{wd:Nat}{c:O}(h:uO lo w own wd c Ws Ps)(m:UB lo (lQ Ws.j) w own w' own'):uO lo w' own' wd c Ws Ps:=
 ⟨qs h.arr m (pI θ θ),h.plen,λk a b=>(h.work k a b).mod m (pI θ θ) (pI θ θ) (AE η η) (pI θ θ) (λi j t d q=>by
  rcases q with q|⟨rfl,_⟩
  .exact rN η q
  .exact d θ),h.M⟩
def Sq(Ws:List yi)(Ps:List xt)(h:Ps.j=Ws.j)(W:yi)(P:xt):dR (Ws++[W]) (Ps++[P])=dR Ws Ps++jO W.p P:=by
 simp[dR,t_ h.z]
def uO.push{w w':U}{own:Nat->zo}{wd:Nat}{i v':O}{W:yi}{P:xt}(h:uO lo w own wd i Ws Ps)(p:uB lo w own Ws.j wd W P)(s:Ws.j+1<=1000)(u:w'.r lo 292 8 v' (Ws.j+1) (dR Ws Ps++jO W.p P))(hs:zc i.m.toList w w'):uO lo w' own wd v' (Ws++[W]) (Ps++[P])/\UB lo (dF [292]) w own w' own:=by
 have m:UB lo (dF [292]) w own w' own:=UB.ofSave own hs λb n=>by
  have d:i.m=Z b:=by simpa using n
  obtain⟨c,v⟩:=kx h.arr d;exact⟨yZ h.arr d,yb h.arr d,c,_,v,xo.2 rfl⟩
 have g:∀t,t∉[292]->∀ρ,¬dF [292] t ρ:=λt f ρ q=>f q;have l:=λk W P (q:uB lo w own k wd W P)=>q.mod m (g _ θ) (g _ θ) (g _ θ _) (g _ θ) (λ_ _ t f q=>by rw[xo.1 q] at f;exact f θ);refine⟨⟨?_,by simp[h.plen],λk a b=>?_,by simpa using s⟩,m⟩;rw[Sq Ws Ps h.plen,yB];exact u;simp only[yB,xp,jD] at a b;by_cases j:k<Ws.j;have e:k<Ps.j:=by rw[h.plen];exact j
 rw[uI j,uI e];exact l _ _ _ (h.work k j e);obtain rfl:k=Ws.j:=η;have r:(Ws++[W])[Ws.j]=W:=ζ;have o:(Ps++[P])[Ws.j]=P:=by simp[←h.plen]
 rw[r,o];exact l _ _ _ p
def gY.push{c:Φ}{n:Nat}(h:gY c n Ws Ps)(f:Ps.j=Ws.j){W:yi}{P:xt}(j:fR c n W.p P.nbs):gY c n (Ws++[W]) (Ps++[P]):=by
 intro k a b;simp only[yB,xp,jD] at a b;by_cases e:k<Ws.j;have d:k<Ps.j:=by rw[f];exact e
 rw[uI e,uI d];exact h k e d;obtain rfl:k=Ws.j:=η;have i:(Ws++[W])[Ws.j]=W:=ζ;have g:(Ps++[P])[Ws.j]=P:=by simp[←f]
 rw[i,g];exact j
def ef(n:Nat)(rs:List zv):Prop:=∀r∈rs,(∀l∈r.qc,l.o<n)/\∀l∈r.qx,l.o<n/\l.o≠r.g.o
def Mq(lo:Nat)(w:U)(own:Nat->zo)(d:Nat)(R:zw)(b:List yi)(wd mr mx:Nat)(Q:uC)(e:Ending)(w':U):Prop:=∃c a Ps,e=.returned c/\uO lo w' a wd c b Ps/\gY Q.tbs R.rows.j b Ps/\ya lo w' a d R wd mr mx Q/\UB lo vz w own w' a
def KN(w:U)(own:Nat->zo)(rb s:Nat)(R:zw)(rv:O)(rs:List zv)(ps:List (O×O×O))(ws:List yi)(wd mr mx:Nat)(Q:uC)(j:Nat)(h:ya lo w own rb R wd mr mx Q)(hr:jv lo w rv rs ps)(a0:lo<=w.o.q)(p:ef R.rows.j rs)(hv:UZ j wd R s rs=Z ws):
  c_ e_ 164 #[(π rb),rv,ι s] w λe w'=>Mq lo w own rb R ws wd mr mx Q e w':=by
 obtain⟨i0,hi,aO,aL,aX⟩:=info_parts Uy;have HH:=U2 h;have aW:=U2 hr;have aH:=U2 a0;have aF:=U2 p;have aA:X (UZ j wd R s (rs.drop 0)=Z ws):=hv;have bd:=hr.M;obtain⟨bh,bb,aK⟩:=zq hr.own;subst aK;clear h hr a0 p hv;go_enter func164,ntmps164;go_upto_region 3 with fail
 go_loopw [7,13] (λv7 aM wr=>∃m:Nat,m<=rs.j/\aM=ι m/\∃l rest c Ps,X (uO lo wr c wd v7 l Ps)/\X (gY Q.tbs R.rows.j l Ps)/\X (ya lo wr c rb R wd mr mx Q)/\X (UB lo vz w own wr c)/\X (UZ j wd R s (rs.drop m)=Z rest)/\X (l++rest=ws)/\X (l.j<=m)/\X (∀b,v7.m=Z b->w.o.q<=b)) (λ_ i _=>rs.j-(d_ i).D);exact⟨0,zs _,rfl,[],ws,own,[],⟨xj _ _ _ _,rfl,λk a=>by simp at a,ζ⟩,(λk a=>by simp at a),HH,UB.refl _ _,aA,rfl,ze _,λb z=>by cases z⟩;clear aA;obtain⟨m,hm,rfl,l,rest,c,Ps,ab,ak,aa,M,a6,al,ao,aw⟩:=hrel;have a5:=M.l.q;have ac:=zX aH.l a5;obtain⟨aQ,az,aP⟩:=zq ab.l.arr;subst aP;by_cases L:m<rs.j
 .have an:=U2 (aW.l.mod M.l (mT θ θ) (mT θ θ) (mT θ θ));have ay:m<ps.j:=by rw[an.l.len];exact L
  obtain⟨g,aU,hg,q0,q1,q2,q3,q4,q5⟩:=an.l.cell m L ay;subst aU;have o:=an.l.p m L ay;obtain⟨ah,N,ag⟩:=o.g.qm;obtain⟨au,J,ae⟩:=o.qc.qm;obtain⟨aq,C,ar⟩:=o.qx.qm;rw[ag] at q3;rw[ae] at q4;rw[ar] at q5;rw[ag,ae,ar] at o;have d:=a6.l;rw[yK L] at d;unfold UZ at d;have ba:(m:Int)<(rs.j:Int):=η;have p:=aF.l _ (zr L);clear ag ae ar;generalize rs[m]=r at *;by_cases ai:r.L=s
  .rw[zb ai] at d;subst ai;obtain⟨vs,n,a9,ad,E⟩:∃vs n,fC j wd R r.qc=Z vs/\UZ j wd R r.L (rs.drop (m+1))=Z n/\rest=⟨r,vs⟩::n:=by
    split at d;rename_i vs n h1 h2;exact⟨vs,n,h1,h2,by simpa using d.z⟩;cases d
   have aj:=U2 ad;have aN:X ((l++[⟨r,vs⟩])++n=ws):=show(l++[⟨r,vs⟩])++n=ws by rw[←al.l,E];simp
   have aS:X (∀W0,μ wr W0->c_ e_ 192 #[(π rb),.agg #[ι r.L,ι r.m,ι r.g.o,.k ah r.g.v.j N,.k au r.qc.j J,.k aq r.qx.j C]] W0 λe w'=>∃K T B I a3 A G F V D y u f,e=ε (.agg #[ι r.L,ι r.m,ι r.g.o,.k K r.g.v.j T,.k B r.qc.j I,.k a3 r.qx.j A,.k G vs.j F,.k V r.qx.j D])/\X (uB lo w' f l.j wd ⟨r,vs⟩ ⟨.k K r.g.v.j T,.k B r.qc.j I,.k a3 r.qx.j A,.k G vs.j F,.k V r.qx.j D,y,u⟩/\fR Q.tbs R.rows.j r u/\UB lo (lQ l.j) W0 c w' f)):=λW0 z=>by
    refine(QE W0 c rb l.j R r _ _ _ vs wd mr mx Q j (aa.l.u z) (o.u z) (zX ac z.q) p.1 p.2 a9).y ?_;rintro e w' ⟨⟨tv,pv,nv,vv,bg,y,u⟩,f,rfl,v,aI,aV⟩;obtain⟨K,T,e1⟩:=v.p.g.qm;obtain⟨B,I,e2⟩:=v.p.qc.qm;obtain⟨a3,A,e3⟩:=v.p.qx.qm;obtain⟨G,F,e4⟩:=zq v.J;obtain⟨V,D,e5⟩:=zq v.qx;dsimp only at e1 e2 e3 e4 e5;subst e1 e2 e3 e4 e5;exact⟨K,T,B,I,a3,A,G,F,V,D,y,u,f,rfl,v,aI,aV⟩
   have S:μ wr (wr.C (.E #[ι r.L,ι r.m,ι r.g.o,.k ah r.g.v.j N,.k au r.qc.j J,.k aq r.qx.j C] 207)):=γ;have x:=U2 S;have bc:l.j<=999:=by have:=ao.l;omega
   clear d o S p E ad a9;go_upto_region 7 with (first|(go_at_call 192;refine(aS.l _ x.l).y ?_;rintro e w5 ⟨K,T,B,I,a3,A,G,F,V,D,y,u,f,rfl,HX⟩))
   have af:μ w5 (w5.C (.E #[ι r.L,ι r.m,ι r.g.o,.k K r.g.v.j T,.k B r.qc.j I,.k a3 r.qx.j A,.k G vs.j F,.k V r.qx.j D] 292)):=γ;have a4:=U3.new w5 #[ι r.L,ι r.m,ι r.g.o,.k K r.g.v.j T,.k B r.qc.j I,.k a3 r.qx.j A,.k G vs.j F,.k V r.qx.j D] 292;have a1:=(UB.of c x.l).A HX.l.2.2;have H:=U2 (a1.A (UB.of f af));have aG:=U2 (HX.l.1.mod (UB.of (ok:=λ_ _=>False) f af) (λ_=>id) (λ_=>id) id (λ_=>id) (λ_ _ _ _=>id));clear a1 af;obtain⟨bo,bn,bi⟩:=a4.I;generalize aT:w5.C (.E #[ι r.L,ι r.m,ι r.g.o,.k K r.g.v.j T,.k B r.qc.j I,.k a3 r.qx.j A,.k G vs.j F,.k V r.qx.j D] 292)=W6 at *;clear aT a4;have ap:=U2 (ab.l.make H.l);have av:=ap.l.arr;generalize w5.o.q=bm at *;have aZ:=zX ac H.l.q;go_wp2_with (at_builtin;refine jx W6 _ [ι r.L,ι r.m,ι r.g.o,.k K r.g.v.j T,.k B r.qc.j I,.k a3 r.qx.j A,.k G vs.j F,.k V r.qx.j D] _ rfl (.tmp 24) (.tmp 26) 265 rfl lo 292 i0 _ 8 144 underlying265 hi aO aL aX rfl θ (.k aQ l.j az) l.j (dR l Ps) rfl av γ _ _ rfl ζ rfl a_ η η η ?_;intro v' w7 am a7 aB;obtain⟨aY,aR,aC⟩:=zq am;subst aC;have a2:X (zc _ W6 w7):=a7;have aE:X (_∨_):=aB;have aJ:X (l_ w7 lo 292 8 _ _ _):=am;clear a7 aB am)
   have a8:=ap.l.push (W:=⟨r,vs⟩) (P:=⟨.k K r.g.v.j T,.k B r.qc.j I,.k a3 r.qx.j A,.k G vs.j F,.k V r.qx.j D,y,u⟩) aG.l η aJ.l a2.l;have ax:=(aa.l.make H.l).mod a8.2 (gK θ) (gK θ) (gK θ) (λ_=>gK θ _) (λ_ t ht q=>by rw[xo.1 q] at ht;exact ht θ);have aD:=(M.l.A (H.l.more λ_ _ q=>Mw q)).newer a2.l λb z=>aw.l b (by simpa using z);have bk:=H.l.q;exact⟨⟨m+1,η,ξ,l++[(⟨r,vs⟩:yi)],n,f,Ps++[(⟨.k K r.g.v.j T,.k B r.qc.j I,.k a3 r.qx.j A,.k G vs.j F,.k V r.qx.j D,y,u⟩:xt)],a8.1,ak.l.push ap.l.plen HX.l.2.1,ax,aD,aj,aN,show(l++[(⟨r,vs⟩:yi)]).j<=m+1 by have:=ao.l;simp;omega,λb z=>by
    rcases aE.l with e|⟨g',e,bf⟩;rw[e] at z;exact aw.l b z;rw[e] at z;simp at z;omega⟩,by simp[d_];omega⟩
  rw[za ai] at d;have aj:=U2 d;have be:¬(r.L:Int)=(s:Int):=η;have S:μ wr (wr.C (.E #[ι r.L,ι r.m,ι r.g.o,.k ah r.g.v.j N,.k au r.qc.j J,.k aq r.qx.j C] 207)):=γ;have x:X (μ wr _):=S;clear d o S p;go_wp2;exact⟨⟨m+1,η,ξ,l,rest,c,Ps,ab.l.u x.l,ak,aa.l.u x.l,M.l.A (UB.of c x.l),aj,al,Nat.le_succ_of_le ao.l,aw⟩,by simp[d_];omega⟩
 obtain rfl:m=rs.j:=η;have d:=a6.l;rw[n_] at d;simp only[UZ,zt] at d;have HE:X (l=ws):=show l=ws by rw[←al.l,←d];simp
 clear d;go_wp2;go_ret;exact⟨_,c,Ps,rfl,by rw[←HE.l];exact ab.l,by rw[←HE.l];exact ak.l,aa.l,M.l⟩
end
section
open Go.Proofs.Tryz Go.RowKit
variable {lo:Nat}
def QR(lo:Nat)(w:U)(own:Nat->zo)(f:Nat)(R R':zw)(wd mr mx:Nat)(Q:uC)(b:Bool)(e:Ending)(w':U):Prop:=e=ε (.i b)/\∃a d c,ya lo w' a f R' wd mr mx ⟨Q.rv,Q.tbs,d,c⟩/\R'.rows.j=R.rows.j/\UB lo vz w own w' a
def S5(w:U)(own:Nat->zo)(I s:Nat)(R R':zw)(rv:O)(rs:List zv)(ps:List (O×O×O))(wd mr mx:Nat)(Q:uC)(g:Nat)(b:Bool)(h:ya lo w own I R wd mr mx Q)(hr:jv lo w rv rs ps)(F:lo<=w.o.q)(W:ef R.rows.j rs)(c:rz g wd mr mx rs R s=Z (R',b)):
  c_ e_ 122 #[(π I),rv,ι s] w λe w'=>QR lo w own I R R' wd mr mx Q b e w':=by
 unfold rz at c;rcases v:UZ g wd R s rs with _|J;rw[v] at c;cases c;rw[v] at c;have am:=U2 (KN w own I s R rv rs ps J wd mr mx Q g h hr F W v);have ah:=U2 F;have ap:=h.small;obtain⟨aq,ao,ai⟩:=zq hr.own;subst ai;have N:X (if decide (0<J.j)=true then gR wd mr mx g true J R=Z (R',b) else(R=R'/\true=b)):=by
  by_cases hz:J.j>0;rw[X,zb (by simpa using hz)];simpa [hz] using c;rw[X,za (by simpa using hz)];simpa [hz] using c
 clear h hr F W v c;go_enter func122,ntmps122;go_upto_region 4 with (first|(go_at_call 164;refine am.l.y ?_;rintro e w2 ⟨wv,af,Ps,rfl,M,V,S,ad⟩;obtain⟨al,aa,ak⟩:=zq M.arr;subst ak;have B:=U2 M;have z:=U2 V;have i:=U2 S;have f:=U2 ad;clear M V S ad))
 go_loopg [8,9] g (λk v8 v9 wr=>∃(first more:Bool) (d:zw) (a:Nat->zo) (A:O) (C:Γ) (K:List yi) (Pk:List xt),v8=.i first/\v9=.i more/\X (ya lo wr a I d wd mr mx ⟨Q.rv,Q.tbs,A,C⟩)/\X (uO lo wr a wd (.k al J.j aa) K Pk)/\X (gY Q.tbs R.rows.j K Pk)/\X (UB lo vz w own wr a)/\X (d.rows.j=R.rows.j)/\X (if more=true then gR wd mr mx k first K d=Z (R',b) else(d=R'/\true=b)))
 case atStart=>exact⟨true,decide (0<J.j),R,af,Q.fv,Q.fvs,J,Ps,rfl,rfl,i,B,z,f,rfl,N⟩
 clear B z i f N;obtain⟨first,more,d,a,A,C,K,Pk,rfl,rfl,i,B,z,f,n,N⟩:=hrel;cases more
 .have c:d=R'/\true=b:=by simpa using N.l
  have o:=U2 c;clear c;go_wp2;go_ret;exact⟨by rw[←o.l.2];rfl,a,A,C,by rw[←o.l.1];exact i.l,by rw[←o.l.1];exact n.l,f.l⟩
 have c:gR wd mr mx gk first K d=Z (R',b):=by simpa using N.l
 clear N;rcases gk with _|m;simp[gR] at c;unfold gR at c;obtain⟨hl,hf,h0,h1,h2,h3,h4,h5,h6,h7⟩:=i.l.at;have ae:=zX ah.l f.l.q;clear h0 h3 h4 h5 h7;by_cases ac:d.Q≥mx
 .rw[zb ac] at c;have o:=U2 (show d=R'/\false=b by simpa using c);have an:(mx:Int)<=(d.Q:Int):=η;clear c;go_upto_region 5 with fail
  go_quiet (fail)
  have D:μ wr (wr.drewN nq):=zG (zn _ _) nq;have E:=U2 D;clear D;generalize wr.drewN nq=w3 at *;go_wp2;go_ret;exact⟨by rw[←o.l.2];rfl,a,A,C,by rw[←o.l.1];exact i.l.u E.l,by rw[←o.l.1];exact n.l,f.l.A (UB.of a E.l)⟩
 rw[za ac] at c;have an:¬(mx:Int)<=(d.Q:Int):=η;rcases u:rm m wd mr first K d with _|x;rw[u] at c;cases c;obtain⟨p,y,b3⟩:=x;rw[u] at c;have ab:=U2 λW0 hb=>Q2 W0 a I _ d p K y Pk wd mr mx _ m first b3 (i.l.u hb) (B.l.u hb) (by rw[n.l];exact z.l) (zX ae hb.q) η u
 clear u;have H:X ((b3=false->p=R'/\false=b)/\(b3=true->(if p.count>d.count then gR wd mr mx m false y p else Z (p,true))=Z (R',b))):=⟨λe=>by subst e;simpa using c,λe=>by subst e;exact c⟩;clear c;go_upto_region 5 with fail
 go_quiet (fail)
 have D:μ wr (wr.drewN nq):=zG (zn _ _) nq;have x1:=zi D hl h1;have E:=U2 D;have ar:=yh hl D.q;clear D;generalize wr.drewN nq=w3 at *;clear h1 h2 h6 hf hl;cases b3
 .have o:=U2 (H.l.1 rfl);go_wp2_with (go_at_call 165;refine(ab.l _ E.l).y ?_;rintro e w4 ⟨rfl,j,t,l,T,r,ag,P,G,L⟩)
  go_ret;exact⟨by rw[←o.l.2];rfl,j,t,l,by rw[←o.l.1];exact r,by rw[←o.l.1];exact G.A n.l,(f.l.A (UB.of a E.l)).A L⟩
 have o:X (if decide (d.count<p.count)=true then gR wd mr mx m false y p=Z (R',b) else(p=R'/\true=b)):=by
  have q:=H.l.2 rfl;by_cases hc:p.count>d.count;rw[X,zb (by simpa using hc)];simpa [hc] using q;rw[X,za (by simpa using hc)];simpa [hc] using q
 clear H;go_wp2_with (go_at_call 165;refine(ab.l _ E.l).y ?_;rintro e w4 ⟨rfl,j,t,l,T,r,ag,P,G,L⟩;obtain⟨au,_,_,y1,_⟩:=r.at;have aj:X (ya lo w4 j I p wd mr mx ⟨Q.rv,Q.tbs,t,l⟩):=r;clear r)
 go_roundg m
 case measure=>omega
 exact⟨false,decide (d.count<p.count),p,j,t,l,y,T,rfl,ζ,aj,ag,by rw[←n.l];exact P,(f.l.A (UB.of a E.l)).A L,G.A n.l,o⟩
end
section
open Go.Proofs.Tryz Go.RowKit
variable {lo:Nat}{w0 w:U}{own0:Nat->zo}{t8 wd mr mx:Nat}{tbs:List Nat}
structure lE (lo:Nat) (w0 w:U) (own0 own:Nat->zo) (t8 g n wd mr mx:Nat) (ar:List Nat) (tbs:List Nat):Prop where
 low:w0.o.q<=t8
 lowg:w0.o.q<=g
 ne:t8≠g
 box:U3 w t8 #[.k (Z ⟨g,0,Y⟩) n n,ι 0,ι 0,ι 0,ι wd,ι mr,ι mx,ν] 214
 rows:w.r lo 162 1 (.k (Z ⟨g,0,Y⟩) n n) n (UO tbs++j_ (n-tbs.j) (.u Y))
 tries:∀i (_:i<ar.j) (_:i<tbs.j),xe lo w own (0,i,0) tbs[i] (xk wd ar[i])
 mod:UB lo vz w0 own0 w own
def CY:f_->zo->Prop:=λ_ _=>False
def lE.step{w':U}{own own':Nat->zo}{g n:Nat}{c:Φ}(h:lE lo w0 w own0 own t8 g n wd mr mx c tbs)(m:UB lo CY w own w' own'):lE lo w0 w' own0 own' t8 g n wd mr mx c tbs:=
 ⟨h.low,h.lowg,h.ne,h.box.mod m id,qs h.rows m (λ_=>id),λi a b=>(h.tries i a b).mod m (λ_ _=>id),h.mod.A (m.more λ_ _ q=>q.elim)⟩
def lE.push{w':U}{own:Nat->zo}{g n tb:Nat}{d fp:Φ}(h:lE lo w0 w own0 own t8 g n wd mr mx d tbs)(l:lo<=w.o.q)(y:tbs.j<n)(r:yc w.o.q w' tb (xk wd (d.d tbs.j 0)) fp)(j:μ w w'):
  lE lo w0 (w'.x (ω g tbs.j) ((π tb))) own0 (ext own w.o.q (0,tbs.j,0)) t8 g n wd mr mx d (tbs++[tb]):=by
 have v:=UB.extNew (lo:=lo) (ok:=CY) own (0,tbs.j,0) j;have c:=h.step v;have f:zc [g] w' (w'.x (ω g tbs.j) ((π tb))):=zc.set _ _ _ _;obtain⟨x,m⟩:=kx c.rows rfl;have o:=UP.box m;refine⟨h.low,h.lowg,h.ne,c.box.saveT f o θ,?_,λi a b=>?_,c.mod.newer f λb j=>by simp at j;rw[j];exact h.lowg⟩;have q:=um c.rows tbs.j (by simp[UO];omega) ((π tb));have e:(UO tbs++j_ (n-tbs.j) (O.pointer Y)).set tbs.j ((π tb))=UO (tbs++[tb])++j_ (n-(tbs++[tb]).j) (O.pointer Y):=by
  obtain⟨k,s⟩:∃k,n-tbs.j=k+1:=⟨n-tbs.j-1,η⟩;rw[o_,za (by simp[UO]),s,p8];have u:n-(tbs++[tb]).j=k:=by simp;omega
  rw[u];simp[UO,pt]
 rw[e] at q;exact q;simp only[yB,xp,jD] at b;by_cases p:i<tbs.j;rw[uI p];exact(c.tries i a p).saveT f o θ;obtain rfl:i=tbs.j:=η;have t:(tbs++[tb])[tbs.j]=tb:=ζ;rw[t];have q:=r.new own (0,tbs.j,0) l;rw[show d.d tbs.j 0=d[tbs.j] by simp[i_,a]] at q;exact q.saveT f o θ
def lE.done{own:Nat->zo}{g:Nat}{c:Φ}(h:lE lo w0 w own0 own t8 g c.j wd mr mx c tbs)(e:lo<=w0.o.q)(d:tbs.j=c.j)(hs:c.j<=1000)(f:wd<=1000/\mr<=1048576/\mx<=1048576):ya lo w own t8 ⟨c.map (xk wd),0,0,0,[]⟩ wd mr mx ⟨.k (Z (δ g)) c.j c.j,tbs,ν,[]⟩:=by
 refine⟨zX e h.low,h.box,?_,by simp[d],λp a b=>?_,xj _ _ _ _,rfl,λp a=>by simp at a,⟨by simpa using hs,ζ,ζ,ζ⟩,f⟩;have q:=h.rows;rw[d,vF] at q;simpa using q;simp only[xv] at a;simp only[xM];exact h.tries p a b
def Lk(lo:Nat)(w:U)(own:Nat->zo)(wd mr mx:Nat)(b:Option zw)(e:Ending)(w':U):Prop:=match b with
 |none=>e=ε (.B #[.agg #[ν,ι 0,ι 0,ι 0],.i false])/\∃a,UB lo vz w own w' a
 |some R=>∃a c Q,e=ε (.B #[.agg #[Q.rv,ι R.count,ι R.Q,ι R.jg],.i true])/\ya lo w' a c R wd mr mx Q/\UB lo vz w own w' a
def gL:Nat->zo:=λ_=>(0,0,7)
def WB(w:U)(S:j8)(ps:List (O×O×O))(av fv rv:O)(mr mx G:Nat)(aa:Option zw)(h:ff lo w av fv rv S ps)(aU:lo<=w.o.q)(aO:ef S.N.j S.H)(bN:S.N.j<=1000)(a5:∀a∈S.N,a<=100000000)(M:∀f∈S.facts,f.row.j=3)(bS:S.facts.j<=1000000)(ba:S.r<=1000/\mr<=1048576/\mx<=1048576)(hr:nY G S mr mx=Z aa):
  c_ e_ 74 #[.agg #[ι S.r,av,fv,rv],ι mr,ι mx] w λe w'=>Lk lo w gL S.r mr mx aa e w':=by
 obtain⟨i0,hi,bD,b9,bK⟩:=info_parts Ui;have HS:=U2 h;have ag:=U2 aU;have bz:=U2 aO;have bC:=U2 a5;have b6:=U2 M;have HR:=U2 hr;obtain⟨B,d,bE⟩:=zq h.ari;obtain⟨H,j,b5⟩:=zq h.fac;obtain⟨C,k,b4⟩:=zq h.rul.own;subst bE b5 b4;have bT:=h.rul.M;have bs:=λW0:U=>run_make (P:=e_) (w:=W0) 150 162 i0 _ underlying150 hi bD .i64 .i64 (S.N.j:Int) (S.N.j:Int) η (q_ _) (by rw[bK];omega) η;rw[b9] at bs;clear h aU aO a5 M hr;go_enter func74,ntmps74;go_upto_region 4 with fail
 have bb:μ w ((((w.C (.E #[ι S.r,.k B S.N.j d,.k H S.facts.j j,.k C S.H.j k] 146)).C (.E #[ν,ι 0,ι 0,ι 0] 152)).C (.E #[.k (Z ⟨w.o.q+1+1+1,0,Y⟩) S.N.j S.N.j,ι 0,ι 0,ι 0,ι S.r,ι mr,ι mx,ν] 214)).C (.E (madeCells #[.u Y] S.N.j) 162)):=γ;have aM:=(((U3.new w #[ι S.r,.k B S.N.j d,.k H S.facts.j j,.k C S.H.j k] 146).up (.E #[ν,ι 0,ι 0,ι 0] 152)).up (.E #[.k (Z ⟨w.o.q+1+1+1,0,Y⟩) S.N.j S.N.j,ι 0,ι 0,ι 0,ι S.r,ι mr,ι mx,ν] 214)).up (.E (madeCells #[.u Y] S.N.j) 162);have br:=(((U3.new (w.C (.E #[ι S.r,.k B S.N.j d,.k H S.facts.j j,.k C S.H.j k] 146)) #[ν,ι 0,ι 0,ι 0] 152).up (.E #[.k (Z ⟨w.o.q+1+1+1,0,Y⟩) S.N.j S.N.j,ι 0,ι 0,ι 0,ι S.r,ι mr,ι mx,ν] 214)).up (.E (madeCells #[.u Y] S.N.j) 162)).at' (b':=w.o.q+1) ζ;have bc:=((U3.new ((w.C (.E #[ι S.r,.k B S.N.j d,.k H S.facts.j j,.k C S.H.j k] 146)).C (.E #[ν,ι 0,ι 0,ι 0] 152)) #[.k (Z ⟨w.o.q+1+1+1,0,Y⟩) S.N.j S.N.j,ι 0,ι 0,ι 0,ι S.r,ι mr,ι mx,ν] 214).up (.E (madeCells #[.u Y] S.N.j) 162)).at' (b':=w.o.q+1+1) ζ;have af:=sq (((w.C (.E #[ι S.r,.k B S.N.j d,.k H S.facts.j j,.k C S.H.j k] 146)).C (.E #[ν,ι 0,ι 0,ι 0] 152)).C (.E #[.k (Z ⟨w.o.q+1+1+1,0,Y⟩) S.N.j S.N.j,ι 0,ι 0,ι 0,ι S.r,ι mr,ι mx,ν] 214)) S.N.j 162 (.u Y) b_;have aW:(((w.C (.E #[ι S.r,.k B S.N.j d,.k H S.facts.j j,.k C S.H.j k] 146)).C (.E #[ν,ι 0,ι 0,ι 0] 152)).C (.E #[.k (Z ⟨w.o.q+1+1+1,0,Y⟩) S.N.j S.N.j,ι 0,ι 0,ι 0,ι S.r,ι mr,ι mx,ν] 214)).o.q=w.o.q+1+1+1:=ζ;rw[aW] at af;have a1:X (lE lo w ((((w.C (.E #[ι S.r,.k B S.N.j d,.k H S.facts.j j,.k C S.H.j k] 146)).C (.E #[ν,ι 0,ι 0,ι 0] 152)).C (.E #[.k (Z ⟨w.o.q+1+1+1,0,Y⟩) S.N.j S.N.j,ι 0,ι 0,ι 0,ι S.r,ι mr,ι mx,ν] 214)).C (.E (madeCells #[.u Y] S.N.j) 162)) gL gL (w.o.q+1+1) (w.o.q+1+1+1) S.N.j S.r mr mx S.N []):=⟨η,η,η,bc,yq af (by have:=ag.l;omega),(λi a b=>by simp at b),UB.of gL bb⟩;have s:=U2 aM;have u:=U2 br;clear bb aM br bc af aW bs;generalize ((((w.C (.E #[ι S.r,.k B S.N.j d,.k H S.facts.j j,.k C S.H.j k] 146)).C (.E #[ν,ι 0,ι 0,ι 0] 152)).C (.E #[.k (Z ⟨w.o.q+1+1+1,0,Y⟩) S.N.j S.N.j,ι 0,ι 0,ι 0,ι S.r,ι mr,ι mx,ν] 214)).C (.E (madeCells #[.u Y] S.N.j) 162))=w1 at *;generalize hg:w.o.q+1+1+1=g at *;generalize h8:w.o.q+1+1=t8 at *;generalize h6:w.o.q+1=t6 at *;have bL:t6≠t8:=η;have bP:w.o.q<t6:=η;have bW:t8<g:=η;have bV:t6<g:=η;clear hg h8 h6;go_loopw [28] (λbI wr=>∃m:Nat,m<=S.N.j/\bI=ι m/\∃l tbs,X (lE lo w wr gL l t8 g S.N.j S.r mr mx S.N tbs)/\X (tbs.j=m)/\X (U3 wr w.o.q #[ι S.r,.k B S.N.j d,.k H S.facts.j j,.k C S.H.j k] 146)/\X (U3 wr t6 #[ν,ι 0,ι 0,ι 0] 152)) (λi _=>S.N.j-(d_ i).D);exact⟨0,zs _,rfl,gL,[],a1,rfl,s,u⟩;clear a1 s u;obtain⟨m,hm,rfl,l,tbs,W,aG,s,u⟩:=hrel;have J:=W.l.mod.q;have F:=zX ag.l J;by_cases N:m<S.N.j
 .have aC:wr.r lo 3 1 (.k B S.N.j d) S.N.j (S.N.map Vg):=tC HS.l.ari W.l.mod (λb _ q=>by
   rcases q with q|q;exact q.2 rfl;revert q;decide)
  obtain⟨ga,bF,ac,_,bU,aR⟩:=yt aC η;simp only[h_] at ac;have aF:=ac.1;clear ac;subst aF;have q0:=aR m (ι (S.N[m]:Nat)) (by simp[N,Vg]);have b7:S.N[m]<=100000000:=bC.l _ (zr _);obtain⟨aZ,aN,bk⟩:=W.l.box.I;obtain⟨R,M,ae⟩:=s.l.I;have a8:(m:Int)<(S.N.j:Int):=η;have HN:X (∀W0,μ wr W0->c_ e_ 119 #[ι S.r,ι (S.N[m]:Nat)] W0 λe w'=>∃tb,e=ε ((π tb))/\w'.p ⟨t8,0,Y⟩=Z (.k (Z ⟨g,0,Y⟩) S.N.j S.N.j)/\w'.p ⟨w.o.q,0,Y⟩=Z (ι S.r)/\w'.p ⟨g,m,Y⟩=Z (.u Y)/\(∀o,w'.frozen? ⟨g,o,Y⟩=false)/\g<w'.o.q/\X (μ wr w'/\∃an,lE lo w (w'.x ⟨g,m,Y⟩ ((π tb))) gL an t8 g S.N.j S.r mr mx S.N (tbs++[tb]))):=λW0 hb=>by
   refine(AQ W0 S.r S.N[m] ba.1 b7).y ?_;rintro e w' ⟨tb,fp,rfl,ht,bg⟩;have hB:=U6 hb bg;have h0:=W.l.step (UB.of l hb);have h1:=W.l.step (UB.of l hB);have aD:=aG.l;have hp:=h0.push (tb:=tb) (fp:=fp) (zX F hb.q) η (by rw[aD,show S.N.d m 0=S.N[m] by simp[i_,N]];exact ht) bg;rw[aD] at hp;refine⟨tb,rfl,h1.box.H.1 0,(hB.cell ae).A (R 0),?_,uv h1.rows,yb h1.rows rfl,hB,_,hp⟩;obtain⟨g',bO,bv,_,_,bJ⟩:=yt h1.rows η;simp only[h_,zt,m_,and_true] at bv;have e:=bv.1;subst e;refine bJ m _ ?_;rw[gJ (by simp[UO,aD]),List.getElem?_replicate,zb (by simp only[UO,xv];omega)]
  have x8:wr.p ⟨t8,0,Y⟩=Z (.k (Z ⟨g,0,Y⟩) S.N.j S.N.j):=aZ 0;have x3:wr.p ⟨w.o.q,0,Y⟩=Z (ι S.r):=R 0;clear aZ R aR aC;generalize S.N[m]=am at *;go_upto_region 6 with fail
  go_region_held3 (λw'=>w'.p ⟨t8,0,Y⟩=Z (.k (Z ⟨g,0,Y⟩) S.N.j S.N.j)/\w'.p ⟨w.o.q,0,Y⟩=Z (ι S.r)) (first|go_keep|(go_simp;done)) (first|(go_at_call 119;refine(HN.l _ (by exact(zG (zn _ _) 1))).y ?_;rintro e w2 ⟨tb,rfl,y8,y3,yg,yf,yl,HX⟩))
  have aI:=HX.l.1;obtain⟨an,bf⟩:=HX.l.2;have bH:=U2 bf;have bn:X (U3 (w2.x ⟨g,m,Y⟩ ((π tb))) w.o.q _ 146):=(s.l.u aI).set_ne η _ _;have aY:X (U3 (w2.x ⟨g,m,Y⟩ ((π tb))) t6 _ 152):=(u.l.u aI).set_ne η _ _;clear aI bf HX y8 y3 yg yf yl HN x8 x3 aN bk M ae q0;generalize w2.x ⟨g,m,Y⟩ ((π tb))=W3 at *;go_wp2;exact⟨⟨m+1,η,ξ,an,tbs++[tb],bH,show(tbs++[tb]).j=m+1 by simp[aG.l],bn,aY⟩,by simp[d_];omega⟩
 obtain rfl:m=S.N.j:=η;have aB:=U2 (W.l.done ag.l aG.l bN ba);have aA:=U2 W.l.mod;have aX:=U2 (VN wr l t8 _ S.r mr mx _ aB.l F);clear W N hm;go_upto_region 9 with (first|(go_at_call 120;refine aX.l.y ?_;rintro e w2 ⟨rfl,aQ,a3,bh,ax⟩))
 have ap:=U2 (s.l.mod ax (gK θ _));have a9:X (U3 w2 t6 _ 152):=u.l.mod ax (gK θ _);have a7:X (ya lo w2 l t8 (hY S) S.r mr mx ⟨.k (Z ⟨g,0,Y⟩) S.N.j S.N.j,tbs,aQ,a3⟩):=bh;have a6:=U2 (aA.l.A (ax.more λ_ _ q=>Ct q));clear s u aB aA aX bh ax J F;obtain⟨R1,b1,hF,hE⟩:∃R1 b1,gN mr S.facts (hY S)=Z (R1,b1)/\(b1=false/\aa=Y∨b1=true/\∃R2 b2,gh G S.r mr mx S.H S.N.j 0 R1=Z (R2,b2)/\aa=if b2 then Z R2 else Y):=by
  have hr:=HR.l;unfold nY at hr;split at hr;cases hr;rename_i R1 hA;simp at hr;exact⟨R1,false,hA,zh ⟨rfl,hr.z⟩⟩;rename_i R1 hA;rw[qG] at hr;obtain⟨⟨R2,b2⟩,h1,h2⟩:=hr;exact⟨R1,true,hA,zg ⟨rfl,R2,b2,h1,h2.z⟩⟩
 have HE:=U2 hE;have bt:X (gN mr (S.facts.drop 0) (hY S)=Z (R1,b1)):=hF;clear hE hF;obtain⟨R,M,ae⟩:=ap.l.I;go_upto_region 10 with fail
 clear R M ae;generalize b8:w2=w5 at *;clear b8;have aP:=U2 (show(hY S).rows.j=S.N.j by simp[hY,qZ]);go_loopw [47] (λb0 wr=>∃m:Nat,m<=S.facts.j/\b0=ι m/\∃Rk l ai aq,X (ya lo wr l t8 Rk S.r mr mx ⟨.k (Z ⟨g,0,Y⟩) S.N.j S.N.j,tbs,ai,aq⟩)/\X (UB lo vz w gL wr l)/\X (Rk.rows.j=S.N.j)/\X (U3 wr w.o.q #[ι S.r,.k B S.N.j d,.k H S.facts.j j,.k C S.H.j k] 146)/\X (U3 wr t6 #[ν,ι 0,ι 0,ι 0] 152)/\X (gN mr (S.facts.drop m) Rk=Z (R1,b1))) (λi _=>S.facts.j-(d_ i).D);exact⟨0,zs _,rfl,hY S,l,aQ,a3,a7,a6,aP,ap,a9,bt⟩;clear a7 a6 aP ap a9 bt;obtain⟨m,hm,rfl,Rk,T,ai,aq,ad,L,ah,s,u,aE⟩:=hrel;have J:=L.l.q;have F:=zX ag.l J;by_cases N:m<S.facts.j
 .have a2:=qs HS.l.fac L.l (mT θ θ);obtain⟨gf,bw,ac,_,bR,ao⟩:=yt a2 η;simp only[h_] at ac;have aF:=ac.1;clear ac;subst aF;obtain⟨k0,k1,k2,k3⟩:=DM S.facts m N;have q0:=ao _ _ k0;have q1:=ao _ _ k1;have q2:=ao _ _ k2;have q3:=ao _ _ k3;have n:=aE.l;rw[yK N] at n;unfold gN at n;have h3:=b6.l _ (zr N);obtain⟨x,y,z,az⟩:∃x y z,S.facts[m].row=[x,y,z]:=by
   match af:S.facts[m].row,h3 with
   |[x,y,z],_=>exact⟨x,y,z,rfl⟩
  rw[az] at q1 q2 q3 n;simp only[u_,v_] at q1 q2 q3;have a8:(m:Int)<(S.facts.j:Int):=η;clear h3 k0 k1 k2 k3 ao a2 az;generalize S.facts[m].o=p at *;rcases ha:kq mr Rk p [x,y,z] with _|ar;rw[ha] at n;cases n;obtain⟨R3,b3⟩:=ar;rw[ha] at n;have bM:=U2 ((oH ha).A ah.l);have aS:=U2 λW0 hb=>E9 W0 T t8 Rk R3 S.r mr mx _ p x y z b3 (ad.l.u hb) (zX F hb.q) ha;have bq:μ wr (wr.C (.E #[ι p,ι x,ι y,ι z] 210)):=γ;have aL:=U2 bq;have au:X (∀Q c,UB lo (m6 p) (wr.C (.E #[ι p,ι x,ι y,ι z] 210)) T Q c->UB lo vz w gL Q c/\U3 Q w.o.q #[ι S.r,.k B S.N.j d,.k (Z ⟨gf,0,Y⟩) S.facts.j j,.k C S.H.j k] 146/\U3 Q t6 #[ν,ι 0,ι 0,ι 0] 152):=λQ c D=>by
   have aJ:UB lo (kY p) wr T Q c:=(UB.of T aL.l).A (D.more λ_ _ q=>zh q);exact⟨L.l.A (aJ.more λ_ _ q=>o7 q),s.l.mod aJ (pc θ θ _),u.l.mod aJ (pc θ θ _)⟩
  clear ha bq;cases b3
  .simp only[zt,yk] at n;have HQ:=U2 n.2;clear n;go_wp2_with (go_at_call 121;refine(aS.l _ aL.l).y ?_;rintro e Q ⟨rfl,c,ab,V,D⟩;obtain⟨I,_,K⟩:=au.l _ _ D;obtain⟨al,aT,aK⟩:=K.I)
   have A:aa=none:=by
    have hE:=HE.l;rw[←HQ.l] at hE;rcases hE with⟨_,hE⟩|⟨hx,_⟩
    exact hE;cases hx
   have aw:X (UB lo vz w gL _ c):=I.newer (zc.sets t6 [ν,ι 0,ι 0,ι 0] 0 Q) (λb hb=>by simp at hb;omega);refine zP (v:=.B #[.agg #[ν,ι 0,ι 0,ι 0],.i false]) (by simp[results,results74,go_sem,al]) rfl ?_;rw[A];exact⟨rfl,c,aw.l⟩
  have HQ:X (gN mr (S.facts.drop (m+1)) R3=Z (R1,b1)):=n;clear n;go_wp2_with (go_at_call 121;refine(aS.l _ aL.l).y ?_;rintro e Q ⟨rfl,c,ab,V,D⟩)
  obtain⟨I,aj,K⟩:=au.l _ _ D;exact⟨⟨m+1,η,ξ,R3,c,ai,ab,V,I,bM,aj,K,HQ⟩,by simp[d_];omega⟩
 obtain rfl:m=S.facts.j:=η;have n:=aE.l;rw[n_] at n;simp only[gN,zt,yk] at n;obtain⟨R2,b2,be,A⟩:∃R2 b2,gh G S.r mr mx S.H S.N.j 0 Rk=Z (R2,b2)/\aa=if b2 then Z R2 else none:=by
  have hE:=HE.l;rw[←n.2,←n.1] at hE;rcases hE with⟨hx,_⟩|⟨_,hE⟩
  cases hx;exact hE
 have a0:X (gh G S.r mr mx S.H (S.N.j-0) 0 Rk=Z (R2,b2)):=be;have ak:=U2 A;clear n be A aE HE N hm J F;obtain⟨R,M,ae⟩:=s.l.I;go_upto_region 16 with fail
 clear R M ae;generalize bG:wr=w6 at *;clear bG;go_loopw [62] (λbx wr=>∃m:Nat,m<=S.N.j/\bx=ι m/\∃Rk l ai aq,X (ya lo wr l t8 Rk S.r mr mx ⟨.k (Z ⟨g,0,Y⟩) S.N.j S.N.j,tbs,ai,aq⟩)/\X (UB lo vz w gL wr l)/\X (Rk.rows.j=S.N.j)/\X (U3 wr w.o.q #[ι S.r,.k B S.N.j d,.k H S.facts.j j,.k C S.H.j k] 146)/\X (U3 wr t6 #[ν,ι 0,ι 0,ι 0] 152)/\X (gh G S.r mr mx S.H (S.N.j-m) m Rk=Z (R2,b2))) (λi _=>S.N.j-(d_ i).D);exact⟨0,zs _,rfl,Rk,T,ai,aq,ad,L,ah,s,u,a0⟩;clear ad L ah s u a0;obtain⟨m,hm,rfl,Ri,E,bp,bm,ad,L,ah,s,u,bo⟩:=hrel;have J:=L.l.q;have F:=zX ag.l J;by_cases N:m<S.N.j
 .have r:=bo.l;rw[show S.N.j-m=(S.N.j-(m+1))+1 from by omega] at r;unfold gh at r;rcases ay:rz G S.r mr mx S.H Ri m with _|ar;rw[ay] at r;cases r;obtain⟨R3,b3⟩:=ar;rw[ay] at r;have bu:=HS.l.rul.mod L.l (mT θ θ) (mT θ θ) (mT θ θ);have bi:=U2 (S5 wr E t8 m Ri R3 _ S.H ps S.r mr mx _ G b3 ad.l bu F (by rw[ah.l];exact bz.l) ay);have au:X (∀Q c,UB lo vz wr E Q c->UB lo vz w gL Q c/\U3 Q w.o.q #[ι S.r,.k B S.N.j d,.k H S.facts.j j,.k C S.H.j k] 146/\U3 Q t6 #[ν,ι 0,ι 0,ι 0] 152):=λQ c D=>⟨L.l.A D,s.l.mod D (mT θ θ _),u.l.mod D (mT θ θ _)⟩;obtain⟨R,M,ae⟩:=s.l.I;have a8:(m:Int)<(S.N.j:Int):=η;clear ay bu;cases b3
  .simp only[zt,yk] at r;have HQ:=U2 r.2;clear r;go_wp2_with (go_at_call 122;refine bi.l.y ?_;rintro e Q ⟨rfl,c,aV,ab,V,a4,D⟩;obtain⟨I,_,K⟩:=au.l _ _ D;obtain⟨al,aT,aK⟩:=K.I)
   have A:aa=none:=by rw[ak.l,←HQ.l];rfl
   have aw:X (UB lo vz w gL _ c):=I.newer (zc.sets t6 [ν,ι 0,ι 0,ι 0] 0 Q) (λb hb=>by simp at hb;omega);refine zP (v:=.B #[.agg #[ν,ι 0,ι 0,ι 0],.i false]) (by simp[results,results74,go_sem,al]) rfl ?_;rw[A];exact⟨rfl,c,aw.l⟩
  have HQ:X (gh G S.r mr mx S.H (S.N.j-(m+1)) (m+1) R3=Z (R2,b2)):=r;clear r;go_wp2_with (go_at_call 122;refine bi.l.y ?_;rintro e Q ⟨rfl,c,aV,ab,V,a4,D⟩)
  obtain⟨I,aj,K⟩:=au.l _ _ D;exact⟨⟨m+1,η,ξ,R3,c,aV,ab,V,I,a4.A ah.l,aj,K,HQ⟩,by simp[d_];omega⟩
 obtain rfl:m=S.N.j:=η;have r:=bo.l;rw[vF] at r;simp only[gh,zt,yk] at r;have A:aa=Z Ri:=by rw[ak.l,←r.2,←r.1];rfl
 have bA:=U2 A;clear r A ak;obtain⟨bk,aN,d0,d1,d2,d3,d4,d5,d6,d7⟩:=ad.l.at;obtain⟨al,aT,aK⟩:=u.l.I;dsimp only at d0;clear d4 d5 d6 d7;have bQ:t8≠t6:=λe=>bL e.z;go_wp2;have aH:=zc.sets t6 [.k (Z ⟨g,0,Y⟩) S.N.j S.N.j,ι Ri.count,ι Ri.Q,ι Ri.jg] 0 wr;have bd:UB lo (dF [152]) wr E _ E:=UB.ofSave E aH (λb hb=>by
  simp at hb;subst hb;exact⟨by have:=ag.l;omega,aK,_,_,u.l,xo.2 rfl⟩)
 have bB:X (ya lo _ E t8 Ri S.r mr mx ⟨.k (Z ⟨g,0,Y⟩) S.N.j S.N.j,tbs,bp,bm⟩):=ad.l.mod bd (gK θ) (gK θ) (gK θ) (λ_=>gK θ _) (λ_ t ht q=>by rw[xo.1 q] at ht;exact ht θ);have aw:X (UB lo vz w gL _ E):=L.l.newer aH (λb hb=>by simp at hb;omega);clear aH bd;refine zP (v:=.B #[.agg #[.k (Z ⟨g,0,Y⟩) S.N.j S.N.j,ι Ri.count,ι Ri.Q,ι Ri.jg],.i true]) (by simp[results,results74,go_sem,al]) rfl ?_;rw[bA.l];exact⟨E,t8,⟨.k (Z ⟨g,0,Y⟩) S.N.j S.N.j,tbs,bp,bm⟩,rfl,bB.l,aw.l⟩
end
section
open Go.Proofs.Tryz Go.RowKit
variable {lo:Nat}
def zY(ns:κ)(row:zl)(a m:Nat):κ:=(w_ a).map λi=>if i<m then ns.d (row.d i 0) g_ else g_
def gM(ns:List Λ)(row:zl)(a m:Nat):(zY ns row a m).j=a:=by simp[zY]
def N5(ns:List Λ)(row:zl)(a:Nat):zY ns row a 0=j_ a g_:=by
 apply qR;simp[zY];intro i b c;simp[zY]
def QV(ns:List Λ)(row:zl)(a m:Nat):(zY ns row a m).set m (ns.d (row.d m 0) g_)=zY ns row a (m+1):=by
 apply qR;simp[zY];intro i c d;simp only[fG];by_cases e:m=i;subst e;simp[zY];rw[za e];simp only[zY,xM,fT];by_cases b:i<m;rw[zb b,zb η];rw[za b,za η]
def Si(ns:List Λ)(row:zl)(a m:Nat)(h:a<=m):zY ns row a (m+1)=zY ns row a m:=by
 apply qR;simp[zY];intro i b c;rw[gM] at b;simp only[zY,xM,fT];rw[zb η,zb η]
attribute [local go_sem] TU Ub Uj
def Lh(w:U)(I a x y z:Nat)(ns:List Λ)(h:WE lo w I 1 ns)(V:a<=1000):
  c_ e_ 79 #[(π I),.agg #[ι x,ι y,ι z],ι a] w λe H=>∃g,w.o.q<=g/\e=ε (.k (Z (δ g)) a a)/\U7 w.o.q H (.k (Z (δ g)) a a) (zY ns [x,y,z] a 3)/\μ w H:=by
 have HC:=U2 h;have B:=h.1;obtain⟨W,hi,A,E,F⟩:=info_parts Uw;have o:=λM:U=>run_make (P:=e_) (w:=M) 30 9 W _ underlying30 hi A .i64 .i64 (a:Int) (a:Int) η (q_ _) (by rw[F];omega) η;rw[E] at o;clear h;go_enter func79,ntmps79;go_upto_region 3 with fail
 have p:μ w ((w.C (.E #[ι x,ι y,ι z] 165)).C (.E (madeCells #[.g g_] a) 9)):=γ;have d:=sq (w.C (.E #[ι x,ι y,ι z] 165)) a 9 (.g g_) b_;have l:(w.C (.E #[ι x,ι y,ι z] 165)).o.q=w.o.q+1:=ζ;rw[l] at d;have t:X (l_ ((w.C (.E #[ι x,ι y,ι z] 165)).C (.E (madeCells #[.g g_] a) 9)) w.o.q 9 1 (.k (Z (δ (w.o.q+1))) a a) a ((zY ns [x,y,z] a 0).map k_)):=by
  rw[X,N5,List.map_replicate];exact yq d η
 clear d l o;generalize ((w.C (.E #[ι x,ι y,ι z] 165)).C (.E (madeCells #[.g g_] a) 9))=w1 at *;generalize R:w.o.q+1=g at *;have aa:w.o.q<g:=η;clear R;go_loopw [13] (λG wr=>∃m:Nat,m<=3/\G=ι m/\μ w wr/\X (wr.r w.o.q 9 1 (.k (Z (δ g)) a a) a ((zY ns [x,y,z] a m).map k_))) (λi _=>3-(d_ i).D);exact⟨0,η,rfl,p,t⟩;clear t p;obtain⟨m,hm,rfl,c,j⟩:=hrel;have S:g<wr.o.q:=yb j.l rfl;have ab:=uv j.l;have L:=yh B c.q;by_cases T:m<3
 .have Q:=U2 λv=>Mu wr I 1 ns v (HC.l.u c);by_cases ha:m<a
  .obtain⟨K,N⟩:∃K,wr.p (ω g m)=Z K:=by
    obtain⟨g',J,r,_,_,s⟩:=yt j.l η;simp only[h_,zt,m_,and_true] at r;have e:=r.1;subst e;exact⟨_,s m _ (yn (by simp[zY];omega))⟩
   have f:=um j.l m (by simp[zY];omega) (.g (ns.d ([x,y,z].d m 0) g_));rw[←dY,QV] at f;have D:(m:Int)<(a:Int):=η;have n:μ w (wr.x (ω g m) (.g (ns.d ([x,y,z].d m 0) g_))):=c.x υ _;have b:X (_/\_):=And.intro f n;clear f n;have u:m=0∨m=1∨m=2:=η;rcases u with rfl|rfl|rfl
   all_goals (
    go_wp2_with (go_at_call 128;refine(Q.l _).y ?_;rintro e H ⟨rfl,C⟩;obtain rfl:=C.z))
   exact⟨⟨1,η,rfl,by simpa [i_] using b.l.2,by have q:=b.l.1;simpa [X,i_] using q⟩,by simp[d_]⟩;exact⟨⟨2,η,rfl,by simpa [i_] using b.l.2,by have q:=b.l.1;simpa [X,i_] using q⟩,by simp[d_]⟩;exact⟨⟨3,η,rfl,by simpa [i_] using b.l.2,by have q:=b.l.1;simpa [X,i_] using q⟩,by simp[d_]⟩
  have k:X (wr.r w.o.q 9 1 (.k (Z (δ g)) a a) a ((zY ns [x,y,z] a (m+1)).map k_)):=by
   rw[Si ns [x,y,z] a m η];exact j
  have D:¬(m:Int)<(a:Int):=η;have u:m=0∨m=1∨m=2:=η;clear j;rcases u with rfl|rfl|rfl
  all_goals go_wp2
  exact⟨⟨1,η,rfl,c,k⟩,by simp[d_]⟩;exact⟨⟨2,η,rfl,c,k⟩,by simp[d_]⟩;exact⟨⟨3,η,rfl,c,k⟩,by simp[d_]⟩
 obtain rfl:m=3:=η;go_wp2;go_ret;have q:=j.l;exact⟨g,η,rfl,by unfold U7;rw[gM];exact q,c⟩
def uV(ns:κ):κ->Nat->zl->Option zl
 |[],_,r=>Z r
 |t::a,i,r=>match xr ns t with
  |none=>Y
  |some v=>if i≥3 then Y else uV ns a (i+1) (r.set i v)
def Ax:Option zl->O
 |none=>.B #[.agg #[ι 0,ι 0,ι 0],.i false]
 |some r=>.B #[.agg #[ι (r.d 0 0:Nat),ι (r.d 1 0:Nat),ι (r.d 2 0:Nat)],.i true]
def Nr{S:Nat}(w:U)(K:Nat)(ns ts:List Λ)(tv:O)(h:WE lo w K 1 ns)(hn:ns.j<=1000)(M:U7 S w tv ts)(hl:ts.j<=2000000):
  c_ e_ 82 #[(π K),tv] w λe J=>e=ε (Ax (uV ns ts 0 [0,0,0]))/\μ w J:=by
 have HC:=U2 h;have HT:=U2 M;obtain⟨ao,ah,rfl⟩:=M.qm;have Q:=h.1;have HV:X (∀W x,μ w W->c_ e_ 129 #[.u (Z (ω K 1)),.g x] W λe J=>e=ε (.B #[ι (((xr ns x).d 0:Nat):Int),.i (xr ns x).I])/\μ W J):=λW x hb=>(SL W K 1 ns x (HC.l.u hb) hn).y (by
  rintro e J ⟨rfl,m,rfl⟩;exact⟨rfl,zG (zn _ _) m⟩)
 obtain⟨f,s⟩:∃f,f=uV ns ts 0 [0,0,0]:=⟨_,rfl⟩;rw[←s];have E:X (uV ns (ts.drop 0) 0 [0,0,0]=f):=s.z;clear h M s;go_enter func82,ntmps82;go_upto_region 3 with fail
 have H:μ w ((w.C (.E #[ι 0,ι 0,ι 0] 165)).C (.E #[ι 0,ι 0,ι 0] 165)):=γ;have G:=(U3.new w #[ι 0,ι 0,ι 0] 165).up (.E #[ι 0,ι 0,ι 0] 165);have B:=(U3.new (w.C (.E #[ι 0,ι 0,ι 0] 165)) #[ι 0,ι 0,ι 0] 165).at' (b':=w.o.q+1) ζ;have l:X (U3 _ w.o.q #[ι 0,ι 0,ι 0] 165):=G;have z:X (U3 _ (w.o.q+1) #[ι ((0:Nat):Int),ι ((0:Nat):Int),ι ((0:Nat):Int)] 165):=B;clear G B;generalize (w.C (.E #[ι 0,ι 0,ι 0] 165)).C (.E #[ι 0,ι 0,ι 0] 165)=w1 at *;generalize hg:w.o.q+1=t6 at *;have af:w.o.q<t6:=η;clear hg;go_loopw [13] (λab wr=>∃m:Nat,m<=ts.j/\ab=ι m/\∃a b c:Nat,μ w wr/\X (U3 wr w.o.q #[ι 0,ι 0,ι 0] 165)/\X (U3 wr t6 #[ι (a:Nat),ι (b:Nat),ι (c:Nat)] 165)/\X (uV ns (ts.drop m) m [a,b,c]=f)) (λi _=>ts.j-(d_ i).D);exact⟨0,η,rfl,0,0,0,H,l,z,E⟩;clear l z E H;obtain⟨m,hm,rfl,a,b,c,n,l,z,P⟩:=hrel;have ad:=yh Q n.q;by_cases C:m<ts.j
 .obtain⟨g,N,hg,V⟩:=(HT.l.u n).cell m C;subst N;have o:=P.l;rw[yK C] at o;unfold uV at o;have ag:(m:Int)<(ts.j:Int):=η;generalize ts[m]=x at *;have j:=HV.l wr x n;rcases L:xr ns x with _|v
  .rw[L] at o j;simp only[kV,kX] at j;have F:X (f=Y):=o.z;clear o L;go_wp2_with (go_at_call 129;refine j.y ?_;rintro e w4 ⟨rfl,d⟩;have t:=l.l.u d;obtain⟨p,I,D⟩:=t.I;have k:=U6 n d)
   refine zP (v:=.B #[.agg #[ι 0,ι 0,ι 0],.i false]) (by simp[results,results82,go_sem,p]) rfl ?_;rw[F.l];exact⟨rfl,((k.x ζ _).x ζ _).x ζ _⟩
  rw[L] at o j;simp only[uF,jH] at j;clear L;by_cases h3:m≥3
  .have F:=U2 (show f=Y by simpa [h3] using o.z);have ae:(3:Int)<=(m:Int):=η;clear o;go_wp2_with (go_at_call 129;refine j.y ?_;rintro e w4 ⟨rfl,d⟩;have t:=l.l.u d;obtain⟨p,I,D⟩:=t.I;have k:=U6 n d)
   refine zP (v:=.B #[.agg #[ι 0,ι 0,ι 0],.i false]) (by simp[results,results82,go_sem,p]) rfl ?_;rw[F.l];exact⟨rfl,((k.x ζ _).x ζ _).x ζ _⟩
  have A:=U2 (show uV ns (ts.drop (m+1)) (m+1) ([a,b,c].set m v)=f by simpa [h3] using o);clear o P;have hc:m=0∨m=1∨m=2:=η;rcases hc with rfl|rfl|rfl
  all_goals go_wp2_with (go_at_call 129;refine j.y ?_;rintro e w4 ⟨rfl,d⟩;have y:=z.l.u d;have u:=U2 (l.l.u d);have r:=U2 y;obtain⟨T,aa,R⟩:=y.I;have k:=U6 n d;clear y)
  exact⟨⟨1,η,rfl,v,b,c,k.x υ _,u.l.set_ne η _ _,by have q:=r.l.set 0 (ι v);simpa [X] using q,A⟩,by simp[d_];omega⟩;exact⟨⟨2,η,rfl,a,v,c,k.x υ _,u.l.set_ne η _ _,by have q:=r.l.set 1 (ι v);simpa [X] using q,A⟩,by simp[d_];omega⟩;exact⟨⟨3,η,rfl,a,b,v,k.x υ _,u.l.set_ne η _ _,by have q:=r.l.set 2 (ι v);simpa [X] using q,A⟩,by simp[d_];omega⟩
 obtain rfl:m=ts.j:=η;have o:=P.l;rw[n_,uV] at o;have F:X (f=Z [a,b,c]):=o.z;clear o;obtain⟨p,I,D⟩:=l.l.I;obtain⟨T,aa,R⟩:=z.l.I;have ac:t6≠w.o.q:=η;go_wp2;refine zP (v:=.B #[.agg #[ι a,ι b,ι c],.i true]) (by simp[results,results82,go_sem,p]) rfl ?_;rw[F.l];exact⟨rfl,((n.x ζ _).x ζ _).x ζ _⟩
end
section
open Go.Proofs.Tryz Go.RowKit
variable {lo lp:Nat}{ns:κ}{tbs:List Nat}
structure kN (lo lp:Nat) (w:U) (rb:Nat) (t:List zf) (ns:κ) (R:zw) (pv nv rv:O) (tbs:List Nat):Prop where
 low:lo<=rb
 box:U3 w rb #[pv,nv,rv,ι R.count,ι R.Q,ι R.jg] 156
 preds:w.r lp 221 3 pv t.j (uh t)
 vals:U7 lo w nv ns
 rows:w.r lo 162 1 rv R.rows.j (UO tbs)
 tlen:tbs.j=R.rows.j
 tries:∀p (_:p<R.rows.j) (_:p<tbs.j),∃fp,yc lo w tbs[p] R.rows[p] fp
 M:t.j<=1000/\ns.j<=1000/\R.rows.j<=1000
def kN.u{w w':U}{d:Nat}{t:Ψ}{ns:List Λ}{R:zw}{e f g:O}{tbs:Φ}(h:kN lo lp w d t ns R e f g tbs)(c:μ w w'):kN lo lp w' d t ns R e f g tbs:=
 ⟨h.low,h.box.u c,zy h.preds c,h.vals.u c,zy h.rows c,h.tlen,λp a b=>by obtain⟨i,q⟩:=h.tries p a b;exact⟨i,q.u c⟩,h.M⟩
def kN.tg{w:U}{a:Nat}{t:Ψ}{R:zw}{b d c:O}(h:kN lo lp w a t ns R b d c tbs):TG lp w a 0 t:=⟨b,h.box.lt,h.box.H.1 0,h.preds⟩
def kN.cat{w:U}{a:Nat}{t:Ψ}{R:zw}{c b d:O}(h:kN lo lp w a t ns R c b d tbs):WE lo w a 1 ns:=⟨h.box.lt,b,h.box.H.1 1,h.vals⟩
def rt(t:List zf)(ns:κ)(R:zw)(a:ByteArray)(row:κ):Nat×Nat:=
 if (zO t a).I=false∨zE t a≥R.rows.j then(0,11)
 else if row.j≠ye t (zE t a) then(0,12)
 else match uV ns row 0 [0,0,0] with
  |none=>(0,12)
  |some r=>match ud (R.rows.d (zE t a) zm.zero) r with
   |none=>(0,12)
   |some k=>(k,0)
def G2(ns:List Λ):∀(ts:List Λ) (i:Nat) (r a:zl),uV ns ts i r=Z a->a.j=r.j
 |[],i,r,a,h=>by simp[uV] at h;rw[h]
 |t::ts,i,r,a,h=>by
  unfold uV at h;split at h
  .cases h
  .split at h
   .cases h
   .have:=G2 ns ts (i+1) _ a h;simpa using this
def oW(w:U):μ w w:=zn _ _
def Rq{al:Nat}(w:U)(B:Nat)(t:Ψ)(ns:List Λ)(R:zw)(pv nv rv:O)(tbs:Φ)(b:Λ)(row:List Λ)(tv:O)(h:kN lo lp w B t ns R pv nv rv tbs)(ht:U7 al w tv row)(hl:row.j<=2000000):
  c_ e_ 43 #[(π B),.g b,tv] w λe f=>e=ε (.B #[ι ((rt t ns R b row).1:Nat),ι ((rt t ns R b row).2:Nat)])/\μ w f:=by
 have l:=U2 (iy lp w B 0 t b h.tg h.M.1);have C:X (c_ e_ 80 #[(π B),ι (zE t b:Nat)] w λe f=>e=ε (ι (ye t (zE t b):Nat))/\f=w):=AH lp w B 0 t _ h.tg;have n:=U2 (Nr w B ns row tv h.cat h.M.2.1 ht hl);have I:=U2 h;obtain⟨ax,u⟩:∃a,a=rt t ns R b row:=⟨_,rfl⟩;rw[←u];have c:=U2 u;clear u;unfold rt at c;obtain⟨hc,hf,W⟩:=h.box.I;obtain⟨aw,v,ae⟩:=zq h.rows;subst ae;obtain⟨av,au,ad⟩:=ht.qm;subst ad;have d2:=hc 2;have ar:=h.M.2.2;clear h ht hc;by_cases E:(zO t b).I=false
 .rw[zb (zh E)] at c;rw[E] at l;clear E;generalize zE t b=g at *;go_enter func43,ntmps43;go_wp2_with (go_at_call 77;refine l.l.y ?_;rintro e J ⟨rfl,d⟩;obtain rfl:=d.z)
  go_ret2
  exact⟨by rw[c.l];rfl,oW w⟩
 have H:(zO t b).I=true:=by cases D:(zO t b).I with|true=>rfl|false=>exact zC D E
 rw[H] at l;by_cases T:zE t b≥R.rows.j
 .rw[zb (zg T)] at c;have am:(R.rows.j:Int)<=(zE t b:Int):=η;clear E H;generalize zE t b=g at *;go_enter func43,ntmps43;go_wp2_with (go_at_call 77;refine l.l.y ?_;rintro e J ⟨rfl,d⟩;obtain rfl:=d.z)
  go_ret2
  exact⟨by rw[c.l];rfl,oW w⟩
 rw[za (by rintro(q|q);exact E q;exact T q)] at c;have am:¬(R.rows.j:Int)<=(zE t b:Int):=η;clear E H;generalize zE t b=g at *;by_cases A:row.j≠ye t g
 .rw[zb A] at c;have ab:¬(row.j:Int)=(ye t g:Int):=η;clear A;generalize ye t g=af at *;go_enter func43,ntmps43;go_wp2_with (first|(go_at_call 77;refine l.l.y ?_;rintro e J ⟨rfl,d⟩;obtain rfl:=d.z)|(go_at_call 80;refine C.l.y ?_;rintro e J ⟨rfl,d⟩;obtain rfl:=d.z))
  go_ret2
  exact⟨by rw[c.l];rfl,oW w⟩
 rw[za A] at c;have ab:(row.j:Int)=(ye t g:Int):=η;have ao:=U2 (show row.j=ye t g by omega);rw[←ao.l] at C;clear A ab;rcases s:uV ns row 0 [0,0,0] with _|r
 .rw[s] at c n;simp only[Ax] at n;clear s;go_enter func43,ntmps43;go_wp2_with (first|(go_at_call 77;refine l.l.y ?_;rintro e J ⟨rfl,d⟩;obtain rfl:=d.z)|(go_at_call 80;refine C.l.y ?_;rintro e J ⟨rfl,d⟩;obtain rfl:=d.z)|(go_at_call 82;refine n.l.y ?_;rintro e i ⟨rfl,k⟩))
  go_ret2
  exact⟨by rw[c.l];rfl,zJ k γ (ze _)⟩
 rw[s] at c n;have ac:=G2 ns row 0 _ r s;obtain⟨x,y,z,rfl⟩:∃x y z,r=[x,y,z]:=by
  match r,ac with
  |[x,y,z],_=>exact⟨x,y,z,rfl⟩
 simp only[Ax,u_,v_] at n;have G:g<R.rows.j:=η;have P:g<tbs.j:=by rw[I.l.tlen];exact G
 obtain⟨M,an,F,_,aa,V⟩:=yt I.l.rows η;simp only[h_] at F;have ag:=F.1;clear F;subst ag;have ah:=V g (.u (Z ⟨tbs[g],0,Y⟩)) (by simp[UO,P,pt]);have S:X (∀p,μ w p->c_ e_ 83 #[.u (Z ⟨tbs[g],0,Y⟩),.agg #[ι x,ι y,ι z]] p λe f=>e=ε (.B #[ι (((ud R.rows[g] [x,y,z]).d 0:Nat):Int),.i (ud R.rows[g] [x,y,z]).I])/\μ p f):=λp hb=>by
  obtain⟨fp,q⟩:=I.l.tries g G P;exact Hz p _ _ fp x y z (q.u hb)
 dsimp only at c;rw[show R.rows.d g zm.zero=R.rows[g] by simp[i_,G]] at c;generalize ud R.rows[g] [x,y,z]=mk at *;generalize tbs[g]=tb at *;have aq:(g:Int)<(R.rows.j:Int):=η;clear s ac V;go_enter func43,ntmps43;go_upto_region 9 with (first|(go_at_call 77;refine l.l.y ?_;rintro e J ⟨rfl,d⟩;obtain rfl:=d.z)|(go_at_call 80;refine C.l.y ?_;rintro e J ⟨rfl,d⟩;obtain rfl:=d.z)|(go_at_call 82;refine n.l.y ?_;rintro e i ⟨rfl,k⟩;have y2:=zi k W d2;have yp:=zi k aa ah;have yl:=yh W k.q;have yg:=yh aa k.q))
 have o:μ i (i.C (.E #[ι x,ι y,ι z] 165)):=γ;have j:=U3.new i #[ι x,ι y,ι z] 165;generalize i.C (.E #[ι x,ι y,ι z] 165)=N at *;have u2:=zi o yl y2;have up:=zi o yg yp;have v0:N.p ⟨i.o.q,0,Y⟩=Z (ι x):=by rw[j.H.1];rfl
 have v1:N.p ⟨i.o.q,1,Y⟩=Z (ι y):=by rw[j.H.1];rfl
 have v2:N.p ⟨i.o.q,2,Y⟩=Z (ι z):=by rw[j.H.1];rfl
 have Q:=U6 k o;have aj:=yh yl o.q;have ak:=yh yg o.q;have K:=j.lt;have m:X (∀p,μ N p->c_ e_ 83 #[(π tb),.agg #[ι x,ι y,ι z]] p λe f=>e=ε (.B #[ι ((mk.d 0:Nat):Int),.i mk.I])/\X (μ w f)/\f.p ⟨B,2,Y⟩=Z (.k (Z ⟨M,0,Y⟩) R.rows.j v)/\f.p ⟨M,g,Y⟩=Z ((π tb))/\f.p ⟨i.o.q,0,Y⟩=Z (ι x)/\f.p ⟨i.o.q,1,Y⟩=Z (ι y)/\f.p ⟨i.o.q,2,Y⟩=Z (ι z)):=λp hb=>by
  refine(S.l p (U6 Q hb)).y ?_;rintro e f ⟨rfl,ai⟩;have D:=U6 hb ai;exact⟨rfl,U6 Q D,(D.cell aj).A u2,(D.cell ak).A up,(D.cell K).A v0,(D.cell K).A v1,(D.cell K).A v2⟩
 clear j o y2 yp yl yg S;rcases mk with _|kk
 .simp only[kV,kX] at m;go_region_held3 (λf=>f.p ⟨B,2,Y⟩=Z (.k (Z ⟨M,0,Y⟩) R.rows.j v)/\f.p ⟨M,g,Y⟩=Z ((π tb))/\f.p ⟨i.o.q,0,Y⟩=Z (ι x)/\f.p ⟨i.o.q,1,Y⟩=Z (ι y)/\f.p ⟨i.o.q,2,Y⟩=Z (ι z)) (first|go_keep|(go_simp;done)) (first|(go_at_call 83;refine(m.l _ (by exact(zG (zn _ _) 1))).y ?_;rintro e w5 ⟨rfl,L,a2,ap,a0,a1,a3⟩))
  go_wp2;go_ret2
  exact⟨by rw[c.l];rfl,L.l⟩
 simp only[uF,jH] at m;go_region_held3 (λf=>f.p ⟨B,2,Y⟩=Z (.k (Z ⟨M,0,Y⟩) R.rows.j v)/\f.p ⟨M,g,Y⟩=Z ((π tb))/\f.p ⟨i.o.q,0,Y⟩=Z (ι x)/\f.p ⟨i.o.q,1,Y⟩=Z (ι y)/\f.p ⟨i.o.q,2,Y⟩=Z (ι z)) (first|go_keep|(go_simp;done)) (first|(go_at_call 83;refine(m.l _ (by exact(zG (zn _ _) 1))).y ?_;rintro e w5 ⟨rfl,L,a2,ap,a0,a1,a3⟩))
 go_wp2;go_ret2
 exact⟨by rw[c.l];rfl,L.l⟩
end
section
open Classical
def QX{S:j8}(P:DB->Prop)(l:P (z0v S.facts))(hs:∀s k D,P D->P (zzs (S.H.filter λr=>decide (r.L=s)) k D)){mr mx:Nat}{D:DB}{k:Nat}(h:z1h S mr mx=Z (D,k)):P D:=by
 have j:∀s (left k:Nat) (D a:DB) (b:Nat),P D->zy9 (S.H.filter λr=>decide (r.L=s)) mr left k D=Z (a,b)->P a:=by
  intro s left;induction left with
  |zero=>intro k D a b _ h;cases h
  |succ left d=>
   intro k D a b c h;unfold zy9 at h;split at h;split at h;simp only[zt,yk] at h;rw[←h.1];exact hs s _ D c;exact d (k+1) _ a b (hs s _ D c) h;cases h
 have i:∀(n s k:Nat) (D a:DB) (b:Nat),P D->zzc S.H mr mx n s k D=Z (a,b)->P a:=by
  intro n;induction n with
  |zero=>
   intro s k D a b c h;unfold zzc at h;simp only[zt,yk] at h;rw[←h.1];exact c
  |succ n d=>
   intro s k D a b c h;unfold zzc at h;split at h;exact d (s+1) k D a b c h;split at h;cases h;rename_i e f g;exact d (s+1) f e a b (j s _ k D e f c g) h
 unfold z1h at h;split at h;exact i _ 0 0 _ D k l h;cases h
def oh(a:List Nat)(n:Nat)(D:DB):Prop:=∀p x,UD D p x->∀i,i<a.d p 0->x.d i 0<n
def Cu{cs:Ξ}{c:zd}(m:c∈cs){l:zk}(j:l∈zj c)(t:Ψ)(vs:List Λ)(e:Φ):∀x∈(zT t (zp cs) vs e l).v,x.var=false->x.D<(zp cs).j:=by
 intro x b d;unfold zT at b;simp only[z9] at b;obtain⟨z,f,rfl⟩:=b;unfold uq at f;obtain⟨y,h,rfl⟩:=z9.1 f;obtain⟨p,o⟩:=rq 0 (uq (zp cs) vs e l) (uR (zp cs) vs e y);obtain⟨i,n⟩:=dU cs;unfold uR at d ⊢;by_cases a:zV y=true;rw[zb a] at d;cases d;rw[za a];obtain⟨v,k,g⟩:=Do i ((n y).2 ⟨c,m,l,j,h,by simpa using a⟩);rw[k];exact g
def De{l:zx}{a W n:Nat}(h:qJ l a W)(c:∀x∈l.v,x.var=false->x.D<n){y:Φ}(f:∀p,zL l p=true->y.d p 0<n):∀i,i<a->(zI l y).d i 0<n:=by
 intro i g;have b:i<l.v.j:=by rw[h.len];exact g
 rw[sQ l y (by have:=h.le3;omega)];unfold U5;rw[zb b,show l.v.d i ⟨false,0,0⟩=l.v[i] by simp[i_,b]];have e:=zr b;unfold VQ;cases d:l.v[i].var;rw[za ζ];exact c _ e d;rw[zb (by simp[(h.lev _ e d).1])];exact f _ ((f6 l _).2 ⟨_,e,d,rfl⟩)
def OY{cs:Ξ}{t0 t:Ψ}(h:UH cs t0 t)(os:Option (List (Option (List Int))))(hp:∀i (z:i<cs.j),jX (yL ((uo os i).d [])) (zu cs[i]).j){mr mx:Nat}{D:DB}{k:Nat}(T:z1h (vq t (zp cs) os cs) mr mx=Z (D,k)):oh (t.w (·.jh)) (zp cs).j D:=by
 have v:=th h (zp cs) os hp;refine QX (S:=vq t (zp cs) os cs) (λD=>oh (t.w (·.jh)) (zp cs).j D) ?_ ?_ T;intro p x g i z;unfold UD z0v at g;split at g;rename_i W;obtain⟨f,R,rfl,rfl⟩:=W;have q:=R;unfold vM at q;obtain⟨c,J,rfl⟩:=z9.1 q;have a:=(xw.1 J).1;have Q:c.d=[]:=by
  have:=(xw.1 J).2;simp at this;exact this
 obtain⟨e,_,_,q3,q4,_⟩:=h.lit a (l:=c.g) (by simp[zj]);have G:i<c.g.k.j:=by
  have b:i<(t.w (·.jh)).d (zE t c.g.o) 0:=z;rw[q4] at b;exact b
 have d:qJ (zT t (zp cs) [] [0,0,0,0,0] c.g) c.g.k.j (zU (zp cs).j):=eF t _ [] _ c.g (λk=>by
  by_cases hk:k<5;have:k=0∨k=1∨k=2∨k=3∨k=4:=η;rcases this with rfl|rfl|rfl|rfl|rfl<;>decide
  simp[i_,List.getElem?_eq_none (show([0,0,0,0,0]:Φ).j<=k by simp;omega)]) (ny (h.many c a)).1
 refine De d (Cu a (by simp[zj]) t [] _) (λp o=>?_) i G;obtain⟨y,E,N,_⟩:=BC.1 o;have I:=h.safe c a;simp only[xu,uK] at I;have:=pg.1 I.1 y E N;have w:zu c=[]:=by unfold zu;rw[Q];rfl
 rw[w] at this;cases this;cases g;intro s k D K p x g i z;unfold UD zzs at g;rcases u:D p x with _|m;rw[u] at g;simp only at g;split at g;rename_i H;obtain⟨r,C,rfl,y,E,N,rfl⟩:=H;have n:=(xw.1 C).1;have d:=v.H.H r n;unfold uX at n;obtain⟨⟨c,j⟩,V,B⟩:=nC.1 n;have h3:=sE.1 V;have a:=fy h3;split at B;simp only[zt] at B;subst B;refine De d.g (Cu a (by simp[zj]) t _ _) (λp o=>?_) i z;obtain⟨l,M,l2⟩:=d.fine.safe p (d.fine.g p o);obtain⟨tm,L,P,t3⟩:=(f6 l p).1 l2;obtain⟨F,b,rfl⟩:=uT L;obtain⟨w1,A⟩:=d.qc l M;have:=K l.o (zI l y) (E l M) F (by have:=A.len;have u:=b;rw[this] at u;exact u);rw[sQ l y (by have:=A.len;have:=A.le3;omega)] at this;unfold U5 at this;rw[zb b,show l.v.d F ⟨false,0,0⟩=l.v[F] by simp[i_,b]] at this;unfold VQ at this;rw[zb (by simp[P,(A.lev _ L P).1]),t3] at this;exact this;cases B;cases g;exact K p x (by unfold UD;rw[u];rfl) i z
def ma{ns:List Λ}(l:yw ns){d:Nat}(o:d<=3){r:zl}(j:UL d r)(n:∀i,i<d->r.d i 0<ns.j):uV ns (zY ns r d 3) 0 [0,0,0]=Z r:=by
 obtain⟨x,y,z,rfl⟩:∃x y z,r=[x,y,z]:=by
  match r,j.1 with
  |[x,y,z],_=>exact⟨x,y,z,rfl⟩
 have e:=j.2;have f:=λi (q:i<d)=>tp l (n i q);have m:d=0∨d=1∨d=2∨d=3:=η;rcases m with rfl|rfl|rfl|rfl;have a:=e 0 η;have b:=e 1 η;have c:=e 2 η;simp at a b c;subst a;subst b;subst c;rfl;have b:=e 1 η;have c:=e 2 η;simp at b c;subst b;subst c;have g:xr ns (ns[x]?.d g_)=Z x:=by have:=f 0 η;simpa using this
 simp[zY,uV,g];have c:=e 2 η;simp at c;subst c;have g:xr ns (ns[x]?.d g_)=Z x:=by have:=f 0 η;simpa using this
 have h:xr ns (ns[y]?.d g_)=Z y:=by have:=f 1 η;simpa using this
 simp[zY,uV,g,h,p_];have g:xr ns (ns[x]?.d g_)=Z x:=by have:=f 0 η;simpa using this
 have h:xr ns (ns[y]?.d g_)=Z y:=by have:=f 1 η;simpa using this
 have k:xr ns (ns[z]?.d g_)=Z z:=by have:=f 2 η;simpa using this
 simp[zY,uV,g,h,k,p_]
end
section
open Go.Proofs.Tryz Go.RowKit
variable {lo lp:Nat}{a1 a2 a3:Option Addr}{ps:List (O×O×O)}
structure IQ (S:j8):Prop where
 H:ef S.N.j S.H
 many:S.N.j<=1000
 small:∀a∈S.N,a<=100000000
 rows:∀f∈S.facts,f.row.j=3
 facts:S.facts.j<=1000000
 r:S.r<=1000
structure wO (cs:List zd) (t:List zf) (os:Option (List (Option (List Int)))):Prop where
 len:cs.j<=1000
 names:t.j<=1000
 fine:∀c∈cs,vV c
 sums:∀c∈cs,c.g.k.j+xn c.d<=1000/\c.d.j<=900
 M:Hf cs
 vals:(zp cs).j<=1000
 jm:∀n,xO t n<=1000000
 ords:(os.d []).j<=2000000
 each:∀o∈os.d [],(o.d []).j<=2000000
 ordok:vK cs os=true->∀o∈os.d [],(o.d []).j<=1000
 set:vK cs os=true->IQ (vq t (zp cs) os cs)
def rg(a w:U)(S:j8)(s:O):Prop:=∃(c b:Nat) (a1:Option Addr) (f:Nat) (a2:Option Addr) (d:Nat) (a3:Option Addr) (e:Nat) (ps:List (O×O×O)),s=(π b)/\a.o.q<=b/\a.o.q<=c/\c<=w.o.q/\U3 w b #[ι S.r,.k a1 S.N.j f,.k a2 S.facts.j d,.k a3 S.H.j e] 146/\X (ff c w (.k a1 S.N.j f) (.k a2 S.facts.j d) (.k a3 S.H.j e) S ps)/\X (μ a w)
def ff.saveT{w w':U}{d e f:O}{S:j8}{ps:List (O×O×O)}{T:f_}{M:Φ}(h:ff lo w d e f S ps)(hs:zc M w w')(b:UP w T M)(i:3≠T)(g:210≠T)(j:284≠T)(c:204≠T)(a:207≠T):ff lo w' d e f S ps:=⟨yR h.ari hs b i,yR h.fac hs b g,h.rul.saveT hs b j c a⟩
def ff.u{w w':U}{b d c:O}{S:j8}{ps:List (O×O×O)}(h:ff lo w b d c S ps)(a:μ w w'):ff lo w' b d c S ps:=⟨zy h.ari a,zy h.fac a,h.rul.u a⟩
def rg.one{e W a:U}{S:j8}{d b c:Nat}(i:μ e W)(g:μ W a)(h:ff W.o.q a (.k a1 S.N.j d) (.k a2 S.facts.j b) (.k a3 S.H.j c) S ps):rg e (a.C (.E #[ι S.r,.k a1 S.N.j d,.k a2 S.facts.j b,.k a3 S.H.j c] 146)) S (.u (Z (δ a.o.q))):=by
 have f:μ a (a.C (.E #[ι S.r,.k a1 S.N.j d,.k a2 S.facts.j b,.k a3 S.H.j c] 146)):=(zn _ _).C (ze _) _;have j:=i.q;have l:=g.q;have k:=f.q;exact⟨W.o.q,a.o.q,a1,d,a2,b,a3,c,ps,rfl,η,j,η,U3.new _ _ _,h.u f,U6 (U6 i g) f⟩
def rg.two{g W f:U}{a:Nat}{t p u s:O}{S:j8}{e d c:Nat}(b:g.o.q<=a)(n:μ g W)(i:μ W f)(m:U3 f a #[t,p,u,s] 146)(h:ff W.o.q f (.k a1 S.N.j e) (.k a2 S.facts.j d) (.k a3 S.H.j c) S ps):rg g ((((f.x (δ a) (ι S.r)).x (ω a 1) (.k a1 S.N.j e)).x (ω a 2) (.k a2 S.facts.j d)).x (ω a 3) (.k a3 S.H.j c)) S ((π a)):=by
 have o:=n.q;have v:=i.q;have j:=m.set 0 (ι S.r);have l:=j.set 1 (.k a1 S.N.j e);have k:=l.set 2 (.k a2 S.facts.j d);have q:=k.set 3 (.k a3 S.H.j c);have r:ff W.o.q ((((f.x (δ a) (ι S.r)).x (ω a 1) (.k a1 S.N.j e)).x (ω a 2) (.k a2 S.facts.j d)).x (ω a 3) (.k a3 S.H.j c)) (.k a1 S.N.j e) (.k a2 S.facts.j d) (.k a3 S.H.j c) S ps:=(((h.saveT (zc.set _ _ _ (ι S.r)) (UP.box m) θ θ θ θ θ).saveT (zc.set _ _ _ (.k a1 S.N.j e)) (UP.box j) θ θ θ θ θ).saveT (zc.set _ _ _ (.k a2 S.facts.j d)) (UP.box l) θ θ θ θ θ).saveT (zc.set _ _ _ (.k a3 S.H.j c)) (UP.box k) θ θ θ θ θ;exact⟨W.o.q,a,a1,e,a2,d,a3,c,ps,rfl,b,o,by simp;omega,by simpa using q,r,((((U6 n i).x b _).x b _).x b _).x b _⟩
def UB.belowLo{ok:f_->zo->Prop}{w w':U}{own own':Nat->zo}(h:UB lo ok w own w' own')(a:lo<=w.o.q):Below lo w w':=by
 obtain⟨_,M,c,d⟩:=h;exact c.u (λb e=>(d b e).1) a
def Oz(lp pb:Nat)(t:List zf)(ns:κ)(a:Option zw)(w:U)(e:Ending)(w':U):Prop:=match a with
 |none=>e=ε (.B #[.u Y,ι 10])/\μ w w'
 |some R=>∃c d f g b,w.p ⟨pb,1,Y⟩=Z d/\e=ε (.B #[(π c),ι 0])/\kN w.o.q lp w' c t ns R d f g b/\μ w w'
def Ji(w:U)(d c:O)(a b:Int)(f:-9223372036854775808<=a/\a<9223372036854775808)(g:-9223372036854775808<=b/\b<9223372036854775808)(h:a<0∨1048576<a∨b<0∨1048576<b):
  c_ e_ 35 #[d,c,ι a,ι b] w λe i=>e=ε (.B #[.u Y,ι 8])/\i=w:=by
 go_enter func35,ntmps35;by_cases j:a<0
 .go_wp2;go_ret2
  exact⟨rfl,rfl⟩
 by_cases m:1048576<a
 .go_wp2;go_ret2
  exact⟨rfl,rfl⟩
 by_cases k:b<0
 .go_wp2;go_ret2
  exact⟨rfl,rfl⟩
 have l:1048576<b:=η;go_wp2;go_ret2
 exact⟨rfl,rfl⟩
def OG(w:U)(pb:Nat)(cs:Ξ)(t:Ψ)(d:O)(os:Option (List (Option (List Int))))(a i:Nat)(n:uE lp w pb cs t)(m:ki w d os)(c:wO cs t os)(j:vK cs os=false)(p:a<=1048576)(v:i<=1048576):
  c_ e_ 35 #[(π pb),d,ι a,ι i] w λe o=>e=ε (.B #[.u Y,ι 9])/\μ w o:=by
 obtain⟨_,k,q,h,g,_⟩:=n;have b:=U2 (E0 w k d cs os g c.fine c.len m c.ords c.each);rw[j] at b;obtain⟨s,r,l⟩:=h.I;clear j;go_enter func35,ntmps35;go_wp2_with (go_at_call 71;refine b.l.y ?_;rintro e u ⟨rfl,f⟩)
 go_ret2
 exact⟨rfl,f⟩
def RR(w:U)(pb:Nat)(cs:Ξ)(t:Ψ)(ov:O)(os:Option (List (Option (List Int))))(h qy ab:Nat)(H:Option zw)(hP:uE lp w pb cs t)(ho:ki w ov os)(j:wO cs t os)(J:vK cs os=true)(h1:h<=1048576)(o:qy<=1048576)(ar:lp<=w.o.q)(hr:nY ab (vq t (zp cs) os cs) h qy=Z H):
  c_ e_ 35 #[(π pb),ov,ι h,ι qy] w λe i=>Oz lp pb t (zp cs) H w e i:=by
 have HP:=U2 hP;obtain⟨_,cv,pv,A,F,ah⟩:=hP;have ag:=U2 (E0 w cv ov cs os F j.fine j.len ho j.ords j.each);rw[J] at ag;have a4:=U2 λW hW=>Sf W cv cs (F.u hW) j.M;have a7:=U2 λW cb hW hC=>Mi W pb 1 cb t (zp cs) cs cv ov os ⟨pv,(A.u hW).lt,(A.u hW).H.1 1,zy ah hW⟩ hC j.names j.vals (F.u hW) j.sums j.len (ho.u hW) j.ords (j.ordok J) j.jm;have k:=U2 (j.set J);have a0:X ((zp cs).j<=1000/\t.j<=1000):=⟨j.vals,j.names⟩;have aD:=U2 hr;obtain⟨hc,hf,v⟩:=A.I;have d0:=hc 0;have d1:=hc 1;simp only[l0,dS,li] at d0 d1;clear J hr hc j F ho;generalize vq t (zp cs) os cs=S at *;generalize zp cs=ns at *;have aO:=U2 A;have ax:=U2 ah;clear A ah;go_enter func35,ntmps35;go_upto_region 6 with (first|(go_at_call 71;refine ag.l.y ?_;rintro e w1 ⟨rfl,r⟩;have y0:=zi r v d0;have yl:=yh v r.q)|(go_at_call 72;refine(a4.l _ r).y ?_;rintro e w2 ⟨v2,rfl,ak,a8⟩;obtain⟨l,f,rfl⟩:=ak.qm))
 obtain⟨W3,ap⟩:∃W3,W3=w2.C (.E #[.k l ns.j f] 141):=⟨_,rfl⟩;have af:μ w2 (w2.C (.E #[.k l ns.j f] 141)):=γ;have L:=U3.new w2 #[.k l ns.j f] 141;have aq:=(ak.u af).low (show w.o.q<=w1.o.q from r.q);have ai:=U6 r a8;have s:=U6 ai af;have aH:=ai.q;rw[←ap] at L aq s;rw[←ap];generalize w2.o.q=cb at *;have ao:=U2 L;have al:=U2 aq;have x0:=zi s v d0;have aC:=L.lt;have xl:=yh v s.q;have P:X (∀W,μ W3 W->c_ e_ 73 #[cv,.u (Z ⟨pb,1,Y⟩),(π cb),ov] W λe i=>∃a1 c1 a2 V a3 N ps,e=ε (.agg #[ι S.r,.k a1 S.N.j c1,.k a2 S.facts.j V,.k a3 S.H.j N])/\X (ff W.o.q i (.k a1 S.N.j c1) (.k a2 S.facts.j V) (.k a3 S.H.j N) S ps)/\μ W i/\i.p ⟨pb,0,Y⟩=Z cv):=λW J=>by
  refine(a7.l W cb (U6 s J) ⟨zX ar aH,_,ao.l.u J,(al.l.u J).low ar⟩).y ?_;rintro e i ⟨av,fv,rv,ps,h1,o,h3⟩;have hq:=U6 J h3;obtain⟨a1,c1,rfl⟩:=zq o.ari;obtain⟨a2,V,rfl⟩:=zq o.fac;obtain⟨a3,N,rfl⟩:=zq o.rul.own;exact⟨a1,c1,a2,V,a3,N,ps,h1,o,h3,(hq.cell xl).A x0⟩
 clear ap L aq af a4 ag a7 y0 yl ak a8 r ai w1 w2 d0;go_cut [11] from 40 to 48 (λaF wx=>rg W3 wx S aF)
 .go_region_held3 (λi=>i.p ⟨pb,0,Y⟩=Z cv) (first|go_keep|(go_simp;done)) (first|(go_at_call 73;refine(P.l _ γ).y ?_;rintro e w4 ⟨a1,c1,a2,V,a3,N,ps,rfl,C,aj,z0⟩;(try (with_reducible refine U3.carry (U3.drew (U3.new W3 #[ι 0,ν,ν,ν] 146)) aj ?_;intro aA;obtain⟨aL,aM,aK⟩:=aA.I))))
  all_goals
   go_wp2_with fail
   go_meet
   first|exact rg.one (W:=W3.drew) γ aj C.l|exact rg.two (ze _) (W:=(W3.C (.E #[ι 0,ν,ν,ν] 146)).drew) γ aj aA C.l
 clear P x0;obtain⟨fl,sb,a1,c1,a2,V,a3,N,ps,rfl,aN,a5,am,a6,C,ad⟩:=hcut;have G:=U2 (WB wc S ps _ _ _ h qy ab H C.l am k.l.H k.l.many k.l.small k.l.rows k.l.facts ⟨k.l.r,h1,o⟩ aD.l);obtain⟨aI,aG,aJ⟩:=a6.I;have ae:=U6 s ad.l;have aP:=U2 aC;have I:=zX s.q a5;clear C k aD aC xl;rcases H with _|R
 .have m:X (c_ e_ 74 #[.agg #[ι S.r,.k a1 S.N.j c1,.k a2 S.facts.j V,.k a3 S.H.j N],ι h,ι qy] wc λe i=>e=ε (.B #[.agg #[ν,ι 0,ι 0,ι 0],.i false])/\Below fl wc i):=by
   refine G.l.y ?_;rintro e i ⟨h1,a9,o⟩;exact⟨h1,o.belowLo am⟩
  clear G;go_wp2_with (go_at_call 74;refine m.l.y ?_;rintro e K ⟨rfl,y⟩)
  go_ret2
  exact⟨rfl,zJ (ae.A (y.y I)) γ (ze _)⟩
 have m:X (c_ e_ 74 #[.agg #[ι S.r,.k a1 S.N.j c1,.k a2 S.facts.j V,.k a3 S.H.j N],ι h,ι qy] wc λe i=>∃d c g,e=ε (.B #[.agg #[.k d R.rows.j c,ι R.count,ι R.Q,ι R.jg],.i true])/\X (i.r fl 162 1 (.k d R.rows.j c) R.rows.j (UO g)/\g.j=R.rows.j/\(∀p (_:p<R.rows.j) (_:p<g.j),∃E,yc fl i g[p] R.rows[p] E)/\R.rows.j<=1000)/\Below fl wc i):=by
  refine G.l.y ?_;rintro e i ⟨a9,rb,Q,h1,o,h3⟩;obtain⟨d,c,az⟩:=zq o.rows;refine⟨d,c,Q.tbs,by rw[h1,az],⟨by rw[←az];exact o.rows,o.tlen,λp a b=>?_,o.M.1⟩,h3.belowLo am⟩;obtain⟨E,q,_⟩:=o.tries p a b;exact⟨E,q⟩
 clear G;go_upto_region 10 with (first|(go_at_call 74;refine m.l.y ?_;rintro e K ⟨d,c,g,rfl,ay,y⟩))
 have au:=ae.A (y.y I);have z:=ad.l.A (y.y a5);have x:μ K (K.C (.E #[.k d R.rows.j c,ι R.count,ι R.Q,ι R.jg] 152)):=γ;have ac:=U3.new K #[.k d R.rows.j c,ι R.count,ι R.Q,ι R.jg] 152;have aa:=(ao.l.u z).u x;have aB:=U2 ((al.l.u z).u x);have D:=U6 au x;have aw:=U2 (zy ax.l D);have B:X (l_ (K.C (.E #[.k d R.rows.j c,ι R.count,ι R.Q,ι R.jg] 152)) w.o.q 162 1 (.k d R.rows.j c) R.rows.j (UO g)/\g.j=R.rows.j/\(∀p (_:p<R.rows.j) (_:p<g.j),∃E,yc w.o.q (K.C (.E #[.k d R.rows.j c,ι R.count,ι R.Q,ι R.jg] 152)) g[p] R.rows[p] E)/\R.rows.j<=1000):=by
  obtain⟨q1,q2,q3,q4⟩:=ay.l;refine⟨yq (zy q1 x) I,q2,λp a b=>?_,q4⟩;obtain⟨E,q⟩:=q3 p a b;exact⟨E,(q.u x).low I⟩
 obtain⟨M,n,aE⟩:=zq ax.l;subst aE;have y1:=zi D v d1;have yl:=yh v D.q;have an:=D.q;clear x z au ay m y ae ad al ao a6 aI aG aJ;generalize K.C (.E #[.k d R.rows.j c,ι R.count,ι R.Q,ι R.jg] 152)=W6 at *;generalize K.o.q=ob at *;obtain⟨oc,of,ol⟩:=ac.I;have o0:=oc 0;have o1:=oc 1;have o2:=oc 2;have o3:=oc 3;obtain⟨bc,bf,bl⟩:=aa.I;have b0:=bc 0;simp only[l0,dS,li] at o0 o1 o2 o3 b0;clear oc bc ac aa;go_region
 have u:μ W6 (W6.C (.E #[.k M t.j n,.k l ns.j f,.k d R.rows.j c,ι R.count,ι R.Q,ι R.jg] 156)).drew:=γ;have T:X (kN w.o.q lp (W6.C (.E #[.k M t.j n,.k l ns.j f,.k d R.rows.j c,ι R.count,ι R.Q,ι R.jg] 156)).drew W6.o.q t ns R (.k M t.j n) (.k l ns.j f) (.k d R.rows.j c) g/\μ w (W6.C (.E #[.k M t.j n,.k l ns.j f,.k d R.rows.j c,ι R.count,ι R.Q,ι R.jg] 156)).drew):=by
  refine⟨⟨an,U3.drew (U3.new _ _ _),zy aw.l u,aB.l.u u,zy B.l.1 u,B.l.2.1,λp a b=>?_,⟨a0.l.2,a0.l.1,B.l.2.2.2⟩⟩,U6 D u⟩;obtain⟨E,q⟩:=B.l.2.2.1 p a b;exact⟨E,q.u u⟩
 clear u aw aB B o0 o1 o2 o3 b0;go_wp2;go_ret2
 exact⟨W6.o.q,_,_,_,g,d1,rfl,T.l.1,T.l.2⟩
end
section
open Go.RowKit
def UH.runok{cs:Ξ}{u t:Ψ}(h:UH cs u t):wO cs t Y/\su (vq t (zp cs) Y cs):=by
 have b:su (vq t (zp cs) Y cs):=th h _ Y (λi w=>pX (fO (h.many _ (zr w))));obtain⟨_,j,p⟩:=h.low;have s:=h.M;have q:=AO cs;have m:=D1 cs;have o:(zp cs).j<=500:=by
  have:=AN cs [];simp only[jD,uM] at this;show(cs.H qQ []).j<=500;omega
 have d:=A3 (cs:=cs) η;have e:∀c∈cs,c.d.j<=6:=λc g=>(ny (h.many c g)).2.1;refine⟨⟨η,η,d,λc g=>⟨(d c g).1,by have:=e c g;omega⟩,⟨η,η,λc g=>(d c g).2⟩,η,λn=>by have:=p n;omega,ζ,ζ,λ_=>ζ,λ_=>⟨λr k=>⟨λl j=>((b.H.H r k).qc l j).1,λl j=>⟨((b.H.H r k).qx l j).1,b.H.apart r k r k rfl l j⟩⟩,?_,λa v=>by have:=b.small a v;omega,λf s=>(b.facts f s).2.1.1,?_,by show(zp cs).j<=1000;omega⟩⟩,b⟩;show(t.w (·.jh)).j<=1000;simp;omega;show(vM t (zp cs) cs).j<=1000000;have:(vM t (zp cs) cs).j<=cs.j:=by
  unfold vM;rw[xv];exact sg _ _
 omega
end
section
open Go.RowKit
variable {b:κ}
def mN(w:U)(m:Nat):μ w (w.drewN m):=zG (zn _ _) m
def yV:κ->κ->Bool
 |a::x,b::y=>if a=b then yV x y else UU a b
 |_,_=>false
def NE{a:List Λ}{k:Nat}(c:k<a.j)(d:k<b.j):yV (a.drop k) (b.drop k)=if a[k]=b[k] then yV (a.drop (k+1)) (b.drop (k+1)) else UU a[k] b[k]:=by
 rw[yK c,yK d];rfl
def Li{a:List Λ}{k:Nat}(h:¬(k<a.j/\k<b.j)):yV (a.drop k) (b.drop k)=false:=by
 by_cases c:k<a.j;rw[uk (show b.j<=k by omega)];cases a.drop k<;>rfl
 rw[uk (show a.j<=k by omega)];rfl
abbrev zB:=ByteArray×κ×Nat
abbrev Θ:=List zB
def oS(w:U)(v:O)(fs:List zB):Prop:=∃c a,v=.k c fs.j a/\∀i (h:i<fs.j),∃g d e,c=Z ⟨g,0,Y⟩/\g<w.o.q/\w.p ⟨g,i*3,Y⟩=Z (.g fs[i].1)/\w.p ⟨g,i*3+1,Y⟩=Z (.k (Z ⟨d,0,Y⟩) fs[i].2.1.j fs[i].2.1.j)/\w.p ⟨g,i*3+2,Y⟩=Z (ι (fs[i].2.2:Nat))/\U7 e w (.k (Z ⟨d,0,Y⟩) fs[i].2.1.j fs[i].2.1.j) fs[i].2.1
def oS.u{w w':U}{v:O}{fs:Θ}(h:oS w v fs)(a:μ w w'):oS w' v fs:=by
 obtain⟨f,d,j,o⟩:=h;refine⟨f,d,j,λi r=>?_⟩;obtain⟨g,p,e,l,c,n,m,k,q⟩:=o i r;exact⟨g,p,e,l,yh c a.q,(zi a c n),(zi a c m),(zi a c k),q.u a⟩
def yS(a:ByteArray)(row:κ):List zB->Option Nat
 |[]=>Y
 |f::c=>if f.1=a/\f.2.1=row then Z 0 else(yS a row c).w (·+1)
def kg(a:ByteArray)(row:κ)(fs:List zB):Int:=match yS a row fs with
 |none=>-1
 |some k=>k
def FU{a:Λ}{row:List Λ}{fs:Θ}{k:Nat}(c:k<fs.j):yS a row (fs.drop k)=if fs[k].1=a/\fs[k].2.1=row then Z 0 else(yS a row (fs.drop (k+1))).w (·+1):=by
 rw[yK c];rfl
end
section
open Go.Proofs.Tryz Go.RowKit
def Es{lo A:Nat}(w:U)(K vb:O)(a b:List Λ)(v:U7 lo w K a)(u:U7 A w vb b)(hl:a.j<=1000000)(R:b.j<=2000000):
  c_ e_ 84 #[K,vb] w λe w'=>e=ε (.i (decide (a=b)))/\μ w w':=by
 obtain⟨ao,aa,rfl⟩:=v.qm;obtain⟨ac,H,rfl⟩:=u.qm;by_cases d:a.j=b.j
 .have s:=U2 d;rw[←d];clear d;have V:X (∀k,k<a.j->a.d k g_≠b.d k g_->decide (a=b)=false):=λk _ q=>by
   simp only[decide_eq_false_iff_not];rintro rfl;exact q rfl
  have HT:X ((∀k,k<a.j->a.d k g_=b.d k g_)->decide (a=b)=true):=λq=>by
   simp only[decide_eq_true_eq];refine qR s.l λi E N=>?_;have:=q i E;rwa [U8 _ E,U8 _ N] at this
  generalize decide (a=b)=r at *;have W:=U2 v;have Q:=U2 u;clear v u;go_enter func84,ntmps84;go_wp2;go_loopw [5] (λi wr=>∃k:Nat,k<=a.j/\i=ι k/\X (∀j,j<k->a.d j g_=b.d j g_)/\μ w wr) (λi _=>a.j-(d_ i).D);exact⟨0,zs _,rfl,λj I=>η,zn _ _⟩;obtain⟨k,hk,rfl,J,c⟩:=hrel;have L:=c.q;by_cases f:k<a.j
  .have l:k<b.j:=by rw[←s.l];exact f
   obtain⟨g,rfl,T,t⟩:=W.l.cell k f;obtain⟨P,e2,D,h⟩:=Q.l.cell k l;subst e2;have ab:=zi c T t;have M:=zi c D h;have S:g<wr.o.q:=η;have F:P<wr.o.q:=η;clear t h;have o:X (a.d k g_=a[k]):=U8 _ f;have p:X (b.d k g_=b[k]):=U8 _ l;by_cases m:a[k]=b[k]
   .have B:=qH m;have z:=U2 m;clear m;generalize a[k]=x at *;generalize b[k]=y at *;go_wp2;go_quiet (fail)
    go_wp2;go_roundw
    case rel=>exact⟨k+1,η,ξ,λj I=>(by
     by_cases C:j=k;rw[C,o.l,p.l,z.l];exact J.l j η),zG c _⟩
    simp[d_];omega
   have B:=vn m;have n:=U2 (V.l k f (by rw[o.l,p.l];exact m));clear m;generalize a[k]=x at *;generalize b[k]=y at *;go_wp2;go_quiet (fail)
   go_wp2;go_ret;exact⟨by rw[n.l];rfl,zG c _⟩
  have n:=U2 (HT.l λj I=>J.l j η);go_wp2;go_ret;exact⟨by rw[n.l];rfl,c⟩
 have G:¬(a.j:Int)=(b.j:Int):=η;have n:X (decide (a=b)=false):=show decide (a=b)=false by
  simp only[decide_eq_false_iff_not];rintro rfl;exact d rfl
 generalize decide (a=b)=r at *;clear v u d;go_enter func84,ntmps84;go_wp2;go_ret;exact⟨by rw[n.l];rfl,zn _ _⟩
def nW(w:U)(v:O)(fs:List zB):Prop:=∃b a,v=.k b fs.j a/\∀i (h:i<fs.j),∃g c d,b=Z ⟨g,0,Y⟩/\g<w.o.q/\w.p ⟨g,i*3,Y⟩=Z (.g fs[i].1)/\w.p ⟨g,i*3+1,Y⟩=Z c/\w.p ⟨g,i*3+2,Y⟩=Z (ι (fs[i].2.2:Nat))/\U7 d w c fs[i].2.1
def nW.u{w w':U}{v:O}{fs:Θ}(h:nW w v fs)(a:μ w w'):nW w' v fs:=by
 obtain⟨e,c,f,n⟩:=h;refine⟨e,c,f,λi q=>?_⟩;obtain⟨g,p,d,k,b,m,l,j,o⟩:=n i q;exact⟨g,p,d,k,yh b a.q,(zi a b m),(zi a b l),(zi a b j),o.u a⟩
def Bi{J:Nat}(w:U)(x rd:Nat)(v:O)(fs:Θ)(b:Λ)(H:O)(row:List Λ)(D:U3 w x #[v,ι rd] 54)(h:nW w v fs)(C:U7 J w H row)(hl:fs.j<=10000000)(I:row.j<=2000000)(y:∀f∈fs,f.2.1.j<=1000000):
  c_ e_ 45 #[(π x),.g b,H] w λe w'=>e=ε (ι (kg b row fs))/\μ w w':=by
 have L:=U2 λW lo va (a:List Λ) (hb:μ w W) (ha:U7 lo W va a) (hq:a.j<=1000000)=>Es W va H a row ha (C.u hb) hq I;obtain⟨ac,ab,rfl⟩:=C.qm;obtain⟨ao,P,rfl,d⟩:=h;have R:w.p (δ x)=Z (.k ao fs.j P):=by rw[D.H.1];rfl
 have u:=D.lt;have HC:=U2 d;have N:=U2 y;have H0:X (yS b row fs=(yS b row (fs.drop 0)).map (·+0)):=show yS b row fs=_ by simp
 have T:X (kg b row fs=match yS b row fs with|none=>-1|some k=>(k:Int)):=show kg b row fs=_ from rfl
 clear d C y D;generalize kg b row fs=E at *;generalize yS b row fs=p at *;go_enter func45,ntmps45;go_wp2;go_loopw [7,8] (λi _ wr=>∃k:Nat,k<=fs.j/\i=ι k/\X (p=(yS b row (fs.drop k)).map (·+k))/\μ w wr) (λi _ _=>fs.j-(d_ i).D);exact⟨0,zs _,rfl,H0,zn _ _⟩;obtain⟨k,hk,rfl,M,c⟩:=hrel;have aa:=c.q;by_cases m:k<fs.j
 .have A:(k:Int)<(fs.j:Int):=η;obtain⟨g,rv,F,rfl,S,Q,c1,_,V⟩:=HC.l k m;have xm:=zi c u R;have s:x<wr.o.q:=η;have q:=M.l;rw[FU m] at q;have r:=U2 q;clear q M;have x0:=zi c S Q;have x1:=zi c S c1;have ad:g<wr.o.q:=η;have B:=U2 (L.l wr F _ _ c (V.u c) (N.l _ (zr m)));clear Q c1 V;generalize fs[k].2.1=G at *;generalize fs[k].1=fp at *;by_cases n:fp=b
  .have K:=qH n;by_cases j:G=row
   .have t:X (p=Z k):=show p=Z k by rw[r.l,zb ⟨n,j⟩];simp
    have o:=U2 (show E=(k:Int) by rw[T.l,t.l]);rw[show decide (G=row)=true by simp[j]] at B;clear r n j;go_wp2_with (go_at_call 84;refine B.l.y ?_;rintro e w1 ⟨rfl,l⟩)
    go_ret;exact⟨by rw[o.l];rfl,U6 c l⟩
   have t:X (p=(yS b row (fs.drop (k+1))).map (·+(k+1))):=show p=_ by
    rw[r.l,za (λz=>j z.2),C_];congr 1;funext z;simp only[Function.comp];omega
   rw[show decide (G=row)=false by simp[j]] at B;clear r n j;go_wp2_with (go_at_call 84;refine B.l.y ?_;rintro e w1 ⟨rfl,l⟩)
   exact⟨⟨k+1,η,ξ,t,U6 c l⟩,by simp[d_];omega⟩
  have K:=vn n;have t:X (p=(yS b row (fs.drop (k+1))).map (·+(k+1))):=show p=_ by
   rw[r.l,za (λz=>n z.1),C_];congr 1;funext z;simp only[Function.comp];omega
  clear r n;go_wp2;exact⟨⟨k+1,η,ξ,t,c⟩,by simp[d_];omega⟩
 have A:¬(k:Int)<(fs.j:Int):=η;have xm:=zi c u R;have s:x<wr.o.q:=η;have o:X (E=-1):=show E=-1 by
  rw[T.l,M.l,uk η];rfl
 go_wp2;go_ret;exact⟨by rw[o.l];rfl,c⟩
end
section
variable {t:List zf}{ns:κ}
structure Vk (t:List zf) (ns:κ) (R:zw):Prop where
 rise:yw (U4 t)
 nrise:yw ns
 inv:qX (t.w (·.jh)) (zU ns.j) R
 small:∀a∈t.w (·.jh),a<=3
 inside:oh (t.w (·.jh)) ns.j (zzj (t.w (·.jh)) R)
 M:R.count<=1048576/\t.j<=1000/\ns.j<=1000
def kl(R:zw)(p:Nat):List zl:=(UX (R.rows.d p zm.zero)).w λk=>V9 k (R.rows.d p zm.zero).ql
def vu(t:List zf)(p:Nat):ByteArray:=(U4 t).d p g_
def Vk.len{t:Ψ}{ns:List Λ}{R:zw}(h:Vk t ns R):R.rows.j=t.j:=by have:=h.inv.len;simpa using this
def Vk.name{t:Ψ}{ns:List Λ}{R:zw}(h:Vk t ns R){p:Nat}(d:p<t.j):(zO t (vu t p)).I=true/\zE t (vu t p)=p/\vu t p=t[p].name:=by
 have f:vu t p=t[p].name:=by unfold vu U4;simp[i_,d]
 have b:zM t t[p].name=p:=by
  rcases nE (zM t t[p].name) p with q|q|q;have a:=tI t t[p].name h.rise t[zM t t[p].name] (by
   rw[vh];exact⟨0,by simp;omega,ζ⟩)
  have c:=pd.1 h.rise (zM t t[p].name) p (by simp[U4];omega) (by simp[U4];omega) q;simp only[U4,xM] at c;rw[c] at a;cases a;exact q;have a:=tP t t[p].name t[p] (by
   rw[vh];exact⟨p,by simp;omega,ζ⟩)
  rw[UE] at a;cases a
 have e:zO t t[p].name=Z t[p]:=by
  unfold zO;rw[b,yn d];simp
 rw[f];exact⟨by rw[e];rfl,by unfold zE;rw[e,b];rfl,rfl⟩
def Vk.ar{R:zw}(h:Vk t ns R){p:Nat}(a:p<t.j):ye t p<=3/\(t.w (·.jh)).d p 0=ye t p:=by
 refine⟨?_,rfl⟩;unfold ye;rw[U8 _ (by simpa using a)];exact h.small _ (zr _)
def Vk.row{R:zw}(h:Vk t ns R){p:Nat}(d:p<t.j){r:zl}(c:r∈kl R p):UD (zzj (t.w (·.jh)) R) p r/\UL (ye t p) r/\∀i,i<ye t p->r.d i 0<ns.j:=by
 have b:p<R.rows.j:=by rw[h.len];exact d
 have a:UD (zzj (t.w (·.jh)) R) p r:=by
  refine(rD h.inv h.small b r).1 ?_;unfold kl at c;rw[U8 _ b] at c;exact c
 exact⟨a,(tQ _ R p r a).2,h.inside p r a⟩
def Vk.rows{t:Ψ}{ns:List Λ}{R:zw}(h:Vk t ns R){p:Nat}(b:p<R.rows.j):∃a,rowsG a R.rows[p]=Z (kl R p)/\(kl R p).j<=1048576:=by
 obtain⟨d,g,e,f⟩:=h.inv.tries p b;have c:=ib R.rows p b;rw[←h.inv.cnt] at c;have:=h.M.1;refine⟨3*(R.rows[p].r+1),?_,?_⟩;rw[d.rowsG _ (ze _) η];unfold kl;rw[U8 _ b];unfold kl;rw[U8 _ b,xv,d.cnt];omega
def Hd{ns:List Λ}(g:yw ns):∀(a b:zl),(∀v∈a,v<ns.j)->(∀v∈b,v<ns.j)->Xa a b->yV (a.w λv=>ns.d v g_) (b.w λv=>ns.d v g_)=true
 |x::a,y::b,i,f,h=>by
  simp only[xU,yV];rcases h with h|⟨rfl,h⟩
  .have c:=wu g h (f y ζ);rw[za]
   .exact c
   .intro e;rw[e,UE] at c;cases c
  .rw[zb rfl];exact Hd g a b (λv d=>i v (by simp[d])) (λv d=>f v (by simp[d])) h
 |[],_,_,_,h=>h.elim
 |_::_,[],_,_,h=>h.elim
def GF{k:zl}{a:Nat}(c:k.j=a)(d:a<=3):zY ns (V9 k a) a 3=k.w λv=>ns.d v g_:=by
 refine qR (by simp[zY,c]) λi b e=>?_;have f:i<a:=by rw[gM] at b;exact b
 simp only[zY,xM,fT];rw[zb η];congr 1;unfold V9;rw[kZ,sw η,yn η];rfl
def Vk.sorted{R:zw}(h:Vk t ns R){p:Nat}(m:p<t.j){i j:Nat}(r:i<j)(n:j<(kl R p).j):yV (zY ns ((kl R p)[i]'η) (ye t p) 3) (zY ns (kl R p)[j] (ye t p) 3)=true:=by
 have f:p<R.rows.j:=by rw[h.len];exact m
 obtain⟨G,I,s,H⟩:=h.inv.tries p f;obtain⟨c,u⟩:=h.ar m;have z:R.rows.d p zm.zero=R.rows[p]:=U8 _ f;have b:=(h.row m (zr (show i<(kl R p).j by omega))).2;have a:=(h.row m (zr n)).2;simp only[kl,z,xv] at n;simp only[kl,z,xM] at b a ⊢;have l:=pd.1 (oA R.rows[p] R.rows[p].ql 0 0) i j (show i<(UX R.rows[p]).j by omega) n r;have g:=((qV R.rows[p] _).1 (zr (show i<(UX R.rows[p]).j by omega))).1;have e:=((qV R.rows[p] _).1 (zr n)).1;change Xa (UX R.rows[p])[i] (UX R.rows[p])[j] at l;generalize (UX R.rows[p])[i]=q at *;generalize (UX R.rows[p])[j]=w at *;rw[u] at s;by_cases o:ye t p=0;have x:R.rows[p].ql=1:=by rw[s,o];rfl
 rw[x] at g e b a;have A:∀k:zl,k.j=1->UL 0 (V9 k 1)->k=[0]:=by
  intro k y B;match k,y with
  |[v],_=>
   have:=B.2 0 (ze _);simp[V9] at this;rw[this]
 rw[o] at b a;rw[A q g b.1,A w e a.1] at l;exact zC l (Ab _);have D:R.rows[p].ql=ye t p:=by rw[s,tq o c]
 rw[D] at g e b a ⊢;rw[GF g c,GF e c];have d:∀k:zl,k.j=ye t p->(∀i,i<ye t p->(V9 k (ye t p)).d i 0<ns.j)->∀v∈k,v<ns.j:=by
  intro k y C v E;obtain⟨i,F,rfl⟩:=uT E;have:=C i η;unfold V9 at this;rw[kZ,sw η,yn F] at this;exact this
 exact Hd h.nrise q w (d q g b.2) (d w e a.2) l
end
section
open Go.Proofs.Tryz Go.RowKit
variable {lo lp:Nat}
def TS:(e_.info? 30).map (λi=>(i.zero,i.q,i.bytes))=Z (Z (ν),1,24):=χ
def LO(w:U)(tb:Nat)(T:zm)(fp:Φ)(n:Nat)(rs:List zl)(h:yc lo w tb T fp)(a:rowsG n T=Z rs):
  c_ e_ 78 #[(π tb)] w λe d=>∃v,e=.returned v/\UI w.o.q d v rs/\μ w d:=by
 unfold rowsG at a;rcases b:mI n T with _|c;rw[b] at a;cases a;rw[b] at a;simp only at a;split at a;simp only[zt] at a;subst a;exact Dn w tb T fp h n c b (by assumption);cases a
def RK{n:Nat}{T:zm}{rs:List zl}(a:rowsG n T=Z rs):rs.j<=1048576:=by
 unfold rowsG at a;rcases b:mI n T with _|c;rw[b] at a;cases a;rw[b] at a;simp only at a;split at a;simp only[zt] at a;subst a;assumption
 cases a
def pN(ns:κ)(a:Nat)(r:zl):zk:=⟨false,g_,zY ns r a 3⟩
def vC(a g:Nat):Value:=.k (Z ⟨g,0,Y⟩) a a
def Dh(ns:κ)(a:Nat)(rs:List zl)(w:U)(e:Ending)(w':U):Prop:=∃g b,w.o.q<=g/\e=ε (.B #[.k (Z ⟨g,0,Y⟩) rs.j rs.j,ι 0])/\w'.r w.o.q 30 1 (.k (Z ⟨g,0,Y⟩) rs.j rs.j) rs.j (b.map (vC a))/\UN w.o.q w' (rs.map (pN ns a)) b/\μ w w'
def KS(w:U)(g:Nat)(t:Ψ)(ns:List Λ)(R:zw)(p A y:O)(k:Φ)(a:Λ)(h:kN lo lp w g t ns R p A y k)(j:(zO t a).I=false∨zE t a≥R.rows.j):
  c_ e_ 38 #[(π g),.g a] w λe l=>e=ε (.B #[ν,ι 11])/\l=w:=by
 have b:X (c_ e_ 77 #[(π g),.g a] w λe l=>e=ε (.B #[ι (zE t a:Nat),.i (zO t a).I])/\l=w):=iy lp w g 0 t a h.tg h.M.1;obtain⟨m,B⟩:=h.box.H;have x:=h.box.lt;obtain⟨z,n,i⟩:=zq h.rows;subst i;have C:=m 2;clear h m;by_cases d:(zO t a).I=false
 .rw[d] at b;clear d j;generalize zE t a=o at *;go_enter func38,ntmps38;go_wp2_with (go_at_call 77;refine b.l.y ?_;rintro e v ⟨rfl,c⟩;obtain rfl:=c.z)
  go_ret2
  exact⟨rfl,rfl⟩
 have f:(zO t a).I=true:=by cases u:(zO t a).I with|true=>rfl|false=>exact zC u d
 rw[f] at b;have r:zE t a≥R.rows.j:=by rcases j with q|q;exact zC q d;exact q
 have s:(R.rows.j:Int)<=(zE t a:Int):=η;clear d f j;generalize zE t a=o at *;go_enter func38,ntmps38;go_wp2_with (go_at_call 77;refine b.l.y ?_;rintro e v ⟨rfl,c⟩;obtain rfl:=c.z)
 go_ret2
 exact⟨rfl,rfl⟩
def K2(w:U)(C:Nat)(t:Ψ)(ns:List Λ)(R:zw)(pv nv rv:O)(F:Φ)(c:Λ)(h:kN lo lp w C t ns R pv nv rv F)(a3:(zO t c).I=true)(ay:zE t c<R.rows.j)(n:Nat)(rs:List zl)(hr:rowsG n R.rows[zE t c]=Z rs)(aZ:ye t (zE t c)<=1000):
  c_ e_ 38 #[(π C),.g c] w λe f=>Dh ns (ye t (zE t c)) rs w e f:=by
 have al:X (c_ e_ 77 #[(π C),.g c] w λe f=>e=ε (.B #[ι (zE t c:Nat),.i (zO t c).I])/\f=w):=iy lp w C 0 t c h.tg h.M.1;rw[a3] at al;have J:X (kN lo lp w C t ns R pv nv rv F):=h;obtain⟨hc,hf⟩:=h.box.H;have aS:=h.box.lt;obtain⟨bk,bg,aN⟩:=zq h.rows;subst aN;have d2:=hc 2;have bf:=h.M.2.2;have bq:¬(R.rows.j:Int)<=(zE t c:Int):=η;clear h hc a3;have aW:X (∀W,μ w W->c_ e_ 80 #[(π C),ι (zE t c:Nat)] W λe f=>e=ε (ι (ye t (zE t c):Nat))/\f=W):=λW D=>AH lp W C 0 t _ (J.l.u D).tg;generalize zE t c=s at *;have aq:s<F.j:=by rw[J.l.tlen];exact ay
 obtain⟨gr,ba,ab,_,bp,a6⟩:=yt J.l.rows η;simp only[h_] at ab;have ae:=ab.1;clear ab;subst ae;have bi:=a6 s (.u (Z ⟨F[s],0,Y⟩)) (by simp[UO,aq,pt]);have a4:X (c_ e_ 78 #[.u (Z ⟨F[s],0,Y⟩)] w λe f=>∃v,e=.returned v/\UI w.o.q f v rs/\μ w f):=by
  obtain⟨fp,q⟩:=J.l.tries s ay aq;exact LO w _ _ fp n rs q hr
 have bn:=RK hr;have bc:(s:Int)<(R.rows.j:Int):=η;obtain⟨i0,hi,aR,aP,aY⟩:=info_parts TS;have a9:=λW0:U=>run_make (P:=e_) (w:=W0) 31 30 i0 _ underlying31 hi aR .i64 .i64 (rs.j:Int) (rs.j:Int) η (q_ _) (by rw[aY];omega) η;rw[aP] at a9;have aT:X (∀W (x y z:Nat),μ w W->c_ e_ 79 #[(π C),.agg #[ι (x:Nat),ι (y:Nat),ι (z:Nat)],ι (ye t s)] W λe f=>∃g,W.o.q<=g/\e=ε (.k (Z ⟨g,0,Y⟩) (ye t s) (ye t s))/\U7 W.o.q f (.k (Z ⟨g,0,Y⟩) (ye t s) (ye t s)) (zY ns [x,y,z] (ye t s) 3)/\μ W f):=λW x y z D=>Lh W C _ x y z ns (J.l.u D).cat aZ;generalize ye t s=d at *;generalize F[s]=tb at *;clear a6 hr;go_enter func38,ntmps38;go_wp2_with (first|(go_at_call 77;refine al.l.y ?_;rintro e G ⟨rfl,aj⟩;obtain rfl:=aj.z)|(go_at_call 78;refine a4.l.y ?_;rintro e G ⟨v1,rfl,N,M⟩;obtain⟨az,B,rfl⟩:=zq N.1))
 have ac:μ G (G.C (.E (madeCells #[ν] rs.j) 30)):=γ;have aw:μ w (G.C (.E (madeCells #[ν] rs.j) 30)):=zJ M ac (ze _);have V:=yq (sq G rs.j 30 (ν) b_) M.q;have aF:X (l_ (G.C (.E (madeCells #[ν] rs.j) 30)) w.o.q 30 1 (.k (Z ⟨G.o.q,0,Y⟩) rs.j rs.j) rs.j (([]:Φ).map (vC d)++j_ (rs.j-0) (ν))):=V;have aD:X (UI w.o.q (G.C (.E (madeCells #[ν] rs.j) 30)) (.k az rs.j B) rs):=⟨zy N.1 ac,N.2⟩;have aC:w.o.q<=G.o.q:=M.q;clear V a9 a4 N ac al;generalize G.C (.E (madeCells #[ν] rs.j) 30)=w2 at *;generalize G.o.q=g at *;clear M;go_loopw [46] (λaK wr=>∃(m:Nat) (u:Φ),m<=rs.j/\aK=ι m/\μ w wr/\u.j=m/\X (wr.r w.o.q 30 1 (.k (Z ⟨g,0,Y⟩) rs.j rs.j) rs.j (u.map (vC d)++j_ (rs.j-m) (ν)))/\X (UN w.o.q wr ((rs.G m).map (pN ns d)) u)/\X (UI w.o.q wr (.k az rs.j B) rs)) (λi _=>rs.j-(d_ i).D);exact⟨0,[],zs _,rfl,aw,rfl,aF,UN.nil _,aD⟩;clear aF aD aw;obtain⟨m,u,hm,rfl,L,av,HR,HC,HV⟩:=hrel;have E:X (u.j=m):=av;clear av;have be:g<wr.o.q:=yb HR.l rfl;have aL:=uv HR.l;have bd:C<wr.o.q:=yh aS L.q;by_cases a5:m<rs.j
 .obtain⟨gv,cv,x,y,z,hv,aU,S,c0,c1,c2⟩:=HV.l.cell m a5;simp only[h_] at hv;have ae:=hv.1;clear hv;subst ae;have bm:(m:Int)<(rs.j:Int):=η;have aV:X (rs.G (m+1)=rs.G m++[[x,y,z]]):=show rs.G (m+1)=rs.G m++[[x,y,z]] by rw[yF a5,S]
  clear S;have T:X (∀W,μ wr W->c_ e_ 79 #[(π C),.agg #[ι x,ι y,ι z],ι d] W λe f=>∃g,W.o.q<=g/\e=ε (.k (Z ⟨g,0,Y⟩) d d)/\X (U7 W.o.q f (.k (Z ⟨g,0,Y⟩) d d) (zY ns [x,y,z] d 3))/\μ W f):=λW D=>aT.l W x y z (zJ L D (ze _));have aa:X (∀W,μ wr W->c_ e_ 80 #[(π C),ι s] W λe f=>e=ε (ι d)/\f=W):=λW D=>aW.l W (zJ L D (ze _));go_upto_region 9 with fail
  have A:μ wr (wr.C (.E #[ι x,ι y,ι z] 165)):=γ;have r:=U3.new wr #[ι x,ι y,ι z] 165;generalize wr.C (.E #[ι x,ι y,ι z] 165)=p at *;have v0:p.p ⟨wr.o.q,0,Y⟩=Z (ι x):=by rw[r.H.1];rfl
  have v1:p.p ⟨wr.o.q,1,Y⟩=Z (ι y):=by rw[r.H.1];rfl
  have v2:p.p ⟨wr.o.q,2,Y⟩=Z (ι z):=by rw[r.H.1];rfl
  have ak:wr.o.q<p.o.q:=r.lt;have I:=zy HR.l A;have a8:g<p.o.q:=yb I rfl;obtain⟨sx,aO⟩:∃sx,p.p ⟨g,m,Y⟩=Z sx:=by
   obtain⟨g',bb,aB,_,_,aE⟩:=yt I η;simp only[h_,zt,m_,and_true] at aB;have e:=aB.1;subst e;exact⟨_,aE m _ (yn (by simp[E.l];omega))⟩
  have bo:=uv I;have ah:X (p.r w.o.q 30 1 (.k (Z ⟨g,0,Y⟩) rs.j rs.j) rs.j (u.map (vC d)++j_ (rs.j-m) (ν))):=I;have ad:X (UN w.o.q p ((rs.G m).map (pN ns d)) u):=HC.l.y (λ_ _ q=>q.u A);have an:X (UI w.o.q p (.k (Z ⟨gv,0,Y⟩) rs.j B) rs):=HV.l.below' A;have au:μ w p:=zJ L A (ze _);have ar:X (∀W,μ p W->c_ e_ 79 #[(π C),.agg #[ι x,ι y,ι z],ι d] W λe f=>∃j,p.o.q<=j/\e=ε (.k (Z ⟨j,0,Y⟩) d d)/\X (U7 p.o.q f (.k (Z ⟨j,0,Y⟩) d d) (zY ns [x,y,z] d 3))/\X (μ p f)/\f.p ⟨wr.o.q,0,Y⟩=Z (ι x)/\f.p ⟨wr.o.q,1,Y⟩=Z (ι y)/\f.p ⟨wr.o.q,2,Y⟩=Z (ι z)/\f.p ⟨g,m,Y⟩=Z sx/\g<f.o.q/\∀o,f.frozen? ⟨g,o,Y⟩=false):=λW D=>by
   refine(T.l W (zJ A D (ze _))).y ?_;rintro e f ⟨j,h1,h2,h3,h4⟩;have hq:=zJ D h4 (ze _);have hs:=D.q;exact⟨j,η,h2,h3.l.low D.q,hq,(hq.cell ak).A v0,(hq.cell ak).A v1,(hq.cell ak).A v2,(hq.cell a8).A aO,yh a8 hq.q,uv (zy ah.l hq)⟩
  have ap:X (∀W,μ p W->c_ e_ 80 #[(π C),ι s] W λe f=>e=ε (ι d)/\f=W):=λW D=>aa.l W (zJ A D (ze _));clear T aa I r A HR HC HV c0 c1 c2 aU aL;go_region_held3 (λf=>f.p ⟨wr.o.q,0,Y⟩=Z (ι x)/\f.p ⟨wr.o.q,1,Y⟩=Z (ι y)/\f.p ⟨wr.o.q,2,Y⟩=Z (ι z)) (first|go_keep|(go_simp;done)) (first|(go_at_call 79;refine(ar.l _ γ).y ?_;rintro e Q ⟨j,bh,rfl,aA,K,a0,a1,a2,ax,ag,af⟩)|(go_at_call 80;refine(ap.l _ γ).y ?_;rintro e w6 ⟨rfl,aj⟩;obtain rfl:=aj.z))
  have am:=zy ah.l K.l;have aH:X ((u.map (vC d)++j_ (rs.j-m) (O.slice Y 0 0)).set m (vC d j)=(u++[j]).map (vC d)++j_ (rs.j-(m+1)) (O.slice Y 0 0)):=show _=_ by
   obtain⟨k,hk⟩:∃k,rs.j-m=k+1:=⟨rs.j-m-1,η⟩;have aI:rs.j-(m+1)=k:=η;rw[o_,za (by simp[E.l]),hk,aI,p8];simp[E.l]
  have H:=um am m (by simp[E.l];omega) (vC d j);rw[aH.l] at H;have ai:zc [g] Q (Q.x ⟨g,m,Y⟩ (.k (Z ⟨j,0,Y⟩) d d)):=zc.set _ _ _ _;obtain⟨cg,aQ⟩:=kx am (b:=g) rfl;have ao:=UP.box aQ;have aM:X (l_ (Q.x ⟨g,m,Y⟩ (.k (Z ⟨j,0,Y⟩) d d)) w.o.q 30 1 (.k (Z ⟨g,0,Y⟩) rs.j rs.j) rs.j ((u++[j]).map (vC d)++j_ (rs.j-(m+1)) (ν))):=H;have aG:X (UN w.o.q (Q.x ⟨g,m,Y⟩ (.k (Z ⟨j,0,Y⟩) d d)) ((rs.G (m+1)).map (pN ns d)) (u++[j])):=show UN _ _ _ _ by
   rw[aV.l,uY];have hz:=au.q;refine UN.y (w:=Q) ?_ (λ_ _ q=>yR q ai ao θ);refine(ad.l.y (λ_ _ q=>q.u K.l)).snoc (l:=pN ns d [x,y,z]) (λa ha=>by have:=ad.l.lt a ha;omega) η ?_;show U7 w.o.q Q (.k (Z ⟨j,0,Y⟩) (zY ns [x,y,z] d 3).j (zY ns [x,y,z] d 3).j) (zY ns [x,y,z] d 3);rw[gM];exact aA.l.low η
  have aJ:X (UI w.o.q (Q.x ⟨g,m,Y⟩ (.k (Z ⟨j,0,Y⟩) d d)) (.k (Z ⟨gv,0,Y⟩) rs.j B) rs):=⟨yR (an.l.below' K.l).1 ai ao θ,an.l.2⟩;have aX:μ w (Q.x ⟨g,m,Y⟩ (.k (Z ⟨j,0,Y⟩) d d)):=(zJ au K.l (ze _)).x (by simpa using aC) _;have a7:X ((u++[j]).j=m+1):=show(u++[j]).j=m+1 by simp[E.l]
  clear H am ai ao ah ad an aA K a0 a1 a2 ax ag af v0 v1 v2;generalize Q.x ⟨g,m,Y⟩ (.k (Z ⟨j,0,Y⟩) d d)=w7 at *;go_wp2;go_roundw;exact⟨m+1,u++[j],η,ξ,aX,a7.l,aM,aG,aJ⟩;simp[d_];omega
 obtain rfl:m=rs.j:=η;have q1:=HR.l;have q2:=HC.l;rw[vF,List.replicate_zero,vD] at q1;rw[ve] at q2;have HQ:X (_/\_):=And.intro q1 q2;clear q1 q2 HR HC HV E;go_wp2;go_ret2
 exact⟨g,u,aC,rfl,HQ.l.1,HQ.l.2,L⟩
end
section
open Go.RowKit
def Qc(f:zB)(g:Nat):List Value:=[.g f.1,.k (Z ⟨g,0,Y⟩) f.2.1.j f.2.1.j,ι (f.2.2:Nat)]
def Rp(fs:List zB)(gs:List Nat):List Value:=(z_ Qc fs gs).flatten
structure Cf (B:Nat) (w:U) (v:O) (fs:List zB) (gs:List Nat):Prop where
 len:gs.j=fs.j
 own:w.r B 114 3 v fs.j (Rp fs gs)
 rows:∀i (h:i<fs.j) (h2:i<gs.j),U7 B w (.k (Z ⟨gs[i],0,Y⟩) fs[i].2.1.j fs[i].2.1.j) fs[i].2.1
def Cf.u{B:Nat}{w w':U}{v:O}{fs:Θ}{gs:Φ}(h:Cf B w v fs gs)(c:μ w w'):Cf B w' v fs gs:=⟨h.len,zy h.own c,λi a b=>(h.rows i a b).u c⟩
def UH.told{cs:Ξ}{a t:Ψ}(h:UH cs a t){R:zw}{D:DB}{k mr mx:Nat}(c:qX (t.w (·.jh)) (zU (zp cs).j) R)(m:zzj (t.w (·.jh)) R=D)(l:z1h (vq t (zp cs) Y cs) mr mx=Z (D,k))(n:R.count<=1048576):Vk t (zp cs) R:=by
 have g:∀i (c:i<cs.j),jX (yL ((uo Y i).d [])) (zu cs[i]).j:=λi c=>pX (fO (h.many _ (zr c)));have b:=th h (zp cs) Y g;have f:Vn t=Vn a:=by have:=nR (a.j+1) a cs;rw[h.jm] at this;exact this
 have j:U4 t=U4 a:=by
  have:=congrArg (List.map Prod.fst) f;simpa [Vn,U4,Function.comp_def] using this
 obtain⟨_,p,_⟩:=h.low;have o:=h.M;have d:=D1 cs;have e:(zp cs).j<=500:=by
  have:=AN cs [];simp only[jD,uM] at this;show(cs.H qQ []).j<=500;omega
 exact⟨by rw[j];exact h.tab.rise,(dU cs).1,c,b.small,by rw[m];exact OY h Y g l,n,η,η⟩
def Fc:∀a:List Λ,yV a a=false
 |[]=>rfl
 |x::a=>by unfold yV;rw[zb rfl];exact Fc a
def UH.runos{cs:Ξ}{m t:Ψ}(h:UH cs m t){os:Option (List (Option (List Int)))}(f:vK cs os=true):wO cs t os/\su (vq t (zp cs) os cs):=by
 have a:su (vq t (zp cs) os cs):=th h _ os (Co f λc n=>fO (h.many c n));obtain⟨b,_⟩:=h.runok;have j:(os.d []).j<=cs.j/\∀o∈os.d [],(o.d []).j<=5:=by
  rcases os with _|l;simp;unfold vK at f;simp only[uK,beq_iff_eq,gu] at f;refine⟨by simp;omega,λo j=>?_⟩;obtain⟨i,q,rfl⟩:=vh.1 (show o∈l from j);have:=f.2 (cs[i]'η,l[i]) (by
   rw[vh];exact⟨i,by simp;omega,ζ⟩)
  rcases k:l[i] with _|o;simp;rw[k] at this;simp only[vN,uK,beq_iff_eq] at this;have p:=fO (h.many cs[i] (zr η));simp only[uF];omega
 have e:=b.len;refine⟨⟨b.len,b.names,b.fine,b.sums,b.M,b.vals,b.jm,η,λo h=>by have:=j.2 o h;omega,λ_ o h=>by have:=j.2 o h;omega,λ_=>?_⟩,a⟩;have d:=b.set rfl;exact⟨λr g=>⟨λl e=>((a.H.H r g).qc l e).1,λl e=>⟨((a.H.H r g).qx l e).1,a.H.apart r g r g rfl l e⟩⟩,d.many,d.small,d.rows,d.facts,d.r⟩
end
section
open Classical
variable {t t0:List zf}{cs cs2:List zd}
def O0{c:Ψ}{l:zk}(b:∀e∈t,e.L=0)(h:vZ t l=Z c):∀e∈c,e.L=0:=by
 unfold vZ at h;split at h;split at h;simp only[zt] at h;subst h;exact b;cases h;simp only[zt] at h;subst h;intro e a;rcases sM.1 a with rfl|a;rfl;exact b e a
def eB:∀(ls done:Ω) (t:Ψ),VT t done->(∀e∈t,e.L=0)->(∀x∈done++ls,∀y∈done++ls,x.o=y.o->x.k.j=y.k.j)->∃c,ls.H uN (Z t)=Z c/\VT c (done++ls)/\∀e∈c,e.L=0
 |[],done,t,h,f,_=>⟨t,rfl,by simpa using h,f⟩
 |l::ls,done,t,h,f,i=>by
  rw[uQ];cases a:vZ t l with
  |none=>
   exfalso;unfold vZ at a;split at a
   .rename_i e r;obtain⟨k,q⟩:=pS r;split at a
    .cases a
    .rename_i g;obtain⟨j,d,b⟩:=(h.names e.name).1 (z9.2 ⟨e,k,rfl⟩);apply g;rw[←h.jh e k j d b];exact i j (by simp[d]) l ζ (b.A q)
   .cases a
  |some m=>
   rw[show uN (Z t) l=Z m from a];obtain⟨c,p,o,n⟩:=eB ls (done++[l]) m (h.step a) (O0 f a) (by simpa [B_] using i);exact⟨c,p,by simpa [B_] using o,n⟩
def DH{ls:Ω}(h:VT t ls){x y:zk}(d:x∈ls)(f:y∈ls)(e:x.o=y.o):x.k.j=y.k.j:=by
 obtain⟨a,c,b⟩:=z9.1 ((h.names x.o).2 ⟨x,d,rfl⟩);rw[h.jh a c x d b.z,h.jh a c y f (e.z.A b.z)]
def C7:∀{t g:Ψ},U4 t=U4 g->yw (U4 t)->(∀e∈t,∀d∈g,e.name=d.name->e.jh=d.jh/\e.L=d.L)->t=g
 |[],[],_,_,_=>rfl
 |[],_::_,h,_,_=>by cases h
 |_::_,[],h,_,_=>by cases h
 |⟨a,b,c⟩::r,⟨s,n,l⟩::p,h,m,k=>by
  simp only[U4,xU,m8] at h;obtain⟨rfl,h⟩:=h;obtain⟨i,j⟩:=k ⟨a,b,c⟩ ζ ⟨a,n,l⟩ ζ rfl;simp only at i j;subst i j;rw[C7 h (fZ.1 m).2 λe o d f q=>k e (by simp[o]) d (by simp[f]) q]
def Je(h:xV cs=Z t0)(hs:∀n k,(∃l∈cs2.flatMap zj,l.o=n/\l.k.j=k)↔∃l∈cs.flatMap zj,l.o=n/\l.k.j=k):xV cs2=Z t0:=by
 have D:=wy h;have w:∀x∈cs.flatMap zj,∀y∈cs.flatMap zj,x.o=y.o->x.k.j=y.k.j:=λx r y s e=>DH D r s e;have K:∀x∈cs2.flatMap zj,∀y∈cs2.flatMap zj,x.o=y.o->x.k.j=y.k.j:=λx r y s e=>by
  obtain⟨a,L,B,E⟩:=(hs x.o x.k.j).1 ⟨x,r,rfl,rfl⟩;obtain⟨b,A,C,H⟩:=(hs y.o y.k.j).1 ⟨y,s,rfl,rfl⟩;rw[←E,←H];exact w a L b A (by rw[B,C,e])
 obtain⟨u,u1,u2,u3⟩:=eB (cs.flatMap zj) [] [] rH (λe d=>by cases d) (by simpa using w);obtain⟨v,z,o,J⟩:=eB (cs2.flatMap zj) [] [] rH (λe d=>by cases d) (by simpa using K);rw[mo] at u2 o;have F:u=t0:=by unfold xV at h;rw[u1] at h;simpa using h
 subst F;unfold xV;rw[z];congr 1;have G:U4 v=U4 u:=Cm o.rise u2.rise λn=>by
  rw[o.names,u2.names];constructor;rintro⟨l,f,rfl⟩;obtain⟨m,g,i,_⟩:=(hs l.o l.k.j).1 ⟨l,f,rfl,rfl⟩;exact⟨m,g,i⟩;rintro⟨l,f,rfl⟩;obtain⟨m,g,i,_⟩:=(hs l.o l.k.j).2 ⟨l,f,rfl,rfl⟩;exact⟨m,g,i⟩
 refine C7 G o.rise λe d p c q=>⟨?_,by rw[J e d,u3 p c]⟩;obtain⟨l,f,j⟩:=(u2.names p.name).1 (z9.2 ⟨p,c,rfl⟩);obtain⟨m,g,i,I⟩:=(hs l.o l.k.j).2 ⟨l,f,rfl,rfl⟩;rw[←u2.jh p c l f j,←o.jh e d m g (by rw[i,j,q]),I]
def OP{ps:List Λ}(h:yw ps){i j:Nat}(c:i<ps.j)(b:j<ps.j)(e:ps[i]=ps[j]):i=j:=by
 unfold yw at h;rw[pd] at h;rcases nE i j with a|a|a;have:=h i j c b a;rw[e,UE] at this;cases this;exact a;have:=h j i b c a;rw[e,UE] at this;cases this
def Fv(h:yw (U4 t)){e:zf}(g:e∈t):val t e.name=e.L:=by
 obtain⟨k,b,rfl⟩:=vh.1 g;unfold val;rcases a:zO t t[k].name with _|e;exact zC rfl (mF h a t[k] (zr b));obtain⟨d,c,f⟩:=qr a;have i:=OP h (by simpa [U4] using d) (by simpa [U4] using b) (by simp[U4,c,f]);simp only;rw[←c];congr 1;congr 1
def iC(h:VT t (cs.flatMap zj)):gC t cs:=by
 intro c f l a;rcases g:zO t l.o with _|e;obtain⟨e,b,d⟩:=z9.1 ((h.names l.o).2 ⟨l,vg.2 ⟨c,f,a⟩,rfl⟩);exact zC d (mF h.rise g e b);rfl
def Di(h:∀e∈t,e.L=0)(n:Λ):val t n=0:=by
 unfold val;split;rename_i e a;exact h e (pS a).1;rfl
def Ga(h:xV cs=Z t0):∀e∈t0,e.L=0:=by
 have f:=wy h;obtain⟨u,u1,u2,u3⟩:=eB (cs.flatMap zj) [] [] rH (λe d=>by cases d) (λx a y b e=>DH f (by simpa using a) (by simpa using b) e);have c:u=t0:=by unfold xV at h;rw[u1] at h;simpa using h
 subst c;exact u3
def UH.least(h:UH cs t0 t):Vl cs (val t):=by
 have:=(sW (iC h.tab) (Di (Ga h.coll))).2 (by rw[h.jm]);rwa [h.jm] at this
def UH.nam(h:UH cs t0 t):U4 t=U4 t0/\Vn t=Vn t0:=by
 have a:=wt (t0.j+1) t0 cs (iC h.tab);have b:=nR (t0.j+1) t0 cs;rw[h.jm] at a b;exact⟨a,b⟩
def JS{d:Ψ}(k:yw (U4 t))(e:yw (U4 d))(j:Vn t=Vn d)(l:∀n,val t n=val d n):t=d:=by
 apply qR;have:=congrArg List.length j;simpa [Vn] using this;intro i g h;have q:(Vn t)[i]'(by simpa [Vn] using g)=(Vn d)[i]'(by simpa [Vn] using h):=by simp only[j]
 simp only[Vn,xM,yk] at q;have f:=l t[i].name;rw[Fv k (zr g),q.1,Fv e (zr h)] at f;generalize t[i]=x at *;generalize d[i]=y at *;obtain⟨a,b,c⟩:=x;obtain⟨o,p,m⟩:=y;simp only at q f;obtain⟨rfl,rfl⟩:=q;rw[f]
def MQ(h:UH cs t0 t)(g:xV cs2=Z t0)(hs:∀f,Vx cs2 f↔Vx cs f):xX (t0.j+1) t0 cs2=(t,true):=by
 have a:=wy g;have j:=sW (iC a) (Di (Ga g));have c:=j.1.2 ⟨_,(hs _).2 h.least.1⟩;have d:=j.2 c;have i:=wt (t0.j+1) t0 cs2 (iC a);have e:=nR (t0.j+1) t0 cs2;generalize xX (t0.j+1) t0 cs2=z at *;obtain⟨k,b⟩:=z;simp only at c d i e;subst c;congr 1;refine JS (by rw[i];exact a.rise) (by rw[h.nam.1];exact a.rise) (e.A h.nam.2.z) λn=>?_;exact Nat.le_antisymm (d.2 _ ((hs _).2 h.least.1) n) (h.least.2 _ ((hs _).1 d.1) n)
def UH.alike(h:UH cs t0 t)(d:VY cs2<=500)(b:∀c∈cs2,yT c=false)(a:∀c∈cs2,xu c=true)(hs:∀n k,(∃l∈cs2.flatMap zj,l.o=n/\l.k.j=k)↔∃l∈cs.flatMap zj,l.o=n/\l.k.j=k)(g:∀f,Vx cs2 f↔Vx cs f):UH cs2 t0 t:=
 have e:=Je h.coll hs
 ⟨d,b,e,wy e,a,MQ h e g⟩
def UH.same(h:UH cs t0 t)(a:∀c,c∈cs2↔c∈cs)(d:VY cs2<=500):UH cs2 t0 t:=by
 have e:∀l,l∈cs2.flatMap zj↔l∈cs.flatMap zj:=λl=>by simp only[vg,a]
 exact h.alike d (λc b=>h.many c ((a c).1 b)) (λc b=>h.safe c ((a c).1 b)) (λn k=>by simp only[e]) (λf=>by unfold Vx;simp only[a])
end
section
open Go.RowKit
def I9(t:List zf)(ns:κ)(D:DB)(f:zB):Prop:=∃p,p<t.j/\∃r m,D p r=Z m/\f=(vu t p,zY ns r (ye t p) 3,m)
def FQ(t:List zf)(ns:κ)(A:Option (DB×Nat))(b:List zf)(a:κ)(B:Option (DB×Nat)):Prop:=match A,B with
 |none,Y=>True
 |some (D,k),Z (E,l)=>k=l/\∀f,I9 t ns D f↔I9 b a E f
 |_,_=>False
end
section
open Classical
def F4{cs:Ξ}{d t:Ψ}(h:UH cs d t){c:zd}(b:c∈cs){l:zk}(a:l∈zj c):l.o∈U4 t:=by
 rw[h.nam.1];exact(h.tab.names l.o).2 ⟨l,vg.2 ⟨c,b,a⟩,rfl⟩
def DP{t:Ψ}{ns:List Λ}(cs:Ξ)(s:Nat):((uX t ns Y cs).filter λr=>decide (r.L=s))=[]↔¬∃c∈cs,0<c.d.j/\xO t c.g.o=s:=by
 rw[eN];constructor;rintro q ⟨c,g,a,d⟩;obtain⟨i,b,rfl⟩:=vh.1 g;have:=q _ (rU.2 ⟨i,b,a,rfl⟩);exact this (decide_eq_true d);intro q r f;obtain⟨i,b,a,rfl⟩:=rU.1 f;exact λe=>q ⟨_,zr b,a,of_decide_eq_true e⟩
def Rv{rs:List zv}{k:Nat}{D:DB}{p:Nat}{x:zl}{m:Nat}(h:D p x=Z m):zzs rs k D p x=Z m:=by
 unfold zzs;rw[h]
end
section
open Classical
variable {ns:κ}
def Vc(σ:ByteArray->ByteArray)(l:zk):κ:=l.k.w λa=>if zV a=true then σ a else a
def B9{i:Nat}(h:i<ns.j):ns.d i g_∈ns:=by
 rw[U8 _ h];exact zr h
def eR{cs:Ξ}{c:zd}(m:c∈cs){l:zk}(h:l∈zj c)(o:l.k.j<=3)(σ:Λ->Nat):zY (zp cs) (qI (zp cs) σ l) l.k.j 3=Vc (λv=>(zp cs).d (σ v) g_) l:=by
 have b:=dU cs;have a:∀i (d:i<l.k.j),(zp cs).d ((qI (zp cs) σ l).d i 0) g_=if zV l.k[i]=true then(zp cs).d (σ l.k[i]) g_ else l.k[i]:=by
  intro i d;have e:(qI (zp cs) σ l).d i 0=kJ (zp cs) σ l i:=by
   have:i=0∨i=1∨i=2:=η;rcases this with rfl|rfl|rfl<;>rfl
  rw[e];unfold kJ;rw[yn d];simp only;split;rfl;rename_i k;have j:=(b.2 _).2 ⟨c,m,l,h,zr d,by simpa using k⟩;obtain⟨v,f,n⟩:=Do b.1 j;rw[f];exact(ru f).2
 apply qR;simp[zY,Vc];intro i g p;have d:i<l.k.j:=by simpa [zY] using g
 simp only[zY,Vc,xM,fT];rw[zb η,a i d]
def Kv(s:yw ns){l:zk}{r:zl}(g:UL l.k.j r)(k:∀i,i<l.k.j->r.d i 0<ns.j){σ:Λ->Λ}(h:zY ns r l.k.j 3=Vc σ l):r=qI ns (λv=>(xr ns (σ v)).d 0) l:=by
 have d:∀i,i<3->r.d i 0=kJ ns (λv=>(xr ns (σ v)).d 0) l i:=by
  intro i p;unfold kJ;by_cases j:i<l.k.j;have e:(zY ns r l.k.j 3)[i]'(by rw[gM];exact j)=(Vc σ l)[i]'(by simp[Vc];exact j):=by simp only[h]
  simp only[zY,Vc,xM,fT] at e;rw[zb η] at e;have m:=tp s (k i j);rw[yn j];simp only;split;rename_i f;rw[zb f] at e;rw[←e,m];rfl;rename_i f;rw[za f] at e;rw[←e,m];rfl;rw[d8 η];exact g.2 i η
 match r,g.1 with
 |[a,b,c],_=>
  have o:=d 0 η;have n:=d 1 η;have q:=d 2 η;unfold qI;rw[←o,←n,←q];rfl
end
section
open Classical
abbrev yC:=List (ByteArray×ByteArray)
def UK:yC->ByteArray->Option ByteArray
 |[],_=>Y
 |x::B,t=>if x.1=t then Z x.2 else UK B t
def yv(B:yC)(t:ByteArray):ByteArray:=if zV t=true then(UK B t).d g_ else t
def xG:yC->κ->κ->Option yC
 |B,[],_=>Z B
 |B,a::b,row=>if yv B a=g_ then xG (B++[(a,row.headD g_)]) b row.tail else if yv B a=row.headD g_ then xG B b row.tail else Y
def yM(B:yC)(args:κ):κ:=args.w (yv B)
abbrev Xf:=List Bool×Bool
def tS(B C:yC)(t:Λ):UK (B++C) t=(UK B t).or (UK C t):=by
 induction B with
 |nil=>rfl
 |cons x B a=>
  rw[dM,UK,UK];split;rfl;exact a
def qT(B:yC):Prop:=∀v x,UK B v=Z x->x≠g_
def WG(B C:yC):Prop:=∀v x,UK B v=Z x->UK C v=Z x
def WG.A{A B C:yC}(h:WG A B)(k:WG B C):WG A C:=λv x q=>k v x (h v x q)
def pQ{B C:yC}(h:WG B C){t:Λ}(a:yv B t≠g_):yv C t=yv B t:=by
 unfold yv at *;split;rename_i q;rw[zb q] at a;rcases b:UK B t with _|x;rw[b] at a;exact zC rfl a;rw[h t x b];rfl
def sL:∀(args row:List Λ) (B b:yC),args.j=row.j->(∀x∈row,x≠g_)->(∀a∈args,a≠g_)->qT B->xG B args row=Z b->qT b/\WG B b/\yM b args=row
 |[],row,B,b,m,_,_,l,h=>by
  simp only[xG,zt] at h;subst h;have:row=[]:=by cases row with|nil=>rfl|cons a r=>simp at m
  subst this;exact⟨l,λv x q=>q,rfl⟩
 |a::f,[],B,b,m,_,_,_,_=>by simp at m
 |a::f,r::i,B,b,m,o,A,l,h=>by
  have k:f.j=i.j:=by simpa using m
  have u:=o r ζ;have w:=A a ζ;unfold xG at h;change (if yv B a=g_ then xG (B++[(a,r)]) f i else if yv B a=r then xG B f i else Y)=Z b at h;split at h
  .rename_i c;have d:zV a=true:=by
    false_or_by_contra
    rename_i q;unfold yv at c;rw[za q] at c;exact w c
   have p:UK B a=none:=by
    unfold yv at c;rw[zb d] at c;cases g:UK B a with
    |none=>rfl
    |some x=>rw[g] at c;exact zC c (l a x g)
   have z:qT (B++[(a,r)]):=by
    intro v x q;rw[tS] at q;cases g:UK B v with
    |some y=>rw[g] at q;simp only[D_,zt] at q;rw[←q];exact l v y g
    |none=>
     rw[g] at q;simp only[E_,UK] at q;split at q
     .simp only[zt] at q;rw[←q];exact u
     .cases q
   have C:WG B (B++[(a,r)]):=by
    intro v x q;rw[tS,q];rfl
   obtain⟨s,j,n⟩:=sL f i _ b k (λx e=>o x (by simp[e])) (λx e=>A x (by simp[e])) z h;refine⟨s,C.A j,?_⟩;unfold yM at n ⊢;rw[xU,n];congr 1;have:UK (B++[(a,r)]) a=Z r:=by
    rw[tS,p];simp[UK]
   unfold yv;rw[zb d,j a r this];rfl
  .rename_i c;by_cases t:yv B a=r
   .rw[zb t] at h;obtain⟨s,j,n⟩:=sL f i B b k (λx e=>o x (by simp[e])) (λx e=>A x (by simp[e])) l h;refine⟨s,j,?_⟩;unfold yM at n ⊢;rw[xU,n,pQ j c,t]
   .rw[za t] at h;cases h
def Wb(B:yC)(σ:ByteArray->ByteArray):Prop:=∀v x,UK B v=Z x->σ v=x
def eI{σ:Λ->Λ}(c:∀a,σ a≠g_):∀(args:List Λ) (B:yC),(∀a∈args,a≠g_)->Wb B σ->∃l,xG B args (args.w λa=>if zV a=true then σ a else a)=Z l/\Wb l σ
 |[],B,_,h=>⟨B,rfl,h⟩
 |a::k,B,g,h=>by
  unfold xG;simp only[xU,List.headD_cons,nc];by_cases b:zV a=true
  .rw[zb b];cases i:UK B a with
   |none=>
    have f:yv B a=g_:=by unfold yv;rw[zb b,i];rfl
    rw[zb f];refine eI c k _ (λx d=>g x (by simp[d])) λv x q=>?_;rw[tS] at q;cases j:UK B v with
    |some y=>rw[j] at q;simp only[D_,zt] at q;rw[←q];exact h v y j
    |none=>
     rw[j] at q;simp only[E_,UK] at q;split at q
     .rename_i e;simp only[zt] at q;rw[←q,e]
     .cases q
   |some x=>
    have d:=h a x i;have f:yv B a=x:=by unfold yv;rw[zb b,i];rfl
    rw[f,za (by rw[←d];exact c a),zb d.z];exact eI c k B (λx d=>g x (by simp[d])) h
  .have f:yv B a=a:=by unfold yv;rw[za b]
   rw[za b,f,za (g a ζ),zb rfl];exact eI c k B (λx d=>g x (by simp[d])) h
def ie{a:Λ}{row:List Λ}:∀{fs:Θ} {k:Nat},yS a row fs=Z k->∃e:k<fs.j,fs[k].1=a/\fs[k].2.1=row
 |[],_,h=>by cases h
 |f::fs,k,h=>by
  unfold yS at h;split at h
  .rename_i q;simp only[zt] at h;subst h;exact⟨ζ,by simpa using q⟩
  .obtain⟨j,c,rfl⟩:=qG.1 h;obtain⟨d,b⟩:=ie c;exact⟨by simpa using d,by simpa using b⟩
def Cp{a:Λ}{row:List Λ}:∀{fs:Θ},yS a row fs=Y->∀m,(a,row,m)∉fs
 |[],_,m,h=>by cases h
 |f::fs,b,m,h=>by
  unfold yS at b;split at b
  .cases b
  .rename_i q;rw[Option.map_eq_none_iff] at b;rcases z7.1 h with e|h
   .rw[←e] at q;exact q ⟨rfl,rfl⟩
   .exact Cp b m h
def rA(a b:Xf):Prop:=b.1.j=a.1.j/\∀i,a.1.d i false=true->b.1.d i false=true
def rA.refl(a:Xf):rA a a:=⟨rfl,λ_ h=>h⟩
def rA.A{a b c:Xf}(h:rA a b)(k:rA b c):rA a c:=⟨k.1.A h.1,λi q=>k.2 i (h.2 i q)⟩
def Wb.val{B:yC}{σ:Λ->Λ}(h:Wb B σ){a:Λ}(b:yv B a≠g_):yv B a=if zV a=true then σ a else a:=by
 unfold yv at *;split;rename_i q;rw[zb q] at b;rcases c:UK B a with _|x;rw[c] at b;exact zC rfl b;rw[h a x c];rfl;rfl
end
section
open Go.RowKit
def xE(B:yC):κ:=B.w (·.1)
def ui(B:yC):κ:=B.w (·.2)
def SM{B:yC}{k:Nat}(a:k<B.j)(t:Λ):UK (B.drop k) t=if B[k].1=t then Z B[k].2 else UK (B.drop (k+1)) t:=by
 rw[yK a];rfl
end
section
open Go.Proofs.Tryz Go.RowKit
def dD(B:yC)(t:ByteArray):Bool:=!zV t||(UK B t).I
def DY{lo C:Nat}(w:U)(M N:O)(B:yC)(t:Λ)(v:U7 lo w M (xE B))(x:U7 C w N (ui B))(hl:B.j<=1000)(P:0<t.q):
  c_ e_ 211 #[.agg #[M,N],.g t] w λe G=>e=ε (.B #[.g (yv B t),.i (dD B t)])/\X (μ w G):=by
 have f:X (∀W,c_ e_ 154 #[.g t] W λe G=>e=ε (.i (zV t))/\G=W):=λW=>oq t W P;have J:(xE B).j=B.j:=by simp[xE]
 have I:(ui B).j=B.j:=by simp[ui]
 obtain⟨i,b,rfl⟩:=v.qm;obtain⟨j,a,rfl⟩:=x.qm;rw[J] at v ⊢;rw[I] at x ⊢;have s:X (∀W k (n:k<B.j),μ w W->∃g,i=Z (δ g)/\g<W.o.q/\W.p (ω g k)=Z (.g B[k].1)):=λW k n z=>by
  obtain⟨g,K,E,A⟩:=(v.u z).cell k (by rw[J];exact n);exact⟨g,K,E,by rw[A];simp[xE]⟩
 have r:X (∀W k (n:k<B.j),μ w W->∃g,j=Z (δ g)/\g<W.o.q/\W.p (ω g k)=Z (.g B[k].2)):=λW k n z=>by
  obtain⟨g,K,E,A⟩:=(x.u z).cell k (by rw[I];exact n);exact⟨g,K,E,by rw[A];simp[ui]⟩
 clear v x J I;cases q:zV t
 .rw[q] at f;have d:X (yv B t=t/\dD B t=true):=by unfold X yv dD;rw[q];simp
  clear q s r;go_enter func211,ntmps211;go_wp2_with (go_at_call 154;refine(f.l _).y ?_;rintro e T ⟨rfl,m⟩;obtain rfl:=m.z)
  go_ret2
  exact⟨by rw[d.l.1,d.l.2];rfl,(zn _ _).C (ze _) _⟩
 rw[q] at f;have d:X (yv B t=(UK B t).d g_/\dD B t=(UK B t).I):=by unfold X yv dD;rw[q];simp
 clear q;go_enter func211,ntmps211;go_wp2_with (go_at_call 154;refine(f.l _).y ?_;rintro e T ⟨rfl,m⟩;obtain rfl:=m.z)
 have h:X (μ w (w.C (.E #[.k i B.j b,.k j B.j a] 270))):=(zn _ _).C (ze _) _;have u:=U3.new w #[.k i B.j b,.k j B.j a] 270;obtain⟨hc,hf,aa⟩:=u.I;clear u;generalize y:w.C (.E #[.k i B.j b,.k j B.j a] 270)=wA at *;clear y;go_loopw [7] (λL wr=>∃k:Nat,k<=B.j/\L=ι k/\X (UK B t=UK (B.drop k) t)/\wr=wA) (λL _=>B.j-(d_ L).D);exact⟨0,zs _,rfl,rfl,rfl⟩;obtain⟨k,n,rfl,H,F⟩:=hrel;obtain rfl:=F.z;by_cases l:k<B.j
 .have D:(k:Int)<(B.j:Int):=η;obtain⟨g1,rfl,R,c1⟩:=s.l _ k l h.l;obtain⟨g2,rfl,ab,c2⟩:=r.l _ k l h.l;have o:=SM l t;by_cases p:B[k].1=t
  .have Q:=qH p;rw[zb p] at o;have c:X (yv B t=B[k].2/\dD B t=true):=by rw[X,d.l.1,d.l.2,H.l,o];exact⟨rfl,rfl⟩
   clear p o H d;generalize B[k].1=S at *;generalize B[k].2=x2 at *;go_wp2;go_ret2
   exact⟨by rw[c.l.1,c.l.2];rfl,h⟩
  have Q:=vn p;rw[za p] at o;have V:X (UK B t=UK (B.drop (k+1)) t):=by rw[X,H.l,o]
  clear p o H;generalize B[k].1=S at *;go_wp2;go_roundw;exact⟨k+1,η,ξ,V,trivial⟩;simp[d_];omega
 have D:¬(k:Int)<(B.j:Int):=η;have c:X (yv B t=g_/\dD B t=false):=by
  rw[X,d.l.1,d.l.2,H.l,uk η];exact⟨rfl,rfl⟩
 clear H d;go_wp2;go_ret2
 exact⟨by rw[c.l.1,c.l.2];rfl,h⟩
def KB{lo K lo3:Nat}(w:U)(f i av:O)(B:yC)(args:List Λ)(h1:U7 lo w f (xE B))(h2:U7 K w i (ui B))(P:U7 lo3 w av args)(hl:B.j<=1000)(ha:args.j<=1000)(V:∀a∈args,0<a.q):
  c_ e_ 195 #[.agg #[f,i],av] w λe b=>∃v,e=.returned v/\X (U7 w.o.q b v (yM B args))/\X (μ w b):=by
 obtain⟨i0,hi,I,Q,R⟩:=info_parts Uw;have M:=U2 λW t m E=>DY W f i B t (h1.u m) (h2.u m) hl E;obtain⟨ao,aj,rfl⟩:=P.qm;have HA:X (∀W k (G:k<args.j),μ w W->∃g,ao=Z ⟨g,0,Y⟩/\g<W.o.q/\W.p ⟨g,k,Y⟩=Z (.g args[k])):=λW k G m=>(P.u m).cell k G;clear h1 h2 P;go_enter func195,ntmps195;go_wp2;have z:X (μ w (w.C (.E #[f,i] 270))):=(zn _ _).C (ze _) _;have p:=U3.new w #[f,i] 270;have C:=U2 p;have ag:=p.lt;clear p;generalize D:w.C (.E #[f,i] 270)=A at *;clear D;go_loopw [5,6] (λv5 v6 wr=>∃k:Nat,k<=args.j/\v6=ι k/\wr.r A.o.q 9 1 v5 k ((yM B (args.G k)).map k_)/\X (μ A wr)) (λ_ v6 _=>args.j-(d_ v6).D);exact⟨0,zs _,rfl,xj _ _ _ _,zn _ _⟩;obtain⟨k,G,rfl,d,h⟩:=hrel;obtain⟨ah,ae,rfl⟩:=zq d;have r:=U2 (U6 z.l (h.l));have af:=h.l.q;by_cases n:k<args.j
 .have N:(k:Int)<(args.j:Int):=η;obtain⟨g,rfl,hg,u⟩:=HA.l _ k n r.l;have E:=V _ (zr n);have c:=(C.l.u h.l);obtain⟨hc,hf,ab⟩:=c.I;have H:X (yM B (args.G (k+1))=yM B (args.G k)++[yv B args[k]]):=by
   unfold X yM;rw[yF n,uY];rfl
  have HV:X (∀W,μ wr W->c_ e_ 211 #[.agg #[f,i],.g args[k]] W λe b=>e=ε (.B #[.g (yv B args[k]),.i (dD B args[k])])/\X (μ wr b)/\b.p ⟨g,k,Y⟩=Z (.g args[k])/\b.p ⟨w.o.q,0,Y⟩=Z f/\b.p ⟨w.o.q,1,Y⟩=Z i):=λW m=>by
   refine(M.l W args[k] (U6 r.l m) E).y ?_;rintro e b ⟨q1,q2⟩;have l:=U6 m q2.l;have s:=c.u l;exact⟨q1,l,(zi l hg u),by rw[s.H.1];rfl,by rw[s.H.1];rfl⟩
  clear c;generalize yv B args[k]=x at *;generalize dD B args[k]=kn at *;generalize args[k]=y at *;go_upto_region 5 with fail
  go_cut [7,8] from 15 to 23 (λs7 _ wx=>s7=.g x/\X (μ wr wx))
  .go_region_held3 (λb=>b.p ⟨g,k,Y⟩=Z (.g y)/\b.p ⟨w.o.q,0,Y⟩=Z f/\b.p ⟨w.o.q,1,Y⟩=Z i) (first|go_keep|(go_simp;done)) (first|(go_at_call 211;refine(HV.l _ φ).y ?_;rintro e w5 ⟨rfl,L,z0,z1,z2⟩))
   go_wp2;go_meet
   exact⟨rfl,L⟩
  obtain⟨rfl,o⟩:=hcut;have T:=zy d o.l;have ad:=o.l.q;have j:=U2 (U6 h.l o.l);clear hc hf u;go_wp2_with (at_builtin;refine kU wc _ _ _ rfl (.tmp 24) (.tmp 26) 30 rfl A.o.q 9 i0 _ 1 16 underlying30 hi I Q R rfl θ _ _ _ rfl T (zn _ _) _ _ rfl ζ rfl a_ η η j.l.q ?_;intro v' w2 F S aa J ai ac;clear aa J)
  go_roundw;exact⟨k+1,η,ξ,by rw[H.l];simpa using F,j.l.A S⟩;simp[d_];omega
 have N:¬(k:Int)<(args.j:Int):=η;obtain rfl:k=args.j:=η;go_wp2;go_ret;refine⟨_,rfl,?_,r⟩;have q:=d;rw[ve] at q;have e:(yM B args).j=args.j:=by simp[yM]
 unfold X U7;rw[e];exact yq q (by have:=z.l.q;omega)
section
variable {ops:Array Oper} {rest:List Oper} {o:Oper} {a:Act} {Q:Exit->Act->U->Prop}
def FH{lo:Nat}{w:U}(c:o.guard=Y)(s x:Operand)
  (A:o.op=.call {callee:=.builtin .append,args:=#[s,x],argTypes:=#[30,30]})
  (b:List Λ) (v:O) (z:a.eval s=ν) (D:a.eval x=v) (J:U7 lo w v b) (R:b.j<=1000000)
  (h:∀t q,U7 w.o.q q t b->μ w q->wpList e_ ops Q rest (a.put o.dst t) q):
  wpList e_ ops Q (o::rest) a w:=by
 obtain⟨C,E,g,m,n⟩:=info_parts Uw;obtain⟨_,⟨r,M⟩|⟨B,d,L,r,G,H,I,N,K,l⟩⟩:=J;have p:b=[]:=lK M;refine wpList_append_own_none c s x 30 A w.o.q 9 C 1 underlying30 E _ 0 [] z (xj _ _ _ _) (by rw[D,r]) ?_;refine h _ _ ?_ (zn _ _);rw[p];exact xj _ _ _ _;have i:∀j u,(b.map k_)[j]?=Z u->w.p (Addr.add (δ B) j)=Z u:=λj u e=>by
  rw[Addr.add_lit,uM];unfold U.cell?;rw[H];simp only;rw[←l,mH] at e;split at e;simpa using e;simp at e
 refine wpList_append_own _ c s x 30 A w.o.q 9 C _ 1 16 underlying30 E g m n rfl θ _ 0 [] z (xj _ _ _ _) (δ B) b.j d (b.map k_) (by rw[D,r]) ζ i a_ b_ η (ze _) ?_;intro t P f y _;refine h _ _ ?_ ((zn _ _).grown y (ze _) (λk F=>by cases F));simpa [U7] using f
end
def Cr{w:U}{b:Nat}{c:Array O}{T:f_}(h:U3 w b c T)(o:Obj):U3 (w.C o) b c T:=h.u ((zn _ _).C (ze _) o)
structure CB (lo:Nat) (w:U) (cb:Nat) (B:yC) (v1 v2:O):Prop where
 box:U3 w cb #[v1,v2] 111
 fst:w.r lo 9 1 v1 B.j ((xE B).map k_)
 snd:w.r lo 9 1 v2 B.j ((ui B).map k_)
 ne:∀b,v1.m=Z b->v2.m≠Z b
def oX(B:yC):(xE B).j=B.j:=by simp[xE]
def Cl(B:yC):(ui B).j=B.j:=by simp[ui]
def CB.u{lo:Nat}{w w':U}{c:Nat}{B:yC}{v1 v2:O}(h:CB lo w c B v1 v2)(b:μ w w'):CB lo w' c B v1 v2:=⟨h.box.u b,zy h.fst b,zy h.snd b,h.ne⟩
def SI{B:yC}{args row:List Λ}{k:Nat}(b:k<args.j)(c:k<row.j):xG B (args.drop k) (row.drop k)=if yv B args[k]=g_ then xG (B++[(args[k],row[k])]) (args.drop (k+1)) (row.drop (k+1)) else if yv B args[k]=row[k] then xG B (args.drop (k+1)) (row.drop (k+1)) else none:=by
 rw[yK b,yK c];rfl
end
section
open Classical
def yz(fs:List zB)(h:zk)(body:List zk):List zk->yC->List (κ)
 |[],B=>if (body.any λl=>l.i&&(yS l.o (yM B l.k) fs).I)=true then [] else [yM B h.k]
 |l::rest,B=>if l.i=true then yz fs h body rest B else fs.flatMap λf=>if f.1=l.o then(match xG B l.k f.2.1 with|none=>[]|some a=>yz fs h body rest a) else []
structure sN (cs:List zd) (fs:List zB):Prop where
 jh:∀f∈fs,∀c∈cs,∀l∈zj c,l.o=f.1->f.2.1.j=l.k.j
 ne:∀f∈fs,∀x∈f.2.1,x≠g_
def rO(fs:List zB)(c:zd)(x:κ):Prop:=∃σ:ByteArray->ByteArray,(∀a,σ a≠g_)/\(∀l∈c.d,l.i=false->∃m,(l.o,Vc σ l,m)∈fs)/\(∀l∈c.d,l.i=true->∀m,(l.o,Vc σ l,m)∉fs)/\x=Vc σ c.g
def sJ{fs:Θ}{p:Λ}{r:List Λ}:(yS p r fs).I=true↔∃m,(p,r,m)∈fs:=by
 rcases a:yS p r fs with _|k;exact⟨λq=>(by cases q),fun⟨m,c⟩=>zC c (Cp a m)⟩;obtain⟨d,b,e⟩:=ie a;exact⟨λ_=>⟨fs[k].2.2,by rw[←b,←e];exact zr d⟩,λ_=>rfl⟩
def A9{cs:Ξ}{fs:Θ}(s:sN cs fs){c:zd}(A:c∈cs)(p:∀l∈zj c,∀a∈l.k,a≠g_)(i:∀l∈zj c,∀y∈l.k,zV y=true->y∈zu c){x:List Λ}:∀(rest done:Ω) (B:yC),c.d=done++rest->qT B->(∀l∈done,l.i=false->(∃m,(l.o,yM B l.k,m)∈fs)/\∀a∈l.k,yv B a≠g_)->x∈yz fs c.g c.d rest B->rO fs c x
 |[],done,B,e,D,u,d=>by
  rw[vD] at e;unfold yz at d;split at d
  .cases d
  .rename_i C;rw[xo] at d;have b:∀l∈zj c,yM B l.k=Vc (λv=>if (UK B v).d g_=g_ then⟨#[0]⟩ else(UK B v).d g_) l:=by
    intro l o;refine d9 λa k=>?_;unfold yv;split
    .rename_i K;obtain⟨_,n,h,f,z⟩:=fo.1 (i l o a k K);have:=(u n (by rw[←e];exact h) f).2 a z;unfold yv at this;rw[zb K] at this;exact(za this).z
    .rfl
   refine⟨_,λa=>?_,λl o w=>?_,λl o w m F=>C ?_,d.A (b _ (by simp[zj]))⟩
   .split
    .decide
    .assumption
   .rw[←b l (by simp[zj,o])];exact(u l (by rw[←e];exact o) w).1
   .rw[←b l (by simp[zj,o])] at F;rw[fa];exact⟨l,o,by rw[w,pk];exact sJ.2 ⟨m,F⟩⟩
 |l::rest,done,B,e,D,u,d=>by
  have I:c.d=(done++[l])++rest:=by rw[e];simp
  have t:l∈zj c:=by simp[zj,e]
  unfold yz at d;split at d
  .rename_i w;refine A9 s A p i rest (done++[l]) B I D (λn h f=>?_) d;rcases zW.1 h with q|q
   .exact u n q f
   .rw[xo.1 q,w] at f;cases f
  .obtain⟨g,j,d⟩:=vg.1 d;split at d
   .rename_i H;split at d
    .cases d
    .rename_i r L;obtain⟨M,G,J⟩:=sL l.k g.2.1 B r (s.jh g j c A l t H.z).z (s.ne g j) (p l t) D L;refine A9 s A p i rest (done++[l]) r I M (λn h f=>?_) d;rcases zW.1 h with q|q
     .obtain⟨⟨m,N⟩,E⟩:=u n q f;have b:yM r n.k=yM B n.k:=d9 λa k=>pQ G (E a k);exact⟨⟨m,by rw[b];exact N⟩,λa k=>by rw[pQ G (E a k)];exact E a k⟩
     .rw[xo.1 q];refine⟨⟨g.2.2,by rw[J,←H];exact j⟩,λa k=>?_⟩;have:yv r a∈yM r l.k:=z9.2 ⟨a,k,rfl⟩;rw[J] at this;exact s.ne g j _ this
   .cases d
def Aw{fs:Θ}{c:zd}(d:∀l∈zj c,∀a∈l.k,a≠g_)(i:∀l∈zj c,∀y∈l.k,zV y=true->y∈zu c){σ:Λ->Λ}(j:∀a,σ a≠g_)(h:∀l∈c.d,l.i=false->∃m,(l.o,Vc σ l,m)∈fs)(f:∀l∈c.d,l.i=true->∀m,(l.o,Vc σ l,m)∉fs):∀(rest done:Ω) (B:yC),c.d=done++rest->qT B->Wb B σ->(∀l∈done,l.i=false->∀a∈l.k,yv B a≠g_)->Vc σ c.g∈yz fs c.g c.d rest B
 |[],done,B,e,D,z,t=>by
  rw[vD] at e;have n:∀l∈zj c,yM B l.k=Vc σ l:=by
   intro l v;refine d9 λa k=>z.val ?_;by_cases I:zV a=true
   .obtain⟨_,p,g,b,A⟩:=fo.1 (i l v a k I);exact t p (by rw[←e];exact g) b a A
   .unfold yv;rw[za I];exact d l v a k
  unfold yz;rw[za]
  .rw[n c.g (by simp[zj])];simp
  .intro q;rw[fa] at q;obtain⟨l,v,C⟩:=q;rw[uK,n l (by simp[zj,v])] at C;obtain⟨m,K⟩:=sJ.1 C.2;exact f l v C.1 m K
 |l::rest,done,B,e,D,z,t=>by
  have H:c.d=(done++[l])++rest:=by rw[e];simp
  have s:l∈c.d:=by rw[e];simp
  have o:l∈zj c:=by simp[zj,s]
  unfold yz;split
  .rename_i F;refine Aw d i j h f rest (done++[l]) B H D z λp g b=>?_;rcases zW.1 g with q|q
   .exact t p q b
   .rw[xo.1 q,F] at b;cases b
  .rename_i F;obtain⟨m,J⟩:=h l s (by simpa using F);obtain⟨r,E,G⟩:=eI j l.k B (d l o) z;have w:xG B l.k (Vc σ l)=Z r:=E;have u:∀x∈Vc σ l,x≠g_:=by
    intro x N;obtain⟨a,k,rfl⟩:=z9.1 N;split
    .exact j a
    .exact d l o a k
   obtain⟨M,L,P⟩:=sL l.k (Vc σ l) B r (by simp[Vc]) u (d l o) D w;refine vg.2 ⟨_,J,?_⟩;rw[zb rfl,w];refine Aw d i j h f rest (done++[l]) r H M G λp g b a k=>?_;rcases zW.1 g with q|q
   .rw[pQ L (t p q b a k)];exact t p q b a k
   .rw[xo.1 q] at k;have:yv r a∈yM r l.k:=z9.2 ⟨a,k,rfl⟩;rw[P] at this;exact u _ this
def Ea{cs:Ξ}{fs:Θ}(k:sN cs fs){c:zd}(j:c∈cs)(d:∀l∈zj c,∀a∈l.k,a≠g_)(b:∀l∈zj c,∀y∈l.k,zV y=true->y∈zu c){x:List Λ}:x∈yz fs c.g c.d c.d []↔rO fs c x:=
 ⟨A9 k j d b c.d [] [] rfl (λv x q=>by cases q) (λl e=>by cases e),fun⟨_,f,i,g,h⟩=>h ▸ Aw d b f i g c.d [] [] rfl (λv x q=>by cases q) (λv x q=>by cases q) (λl e=>by cases e)⟩
end
section
open Classical
variable {t:List zf}{cs:List zd}{L:List zB}{D:DB}{c:zd}
def BV(a:yw (U4 t)){p:Nat}(f:p<t.j):zO t t[p].name=Z t[p]/\zM t t[p].name=p:=by
 have d:zM t t[p].name=p:=by
  rcases nE (zM t t[p].name) p with q|q|q;have b:=tI t t[p].name a t[zM t t[p].name] (by
   rw[vh];exact⟨0,by simp;omega,ζ⟩)
  have e:=pd.1 a (zM t t[p].name) p (by simp[U4];omega) (by simp[U4];omega) q;simp only[U4,xM] at e;rw[e] at b;cases b;exact q;have b:=tP t t[p].name t[p] (by
   rw[vh];exact⟨p,by simp;omega,ζ⟩)
  rw[UE] at b;cases b
 refine⟨?_,d⟩;unfold zO;rw[d,yn f];simp
def dL(a:yw (U4 t)){p:Nat}(d:p<t.j):zE t (vu t p)=p/\vu t p=t[p].name:=by
 have e:vu t p=t[p].name:=by unfold vu U4;simp[i_,d]
 obtain⟨f,b⟩:=BV a d;rw[e];exact⟨by unfold zE;rw[f,b];rfl,rfl⟩
structure Vp (t:List zf) (ns:κ) (L:List zB) (D:DB):Prop where
 mem:∀f,f∈L↔∃p,p<t.j/\∃r m,D p r=Z m/\f=(vu t p,zY ns r (ye t p) 3,m)
 once:L.Nodup
 ok:wk (t.w (·.jh)) D
 inside:oh (t.w (·.jh)) ns.j D
structure uf (cs:List zd) (t:List zf):Prop where
 words:∀c∈cs,rn c
 lit:∀c∈cs,∀l∈zj c,zE t l.o<t.j/\ye t (zE t l.o)=l.k.j/\vu t (zE t l.o)=l.o/\l.k.j<=3
 rise:yw (U4 t)
 small:∀p,p<t.j->ye t p<=3
 cov:∀c∈cs,∀l∈zj c,∀y∈l.k,zV y=true->y∈zu c
def uf.of{a:Ψ}(s:∀c∈cs,rn c)(h:UH cs a t):uf cs t:=by
 have d:Vn t=Vn a:=by have:=nR (a.j+1) a cs;rw[h.jm] at this;exact this
 have o:U4 t=U4 a:=by
  have:=congrArg (List.map Prod.fst) d;simpa [Vn,U4,Function.comp_def] using this
 have f:yw (U4 t):=by rw[o];exact h.tab.rise
 have n:∀i (k:i<cs.j),jX (yL ((uo Y i).d [])) (zu cs[i]).j:=λi k=>pX (fO (h.many _ (zr k)));refine⟨s,λc b l g=>?_,f,λp q=>?_,λc b=>h.covered b⟩;obtain⟨e,u,r,j,x,w⟩:=h.lit b g;obtain⟨B,y,z⟩:=qr u;refine⟨j,x,?_,?_⟩;rw[(dL f j).2];have:t[zE t l.o]=e:=by simp only[w,y]
 rw[this,r];obtain⟨m,A,v,_⟩:=ny (h.many c b);rcases z7.1 g with rfl|q;exact m;exact v l q;unfold ye;rw[U8 _ (by simpa using q)];exact(th h (zp cs) Y n).small _ (zr _)
def uf.ne{cs:Ξ}{t:Ψ}(h:uf cs t){c:zd}(d:c∈cs):∀l∈zj c,∀a∈l.k,a≠g_:=by
 intro l g a f e;have b:nQ l:=by
  rcases z7.1 g with rfl|q;exact(h.words c d).2.1;exact(h.words c d).2.2 l q
 have:=(b.2 a f).ne;rw[e] at this;exact this rfl
def uf.nsz(h:uf cs t):∀y∈zp cs,y≠g_:=by
 intro y b;obtain⟨c,e,l,d,a,_⟩:=((dU cs).2 y).1 b;exact h.ne e l d y a
def Vp.lit{cs:Ξ}{t:Ψ}{L:Θ}{D:DB}(b:uf cs t)(h:Vp t (zp cs) L D){c:zd}(o:c∈cs){l:zk}(k:l∈zj c)(row:List Λ)(m:Nat):(l.o,row,m)∈L↔∃r,D (zE t l.o) r=Z m/\row=zY (zp cs) r l.k.j 3:=by
 obtain⟨g,d,f,q⟩:=b.lit c o l k;rw[h.mem];constructor;rintro⟨p,n,r,s,a,e⟩;simp only[yk] at e;obtain⟨j,i,rfl⟩:=e;have:zE t l.o=p:=by rw[j];exact(dL b.rise n).1
 subst this;exact⟨r,a,by rw[i,d]⟩;rintro⟨r,a,rfl⟩;exact⟨zE t l.o,g,r,m,a,by rw[d,f]⟩
def Vp.can(f:uf cs t)(h:Vp t (zp cs) L D)(j:c∈cs){l:zk}(g:l∈zj c){r:zl}(b:UD D (zE t l.o) r):UL l.k.j r/\∀i,i<l.k.j->r.d i 0<(zp cs).j:=by
 have d:=(h.ok _ _ b).2;have a:=h.inside _ _ b;have e:(t.w (·.jh)).d (zE t l.o) 0=l.k.j:=(f.lit c j l g).2.1;rw[e] at d a;exact⟨d,a⟩
def Vp.fs(b:uf cs t)(h:Vp t (zp cs) L D):sN cs L:=by
 refine⟨?_,?_⟩;intro f d c o l k e;obtain⟨s,row,m⟩:=f;simp only at e ⊢;subst e;obtain⟨r,_,rfl⟩:=(h.lit b o k row m).1 d;rw[gM];intro f d x a;obtain⟨p,n,r,m,g,rfl⟩:=(h.mem f).1 d;have j:=h.inside p r (by unfold UD;rw[g];rfl);simp only[zY,z9,qF] at a;obtain⟨i,q,rfl⟩:=a;have:=b.small p n;rw[zb η];exact b.nsz _ (B9 (j i q))
def Bl(ns:List Λ)(σ:Λ->Nat)(l:zk){i:Nat}(a:i<3):(qI ns σ l).d i 0=kJ ns σ l i:=by
 have:i=0∨i=1∨i=2:=η;rcases this with rfl|rfl|rfl<;>rfl
def uf.can(n:uf cs t)(m:c∈cs){σ:Λ->Nat}(g:∀v∈zu c,σ v<(zp cs).j):∀l∈zj c,UL l.k.j (qI (zp cs) σ l)/\∀i,i<l.k.j->(qI (zp cs) σ l).d i 0<(zp cs).j:=by
 have b:=dU cs;intro l h;have q:=(n.lit c m l h).2.2.2;refine⟨⟨rfl,λi d=>?_⟩,λi d=>?_⟩;by_cases o:i<3;rw[Bl _ _ _ o];unfold kJ;rw[d8 d];rw[i_,d8 (by simp[qI];omega)];rfl;rw[Bl _ _ _ η];unfold kJ;rw[yn d];simp only;split;rename_i j;exact g _ (n.cov c m l h _ (zr d) j);rename_i j;have p:=(b.2 _).2 ⟨c,m,l,h,zr d,by simpa using j⟩;obtain⟨k,f,e⟩:=vh.1 p;have a:=tp b.1 f;rw[i_,yn f,uF,e] at a;rw[a];exact f
def Vp.der1(g:uf cs t)(h:Vp t (zp cs) L D)(f:c∈cs){r:zl}(J:ey t (zp cs) c D r):rO L c (zY (zp cs) r c.g.k.j 3)/\UL c.g.k.j r/\∀i,i<c.g.k.j->r.d i 0<(zp cs).j:=by
 obtain⟨σ,B,G,C⟩:=J;have p:=dU cs;have k:∀v∈zu c,σ v<(zp cs).j:=by
  intro v A;obtain⟨s,l,d,o,x⟩:=fo.1 A;have b:l∈zj c:=by simp[zj,d]
  obtain⟨u,y⟩:=h.can g f b (B l d o);obtain⟨i,E,rfl⟩:=vh.1 x;have z:=(g.lit c f l b).2.2.2;have:=y i E;rw[Bl _ _ _ η] at this;unfold kJ at this;rw[yn E] at this;simpa only[zb s] using this
 have e:=g.can f k;have j:∀l∈zj c,Vc (λv=>if v∈zu c then(zp cs).d (σ v) g_ else⟨#[0]⟩) l=zY (zp cs) (qI (zp cs) σ l) l.k.j 3:=by
  intro l d;rw[eR f d (g.lit c f l d).2.2.2];unfold Vc;refine d9 λa I=>?_;split;rename_i A;exact zb (g.cov c f l d a I A);rfl
 have n:c.g∈zj c:=by simp[zj]
 refine⟨⟨_,λa=>?_,λl d o=>?_,λl d o m w=>?_,by rw[j _ n,C]⟩,by rw[C];exact e _ n⟩;split;rename_i q;exact g.nsz _ (B9 (k a q));decide;have b:l∈zj c:=by simp[zj,d]
 obtain⟨m,w⟩:=my.1 (B l d o);exact⟨m,(h.lit g f b _ m).2 ⟨_,w,j l b⟩⟩;have b:l∈zj c:=by simp[zj,d]
 obtain⟨K,u,y⟩:=(h.lit g f b _ m).1 w;obtain⟨H,N⟩:=h.can g f b (r:=K) (by unfold UD;rw[u];rfl);have z:=(g.lit c f l b).2.2.2;have F:=ma p.1 z H N;have M:=ma p.1 z (e l b).1 (e l b).2;rw[←y,j l b,M,zt] at F;rw[←F,G l d o] at u;cases u
def Vp.der2(g:uf cs t)(h:Vp t (zp cs) L D)(d:c∈cs){x:List Λ}(I:rO L c x):∃r,ey t (zp cs) c D r/\x=zY (zp cs) r c.g.k.j 3:=by
 obtain⟨σ,_,C,J,rfl⟩:=I;have q:=dU cs;have G:∀l∈c.d,l.i=false->UD D (zE t l.o) (qI (zp cs) (λv=>(xr (zp cs) (σ v)).d 0) l):=by
  intro l f p;have b:l∈zj c:=by simp[zj,f]
  obtain⟨m,u⟩:=C l f p;obtain⟨r,k,e⟩:=(h.lit g d b _ m).1 u;have E:UD D (zE t l.o) r:=by unfold UD;rw[k];rfl
  obtain⟨F,y⟩:=h.can g d b E;rw[←Kv q.1 F y e.z];exact E
 have o:∀v∈zu c,(zp cs).d ((xr (zp cs) (σ v)).d 0) g_=σ v:=by
  intro v B;obtain⟨s,l,f,p,w⟩:=fo.1 B;have b:l∈zj c:=by simp[zj,f]
  obtain⟨m,u⟩:=C l f p;obtain⟨r,k,e⟩:=(h.lit g d b _ m).1 u;obtain⟨F,y⟩:=h.can g d b (r:=r) (by unfold UD;rw[k];rfl);have K:=(g.lit c d l b).2.2.2;obtain⟨i,z,rfl⟩:=vh.1 w;have A:(zY (zp cs) r l.k.j 3)[i]'(by rw[gM];exact z)=(Vc σ l)[i]'(by simp[Vc];exact z):=by simp only[←e]
  simp only[zY,Vc,xM,fT] at A;rw[zb η,zb s] at A;rw[←A,tp q.1 (y i z)];rfl
 have n:∀l∈zj c,Vc (λv=>(zp cs).d ((xr (zp cs) (σ v)).d 0) g_) l=Vc σ l:=by
  intro l f;refine d9 λa H=>?_;split;rename_i B;exact o a (g.cov c d l f a H B);rfl
 have j:c.g∈zj c:=by simp[zj]
 refine⟨_,⟨_,G,λl f p=>?_,rfl⟩,by rw[eR d j (g.lit c d c.g j).2.2.2,n c.g j]⟩;have b:l∈zj c:=by simp[zj,f]
 rcases k:D (zE t l.o) (qI (zp cs) (λv=>(xr (zp cs) (σ v)).d 0) l) with _|m;rfl;exfalso;refine J l f p m ((h.lit g d b _ m).2 ⟨_,k,?_⟩);rw[eR d b (g.lit c d l b).2.2.2,n l b]
end
section
open Classical
variable {cs:List zd}{t:List zf}{L:List zB}
def uz(fs l:List zB)(f:zB):List zB:=if (yS f.1 f.2.1 fs).I=true∨(yS f.1 f.2.1 l).I=true then l else l++[f]
def oi{fs:Θ}{k:Nat}:∀(gs l:Θ),(∀g∈gs,g.2.2=k)->(∀g∈l,g.2.2=k)->l.Nodup->(∀g∈l,¬∃m,(g.1,g.2.1,m)∈fs)->(gs.H (uz fs) l).Nodup/\∀f,f∈gs.H (uz fs) l↔f∈l∨(f∈gs/\¬∃m,(f.1,f.2.1,m)∈fs)
 |[],l,_,_,n,_=>⟨n,λf=>ζ⟩
 |g::gs,l,w,o,n,v=>by
  have s:=w g ζ;have j:∀g∈gs,g.2.2=k:=λx i=>w x (by simp[i]);rw[uQ];by_cases q:(∃m,(g.1,g.2.1,m)∈fs)∨∃m,(g.1,g.2.1,m)∈l
  .rw[show uz fs l g=l from zb (q.imp sJ.2 sJ.2)];obtain⟨r,p⟩:=oi gs l j o n v;refine⟨r,λf=>(p f).A ⟨λh=>h.imp_right λh=>⟨by simp[h.1],h.2⟩,λh=>?_⟩⟩;rcases h with h|⟨c,d⟩
   .exact zh h
   .rcases z7.1 c with rfl|c
    .rcases q with q|⟨m,q⟩
     .exact zC q d
     .have:f=(f.1,f.2.1,m):=Prod.ext rfl (Prod.ext rfl (s.A (o _ q).z));exact zh (by rw[this];exact q)
    .exact zg ⟨c,d⟩
  .rw[show uz fs l g=l++[g] from za λz=>q (z.imp sJ.1 sJ.1)];have u:¬∃m,(g.1,g.2.1,m)∈fs:=λz=>q (zh z);have A:g∉l:=λz=>q (zg ⟨g.2.2,z⟩);obtain⟨r,p⟩:=oi gs (l++[g]) j (λx i=>by
    rcases zW.1 i with z|z
    .exact o x z
    .rw[xo.1 z];exact s) (so.2 ⟨n,ζ,λa y b B e=>by rw[xo.1 B] at e;exact A (e ▸ y)⟩) (λx i=>by
    rcases zW.1 i with z|z
    .exact v x z
    .rw[xo.1 z];exact u)
   refine⟨r,λf=>(p f).A ⟨λh=>?_,λh=>?_⟩⟩
   .rcases h with h|⟨c,d⟩
    .rcases zW.1 h with z|z
     .exact zh z
     .rw[xo.1 z];exact zg ⟨ζ,u⟩
    .exact zg ⟨by simp[c],d⟩
   .rcases h with h|⟨c,d⟩
    .exact zh (List.mem_append_left _ h)
    .rcases z7.1 c with rfl|c
     .exact zh ζ
     .exact zg ⟨c,d⟩
def xY(fs:List zB)(k:Nat)(a:List zd)(l:List zB):List zB:=a.H (λl c=>(yz fs c.g c.d c.d []).H (λl r=>uz fs l (c.g.o,r,k)) l) l
def Gj(fs:Θ)(k:Nat):∀(a:Ξ) (l:Θ),xY fs k a l=(a.flatMap λc=>(yz fs c.g c.d c.d []).w λr=>(c.g.o,r,k)).H (uz fs) l
 |[],l=>rfl
 |c::a,l=>by
  rw[uZ,j4,List.foldl_map,←Gj fs k a];rfl
def y6(t:List zf)(cs:List zd)(s:Nat):List zd:=cs.filter λc=>decide (xO t c.g.o=s/\0<c.d.j)
def Vp.round{t0:Ψ}(A:UH cs t0 t)(o:uf cs t){D:DB}(h:Vp t (zp cs) L D)(s k:Nat):Vp t (zp cs) (L++xY L k (y6 t cs s) []) (zzs ((uX t (zp cs) Y cs).filter λr=>decide (r.L=s)) k D)/\(xY L k (y6 t cs s) []=[]↔∀p x,UD (zzs ((uX t (zp cs) Y cs).filter λr=>decide (r.L=s)) k D) p x->UD D p x):=by
 have u:∀i (hi:i<cs.j),jX (yL ((uo Y i).d [])) (zu cs[i]).j:=λi hi=>pX (fO (A.many _ (zr hi)));have T:=Bj A (zp cs) Y u s D;generalize (uX t (zp cs) Y cs).filter (λr=>decide (r.L=s))=J at *;have V:=(dU cs).1;obtain⟨n1,n2⟩:(xY L k (y6 t cs s) []).Nodup/\∀f,f∈xY L k (y6 t cs s) []↔(∃c∈cs,xO t c.g.o=s/\0<c.d.j/\∃x,rO L c x/\f=(c.g.o,x,k))/\¬∃m,(f.1,f.2.1,m)∈L:=by
  rw[Gj];obtain⟨i1,i2⟩:=oi (fs:=L) (k:=k) ((y6 t cs s).flatMap λc=>(yz L c.g c.d c.d []).w λr=>(c.g.o,r,k)) [] (λg F=>by
   obtain⟨c,_,F⟩:=vg.1 F;obtain⟨r,_,rfl⟩:=z9.1 F;rfl) (λg F=>by cases F) F_ (λg F=>by cases F)
  refine⟨i1,λf=>(i2 f).A ?_⟩;simp only[n6,false_or];refine and_congr_left λ_=>?_;rw[vg];constructor;rintro⟨c,n,E⟩;obtain⟨G,H⟩:=xw.1 n;obtain⟨r,K,rfl⟩:=z9.1 E;have H:=of_decide_eq_true H;exact⟨c,G,H.1,H.2,r,(Ea (h.fs o) G (o.ne G) (o.cov c G)).1 K,rfl⟩;rintro⟨c,n,G,H,r,K,rfl⟩;exact⟨c,xw.2 ⟨n,decide_eq_true ⟨G,H⟩⟩,z9.2 ⟨r,(Ea (h.fs o) n (o.ne n) (o.cov c n)).2 K,rfl⟩⟩
 generalize xY L k (y6 t cs s) []=l at *;have q:∀p r,jQ J D p r->∃c∈cs,xO t c.g.o=s/\0<c.d.j/\p=zE t c.g.o/\rO L c (zY (zp cs) r (ye t p) 3)/\vu t p=c.g.o/\p<t.j/\UL (ye t p) r/\∀i,i<ye t p->r.d i 0<(zp cs).j:=by
  intro p r j;obtain⟨c,n,B,I,rfl,N⟩:=(T p r).1 j;obtain⟨l1,M,l3,l4⟩:=o.lit c n c.g (by simp[zj]);obtain⟨d1,d2,d3⟩:=h.der1 o n N;exact⟨c,n,I,B,rfl,by rw[M];exact d1,l3,l1,by rw[M];exact d2,by rw[M];exact d3⟩
 have w:∀p r,D p r=Y->jQ J D p r->(vu t p,zY (zp cs) r (ye t p) 3,k)∈l:=by
  intro p r d j;obtain⟨c,n,I,B,ac,N,ab,u,Q,P⟩:=q p r j;refine(n2 _).2 ⟨⟨c,n,I,B,_,N,by rw[ab]⟩,fun⟨m,hm⟩=>?_⟩;obtain⟨p',W,R,m',S,e⟩:=(h.mem _).1 hm;simp only[yk] at e;have:p=p':=by rw[←(dL o.rise u).1,←(dL o.rise W).1,e.1]
  subst this;have hI:UD D p R:=by unfold UD;rw[S];rfl
  have e1:=ma V (o.small p u) Q P;have e2:=ma V (o.small p u) (h.ok p R hI).2 (h.inside p R hI);rw[e.2.1] at e1;change uV (zp cs) (zY (zp cs) R (ye t p) 3) 0 [0,0,0]=Z R at e2;rw[e1,zt] at e2;rw[e2,S] at d;cases d
 have y:∀f∈l,∃p,p<t.j/\∃r,D p r=Y/\jQ J D p r/\f=(vu t p,zY (zp cs) r (ye t p) 3,k):=by
  intro f E;obtain⟨⟨c,n,I,B,x,N,rfl⟩,aa⟩:=(n2 f).1 E;obtain⟨r,K,rfl⟩:=h.der2 o n N;have hh:c.g∈zj c:=by simp[zj]
  obtain⟨l1,M,l3,l4⟩:=o.lit c n c.g hh;refine⟨zE t c.g.o,l1,r,?_,(T _ r).2 ⟨c,n,B,I,rfl,K⟩,by rw[M,l3]⟩;rcases d:D (zE t c.g.o) r with _|m;rfl;exact zC ⟨m,(h.lit o n hh _ m).2 ⟨r,d,rfl⟩⟩ aa
 have C:∀p r,UD (zzs J k D) p r->UD D p r∨(D p r=Y/\jQ J D p r):=by
  intro p r j;unfold UD zzs at j;rcases d:D p r with _|m;rw[d] at j;simp only at j;split at j;rename_i z;exact zg ⟨rfl,z⟩;cases j;exact zh (by unfold UD;rw[d];rfl)
 refine⟨⟨λf=>?_,so.2 ⟨h.once,n1,λa ha b B e=>?_⟩,λp r j=>?_,λp r j=>?_⟩,λe p r j=>?_,λe=>?_⟩;rw[zW];constructor;rintro(E|E);obtain⟨p,A,r,m,d,rfl⟩:=(h.mem f).1 E;exact⟨p,A,r,m,Rv d,rfl⟩;obtain⟨p,A,r,d,j,rfl⟩:=y f E;refine⟨p,A,r,k,?_,rfl⟩;unfold zzs;rw[d];exact zb j;rintro⟨p,A,r,m,d,rfl⟩;unfold zzs at d;rcases v:D p r with _|m';rw[v] at d;simp only at d;split at d;rename_i z;cases d;exact zg (w p r v z);cases d;rw[v] at d;cases d;exact zh ((h.mem _).2 ⟨p,A,r,m,v,rfl⟩);subst e;exact((n2 a).1 B).2 ⟨a.2.2,ha⟩;rcases C p r j with z|⟨_,z⟩;exact h.ok p r z;obtain⟨c,_,_,_,_,_,_,q1,q2,_⟩:=q p r z;exact⟨by simpa using q1,q2⟩;rcases C p r j with z|⟨_,z⟩;exact h.inside p r z;obtain⟨c,_,_,_,_,_,_,q1,q2,q3⟩:=q p r z;exact q3;rcases C p r j with z|⟨z1,z2⟩;exact z;have:=w p r z1 z2;rw[e] at this;cases this;rcases l with _|⟨f,l⟩;rfl;obtain⟨p,_,r,d,j,_⟩:=y f ζ;have:=e p r (Fz p r j);unfold UD at this;rw[d] at this;cases this
def Vp.card(s:uf cs t){D:DB}(h:Vp t (zp cs) L D):lr D L.j:=by
 have u:=(dU cs).1;have d:=λp r (g:UD D p r)=>ma u (s.small p (by have:=(h.ok p r g).1;simpa using this)) (h.ok p r g).2 (h.inside p r g);have c:∀f∈L,∃p r m,D p r=Z m/\f=(vu t p,zY (zp cs) r (ye t p) 3,m)/\(zE t f.1,(uV (zp cs) f.2.1 0 [0,0,0]).d [])=(p,r):=by
  intro f o;obtain⟨p,n,r,m,k,rfl⟩:=(h.mem f).1 o;exact⟨p,r,m,k,rfl,by rw[(dL s.rise n).1,d p r (by unfold UD;rw[k];rfl)];rfl⟩
 refine⟨L.w λf=>(zE t f.1,(uV (zp cs) f.2.1 0 [0,0,0]).d []),?_,λp x=>?_,ζ⟩;rw[re,mV];have:=h.once;rw[re] at this;refine this.imp_of_mem fun{a b} E v q e=>q ?_;obtain⟨p,r,m,k,B,A⟩:=c a E;obtain⟨y,z,C,j,l,i⟩:=c b v;rw[A,i] at e;cases e;rw[j] at k;cases k;rw[B,l];rw[z9];constructor;rintro⟨f,o,e⟩;obtain⟨y,z,C,j,l,i⟩:=c f o;rw[i] at e;cases e;unfold UD;rw[j];rfl;intro g;obtain⟨m,w⟩:=my.1 g;have n:p<t.j:=by have:=(h.ok p x g).1;simpa using this
 refine⟨_,(h.mem _).2 ⟨p,n,x,m,w,rfl⟩,?_⟩;rw[(dL s.rise n).1,d p x g];rfl
def Vp.small(a:uf cs t){D:DB}(h:Vp t (zp cs) L D)(mr:Nat):mZ D mr↔L.j<=mr:=
 ⟨fun⟨n,b,c⟩=>by rw[←Cj c (h.card a)];exact b,λq=>⟨_,q,h.card a⟩⟩
end
section
open Classical
variable {t:List zf}{cs:List zd}
noncomputable def z2m(t:List zf)(cs:List zd)(mr s:Nat):Nat->Nat->List zB->Option (List zB×Nat)
 |0,_,_=>Y
 |left+1,k,L=>
  if (L++xY L (k+1) (y6 t cs s) []).j<=mr then
   if xY L (k+1) (y6 t cs s) []=[] then Z (L++xY L (k+1) (y6 t cs s) [],k+1)
   else z2m t cs mr s left (k+1) (L++xY L (k+1) (y6 t cs s) [])
  else Y
noncomputable def zz7(t:List zf)(cs:List zd)(mr mx:Nat):Nat->Nat->Nat->List zB->Option (List zB×Nat)
 |0,_,k,L=>Z (L,k)
 |n+1,s,k,L=>
  if y6 t cs s=[] then zz7 t cs mr mx n (s+1) k L
  else match z2m t cs mr s (mx-k) k L with
   |none=>Y
   |some (L',k')=>zz7 t cs mr mx n (s+1) k' L'
def ub(cs:List zd):List zB:=((cs.filter λc=>decide (c.d.j=0)).w λc=>(c.g.o,c.g.k,0)).H (uz []) []
noncomputable def yp5(t:List zf)(cs:List zd)(mr mx:Nat):Option (List zB×Nat):=if (ub cs).j<=mr then zz7 t cs mr mx t.j 0 0 (ub cs) else Y
def o9(t:List zf)(ns:κ):Option (List zB×Nat)->Option (DB×Nat)->Prop
 |none,Y=>True
 |some (L,k),Z (D,e)=>k=e/\Vp t ns L D
 |_,_=>False
def Gd{cs:Ξ}{f t:Ψ}(d:UH cs f t)(a:uf cs t)(mr s:Nat):∀(left k:Nat) (L:Θ) (D:DB),Vp t (zp cs) L D->o9 t (zp cs) (z2m t cs mr s left k L) (zy9 ((uX t (zp cs) Y cs).filter λr=>decide (r.L=s)) mr left k D)
 |0,k,L,D,h=>trivial
 |left+1,k,L,D,h=>by
  obtain⟨b,e⟩:=h.round d a s (k+1);have c:=b.small a mr;unfold z2m zy9;by_cases q:(L++xY L (k+1) (y6 t cs s) []).j<=mr
  .rw[zb q,zb (c.2 q)];by_cases z:xY L (k+1) (y6 t cs s) []=[]
   .rw[zb z,zb (e.1 z)];exact⟨rfl,b⟩
   .rw[za z,za λy=>z (e.2 y)];exact Gd d a mr s left (k+1) _ _ b
  .rw[za q,za λy=>q (c.1 y)];trivial
def FE{s:Nat}:y6 t cs s=[]↔¬∃c∈cs,0<c.d.j/\xO t c.g.o=s:=by
 unfold y6;rw[eN];exact⟨λh ⟨c,a,b,d⟩=>h c a (decide_eq_true ⟨d,b⟩),λh c a q=>h ⟨c,a,(of_decide_eq_true q).2,(of_decide_eq_true q).1⟩⟩
def oQ{cs:Ξ}{f t:Ψ}(e:UH cs f t)(c:uf cs t)(mr mx:Nat):∀(n s k:Nat) (L:Θ) (D:DB),Vp t (zp cs) L D->o9 t (zp cs) (zz7 t cs mr mx n s k L) (zzc (uX t (zp cs) Y cs) mr mx n s k D)
 |0,s,k,L,D,h=>⟨rfl,h⟩
 |n+1,s,k,L,D,h=>by
  unfold zz7 zzc;by_cases q:y6 t cs s=[]
  .rw[zb q,zb ((DP cs s).2 (FE.1 q))];exact oQ e c mr mx n (s+1) k L D h
  .rw[za q,za λz=>q (FE.2 ((DP cs s).1 z))];have a:=Gd e c mr s (mx-k) k L D h;cases d:z2m t cs mr s (mx-k) k L with
   |none=>
    cases b:zy9 ((uX t (zp cs) Y cs).filter λr=>decide (r.L=s)) mr (mx-k) k D with
    |none=>trivial
    |some y=>rw[d,b] at a;exact a.elim
   |some x=>
    cases b:zy9 ((uX t (zp cs) Y cs).filter λr=>decide (r.L=s)) mr (mx-k) k D with
    |none=>rw[d,b] at a;exact a.elim
    |some y=>
     rw[d,b] at a;obtain⟨g,j⟩:=x;obtain⟨i,l⟩:=y;obtain⟨rfl,a⟩:=a;exact oQ e c mr mx n (s+1) j g i a
def iz(g:uf cs t){c:zd}(f:c∈cs)(j:c.d.j=0):zY (zp cs) (qu t (zp cs) c).row c.g.k.j 3=c.g.k/\UL c.g.k.j (qu t (zp cs) c).row/\∀i,i<c.g.k.j->(qu t (zp cs) c).row.d i 0<(zp cs).j:=by
 have b:c.g∈zj c:=by simp[zj]
 have m:∀k,([0,0,0,0,0]:Φ).d k 0<5:=by
  intro k;rcases k with _|_|_|_|_|k<;>simp
 have h:=p5.1 j;have e:∀v,v∉zu c:=by
  intro v d;rw[fo,h] at d;obtain⟨_,l,n,_⟩:=d;cases n
 unfold qu;rw[tM t (zp cs) [] m];refine⟨?_,g.can f (λv d=>zC d (e v)) c.g b⟩;rw[eR f b (g.lit c f c.g b).2.2.2];unfold Vc;conv=>rhs;rw[←List.map_id c.g.k]
 refine d9 λa o=>?_;rw[za λd=>e a (g.cov c f c.g b a o d)];rfl
def FB(d:uf cs t):Vp t (zp cs) (ub cs) (z0v (vM t (zp cs) cs)):=by
 have v:∀p x,z0v (vM t (zp cs) cs) p x=if ∃c∈cs,c.d.j=0/\p=zE t c.g.o/\(qu t (zp cs) c).row=x then Z 0 else none:=by
  intro p x;unfold z0v;congr 1;apply propext;unfold vM;simp only[z9,xw];constructor;rintro⟨f,⟨c,⟨a,b⟩,rfl⟩,u,s⟩;exact⟨c,a,by simpa using b,u.z,s⟩;rintro⟨c,a,b,u,s⟩;exact⟨_,⟨c,⟨a,by simp[b]⟩,rfl⟩,u.z,s⟩
 have j:∀p x,UD (z0v (vM t (zp cs) cs)) p x->∃c∈cs,c.d.j=0/\p=zE t c.g.o/\(qu t (zp cs) c).row=x:=by
  intro p x h;unfold UD at h;rw[v] at h;split at h;assumption
  cases h
 obtain⟨A,z⟩:=oi (fs:=[]) (k:=0) ((cs.filter λc:zd=>decide (c.d.j=0)).w λc:zd=>((c.g.o,c.g.k,0):zB)) [] (λg o=>by
  obtain⟨c,_,rfl⟩:=z9.1 o;rfl) (λg o=>by cases o) F_ (λg o=>by cases o)
 refine⟨λf=>(z f).A ?_,A,λp x h=>?_,λp x h=>?_⟩;simp only[n6,false_or,exists_false,not_false_eq_true,and_true,z9,xw,decide_eq_true_eq];constructor;rintro⟨c,⟨a,b⟩,rfl⟩;obtain⟨l,e,n,w⟩:=d.lit c a c.g (by simp[zj]);exact⟨_,l,(qu t (zp cs) c).row,0,by rw[v];exact zb ⟨c,a,b,rfl,rfl⟩,by rw[e,n,(iz d a b).1]⟩;rintro⟨p,B,r,m,q,rfl⟩;have y:UD (z0v (vM t (zp cs) cs)) p r:=by unfold UD;rw[q];rfl
 obtain⟨c,a,b,rfl,rfl⟩:=j p r y;rw[v,zb ⟨c,a,b,rfl,rfl⟩] at q;cases q;obtain⟨l,e,n,w⟩:=d.lit c a c.g (by simp[zj]);exact⟨c,⟨a,b⟩,by rw[e,n,(iz d a b).1]⟩;obtain⟨c,a,b,rfl,rfl⟩:=j p x h;obtain⟨l,e,n,w⟩:=d.lit c a c.g (by simp[zj]);refine⟨by simpa using l,?_⟩;change UL (ye t _) _;rw[e];exact(iz d a b).2.1;obtain⟨c,a,b,rfl,rfl⟩:=j p x h;obtain⟨l,e,n,w⟩:=d.lit c a c.g (by simp[zj]);change ∀i,i<ye t _->_;rw[e];exact(iz d a b).2.2
def Ni{d:Ψ}(f:UH cs d t)(b:uf cs t)(mr mx:Nat):o9 t (zp cs) (yp5 t cs mr mx) (z1h (vq t (zp cs) Y cs) mr mx):=by
 have h:=FB b;have c:=h.small b mr;unfold yp5 z1h;have e:(vq t (zp cs) Y cs).N.j=t.j:=by simp[vq]
 rw[e];by_cases q:(ub cs).j<=mr;rw[zb q];have a:mZ (z0v (vq t (zp cs) Y cs).facts) mr:=c.2 q;rw[zb a];exact oQ f b mr mx _ 0 0 _ _ h;rw[za q];have a:¬mZ (z0v (vq t (zp cs) Y cs).facts) mr:=λy=>q (c.1 y);rw[za a];trivial
def J0{ns ts:List Λ}{r:zl}(h:uV ns ts 0 [0,0,0]=Z r):UL ts.j r/\zY ns r ts.j 3=ts:=by
 match ts,h with
 |[],h=>
  simp only[uV,zt] at h;subst h;exact⟨⟨rfl,λi _=>by rcases i with _|_|_|i<;>rfl⟩,rfl⟩
 |[a],h=>
  simp only[uV] at h;rcases e:xr ns a with _|x;rw[e] at h;cases h;have j:=(ru e).2;simp[e] at h;subst h;refine⟨⟨rfl,λi g=>?_⟩,by simpa [zY] using j⟩;rcases i with _|_|_|i;simp at g
  all_goals rfl
 |[a,b],h=>
  simp only[uV] at h;rcases e:xr ns a with _|x;rw[e] at h;cases h;rcases f:xr ns b with _|y;simp[e,f] at h;have j:=(ru e).2;have l:=(ru f).2;simp[e,f] at h;subst h;refine⟨⟨rfl,λi g=>?_⟩,by simpa [zY,p_] using⟨j,l⟩⟩;rcases i with _|_|_|i;simp at g;simp at g
  all_goals rfl
 |[a,b,c],h=>
  simp only[uV] at h;rcases e:xr ns a with _|x;rw[e] at h;cases h;rcases f:xr ns b with _|y;simp[e,f] at h;rcases k:xr ns c with _|z;simp[e,f,k] at h;have j:=(ru e).2;have l:=(ru f).2;have m:=(ru k).2;simp[e,f,k] at h;subst h;refine⟨⟨rfl,λi g=>?_⟩,by simpa [zY,p_] using⟨j,l,m⟩⟩;rcases i with _|_|_|i;simp at g;simp at g;simp at g;rfl
 |a::b::c::d::ts,h=>
  exfalso;simp only[uV] at h;repeat' split at h
  all_goals first|(cases h;done)|(simp at *;done)
def LP(n:uf cs t){L:Θ}{R:zw}(y:Vk t (zp cs) R)(h:Vp t (zp cs) L (zzj (t.w (·.jh)) R))(a:Λ)(row:List Λ):rt t (zp cs) R a row=if (zO t a).I=true then(match yS a row L with|none=>(0,12)|some k=>(((L[k]?).w (·.2.2)).d 0,0)) else(0,11):=by
 unfold rt;rcases u:zO t a with _|e;rfl;obtain⟨D,C,B⟩:=qr u;have c:zE t a=zM t a:=by unfold zE;rw[u];rfl
 have b:zE t a<t.j:=by rw[c];exact D
 have j:vu t (zE t a)=a:=by
  have:t[zE t a]=e:=by simp only[c,C]
  rw[(dL n.rise b).2,this,B]
 rw[za (by rintro(z|z);cases z;have:=y.len;omega),zb (show(Z e).I=true from rfl)];rcases s:yS a row L with _|k;simp only;split;rfl;rename_i l;split;rfl;rename_i r w;obtain⟨g,d⟩:=J0 w;have l:row.j=ye t (zE t a):=by simpa using l
 rw[l] at g d;rcases x:ud (R.rows.d (zE t a) zm.zero) r with _|m;rfl;refine zC ((h.mem _).2 ⟨zE t a,b,r,m,?_,rfl⟩) (by rw[j,d];exact Cp s m);unfold zzj;rw[zb ⟨by simpa using b,g⟩];exact x;obtain⟨v,i,o⟩:=ie s;obtain⟨p,A,r,m,f,e⟩:=(h.mem _).1 (zr v);simp only;rw[yn v];rw[e] at i o ⊢;simp only at i o;have:zE t a=p:=by rw[←i];exact(dL n.rise A).1
 subst this;have q:UD (zzj (t.w (·.jh)) R) (zE t a) r:=by unfold UD;rw[f];rfl
 obtain⟨g,d⟩:=h.ok _ _ q;rw[←o,za (by rw[gM];simp),ma (dU cs).1 (n.small _ b) d (h.inside _ _ q)];simp only;unfold zzj at f;rw[zb ⟨g,d⟩] at f;rw[f];rfl
end
section
open Classical
variable {cs:List zd}{t:List zf}
def A6{α β:Type}(f:α->List β)(m:Nat):∀(l:List α),(∀x∈l,(f x).j=m)->(l.flatMap f).j=l.j*m
 |[],_=>ζ
 |a::l,h=>by
  rw[uZ,yB,A6 f m l (λx b=>h x (by simp[b])),h a ζ,xp,Nat.succ_mul];omega
def nS{α:Type}(ns:List α):Nat->List (List α)
 |0=>[[]]
 |k+1=>ns.flatMap λx=>(nS ns k).w (x::·)
def An{α:Type}(ns:List α):∀k,(nS ns k).j=ns.j ^ k
 |0=>rfl
 |k+1=>by
  unfold nS;rw[A6 _ (ns.j ^ k) ns (λx _=>by rw[xv];exact An ns k),Nat.pow_succ,Nat.mul_comm]
def Bu{α:Type}{ns:List α}:∀(l:List α),(∀x∈l,x∈ns)->l∈nS ns l.j
 |[],_=>by simp[nS]
 |x::l,h=>by
  rw[xp];unfold nS;exact vg.2 ⟨x,h x ζ,z9.2 ⟨l,Bu l (λy a=>h y (by simp[a])),rfl⟩⟩
def Mr(a:uf cs t){L:Θ}{D:DB}(h:Vp t (zp cs) L D):L.j<=t.j*((zp cs).j+1) ^ 3:=by
 obtain⟨l,f,n,j⟩:=h.card a;rw[←j];have g:(((w_ t.j).flatMap λp=>(nS (w_ ((zp cs).j+1)) 3).w λr=>(p,r))).j=t.j*((zp cs).j+1) ^ 3:=by
  rw[A6 _ (((zp cs).j+1) ^ 3) _ (λx _=>by rw[xv,An,pG]),pG]
 rw[←g];refine mR f λx b=>?_;obtain⟨p,r⟩:=x;have d:=(n p r).1 b;obtain⟨k,c⟩:=h.ok p r d;have m:=h.inside p r d;refine vg.2 ⟨p,qF.2 (by simpa using k),z9.2 ⟨r,?_,rfl⟩⟩;have:=Bu (ns:=w_ ((zp cs).j+1)) r (λx a=>?_);rw[c.1] at this;exact this;obtain⟨i,e,rfl⟩:=vh.1 a;rw[qF];by_cases o:i<(t.w (·.jh)).d p 0;have:=m i o;rw[i_,yn e,uF] at this;omega;have:=c.2 i η;rw[i_,yn e,uF] at this;omega
def qM(fs:List zB):List zk->yC->List yC
 |[],B=>[B]
 |l::rest,B=>if l.i=true then qM fs rest B else fs.flatMap λf=>if f.1=l.o then(match xG B l.k f.2.1 with|none=>[]|some a=>qM fs rest a) else []
def Aa(fs:Θ)(h:zk)(body:Ω):∀(rest:Ω) (B:yC),(yz fs h body rest B).j<=(qM fs rest B).j
 |[],B=>by
  unfold yz qM;split<;>simp
 |l::rest,B=>by
  unfold yz qM;split
  .exact Aa fs h body rest B
  .have:∀a:Θ,(a.flatMap λf=>if f.1=l.o then(match xG B l.k f.2.1 with|none=>[]|some b=>yz fs h body rest b) else []).j<=(a.flatMap λf=>if f.1=l.o then(match xG B l.k f.2.1 with|none=>[]|some b=>qM fs rest b) else []).j:=by
    intro a;induction a with
    |nil=>simp
    |cons g a c=>
     rw[uZ,uZ,yB,yB];refine Nat.add_le_add ?_ c;split
     .split
      .exact ze _
      .exact Aa fs h body rest _
     .exact ze _
   exact this fs
def fF(body:List zk)(B:yC):List (κ):=body.w λl=>if l.i=true then [] else yM B l.k
def o4{cs:Ξ}{fs:Θ}(J:sN cs fs){c:zd}(V:c∈cs)(F:∀l∈zj c,∀a∈l.k,a≠g_)(ho:∀f∈fs,∀g∈fs,f.1=g.1->f.2.1=g.2.1->f=g)(hn:fs.Nodup):∀(rest done:Ω) (B:yC),c.d=done++rest->qT B->(∀l∈done,l.i=false->∀a∈l.k,yv B a≠g_)->(∀j∈qM fs rest B,qT j/\WG B j/\∀l∈rest,l.i=false->(∃m,(l.o,yM j l.k,m)∈fs)/\∀a∈l.k,yv j a≠g_)/\((qM fs rest B).w (fF rest)).Nodup
 |[],done,B,e,R,Q=>by
  unfold qM;refine⟨λj d=>?_,ζ⟩;rw[xo.1 d];exact⟨R,λv x q=>q,λl hl=>by cases hl⟩
 |l::rest,done,B,e,R,Q=>by
  have e2:c.d=(done++[l])++rest:=by rw[e];simp
  have L:l∈zj c:=by simp[zj,e]
  unfold qM;split
  .rename_i i;obtain⟨K,P⟩:=o4 J V F ho hn rest (done++[l]) B e2 R (λs r k=>by
    rcases zW.1 r with q|q
    .exact Q s q k
    .rw[xo.1 q,i] at k;cases k)
   refine⟨λj d=>⟨(K j d).1,(K j d).2.1,λs r k=>?_⟩,?_⟩
   .rcases z7.1 r with rfl|q
    .rw[i] at k;cases k
    .exact(K j d).2.2 s q k
   .have:(qM fs rest B).w (fF (l::rest))=((qM fs rest B).w (fF rest)).w ([]::·):=by
     rw[nI];refine d9 λj _=>?_;simp[fF,i]
    rw[this,re,mV];rw[re] at P;exact P.imp λh q=>h (by simpa using q)
  .rename_i i;have i:l.i=false:=by simpa using i
   have n:∀f∈fs,f.1=l.o->∀o,xG B l.k f.2.1=Z o->(∀j∈qM fs rest o,qT j/\WG B j/\yM j l.k=f.2.1/\(∀a∈l.k,yv j a≠g_)/\∀s∈rest,s.i=false->(∃m,(s.o,yM j s.k,m)∈fs)/\∀a∈s.k,yv j a≠g_)/\((qM fs rest o).w (fF rest)).Nodup:=by
    intro f w C o D;obtain⟨j1,j2,j3⟩:=sL l.k f.2.1 B o (J.jh f w c V l L C.z).z (J.ne f w) (F l L) R D;have y:∀a∈l.k,yv o a≠g_:=λa u=>by
     have:yv o a∈yM o l.k:=z9.2 ⟨a,u,rfl⟩;rw[j3] at this;exact J.ne f w _ this
    obtain⟨K,P⟩:=o4 J V F ho hn rest (done++[l]) o e2 j1 (λs r k a u=>by
     rcases zW.1 r with q|q
     .rw[pQ j2 (Q s q k a u)];exact Q s q k a u
     .rw[xo.1 q] at u;exact y a u)
    refine⟨λj d=>?_,P⟩;obtain⟨k1,H,k3⟩:=K j d;exact⟨k1,j2.A H,by rw[←j3];exact d9 λa u=>pQ H (y a u),λa u=>by rw[pQ H (y a u)];exact y a u,k3⟩
   refine⟨λj d=>?_,?_⟩
   .obtain⟨f,w,d⟩:=vg.1 d;split at d
    .rename_i C;split at d
     .cases d
     .rename_i o D;obtain⟨k1,H,k3,k4,k5⟩:=(n f w C o D).1 j d;refine⟨k1,H,λs r k=>?_⟩;rcases z7.1 r with rfl|q
      .exact⟨⟨f.2.2,by rw[k3,←C];exact w⟩,k4⟩
      .exact k5 s q k
    .cases d
   .have hg:∀G:Θ,G.Nodup->(∀g∈G,g∈fs)->((G.flatMap λf=>if f.1=l.o then(match xG B l.k f.2.1 with|none=>[]|some j=>qM fs rest j) else []).w (fF (l::rest))).Nodup:=by
     intro G;induction G with
     |nil=>intro _ _;simp
     |cons g G ih=>
      intro W z;obtain⟨T,S⟩:=j5.1 W;rw[uZ,uY,so];have E:=z g ζ;refine⟨?_,ih S (λx hx=>z x (by simp[hx])),?_⟩
      .split
       .rename_i C;split
        .simp
        .rename_i o D;obtain⟨s1,s2⟩:=n g E C o D;have:(qM fs rest o).w (fF (l::rest))=((qM fs rest o).w (fF rest)).w (g.2.1::·):=by
          rw[nI];refine d9 λj d=>?_;simp[fF,i,(s1 j d).2.2.1]
         rw[this,re,mV];rw[re] at s2;exact s2.imp λh q=>h (by simpa using q)
       .simp
      .intro a u b hb M;obtain⟨A,I,rfl⟩:=z9.1 u;obtain⟨A2,p,rfl⟩:=z9.1 hb;obtain⟨f,w,p⟩:=vg.1 p;split at I
       .rename_i C;split at I
        .cases I
        .rename_i o D;split at p
         .rename_i N;split at p
          .cases p
          .rename_i B2 aa;have r1:=((n g E C o D).1 A I).2.2.1;have r2:=((n f (z f (by simp[w])) N B2 aa).1 A2 p).2.2.1;have:yM A l.k=yM A2 l.k:=by
            simp only[fF,xU,i,m8] at M;simpa using M.1
           have ab:=ho g E f (z f (by simp[w])) (C.A N.z) (by rw[←r1,←r2,this]);exact T (ab ▸ w)
         .cases p
       .cases I
    exact hg fs hn (λg hg=>hg)
def P5(d:uf cs t){L:Θ}{D:DB}(h:Vp t (zp cs) L D){c:zd}(s:c∈cs):(yz L c.g c.d c.d []).j<=(zp cs).j ^ (zu c).j:=by
 refine zX (Aa L c.g c.d c.d []) ?_;have ho:∀f∈L,∀g∈L,f.1=g.1->f.2.1=g.2.1->f=g:=by
  intro f hf g hg e1 W;obtain⟨p,J,r,m,u,rfl⟩:=(h.mem f).1 hf;obtain⟨p',H,z,m',A,rfl⟩:=(h.mem g).1 hg;simp only at e1 W;have:p=p':=by rw[←(dL d.rise J).1,←(dL d.rise H).1,e1]
  subst this;have V:UD D p r:=by unfold UD;rw[u];rfl
  have T:UD D p z:=by unfold UD;rw[A];rfl
  have E:=ma (dU cs).1 (d.small p J) (h.ok p r V).2 (h.inside p r V);have C:=ma (dU cs).1 (d.small p J) (h.ok p z T).2 (h.inside p z T);change uV (zp cs) (zY (zp cs) r (ye t p) 3) 0 [0,0,0]=Z r at E;change uV (zp cs) (zY (zp cs) z (ye t p) 3) 0 [0,0,0]=Z z at C;rw[W,C,zt] at E;subst E;rw[A] at u;cases u;rfl
 obtain⟨h1,h2⟩:=o4 (h.fs d) s (d.ne s) ho h.once c.d [] [] rfl (λv x q=>by cases q) (λl n=>by cases n);have w:∀B∈qM L c.d [],∀v∈zu c,yv B v∈zp cs:=by
  intro B M v k;obtain⟨aa,l,n,P,I⟩:=fo.1 k;obtain⟨⟨m,F⟩,_⟩:=(h1 B M).2.2 l n P;have j:l∈zj c:=by simp[zj,n]
  obtain⟨r,u,er⟩:=(h.lit d s j _ m).1 F;obtain⟨E,C⟩:=h.can d s j (r:=r) (by unfold UD;rw[u];rfl);have:yv B v∈yM B l.k:=z9.2 ⟨v,I,rfl⟩;rw[er] at this;simp only[zY,z9,qF] at this;obtain⟨i,hi,e⟩:=this;have h3:=(d.lit c s l j).2.2.2;rw[zb η] at e;rw[←e];exact B9 (C i hi)
 have o:∀N∈qM L c.d [],∀K∈qM L c.d [],(zu c).w (yv N)=(zu c).w (yv K)->fF c.d N=fF c.d K:=by
  intro N _ K _ e;refine d9 λl n=>?_;split;rfl;rename_i P;refine d9 λa S=>?_;by_cases k:zV a=true;have F:=fo.2 ⟨k,l,n,by simpa using P,S⟩;exact List.map_inj_left.1 e a F;unfold yv;rw[za k,za k]
 have G:((qM L c.d []).w λB=>(zu c).w (yv B)).Nodup:=by
  rw[re,mV] at h2 ⊢;exact h2.imp_of_mem fun{a b} S hb R e=>R (o a S b hb e)
 have:=mR G (l2:=nS (zp cs) (zu c).j) (λx Q=>by
  obtain⟨B,M,rfl⟩:=z9.1 Q;have:=Bu (ns:=zp cs) ((zu c).w (yv B)) (λy hy=>by
   obtain⟨v,k,rfl⟩:=z9.1 hy;exact w B M v k)
  rw[xv] at this;exact this)
 rw[xv,An] at this;exact this
def Kf{e:Ψ}(l:UH cs e t)(a:uf cs t)(f:t.j<=1000)(m:(zp cs).j<=250):∀L D,Vp t (zp cs) L D->L.j<1000000000000/\∀c∈cs,(yz L c.g c.d c.d []).j<=1000000000000:=by
 intro L D h;refine⟨?_,λc d=>?_⟩;have g:=Mr a h;have b:((zp cs).j+1) ^ 3<=251 ^ 3:=x_ η 3;have i:=Nat.mul_le_mul f b;have j:(1000*251 ^ 3:Nat)=15813251000:=θ;omega;have g:=P5 a h d;have k:=fO (l.many c d);have b:(zp cs).j ^ (zu c).j<=250 ^ (zu c).j:=x_ m _;have i:250 ^ (zu c).j<=250 ^ 5:=Nat.pow_le_pow_right η k;have j:(250 ^ 5:Nat)=976562500000:=θ;omega
def Pr{s:Λ}(h:uH s=.ok (cs,t)):(zp cs).j<=250:=by
 obtain⟨b,a⟩:=FG h;have c:=Hb h;have e:=B0 cs a.many;have d:=Fq cs;omega
end
section
open Go.Proofs.Tryz Go.RowKit
def Rr{lo z:Nat}(w:U)(I vb:O)(a b:List Λ)(D:U7 lo w I a)(v:U7 z w vb b)(N:b.j=a.j)(hl:a.j<=1000000):
  c_ e_ 81 #[I,vb] w λe S=>e=ε (.i (yV a b))/\μ w S:=by
 obtain⟨ao,T,rfl⟩:=D.qm;obtain⟨W,H,rfl⟩:=v.qm;have R:=U2 D;have L:=U2 v;have V:X (yV a b=yV (a.drop 0) (b.drop 0)):=show yV a b=_ from rfl
 clear D v;generalize yV a b=r at *;go_enter func81,ntmps81;go_wp2;go_loopw [5] (λi wr=>∃k:Nat,k<=a.j/\i=ι k/\X (r=yV (a.drop k) (b.drop k))/\μ w wr) (λi _=>a.j-(d_ i).D);exact⟨0,zs _,rfl,V,zn _ _⟩;obtain⟨k,hk,rfl,C,c⟩:=hrel;have J:=c.q;by_cases m:k<a.j
 .have j:k<b.j:=η;have q:=C.l;rw[NE m j] at q;have u:=U2 q;clear q C;obtain⟨g,rfl,P,s⟩:=R.l.cell k m;obtain⟨K,rfl,E,h⟩:=L.l.cell k j;have t:=zi c P s;have l:=zi c E h;have p:g<wr.o.q:=η;have f:K<wr.o.q:=η;clear s h;by_cases o:a[k]=b[k]
  .have B:=qH o;have n:=U2 (show r=_ by rw[u.l,zb o]);clear o u;generalize a[k]=x at *;generalize b[k]=y at *;go_wp2;go_quiet (fail)
   go_wp2;go_roundw;exact⟨k+1,η,ξ,n,zG c _⟩;simp[d_];omega
  have B:=vn o;have n:=U2 (show r=_ by rw[u.l,za o]);clear o u;unfold UU at n;generalize a[k]=x at *;generalize b[k]=y at *;go_wp2;go_quiet (fail)
  have d:=mN wr nq;have M:=zi d p t;have F:=zi d f l;have Q:=yh p d.q;have G:=yh f d.q;have A:μ w (wr.drewN nq):=zG c _;clear t l;generalize wr.drewN nq=wq at *;go_wp2;go_quiet (fail)
  go_wp2;go_ret;exact⟨by rw[n.l];rfl,zG A _⟩
 have n:X (r=false):=show r=false by rw[C.l];exact Li (λq=>m q.1)
 go_wp2;go_ret;exact⟨by rw[n.l];rfl,c⟩
end
def jN:List (κ)->Nat->List (κ)
 |l,0=>l
 |l,k+1=>if yV (l.d (k+1) []) (l.d k []) then jN ((l.set (k+1) (l.d k [])).set k (l.d (k+1) [])) k else l
def lR(L:List zB)(n:ByteArray):List (κ):=L.H (λa f=>if f.1=n then jN (a++[f.2.1]) a.j else a) []
def ix:∀(a b c:List Λ),yV a b=true->yV b c=true->yV a c=true
 |[],_,_,h,_=>by simp[yV] at h
 |_::_,[],_,h,_=>by simp[yV] at h
 |_::_,_::_,[],_,h=>by simp[yV] at h
 |a::x,b::y,c::z,e,d=>by
  simp only[yV] at e d ⊢;by_cases g:a=b
  .subst g;rw[zb rfl] at e;by_cases f:a=c
   .subst f;rw[zb rfl] at d ⊢;exact ix x y z e d
   .rw[za f] at d ⊢;exact d
  .rw[za g] at e;by_cases f:b=c
   .subst f;rw[za g];exact e
   .rw[za f] at d;have i:=lt_trans e d;rw[za]
    .exact i
    .rintro rfl;rw[UE] at i;cases i
def FJ:∀(a b:List Λ),a.j=b.j->a≠b->yV a b=false->yV b a=true
 |[],[],_,h,_=>zC rfl h
 |[],_::_,h,_,_=>by simp at h
 |_::_,[],h,_,_=>by simp at h
 |a::x,b::y,d,c,h=>by
  simp only[yV] at h ⊢;by_cases e:a=b
  .subst e;rw[zb rfl] at h ⊢;exact FJ x y (by simpa using d) (λq=>c (by rw[q])) h
  .rw[za e] at h;rw[za (Ne.symm e)];cases f:UU b a with
   |true=>rfl
   |false=>exact zC (sV h f) e
def Db(x:List Λ):∀(n:Nat) (p s:List (List Λ)),p.j=n->p.Pairwise (λa b=>yV a b=true)->jN (p++x::s) p.j=p.filter (λy=>!yV x y)++x::(p.filter (yV x ·)++s)
 |0,p,s,g,_=>by
  obtain rfl:=lK g;simp[jN]
 |n+1,p,s,g,t=>by
  obtain⟨q,y,rfl⟩:∃q y,p=q++[y]:=⟨p.dropLast,p.getLast (by intro e;simp[e] at g),(Cg _).z⟩;have k:q.j=n:=by simpa using g
  have c:=mK.1 t;have r:(q++[y]++x::s).d (q.j+1) []=x:=by simp[r_]
  have m:(q++[y]++x::s).d q.j []=y:=by simp[r_]
  rw[yB,List.length_singleton];simp only[jN];rw[r,m];by_cases d:yV x y=true
  .rw[zb d];have e:((q++[y]++x::s).set (q.j+1) y).set q.j x=q++x::(y::s):=ζ;rw[e,Db x n q (y::s) k c.1];simp[y_,d]
  .rw[za d];have i:yV x y=false:=by simpa using d
   have f:∀z∈q,yV x z=false:=λz f=>by
    cases j:yV x z with
    |false=>rfl
    |true=>exact zC (ix _ _ _ j (c.2.2 z f y ζ)) d
   have l:q.filter (λy=>!yV x y)=q:=List.filter_eq_self.2 λz h=>by simp[f z h]
   have o:q.filter (yV x ·)=[]:=eN.2 λz h=>by simp[f z h]
   simp[y_,l,o,i]
def Sm{p:List (List Λ)}{x:List Λ}(f:p.Pairwise (λa b=>yV a b=true))(j:∀y∈p,x.j=y.j)(i:x∉p):(jN (p++[x]) p.j).Pairwise (λa b=>yV a b=true)/\∀y,y∈jN (p++[x]) p.j↔y=x∨y∈p:=by
 rw[Db x _ p [] rfl f];have k:∀y∈p,yV x y=false->yV y x=true:=λy c h=>FJ x y (j y c) (λe=>i (e ▸ c)) h;refine⟨mK.2 ⟨f.filter _,fZ.2 ⟨λy c=>?_,by simpa using f.filter _⟩,λy c z d=>?_⟩,λy=>?_⟩;simp at c;exact c.2;simp at c d;have g:=k y c.1 c.2;rcases d with rfl|d;exact g;exact ix _ _ _ g d.2;simp only[zW,z7,xw,vD,tA];constructor;rintro(h|h|h);exact zg h.1;exact zh h;exact zg h.1;rintro(h|h);exact zg (zh h);cases l:yV x y;exact zh ⟨h,rfl⟩;exact zg (zg ⟨h,rfl⟩)
def Ai(n:Λ)(k:Nat):∀(L:Θ) (c:List (List Λ)),c.Pairwise (λa b=>yV a b=true)->(∀y∈c,y.j=k)->(∀f∈L,f.1=n->f.2.1.j=k/\f.2.1∉c)->L.Pairwise (λf g=>f.1=g.1->f.2.1≠g.2.1)->(L.H (λc f=>if f.1=n then jN (c++[f.2.1]) c.j else c) c).Pairwise (λa b=>yV a b=true)/\∀y,y∈L.H (λc f=>if f.1=n then jN (c++[f.2.1]) c.j else c) c↔y∈c∨∃f∈L,f.1=n/\f.2.1=y
 |[],c,r,_,_,_=>⟨r,λy=>ζ⟩
 |f::L,c,r,s,p,z=>by
  obtain⟨u,m⟩:=fZ.1 z;rw[uQ];by_cases i:f.1=n
  .rw[zb i];obtain⟨w,x⟩:=p f ζ i;obtain⟨A,j⟩:=Sm r (λy l=>by rw[w,s y l]) x;obtain⟨t,v⟩:=Ai n k L _ A (λy l=>by
    rcases(j y).1 l with rfl|l
    .exact w
    .exact s y l) (λg d e=>⟨(p g (by simp[d]) e).1,λo=>by
    rcases(j _).1 o with o|o
    .exact u g d (by rw[i,e]) o.z
    .exact(p g (by simp[d]) e).2 o⟩) m
   refine⟨t,λy=>(v y).A ⟨λh=>?_,λh=>?_⟩⟩
   .rcases h with h|⟨g,d,e,q⟩
    .rcases(j y).1 h with rfl|h
     .exact zg ⟨f,ζ,i,rfl⟩
     .exact zh h
    .exact zg ⟨g,by simp[d],e,q⟩
   .rcases h with h|⟨g,d,e,q⟩
    .exact zh ((j y).2 (zg h))
    .rcases z7.1 d with rfl|d
     .exact zh ((j y).2 (zh q.z))
     .exact zg ⟨g,d,e,q⟩
  .rw[za i];obtain⟨t,v⟩:=Ai n k L c r s (λg d e=>p g (by simp[d]) e) m;refine⟨t,λy=>(v y).A ⟨λh=>?_,λh=>?_⟩⟩
   .rcases h with h|⟨g,d,q⟩
    .exact zh h
    .exact zg ⟨g,by simp[d],q⟩
   .rcases h with h|⟨g,d,q⟩
    .exact zh h
    .rcases z7.1 d with rfl|d
     .exact zC q.1 i
     .exact zg ⟨g,d,q⟩
def ON{L:Θ}{n:Λ}{k:Nat}(d:∀f∈L,f.1=n->f.2.1.j=k)(c:L.Pairwise (λf g=>f.1=g.1->f.2.1≠g.2.1)):(lR L n).Pairwise (λa b=>yV a b=true)/\∀y,y∈lR L n↔∃f∈L,f.1=n/\f.2.1=y:=by
 obtain⟨h,j⟩:=Ai n k L [] List.Pairwise.nil ζ (λf i e=>⟨d f i e,ζ⟩) c;exact⟨h,λy=>by simpa [lR] using j y⟩
section
variable {t:List zf}
def Ij{α:Type}{lt:α->α->Prop}(c:∀a b,lt a b->¬lt b a):∀{l m:List α},l.Pairwise lt->m.Pairwise lt->(∀x,x∈l↔x∈m)->l=m
 |[],[],_,_,_=>rfl
 |[],y::m,_,_,h=>by have:=(h y).2 ζ;cases this
 |x::l,[],_,_,h=>by have:=(h x).1 ζ;cases this
 |x::l,y::m,k,j,h=>by
  obtain⟨g,n⟩:=fZ.1 k;obtain⟨f,i⟩:=fZ.1 j;obtain rfl:x=y:=by
   rcases z7.1 ((h x).1 ζ) with q|q
   .exact q
   .rcases z7.1 ((h y).2 ζ) with e|e
    .exact e.z
    .exact zC (g y e) (c _ _ (f x q))
  rw[Ij c n i λz=>⟨λd=>?_,λd=>?_⟩]
  .rcases z7.1 ((h z).1 (by simp[d])) with rfl|q
   .exact zC (g z d) (λq=>c _ _ q q)
   .exact q
  .rcases z7.1 ((h z).2 (by simp[d])) with rfl|q
   .exact zC (f z d) (λq=>c _ _ q q)
   .exact q
def PC{cs:Ξ}{L:Θ}{R:zw}(d:Vk t (zp cs) R)(h:Vp t (zp cs) L (zzj (t.w (·.jh)) R)){p:Nat}(x:p<t.j):lR L (vu t p)=(kl R p).w λr=>zY (zp cs) r (ye t p) 3:=by
 have l:∀{q A:Nat},q<t.j->A<t.j->vu t q=vu t A->q=A:=fun{q A} a b e=>by
  have B:=(d.name a).2.1;rw[e,(d.name b).2.1] at B;exact B.z
 have z:∀{q:Nat} {r v:zl} {m F:Nat},q<t.j->zzj (t.w (·.jh)) R q r=Z m->zzj (t.w (·.jh)) R q v=Z F->zY (zp cs) r (ye t q) 3=zY (zp cs) v (ye t q) 3->r=v:=fun{q r v m F} a b c e=>by
  have K:=tQ _ R q r (by unfold UD;rw[b];rfl);have V:=tQ _ R q v (by unfold UD;rw[c];rfl);have P:=d.inside q r (by unfold UD;rw[b];rfl);have S:=d.inside q v (by unfold UD;rw[c];rfl);have B:=ma d.nrise (d.ar a).1 K.2 P;rw[e,ma d.nrise (d.ar a).1 V.2 S] at B;exact(Option.some.inj B).z
 obtain⟨M,H⟩:=ON (L:=L) (n:=vu t p) (k:=ye t p) (λf w e=>by
  obtain⟨q,o,r,m,u,rfl⟩:=(h.mem f).1 w;obtain rfl:=l o x e;exact gM _ _ _ _) (by
  refine h.once.imp_of_mem fun{f g} w N E e Q=>E ?_;obtain⟨q,o,r,m,u,rfl⟩:=(h.mem f).1 w;obtain⟨A,C,v,F,s,rfl⟩:=(h.mem g).1 N;obtain rfl:=l o C e;obtain rfl:=z o u s Q;rw[u] at s;cases s;rfl)
 refine Ij (lt:=λa b=>yV a b=true) (λa b I T=>?_) M ?_ λy=>?_;have:=ix a b a I T;rw[Fc] at this;cases this;rw[pd];intro i j W G D;simp only[xv] at W G;simp only[xM];exact d.sorted x D G;rw[H,z9];constructor;rintro⟨f,w,e,rfl⟩;obtain⟨q,o,r,m,u,rfl⟩:=(h.mem f).1 w;obtain rfl:=l o x e;refine⟨r,?_,rfl⟩;have:=(rD d.inv d.small (by rw[d.len];exact o) r).2 (by unfold UD;rw[u];rfl);unfold kl;rw[U8 _ (by rw[d.len];exact o)];exact this;rintro⟨r,u,rfl⟩;have q:=(d.row x u).1;unfold UD at q;obtain⟨m,J⟩:=my.1 q;exact⟨_,(h.mem _).2 ⟨p,x,r,m,J,rfl⟩,rfl,rfl⟩
def LK{cs:Ξ}{L:Θ}{R:zw}(b:Vk t (zp cs) R)(h:Vp t (zp cs) L (zzj (t.w (·.jh)) R)){p:Nat}(g:p<t.j):∀f∈L,f.1=vu t p->f.2.1.j=ye t p:=λf d e=>by
 obtain⟨q,c,r,m,i,rfl⟩:=(h.mem f).1 d;have a:=(b.name c).2.1;rw[show vu t q=vu t p from e,(b.name g).2.1] at a;subst a;exact gM _ _ _ _
def P9{ns:List Λ}{R:zw}(j:Vk t ns R){a:Λ}(h:(zO t a).I=true):∃p,p<t.j/\zE t a=p/\vu t p=a:=by
 obtain⟨e,i⟩:=my.1 h;obtain⟨d,f,g⟩:=qr i;obtain⟨_,c,b⟩:=j.name d;rw[f,g] at b;exact⟨_,d,by rw[b] at c;exact c,b⟩
end
section
open Go.Proofs.Tryz Go.RowKit
def S9(w:U)(c:Nat)(d f g:O)(a k:Nat)(m:Int)(h:U3 w c #[d,f,g,ι a,ι k,ι m] 156):
  c_ e_ 42 #[(π c)] w λe i=>e=ε (.B #[ι a,ι k,ι m])/\∃n,i=w.drewN n:=by
 obtain⟨b,p⟩:=h.H;have q:=h.lt;have j:=b 3;have l:=b 4;have o:=b 5;clear h b;go_enter func42,ntmps42;go_upto_region 1 with fail
 go_quiet (fail)
 go_wp2;go_ret3
 exact⟨rfl,_,rfl⟩
def NQ(w:U)(x m p:Nat)(c f g:O)(h:Option Addr)(cap a k:Nat)(b:Int)(d:U3 w x #[c,f,g,ι a,ι k,ι b] 156)(l:U3 w m #[.k h a cap,ι k] 54)(r:0<=b):
  c_ e_ 20 #[.agg #[(π x),(π m),(π p)]] w λe o=>e=ε (.i true)/\X (μ w o):=by
 have j:=U2 λW (i:μ w W)=>S9 W x c f g a k b (d.u i);obtain⟨u,s,t⟩:=l.I;clear d;go_enter func20,ntmps20;go_wp2_with (go_at_call 42;refine(j.l _ φ).y ?_;rintro e q ⟨rfl,n,rfl⟩)
 go_ret;exact⟨rfl,zG φ n⟩
end
section
open Go.RowKit
def FQ.refl(t:Ψ)(ns:List Λ)(A:Option (DB×Nat)):FQ t ns A t ns A:=by
 rcases A with _|x;trivial
 exact⟨rfl,λf=>Iff.rfl⟩
def QN{s:Λ}{cs:Ξ}{t:Ψ}(h:uH s=.ok (cs,t)):∀c∈cs,rn c:=by
 unfold uH at h;split at h;cases h;split at h;cases h;rename_i l f;split at h;cases h;rename_i b d;have e:=DQ _ d (Ml f);have a:b=cs:=by
  repeat'(split at h)
  all_goals first|(cases h;done)|(simp only[Except.ok.injEq,yk] at h;exact h.1)
 subst a;exact e
def rc.sz{x:Λ}(h:rc (bl x)):0<x.q/\x.q<=6:=by
 have d:=h.ne;have b:=h.six;have e:(bl x).j=x.q:=rfl;rcases c:bl x with _|⟨a,r⟩;exact zC c d;rw[c] at e b;simp only[xp] at e b;omega
def nQ.fine{l:zk}(h:nQ l)(b:l.k.j<=3):mW l:=
 ⟨h.1.1.sz.2,h.1.1.sz.1,η,λx a=>h.2 x a |>.sz⟩
def rn.fine{c:zd}(h:rn c)(b:yT c=false):mJ c:=by
 unfold yT at b;simp only[pY,decide_eq_false_iff_not] at b;obtain⟨⟨⟨e,f⟩,d⟩,_⟩:=b;refine⟨λl a=>?_,η⟩;rcases z7.1 a with rfl|a;exact h.2.1.fine η;have:=List.any_eq_false.1 d l a;simp only[decide_eq_true_eq] at this;exact(h.2.2 l a).fine η
end
end Go.Proofs.YteampbddflhngaaGreat
