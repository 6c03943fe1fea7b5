import Derived.Test.YteampbddflhngaaGreatR17
import Derived.Test.YteampbddflhngaaGreatR21
import Derived.Test.YteampbddflhngaaGreatR22
namespace Go.Proofs.YteampbddflhngaaGreat
open List renaming length→List.j
open _root_.Array renaming size→Array.q
open _root_.ByteArray renaming size→ByteArray.q
open Go.RowKit.Below renaming size→Go.RowKit.Below.q,mono→Go.RowKit.Below.y,trans→Go.RowKit.Below.A,alloc→Go.RowKit.Below.C
open Go.TypeInfo renaming size→Go.TypeInfo.q
open Go.RowKit.Hid renaming out→Go.RowKit.Hid.l
open Go.Shut renaming out→Go.Shut.l
open Go.World renaming heap→Go.World.o,cell?→Go.World.p,alloc→Go.World.C,ownsRow→Go.World.r
open Go.Value renaming slice→Go.Value.k,string→Go.Value.d,bool→Go.Value.i,cells→Go.Value.E,pointer→Go.Value.u
open Go.TypeDesc renaming slice→Go.TypeDesc.k,string→Go.TypeDesc.d,bool→Go.TypeDesc.i,pointer→Go.TypeDesc.u
open Go.Calls renaming mono→Go.Calls.y
open Eq renaming trans→Eq.A
open Go.Obj renaming cells→Go.Obj.E
open Int renaming toNat→Int.D
open Option renaming some→Z,none→Y
open Go.RowKit renaming Hid→X
open Go renaming World→U,Value→O
set_option linter.all false
set_option maxRecDepth 100000
set_option maxHeartbeats 8000000
open Go.RowKit
section
open Go.Proofs.Tryz
section
variable {B:Nat} {own:TH} {w:U} {wb:Nat} {M:yZ} {V:Nat->O} {a b c:Int} {s:ByteArray}
def I4(h:y7 B own w wb M V)(r:lU)(k:r∈M.rs)(d:ByteArray)(j:M.J.j<=1048577)(f:M.N.j<=1048577)(g:M.ls.j<=1200000000000):
  Calls prog 19 #[(π wb),.agg #[.u (Z (δ r.1)),.u (Z (δ r.2.1)),.u (Z (δ r.2.2.1))],.d d] w λe l=>m6 B own w wb M (V 1) e l:=by
 cases i:(zU r.2.2.2.2 d).isSome;exact Je h r k d i j f;exact Kc h r k d i j f g
end
end
def y7.start(w:U)(a:Bool):y7 w.o.q (pZ (λ_=>(0,0)) (sl w.o.q 0) (1,0)) (w.C (.E #[ν,ν,ν,ν,ι 0,ι 0,ι 0,ν,.i a,ν,ν,ν,ν,ν] 35)) w.o.q ⟨[],[],[],[],[],0,0,0,a,[],[],[]⟩ (λf=>if f=4∨f=5∨f=6 then ι 0 else if f=8 then .i a else ν):=by
 have c:∀f b,(if f=4∨f=5∨f=6 then O.int .i64 0 else if f=8 then .i a else ν).ownBlock≠Z b:=λf b=>by
  split;simp[O.ownBlock];split<;>simp[O.ownBlock]
 refine⟨⟨λb q=>?_,Th.new _ _ _,oo rfl,λb q=>oQ λe=>?_,λf T s n d q=>?_,λf b q=>zB q (c f b)⟩,⟨ζ,ζ,by unfold UX;dsimp only;decide,ζ,ζ,ζ,ζ,ζ⟩,rfl,rfl,rfl,rfl⟩;unfold uf pZ at q;by_cases e:(sl w.o.q 0).ownBlock=Z b;cases e;exact zg _;rw[za e] at q;exact zB rfl q;cases e;simp at q;omega;unfold yZ.f at q;split at q<;>first|(cases q;exact xp _ _ _ _)|cases q
structure tj (k:Nat) (M:yZ):Prop where
 ps:M.ps.j<=k
 rs:M.rs.j<=k
 row:M.row.j<=k
 ins:M.ins.j<=k
 ord:M.ord.j<=k
 ls:M.ls.j<=k*1048576
 J:M.J.j<=k
 N:M.N.j<=k
def mJ.lim{k:Nat}{M M':yZ}(h:mJ M M')(a:tj k M):tj (k+1) M':=by
 obtain⟨g,p,l,o,b,s,f,e,_⟩:=h;obtain⟨c,i,q,r,m,n,j,d⟩:=a;exact⟨η,η,η,η,η,η,η,η⟩
section
open Go.Proofs.Tryz
variable {os:List (Option (List Int))}{V:Nat->O}
def lT(lo:Nat)(w:U)(v:O)(o:Option (List Int)):Prop:=match o with
 |none=>v=ν
 |some l=>∃g,v=.k (Z ⟨g,0,Y⟩) l.j l.j/\lo<=g/\Th w g (rY l) 3
section
variable {lo:Nat} {w w':U} {v:O} {o:Option (List Int)}
def lT.ord(h:lT lo w v o):xV w v o:=by
 match o,h with
 |none,h=>exact h
 |some l,⟨g,b,_,a⟩=>subst b;exact xV.ints a
def lT.to(h:lT lo w v o)(b:∀g c,lo<=g->Th w g c 3->Th w' g c 3):lT lo w' v o:=by
 match o,h with
 |none,h=>exact h
 |some l,⟨g,e,a,d⟩=>exact⟨g,e,a,b g _ a d⟩
def UJ(lo:Nat)(w:U)(v:O)(os:List (Option (List Int)))(n:Nat):Prop:=∃a:List O,a.j=n/\w.r lo 24 1 v n a/\∀k (c:k<a.j) (b:k<os.j),lT lo w a[k] os[k]
def UJ.u{os:List (Option (List Int))}{n:Nat}(h:UJ lo w v os n)(d:μ w w'):UJ lo w' v os n:=by
 obtain⟨e,i,f,j⟩:=h;exact⟨e,i,zy f d,λk a b=>(j k a b).to λg c _ q=>q.u d⟩
def UJ.save{own:TH}{n:Nat}(h:UJ lo w v os n)(j:xO own w w')(f:∀b,lo<=b->own b=(0,0)):UJ lo w' v os n:=by
 obtain⟨l,s,i,t⟩:=h;have d:=j;obtain⟨N,p,r⟩:=d;exact⟨l,s,yQ i p λb u m=>r b m (f b (yU i u)),λk a b=>(t k a b).to λg c e q=>j.box q (f g e)⟩
def UJ.add{n:Nat}{cs:Γ}{c v':O}(f:cs.j=n)(j:w.r lo 24 1 v n cs)(l:∀k (f:k<cs.j) (r:k<os.j),lT lo w cs[k] os[k])(p:n<os.j)(i:lT lo w c os[n])(d:w'.r lo 24 1 v' (n+1) (cs++[c]))(m:zd v.ownBlock.toList w w'):UJ lo w' v' os (n+1):=by
 have h:∀g c,lo<=g->Th w g c 3->Th w' g c 3:=λg c _ q=>q.save m (jx j q θ);refine⟨cs++[c],by simp[f],d,λk a b=>?_⟩;by_cases e:k<cs.j;rw[uH e];exact(l k e b).to h;obtain rfl:k=n:=by simp at a;omega
 have:(cs++[c])[k]=c:=by simp[List.getElem_append_right,f]
 rw[this];exact i.to h
def UJ.cell{os:List (Option (List Int))}{n:Nat}(h:UJ lo w v os n)(m:n=os.j)(k:Nat)(f:k<os.j):∃g a u,v=.k (Z (δ g)) n a/\g<w.o.q/\w.p (ω g k)=Z u/\lT lo w u os[k]:=by
 obtain⟨l,p,e,i⟩:=h;obtain⟨g,a,c,d,b,j⟩:=nR e k η;exact⟨g,a,_,c,d,j,i k b f⟩
end
def Vn(W:U):(binOp .eql 24 (ν) (ν)).run prog W=.ok (.i true) W:=by
 have:=run_equal_slice_nil W 24 3 Y 0 0 underlying24;simp[binOp,this]
def IN{w w':U}{u e:O}{o:Option (List Int)}(h:xV w u o)(g:xV w' e o):(u=ν/\e=ν)∨∃a n c d f b,u=.k (Z a) n c/\e=.k (Z d) f b/\(∀W:U,(binOp .eql 24 (.k (Z a) n c) (ν)).run prog W=.ok (.i false) W)/\∀W:U,(binOp .eql 24 (.k (Z d) f b) (ν)).run prog W=.ok (.i false) W:=by
 rcases o with _|l;exact zh ⟨h,g⟩;obtain⟨a,c,rfl,_⟩:=h;obtain⟨d,b,rfl,_⟩:=g;refine ze ⟨a,_,c,d,_,b,rfl,rfl,λW=>?_,λW=>?_⟩;have:=run_equal_slice_nil W 24 3 (Z a) l.j c underlying24;simp[binOp,this];have:=run_equal_slice_nil W 24 3 (Z d) l.j b underlying24;simp[binOp,this]
def nt(B:Nat)(own:TH)(c:U)(d k:Nat)(wr:U):Prop:=∃a M V,y7 B a wr d M V/\tj k M/\(∀b,b<c.o.q->a b=own b)/\xO own c wr
section
variable {B:Nat} {own:TH} {w2 wr W:U} {wb k:Nat}
def nt.u(h:nt B own w2 wb k wr)(c:μ wr W):nt B own w2 wb k W:=by
 obtain⟨a,M,V,e,d,b,f⟩:=h;exact⟨a,M,V,e.u c,d,b,f.A (xO.of (own:=a) c) b⟩
def nt.step{own':TH}{M:yZ}(h:y7 B own' wr wb M V)(r:tj k M)(d:∀b,b<w2.o.q->own' b=own b)(c:xO own w2 wr){e:Ending}{w':U}(q:Uv B own' wr wb M e w'):e=ε (.i true)/\X (nt B own w2 wb (k+1) w'):=by
 obtain⟨j,⟨a,i,n,p,g,s⟩,m⟩:=q;obtain⟨_,l,_⟩:=id c;exact⟨j,⟨a,i,n,p,g.lim r,λb f=>(s b (ym f l.q)).A (d b f),c.A m.l d⟩⟩
def y7.rs0{own':TH}{M:yZ}(h:y7 B own' wr wb M V):∃c a,V 1=.k c M.rs.j a/\∀i (j:i<M.rs.j),∃g,c=Z (δ g)/\g<wr.o.q/\wr.p (ω g (i*3))=Z (.u (Z (δ M.rs[i].1)))/\wr.p (ω g (i*3+1))=Z (.u (Z (δ M.rs[i].2.1)))/\wr.p (ω g (i*3+2))=Z (.u (Z (δ M.rs[i].2.2.1))):=by
 have e:wr.r B 50 3 (V 1) M.rs.j (lO M.rs):=h.hd.row 1 _ _ _ _ rfl;obtain⟨c,a,b⟩:=zr e;refine⟨c,a,b,λi j=>?_⟩;rw[b] at e;obtain⟨g,f,b,_,l,d⟩:=yr e η;cases b;obtain⟨m,n,p⟩:=FM M.rs i j;exact⟨g,rfl,l,d _ _ m,d _ _ n,d _ _ p⟩
end
end
section
open Go.Proofs.Tryz
def SB:(prog.info? 3).map (·.q)=Z 1:=χ
def Jg(w:U)(s:ByteArray)(hs:s.q<=9223372036854775807)(bw:O)(F:Γ)(os:List (Option (List Int)))(ho:mM w bw F)(h1:F.j=os.j)(cL:∀v∈F,v.oneCell'=true)(h2:∀k (h1:k<F.j) (h2:k<os.j),xV w F[k] os[k])(dO:F.j<=9223372036854775807)(bH:∀o∈os,(o.getD []).j<=9223372036854775807)(ae qm:Int)(c6:UX ae)(cN:UX qm)(nb:Bool)(cB:∀W:U,(binOp .eql 26 bw (ν)).run prog W=.ok (.i nb) W)(dv:nb=true->os=[]):
  Calls prog 10 #[.d s,bw,ι ae,ι qm] w λe d=>e=ε (.i true)/\μ w d:=by
 obtain⟨ao,bP,hv,bt⟩:=id ho;subst hv;have H1:=Tg h1;clear h1;by_cases dl:1048576<s.q
 .go_enter func10,ntmps10;go_wp2;go_ret;exact⟨rfl,zn _ _⟩
 by_cases dL:1048576<F.j
 .go_enter func10,ntmps10;go_wp2;go_ret;exact⟨rfl,zn _ _⟩
 have cd:=Tg (OQ (y7.start w false) s η ζ);have b9:=Tg λd q=>(y7.start w false).down (w':=d) q;go_enter func10,ntmps10;go_upto_region 5 with (go_at_call 16;refine cd.l.y ?_;rintro e w1 ⟨rfl,HM,HS⟩;obtain⟨m,M1,V1,aF,bC,_⟩:=HM.l;obtain⟨c9,bZ,aE⟩:=zr (aF.hd.row 0 _ _ _ _ rfl);have a8:=aF.box;have bi:=Tg aF;rw[aE] at a8;obtain⟨cm,cP,bz⟩:=a8.e)
 have ci:X (μ w w1):=((zn w.o.q w).C (zg _) _).A (b9.l _ HS.l);have bV:X (tj 1 M1):=bC.lim ⟨ζ,ζ,ζ,ζ,ζ,ζ,ζ,ζ⟩;clear cd b9 HM HS aF bC;by_cases cD:M1.ps.j=0
 .rw[cD] at cm;clear aE;go_wp2;go_ret;exact⟨rfl,ci.l⟩
 have dA:((M1.ps.j:Int) == 0)=false:=by rw[beq_eq_false_iff_ne];omega
 obtain⟨i0,hi,bu,aV,aQ⟩:=info_parts Ta;clear a8;go_wp2;go_loopw [11,12,13,14] (λc8 bb _ _ wr=>∃i:Nat,i<=F.j/\bb=ι i/\X (UJ w1.o.q wr c8 os i)/\X (∀k (h:k<os.j),k<i->(os[k].getD []).j<=1048576)/\X (μ w1 wr)) (λ_ bb _ _ _=>F.j-(intOf bb).D);exact⟨0,zs _,rfl,⟨[],rfl,xp _ _ _ _,λk h=>by simp at h⟩,λk _ h=>η,zn _ _⟩;obtain⟨i,bI,rfl,a6,aX,C⟩:=hrel;have N:=Tg (Tk ci.l C.l);by_cases I:i<F.j
 .have R:i<os.j:=by rw[←H1.l];exact I
  obtain⟨g,f,rfl,hg,ar⟩:=bt i I;have hx:=zi N.l hg ar;have z:=ym hg N.l.q;have aR:=h2 i I R;have dc:=bH _ (zq R);have aU:=Tg aR;obtain⟨ad,c1,H⟩:=aR.qy;rw[H] at hx aU;clear ar aR;by_cases cg:1048576<(os[i].getD []).j
  .generalize (os[i].getD []).j=n at *;go_wp2;go_ret;exact⟨rfl,N.l⟩
  have aJ:X (∀k (h:k<os.j),k<i+1->(os[k].getD []).j<=1048576):=λk h hk=>by
   by_cases e:k=i;subst e;omega;exact aX.l k h η
  obtain⟨cs,k1,k2,k3⟩:=a6.l;obtain⟨aw,cw,rfl⟩:=zr k2;have aS:=Tg k2;have cq:=Tg λW c W3 v3 (T:μ wr W) (L:lT w1.o.q W c os[i])=>UJ.add (w:=W) (w':=W3) (c:=c) (v':=v3) k1 (zy k2 T) (λk a b=>(k3 k a b).to λ_ _ _ q=>q.u T) R L;clear a6 k2 k3;generalize os[i]=o at *;clear H;rcases o with _|l
  .have h0:O.slice ad 0 c1=ν:=aU.l;cases h0;have aN:∀W:U,(binOp .neq 24 (ν) (ν)).run prog W=.ok (.i false) W:=λW=>by
    have:=run_equal_slice_nil W 24 3 Y 0 0 underlying24;simp[binOp,this]
   simp only[kG,qW] at hx;go_wp2_with (at_builtin;refine kc wr _ [ν] _ rfl (.tmp 74) (.tmp 76) 26 rfl w1.o.q 24 i0 _ 1 24 underlying26 hi bu aV aQ rfl θ (.k aw i cw) i cs rfl aS.l (zn _ _) _ _ rfl ζ rfl a_ η η C.l.q ?_;intro v' w3 az aq cp;obtain⟨cH,ck,rfl⟩:=zr az)
   go_roundw;exact⟨i+1,η,ξ,cq.l wr _ w3 _ (zn _ _) rfl az aq,aJ,C.l.A (aq.u (λx hx=>yU aS.l (xa hx)) C.l.q)⟩;simp[intOf];omega
  obtain⟨bn,c2,h0,aj⟩:=aU.l;cases h0;have bX:=Tg aj;have aN:∀W:U,(binOp .neq 24 (.k (Z bn) l.j c1) (ν)).run prog W=.ok (.i true) W:=λW=>by
   have:=run_equal_slice_nil W 24 3 (Z bn) l.j c1 underlying24;simp[binOp,this]
  simp only[uD] at hx cg;have dG:=run_make_row' (P:=prog) (w:=wr) 24 3 (ι 0) 8 underlying24 S5 rfl .i64 .i64 l.j η η;obtain⟨es,ax⟩:∃es,es=l.map (O.int .i64):=⟨_,rfl⟩;have aA:es.j=l.j:=by rw[ax];simp
  have bB:X (∀W,μ wr W->0<es.j->∃ad,Z bn=Z ad/\∀j v,es[j]?=Z v->W.p (ad.add j)=Z v):=λW D _=>by
   refine⟨_,rfl,λj v hj=>?_⟩;obtain⟨dN,e⟩:=j5.1 hj;obtain⟨g',f',rfl,T,L⟩:=bX.l j η;rw[Addr.add_lit,zi (Tk N.l D) T L,←e];simp[ax]
  have cW:X (∀v∈es,v.oneCell'=true):=λv hv=>by rw[ax] at hv;obtain⟨x,_,rfl⟩:=zF.1 hv;rfl
  have bF:X (0+es.j<=(madeCells #[O.int .i64 0] l.j).toList.j):=by rw[X,aA];simp[size_madeCells]
  have cn:X (es.j=Nat.min l.j l.j):=by rw[X,aA];simp
  have cy:X ((splice (madeCells #[O.int .i64 0] l.j).toList 0 es).toArray=rY l):=by rw[X,Cd _ _ (by rw[aA];simp[size_madeCells]),ax];rfl
  clear aj bX ax aA;go_wp2_with (first|(refine wpList_copy_splice rfl (.tmp 68) (.tmp 72) 24 24 rfl 3 underlying24 SB _ _ _ _ _ _ rfl rfl wr.o.q 0 (madeCells #[ι 0] l.j).toList 3 (by rw[Array.toArray_toList];exact Th.new _ _ _) es cn.l (λhp=>⟨rfl,bB.l _ (by exact zP) hp⟩) bF.l cW.l wr.o.q wr (by exact zP) (zg _) ?_;intro w2 cl bs;rw[cy.l] at cl;have bW:=Tg (zy aS.l bs);have bk:=Tk C.l bs)|(at_builtin;refine kc w2 _ [.k (Z ⟨wr.o.q,0,Y⟩) l.j l.j] _ rfl (.tmp 74) (.tmp 76) 26 rfl w1.o.q 24 i0 _ 1 24 underlying26 hi bu aV aQ rfl θ (.k aw i cw) i cs rfl bW.l (zn _ _) _ _ rfl ζ rfl a_ η η bk.q ?_;intro v' w3 az aq cp;obtain⟨cH,ck,rfl⟩:=zr az))
  go_roundw;exact⟨i+1,η,ξ,cq.l w2 _ w3 _ bs ⟨_,rfl,C.l.q,cl.l⟩ az aq,aJ,bk.A (aq.u (λx hx=>yU bW.l (xa hx)) bk.q)⟩;simp[intOf];omega
 obtain rfl:i=F.j:=η;clear hi bu aV aQ;have aM:0<M1.ps.j:=η;have am:=bi.l.u C.l;have bU:wr.r w.o.q 40 2 (.k c9 M1.ps.j bZ) M1.ps.j (nz M1.ps):=by have:=am.hd.row 0 _ _ _ _ rfl;rw[aE] at this;exact this
 obtain⟨gp,cT,hv,_,dQ,aj⟩:=yr bU η;cases hv;obtain⟨bE,bJ⟩:=Dj M1.ps 0 aM;have av:=aj _ _ bE;have au:=aj _ _ bJ;simp only[Nat.zero_mul,vx] at av au;have a7:=am.box;rw[aE] at a7;obtain⟨cx,cU,cC⟩:=a7.e;have bg:M1.ps[0]∈M1.ps:=zq aM;have ca:=Tg (am.inn.pairs _ bg);have ba:X (∀W,μ wr W->Calls prog 17 #[.u (Z ⟨w.o.q,0,Y⟩),.agg #[.u (Z ⟨M1.ps[0].1,0,Y⟩),.u (Z ⟨M1.ps[0].2.1,0,Y⟩)],.k ao F.j bP,.i nb,ι ae,ι qm] W λe d=>re w.o.q m W w.o.q M1 V1 e d):=λW D=>by
  obtain⟨cc,cI⟩:∃cc,mv W (.k ao F.j bP) nb cc:=by
   cases hq:nb;exact⟨_,mv.rd (ho.u (Tk N.l D)) cL H1.l.symm (λk k1 k2=>⟨(h2 k k1 k2).u (Tk N.l D),aX.l k k2 k1⟩) η⟩;exact⟨_,mv.no W _⟩
  exact QN (am.u D) cI _ bg ae qm c6 cN (by have:=bV.l.rs;omega)
 clear bE bJ aj bU a7 cm cP bz bg am;generalize c4:M1.ps[0]=p at *;clear c4;obtain⟨x0,m0,cs,t⟩:=p;simp only at av au ba;go_upto_region 20 with fail
 obtain⟨wz,rfl⟩:∃wz,wz=wr:=⟨_,rfl⟩;have ay:X (μ wz (wz.C (.E #[(π x0),(π m0)] 40))):=zP;have HX:=Tg (Th.new wz #[(π x0),(π m0)] 40);generalize wz.C (.E #[(π x0),(π m0)] 40)=w2 at *;obtain⟨pc,pf,da⟩:=HX.l.e;have bL:=Tg bi.l.hd.new;obtain⟨dp,_,k2,_⟩:=a6.l;obtain⟨aw,cw,rfl⟩:=zr k2;have aL:=Tg (a6.l.u ay.l);have cO:=Tg (bi.l.u (Tk C.l ay.l));have aI:=Tg (ca.l.keep (own':=m) (zd.of (M:=[]) ay.l) ζ λ_ _ e=>e);have aC:X (∀W,xO m w2 W->Th W wz.o.q #[(π x0),(π m0)] 40):=λW q=>q.box HX.l (bL.l _ C.l.q);have cr:X (∀W,xO m w2 W->UJ w1.o.q W (.k aw F.j cw) os F.j):=λW q=>aL.l.save q bL.l;have b4:X (∀W,xO m w2 W->μ w W):=λW q=>(Tk N.l ay.l).A (cO.l.down q);clear k2 a6 aL av au cx cU cC;go_wp2_with (go_at_call 17;refine(ba.l _ ay.l).y ?_;rintro e w3 ⟨rfl,ct,aT⟩)
 have b7:X (nt w.o.q m w2 w.o.q 2 w3):=by
  obtain⟨ch,dx,v',T,L,q3⟩:=ct.l;exact⟨ch,_,_,L,mJ.lim ⟨ζ,T,ζ,ζ,ζ,ζ,ζ,ζ,rfl⟩ bV.l,q3,aT.l⟩
 clear ct ba pc pf da;go_loopw [10,16] (λ_ bq wq=>∃i:Nat,i<=F.j/\bq=ι i/\X (μ w3 wq)) (λ_ bq _=>F.j-(intOf bq).D);exact⟨0,zs _,rfl,zn _ _⟩;obtain⟨i,bI,rfl,HQ⟩:=hrel;by_cases I:i<F.j
 .have R:i<os.j:=by rw[←H1.l];exact I
  have bG:=Tg (aT.l.A (own':=m) (xO.of HQ.l) λ_ _=>rfl);have be:=Tg (b4.l _ bG.l);obtain⟨g,f,rfl,hg,ar⟩:=bt i I;obtain⟨gw,dP,u2,c7,c0,cY,bv⟩:=(cr.l _ bG.l).cell H1.l i R;cases c7;have cR:=zi be.l hg ar;have bz:=ym hg be.l.q;have br:=(h2 i I R).u be.l;have cu:=IN br bv.ord;have aN:=Vn;have HS:=Tg λW (D:μ wr W)=>D6 W _ _ _ (br.u D) (bv.ord.u D) (by have:=aX.l i R I;omega);clear ar bv br;generalize F[i]=u1 at *;have db:X (∀W,μ wr W->Calls prog 18 #[u1,u2] W λe d=>e=ε (.i true)/\X (μ w3 d)/\d.p ⟨g,f+i,Y⟩=Z u1/\d.p ⟨gw,i,Y⟩=Z u2/\g<d.o.q/\gw<d.o.q):=λW D=>by
   refine(HS.l W D).y ?_;rintro e d ⟨T,L⟩;have hb:=Tk D L;have:=hb.q;exact⟨T,Tk HQ.l hb,zi hb bz cR,zi hb c0 cY,η,η⟩
  clear HS;go_wp2;go_region_held3 (λd=>d.p ⟨g,f+i,Y⟩=Z u1/\d.p ⟨gw,i,Y⟩=Z u2) (go_keep) (first|(go_at_call 18;refine(db.l _ φ).y ?_;rintro e w5 ⟨rfl,bd,z1,z2,z3,z4⟩))
  all_goals
   rcases cu with⟨rfl,rfl⟩|⟨a1,n1,c1,a2,n2,c2,rfl,rfl,dr,dJ⟩
   all_goals
    go_wp2;go_quiet (fail)
    go_wp2;go_roundw;exact⟨i+1,η,ξ,zI bd.l _⟩;simp[intOf];omega
 have cb:=Tg (b7.l.u HQ.l);clear b7 HQ aT bt h2 ho bH cB cr;obtain⟨w4,rfl⟩:∃w4,w4=wr:=⟨_,rfl⟩;obtain⟨⟨lo,sp,_,hP,hR,hT,bT,bK,bR⟩,_⟩:=aI.l;have a9:X (∀W,xO m w2 W->Ug lo sp W):=λW q=>q.same bT bK bR;have cf:X (∀W,xO m w2 W->Calls prog 22 #[.agg #[(π x0),(π m0)]] W λe d=>e=ε (.i true)/\μ W d):=λW q=>MX W x0 m0 cs t (hP.same (a9.l W q)) (hR.same (a9.l W q)) hT.len (λc hc=>(hT.fine c hc).1);obtain⟨b8,cv,pv,kv,bQ,_,bp,_⟩:=hR;obtain⟨bO,ac,rfl⟩:=bp.qy;have aZ:X (∀W,xO m w2 W->Th W m0 #[cv,.k bO (Ti t).j ac,kv] 45/\Tn lo W (.k bO (Ti t).j ac) (Ti t)):=λW q=>⟨bQ.same b8 (a9.l W q),bp.same (a9.l W q)⟩;have d8:(Ti t).j<=1000:=by have:=hT.names;simp only[Ti,xu];exact this
 clear hP hT bT bK bR bQ bp aI ca a9;generalize Ti t=y at *;go_wp2;go_loopw [10,17] (λ_ bx wq=>∃i:Nat,i<=y.j/\bx=ι i/\X (nt w.o.q m w2 w.o.q (2+i) wq)) (λ_ bx _=>y.j-(intOf bx).D);exact⟨0,zs _,rfl,cb⟩;obtain⟨i,bI,rfl,HQ⟩:=hrel;clear cb;obtain⟨aO,M,V,D,hL,ak,al⟩:=HQ.l;have Q:=D.box;obtain⟨dI,ab,H,aH⟩:=D.rs0;rw[H] at Q;obtain⟨wc,wf,wl⟩:=Q.e;have b0:=aC.l _ al;obtain⟨pc,pf,pl⟩:=b0.e;obtain⟨b3,b6⟩:=aZ.l _ al;obtain⟨mc,mf,ml⟩:=b3.e;by_cases ap:(decide ((i:Int)<(y.j:Int))&&decide ((0:Int)<(M.rs.j:Int)))=true
 .have a0:i<y.j:=by simp at ap;omega
  have aa:0<M.rs.j:=by simp at ap;omega
  clear ap;obtain⟨G,rfl,z,r0,r1,r2⟩:=aH 0 aa;obtain⟨gn,rfl,d9,dK⟩:=b6.cell i a0;have c5:X (∀W,μ wr W->Calls prog 19 #[.u (Z ⟨w.o.q,0,Y⟩),.agg #[.u (Z ⟨M.rs[0].1,0,Y⟩),.u (Z ⟨M.rs[0].2.1,0,Y⟩),.u (Z ⟨M.rs[0].2.2.1,0,Y⟩)],.d y[i]] W λe d=>e=ε (.i true)/\X (nt w.o.q m w2 w.o.q (2+i+1) d)/\d.p ⟨w.o.q,1,Y⟩=Z (.k (Z ⟨G,0,Y⟩) M.rs.j ab)/\d.p ⟨G,0,Y⟩=Z (.u (Z ⟨M.rs[0].1,0,Y⟩))/\d.p ⟨G,1,Y⟩=Z (.u (Z ⟨M.rs[0].2.1,0,Y⟩))/\d.p ⟨G,2,Y⟩=Z (.u (Z ⟨M.rs[0].2.2.1,0,Y⟩))/\d.p ⟨wz.o.q,1,Y⟩=Z ((π m0))/\d.p ⟨m0,1,Y⟩=Z (.k (Z ⟨gn,0,Y⟩) y.j ac)/\d.p ⟨gn,i,Y⟩=Z (.d y[i])):=λW hb=>(I4 (D.u hb) _ (zq aa) _ (by have:=hL.J;omega) (by have:=hL.N;omega) (by have:=hL.ls;omega)).y λe d q=>by
   have q0:=al.A (xO.of (own:=aO) hb) ak;obtain⟨e1,e2⟩:=nt.step (D.u hb) hL ak q0 q.a;obtain⟨_,⟨di,M',V',a1,_,_,a2,a3⟩,a4⟩:=q;have a5:=q0.A a4.l ak;obtain⟨b1,b2⟩:=aZ.l _ a5;obtain⟨dC,dk,d1,d2⟩:=a1.rs0;have d0:=a1.box.H.1 1;rw[a3,H,a2] at d1;have d3:d.p ⟨w.o.q,1,Y⟩=Z (V' 1):=d0;rw[a3,H] at d3;cases d1;obtain⟨g6,d4,_,d5,d6,d7⟩:=d2 0 (by rw[a2];exact aa);cases d4;simp only[Nat.zero_mul,vx,a2] at d5 d6 d7;obtain⟨g7,f1,_,f2⟩:=b2.cell i a0;cases f1;exact⟨e1,e2,d3,d5,d6,d7,by rw[(aC.l _ a5).H.1];rfl,by rw[b1.H.1];rfl,f2⟩
  simp only[Nat.zero_mul,vx] at r0 r1 r2;have dw:(0:Int)<(M.rs.j:Int):=η;have dm:(i:Int)<(y.j:Int):=η;clear D hL ak al aH b6 HQ H Q b0 b3;generalize M.rs[0].1=T at *;generalize M.rs[0].2.1=L at *;generalize M.rs[0].2.2.1=q3 at *;generalize y[i]=nm at *;generalize M.rs.j=n at *;go_wp2;have c1:=wc 1;have c2:=pc 1;have c3:=mc 1;simp at c1 c2 c3;go_region_held3 (λd=>d.p ⟨w.o.q,1,Y⟩=Z (.k (Z ⟨G,0,Y⟩) n ab)/\d.p ⟨G,0,Y⟩=Z ((π T))/\d.p ⟨G,1,Y⟩=Z ((π L))/\d.p ⟨G,2,Y⟩=Z ((π q3))/\d.p ⟨wz.o.q,1,Y⟩=Z ((π m0))/\d.p ⟨m0,1,Y⟩=Z (.k (Z ⟨gn,0,Y⟩) y.j ac)/\d.p ⟨gn,i,Y⟩=Z (.d nm)) (first|go_keep|(go_simp;done)) (first|(go_at_call 19;refine(c5.l _ φ).y ?_;rintro e w5 ⟨rfl,cV,z1,z2,z3,z4,z5,z6,z7⟩))
  all_goals
   go_wp2;go_roundw;exact⟨i+1,η,ξ,cV⟩;simp[intOf];omega
 have aD:(i<y.j/\¬0<M.rs.j)∨(¬i<y.j/\True):=by
  rcases dV i y.j with q|q;exact zh ⟨q,λr=>ap υ⟩;exact ze ⟨η,trivial⟩
 clear ap;rcases aD with⟨a0,aD⟩|⟨a0,aD⟩
 all_goals go_wp2
 all_goals
  clear a0 aD;obtain⟨A,rfl⟩:∃A,A=wr:=⟨_,rfl⟩;have HZ:X (∀W,μ A W->xO m w2 W):=λW q=>al.A (xO.of (own:=aO) q) ak;have aB:=Tg D;have bm:=Tg aH;have dD:M.rs.j<=1002:=by have:=hL.rs;omega
  clear al ak D aH H hL HQ wc wf wl pc pf pl mc mf ml b0 b3 b6 aZ;go_loopw [10,18] (λ_ aY wq=>∃k:Nat,k<=M.rs.j/\aY=ι k/\X (μ A wq)) (λ_ aY _=>M.rs.j-(intOf aY).D);exact⟨0,zs _,rfl,zn _ _⟩;obtain⟨k,hk,rfl,E⟩:=hrel;have bA:=Q.u E.l;obtain⟨cZ,dF,ds⟩:=bA.e;by_cases bD:k<M.rs.j
  .obtain⟨G,rfl,z,r0,r1,r2⟩:=bm.l k bD;have x0:=zi E.l z r0;have x1:=zi E.l z r1;have x2:=zi E.l z r2;have dg:=ym z E.l.q;have cG:=Tg λW (q:μ wr W)=>NT (aB.l.u (Tk E.l q)) _ (zq bD);clear r0 r1 r2;generalize M.rs[k].1=T at *;generalize M.rs[k].2.1=L at *;generalize M.rs[k].2.2.1=q3 at *;go_wp2_with (go_at_call 20;refine(cG.l _ φ).y ?_;rintro e w7 ⟨rfl,cA⟩)
   go_roundw;exact⟨k+1,η,ξ,Tk E.l cA.l⟩;simp[intOf];omega
  have aK:X (∀W,μ A W->μ w W/\Th W wz.o.q #[(π x0),(π m0)] 40/\Calls prog 22 #[.agg #[(π x0),(π m0)]] W λe d=>e=ε (.i true)/\μ W d):=λW q=>⟨b4.l _ (HZ.l W q),aC.l _ (HZ.l W q),cf.l _ (HZ.l W q)⟩;clear b4 aC cf HZ;by_cases aa:0<M.rs.j
  .obtain⟨dB,dq,R5,K,k5,dz,dy,dn,dt,dM,dd,du,dh,q5⟩:=aB.l.inn.ress _ (zq aa);obtain⟨ah,l1,l2,l3⟩:=q5.fl;obtain⟨cQ,df,rfl⟩:=zr l2;have cE:=q5.model;have bN:X (∀f∈K,f.2.1.j<=3):=λf hf=>by
    obtain⟨p',cK,r',m',_,rfl⟩:=(q5.rep.mem f).1 hf;rw[kS];exact q5.ctx.small p' cK
   have dE:=q5.K;obtain⟨G,rfl,z,r0,r1,r2⟩:=bm.l 0 aa;simp only[Nat.zero_mul,vx] at r0 r1 r2;have bY:=Tg λW (q:μ A W) pr rv ro (L:Tn 0 W rv ro) (q3:ro.j<=1048576)=>LP (aB.l.u q) _ (zq aa) pr L q3;have ce:X (∀k (h:k<K.j),∃g,cQ=Z ⟨g,0,Y⟩/\g<A.o.q/\A.p ⟨g,k*3,Y⟩=Z (.d K[k].1)/\A.p ⟨g,k*3+1,Y⟩=Z (ah[k]'η)/\A.p ⟨g,k*3+2,Y⟩=Z (ι (K[k].2.2:Nat))/\Tn 0 A (ah[k]'η) K[k].2.1/\K[k].2.1.j<=1048576):=λk h=>by
    have h':k<ah.j:=η;obtain⟨g,dj,hv,_,hg,hc⟩:=yr l2 η;cases hv;have e0:=hc (k*3) _ (mB K ah k 0 h h' η);have e1:=hc (k*3+1) _ (mB K ah k 1 h h' η);have e2:=hc (k*3+2) _ (mB K ah k 2 h h' η);exact⟨g,rfl,hg,e0,e1,e2,(l3 k h h').1,by have:=bN.l _ (zq h);omega⟩
   clear l2 l3 q5 bN bm aB;generalize M.rs[0].1=T at *;generalize M.rs[0].2.1=L at *;generalize M.rs[0].2.2.1=q3 at *;go_wp2;go_loopw [10,19,20] (λ_ an _ wq=>∃j:Nat,j<=K.j/\an=ι j/\X (μ A wq)) (λ_ an _ _=>K.j-(intOf an).D);exact⟨0,zs _,rfl,E⟩;obtain⟨j,hj,rfl,u⟩:=hrel;have af:=Q.u u.l;obtain⟨aW,co,b5⟩:=af.e;have aP:=cE.u u.l;obtain⟨cX,cF,dH⟩:=aP.e;have y0:=zi u.l z r0;have y1:=zi u.l z r1;have y2:=zi u.l z r2;have ag:=ym z u.l.q;by_cases cJ:j<K.j
   .obtain⟨gf,rfl,aG,f0,f1,f2,f3,f4⟩:=ce.l j cJ;obtain⟨ai,B,bM⟩:=f3.qy;have s3:=Tn.u f3 u.l;rw[bM] at f1 s3;have y3:=zi u.l aG f0;have y4:=zi u.l aG f1;have y5:=zi u.l aG f2;have de:=ym aG u.l.q;have bS:=Tg λW (q:μ wr W)=>bY.l W (Tk u.l q) K[j].1 _ _ (s3.u q) f4;clear f0 f1 f2 f3 f4 bM s3 ce bY;generalize K[j].1=fp at *;generalize K[j].2.1=fr at *;generalize K[j].2.2=fw at *;go_upto_region 45 with fail
    have J:X (μ wr (wr.C (.E #[.d fp,.k ai fr.j B,ι fw] 56))):=zP;have cM:=Tg (Th.new wr #[.d fp,.k ai fr.j B,ι fw] 56);have c1:=aW 1;simp at c1;have z1:=zi J.l b5 c1;have z2:=zi J.l ag y0;have z3:=zi J.l ag y1;have z4:=zi J.l ag y2;have cS:=ym b5 J.l.q;have bc:=ym ag J.l.q;generalize wr.C (.E #[.d fp,.k ai fr.j B,ι fw] 56)=wX at *;obtain⟨xc,xf,xl⟩:=cM.l.e;have z5:=xc 0;have z6:=xc 1;simp at z5 z6;have cz:X (∀W,μ wX W->Calls prog 21 #[.agg #[(π T),(π L),(π q3)],.d fp,.k ai fr.j B] W λe d=>e=ε (.i true)/\X (μ A d)/\d.p ⟨w.o.q,1,Y⟩=Z (.k (Z ⟨G,0,Y⟩) M.rs.j ab)/\d.p ⟨G,0,Y⟩=Z ((π T))/\d.p ⟨G,1,Y⟩=Z ((π L))/\d.p ⟨G,2,Y⟩=Z ((π q3))/\d.p ⟨wr.o.q,0,Y⟩=Z (.d fp)/\d.p ⟨wr.o.q,1,Y⟩=Z (.k ai fr.j B)):=λW hb=>by
     refine(bS.l W (Tk J.l hb)).y ?_;rintro e d ⟨t1,t2⟩;have S:=Tk hb t2.l;exact⟨t1,Tk (Tk u.l J.l) S,zi S cS z1,zi S bc z2,zi S bc z3,zi S bc z4,zi S xl z5,zi S xl z6⟩
    clear bS aW co cX cF y0 y1 y2 y3 y4 y5 af aP;go_region_held3 (λd=>d.p ⟨w.o.q,1,Y⟩=Z (.k (Z ⟨G,0,Y⟩) M.rs.j ab)/\d.p ⟨G,0,Y⟩=Z ((π T))/\d.p ⟨G,1,Y⟩=Z ((π L))/\d.p ⟨G,2,Y⟩=Z ((π q3))/\d.p ⟨wr.o.q,0,Y⟩=Z (.d fp)/\d.p ⟨wr.o.q,1,Y⟩=Z (.k ai fr.j B)) (first|go_keep|(go_simp;done)) (first|(go_at_call 21;refine(cz.l _ φ).y ?_;rintro e w5 ⟨rfl,bd,u1,u2,u3,u4,u5,u6⟩))
    all_goals
     go_wp2;go_roundw;exact⟨j+1,η,ξ,bd⟩;simp[intOf];omega
   obtain⟨e1,e2,e3⟩:=aK.l _ u.l;obtain⟨pc,pf,pl⟩:=e2.e;have bh:=Tg e3;have bo:=Tg e1;clear e3 e2 e1;go_wp2_with (go_at_call 22;refine bh.l.y ?_;rintro e w8 ⟨rfl,bf⟩)
   go_ret;exact⟨rfl,Tk bo.l bf⟩
  have cj:M.rs.j=0:=η;rw[cj] at cZ Q;go_wp2;go_loopw [10,19,20] (λ_ an _ wq=>X (μ A wq)) (λ_ an _ _=>0);exact E;have af:=Q.u hrel.l;obtain⟨aW,co,b5⟩:=af.e;obtain⟨e1,e2,e3⟩:=aK.l _ hrel.l;obtain⟨pc,pf,pl⟩:=e2.e;have bh:=Tg e3;have bo:=Tg e1;clear e3 e2 e1;go_wp2_with (go_at_call 22;refine bh.l.y ?_;rintro e w8 ⟨rfl,bf⟩)
  go_ret;exact⟨rfl,Tk bo.l bf⟩
end
end Go.Proofs.YteampbddflhngaaGreat
