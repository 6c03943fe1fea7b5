import Derived.Test.YteampbddflhngaaGreatR17
import Derived.Test.YteampbddflhngaaGreatR21
import Derived.Test.YteampbddflhngaaGreatR22
namespace Go.Proofs.YteampbddflhngaaGreat
open List renaming length→List.j
open _root_.Array renaming size→Array.q
open _root_.ByteArray renaming size→ByteArray.q
open Go.RowKit.Below renaming size→Go.RowKit.Below.q,mono→Go.RowKit.Below.y,trans→Go.RowKit.Below.A,alloc→Go.RowKit.Below.C
open Go.TypeInfo renaming size→Go.TypeInfo.q
open Go.RowKit.Hid renaming out→Go.RowKit.Hid.l
open Go.Shut renaming out→Go.Shut.l
open Go.World renaming heap→Go.World.o,cell?→Go.World.p,alloc→Go.World.C,ownsRow→Go.World.r
open Go.Value renaming slice→Go.Value.k,string→Go.Value.d,bool→Go.Value.i,cells→Go.Value.E,pointer→Go.Value.u
open Go.TypeDesc renaming slice→Go.TypeDesc.k,string→Go.TypeDesc.d,bool→Go.TypeDesc.i,pointer→Go.TypeDesc.u
open Go.Calls renaming mono→Go.Calls.y
open Eq renaming trans→Eq.A
open Go.Obj renaming cells→Go.Obj.E
open Int renaming toNat→Int.D
open Option renaming some→Z,none→Y
open Go.RowKit renaming Hid→X
open Go renaming World→U,Value→O
set_option linter.all false
set_option maxRecDepth 100000
set_option maxHeartbeats 8000000
open Go.RowKit
section
open Go.Proofs.Tryz
section
variable {B:Nat} {own:TI} {w:U} {wb:Nat} {M:yZ} {V:Nat->O} {a b c:Int} {s:ByteArray}
def Ix(h:yA B own w wb M V)(r:lK)(k:r∈M.rs)(d:ByteArray)(i:M.J.j<=1048577)(f:M.N.j<=1048577)(g:M.ls.j<=1200000000000):
  Calls prog 19 #[(π wb),.agg #[.u (Z (δ r.1)),.u (Z (δ r.2.1)),.u (Z (δ r.2.2.1))],.d d] w λe l=>mA B own w wb M (V 1) e l:=by
 cases j:(zU r.2.2.2.2 d).isSome;exact IQ h r k d j i f;exact Ll h r k d j i f g
end
end
def yA.start(w:U)(a:Bool):yA w.o.q (pD (λ_=>(0,0)) (sl w.o.q 0) (1,0)) (w.C (.E #[ν,ν,ν,ν,ι 0,ι 0,ι 0,ν,.i a,ν,ν,ν,ν,ν] 35)) w.o.q ⟨[],[],[],[],[],0,0,0,a,[],[],[]⟩ (λf=>if f=4∨f=5∨f=6 then ι 0 else if f=8 then .i a else ν):=by
 have c:∀f b,(if f=4∨f=5∨f=6 then O.int .i64 0 else if f=8 then .i a else ν).ownBlock≠Z b:=λf b=>by
  split;simp[O.ownBlock];split<;>simp[O.ownBlock]
 refine⟨⟨λb q=>?_,Ti.new _ _ _,A5 rfl,λb q=>BN λe=>?_,λf T s n d q=>?_,λf b q=>zC q (c f b)⟩,⟨ζ,ζ,by unfold Vc;dsimp only;decide,ζ,ζ,ζ,ζ,ζ⟩,rfl,rfl,rfl,rfl⟩;unfold ua pD at q;by_cases e:(sl w.o.q 0).ownBlock=Z b;cases e;exact zf _;rw[za e] at q;exact zC rfl q;cases e;simp at q;omega;unfold yZ.f at q;split at q<;>first|(cases q;exact xo _ _ _ _)|cases q
structure tH (k:Nat) (M:yZ):Prop where
 ps:M.ps.j<=k
 rs:M.rs.j<=k
 row:M.row.j<=k
 ins:M.ins.j<=k
 ord:M.ord.j<=k
 ls:M.ls.j<=k*1048576
 J:M.J.j<=k
 N:M.N.j<=k
def m7.lim{k:Nat}{M M':yZ}(h:m7 M M')(a:tH k M):tH (k+1) M':=by
 obtain⟨l,b,d,o,j,q,n,f,_⟩:=h;obtain⟨m,i,r,p,g,c,s,e⟩:=a;exact⟨η,η,η,η,η,η,η,η⟩
section
open Go.Proofs.Tryz
variable {os:List (Option (List Int))}{V:Nat->O}
def lJ(lo:Nat)(w:U)(v:O)(o:Option (List Int)):Prop:=match o with
 |none=>v=ν
 |some l=>∃g,v=.k (Z ⟨g,0,Y⟩) l.j l.j/\lo<=g/\Ti w g (rM l) 3
section
variable {lo:Nat} {w w':U} {v:O} {o:Option (List Int)}
def lJ.ord(h:lJ lo w v o):xQ w v o:=by
 match o,h with
 |none,h=>exact h
 |some l,⟨g,a,_,b⟩=>subst a;exact xQ.ints b
def lJ.to(h:lJ lo w v o)(b:∀g c,lo<=g->Ti w g c 3->Ti w' g c 3):lJ lo w' v o:=by
 match o,h with
 |none,h=>exact h
 |some l,⟨g,d,a,e⟩=>exact⟨g,d,a,b g _ a e⟩
def UK(lo:Nat)(w:U)(v:O)(os:List (Option (List Int)))(n:Nat):Prop:=∃a:List O,a.j=n/\w.r lo 24 1 v n a/\∀k (b:k<a.j) (c:k<os.j),lJ lo w a[k] os[k]
def UK.u{os:List (Option (List Int))}{n:Nat}(h:UK lo w v os n)(d:μ w w'):UK lo w' v os n:=by
 obtain⟨f,e,j,i⟩:=h;exact⟨f,e,zy j d,λk a b=>(i k a b).to λg c _ q=>q.u d⟩
def UK.save{own:TI}{n:Nat}(h:UK lo w v os n)(j:xV own w w')(f:∀b,lo<=b->own b=(0,0)):UK lo w' v os n:=by
 obtain⟨r,l,i,t⟩:=h;have d:=j;obtain⟨N,p,s⟩:=d;exact⟨r,l,yT i p λb u m=>s b m (f b (yW i u)),λk a b=>(t k a b).to λg c e q=>j.box q (f g e)⟩
def UK.add{n:Nat}{cs:Γ}{c v':O}(d:cs.j=n)(i:w.r lo 24 1 v n cs)(j:∀k (d:k<cs.j) (r:k<os.j),lJ lo w cs[k] os[k])(p:n<os.j)(l:lJ lo w c os[n])(f:w'.r lo 24 1 v' (n+1) (cs++[c]))(m:zd v.ownBlock.toList w w'):UK lo w' v' os (n+1):=by
 have h:∀g c,lo<=g->Ti w g c 3->Ti w' g c 3:=λg c _ q=>q.save m (jt i q θ);refine⟨cs++[c],by simp[d],f,λk a b=>?_⟩;by_cases e:k<cs.j;rw[uG e];exact(j k e b).to h;obtain rfl:k=n:=by simp at a;omega
 have:(cs++[c])[k]=c:=by simp[List.getElem_append_right,d]
 rw[this];exact l.to h
def UK.cell{os:List (Option (List Int))}{n:Nat}(h:UK lo w v os n)(m:n=os.j)(k:Nat)(d:k<os.j):∃g a u,v=.k (Z (δ g)) n a/\g<w.o.q/\w.p (ω g k)=Z u/\lJ lo w u os[k]:=by
 obtain⟨p,l,j,i⟩:=h;obtain⟨g,a,b,e,f,c⟩:=nJ j k η;exact⟨g,a,_,b,e,c,i k f d⟩
end
def Vs(W:U):(binOp .eql 24 (ν) (ν)).run prog W=.ok (.i true) W:=by
 have:=run_equal_slice_nil W 24 3 Y 0 0 underlying24;simp[binOp,this]
def Sw{w w':U}{u e:O}{o:Option (List Int)}(h:xQ w u o)(g:xQ w' e o):(u=ν/\e=ν)∨∃a n c d f b,u=.k (Z a) n c/\e=.k (Z d) f b/\(∀W:U,(binOp .eql 24 (.k (Z a) n c) (ν)).run prog W=.ok (.i false) W)/\∀W:U,(binOp .eql 24 (.k (Z d) f b) (ν)).run prog W=.ok (.i false) W:=by
 rcases o with _|l;exact zh ⟨h,g⟩;obtain⟨a,c,rfl,_⟩:=h;obtain⟨d,b,rfl,_⟩:=g;refine ze ⟨a,_,c,d,_,b,rfl,rfl,λW=>?_,λW=>?_⟩;have:=run_equal_slice_nil W 24 3 (Z a) l.j c underlying24;simp[binOp,this];have:=run_equal_slice_nil W 24 3 (Z d) l.j b underlying24;simp[binOp,this]
def m9(B:Nat)(own:TI)(c:U)(d k:Nat)(wr:U):Prop:=∃a M V,yA B a wr d M V/\tH k M/\(∀b,b<c.o.q->a b=own b)/\xV own c wr
section
variable {B:Nat} {own:TI} {w2 wr W:U} {wb k:Nat}
def m9.u(h:m9 B own w2 wb k wr)(c:μ wr W):m9 B own w2 wb k W:=by
 obtain⟨a,M,V,d,e,b,f⟩:=h;exact⟨a,M,V,d.u c,e,b,f.A (xV.of (own:=a) c) b⟩
def m9.step{own':TI}{M:yZ}(n:yA B own' wr wb M V)(p:tH k M)(c:∀b,b<w2.o.q->own' b=own b)(d:xV own w2 wr){e:Ending}{w':U}(q:Uv B own' wr wb M e w'):e=ε (.i true)/\X (m9 B own w2 wb (k+1) w'):=by
 obtain⟨g,⟨a,i,r,l,m,j⟩,h⟩:=q;obtain⟨_,s,_⟩:=id d;exact⟨g,⟨a,i,r,l,m.lim p,λb f=>(j b (ym f s.q)).A (c b f),d.A h.l c⟩⟩
def yA.rs0{own':TI}{M:yZ}(h:yA B own' wr wb M V):∃b a,V 1=.k b M.rs.j a/\∀i (f:i<M.rs.j),∃g,b=Z (δ g)/\g<wr.o.q/\wr.p (ω g (i*3))=Z (.u (Z (δ M.rs[i].1)))/\wr.p (ω g (i*3+1))=Z (.u (Z (δ M.rs[i].2.1)))/\wr.p (ω g (i*3+2))=Z (.u (Z (δ M.rs[i].2.2.1))):=by
 have d:wr.r B 50 3 (V 1) M.rs.j (mj M.rs):=h.hd.row 1 _ _ _ _ rfl;obtain⟨b,a,c⟩:=zr d;refine⟨b,a,c,λi f=>?_⟩;rw[c] at d;obtain⟨g,j,c,_,p,e⟩:=yq d η;cases c;obtain⟨n,l,m⟩:=E2 M.rs i f;exact⟨g,rfl,p,e _ _ n,e _ _ l,e _ _ m⟩
end
end
section
open Go.Proofs.Tryz
def Tc:(prog.info? 3).map (·.q)=Z 1:=χ
def MU(w:U)(s:ByteArray)(hs:s.q<=9223372036854775807)(bm:O)(F:Γ)(os:List (Option (List Int)))(ho:mK w bm F)(h1:F.j=os.j)(cy:∀v∈F,v.oneCell'=true)(h2:∀k (h1:k<F.j) (h2:k<os.j),xQ w F[k] os[k])(dl:F.j<=9223372036854775807)(cd:∀o∈os,(o.getD []).j<=9223372036854775807)(ab qm:Int)(cW:Vc ab)(c7:Vc qm)(nb:Bool)(cS:∀W:U,(binOp .eql 26 bm (ν)).run prog W=.ok (.i nb) W)(dm:nb=true->os=[]):
  Calls prog 10 #[.d s,bm,ι ab,ι qm] w λe d=>e=ε (.i true)/\μ w d:=by
 obtain⟨ao,ch,hv,b4⟩:=id ho;subst hv;have H1:=Th h1;clear h1;by_cases dJ:1048576<s.q
 .go_enter func10,ntmps10;go_wp2;go_ret;exact⟨rfl,zn _ _⟩
 by_cases d9:1048576<F.j
 .go_enter func10,ntmps10;go_wp2;go_ret;exact⟨rfl,zn _ _⟩
 have bB:=Th (QZ (yA.start w false) s η ζ);have cr:=Th λd q=>(yA.start w false).down (w':=d) q;go_enter func10,ntmps10;go_upto_region 5 with (go_at_call 16;refine bB.l.y ?_;rintro e w1 ⟨rfl,HM,HS⟩;obtain⟨m,M1,V1,aG,ci,_⟩:=HM.l;obtain⟨cx,bK,aH⟩:=zr (aG.hd.row 0 _ _ _ _ rfl);have an:=aG.box;have b0:=Th aG;rw[aH] at an;obtain⟨ce,c5,bk⟩:=an.e)
 have cn:X (μ w w1):=((zn w.o.q w).C (zf _) _).A (cr.l _ HS.l);have bM:X (tH 1 M1):=ci.lim ⟨ζ,ζ,ζ,ζ,ζ,ζ,ζ,ζ⟩;clear bB cr HM HS aG ci;by_cases cF:M1.ps.j=0
 .rw[cF] at ce;clear aH;go_wp2;go_ret;exact⟨rfl,cn.l⟩
 have dK:((M1.ps.j:Int) == 0)=false:=by rw[beq_eq_false_iff_ne];omega
 obtain⟨i0,hi,bf,bp,b3⟩:=info_parts S4;clear an;go_wp2;go_loopw [11,12,13,14] (λcD aT _ _ wr=>∃i:Nat,i<=F.j/\aT=ι i/\X (UK w1.o.q wr cD os i)/\X (∀k (h:k<os.j),k<i->(os[k].getD []).j<=1048576)/\X (μ w1 wr)) (λ_ aT _ _ _=>F.j-(intOf aT).D);exact⟨0,zs _,rfl,⟨[],rfl,xo _ _ _ _,λk h=>by simp at h⟩,λk _ h=>η,zn _ _⟩;obtain⟨i,bY,rfl,az,b6,D⟩:=hrel;have S:=Th (Tl cn.l D.l);by_cases I:i<F.j
 .have aa:i<os.j:=by rw[←H1.l];exact I
  obtain⟨g,f,rfl,hg,a9⟩:=b4 i I;have hx:=zi S.l hg a9;have z:=ym hg S.l.q;have aV:=h2 i I aa;have dd:=cd _ (zq aa);have aX:=Th aV;obtain⟨ad,c1,J⟩:=aV.qy;rw[J] at hx aX;clear a9 aV;by_cases bJ:1048576<(os[i].getD []).j
  .generalize (os[i].getD []).j=n at *;go_wp2;go_ret;exact⟨rfl,S.l⟩
  have aP:X (∀k (h:k<os.j),k<i+1->(os[k].getD []).j<=1048576):=λk h hk=>by
   by_cases e:k=i;subst e;omega;exact b6.l k h η
  obtain⟨cs,k1,k2,k3⟩:=az.l;obtain⟨aw,cw,rfl⟩:=zr k2;have bd:=Th k2;have bU:=Th λW c W3 v3 (R:μ wr W) (K:lJ w1.o.q W c os[i])=>UK.add (w:=W) (w':=W3) (c:=c) (v':=v3) k1 (zy k2 R) (λk a b=>(k3 k a b).to λ_ _ _ q=>q.u R) aa K;clear az k2 k3;generalize os[i]=o at *;clear J;rcases o with _|l
  .have h0:O.slice ad 0 c1=ν:=aX.l;cases h0;have aM:∀W:U,(binOp .neq 24 (ν) (ν)).run prog W=.ok (.i false) W:=λW=>by
    have:=run_equal_slice_nil W 24 3 Y 0 0 underlying24;simp[binOp,this]
   simp only[kF,jr] at hx;go_wp2_with (at_builtin;refine kd wr _ [ν] _ rfl (.tmp 74) (.tmp 76) 26 rfl w1.o.q 24 i0 _ 1 24 underlying26 hi bf bp b3 rfl θ (.k aw i cw) i cs rfl bd.l (zn _ _) _ _ rfl ζ rfl a_ η η D.l.q ?_;intro v' w3 ay a7 cc;obtain⟨cV,bN,rfl⟩:=zr ay)
   go_roundw;exact⟨i+1,η,ξ,bU.l wr _ w3 _ (zn _ _) rfl ay a7,aP,D.l.A (a7.u (λx hx=>yW bd.l (xb hx)) D.l.q)⟩;simp[intOf];omega
  obtain⟨aQ,c2,h0,aj⟩:=aX.l;cases h0;have bE:=Th aj;have aM:∀W:U,(binOp .neq 24 (.k (Z aQ) l.j c1) (ν)).run prog W=.ok (.i true) W:=λW=>by
   have:=run_equal_slice_nil W 24 3 (Z aQ) l.j c1 underlying24;simp[binOp,this]
  simp only[uE] at hx bJ;have dQ:=run_make_row' (P:=prog) (w:=wr) 24 3 (ι 0) 8 underlying24 Sy rfl .i64 .i64 l.j η η;obtain⟨es,a0⟩:∃es,es=l.map (O.int .i64):=⟨_,rfl⟩;have aF:es.j=l.j:=by rw[a0];simp
  have bW:X (∀W,μ wr W->0<es.j->∃ad,Z aQ=Z ad/\∀j v,es[j]?=Z v->W.p (ad.add j)=Z v):=λW E _=>by
   refine⟨_,rfl,λj v hj=>?_⟩;obtain⟨dp,e⟩:=jC.1 hj;obtain⟨g',f',rfl,R,K⟩:=bE.l j η;rw[Addr.add_lit,zi (Tl S.l E) R K,←e];simp[a0]
  have db:X (∀v∈es,v.oneCell'=true):=λv hv=>by rw[a0] at hv;obtain⟨x,_,rfl⟩:=zF.1 hv;rfl
  have bA:X (0+es.j<=(madeCells #[O.int .i64 0] l.j).toList.j):=by rw[X,aF];simp[size_madeCells]
  have bL:X (es.j=Nat.min l.j l.j):=by rw[X,aF];simp
  have cP:X ((splice (madeCells #[O.int .i64 0] l.j).toList 0 es).toArray=rM l):=by rw[X,DK _ _ (by rw[aF];simp[size_madeCells]),a0];rfl
  clear aj bE a0 aF;go_wp2_with (first|(refine wpList_copy_splice rfl (.tmp 68) (.tmp 72) 24 24 rfl 3 underlying24 Tc _ _ _ _ _ _ rfl rfl wr.o.q 0 (madeCells #[ι 0] l.j).toList 3 (by rw[Array.toArray_toList];exact Ti.new _ _ _) es bL.l (λhp=>⟨rfl,bW.l _ (by exact zO) hp⟩) bA.l db.l wr.o.q wr (by exact zO) (zf _) ?_;intro w2 bX bt;rw[cP.l] at bX;have bI:=Th (zy bd.l bt);have bn:=Tl D.l bt)|(at_builtin;refine kd w2 _ [.k (Z ⟨wr.o.q,0,Y⟩) l.j l.j] _ rfl (.tmp 74) (.tmp 76) 26 rfl w1.o.q 24 i0 _ 1 24 underlying26 hi bf bp b3 rfl θ (.k aw i cw) i cs rfl bI.l (zn _ _) _ _ rfl ζ rfl a_ η η bn.q ?_;intro v' w3 ay a7 cc;obtain⟨cV,bN,rfl⟩:=zr ay))
  go_roundw;exact⟨i+1,η,ξ,bU.l w2 _ w3 _ bt ⟨_,rfl,D.l.q,bX.l⟩ ay a7,aP,bn.A (a7.u (λx hx=>yW bI.l (xb hx)) bn.q)⟩;simp[intOf];omega
 obtain rfl:i=F.j:=η;clear hi bf bp b3;have aO:0<M1.ps.j:=η;have ap:=b0.l.u D.l;have bO:wr.r w.o.q 40 2 (.k cx M1.ps.j bK) M1.ps.j (nc M1.ps):=by have:=ap.hd.row 0 _ _ _ _ rfl;rw[aH] at this;exact this
 obtain⟨gp,c8,hv,_,dD,aj⟩:=yq bO η;cases hv;obtain⟨cj,cf⟩:=Hu M1.ps 0 aO;have aq:=aj _ _ cj;have a6:=aj _ _ cf;simp only[Nat.zero_mul,vJ] at aq a6;have a8:=ap.box;rw[aH] at a8;obtain⟨cC,cI,cY⟩:=a8.e;have aZ:M1.ps[0]∈M1.ps:=zq aO;have bT:=Th (ap.inn.pairs _ aZ);have b5:X (∀W,μ wr W->Calls prog 17 #[.u (Z ⟨w.o.q,0,Y⟩),.agg #[.u (Z ⟨M1.ps[0].1,0,Y⟩),.u (Z ⟨M1.ps[0].2.1,0,Y⟩)],.k ao F.j ch,.i nb,ι ab,ι qm] W λe d=>pB w.o.q m W w.o.q M1 V1 e d):=λW E=>by
  obtain⟨bS,cZ⟩:∃bS,lU W (.k ao F.j ch) nb bS:=by
   cases hq:nb;exact⟨_,lU.rd (ho.u (Tl S.l E)) cy H1.l.symm (λk k1 k2=>⟨(h2 k k1 k2).u (Tl S.l E),b6.l k k2 k1⟩) η⟩;exact⟨_,lU.no W _⟩
  exact Nl (ap.u E) cZ _ aZ ab qm cW c7 (by have:=bM.l.rs;omega)
 clear cj cf aj bO a8 ce c5 bk aZ ap;generalize cB:M1.ps[0]=p at *;clear cB;obtain⟨x0,m0,cs,t⟩:=p;simp only at aq a6 b5;go_upto_region 20 with fail
 obtain⟨wz,rfl⟩:∃wz,wz=wr:=⟨_,rfl⟩;have au:X (μ wz (wz.C (.E #[(π x0),(π m0)] 40))):=zO;have HX:=Th (Ti.new wz #[(π x0),(π m0)] 40);generalize wz.C (.E #[(π x0),(π m0)] 40)=w2 at *;obtain⟨pc,pf,c9⟩:=HX.l.e;have cm:=Th b0.l.hd.new;obtain⟨dr,_,k2,_⟩:=az.l;obtain⟨aw,cw,rfl⟩:=zr k2;have aJ:=Th (az.l.u au.l);have cG:=Th (b0.l.u (Tl D.l au.l));have aL:=Th (bT.l.keep (own':=m) (zd.of (M:=[]) au.l) ζ λ_ _ e=>e);have aB:X (∀W,xV m w2 W->Ti W wz.o.q #[(π x0),(π m0)] 40):=λW q=>q.box HX.l (cm.l _ D.l.q);have bH:X (∀W,xV m w2 W->UK w1.o.q W (.k aw F.j cw) os F.j):=λW q=>aJ.l.save q cm.l;have bc:X (∀W,xV m w2 W->μ w W):=λW q=>(Tl S.l au.l).A (cG.l.down q);clear k2 az aJ aq a6 cC cI cY;go_wp2_with (go_at_call 17;refine(b5.l _ au.l).y ?_;rintro e w3 ⟨rfl,b9,bq⟩)
 have bF:X (m9 w.o.q m w2 w.o.q 2 w3):=by
  obtain⟨bD,dq,v',R,K,q3⟩:=b9.l;exact⟨bD,_,_,K,m7.lim ⟨ζ,R,ζ,ζ,ζ,ζ,ζ,ζ,rfl⟩ bM.l,q3,bq.l⟩
 clear b9 b5 pc pf c9;go_loopw [10,16] (λ_ aS wq=>∃i:Nat,i<=F.j/\aS=ι i/\X (μ w3 wq)) (λ_ aS _=>F.j-(intOf aS).D);exact⟨0,zs _,rfl,zn _ _⟩;obtain⟨i,bY,rfl,HQ⟩:=hrel;by_cases I:i<F.j
 .have aa:i<os.j:=by rw[←H1.l];exact I
  have bG:=Th (bq.l.A (own':=m) (xV.of HQ.l) λ_ _=>rfl);have bb:=Th (bc.l _ bG.l);obtain⟨g,f,rfl,hg,a9⟩:=b4 i I;obtain⟨gw,d8,u2,cM,cH,cz,br⟩:=(bH.l _ bG.l).cell H1.l i aa;cases cM;have cL:=zi bb.l hg a9;have bk:=ym hg bb.l.q;have bs:=(h2 i I aa).u bb.l;have cJ:=Sw bs br.ord;have aM:=Vs;have HS:=Th λW (E:μ wr W)=>Fz W _ _ _ (bs.u E) (br.ord.u E) (by have:=b6.l i aa I;omega);clear a9 br bs;generalize F[i]=u1 at *;have cK:X (∀W,μ wr W->Calls prog 18 #[u1,u2] W λe d=>e=ε (.i true)/\X (μ w3 d)/\d.p ⟨g,f+i,Y⟩=Z u1/\d.p ⟨gw,i,Y⟩=Z u2/\g<d.o.q/\gw<d.o.q):=λW E=>by
   refine(HS.l W E).y ?_;rintro e d ⟨R,K⟩;have hb:=Tl E K;have:=hb.q;exact⟨R,Tl HQ.l hb,zi hb bk cL,zi hb cH cz,η,η⟩
  clear HS;go_wp2;go_region_held3 (λd=>d.p ⟨g,f+i,Y⟩=Z u1/\d.p ⟨gw,i,Y⟩=Z u2) (go_keep) (first|(go_at_call 18;refine(cK.l _ φ).y ?_;rintro e w5 ⟨rfl,bw,z1,z2,z3,z4⟩))
  all_goals
   rcases cJ with⟨rfl,rfl⟩|⟨a1,n1,c1,a2,n2,c2,rfl,rfl,dN,dP⟩
   all_goals
    go_wp2;go_quiet (fail)
    go_wp2;go_roundw;exact⟨i+1,η,ξ,zI bw.l _⟩;simp[intOf];omega
 have b8:=Th (bF.l.u HQ.l);clear bF HQ bq b4 h2 ho cd cS bH;obtain⟨w4,rfl⟩:∃w4,w4=wr:=⟨_,rfl⟩;obtain⟨⟨lo,sp,_,hP,hR,hT,co,ck,b7⟩,_⟩:=aL.l;have ax:X (∀W,xV m w2 W->Ui lo sp W):=λW q=>q.same co ck b7;have bZ:X (∀W,xV m w2 W->Calls prog 22 #[.agg #[(π x0),(π m0)]] W λe d=>e=ε (.i true)/\μ W d):=λW q=>OV W x0 m0 cs t (hP.same (ax.l W q)) (hR.same (ax.l W q)) hT.len (λc hc=>(hT.fine c hc).1);obtain⟨ct,cv,pv,kv,cp,_,bu,_⟩:=hR;obtain⟨cl,ac,rfl⟩:=bu.qy;have ba:X (∀W,xV m w2 W->Ti W m0 #[cv,.k cl (Tj t).j ac,kv] 45/\To lo W (.k cl (Tj t).j ac) (Tj t)):=λW q=>⟨cp.same ct (ax.l W q),bu.same (ax.l W q)⟩;have dt:(Tj t).j<=1000:=by have:=hT.names;simp only[Tj,xt];exact this
 clear hP hT co ck b7 cp bu aL bT ax;generalize Tj t=y at *;go_wp2;go_loopw [10,17] (λ_ bv wq=>∃i:Nat,i<=y.j/\bv=ι i/\X (m9 w.o.q m w2 w.o.q (2+i) wq)) (λ_ bv _=>y.j-(intOf bv).D);exact⟨0,zs _,rfl,b8⟩;obtain⟨i,bY,rfl,HQ⟩:=hrel;clear b8;obtain⟨aK,M,V,E,hL,ak,ai⟩:=HQ.l;have N:=E.box;obtain⟨dF,af,J,aE⟩:=E.rs0;rw[J] at N;obtain⟨wc,wf,wl⟩:=N.e;have aU:=aB.l _ ai;obtain⟨pc,pf,pl⟩:=aU.e;obtain⟨aY,aR⟩:=ba.l _ ai;obtain⟨mc,mf,ml⟩:=aY.e;by_cases av:(decide ((i:Int)<(y.j:Int))&&decide ((0:Int)<(M.rs.j:Int)))=true
 .have ar:i<y.j:=by simp at av;omega
  have Q:0<M.rs.j:=by simp at av;omega
  clear av;obtain⟨G,rfl,z,r0,r1,r2⟩:=aE 0 Q;obtain⟨gn,rfl,dI,dG⟩:=aR.cell i ar;have cu:X (∀W,μ wr W->Calls prog 19 #[.u (Z ⟨w.o.q,0,Y⟩),.agg #[.u (Z ⟨M.rs[0].1,0,Y⟩),.u (Z ⟨M.rs[0].2.1,0,Y⟩),.u (Z ⟨M.rs[0].2.2.1,0,Y⟩)],.d y[i]] W λe d=>e=ε (.i true)/\X (m9 w.o.q m w2 w.o.q (2+i+1) d)/\d.p ⟨w.o.q,1,Y⟩=Z (.k (Z ⟨G,0,Y⟩) M.rs.j af)/\d.p ⟨G,0,Y⟩=Z (.u (Z ⟨M.rs[0].1,0,Y⟩))/\d.p ⟨G,1,Y⟩=Z (.u (Z ⟨M.rs[0].2.1,0,Y⟩))/\d.p ⟨G,2,Y⟩=Z (.u (Z ⟨M.rs[0].2.2.1,0,Y⟩))/\d.p ⟨wz.o.q,1,Y⟩=Z ((π m0))/\d.p ⟨m0,1,Y⟩=Z (.k (Z ⟨gn,0,Y⟩) y.j ac)/\d.p ⟨gn,i,Y⟩=Z (.d y[i])):=λW hb=>(Ix (E.u hb) _ (zq Q) _ (by have:=hL.J;omega) (by have:=hL.N;omega) (by have:=hL.ls;omega)).y λe d q=>by
   have q0:=ai.A (xV.of (own:=aK) hb) ak;obtain⟨e1,e2⟩:=m9.step (E.u hb) hL ak q0 q.a;obtain⟨_,⟨df,M',V',a1,_,_,a2,a3⟩,a4⟩:=q;have a5:=q0.A a4.l ak;obtain⟨b1,b2⟩:=ba.l _ a5;obtain⟨dz,dc,d1,d2⟩:=a1.rs0;have d0:=a1.box.H.1 1;rw[a3,J,a2] at d1;have d3:d.p ⟨w.o.q,1,Y⟩=Z (V' 1):=d0;rw[a3,J] at d3;cases d1;obtain⟨g6,d4,_,d5,d6,d7⟩:=d2 0 (by rw[a2];exact Q);cases d4;simp only[Nat.zero_mul,vJ,a2] at d5 d6 d7;obtain⟨g7,f1,_,f2⟩:=b2.cell i ar;cases f1;exact⟨e1,e2,d3,d5,d6,d7,by rw[(aB.l _ a5).H.1];rfl,by rw[b1.H.1];rfl,f2⟩
  simp only[Nat.zero_mul,vJ] at r0 r1 r2;have dM:(0:Int)<(M.rs.j:Int):=η;have dv:(i:Int)<(y.j:Int):=η;clear E hL ak ai aE aR HQ J N aU aY;generalize M.rs[0].1=R at *;generalize M.rs[0].2.1=K at *;generalize M.rs[0].2.2.1=q3 at *;generalize y[i]=nm at *;generalize M.rs.j=n at *;go_wp2;have c1:=wc 1;have c2:=pc 1;have c3:=mc 1;simp at c1 c2 c3;go_region_held3 (λd=>d.p ⟨w.o.q,1,Y⟩=Z (.k (Z ⟨G,0,Y⟩) n af)/\d.p ⟨G,0,Y⟩=Z ((π R))/\d.p ⟨G,1,Y⟩=Z ((π K))/\d.p ⟨G,2,Y⟩=Z ((π q3))/\d.p ⟨wz.o.q,1,Y⟩=Z ((π m0))/\d.p ⟨m0,1,Y⟩=Z (.k (Z ⟨gn,0,Y⟩) y.j ac)/\d.p ⟨gn,i,Y⟩=Z (.d nm)) (first|go_keep|(go_simp;done)) (first|(go_at_call 19;refine(cu.l _ φ).y ?_;rintro e w5 ⟨rfl,da,z1,z2,z3,z4,z5,z6,z7⟩))
  all_goals
   go_wp2;go_roundw;exact⟨i+1,η,ξ,da⟩;simp[intOf];omega
 have aA:(i<y.j/\¬0<M.rs.j)∨(¬i<y.j/\True):=by
  rcases gV i y.j with q|q;exact zh ⟨q,λr=>av υ⟩;exact ze ⟨η,trivial⟩
 clear av;rcases aA with⟨ar,aA⟩|⟨ar,aA⟩
 all_goals go_wp2
 all_goals
  clear ar aA;obtain⟨A,rfl⟩:∃A,A=wr:=⟨_,rfl⟩;have HZ:X (∀W,μ A W->xV m w2 W):=λW q=>ai.A (xV.of (own:=aK) q) ak;have aC:=Th E;have bx:=Th aE;have dA:M.rs.j<=1002:=by have:=hL.rs;omega
  clear ai ak E aE J hL HQ wc wf wl pc pf pl mc mf ml aU aY aR ba;go_loopw [10,18] (λ_ bz wq=>∃k:Nat,k<=M.rs.j/\bz=ι k/\X (μ A wq)) (λ_ bz _=>M.rs.j-(intOf bz).D);exact⟨0,zs _,rfl,zn _ _⟩;obtain⟨k,hk,rfl,C⟩:=hrel;have bQ:=N.u C.l;obtain⟨cE,dO,ds⟩:=bQ.e;by_cases bC:k<M.rs.j
  .obtain⟨G,rfl,z,r0,r1,r2⟩:=bx.l k bC;have x0:=zi C.l z r0;have x1:=zi C.l z r1;have x2:=zi C.l z r2;have dh:=ym z C.l.q;have cX:=Th λW (q:μ wr W)=>Lg (aC.l.u (Tl C.l q)) _ (zq bC);clear r0 r1 r2;generalize M.rs[k].1=R at *;generalize M.rs[k].2.1=K at *;generalize M.rs[k].2.2.1=q3 at *;go_wp2_with (go_at_call 20;refine(cX.l _ φ).y ?_;rintro e w7 ⟨rfl,c0⟩)
   go_roundw;exact⟨k+1,η,ξ,Tl C.l c0.l⟩;simp[intOf];omega
  have aN:X (∀W,μ A W->μ w W/\Ti W wz.o.q #[(π x0),(π m0)] 40/\Calls prog 22 #[.agg #[(π x0),(π m0)]] W λe d=>e=ε (.i true)/\μ W d):=λW q=>⟨bc.l _ (HZ.l W q),aB.l _ (HZ.l W q),bZ.l _ (HZ.l W q)⟩;clear bc aB bZ HZ;by_cases Q:0<M.rs.j
  .obtain⟨dL,du,R5,L,k5,dH,dB,dn,dx,dw,de,dy,dk,q5⟩:=aC.l.inn.ress _ (zq Q);obtain⟨ah,l1,l2,l3⟩:=q5.fl;obtain⟨cR,dg,rfl⟩:=zr l2;have cT:=q5.model;have bV:X (∀f∈L,f.2.1.j<=3):=λf hf=>by
    obtain⟨p',cQ,r',m',_,rfl⟩:=(q5.rep.mem f).1 hf;rw[kN];exact q5.ctx.small p' cQ
   have dE:=q5.K;obtain⟨G,rfl,z,r0,r1,r2⟩:=bx.l 0 Q;simp only[Nat.zero_mul,vJ] at r0 r1 r2;have cg:=Th λW (q:μ A W) pr rv ro (K:To 0 W rv ro) (q3:ro.j<=1048576)=>KH (aC.l.u q) _ (zq Q) pr K q3;have cb:X (∀k (h:k<L.j),∃g,cR=Z ⟨g,0,Y⟩/\g<A.o.q/\A.p ⟨g,k*3,Y⟩=Z (.d L[k].1)/\A.p ⟨g,k*3+1,Y⟩=Z (ah[k]'η)/\A.p ⟨g,k*3+2,Y⟩=Z (ι (L[k].2.2:Nat))/\To 0 A (ah[k]'η) L[k].2.1/\L[k].2.1.j<=1048576):=λk h=>by
    have h':k<ah.j:=η;obtain⟨g,dj,hv,_,hg,hc⟩:=yq l2 η;cases hv;have e0:=hc (k*3) _ (m8 L ah k 0 h h' η);have e1:=hc (k*3+1) _ (m8 L ah k 1 h h' η);have e2:=hc (k*3+2) _ (m8 L ah k 2 h h' η);exact⟨g,rfl,hg,e0,e1,e2,(l3 k h h').1,by have:=bV.l _ (zq h);omega⟩
   clear l2 l3 q5 bV bx aC;generalize M.rs[0].1=R at *;generalize M.rs[0].2.1=K at *;generalize M.rs[0].2.2.1=q3 at *;go_wp2;go_loopw [10,19,20] (λ_ am _ wq=>∃j:Nat,j<=L.j/\am=ι j/\X (μ A wq)) (λ_ am _ _=>L.j-(intOf am).D);exact⟨0,zs _,rfl,C⟩;obtain⟨j,hj,rfl,u⟩:=hrel;have ag:=N.u u.l;obtain⟨bi,ca,bg⟩:=ag.e;have aI:=cT.u u.l;obtain⟨c4,cN,dC⟩:=aI.e;have y0:=zi u.l z r0;have y1:=zi u.l z r1;have y2:=zi u.l z r2;have ae:=ym z u.l.q;by_cases cU:j<L.j
   .obtain⟨gf,rfl,aD,f0,f1,f2,f3,f4⟩:=cb.l j cU;obtain⟨al,B,bP⟩:=f3.qy;have s3:=To.u f3 u.l;rw[bP] at f1 s3;have y3:=zi u.l aD f0;have y4:=zi u.l aD f1;have y5:=zi u.l aD f2;have di:=ym aD u.l.q;have bR:=Th λW (q:μ wr W)=>cg.l W (Tl u.l q) L[j].1 _ _ (s3.u q) f4;clear f0 f1 f2 f3 f4 bP s3 cb cg;generalize L[j].1=fp at *;generalize L[j].2.1=fr at *;generalize L[j].2.2=fw at *;go_upto_region 45 with fail
    have H:X (μ wr (wr.C (.E #[.d fp,.k al fr.j B,ι fw] 56))):=zO;have cO:=Th (Ti.new wr #[.d fp,.k al fr.j B,ι fw] 56);have c1:=bi 1;simp at c1;have z1:=zi H.l bg c1;have z2:=zi H.l ae y0;have z3:=zi H.l ae y1;have z4:=zi H.l ae y2;have c6:=ym bg H.l.q;have bo:=ym ae H.l.q;generalize wr.C (.E #[.d fp,.k al fr.j B,ι fw] 56)=wX at *;obtain⟨xc,xf,xl⟩:=cO.l.e;have z5:=xc 0;have z6:=xc 1;simp at z5 z6;have cA:X (∀W,μ wX W->Calls prog 21 #[.agg #[(π R),(π K),(π q3)],.d fp,.k al fr.j B] W λe d=>e=ε (.i true)/\X (μ A d)/\d.p ⟨w.o.q,1,Y⟩=Z (.k (Z ⟨G,0,Y⟩) M.rs.j af)/\d.p ⟨G,0,Y⟩=Z ((π R))/\d.p ⟨G,1,Y⟩=Z ((π K))/\d.p ⟨G,2,Y⟩=Z ((π q3))/\d.p ⟨wr.o.q,0,Y⟩=Z (.d fp)/\d.p ⟨wr.o.q,1,Y⟩=Z (.k al fr.j B)):=λW hb=>by
     refine(bR.l W (Tl H.l hb)).y ?_;rintro e d ⟨t1,t2⟩;have T:=Tl hb t2.l;exact⟨t1,Tl (Tl u.l H.l) T,zi T c6 z1,zi T bo z2,zi T bo z3,zi T bo z4,zi T xl z5,zi T xl z6⟩
    clear bR bi ca c4 cN y0 y1 y2 y3 y4 y5 ag aI;go_region_held3 (λd=>d.p ⟨w.o.q,1,Y⟩=Z (.k (Z ⟨G,0,Y⟩) M.rs.j af)/\d.p ⟨G,0,Y⟩=Z ((π R))/\d.p ⟨G,1,Y⟩=Z ((π K))/\d.p ⟨G,2,Y⟩=Z ((π q3))/\d.p ⟨wr.o.q,0,Y⟩=Z (.d fp)/\d.p ⟨wr.o.q,1,Y⟩=Z (.k al fr.j B)) (first|go_keep|(go_simp;done)) (first|(go_at_call 21;refine(cA.l _ φ).y ?_;rintro e w5 ⟨rfl,bw,u1,u2,u3,u4,u5,u6⟩))
    all_goals
     go_wp2;go_roundw;exact⟨j+1,η,ξ,bw⟩;simp[intOf];omega
   obtain⟨e1,e2,e3⟩:=aN.l _ u.l;obtain⟨pc,pf,pl⟩:=e2.e;have aW:=Th e3;have bh:=Th e1;clear e3 e2 e1;go_wp2_with (go_at_call 22;refine aW.l.y ?_;rintro e w8 ⟨rfl,be⟩)
   go_ret;exact⟨rfl,Tl bh.l be⟩
  have cq:M.rs.j=0:=η;rw[cq] at cE N;go_wp2;go_loopw [10,19,20] (λ_ am _ wq=>X (μ A wq)) (λ_ am _ _=>0);exact C;have ag:=N.u hrel.l;obtain⟨bi,ca,bg⟩:=ag.e;obtain⟨e1,e2,e3⟩:=aN.l _ hrel.l;obtain⟨pc,pf,pl⟩:=e2.e;have aW:=Th e3;have bh:=Th e1;clear e3 e2 e1;go_wp2_with (go_at_call 22;refine aW.l.y ?_;rintro e w8 ⟨rfl,be⟩)
  go_ret;exact⟨rfl,Tl bh.l be⟩
end
end Go.Proofs.YteampbddflhngaaGreat
