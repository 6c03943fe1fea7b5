import Derived.Test.YteampbddflhngaaGreatR03
import Derived.Test.YteampbddflhngaaGreatR07
import Derived.Test.YteampbddflhngaaGreatR08
namespace Go.Proofs.YteampbddflhngaaGreat
open List renaming length→List.j,getD→List.g,take→List.G,map→List.w,toArray→List.F,foldl→List.H
open _root_.Array renaming size→Array.q,getD→Array.g,map→Array.w,foldl→Array.H
open _root_.ByteArray renaming size→ByteArray.q
open Go.RowKit.Below renaming size→Go.RowKit.Below.q,setCell→Go.RowKit.Below.x,mono→Go.RowKit.Below.y,trans→Go.RowKit.Below.A,alloc→Go.RowKit.Below.C
open Go.TypeInfo renaming size→Go.TypeInfo.q
open Go.RowKit.Hid renaming out→Go.RowKit.Hid.l
open Go.Shut renaming out→Go.Shut.l
open Go.World renaming heap→Go.World.o,setCell→Go.World.x,cell?→Go.World.p,alloc→Go.World.C,ownsRow→Go.World.r
open Go.Value renaming slice→Go.Value.k,string→Go.Value.d,bool→Go.Value.i,cells→Go.Value.E,ownBlock→Go.Value.m,pointer→Go.Value.u
open Go.TypeDesc renaming slice→Go.TypeDesc.k,string→Go.TypeDesc.d,bool→Go.TypeDesc.i,pointer→Go.TypeDesc.u
open Option renaming getD→Option.g,map→Option.w,isSome→Option.I,some→Z,none→Y
open Go.Calls renaming mono→Go.Calls.y
open Eq renaming trans→Eq.A,symm→Eq.z
open Iff renaming trans→Iff.A,symm→Iff.z
open Go.Obj renaming cells→Go.Obj.E
open Int renaming toNat→Int.D
open UInt8 renaming toNat→UInt8.D
open Ne renaming symm→Ne.z
open Go.RowKit renaming Hid→X
open Go renaming World→U,Value→O
set_option linter.all false
set_option maxRecDepth 100000
set_option maxHeartbeats 4000000
section
open Go.Proofs.Tryz Go.RowKit
variable {lo:Nat}
def dV(lo:Nat)(w:U)(h:Nat)(vs:κ)(g:List Nat):Prop:=∃d f b e a c,g=[f,b,e,a,c]/\Ti w h #[d,ι (f:Nat),ι (b:Nat),ι (e:Nat),ι (a:Nat),ι (c:Nat)] 257/\To lo w d vs
def dV.u{w w':U}{b:Nat}{vs:κ}{a:Φ}(h:dV lo w b vs a)(c:μ w w'):dV lo w' b vs a:=by
 obtain⟨g,m,f,j,e,i,d,k,l⟩:=h;exact⟨g,m,f,j,e,i,d,k.u c,l.u c⟩
def uT(vs:κ)(a:List Nat)(n:ByteArray):Nat:=match y7 vs n with
 |none=>0
 |some k=>if k≥5 then 0 else a.g k 0
def Pg(w:U)(m:Nat)(vs:κ)(t:Φ)(n:ByteArray)(h:dV lo w m vs t)(z:vs.j<=1000):
  Calls prog 201 #[(π m),.d n] w λe o=>e=ε (ι (uT vs t n:Nat))/\o=w:=by
 obtain⟨x,j,f,i,g,c,rfl,p,v⟩:=h;obtain⟨q,A⟩:=p.H;have l:=Th (RT w m x vs n (by rw[q];rfl) v z);have d:X (uT vs [j,f,i,g,c] n=match y7 vs n with|none=>0|some k=>if k≥5 then 0 else [j,f,i,g,c].g k 0):=rfl;rcases s:y7 vs n with _|k
 .rw[s] at l d;go_enter func201,ntmps201;go_wp2_with (go_at_call 200;refine l.l.y ?_;rintro e o ⟨rfl,a⟩;obtain rfl:=a.z)
  go_ret;exact⟨by rw[d.l];rfl,rfl⟩
 rw[s] at l d;simp only[uE,j6] at l d;by_cases B:k<5
 .have r:(k:Int)<5:=η;have b:X (uT vs [j,f,i,g,c] n=[j,f,i,g,c].g k 0):=by rw[X,d.l,za η]
  have u:w.p (ω m (1+k))=Z (ι (([j,f,i,g,c].g k 0:Nat):Int)):=by
   rw[q];obtain rfl|rfl|rfl|rfl|rfl:k=0∨k=1∨k=2∨k=3∨k=4:=η
   all_goals rfl
  generalize [j,f,i,g,c].g k 0=y at *;clear q d;go_enter func201,ntmps201;go_wp2_with (go_at_call 200;refine l.l.y ?_;rintro e o ⟨rfl,a⟩;obtain rfl:=a.z)
  go_ret;exact⟨by rw[b.l];rfl,rfl⟩
 have r:¬(k:Int)<5:=η;have b:X (uT vs [j,f,i,g,c] n=0):=by rw[X,d.l,zb η]
 go_enter func201,ntmps201;go_wp2_with (go_at_call 200;refine l.l.y ?_;rintro e o ⟨rfl,a⟩;obtain rfl:=a.z)
 go_ret;exact⟨by rw[b.l];rfl,rfl⟩
def pj(lo:Nat)(w:U)(b tb o a:Nat)(t:List zg)(ns:κ):Prop:=Ti w b #[.u (Z ⟨tb,o,Y⟩),(π a)] 200/\TG lo w tb o t/\ni lo w a ns/\t.j<=1000/\ns.j<=1000
def pj.u{w w':U}{b tb o c:Nat}{t:Ψ}{ns:κ}(h:pj lo w b tb o c t ns)(a:μ w w'):pj lo w' b tb o c t ns:=⟨h.1.u a,h.2.1.u a,h.2.2.1.u a,h.2.2.2⟩
def uR(ns vs:κ)(a:List Nat)(t:ByteArray):yh:=if zQ t then⟨true,uT vs a t,0⟩ else⟨false,(xn ns t).g 0,0⟩
def Pc{l:Nat}(w:U)(D tb o B u:Nat)(t:Ψ)(ns vs:κ)(c:Φ)(x:ByteArray)(h:pj lo w D tb o B t ns)(hs:dV l w u vs c)(J:vs.j<=1000):
  Calls prog 186 #[(π D),.d x,(π u)] w λe b=>e=ε (pG (uR ns vs c x))/\μ w b:=by
 obtain⟨k,_,p,_,r⟩:=h;obtain⟨L,K,H⟩:=k.e;have G:=Th λW z=>Pg W u vs c x (hs.u z) J;have I:=Th λW z=>JQ W B ns x (p.u z) r;have j:=Ti.new w #[.i false,ι 0,ι 0] 284;cases g:zQ x
 .have A:X (∀W,Calls prog 156 #[.d x] W λe b=>e=ε (.i false)/\b=W):=λW=>by rw[←g];exact lX x W
  have q:X (uR ns vs c x=⟨false,(xn ns x).g 0,0⟩):=by rw[X,uR,g];rfl
  generalize (xn ns x).g 0=n at *;go_enter func186,ntmps186;go_wp2_with (first|(go_at_call 156;refine(A.l _).y ?_;rintro e b ⟨rfl,a⟩;obtain rfl:=a.z)|(go_at_call 129;refine(I.l _ γ).y ?_;rintro e C ⟨rfl,m,f⟩;have d:Below (w.C (.E #[.i false,ι 0,ι 0] 284)).o.q (w.C (.E #[.i false,ι 0,ι 0] 284)) C:=(by rw[f];exact zI (zn _ _) m);have i:=j.u d;obtain⟨s,F,E⟩:=i.e;have y:μ w C:=(zT γ d (zf _));clear f))
  (try simp only[Exit.inBlock,Exit.then])
  exact zP (v:=.agg #[.i false,ι n,ι 0]) (by simp[results,results186,go_sem,s]) rfl ⟨by rw[q.l];rfl,((y.x ζ _).x ζ _).x ζ _⟩
 have A:X (∀W,Calls prog 156 #[.d x] W λe b=>e=ε (.i true)/\b=W):=λW=>by rw[←g];exact lX x W
 have q:X (uR ns vs c x=⟨true,uT vs c x,0⟩):=by rw[X,uR,g];rfl
 generalize uT vs c x=n at *;go_enter func186,ntmps186;go_wp2_with (first|(go_at_call 156;refine(A.l _).y ?_;rintro e b ⟨rfl,a⟩;obtain rfl:=a.z)|(go_at_call 201;refine(G.l _ γ).y ?_;rintro e b ⟨rfl,a⟩;obtain rfl:=a.z))
 (try simp only[Exit.inBlock,Exit.then])
 exact zP (v:=.agg #[.i true,ι n,ι 0]) (by simp[results,results186,go_sem]) rfl ⟨by rw[q.l];rfl,γ⟩
end
section
open Go.Proofs.Tryz Go.RowKit
variable {lo:Nat}{ts':List yh}
def S1:(prog.info? 284).w (λi=>(i.zero,i.q,i.bytes))=Z (Z (.agg #[.i false,ι 0,ι 0]),3,24):=χ
def j7(p:Nat)(ts:List yh)(t:yh):yh:=if t.var then{t with w:=(xd ⟨p,ts⟩ t.z).g 0} else t
def ur(ns vs:κ)(a:List Nat)(l:zj):List yh:=l.k.w (uR ns vs a)
def zL(t:List zg)(ns vs:κ)(a:List Nat)(l:zj):zw:=⟨zB t l.o,(ur ns vs a l).w (j7 0 (ur ns vs a l))⟩
def lh(t:yh):Bool×Nat:=(t.var,t.z)
def JH{ts:List yh}(h:ts.w lh=ts'.w lh)(p a q:Nat):zK ⟨p,ts⟩ q=zK ⟨a,ts'⟩ q:=by
 have e:∀l:List yh,(l.any λt=>t.var&&t.z == q)=(l.w lh).any λx=>x.1&&x.2 == q:=λl=>by
  rw[List.any_map];rfl
 simp only[zK];rw[e,e,h]
def NA{ts:List yh}(h:ts.w lh=ts'.w lh)(p a q:Nat):xd ⟨p,ts⟩ q=xd ⟨a,ts'⟩ q:=by
 unfold xd;have:zK ⟨p,ts⟩=zK ⟨a,ts'⟩:=funext (JH h p a);rw[this]
def Re(p:Nat)(ts:List yh)(t:yh):lh (j7 p ts t)=lh t:=by
 unfold j7;split<;>rfl
def vV(ts:List yh)(k:Nat):List yh:=(ts.G k).w (j7 0 ts)++ts.drop k
def Fa(ts:List yh)(k:Nat):(vV ts k).w lh=ts.w lh:=by
 unfold vV;rw[qF,pg,List.map_drop,show(lh ∘ j7 0 ts)=lh from funext (Re 0 ts),sN,jQ]
def IU(ts:List yh)(k:Nat):(vV ts k).j=ts.j:=by
 have:=congrArg List.length (Fa ts k);simpa using this
def Sx(ts:List yh)(k:Nat)(a:k<ts.j):(vV ts k)[k]?=Z ts[k]:=by
 unfold vV;rw[fR υ,xt,vd,dX η,j4,List.getElem?_drop];simp[a]
def LF(ts:List yh)(k:Nat)(a:k<ts.j):(vV ts k).set k (j7 0 ts ts[k])=vV ts (k+1):=by
 unfold vV;rw[fY _ _ υ,xt,vd,dX η,j4,xp a,rq,yN a,qF,kT];rfl
def Oc(ts:List yh):vV ts 0=ts:=by simp[vV]
def Gf(ts:List yh):vV ts ts.j=ts.w (j7 0 ts):=by simp[vV]
def OW{l:zw}{q:Nat}(a:q<=1000000):(xd l q).g 0<=1000000:=by
 unfold xd;split;have:=tV (p:=zK l) (l:=List.range q);simp at this ⊢;omega;simp
def O1(ns:κ)(x:ByteArray):(xn ns x).g 0<=ns.j:=by
 unfold xn;split;simp;omega;simp
def N7(vs:κ)(a:Φ)(n:ByteArray)(h:∀x∈a,x<=1000):uT vs a n<=1000:=by
 unfold uT;split;omega;split;omega;rename_i k _ _;by_cases b:k<a.j;rw[kS,yn b];exact h _ (zq b);rw[kS,gi η];simp
def JB(ns vs:κ)(a:Φ)(x:ByteArray)(h:∀y∈a,y<=1000)(b:ns.j<=1000):(uR ns vs a x).z<=1000/\(uR ns vs a x).w=0:=by
 unfold uR;split;exact⟨N7 vs a x h,rfl⟩;have:=O1 ns x;exact⟨by simp only;omega,rfl⟩
def A3{α:Type}{l:List α}{k:Nat}{x:α}(h:l[k]?=Z x):l.set k x=l:=by
 obtain⟨a,e⟩:=jC.1 h;rw[←e];exact ik a
def OC(ts:List yh)(k:Nat)(t:yh)(b:Nat)(h:ts[k]?=Z t):(T4 (ts.w kA)).set (k*3+2) (ι b)=T4 ((ts.set k {t with w:=b}).w kA):=by
 obtain⟨f,e⟩:=jC.1 h;have a:k<(ts.w kA).j:=by simpa using f
 have q:=Bj (ts.w kA) k a (.i t.var) (ι t.z) (ι b);obtain⟨c,d,_⟩:=eU (ts.w kA) k a;simp only[ue,e,kA] at c d;rw[A3 c,A3 d] at q;rw[q,lf];rfl
def fP(ts:List yh)(k:Nat):List yh:=ts.G k++List.replicate (ts.j-k) ⟨false,0,0⟩
def K8(ts:List yh)(k:Nat)(a:k<=ts.j):(fP ts k).j=ts.j:=by simp[fP];omega
def Nq(ts:List yh)(k:Nat)(a:k<ts.j):(fP ts k).set k ts[k]=fP ts (k+1):=by
 unfold fP;obtain⟨m,b⟩:∃m,ts.j-k=m+1:=⟨ts.j-k-1,η⟩;rw[fY _ _ υ,vd,dX η,j4,b,rT,rq,show ts.j-(k+1)=m from by omega,yN a,kT];rfl
def MW(ts:List yh):fP ts ts.j=ts:=by simp[fP]
def G7(ts:List yh)(k:Nat)(h:∀x∈ts,x.z<=1000/\x.w=0):∀x∈vV ts k,x.z<=1000000/\x.w<=1000000:=by
 intro x a;unfold vV at a;rw[ya] at a;rcases a with a|a;rw[zF] at a;obtain⟨y,b,rfl⟩:=a;have:=h y (gh b);unfold j7;split;exact⟨by simp only;omega,OW η⟩;omega;have:=h x (fB a);omega
def Bf{w:U}{d:Nat}{e:TypeId}{g n cap m:Nat}{f:List (O×O×O)}(h:w.r d e 3 (.k (Z (δ g)) n cap) m (T4 f))(k:Nat)(i:k<f.j):
  ∃a b c,g<w.o.q/\w.p (ω g (k*3))=Z a/\w.p (ω g (k*3+1))=Z b/\w.p (ω g (k*3+2))=Z c:=⟨_,_,_,iv h k i⟩
def G1{aI ax:Nat}(w:U)(mb tb o cb sb:Nat)(t:Ψ)(ns vs:κ)(u:Φ)(l:zj)(va:O)(h:pj lo w mb tb o cb t ns)(hs:dV aI w sb vs u)(hl:vs.j<=1000)(aK:∀y∈u,y<=1000)(ha:To ax w va l.k)(ai:l.k.j<=1000):
  Calls prog 160 #[(π mb),.agg #[.i l.i,.d l.o,va],(π sb)] w λe N=>∃tv,e=ε (.agg #[ι (zB t l.o:Nat),tv])/\yt w.o.q N tv (zL t ns vs u l).v/\μ w N:=by
 obtain⟨i0,hi,aw,aA,aD⟩:=info_parts S1;obtain⟨ao,A,rfl⟩:=ha.qy;have au:=λW:U=>run_make (P:=prog) (w:=W) 202 284 i0 _ underlying202 hi aw .i64 .i64 (l.k.j:Int) (l.k.j:Int) η (Int.le_refl _) (by rw[aD];omega) η;rw[aA] at au;have HF:=Th λW M=>eF lo W tb o t l.o (h.2.1.u M) h.2.2.2.1;have HT:=Th λW x M=>Pc W mb tb o cb sb t ns vs u x (h.u M) (hs.u M) hl;have ag:X (∀x∈ur ns vs u l,x.z<=1000/\x.w=0):=λx hx=>by
  simp only[ur,zF] at hx;obtain⟨y,_,rfl⟩:=hx;exact JB ns vs u y aK h.2.2.2.2
 have HE:X ((zL t ns vs u l).v=(ur ns vs u l).w (j7 0 (ur ns vs u l))):=rfl;have n:(ur ns vs u l).j=l.k.j:=by simp[ur]
 have an:X (∀k (hk:k<l.k.j) (aL:k<(ur ns vs u l).j),uR ns vs u l.k[k]=(ur ns vs u l)[k]):=λk hk aL=>by simp[ur]
 obtain⟨aj,az,aU⟩:=h.1.e;have aG:w.p ⟨mb,0,Y⟩=Z (.u (Z ⟨tb,o,Y⟩)):=by rw[aj];rfl
 clear h hs aj;generalize ur ns vs u l=b at *;generalize zB t l.o=G at *;generalize (zU t l.o).I=fb at *;go_enter func160,ntmps160;go_upto_region 1 with fail
 go_quiet ((go_at_call 77;exact Calls.quiet_of_same (HF.l _ φ)))
 go_upto_region 4 with fail
 have a:=zy (Qr ((((w.C (.E #[.i l.i,.d l.o,.k ao l.k.j A] 90)).C (.E #[ι 0,ν] 204)).drewN nq)) l.k.j 284 (.i false) (ι 0) (ι 0) b_) ((zn _ _).C (zf _) (.E #[ι G,.k (Z ⟨w.o.q+1+1,0,Y⟩) l.k.j l.k.j] 204));have c:=Ti.new ((((w.C (.E #[.i l.i,.d l.o,.k ao l.k.j A] 90)).C (.E #[ι 0,ν] 204)).drewN nq).C (.E (madeCells #[.i false,ι 0,ι 0] (l.k.j*3)) 284)) #[ι G,.k (Z ⟨w.o.q+1+1,0,Y⟩) l.k.j l.k.j] 204;have d:=(((Ti.new (w.C (.E #[.i l.i,.d l.o,.k ao l.k.j A] 90)) #[ι 0,ν] 204).u (zI (zn _ _) nq)).u ((zn _ _).C (zf _) (.E (madeCells #[.i false,ι 0,ι 0] (l.k.j*3)) 284))).u ((zn _ _).C (zf _) (.E #[ι G,.k (Z ⟨w.o.q+1+1,0,Y⟩) l.k.j l.k.j] 204));have S:μ w (((((w.C (.E #[.i l.i,.d l.o,.k ao l.k.j A] 90)).C (.E #[ι 0,ν] 204)).drewN nq).C (.E (madeCells #[.i false,ι 0,ι 0] (l.k.j*3)) 284)).C (.E #[ι G,.k (Z ⟨w.o.q+1+1,0,Y⟩) l.k.j l.k.j] 204)):=φ;have J:(((w.C (.E #[.i l.i,.d l.o,.k ao l.k.j A] 90)).C (.E #[ι 0,ν] 204)).drewN nq).o.q=w.o.q+1+1:=ζ;simp only[U.size_alloc,J] at a c d;clear J;generalize ((((w.C (.E #[.i l.i,.d l.o,.k ao l.k.j A] 90)).C (.E #[ι 0,ν] 204)).drewN nq).C (.E (madeCells #[.i false,ι 0,ι 0] (l.k.j*3)) 284)).C (.E #[ι G,.k (Z ⟨w.o.q+1+1,0,Y⟩) l.k.j l.k.j] 204)=w3 at *;have a5:=S.q;have H0:X (T4 (List.replicate l.k.j (O.bool false,O.int .i64 0,O.int .i64 0))=T4 ((fP b 0).w kA)):=by
  rw[X,fP,List.take_zero,re,Nat.sub_zero,n,List.map_replicate];rfl
 rw[H0.l] at a;clear H0 au aG az HF;have a:=yo a (show w.o.q<=w.o.q+1+1 by omega);go_loopw [35] (λa3 wr=>∃k:Nat,k<=l.k.j/\a3=ι k/\Ti wr (w.o.q+1+1+1) #[ι G,.k (Z ⟨w.o.q+1+1,0,Y⟩) l.k.j l.k.j] 204/\Ti wr (w.o.q+1) #[ι 0,ν] 204/\wr.r w.o.q 284 3 (.k (Z ⟨w.o.q+1+1,0,Y⟩) l.k.j l.k.j) l.k.j (T4 ((fP b k).w kA))/\μ w wr) (λi _=>l.k.j-(intOf i).D);exact⟨0,zs _,rfl,c,d,a,S⟩;clear a c d;obtain⟨k,hk,rfl,c,d,a,m⟩:=hrel;have L:=m.q;by_cases r:k<l.k.j
 .obtain⟨g,rfl,hg,E⟩:=ha.cell k r;have aS:=zi m hg E;have aQ:g<wr.o.q:=η;have s:=Th (Nq b k η);have a1:=Th (an.l k r η);have aP:=K8 b k η;obtain⟨e0,e1,e2,a6,B,ab,aa⟩:=Bf a k υ;have a7:=vl a;obtain⟨F,H,I⟩:=c.e;have aN:wr.p ⟨w.o.q+1+1+1,1,Y⟩=Z (.k (Z ⟨w.o.q+1+1,0,Y⟩) l.k.j l.k.j):=by rw[F];rfl
  clear E;have a2:X (∀W,μ wr W->Calls prog 186 #[(π mb),.d l.k[k],(π sb)] W λe N=>e=ε (.agg #[.i b[k].var,ι (b[k].z:Nat),ι (b[k].w:Nat)])/\μ W N):=λW M=>by
   have q:=HT.l W l.k[k] (Tl m M);rw[a1.l] at q;exact q
  generalize b[k]=tk at *;generalize l.k[k]=x at *;generalize (fP b k)=lk at *;go_wp2;go_region_held3 (λN=>N.p ⟨w.o.q+1+1+1,1,Y⟩=Z (.k (Z ⟨w.o.q+1+1,0,Y⟩) l.k.j l.k.j)) (first|go_keep|(go_simp;done)) (first|(go_at_call 186;refine(a2.l _ φ).y ?_;rintro e T ⟨rfl,V⟩;have f:μ wr T:=(zT φ V (zf _));have C:=c.u f;have ae:=d.u f;have p:=zy a f;obtain⟨am,al,ah⟩:=C.e;obtain⟨f0,f1,f2,a9,a4,ay,a8⟩:=Bf p k υ;have ar:=vl p;have aH:=f.q))
  have j:=Kr p k υ (.i tk.var) (ι tk.z) (ι tk.w);have HM:(lk.w kA).set k (.i tk.var,ι tk.z,ι tk.w)=(fP b (k+1)).w kA:=by rw[←s.l,lf];rfl
  rw[HM] at j;have ac:=((C.set_ne (show w.o.q+1+1+1≠w.o.q+1+1 by omega) (k*3) (.i tk.var)).set_ne (show w.o.q+1+1+1≠w.o.q+1+1 by omega) (k*3+1) (ι tk.z)).set_ne (show w.o.q+1+1+1≠w.o.q+1+1 by omega) (k*3+2) (ι tk.w);have af:=((ae.set_ne (show w.o.q+1≠w.o.q+1+1 by omega) (k*3) (.i tk.var)).set_ne (show w.o.q+1≠w.o.q+1+1 by omega) (k*3+1) (ι tk.z)).set_ne (show w.o.q+1≠w.o.q+1+1 by omega) (k*3+2) (ι tk.w);have ad:μ w (((T.x ⟨w.o.q+1+1,k*3,Y⟩ (.i tk.var)).x ⟨w.o.q+1+1,k*3+1,Y⟩ (ι tk.z)).x ⟨w.o.q+1+1,k*3+2,Y⟩ (ι tk.w)):=(((Tl m f).x υ _).x υ _).x υ _;generalize ((T.x ⟨w.o.q+1+1,k*3,Y⟩ (.i tk.var)).x ⟨w.o.q+1+1,k*3+1,Y⟩ (ι tk.z)).x ⟨w.o.q+1+1,k*3+2,Y⟩ (ι tk.w)=w5 at *;go_wp2;go_roundw;exact⟨k+1,η,ξ,ac,af,j,ad⟩;simp[intOf];omega
 obtain rfl:k=l.k.j:=η;rw[←n,MW] at a;rw[←n] at c;clear r hk;obtain⟨F,H,I⟩:=c.e;go_wp2;clear F H I;rw[←n] at ai ⊢;clear S a5 HT an n;go_loopw [52] (λaF wr=>∃k:Nat,k<=b.j/\aF=ι k/\Ti wr (w.o.q+1+1+1) #[ι G,.k (Z ⟨w.o.q+1+1,0,Y⟩) b.j b.j] 204/\Ti wr (w.o.q+1) #[ι 0,ν] 204/\wr.r w.o.q 284 3 (.k (Z ⟨w.o.q+1+1,0,Y⟩) b.j b.j) b.j (T4 ((vV b k).w kA))/\μ w wr) (λi _=>b.j-(intOf i).D);exact⟨0,zs _,rfl,c,d,by rw[Oc];exact a,m⟩;clear a c d m L;obtain⟨k,hk,rfl,c,d,a,m⟩:=hrel;have L:=m.q;by_cases r:k<b.j
 .have aJ:=IU b k;have D:=Th (Sx b k r);have s:=Th (LF b k r);have ap:X (xd ⟨G,vV b k⟩ b[k].z=xd ⟨0,b⟩ b[k].z):=NA (Fa b k) _ _ _;have z:X (j7 0 b b[k]=if b[k].var then{b[k] with w:=(xd ⟨0,b⟩ b[k].z).g 0} else b[k]):=rfl;have K:=G7 b k ag.l;have aM:=(ag.l b[k] (zq r)).1;obtain⟨a6,B,ab,aa⟩:=iv a k υ;have ak:k<(vV b k).j:=η;have aq:(vV b k)[k]=b[k]:=by have q:=D.l;rw[yn ak] at q;simpa using q
  simp only[ue,aq,kA] at B ab aa;have a7:=vl a;obtain⟨F,H,I⟩:=c.e;have av:X (yt w.o.q wr (.k (Z ⟨w.o.q+1+1,0,Y⟩) b.j b.j) (vV b k)):=⟨by rw[aJ];exact a,η,K⟩;have aB:X (∀W,μ wr W->Calls prog 187 #[.agg #[ι G,.k (Z ⟨w.o.q+1+1,0,Y⟩) b.j b.j],ι (b[k].z:Nat)] W λe N=>e=ε (.tuple #[ι (((xd ⟨0,b⟩ b[k].z).g 0:Nat):Int),.i (xd ⟨0,b⟩ b[k].z).I])/\μ W N):=λW M=>by
   have q:=D9 W _ G b[k].z (vV b k) (av.l.u M) η;rw[ap.l] at q;exact q
  clear ak aq ap K av;generalize b[k]=tk at *;generalize vV b k=Q at *;generalize (xd ⟨0,b⟩ tk.z).g 0=R at *;generalize (xd ⟨0,b⟩ tk.z).I=lb at *;cases hv:tk.var
  .rw[hv] at B z;simp only[dU,if_false] at z;go_wp2;have aE:X (Q=vV b (k+1)):=by
    rw[X,←s.l,z.l];exact(A3 D.l).z
   go_roundw;exact⟨k+1,η,ξ,c.u φ,d.u φ,by rw[←aE.l];exact zy a φ,zT m φ (zf _)⟩;simp[intOf];omega
  rw[hv] at B z;simp only[if_true] at z;have aO:wr.o.q≠w.o.q+1+1:=η;go_upto_region 13 with (first|(go_at_call 187;refine(aB.l _ φ).y ?_;rintro e T ⟨rfl,V⟩;have f:μ wr T:=(zT φ V (zf _));have C:=c.u f;have ae:=d.u f;have p:=zy a f;obtain⟨am,al,ah⟩:=C.e;obtain⟨f0,f1,f2,a9,a4,ay,a8⟩:=Bf p k υ;have ar:=vl p;have aH:=f.q))
  have j:=uD p (k*3+2) (by rw[sS];simp;omega) (ι R);have ac:=C.set_ne (show w.o.q+1+1+1≠w.o.q+1+1 by omega) (k*3+2) (ι R);have af:=ae.set_ne (show w.o.q+1≠w.o.q+1+1 by omega) (k*3+2) (ι R);have ad:μ w (T.x ⟨w.o.q+1+1,k*3+2,Y⟩ (ι R)):=((Tl m f).x υ _);have HM:X ((T4 (Q.w kA)).set (k*3+2) (ι R)=T4 ((vV b (k+1)).w kA)):=by
   rw[X,←s.l,z.l];exact OC Q k tk R D.l
  rw[HM.l] at j;clear B ab aa;go_wp2;generalize T.x ⟨w.o.q+1+1,k*3+2,Y⟩ (ι R)=w5 at *;go_roundw;exact⟨k+1,η,ξ,ac,af,j,ad⟩;simp[intOf];omega
 obtain rfl:k=b.j:=η;rw[Gf] at a;obtain⟨F,H,I⟩:=c.e;obtain⟨a0,aR,aT⟩:=d.e;have aC:X (∀x∈b.w (j7 0 b),x.z<=1000000/\x.w<=1000000):=by rw[←Gf];exact G7 b _ ag.l
 go_wp2
 (try simp only[Exit.inBlock,Exit.then])
 refine zP (v:=.agg #[ι G,.k (Z ⟨w.o.q+1+1,0,Y⟩) b.j b.j]) (by simp[results,results160,go_sem,a0]) rfl ⟨_,rfl,?_,(m.x ζ _).x ζ _⟩;rw[HE.l];refine⟨?_,by simpa using ai,aC.l⟩;rw[xt];exact xP a (((Tv.refl (w.o.q+1) wr).x 0 _).x 1 _) d θ
end
section
open Go.Proofs.Tryz Go.RowKit
variable {lo:Nat}
def vO(a:List Nat)(x:Int×Nat):List Nat:=if 0<=x.1/\x.1<5 then a.set x.1.D x.2 else a
def yH(os:List Int):List Nat:=os.zipIdx.H vO [0,1,2,3,4]
def RD(a:Φ)(x:Int×Nat):(vO a x).j=a.j:=by unfold vO;split<;>simp
def iT(os:List Int):(yH os).j=5:=by
 have:∀(l:List (Int×Nat)) (a:Φ),(l.H vO a).j=a.j:=by
  intro l;induction l with
  |nil=>intro a;rfl
  |cons x l b=>intro a;rw[uJ,b,RD]
 exact this _ _
def F9{os:List Int}{k:Nat}(a:k<os.j):(os.G (k+1)).zipIdx.H vO [0,1,2,3,4]=vO ((os.G k).zipIdx.H vO [0,1,2,3,4]) (os[k],k):=by
 rw[yN a,List.zipIdx_append,qZ];simp only[List.zipIdx_singleton,vd,vJ,uJ,List.foldl_nil];rw[dX η]
def kQ(a:O)(b:List Nat):List Value:=a::b.w TO
def Gu(a:O)(b:Φ)(k x:Nat):(kQ a b).F.setIfInBounds (1+k) (ι x)=(kQ a (b.set k x)).F:=by
 rw[Nat.add_comm];simp[kQ,List.map_set,TO]
def mQ(k:Nat):List Nat:=(List.range 5).w λi=>if i<k then i else 0
def Ro(k:Nat)(a:k<5):(mQ k).set k k=mQ (k+1):=by
 obtain rfl|rfl|rfl|rfl|rfl:k=0∨k=1∨k=2∨k=3∨k=4:=η
 all_goals rfl
def GI{w:U}{a:Nat}{e:O}{b:Φ}(c:b.j=5)(h:Ti w a (kQ e b).F 257):a<w.o.q/\(∀o,w.frozen? (ω a o)=false)/\∀k,k<5->∃x:Nat,w.p (ω a (1+k))=Z (ι (x:Nat)):=by
 obtain⟨f,g⟩:=h.H;refine⟨h.lt,g,λk d=>⟨b[k]'η,?_⟩⟩;rw[f,Nat.add_comm];simp[kQ,c,d,TO]
def OK(w:U)(vs:κ)(b:List Nat)(e:Ending)(w':U):Prop:=∃a,e=ε (.agg (kQ a b).F)/\To w.o.q w' a vs/\μ w w'
def Jg(w:U)(c:zc)(va vb ov:O)(o:Option (List Int))(hs:To lo w va c.g.k)(hb:TN lo w vb c.d)(hl:c.g.k.j+xj c.d<=1000)(I:c.d.j<=1000)(T:xQ w ov o)(ap:(o.g []).j<=1000):
  Calls prog 158 #[.agg #[.i c.g.i,.d c.g.o,va,vb],ov] w λe w'=>OK w (zx c) (yH (o.g [])) e w':=by
 obtain⟨ao,ac,rfl⟩:=hs.qy;obtain⟨af,J,rfl⟩:=hb.qy;obtain⟨al,ai,rfl⟩:=T.qy;have HP:=Th λW hW=>oA W c _ _ (hs.u hW) (hb.u hW) hl I;have HO:=Th T;clear hs hb hl I T;go_enter func158,ntmps158;go_upto_region 2 with (first|(go_at_call 148;refine(HP.l _ γ).y ?_;rintro e t ⟨D,rfl,u,E⟩;obtain⟨l,d,rfl⟩:=zr u))
 have F:μ w t:=zT γ E (zf _);have am:=F.q;have G:To w.o.q t (.k l (zx c).j d) (zx c):=yo u υ;have A:=(Ti.new (w.C (.E #[.i c.g.i,.d c.g.o,.k ao c.g.k.j ac,.k af c.d.j J] 171)) #[ν,ι 0,ι 0,ι 0,ι 0,ι 0] 257).u E;rw[U.size_alloc] at A;have aq:=A.lt;have a:=Ti.new t (kQ (.k l (zx c).j d) (mQ 0)).F 257;have z:μ t (t.C (.E (kQ (.k l (zx c).j d) (mQ 0)).F 257)):=γ;have j:=G.u z;have h:=A.u z;have b:=Tl F z;rw[show(kQ (.k l (zx c).j d) (mQ 0)).F=#[.k l (zx c).j d,ι 0,ι 0,ι 0,ι 0,ι 0] from rfl] at j h b;rw[show(t.C (.E (kQ (.k l (zx c).j d) (mQ 0)).F 257))=(t.C (.E #[.k l (zx c).j d,ι 0,ι 0,ι 0,ι 0,ι 0] 257)) from rfl] at a;clear u E A G HP z;generalize Q:zx c=vs at *;have ab:=Th Q;clear Q;generalize B:O.slice l vs.j d=D at *;generalize t.C (.E #[D,ι 0,ι 0,ι 0,ι 0,ι 0] 257)=w2 at *;generalize t.o.q=sb at *;clear F t;have ag:=Th B;clear B;go_wp2;go_loopw [12] (λS wr=>∃k:Nat,k<=5/\S=ι k/\Ti wr sb (kQ D (mQ k)).F 257/\Ti wr (w.o.q+1) #[ν,ι 0,ι 0,ι 0,ι 0,ι 0] 257/\To w.o.q wr D vs/\μ w wr) (λi _=>5-(intOf i).D);exact⟨0,η,rfl,a,h,j,b⟩;clear a h j b;obtain⟨k,hk,rfl,a,h,j,b⟩:=hrel;have P:=b.q;by_cases s:k<5
 .have ah:(k:Int)<5:=η;obtain⟨M,N,r⟩:=GI (by simp[mQ]) a;obtain⟨x,hx⟩:=r k s;have m:=a.set (1+k) (ι k);rw[Gu,Ro k s] at m;clear r;go_wp2;go_roundw;exact⟨k+1,η,ξ,m,h.set_ne η _ _,xP j ((Tv.refl _ _).x _ _) a θ,b.x υ _⟩;simp[intOf];omega
 obtain rfl:k=5:=η;clear hk s;have HF:X (mQ 5=((o.g []).G 0).zipIdx.H vO [0,1,2,3,4]):=rfl;rw[HF.l] at a;clear HF;go_wp2;go_loopw [22] (λaa wr=>∃k:Nat,k<=(o.g []).j/\aa=ι k/\Ti wr sb (kQ D (((o.g []).G k).zipIdx.H vO [0,1,2,3,4])).F 257/\Ti wr (w.o.q+1) #[ν,ι 0,ι 0,ι 0,ι 0,ι 0] 257/\To w.o.q wr D vs/\μ w wr) (λi _=>(o.g []).j-(intOf i).D);exact⟨0,η,rfl,a,h,j,b⟩;clear a h j b P;obtain⟨k,hk,rfl,a,h,j,b⟩:=hrel;have P:=b.q;have L:(((o.g []).G k).zipIdx.H vO [0,1,2,3,4]).j=5:=iT _;by_cases s:k<(o.g []).j
 .obtain⟨g,f,rfl,hg,hc⟩:=HO.l.cell k s;have an:=zi b hg hc;have z:g<wr.o.q:=η;have C:=Th (F9 s);clear hc;generalize (o.g [])[k]=x at *;generalize ((o.g []).G k).zipIdx.H vO [0,1,2,3,4]=R at *;by_cases p:0<=x/\x<5
  .obtain⟨n,rfl⟩:=Int.eq_ofNat_of_zero_le p.1;have ar:=p.2;have hn:n<5:=η;obtain⟨M,N,r⟩:=GI L a;obtain⟨y,hy⟩:=r n hn;have m:=a.set (1+n) (ι k);rw[Gu] at m;have q:X (((o.g []).G (k+1)).zipIdx.H vO [0,1,2,3,4]=R.set n k):=by rw[X,C.l,vO,zb p];rfl
   clear r C p;go_wp2;go_roundw;exact⟨k+1,η,ξ,by rw[q.l];exact m,h.set_ne η _ _,xP j ((Tv.refl _ _).x _ _) a θ,b.x υ _⟩;simp[intOf];omega
  have q:X (((o.g []).G (k+1)).zipIdx.H vO [0,1,2,3,4]=R):=by rw[X,C.l,vO,za p]
  clear C;rcases Int.lt_or_le x 0 with h0|h0
  .clear p;go_wp2;exact⟨⟨_,_,_,⟨k+1,η,ξ,by rw[q.l];exact a⟩,rfl,rfl,rfl⟩,by simp[intOf];omega⟩
  have h5:5<=x:=η;clear p;go_wp2;go_roundw;exact⟨k+1,η,ξ,by rw[q.l];exact a,h,j,b⟩;simp[intOf];omega
 have K:X (((o.g []).G k).zipIdx.H vO [0,1,2,3,4]=yH (o.g [])):=by rw[X,yV η];rfl
 rw[K.l] at a;have H5:=iT (o.g []);generalize H:yH (o.g [])=R at *;obtain⟨p0,p1,p2,p3,V,rfl⟩:=five H5;have ad:=Th H;clear H;rw[show(kQ D [p0,p1,p2,p3,V]).F=#[D,ι p0,ι p1,ι p2,ι p3,ι V] from rfl] at a;obtain⟨r,N,M⟩:=a.e;obtain⟨ae,ak,aj⟩:=h.e;have B:=ag.l;subst B;clear L H5 K;go_wp2
 (try simp only[Exit.inBlock,Exit.then])
 refine zP (v:=.agg (kQ (.k l vs.j d) [p0,p1,p2,p3,V]).F) (by simp[results,results158,go_sem,ae,kQ,TO]) rfl ⟨_,by rw[ad.l],?_,?_⟩;rw[ab.l];exact xP j ψ h θ;exact(((((b.x ζ _).x ζ _).x ζ _).x ζ _).x ζ _).x ζ _
def un(os:Option (List (Option (List Int))))(k:Nat):Option (List Int):=(os.g []).g k Y
def Pj(w:U)(c:O)(os:Option (List (Option (List Int))))(k:Nat)(h:jZ w c os)(i:(os.g []).j<=2000000):
  Calls prog 116 #[c,ι k] w λe m=>∃u,e=.returned u/\xQ w u (un os k)/\m=w:=by
 obtain⟨n,d,rfl⟩:=h.qy;by_cases a:k<(os.g []).j
 .obtain⟨g,f,u,rfl,p,o,j⟩:=h.cell k a;have b:X (un os k=(os.g [])[k]):=by simp[X,un,a]
  have l:=Th j;go_enter func116,ntmps116;go_wp2;go_ret;exact⟨_,rfl,by rw[b.l];exact l.l,rfl⟩
 have b:X (un os k=Y):=by simp[X,un,List.getD_eq_getElem?_getD,List.getElem?_eq_none (Nat.not_lt.1 a)]
 go_enter func116,ntmps116;go_wp2;go_ret;exact⟨_,rfl,by rw[b.l];rfl,rfl⟩
def qo(t:List zg)(ns:κ)(c:zc):jI:=⟨zB t c.g.o,zH (zL t ns [] [0,0,0,0,0] c.g) [0,0,0,0,0]⟩
def Hs(f:jI):Value:=.agg #[ι f.o,ι (f.row.g 0 0:Nat),ι (f.row.g 1 0:Nat),ι (f.row.g 2 0:Nat)]
def JW{p:Nat}(w:U)(I tb o R:Nat)(t:Ψ)(ns:κ)(c:zc)(P vb:O)(h:pj lo w I tb o R t ns)(hs:To p w P c.g.k)(hb:TN p w vb c.d)(L:c.g.k.j<=1000):
  Calls prog 118 #[(π I),.agg #[.i c.g.i,.d c.g.o,P,vb]] w λe n=>e=ε (Hs (qo t ns c))/\μ w n:=by
 obtain⟨ao,B,rfl⟩:=hs.qy;obtain⟨D,i,rfl⟩:=hb.qy;have HL:=Th λW sb (hW:μ w W) (b:dV 0 W sb [] [0,0,0,0,0])=>G1 W I tb o R sb t ns [] [0,0,0,0,0] c.g _ (h.u hW) b ζ ζ (hs.u hW) L;have HR:X (∀W v (V:Nat),yt V W v (zL t ns [] [0,0,0,0,0] c.g).v->Calls prog 161 #[.agg #[ι (zB t c.g.o:Nat),v],sJ 0 0 0 0 0] W λr n=>r=ε (.agg #[ι (((qo t ns c).row.g 0 0:Nat):Int),ι (((qo t ns c).row.g 1 0:Nat):Int),ι (((qo t ns c).row.g 2 0:Nat):Int)])/\μ W n):=λW v V C=>BD W v (zB t c.g.o) _ 0 0 0 0 0 C;have HE:X (Hs (qo t ns c)=.agg #[ι (zB t c.g.o:Nat),ι ((qo t ns c).row.g 0 0:Nat),ι ((qo t ns c).row.g 1 0:Nat),ι ((qo t ns c).row.g 2 0:Nat)]):=rfl;clear h hs hb;have b:=Ti.new ((w.C (.E #[.i c.g.i,.d c.g.o,.k ao c.g.k.j B,.k D c.d.j i] 171)).C (.E #[ι 0,ι 0,ι 0,ι 0] 210)) #[ν,ι 0,ι 0,ι 0,ι 0,ι 0] 257;have k:=(Ti.new (w.C (.E #[.i c.g.i,.d c.g.o,.k ao c.g.k.j B,.k D c.d.j i] 171)) #[ι 0,ι 0,ι 0,ι 0] 210).u ((zn _ _).C (zf _) (.E #[ν,ι 0,ι 0,ι 0,ι 0,ι 0] 257));simp only[U.size_alloc] at b k;generalize (qo t ns c).row.g 0 0=x at *;generalize (qo t ns c).row.g 1 0=y at *;generalize (qo t ns c).row.g 2 0=z at *;generalize (zL t ns [] [0,0,0,0,0] c.g).v=A at *;generalize zB t c.g.o=F at *;go_enter func118,ntmps118;go_upto_region 3 with (first|(go_at_call 160;refine(HL.l _ _ γ (by exact⟨_,0,0,0,0,0,rfl,b,To.nil _⟩)).y ?_;rintro e g ⟨tv,rfl,C,m⟩;obtain⟨d,a,rfl⟩:=C.qy))
 have E:μ w g:=zT γ m (zf _);have j:=k.u m;clear b k HL;have af:=j.lt;have f:μ g (g.C (.E #[ι F,.k d A.j a] 204)):=γ;have u:=Ti.new g #[ι F,.k d A.j a] 204;have M:=j.u f;have H:X (yt _ _ _ A):=C.u f;have s:=Tl E f;clear C j m f;generalize g.C (.E #[ι F,.k d A.j a] 204)=w2 at *;generalize g.o.q=S at *;clear E g;obtain⟨ad,aa,Q⟩:=u.e;have ae:=s.q;go_region_held3 (λn=>n.p ⟨S,0,Y⟩=Z (ι F)/\n.p ⟨S,1,Y⟩=Z (.k d A.j a)) (first|go_keep|(go_simp;done)) (first|(go_at_call 161;refine(HR.l _ _ _ (by exact H.l.u γ)).y ?_;rintro e w3 ⟨rfl,K⟩;have l:μ w2 w3:=(zT γ K (zf _));have J:=u.u l;have G:=M.u l;obtain⟨T,N⟩:=J.H;obtain⟨q,ac,ab⟩:=G.e))
 all_goals
  go_wp2
  (try simp only[Exit.inBlock,Exit.then])
  exact zP (v:=.agg #[ι F,ι x,ι y,ι z]) (by simp[results,results118,go_sem,q]) rfl ⟨by rw[HE.l],((((Tl s l).x ζ _).x ζ _).x ζ _).x ζ _⟩
end
section
open Go.Proofs.Tryz Go.RowKit
variable {lo:Nat}{w0 w:U}{rb rr sb st va hp:Nat}{htv plv nlv v':O}{ht:List yh}{pls nls:List zw}{vs:κ}{pl:List Nat}
def ST:(prog.info? 204).w (λi=>(i.zero,i.q,i.bytes))=Z (Z (.agg #[ι 0,ν]),2,32):=χ
def vA(t:List zg)(ns:κ)(c:zc)(o:Option (List Int)):zu:=
 {L:=xM t c.g.o,m:=(zx c).j,g:=zL t ns (zx c) (yH (o.g [])) c.g,qc:=(c.d.filter λl=>!l.i).w (zL t ns (zx c) (yH (o.g []))),qx:=(c.d.filter λl=>l.i).w (zL t ns (zx c) (yH (o.g [])))}
def Ke(ps:List (Nat×O))(x:Nat×O):fq (ps++[x])=fq ps++[ι (x.1:Nat),x.2]:=by simp[fq]
structure gM (B:Nat) (w0 w:U) (rb rr sb st va hp:Nat) (htv plv nlv:O) (ht:List yh) (pls nls:List zw) (vs:κ) (pl:List Nat):Prop where
 box:Ti w rb #[ι st,ι va,ι hp,htv,plv,nlv] 207
 res:Ti w rr #[ι 0,ι 0,ι 0,ν,ν,ν] 207
 scope:dV B w sb vs pl
 g:yt B w htv ht
 pln:ux B w plv pls
 nln:ux B w nlv nls
 apart:∀b,plv.m=Z b->nlv.m≠Z b
 u:Below B w0 w
 low:B<=rb/\B<=rr/\rb≠rr
def gM.next{B:Nat}{w':U}(h:gM B w0 w rb rr sb st va hp htv plv nlv ht pls nls vs pl)(a:μ w w')(b:B<=w0.o.q):gM B w0 w' rb rr sb st va hp htv plv nlv ht pls nls vs pl:=
 ⟨h.box.u a,h.res.u a,h.scope.u a,h.g.u a,h.pln.u a,h.nln.u a,h.apart,zT h.u a b,h.low⟩
def dV.saveT{a:Nat}{w w':U}{sb:Nat}{vs:κ}{pl:Φ}{T:TypeId}{M:Φ}(h:dV a w sb vs pl)(hs:zd M w w')(b:T3 w T M)(c:257≠T)(m:9≠T):dV a w' sb vs pl:=by
 obtain⟨i,n,f,l,d,k,e,g,j⟩:=h;exact⟨i,n,f,l,d,k,e,g.saveT hs b c,yL j hs b m⟩
def ux.push{e:Nat}{w':U}{v:O}{c:List zw}{ps:List (Nat×O)}{l:zw}{tv:O}(i:w.r e 204 2 v c.j (fq ps))(g:ps.j=c.j)(h:∀k (i:k<c.j) (g:k<ps.j),ps[k].1=c[k].o/\yt e w ps[k].2 c[k].v/\c[k].o<=1000000)(m:c.j+1<=1000)(o:yt e w tv l.v)(hp:l.o<=1000000)
  (n:w'.r e 204 2 v' (c.j+1) (fq ps++[ι l.o,tv])) (hs:zd v.m.toList w w'):ux e w' v' (c++[l]):=by
 have j:=T3.own i;refine⟨ps++[(l.o,tv)],by rw[Ke,yK];exact n,by simp[g],by simpa using m,λk a b=>?_⟩;by_cases f:k<c.j;have d:k<ps.j:=η;rw[uG f,uG d];exact⟨(h k f d).1,(h k f d).2.1.saveT hs j θ,(h k f d).2.2⟩;obtain rfl:k=c.j:=by simp at a;omega
 simp only[←g,pO];exact⟨trivial,o.saveT hs j θ,hp⟩
def gM.pushP{B:Nat}{i:U}{d:List zw}(h:gM B w0 w rb rr sb st va hp htv plv nlv ht pls nls vs pl)(hs:zd plv.m.toList w i)(m:v'.m=plv.m∨∃g,v'.m=Z g/\w.o.q<=g)(u:ux B i v' d)(q:B<=w.o.q):gM B w0 (i.x (ω rb 4) v') rb rr sb st va hp htv v' nlv ht d nls vs pl:=by
 obtain⟨z,o,_⟩:=h.pln;have j:=T3.own o;have k:=h.box.saveT hs j θ;have c:=T3.box k;have a:zd [rb] i (i.x (ω rb 4) v'):=zd.set _ _ _ _;have p:=k.set 4 v';have n:=h.nln.saveT hs j θ λb f s=>h.apart b (xb s) f;refine⟨by simpa using p,(h.res.saveT hs j θ).set_ne (Ne.symm h.low.2.2) _ _,(h.scope.saveT hs j θ θ).saveT a c θ θ,(h.g.saveT hs j θ).saveT a c θ,u.saveTT a c θ θ,n.saveTT a c θ θ,λb f l=>?_,?_,h.low⟩;obtain⟨r,y,_⟩:=h.nln;have v:=yF y l;rcases m with e|⟨g,e,A⟩;rw[e] at f;exact h.apart b f l;rw[e] at f;simp only[zt] at f;omega;exact(h.u.A (hs.u (λx t=>yW o (xb t)) q)).x h.low.1 _
def gM.pushN{B:Nat}{i:U}{f:List zw}(h:gM B w0 w rb rr sb st va hp htv plv nlv ht pls nls vs pl)(hs:zd nlv.m.toList w i)(m:v'.m=nlv.m∨∃g,v'.m=Z g/\w.o.q<=g)(u:ux B i v' f)(q:B<=w.o.q):gM B w0 (i.x (ω rb 5) v') rb rr sb st va hp htv plv v' ht pls f vs pl:=by
 obtain⟨z,o,_⟩:=h.nln;have j:=T3.own o;have k:=h.box.saveT hs j θ;have c:=T3.box k;have a:zd [rb] i (i.x (ω rb 5) v'):=zd.set _ _ _ _;have p:=k.set 5 v';have n:=h.pln.saveT hs j θ λb l s=>h.apart b l (xb s);refine⟨by simpa using p,(h.res.saveT hs j θ).set_ne (Ne.symm h.low.2.2) _ _,(h.scope.saveT hs j θ θ).saveT a c θ θ,(h.g.saveT hs j θ).saveT a c θ,n.saveTT a c θ θ,u.saveTT a c θ θ,λb l d=>?_,?_,h.low⟩;obtain⟨r,y,_⟩:=h.pln;have v:=yF y l;rcases m with e|⟨g,e,A⟩;rw[e] at d;exact h.apart b l d;rw[e] at d;simp only[zt] at d;omega;exact(h.u.A (hs.u (λx t=>yW o (xb t)) q)).x h.low.1 _
def oY{α:Type}(p:α->Bool)(l:List α)(k:Nat)(a:k<l.j):(l.G (k+1)).filter p=(l.G k).filter p++(if p l[k] then [l[k]] else []):=by
 rw[yN a,sQ];congr 1;cases h:p l[k]<;>simp[h]
def DF(t:Ψ)(n:ByteArray):zB t n<=t.j:=by
 unfold zB;split;exact Aa t n;omega
def IV(os:List Int)(h:os.j<=1000):∀y∈yH os,y<=1000:=by
 have:∀(l:List (Int×Nat)) (pl:Φ),(∀x∈l,x.2<=1000)->(∀y∈pl,y<=1000)->∀y∈l.H vO pl,y<=1000:=by
  intro l;induction l with
  |nil=>intro pl _ h;exact h
  |cons x l e=>
   intro pl b c;refine e _ (λy a=>b y (nP _ a)) λy a=>?_;unfold vO at a;split at a;rcases mn a with q|q;exact c y q;subst q;exact b x ζ;exact c y a
 refine this _ _ (λx d=>?_) θ;have:=List.snd_lt_of_mem_zipIdx d;omega
def Kg(w:U)(r:zu)(e:Ending)(w':U):Prop:=∃c a b,e=ε (gH r c a b)/\vE w.o.q w' c a b r/\μ w w'
def Li{ar:Nat}(w:U)(mb tb o cb:Nat)(t:Ψ)(ns:κ)(c:zc)(va vb ov:O)(T:Option (List Int))(h:pj lo w mb tb o cb t ns)(hs:To ar w va c.g.k)(hb:TN ar w vb c.d)(hl:c.g.k.j+xj c.d<=1000)(co:c.d.j<=900)(ho:xQ w ov T)(bk:(T.g []).j<=1000)(bO:xM t c.g.o<=1000000):
  Calls prog 117 #[(π mb),.agg #[.i c.g.i,.d c.g.o,va,vb],ov] w λe w'=>Kg w (vA t ns c T) e w':=by
 obtain⟨i0,hi,bc,bv,b5⟩:=info_parts ST;obtain⟨ao,aQ,rfl⟩:=hs.qy;obtain⟨aS,am,rfl⟩:=hb.qy;obtain⟨bX,bo,rfl⟩:=ho.qy;have br:=Th λW K=>Jg W c _ _ _ T (hs.u K) (hb.u K) hl η (ho.u K) bk;have bE:=iz c.d [];have bK:(zx c).j<=1000:=by unfold zx;simp at bE;omega
 clear bE;have bb:X (∀W sb (l:zj) (va:O) (b1 b2:Nat),μ w W->dV b1 W sb (zx c) (yH (T.g []))->To b2 W va l.k->l.k.j<=1000->Calls prog 160 #[(π mb),.agg #[.i l.i,.d l.o,va],(π sb)] W λe w'=>∃tv,e=ε (.agg #[ι (zB t l.o:Nat),tv])/\yt W.o.q w' tv (zL t ns (zx c) (yH (T.g [])) l).v/\μ W w'):=λW sb l va b1 b2 K bR bJ bL=>G1 W mb tb o cb sb t ns _ _ l _ (h.u K) bR bK (IV _ bk) bJ bL;have b7:=Th λW K=>JZ lo W tb o t c.g.o (h.2.1.u K) h.2.2.2.1;have bA:=Th h.2.2.2.1;have ca:=h.1;obtain⟨bs,cm,bZ⟩:=ca.e;have bW:w.p (δ mb)=Z (.u (Z (ω tb o))):=by rw[bs];rfl
 have cd:=Th hs;have bT:=Th hb;have HE:X (vA t ns c T={L:=xM t c.g.o,m:=(zx c).j,g:=zL t ns (zx c) (yH (T.g [])) c.g,qc:=(c.d.filter λl=>!l.i).w (zL t ns (zx c) (yH (T.g []))),qx:=(c.d.filter λl=>l.i).w (zL t ns (zx c) (yH (T.g [])))}):=rfl;have H5:X ((yH (T.g [])).j=5):=iT _;clear h hs hb ho bs;generalize zx c=vs at *;generalize yH (T.g [])=pl at *;generalize xM t c.g.o=st at *;generalize (zU t c.g.o).I=cq at *;obtain⟨j,d,n,f,m,rfl⟩:=five H5.l;have aE:X (∀W,μ w W->Calls prog 158 #[.agg #[.i c.g.i,.d c.g.o,.k ao c.g.k.j aQ,.k aS c.d.j am],.k bX (T.g []).j bo] W λe w'=>∃nv,e=ε (.agg #[nv,ι j,ι d,ι n,ι f,ι m])/\To W.o.q w' nv vs/\μ W w'):=br;clear br H5;go_enter func117,ntmps117;go_upto_region 2 with (first|(go_at_call 158;refine(aE.l _ γ).y ?_;rintro e w1 ⟨nv,rfl,aK,a0⟩;obtain⟨aR,ai,rfl⟩:=aK.qy))
 have bm:μ w w1:=zT γ a0 (zf _);have aA:=((Ti.new w #[.i c.g.i,.d c.g.o,.k ao c.g.k.j aQ,.k aS c.d.j am] 171).u ((zn _ _).C (zf _) (.E #[ι 0,ι 0,ι 0,ν,ν,ν] 207))).u a0;have N:=(Ti.new (w.C (.E #[.i c.g.i,.d c.g.o,.k ao c.g.k.j aQ,.k aS c.d.j am] 171)) #[ι 0,ι 0,ι 0,ν,ν,ν] 207).u a0;rw[U.size_alloc] at N;have a9:=aK.low (show w.o.q<=_ by simp;omega);have u:μ w1 (w1.C (.E #[.k aR vs.j ai,ι j,ι d,ι n,ι f,ι m] 257)):=γ;have a4:=Ti.new w1 #[.k aR vs.j ai,ι j,ι d,ι n,ι f,ι m] 257;have ae:=aA.u u;have aI:=N.u u;have a1:=a9.u u;have p:=Tl bm u;have cj:=N.lt;clear aA N a9 aK a0 u;generalize w1.C (.E #[.k aR vs.j ai,ι j,ι d,ι n,ι f,ι m] 257)=w2 at *;generalize w1.o.q=sb at *;clear bm w1;obtain⟨ah,av,G⟩:=ae.e;have bQ:=zi p bZ bW;have aT:=p.q;have bu:mb<w2.o.q:=η;go_quiet ((go_at_call 159;exact Calls.quiet_of_same (b7.l _ (by exact(zI p _)))))
 clear aE b7 bQ ah av G aT bu;have hq:μ w2 (w2.drewN nq):=zI (zn _ _) nq;have a2:=ae.u hq;have aD:=aI.u hq;have an:=a1.u hq;have M:=a4.u hq;have aL:=Tl p hq;clear hq ae aI a1 a4 p;generalize w2.drewN nq=w3 at *;clear w2 nq;have cp:=aL.q;obtain⟨a7,bh,bn⟩:=M.e;go_upto_region 4 with (first|(go_at_call 146;refine(BQ _ _ _ vs (by rw[a7];rfl) an).y ?_;rintro e w4 ⟨rfl,bU⟩;obtain rfl:=bU.z))
 clear a7 bh bn;have u:μ w3 (w3.C (.E #[ι st,ι vs.j,ι 0,ν,ν,ν] 207)):=γ;have aC:=Ti.new w3 #[ι st,ι vs.j,ι 0,ν,ν,ν] 207;have ap:=a2.u u;have a3:=aD.u u;have aG:=an.u u;have a5:=M.u u;have ag:=Tl aL u;have cf:=M.lt;clear a2 aD an M u;generalize w3.C (.E #[ι st,ι vs.j,ι 0,ν,ν,ν] 207)=w4 at *;generalize w3.o.q=rb at *;clear aL w3;have bC:=ag.q;obtain⟨ah,av,G⟩:=ap.e;have af:X (dV w.o.q w4 sb vs [j,d,n,f,m]):=⟨_,j,d,n,f,m,rfl,a5,aG⟩;go_upto_region 5 with (first|(go_at_call 160;refine(bb.l _ _ c.g _ _ _ (by exact ag) (by exact af.l) (by exact cd.l.u ag) η).y ?_;rintro e w5 ⟨tv,rfl,ax,V⟩;obtain⟨C,s,rfl⟩:=ax.qy;have L:=aC.u V;obtain⟨bg,bD,bw⟩:=L.e))
 have bq:yt w.o.q w5 _ _:=⟨yo ax.own bC,ax.len,ax.z⟩;have aw:rb≠w.o.q+1:=η;have hM:gM w.o.q w ((w5.x (ω rb 2) (ι (zB t c.g.o:Nat))).x (ω rb 3) (.k C (zL t ns vs [j,d,n,f,m] c.g).v.j s)) rb (w.o.q+1) sb st vs.j (zB t c.g.o) (.k C (zL t ns vs [j,d,n,f,m] c.g).v.j s) (ν) (ν) (zL t ns vs [j,d,n,f,m] c.g).v [] [] vs [j,d,n,f,m]:=by
  have be:zd [rb] w5 ((w5.x (ω rb 2) (ι (zB t c.g.o:Nat))).x (ω rb 3) (.k C (zL t ns vs [j,d,n,f,m] c.g).v.j s)):=(zd.set _ _ _ _).A (zd.set _ _ _ _);have b9:=T3.box L;have hq:=(L.set 2 (ι (zB t c.g.o:Nat))).set 3 (.k C (zL t ns vs [j,d,n,f,m] c.g).v.j s);refine⟨by simpa using hq,((a3.u V).set_ne (Ne.symm aw) _ _).set_ne (Ne.symm aw) _ _,(af.l.u V).saveT be b9 θ θ,bq.saveT be b9 θ,⟨[],xo _ _ _ _,rfl,ζ,λk a=>by simp at a⟩,⟨[],xo _ _ _ _,rfl,ζ,λk a=>by simp at a⟩,λb hb=>by simp[O.ownBlock] at hb,((Tl ag V).x υ _).x υ _,η,η,aw⟩
 have aF:=((ap.u V).set_ne (show w.o.q≠rb by omega) 2 (ι (zB t c.g.o:Nat))).set_ne (show w.o.q≠rb by omega) 3 (.k C (zL t ns vs [j,d,n,f,m] c.g).v.j s);generalize (w5.x (ω rb 2) (ι (zB t c.g.o:Nat))).x (ω rb 3) (.k C (zL t ns vs [j,d,n,f,m] c.g).v.j s)=w6 at *;clear L bg bD bw ax bq V w5 ah av G af bC ag ap a3 aG a5 aC w4;generalize az:O.slice C (zL t ns vs [j,d,n,f,m] c.g).v.j s=htv at *;have bP:=Th az;clear az;obtain⟨ah,av,G⟩:=aF.e;go_wp2;clear ah av G aF;have y:X (gM _ _ _ _ _ _ _ _ _ _ _ _ _ _ _ _ _):=hM;clear hM;go_loopw [40] (λcc wr=>∃(k:Nat) (plv nlv:O),k<=c.d.j/\cc=ι k/\X (gM w.o.q w wr rb (w.o.q+1) sb st vs.j (zB t c.g.o) htv plv nlv (zL t ns vs [j,d,n,f,m] c.g).v (((c.d.G k).filter λl=>!l.i).w (zL t ns vs [j,d,n,f,m])) (((c.d.G k).filter λl=>l.i).w (zL t ns vs [j,d,n,f,m])) vs [j,d,n,f,m])) (λi _=>c.d.j-(intOf i).D);exact⟨0,_,_,zs _,rfl,y⟩;clear y;obtain⟨k,plv,nlv,hk,rfl,y⟩:=hrel;have B:=y.l.u;have ck:=B.q;by_cases aq:k<c.d.j
 .obtain⟨g,S,z,bI,hg,bB,bf,b3,bx⟩:=bT.l.cell k aq;subst bI;have bF:c.d[k].k.j<=1000:=by
   have:=sH c.d k aq;rw[yn aq] at this;simp at this;omega
  have bz:=zi B hg bB;have cl:=zi B hg bf;have cn:=zi B hg b3;have u:g<wr.o.q:=η;have Q:=oY (λl:zj=>!l.i) c.d k aq;have R:=oY (λl:zj=>l.i) c.d k aq;have bi:X (To ar w _ _):=bx;have bV:=DF t c.d[k].o;have bS:=bA.l;clear bB bf b3 bx;generalize c.d[k]=l at *;have cg:(((c.d.G k).filter λl=>!l.i).w (zL t ns vs [j,d,n,f,m])).j<=k:=by
   have:=rA (λl:zj=>!l.i) (c.d.G k);simp at this ⊢;omega
  have ce:(((c.d.G k).filter λl=>l.i).w (zL t ns vs [j,d,n,f,m])).j<=k:=by
   have:=rA (λl:zj=>l.i) (c.d.G k);simp at this ⊢;omega
  cases hn:l.i
  .rw[hn] at bz;simp only[hn,Bool.not_false,if_true,dU,if_false,qn] at Q R;have aP:X (((c.d.G (k+1)).filter λl=>!l.i).w (zL t ns vs [j,d,n,f,m])=((c.d.G k).filter λl=>!l.i).w (zL t ns vs [j,d,n,f,m])++[zL t ns vs [j,d,n,f,m] l]):=by rw[X,Q,qF];rfl
   have aM:X (((c.d.G (k+1)).filter λl=>l.i).w (zL t ns vs [j,d,n,f,m])=((c.d.G k).filter λl=>l.i).w (zL t ns vs [j,d,n,f,m])):=by rw[X,R]
   clear Q R;generalize ((c.d.G k).filter λl=>!l.i).w (zL t ns vs [j,d,n,f,m])=pls at *;generalize ((c.d.G k).filter λl=>l.i).w (zL t ns vs [j,d,n,f,m])=nls at *;have aO:X (∀W,μ wr W->Calls prog 160 #[(π mb),.agg #[.i false,.d l.o,.k S l.k.j z],(π sb)] W λe w'=>∃tv,e=ε (.agg #[ι (zB t l.o:Nat),tv])/\yt W.o.q w' tv (zL t ns vs [j,d,n,f,m] l).v/\μ W w'):=λW K=>by
    have q:=bb.l W sb l (.k S l.k.j z) w.o.q ar (Tl B K) (y.l.scope.u K) (bi.l.u (Tl B K)) bF;rw[hn] at q;exact q
   generalize aj:(zL t ns vs [j,d,n,f,m] l).v=ts at *;have aJ:=Th aj;have au:X ((zL t ns vs [j,d,n,f,m] l).o=zB t l.o):=rfl;clear aj;generalize zB t l.o=fn at *;obtain⟨ps,D,F,_,E⟩:=y.l.pln;obtain⟨P,x,al⟩:=zr D;subst al;have J:=Th E;clear E;have b0:pls.j<=900:=η;have ac:=Th F;clear F;go_wp2_with (first|(go_at_call 160;refine(aO.l _ γ).y ?_;rintro e w2 ⟨tv,rfl,A,ak⟩;obtain⟨aY,ay,rfl⟩:=A.qy;have p:μ wr w2:=(zT γ ak (zf _));have ba:=(Ti.new wr #[.i false,.d l.o,.k S l.k.j z] 90).u ak;obtain⟨b8,bH,bG⟩:=ba.e;have H:=y.l.box.u p;obtain⟨a6,aH,a8⟩:=H.e;have aT:=p.q;have r:=zy D p)|(at_builtin;refine kd w2 _ [ι fn,.k aY ts.j ay] _ rfl (.tmp 56) (.tmp 58) 205 rfl w.o.q 204 i0 _ 2 32 underlying205 hi bc bv b5 rfl θ (.k P pls.j x) pls.j (fq ps) rfl r γ _ _ rfl ζ rfl a_ η η η ?_;intro v' w3 aa I ad;obtain⟨bM,b4,rfl⟩:=zr aa;have ab:=H.saveT I (T3.own r) θ;obtain⟨aW,aV,aU⟩:=ab.e))
   have aZ:gM _ _ _ _ _ _ _ _ _ _ _ _ _ _ _ _ _:=(y.l.next p (zf _)).pushP I ad (ux.push (l:=zL t ns vs [j,d,n,f,m] l) r ac.l (λk a b=>⟨(J.l k a b).1,(J.l k a b).2.1.u p,(J.l k a b).2.2⟩) η (by rw[aJ.l];exact⟨yo A.own υ,A.len,A.z⟩) (by rw[au.l];omega) (by rw[au.l];exact aa) I) η;go_roundw;exact⟨k+1,_,_,η,ξ,by rw[aP.l,aM.l];exact aZ⟩;simp[intOf];omega
  rw[hn] at bz;simp only[hn,n7,if_true,dU,if_false,qn] at Q R;have aP:X (((c.d.G (k+1)).filter λl=>!l.i).w (zL t ns vs [j,d,n,f,m])=((c.d.G k).filter λl=>!l.i).w (zL t ns vs [j,d,n,f,m]) ):=by rw[X,Q]
  have aM:X (((c.d.G (k+1)).filter λl=>l.i).w (zL t ns vs [j,d,n,f,m])=((c.d.G k).filter λl=>l.i).w (zL t ns vs [j,d,n,f,m])++[zL t ns vs [j,d,n,f,m] l]):=by rw[X,R,qF];rfl
  clear Q R;generalize ((c.d.G k).filter λl=>!l.i).w (zL t ns vs [j,d,n,f,m])=pls at *;generalize ((c.d.G k).filter λl=>l.i).w (zL t ns vs [j,d,n,f,m])=nls at *;have aO:X (∀W,μ wr W->Calls prog 160 #[(π mb),.agg #[.i true,.d l.o,.k S l.k.j z],(π sb)] W λe w'=>∃tv,e=ε (.agg #[ι (zB t l.o:Nat),tv])/\yt W.o.q w' tv (zL t ns vs [j,d,n,f,m] l).v/\μ W w'):=λW K=>by
   have q:=bb.l W sb l (.k S l.k.j z) w.o.q ar (Tl B K) (y.l.scope.u K) (bi.l.u (Tl B K)) bF;rw[hn] at q;exact q
  generalize aj:(zL t ns vs [j,d,n,f,m] l).v=ts at *;have aJ:=Th aj;have au:X ((zL t ns vs [j,d,n,f,m] l).o=zB t l.o):=rfl;clear aj;generalize zB t l.o=fn at *;obtain⟨ps,D,F,_,E⟩:=y.l.nln;obtain⟨P,x,al⟩:=zr D;subst al;have J:=Th E;clear E;have b0:nls.j<=900:=η;have ac:=Th F;clear F;go_wp2_with (first|(go_at_call 160;refine(aO.l _ γ).y ?_;rintro e w2 ⟨tv,rfl,A,ak⟩;obtain⟨aY,ay,rfl⟩:=A.qy;have p:μ wr w2:=(zT γ ak (zf _));have ba:=(Ti.new wr #[.i true,.d l.o,.k S l.k.j z] 90).u ak;obtain⟨b8,bH,bG⟩:=ba.e;have H:=y.l.box.u p;obtain⟨a6,aH,a8⟩:=H.e;have aT:=p.q;have r:=zy D p)|(at_builtin;refine kd w2 _ [ι fn,.k aY ts.j ay] _ rfl (.tmp 50) (.tmp 52) 205 rfl w.o.q 204 i0 _ 2 32 underlying205 hi bc bv b5 rfl θ (.k P nls.j x) nls.j (fq ps) rfl r γ _ _ rfl ζ rfl a_ η η η ?_;intro v' w3 aa I ad;obtain⟨bM,b4,rfl⟩:=zr aa;have ab:=H.saveT I (T3.own r) θ;obtain⟨aW,aV,aU⟩:=ab.e))
  have aZ:gM _ _ _ _ _ _ _ _ _ _ _ _ _ _ _ _ _:=(y.l.next p (zf _)).pushN I ad (ux.push (l:=zL t ns vs [j,d,n,f,m] l) r ac.l (λk a b=>⟨(J.l k a b).1,(J.l k a b).2.1.u p,(J.l k a b).2.2⟩) η (by rw[aJ.l];exact⟨yo A.own υ,A.len,A.z⟩) (by rw[au.l];omega) (by rw[au.l];exact aa) I) η;go_roundw;exact⟨k+1,_,_,η,ξ,by rw[aM.l,aP.l];exact aZ⟩;simp[intOf];omega
 have bd:k=c.d.j:=η;have bY:X (c.d.G k=c.d):=by rw[X,bd,uY]
 rw[bY.l] at y;have H:=y.l.box;have b6:=y.l.res;obtain⟨a6,aH,a8⟩:=H.e;obtain⟨bp,ch,ci⟩:=b6.e;have az:=bP.l;subst az;obtain⟨P,x,al⟩:=zr y.l.pln.choose_spec.1;obtain⟨bt,aB,bN⟩:=zr y.l.nln.choose_spec.1;subst al;subst bN;clear bd;generalize (c.d.filter λl=>!l.i).w (zL t ns vs [j,d,n,f,m])=pls at *;generalize (c.d.filter λl=>l.i).w (zL t ns vs [j,d,n,f,m])=nls at *;go_wp2
 (try simp only[Exit.inBlock,Exit.then])
 refine zP (v:=.agg #[ι st,ι vs.j,ι (zB t c.g.o:Nat),.k C (zL t ns vs [j,d,n,f,m] c.g).v.j s,.k P pls.j x,.k bt nls.j aB]) (by simp[results,results117,go_sem,bp]) rfl ⟨_,_,_,by rw[HE.l];rfl,?_,?_⟩;have aX:zd [w.o.q+1] wr ((((((wr.x (δ (w.o.q+1)) (ι st)).x (ω (w.o.q+1) 1) (ι vs.j)).x (ω (w.o.q+1) 2) (ι (zB t c.g.o:Nat))).x (ω (w.o.q+1) 3) (.k C (zL t ns vs [j,d,n,f,m] c.g).v.j s)).x (ω (w.o.q+1) 4) (.k P pls.j x)).x (ω (w.o.q+1) 5) (.k bt nls.j aB)):=(((((zd.set _ _ _ _).A (zd.set _ _ _ _)).A (zd.set _ _ _ _)).A (zd.set _ _ _ _)).A (zd.set _ _ _ _)).A (zd.set _ _ _ _);have aN:=T3.box b6;have bV:=DF t c.g.o;have bS:=bA.l;rw[HE.l];exact⟨y.l.g.saveT aX aN θ,y.l.pln.saveTT aX aN θ θ,y.l.nln.saveTT aX aN θ θ,bO,by simp only;omega,by show zB t c.g.o<=1000000;omega⟩;exact(((((B.x ζ _).x ζ _).x ζ _).x ζ _).x ζ _).x ζ _
end
section
open Go.Proofs.Tryz Go.RowKit
variable {lo:Nat}{w w0:U}{v' mv1 mv2 av fv rv:O}{rs:List zu}{ps:List (O×O×O)}{sb sr mb wd:Nat}{xs:List Nat}
def SH:(prog.info? 210).w (λi=>(i.zero,i.q,i.bytes))=Z (Z (.agg #[ι 0,ι 0,ι 0,ι 0]),4,32):=χ
def SX:(prog.info? 207).w (λi=>(i.zero,i.q,i.bytes))=Z (Z (.agg #[ι 0,ι 0,ι 0,ν,ν,ν]),6,96):=χ
def tA(f:jI):List Value:=[ι f.o,ι (f.row.g 0 0:Nat),ι (f.row.g 1 0:Nat),ι (f.row.g 2 0:Nat)]
def gK(fs:List jI):List Value:=fs.flatMap tA
def rD(r:zu)(p:O×O×O):List Value:=[ι r.L,ι r.m,ι r.g.o,p.1,p.2.1,p.2.2]
def kW(rs:List zu)(ps:List (O×O×O)):List Value:=(List.zipWith rD rs ps).flatten
def IY(fs:List jI)(f:jI):gK (fs++[f])=gK fs++tA f:=by simp[gK]
def Rc(rs:List zu)(ps:List (O×O×O))(r:zu)(p:O×O×O)(h:ps.j=rs.j):kW (rs++[r]) (ps++[p])=kW rs ps++rD r p:=by
 unfold kW;rw[Ap h.z];simp
def t9(lo:Nat)(w:U)(v:O)(fs:List jI):Prop:=w.r lo 210 4 v fs.j (gK fs)
structure qM (lo:Nat) (w:U) (v:O) (rs:List zu) (ps:List (O×O×O)):Prop where
 own:w.r lo 207 6 v rs.j (kW rs ps)
 len:ps.j=rs.j
 p:∀k (_:k<rs.j) (_:k<ps.j),vE lo w ps[k].1 ps[k].2.1 ps[k].2.2 rs[k]
 K:rs.j<=1000
def qM.u{w w':U}{v:O}{rs:List zu}{ps:List (O×O×O)}(h:qM lo w v rs ps)(c:μ w w'):qM lo w' v rs ps:=⟨zy h.own c,h.len,λk a b=>(h.p k a b).u c,h.K⟩
def qM.saveT{e:Nat}{w w':U}{v:O}{rs:List zu}{ps:List (O×O×O)}{T:TypeId}{M:Φ}(h:qM e w v rs ps)(hs:zd M w w')(f:T3 w T M)(g:284≠T)(d:204≠T)(c:207≠T):qM e w' v rs ps:=⟨yL h.own hs f c,h.len,λk a b=>(h.p k a b).saveT hs f g d,h.K⟩
def qM.push{d:Nat}{w':U}{v:O}{r:zu}{p:O×O×O}(h:qM d w v rs ps)(g:rs.j+1<=1000)(l:vE d w p.1 p.2.1 p.2.2 r)(i:w'.r d 207 6 v' (rs.j+1) (kW rs ps++rD r p))(hs:zd v.m.toList w w'):qM d w' v' (rs++[r]) (ps++[p]):=by
 have f:=T3.own h.own;refine⟨by rw[Rc _ _ _ _ h.len,yK];exact i,by simp[h.len],λk a b=>?_,by simpa using g⟩;by_cases e:k<rs.j;have c:k<ps.j:=by have:=h.len;omega
 rw[uG e,uG c];exact(h.p k e c).saveT hs f θ θ;obtain rfl:k=rs.j:=by simp at a;omega
 have j:=h.len;simp only[←j,pO];exact l.saveT hs f θ θ
def qM.cell{w:U}{f:Option Addr}{n cap:Nat}{rs:List zu}{ps:List (O×O×O)}(h:qM lo w (.k f n cap) rs ps)(k:Nat)(t:k<rs.j)(d:k<ps.j):∃g,f=Z (δ g)/\g<w.o.q/\w.p (ω g (k*6))=Z (ι (rs[k].L:Nat))/\w.p (ω g (k*6+1))=Z (ι (rs[k].m:Nat))/\w.p (ω g (k*6+2))=Z (ι (rs[k].g.o:Nat))/\w.p (ω g (k*6+3))=Z ps[k].1/\w.p (ω g (k*6+4))=Z ps[k].2.1/\w.p (ω g (k*6+5))=Z ps[k].2.2:=by
 obtain⟨g,j,i,_,y,b⟩:=yq h.own η;simp at i;have e:∀(rs:List zu) (ps:List (O×O×O)) (k:Nat) (a:k<rs.j) (c:k<ps.j),(kW rs ps)[k*6]?=Z (ι (rs[k].L:Nat))/\(kW rs ps)[k*6+1]?=Z (ι (rs[k].m:Nat))/\(kW rs ps)[k*6+2]?=Z (ι (rs[k].g.o:Nat))/\(kW rs ps)[k*6+3]?=Z ps[k].1/\(kW rs ps)[k*6+4]?=Z ps[k].2.1/\(kW rs ps)[k*6+5]?=Z ps[k].2.2:=by
  intro rs;induction rs with
  |nil=>intro ps k a;simp at a
  |cons r l z=>
   intro ps k a c;match ps,k,a,c with
   |p::ps,0,_,_=>simp[kW,rD]
   |p::ps,k+1,a,c=>
    have:=z ps k (by simpa using a) (by simpa using c);simp only[kW,mJ,ph] at this ⊢;rw[show(k+1)*6=k*6+6 from by omega];have q:k*6+6=(rD r p).j+k*6:=by simp[rD];omega
    rw[q];simp only[Nat.add_assoc,fR (Nat.le_add_right _ _),e8];simpa using this
 obtain⟨x,m,v,u,s,o⟩:=e rs ps k t d;exact⟨g,i.1,y,b _ _ x,b _ _ m,b _ _ v,b _ _ u,b _ _ s,b _ _ o⟩
def CV:∀(fs:List jI) (k:Nat) (h:k<fs.j),(gK fs)[k*4]?=Z (ι (fs[k].o:Nat))/\(gK fs)[k*4+1]?=Z (ι (fs[k].row.g 0 0:Nat))/\(gK fs)[k*4+2]?=Z (ι (fs[k].row.g 1 0:Nat))/\(gK fs)[k*4+3]?=Z (ι (fs[k].row.g 2 0:Nat))
 |[],k,h=>by simp at h
 |f::l,0,_=>by simp[gK,tA]
 |f::l,k+1,h=>by
  have:=CV l k (by simpa using h);simp only[gK,uX] at this ⊢;rw[show(k+1)*4=k*4+4 from by omega];have a:k*4+4=(tA f).j+k*4:=by simp[tA];omega
  rw[a];simp only[Nat.add_assoc,fR (Nat.le_add_right _ _),e8];simpa using this
def uP(t:List zg)(ns:κ)(os:Option (List (Option (List Int))))(cs:List zc):List zu:=cs.zipIdx.filterMap λx=>if x.1.d.j>0 then Z (vA t ns x.1 (un os x.2)) else Y
def vx(t:List zg)(ns:κ)(cs:List zc):List jI:=(cs.filter λc=>!decide (c.d.j>0)).w (qo t ns)
def vf(t:List zg)(ns:κ)(os:Option (List (Option (List Int))))(cs:List zc):qY:={r:=ns.j,M:=t.w (·.jh),facts:=vx t ns cs,H:=uP t ns os cs}
def MX(t:Ψ)(ns:κ)(os:Option (List (Option (List Int))))(cs:Ξ)(k:Nat)(a:k<cs.j):uP t ns os (cs.G (k+1))=uP t ns os (cs.G k)++(if cs[k].d.j>0 then [vA t ns cs[k] (un os k)] else []):=by
 unfold uP;rw[yN a,List.zipIdx_append,ig];congr 1;simp only[List.zipIdx_singleton,vd,vJ,tG,List.filterMap_nil];rw[dX η];by_cases h:cs[k].d.j>0;rw[zb h,zb h];rw[za h,za h]
def RO(t:Ψ)(ns:κ)(cs:Ξ)(k:Nat)(a:k<cs.j):vx t ns (cs.G (k+1))=vx t ns (cs.G k)++(if cs[k].d.j>0 then [] else [qo t ns cs[k]]):=by
 unfold vx;rw[oY _ _ _ a,qF];congr 1;by_cases h:cs[k].d.j>0;simp[h];simp[h]
def Qh(t:Ψ)(ns:κ)(os:Option (List (Option (List Int))))(cs:Ξ):(uP t ns os cs).j<=cs.j:=by
 have:=tq (λx:zc×Nat=>if x.1.d.j>0 then Z (vA t ns x.1 (un os x.2)) else Y) cs.zipIdx;simpa [uP] using this
def Mg(t:Ψ)(ns:κ)(cs:Ξ):(vx t ns cs).j<=cs.j:=by
 unfold vx;rw[xt];exact rA _ _
structure kx (B:Nat) (w0 w:U) (sb sr mb:Nat) (mv1 mv2 av fv rv:O) (wd:Nat) (xs:List Nat) (fs:List jI) (rs:List zu) (ps:List (O×O×O)):Prop where
 box:Ti w sb #[ι wd,av,fv,rv] 146
 res:Ti w sr #[ι 0,ν,ν,ν] 146
 mak:Ti w mb #[mv1,mv2] 200
 ari:w.r B 3 1 av xs.j (xs.w TO)
 fac:t9 B w fv fs
 rul:qM B w rv rs ps
 u:Below B w0 w
 low:B<=sb/\B<=sr/\sb≠sr
def kx.next{B:Nat}{w':U}{fs:List jI}(h:kx B w0 w sb sr mb mv1 mv2 av fv rv wd xs fs rs ps)(a:μ w w')(b:B<=w0.o.q):kx B w0 w' sb sr mb mv1 mv2 av fv rv wd xs fs rs ps:=
 ⟨h.box.u a,h.res.u a,h.mak.u a,zy h.ari a,zy h.fac a,h.rul.u a,zT h.u a b,h.low⟩
def kx.pushF{B:Nat}{c:U}{fs d:List jI}(h:kx B w0 w sb sr mb mv1 mv2 av fv rv wd xs fs rs ps)(hs:zd fv.m.toList w c)(j:t9 B c v' d)(k:B<=w.o.q):kx B w0 (c.x (ω sb 2) v') sb sr mb mv1 mv2 av v' rv wd xs d rs ps:=by
 have e:=T3.own h.fac;have f:=h.box.saveT hs e θ;have b:=T3.box f;have a:zd [sb] c (c.x (ω sb 2) v'):=zd.set _ _ _ _;have g:=f.set 2 v';exact⟨by simpa using g,(h.res.saveT hs e θ).set_ne (Ne.symm h.low.2.2) _ _,(h.mak.saveT hs e θ).saveT a b θ,yL (yL h.ari hs e θ) a b θ,yL j a b θ,(h.rul.saveT hs e θ θ θ).saveT a b θ θ θ,(h.u.A (hs.u (λx i=>yW h.fac (xb i)) k)).x h.low.1 _,h.low⟩
def kx.pushR{B:Nat}{d:U}{fs:List jI}{c:List zu}{g:List (O×O×O)}(h:kx B w0 w sb sr mb mv1 mv2 av fv rv wd xs fs rs ps)(hs:zd rv.m.toList w d)(k:qM B d v' c g)(l:B<=w.o.q):kx B w0 (d.x (ω sb 3) v') sb sr mb mv1 mv2 av fv v' wd xs fs c g:=by
 have e:=T3.own h.rul.own;have f:=h.box.saveT hs e θ;have b:=T3.box f;have a:zd [sb] d (d.x (ω sb 3) v'):=zd.set _ _ _ _;have i:=f.set 3 v';exact⟨by simpa using i,(h.res.saveT hs e θ).set_ne (Ne.symm h.low.2.2) _ _,(h.mak.saveT hs e θ).saveT a b θ,yL (yL h.ari hs e θ) a b θ,yL (yL h.fac hs e θ) a b θ,k.saveT a b θ θ θ,(h.u.A (hs.u (λx j=>yW h.rul.own (xb j)) l)).x h.low.1 _,h.low⟩
structure gX (lo:Nat) (w:U) (av fv rv:O) (S:qY) (ps:List (O×O×O)):Prop where
 ari:w.r lo 3 1 av S.M.j (S.M.w TO)
 fac:t9 lo w fv S.facts
 rul:qM lo w rv S.H ps
end
section
open Go.Proofs.Tryz Go.RowKit
variable {lo:Nat}
def L2(w:U)(S:qY)(e:Ending)(w':U):Prop:=∃c a b d,e=ε (.agg #[ι S.r,c,a,b])/\gX w.o.q w' c a b S d/\μ w w'
def UG(t:List zg)(k:Nat):List Nat:=(t.G k).w (·.jh)++List.replicate (t.j-k) 0
def AP(t:Ψ)(k:Nat)(a:k<=t.j):(UG t k).j=t.j:=by simp[UG];omega
def MF(t:Ψ)(k:Nat)(a:k<t.j):(UG t k).set k (yc t k)=UG t (k+1):=by
 have e:yc t k=t[k].jh:=by simp[yc,a]
 obtain⟨m,b⟩:∃m,t.j-k=m+1:=⟨t.j-k-1,η⟩;unfold UG;rw[e,fY _ _ υ,xt,vd,dX η,j4,b,rT,rq,yN a,qF,show t.j-(k+1)=m from by omega,kT];rfl
def Iz(t:Ψ):UG t t.j=t.w (·.jh):=by simp[UG]
def Sk{ay:Nat}(w:U)(tb o z:Nat)(t:Ψ)(ns:κ)(cs:Ξ)(cv ov:O)(os:Option (List (Option (List Int))))(hT:TG lo w tb o t)(hC:ni lo w z ns)(bv:t.j<=1000)(bq:ns.j<=1000)(af:TR ay 171 w cv cs)(aV:∀c∈cs,c.g.k.j+xj c.d<=1000/\c.d.j<=900)(bG:cs.j<=1000)(ho:jZ w ov os)(br:(os.g []).j<=2000000)(aI:∀o∈os.g [],(o.g []).j<=1000)(aE:∀n,xM t n<=1000000):
  Calls prog 73 #[cv,.u (Z ⟨tb,o,Y⟩),(π z),ov] w λe w'=>L2 w (vf t ns os cs) e w':=by
 obtain⟨iI,bu,b1,aZ,a0⟩:=info_parts Sy;obtain⟨iF,b4,bB,aP,aR⟩:=info_parts SH;obtain⟨iR,bm,bs,ba,bc⟩:=info_parts SX;obtain⟨bK,bF,rfl⟩:=af.qy;obtain⟨bU,bC,rfl⟩:=ho.qy;have aQ:=Th λW h=>Nf W z ns (hC.u h);have aT:=Th λW h=>OG lo W tb o t (hT.u h);have aL:=Th λW i h=>Aw lo W tb o t i (hT.u h);have b0:=Th λW k h=>Pj W _ os k (ho.u h) br;have bn:X (∀k,((un os k).g []).j<=1000):=λk=>by
  unfold un;by_cases hk:k<(os.g []).j;rw[kS,yn hk];exact aI _ (zq hk);rw[kS,gi η];simp
 have be:X (∀W mb,μ w W->Ti W mb #[.u (Z ⟨tb,o,Y⟩),(π z)] 200->pj lo W mb tb o z t ns):=λW mb h hb=>⟨hb,hT.u h,hC.u h,bv,bq⟩;have b8:=Th af;have bA:=Th aV;have b7:=Th aE;have HE:X (vf t ns os cs={r:=ns.j,M:=t.w (·.jh),facts:=vx t ns cs,H:=uP t ns os cs}):=rfl;have bf:=λW:U=>run_make (P:=prog) (w:=W) 24 3 iI _ underlying24 bu b1 .i64 .i64 (t.j:Int) (t.j:Int) η (Int.le_refl _) (by rw[a0];omega) η;rw[aZ] at bf;clear hT hC af ho aV aI aE;go_enter func73,ntmps73;go_upto_region 3 with (first|(go_at_call 114;refine(aQ.l _ γ).y ?_;rintro e w1 ⟨rfl,y⟩;obtain rfl:=y.z)|(go_at_call 115;refine(aT.l _ γ).y ?_;rintro e w1 ⟨rfl,y⟩;obtain rfl:=y.z))
 have hM:kx w.o.q w ((((w.C (.E #[ι 0,ν,ν,ν] 146)).C (.E #[.u (Z ⟨tb,o,Y⟩),(π z)] 200)).C (.E (madeCells #[ι 0] t.j) 3)).C (.E #[ι ns.j,.k (Z ⟨w.o.q+1+1,0,Y⟩) t.j t.j,ν,ν] 146)) (w.o.q+1+1+1) w.o.q (w.o.q+1) (.u (Z ⟨tb,o,Y⟩)) ((π z)) (.k (Z ⟨w.o.q+1+1,0,Y⟩) t.j t.j) (ν) (ν) ns.j (UG t 0) [] [] []:=by
  refine⟨(Ti.new _ _ _).at' ζ,((((Ti.new w _ _).up _).up _).up _),((((Ti.new _ _ _).up _).up _).at' ζ),?_,xo _ _ _ _,⟨xo _ _ _ _,rfl,λk a=>by simp at a,ζ⟩,γ,η,η,η⟩;have q:=Dr ((w.C (.E #[ι 0,ν,ν,ν] 146)).C (.E #[.u (Z ⟨tb,o,Y⟩),(π z)] 200)) t.j 3 b_;simp only[U.size_alloc] at q;have q2:=zy (yo q (show w.o.q<=w.o.q+1+1 by omega)) ((zn _ _).C (zf _) (.E #[ι ns.j,.k (Z ⟨w.o.q+1+1,0,Y⟩) t.j t.j,ν,ν] 146));rw[AP t 0 η,show UG t 0=List.replicate t.j 0 from by simp[UG]];exact q2
 generalize (((w.C (.E #[ι 0,ν,ν,ν] 146)).C (.E #[.u (Z ⟨tb,o,Y⟩),(π z)] 200)).C (.E (madeCells #[ι 0] t.j) 3)).C (.E #[ι ns.j,.k (Z ⟨w.o.q+1+1,0,Y⟩) t.j t.j,ν,ν] 146)=w3 at *;clear bf aQ aT;have bg:=hM.box;obtain⟨aj,aS,aA⟩:=bg.e;go_wp2;clear aj aS aA bg;have d:X (kx _ _ _ _ _ _ _ _ _ _ _ _ _ _ _ _):=hM;clear hM;go_loopw [29] (λbz wr=>∃k:Nat,k<=t.j/\bz=ι k/\X (kx w.o.q w wr (w.o.q+1+1+1) w.o.q (w.o.q+1) (.u (Z ⟨tb,o,Y⟩)) ((π z)) (.k (Z ⟨w.o.q+1+1,0,Y⟩) t.j t.j) (ν) (ν) ns.j (UG t k) [] [] [])) (λi _=>t.j-(intOf i).D);exact⟨0,zs _,rfl,d⟩;clear d;obtain⟨k,hk,rfl,d⟩:=hrel;have b:=d.l.u;have ab:=b.q;by_cases s:k<t.j
 .have ap:=d.l.box;obtain⟨aj,aS,aA⟩:=ap.e;have bI:wr.p ⟨w.o.q+1+1+1,1,Y⟩=Z (.k (Z ⟨w.o.q+1+1,0,Y⟩) t.j t.j):=by rw[aj];rfl
  have J:=d.l.ari;have ai:=AP t k hk;have bO:(k:Int)<(t.j:Int):=η;obtain⟨g',bE,av,_,bX,N⟩:=yq J η;simp only[O.slice.injEq,zt,Addr.mk.injEq,and_true] at av;have b6:=av.1;clear av;subst b6;obtain⟨ax,bV⟩:∃ax:Nat,wr.p ⟨w.o.q+1+1,k,Y⟩=Z (ι (ax:Nat)):=⟨_,N k (ι ((UG t k)[k]'η:Nat)) (by simp[TO,ai,s])⟩;have bL:=vl J;have Q:=uD J k υ (ι (yc t k:Nat));have a4:X (((UG t k).w TO).set k (ι (yc t k:Nat))=(UG t (k+1)).w TO):=by rw[X,←MF t k s,lf];rfl
  rw[a4.l,ai] at Q;have bh:=Th λW h=>aL.l W k (Tl b h);clear N ai;generalize yc t k=ar at *;go_wp2;go_region_held3 (λw'=>w'.p ⟨w.o.q+1+1+1,1,Y⟩=Z (.k (Z ⟨w.o.q+1+1,0,Y⟩) t.j t.j)) (first|go_keep|(go_simp;done)) (first|(go_at_call 80;refine(bh.l _ γ).y ?_;rintro e w4 ⟨rfl,y⟩;obtain rfl:=y.z))
  go_wp2;have I:kx w.o.q w (wr.x ⟨w.o.q+1+1,k,Y⟩ (ι ar)) (w.o.q+1+1+1) w.o.q (w.o.q+1) (.u (Z ⟨tb,o,Y⟩)) ((π z)) (.k (Z ⟨w.o.q+1+1,0,Y⟩) t.j t.j) (ν) (ν) ns.j (UG t (k+1)) [] [] []:=
   ⟨d.l.box.set_ne η _ _,d.l.res.set_ne η _ _,d.l.mak.set_ne η _ _,by rw[AP t (k+1) η];exact Q,xo _ _ _ _,⟨xo _ _ _ _,rfl,λk a=>by simp at a,ζ⟩,b.x υ _,d.l.low⟩
  go_roundw;exact⟨k+1,η,ξ,I.next ((zn _ _).drew) (zf _)⟩;simp[intOf];omega
 have bi:k=t.j:=η;subst bi;rw[Iz] at d;clear hk s aL;go_wp2;go_loopw [42] (λbt wr=>∃(k:Nat) (fv rv:O) (ps:List (O×O×O)),k<=cs.j/\bt=ι k/\X (kx w.o.q w wr (w.o.q+1+1+1) w.o.q (w.o.q+1) (.u (Z ⟨tb,o,Y⟩)) ((π z)) (.k (Z ⟨w.o.q+1+1,0,Y⟩) t.j t.j) fv rv ns.j (t.w (·.jh)) (vx t ns (cs.G k)) (uP t ns os (cs.G k)) ps)) (λi _=>cs.j-(intOf i).D);exact⟨0,_,_,_,zs _,rfl,d⟩;clear d b ab;obtain⟨k,fv,rv,ps,hk,rfl,d⟩:=hrel;have b:=d.l.u;have ab:=b.q;by_cases s:k<cs.j
 .obtain⟨g,aK,V,a5,R,bk,hg,aU,a1,aO,aH,aN,aF⟩:=b8.l.cell k s;subst bk;have bR:=zi b hg aU;have bH:=zi b hg a1;have bN:=zi b hg aO;have bS:=zi b hg aH;have bQ:g<wr.o.q:=η;obtain⟨bx,bo⟩:=bA.l cs[k] (zq s);have F:=RO t ns cs k s;have E:=MX t ns os cs k s;have a6:X (To ay w _ _):=aN;have aM:X (TN ay w _ _):=aF;have b3:=Mg t ns (cs.G k);have aJ:=Qh t ns os (cs.G k);rw[vd,dX η] at b3 aJ;clear aU a1 aO aH aN aF;generalize cs[k]=c at *;by_cases aC:c.d.j>0
  .have a8:(c.d.j:Int)>0:=η;simp only[aC,if_true,qn] at F E;have an:=Th F;have au:=Th E;clear F E;generalize vx t ns (cs.G k)=C at *;generalize uP t ns os (cs.G k)=rs at *;have aB:=Th λW u h hu=>Li W (w.o.q+1) tb o z t ns c _ _ u (un os k) (be.l W _ (Tl b h) (d.l.mak.u h)) (a6.l.u (Tl b h)) (aM.l.u (Tl b h)) bx bo hu (bn.l k) (b7.l _);have bd:=Th λW h=>b0.l W k (Tl b h);generalize vA t ns c (un os k)=r at *;have m:=d.l.rul.own;obtain⟨K,B,ak⟩:=zr m;subst ak;have aY:X (∀W u,μ wr W->xQ W u (un os k)->Calls prog 117 #[.u (Z ⟨w.o.q+1,0,Y⟩),.agg #[.i c.g.i,.d c.g.o,.k aK c.g.k.j V,.k a5 c.d.j R],u] W λe w'=>∃tv pv nv,e=ε (.agg #[ι r.L,ι r.m,ι r.g.o,tv,pv,nv])/\vE W.o.q w' tv pv nv r/\μ W w'):=aB;clear aB;go_wp2_with (first|(go_at_call 116;refine(bd.l _ γ).y ?_;rintro e w1 ⟨u,rfl,hu,y⟩;obtain rfl:=y.z;obtain⟨bM,bD,rfl⟩:=hu.qy)|(go_at_call 117;refine(aY.l _ _ γ hu).y ?_;rintro e w2 ⟨tv,pv,nv,rfl,L,ao⟩;obtain⟨bb,ac,rfl⟩:=L.g.qy;obtain⟨aG,aa,rfl⟩:=L.qc.qy;obtain⟨a2,S,rfl⟩:=L.qx.qy;have l:μ wr w2:=(zT γ ao (zf _));have x:=d.l.box.u l;obtain⟨am,az,ae⟩:=x.e;have b5:=l.q;have j:=zy m l)|(at_builtin;refine kd w2 _ [ι r.L,ι r.m,ι r.g.o,.k bb r.g.v.j ac,.k aG r.qc.j aa,.k a2 r.qx.j S] _ rfl (.tmp 58) (.tmp 60) 144 rfl w.o.q 207 iR _ 6 96 underlying144 bm bs ba bc rfl θ (.k K rs.j B) rs.j (kW rs ps) rfl j γ _ _ rfl ζ rfl a_ η η η ?_;intro v' w3 G D a7;obtain⟨aD,T,rfl⟩:=zr G;have H:=x.saveT D (T3.own j) θ;obtain⟨al,aw,ag⟩:=H.e))
   have a9:vE w.o.q w2 _ _ _ r:=L.low (show w.o.q<=_ by simp;omega);have I:kx _ _ _ _ _ _ _ _ _ _ _ _ _ _ _ _:=(d.l.next l (zf _)).pushR D (qM.push (r:=r) (p:=(.k bb r.g.v.j ac,.k aG r.qc.j aa,.k a2 r.qx.j S)) (d.l.rul.u l) η a9 G D) η;go_roundw;exact⟨k+1,_,_,_,η,ξ,by rw[an.l,au.l];exact I⟩;simp[intOf];omega
  have a8:¬(c.d.j:Int)>0:=η;simp only[aC,if_false,qn] at F E;have an:=Th F;have au:=Th E;clear F E;generalize vx t ns (cs.G k)=C at *;generalize uP t ns os (cs.G k)=rs at *;have a3:=Th λW h=>JW W (w.o.q+1) tb o z t ns c _ _ (be.l W _ (Tl b h) (d.l.mak.u h)) (a6.l.u (Tl b h)) (aM.l.u (Tl b h)) η;generalize qo t ns c=f at *;have aW:X (∀W,μ wr W->Calls prog 118 #[.u (Z ⟨w.o.q+1,0,Y⟩),.agg #[.i c.g.i,.d c.g.o,.k aK c.g.k.j V,.k a5 c.d.j R]] W λe w'=>e=ε (.agg #[ι f.o,ι (f.row.g 0 0:Nat),ι (f.row.g 1 0:Nat),ι (f.row.g 2 0:Nat)])/\μ W w'):=a3;have bp:X (gK (C++[f])=gK C++[ι f.o,ι (f.row.g 0 0:Nat),ι (f.row.g 1 0:Nat),ι (f.row.g 2 0:Nat)]):=IY C f;clear a3;generalize f.row.g 0 0=f0 at *;generalize f.row.g 1 0=f1 at *;generalize f.row.g 2 0=f2 at *;have m:wr.r w.o.q 210 4 fv C.j (gK C):=d.l.fac;obtain⟨M,A,ah⟩:=zr m;subst ah;go_wp2_with (first|(go_at_call 118;refine(aW.l _ γ).y ?_;rintro e w2 ⟨rfl,ao⟩;have l:μ wr w2:=(zT γ ao (zf _));have x:=d.l.box.u l;obtain⟨am,az,ae⟩:=x.e;have b5:=l.q;have j:=zy m l)|(at_builtin;refine kd w2 _ [ι f.o,ι f0,ι f1,ι f2] _ rfl (.tmp 66) (.tmp 68) 143 rfl w.o.q 210 iF _ 4 32 underlying143 b4 bB aP aR rfl θ (.k M C.j A) C.j (gK C) rfl j γ _ _ rfl ζ rfl a_ η η η ?_;intro v' w3 G D a7;obtain⟨aD,T,rfl⟩:=zr G;have H:=x.saveT D (T3.own j) θ;obtain⟨al,aw,ag⟩:=H.e))
  have b2:t9 w.o.q w3 (.k aD (C.j+1) T) (C++[f]):=by
   unfold t9;rw[bp.l,yK];exact G
  have I:kx _ _ _ _ _ _ _ _ _ _ _ _ _ _ _ _:=(d.l.next l (zf _)).pushF D b2 η;go_roundw;exact⟨k+1,_,_,_,η,ξ,by rw[an.l,au.l];exact I⟩;simp[intOf];omega
 have b9:X (cs.G k=cs):=by rw[X,yV η]
 rw[b9.l] at d;have ap:=d.l.box;have aX:=d.l.res;obtain⟨bJ,bT,bW⟩:=ap.e;obtain⟨bw,bP,aJ⟩:=aX.e;obtain⟨M,A,ah⟩:=zr d.l.fac;obtain⟨K,B,ak⟩:=zr d.l.rul.own;subst ah;subst ak;generalize vx t ns cs=C at *;generalize uP t ns os cs=rs at *;go_wp2
 (try simp only[Exit.inBlock,Exit.then])
 refine zP (v:=.agg #[ι ns.j,.k (Z ⟨w.o.q+1+1,0,Y⟩) t.j t.j,.k M C.j A,.k K rs.j B]) (by simp[results,results73,go_sem,bw]) rfl ⟨_,_,_,ps,by rw[HE.l],?_,?_⟩;have ad:zd [w.o.q] wr ((((wr.x ⟨w.o.q,0,Y⟩ (ι ns.j)).x ⟨w.o.q,1,Y⟩ (.k (Z ⟨w.o.q+1+1,0,Y⟩) t.j t.j)).x ⟨w.o.q,2,Y⟩ (.k M C.j A)).x ⟨w.o.q,3,Y⟩ (.k K rs.j B)):=(((zd.set _ _ _ _).A (zd.set _ _ _ _)).A (zd.set _ _ _ _)).A (zd.set _ _ _ _);have aq:=T3.box aX;rw[HE.l];exact⟨yL d.l.ari ad aq θ,yL d.l.fac ad aq θ,d.l.rul.saveT ad aq θ θ θ⟩;exact(((b.x ζ _).x ζ _).x ζ _).x ζ _
end
section
variable {cs:List zc}{t t0:List zg}{c:zc}{vs:κ}
structure T0 (cs:List zc) (t0 t:List zg):Prop where
 K:UF cs<=500
 many:∀c∈cs,yQ c=false
 coll:uF cs=Z t0
 tab:U2 t0 (cs.flatMap zm)
 safe:∀c∈cs,xB c=true
 jm:ui (t0.j+1) t0 cs=(t,true)
def Im{s:ByteArray}(h:uC s=.ok (cs,t)):∃t0,T0 cs t0 t:=by
 unfold uC at h;split at h;cases h;rename_i l;split at h;cases h;rename_i n k;split at h;cases h;rename_i g j;split at h;cases h;rename_i f;split at h;cases h;rename_i t0 e;split at h;rename_i a;split at h;rename_i b;obtain⟨rfl,rfl⟩:=h;refine⟨t0,?_,λc d=>?_,e,Cl e,λc d=>gO.1 a c d,?_⟩;have m:=iH j;have o:=ip k;omega;cases i:yQ c;rfl;exact zC (fg.2 ⟨c,d,i⟩) f;rw[←b];cases h;cases h
def Uf(t:List zg):List (ByteArray×Nat):=t.w λe=>(e.name,e.jh)
def IP(t:Ψ)(n:ByteArray)(s:Nat):Uf (xZ t n s).1=Uf t:=by
 unfold xZ;split;rfl;rename_i e b;split;rfl;obtain⟨f,a,h⟩:=jn b;unfold Uf;refine jv ζ λi g j=>?_;simp only[ue,lT];split;rename_i d;subst d;rw[a];rfl
def Gn:∀(cs:Ξ) (x:Ψ×Bool),Uf (cs.H vZ x).1=Uf x.1
 |[],_=>rfl
 |c::cs,x=>by
  rw[uJ,Gn cs];exact IP _ _ _
def rj:∀(m:Nat) (t:Ψ) (cs:Ξ),Uf (ui m t cs).1=Uf t
 |0,_,_=>rfl
 |m+1,t,cs=>by
  have a:Uf (qa t cs).1=Uf t:=Gn cs (t,false);unfold ui;split
  .rw[rj m,a]
  .exact a
def Hi{a:Ψ}(h:Uf t=Uf a):Tj t=Tj a:=by
 have:=congrArg (List.map Prod.fst) h;simpa [Uf,Tj,Function.comp_def] using this
def T0.lit(h:T0 cs t0 t)(w:c∈cs){l:zj}(s:l∈zm c):∃e,zU t l.o=Z e/\e.name=l.o/\zB t l.o<t.j/\(t.w (·.jh)).g (zB t l.o) 0=l.k.j/\zB t l.o=zW t l.o:=by
 have i:Uf t=Uf t0:=by have:=rj (t0.j+1) t0 cs;rw[h.jm] at this;exact this
 have a:=vg.2 ⟨c,w,s⟩;have f:(zU t0 l.o).I=true:=by
  rcases j:zU t0 l.o with _|e;obtain⟨e,r,u⟩:=zF.1 ((h.tab.names l.o).2 ⟨l,a,rfl⟩);exact zC u (ry h.tab.rise j e r);rfl
 have g:=(CC (Hi i).z _).1 f;obtain⟨e,j⟩:=lV.1 g;obtain⟨m,n,o⟩:=jn j;have d:zB t l.o=zW t l.o:=by unfold zB;rw[zb g]
 refine⟨e,j,o,by rw[d];exact m,?_,d⟩;rw[d];have p:(t.w (·.jh)).g (zW t l.o) 0=e.jh:=by simp[List.getD,m,n]
 rw[p];have b:(e.name,e.jh)∈Uf t0:=by
  rw[←i];exact zF.2 ⟨e,by rw[←n];exact zq m,rfl⟩
 obtain⟨v,q,k⟩:=zF.1 b;simp only[ye] at k;rw[←k.2];exact(h.tab.jh v q l a (by rw[k.1,o])).z
def T0.sol(h:T0 cs t0 t):Uk cs (val t):=by
 have b:kP t0 cs:=by
  intro c i l f;have a:=vg.2 ⟨c,i,f⟩;rcases j:zU t0 l.o with _|e;obtain⟨e,d,g⟩:=zF.1 ((h.tab.names l.o).2 ⟨l,a,rfl⟩);exact zC g (ry h.tab.rise j e d);rfl
 have:=iM (t0.j+1) t0 cs b (by rw[h.jm]);rw[h.jm] at this;exact this
def i8(t:Ψ)(n:ByteArray):xM t n=val t n:=rfl
def Qc{a b:ByteArray}{f d:zg}(h:zU t a=Z f)(l:zU t b=Z d)(e:zW t a=zW t b):a=b:=by
 obtain⟨m,i,g⟩:=jn h;obtain⟨n,k,j⟩:=jn l;have:f=d:=by rw[←i,←k];simp[e]
 rw[←g,←j,this]
def pz(p:Nat)(ts:List yh)(x:yh):(j7 p ts x).var=x.var/\(j7 p ts x).z=x.z:=by unfold j7;split<;>exact⟨rfl,rfl⟩
def Bc(t:Ψ)(ns vs:κ)(a:Φ)(l:zj)(p:Nat):zK (zL t ns vs a l) p=zK ⟨0,ur ns vs a l⟩ p:=by
 unfold zK zL;simp only[List.any_map];congr 1;funext x;simp only[Function.comp,(pz 0 _ x).1,(pz 0 _ x).2]
def MA(t:Ψ)(ns vs:κ)(a:Φ)(l:zj)(p:Nat):xd (zL t ns vs a l) p=xd ⟨0,ur ns vs a l⟩ p:=by
 unfold xd;rw[Bc,show zK (zL t ns vs a l)=zK ⟨0,ur ns vs a l⟩ from funext (Bc t ns vs a l)]
def PZ(ns:κ)(x:ByteArray):(xn ns x).g 0<zM ns.j:=by
 unfold xn zM;split;rename_i h;simp only[uE];split<;>omega
 simp only[kF];split<;>omega
def iW(t:Ψ)(ns vs:κ)(a:Φ)(l:zj)(q:∀k,a.g k 0<5)(o:l.k.j<=3):qA (zL t ns vs a l) l.k.j (zM ns.j):=by
 have b:∀x∈(zL t ns vs a l).v,∃y∈l.k,x=j7 0 (ur ns vs a l) (uR ns vs a y)/\uR ns vs a y∈ur ns vs a l:=by
  intro x e;unfold zL at e;simp only[zF] at e;obtain⟨z,h,rfl⟩:=e;have f:=h;unfold ur at h;obtain⟨y,i,rfl⟩:=zF.1 h;exact⟨y,i,rfl,f⟩
 refine⟨by simp[zL,ur],o,λx e d=>?_,λx e d=>?_⟩;obtain⟨y,i,rfl,j⟩:=b x e;obtain⟨m,n⟩:=pz 0 (ur ns vs a l) (uR ns vs a y);rw[m] at d;rw[n,MA];refine⟨?_,?_⟩;unfold uR at d ⊢;split;unfold uT;split;exact Nat.lt_of_sub_eq_succ rfl;split;exact Nat.lt_of_sub_eq_succ rfl;exact q _;rename_i g;rw[za g] at d;cases d;have p:zK ⟨0,ur ns vs a l⟩ (uR ns vs a y).z=true:=(fH _ _).2 ⟨_,j,d,rfl⟩;unfold j7;rw[zb d];simp only;unfold xd;rw[zb p];rfl;obtain⟨y,i,rfl,j⟩:=b x e;obtain⟨m,n⟩:=pz 0 (ur ns vs a l) (uR ns vs a y);unfold uR at d ⊢;split;rename_i g;rw[zb g] at d;cases d;exact PZ ns y
def o4{ns:κ}{d:Φ}{l:zj}{p:Nat}:zK (zL t ns vs d l) p=true↔∃y∈l.k,zQ y=true/\uT vs d y=p:=by
 rw[Bc,fH];constructor;rintro⟨x,h,b,g⟩;unfold ur at h;obtain⟨y,f,rfl⟩:=zF.1 h;unfold uR at b g;by_cases a:zQ y=true;rw[zb a] at g;exact⟨y,f,a,g⟩;rw[za a] at b;cases b;rintro⟨y,f,a,e⟩;refine⟨uR ns vs d y,zF.2 ⟨y,f,rfl⟩,?_,?_⟩;unfold uR;rw[zb a];unfold uR;rw[zb a];exact e
def PP(h:vs.Nodup)(x:ByteArray):(ke vs x).Nodup:=by
 unfold ke;split;rename_i d;simp only[uI,sX] at d;rw[rF];refine⟨h,ζ,λa f b e=>?_⟩;simp at e;subst e;rintro rfl;rw[vS.2 f] at d;cases d.2;exact h
def FU:∀(args vs:κ),vs.Nodup->(xH vs args).Nodup
 |[],_,h=>h
 |x::r,vs,h=>FU r (ke vs x) (PP h x)
def GJ(c:zc):(zx c).Nodup:=by
 have:∀(a:Ω) (vs:κ),vs.Nodup->(a.H qk vs).Nodup:=by
  intro a;induction a with
  |nil=>intro vs h;exact h
  |cons l a b=>
   intro vs h;rw[uJ];refine b _ ?_;unfold qk;split;exact h;exact FU _ _ h
 exact this c.d [] List.nodup_nil
def mO{α:Type}[DecidableEq α]:∀{l1 l2:List α},l1.Nodup->(∀x∈l1,x∈l2)->l1.j<=l2.j
 |[],l2,_,_=>ζ
 |a::l1,l2,f,d=>by
  have g:=d a ζ;have h:=mO (l1:=l1) (l2:=l2.erase a) (jx.1 f).2 (λx e=>by
   have b:x≠a:=by rintro rfl;exact(jx.1 f).1 e
   exact(lN b).2 (d x (by simp[e])))
  rw[nt g] at h;have:=pd g;simp;omega
def Gr:∀{l:κ} (_:l.Nodup) {k:Nat} (f:k<l.j),y7 l l[k]=Z k
 |y::r,b,0,_=>by simp[y7]
 |y::r,b,k+1,f=>by
  have a:k<r.j:=by simpa using f
  have d:y≠r[k]:=by
   rintro e;exact(jx.1 b).1 (e ▸ zq a)
  simp only[pF,y7,za d,Gr (jx.1 b).2 a,jL]
def ia:∀{ps:κ} {n:ByteArray},n∈ps->∃k,k<ps.j/\y7 ps n=Z k:=fun{ps n} h=>by
 have:(y7 ps n).I=true:=by rw[oy];exact vS.2 h
 obtain⟨k,a⟩:=lV.1 this;obtain⟨b,_⟩:=lM a;exact⟨k,b,a⟩
def nu(h:yQ c=false):c.g.k.j<=3/\c.d.j<=6/\(∀l∈c.d,l.k.j<=3)/\(um c).j<=5:=by
 simp only[yQ,pJ,decide_eq_false_iff_not,List.any_eq_false,decide_eq_true_eq] at h;obtain⟨⟨⟨d,e⟩,b⟩,f⟩:=h;exact⟨η,η,λl a=>by have:=b l a;omega,η⟩
def fm(h:yQ c=false):(zx c).j<=5:=by
 have f:=(nu h).2.2.2;have:=mO (GJ c) (l2:=um c) (λx e=>by
  obtain⟨a,l,b,_,d⟩:=fL.1 e;exact iP.2 ⟨a,ze ⟨l,b,d⟩⟩)
 omega
structure ka (pl:List Nat) (k:Nat):Prop where
 five:∀i,pl.g i 0<5
 low:∀i,i<k->pl.g i 0<k
 onto:∀p,p<k->∃i,i<k/\pl.g i 0=p
def CA(h:T0 cs t0 t)(u:c∈cs)(ns:κ)(o:Option (List Int))(v:ka (yH (o.g [])) (zx c).j):pT (vA t ns c o) (t.w (·.jh)) (zM ns.j):=by
 have F:=h.many c u;obtain⟨L,T,E,V⟩:=nu F;have K:=fm F;have A:=h.safe c u;simp only[xB,uI,gO,fX,sX] at A;have a:∀{l:zj} {p:Nat},(∀y∈l.k,zQ y=true->y∈zx c)->zK (zL t ns (zx c) (yH (o.g [])) l) p=true->p<(zx c).j:=by
  intro l p s m;obtain⟨y,Q,P,n⟩:=o4.1 m;obtain⟨k,M,N⟩:=ia (s y Q P);unfold uT at n;rw[N] at n;simp only at n;rw[za η] at n;rw[←n];exact v.low k M
 have f:=n8.1 A.1;have d:∀l∈c.d,∀y∈l.k,zQ y=true->y∈zx c:=by
  intro l b y D s;cases G:l.i;exact fL.2 ⟨s,l,b,G,D⟩;rcases A.2 l b with q|q;rw[G] at q;cases q;exact n8.1 q y D s
 have j:∀l∈c.d,(zL t ns (zx c) (yH (o.g [])) l).o<(t.w (·.jh)).j/\qA (zL t ns (zx c) (yH (o.g [])) l) ((t.w (·.jh)).g (zL t ns (zx c) (yH (o.g [])) l).o 0) (zM ns.j):=by
  intro l b;obtain⟨e,_,_,w,B,_⟩:=h.lit u (l:=l) (by simp[zm,b]);refine⟨by simpa [zL] using w,?_⟩;show qA _ ((t.w (·.jh)).g (zB t l.o) 0) _;rw[B];exact iW t ns _ _ l v.five (E l b)
 obtain⟨e,_,_,w,B,_⟩:=h.lit u (l:=c.g) (by simp[zm]);refine⟨⟨K,λl b=>?_,λl b p m=>?_,λl b p m=>?_,λp m=>a f m,λp z=>?_⟩,by simpa [vA,zL] using w,?_,λl b=>?_,λl b=>?_⟩;obtain⟨x,g,rfl⟩:=zF.1 b;have:=E x (xy.1 g).1;simp[zL,ur];omega;obtain⟨x,g,rfl⟩:=zF.1 b;exact a (d x (xy.1 g).1) m;obtain⟨x,g,rfl⟩:=zF.1 b;exact a (d x (xy.1 g).1) m;obtain⟨i,C,J⟩:=v.onto p z;have r:=zq C;obtain⟨S,l,H,I,R⟩:=fL.1 r;refine⟨_,zF.2 ⟨l,xy.2 ⟨H,by simp[I]⟩,rfl⟩,o4.2 ⟨_,R,S,?_⟩⟩;unfold uT;rw[Gr (GJ c) C];simp only;rw[za η];exact J;show qA _ ((t.w (·.jh)).g (zB t c.g.o) 0) _;rw[B];exact iW t ns _ _ c.g v.five L;obtain⟨x,g,rfl⟩:=zF.1 b;exact j x (xy.1 g).1;obtain⟨x,g,rfl⟩:=zF.1 b;exact j x (xy.1 g).1
def tP(h:T0 cs t0 t)(ns:κ)(os:Option (List (Option (List Int))))(hp:∀i (d:i<cs.j),ka (yH ((un os i).g [])) (zx cs[i]).j):rV (vf t ns os cs):=by
 have s:∀a∈t.w (·.jh),a<=3:=by
  intro a ha;obtain⟨e,he,rfl⟩:=zF.1 ha;have F:Uf t=Uf t0:=by have:=rj (t0.j+1) t0 cs;rw[h.jm] at this;exact this
  have m:(e.name,e.jh)∈Uf t0:=by rw[←F];exact zF.2 ⟨e,he,rfl⟩
  obtain⟨G,L,J⟩:=zF.1 m;simp only[ye] at J;obtain⟨l,K,T⟩:=(h.tab.names G.name).1 (zF.2 ⟨G,L,rfl⟩);have:=h.tab.jh G L l K T;obtain⟨c,E,y⟩:=vg.1 K;obtain⟨Q,_,C,_⟩:=nu (h.many c E);rw[←J.2,←this];rcases zG.1 y with rfl|y;exact Q;exact C l y
 have H:0<zM ns.j:=by unfold zM;split<;>omega
 have b:∀r∈uP t ns os cs,∃i,∃d:i<cs.j,0<cs[i].d.j/\r=vA t ns cs[i] (un os i):=by
  intro r o;unfold uP at o;obtain⟨⟨c,i⟩,h1,A⟩:=mM.1 o;have P:=se.1 h1;simp only at A P;obtain⟨d,rfl⟩:=jC.1 P;split at A;rename_i hb;simp only[zt] at A;exact⟨i,d,hb,A.z⟩;cases A
 refine⟨s,λf S=>?_,λr o=>?_,λr o r' B D l y=>?_⟩;have z:f∈vx t ns cs:=S;unfold vx at z;obtain⟨c,E,rfl⟩:=zF.1 z;have w:=(xy.1 E).1;obtain⟨e,_,_,C,V,_⟩:=h.lit w (l:=c.g) (by simp[zm]);have v:qA (zL t ns [] [0,0,0,0,0] c.g) c.g.k.j (zM ns.j):=iW t ns [] _ c.g (λk=>by
  by_cases R:k<5;have:k=0∨k=1∨k=2∨k=3∨k=4:=η;rcases this with rfl|rfl|rfl|rfl|rfl<;>decide
  simp[List.getD,List.getElem?_eq_none (show([0,0,0,0,0]:Φ).j<=k by simp;omega)]) (nu (h.many c w)).1
 refine⟨by simpa [qo,vf] using C,?_,?_⟩;show T1 ((t.w (·.jh)).g (zB t c.g.o) 0) _;rw[V];exact eL v _;refine ES v H λp _=>?_;by_cases R:p<5;have:p=0∨p=1∨p=2∨p=3∨p=4:=η;rcases this with rfl|rfl|rfl|rfl|rfl<;>exact H
 rw[show([0,0,0,0,0]:Φ).g p 0=0 by simp[List.getD,List.getElem?_eq_none (show([0,0,0,0,0]:Φ).j<=p by simp;omega)]];exact H;obtain⟨i,d,_,rfl⟩:=b r o;exact CA h (zq d) ns _ (hp i d);obtain⟨i,d,_,rfl⟩:=b r o;obtain⟨j,hj,_,rfl⟩:=b r' B;obtain⟨x,N,rfl⟩:=zF.1 y;have u:=(xy.1 N).1;have I:x.i=true:=by simpa using(xy.1 N).2
 have g:=h.sol cs[i] (zq d) x u;unfold up at g;rw[zb I] at g;obtain⟨e1,a1,_,_,_,a5⟩:=h.lit (zq d) (l:=x) (by simp[zm,u]);obtain⟨e2,W,_,_,_,b5⟩:=h.lit (zq hj) (l:=cs[j].g) (by simp[zm]);intro e;have M:zB t x.o=zB t cs[j].g.o:=e;rw[a5,b5] at M;have n:=Qc a1 W M;have q:xM t cs[i].g.o=xM t cs[j].g.o:=D;rw[i8,i8,←n] at q;omega
def p6{k:Nat}(f:k<=5):ka (yH []) k:=by
 have e:yH []=[0,1,2,3,4]:=rfl;have b:∀i,i<5->([0,1,2,3,4]:Φ).g i 0=i:=by
  intro i a;have:i=0∨i=1∨i=2∨i=3∨i=4:=η;rcases this with rfl|rfl|rfl|rfl|rfl<;>rfl
 rw[e];refine⟨λi=>?_,λi a=>by rw[b i η];exact a,λp d=>⟨p,d,b p η⟩⟩;by_cases a:i<5;rw[b i a];exact a;simp[List.getD,List.getElem?_eq_none (show([0,1,2,3,4]:Φ).j<=i by simp;omega)]
end
section
open Classical
def T0.low{cs:Ξ}{a t:Ψ}(h:T0 cs a t):t.j=a.j/\t.j<=500/\∀n,xM t n<=t.j:=by
 have g:Uf t=Uf a:=by have:=rj (a.j+1) a cs;rw[h.jm] at this;exact this
 have b:t.j=a.j:=by have:=congrArg List.length g;simpa [Uf] using this
 have p:=wJ _ [] a h.coll;have u:=o6 cs;have s:=h.K;simp only[jr,vJ] at p;have i:kP a cs:=by
  intro c m l k;have d:=vg.2 ⟨c,m,k⟩;rcases f:zU a l.o with _|e;obtain⟨e,q,j⟩:=zF.1 ((h.tab.names l.o).2 ⟨l,d,rfl⟩);exact zC j (ry h.tab.rise f e q);rfl
 have r:∀n,val a n=0:=λn=>by
  unfold val;split;rename_i e f;have:=eN _ [] (λe f=>by cases f) a h.coll e (rx f).1;omega;rfl
 have o:=(wG i r).2 (by rw[h.jm]);rw[h.jm] at o;refine⟨b,η,λn=>?_⟩;rw[i8];by_cases j:n∈Tj a;have:=BO o (ps:=Tj a) (λc m l k=>(h.tab.names l.o).2 ⟨l,vg.2 ⟨c,m,k⟩,rfl⟩) j;simp[Tj] at this;show val t n<=_;omega;have:val t n=0:=Bi (by rw[Hi g];exact j);omega
def Dw(cs:Ξ):mo cs<=UF cs:=by
 induction cs with
 |nil=>simp[mo,UF]
 |cons c cs d=>
  have e:=tp c.d;have f:gP c.d=xj c.d:=by
   have:∀b:Ω,gP b=xj b:=by
    intro b;induction b with
    |nil=>rfl
    |cons a b d=>simp[gP,xj,kU] at d ⊢;omega
   exact this _
  simp[mo,UF,UQ,g5,kU] at d ⊢;omega
end
section
variable {ns:κ}
def th(h:y6 ns){i j:Nat}(a:i<j)(b:j<ns.j):TC (ns.g i ByteArray.empty) (ns.g j ByteArray.empty)=true:=by
 have c:i<ns.j:=η;rw[Tn _ c,Tn _ b];exact pM.1 h i j c b a
def Oh(h:y6 ns)(x:ByteArray):∀(n l a:Nat),l<=a->a<=ns.j->a-l<n->(∀i,i<l->TC (ns.g i ByteArray.empty) x=true)->(∀i,a<=i->i<ns.j->TC (ns.g i ByteArray.empty) x=false)->TK ns x n l a<=ns.j/\(∀i,i<TK ns x n l a->TC (ns.g i ByteArray.empty) x=true)/\∀i,TK ns x n l a<=i->i<ns.j->TC (ns.g i ByteArray.empty) x=false:=by
 intro n;induction n with
 |zero=>intro l a _ _ q;omega
 |succ n p=>
  intro l a t s v k o;unfold TK;by_cases e:l<a;rw[zb e];have u:l+(a-l) / 2<a:=η;have f:l<=l+(a-l) / 2:=η;generalize l+(a-l) / 2=m at *;by_cases d:TC (ns.g m ByteArray.empty) x=true;rw[zb d];refine p (m+1) a η s η (λi j=>?_) o;by_cases b:i=m;rw[b];exact d;exact lt_trans (th h (show i<m by omega) η) d;rw[za d];have c:TC (ns.g m ByteArray.empty) x=false:=by simpa using d
  refine p l m f η η k (λi j g=>?_);by_cases b:i=m;rw[b];exact c;cases r:TC (ns.g i ByteArray.empty) x;rfl;have:=lt_trans (th h (show m<i by omega) g) r;rw[this] at c;cases c;rw[za e];exact⟨η,k,λi j g=>o i η g⟩
def Gt(h:y6 ns)(x:ByteArray):uu ns x<=ns.j/\(∀i,i<uu ns x->TC (ns.g i ByteArray.empty) x=true)/\∀i,uu ns x<=i->i<ns.j->TC (ns.g i ByteArray.empty) x=false:=
 Oh h x _ 0 ns.j (zs _) (zf _) η (λi a=>η) (λi a b=>η)
def tW(h:y6 ns){v:Nat}(a:v<ns.j):xn ns (ns.g v ByteArray.empty)=Z v:=by
 obtain⟨e,c,b⟩:=Gt h (ns.g v ByteArray.empty);have d:uu ns (ns.g v ByteArray.empty)=v:=by
  rcases rf (uu ns (ns.g v ByteArray.empty)) v with q|q|q;have:=b _ (zf _) η;rw[th h q a] at this;cases this;exact q;have:=c v q;rw[Tw] at this;cases this
 unfold xn;rw[d,zb ⟨a,rfl⟩]
def p4{x:ByteArray}{v:Nat}(h:xn ns x=Z v):v<ns.j/\ns.g v ByteArray.empty=x:=by
 unfold xn at h;split at h;rename_i a;simp only[zt] at h;subst h;exact a;cases h
def GH(h:y6 ns){x:ByteArray}(b:x∈ns):∃v,xn ns x=Z v/\v<ns.j:=by
 obtain⟨v,a,rfl⟩:=vh b;have:=tW h a;rw[Tn _ a] at this;exact⟨v,this,a⟩
def Od(h:y6 ns)(x:ByteArray):y6 (mN ns x)/\∀y,y∈mN ns x↔y=x∨y∈ns:=by
 unfold mN;obtain⟨A,z,u⟩:=Gt h x;by_cases f:uu ns x<ns.j/\ns.g (uu ns x) ByteArray.empty=x;rw[zb f];refine⟨h,λy=>⟨ze,λq=>q.elim (λe=>?_) id⟩⟩;rw[e,←f.2,Tn _ f.1];exact zq f.1;rw[za f];generalize uu ns x=p at *;refine⟨?_,λy=>?_⟩;unfold y6;have o:=jQ p ns;have c:=h;unfold y6 at c;rw[←o,mH] at c;rw[mH,mp];have k:∀a∈ns.G p,TC a x=true:=λa j=>by
  obtain⟨i,m,rfl⟩:=vh j;have r:i<p:=by simp at m;omega
  have d:i<ns.j:=η;have:=z i r;rw[Tn _ d] at this;simpa using this
 have l:∀b∈ns.drop p,TC x b=true:=λb g=>by
  obtain⟨i,m,rfl⟩:=vh g;have d:p+i<ns.j:=by simp at m;omega
  have t:=u (p+i) η d;rw[Tn _ d] at t;rw[List.getElem_drop];cases v:TC x ns[p+i];exfalso;have e:=tE t v;by_cases n:i=0;subst n;exact f ⟨η,by rw[Tn _ η];simpa using e⟩;have s:=th h (show p<p+i by omega) d;rw[Tn _ d,e] at s;have w:=u p (zf _) η;rw[w] at s;cases s;rfl
 refine⟨c.1,⟨l,c.2.1⟩,λa j b g=>?_⟩;rcases zG.1 g with rfl|g;exact k a j;exact c.2.2 a j b g;have:y∈ns↔y∈ns.G p∨y∈ns.drop p:=by
  rw[←ya,jQ]
 rw[this];simp only[ya,zG];constructor;rintro(q|q|q);exact ze (zh q);exact zh q;exact ze (ze q);rintro(q|q|q);exact ze (zh q);exact zh q;exact ze (ze q)
def QO(h:y6 ns)(x:ByteArray):y6 (qH ns x)/\∀y,y∈qH ns x↔(y=x/\zQ x=false)∨y∈ns:=by
 unfold qH;cases a:zQ x;simpa using Od h x;simp[h]
def Be:∀(xs:κ) {ns:κ},y6 ns->y6 (xs.H qH ns)/\∀y,y∈xs.H qH ns↔(y∈xs/\zQ y=false)∨y∈ns
 |[],ns,h=>⟨h,λy=>ζ⟩
 |x::xs,ns,h=>by
  obtain⟨f,d⟩:=QO h x;obtain⟨c,e⟩:=Be xs f;refine⟨c,λy=>?_⟩;rw[uJ,e,d];simp only[zG];constructor
  .rintro(⟨b,a⟩|⟨rfl,a⟩|q)
   .exact zh ⟨ze b,a⟩
   .exact zh ⟨zh rfl,a⟩
   .exact ze q
  .rintro(⟨rfl|b,a⟩|q)
   .exact ze (zh ⟨rfl,a⟩)
   .exact zh ⟨b,a⟩
   .exact ze (ze q)
def GZ:∀(a:Ω) {ns:κ},y6 ns->y6 (a.H uW ns)/\∀y,y∈a.H uW ns↔(∃l∈a,y∈l.k/\zQ y=false)∨y∈ns
 |[],ns,h=>⟨h,λy=>ζ⟩
 |l::a,ns,h=>by
  obtain⟨f,d⟩:=Be l.k h;obtain⟨c,e⟩:=GZ a (ns:=uW ns l) f;refine⟨c,λy=>?_⟩;have b:∀y,y∈uW ns l↔(y∈l.k/\zQ y=false)∨y∈ns:=d;rw[uJ,e,b];simp only[zG,exists_eq_or_imp];constructor
  .rintro(q|q|q)
   .exact zh (ze q)
   .exact zh (zh q)
   .exact ze q
  .rintro((q|q)|q)
   .exact ze (zh q)
   .exact zh q
   .exact ze (ze q)
def Dx:∀(cs:Ξ) {ns:κ},y6 ns->y6 (cs.H qG ns)/\∀y,y∈cs.H qG ns↔(∃c∈cs,∃l∈zm c,y∈l.k/\zQ y=false)∨y∈ns
 |[],ns,h=>⟨h,λy=>ζ⟩
 |c::cs,ns,h=>by
  obtain⟨j,g⟩:=Be c.g.k h;obtain⟨f,e⟩:=GZ c.d (ns:=uW ns c.g) j;obtain⟨d,i⟩:=Dx cs (ns:=qG ns c) f;refine⟨d,λy=>?_⟩;have a:∀y,y∈uW ns c.g↔(y∈c.g.k/\zQ y=false)∨y∈ns:=g;have b:∀y,y∈qG ns c↔(∃l∈c.d,y∈l.k/\zQ y=false)∨y∈uW ns c.g:=e;rw[uJ,i,b,a];simp only[zG,exists_eq_or_imp,zm];constructor
  .rintro(q|q|q|q)
   .exact zh (ze q)
   .exact zh (zh (ze q))
   .exact zh (zh (zh q))
   .exact ze q
  .rintro(((q|q)|q)|q)
   .exact ze (ze (zh q))
   .exact ze (zh q)
   .exact zh q
   .exact ze (ze (ze q))
def ff(cs:Ξ):y6 (zp cs)/\∀y,y∈zp cs↔∃c∈cs,∃l∈zm c,y∈l.k/\zQ y=false:=by
 obtain⟨a,b⟩:=Dx cs (ns:=[]) List.Pairwise.nil;exact⟨a,λy=>by rw[show zp cs=cs.H qG [] from rfl,b];simp⟩
end
section
open Classical
variable {vs ns:κ}{pl:List Nat}{t t0:List zg}{cs:List zc}{os:Option (List (Option (List Int)))}
def kq(ns:κ)(σ:ByteArray->Nat)(l:zj)(i:Nat):Nat:=match l.k[i]? with
 |none=>0
 |some y=>if zQ y=true then σ y else(xn ns y).g 0
def q7(ns:κ)(σ:ByteArray->Nat)(l:zj):zk:=[kq ns σ l 0,kq ns σ l 1,kq ns σ l 2]
def CJ(a:∀k,pl.g k 0<5)(n:ByteArray):uT vs pl n<5:=by
 unfold uT;split;omega;split;omega;exact a _
def Pp(t:Ψ)(ns vs:κ)(f:∀k,pl.g k 0<5)(l:zj)(y:Φ)(i:Nat):Tk (zL t ns vs pl l) y i=kq ns (λv=>y.g (uT vs pl v) 0) l i:=by
 unfold Tk kq;by_cases h:i<l.k.j;have a:i<(zL t ns vs pl l).v.j:=by simp[zL,ur];exact h
 rw[zb a,yn h,Tn _ a];have e:(zL t ns vs pl l).v[i]=j7 0 (ur ns vs pl l) (uR ns vs pl l.k[i]):=by simp[zL,ur]
 obtain⟨c,d⟩:=pz 0 (ur ns vs pl l) (uR ns vs pl l.k[i]);rw[e];unfold U1;rw[c,d];unfold uR;by_cases b:zQ l.k[i]=true;have:=CJ (vs:=vs) f l.k[i];simp[b,this];simp[b];have a:¬i<(zL t ns vs pl l).v.j:=by simp[zL,ur];omega
 rw[za a,gi η]
def wg(t:Ψ)(ns vs:κ)(a:∀k,pl.g k 0<5)(l:zj)(y:Φ):zH (zL t ns vs pl l) y=q7 ns (λv=>y.g (uT vs pl v) 0) l:=by
 simp only[zH,q7,Pp t ns vs a]
def Qy{σ τ:ByteArray->Nat}{l:zj}(h:∀y∈l.k,zQ y=true->σ y=τ y):q7 ns σ l=q7 ns τ l:=by
 have:∀i,kq ns σ l i=kq ns τ l i:=by
  intro i;unfold kq;rcases c:l.k[i]? with _|y;rfl;have b:=ft c;by_cases a:zQ y=true;simp only[a,if_true];exact h y b a;simp[a]
 simp only[q7,this]
def iw(t:List zg)(ns:κ)(c:zc)(D:DB)(x:zk):Prop:=∃σ,(∀l∈c.d,l.i=false->Tr D (zB t l.o) (q7 ns σ l))/\(∀l∈c.d,l.i=true->D (zB t l.o) (q7 ns σ l)=Y)/\x=q7 ns σ c.g
def NI{k:Nat}{f:Nat->Nat}(h:∀p,p<k->∃i,i<k/\f i=p){i j:Nat}(g:i<k)(n:j<k)(e:f i=f j):i=j:=by
 by_cases c:i=j;exact c;have:=mO (l1:=List.range k) (l2:=((List.range k).erase j).w f) List.nodup_range (λp m=>by
  obtain⟨a,l,d⟩:=h p (qv.1 m);by_cases b:a=j;exact zF.2 ⟨i,(lN c).2 (qv.2 g),by rw[e,←b,d]⟩;exact zF.2 ⟨a,(lN b).2 (qv.2 l),d⟩)
 rw[xt,nt (qv.2 n),ri] at this;omega
def Kb(m:vs.j<=5)(l:ka pl vs.j){u v:ByteArray}(k:u∈vs)(h:v∈vs)(e:uT vs pl u=uT vs pl v):u=v:=by
 obtain⟨i,f,d⟩:=ia k;obtain⟨j,g,c⟩:=ia h;unfold uT at e;rw[d,c] at e;simp only at e;rw[za η,za η] at e;have:=NI l.onto f g e;subst this;obtain⟨_,a⟩:=lM d;obtain⟨_,b⟩:=lM c;rw[←a,←b]
def DM{c:zc}{o:Option (List Int)}{D:DB}{x:zk}(B:∀l∈zm c,∀y∈l.k,zQ y=true->y∈zx c)(E:(zx c).j<=5)(e:ka (yH (o.g [])) (zx c).j):US (vA t ns c o) D x↔iw t ns c D x:=by
 constructor;rintro⟨y,q,A,w⟩;refine⟨λv=>y.g (uT (zx c) (yH (o.g [])) v) 0,λl b r=>?_,λl b r=>?_,?_⟩;have:=q (zL t ns (zx c) (yH (o.g [])) l) (zF.2 ⟨l,xy.2 ⟨b,by simp[r]⟩,rfl⟩);rw[wg t ns _ e.five] at this;exact this;have:=A (zL t ns (zx c) (yH (o.g [])) l) (zF.2 ⟨l,xy.2 ⟨b,by simp[r]⟩,rfl⟩);rw[wg t ns _ e.five] at this;exact this;rw[w];exact wg t ns _ e.five _ _;rintro⟨σ,q,A,w⟩;let g:Nat->Nat:=λp=>if d:∃v,v∈zx c/\uT (zx c) (yH (o.g [])) v=p then σ d.choose else 0
 have m:∀v∈zx c,g (uT (zx c) (yH (o.g [])) v)=σ v:=by
  intro v h;have d:∃u,u∈zx c/\uT (zx c) (yH (o.g [])) u=uT (zx c) (yH (o.g [])) v:=⟨v,h,rfl⟩;show(if d:∃u,u∈zx c/\uT (zx c) (yH (o.g [])) u=uT (zx c) (yH (o.g [])) v then σ d.choose else 0)=σ v;rw[dif_pos d,Kb E e d.choose_spec.1 h d.choose_spec.2]
 have C:∀p,p<5->((List.range 5).w g).g p 0=g p:=by
  intro p j;rw[Tn _ (by simp;exact j)];simp
 have a:∀l∈zm c,zH (zL t ns (zx c) (yH (o.g [])) l) ((List.range 5).w g)=q7 ns σ l:=by
  intro l b;rw[wg t ns _ e.five];refine Qy λy k i=>?_;rw[C _ (CJ e.five _),m y (B l b y k i)]
 refine⟨(List.range 5).w g,λl b=>?_,λl b=>?_,?_⟩;obtain⟨z,n,rfl⟩:=zF.1 b;obtain⟨f,s⟩:=xy.1 n;rw[a z (by simp[zm,f])];exact q z f (by simpa using s);obtain⟨z,n,rfl⟩:=zF.1 b;obtain⟨f,s⟩:=xy.1 n;rw[a z (by simp[zm,f])];exact A z f (by simpa using s);rw[w];exact(a c.g (by simp[zm])).z
def T0.covered(h:T0 cs t0 t){c:zc}(g:c∈cs):∀l∈zm c,∀y∈l.k,zQ y=true->y∈zx c:=by
 have b:=h.safe c g;simp only[xB,uI,gO,fX,sX] at b;intro l a y e d;rcases zG.1 a with rfl|a;exact n8.1 b.1 y e d;cases f:l.i;exact fL.2 ⟨d,l,a,f,e⟩;rcases b.2 l a with q|q;rw[f] at q;cases q;exact n8.1 q y e d
def PN(t:List zg)(ns:κ)(cs:List zc)(s:Nat)(D:DB)(p:Nat)(x:zk):Prop:=∃c∈cs,0<c.d.j/\xM t c.g.o=s/\p=zB t c.g.o/\iw t ns c D x
def rO{r:zu}:r∈uP t ns os cs↔∃i,∃b:i<cs.j,0<cs[i].d.j/\r=vA t ns cs[i] (un os i):=by
 unfold uP;rw[mM];constructor;rintro⟨⟨c,i⟩,f,a⟩;have e:=se.1 f;simp only at a e;obtain⟨b,rfl⟩:=jC.1 e;split at a;rename_i d;simp only[zt] at a;exact⟨i,b,d,a.z⟩;cases a;rintro⟨i,b,d,rfl⟩;refine⟨(cs[i],i),se.2 (by simp[b]),?_⟩;simp only;rw[zb d]
def Af(h:T0 cs t0 t)(ns:κ)(os:Option (List (Option (List Int))))(g:∀i (b:i<cs.j),ka (yH ((un os i).g [])) (zx cs[i]).j)(s:Nat)(D:DB)(p:Nat)(x:zk):j5 ((uP t ns os cs).filter λr=>decide (r.L=s)) D p x↔PN t ns cs s D p x:=by
 constructor;rintro⟨r,m,d,e⟩;obtain⟨l,j⟩:=xy.1 m;obtain⟨i,b,f,rfl⟩:=rO.1 l;have a:=zq b;exact⟨cs[i],a,f,of_decide_eq_true j,d,(DM (h.covered a) (fm (h.many _ a)) (g i b)).1 e⟩;rintro⟨c,a,f,d,e,k⟩;obtain⟨i,b,rfl⟩:=vQ.1 a;exact⟨vA t ns cs[i] (un os i),xy.2 ⟨rO.2 ⟨i,b,f,rfl⟩,decide_eq_true d⟩,e,(DM (h.covered a) (fm (h.many _ a)) (g i b)).2 k⟩
def Mz{rs a:List zu}(h:∀D p x,j5 rs D p x↔j5 a D p x)(k:Nat)(D:DB):zy4 rs k D=zy4 a k D:=by
 funext p x;unfold zy4;rcases D p x with _|m;simp only[h D p x];rfl
def FR{rs a:List zu}(h:∀D p x,j5 rs D p x↔j5 a D p x)(mr:Nat):∀left k D,zyo rs mr left k D=zyo a mr left k D
 |0,_,_=>rfl
 |left+1,k,D=>by
  unfold zyo;rw[Mz h,FR h mr left]
def Fe{rs a:List zu}(h:∀s D p x,j5 (rs.filter λr=>decide (r.L=s)) D p x↔j5 (a.filter λr=>decide (r.L=s)) D p x)(b:∀s,(rs.filter λr=>decide (r.L=s))=[]↔(a.filter λr=>decide (r.L=s))=[])(mr mx:Nat):∀n s k D,zyq rs mr mx n s k D=zyq a mr mx n s k D
 |0,_,_,_=>rfl
 |n+1,s,k,D=>by
  unfold zyq;simp only[b s,FR (h s) mr,Fe h b mr mx n]
def Ki(h:T0 cs t0 t)(ns:κ)(os a:Option (List (Option (List Int))))(m:∀i (b:i<cs.j),ka (yH ((un os i).g [])) (zx cs[i]).j)(d:∀i (b:i<cs.j),ka (yH ((un a i).g [])) (zx cs[i]).j)(mr mx:Nat):z0n (vf t ns os cs) mr mx=z0n (vf t ns a cs) mr mx:=by
 have g:∀(os:Option (List (Option (List Int)))) s,((uP t ns os cs).filter λr=>decide (r.L=s))=[]↔∀c∈cs,0<c.d.j->¬xM t c.g.o=s:=by
  intro os s;rw[iD];constructor;intro q c k f j;obtain⟨i,b,rfl⟩:=vQ.1 k;have:=q _ (rO.2 ⟨i,b,f,rfl⟩);exact this (decide_eq_true j);intro q r l;obtain⟨i,b,f,rfl⟩:=rO.1 l;exact λe=>q _ (zq b) f (of_decide_eq_true e)
 unfold z0n;show(if mU (zz3 (vx t ns cs)) mr then zyq (uP t ns os cs) mr mx _ 0 0 _ else Y)=(if mU (zz3 (vx t ns cs)) mr then zyq (uP t ns a cs) mr mx _ 0 0 _ else Y);rw[Fe (λs D p x=>(Af h ns os m s D p x).A (Af h ns a d s D p x).z) (λs=>(g os s).A (g a s).z)];rfl
def AL{n:Nat}:∀{l:List Int} {e:List Bool},jR n l e=true->e.j=5->l.Nodup/\∀x∈l,0<=x/\x<n/\x<5/\e.g x.D false=false
 |[],_,_,_=>⟨List.nodup_nil,ζ⟩
 |x::r,e,h,p=>by
  unfold jR at h;split at h
  .cases h
  .rename_i s;split at h
   .cases h
   .rename_i k;obtain⟨m,j⟩:=AL h (by simp[p]);have i:x.D<e.j:=η;have g:∀y∈r,y≠x:=by
     rintro y f rfl;have:=(j y f).2.2.2;rw[nG,zb ⟨rfl,i⟩] at this;cases this
    refine⟨jx.2 ⟨λq=>g x q rfl,m⟩,λy f=>?_⟩;rcases zG.1 f with rfl|f
    .exact⟨η,η,η,by simpa using k⟩
    .obtain⟨a,b,c,d⟩:=j y f;have o:¬x.D=y.D:=λq=>g y f η;rw[nG,za (λq=>o q.1)] at d;exact⟨a,b,c,d⟩
def Ny{l:List Int}(N:l.j<=5)(h:rS l=true):ka (yH l) l.j:=by
 obtain⟨E,n⟩:=AL h rfl;have f:∀m,m<=l.j->(∀j (c:j<m) (d:j<l.j),((l.G m).zipIdx.H vO [0,1,2,3,4]).g l[j].D 0=j)/\∀i,(∀j (c:j<m) (d:j<l.j),l[j].D≠i)->((l.G m).zipIdx.H vO [0,1,2,3,4]).g i 0<5:=by
  intro m;induction m with
  |zero=>
   intro _;refine⟨λj c=>η,λi _=>?_⟩;have:=(p6 (k:=5) (zf _)).five i;exact this
  |succ m M=>
   intro P;have s:m<l.j:=η;obtain⟨a,b⟩:=M η;obtain⟨C,L,G,_⟩:=n l[m] (zq s);have B:((l.G m).zipIdx.H vO [0,1,2,3,4]).j=5:=iT (l.G m);rw[F9 s];have H:∀x:Φ,vO x (l[m],m)=x.set l[m].D m:=λx=>by unfold vO;exact zb ⟨C,G⟩
   rw[H];refine⟨λj c d=>?_,λi u=>?_⟩;rw[nG];by_cases r:j=m;subst r;rw[zb ⟨rfl,by rw[B];omega⟩];rw[za,a j η d];intro q;obtain⟨K,_⟩:=n l[j] (zq d);have:l[m]=l[j]:=η;exact r ((List.getElem_inj E).1 this.z);rw[nG];split;omega;exact b i λj c d=>u j η d
 obtain⟨a,b⟩:=f l.j (zf _);rw[uY] at a b;have g:∀i,i<l.j->∃j,∃c:j<l.j,l[j].D=i:=by
  intro i u;by_cases o:∃j,∃c:j<l.j,l[j].D=i;exact o;exfalso;have v:(l.w Int.toNat).Nodup:=by
   refine mX.2 (List.Pairwise.imp_of_mem (λI J w e=>w ?_) E);have Q:=n _ I;have S:=n _ J;omega
  have:=mO (l1:=l.w Int.toNat) (l2:=(List.range l.j).erase i) v (λy F=>by
   obtain⟨z,D,rfl⟩:=zF.1 F;obtain⟨K,R,_⟩:=n z D;obtain⟨j,c,rfl⟩:=vQ.1 D;exact(lN (λq=>o ⟨j,c,q⟩)).2 (qv.2 η))
  rw[xt,nt (qv.2 u),ri] at this;omega
 refine⟨λi=>?_,λi u=>?_,λp A=>?_⟩;by_cases o:∃j,∃c:j<l.j,l[j].D=i;obtain⟨j,c,rfl⟩:=o;have:=a j c c;unfold yH;omega;exact b i λj _ c e=>o ⟨j,c,e⟩;obtain⟨j,c,rfl⟩:=g i u;have:=a j c c;unfold yH;omega;obtain⟨C,L,_⟩:=n l[p] (zq A);exact⟨l[p].D,η,a p A A⟩
def BA(h:vw cs os=true)(j:∀c∈cs,(zx c).j<=5):∀i (f:i<cs.j),ka (yH ((un os i).g [])) (zx cs[i]).j:=by
 intro i f;have a:=j _ (zq f);rcases os with _|l;exact p6 a;unfold vw at h;simp only[uI,beq_iff_eq,gO] at h;have d:i<l.j:=η;have b:=h.2 (cs[i],l[i]) (by
  rw[vQ];exact⟨i,by simp;omega,ζ⟩)
 have e:un (Z l) i=l[i]:=by simp[un,d]
 rw[e];rcases g:l[i] with _|o;exact p6 a;rw[g] at b;simp only[vz,uI,beq_iff_eq] at b;show ka (yH o) _;rw[←b.1];exact Ny η b.2
end
section
variable {r r2:List Tp}
def lq(l:zj):Nat:=if l.k.j=0 then 2 else 2*l.k.j+3
def Vt(c:zc):Nat:=lq c.g+(c.d.w lq).sum
def nD{k:Int}(h:T7 r=k)(a:k≠0):r.j=r.tail.j+1:=by
 rcases r with _|⟨x,r⟩;exact zC h.z a;simp
def FG:∀(r:Δ) {ts:κ} {r2:Δ},yw r=Z (ts,r2)->2*ts.j+r2.j<=r.j+1
 |[],_,_,h=>by simp[yw] at h
 |[x],ts,r2,h=>by
  simp only[yw] at h;split at h<;>simp at h
  obtain⟨rfl,rfl⟩:=h;simp
 |x::y::r,ts,r2,h=>by
  simp only[yw] at h;split at h
  .split at h
   .cases a:yw r with
    |none=>rw[a] at h;simp at h
    |some z=>
     obtain⟨b,c⟩:=z;rw[a] at h;simp at h;have:=FG r a;obtain⟨rfl,rfl⟩:=h;simp;omega
   .simp at h;obtain⟨rfl,rfl⟩:=h;simp;omega
  .simp at h
def oa{a:zj}(h:xx r=Z (a,r2)):lq a+r2.j<=r.j+1:=by
 unfold xx at h;split at h;rename_i b;have:=nD b θ;split at h;rename_i d;have:=nD d θ;split at h;cases h;rename_i f g c;have:=FG _ c;split at h;rename_i e;have:=nD e θ;cases h;unfold lq;dsimp only;split<;>omega
 cases h;cases h;simp[lq];omega;cases h
def Rj{a:zj}(h:uU r=Z (a,r2)):lq a+r2.j<=r.j+1:=by
 unfold uU at h;split at h;rename_i c;have:=nD c θ;rcases b:xx r.tail with _|z;rw[b] at h;simp at h;obtain⟨d,e⟩:=z;rw[b] at h;simp at h;have:=oa b;obtain⟨rfl,rfl⟩:=h;simp only[lq] at this ⊢;omega;exact oa h
def N4{n:Nat}:∀{r r2:Δ} {b:Ω},uh n r=Z (b,r2)->(b.w lq).sum+r2.j<=r.j+1:=by
 induction n with
 |zero=>intro r r2 b h;simp[uh] at h
 |succ n g=>
  intro r r2 b h;rcases c:uU r with _|z;rw[sY c] at h;cases h;obtain⟨a,f⟩:=z;have:=Rj c;by_cases e:T7 f=6;have:=nD e θ;rw[s6 c e] at h;rcases d:uh n f.tail with _|z;rw[d] at h;simp at h;rw[d] at h;simp at h;have:=g d;obtain⟨rfl,rfl⟩:=h;simp only[uq,qt];omega;rw[rB c e] at h;simp at h;obtain⟨rfl,rfl⟩:=h;simp;omega
def OZ{n:Nat}{c:zc}(h:vH n r=Z (c,r2)):Vt c+r2.j<=r.j:=by
 unfold vH at h;split at h;cases h;rename_i a i f;have:=oa f;split at h;rename_i e;have:=nD e θ;split at h;cases h;rename_i b j g;have:=N4 g;split at h;rename_i d;have:=nD d θ;cases h;unfold Vt;dsimp only;omega;cases h;split at h;rename_i d;have:=nD d θ;cases h;simp[Vt];omega;cases h
def Cr{d:Nat}:∀{m:Nat} {r:Δ} {cs:Ξ},yX d m r=Z cs->(cs.w Vt).sum<=r.j
 |_,[],cs,h=>by simp[yX] at h;subst h;simp
 |0,_::_,cs,h=>by simp[yX] at h
 |m+1,x::r,cs,h=>by
  cases b:vH d (x::r) with
  |none=>rw[iL ζ b] at h;cases h
  |some z=>
   obtain⟨c,r2⟩:=z;rw[we ζ b] at h;cases a:yX d m r2 with
   |none=>rw[a] at h;simp at h
   |some e=>
    rw[a] at h;simp at h;subst h;have f:=OZ b;have g:=Cr a;simp only[uq,qt];omega
def D2{s:ByteArray}{cs:Ξ}{t:Ψ}(h:uC s=.ok (cs,t)):(cs.w Vt).sum<=500:=by
 unfold uC at h;split at h;cases h;rename_i d;split at h;cases h;rename_i f c;split at h;cases h;rename_i a b;have e:=Cr b;have g:=ip c;split at h;cases h;split at h;cases h;split at h;split at h;cases h;omega;cases h;cases h
def gA(a:List zj):Nat:=(a.w λl=>l.k.countP zQ).sum
def hZ(b:List zj):Nat:=(b.w λl=>l.k.countP λa=>!zQ a).sum
def BB:∀(b:Ω),(∀l∈b,l.k.j<=3)->3*(gA b+hZ b)<=(b.w lq).sum
 |[],_=>by simp[gA,hZ]
 |l::b,h=>by
  have c:=BB b (λx d=>h x (by simp[d]));have f:=h l ζ;have e:=List.length_eq_countP_add_countP zQ (l:=l.k);have g:3*l.k.j<=lq l:=by unfold lq;split<;>omega
  have i:l.k.countP (λa=>decide ¬zQ a=true)=l.k.countP λa=>!zQ a:=by congr 1;funext a;cases zQ a<;>rfl
  simp only[gA,hZ,uq,qt] at c ⊢;omega
def BR:∀(cs:Ξ),(∀c∈cs,yQ c=false)->3*((cs.w λc=>gA c.d).sum+(cs.w λc=>hZ (zm c)).sum)<=(cs.w Vt).sum
 |[],_=>ζ
 |c::cs,h=>by
  have a:=BR cs (λx d=>h x (by simp[d]));obtain⟨e,_,b,_⟩:=nu (h c ζ);have i:=BB c.d b;have f:=BB [c.g] (by simpa using e);have g:hZ (zm c)=hZ [c.g]+hZ c.d:=by simp[hZ,zm]
  simp only[uq,qt,Vt,g] at a ⊢;simp at f;omega
def CU{α β:Type}(f:α->List β):∀l:List α,(l.flatMap f).j=(l.w λx=>(f x).j).sum
 |[]=>rfl
 |a::l=>ζ
def Ic(cs:Ξ):(zp cs).j<=(cs.w λc=>hZ (zm c)).sum:=by
 obtain⟨g,m⟩:=ff cs;have h:(zp cs).Nodup:=List.Pairwise.imp (fun{a b} q e=>by subst e;rw[Tw] at q;cases q) g;have d:=mO h (l2:=cs.flatMap λc=>(zm c).flatMap λl=>l.k.filter λa=>!zQ a) (λx f=>by
  obtain⟨c,k,l,i,f,j⟩:=(m x).1 f;exact vg.2 ⟨c,k,vg.2 ⟨l,i,xy.2 ⟨f,by simp[j]⟩⟩⟩)
 rw[CU] at d;have e:(λc:zc=>((zm c).flatMap λl=>l.k.filter λa=>!zQ a).j)=λc=>hZ (zm c):=by
  funext c;rw[CU];unfold hZ;congr 2;funext l;rw[tR]
 rw[e] at d;exact d
end
def UA(V:Nat):Nat->Nat
 |0=>0
 |k+1=>V*UA V k+1
def Ip{V:Nat}(b:1<=V):∀(k:Nat) (hs:Φ),hs.j<=k->Uj V hs<=hs.sum*V ^ k+UA V k
 |_,[],_=>by simp[Uj]
 |0,h::r,a=>by simp at a
 |k+1,h::r,a=>by
  have c:=Ip b k r (by simpa using a);have e:V*(h+Uj V r)<=V*(h+(r.sum*V ^ k+UA V k)):=nB _ η;have d:V*(h+(r.sum*V ^ k+UA V k))=V*h+r.sum*(V ^ k*V)+V*UA V k:=by
   rw[Nat.mul_add,Nat.mul_add,Nat.mul_left_comm V,Nat.mul_comm V (V ^ k)];omega
  have f:V*h<=h*(V ^ k*V):=by
   rw[Nat.mul_comm V h];refine nB _ ?_;have:=fK V (Nat.one_le_pow k V b);omega
  simp only[Uj,UA,qt,Nat.pow_succ,mm];omega
def GT{α:Type}(f g:α->Nat):∀a:List α,(a.w λp=>f p+g p).sum=(a.w f).sum+(a.w g).sum
 |[]=>rfl
 |p::a=>by simp[GT f g a];omega
def Gy{α:Type}:∀a:List α,(a.w λ_=>0).sum=0
 |[]=>rfl
 |p::a=>by simp[Gy a]
def C9{α:Type}(q:α->Bool):∀a:List α,(a.w λp=>if q p=true then 1 else 0).sum=a.countP q
 |[]=>rfl
 |p::a=>by simp only[uq,qt,C9 q a,List.countP_cons];omega
def Au(p:Nat):∀(a:List zw) (k:Nat),((a.zipIdx k).filterMap λx=>(xd x.1 p).w λb=>(x.2,b)).j=a.countP λl=>zK l p
 |[],_=>rfl
 |l::a,k=>by
  have:=Au p a (k+1);rw[List.zipIdx_cons,tG,List.countP_cons];simp only[xd];cases c:zK l p<;>simp[xd] at this ⊢<;>omega
def Ht(ps:Φ):∀a:List zw,(ps.w λp=>a.countP λl=>zK l p).sum=(a.w λl=>ps.countP (zK l)).sum
 |[]=>by simp[Gy]
 |l::a=>by
  have c:=Ht ps a;have b:=GT (λp=>a.countP λl=>zK l p) (λp=>if zK l p=true then 1 else 0) ps;simp only[List.countP_cons,uq,qt] at b ⊢;rw[b,c,C9];omega
def OQ(l:zw)(n:Nat):(List.range n).countP (zK l)<=l.v.countP (·.var):=by
 rw[tR,tR];have h:((List.range n).filter (zK l)).Nodup:=List.Nodup.sublist List.filter_sublist List.nodup_range;have:=Bb h (l2:=(l.v.filter (·.var)).w (·.z)) (λx a=>by
  obtain⟨t,b,d,c⟩:=(fH l x).1 (xy.1 a).2;exact zF.2 ⟨t,xy.2 ⟨b,d⟩,c⟩)
 simpa using this
def FY{α:Type}{f g:α->Nat}:∀{ps:List α},(∀p∈ps,f p<=g p)->(ps.w f).sum<=(ps.w g).sum
 |[],_=>zf _
 |p::ps,h=>by
  have b:=FY (ps:=ps) (λx a=>h x (by simp[a]));have c:=h p ζ;simp only[uq,qt];omega
def Lj(r:zu):(Ua r).sum<=(r.qc.w λl=>l.v.countP (·.var)).sum:=by
 have e:Ua r=(List.range r.m).w λp=>r.qc.countP λl=>zK l p:=by
  unfold Ua xz;congr 1;funext p;exact Au p r.qc 0
 rw[e,Ht];exact FY λl _=>OQ l _
def Lp{r:zu}(h:fE r)(d:r.m≠0):1<=(Ua r).sum:=by
 obtain⟨n,b⟩:∃n,r.m=n+1:=⟨r.m-1,η⟩;obtain⟨l,a,c⟩:=h.safe 0 η;have e:(xz r 0).j=r.qc.countP λl=>zK l 0:=Au 0 r.qc 0;have f:0<r.qc.countP λl=>zK l 0:=List.countP_pos_iff.2 ⟨l,a,c⟩;unfold Ua;rw[b,List.range_succ_eq_map,uq,qt];omega
def QA{V:Nat}(b:1<=V){r:zu}(h:fE r)(d:r.qc.j<=6):jw V r<=(Ua r).sum*(6*(V ^ 5+UA V 5)):=by
 unfold jw;by_cases a:r.m=0;simp[Ua,a,Uj];have c:=Lp h a;have f:=Ip b 5 (Ua r) (by simpa [Ua] using h.m);have e:1*UA V 5<=(Ua r).sum*UA V 5:=fK _ c;have g:r.qc.j*Uj V (Ua r)<=6*Uj V (Ua r):=fK _ d;have i:(Ua r).sum*(6*(V ^ 5+UA V 5))=6*((Ua r).sum*V ^ 5+(Ua r).sum*UA V 5):=by rw[Nat.mul_left_comm,Nat.mul_add]
 omega
def JS(t:Ψ)(ns vs:κ)(b:Φ)(l:zj):(zL t ns vs b l).v.countP (·.var)=l.k.countP zQ:=by
 unfold zL ur;simp only[pg,List.countP_map];congr 1;funext a;show(j7 0 _ (uR ns vs b a)).var=zQ a;rw[(pz _ _ _).1];unfold uR;cases zQ a<;>rfl
def MJ{cs:Ξ}{k t:Ψ}(h:T0 cs k t){c:zc}(g:c∈cs)(ns:κ)(o:Option (List Int))(n:ka (yH (o.g [])) (zx c).j){V:Nat}(i:1<=V):Vn (vA t ns c o)/\jw V (vA t ns c o)<=gA c.d*(6*(V ^ 5+UA V 5)):=by
 have d:=(CA h g ns o n).fine;obtain⟨_,q,_,_⟩:=nu (h.many c g);have m:(vA t ns c o).qc.j<=6:=by
  have:(c.d.filter λl=>!l.i).j<=c.d.j:=rA _ _;simp only[vA,xt];omega
 have p:=Lj (vA t ns c o);have r:((vA t ns c o).qc.w λl=>l.v.countP (·.var)).sum<=gA c.d:=by
  simp only[vA,pg];have e:((λl:zw=>l.v.countP (·.var)) ∘ zL t ns (zx c) (yH (o.g [])))=λl:zj=>l.k.countP zQ:=by
   funext l;exact JS t ns _ _ l
  rw[e];unfold gA;generalize c.d=b;induction b with
  |nil=>exact zf _
  |cons a b s=>
   rw[List.filter_cons];split<;>simp only[uq,qt]<;>omega
 refine⟨⟨d.m,λe=>?_⟩,zY (QA i d m) (fK _ η)⟩;by_cases j:(vA t ns c o).m=0;exact j;obtain⟨l,f,_⟩:=d.safe 0 η;rw[e] at f;cases f
def Hy{t:Ψ}{ns:κ}{os:Option (List (Option (List Int)))}{V G:Nat}:∀(xs:List (zc×Nat)),(∀x∈xs,Vn (vA t ns x.1 (un os x.2))/\jw V (vA t ns x.1 (un os x.2))<=gA x.1.d*G)->(∀r∈xs.filterMap (λx=>if x.1.d.j>0 then Z (vA t ns x.1 (un os x.2)) else Y),Vn r)/\((xs.filterMap λx=>if x.1.d.j>0 then Z (vA t ns x.1 (un os x.2)) else Y).w (jw V)).sum<=(xs.w λx=>gA x.1.d).sum*G
 |[],_=>ζ
 |x::xs,h=>by
  obtain⟨b,f⟩:=Hy (t:=t) (ns:=ns) (os:=os) (V:=V) (G:=G) xs (λy d=>h y (by simp[d]));obtain⟨e,g⟩:=h x ζ;rw[tG];simp only[uq,qt,mm];by_cases c:x.1.d.j>0
  .simp only[c,if_true,uq,qt,zG];refine⟨λr a=>?_,η⟩;rcases a with rfl|a
   .exact e
   .exact b r a
  .simp only[c,if_false];exact⟨b,η⟩
def PD:∀v,v<167->1048576*((166-v)*(6*(zM v ^ 5+UA (zM v) 5)))<9223372036854775808:=by decide +kernel
def KS{s:ByteArray}{cs:Ξ}{m t:Ψ}(n:uC s=.ok (cs,t))(h:T0 cs m t)(os:Option (List (Option (List Int))))(o:∀i (u:i<cs.j),ka (yH ((un os i).g [])) (zx cs[i]).j){a mr mx:Nat}(b:mx<=1048576){R:zv}(p:pn a (vf t (zp cs) os cs) mr mx=Z (Z R)):0<=R.jg:=by
 have q:=D2 n;have w:=BR cs h.many;have v:=Ic cs;have j:1<=zM (zp cs).j:=by unfold zM;split<;>omega
 obtain⟨k,f⟩:=Hy (t:=t) (ns:=zp cs) (os:=os) (V:=zM (zp cs).j) (G:=6*(zM (zp cs).j ^ 5+UA (zM (zp cs).j) 5)) cs.zipIdx (λx b=>by
  obtain⟨d,g⟩:=List.mem_zipIdx' b;exact MJ h (by rw[g];exact zq d) _ _ (by rw[g];exact o _ d) j)
 have e:(cs.zipIdx.w λx=>gA x.1.d)=cs.w λc=>gA c.d:=by
  rw[show(λx:zc×Nat=>gA x.1.d)=(λc:zc=>gA c.d) ∘ Prod.fst from rfl,←pg,List.zipIdx_map_fst]
 rw[e] at f;have r:=PD (zp cs).j η;have l:(cs.w λc=>gA c.d).sum*(6*(zM (zp cs).j ^ 5+UA (zM (zp cs).j) 5))<=(166-(zp cs).j)*(6*(zM (zp cs).j ^ 5+UA (zM (zp cs).j) 5)):=fK _ η;refine IM b k ?_ p;have:1048576*((vf t (zp cs) os cs).H.w (jw (zM (vf t (zp cs) os cs).r))).sum<=1048576*((166-(zp cs).j)*(6*(zM (zp cs).j ^ 5+UA (zM (zp cs).j) 5))):=nB _ (zY f l);omega
end Go.Proofs.YteampbddflhngaaGreat
