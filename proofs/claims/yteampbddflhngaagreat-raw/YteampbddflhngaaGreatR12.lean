import Derived.Test.YteampbddflhngaaGreatR03
import Derived.Test.YteampbddflhngaaGreatR07
import Derived.Test.YteampbddflhngaaGreatR08
namespace Go.Proofs.YteampbddflhngaaGreat
open List renaming length→List.j,getD→List.g,take→List.G,map→List.w,toArray→List.F,foldl→List.H
open _root_.Array renaming size→Array.q,getD→Array.g,map→Array.w,foldl→Array.H
open _root_.ByteArray renaming size→ByteArray.q
open Go.RowKit.Below renaming size→Go.RowKit.Below.q,setCell→Go.RowKit.Below.x,mono→Go.RowKit.Below.y,trans→Go.RowKit.Below.A,alloc→Go.RowKit.Below.C
open Go.TypeInfo renaming size→Go.TypeInfo.q
open Go.RowKit.Hid renaming out→Go.RowKit.Hid.l
open Go.Shut renaming out→Go.Shut.l
open Go.World renaming heap→Go.World.o,setCell→Go.World.x,cell?→Go.World.p,alloc→Go.World.C,ownsRow→Go.World.r
open Go.Value renaming slice→Go.Value.k,string→Go.Value.d,bool→Go.Value.i,cells→Go.Value.E,ownBlock→Go.Value.m,pointer→Go.Value.u
open Go.TypeDesc renaming slice→Go.TypeDesc.k,string→Go.TypeDesc.d,bool→Go.TypeDesc.i,pointer→Go.TypeDesc.u
open Option renaming getD→Option.g,map→Option.w,isSome→Option.I,some→Z,none→Y
open Go.Calls renaming mono→Go.Calls.y
open Eq renaming trans→Eq.A,symm→Eq.z
open Iff renaming trans→Iff.A,symm→Iff.z
open Go.Obj renaming cells→Go.Obj.E
open Int renaming toNat→Int.D
open UInt8 renaming toNat→UInt8.D
open Ne renaming symm→Ne.z
open Go.RowKit renaming Hid→X
open Go renaming World→U,Value→O
set_option linter.all false
set_option maxRecDepth 100000
set_option maxHeartbeats 4000000
section
open Go.Proofs.Tryz Go.RowKit
variable {lo:Nat}
def dW(lo:Nat)(w:U)(h:Nat)(vs:κ)(g:List Nat):Prop:=∃a f b e d c,g=[f,b,e,d,c]/\Th w h #[a,ι (f:Nat),ι (b:Nat),ι (e:Nat),ι (d:Nat),ι (c:Nat)] 257/\Tn lo w a vs
def dW.u{w w':U}{b:Nat}{vs:κ}{a:Φ}(h:dW lo w b vs a)(c:μ w w'):dW lo w' b vs a:=by
 obtain⟨d,m,e,k,g,f,j,i,l⟩:=h;exact⟨d,m,e,k,g,f,j,i.u c,l.u c⟩
def uX(vs:κ)(a:List Nat)(n:ByteArray):Nat:=match yA vs n with
 |none=>0
 |some k=>if k≥5 then 0 else a.g k 0
def NB(w:U)(m:Nat)(vs:κ)(s:Φ)(n:ByteArray)(h:dW lo w m vs s)(x:vs.j<=1000):
  Calls prog 201 #[(π m),.d n] w λe o=>e=ε (ι (uX vs s n:Nat))/\o=w:=by
 obtain⟨v,g,b,f,d,c,rfl,p,u⟩:=h;obtain⟨r,B⟩:=p.H;have l:=Tg (Mx w m v vs n (by rw[r];rfl) u x);have j:X (uX vs [g,b,f,d,c] n=match yA vs n with|none=>0|some k=>if k≥5 then 0 else [g,b,f,d,c].g k 0):=rfl;rcases t:yA vs n with _|k
 .rw[t] at l j;go_enter func201,ntmps201;go_wp2_with (go_at_call 200;refine l.l.y ?_;rintro e o ⟨rfl,a⟩;obtain rfl:=a.z)
  go_ret;exact⟨by rw[j.l];rfl,rfl⟩
 rw[t] at l j;simp only[uD,j8] at l j;by_cases A:k<5
 .have q:(k:Int)<5:=η;have i:X (uX vs [g,b,f,d,c] n=[g,b,f,d,c].g k 0):=by rw[X,j.l,za η]
  have y:w.p (ω m (1+k))=Z (ι (([g,b,f,d,c].g k 0:Nat):Int)):=by
   rw[r];obtain rfl|rfl|rfl|rfl|rfl:k=0∨k=1∨k=2∨k=3∨k=4:=η
   all_goals rfl
  generalize [g,b,f,d,c].g k 0=z at *;clear r j;go_enter func201,ntmps201;go_wp2_with (go_at_call 200;refine l.l.y ?_;rintro e o ⟨rfl,a⟩;obtain rfl:=a.z)
  go_ret;exact⟨by rw[i.l];rfl,rfl⟩
 have q:¬(k:Int)<5:=η;have i:X (uX vs [g,b,f,d,c] n=0):=by rw[X,j.l,zb η]
 go_enter func201,ntmps201;go_wp2_with (go_at_call 200;refine l.l.y ?_;rintro e o ⟨rfl,a⟩;obtain rfl:=a.z)
 go_ret;exact⟨by rw[i.l];rfl,rfl⟩
def n7(lo:Nat)(w:U)(b tb o a:Nat)(t:List zf)(ns:κ):Prop:=Th w b #[.u (Z ⟨tb,o,Y⟩),(π a)] 200/\TG lo w tb o t/\mX lo w a ns/\t.j<=1000/\ns.j<=1000
def n7.u{w w':U}{c tb o b:Nat}{t:Ψ}{ns:κ}(h:n7 lo w c tb o b t ns)(a:μ w w'):n7 lo w' c tb o b t ns:=⟨h.1.u a,h.2.1.u a,h.2.2.1.u a,h.2.2.2⟩
def uR(ns vs:κ)(a:List Nat)(t:ByteArray):yi:=if zT t then⟨true,uX vs a t,0⟩ else⟨false,(xr ns t).g 0,0⟩
def QA{l:Nat}(w:U)(B tb o C s:Nat)(t:Ψ)(ns vs:κ)(c:Φ)(x:ByteArray)(h:n7 lo w B tb o C t ns)(hs:dW l w s vs c)(F:vs.j<=1000):
  Calls prog 186 #[(π B),.d x,(π s)] w λe b=>e=ε (rn (uR ns vs c x))/\μ w b:=by
 obtain⟨n,_,q,_,j⟩:=h;obtain⟨L,K,J⟩:=n.e;have G:=Tg λW u=>NB W s vs c x (hs.u u) F;have H:=Tg λW u=>RS W C ns x (q.u u) j;have i:=Th.new w #[.i false,ι 0,ι 0] 284;cases g:zT x
 .have z:X (∀W,Calls prog 156 #[.d x] W λe b=>e=ε (.i false)/\b=W):=λW=>by rw[←g];exact lX x W
  have A:X (uR ns vs c x=⟨false,(xr ns x).g 0,0⟩):=by rw[X,uR,g];rfl
  generalize (xr ns x).g 0=p at *;go_enter func186,ntmps186;go_wp2_with (first|(go_at_call 156;refine(z.l _).y ?_;rintro e b ⟨rfl,a⟩;obtain rfl:=a.z)|(go_at_call 129;refine(H.l _ γ).y ?_;rintro e D ⟨rfl,m,f⟩;have d:Below (w.C (.E #[.i false,ι 0,ι 0] 284)).o.q (w.C (.E #[.i false,ι 0,ι 0] 284)) D:=(by rw[f];exact zI (zn _ _) m);have k:=i.u d;obtain⟨r,E,I⟩:=k.e;have y:μ w D:=(zQ γ d (zg _));clear f))
  (try simp only[Exit.inBlock,Exit.then])
  exact zO (v:=.agg #[.i false,ι p,ι 0]) (by simp[results,results186,go_sem,r]) rfl ⟨by rw[A.l];rfl,((y.x ζ _).x ζ _).x ζ _⟩
 have z:X (∀W,Calls prog 156 #[.d x] W λe b=>e=ε (.i true)/\b=W):=λW=>by rw[←g];exact lX x W
 have A:X (uR ns vs c x=⟨true,uX vs c x,0⟩):=by rw[X,uR,g];rfl
 generalize uX vs c x=p at *;go_enter func186,ntmps186;go_wp2_with (first|(go_at_call 156;refine(z.l _).y ?_;rintro e b ⟨rfl,a⟩;obtain rfl:=a.z)|(go_at_call 201;refine(G.l _ γ).y ?_;rintro e b ⟨rfl,a⟩;obtain rfl:=a.z))
 (try simp only[Exit.inBlock,Exit.then])
 exact zO (v:=.agg #[.i true,ι p,ι 0]) (by simp[results,results186,go_sem]) rfl ⟨by rw[A.l];rfl,γ⟩
end
section
open Go.Proofs.Tryz Go.RowKit
variable {lo:Nat}{ts':List yi}
def SN:(prog.info? 284).w (λi=>(i.zero,i.q,i.bytes))=Z (Z (.agg #[.i false,ι 0,ι 0]),3,24):=χ
def jH(p:Nat)(ts:List yi)(t:yi):yi:=if t.var then{t with w:=(xh ⟨p,ts⟩ t.z).g 0} else t
def ut(ns vs:κ)(a:List Nat)(l:zj):List yi:=l.k.w (uR ns vs a)
def zL(t:List zf)(ns vs:κ)(a:List Nat)(l:zj):zw:=⟨zC t l.o,(ut ns vs a l).w (jH 0 (ut ns vs a l))⟩
def lg(t:yi):Bool×Nat:=(t.var,t.z)
def NP{ts:List yi}(h:ts.w lg=ts'.w lg)(p a q:Nat):zK ⟨p,ts⟩ q=zK ⟨a,ts'⟩ q:=by
 have e:∀l:List yi,(l.any λt=>t.var&&t.z == q)=(l.w lg).any λx=>x.1&&x.2 == q:=λl=>by
  rw[List.any_map];rfl
 simp only[zK];rw[e,e,h]
def NN{ts:List yi}(h:ts.w lg=ts'.w lg)(p a q:Nat):xh ⟨p,ts⟩ q=xh ⟨a,ts'⟩ q:=by
 unfold xh;have:zK ⟨p,ts⟩=zK ⟨a,ts'⟩:=funext (NP h p a);rw[this]
def PA(p:Nat)(ts:List yi)(t:yi):lg (jH p ts t)=lg t:=by
 unfold jH;split<;>rfl
def vM(ts:List yi)(k:Nat):List yi:=(ts.G k).w (jH 0 ts)++ts.drop k
def D9(ts:List yi)(k:Nat):(vM ts k).w lg=ts.w lg:=by
 unfold vM;rw[qF,nA,List.map_drop,show(lg ∘ jH 0 ts)=lg from funext (PA 0 ts),tB,kj]
def MZ(ts:List yi)(k:Nat):(vM ts k).j=ts.j:=by
 have:=congrArg List.length (D9 ts k);simpa using this
def Jv(ts:List yi)(k:Nat)(a:k<ts.j):(vM ts k)[k]?=Z ts[k]:=by
 unfold vM;rw[ff υ,xu,vc,gV η,jC,List.getElem?_drop];simp[a]
def L6(ts:List yi)(k:Nat)(a:k<ts.j):(vM ts k).set k (jH 0 ts ts[k])=vM ts (k+1):=by
 unfold vM;rw[l0 _ _ υ,xu,vc,gV η,jC,xn a,pF,yM a,qF,kO];rfl
def Pd(ts:List yi):vM ts 0=ts:=by simp[vM]
def Cy(ts:List yi):vM ts ts.j=ts.w (jH 0 ts):=by simp[vM]
def I6{l:zw}{q:Nat}(a:q<=1000000):(xh l q).g 0<=1000000:=by
 unfold xh;split;have:=tu (p:=zK l) (l:=List.range q);simp at this ⊢;omega;simp
def Nw(ns:κ)(x:ByteArray):(xr ns x).g 0<=ns.j:=by
 unfold xr;split;simp;omega;simp
def Sg(vs:κ)(a:Φ)(n:ByteArray)(h:∀x∈a,x<=1000):uX vs a n<=1000:=by
 unfold uX;split;omega;split;omega;rename_i k _ _;by_cases b:k<a.j;rw[kL,yn b];exact h _ (zq b);rw[kL,gL η];simp
def K4(ns vs:κ)(a:Φ)(x:ByteArray)(h:∀y∈a,y<=1000)(b:ns.j<=1000):(uR ns vs a x).z<=1000/\(uR ns vs a x).w=0:=by
 unfold uR;split;exact⟨Sg vs a x h,rfl⟩;have:=Nw ns x;exact⟨by simp only;omega,rfl⟩
def BT{α:Type}{l:List α}{k:Nat}{x:α}(h:l[k]?=Z x):l.set k x=l:=by
 obtain⟨a,e⟩:=j5.1 h;rw[←e];exact ic a
def P4(ts:List yi)(k:Nat)(t:yi)(b:Nat)(h:ts[k]?=Z t):(T3 (ts.w kE)).set (k*3+2) (ι b)=T3 ((ts.set k {t with w:=b}).w kE):=by
 obtain⟨f,e⟩:=j5.1 h;have a:k<(ts.w kE).j:=by simpa using f
 have q:=BY (ts.w kE) k a (.i t.var) (ι t.z) (ι b);obtain⟨c,d,_⟩:=iL (ts.w kE) k a;simp only[ub,e,kE] at c d;rw[BT c,BT d] at q;rw[q,lx];rfl
def fP(ts:List yi)(k:Nat):List yi:=ts.G k++List.replicate (ts.j-k) ⟨false,0,0⟩
def OB(ts:List yi)(k:Nat)(a:k<=ts.j):(fP ts k).j=ts.j:=by simp[fP];omega
def KH(ts:List yi)(k:Nat)(b:k<ts.j):(fP ts k).set k ts[k]=fP ts (k+1):=by
 unfold fP;obtain⟨m,a⟩:∃m,ts.j-k=m+1:=⟨ts.j-k-1,η⟩;rw[l0 _ _ υ,vc,gV η,jC,a,sq,pF,show ts.j-(k+1)=m from by omega,yM b,kO];rfl
def RB(ts:List yi):fP ts ts.j=ts:=by simp[fP]
def En(ts:List yi)(k:Nat)(h:∀x∈ts,x.z<=1000/\x.w=0):∀x∈vM ts k,x.z<=1000000/\x.w<=1000000:=by
 intro x a;unfold vM at a;rw[ya] at a;rcases a with a|a;rw[zF] at a;obtain⟨y,b,rfl⟩:=a;have:=h y (gH b);unfold jH;split;exact⟨by simp only;omega,I6 η⟩;omega;have:=h x (fg a);omega
def BA{w:U}{d:Nat}{e:TypeId}{g n cap m:Nat}{f:List (O×O×O)}(h:w.r d e 3 (.k (Z (δ g)) n cap) m (T3 f))(k:Nat)(i:k<f.j):
  ∃a b c,g<w.o.q/\w.p (ω g (k*3))=Z a/\w.p (ω g (k*3+1))=Z b/\w.p (ω g (k*3+2))=Z c:=⟨_,_,_,e9 h k i⟩
def Fj{az a9:Nat}(w:U)(mb tb o cb sb:Nat)(t:Ψ)(ns vs:κ)(u:Φ)(l:zj)(va:O)(h:n7 lo w mb tb o cb t ns)(hs:dW az w sb vs u)(hl:vs.j<=1000)(aI:∀y∈u,y<=1000)(ha:Tn a9 w va l.k)(aq:l.k.j<=1000):
  Calls prog 160 #[(π mb),.agg #[.i l.i,.d l.o,va],(π sb)] w λe N=>∃tv,e=ε (.agg #[ι (zC t l.o:Nat),tv])/\yu w.o.q N tv (zL t ns vs u l).v/\μ w N:=by
 obtain⟨i0,hi,a2,aH,ay⟩:=info_parts SN;obtain⟨ao,z,rfl⟩:=ha.qy;have am:=λW:U=>run_make (P:=prog) (w:=W) 202 284 i0 _ underlying202 hi a2 .i64 .i64 (l.k.j:Int) (l.k.j:Int) η (Int.le_refl _) (by rw[ay];omega) η;rw[aH] at am;have HF:=Tg λW M=>ek lo W tb o t l.o (h.2.1.u M) h.2.2.2.1;have HT:=Tg λW x M=>QA W mb tb o cb sb t ns vs u x (h.u M) (hs.u M) hl;have af:X (∀x∈ut ns vs u l,x.z<=1000/\x.w=0):=λx hx=>by
  simp only[ut,zF] at hx;obtain⟨y,_,rfl⟩:=hx;exact K4 ns vs u y aI h.2.2.2.2
 have HE:X ((zL t ns vs u l).v=(ut ns vs u l).w (jH 0 (ut ns vs u l))):=rfl;have n:(ut ns vs u l).j=l.k.j:=by simp[ut]
 have aj:X (∀k (hk:k<l.k.j) (a5:k<(ut ns vs u l).j),uR ns vs u l.k[k]=(ut ns vs u l)[k]):=λk hk a5=>by simp[ut]
 obtain⟨ar,aC,aR⟩:=h.1.e;have a1:w.p ⟨mb,0,Y⟩=Z (.u (Z ⟨tb,o,Y⟩)):=by rw[ar];rfl
 clear h hs ar;generalize ut ns vs u l=b at *;generalize zC t l.o=G at *;generalize (zU t l.o).I=fb at *;go_enter func160,ntmps160;go_upto_region 1 with fail
 go_quiet ((go_at_call 77;exact Calls.quiet_of_same (HF.l _ φ)))
 go_upto_region 4 with fail
 have a:=zy (M0 ((((w.C (.E #[.i l.i,.d l.o,.k ao l.k.j z] 90)).C (.E #[ι 0,ν] 204)).drewN nq)) l.k.j 284 (.i false) (ι 0) (ι 0) b_) ((zn _ _).C (zg _) (.E #[ι G,.k (Z ⟨w.o.q+1+1,0,Y⟩) l.k.j l.k.j] 204));have c:=Th.new ((((w.C (.E #[.i l.i,.d l.o,.k ao l.k.j z] 90)).C (.E #[ι 0,ν] 204)).drewN nq).C (.E (madeCells #[.i false,ι 0,ι 0] (l.k.j*3)) 284)) #[ι G,.k (Z ⟨w.o.q+1+1,0,Y⟩) l.k.j l.k.j] 204;have d:=(((Th.new (w.C (.E #[.i l.i,.d l.o,.k ao l.k.j z] 90)) #[ι 0,ν] 204).u (zI (zn _ _) nq)).u ((zn _ _).C (zg _) (.E (madeCells #[.i false,ι 0,ι 0] (l.k.j*3)) 284))).u ((zn _ _).C (zg _) (.E #[ι G,.k (Z ⟨w.o.q+1+1,0,Y⟩) l.k.j l.k.j] 204));have ab:μ w (((((w.C (.E #[.i l.i,.d l.o,.k ao l.k.j z] 90)).C (.E #[ι 0,ν] 204)).drewN nq).C (.E (madeCells #[.i false,ι 0,ι 0] (l.k.j*3)) 284)).C (.E #[ι G,.k (Z ⟨w.o.q+1+1,0,Y⟩) l.k.j l.k.j] 204)):=φ;have L:(((w.C (.E #[.i l.i,.d l.o,.k ao l.k.j z] 90)).C (.E #[ι 0,ν] 204)).drewN nq).o.q=w.o.q+1+1:=ζ;simp only[U.size_alloc,L] at a c d;clear L;generalize ((((w.C (.E #[.i l.i,.d l.o,.k ao l.k.j z] 90)).C (.E #[ι 0,ν] 204)).drewN nq).C (.E (madeCells #[.i false,ι 0,ι 0] (l.k.j*3)) 284)).C (.E #[ι G,.k (Z ⟨w.o.q+1+1,0,Y⟩) l.k.j l.k.j] 204)=w3 at *;have a7:=ab.q;have H0:X (T3 (List.replicate l.k.j (O.bool false,O.int .i64 0,O.int .i64 0))=T3 ((fP b 0).w kE)):=by
  rw[X,fP,List.take_zero,rj,Nat.sub_zero,n,List.map_replicate];rfl
 rw[H0.l] at a;clear H0 am a1 aC HF;have a:=yo a (show w.o.q<=w.o.q+1+1 by omega);go_loopw [35] (λaE wr=>∃k:Nat,k<=l.k.j/\aE=ι k/\Th wr (w.o.q+1+1+1) #[ι G,.k (Z ⟨w.o.q+1+1,0,Y⟩) l.k.j l.k.j] 204/\Th wr (w.o.q+1) #[ι 0,ν] 204/\wr.r w.o.q 284 3 (.k (Z ⟨w.o.q+1+1,0,Y⟩) l.k.j l.k.j) l.k.j (T3 ((fP b k).w kE))/\μ w wr) (λi _=>l.k.j-(intOf i).D);exact⟨0,zs _,rfl,c,d,a,ab⟩;clear a c d;obtain⟨k,hk,rfl,c,d,a,m⟩:=hrel;have J:=m.q;by_cases p:k<l.k.j
 .obtain⟨g,rfl,hg,C⟩:=ha.cell k p;have aU:=zi m hg C;have aQ:g<wr.o.q:=η;have s:=Tg (KH b k η);have a0:=Tg (aj.l k p η);have aP:=OB b k η;obtain⟨e0,e1,e2,a3,E,ad,ac⟩:=BA a k υ;have aB:=vg a;obtain⟨B,H,I⟩:=c.e;have aN:wr.p ⟨w.o.q+1+1+1,1,Y⟩=Z (.k (Z ⟨w.o.q+1+1,0,Y⟩) l.k.j l.k.j):=by rw[B];rfl
  clear C;have aw:X (∀W,μ wr W->Calls prog 186 #[(π mb),.d l.k[k],(π sb)] W λe N=>e=ε (.agg #[.i b[k].var,ι (b[k].z:Nat),ι (b[k].w:Nat)])/\μ W N):=λW M=>by
   have q:=HT.l W l.k[k] (Tk m M);rw[a0.l] at q;exact q
  generalize b[k]=tk at *;generalize l.k[k]=x at *;generalize (fP b k)=lk at *;go_wp2;go_region_held3 (λN=>N.p ⟨w.o.q+1+1+1,1,Y⟩=Z (.k (Z ⟨w.o.q+1+1,0,Y⟩) l.k.j l.k.j)) (first|go_keep|(go_simp;done)) (first|(go_at_call 186;refine(aw.l _ φ).y ?_;rintro e R ⟨rfl,Q⟩;have j:μ wr R:=(zQ φ Q (zg _));have F:=c.u j;have V:=d.u j;have r:=zy a j;obtain⟨al,ah,au⟩:=F.e;obtain⟨f0,f1,f2,a8,aA,aF,a4⟩:=BA r k υ;have av:=vg r;have a6:=j.q))
  have f:=Sk r k υ (.i tk.var) (ι tk.z) (ι tk.w);have HM:(lk.w kE).set k (.i tk.var,ι tk.z,ι tk.w)=(fP b (k+1)).w kE:=by rw[←s.l,lx];rfl
  rw[HM] at f;have ae:=((F.set_ne (show w.o.q+1+1+1≠w.o.q+1+1 by omega) (k*3) (.i tk.var)).set_ne (show w.o.q+1+1+1≠w.o.q+1+1 by omega) (k*3+1) (ι tk.z)).set_ne (show w.o.q+1+1+1≠w.o.q+1+1 by omega) (k*3+2) (ι tk.w);have ag:=((V.set_ne (show w.o.q+1≠w.o.q+1+1 by omega) (k*3) (.i tk.var)).set_ne (show w.o.q+1≠w.o.q+1+1 by omega) (k*3+1) (ι tk.z)).set_ne (show w.o.q+1≠w.o.q+1+1 by omega) (k*3+2) (ι tk.w);have T:μ w (((R.x ⟨w.o.q+1+1,k*3,Y⟩ (.i tk.var)).x ⟨w.o.q+1+1,k*3+1,Y⟩ (ι tk.z)).x ⟨w.o.q+1+1,k*3+2,Y⟩ (ι tk.w)):=(((Tk m j).x υ _).x υ _).x υ _;generalize ((R.x ⟨w.o.q+1+1,k*3,Y⟩ (.i tk.var)).x ⟨w.o.q+1+1,k*3+1,Y⟩ (ι tk.z)).x ⟨w.o.q+1+1,k*3+2,Y⟩ (ι tk.w)=w5 at *;go_wp2;go_roundw;exact⟨k+1,η,ξ,ae,ag,f,T⟩;simp[intOf];omega
 obtain rfl:k=l.k.j:=η;rw[←n,RB] at a;rw[←n] at c;clear p hk;obtain⟨B,H,I⟩:=c.e;go_wp2;clear B H I;rw[←n] at aq ⊢;clear ab a7 HT aj n;go_loopw [52] (λaD wr=>∃k:Nat,k<=b.j/\aD=ι k/\Th wr (w.o.q+1+1+1) #[ι G,.k (Z ⟨w.o.q+1+1,0,Y⟩) b.j b.j] 204/\Th wr (w.o.q+1) #[ι 0,ν] 204/\wr.r w.o.q 284 3 (.k (Z ⟨w.o.q+1+1,0,Y⟩) b.j b.j) b.j (T3 ((vM b k).w kE))/\μ w wr) (λi _=>b.j-(intOf i).D);exact⟨0,zs _,rfl,c,d,by rw[Pd];exact a,m⟩;clear a c d m J;obtain⟨k,hk,rfl,c,d,a,m⟩:=hrel;have J:=m.q;by_cases p:k<b.j
 .have ax:=MZ b k;have D:=Tg (Jv b k p);have s:=Tg (L6 b k p);have ak:X (xh ⟨G,vM b k⟩ b[k].z=xh ⟨0,b⟩ b[k].z):=NN (D9 b k) _ _ _;have A:X (jH 0 b b[k]=if b[k].var then{b[k] with w:=(xh ⟨0,b⟩ b[k].z).g 0} else b[k]):=rfl;have K:=En b k af.l;have aM:=(af.l b[k] (zq p)).1;obtain⟨a3,E,ad,ac⟩:=e9 a k υ;have ap:k<(vM b k).j:=η;have an:(vM b k)[k]=b[k]:=by have q:=D.l;rw[yn ap] at q;simpa using q
  simp only[ub,an,kE] at E ad ac;have aB:=vg a;obtain⟨B,H,I⟩:=c.e;have ai:X (yu w.o.q wr (.k (Z ⟨w.o.q+1+1,0,Y⟩) b.j b.j) (vM b k)):=⟨by rw[ax];exact a,η,K⟩;have aL:X (∀W,μ wr W->Calls prog 187 #[.agg #[ι G,.k (Z ⟨w.o.q+1+1,0,Y⟩) b.j b.j],ι (b[k].z:Nat)] W λe N=>e=ε (.tuple #[ι (((xh ⟨0,b⟩ b[k].z).g 0:Nat):Int),.i (xh ⟨0,b⟩ b[k].z).I])/\μ W N):=λW M=>by
   have q:=Dk W _ G b[k].z (vM b k) (ai.l.u M) η;rw[ak.l] at q;exact q
  clear ap an ak K ai;generalize b[k]=tk at *;generalize vM b k=aa at *;generalize (xh ⟨0,b⟩ tk.z).g 0=S at *;generalize (xh ⟨0,b⟩ tk.z).I=lb at *;cases hv:tk.var
  .rw[hv] at E A;simp only[gR,if_false] at A;go_wp2;have aG:X (aa=vM b (k+1)):=by
    rw[X,←s.l,A.l];exact(BT D.l).z
   go_roundw;exact⟨k+1,η,ξ,c.u φ,d.u φ,by rw[←aG.l];exact zy a φ,zQ m φ (zg _)⟩;simp[intOf];omega
  rw[hv] at E A;simp only[if_true] at A;have aS:wr.o.q≠w.o.q+1+1:=η;go_upto_region 13 with (first|(go_at_call 187;refine(aL.l _ φ).y ?_;rintro e R ⟨rfl,Q⟩;have j:μ wr R:=(zQ φ Q (zg _));have F:=c.u j;have V:=d.u j;have r:=zy a j;obtain⟨al,ah,au⟩:=F.e;obtain⟨f0,f1,f2,a8,aA,aF,a4⟩:=BA r k υ;have av:=vg r;have a6:=j.q))
  have f:=uB r (k*3+2) (by rw[tY];simp;omega) (ι S);have ae:=F.set_ne (show w.o.q+1+1+1≠w.o.q+1+1 by omega) (k*3+2) (ι S);have ag:=V.set_ne (show w.o.q+1≠w.o.q+1+1 by omega) (k*3+2) (ι S);have T:μ w (R.x ⟨w.o.q+1+1,k*3+2,Y⟩ (ι S)):=((Tk m j).x υ _);have HM:X ((T3 (aa.w kE)).set (k*3+2) (ι S)=T3 ((vM b (k+1)).w kE)):=by
   rw[X,←s.l,A.l];exact P4 aa k tk S D.l
  rw[HM.l] at f;clear E ad ac;go_wp2;generalize R.x ⟨w.o.q+1+1,k*3+2,Y⟩ (ι S)=w5 at *;go_roundw;exact⟨k+1,η,ξ,ae,ag,f,T⟩;simp[intOf];omega
 obtain rfl:k=b.j:=η;rw[Cy] at a;obtain⟨B,H,I⟩:=c.e;obtain⟨aK,aT,aO⟩:=d.e;have aJ:X (∀x∈b.w (jH 0 b),x.z<=1000000/\x.w<=1000000):=by rw[←Cy];exact En b _ af.l
 go_wp2
 (try simp only[Exit.inBlock,Exit.then])
 refine zO (v:=.agg #[ι G,.k (Z ⟨w.o.q+1+1,0,Y⟩) b.j b.j]) (by simp[results,results160,go_sem,aK]) rfl ⟨_,rfl,?_,(m.x ζ _).x ζ _⟩;rw[HE.l];refine⟨?_,by simpa using aq,aJ.l⟩;rw[xu];exact xL a (((Tu.refl (w.o.q+1) wr).x 0 _).x 1 _) d θ
end
section
open Go.Proofs.Tryz Go.RowKit
variable {lo:Nat}
def vN(a:List Nat)(x:Int×Nat):List Nat:=if 0<=x.1/\x.1<5 then a.set x.1.D x.2 else a
def yL(os:List Int):List Nat:=os.zipIdx.H vN [0,1,2,3,4]
def Mn(a:Φ)(x:Int×Nat):(vN a x).j=a.j:=by unfold vN;split<;>simp
def eF(os:List Int):(yL os).j=5:=by
 have:∀(l:List (Int×Nat)) (a:Φ),(l.H vN a).j=a.j:=by
  intro l;induction l with
  |nil=>intro a;rfl
  |cons x l b=>intro a;rw[uG,b,Mn]
 exact this _ _
def DL{os:List Int}{k:Nat}(a:k<os.j):(os.G (k+1)).zipIdx.H vN [0,1,2,3,4]=vN ((os.G k).zipIdx.H vN [0,1,2,3,4]) (os[k],k):=by
 rw[yM a,List.zipIdx_append,qZ];simp only[List.zipIdx_singleton,vc,vx,uG,List.foldl_nil];rw[gV η]
def kH(b:O)(a:List Nat):List Value:=b::a.map TN
def Gs(b:O)(a:Φ)(k x:Nat):(kH b a).F.setIfInBounds (1+k) (ι x)=(kH b (a.set k x)).F:=by
 rw[Nat.add_comm];simp[kH,List.map_set,TN]
def mV(k:Nat):List Nat:=(List.range 5).map λi=>if i<k then i else 0
def Jy(k:Nat)(a:k<5):(mV k).set k k=mV (k+1):=by
 obtain rfl|rfl|rfl|rfl|rfl:k=0∨k=1∨k=2∨k=3∨k=4:=η
 all_goals rfl
def G4{w:U}{a:Nat}{d:O}{b:Φ}(e:b.j=5)(h:Th w a (kH d b).F 257):a<w.o.q/\(∀o,w.frozen? (ω a o)=false)/\∀k,k<5->∃x:Nat,w.p (ω a (1+k))=Z (ι (x:Nat)):=by
 obtain⟨f,c⟩:=h.H;refine⟨h.lt,c,λk g=>⟨b[k]'η,?_⟩⟩;rw[f,Nat.add_comm];simp[kH,e,g,TN]
def So(w:U)(vs:κ)(b:List Nat)(e:Ending)(w':U):Prop:=∃a,e=ε (.agg (kH a b).F)/\Tn w.o.q w' a vs/\μ w w'
def Of(w:U)(c:zc)(va vb ov:O)(o:Option (List Int))(hs:Tn lo w va c.g.k)(hb:TL lo w vb c.d)(hl:c.g.k.j+xj c.d<=1000)(K:c.d.j<=1000)(ho:xV w ov o)(am:(o.g []).j<=1000):
  Calls prog 158 #[.agg #[.i c.g.i,.d c.g.o,va,vb],ov] w λe w'=>So w (zx c) (yL (o.g [])) e w':=by
 obtain⟨ao,ab,rfl⟩:=hs.qy;obtain⟨ad,Q,rfl⟩:=hb.qy;obtain⟨al,ah,rfl⟩:=ho.qy;have HP:=Tg λW hW=>Bc W c _ _ (hs.u hW) (hb.u hW) hl K;have HO:=Tg ho;clear hs hb hl K ho;go_enter func158,ntmps158;go_upto_region 2 with (first|(go_at_call 148;refine(HP.l _ γ).y ?_;rintro e u ⟨D,rfl,t,E⟩;obtain⟨l,b,rfl⟩:=zr t))
 have F:μ w u:=zQ γ E (zg _);have aj:=F.q;have N:Tn w.o.q u (.k l (zx c).j b) (zx c):=yo t υ;have A:=(Th.new (w.C (.E #[.i c.g.i,.d c.g.o,.k ao c.g.k.j ab,.k ad c.d.j Q] 171)) #[ν,ι 0,ι 0,ι 0,ι 0,ι 0] 257).u E;rw[U.size_alloc] at A;have an:=A.lt;have a:=Th.new u (kH (.k l (zx c).j b) (mV 0)).F 257;have z:μ u (u.C (.E (kH (.k l (zx c).j b) (mV 0)).F 257)):=γ;have j:=N.u z;have h:=A.u z;have d:=Tk F z;rw[show(kH (.k l (zx c).j b) (mV 0)).F=#[.k l (zx c).j b,ι 0,ι 0,ι 0,ι 0,ι 0] from rfl] at j h d;rw[show(u.C (.E (kH (.k l (zx c).j b) (mV 0)).F 257))=(u.C (.E #[.k l (zx c).j b,ι 0,ι 0,ι 0,ι 0,ι 0] 257)) from rfl] at a;clear t E A N HP z;generalize G:zx c=vs at *;have ac:=Tg G;clear G;generalize B:O.slice l vs.j b=D at *;generalize u.C (.E #[D,ι 0,ι 0,ι 0,ι 0,ι 0] 257)=w2 at *;generalize u.o.q=sb at *;clear F u;have ag:=Tg B;clear B;go_wp2;go_loopw [12] (λT wr=>∃k:Nat,k<=5/\T=ι k/\Th wr sb (kH D (mV k)).F 257/\Th wr (w.o.q+1) #[ν,ι 0,ι 0,ι 0,ι 0,ι 0] 257/\Tn w.o.q wr D vs/\μ w wr) (λi _=>5-(intOf i).D);exact⟨0,η,rfl,a,h,j,d⟩;clear a h j d;obtain⟨k,hk,rfl,a,h,j,d⟩:=hrel;have M:=d.q;by_cases s:k<5
 .have ai:(k:Int)<5:=η;obtain⟨L,I,r⟩:=G4 (by simp[mV]) a;obtain⟨x,hx⟩:=r k s;have m:=a.set (1+k) (ι k);rw[Gs,Jy k s] at m;clear r;go_wp2;go_roundw;exact⟨k+1,η,ξ,m,h.set_ne η _ _,xL j ((Tu.refl _ _).x _ _) a θ,d.x υ _⟩;simp[intOf];omega
 obtain rfl:k=5:=η;clear hk s;have HF:X (mV 5=((o.g []).G 0).zipIdx.H vN [0,1,2,3,4]):=rfl;rw[HF.l] at a;clear HF;go_wp2;go_loopw [22] (λaf wr=>∃k:Nat,k<=(o.g []).j/\af=ι k/\Th wr sb (kH D (((o.g []).G k).zipIdx.H vN [0,1,2,3,4])).F 257/\Th wr (w.o.q+1) #[ν,ι 0,ι 0,ι 0,ι 0,ι 0] 257/\Tn w.o.q wr D vs/\μ w wr) (λi _=>(o.g []).j-(intOf i).D);exact⟨0,η,rfl,a,h,j,d⟩;clear a h j d M;obtain⟨k,hk,rfl,a,h,j,d⟩:=hrel;have M:=d.q;have H:(((o.g []).G k).zipIdx.H vN [0,1,2,3,4]).j=5:=eF _;by_cases s:k<(o.g []).j
 .obtain⟨g,f,rfl,hg,hc⟩:=HO.l.cell k s;have aq:=zi d hg hc;have z:g<wr.o.q:=η;have C:=Tg (DL s);clear hc;generalize (o.g [])[k]=x at *;generalize ((o.g []).G k).zipIdx.H vN [0,1,2,3,4]=pl at *;by_cases p:0<=x/\x<5
  .obtain⟨n,rfl⟩:=Int.eq_ofNat_of_zero_le p.1;have ar:=p.2;have hn:n<5:=η;obtain⟨L,I,r⟩:=G4 H a;obtain⟨y,hy⟩:=r n hn;have m:=a.set (1+n) (ι k);rw[Gs] at m;have q:X (((o.g []).G (k+1)).zipIdx.H vN [0,1,2,3,4]=pl.set n k):=by rw[X,C.l,vN,zb p];rfl
   clear r C p;go_wp2;go_roundw;exact⟨k+1,η,ξ,by rw[q.l];exact m,h.set_ne η _ _,xL j ((Tu.refl _ _).x _ _) a θ,d.x υ _⟩;simp[intOf];omega
  have q:X (((o.g []).G (k+1)).zipIdx.H vN [0,1,2,3,4]=pl):=by rw[X,C.l,vN,za p]
  clear C;rcases Int.lt_or_le x 0 with h0|h0
  .clear p;go_wp2;exact⟨⟨_,_,_,⟨k+1,η,ξ,by rw[q.l];exact a⟩,rfl,rfl,rfl⟩,by simp[intOf];omega⟩
  have h5:5<=x:=η;clear p;go_wp2;go_roundw;exact⟨k+1,η,ξ,by rw[q.l];exact a,h,j,d⟩;simp[intOf];omega
 have P:X (((o.g []).G k).zipIdx.H vN [0,1,2,3,4]=yL (o.g [])):=by rw[X,yV η];rfl
 rw[P.l] at a;have H5:=eF (o.g []);generalize J:yL (o.g [])=pl at *;obtain⟨p0,R,p2,V,S,rfl⟩:=five H5;have aa:=Tg J;clear J;rw[show(kH D [p0,R,p2,V,S]).F=#[D,ι p0,ι R,ι p2,ι V,ι S] from rfl] at a;obtain⟨r,I,L⟩:=a.e;obtain⟨ae,ak,ap⟩:=h.e;have B:=ag.l;subst B;clear H H5 P;go_wp2
 (try simp only[Exit.inBlock,Exit.then])
 refine zO (v:=.agg (kH (.k l vs.j b) [p0,R,p2,V,S]).F) (by simp[results,results158,go_sem,ae,kH,TN]) rfl ⟨_,by rw[aa.l],?_,?_⟩;rw[ac.l];exact xL j ψ h θ;exact(((((d.x ζ _).x ζ _).x ζ _).x ζ _).x ζ _).x ζ _
def uo(os:Option (List (Option (List Int))))(k:Nat):Option (List Int):=(os.g []).g k Y
def Ji(w:U)(c:O)(os:Option (List (Option (List Int))))(k:Nat)(h:jU w c os)(m:(os.g []).j<=2000000):
  Calls prog 116 #[c,ι k] w λe i=>∃u,e=.returned u/\xV w u (uo os k)/\i=w:=by
 obtain⟨p,d,rfl⟩:=h.qy;by_cases a:k<(os.g []).j
 .obtain⟨g,f,u,rfl,n,o,l⟩:=h.cell k a;have b:X (uo os k=(os.g [])[k]):=by simp[X,uo,a]
  have j:=Tg l;go_enter func116,ntmps116;go_wp2;go_ret;exact⟨_,rfl,by rw[b.l];exact j.l,rfl⟩
 have b:X (uo os k=Y):=by simp[X,uo,List.getD_eq_getElem?_getD,List.getElem?_eq_none (Nat.not_lt.1 a)]
 go_enter func116,ntmps116;go_wp2;go_ret;exact⟨_,rfl,by rw[b.l];rfl,rfl⟩
def qq(t:List zf)(ns:κ)(c:zc):jI:=⟨zC t c.g.o,zH (zL t ns [] [0,0,0,0,0] c.g) [0,0,0,0,0]⟩
def Im(f:jI):Value:=.agg #[ι f.o,ι (f.row.g 0 0:Nat),ι (f.row.g 1 0:Nat),ι (f.row.g 2 0:Nat)]
def MD{q:Nat}(w:U)(G tb o P:Nat)(t:Ψ)(ns:κ)(c:zc)(V vb:O)(h:n7 lo w G tb o P t ns)(hs:Tn q w V c.g.k)(hb:TL q w vb c.d)(I:c.g.k.j<=1000):
  Calls prog 118 #[(π G),.agg #[.i c.g.i,.d c.g.o,V,vb]] w λe n=>e=ε (Im (qq t ns c))/\μ w n:=by
 obtain⟨ao,u,rfl⟩:=hs.qy;obtain⟨C,i,rfl⟩:=hb.qy;have HL:=Tg λW sb (hW:μ w W) (b:dW 0 W sb [] [0,0,0,0,0])=>Fj W G tb o P sb t ns [] [0,0,0,0,0] c.g _ (h.u hW) b ζ ζ (hs.u hW) I;have HR:X (∀W v (b0:Nat),yu b0 W v (zL t ns [] [0,0,0,0,0] c.g).v->Calls prog 161 #[.agg #[ι (zC t c.g.o:Nat),v],t9 0 0 0 0 0] W λr n=>r=ε (.agg #[ι (((qq t ns c).row.g 0 0:Nat):Int),ι (((qq t ns c).row.g 1 0:Nat):Int),ι (((qq t ns c).row.g 2 0:Nat):Int)])/\μ W n):=λW v b0 s=>oV W v (zC t c.g.o) _ 0 0 0 0 0 s;have HE:X (Im (qq t ns c)=.agg #[ι (zC t c.g.o:Nat),ι ((qq t ns c).row.g 0 0:Nat),ι ((qq t ns c).row.g 1 0:Nat),ι ((qq t ns c).row.g 2 0:Nat)]):=rfl;clear h hs hb;have b:=Th.new ((w.C (.E #[.i c.g.i,.d c.g.o,.k ao c.g.k.j u,.k C c.d.j i] 171)).C (.E #[ι 0,ι 0,ι 0,ι 0] 210)) #[ν,ι 0,ι 0,ι 0,ι 0,ι 0] 257;have m:=(Th.new (w.C (.E #[.i c.g.i,.d c.g.o,.k ao c.g.k.j u,.k C c.d.j i] 171)) #[ι 0,ι 0,ι 0,ι 0] 210).u ((zn _ _).C (zg _) (.E #[ν,ι 0,ι 0,ι 0,ι 0,ι 0] 257));simp only[U.size_alloc] at b m;generalize (qq t ns c).row.g 0 0=x at *;generalize (qq t ns c).row.g 1 0=y at *;generalize (qq t ns c).row.g 2 0=z at *;generalize (zL t ns [] [0,0,0,0,0] c.g).v=D at *;generalize zC t c.g.o=E at *;go_enter func118,ntmps118;go_upto_region 3 with (first|(go_at_call 160;refine(HL.l _ _ γ (by exact⟨_,0,0,0,0,0,rfl,b,Tn.nil _⟩)).y ?_;rintro e g ⟨tv,rfl,s,l⟩;obtain⟨f,a,rfl⟩:=s.qy))
 have F:μ w g:=zQ γ l (zg _);have k:=m.u l;clear b m HL;have ac:=k.lt;have d:μ g (g.C (.E #[ι E,.k f D.j a] 204)):=γ;have A:=Th.new g #[ι E,.k f D.j a] 204;have K:=k.u d;have J:X (yu _ _ _ D):=s.u d;have B:=Tk F d;clear s k l d;generalize g.C (.E #[ι E,.k f D.j a] 204)=w2 at *;generalize g.o.q=lb at *;clear F g;obtain⟨R,aa,Q⟩:=A.e;have ad:=B.q;go_region_held3 (λn=>n.p ⟨lb,0,Y⟩=Z (ι E)/\n.p ⟨lb,1,Y⟩=Z (.k f D.j a)) (first|go_keep|(go_simp;done)) (first|(go_at_call 161;refine(HR.l _ _ _ (by exact J.l.u γ)).y ?_;rintro e w3 ⟨rfl,M⟩;have j:μ w2 w3:=(zQ γ M (zg _));have L:=A.u j;have H:=K.u j;obtain⟨N,ab⟩:=L.H;obtain⟨p,S,T⟩:=H.e))
 all_goals
  go_wp2
  (try simp only[Exit.inBlock,Exit.then])
  exact zO (v:=.agg #[ι E,ι x,ι y,ι z]) (by simp[results,results118,go_sem,p]) rfl ⟨by rw[HE.l],((((Tk B j).x ζ _).x ζ _).x ζ _).x ζ _⟩
end
section
open Go.Proofs.Tryz Go.RowKit
variable {lo:Nat}{w0 w:U}{rb rr sb st va hp:Nat}{htv plv nlv v':O}{ht:List yi}{pls nls:List zw}{vs:κ}{pl:List Nat}
def Tf:(prog.info? 204).w (λi=>(i.zero,i.q,i.bytes))=Z (Z (.agg #[ι 0,ν]),2,32):=χ
def vH(t:List zf)(ns:κ)(c:zc)(o:Option (List Int)):zu:=
 {L:=xP t c.g.o,m:=(zx c).j,g:=zL t ns (zx c) (yL (o.g [])) c.g,qc:=(c.d.filter λl=>!l.i).w (zL t ns (zx c) (yL (o.g []))),qx:=(c.d.filter λl=>l.i).w (zL t ns (zx c) (yL (o.g [])))}
def Px(ps:List (Nat×O))(x:Nat×O):fC (ps++[x])=fC ps++[ι (x.1:Nat),x.2]:=by simp[fC]
structure g5 (B:Nat) (w0 w:U) (rb rr sb st va hp:Nat) (htv plv nlv:O) (ht:List yi) (pls nls:List zw) (vs:κ) (pl:List Nat):Prop where
 box:Th w rb #[ι st,ι va,ι hp,htv,plv,nlv] 207
 res:Th w rr #[ι 0,ι 0,ι 0,ν,ν,ν] 207
 scope:dW B w sb vs pl
 g:yu B w htv ht
 pln:ux B w plv pls
 nln:ux B w nlv nls
 apart:∀b,plv.m=Z b->nlv.m≠Z b
 u:Below B w0 w
 low:B<=rb/\B<=rr/\rb≠rr
def g5.next{B:Nat}{w':U}(h:g5 B w0 w rb rr sb st va hp htv plv nlv ht pls nls vs pl)(a:μ w w')(b:B<=w0.o.q):g5 B w0 w' rb rr sb st va hp htv plv nlv ht pls nls vs pl:=
 ⟨h.box.u a,h.res.u a,h.scope.u a,h.g.u a,h.pln.u a,h.nln.u a,h.apart,zQ h.u a b,h.low⟩
def dW.saveT{a:Nat}{w w':U}{sb:Nat}{vs:κ}{pl:Φ}{T:TypeId}{M:Φ}(h:dW a w sb vs pl)(hs:zd M w w')(b:T2 w T M)(l:257≠T)(k:9≠T):dW a w' sb vs pl:=by
 obtain⟨d,n,e,m,i,f,g,j,c⟩:=h;exact⟨d,n,e,m,i,f,g,j.saveT hs b l,yJ c hs b k⟩
def ux.push{e:Nat}{w':U}{v:O}{c:List zw}{ps:List (Nat×O)}{l:zw}{tv:O}(j:w.r e 204 2 v c.j (fC ps))(g:ps.j=c.j)(h:∀k (j:k<c.j) (g:k<ps.j),ps[k].1=c[k].o/\yu e w ps[k].2 c[k].v/\c[k].o<=1000000)(n:c.j+1<=1000)(m:yu e w tv l.v)(hp:l.o<=1000000)
  (o:w'.r e 204 2 v' (c.j+1) (fC ps++[ι l.o,tv])) (hs:zd v.m.toList w w'):ux e w' v' (c++[l]):=by
 have i:=T2.own j;refine⟨ps++[(l.o,tv)],by rw[Px,yN];exact o,by simp[g],by simpa using n,λk a b=>?_⟩;by_cases f:k<c.j;have d:k<ps.j:=η;rw[uH f,uH d];exact⟨(h k f d).1,(h k f d).2.1.saveT hs i θ,(h k f d).2.2⟩;obtain rfl:k=c.j:=by simp at a;omega
 simp only[←g,pL];exact⟨trivial,m.saveT hs i θ,hp⟩
def g5.pushP{B:Nat}{i:U}{d:List zw}(h:g5 B w0 w rb rr sb st va hp htv plv nlv ht pls nls vs pl)(hs:zd plv.m.toList w i)(n:v'.m=plv.m∨∃g,v'.m=Z g/\w.o.q<=g)(t:ux B i v' d)(p:B<=w.o.q):g5 B w0 (i.x (ω rb 4) v') rb rr sb st va hp htv v' nlv ht d nls vs pl:=by
 obtain⟨A,o,_⟩:=h.pln;have j:=T2.own o;have l:=h.box.saveT hs j θ;have c:=T2.box l;have a:zd [rb] i (i.x (ω rb 4) v'):=zd.set _ _ _ _;have u:=l.set 4 v';have m:=h.nln.saveT hs j θ λb f v=>h.apart b (xa v) f;refine⟨by simpa using u,(h.res.saveT hs j θ).set_ne (Ne.symm h.low.2.2) _ _,(h.scope.saveT hs j θ θ).saveT a c θ θ,(h.g.saveT hs j θ).saveT a c θ,t.saveTT a c θ θ,m.saveTT a c θ θ,λb f k=>?_,?_,h.low⟩;obtain⟨r,q,_⟩:=h.nln;have s:=yG q k;rcases n with e|⟨g,e,z⟩;rw[e] at f;exact h.apart b f k;rw[e] at f;simp only[zt] at f;omega;exact(h.u.A (hs.u (λx y=>yU o (xa y)) p)).x h.low.1 _
def g5.pushN{B:Nat}{i:U}{f:List zw}(h:g5 B w0 w rb rr sb st va hp htv plv nlv ht pls nls vs pl)(hs:zd nlv.m.toList w i)(n:v'.m=nlv.m∨∃g,v'.m=Z g/\w.o.q<=g)(t:ux B i v' f)(p:B<=w.o.q):g5 B w0 (i.x (ω rb 5) v') rb rr sb st va hp htv plv v' ht pls f vs pl:=by
 obtain⟨A,o,_⟩:=h.nln;have j:=T2.own o;have k:=h.box.saveT hs j θ;have c:=T2.box k;have a:zd [rb] i (i.x (ω rb 5) v'):=zd.set _ _ _ _;have u:=k.set 5 v';have m:=h.pln.saveT hs j θ λb l v=>h.apart b l (xa v);refine⟨by simpa using u,(h.res.saveT hs j θ).set_ne (Ne.symm h.low.2.2) _ _,(h.scope.saveT hs j θ θ).saveT a c θ θ,(h.g.saveT hs j θ).saveT a c θ,m.saveTT a c θ θ,t.saveTT a c θ θ,λb l d=>?_,?_,h.low⟩;obtain⟨r,q,_⟩:=h.pln;have s:=yG q l;rcases n with e|⟨g,e,z⟩;rw[e] at d;exact h.apart b l d;rw[e] at d;simp only[zt] at d;omega;exact(h.u.A (hs.u (λx y=>yU o (xa y)) p)).x h.low.1 _
def Aa{α:Type}(p:α->Bool)(l:List α)(k:Nat)(a:k<l.j):(l.G (k+1)).filter p=(l.G k).filter p++(if p l[k] then [l[k]] else []):=by
 rw[yM a,wa];congr 1;cases h:p l[k]<;>simp[h]
def Gg(t:Ψ)(n:ByteArray):zC t n<=t.j:=by
 unfold zC;split;exact Ad t n;omega
def Qz(os:List Int)(h:os.j<=1000):∀y∈yL os,y<=1000:=by
 have:∀(l:List (Int×Nat)) (pl:Φ),(∀x∈l,x.2<=1000)->(∀y∈pl,y<=1000)->∀y∈l.H vN pl,y<=1000:=by
  intro l;induction l with
  |nil=>intro pl _ h;exact h
  |cons x l d=>
   intro pl c b;refine d _ (λy a=>c y (nX _ a)) λy a=>?_;unfold vN at a;split at a;rcases lK a with q|q;exact b y q;subst q;exact c x ζ;exact b y a
 refine this _ _ (λx e=>?_) θ;have:=List.snd_lt_of_mem_zipIdx e;omega
def KA(w:U)(r:zu)(e:Ending)(w':U):Prop:=∃a c b,e=ε (gi r a c b)/\vG w.o.q w' a c b r/\μ w w'
def QO{ab:Nat}(w:U)(mb tb o cb:Nat)(t:Ψ)(ns:κ)(c:zc)(va vb ov:O)(R:Option (List Int))(h:n7 lo w mb tb o cb t ns)(hs:Tn ab w va c.g.k)(hb:TL ab w vb c.d)(hl:c.g.k.j+xj c.d<=1000)(co:c.d.j<=900)(ho:xV w ov R)(be:(R.g []).j<=1000)(bX:xP t c.g.o<=1000000):
  Calls prog 117 #[(π mb),.agg #[.i c.g.i,.d c.g.o,va,vb],ov] w λe w'=>KA w (vH t ns c R) e w':=by
 obtain⟨i0,hi,bg,b7,bc⟩:=info_parts Tf;obtain⟨ao,aM,rfl⟩:=hs.qy;obtain⟨aY,ak,rfl⟩:=hb.qy;obtain⟨bZ,bp,rfl⟩:=ho.qy;have bh:=Tg λW J=>Of W c _ _ _ R (hs.u J) (hb.u J) hl η (ho.u J) be;have b8:=eJ c.d [];have bJ:(zx c).j<=1000:=by unfold zx;simp at b8;omega
 clear b8;have aW:X (∀W sb (l:zj) (va:O) (b1 b2:Nat),μ w W->dW b1 W sb (zx c) (yL (R.g []))->Tn b2 W va l.k->l.k.j<=1000->Calls prog 160 #[(π mb),.agg #[.i l.i,.d l.o,va],(π sb)] W λe w'=>∃tv,e=ε (.agg #[ι (zC t l.o:Nat),tv])/\yu W.o.q w' tv (zL t ns (zx c) (yL (R.g [])) l).v/\μ W w'):=λW sb l va b1 b2 J bQ bY bU=>Fj W mb tb o cb sb t ns _ _ l _ (h.u J) bQ bJ (Qz _ be) bY bU;have b4:=Tg λW J=>JT lo W tb o t c.g.o (h.2.1.u J) h.2.2.2.1;have bq:=Tg h.2.2.2.1;have bR:=h.1;obtain⟨b6,cq,bW⟩:=bR.e;have bL:w.p (δ mb)=Z (.u (Z (ω tb o))):=by rw[b6];rfl
 have ca:=Tg hs;have bV:=Tg hb;have HE:X (vH t ns c R={L:=xP t c.g.o,m:=(zx c).j,g:=zL t ns (zx c) (yL (R.g [])) c.g,qc:=(c.d.filter λl=>!l.i).w (zL t ns (zx c) (yL (R.g []))),qx:=(c.d.filter λl=>l.i).w (zL t ns (zx c) (yL (R.g [])))}):=rfl;have H5:X ((yL (R.g [])).j=5):=eF _;clear h hs hb ho b6;generalize zx c=vs at *;generalize yL (R.g [])=pl at *;generalize xP t c.g.o=st at *;generalize (zU t c.g.o).I=cp at *;obtain⟨n,f,j,d,m,rfl⟩:=five H5.l;have a3:X (∀W,μ w W->Calls prog 158 #[.agg #[.i c.g.i,.d c.g.o,.k ao c.g.k.j aM,.k aY c.d.j ak],.k bZ (R.g []).j bp] W λe w'=>∃nv,e=ε (.agg #[nv,ι n,ι f,ι j,ι d,ι m])/\Tn W.o.q w' nv vs/\μ W w'):=bh;clear bh H5;go_enter func117,ntmps117;go_upto_region 2 with (first|(go_at_call 158;refine(a3.l _ γ).y ?_;rintro e w1 ⟨nv,rfl,aL,az⟩;obtain⟨aR,au,rfl⟩:=aL.qy))
 have bk:μ w w1:=zQ γ az (zg _);have a7:=((Th.new w #[.i c.g.i,.d c.g.o,.k ao c.g.k.j aM,.k aY c.d.j ak] 171).u ((zn _ _).C (zg _) (.E #[ι 0,ι 0,ι 0,ν,ν,ν] 207))).u az;have L:=(Th.new (w.C (.E #[.i c.g.i,.d c.g.o,.k ao c.g.k.j aM,.k aY c.d.j ak] 171)) #[ι 0,ι 0,ι 0,ν,ν,ν] 207).u az;rw[U.size_alloc] at L;have a8:=aL.low (show w.o.q<=_ by simp;omega);have u:μ w1 (w1.C (.E #[.k aR vs.j au,ι n,ι f,ι j,ι d,ι m] 257)):=γ;have aA:=Th.new w1 #[.k aR vs.j au,ι n,ι f,ι j,ι d,ι m] 257;have ap:=a7.u u;have aD:=L.u u;have aG:=a8.u u;have p:=Tk bk u;have cj:=L.lt;clear a7 L a8 aL az u;generalize w1.C (.E #[.k aR vs.j au,ι n,ι f,ι j,ι d,ι m] 257)=w2 at *;generalize w1.o.q=sb at *;clear bk w1;obtain⟨ag,ah,F⟩:=ap.e;have bM:=zi p bW bL;have bb:=p.q;have bt:mb<w2.o.q:=η;go_quiet ((go_at_call 159;exact Calls.quiet_of_same (b4.l _ (by exact(zI p _)))))
 clear a3 b4 bM ag ah F bb bt;have hq:μ w2 (w2.drewN nq):=zI (zn _ _) nq;have aE:=ap.u hq;have aF:=aD.u hq;have ay:=aG.u hq;have M:=aA.u hq;have aT:=Tk p hq;clear hq ap aD aG aA p;generalize w2.drewN nq=w3 at *;clear w2 nq;have cn:=aT.q;obtain⟨aB,bo,bz⟩:=M.e;go_upto_region 4 with (first|(go_at_call 146;refine(oJ _ _ _ vs (by rw[aB];rfl) ay).y ?_;rintro e w4 ⟨rfl,cd⟩;obtain rfl:=cd.z))
 clear aB bo bz;have u:μ w3 (w3.C (.E #[ι st,ι vs.j,ι 0,ν,ν,ν] 207)):=γ;have aI:=Th.new w3 #[ι st,ι vs.j,ι 0,ν,ν,ν] 207;have aw:=aE.u u;have aH:=aF.u u;have a2:=ay.u u;have a4:=M.u u;have am:=Tk aT u;have cg:=M.lt;clear aE aF ay M u;generalize w3.C (.E #[ι st,ι vs.j,ι 0,ν,ν,ν] 207)=w4 at *;generalize w3.o.q=rb at *;clear aT w3;have bm:=am.q;obtain⟨ag,ah,F⟩:=aw.e;have av:X (dW w.o.q w4 sb vs [n,f,j,d,m]):=⟨_,n,f,j,d,m,rfl,a4,a2⟩;go_upto_region 5 with (first|(go_at_call 160;refine(aW.l _ _ c.g _ _ _ (by exact am) (by exact av.l) (by exact ca.l.u am) η).y ?_;rintro e w5 ⟨tv,rfl,aj,P⟩;obtain⟨B,s,rfl⟩:=aj.qy;have N:=aI.u P;obtain⟨br,b0,bH⟩:=N.e))
 have bf:yu w.o.q w5 _ _:=⟨yo aj.own bm,aj.len,aj.z⟩;have ar:rb≠w.o.q+1:=η;have hM:g5 w.o.q w ((w5.x (ω rb 2) (ι (zC t c.g.o:Nat))).x (ω rb 3) (.k B (zL t ns vs [n,f,j,d,m] c.g).v.j s)) rb (w.o.q+1) sb st vs.j (zC t c.g.o) (.k B (zL t ns vs [n,f,j,d,m] c.g).v.j s) (ν) (ν) (zL t ns vs [n,f,j,d,m] c.g).v [] [] vs [n,f,j,d,m]:=by
  have bx:zd [rb] w5 ((w5.x (ω rb 2) (ι (zC t c.g.o:Nat))).x (ω rb 3) (.k B (zL t ns vs [n,f,j,d,m] c.g).v.j s)):=(zd.set _ _ _ _).A (zd.set _ _ _ _);have bC:=T2.box N;have hq:=(N.set 2 (ι (zC t c.g.o:Nat))).set 3 (.k B (zL t ns vs [n,f,j,d,m] c.g).v.j s);refine⟨by simpa using hq,((aH.u P).set_ne (Ne.symm ar) _ _).set_ne (Ne.symm ar) _ _,(av.l.u P).saveT bx bC θ θ,bf.saveT bx bC θ,⟨[],xp _ _ _ _,rfl,ζ,λk a=>by simp at a⟩,⟨[],xp _ _ _ _,rfl,ζ,λk a=>by simp at a⟩,λb hb=>by simp[O.ownBlock] at hb,((Tk am P).x υ _).x υ _,η,η,ar⟩
 have a5:=((aw.u P).set_ne (show w.o.q≠rb by omega) 2 (ι (zC t c.g.o:Nat))).set_ne (show w.o.q≠rb by omega) 3 (.k B (zL t ns vs [n,f,j,d,m] c.g).v.j s);generalize (w5.x (ω rb 2) (ι (zC t c.g.o:Nat))).x (ω rb 3) (.k B (zL t ns vs [n,f,j,d,m] c.g).v.j s)=w6 at *;clear N br b0 bH aj bf P w5 ag ah F av bm am aw aH a2 a4 aI w4;generalize a0:O.slice B (zL t ns vs [n,f,j,d,m] c.g).v.j s=htv at *;have bP:=Tg a0;clear a0;obtain⟨ag,ah,F⟩:=a5.e;go_wp2;clear ag ah F a5;have x:X (g5 _ _ _ _ _ _ _ _ _ _ _ _ _ _ _ _ _):=hM;clear hM;go_loopw [40] (λcc wr=>∃(k:Nat) (plv nlv:O),k<=c.d.j/\cc=ι k/\X (g5 w.o.q w wr rb (w.o.q+1) sb st vs.j (zC t c.g.o) htv plv nlv (zL t ns vs [n,f,j,d,m] c.g).v (((c.d.G k).filter λl=>!l.i).w (zL t ns vs [n,f,j,d,m])) (((c.d.G k).filter λl=>l.i).w (zL t ns vs [n,f,j,d,m])) vs [n,f,j,d,m])) (λi _=>c.d.j-(intOf i).D);exact⟨0,_,_,zs _,rfl,x⟩;clear x;obtain⟨k,plv,nlv,hk,rfl,x⟩:=hrel;have C:=x.l.u;have ce:=C.q;by_cases ad:k<c.d.j
 .obtain⟨g,V,y,bT,hg,bd,bw,bs,bB⟩:=bV.l.cell k ad;subst bT;have b9:c.d[k].k.j<=1000:=by
   have:=tF c.d k ad;rw[yn ad] at this;simp at this;omega
  have bD:=zi C hg bd;have cm:=zi C hg bw;have cl:=zi C hg bs;have u:g<wr.o.q:=η;have T:=Aa (λl:zj=>!l.i) c.d k ad;have S:=Aa (λl:zj=>l.i) c.d k ad;have bE:X (Tn ab w _ _):=bB;have bS:=Gg t c.d[k].o;have bO:=bq.l;clear bd bw bs bB;generalize c.d[k]=l at *;have ci:(((c.d.G k).filter λl=>!l.i).w (zL t ns vs [n,f,j,d,m])).j<=k:=by
   have:=rL (λl:zj=>!l.i) (c.d.G k);simp at this ⊢;omega
  have ch:(((c.d.G k).filter λl=>l.i).w (zL t ns vs [n,f,j,d,m])).j<=k:=by
   have:=rL (λl:zj=>l.i) (c.d.G k);simp at this ⊢;omega
  cases hn:l.i
  .rw[hn] at bD;simp only[hn,Bool.not_false,if_true,gR,if_false,qb] at T S;have aQ:X (((c.d.G (k+1)).filter λl=>!l.i).w (zL t ns vs [n,f,j,d,m])=((c.d.G k).filter λl=>!l.i).w (zL t ns vs [n,f,j,d,m])++[zL t ns vs [n,f,j,d,m] l]):=by rw[X,T,qF];rfl
   have aZ:X (((c.d.G (k+1)).filter λl=>l.i).w (zL t ns vs [n,f,j,d,m])=((c.d.G k).filter λl=>l.i).w (zL t ns vs [n,f,j,d,m])):=by rw[X,S]
   clear T S;generalize ((c.d.G k).filter λl=>!l.i).w (zL t ns vs [n,f,j,d,m])=pls at *;generalize ((c.d.G k).filter λl=>l.i).w (zL t ns vs [n,f,j,d,m])=nls at *;have aO:X (∀W,μ wr W->Calls prog 160 #[(π mb),.agg #[.i false,.d l.o,.k V l.k.j y],(π sb)] W λe w'=>∃tv,e=ε (.agg #[ι (zC t l.o:Nat),tv])/\yu W.o.q w' tv (zL t ns vs [n,f,j,d,m] l).v/\μ W w'):=λW J=>by
    have q:=aW.l W sb l (.k V l.k.j y) w.o.q ab (Tk C J) (x.l.scope.u J) (bE.l.u (Tk C J)) b9;rw[hn] at q;exact q
   generalize af:(zL t ns vs [n,f,j,d,m] l).v=ts at *;have aP:=Tg af;have ae:X ((zL t ns vs [n,f,j,d,m] l).o=zC t l.o):=rfl;clear af;generalize zC t l.o=fn at *;obtain⟨ps,E,D,_,G⟩:=x.l.pln;obtain⟨Q,z,ax⟩:=zr E;subst ax;have K:=Tg G;clear G;have b3:pls.j<=900:=η;have ac:=Tg D;clear D;go_wp2_with (first|(go_at_call 160;refine(aO.l _ γ).y ?_;rintro e w2 ⟨tv,rfl,A,ai⟩;obtain⟨aN,al,rfl⟩:=A.qy;have p:μ wr w2:=(zQ γ ai (zg _));have aJ:=(Th.new wr #[.i false,.d l.o,.k V l.k.j y] 90).u ai;obtain⟨b5,bi,bu⟩:=aJ.e;have H:=x.l.box.u p;obtain⟨a6,a1,a9⟩:=H.e;have bb:=p.q;have r:=zy E p)|(at_builtin;refine kc w2 _ [ι fn,.k aN ts.j al] _ rfl (.tmp 56) (.tmp 58) 205 rfl w.o.q 204 i0 _ 2 32 underlying205 hi bg b7 bc rfl θ (.k Q pls.j z) pls.j (fC ps) rfl r γ _ _ rfl ζ rfl a_ η η η ?_;intro v' w3 an I aq;obtain⟨bK,bF,rfl⟩:=zr an;have aa:=H.saveT I (T2.own r) θ;obtain⟨aU,aK,aX⟩:=aa.e))
   have aS:g5 _ _ _ _ _ _ _ _ _ _ _ _ _ _ _ _ _:=(x.l.next p (zg _)).pushP I aq (ux.push (l:=zL t ns vs [n,f,j,d,m] l) r ac.l (λk a b=>⟨(K.l k a b).1,(K.l k a b).2.1.u p,(K.l k a b).2.2⟩) η (by rw[aP.l];exact⟨yo A.own υ,A.len,A.z⟩) (by rw[ae.l];omega) (by rw[ae.l];exact an) I) η;go_roundw;exact⟨k+1,_,_,η,ξ,by rw[aQ.l,aZ.l];exact aS⟩;simp[intOf];omega
  rw[hn] at bD;simp only[hn,nT,if_true,gR,if_false,qb] at T S;have aQ:X (((c.d.G (k+1)).filter λl=>!l.i).w (zL t ns vs [n,f,j,d,m])=((c.d.G k).filter λl=>!l.i).w (zL t ns vs [n,f,j,d,m]) ):=by rw[X,T]
  have aZ:X (((c.d.G (k+1)).filter λl=>l.i).w (zL t ns vs [n,f,j,d,m])=((c.d.G k).filter λl=>l.i).w (zL t ns vs [n,f,j,d,m])++[zL t ns vs [n,f,j,d,m] l]):=by rw[X,S,qF];rfl
  clear T S;generalize ((c.d.G k).filter λl=>!l.i).w (zL t ns vs [n,f,j,d,m])=pls at *;generalize ((c.d.G k).filter λl=>l.i).w (zL t ns vs [n,f,j,d,m])=nls at *;have aO:X (∀W,μ wr W->Calls prog 160 #[(π mb),.agg #[.i true,.d l.o,.k V l.k.j y],(π sb)] W λe w'=>∃tv,e=ε (.agg #[ι (zC t l.o:Nat),tv])/\yu W.o.q w' tv (zL t ns vs [n,f,j,d,m] l).v/\μ W w'):=λW J=>by
   have q:=aW.l W sb l (.k V l.k.j y) w.o.q ab (Tk C J) (x.l.scope.u J) (bE.l.u (Tk C J)) b9;rw[hn] at q;exact q
  generalize af:(zL t ns vs [n,f,j,d,m] l).v=ts at *;have aP:=Tg af;have ae:X ((zL t ns vs [n,f,j,d,m] l).o=zC t l.o):=rfl;clear af;generalize zC t l.o=fn at *;obtain⟨ps,E,D,_,G⟩:=x.l.nln;obtain⟨Q,z,ax⟩:=zr E;subst ax;have K:=Tg G;clear G;have b3:nls.j<=900:=η;have ac:=Tg D;clear D;go_wp2_with (first|(go_at_call 160;refine(aO.l _ γ).y ?_;rintro e w2 ⟨tv,rfl,A,ai⟩;obtain⟨aN,al,rfl⟩:=A.qy;have p:μ wr w2:=(zQ γ ai (zg _));have aJ:=(Th.new wr #[.i true,.d l.o,.k V l.k.j y] 90).u ai;obtain⟨b5,bi,bu⟩:=aJ.e;have H:=x.l.box.u p;obtain⟨a6,a1,a9⟩:=H.e;have bb:=p.q;have r:=zy E p)|(at_builtin;refine kc w2 _ [ι fn,.k aN ts.j al] _ rfl (.tmp 50) (.tmp 52) 205 rfl w.o.q 204 i0 _ 2 32 underlying205 hi bg b7 bc rfl θ (.k Q nls.j z) nls.j (fC ps) rfl r γ _ _ rfl ζ rfl a_ η η η ?_;intro v' w3 an I aq;obtain⟨bK,bF,rfl⟩:=zr an;have aa:=H.saveT I (T2.own r) θ;obtain⟨aU,aK,aX⟩:=aa.e))
  have aS:g5 _ _ _ _ _ _ _ _ _ _ _ _ _ _ _ _ _:=(x.l.next p (zg _)).pushN I aq (ux.push (l:=zL t ns vs [n,f,j,d,m] l) r ac.l (λk a b=>⟨(K.l k a b).1,(K.l k a b).2.1.u p,(K.l k a b).2.2⟩) η (by rw[aP.l];exact⟨yo A.own υ,A.len,A.z⟩) (by rw[ae.l];omega) (by rw[ae.l];exact an) I) η;go_roundw;exact⟨k+1,_,_,η,ξ,by rw[aZ.l,aQ.l];exact aS⟩;simp[intOf];omega
 have bn:k=c.d.j:=η;have bN:X (c.d.G k=c.d):=by rw[X,bn,uW]
 rw[bN.l] at x;have H:=x.l.box;have bv:=x.l.res;obtain⟨a6,a1,a9⟩:=H.e;obtain⟨bA,cf,ck⟩:=bv.e;have a0:=bP.l;subst a0;obtain⟨Q,z,ax⟩:=zr x.l.pln.choose_spec.1;obtain⟨bG,aC,bI⟩:=zr x.l.nln.choose_spec.1;subst ax;subst bI;clear bn;generalize (c.d.filter λl=>!l.i).w (zL t ns vs [n,f,j,d,m])=pls at *;generalize (c.d.filter λl=>l.i).w (zL t ns vs [n,f,j,d,m])=nls at *;go_wp2
 (try simp only[Exit.inBlock,Exit.then])
 refine zO (v:=.agg #[ι st,ι vs.j,ι (zC t c.g.o:Nat),.k B (zL t ns vs [n,f,j,d,m] c.g).v.j s,.k Q pls.j z,.k bG nls.j aC]) (by simp[results,results117,go_sem,bA]) rfl ⟨_,_,_,by rw[HE.l];rfl,?_,?_⟩;have aV:zd [w.o.q+1] wr ((((((wr.x (δ (w.o.q+1)) (ι st)).x (ω (w.o.q+1) 1) (ι vs.j)).x (ω (w.o.q+1) 2) (ι (zC t c.g.o:Nat))).x (ω (w.o.q+1) 3) (.k B (zL t ns vs [n,f,j,d,m] c.g).v.j s)).x (ω (w.o.q+1) 4) (.k Q pls.j z)).x (ω (w.o.q+1) 5) (.k bG nls.j aC)):=(((((zd.set _ _ _ _).A (zd.set _ _ _ _)).A (zd.set _ _ _ _)).A (zd.set _ _ _ _)).A (zd.set _ _ _ _)).A (zd.set _ _ _ _);have ba:=T2.box bv;have bS:=Gg t c.g.o;have bO:=bq.l;rw[HE.l];exact⟨x.l.g.saveT aV ba θ,x.l.pln.saveTT aV ba θ θ,x.l.nln.saveTT aV ba θ θ,bX,by simp only;omega,by show zC t c.g.o<=1000000;omega⟩;exact(((((C.x ζ _).x ζ _).x ζ _).x ζ _).x ζ _).x ζ _
end
section
open Go.Proofs.Tryz Go.RowKit
variable {lo:Nat}{w w0:U}{v' mv1 mv2 av fv rv:O}{rs:List zu}{ps:List (O×O×O)}{sb sr mb wd:Nat}{xs:List Nat}
def S0:(prog.info? 210).w (λi=>(i.zero,i.q,i.bytes))=Z (Z (.agg #[ι 0,ι 0,ι 0,ι 0]),4,32):=χ
def SY:(prog.info? 207).w (λi=>(i.zero,i.q,i.bytes))=Z (Z (.agg #[ι 0,ι 0,ι 0,ν,ν,ν]),6,96):=χ
def sS(f:jI):List Value:=[ι f.o,ι (f.row.g 0 0:Nat),ι (f.row.g 1 0:Nat),ι (f.row.g 2 0:Nat)]
def kX(fs:List jI):List Value:=fs.flatMap sS
def sc(r:zu)(p:O×O×O):List Value:=[ι r.L,ι r.m,ι r.g.o,p.1,p.2.1,p.2.2]
def gD(rs:List zu)(ps:List (O×O×O)):List Value:=(List.zipWith sc rs ps).flatten
def Jb(fs:List jI)(f:jI):kX (fs++[f])=kX fs++sS f:=by simp[kX]
def Jd(rs:List zu)(ps:List (O×O×O))(r:zu)(p:O×O×O)(h:ps.j=rs.j):gD (rs++[r]) (ps++[p])=gD rs ps++sc r p:=by
 unfold gD;rw[Bi h.z];simp
def sT(lo:Nat)(w:U)(v:O)(fs:List jI):Prop:=w.r lo 210 4 v fs.j (kX fs)
structure qH (lo:Nat) (w:U) (v:O) (rs:List zu) (ps:List (O×O×O)):Prop where
 own:w.r lo 207 6 v rs.j (gD rs ps)
 len:ps.j=rs.j
 p:∀k (_:k<rs.j) (_:k<ps.j),vG lo w ps[k].1 ps[k].2.1 ps[k].2.2 rs[k]
 K:rs.j<=1000
def qH.u{w w':U}{v:O}{rs:List zu}{ps:List (O×O×O)}(h:qH lo w v rs ps)(c:μ w w'):qH lo w' v rs ps:=⟨zy h.own c,h.len,λk a b=>(h.p k a b).u c,h.K⟩
def qH.saveT{e:Nat}{w w':U}{v:O}{rs:List zu}{ps:List (O×O×O)}{T:TypeId}{M:Φ}(h:qH e w v rs ps)(hs:zd M w w')(f:T2 w T M)(g:284≠T)(d:204≠T)(c:207≠T):qH e w' v rs ps:=⟨yJ h.own hs f c,h.len,λk a b=>(h.p k a b).saveT hs f g d,h.K⟩
def qH.push{d:Nat}{w':U}{v:O}{r:zu}{p:O×O×O}(h:qH d w v rs ps)(g:rs.j+1<=1000)(l:vG d w p.1 p.2.1 p.2.2 r)(i:w'.r d 207 6 v' (rs.j+1) (gD rs ps++sc r p))(hs:zd v.m.toList w w'):qH d w' v' (rs++[r]) (ps++[p]):=by
 have e:=T2.own h.own;refine⟨by rw[Jd _ _ _ _ h.len,yN];exact i,by simp[h.len],λk a b=>?_,by simpa using g⟩;by_cases f:k<rs.j;have c:k<ps.j:=by have:=h.len;omega
 rw[uH f,uH c];exact(h.p k f c).saveT hs e θ θ;obtain rfl:k=rs.j:=by simp at a;omega
 have j:=h.len;simp only[←j,pL];exact l.saveT hs e θ θ
def qH.cell{w:U}{j:Option Addr}{n cap:Nat}{rs:List zu}{ps:List (O×O×O)}(h:qH lo w (.k j n cap) rs ps)(k:Nat)(y:k<rs.j)(e:k<ps.j):∃g,j=Z (δ g)/\g<w.o.q/\w.p (ω g (k*6))=Z (ι (rs[k].L:Nat))/\w.p (ω g (k*6+1))=Z (ι (rs[k].m:Nat))/\w.p (ω g (k*6+2))=Z (ι (rs[k].g.o:Nat))/\w.p (ω g (k*6+3))=Z ps[k].1/\w.p (ω g (k*6+4))=Z ps[k].2.1/\w.p (ω g (k*6+5))=Z ps[k].2.2:=by
 obtain⟨g,i,f,_,s,a⟩:=yr h.own η;simp at f;have d:∀(rs:List zu) (ps:List (O×O×O)) (k:Nat) (b:k<rs.j) (c:k<ps.j),(gD rs ps)[k*6]?=Z (ι (rs[k].L:Nat))/\(gD rs ps)[k*6+1]?=Z (ι (rs[k].m:Nat))/\(gD rs ps)[k*6+2]?=Z (ι (rs[k].g.o:Nat))/\(gD rs ps)[k*6+3]?=Z ps[k].1/\(gD rs ps)[k*6+4]?=Z ps[k].2.1/\(gD rs ps)[k*6+5]?=Z ps[k].2.2:=by
  intro rs;induction rs with
  |nil=>intro ps k b;simp at b
  |cons r l u=>
   intro ps k b c;match ps,k,b,c with
   |p::ps,0,_,_=>simp[gD,sc]
   |p::ps,k+1,b,c=>
    have:=u ps k (by simpa using b) (by simpa using c);simp only[gD,ny,nM] at this ⊢;rw[show(k+1)*6=k*6+6 from by omega];have o:k*6+6=(sc r p).j+k*6:=by simp[sc];omega
    rw[o];simp only[Nat.add_assoc,ff (Nat.le_add_right _ _),i4];simpa using this
 obtain⟨q,v,x,m,z,t⟩:=d rs ps k y e;exact⟨g,f.1,s,a _ _ q,a _ _ v,a _ _ x,a _ _ m,a _ _ z,a _ _ t⟩
def FZ:∀(fs:List jI) (k:Nat) (h:k<fs.j),(kX fs)[k*4]?=Z (ι (fs[k].o:Nat))/\(kX fs)[k*4+1]?=Z (ι (fs[k].row.g 0 0:Nat))/\(kX fs)[k*4+2]?=Z (ι (fs[k].row.g 1 0:Nat))/\(kX fs)[k*4+3]?=Z (ι (fs[k].row.g 2 0:Nat))
 |[],k,h=>by simp at h
 |f::l,0,_=>by simp[kX,sS]
 |f::l,k+1,h=>by
  have:=FZ l k (by simpa using h);simp only[kX,uU] at this ⊢;rw[show(k+1)*4=k*4+4 from by omega];have a:k*4+4=(sS f).j+k*4:=by simp[sS];omega
  rw[a];simp only[Nat.add_assoc,ff (Nat.le_add_right _ _),i4];simpa using this
def uP(t:List zf)(ns:κ)(os:Option (List (Option (List Int))))(cs:List zc):List zu:=cs.zipIdx.filterMap λx=>if x.1.d.j>0 then Z (vH t ns x.1 (uo os x.2)) else Y
def vJ(t:List zf)(ns:κ)(cs:List zc):List jI:=(cs.filter λc=>!decide (c.d.j>0)).w (qq t ns)
def vf(t:List zf)(ns:κ)(os:Option (List (Option (List Int))))(cs:List zc):js:={r:=ns.j,M:=t.w (·.jh),facts:=vJ t ns cs,H:=uP t ns os cs}
def M5(t:Ψ)(ns:κ)(os:Option (List (Option (List Int))))(cs:Ξ)(k:Nat)(a:k<cs.j):uP t ns os (cs.G (k+1))=uP t ns os (cs.G k)++(if cs[k].d.j>0 then [vH t ns cs[k] (uo os k)] else []):=by
 unfold uP;rw[yM a,List.zipIdx_append,eR];congr 1;simp only[List.zipIdx_singleton,vc,vx,th,List.filterMap_nil];rw[gV η];by_cases h:cs[k].d.j>0;rw[zb h,zb h];rw[za h,za h]
def Rz(t:Ψ)(ns:κ)(cs:Ξ)(k:Nat)(a:k<cs.j):vJ t ns (cs.G (k+1))=vJ t ns (cs.G k)++(if cs[k].d.j>0 then [] else [qq t ns cs[k]]):=by
 unfold vJ;rw[Aa _ _ _ a,qF];congr 1;by_cases h:cs[k].d.j>0;simp[h];simp[h]
def Ja(t:Ψ)(ns:κ)(os:Option (List (Option (List Int))))(cs:Ξ):(uP t ns os cs).j<=cs.j:=by
 have:=tz (λx:zc×Nat=>if x.1.d.j>0 then Z (vH t ns x.1 (uo os x.2)) else Y) cs.zipIdx;simpa [uP] using this
def Q4(t:Ψ)(ns:κ)(cs:Ξ):(vJ t ns cs).j<=cs.j:=by
 unfold vJ;rw[xu];exact rL _ _
structure kB (B:Nat) (w0 w:U) (sb sr mb:Nat) (mv1 mv2 av fv rv:O) (wd:Nat) (xs:List Nat) (fs:List jI) (rs:List zu) (ps:List (O×O×O)):Prop where
 box:Th w sb #[ι wd,av,fv,rv] 146
 res:Th w sr #[ι 0,ν,ν,ν] 146
 mak:Th w mb #[mv1,mv2] 200
 ari:w.r B 3 1 av xs.j (xs.w TN)
 fac:sT B w fv fs
 rul:qH B w rv rs ps
 u:Below B w0 w
 low:B<=sb/\B<=sr/\sb≠sr
def kB.next{B:Nat}{w':U}{fs:List jI}(h:kB B w0 w sb sr mb mv1 mv2 av fv rv wd xs fs rs ps)(a:μ w w')(b:B<=w0.o.q):kB B w0 w' sb sr mb mv1 mv2 av fv rv wd xs fs rs ps:=
 ⟨h.box.u a,h.res.u a,h.mak.u a,zy h.ari a,zy h.fac a,h.rul.u a,zQ h.u a b,h.low⟩
def kB.pushF{B:Nat}{c:U}{fs e:List jI}(h:kB B w0 w sb sr mb mv1 mv2 av fv rv wd xs fs rs ps)(hs:zd fv.m.toList w c)(j:sT B c v' e)(g:B<=w.o.q):kB B w0 (c.x (ω sb 2) v') sb sr mb mv1 mv2 av v' rv wd xs e rs ps:=by
 have d:=T2.own h.fac;have f:=h.box.saveT hs d θ;have b:=T2.box f;have a:zd [sb] c (c.x (ω sb 2) v'):=zd.set _ _ _ _;have k:=f.set 2 v';exact⟨by simpa using k,(h.res.saveT hs d θ).set_ne (Ne.symm h.low.2.2) _ _,(h.mak.saveT hs d θ).saveT a b θ,yJ (yJ h.ari hs d θ) a b θ,yJ j a b θ,(h.rul.saveT hs d θ θ θ).saveT a b θ θ θ,(h.u.A (hs.u (λx i=>yU h.fac (xa i)) g)).x h.low.1 _,h.low⟩
def kB.pushR{B:Nat}{c:U}{fs:List jI}{d:List zu}{g:List (O×O×O)}(h:kB B w0 w sb sr mb mv1 mv2 av fv rv wd xs fs rs ps)(hs:zd rv.m.toList w c)(k:qH B c v' d g)(i:B<=w.o.q):kB B w0 (c.x (ω sb 3) v') sb sr mb mv1 mv2 av fv v' wd xs fs d g:=by
 have e:=T2.own h.rul.own;have f:=h.box.saveT hs e θ;have b:=T2.box f;have a:zd [sb] c (c.x (ω sb 3) v'):=zd.set _ _ _ _;have l:=f.set 3 v';exact⟨by simpa using l,(h.res.saveT hs e θ).set_ne (Ne.symm h.low.2.2) _ _,(h.mak.saveT hs e θ).saveT a b θ,yJ (yJ h.ari hs e θ) a b θ,yJ (yJ h.fac hs e θ) a b θ,k.saveT a b θ θ θ,(h.u.A (hs.u (λx j=>yU h.rul.own (xa j)) i)).x h.low.1 _,h.low⟩
structure dX (lo:Nat) (w:U) (av fv rv:O) (S:js) (ps:List (O×O×O)):Prop where
 ari:w.r lo 3 1 av S.M.j (S.M.w TN)
 fac:sT lo w fv S.facts
 rul:qH lo w rv S.H ps
end
section
open Go.Proofs.Tryz Go.RowKit
variable {lo:Nat}
def L9(w:U)(S:js)(e:Ending)(w':U):Prop:=∃c a b d,e=ε (.agg #[ι S.r,c,a,b])/\dX w.o.q w' c a b S d/\μ w w'
def UC(t:List zf)(k:Nat):List Nat:=(t.G k).map (·.jh)++List.replicate (t.j-k) 0
def As(t:Ψ)(k:Nat)(a:k<=t.j):(UC t k).j=t.j:=by simp[UC];omega
def IT(t:Ψ)(k:Nat)(a:k<t.j):(UC t k).set k (yc t k)=UC t (k+1):=by
 have e:yc t k=t[k].jh:=by simp[yc,a]
 obtain⟨m,b⟩:∃m,t.j-k=m+1:=⟨t.j-k-1,η⟩;unfold UC;rw[e,l0 _ _ υ,xu,vc,gV η,jC,b,sq,pF,yM a,qF,show t.j-(k+1)=m from by omega,kO];rfl
def Li(t:Ψ):UC t t.j=t.map (·.jh):=by simp[UC]
def NI{ae:Nat}(w:U)(tb o B:Nat)(t:Ψ)(ns:κ)(cs:Ξ)(cv ov:O)(os:Option (List (Option (List Int))))(hT:TG lo w tb o t)(hC:mX lo w B ns)(bu:t.j<=1000)(b3:ns.j<=1000)(af:TO ae 171 w cv cs)(aM:∀c∈cs,c.g.k.j+xj c.d<=1000/\c.d.j<=900)(bV:cs.j<=1000)(ho:jU w ov os)(bm:(os.g []).j<=2000000)(aY:∀o∈os.g [],(o.g []).j<=1000)(aP:∀n,xP t n<=1000000):
  Calls prog 73 #[cv,.u (Z ⟨tb,o,Y⟩),(π B),ov] w λe w'=>L9 w (vf t ns os cs) e w':=by
 obtain⟨iI,bv,b7,aB,a8⟩:=info_parts S5;obtain⟨iF,bw,bq,bd,aK⟩:=info_parts S0;obtain⟨iR,b8,b5,bg,aX⟩:=info_parts SY;obtain⟨bN,bC,rfl⟩:=af.qy;obtain⟨bU,bE,rfl⟩:=ho.qy;have aZ:=Tg λW h=>M4 W B ns (hC.u h);have aS:=Tg λW h=>N1 lo W tb o t (hT.u h);have be:=Tg λW i h=>Bu lo W tb o t i (hT.u h);have b4:=Tg λW k h=>Ji W _ os k (ho.u h) bm;have b6:X (∀k,((uo os k).g []).j<=1000):=λk=>by
  unfold uo;by_cases hk:k<(os.g []).j;rw[kL,yn hk];exact aY _ (zq hk);rw[kL,gL η];simp
 have aW:X (∀W mb,μ w W->Th W mb #[.u (Z ⟨tb,o,Y⟩),(π B)] 200->n7 lo W mb tb o B t ns):=λW mb h hb=>⟨hb,hT.u h,hC.u h,bu,b3⟩;have bi:=Tg af;have bz:=Tg aM;have b9:=Tg aP;have HE:X (vf t ns os cs={r:=ns.j,M:=t.map (·.jh),facts:=vJ t ns cs,H:=uP t ns os cs}):=rfl;have aC:=λW:U=>run_make (P:=prog) (w:=W) 24 3 iI _ underlying24 bv b7 .i64 .i64 (t.j:Int) (t.j:Int) η (Int.le_refl _) (by rw[a8];omega) η;rw[aB] at aC;clear hT hC af ho aM aY aP;go_enter func73,ntmps73;go_upto_region 3 with (first|(go_at_call 114;refine(aZ.l _ γ).y ?_;rintro e w1 ⟨rfl,y⟩;obtain rfl:=y.z)|(go_at_call 115;refine(aS.l _ γ).y ?_;rintro e w1 ⟨rfl,y⟩;obtain rfl:=y.z))
 have hM:kB w.o.q w ((((w.C (.E #[ι 0,ν,ν,ν] 146)).C (.E #[.u (Z ⟨tb,o,Y⟩),(π B)] 200)).C (.E (madeCells #[ι 0] t.j) 3)).C (.E #[ι ns.j,.k (Z ⟨w.o.q+1+1,0,Y⟩) t.j t.j,ν,ν] 146)) (w.o.q+1+1+1) w.o.q (w.o.q+1) (.u (Z ⟨tb,o,Y⟩)) ((π B)) (.k (Z ⟨w.o.q+1+1,0,Y⟩) t.j t.j) (ν) (ν) ns.j (UC t 0) [] [] []:=by
  refine⟨(Th.new _ _ _).at' ζ,((((Th.new w _ _).up _).up _).up _),((((Th.new _ _ _).up _).up _).at' ζ),?_,xp _ _ _ _,⟨xp _ _ _ _,rfl,λk a=>by simp at a,ζ⟩,γ,η,η,η⟩;have q:=G3 ((w.C (.E #[ι 0,ν,ν,ν] 146)).C (.E #[.u (Z ⟨tb,o,Y⟩),(π B)] 200)) t.j 3 b_;simp only[U.size_alloc] at q;have q2:=zy (yo q (show w.o.q<=w.o.q+1+1 by omega)) ((zn _ _).C (zg _) (.E #[ι ns.j,.k (Z ⟨w.o.q+1+1,0,Y⟩) t.j t.j,ν,ν] 146));rw[As t 0 η,show UC t 0=List.replicate t.j 0 from by simp[UC]];exact q2
 generalize (((w.C (.E #[ι 0,ν,ν,ν] 146)).C (.E #[.u (Z ⟨tb,o,Y⟩),(π B)] 200)).C (.E (madeCells #[ι 0] t.j) 3)).C (.E #[ι ns.j,.k (Z ⟨w.o.q+1+1,0,Y⟩) t.j t.j,ν,ν] 146)=w3 at *;clear aC aZ aS;have a9:=hM.box;obtain⟨an,aR,aL⟩:=a9.e;go_wp2;clear an aR aL a9;have d:X (kB _ _ _ _ _ _ _ _ _ _ _ _ _ _ _ _):=hM;clear hM;go_loopw [29] (λbA wr=>∃k:Nat,k<=t.j/\bA=ι k/\X (kB w.o.q w wr (w.o.q+1+1+1) w.o.q (w.o.q+1) (.u (Z ⟨tb,o,Y⟩)) ((π B)) (.k (Z ⟨w.o.q+1+1,0,Y⟩) t.j t.j) (ν) (ν) ns.j (UC t k) [] [] [])) (λi _=>t.j-(intOf i).D);exact⟨0,zs _,rfl,d⟩;clear d;obtain⟨k,hk,rfl,d⟩:=hrel;have b:=d.l.u;have T:=b.q;by_cases s:k<t.j
 .have ak:=d.l.box;obtain⟨an,aR,aL⟩:=ak.e;have bR:wr.p ⟨w.o.q+1+1+1,1,Y⟩=Z (.k (Z ⟨w.o.q+1+1,0,Y⟩) t.j t.j):=by rw[an];rfl
  have J:=d.l.ari;have ap:=As t k hk;have bQ:(k:Int)<(t.j:Int):=η;obtain⟨g',bD,ao,_,bL,N⟩:=yr J η;simp only[O.slice.injEq,zt,Addr.mk.injEq,and_true] at ao;have bs:=ao.1;clear ao;subst bs;obtain⟨ax,bJ⟩:∃ax:Nat,wr.p ⟨w.o.q+1+1,k,Y⟩=Z (ι (ax:Nat)):=⟨_,N k (ι ((UC t k)[k]'η:Nat)) (by simp[TN,ap,s])⟩;have bH:=vg J;have S:=uB J k υ (ι (yc t k:Nat));have aF:X (((UC t k).map TN).set k (ι (yc t k:Nat))=(UC t (k+1)).map TN):=by rw[X,←IT t k s,lx];rfl
  rw[aF.l,ap] at S;have a1:=Tg λW h=>be.l W k (Tk b h);clear N ap;generalize yc t k=ar at *;go_wp2;go_region_held3 (λw'=>w'.p ⟨w.o.q+1+1+1,1,Y⟩=Z (.k (Z ⟨w.o.q+1+1,0,Y⟩) t.j t.j)) (first|go_keep|(go_simp;done)) (first|(go_at_call 80;refine(a1.l _ γ).y ?_;rintro e w4 ⟨rfl,y⟩;obtain rfl:=y.z))
  go_wp2;have H:kB w.o.q w (wr.x ⟨w.o.q+1+1,k,Y⟩ (ι ar)) (w.o.q+1+1+1) w.o.q (w.o.q+1) (.u (Z ⟨tb,o,Y⟩)) ((π B)) (.k (Z ⟨w.o.q+1+1,0,Y⟩) t.j t.j) (ν) (ν) ns.j (UC t (k+1)) [] [] []:=
   ⟨d.l.box.set_ne η _ _,d.l.res.set_ne η _ _,d.l.mak.set_ne η _ _,by rw[As t (k+1) η];exact S,xp _ _ _ _,⟨xp _ _ _ _,rfl,λk a=>by simp at a,ζ⟩,b.x υ _,d.l.low⟩
  go_roundw;exact⟨k+1,η,ξ,H.next ((zn _ _).drew) (zg _)⟩;simp[intOf];omega
 have bt:k=t.j:=η;subst bt;rw[Li] at d;clear hk s be;go_wp2;go_loopw [42] (λbr wr=>∃(k:Nat) (fv rv:O) (ps:List (O×O×O)),k<=cs.j/\br=ι k/\X (kB w.o.q w wr (w.o.q+1+1+1) w.o.q (w.o.q+1) (.u (Z ⟨tb,o,Y⟩)) ((π B)) (.k (Z ⟨w.o.q+1+1,0,Y⟩) t.j t.j) fv rv ns.j (t.map (·.jh)) (vJ t ns (cs.G k)) (uP t ns os (cs.G k)) ps)) (λi _=>cs.j-(intOf i).D);exact⟨0,_,_,_,zs _,rfl,d⟩;clear d b T;obtain⟨k,fv,rv,ps,hk,rfl,d⟩:=hrel;have b:=d.l.u;have T:=b.q;by_cases s:k<cs.j
 .obtain⟨g,bb,aa,aT,ab,b0,hg,a2,aI,aG,a0,aV,aU⟩:=bi.l.cell k s;subst b0;have bW:=zi b hg a2;have bI:=zi b hg aI;have bG:=zi b hg aG;have bT:=zi b hg a0;have bS:g<wr.o.q:=η;obtain⟨b2,bk⟩:=bz.l cs[k] (zq s);have F:=Rz t ns cs k s;have D:=M5 t ns os cs k s;have ba:X (Tn ae w _ _):=aV;have a7:X (TL ae w _ _):=aU;have bx:=Q4 t ns (cs.G k);have a6:=Ja t ns os (cs.G k);rw[vc,gV η] at bx a6;clear a2 aI aG a0 aV aU;generalize cs[k]=c at *;by_cases aE:c.d.j>0
  .have bh:(c.d.j:Int)>0:=η;simp only[aE,if_true,qb] at F D;have aj:=Tg F;have aq:=Tg D;clear F D;generalize vJ t ns (cs.G k)=A at *;generalize uP t ns os (cs.G k)=rs at *;have aJ:=Tg λW u h hu=>QO W (w.o.q+1) tb o B t ns c _ _ u (uo os k) (aW.l W _ (Tk b h) (d.l.mak.u h)) (ba.l.u (Tk b h)) (a7.l.u (Tk b h)) b2 bk hu (b6.l k) (b9.l _);have aO:=Tg λW h=>b4.l W k (Tk b h);generalize vH t ns c (uo os k)=r at *;have x:=d.l.rul.own;obtain⟨M,z,aw⟩:=zr x;subst aw;have aD:X (∀W u,μ wr W->xV W u (uo os k)->Calls prog 117 #[.u (Z ⟨w.o.q+1,0,Y⟩),.agg #[.i c.g.i,.d c.g.o,.k bb c.g.k.j aa,.k aT c.d.j ab],u] W λe w'=>∃tv pv nv,e=ε (.agg #[ι r.L,ι r.m,ι r.g.o,tv,pv,nv])/\vG W.o.q w' tv pv nv r/\μ W w'):=aJ;clear aJ;go_wp2_with (first|(go_at_call 116;refine(aO.l _ γ).y ?_;rintro e w1 ⟨u,rfl,hu,y⟩;obtain rfl:=y.z;obtain⟨bO,bF,rfl⟩:=hu.qy)|(go_at_call 117;refine(aD.l _ _ γ hu).y ?_;rintro e w2 ⟨tv,pv,nv,rfl,K,am⟩;obtain⟨a5,V,rfl⟩:=K.g.qy;obtain⟨aA,Q,rfl⟩:=K.qc.qy;obtain⟨bc,R,rfl⟩:=K.qx.qy;have l:μ wr w2:=(zQ γ am (zg _));have m:=d.l.box.u l;obtain⟨au,ah,ay⟩:=m.e;have bB:=l.q;have j:=zy x l)|(at_builtin;refine kc w2 _ [ι r.L,ι r.m,ι r.g.o,.k a5 r.g.v.j V,.k aA r.qc.j Q,.k bc r.qx.j R] _ rfl (.tmp 58) (.tmp 60) 144 rfl w.o.q 207 iR _ 6 96 underlying144 b8 b5 bg aX rfl θ (.k M rs.j z) rs.j (gD rs ps) rfl j γ _ _ rfl ζ rfl a_ η η η ?_;intro v' w3 I E aQ;obtain⟨a4,ac,rfl⟩:=zr I;have G:=m.saveT E (T2.own j) θ;obtain⟨ai,ad,av⟩:=G.e))
   have a3:vG w.o.q w2 _ _ _ r:=K.low (show w.o.q<=_ by simp;omega);have H:kB _ _ _ _ _ _ _ _ _ _ _ _ _ _ _ _:=(d.l.next l (zg _)).pushR E (qH.push (r:=r) (p:=(.k a5 r.g.v.j V,.k aA r.qc.j Q,.k bc r.qx.j R)) (d.l.rul.u l) η a3 I E) η;go_roundw;exact⟨k+1,_,_,_,η,ξ,by rw[aj.l,aq.l];exact H⟩;simp[intOf];omega
  have bh:¬(c.d.j:Int)>0:=η;simp only[aE,if_false,qb] at F D;have aj:=Tg F;have aq:=Tg D;clear F D;generalize vJ t ns (cs.G k)=A at *;generalize uP t ns os (cs.G k)=rs at *;have bf:=Tg λW h=>MD W (w.o.q+1) tb o B t ns c _ _ (aW.l W _ (Tk b h) (d.l.mak.u h)) (ba.l.u (Tk b h)) (a7.l.u (Tk b h)) η;generalize qq t ns c=f at *;have aH:X (∀W,μ wr W->Calls prog 118 #[.u (Z ⟨w.o.q+1,0,Y⟩),.agg #[.i c.g.i,.d c.g.o,.k bb c.g.k.j aa,.k aT c.d.j ab]] W λe w'=>e=ε (.agg #[ι f.o,ι (f.row.g 0 0:Nat),ι (f.row.g 1 0:Nat),ι (f.row.g 2 0:Nat)])/\μ W w'):=bf;have bo:X (kX (A++[f])=kX A++[ι f.o,ι (f.row.g 0 0:Nat),ι (f.row.g 1 0:Nat),ι (f.row.g 2 0:Nat)]):=Jb A f;clear bf;generalize f.row.g 0 0=f0 at *;generalize f.row.g 1 0=f1 at *;generalize f.row.g 2 0=f2 at *;have x:wr.r w.o.q 210 4 fv A.j (kX A):=d.l.fac;obtain⟨L,C,al⟩:=zr x;subst al;go_wp2_with (first|(go_at_call 118;refine(aH.l _ γ).y ?_;rintro e w2 ⟨rfl,am⟩;have l:μ wr w2:=(zQ γ am (zg _));have m:=d.l.box.u l;obtain⟨au,ah,ay⟩:=m.e;have bB:=l.q;have j:=zy x l)|(at_builtin;refine kc w2 _ [ι f.o,ι f0,ι f1,ι f2] _ rfl (.tmp 66) (.tmp 68) 143 rfl w.o.q 210 iF _ 4 32 underlying143 bw bq bd aK rfl θ (.k L A.j C) A.j (kX A) rfl j γ _ _ rfl ζ rfl a_ η η η ?_;intro v' w3 I E aQ;obtain⟨a4,ac,rfl⟩:=zr I;have G:=m.saveT E (T2.own j) θ;obtain⟨ai,ad,av⟩:=G.e))
  have b1:sT w.o.q w3 (.k a4 (A.j+1) ac) (A++[f]):=by
   unfold sT;rw[bo.l,yN];exact I
  have H:kB _ _ _ _ _ _ _ _ _ _ _ _ _ _ _ _:=(d.l.next l (zg _)).pushF E b1 η;go_roundw;exact⟨k+1,_,_,_,η,ξ,by rw[aj.l,aq.l];exact H⟩;simp[intOf];omega
 have bp:X (cs.G k=cs):=by rw[X,yV η]
 rw[bp.l] at d;have ak:=d.l.box;have aN:=d.l.res;obtain⟨bX,bM,bP⟩:=ak.e;obtain⟨bn,bK,a6⟩:=aN.e;obtain⟨L,C,al⟩:=zr d.l.fac;obtain⟨M,z,aw⟩:=zr d.l.rul.own;subst al;subst aw;generalize vJ t ns cs=A at *;generalize uP t ns os cs=rs at *;go_wp2
 (try simp only[Exit.inBlock,Exit.then])
 refine zO (v:=.agg #[ι ns.j,.k (Z ⟨w.o.q+1+1,0,Y⟩) t.j t.j,.k L A.j C,.k M rs.j z]) (by simp[results,results73,go_sem,bn]) rfl ⟨_,_,_,ps,by rw[HE.l],?_,?_⟩;have ag:zd [w.o.q] wr ((((wr.x ⟨w.o.q,0,Y⟩ (ι ns.j)).x ⟨w.o.q,1,Y⟩ (.k (Z ⟨w.o.q+1+1,0,Y⟩) t.j t.j)).x ⟨w.o.q,2,Y⟩ (.k L A.j C)).x ⟨w.o.q,3,Y⟩ (.k M rs.j z)):=(((zd.set _ _ _ _).A (zd.set _ _ _ _)).A (zd.set _ _ _ _)).A (zd.set _ _ _ _);have az:=T2.box aN;rw[HE.l];exact⟨yJ d.l.ari ag az θ,yJ d.l.fac ag az θ,d.l.rul.saveT ag az θ θ θ⟩;exact(((b.x ζ _).x ζ _).x ζ _).x ζ _
end
section
variable {cs:List zc}{t t0:List zf}{c:zc}{vs:κ}
structure Ty (cs:List zc) (t0 t:List zf):Prop where
 K:UA cs<=500
 many:∀c∈cs,yR c=false
 coll:uC cs=Z t0
 tab:U2 t0 (cs.flatMap zm)
 safe:∀c∈cs,xB c=true
 jm:ul (t0.j+1) t0 cs=(t,true)
def FJ{s:ByteArray}(h:uF s=.ok (cs,t)):∃t0,Ty cs t0 t:=by
 unfold uF at h;split at h;cases h;rename_i m;split at h;cases h;rename_i l k;split at h;cases h;rename_i f j;split at h;cases h;rename_i g;split at h;cases h;rename_i t0 e;split at h;rename_i a;split at h;rename_i b;obtain⟨rfl,rfl⟩:=h;refine⟨t0,?_,λc d=>?_,e,Dn e,λc d=>gd.1 a c d,?_⟩;have o:=ix j;have n:=eP k;omega;cases i:yR c;rfl;exact zB (fc.2 ⟨c,d,i⟩) g;rw[←b];cases h;cases h
def Uc(t:List zf):List (ByteArray×Nat):=t.w λe=>(e.name,e.jh)
def JO(t:Ψ)(n:ByteArray)(s:Nat):Uc (xW t n s).1=Uc t:=by
 unfold xW;split;rfl;rename_i e a;split;rfl;obtain⟨g,d,f⟩:=jw a;unfold Uc;refine jy ζ λi j h=>?_;simp only[ub,lV];split;rename_i b;subst b;rw[d];rfl
def Ei:∀(cs:Ξ) (x:Ψ×Bool),Uc (cs.H vZ x).1=Uc x.1
 |[],_=>rfl
 |c::cs,x=>by
  rw[uG,Ei cs];exact JO _ _ _
def ru:∀(m:Nat) (t:Ψ) (cs:Ξ),Uc (ul m t cs).1=Uc t
 |0,_,_=>rfl
 |m+1,t,cs=>by
  have a:Uc (qk t cs).1=Uc t:=Ei cs (t,false);unfold ul;split
  .rw[ru m,a]
  .exact a
def Dl{a:Ψ}(h:Uc t=Uc a):Ti t=Ti a:=by
 have:=congrArg (List.map Prod.fst) h;simpa [Uc,Ti,Function.comp_def] using this
def Ty.lit(h:Ty cs t0 t)(v:c∈cs){l:zj}(r:l∈zm c):∃e,zU t l.o=Z e/\e.name=l.o/\zC t l.o<t.j/\(t.w (·.jh)).g (zC t l.o) 0=l.k.j/\zC t l.o=zV t l.o:=by
 have g:Uc t=Uc t0:=by have:=ru (t0.j+1) t0 cs;rw[h.jm] at this;exact this
 have a:=ve.2 ⟨c,v,r⟩;have f:(zU t0 l.o).I=true:=by
  rcases j:zU t0 l.o with _|e;obtain⟨e,p,w⟩:=zF.1 ((h.tab.names l.o).2 ⟨l,a,rfl⟩);exact zB w (rp h.tab.rise j e p);rfl
 have i:=(CZ (Dl g).z _).1 f;obtain⟨e,j⟩:=mh.1 i;obtain⟨m,o,n⟩:=jw j;have b:zC t l.o=zV t l.o:=by unfold zC;rw[zb i]
 refine⟨e,j,n,by rw[b];exact m,?_,b⟩;rw[b];have s:(t.w (·.jh)).g (zV t l.o) 0=e.jh:=by simp[List.getD,m,o]
 rw[s];have d:(e.name,e.jh)∈Uc t0:=by
  rw[←g];exact zF.2 ⟨e,by rw[←o];exact zq m,rfl⟩
 obtain⟨u,q,k⟩:=zF.1 d;simp only[ye] at k;rw[←k.2];exact(h.tab.jh u q l a (by rw[k.1,n])).z
def Ty.sol(h:Ty cs t0 t):Ul cs (val t):=by
 have b:kJ t0 cs:=by
  intro c i l f;have a:=ve.2 ⟨c,i,f⟩;rcases g:zU t0 l.o with _|e;obtain⟨e,d,j⟩:=zF.1 ((h.tab.names l.o).2 ⟨l,a,rfl⟩);exact zB j (rp h.tab.rise g e d);rfl
 have:=eQ (t0.j+1) t0 cs b (by rw[h.jm]);rw[h.jm] at this;exact this
def wF(t:Ψ)(n:ByteArray):xP t n=val t n:=rfl
def Kh{a b:ByteArray}{d f:zf}(k:zU t a=Z d)(j:zU t b=Z f)(e:zV t a=zV t b):a=b:=by
 obtain⟨m,i,l⟩:=jw k;obtain⟨n,g,h⟩:=jw j;have:d=f:=by rw[←i,←g];simp[e]
 rw[←l,←h,this]
def rh(p:Nat)(ts:List yi)(x:yi):(jH p ts x).var=x.var/\(jH p ts x).z=x.z:=by unfold jH;split<;>exact⟨rfl,rfl⟩
def oR(t:Ψ)(ns vs:κ)(a:Φ)(l:zj)(p:Nat):zK (zL t ns vs a l) p=zK ⟨0,ut ns vs a l⟩ p:=by
 unfold zK zL;simp only[List.any_map];congr 1;funext x;simp only[Function.comp,(rh 0 _ x).1,(rh 0 _ x).2]
def Ju(t:Ψ)(ns vs:κ)(a:Φ)(l:zj)(p:Nat):xh (zL t ns vs a l) p=xh ⟨0,ut ns vs a l⟩ p:=by
 unfold xh;rw[oR,show zK (zL t ns vs a l)=zK ⟨0,ut ns vs a l⟩ from funext (oR t ns vs a l)]
def Ny(ns:κ)(x:ByteArray):(xr ns x).g 0<zM ns.j:=by
 unfold xr zM;split;rename_i h;simp only[uD];split<;>omega
 simp only[kG];split<;>omega
def eO(t:Ψ)(ns vs:κ)(a:Φ)(l:zj)(o:∀k,a.g k 0<5)(q:l.k.j<=3):qz (zL t ns vs a l) l.k.j (zM ns.j):=by
 have b:∀x∈(zL t ns vs a l).v,∃y∈l.k,x=jH 0 (ut ns vs a l) (uR ns vs a y)/\uR ns vs a y∈ut ns vs a l:=by
  intro x e;unfold zL at e;simp only[zF] at e;obtain⟨z,f,rfl⟩:=e;have g:=f;unfold ut at f;obtain⟨y,h,rfl⟩:=zF.1 f;exact⟨y,h,rfl,g⟩
 refine⟨by simp[zL,ut],q,λx e d=>?_,λx e d=>?_⟩;obtain⟨y,h,rfl,j⟩:=b x e;obtain⟨m,n⟩:=rh 0 (ut ns vs a l) (uR ns vs a y);rw[m] at d;rw[n,Ju];refine⟨?_,?_⟩;unfold uR at d ⊢;split;unfold uX;split;exact Nat.lt_of_sub_eq_succ rfl;split;exact Nat.lt_of_sub_eq_succ rfl;exact o _;rename_i i;rw[za i] at d;cases d;have p:zK ⟨0,ut ns vs a l⟩ (uR ns vs a y).z=true:=(fJ _ _).2 ⟨_,j,d,rfl⟩;unfold jH;rw[zb d];simp only;unfold xh;rw[zb p];rfl;obtain⟨y,h,rfl,j⟩:=b x e;obtain⟨m,n⟩:=rh 0 (ut ns vs a l) (uR ns vs a y);unfold uR at d ⊢;split;rename_i i;rw[zb i] at d;cases d;exact Ny ns y
def B7{ns:κ}{b:Φ}{l:zj}{p:Nat}:zK (zL t ns vs b l) p=true↔∃y∈l.k,zT y=true/\uX vs b y=p:=by
 rw[oR,fJ];constructor;rintro⟨x,h,g,f⟩;unfold ut at h;obtain⟨y,d,rfl⟩:=zF.1 h;unfold uR at g f;by_cases a:zT y=true;rw[zb a] at f;exact⟨y,d,a,f⟩;rw[za a] at g;cases g;rintro⟨y,d,a,e⟩;refine⟨uR ns vs b y,zF.2 ⟨y,d,rfl⟩,?_,?_⟩;unfold uR;rw[zb a];unfold uR;rw[zb a];exact e
def KD(h:vs.Nodup)(x:ByteArray):(jX vs x).Nodup:=by
 unfold jX;split;rename_i d;simp only[uK,tp] at d;rw[sj];refine⟨h,ζ,λa f b e=>?_⟩;simp at e;subst e;rintro rfl;rw[vO.2 f] at d;cases d.2;exact h
def C2:∀(args vs:κ),vs.Nodup->(xG vs args).Nodup
 |[],_,h=>h
 |x::r,vs,h=>C2 r (jX vs x) (KD h x)
def DZ(c:zc):(zx c).Nodup:=by
 have:∀(a:Ω) (vs:κ),vs.Nodup->(a.H qd vs).Nodup:=by
  intro a;induction a with
  |nil=>intro vs h;exact h
  |cons l a b=>
   intro vs h;rw[uG];refine b _ ?_;unfold qd;split;exact h;exact C2 _ _ h
 exact this c.d [] List.nodup_nil
def mU{α:Type}[DecidableEq α]:∀{l1 l2:List α},l1.Nodup->(∀x∈l1,x∈l2)->l1.j<=l2.j
 |[],l2,_,_=>ζ
 |a::l1,l2,f,e=>by
  have d:=e a ζ;have h:=mU (l1:=l1) (l2:=l2.erase a) (jp.1 f).2 (λx g=>by
   have b:x≠a:=by rintro rfl;exact(jp.1 f).1 g
   exact(me b).2 (e x (by simp[g])))
  rw[mN d] at h;have:=nI d;simp;omega
def GZ:∀{l:κ} (_:l.Nodup) {k:Nat} (f:k<l.j),yA l l[k]=Z k
 |y::r,d,0,_=>by simp[yA]
 |y::r,d,k+1,f=>by
  have a:k<r.j:=by simpa using f
  have b:y≠r[k]:=by
   rintro e;exact(jp.1 d).1 (e ▸ zq a)
  simp only[pC,yA,za b,GZ (jp.1 d).2 a,jZ]
def ew:∀{ps:κ} {n:ByteArray},n∈ps->∃k,k<ps.j/\yA ps n=Z k:=fun{ps n} h=>by
 have:(yA ps n).I=true:=by rw[B6];exact vO.2 h
 obtain⟨k,a⟩:=mh.1 this;obtain⟨b,_⟩:=lN a;exact⟨k,b,a⟩
def mI(h:yR c=false):c.g.k.j<=3/\c.d.j<=6/\(∀l∈c.d,l.k.j<=3)/\(uq c).j<=5:=by
 simp only[yR,pN,decide_eq_false_iff_not,List.any_eq_false,decide_eq_true_eq] at h;obtain⟨⟨⟨e,d⟩,b⟩,f⟩:=h;exact⟨η,η,λl a=>by have:=b l a;omega,η⟩
def fL(h:yR c=false):(zx c).j<=5:=by
 have f:=(mI h).2.2.2;have:=mU (DZ c) (l2:=uq c) (λx e=>by
  obtain⟨a,l,b,_,d⟩:=fm.1 e;exact ev.2 ⟨a,ze ⟨l,b,d⟩⟩)
 omega
structure ka (pl:List Nat) (k:Nat):Prop where
 five:∀i,pl.g i 0<5
 low:∀i,i<k->pl.g i 0<k
 onto:∀p,p<k->∃i,i<k/\pl.g i 0=p
def Cf(h:Ty cs t0 t)(u:c∈cs)(ns:κ)(o:Option (List Int))(v:ka (yL (o.g [])) (zx c).j):p4 (vH t ns c o) (t.w (·.jh)) (zM ns.j):=by
 have E:=h.many c u;obtain⟨M,T,G,V⟩:=mI E;have I:=fL E;have w:=h.safe c u;simp only[xB,uK,gd,lz,tp] at w;have a:∀{l:zj} {p:Nat},(∀y∈l.k,zT y=true->y∈zx c)->zK (zL t ns (zx c) (yL (o.g [])) l) p=true->p<(zx c).j:=by
  intro l p s m;obtain⟨y,P,J,r⟩:=B7.1 m;obtain⟨k,Q,S⟩:=ew (s y P J);unfold uX at r;rw[S] at r;simp only at r;rw[za η] at r;rw[←r];exact v.low k Q
 have f:=nN.1 w.1;have d:∀l∈c.d,∀y∈l.k,zT y=true->y∈zx c:=by
  intro l b y C s;cases D:l.i;exact fm.2 ⟨s,l,b,D,C⟩;rcases w.2 l b with q|q;rw[D] at q;cases q;exact nN.1 q y C s
 have j:∀l∈c.d,(zL t ns (zx c) (yL (o.g [])) l).o<(t.w (·.jh)).j/\qz (zL t ns (zx c) (yL (o.g [])) l) ((t.w (·.jh)).g (zL t ns (zx c) (yL (o.g [])) l).o 0) (zM ns.j):=by
  intro l b;obtain⟨e,_,_,A,B,_⟩:=h.lit u (l:=l) (by simp[zm,b]);refine⟨by simpa [zL] using A,?_⟩;show qz _ ((t.w (·.jh)).g (zC t l.o) 0) _;rw[B];exact eO t ns _ _ l v.five (G l b)
 obtain⟨e,_,_,A,B,_⟩:=h.lit u (l:=c.g) (by simp[zm]);refine⟨⟨I,λl b=>?_,λl b p m=>?_,λl b p m=>?_,λp m=>a f m,λp z=>?_⟩,by simpa [vH,zL] using A,?_,λl b=>?_,λl b=>?_⟩;obtain⟨x,g,rfl⟩:=zF.1 b;have:=G x (xz.1 g).1;simp[zL,ut];omega;obtain⟨x,g,rfl⟩:=zF.1 b;exact a (d x (xz.1 g).1) m;obtain⟨x,g,rfl⟩:=zF.1 b;exact a (d x (xz.1 g).1) m;obtain⟨i,F,R⟩:=v.onto p z;have n:=zq F;obtain⟨L,l,K,N,H⟩:=fm.1 n;refine⟨_,zF.2 ⟨l,xz.2 ⟨K,by simp[N]⟩,rfl⟩,B7.2 ⟨_,H,L,?_⟩⟩;unfold uX;rw[GZ (DZ c) F];simp only;rw[za η];exact R;show qz _ ((t.w (·.jh)).g (zC t c.g.o) 0) _;rw[B];exact eO t ns _ _ c.g v.five M;obtain⟨x,g,rfl⟩:=zF.1 b;exact j x (xz.1 g).1;obtain⟨x,g,rfl⟩:=zF.1 b;exact j x (xz.1 g).1
def tT(h:Ty cs t0 t)(ns:κ)(os:Option (List (Option (List Int))))(hp:∀i (d:i<cs.j),ka (yL ((uo os i).g [])) (zx cs[i]).j):rJ (vf t ns os cs):=by
 have A:∀a∈t.w (·.jh),a<=3:=by
  intro a ha;obtain⟨e,Q,rfl⟩:=zF.1 ha;have C:Uc t=Uc t0:=by have:=ru (t0.j+1) t0 cs;rw[h.jm] at this;exact this
  have n:(e.name,e.jh)∈Uc t0:=by rw[←C];exact zF.2 ⟨e,Q,rfl⟩
  obtain⟨D,M,J⟩:=zF.1 n;simp only[ye] at J;obtain⟨l,K,l2⟩:=(h.tab.names D.name).1 (zF.2 ⟨D,M,rfl⟩);have:=h.tab.jh D M l K l2;obtain⟨c,G,w⟩:=ve.1 K;obtain⟨q1,_,E,_⟩:=mI (h.many c G);rw[←J.2,←this];rcases zG.1 w with rfl|w;exact q1;exact E l w
 have H:0<zM ns.j:=by unfold zM;split<;>omega
 have b:∀r∈uP t ns os cs,∃i,∃d:i<cs.j,0<cs[i].d.j/\r=vH t ns cs[i] (uo os i):=by
  intro r o;unfold uP at o;obtain⟨⟨c,i⟩,h1,q⟩:=mP.1 o;have N:=su.1 h1;simp only at q N;obtain⟨d,rfl⟩:=j5.1 N;split at q;rename_i hb;simp only[zt] at q;exact⟨i,d,hb,q.z⟩;cases q
 refine⟨A,λf V=>?_,λr o=>?_,λr o W I B l w=>?_⟩;have s:f∈vJ t ns cs:=V;unfold vJ at s;obtain⟨c,G,rfl⟩:=zF.1 s;have u:=(xz.1 G).1;obtain⟨e,_,_,E,q4,_⟩:=h.lit u (l:=c.g) (by simp[zm]);have v:qz (zL t ns [] [0,0,0,0,0] c.g) c.g.k.j (zM ns.j):=eO t ns [] _ c.g (λk=>by
  by_cases hk:k<5;have:k=0∨k=1∨k=2∨k=3∨k=4:=η;rcases this with rfl|rfl|rfl|rfl|rfl<;>decide
  simp[List.getD,List.getElem?_eq_none (show([0,0,0,0,0]:Φ).j<=k by simp;omega)]) (mI (h.many c u)).1
 refine⟨by simpa [qq,vf] using E,?_,?_⟩;show T0 ((t.w (·.jh)).g (zC t c.g.o) 0) _;rw[q4];exact iw v _;refine Ef v H λp _=>?_;by_cases hk:p<5;have:p=0∨p=1∨p=2∨p=3∨p=4:=η;rcases this with rfl|rfl|rfl|rfl|rfl<;>exact H
 rw[show([0,0,0,0,0]:Φ).g p 0=0 by simp[List.getD,List.getElem?_eq_none (show([0,0,0,0,0]:Φ).j<=p by simp;omega)]];exact H;obtain⟨i,d,_,rfl⟩:=b r o;exact Cf h (zq d) ns _ (hp i d);obtain⟨i,d,_,rfl⟩:=b r o;obtain⟨j,hj,_,rfl⟩:=b W I;obtain⟨x,P,rfl⟩:=zF.1 w;have y:=(xz.1 P).1;have F:x.i=true:=by simpa using(xz.1 P).2
 have g:=h.sol cs[i] (zq d) x y;unfold up at g;rw[zb F] at g;obtain⟨e1,a1,_,_,_,R⟩:=h.lit (zq d) (l:=x) (by simp[zm,y]);obtain⟨e2,S,_,_,_,T⟩:=h.lit (zq hj) (l:=cs[j].g) (by simp[zm]);intro e;have L:zC t x.o=zC t cs[j].g.o:=e;rw[R,T] at L;have m:=Kh a1 S L;have z:xP t cs[i].g.o=xP t cs[j].g.o:=B;rw[wF,wF,←m] at z;omega
def pu{k:Nat}(f:k<=5):ka (yL []) k:=by
 have e:yL []=[0,1,2,3,4]:=rfl;have b:∀i,i<5->([0,1,2,3,4]:Φ).g i 0=i:=by
  intro i a;have:i=0∨i=1∨i=2∨i=3∨i=4:=η;rcases this with rfl|rfl|rfl|rfl|rfl<;>rfl
 rw[e];refine⟨λi=>?_,λi a=>by rw[b i η];exact a,λp d=>⟨p,d,b p η⟩⟩;by_cases a:i<5;rw[b i a];exact a;simp[List.getD,List.getElem?_eq_none (show([0,1,2,3,4]:Φ).j<=i by simp;omega)]
end
section
open Classical
def Ty.low{cs:Ξ}{a t:Ψ}(h:Ty cs a t):t.j=a.j/\t.j<=500/\∀n,xP t n<=t.j:=by
 have f:Uc t=Uc a:=by have:=ru (a.j+1) a cs;rw[h.jm] at this;exact this
 have d:t.j=a.j:=by have:=congrArg List.length f;simpa [Uc] using this
 have r:=iO _ [] a h.coll;have s:=ot cs;have u:=h.K;simp only[qW,vx] at r;have i:kJ a cs:=by
  intro c m l k;have g:=ve.2 ⟨c,m,k⟩;rcases b:zU a l.o with _|e;obtain⟨e,q,j⟩:=zF.1 ((h.tab.names l.o).2 ⟨l,g,rfl⟩);exact zB j (rp h.tab.rise b e q);rfl
 have p:∀n,val a n=0:=λn=>by
  unfold val;split;rename_i e b;have:=iq _ [] (λe b=>by cases b) a h.coll e (pQ b).1;omega;rfl
 have o:=(ef i p).2 (by rw[h.jm]);rw[h.jm] at o;refine⟨d,η,λn=>?_⟩;rw[wF];by_cases j:n∈Ti a;have:=Ap o (ps:=Ti a) (λc m l k=>(h.tab.names l.o).2 ⟨l,ve.2 ⟨c,m,k⟩,rfl⟩) j;simp[Ti] at this;show val t n<=_;omega;have:val t n=0:=BK (by rw[Dl f];exact j);omega
def GS(cs:Ξ):lL cs<=UA cs:=by
 induction cs with
 |nil=>simp[lL,UA]
 |cons c cs d=>
  have f:=wk c.d;have e:dS c.d=xj c.d:=by
   have:∀b:Ω,dS b=xj b:=by
    intro b;induction b with
    |nil=>rfl
    |cons a b d=>simp[dS,xj,kU] at d ⊢;omega
   exact this _
  simp[lL,UA,US,gG,kU] at d ⊢;omega
end
section
variable {ns:κ}
def tH(h:y9 ns){i j:Nat}(a:i<j)(b:j<ns.j):TB (ns.g i ByteArray.empty) (ns.g j ByteArray.empty)=true:=by
 have c:i<ns.j:=η;rw[Tl _ c,Tl _ b];exact rx.1 h i j c b a
def Ki(h:y9 ns)(x:ByteArray):∀(n l a:Nat),l<=a->a<=ns.j->a-l<n->(∀i,i<l->TB (ns.g i ByteArray.empty) x=true)->(∀i,a<=i->i<ns.j->TB (ns.g i ByteArray.empty) x=false)->TJ ns x n l a<=ns.j/\(∀i,i<TJ ns x n l a->TB (ns.g i ByteArray.empty) x=true)/\∀i,TJ ns x n l a<=i->i<ns.j->TB (ns.g i ByteArray.empty) x=false:=by
 intro n;induction n with
 |zero=>intro l a _ _ q;omega
 |succ n j=>
  intro l a u r v o p;unfold TJ;by_cases d:l<a;rw[zb d];have t:l+(a-l) / 2<a:=η;have g:l<=l+(a-l) / 2:=η;generalize l+(a-l) / 2=m at *;by_cases e:TB (ns.g m ByteArray.empty) x=true;rw[zb e];refine j (m+1) a η r η (λi k=>?_) p;by_cases b:i=m;rw[b];exact e;exact lt_trans (tH h (show i<m by omega) η) e;rw[za e];have c:TB (ns.g m ByteArray.empty) x=false:=by simpa using e
  refine j l m g η η o (λi k f=>?_);by_cases b:i=m;rw[b];exact c;cases s:TB (ns.g i ByteArray.empty) x;rfl;have:=lt_trans (tH h (show m<i by omega) f) s;rw[this] at c;cases c;rw[za d];exact⟨η,o,λi k f=>p i η f⟩
def D4(h:y9 ns)(x:ByteArray):ur ns x<=ns.j/\(∀i,i<ur ns x->TB (ns.g i ByteArray.empty) x=true)/\∀i,ur ns x<=i->i<ns.j->TB (ns.g i ByteArray.empty) x=false:=
 Ki h x _ 0 ns.j (zs _) (zg _) η (λi a=>η) (λi a b=>η)
def sX(h:y9 ns){v:Nat}(a:v<ns.j):xr ns (ns.g v ByteArray.empty)=Z v:=by
 obtain⟨e,d,c⟩:=D4 h (ns.g v ByteArray.empty);have b:ur ns (ns.g v ByteArray.empty)=v:=by
  rcases rm (ur ns (ns.g v ByteArray.empty)) v with q|q|q;have:=c _ (zg _) η;rw[tH h q a] at this;cases this;exact q;have:=d v q;rw[Tv] at this;cases this
 unfold xr;rw[b,zb ⟨a,rfl⟩]
def pX{x:ByteArray}{v:Nat}(h:xr ns x=Z v):v<ns.j/\ns.g v ByteArray.empty=x:=by
 unfold xr at h;split at h;rename_i a;simp only[zt] at h;subst h;exact a;cases h
def Cw(h:y9 ns){x:ByteArray}(b:x∈ns):∃v,xr ns x=Z v/\v<ns.j:=by
 obtain⟨v,a,rfl⟩:=vd b;have:=sX h a;rw[Tl _ a] at this;exact⟨v,this,a⟩
def Pm(h:y9 ns)(x:ByteArray):y9 (mO ns x)/\∀y,y∈mO ns x↔y=x∨y∈ns:=by
 unfold mO;obtain⟨A,w,t⟩:=D4 h x;by_cases f:ur ns x<ns.j/\ns.g (ur ns x) ByteArray.empty=x;rw[zb f];refine⟨h,λy=>⟨ze,λq=>q.elim (λe=>?_) id⟩⟩;rw[e,←f.2,Tl _ f.1];exact zq f.1;rw[za f];generalize ur ns x=p at *;refine⟨?_,λy=>?_⟩;unfold y9;have o:=kj p ns;have c:=h;unfold y9 at c;rw[←o,m7] at c;rw[m7,lH];have m:∀a∈ns.G p,TB a x=true:=λa j=>by
  obtain⟨i,n,rfl⟩:=vd j;have l:i<p:=by simp at n;omega
  have d:i<ns.j:=η;have:=w i l;rw[Tl _ d] at this;simpa using this
 have k:∀b∈ns.drop p,TB x b=true:=λb g=>by
  obtain⟨i,n,rfl⟩:=vd g;have d:p+i<ns.j:=by simp at n;omega
  have u:=t (p+i) η d;rw[Tl _ d] at u;rw[List.getElem_drop];cases v:TB x ns[p+i];exfalso;have e:=sV u v;by_cases s:i=0;subst s;exact f ⟨η,by rw[Tl _ η];simpa using e⟩;have r:=tH h (show p<p+i by omega) d;rw[Tl _ d,e] at r;have z:=t p (zg _) η;rw[z] at r;cases r;rfl
 refine⟨c.1,⟨k,c.2.1⟩,λa j b g=>?_⟩;rcases zG.1 g with rfl|g;exact m a j;exact c.2.2 a j b g;have:y∈ns↔y∈ns.G p∨y∈ns.drop p:=by
  rw[←ya,kj]
 rw[this];simp only[ya,zG];constructor;rintro(q|q|q);exact ze (zh q);exact zh q;exact ze (ze q);rintro(q|q|q);exact ze (zh q);exact zh q;exact ze (ze q)
def LW(h:y9 ns)(x:ByteArray):y9 (qM ns x)/\∀y,y∈qM ns x↔(y=x/\zT x=false)∨y∈ns:=by
 unfold qM;cases a:zT x;simpa using Pm h x;simp[h]
def AL:∀(xs:κ) {ns:κ},y9 ns->y9 (xs.H qM ns)/\∀y,y∈xs.H qM ns↔(y∈xs/\zT y=false)∨y∈ns
 |[],ns,h=>⟨h,λy=>ζ⟩
 |x::xs,ns,h=>by
  obtain⟨e,d⟩:=LW h x;obtain⟨c,f⟩:=AL xs e;refine⟨c,λy=>?_⟩;rw[uG,f,d];simp only[zG];constructor
  .rintro(⟨b,a⟩|⟨rfl,a⟩|q)
   .exact zh ⟨ze b,a⟩
   .exact zh ⟨zh rfl,a⟩
   .exact ze q
  .rintro(⟨rfl|b,a⟩|q)
   .exact ze (zh ⟨rfl,a⟩)
   .exact zh ⟨b,a⟩
   .exact ze (ze q)
def Gd:∀(a:Ω) {ns:κ},y9 ns->y9 (a.H uV ns)/\∀y,y∈a.H uV ns↔(∃l∈a,y∈l.k/\zT y=false)∨y∈ns
 |[],ns,h=>⟨h,λy=>ζ⟩
 |l::a,ns,h=>by
  obtain⟨e,d⟩:=AL l.k h;obtain⟨c,f⟩:=Gd a (ns:=uV ns l) e;refine⟨c,λy=>?_⟩;have b:∀y,y∈uV ns l↔(y∈l.k/\zT y=false)∨y∈ns:=d;rw[uG,f,b];simp only[zG,exists_eq_or_imp];constructor
  .rintro(q|q|q)
   .exact zh (ze q)
   .exact zh (zh q)
   .exact ze q
  .rintro((q|q)|q)
   .exact ze (zh q)
   .exact zh q
   .exact ze (ze q)
def EN:∀(cs:Ξ) {ns:κ},y9 ns->y9 (cs.H q7 ns)/\∀y,y∈cs.H q7 ns↔(∃c∈cs,∃l∈zm c,y∈l.k/\zT y=false)∨y∈ns
 |[],ns,h=>⟨h,λy=>ζ⟩
 |c::cs,ns,h=>by
  obtain⟨g,f⟩:=AL c.g.k h;obtain⟨e,i⟩:=Gd c.d (ns:=uV ns c.g) g;obtain⟨d,j⟩:=EN cs (ns:=q7 ns c) e;refine⟨d,λy=>?_⟩;have b:∀y,y∈uV ns c.g↔(y∈c.g.k/\zT y=false)∨y∈ns:=f;have a:∀y,y∈q7 ns c↔(∃l∈c.d,y∈l.k/\zT y=false)∨y∈uV ns c.g:=i;rw[uG,j,a,b];simp only[zG,exists_eq_or_imp,zm];constructor
  .rintro(q|q|q|q)
   .exact zh (ze q)
   .exact zh (zh (ze q))
   .exact zh (zh (zh q))
   .exact ze q
  .rintro(((q|q)|q)|q)
   .exact ze (ze (zh q))
   .exact ze (zh q)
   .exact zh q
   .exact ze (ze (ze q))
def gQ(cs:Ξ):y9 (zp cs)/\∀y,y∈zp cs↔∃c∈cs,∃l∈zm c,y∈l.k/\zT y=false:=by
 obtain⟨b,a⟩:=EN cs (ns:=[]) List.Pairwise.nil;exact⟨b,λy=>by rw[show zp cs=cs.H q7 [] from rfl,a];simp⟩
end
section
open Classical
variable {vs ns:κ}{pl:List Nat}{t t0:List zf}{cs:List zc}{os:Option (List (Option (List Int)))}
def kz(ns:κ)(σ:ByteArray->Nat)(l:zj)(i:Nat):Nat:=match l.k[i]? with
 |none=>0
 |some y=>if zT y=true then σ y else(xr ns y).g 0
def qu(ns:κ)(σ:ByteArray->Nat)(l:zj):zk:=[kz ns σ l 0,kz ns σ l 1,kz ns σ l 2]
def Cb(a:∀k,pl.g k 0<5)(n:ByteArray):uX vs pl n<5:=by
 unfold uX;split;omega;split;omega;exact a _
def IZ(t:Ψ)(ns vs:κ)(d:∀k,pl.g k 0<5)(l:zj)(y:Φ)(i:Nat):Tj (zL t ns vs pl l) y i=kz ns (λv=>y.g (uX vs pl v) 0) l i:=by
 unfold Tj kz;by_cases h:i<l.k.j;have a:i<(zL t ns vs pl l).v.j:=by simp[zL,ut];exact h
 rw[zb a,yn h,Tl _ a];have e:(zL t ns vs pl l).v[i]=jH 0 (ut ns vs pl l) (uR ns vs pl l.k[i]):=by simp[zL,ut]
 obtain⟨c,f⟩:=rh 0 (ut ns vs pl l) (uR ns vs pl l.k[i]);rw[e];unfold U0;rw[c,f];unfold uR;by_cases b:zT l.k[i]=true;have:=Cb (vs:=vs) d l.k[i];simp[b,this];simp[b];have a:¬i<(zL t ns vs pl l).v.j:=by simp[zL,ut];omega
 rw[za a,gL η]
def wt(t:Ψ)(ns vs:κ)(a:∀k,pl.g k 0<5)(l:zj)(y:Φ):zH (zL t ns vs pl l) y=qu ns (λv=>y.g (uX vs pl v) 0) l:=by
 simp only[zH,qu,IZ t ns vs a]
def Pa{σ τ:ByteArray->Nat}{l:zj}(h:∀y∈l.k,zT y=true->σ y=τ y):qu ns σ l=qu ns τ l:=by
 have:∀i,kz ns σ l i=kz ns τ l i:=by
  intro i;unfold kz;rcases c:l.k[i]? with _|y;rfl;have b:=fD c;by_cases a:zT y=true;simp only[a,if_true];exact h y b a;simp[a]
 simp only[qu,this]
def ey(t:List zf)(ns:κ)(c:zc)(D:DB)(x:zk):Prop:=∃σ,(∀l∈c.d,l.i=false->Tq D (zC t l.o) (qu ns σ l))/\(∀l∈c.d,l.i=true->D (zC t l.o) (qu ns σ l)=Y)/\x=qu ns σ c.g
def OW{k:Nat}{f:Nat->Nat}(h:∀p,p<k->∃i,i<k/\f i=p){i j:Nat}(n:i<k)(m:j<k)(e:f i=f j):i=j:=by
 by_cases b:i=j;exact b;have:=mU (l1:=List.range k) (l2:=((List.range k).erase j).w f) List.nodup_range (λp l=>by
  obtain⟨a,g,d⟩:=h p (qG.1 l);by_cases c:a=j;exact zF.2 ⟨i,(me b).2 (qG.2 n),by rw[e,←c,d]⟩;exact zF.2 ⟨a,(me c).2 (qG.2 g),d⟩)
 rw[xu,mN (qG.2 m),pE] at this;omega
def PK(m:vs.j<=5)(h:ka pl vs.j){u v:ByteArray}(l:u∈vs)(g:v∈vs)(e:uX vs pl u=uX vs pl v):u=v:=by
 obtain⟨i,f,d⟩:=ew l;obtain⟨j,k,c⟩:=ew g;unfold uX at e;rw[d,c] at e;simp only at e;rw[za η,za η] at e;have:=OW h.onto f k e;subst this;obtain⟨_,a⟩:=lN d;obtain⟨_,b⟩:=lN c;rw[←a,←b]
def D2{c:zc}{o:Option (List Int)}{D:DB}{x:zk}(B:∀l∈zm c,∀y∈l.k,zT y=true->y∈zx c)(C:(zx c).j<=5)(e:ka (yL (o.g [])) (zx c).j):UT (vH t ns c o) D x↔ey t ns c D x:=by
 constructor;rintro⟨y,s,k,w⟩;refine⟨λv=>y.g (uX (zx c) (yL (o.g [])) v) 0,λl b r=>?_,λl b r=>?_,?_⟩;have:=s (zL t ns (zx c) (yL (o.g [])) l) (zF.2 ⟨l,xz.2 ⟨b,by simp[r]⟩,rfl⟩);rw[wt t ns _ e.five] at this;exact this;have:=k (zL t ns (zx c) (yL (o.g [])) l) (zF.2 ⟨l,xz.2 ⟨b,by simp[r]⟩,rfl⟩);rw[wt t ns _ e.five] at this;exact this;rw[w];exact wt t ns _ e.five _ _;rintro⟨σ,s,k,w⟩;let g:Nat->Nat:=λp=>if d:∃v,v∈zx c/\uX (zx c) (yL (o.g [])) v=p then σ d.choose else 0
 have m:∀v∈zx c,g (uX (zx c) (yL (o.g [])) v)=σ v:=by
  intro v h;have d:∃u,u∈zx c/\uX (zx c) (yL (o.g [])) u=uX (zx c) (yL (o.g [])) v:=⟨v,h,rfl⟩;show(if d:∃u,u∈zx c/\uX (zx c) (yL (o.g [])) u=uX (zx c) (yL (o.g [])) v then σ d.choose else 0)=σ v;rw[dif_pos d,PK C e d.choose_spec.1 h d.choose_spec.2]
 have E:∀p,p<5->((List.range 5).w g).g p 0=g p:=by
  intro p j;rw[Tl _ (by simp;exact j)];simp
 have a:∀l∈zm c,zH (zL t ns (zx c) (yL (o.g [])) l) ((List.range 5).w g)=qu ns σ l:=by
  intro l b;rw[wt t ns _ e.five];refine Pa λy A n=>?_;rw[E _ (Cb e.five _),m y (B l b y A n)]
 refine⟨(List.range 5).w g,λl b=>?_,λl b=>?_,?_⟩;obtain⟨z,i,rfl⟩:=zF.1 b;obtain⟨f,q⟩:=xz.1 i;rw[a z (by simp[zm,f])];exact s z f (by simpa using q);obtain⟨z,i,rfl⟩:=zF.1 b;obtain⟨f,q⟩:=xz.1 i;rw[a z (by simp[zm,f])];exact k z f (by simpa using q);rw[w];exact(a c.g (by simp[zm])).z
def Ty.covered(h:Ty cs t0 t){c:zc}(g:c∈cs):∀l∈zm c,∀y∈l.k,zT y=true->y∈zx c:=by
 have b:=h.safe c g;simp only[xB,uK,gd,lz,tp] at b;intro l a y d e;rcases zG.1 a with rfl|a;exact nN.1 b.1 y d e;cases f:l.i;exact fm.2 ⟨e,l,a,f,d⟩;rcases b.2 l a with q|q;rw[f] at q;cases q;exact nN.1 q y d e
def LX(t:List zf)(ns:κ)(cs:List zc)(s:Nat)(D:DB)(p:Nat)(x:zk):Prop:=∃c∈cs,0<c.d.j/\xP t c.g.o=s/\p=zC t c.g.o/\ey t ns c D x
def rH{r:zu}:r∈uP t ns os cs↔∃i,∃b:i<cs.j,0<cs[i].d.j/\r=vH t ns cs[i] (uo os i):=by
 unfold uP;rw[mP];constructor;rintro⟨⟨c,i⟩,f,a⟩;have e:=su.1 f;simp only at a e;obtain⟨b,rfl⟩:=j5.1 e;split at a;rename_i d;simp only[zt] at a;exact⟨i,b,d,a.z⟩;cases a;rintro⟨i,b,d,rfl⟩;refine⟨(cs[i],i),su.2 (by simp[b]),?_⟩;simp only;rw[zb d]
def AY(h:Ty cs t0 t)(ns:κ)(os:Option (List (Option (List Int))))(g:∀i (b:i<cs.j),ka (yL ((uo os i).g [])) (zx cs[i]).j)(s:Nat)(D:DB)(p:Nat)(x:zk):j6 ((uP t ns os cs).filter λr=>decide (r.L=s)) D p x↔LX t ns cs s D p x:=by
 constructor;rintro⟨r,m,e,d⟩;obtain⟨j,k⟩:=xz.1 m;obtain⟨i,b,f,rfl⟩:=rH.1 j;have a:=zq b;exact⟨cs[i],a,f,of_decide_eq_true k,e,(D2 (h.covered a) (fL (h.many _ a)) (g i b)).1 d⟩;rintro⟨c,a,f,e,d,l⟩;obtain⟨i,b,rfl⟩:=vL.1 a;exact⟨vH t ns cs[i] (uo os i),xz.2 ⟨rH.2 ⟨i,b,f,rfl⟩,decide_eq_true e⟩,d,(D2 (h.covered a) (fL (h.many _ a)) (g i b)).2 l⟩
def Le{rs a:List zu}(h:∀D p x,j6 rs D p x↔j6 a D p x)(k:Nat)(D:DB):zy4 rs k D=zy4 a k D:=by
 funext p x;unfold zy4;rcases D p x with _|m;simp only[h D p x];rfl
def Hd{rs a:List zu}(h:∀D p x,j6 rs D p x↔j6 a D p x)(mr:Nat):∀left k D,zyo rs mr left k D=zyo a mr left k D
 |0,_,_=>rfl
 |left+1,k,D=>by
  unfold zyo;rw[Le h,Hd h mr left]
def EF{rs a:List zu}(h:∀s D p x,j6 (rs.filter λr=>decide (r.L=s)) D p x↔j6 (a.filter λr=>decide (r.L=s)) D p x)(b:∀s,(rs.filter λr=>decide (r.L=s))=[]↔(a.filter λr=>decide (r.L=s))=[])(mr mx:Nat):∀n s k D,zyq rs mr mx n s k D=zyq a mr mx n s k D
 |0,_,_,_=>rfl
 |n+1,s,k,D=>by
  unfold zyq;simp only[b s,Hd (h s) mr,EF h b mr mx n]
def Rp(h:Ty cs t0 t)(ns:κ)(os a:Option (List (Option (List Int))))(k:∀i (b:i<cs.j),ka (yL ((uo os i).g [])) (zx cs[i]).j)(f:∀i (b:i<cs.j),ka (yL ((uo a i).g [])) (zx cs[i]).j)(mr mx:Nat):z0n (vf t ns os cs) mr mx=z0n (vf t ns a cs) mr mx:=by
 have g:∀(os:Option (List (Option (List Int)))) s,((uP t ns os cs).filter λr=>decide (r.L=s))=[]↔∀c∈cs,0<c.d.j->¬xP t c.g.o=s:=by
  intro os s;rw[eZ];constructor;intro q c l d j;obtain⟨i,b,rfl⟩:=vL.1 l;have:=q _ (rH.2 ⟨i,b,d,rfl⟩);exact this (decide_eq_true j);intro q r m;obtain⟨i,b,d,rfl⟩:=rH.1 m;exact λe=>q _ (zq b) d (of_decide_eq_true e)
 unfold z0n;show(if mC (zz3 (vJ t ns cs)) mr then zyq (uP t ns os cs) mr mx _ 0 0 _ else Y)=(if mC (zz3 (vJ t ns cs)) mr then zyq (uP t ns a cs) mr mx _ 0 0 _ else Y);rw[EF (λs D p x=>(AY h ns os k s D p x).A (AY h ns a f s D p x).z) (λs=>(g os s).A (g a s).z)];rfl
def Bg{n:Nat}:∀{l:List Int} {e:List Bool},jQ n l e=true->e.j=5->l.Nodup/\∀x∈l,0<=x/\x<n/\x<5/\e.g x.D false=false
 |[],_,_,_=>⟨List.nodup_nil,ζ⟩
 |x::r,e,h,p=>by
  unfold jQ at h;split at h
  .cases h
  .rename_i s;split at h
   .cases h
   .rename_i o;obtain⟨k,j⟩:=Bg h (by simp[p]);have i:x.D<e.j:=η;have g:∀y∈r,y≠x:=by
     rintro y f rfl;have:=(j y f).2.2.2;rw[nS,zb ⟨rfl,i⟩] at this;cases this
    refine⟨jp.2 ⟨λq=>g x q rfl,k⟩,λy f=>?_⟩;rcases zG.1 f with rfl|f
    .exact⟨η,η,η,by simpa using o⟩
    .obtain⟨a,b,c,d⟩:=j y f;have m:¬x.D=y.D:=λq=>g y f η;rw[nS,za (λq=>m q.1)] at d;exact⟨a,b,c,d⟩
def Lx{l:List Int}(P:l.j<=5)(h:r8 l=true):ka (yL l) l.j:=by
 obtain⟨D,n⟩:=Bg h rfl;have g:∀m,m<=l.j->(∀j (c:j<m) (d:j<l.j),((l.G m).zipIdx.H vN [0,1,2,3,4]).g l[j].D 0=j)/\∀i,(∀j (c:j<m) (d:j<l.j),l[j].D≠i)->((l.G m).zipIdx.H vN [0,1,2,3,4]).g i 0<5:=by
  intro m;induction m with
  |zero=>
   intro _;refine⟨λj c=>η,λi _=>?_⟩;have:=(pu (k:=5) (zg _)).five i;exact this
  |succ m J=>
   intro S;have u:m<l.j:=η;obtain⟨a,b⟩:=J η;obtain⟨E,K,G,_⟩:=n l[m] (zq u);have v:((l.G m).zipIdx.H vN [0,1,2,3,4]).j=5:=eF (l.G m);rw[DL u];have H:∀A:Φ,vN A (l[m],m)=A.set l[m].D m:=λA=>by unfold vN;exact zb ⟨E,G⟩
   rw[H];refine⟨λj c d=>?_,λi r=>?_⟩;rw[nS];by_cases o:j=m;subst o;rw[zb ⟨rfl,by rw[v];omega⟩];rw[za,a j η d];intro q;obtain⟨F,_⟩:=n l[j] (zq d);have:l[m]=l[j]:=η;exact o ((List.getElem_inj D).1 this.z);rw[nS];split;omega;exact b i λj c d=>r j η d
 obtain⟨a,b⟩:=g l.j (zg _);rw[uW] at a b;have f:∀i,i<l.j->∃j,∃c:j<l.j,l[j].D=i:=by
  intro i r;by_cases s:∃j,∃c:j<l.j,l[j].D=i;exact s;exfalso;have w:(l.w Int.toNat).Nodup:=by
   refine mT.2 (List.Pairwise.imp_of_mem (λL M x e=>x ?_) D);have R:=n _ L;have N:=n _ M;omega
  have:=mU (l1:=l.w Int.toNat) (l2:=(List.range l.j).erase i) w (λy I=>by
   obtain⟨z,C,rfl⟩:=zF.1 I;obtain⟨F,Q,_⟩:=n z C;obtain⟨j,c,rfl⟩:=vL.1 C;exact(me (λq=>s ⟨j,c,q⟩)).2 (qG.2 η))
  rw[xu,mN (qG.2 r),pE] at this;omega
 refine⟨λi=>?_,λi r=>?_,λp B=>?_⟩;by_cases s:∃j,∃c:j<l.j,l[j].D=i;obtain⟨j,c,rfl⟩:=s;have:=a j c c;unfold yL;omega;exact b i λj _ c e=>s ⟨j,c,e⟩;obtain⟨j,c,rfl⟩:=f i r;have:=a j c c;unfold yL;omega;obtain⟨E,K,_⟩:=n l[p] (zq B);exact⟨l[p].D,η,a p B B⟩
def oL(h:vC cs os=true)(j:∀c∈cs,(zx c).j<=5):∀i (f:i<cs.j),ka (yL ((uo os i).g [])) (zx cs[i]).j:=by
 intro i f;have a:=j _ (zq f);rcases os with _|l;exact pu a;unfold vC at h;simp only[uK,beq_iff_eq,gd] at h;have d:i<l.j:=η;have b:=h.2 (cs[i],l[i]) (by
  rw[vL];exact⟨i,by simp;omega,ζ⟩)
 have e:uo (Z l) i=l[i]:=by simp[uo,d]
 rw[e];rcases g:l[i] with _|o;exact pu a;rw[g] at b;simp only[vz,uK,beq_iff_eq] at b;show ka (yL o) _;rw[←b.1];exact Lx η b.2
end
section
variable {r r2:List To}
def fX(l:zj):Nat:=if l.k.j=0 then 2 else 2*l.k.j+3
def Vr(c:zc):Nat:=fX c.g+(c.d.w fX).sum
def nQ{k:Int}(h:T6 r=k)(a:k≠0):r.j=r.tail.j+1:=by
 rcases r with _|⟨x,r⟩;exact zB h.z a;simp
def Fe:∀(r:Δ) {ts:κ} {r2:Δ},yx r=Z (ts,r2)->2*ts.j+r2.j<=r.j+1
 |[],_,_,h=>by simp[yx] at h
 |[x],ts,r2,h=>by
  simp only[yx] at h;split at h<;>simp at h
  obtain⟨rfl,rfl⟩:=h;simp
 |x::y::r,ts,r2,h=>by
  simp only[yx] at h;split at h
  .split at h
   .cases a:yx r with
    |none=>rw[a] at h;simp at h
    |some z=>
     obtain⟨b,c⟩:=z;rw[a] at h;simp at h;have:=Fe r a;obtain⟨rfl,rfl⟩:=h;simp;omega
   .simp at h;obtain⟨rfl,rfl⟩:=h;simp;omega
  .simp at h
def AO{a:zj}(h:xv r=Z (a,r2)):fX a+r2.j<=r.j+1:=by
 unfold xv at h;split at h;rename_i b;have:=nQ b θ;split at h;rename_i c;have:=nQ c θ;split at h;cases h;rename_i g f d;have:=Fe _ d;split at h;rename_i e;have:=nQ e θ;cases h;unfold fX;dsimp only;split<;>omega
 cases h;cases h;simp[fX];omega;cases h
def N2{a:zj}(h:uY r=Z (a,r2)):fX a+r2.j<=r.j+1:=by
 unfold uY at h;split at h;rename_i c;have:=nQ c θ;rcases b:xv r.tail with _|z;rw[b] at h;simp at h;obtain⟨e,d⟩:=z;rw[b] at h;simp at h;have:=AO b;obtain⟨rfl,rfl⟩:=h;simp only[fX] at this ⊢;omega;exact AO h
def Rw{n:Nat}:∀{r r2:Δ} {b:Ω},uj n r=Z (b,r2)->(b.w fX).sum+r2.j<=r.j+1:=by
 induction n with
 |zero=>intro r r2 b h;simp[uj] at h
 |succ n g=>
  intro r r2 b h;rcases c:uY r with _|z;rw[tw c] at h;cases h;obtain⟨a,f⟩:=z;have:=N2 c;by_cases d:T6 f=6;have:=nQ d θ;rw[sd c d] at h;rcases e:uj n f.tail with _|z;rw[e] at h;simp at h;rw[e] at h;simp at h;have:=g e;obtain⟨rfl,rfl⟩:=h;simp only[un,qD];omega;rw[rR c d] at h;simp at h;obtain⟨rfl,rfl⟩:=h;simp;omega
def IA{n:Nat}{c:zc}(h:vE n r=Z (c,r2)):Vr c+r2.j<=r.j:=by
 unfold vE at h;split at h;cases h;rename_i a j e;have:=AO e;split at h;rename_i f;have:=nQ f θ;split at h;cases h;rename_i b i g;have:=Rw g;split at h;rename_i d;have:=nQ d θ;cases h;unfold Vr;dsimp only;omega;cases h;split at h;rename_i d;have:=nQ d θ;cases h;simp[Vr];omega;cases h
def Dw{a:Nat}:∀{m:Nat} {r:Δ} {cs:Ξ},yW a m r=Z cs->(cs.w Vr).sum<=r.j
 |_,[],cs,h=>by simp[yW] at h;subst h;simp
 |0,_::_,cs,h=>by simp[yW] at h
 |m+1,x::r,cs,h=>by
  cases b:vE a (x::r) with
  |none=>rw[iy ζ b] at h;cases h
  |some z=>
   obtain⟨c,r2⟩:=z;rw[sZ ζ b] at h;cases d:yW a m r2 with
   |none=>rw[d] at h;simp at h
   |some e=>
    rw[d] at h;simp at h;subst h;have g:=IA b;have f:=Dw d;simp only[un,qD];omega
def Gn{s:ByteArray}{cs:Ξ}{t:Ψ}(h:uF s=.ok (cs,t)):(cs.w Vr).sum<=500:=by
 unfold uF at h;split at h;cases h;rename_i e;split at h;cases h;rename_i d c;split at h;cases h;rename_i a b;have g:=Dw b;have f:=eP c;split at h;cases h;split at h;cases h;split at h;split at h;cases h;omega;cases h;cases h
def gy(a:List zj):Nat:=(a.w λl=>l.k.countP zT).sum
def lq(b:List zj):Nat:=(b.w λl=>l.k.countP λa=>!zT a).sum
def Ba:∀(b:Ω),(∀l∈b,l.k.j<=3)->3*(gy b+lq b)<=(b.w fX).sum
 |[],_=>by simp[gy,lq]
 |l::b,h=>by
  have d:=Ba b (λx c=>h x (by simp[c]));have e:=h l ζ;have g:=List.length_eq_countP_add_countP zT (l:=l.k);have f:3*l.k.j<=fX l:=by unfold fX;split<;>omega
  have i:l.k.countP (λa=>decide ¬zT a=true)=l.k.countP λa=>!zT a:=by congr 1;funext a;cases zT a<;>rfl
  simp only[gy,lq,un,qD] at d ⊢;omega
def A5:∀(cs:Ξ),(∀c∈cs,yR c=false)->3*((cs.w λc=>gy c.d).sum+(cs.w λc=>lq (zm c)).sum)<=(cs.w Vr).sum
 |[],_=>ζ
 |c::cs,h=>by
  have d:=A5 cs (λx f=>h x (by simp[f]));obtain⟨a,_,b,_⟩:=mI (h c ζ);have i:=Ba c.d b;have g:=Ba [c.g] (by simpa using a);have e:lq (zm c)=lq [c.g]+lq c.d:=by simp[lq,zm]
  simp only[un,qD,Vr,e] at d ⊢;simp at g;omega
def DE{α β:Type}(f:α->List β):∀l:List α,(l.flatMap f).j=(l.w λx=>(f x).j).sum
 |[]=>rfl
 |a::l=>ζ
def C1(cs:Ξ):(zp cs).j<=(cs.w λc=>lq (zm c)).sum:=by
 obtain⟨m,k⟩:=gQ cs;have j:(zp cs).Nodup:=List.Pairwise.imp (fun{a b} q e=>by subst e;rw[Tv] at q;cases q) m;have d:=mU j (l2:=cs.flatMap λc=>(zm c).flatMap λl=>l.k.filter λa=>!zT a) (λx f=>by
  obtain⟨c,i,l,g,f,h⟩:=(k x).1 f;exact ve.2 ⟨c,i,ve.2 ⟨l,g,xz.2 ⟨f,by simp[h]⟩⟩⟩)
 rw[DE] at d;have e:(λc:zc=>((zm c).flatMap λl=>l.k.filter λa=>!zT a).j)=λc=>lq (zm c):=by
  funext c;rw[DE];unfold lq;congr 2;funext l;rw[tL]
 rw[e] at d;exact d
end
def U6(V:Nat):Nat->Nat
 |0=>0
 |k+1=>V*U6 V k+1
def Eg{V:Nat}(b:1<=V):∀(k:Nat) (hs:Φ),hs.j<=k->Ui V hs<=hs.sum*V ^ k+U6 V k
 |_,[],_=>by simp[Ui]
 |0,h::r,a=>by simp at a
 |k+1,h::r,a=>by
  have d:=Eg b k r (by simpa using a);have c:V*(h+Ui V r)<=V*(h+(r.sum*V ^ k+U6 V k)):=nC _ η;have f:V*(h+(r.sum*V ^ k+U6 V k))=V*h+r.sum*(V ^ k*V)+V*U6 V k:=by
   rw[Nat.mul_add,Nat.mul_add,Nat.mul_left_comm V,Nat.mul_comm V (V ^ k)];omega
  have e:V*h<=h*(V ^ k*V):=by
   rw[Nat.mul_comm V h];refine nC _ ?_;have:=fB V (Nat.one_le_pow k V b);omega
  simp only[Ui,U6,qD,Nat.pow_succ,lG];omega
def Dd{α:Type}(f g:α->Nat):∀a:List α,(a.w λp=>f p+g p).sum=(a.w f).sum+(a.w g).sum
 |[]=>rfl
 |p::a=>by simp[Dd f g a];omega
def Hr{α:Type}:∀a:List α,(a.w λ_=>0).sum=0
 |[]=>rfl
 |p::a=>by simp[Hr a]
def Fl{α:Type}(q:α->Bool):∀a:List α,(a.w λp=>if q p=true then 1 else 0).sum=a.countP q
 |[]=>rfl
 |p::a=>by simp only[un,qD,Fl q a,List.countP_cons];omega
def AK(p:Nat):∀(a:List zw) (k:Nat),((a.zipIdx k).filterMap λx=>(xh x.1 p).w λb=>(x.2,b)).j=a.countP λl=>zK l p
 |[],_=>rfl
 |l::a,k=>by
  have:=AK p a (k+1);rw[List.zipIdx_cons,th,List.countP_cons];simp only[xh];cases c:zK l p<;>simp[xh] at this ⊢<;>omega
def GJ(ps:Φ):∀a:List zw,(ps.w λp=>a.countP λl=>zK l p).sum=(a.w λl=>ps.countP (zK l)).sum
 |[]=>by simp[Hr]
 |l::a=>by
  have c:=GJ ps a;have b:=Dd (λp=>a.countP λl=>zK l p) (λp=>if zK l p=true then 1 else 0) ps;simp only[List.countP_cons,un,qD] at b ⊢;rw[b,c,Fl];omega
def Ok(l:zw)(n:Nat):(List.range n).countP (zK l)<=l.v.countP (·.var):=by
 rw[tL,tL];have h:((List.range n).filter (zK l)).Nodup:=List.Nodup.sublist List.filter_sublist List.nodup_range;have:=Bs h (l2:=(l.v.filter (·.var)).w (·.z)) (λx d=>by
  obtain⟨t,c,b,a⟩:=(fJ l x).1 (xz.1 d).2;exact zF.2 ⟨t,xz.2 ⟨c,b⟩,a⟩)
 simpa using this
def Hw{α:Type}{f g:α->Nat}:∀{ps:List α},(∀p∈ps,f p<=g p)->(ps.w f).sum<=(ps.w g).sum
 |[],_=>zg _
 |p::ps,h=>by
  have c:=Hw (ps:=ps) (λx a=>h x (by simp[a]));have b:=h p ζ;simp only[un,qD];omega
def Q5(r:zu):(TZ r).sum<=(r.qc.w λl=>l.v.countP (·.var)).sum:=by
 have e:TZ r=(List.range r.m).w λp=>r.qc.countP λl=>zK l p:=by
  unfold TZ xy;congr 1;funext p;exact AK p r.qc 0
 rw[e,GJ];exact Hw λl _=>Ok l _
def Sa{r:zu}(h:f8 r)(d:r.m≠0):1<=(TZ r).sum:=by
 obtain⟨n,a⟩:∃n,r.m=n+1:=⟨r.m-1,η⟩;obtain⟨l,c,b⟩:=h.safe 0 η;have e:(xy r 0).j=r.qc.countP λl=>zK l 0:=AK 0 r.qc 0;have f:0<r.qc.countP λl=>zK l 0:=List.countP_pos_iff.2 ⟨l,c,b⟩;unfold TZ;rw[a,List.range_succ_eq_map,un,qD];omega
def JP{V:Nat}(b:1<=V){r:zu}(h:f8 r)(d:r.qc.j<=6):qX V r<=(TZ r).sum*(6*(V ^ 5+U6 V 5)):=by
 unfold qX;by_cases a:r.m=0;simp[TZ,a,Ui];have c:=Sa h a;have e:=Eg b 5 (TZ r) (by simpa [TZ] using h.m);have g:1*U6 V 5<=(TZ r).sum*U6 V 5:=fB _ c;have f:r.qc.j*Ui V (TZ r)<=6*Ui V (TZ r):=fB _ d;have i:(TZ r).sum*(6*(V ^ 5+U6 V 5))=6*((TZ r).sum*V ^ 5+(TZ r).sum*U6 V 5):=by rw[Nat.mul_left_comm,Nat.mul_add]
 omega
def Ql(t:Ψ)(ns vs:κ)(b:Φ)(l:zj):(zL t ns vs b l).v.countP (·.var)=l.k.countP zT:=by
 unfold zL ut;simp only[nA,List.countP_map];congr 1;funext a;show(jH 0 _ (uR ns vs b a)).var=zT a;rw[(rh _ _ _).1];unfold uR;cases zT a<;>rfl
def RD{cs:Ξ}{m t:Ψ}(h:Ty cs m t){c:zc}(g:c∈cs)(ns:κ)(o:Option (List Int))(k:ka (yL (o.g [])) (zx c).j){V:Nat}(i:1<=V):Vo (vH t ns c o)/\qX V (vH t ns c o)<=gy c.d*(6*(V ^ 5+U6 V 5)):=by
 have d:=(Cf h g ns o k).fine;obtain⟨_,s,_,_⟩:=mI (h.many c g);have n:(vH t ns c o).qc.j<=6:=by
  have:(c.d.filter λl=>!l.i).j<=c.d.j:=rL _ _;simp only[vH,xu];omega
 have r:=Q5 (vH t ns c o);have q:((vH t ns c o).qc.w λl=>l.v.countP (·.var)).sum<=gy c.d:=by
  simp only[vH,nA];have e:((λl:zw=>l.v.countP (·.var)) ∘ zL t ns (zx c) (yL (o.g [])))=λl:zj=>l.k.countP zT:=by
   funext l;exact Ql t ns _ _ l
  rw[e];unfold gy;generalize c.d=b;induction b with
  |nil=>exact zg _
  |cons a b p=>
   rw[List.filter_cons];split<;>simp only[un,qD]<;>omega
 refine⟨⟨d.m,λe=>?_⟩,zY (JP i d n) (fB _ η)⟩;by_cases j:(vH t ns c o).m=0;exact j;obtain⟨l,f,_⟩:=d.safe 0 η;rw[e] at f;cases f
def Da{t:Ψ}{ns:κ}{os:Option (List (Option (List Int)))}{V G:Nat}:∀(xs:List (zc×Nat)),(∀x∈xs,Vo (vH t ns x.1 (uo os x.2))/\qX V (vH t ns x.1 (uo os x.2))<=gy x.1.d*G)->(∀r∈xs.filterMap (λx=>if x.1.d.j>0 then Z (vH t ns x.1 (uo os x.2)) else Y),Vo r)/\((xs.filterMap λx=>if x.1.d.j>0 then Z (vH t ns x.1 (uo os x.2)) else Y).w (qX V)).sum<=(xs.w λx=>gy x.1.d).sum*G
 |[],_=>ζ
 |x::xs,h=>by
  obtain⟨b,f⟩:=Da (t:=t) (ns:=ns) (os:=os) (V:=V) (G:=G) xs (λy d=>h y (by simp[d]));obtain⟨e,g⟩:=h x ζ;rw[th];simp only[un,qD,lG];by_cases c:x.1.d.j>0
  .simp only[c,if_true,un,qD,zG];refine⟨λr a=>?_,η⟩;rcases a with rfl|a
   .exact e
   .exact b r a
  .simp only[c,if_false];exact⟨b,η⟩
def J2:∀v,v<167->1048576*((166-v)*(6*(zM v ^ 5+U6 (zM v) 5)))<9223372036854775808:=by decide +kernel
def Mw{s:ByteArray}{cs:Ξ}{n t:Ψ}(l:uF s=.ok (cs,t))(h:Ty cs n t)(os:Option (List (Option (List Int))))(m:∀i (r:i<cs.j),ka (yL ((uo os i).g [])) (zx cs[i]).j){a mr mx:Nat}(b:mx<=1048576){R:zv}(p:pk a (vf t (zp cs) os cs) mr mx=Z (Z R)):0<=R.jg:=by
 have v:=Gn l;have u:=A5 cs h.many;have w:=C1 cs;have k:1<=zM (zp cs).j:=by unfold zM;split<;>omega
 obtain⟨o,g⟩:=Da (t:=t) (ns:=zp cs) (os:=os) (V:=zM (zp cs).j) (G:=6*(zM (zp cs).j ^ 5+U6 (zM (zp cs).j) 5)) cs.zipIdx (λx b=>by
  obtain⟨f,d⟩:=List.mem_zipIdx' b;exact RD h (by rw[d];exact zq f) _ _ (by rw[d];exact m _ f) k)
 have e:(cs.zipIdx.w λx=>gy x.1.d)=cs.w λc=>gy c.d:=by
  rw[show(λx:zc×Nat=>gy x.1.d)=(λc:zc=>gy c.d) ∘ Prod.fst from rfl,←nA,List.zipIdx_map_fst]
 rw[e] at g;have q:=J2 (zp cs).j η;have j:(cs.w λc=>gy c.d).sum*(6*(zM (zp cs).j ^ 5+U6 (zM (zp cs).j) 5))<=(166-(zp cs).j)*(6*(zM (zp cs).j ^ 5+U6 (zM (zp cs).j) 5)):=fB _ η;refine Oc b o ?_ p;have:1048576*((vf t (zp cs) os cs).H.w (qX (zM (vf t (zp cs) os cs).r))).sum<=1048576*((166-(zp cs).j)*(6*(zM (zp cs).j ^ 5+U6 (zM (zp cs).j) 5))):=nC _ (zY g j);omega
end Go.Proofs.YteampbddflhngaaGreat
