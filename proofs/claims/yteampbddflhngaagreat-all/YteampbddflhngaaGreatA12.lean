import Derived.Test.YteampbddflhngaaGreatA07
import Derived.Test.YteampbddflhngaaGreatA08
import Derived.Test.YteampbddflhngaaGreatA09
namespace Go.Proofs.YteampbddflhngaaGreat
open List renaming length→List.j,getD→List.d,take→List.G,map→List.w,toArray→List.F,foldl→List.H,range→h_,getElem?_eq_none→i_,replicate→m_,nodup_range→n_,countP_cons→o_,zipIdx_singleton→p_,nodup_iff_count→r_,zipIdx_append→t_,count_pos_iff→u_,getD→v_,nodup_nil→z_
open _root_.Array renaming size→Array.q,getD→Array.d,map→Array.w,foldl→Array.H
open _root_.ByteArray renaming size→ByteArray.q,empty→g_
open Go.RowKit.Below renaming size→Go.RowKit.Below.q,setCell→Go.RowKit.Below.x,mono→Go.RowKit.Below.y,trans→Go.RowKit.Below.A,alloc→Go.RowKit.Below.C
open Go.TypeInfo renaming size→Go.TypeInfo.q
open Go.RowKit.Hid renaming out→Go.RowKit.Hid.l
open Go.Shut renaming out→Go.Shut.l
open Go.World renaming heap→Go.World.o,setCell→Go.World.x,cell?→Go.World.p,alloc→Go.World.C,ownsRow→Go.World.r,size_alloc→k_
open Go.Value renaming slice→Go.Value.k,string→Go.Value.g,bool→Go.Value.i,cells→Go.Value.E,ownBlock→Go.Value.m,pointer→Go.Value.u
open Go.TypeDesc renaming slice→Go.TypeDesc.k,string→Go.TypeDesc.g,bool→Go.TypeDesc.i,pointer→Go.TypeDesc.u
open Option renaming getD→Option.d,map→Option.w,isSome→Option.I,some→Z,none→Y
open Go.Calls renaming mono→Go.Calls.y
open Eq renaming trans→Eq.A,symm→Eq.z
open Iff renaming trans→Iff.A,symm→Iff.z
open Go.Obj renaming cells→Go.Obj.E
open Int renaming toNat→Int.D
open UInt8 renaming toNat→UInt8.D
open Ne renaming symm→Ne.z,symm→s_
open Go.Exit renaming inBlock→j_
open Nat renaming lt_of_sub_eq_succ→q_,mul_left_comm→w_,le_add_right→x_,mul_add→y_
open Go.RowKit renaming Hid→X,intOf→d_
open Go renaming World→U,Value→O,Calls→c_
open Go.Proofs.Tryz renaming prog→e_
set_option linter.all false
set_option maxRecDepth 100000
set_option maxHeartbeats 4000000
section
open Go.Proofs.Tryz Go.RowKit
variable {lo:Nat}
def dZ(lo:Nat)(w:U)(g:Nat)(vs:κ)(h:List Nat):Prop:=∃b a e c d f,h=[a,e,c,d,f]/\U3 w g #[b,ι (a:Nat),ι (e:Nat),ι (c:Nat),ι (d:Nat),ι (f:Nat)] 257/\U7 lo w b vs
def dZ.u{w w':U}{b:Nat}{vs:List Λ}{c:Φ}(h:dZ lo w b vs c)(a:μ w w'):dZ lo w' b vs c:=by
 obtain⟨g,d,k,i,j,m,e,l,f⟩:=h;exact⟨g,d,k,i,j,m,e,l.u a,f.u a⟩
def vd(vs:κ)(a:List Nat)(n:ByteArray):Nat:=match yG vs n with
 |none=>0
 |some k=>if k≥5 then 0 else a.d k 0
def JE(w:U)(m:Nat)(vs:List Λ)(s:Φ)(n:Λ)(h:dZ lo w m vs s)(x:vs.j<=1000):
  c_ e_ 201 #[(π m),.g n] w λe o=>e=ε (ι (vd vs s n:Nat))/\o=w:=by
 obtain⟨y,b,d,i,j,f,rfl,r,u⟩:=h;obtain⟨p,A⟩:=r.H;have l:=U2 (Kp w m y vs n (by rw[p];rfl) u x);have g:X (vd vs [b,d,i,j,f] n=match yG vs n with|none=>0|some k=>if k≥5 then 0 else [b,d,i,j,f].d k 0):=rfl;rcases t:yG vs n with _|k
 .rw[t] at l g;go_enter func201,ntmps201;go_wp2_with (go_at_call 200;refine l.l.y ?_;rintro e o ⟨rfl,a⟩;obtain rfl:=a.z)
  go_ret;exact⟨by rw[g.l];rfl,rfl⟩
 rw[t] at l g;simp only[uF,jH] at l g;by_cases B:k<5
 .have q:(k:Int)<5:=η;have c:X (vd vs [b,d,i,j,f] n=[b,d,i,j,f].d k 0):=by rw[X,g.l,za η]
  have z:w.p (ω m (1+k))=Z (ι (([b,d,i,j,f].d k 0:Nat):Int)):=by
   rw[p];obtain rfl|rfl|rfl|rfl|rfl:k=0∨k=1∨k=2∨k=3∨k=4:=η
   all_goals rfl
  generalize [b,d,i,j,f].d k 0=v at *;clear p g;go_enter func201,ntmps201;go_wp2_with (go_at_call 200;refine l.l.y ?_;rintro e o ⟨rfl,a⟩;obtain rfl:=a.z)
  go_ret;exact⟨by rw[c.l];rfl,rfl⟩
 have q:¬(k:Int)<5:=η;have c:X (vd vs [b,d,i,j,f] n=0):=by rw[X,g.l,zb η]
 go_enter func201,ntmps201;go_wp2_with (go_at_call 200;refine l.l.y ?_;rintro e o ⟨rfl,a⟩;obtain rfl:=a.z)
 go_ret;exact⟨by rw[c.l];rfl,rfl⟩
def nT(lo:Nat)(w:U)(b tb o a:Nat)(t:List zf)(ns:κ):Prop:=U3 w b #[.u (Z ⟨tb,o,Y⟩),(π a)] 200/\TG lo w tb o t/\n9 lo w a ns/\t.j<=1000/\ns.j<=1000
def nT.u{w w':U}{b tb o c:Nat}{t:Ψ}{ns:List Λ}(h:nT lo w b tb o c t ns)(a:μ w w'):nT lo w' b tb o c t ns:=⟨h.1.u a,h.2.1.u a,h.2.2.1.u a,h.2.2.2⟩
def uR(ns vs:κ)(a:List Nat)(t:ByteArray):yo:=if zV t then⟨true,vd vs a t,0⟩ else⟨false,(xr ns t).d 0,0⟩
def LM{l:Nat}(w:U)(C tb o D p:Nat)(t:Ψ)(ns vs:List Λ)(c:Φ)(x:Λ)(h:nT lo w C tb o D t ns)(hs:dZ l w p vs c)(H:vs.j<=1000):
  c_ e_ 186 #[(π C),.g x,(π p)] w λe b=>e=ε (pV (uR ns vs c x))/\μ w b:=by
 obtain⟨r,_,q,_,z⟩:=h;obtain⟨L,K,G⟩:=r.I;have F:=U2 λW y=>JE W p vs c x (hs.u y) H;have I:=U2 λW y=>T2 W D ns x (q.u y) z;have j:=U3.new w #[.i false,ι 0,ι 0] 284;cases g:zV x
 .have k:X (∀W,c_ e_ 156 #[.g x] W λe b=>e=ε (.i false)/\b=W):=λW=>by rw[←g];exact mj x W
  have s:X (uR ns vs c x=⟨false,(xr ns x).d 0,0⟩):=by rw[X,uR,g];rfl
  generalize (xr ns x).d 0=A at *;go_enter func186,ntmps186;go_wp2_with (first|(go_at_call 156;refine(k.l _).y ?_;rintro e b ⟨rfl,a⟩;obtain rfl:=a.z)|(go_at_call 129;refine(I.l _ γ).y ?_;rintro e B ⟨rfl,m,d⟩;have f:Below (w.C (.E #[.i false,ι 0,ι 0] 284)).o.q (w.C (.E #[.i false,ι 0,ι 0] 284)) B:=(by rw[d];exact zG (zn _ _) m);have i:=j.u f;obtain⟨u,J,E⟩:=i.I;have n:μ w B:=(zJ γ f (ze _));clear d))
  (try simp only[j_,Exit.then])
  exact zP (v:=.agg #[.i false,ι A,ι 0]) (by simp[results,results186,go_sem,u]) rfl ⟨by rw[s.l];rfl,((n.x ζ _).x ζ _).x ζ _⟩
 have k:X (∀W,c_ e_ 156 #[.g x] W λe b=>e=ε (.i true)/\b=W):=λW=>by rw[←g];exact mj x W
 have s:X (uR ns vs c x=⟨true,vd vs c x,0⟩):=by rw[X,uR,g];rfl
 generalize vd vs c x=A at *;go_enter func186,ntmps186;go_wp2_with (first|(go_at_call 156;refine(k.l _).y ?_;rintro e b ⟨rfl,a⟩;obtain rfl:=a.z)|(go_at_call 201;refine(F.l _ γ).y ?_;rintro e b ⟨rfl,a⟩;obtain rfl:=a.z))
 (try simp only[j_,Exit.then])
 exact zP (v:=.agg #[.i true,ι A,ι 0]) (by simp[results,results186,go_sem]) rfl ⟨by rw[s.l];rfl,γ⟩
end
section
open Go.Proofs.Tryz Go.RowKit
variable {lo:Nat}{ts':List yo}
def U0:(e_.info? 284).w (λi=>(i.zero,i.q,i.bytes))=Z (Z (.agg #[.i false,ι 0,ι 0]),3,24):=χ
def jP(p:Nat)(ts:List yo)(t:yo):yo:=if t.var then{t with w:=(xd ⟨p,ts⟩ t.D).d 0} else t
def uq(ns vs:κ)(a:List Nat)(l:zk):List yo:=l.k.w (uR ns vs a)
def zT(t:List zf)(ns vs:κ)(a:List Nat)(l:zk):zx:=⟨zE t l.o,(uq ns vs a l).w (jP 0 (uq ns vs a l))⟩
def lm(t:yo):Bool×Nat:=(t.var,t.D)
def RE{ts:List yo}(h:ts.w lm=ts'.w lm)(p a q:Nat):zL ⟨p,ts⟩ q=zL ⟨a,ts'⟩ q:=by
 have e:∀l:List yo,(l.any λt=>t.var&&t.D == q)=(l.w lm).any λx=>x.1&&x.2 == q:=λl=>by
  rw[List.any_map];rfl
 simp only[zL];rw[e,e,h]
def To{ts:List yo}(h:ts.w lm=ts'.w lm)(p a q:Nat):xd ⟨p,ts⟩ q=xd ⟨a,ts'⟩ q:=by
 unfold xd;have:zL ⟨p,ts⟩=zL ⟨a,ts'⟩:=funext (RE h p a);rw[this]
def Of(p:Nat)(ts:List yo)(t:yo):lm (jP p ts t)=lm t:=by
 unfold jP;split<;>rfl
def vX(ts:List yo)(k:Nat):List yo:=(ts.G k).w (jP 0 ts)++ts.drop k
def GX(ts:List yo)(k:Nat):(vX ts k).w lm=ts.w lm:=by
 unfold vX;rw[uY,nI,List.map_drop,show(lm ∘ jP 0 ts)=lm from funext (Of 0 ts),we,jF]
def T6(ts:List yo)(k:Nat):(vX ts k).j=ts.j:=by
 have:=congrArg List.length (GX ts k);simpa using this
def Sk(ts:List yo)(k:Nat)(a:k<ts.j):(vX ts k)[k]?=Z ts[k]:=by
 unfold vX;rw[gJ υ,xv,vi,dC η,vF,List.getElem?_drop];simp[a]
def LC(ts:List yo)(k:Nat)(a:k<ts.j):(vX ts k).set k (jP 0 ts ts[k])=vX ts (k+1):=by
 unfold vX;rw[gz _ _ υ,xv,vi,dC η,vF,yK a,ml,yF a,uY,jt];rfl
def Jv(ts:List yo):vX ts 0=ts:=by simp[vX]
def GO(ts:List yo):vX ts ts.j=ts.w (jP 0 ts):=by simp[vX]
def NW{l:zx}{q:Nat}(a:q<=1000000):(xd l q).d 0<=1000000:=by
 unfold xd;split;have:=sT (p:=zL l) (l:=h_ q);simp at this ⊢;omega;simp
def SK(ns:List Λ)(x:Λ):(xr ns x).d 0<=ns.j:=by
 unfold xr;split;simp;omega;simp
def Oy(vs:List Λ)(a:Φ)(n:Λ)(h:∀x∈a,x<=1000):vd vs a n<=1000:=by
 unfold vd;split;omega;split;omega;rename_i k _ _;by_cases b:k<a.j;rw[kZ,yn b];exact h _ (zr b);rw[kZ,d8 η];simp
def On(ns vs:List Λ)(a:Φ)(x:Λ)(h:∀y∈a,y<=1000)(b:ns.j<=1000):(uR ns vs a x).D<=1000/\(uR ns vs a x).w=0:=by
 unfold uR;split;exact⟨Oy vs a x h,rfl⟩;have:=SK ns x;exact⟨by simp only;omega,rfl⟩
def Ch{α:Type}{l:List α}{k:Nat}{x:α}(h:l[k]?=Z x):l.set k x=l:=by
 obtain⟨a,e⟩:=jB.1 h;rw[←e];exact tr a
def T3(ts:List yo)(k:Nat)(t:yo)(b:Nat)(h:ts[k]?=Z t):(UM (ts.w kQ)).set (k*3+2) (ι b)=UM ((ts.set k {t with w:=b}).w kQ):=by
 obtain⟨f,e⟩:=jB.1 h;have a:k<(ts.w kQ).j:=by simpa using f
 have q:=oF (ts.w kQ) k a (.i t.var) (ι t.D) (ι b);obtain⟨c,d,_⟩:=ou (ts.w kQ) k a;simp only[xM,e,kQ] at c d;rw[Ch c,Ch d] at q;rw[q,dY];rfl
def fJ(ts:List yo)(k:Nat):List yo:=ts.G k++m_ (ts.j-k) ⟨false,0,0⟩
def M0(ts:List yo)(k:Nat)(a:k<=ts.j):(fJ ts k).j=ts.j:=by simp[fJ];omega
def Jy(ts:List yo)(k:Nat)(a:k<ts.j):(fJ ts k).set k ts[k]=fJ ts (k+1):=by
 unfold fJ;obtain⟨m,b⟩:∃m,ts.j-k=m+1:=⟨ts.j-k-1,η⟩;rw[gz _ _ υ,vi,dC η,vF,b,p8,ml,show ts.j-(k+1)=m from by omega,yF a,jt];rfl
def Mf(ts:List yo):fJ ts ts.j=ts:=by simp[fJ]
def FZ(ts:List yo)(k:Nat)(h:∀x∈ts,x.D<=1000/\x.w=0):∀x∈vX ts k,x.D<=1000000/\x.w<=1000000:=by
 intro x a;unfold vX at a;rw[zW] at a;rcases a with a|a;rw[z9] at a;obtain⟨y,b,rfl⟩:=a;have:=h y (gZ b);unfold jP;split;exact⟨by simp only;omega,NW η⟩;omega;have:=h x (fw a);omega
def AX{w:U}{d:Nat}{e:TypeId}{g n cap m:Nat}{f:List (O×O×O)}(h:w.r d e 3 (.k (Z (δ g)) n cap) m (UM f))(k:Nat)(i:k<f.j):
  ∃a b c,g<w.o.q/\w.p (ω g (k*3))=Z a/\w.p (ω g (k*3+1))=Z b/\w.p (ω g (k*3+2))=Z c:=⟨_,_,_,pq h k i⟩
def EM{a9 lo3:Nat}(w:U)(mb tb o cb sb:Nat)(t:Ψ)(ns vs:List Λ)(u:Φ)(l:zk)(va:O)(h:nT lo w mb tb o cb t ns)(hs:dZ a9 w sb vs u)(hl:vs.j<=1000)(a6:∀y∈u,y<=1000)(ha:U7 lo3 w va l.k)(ai:l.k.j<=1000):
  c_ e_ 160 #[(π mb),.agg #[.i l.i,.g l.o,va],(π sb)] w λe K=>∃tv,e=ε (.agg #[ι (zE t l.o:Nat),tv])/\yx w.o.q K tv (zT t ns vs u l).v/\μ w K:=by
 obtain⟨i0,hi,a7,a4,aH⟩:=info_parts U0;obtain⟨ao,A,rfl⟩:=ha.qm;have an:=λW:U=>run_make (P:=e_) (w:=W) 202 284 i0 _ underlying202 hi a7 .i64 .i64 (l.k.j:Int) (l.k.j:Int) η (Int.le_refl _) (by rw[aH];omega) η;rw[a4] at an;have HF:=U2 λW N=>iy lo W tb o t l.o (h.2.1.u N) h.2.2.2.1;have HT:=U2 λW x N=>LM W mb tb o cb sb t ns vs u x (h.u N) (hs.u N) hl;have ae:X (∀x∈uq ns vs u l,x.D<=1000/\x.w=0):=λx hx=>by
  simp only[uq,z9] at hx;obtain⟨y,_,rfl⟩:=hx;exact On ns vs u y a6 h.2.2.2.2
 have HE:X ((zT t ns vs u l).v=(uq ns vs u l).w (jP 0 (uq ns vs u l))):=rfl;have n:(uq ns vs u l).j=l.k.j:=by simp[uq]
 have ag:X (∀k (hk:k<l.k.j) (ay:k<(uq ns vs u l).j),uR ns vs u l.k[k]=(uq ns vs u l)[k]):=λk hk ay=>by simp[uq]
 obtain⟨ah,aE,aN⟩:=h.1.I;have au:w.p ⟨mb,0,Y⟩=Z (.u (Z ⟨tb,o,Y⟩)):=by rw[ah];rfl
 clear h hs ah;generalize uq ns vs u l=b at *;generalize zE t l.o=E at *;generalize (zO t l.o).I=fb at *;go_enter func160,ntmps160;go_upto_region 1 with fail
 go_quiet ((go_at_call 77;exact c_.quiet_of_same (HF.l _ φ)))
 go_upto_region 4 with fail
 have a:=zy (EK ((((w.C (.E #[.i l.i,.g l.o,.k ao l.k.j A] 90)).C (.E #[ι 0,ν] 204)).drewN nq)) l.k.j 284 (.i false) (ι 0) (ι 0) b_) ((zn _ _).C (ze _) (.E #[ι E,.k (Z ⟨w.o.q+1+1,0,Y⟩) l.k.j l.k.j] 204));have c:=U3.new ((((w.C (.E #[.i l.i,.g l.o,.k ao l.k.j A] 90)).C (.E #[ι 0,ν] 204)).drewN nq).C (.E (madeCells #[.i false,ι 0,ι 0] (l.k.j*3)) 284)) #[ι E,.k (Z ⟨w.o.q+1+1,0,Y⟩) l.k.j l.k.j] 204;have d:=(((U3.new (w.C (.E #[.i l.i,.g l.o,.k ao l.k.j A] 90)) #[ι 0,ν] 204).u (zG (zn _ _) nq)).u ((zn _ _).C (ze _) (.E (madeCells #[.i false,ι 0,ι 0] (l.k.j*3)) 284))).u ((zn _ _).C (ze _) (.E #[ι E,.k (Z ⟨w.o.q+1+1,0,Y⟩) l.k.j l.k.j] 204));have T:μ w (((((w.C (.E #[.i l.i,.g l.o,.k ao l.k.j A] 90)).C (.E #[ι 0,ν] 204)).drewN nq).C (.E (madeCells #[.i false,ι 0,ι 0] (l.k.j*3)) 284)).C (.E #[ι E,.k (Z ⟨w.o.q+1+1,0,Y⟩) l.k.j l.k.j] 204)):=φ;have J:(((w.C (.E #[.i l.i,.g l.o,.k ao l.k.j A] 90)).C (.E #[ι 0,ν] 204)).drewN nq).o.q=w.o.q+1+1:=ζ;simp only[k_,J] at a c d;clear J;generalize ((((w.C (.E #[.i l.i,.g l.o,.k ao l.k.j A] 90)).C (.E #[ι 0,ν] 204)).drewN nq).C (.E (madeCells #[.i false,ι 0,ι 0] (l.k.j*3)) 284)).C (.E #[ι E,.k (Z ⟨w.o.q+1+1,0,Y⟩) l.k.j l.k.j] 204)=w3 at *;have a0:=T.q;have H0:X (UM (m_ l.k.j (O.bool false,O.int .i64 0,O.int .i64 0))=UM ((fJ b 0).w kQ)):=by
  rw[X,fJ,List.take_zero,mo,Nat.sub_zero,n,List.map_replicate];rfl
 rw[H0.l] at a;clear H0 an au aE HF;have a:=yq a (show w.o.q<=w.o.q+1+1 by omega);go_loopw [35] (λav wr=>∃k:Nat,k<=l.k.j/\av=ι k/\U3 wr (w.o.q+1+1+1) #[ι E,.k (Z ⟨w.o.q+1+1,0,Y⟩) l.k.j l.k.j] 204/\U3 wr (w.o.q+1) #[ι 0,ν] 204/\wr.r w.o.q 284 3 (.k (Z ⟨w.o.q+1+1,0,Y⟩) l.k.j l.k.j) l.k.j (UM ((fJ b k).w kQ))/\μ w wr) (λi _=>l.k.j-(d_ i).D);exact⟨0,zs _,rfl,c,d,a,T⟩;clear a c d;obtain⟨k,hk,rfl,c,d,a,m⟩:=hrel;have L:=m.q;by_cases p:k<l.k.j
 .obtain⟨g,rfl,hg,B⟩:=ha.cell k p;have aL:=zi m hg B;have aR:g<wr.o.q:=η;have s:=U2 (Jy b k η);have a8:=U2 (ag.l k p η);have aM:=M0 b k η;obtain⟨e0,e1,e2,a1,F,aa,V⟩:=AX a k υ;have az:=uv a;obtain⟨D,I,H⟩:=c.I;have aJ:wr.p ⟨w.o.q+1+1+1,1,Y⟩=Z (.k (Z ⟨w.o.q+1+1,0,Y⟩) l.k.j l.k.j):=by rw[D];rfl
  clear B;have a2:X (∀W,μ wr W->c_ e_ 186 #[(π mb),.g l.k[k],(π sb)] W λe K=>e=ε (.agg #[.i b[k].var,ι (b[k].D:Nat),ι (b[k].w:Nat)])/\μ W K):=λW N=>by
   have q:=HT.l W l.k[k] (U6 m N);rw[a8.l] at q;exact q
  generalize b[k]=tk at *;generalize l.k[k]=x at *;generalize (fJ b k)=lk at *;go_wp2;go_region_held3 (λK=>K.p ⟨w.o.q+1+1+1,1,Y⟩=Z (.k (Z ⟨w.o.q+1+1,0,Y⟩) l.k.j l.k.j)) (first|go_keep|(go_simp;done)) (first|(go_at_call 186;refine(a2.l _ φ).y ?_;rintro e w4 ⟨rfl,ad⟩;have f:μ wr w4:=(zJ φ ad (ze _));have G:=c.u f;have ab:=d.u f;have r:=zy a f;obtain⟨ar,am,aj⟩:=G.I;obtain⟨f0,f1,f2,aD,aB,aC,aA⟩:=AX r k υ;have aq:=uv r;have aw:=f.q))
  have j:=t7 r k υ (.i tk.var) (ι tk.D) (ι tk.w);have HM:(lk.w kQ).set k (.i tk.var,ι tk.D,ι tk.w)=(fJ b (k+1)).w kQ:=by rw[←s.l,dY];rfl
  rw[HM] at j;have Q:=((G.set_ne (show w.o.q+1+1+1≠w.o.q+1+1 by omega) (k*3) (.i tk.var)).set_ne (show w.o.q+1+1+1≠w.o.q+1+1 by omega) (k*3+1) (ι tk.D)).set_ne (show w.o.q+1+1+1≠w.o.q+1+1 by omega) (k*3+2) (ι tk.w);have ac:=((ab.set_ne (show w.o.q+1≠w.o.q+1+1 by omega) (k*3) (.i tk.var)).set_ne (show w.o.q+1≠w.o.q+1+1 by omega) (k*3+1) (ι tk.D)).set_ne (show w.o.q+1≠w.o.q+1+1 by omega) (k*3+2) (ι tk.w);have S:μ w (((w4.x ⟨w.o.q+1+1,k*3,Y⟩ (.i tk.var)).x ⟨w.o.q+1+1,k*3+1,Y⟩ (ι tk.D)).x ⟨w.o.q+1+1,k*3+2,Y⟩ (ι tk.w)):=(((U6 m f).x υ _).x υ _).x υ _;generalize ((w4.x ⟨w.o.q+1+1,k*3,Y⟩ (.i tk.var)).x ⟨w.o.q+1+1,k*3+1,Y⟩ (ι tk.D)).x ⟨w.o.q+1+1,k*3+2,Y⟩ (ι tk.w)=w5 at *;go_wp2;go_roundw;exact⟨k+1,η,ξ,Q,ac,j,S⟩;simp[d_];omega
 obtain rfl:k=l.k.j:=η;rw[←n,Mf] at a;rw[←n] at c;clear p hk;obtain⟨D,I,H⟩:=c.I;go_wp2;clear D I H;rw[←n] at ai ⊢;clear T a0 HT ag n;go_loopw [52] (λa3 wr=>∃k:Nat,k<=b.j/\a3=ι k/\U3 wr (w.o.q+1+1+1) #[ι E,.k (Z ⟨w.o.q+1+1,0,Y⟩) b.j b.j] 204/\U3 wr (w.o.q+1) #[ι 0,ν] 204/\wr.r w.o.q 284 3 (.k (Z ⟨w.o.q+1+1,0,Y⟩) b.j b.j) b.j (UM ((vX b k).w kQ))/\μ w wr) (λi _=>b.j-(d_ i).D);exact⟨0,zs _,rfl,c,d,by rw[Jv];exact a,m⟩;clear a c d m L;obtain⟨k,hk,rfl,c,d,a,m⟩:=hrel;have L:=m.q;by_cases p:k<b.j
 .have aG:=T6 b k;have C:=U2 (Sk b k p);have s:=U2 (LC b k p);have ap:X (xd ⟨E,vX b k⟩ b[k].D=xd ⟨0,b⟩ b[k].D):=To (GX b k) _ _ _;have z:X (jP 0 b b[k]=if b[k].var then{b[k] with w:=(xd ⟨0,b⟩ b[k].D).d 0} else b[k]):=rfl;have M:=FZ b k ae.l;have aK:=(ae.l b[k] (zr p)).1;obtain⟨a1,F,aa,V⟩:=pq a k υ;have al:k<(vX b k).j:=η;have af:(vX b k)[k]=b[k]:=by have q:=C.l;rw[yn al] at q;simpa using q
  simp only[xM,af,kQ] at F aa V;have az:=uv a;obtain⟨D,I,H⟩:=c.I;have ak:X (yx w.o.q wr (.k (Z ⟨w.o.q+1+1,0,Y⟩) b.j b.j) (vX b k)):=⟨by rw[aG];exact a,η,M⟩;have ax:X (∀W,μ wr W->c_ e_ 187 #[.agg #[ι E,.k (Z ⟨w.o.q+1+1,0,Y⟩) b.j b.j],ι (b[k].D:Nat)] W λe K=>e=ε (.tuple #[ι (((xd ⟨0,b⟩ b[k].D).d 0:Nat):Int),.i (xd ⟨0,b⟩ b[k].D).I])/\μ W K):=λW N=>by
   have q:=F8 W _ E b[k].D (vX b k) (ak.l.u N) η;rw[ap.l] at q;exact q
  clear al af ap M ak;generalize b[k]=tk at *;generalize vX b k=R at *;generalize (xd ⟨0,b⟩ tk.D).d 0=lv at *;generalize (xd ⟨0,b⟩ tk.D).I=lb at *;cases hv:tk.var
  .rw[hv] at F z;simp only[fh,if_false] at z;go_wp2;have a5:X (R=vX b (k+1)):=by
    rw[X,←s.l,z.l];exact(Ch C.l).z
   go_roundw;exact⟨k+1,η,ξ,c.u φ,d.u φ,by rw[←a5.l];exact zy a φ,zJ m φ (ze _)⟩;simp[d_];omega
  rw[hv] at F z;simp only[if_true] at z;have aQ:wr.o.q≠w.o.q+1+1:=η;go_upto_region 13 with (first|(go_at_call 187;refine(ax.l _ φ).y ?_;rintro e w4 ⟨rfl,ad⟩;have f:μ wr w4:=(zJ φ ad (ze _));have G:=c.u f;have ab:=d.u f;have r:=zy a f;obtain⟨ar,am,aj⟩:=G.I;obtain⟨f0,f1,f2,aD,aB,aC,aA⟩:=AX r k υ;have aq:=uv r;have aw:=f.q))
  have j:=um r (k*3+2) (by rw[wK];simp;omega) (ι lv);have Q:=G.set_ne (show w.o.q+1+1+1≠w.o.q+1+1 by omega) (k*3+2) (ι lv);have ac:=ab.set_ne (show w.o.q+1≠w.o.q+1+1 by omega) (k*3+2) (ι lv);have S:μ w (w4.x ⟨w.o.q+1+1,k*3+2,Y⟩ (ι lv)):=((U6 m f).x υ _);have HM:X ((UM (R.w kQ)).set (k*3+2) (ι lv)=UM ((vX b (k+1)).w kQ)):=by
   rw[X,←s.l,z.l];exact T3 R k tk lv C.l
  rw[HM.l] at j;clear F aa V;go_wp2;generalize w4.x ⟨w.o.q+1+1,k*3+2,Y⟩ (ι lv)=w5 at *;go_roundw;exact⟨k+1,η,ξ,Q,ac,j,S⟩;simp[d_];omega
 obtain rfl:k=b.j:=η;rw[GO] at a;obtain⟨D,I,H⟩:=c.I;obtain⟨aF,aO,aP⟩:=d.I;have aI:X (∀x∈b.w (jP 0 b),x.D<=1000000/\x.w<=1000000):=by rw[←GO];exact FZ b _ ae.l
 go_wp2
 (try simp only[j_,Exit.then])
 refine zP (v:=.agg #[ι E,.k (Z ⟨w.o.q+1+1,0,Y⟩) b.j b.j]) (by simp[results,results160,go_sem,aF]) rfl ⟨_,rfl,?_,(m.x ζ _).x ζ _⟩;rw[HE.l];refine⟨?_,by simpa using ai,aI.l⟩;rw[xv];exact xJ a (((UF.refl (w.o.q+1) wr).x 0 _).x 1 _) d θ
end
section
open Go.Proofs.Tryz Go.RowKit
variable {lo:Nat}
def qd(a:List Nat)(x:Int×Nat):List Nat:=if 0<=x.1/\x.1<5 then a.set x.1.D x.2 else a
def yL(os:List Int):List Nat:=os.zipIdx.H qd [0,1,2,3,4]
def SR(a:Φ)(x:Int×Nat):(qd a x).j=a.j:=by unfold qd;split<;>simp
def eP(os:List Int):(yL os).j=5:=by
 have:∀(l:List (Int×Nat)) (a:Φ),(l.H qd a).j=a.j:=by
  intro l;induction l with
  |nil=>intro a;rfl
  |cons x l b=>intro a;rw[uQ,b,SR]
 exact this _ _
def Fn{os:List Int}{k:Nat}(a:k<os.j):(os.G (k+1)).zipIdx.H qd [0,1,2,3,4]=qd ((os.G k).zipIdx.H qd [0,1,2,3,4]) (os[k],k):=by
 rw[yF a,t_,j4];simp only[p_,vi,uM,uQ,List.foldl_nil];rw[dC η]
def gy(b:O)(a:List Nat):List Value:=b::a.map Vg
def II(b:O)(a:Φ)(k x:Nat):(gy b a).F.setIfInBounds (1+k) (ι x)=(gy b (a.set k x)).F:=by
 rw[Nat.add_comm];simp[gy,List.map_set,Vg]
def nf(k:Nat):List Nat:=(h_ 5).map λi=>if i<k then i else 0
def SZ(k:Nat)(a:k<5):(nf k).set k k=nf (k+1):=by
 obtain rfl|rfl|rfl|rfl|rfl:k=0∨k=1∨k=2∨k=3∨k=4:=η
 all_goals rfl
def FA{w:U}{a:Nat}{d:O}{b:Φ}(f:b.j=5)(h:U3 w a (gy d b).F 257):a<w.o.q/\(∀o,w.frozen? (ω a o)=false)/\∀k,k<5->∃x:Nat,w.p (ω a (1+k))=Z (ι (x:Nat)):=by
 obtain⟨g,e⟩:=h.H;refine⟨h.lt,e,λk c=>⟨b[k]'η,?_⟩⟩;rw[g,Nat.add_comm];simp[gy,f,c,Vg]
def KG(w:U)(vs:κ)(b:List Nat)(e:Ending)(w':U):Prop:=∃a,e=ε (.agg (gy a b).F)/\U7 w.o.q w' a vs/\μ w w'
def Nz(w:U)(c:zd)(va vb ov:O)(o:Option (List Int))(hs:U7 lo w va c.g.k)(T:Vd lo w vb c.d)(hl:c.g.k.j+xn c.d<=1000)(H:c.d.j<=1000)(ho:ur w ov o)(an:(o.d []).j<=1000):
  c_ e_ 158 #[.agg #[.i c.g.i,.g c.g.o,va,vb],ov] w λe w'=>KG w (zu c) (yL (o.d [])) e w':=by
 obtain⟨ao,ae,rfl⟩:=hs.qm;obtain⟨aa,J,rfl⟩:=T.qm;obtain⟨am,ag,rfl⟩:=ho.qm;have HP:=U2 λW hW=>iX W c _ _ (hs.u hW) (T.u hW) hl H;have HO:=U2 ho;clear hs T hl H ho;go_enter func158,ntmps158;go_upto_region 2 with (first|(go_at_call 148;refine(HP.l _ γ).y ?_;rintro e u ⟨D,rfl,t,E⟩;obtain⟨l,b,rfl⟩:=zq t))
 have F:μ w u:=zJ γ E (ze _);have ak:=F.q;have N:U7 w.o.q u (.k l (zu c).j b) (zu c):=yq t υ;have A:=(U3.new (w.C (.E #[.i c.g.i,.g c.g.o,.k ao c.g.k.j ae,.k aa c.d.j J] 171)) #[ν,ι 0,ι 0,ι 0,ι 0,ι 0] 257).u E;rw[k_] at A;have ap:=A.lt;have a:=U3.new u (gy (.k l (zu c).j b) (nf 0)).F 257;have z:μ u (u.C (.E (gy (.k l (zu c).j b) (nf 0)).F 257)):=γ;have j:=N.u z;have h:=A.u z;have d:=U6 F z;rw[show(gy (.k l (zu c).j b) (nf 0)).F=#[.k l (zu c).j b,ι 0,ι 0,ι 0,ι 0,ι 0] from rfl] at j h d;rw[show(u.C (.E (gy (.k l (zu c).j b) (nf 0)).F 257))=(u.C (.E #[.k l (zu c).j b,ι 0,ι 0,ι 0,ι 0,ι 0] 257)) from rfl] at a;clear t E A N HP z;generalize K:zu c=vs at *;have S:=U2 K;clear K;generalize B:O.slice l vs.j b=D at *;generalize u.C (.E #[D,ι 0,ι 0,ι 0,ι 0,ι 0] 257)=w2 at *;generalize u.o.q=sb at *;clear F u;have ab:=U2 B;clear B;go_wp2;go_loopw [12] (λac wr=>∃k:Nat,k<=5/\ac=ι k/\U3 wr sb (gy D (nf k)).F 257/\U3 wr (w.o.q+1) #[ν,ι 0,ι 0,ι 0,ι 0,ι 0] 257/\U7 w.o.q wr D vs/\μ w wr) (λi _=>5-(d_ i).D);exact⟨0,η,rfl,a,h,j,d⟩;clear a h j d;obtain⟨k,hk,rfl,a,h,j,d⟩:=hrel;have Q:=d.q;by_cases s:k<5
 .have ah:(k:Int)<5:=η;obtain⟨L,M,r⟩:=FA (by simp[nf]) a;obtain⟨x,hx⟩:=r k s;have m:=a.set (1+k) (ι k);rw[II,SZ k s] at m;clear r;go_wp2;go_roundw;exact⟨k+1,η,ξ,m,h.set_ne η _ _,xJ j ((UF.refl _ _).x _ _) a θ,d.x υ _⟩;simp[d_];omega
 obtain rfl:k=5:=η;clear hk s;have HF:X (nf 5=((o.d []).G 0).zipIdx.H qd [0,1,2,3,4]):=rfl;rw[HF.l] at a;clear HF;go_wp2;go_loopw [22] (λV wr=>∃k:Nat,k<=(o.d []).j/\V=ι k/\U3 wr sb (gy D (((o.d []).G k).zipIdx.H qd [0,1,2,3,4])).F 257/\U3 wr (w.o.q+1) #[ν,ι 0,ι 0,ι 0,ι 0,ι 0] 257/\U7 w.o.q wr D vs/\μ w wr) (λi _=>(o.d []).j-(d_ i).D);exact⟨0,η,rfl,a,h,j,d⟩;clear a h j d Q;obtain⟨k,hk,rfl,a,h,j,d⟩:=hrel;have Q:=d.q;have I:(((o.d []).G k).zipIdx.H qd [0,1,2,3,4]).j=5:=eP _;by_cases s:k<(o.d []).j
 .obtain⟨g,f,rfl,hg,hc⟩:=HO.l.cell k s;have al:=zi d hg hc;have z:g<wr.o.q:=η;have C:=U2 (Fn s);clear hc;generalize (o.d [])[k]=x at *;generalize ((o.d []).G k).zipIdx.H qd [0,1,2,3,4]=pl at *;by_cases p:0<=x/\x<5
  .obtain⟨n,rfl⟩:=Int.eq_ofNat_of_zero_le p.1;have ai:=p.2;have hn:n<5:=η;obtain⟨L,M,r⟩:=FA I a;obtain⟨y,hy⟩:=r n hn;have m:=a.set (1+n) (ι k);rw[II] at m;have q:X (((o.d []).G (k+1)).zipIdx.H qd [0,1,2,3,4]=pl.set n k):=by rw[X,C.l,qd,zb p];rfl
   clear r C p;go_wp2;go_roundw;exact⟨k+1,η,ξ,by rw[q.l];exact m,h.set_ne η _ _,xJ j ((UF.refl _ _).x _ _) a θ,d.x υ _⟩;simp[d_];omega
  have q:X (((o.d []).G (k+1)).zipIdx.H qd [0,1,2,3,4]=pl):=by rw[X,C.l,qd,za p]
  clear C;rcases Int.lt_or_le x 0 with h0|h0
  .clear p;go_wp2;exact⟨⟨_,_,_,⟨k+1,η,ξ,by rw[q.l];exact a⟩,rfl,rfl,rfl⟩,by simp[d_];omega⟩
  have h5:5<=x:=η;clear p;go_wp2;go_roundw;exact⟨k+1,η,ξ,by rw[q.l];exact a,h,j,d⟩;simp[d_];omega
 have G:X (((o.d []).G k).zipIdx.H qd [0,1,2,3,4]=yL (o.d [])):=by rw[X,yO η];rfl
 rw[G.l] at a;have H5:=eP (o.d []);generalize P:yL (o.d [])=pl at *;obtain⟨R,p1,p2,p3,p4,rfl⟩:=five H5;have af:=U2 P;clear P;rw[show(gy D [R,p1,p2,p3,p4]).F=#[D,ι R,ι p1,ι p2,ι p3,ι p4] from rfl] at a;obtain⟨r,M,L⟩:=a.I;obtain⟨ad,aq,aj⟩:=h.I;have B:=ab.l;subst B;clear I H5 G;go_wp2
 (try simp only[j_,Exit.then])
 refine zP (v:=.agg (gy (.k l vs.j b) [R,p1,p2,p3,p4]).F) (by simp[results,results158,go_sem,ad,gy,Vg]) rfl ⟨_,by rw[af.l],?_,?_⟩;rw[S.l];exact xJ j ψ h θ;exact(((((d.x ζ _).x ζ _).x ζ _).x ζ _).x ζ _).x ζ _
def uo(os:Option (List (Option (List Int))))(k:Nat):Option (List Int):=(os.d []).d k Y
def PO(w:U)(c:O)(os:Option (List (Option (List Int))))(k:Nat)(h:ki w c os)(i:(os.d []).j<=2000000):
  c_ e_ 116 #[c,ι k] w λe j=>∃u,e=.returned u/\ur w u (uo os k)/\j=w:=by
 obtain⟨n,l,rfl⟩:=h.qm;by_cases b:k<(os.d []).j
 .obtain⟨g,f,u,rfl,p,o,m⟩:=h.cell k b;have a:X (uo os k=(os.d [])[k]):=by simp[X,uo,b]
  have d:=U2 m;go_enter func116,ntmps116;go_wp2;go_ret;exact⟨_,rfl,by rw[a.l];exact d.l,rfl⟩
 have a:X (uo os k=Y):=by simp[X,uo,List.getD_eq_getElem?_getD,i_ (Nat.not_lt.1 b)]
 go_enter func116,ntmps116;go_wp2;go_ret;exact⟨_,rfl,by rw[a.l];rfl,rfl⟩
def qu(t:List zf)(ns:κ)(c:zd):jM:=⟨zE t c.g.o,zI (zT t ns [] [0,0,0,0,0] c.g) [0,0,0,0,0]⟩
def CZ(f:jM):Value:=.agg #[ι f.o,ι (f.row.d 0 0:Nat),ι (f.row.d 1 0:Nat),ι (f.row.d 2 0:Nat)]
def M8{A:Nat}(w:U)(L tb o cb:Nat)(t:Ψ)(ns:List Λ)(c:zd)(va vb:O)(h:nT lo w L tb o cb t ns)(hs:U7 A w va c.g.k)(N:Vd A w vb c.d)(I:c.g.k.j<=1000):
  c_ e_ 118 #[(π L),.agg #[.i c.g.i,.g c.g.o,va,vb]] w λe n=>e=ε (CZ (qu t ns c))/\μ w n:=by
 obtain⟨T,E,rfl⟩:=hs.qm;obtain⟨q,i,rfl⟩:=N.qm;have HL:=U2 λW sb (hW:μ w W) (b:dZ 0 W sb [] [0,0,0,0,0])=>EM W L tb o cb sb t ns [] [0,0,0,0,0] c.g _ (h.u hW) b ζ ζ (hs.u hW) I;have HR:X (∀W v (V:Nat),yx V W v (zT t ns [] [0,0,0,0,0] c.g).v->c_ e_ 161 #[.agg #[ι (zE t c.g.o:Nat),v],tW 0 0 0 0 0] W λr n=>r=ε (.agg #[ι (((qu t ns c).row.d 0 0:Nat):Int),ι (((qu t ns c).row.d 1 0:Nat):Int),ι (((qu t ns c).row.d 2 0:Nat):Int)])/\μ W n):=λW v V s=>Bb W v (zE t c.g.o) _ 0 0 0 0 0 s;have HE:X (CZ (qu t ns c)=.agg #[ι (zE t c.g.o:Nat),ι ((qu t ns c).row.d 0 0:Nat),ι ((qu t ns c).row.d 1 0:Nat),ι ((qu t ns c).row.d 2 0:Nat)]):=rfl;clear h hs N;have b:=U3.new ((w.C (.E #[.i c.g.i,.g c.g.o,.k T c.g.k.j E,.k q c.d.j i] 171)).C (.E #[ι 0,ι 0,ι 0,ι 0] 210)) #[ν,ι 0,ι 0,ι 0,ι 0,ι 0] 257;have m:=(U3.new (w.C (.E #[.i c.g.i,.g c.g.o,.k T c.g.k.j E,.k q c.d.j i] 171)) #[ι 0,ι 0,ι 0,ι 0] 210).u ((zn _ _).C (ze _) (.E #[ν,ι 0,ι 0,ι 0,ι 0,ι 0] 257));simp only[k_] at b m;generalize (qu t ns c).row.d 0 0=x at *;generalize (qu t ns c).row.d 1 0=y at *;generalize (qu t ns c).row.d 2 0=z at *;generalize (zT t ns [] [0,0,0,0,0] c.g).v=F at *;generalize zE t c.g.o=p at *;go_enter func118,ntmps118;go_upto_region 3 with (first|(go_at_call 160;refine(HL.l _ _ γ (by exact⟨_,0,0,0,0,0,rfl,b,U7.nil _⟩)).y ?_;rintro e g ⟨tv,rfl,s,l⟩;obtain⟨d,a,rfl⟩:=s.qm))
 have B:μ w g:=zJ γ l (ze _);have k:=m.u l;clear b m HL;have af:=k.lt;have f:μ g (g.C (.E #[ι p,.k d F.j a] 204)):=γ;have u:=U3.new g #[ι p,.k d F.j a] 204;have H:=k.u f;have J:X (yx _ _ _ F):=s.u f;have D:=U6 B f;clear s k l f;generalize g.C (.E #[ι p,.k d F.j a] 204)=w2 at *;generalize g.o.q=P at *;clear B g;obtain⟨ab,ad,aa⟩:=u.I;have ae:=D.q;go_region_held3 (λn=>n.p ⟨P,0,Y⟩=Z (ι p)/\n.p ⟨P,1,Y⟩=Z (.k d F.j a)) (first|go_keep|(go_simp;done)) (first|(go_at_call 161;refine(HR.l _ _ _ (by exact J.l.u γ)).y ?_;rintro e w3 ⟨rfl,G⟩;have j:μ w2 w3:=(zJ γ G (ze _));have M:=u.u j;have K:=H.u j;obtain⟨ac,R⟩:=M.H;obtain⟨C,Q,S⟩:=K.I))
 all_goals
  go_wp2
  (try simp only[j_,Exit.then])
  exact zP (v:=.agg #[ι p,ι x,ι y,ι z]) (by simp[results,results118,go_sem,C]) rfl ⟨by rw[HE.l],((((U6 D j).x ζ _).x ζ _).x ζ _).x ζ _⟩
end
section
open Go.Proofs.Tryz Go.RowKit
variable {lo:Nat}{w0 w:U}{rb rr sb st va hp:Nat}{htv plv nlv v':O}{ht:List yo}{pls nls:List zx}{vs:κ}{pl:List Nat}
def TR:(e_.info? 204).w (λi=>(i.zero,i.q,i.bytes))=Z (Z (.agg #[ι 0,ν]),2,32):=χ
def vI(t:List zf)(ns:κ)(c:zd)(o:Option (List Int)):zv:=
 {L:=xO t c.g.o,m:=(zu c).j,g:=zT t ns (zu c) (yL (o.d [])) c.g,qc:=(c.d.filter λl=>!l.i).w (zT t ns (zu c) (yL (o.d []))),qx:=(c.d.filter λl=>l.i).w (zT t ns (zu c) (yL (o.d [])))}
def ME(ps:List (Nat×O))(x:Nat×O):fm (ps++[x])=fm ps++[ι (x.1:Nat),x.2]:=by simp[fm]
structure gG (B:Nat) (w0 w:U) (rb rr sb st va hp:Nat) (htv plv nlv:O) (ht:List yo) (pls nls:List zx) (vs:κ) (pl:List Nat):Prop where
 box:U3 w rb #[ι st,ι va,ι hp,htv,plv,nlv] 207
 res:U3 w rr #[ι 0,ι 0,ι 0,ν,ν,ν] 207
 scope:dZ B w sb vs pl
 g:yx B w htv ht
 pln:uy B w plv pls
 nln:uy B w nlv nls
 apart:∀b,plv.m=Z b->nlv.m≠Z b
 u:Below B w0 w
 low:B<=rb/\B<=rr/\rb≠rr
def gG.next{B:Nat}{w':U}(h:gG B w0 w rb rr sb st va hp htv plv nlv ht pls nls vs pl)(a:μ w w')(b:B<=w0.o.q):gG B w0 w' rb rr sb st va hp htv plv nlv ht pls nls vs pl:=
 ⟨h.box.u a,h.res.u a,h.scope.u a,h.g.u a,h.pln.u a,h.nln.u a,h.apart,zJ h.u a b,h.low⟩
def dZ.saveT{b:Nat}{w w':U}{sb:Nat}{vs:List Λ}{pl:Φ}{T:TypeId}{M:Φ}(h:dZ b w sb vs pl)(hs:zc M w w')(a:UP w T M)(e:257≠T)(m:9≠T):dZ b w' sb vs pl:=by
 obtain⟨f,c,j,g,k,n,i,d,l⟩:=h;exact⟨f,c,j,g,k,n,i,d.saveT hs a e,yR l hs a m⟩
def uy.push{d:Nat}{w':U}{v:O}{ls:List zx}{ps:List (Nat×O)}{l:zx}{tv:O}(h:w.r d 204 2 v ls.j (fm ps))(g:ps.j=ls.j)(f:∀k (h:k<ls.j) (g:k<ps.j),ps[k].1=ls[k].o/\yx d w ps[k].2 ls[k].v/\ls[k].o<=1000000)(j:ls.j+1<=1000)(n:yx d w tv l.v)(hp:l.o<=1000000)
  (m:w'.r d 204 2 v' (ls.j+1) (fm ps++[ι l.o,tv])) (hs:zc v.m.toList w w'):uy d w' v' (ls++[l]):=by
 have i:=UP.own h;refine⟨ps++[(l.o,tv)],by rw[ME,yB];exact m,by simp[g],by simpa using j,λk a b=>?_⟩;by_cases e:k<ls.j;have c:k<ps.j:=η;rw[uI e,uI c];exact⟨(f k e c).1,(f k e c).2.1.saveT hs i θ,(f k e c).2.2⟩;obtain rfl:k=ls.j:=by simp at a;omega
 simp only[←g,n4];exact⟨trivial,n.saveT hs i θ,hp⟩
def gG.pushP{B:Nat}{l:U}{d:List zx}(h:gG B w0 w rb rr sb st va hp htv plv nlv ht pls nls vs pl)(hs:zc plv.m.toList w l)(m:v'.m=plv.m∨∃g,v'.m=Z g/\w.o.q<=g)(y:uy B l v' d)(t:B<=w.o.q):gG B w0 (l.x (ω rb 4) v') rb rr sb st va hp htv v' nlv ht d nls vs pl:=by
 obtain⟨A,o,_⟩:=h.pln;have j:=UP.own o;have i:=h.box.saveT hs j θ;have c:=UP.box i;have a:zc [rb] l (l.x (ω rb 4) v'):=zc.set _ _ _ _;have q:=i.set 4 v';have n:=h.nln.saveT hs j θ λb f p=>h.apart b (yA p) f;refine⟨by simpa using q,(h.res.saveT hs j θ).set_ne (s_ h.low.2.2) _ _,(h.scope.saveT hs j θ θ).saveT a c θ θ,(h.g.saveT hs j θ).saveT a c θ,y.saveTT a c θ θ,n.saveTT a c θ θ,λb f k=>?_,?_,h.low⟩;obtain⟨s,v,_⟩:=h.nln;have r:=yb v k;rcases m with e|⟨g,e,z⟩;rw[e] at f;exact h.apart b f k;rw[e] at f;simp only[zt] at f;omega;exact(h.u.A (hs.u (λx u=>yZ o (yA u)) t)).x h.low.1 _
def gG.pushN{B:Nat}{k:U}{f:List zx}(h:gG B w0 w rb rr sb st va hp htv plv nlv ht pls nls vs pl)(hs:zc nlv.m.toList w k)(m:v'.m=nlv.m∨∃g,v'.m=Z g/\w.o.q<=g)(y:uy B k v' f)(t:B<=w.o.q):gG B w0 (k.x (ω rb 5) v') rb rr sb st va hp htv plv v' ht pls f vs pl:=by
 obtain⟨A,o,_⟩:=h.nln;have j:=UP.own o;have i:=h.box.saveT hs j θ;have d:=UP.box i;have a:zc [rb] k (k.x (ω rb 5) v'):=zc.set _ _ _ _;have q:=i.set 5 v';have n:=h.pln.saveT hs j θ λb l p=>h.apart b l (yA p);refine⟨by simpa using q,(h.res.saveT hs j θ).set_ne (s_ h.low.2.2) _ _,(h.scope.saveT hs j θ θ).saveT a d θ θ,(h.g.saveT hs j θ).saveT a d θ,n.saveTT a d θ θ,y.saveTT a d θ θ,λb l c=>?_,?_,h.low⟩;obtain⟨s,v,_⟩:=h.pln;have r:=yb v l;rcases m with e|⟨g,e,z⟩;rw[e] at c;exact h.apart b l c;rw[e] at c;simp only[zt] at c;omega;exact(h.u.A (hs.u (λx u=>yZ o (yA u)) t)).x h.low.1 _
def BE{α:Type}(p:α->Bool)(l:List α)(k:Nat)(a:k<l.j):(l.G (k+1)).filter p=(l.G k).filter p++(if p l[k] then [l[k]] else []):=by
 rw[yF a,wG];congr 1;cases h:p l[k]<;>simp[h]
def Dl(t:Ψ)(n:Λ):zE t n<=t.j:=by
 unfold zE;split;exact tG t n;omega
def MJ(os:List Int)(h:os.j<=1000):∀y∈yL os,y<=1000:=by
 have:∀(l:List (Int×Nat)) (pl:Φ),(∀x∈l,x.2<=1000)->(∀y∈pl,y<=1000)->∀y∈l.H qd pl,y<=1000:=by
  intro l;induction l with
  |nil=>intro pl _ h;exact h
  |cons x l e=>
   intro pl b c;refine e _ (λy a=>b y (pf _ a)) λy a=>?_;unfold qd at a;split at a;rcases mA a with q|q;exact c y q;subst q;exact b x ζ;exact c y a
 refine this _ _ (λx d=>?_) θ;have:=List.snd_lt_of_mem_zipIdx d;omega
def Jh(w:U)(r:zv)(e:Ending)(w':U):Prop:=∃a b c,e=ε (gH r a b c)/\vQ w.o.q w' a b c r/\μ w w'
def SO{ar:Nat}(w:U)(mb tb o cb:Nat)(t:Ψ)(ns:List Λ)(c:zd)(va vb ov:O)(Q:Option (List Int))(h:nT lo w mb tb o cb t ns)(hs:U7 ar w va c.g.k)(hb:Vd ar w vb c.d)(hl:c.g.k.j+xn c.d<=1000)(cp:c.d.j<=900)(ho:ur w ov Q)(b7:(Q.d []).j<=1000)(bV:xO t c.g.o<=1000000):
  c_ e_ 117 #[(π mb),.agg #[.i c.g.i,.g c.g.o,va,vb],ov] w λe S=>Jh w (vI t ns c Q) e S:=by
 obtain⟨i0,hi,b0,bs,bH⟩:=info_parts TR;obtain⟨ao,aW,rfl⟩:=hs.qm;obtain⟨aO,av,rfl⟩:=hb.qm;obtain⟨bO,b3,rfl⟩:=ho.qm;have bF:=U2 λW I=>Nz W c _ _ _ Q (hs.u I) (hb.u I) hl η (ho.u I) b7;have bw:=sK c.d [];have ca:(zu c).j<=1000:=by unfold zu;simp at bw;omega
 clear bw;have aZ:X (∀W sb (l:zk) (va:O) (b1 b2:Nat),μ w W->dZ b1 W sb (zu c) (yL (Q.d []))->U7 b2 W va l.k->l.k.j<=1000->c_ e_ 160 #[(π mb),.agg #[.i l.i,.g l.o,va],(π sb)] W λe S=>∃tv,e=ε (.agg #[ι (zE t l.o:Nat),tv])/\yx W.o.q S tv (zT t ns (zu c) (yL (Q.d [])) l).v/\μ W S):=λW sb l va b1 b2 I bR bT bQ=>EM W mb tb o cb sb t ns _ _ l _ (h.u I) bR ca (MJ _ b7) bT bQ;have b8:=U2 λW I=>Mv lo W tb o t c.g.o (h.2.1.u I) h.2.2.2.1;have b4:=U2 h.2.2.2.1;have bM:=h.1;obtain⟨bk,cr,bW⟩:=bM.I;have bK:w.p (δ mb)=Z (.u (Z (ω tb o))):=by rw[bk];rfl
 have bY:=U2 hs;have bJ:=U2 hb;have HE:X (vI t ns c Q={L:=xO t c.g.o,m:=(zu c).j,g:=zT t ns (zu c) (yL (Q.d [])) c.g,qc:=(c.d.filter λl=>!l.i).w (zT t ns (zu c) (yL (Q.d []))),qx:=(c.d.filter λl=>l.i).w (zT t ns (zu c) (yL (Q.d [])))}):=rfl;have H5:X ((yL (Q.d [])).j=5):=eP _;clear h hs hb ho bk;generalize zu c=vs at *;generalize yL (Q.d [])=pl at *;generalize xO t c.g.o=st at *;generalize (zO t c.g.o).I=cq at *;obtain⟨m,j,f,n,d,rfl⟩:=five H5.l;have aF:X (∀W,μ w W->c_ e_ 158 #[.agg #[.i c.g.i,.g c.g.o,.k ao c.g.k.j aW,.k aO c.d.j av],.k bO (Q.d []).j b3] W λe S=>∃nv,e=ε (.agg #[nv,ι m,ι j,ι f,ι n,ι d])/\U7 W.o.q S nv vs/\μ W S):=bF;clear bF H5;go_enter func117,ntmps117;go_upto_region 2 with (first|(go_at_call 158;refine(aF.l _ γ).y ?_;rintro e w1 ⟨nv,rfl,aU,a1⟩;obtain⟨aM,al,rfl⟩:=aU.qm))
 have bq:μ w w1:=zJ γ a1 (ze _);have a2:=((U3.new w #[.i c.g.i,.g c.g.o,.k ao c.g.k.j aW,.k aO c.d.j av] 171).u ((zn _ _).C (ze _) (.E #[ι 0,ι 0,ι 0,ν,ν,ν] 207))).u a1;have M:=(U3.new (w.C (.E #[.i c.g.i,.g c.g.o,.k ao c.g.k.j aW,.k aO c.d.j av] 171)) #[ι 0,ι 0,ι 0,ν,ν,ν] 207).u a1;rw[k_] at M;have aD:=aU.low (show w.o.q<=_ by simp;omega);have u:μ w1 (w1.C (.E #[.k aM vs.j al,ι m,ι j,ι f,ι n,ι d] 257)):=γ;have aH:=U3.new w1 #[.k aM vs.j al,ι m,ι j,ι f,ι n,ι d] 257;have ag:=a2.u u;have aB:=M.u u;have aE:=aD.u u;have p:=U6 bq u;have cg:=M.lt;clear a2 M aD aU a1 u;generalize w1.C (.E #[.k aM vs.j al,ι m,ι j,ι f,ι n,ι d] 257)=w2 at *;generalize w1.o.q=sb at *;clear bq w1;obtain⟨aj,aw,G⟩:=ag.I;have bZ:=zi p bW bK;have aX:=p.q;have bm:mb<w2.o.q:=η;go_quiet ((go_at_call 159;exact c_.quiet_of_same (b8.l _ (by exact(zG p _)))))
 clear aF b8 bZ aj aw G aX bm;have hq:μ w2 (w2.drewN nq):=zG (zn _ _) nq;have aA:=ag.u hq;have a8:=aB.u hq;have az:=aE.u hq;have L:=aH.u hq;have aN:=U6 p hq;clear hq ag aB aE aH p;generalize w2.drewN nq=w3 at *;clear w2 nq;have cn:=aN.q;obtain⟨a7,bD,bx⟩:=L.I;go_upto_region 4 with (first|(go_at_call 146;refine(Cb _ _ _ vs (by rw[a7];rfl) az).y ?_;rintro e w4 ⟨rfl,bX⟩;obtain rfl:=bX.z))
 clear a7 bD bx;have u:μ w3 (w3.C (.E #[ι st,ι vs.j,ι 0,ν,ν,ν] 207)):=γ;have a9:=U3.new w3 #[ι st,ι vs.j,ι 0,ν,ν,ν] 207;have ax:=aA.u u;have aG:=a8.u u;have a6:=az.u u;have aJ:=L.u u;have ak:=U6 aN u;have ch:=L.lt;clear aA a8 az L u;generalize w3.C (.E #[ι st,ι vs.j,ι 0,ν,ν,ν] 207)=w4 at *;generalize w3.o.q=rb at *;clear aN w3;have be:=ak.q;obtain⟨aj,aw,G⟩:=ax.I;have ai:X (dZ w.o.q w4 sb vs [m,j,f,n,d]):=⟨_,m,j,f,n,d,rfl,aJ,a6⟩;go_upto_region 5 with (first|(go_at_call 160;refine(aZ.l _ _ c.g _ _ _ (by exact ak) (by exact ai.l) (by exact bY.l.u ak) η).y ?_;rintro e w5 ⟨tv,rfl,ap,R⟩;obtain⟨B,s,rfl⟩:=ap.qm;have N:=a9.u R;obtain⟨bi,bf,br⟩:=N.I))
 have bG:yx w.o.q w5 _ _:=⟨yq ap.own be,ap.len,ap.D⟩;have ab:rb≠w.o.q+1:=η;have hM:gG w.o.q w ((w5.x (ω rb 2) (ι (zE t c.g.o:Nat))).x (ω rb 3) (.k B (zT t ns vs [m,j,f,n,d] c.g).v.j s)) rb (w.o.q+1) sb st vs.j (zE t c.g.o) (.k B (zT t ns vs [m,j,f,n,d] c.g).v.j s) (ν) (ν) (zT t ns vs [m,j,f,n,d] c.g).v [] [] vs [m,j,f,n,d]:=by
  have bv:zc [rb] w5 ((w5.x (ω rb 2) (ι (zE t c.g.o:Nat))).x (ω rb 3) (.k B (zT t ns vs [m,j,f,n,d] c.g).v.j s)):=(zc.set _ _ _ _).A (zc.set _ _ _ _);have b6:=UP.box N;have hq:=(N.set 2 (ι (zE t c.g.o:Nat))).set 3 (.k B (zT t ns vs [m,j,f,n,d] c.g).v.j s);refine⟨by simpa using hq,((aG.u R).set_ne (s_ ab) _ _).set_ne (s_ ab) _ _,(ai.l.u R).saveT bv b6 θ θ,bG.saveT bv b6 θ,⟨[],xj _ _ _ _,rfl,ζ,λk a=>by simp at a⟩,⟨[],xj _ _ _ _,rfl,ζ,λk a=>by simp at a⟩,λb hb=>by simp[O.ownBlock] at hb,((U6 ak R).x υ _).x υ _,η,η,ab⟩
 have aI:=((ax.u R).set_ne (show w.o.q≠rb by omega) 2 (ι (zE t c.g.o:Nat))).set_ne (show w.o.q≠rb by omega) 3 (.k B (zT t ns vs [m,j,f,n,d] c.g).v.j s);generalize (w5.x (ω rb 2) (ι (zE t c.g.o:Nat))).x (ω rb 3) (.k B (zT t ns vs [m,j,f,n,d] c.g).v.j s)=w6 at *;clear N bi bf br ap bG R w5 aj aw G ai be ak ax aG a6 aJ a9 w4;generalize a0:O.slice B (zT t ns vs [m,j,f,n,d] c.g).v.j s=htv at *;have bN:=U2 a0;clear a0;obtain⟨aj,aw,G⟩:=aI.I;go_wp2;clear aj aw G aI;have z:X (gG _ _ _ _ _ _ _ _ _ _ _ _ _ _ _ _ _):=hM;clear hM;go_loopw [40] (λce wr=>∃(k:Nat) (plv nlv:O),k<=c.d.j/\ce=ι k/\X (gG w.o.q w wr rb (w.o.q+1) sb st vs.j (zE t c.g.o) htv plv nlv (zT t ns vs [m,j,f,n,d] c.g).v (((c.d.G k).filter λl=>!l.i).w (zT t ns vs [m,j,f,n,d])) (((c.d.G k).filter λl=>l.i).w (zT t ns vs [m,j,f,n,d])) vs [m,j,f,n,d])) (λi _=>c.d.j-(d_ i).D);exact⟨0,_,_,zs _,rfl,z⟩;clear z;obtain⟨k,plv,nlv,hk,rfl,z⟩:=hrel;have C:=z.l.u;have ci:=C.q;by_cases au:k<c.d.j
 .obtain⟨g,aa,y,cc,hg,bA,bo,bn,bB⟩:=bJ.l.cell k au;subst cc;have bg:c.d[k].k.j<=1000:=by
   have:=tD c.d k au;rw[yn au] at this;simp at this;omega
  have bh:=zi C hg bA;have co:=zi C hg bo;have cm:=zi C hg bn;have u:g<wr.o.q:=η;have T:=BE (λl:zk=>!l.i) c.d k au;have P:=BE (λl:zk=>l.i) c.d k au;have bt:X (U7 ar w _ _):=bB;have bU:=Dl t c.d[k].o;have bL:=b4.l;clear bA bo bn bB;generalize c.d[k]=l at *;have cf:(((c.d.G k).filter λl=>!l.i).w (zT t ns vs [m,j,f,n,d])).j<=k:=by
   have:=sg (λl:zk=>!l.i) (c.d.G k);simp at this ⊢;omega
  have cl:(((c.d.G k).filter λl=>l.i).w (zT t ns vs [m,j,f,n,d])).j<=k:=by
   have:=sg (λl:zk=>l.i) (c.d.G k);simp at this ⊢;omega
  cases hn:l.i
  .rw[hn] at bh;simp only[hn,Bool.not_false,if_true,fh,if_false,vD] at T P;have aP:X (((c.d.G (k+1)).filter λl=>!l.i).w (zT t ns vs [m,j,f,n,d])=((c.d.G k).filter λl=>!l.i).w (zT t ns vs [m,j,f,n,d])++[zT t ns vs [m,j,f,n,d] l]):=by rw[X,T,uY];rfl
   have aR:X (((c.d.G (k+1)).filter λl=>l.i).w (zT t ns vs [m,j,f,n,d])=((c.d.G k).filter λl=>l.i).w (zT t ns vs [m,j,f,n,d])):=by rw[X,P]
   clear T P;generalize ((c.d.G k).filter λl=>!l.i).w (zT t ns vs [m,j,f,n,d])=pls at *;generalize ((c.d.G k).filter λl=>l.i).w (zT t ns vs [m,j,f,n,d])=nls at *;have aV:X (∀W,μ wr W->c_ e_ 160 #[(π mb),.agg #[.i false,.g l.o,.k aa l.k.j y],(π sb)] W λe S=>∃tv,e=ε (.agg #[ι (zE t l.o:Nat),tv])/\yx W.o.q S tv (zT t ns vs [m,j,f,n,d] l).v/\μ W S):=λW I=>by
    have q:=aZ.l W sb l (.k aa l.k.j y) w.o.q ar (U6 C I) (z.l.scope.u I) (bt.l.u (U6 C I)) bg;rw[hn] at q;exact q
   generalize ac:(zT t ns vs [m,j,f,n,d] l).v=ts at *;have ba:=U2 ac;have ah:X ((zT t ns vs [m,j,f,n,d] l).o=zE t l.o):=rfl;clear ac;generalize zE t l.o=fn at *;obtain⟨ps,E,F,_,D⟩:=z.l.pln;obtain⟨V,x,af⟩:=zq E;subst af;have K:=U2 D;clear D;have bd:pls.j<=900:=η;have ay:=U2 F;clear F;go_wp2_with (first|(go_at_call 160;refine(aV.l _ γ).y ?_;rintro e w2 ⟨tv,rfl,A,aq⟩;obtain⟨aQ,an,rfl⟩:=A.qm;have p:μ wr w2:=(zJ γ aq (ze _));have aS:=(U3.new wr #[.i false,.g l.o,.k aa l.k.j y] 90).u aq;obtain⟨bu,bz,bE⟩:=aS.I;have J:=z.l.box.u p;obtain⟨a4,a5,aC⟩:=J.I;have aX:=p.q;have r:=zy E p)|(at_builtin;refine jx w2 _ [ι fn,.k aQ ts.j an] _ rfl (.tmp 56) (.tmp 58) 205 rfl w.o.q 204 i0 _ 2 32 underlying205 hi b0 bs bH rfl θ (.k V pls.j x) pls.j (fm ps) rfl r γ _ _ rfl ζ rfl a_ η η η ?_;intro v' w3 ad H am;obtain⟨bS,b5,rfl⟩:=zq ad;have ae:=J.saveT H (UP.own r) θ;obtain⟨bc,aT,aY⟩:=ae.I))
   have aL:gG _ _ _ _ _ _ _ _ _ _ _ _ _ _ _ _ _:=(z.l.next p (ze _)).pushP H am (uy.push (l:=zT t ns vs [m,j,f,n,d] l) r ay.l (λk a b=>⟨(K.l k a b).1,(K.l k a b).2.1.u p,(K.l k a b).2.2⟩) η (by rw[ba.l];exact⟨yq A.own υ,A.len,A.D⟩) (by rw[ah.l];omega) (by rw[ah.l];exact ad) H) η;go_roundw;exact⟨k+1,_,_,η,ξ,by rw[aP.l,aR.l];exact aL⟩;simp[d_];omega
  rw[hn] at bh;simp only[hn,pA,if_true,fh,if_false,vD] at T P;have aP:X (((c.d.G (k+1)).filter λl=>!l.i).w (zT t ns vs [m,j,f,n,d])=((c.d.G k).filter λl=>!l.i).w (zT t ns vs [m,j,f,n,d]) ):=by rw[X,T]
  have aR:X (((c.d.G (k+1)).filter λl=>l.i).w (zT t ns vs [m,j,f,n,d])=((c.d.G k).filter λl=>l.i).w (zT t ns vs [m,j,f,n,d])++[zT t ns vs [m,j,f,n,d] l]):=by rw[X,P,uY];rfl
  clear T P;generalize ((c.d.G k).filter λl=>!l.i).w (zT t ns vs [m,j,f,n,d])=pls at *;generalize ((c.d.G k).filter λl=>l.i).w (zT t ns vs [m,j,f,n,d])=nls at *;have aV:X (∀W,μ wr W->c_ e_ 160 #[(π mb),.agg #[.i true,.g l.o,.k aa l.k.j y],(π sb)] W λe S=>∃tv,e=ε (.agg #[ι (zE t l.o:Nat),tv])/\yx W.o.q S tv (zT t ns vs [m,j,f,n,d] l).v/\μ W S):=λW I=>by
   have q:=aZ.l W sb l (.k aa l.k.j y) w.o.q ar (U6 C I) (z.l.scope.u I) (bt.l.u (U6 C I)) bg;rw[hn] at q;exact q
  generalize ac:(zT t ns vs [m,j,f,n,d] l).v=ts at *;have ba:=U2 ac;have ah:X ((zT t ns vs [m,j,f,n,d] l).o=zE t l.o):=rfl;clear ac;generalize zE t l.o=fn at *;obtain⟨ps,E,F,_,D⟩:=z.l.nln;obtain⟨V,x,af⟩:=zq E;subst af;have K:=U2 D;clear D;have bd:nls.j<=900:=η;have ay:=U2 F;clear F;go_wp2_with (first|(go_at_call 160;refine(aV.l _ γ).y ?_;rintro e w2 ⟨tv,rfl,A,aq⟩;obtain⟨aQ,an,rfl⟩:=A.qm;have p:μ wr w2:=(zJ γ aq (ze _));have aS:=(U3.new wr #[.i true,.g l.o,.k aa l.k.j y] 90).u aq;obtain⟨bu,bz,bE⟩:=aS.I;have J:=z.l.box.u p;obtain⟨a4,a5,aC⟩:=J.I;have aX:=p.q;have r:=zy E p)|(at_builtin;refine jx w2 _ [ι fn,.k aQ ts.j an] _ rfl (.tmp 50) (.tmp 52) 205 rfl w.o.q 204 i0 _ 2 32 underlying205 hi b0 bs bH rfl θ (.k V nls.j x) nls.j (fm ps) rfl r γ _ _ rfl ζ rfl a_ η η η ?_;intro v' w3 ad H am;obtain⟨bS,b5,rfl⟩:=zq ad;have ae:=J.saveT H (UP.own r) θ;obtain⟨bc,aT,aY⟩:=ae.I))
  have aL:gG _ _ _ _ _ _ _ _ _ _ _ _ _ _ _ _ _:=(z.l.next p (ze _)).pushN H am (uy.push (l:=zT t ns vs [m,j,f,n,d] l) r ay.l (λk a b=>⟨(K.l k a b).1,(K.l k a b).2.1.u p,(K.l k a b).2.2⟩) η (by rw[ba.l];exact⟨yq A.own υ,A.len,A.D⟩) (by rw[ah.l];omega) (by rw[ah.l];exact ad) H) η;go_roundw;exact⟨k+1,_,_,η,ξ,by rw[aR.l,aP.l];exact aL⟩;simp[d_];omega
 have b9:k=c.d.j:=η;have bP:X (c.d.G k=c.d):=by rw[X,b9,ve]
 rw[bP.l] at z;have J:=z.l.box;have bp:=z.l.res;obtain⟨a4,a5,aC⟩:=J.I;obtain⟨bI,cj,ck⟩:=bp.I;have a0:=bN.l;subst a0;obtain⟨V,x,af⟩:=zq z.l.pln.choose_spec.1;obtain⟨bC,a3,cd⟩:=zq z.l.nln.choose_spec.1;subst af;subst cd;clear b9;generalize (c.d.filter λl=>!l.i).w (zT t ns vs [m,j,f,n,d])=pls at *;generalize (c.d.filter λl=>l.i).w (zT t ns vs [m,j,f,n,d])=nls at *;go_wp2
 (try simp only[j_,Exit.then])
 refine zP (v:=.agg #[ι st,ι vs.j,ι (zE t c.g.o:Nat),.k B (zT t ns vs [m,j,f,n,d] c.g).v.j s,.k V pls.j x,.k bC nls.j a3]) (by simp[results,results117,go_sem,bI]) rfl ⟨_,_,_,by rw[HE.l];rfl,?_,?_⟩;have bb:zc [w.o.q+1] wr ((((((wr.x (δ (w.o.q+1)) (ι st)).x (ω (w.o.q+1) 1) (ι vs.j)).x (ω (w.o.q+1) 2) (ι (zE t c.g.o:Nat))).x (ω (w.o.q+1) 3) (.k B (zT t ns vs [m,j,f,n,d] c.g).v.j s)).x (ω (w.o.q+1) 4) (.k V pls.j x)).x (ω (w.o.q+1) 5) (.k bC nls.j a3)):=(((((zc.set _ _ _ _).A (zc.set _ _ _ _)).A (zc.set _ _ _ _)).A (zc.set _ _ _ _)).A (zc.set _ _ _ _)).A (zc.set _ _ _ _);have aK:=UP.box bp;have bU:=Dl t c.g.o;have bL:=b4.l;rw[HE.l];exact⟨z.l.g.saveT bb aK θ,z.l.pln.saveTT bb aK θ θ,z.l.nln.saveTT bb aK θ θ,bV,by simp only;omega,by show zE t c.g.o<=1000000;omega⟩;exact(((((C.x ζ _).x ζ _).x ζ _).x ζ _).x ζ _).x ζ _
end
section
open Go.Proofs.Tryz Go.RowKit
variable {lo:Nat}{w w0:U}{v' mv1 mv2 av fv rv:O}{rs:List zv}{ps:List (O×O×O)}{sb sr mb wd:Nat}{xs:List Nat}
def TT:(e_.info? 210).w (λi=>(i.zero,i.q,i.bytes))=Z (Z (.agg #[ι 0,ι 0,ι 0,ι 0]),4,32):=χ
def Uf:(e_.info? 207).w (λi=>(i.zero,i.q,i.bytes))=Z (Z (.agg #[ι 0,ι 0,ι 0,ν,ν,ν]),6,96):=χ
def tT(f:jM):List Value:=[ι f.o,ι (f.row.d 0 0:Nat),ι (f.row.d 1 0:Nat),ι (f.row.d 2 0:Nat)]
def gW(fs:List jM):List Value:=fs.flatMap tT
def se(r:zv)(p:O×O×O):List Value:=[ι r.L,ι r.m,ι r.g.o,p.1,p.2.1,p.2.2]
def gX(rs:List zv)(ps:List (O×O×O)):List Value:=(List.zipWith se rs ps).flatten
def Ox(fs:List jM)(f:jM):gW (fs++[f])=gW fs++tT f:=by simp[gW]
def Td(rs:List zv)(ps:List (O×O×O))(r:zv)(p:O×O×O)(h:ps.j=rs.j):gX (rs++[r]) (ps++[p])=gX rs ps++se r p:=by
 unfold gX;rw[iT h.z];simp
def wm(lo:Nat)(w:U)(v:O)(fs:List jM):Prop:=w.r lo 210 4 v fs.j (gW fs)
structure jv (lo:Nat) (w:U) (v:O) (rs:List zv) (ps:List (O×O×O)):Prop where
 own:w.r lo 207 6 v rs.j (gX rs ps)
 len:ps.j=rs.j
 p:∀k (_:k<rs.j) (_:k<ps.j),vQ lo w ps[k].1 ps[k].2.1 ps[k].2.2 rs[k]
 M:rs.j<=1000
def jv.u{w w':U}{v:O}{rs:List zv}{ps:List (O×O×O)}(h:jv lo w v rs ps)(c:μ w w'):jv lo w' v rs ps:=⟨zy h.own c,h.len,λk a b=>(h.p k a b).u c,h.M⟩
def jv.saveT{f:Nat}{w w':U}{v:O}{rs:List zv}{ps:List (O×O×O)}{T:TypeId}{M:Φ}(h:jv f w v rs ps)(hs:zc M w w')(e:UP w T M)(g:284≠T)(d:204≠T)(c:207≠T):jv f w' v rs ps:=⟨yR h.own hs e c,h.len,λk a b=>(h.p k a b).saveT hs e g d,h.M⟩
def jv.push{d:Nat}{w':U}{v:O}{r:zv}{p:O×O×O}(h:jv d w v rs ps)(i:rs.j+1<=1000)(g:vQ d w p.1 p.2.1 p.2.2 r)(j:w'.r d 207 6 v' (rs.j+1) (gX rs ps++se r p))(hs:zc v.m.toList w w'):jv d w' v' (rs++[r]) (ps++[p]):=by
 have f:=UP.own h.own;refine⟨by rw[Td _ _ _ _ h.len,yB];exact j,by simp[h.len],λk a b=>?_,by simpa using i⟩;by_cases e:k<rs.j;have c:k<ps.j:=by have:=h.len;omega
 rw[uI e,uI c];exact(h.p k e c).saveT hs f θ θ;obtain rfl:k=rs.j:=by simp at a;omega
 have l:=h.len;simp only[←l,n4];exact g.saveT hs f θ θ
def jv.cell{w:U}{f:Option Addr}{n cap:Nat}{rs:List zv}{ps:List (O×O×O)}(h:jv lo w (.k f n cap) rs ps)(k:Nat)(o:k<rs.j)(e:k<ps.j):∃g,f=Z (δ g)/\g<w.o.q/\w.p (ω g (k*6))=Z (ι (rs[k].L:Nat))/\w.p (ω g (k*6+1))=Z (ι (rs[k].m:Nat))/\w.p (ω g (k*6+2))=Z (ι (rs[k].g.o:Nat))/\w.p (ω g (k*6+3))=Z ps[k].1/\w.p (ω g (k*6+4))=Z ps[k].2.1/\w.p (ω g (k*6+5))=Z ps[k].2.2:=by
 obtain⟨g,j,i,_,z,b⟩:=yt h.own η;simp at i;have d:∀(rs:List zv) (ps:List (O×O×O)) (k:Nat) (a:k<rs.j) (c:k<ps.j),(gX rs ps)[k*6]?=Z (ι (rs[k].L:Nat))/\(gX rs ps)[k*6+1]?=Z (ι (rs[k].m:Nat))/\(gX rs ps)[k*6+2]?=Z (ι (rs[k].g.o:Nat))/\(gX rs ps)[k*6+3]?=Z ps[k].1/\(gX rs ps)[k*6+4]?=Z ps[k].2.1/\(gX rs ps)[k*6+5]?=Z ps[k].2.2:=by
  intro rs;induction rs with
  |nil=>intro ps k a;simp at a
  |cons r l y=>
   intro ps k a c;match ps,k,a,c with
   |p::ps,0,_,_=>simp[gX,se]
   |p::ps,k+1,a,c=>
    have:=y ps k (by simpa using a) (by simpa using c);simp only[gX,l7,pw] at this ⊢;rw[show(k+1)*6=k*6+6 from by omega];have q:k*6+6=(se r p).j+k*6:=by simp[se];omega
    rw[q];simp only[Nat.add_assoc,gJ (x_ _ _),oo];simpa using this
 obtain⟨s,u,m,x,v,t⟩:=d rs ps k o e;exact⟨g,i.1,z,b _ _ s,b _ _ u,b _ _ m,b _ _ x,b _ _ v,b _ _ t⟩
def DM:∀(fs:List jM) (k:Nat) (h:k<fs.j),(gW fs)[k*4]?=Z (ι (fs[k].o:Nat))/\(gW fs)[k*4+1]?=Z (ι (fs[k].row.d 0 0:Nat))/\(gW fs)[k*4+2]?=Z (ι (fs[k].row.d 1 0:Nat))/\(gW fs)[k*4+3]?=Z (ι (fs[k].row.d 2 0:Nat))
 |[],k,h=>by simp at h
 |f::l,0,_=>by simp[gW,tT]
 |f::l,k+1,h=>by
  have:=DM l k (by simpa using h);simp only[gW,uZ] at this ⊢;rw[show(k+1)*4=k*4+4 from by omega];have a:k*4+4=(tT f).j+k*4:=by simp[tT];omega
  rw[a];simp only[Nat.add_assoc,gJ (x_ _ _),oo];simpa using this
def uX(t:List zf)(ns:κ)(os:Option (List (Option (List Int))))(cs:List zd):List zv:=cs.zipIdx.filterMap λx=>if x.1.d.j>0 then Z (vI t ns x.1 (uo os x.2)) else Y
def vM(t:List zf)(ns:κ)(cs:List zd):List jM:=(cs.filter λc=>!decide (c.d.j>0)).w (qu t ns)
def vq(t:List zf)(ns:κ)(os:Option (List (Option (List Int))))(cs:List zd):j8:={r:=ns.j,N:=t.w (·.jh),facts:=vM t ns cs,H:=uX t ns os cs}
def Qv(t:Ψ)(ns:List Λ)(os:Option (List (Option (List Int))))(cs:Ξ)(k:Nat)(a:k<cs.j):uX t ns os (cs.G (k+1))=uX t ns os (cs.G k)++(if cs[k].d.j>0 then [vI t ns cs[k] (uo os k)] else []):=by
 unfold uX;rw[yF a,t_,iJ];congr 1;simp only[p_,vi,uM,wI,List.filterMap_nil];rw[dC η];by_cases h:cs[k].d.j>0;rw[zb h,zb h];rw[za h,za h]
def Nm(t:Ψ)(ns:List Λ)(cs:Ξ)(k:Nat)(a:k<cs.j):vM t ns (cs.G (k+1))=vM t ns (cs.G k)++(if cs[k].d.j>0 then [] else [qu t ns cs[k]]):=by
 unfold vM;rw[BE _ _ _ a,uY];congr 1;by_cases h:cs[k].d.j>0;simp[h];simp[h]
def K0(t:Ψ)(ns:List Λ)(os:Option (List (Option (List Int))))(cs:Ξ):(uX t ns os cs).j<=cs.j:=by
 have:=sY (λx:zd×Nat=>if x.1.d.j>0 then Z (vI t ns x.1 (uo os x.2)) else Y) cs.zipIdx;simpa [uX] using this
def RO(t:Ψ)(ns:List Λ)(cs:Ξ):(vM t ns cs).j<=cs.j:=by
 unfold vM;rw[xv];exact sg _ _
structure kI (B:Nat) (w0 w:U) (sb sr mb:Nat) (mv1 mv2 av fv rv:O) (wd:Nat) (xs:List Nat) (fs:List jM) (rs:List zv) (ps:List (O×O×O)):Prop where
 box:U3 w sb #[ι wd,av,fv,rv] 146
 res:U3 w sr #[ι 0,ν,ν,ν] 146
 mak:U3 w mb #[mv1,mv2] 200
 ari:w.r B 3 1 av xs.j (xs.w Vg)
 fac:wm B w fv fs
 rul:jv B w rv rs ps
 u:Below B w0 w
 low:B<=sb/\B<=sr/\sb≠sr
def kI.next{B:Nat}{w':U}{fs:List jM}(h:kI B w0 w sb sr mb mv1 mv2 av fv rv wd xs fs rs ps)(a:μ w w')(b:B<=w0.o.q):kI B w0 w' sb sr mb mv1 mv2 av fv rv wd xs fs rs ps:=
 ⟨h.box.u a,h.res.u a,h.mak.u a,zy h.ari a,zy h.fac a,h.rul.u a,zJ h.u a b,h.low⟩
def kI.pushF{B:Nat}{e:U}{fs d:List jM}(h:kI B w0 w sb sr mb mv1 mv2 av fv rv wd xs fs rs ps)(hs:zc fv.m.toList w e)(k:wm B e v' d)(j:B<=w.o.q):kI B w0 (e.x (ω sb 2) v') sb sr mb mv1 mv2 av v' rv wd xs d rs ps:=by
 have f:=UP.own h.fac;have c:=h.box.saveT hs f θ;have a:=UP.box c;have b:zc [sb] e (e.x (ω sb 2) v'):=zc.set _ _ _ _;have g:=c.set 2 v';exact⟨by simpa using g,(h.res.saveT hs f θ).set_ne (s_ h.low.2.2) _ _,(h.mak.saveT hs f θ).saveT b a θ,yR (yR h.ari hs f θ) b a θ,yR k b a θ,(h.rul.saveT hs f θ θ θ).saveT b a θ θ θ,(h.u.A (hs.u (λx i=>yZ h.fac (yA i)) j)).x h.low.1 _,h.low⟩
def kI.pushR{B:Nat}{e:U}{fs:List jM}{g:List zv}{d:List (O×O×O)}(h:kI B w0 w sb sr mb mv1 mv2 av fv rv wd xs fs rs ps)(hs:zc rv.m.toList w e)(l:jv B e v' g d)(k:B<=w.o.q):kI B w0 (e.x (ω sb 3) v') sb sr mb mv1 mv2 av fv v' wd xs fs g d:=by
 have f:=UP.own h.rul.own;have c:=h.box.saveT hs f θ;have a:=UP.box c;have b:zc [sb] e (e.x (ω sb 3) v'):=zc.set _ _ _ _;have i:=c.set 3 v';exact⟨by simpa using i,(h.res.saveT hs f θ).set_ne (s_ h.low.2.2) _ _,(h.mak.saveT hs f θ).saveT b a θ,yR (yR h.ari hs f θ) b a θ,yR (yR h.fac hs f θ) b a θ,l.saveT b a θ θ θ,(h.u.A (hs.u (λx j=>yZ h.rul.own (yA j)) k)).x h.low.1 _,h.low⟩
structure ff (lo:Nat) (w:U) (av fv rv:O) (S:j8) (ps:List (O×O×O)):Prop where
 ari:w.r lo 3 1 av S.N.j (S.N.w Vg)
 fac:wm lo w fv S.facts
 rul:jv lo w rv S.H ps
end
section
open Go.Proofs.Tryz Go.RowKit
variable {lo:Nat}
def IM(w:U)(S:j8)(e:Ending)(w':U):Prop:=∃a c b d,e=ε (.agg #[ι S.r,a,c,b])/\ff w.o.q w' a c b S d/\μ w w'
def Wh(t:List zf)(k:Nat):List Nat:=(t.G k).map (·.jh)++m_ (t.j-k) 0
def AK(t:Ψ)(k:Nat)(a:k<=t.j):(Wh t k).j=t.j:=by simp[Wh];omega
def Jp(t:Ψ)(k:Nat)(a:k<t.j):(Wh t k).set k (ye t k)=Wh t (k+1):=by
 have e:ye t k=t[k].jh:=by simp[ye,a]
 obtain⟨m,b⟩:∃m,t.j-k=m+1:=⟨t.j-k-1,η⟩;unfold Wh;rw[e,gz _ _ υ,xv,vi,dC η,vF,b,p8,ml,yF a,uY,show t.j-(k+1)=m from by omega,jt];rfl
def Pu(t:Ψ):Wh t t.j=t.map (·.jh):=by simp[Wh]
def Mi{av:Nat}(w:U)(tb o z:Nat)(t:Ψ)(ns:List Λ)(cs:Ξ)(cv ov:O)(os:Option (List (Option (List Int))))(hT:TG lo w tb o t)(hC:n9 lo w z ns)(bm:t.j<=1000)(b7:ns.j<=1000)(aw:Vh av 171 w cv cs)(a3:∀c∈cs,c.g.k.j+xn c.d<=1000/\c.d.j<=900)(bX:cs.j<=1000)(ho:ki w ov os)(b5:(os.d []).j<=2000000)(bg:∀o∈os.d [],(o.d []).j<=1000)(aJ:∀n,xO t n<=1000000):
  c_ e_ 73 #[cv,.u (Z ⟨tb,o,Y⟩),(π z),ov] w λe S=>IM w (vq t ns os cs) e S:=by
 obtain⟨iI,b3,bu,a7,aE⟩:=info_parts TF;obtain⟨iF,b2,bq,a1,bf⟩:=info_parts TT;obtain⟨iR,bC,bs,bb,a5⟩:=info_parts Uf;obtain⟨bH,bG,rfl⟩:=aw.qm;obtain⟨bK,bF,rfl⟩:=ho.qm;have aV:=U2 λW h=>O7 W z ns (hC.u h);have bh:=U2 λW h=>Sr lo W tb o t (hT.u h);have aA:=U2 λW i h=>AH lo W tb o t i (hT.u h);have b0:=U2 λW k h=>PO W _ os k (ho.u h) b5;have bk:X (∀k,((uo os k).d []).j<=1000):=λk=>by
  unfold uo;by_cases hk:k<(os.d []).j;rw[kZ,yn hk];exact bg _ (zr hk);rw[kZ,d8 η];simp
 have aN:X (∀W mb,μ w W->U3 W mb #[.u (Z ⟨tb,o,Y⟩),(π z)] 200->nT lo W mb tb o z t ns):=λW mb h hb=>⟨hb,hT.u h,hC.u h,bm,b7⟩;have br:=U2 aw;have bn:=U2 a3;have bo:=U2 aJ;have HE:X (vq t ns os cs={r:=ns.j,N:=t.map (·.jh),facts:=vM t ns cs,H:=uX t ns os cs}):=rfl;have aZ:=λW:U=>run_make (P:=e_) (w:=W) 24 3 iI _ underlying24 b3 bu .i64 .i64 (t.j:Int) (t.j:Int) η (Int.le_refl _) (by rw[aE];omega) η;rw[a7] at aZ;clear hT hC aw ho a3 bg aJ;go_enter func73,ntmps73;go_upto_region 3 with (first|(go_at_call 114;refine(aV.l _ γ).y ?_;rintro e w1 ⟨rfl,y⟩;obtain rfl:=y.z)|(go_at_call 115;refine(bh.l _ γ).y ?_;rintro e w1 ⟨rfl,y⟩;obtain rfl:=y.z))
 have hM:kI w.o.q w ((((w.C (.E #[ι 0,ν,ν,ν] 146)).C (.E #[.u (Z ⟨tb,o,Y⟩),(π z)] 200)).C (.E (madeCells #[ι 0] t.j) 3)).C (.E #[ι ns.j,.k (Z ⟨w.o.q+1+1,0,Y⟩) t.j t.j,ν,ν] 146)) (w.o.q+1+1+1) w.o.q (w.o.q+1) (.u (Z ⟨tb,o,Y⟩)) ((π z)) (.k (Z ⟨w.o.q+1+1,0,Y⟩) t.j t.j) (ν) (ν) ns.j (Wh t 0) [] [] []:=by
  refine⟨(U3.new _ _ _).at' ζ,((((U3.new w _ _).up _).up _).up _),((((U3.new _ _ _).up _).up _).at' ζ),?_,xj _ _ _ _,⟨xj _ _ _ _,rfl,λk a=>by simp at a,ζ⟩,γ,η,η,η⟩;have q:=Et ((w.C (.E #[ι 0,ν,ν,ν] 146)).C (.E #[.u (Z ⟨tb,o,Y⟩),(π z)] 200)) t.j 3 b_;simp only[k_] at q;have q2:=zy (yq q (show w.o.q<=w.o.q+1+1 by omega)) ((zn _ _).C (ze _) (.E #[ι ns.j,.k (Z ⟨w.o.q+1+1,0,Y⟩) t.j t.j,ν,ν] 146));rw[AK t 0 η,show Wh t 0=m_ t.j 0 from by simp[Wh]];exact q2
 generalize (((w.C (.E #[ι 0,ν,ν,ν] 146)).C (.E #[.u (Z ⟨tb,o,Y⟩),(π z)] 200)).C (.E (madeCells #[ι 0] t.j) 3)).C (.E #[ι ns.j,.k (Z ⟨w.o.q+1+1,0,Y⟩) t.j t.j,ν,ν] 146)=w3 at *;clear aZ aV bh;have a2:=hM.box;obtain⟨aj,a6,be⟩:=a2.I;go_wp2;clear aj a6 be a2;have d:X (kI _ _ _ _ _ _ _ _ _ _ _ _ _ _ _ _):=hM;clear hM;go_loopw [29] (λbv wr=>∃k:Nat,k<=t.j/\bv=ι k/\X (kI w.o.q w wr (w.o.q+1+1+1) w.o.q (w.o.q+1) (.u (Z ⟨tb,o,Y⟩)) ((π z)) (.k (Z ⟨w.o.q+1+1,0,Y⟩) t.j t.j) (ν) (ν) ns.j (Wh t k) [] [] [])) (λi _=>t.j-(d_ i).D);exact⟨0,zs _,rfl,d⟩;clear d;obtain⟨k,hk,rfl,d⟩:=hrel;have b:=d.l.u;have T:=b.q;by_cases x:k<t.j
 .have am:=d.l.box;obtain⟨aj,a6,be⟩:=am.I;have bS:wr.p ⟨w.o.q+1+1+1,1,Y⟩=Z (.k (Z ⟨w.o.q+1+1,0,Y⟩) t.j t.j):=by rw[aj];rfl
  have J:=d.l.ari;have ag:=AK t k hk;have bV:(k:Int)<(t.j:Int):=η;obtain⟨g',bD,a0,_,bP,ad⟩:=yt J η;simp only[O.slice.injEq,zt,Addr.mk.injEq,and_true] at a0;have bt:=a0.1;clear a0;subst bt;obtain⟨ax,bM⟩:∃ax:Nat,wr.p ⟨w.o.q+1+1,k,Y⟩=Z (ι (ax:Nat)):=⟨_,ad k (ι ((Wh t k)[k]'η:Nat)) (by simp[Vg,ag,x])⟩;have bR:=uv J;have R:=um J k υ (ι (ye t k:Nat));have a4:X (((Wh t k).map Vg).set k (ι (ye t k:Nat))=(Wh t (k+1)).map Vg):=by rw[X,←Jp t k x,dY];rfl
  rw[a4.l,ag] at R;have aP:=U2 λW h=>aA.l W k (U6 b h);clear ad ag;generalize ye t k=ar at *;go_wp2;go_region_held3 (λS=>S.p ⟨w.o.q+1+1+1,1,Y⟩=Z (.k (Z ⟨w.o.q+1+1,0,Y⟩) t.j t.j)) (first|go_keep|(go_simp;done)) (first|(go_at_call 80;refine(aP.l _ γ).y ?_;rintro e w4 ⟨rfl,y⟩;obtain rfl:=y.z))
  go_wp2;have H:kI w.o.q w (wr.x ⟨w.o.q+1+1,k,Y⟩ (ι ar)) (w.o.q+1+1+1) w.o.q (w.o.q+1) (.u (Z ⟨tb,o,Y⟩)) ((π z)) (.k (Z ⟨w.o.q+1+1,0,Y⟩) t.j t.j) (ν) (ν) ns.j (Wh t (k+1)) [] [] []:=
   ⟨d.l.box.set_ne η _ _,d.l.res.set_ne η _ _,d.l.mak.set_ne η _ _,by rw[AK t (k+1) η];exact R,xj _ _ _ _,⟨xj _ _ _ _,rfl,λk a=>by simp at a,ζ⟩,b.x υ _,d.l.low⟩
  go_roundw;exact⟨k+1,η,ξ,H.next ((zn _ _).drew) (ze _)⟩;simp[d_];omega
 have b6:k=t.j:=η;subst b6;rw[Pu] at d;clear hk x aA;go_wp2;go_loopw [42] (λbA wr=>∃(k:Nat) (fv rv:O) (ps:List (O×O×O)),k<=cs.j/\bA=ι k/\X (kI w.o.q w wr (w.o.q+1+1+1) w.o.q (w.o.q+1) (.u (Z ⟨tb,o,Y⟩)) ((π z)) (.k (Z ⟨w.o.q+1+1,0,Y⟩) t.j t.j) fv rv ns.j (t.map (·.jh)) (vM t ns (cs.G k)) (uX t ns os (cs.G k)) ps)) (λi _=>cs.j-(d_ i).D);exact⟨0,_,_,_,zs _,rfl,d⟩;clear d b T;obtain⟨k,fv,rv,ps,hk,rfl,d⟩:=hrel;have b:=d.l.u;have T:=b.q;by_cases x:k<cs.j
 .obtain⟨g,bi,V,aX,ab,b9,hg,aT,aC,aB,a9,aY,a8⟩:=br.l.cell k x;subst b9;have bJ:=zi b hg aT;have bO:=zi b hg aC;have bL:=zi b hg aB;have bQ:=zi b hg a9;have bW:g<wr.o.q:=η;obtain⟨b4,bB⟩:=bn.l cs[k] (zr x);have D:=Nm t ns cs k x;have F:=Qv t ns os cs k x;have aI:X (U7 av w _ _):=aY;have aS:X (Vd av w _ _):=a8;have bw:=RO t ns (cs.G k);have aM:=K0 t ns os (cs.G k);rw[vi,dC η] at bw aM;clear aT aC aB a9 aY a8;generalize cs[k]=c at *;by_cases aU:c.d.j>0
  .have aG:(c.d.j:Int)>0:=η;simp only[aU,if_true,vD] at D F;have ai:=U2 D;have ao:=U2 F;clear D F;generalize vM t ns (cs.G k)=A at *;generalize uX t ns os (cs.G k)=rs at *;have bd:=U2 λW u h hu=>SO W (w.o.q+1) tb o z t ns c _ _ u (uo os k) (aN.l W _ (U6 b h) (d.l.mak.u h)) (aI.l.u (U6 b h)) (aS.l.u (U6 b h)) b4 bB hu (bk.l k) (bo.l _);have aW:=U2 λW h=>b0.l W k (U6 b h);generalize vI t ns c (uo os k)=r at *;have s:=d.l.rul.own;obtain⟨L,C,af⟩:=zq s;subst af;have aO:X (∀W u,μ wr W->ur W u (uo os k)->c_ e_ 117 #[.u (Z ⟨w.o.q+1,0,Y⟩),.agg #[.i c.g.i,.g c.g.o,.k bi c.g.k.j V,.k aX c.d.j ab],u] W λe S=>∃tv pv nv,e=ε (.agg #[ι r.L,ι r.m,ι r.g.o,tv,pv,nv])/\vQ W.o.q S tv pv nv r/\μ W S):=bd;clear bd;go_wp2_with (first|(go_at_call 116;refine(aW.l _ γ).y ?_;rintro e w1 ⟨u,rfl,hu,y⟩;obtain rfl:=y.z;obtain⟨bI,bE,rfl⟩:=hu.qm)|(go_at_call 117;refine(aO.l _ _ γ hu).y ?_;rintro e w2 ⟨tv,pv,nv,rfl,M,aq⟩;obtain⟨aK,Q,rfl⟩:=M.g.qm;obtain⟨ba,ac,rfl⟩:=M.qc.qm;obtain⟨aQ,N,rfl⟩:=M.qx.qm;have l:μ wr w2:=(zJ γ aq (ze _));have m:=d.l.box.u l;obtain⟨ay,az,an⟩:=m.I;have b8:=l.q;have j:=zy s l)|(at_builtin;refine jx w2 _ [ι r.L,ι r.m,ι r.g.o,.k aK r.g.v.j Q,.k ba r.qc.j ac,.k aQ r.qx.j N] _ rfl (.tmp 58) (.tmp 60) 144 rfl w.o.q 207 iR _ 6 96 underlying144 bC bs bb a5 rfl θ (.k L rs.j C) rs.j (gX rs ps) rfl j γ _ _ rfl ζ rfl a_ η η η ?_;intro v' w3 G E aF;obtain⟨aH,aa,rfl⟩:=zq G;have I:=m.saveT E (UP.own j) θ;obtain⟨au,ak,al⟩:=I.I))
   have aD:vQ w.o.q w2 _ _ _ r:=M.low (show w.o.q<=_ by simp;omega);have H:kI _ _ _ _ _ _ _ _ _ _ _ _ _ _ _ _:=(d.l.next l (ze _)).pushR E (jv.push (r:=r) (p:=(.k aK r.g.v.j Q,.k ba r.qc.j ac,.k aQ r.qx.j N)) (d.l.rul.u l) η aD G E) η;go_roundw;exact⟨k+1,_,_,_,η,ξ,by rw[ai.l,ao.l];exact H⟩;simp[d_];omega
  have aG:¬(c.d.j:Int)>0:=η;simp only[aU,if_false,vD] at D F;have ai:=U2 D;have ao:=U2 F;clear D F;generalize vM t ns (cs.G k)=A at *;generalize uX t ns os (cs.G k)=rs at *;have aL:=U2 λW h=>M8 W (w.o.q+1) tb o z t ns c _ _ (aN.l W _ (U6 b h) (d.l.mak.u h)) (aI.l.u (U6 b h)) (aS.l.u (U6 b h)) η;generalize qu t ns c=f at *;have aR:X (∀W,μ wr W->c_ e_ 118 #[.u (Z ⟨w.o.q+1,0,Y⟩),.agg #[.i c.g.i,.g c.g.o,.k bi c.g.k.j V,.k aX c.d.j ab]] W λe S=>e=ε (.agg #[ι f.o,ι (f.row.d 0 0:Nat),ι (f.row.d 1 0:Nat),ι (f.row.d 2 0:Nat)])/\μ W S):=aL;have b1:X (gW (A++[f])=gW A++[ι f.o,ι (f.row.d 0 0:Nat),ι (f.row.d 1 0:Nat),ι (f.row.d 2 0:Nat)]):=Ox A f;clear aL;generalize f.row.d 0 0=f0 at *;generalize f.row.d 1 0=f1 at *;generalize f.row.d 2 0=f2 at *;have s:wr.r w.o.q 210 4 fv A.j (gW A):=d.l.fac;obtain⟨K,B,ah⟩:=zq s;subst ah;go_wp2_with (first|(go_at_call 118;refine(aR.l _ γ).y ?_;rintro e w2 ⟨rfl,aq⟩;have l:μ wr w2:=(zJ γ aq (ze _));have m:=d.l.box.u l;obtain⟨ay,az,an⟩:=m.I;have b8:=l.q;have j:=zy s l)|(at_builtin;refine jx w2 _ [ι f.o,ι f0,ι f1,ι f2] _ rfl (.tmp 66) (.tmp 68) 143 rfl w.o.q 210 iF _ 4 32 underlying143 b2 bq a1 bf rfl θ (.k K A.j B) A.j (gW A) rfl j γ _ _ rfl ζ rfl a_ η η η ?_;intro v' w3 G E aF;obtain⟨aH,aa,rfl⟩:=zq G;have I:=m.saveT E (UP.own j) θ;obtain⟨au,ak,al⟩:=I.I))
  have bz:wm w.o.q w3 (.k aH (A.j+1) aa) (A++[f]):=by
   unfold wm;rw[b1.l,yB];exact G
  have H:kI _ _ _ _ _ _ _ _ _ _ _ _ _ _ _ _:=(d.l.next l (ze _)).pushF E bz η;go_roundw;exact⟨k+1,_,_,_,η,ξ,by rw[ai.l,ao.l];exact H⟩;simp[d_];omega
 have bp:X (cs.G k=cs):=by rw[X,yO η]
 rw[bp.l] at d;have am:=d.l.box;have bc:=d.l.res;obtain⟨bY,bU,bT⟩:=am.I;obtain⟨bx,bN,aM⟩:=bc.I;obtain⟨K,B,ah⟩:=zq d.l.fac;obtain⟨L,C,af⟩:=zq d.l.rul.own;subst ah;subst af;generalize vM t ns cs=A at *;generalize uX t ns os cs=rs at *;go_wp2
 (try simp only[j_,Exit.then])
 refine zP (v:=.agg #[ι ns.j,.k (Z ⟨w.o.q+1+1,0,Y⟩) t.j t.j,.k K A.j B,.k L rs.j C]) (by simp[results,results73,go_sem,bx]) rfl ⟨_,_,_,ps,by rw[HE.l],?_,?_⟩;have ap:zc [w.o.q] wr ((((wr.x ⟨w.o.q,0,Y⟩ (ι ns.j)).x ⟨w.o.q,1,Y⟩ (.k (Z ⟨w.o.q+1+1,0,Y⟩) t.j t.j)).x ⟨w.o.q,2,Y⟩ (.k K A.j B)).x ⟨w.o.q,3,Y⟩ (.k L rs.j C)):=(((zc.set _ _ _ _).A (zc.set _ _ _ _)).A (zc.set _ _ _ _)).A (zc.set _ _ _ _);have ae:=UP.box bc;rw[HE.l];exact⟨yR d.l.ari ap ae θ,yR d.l.fac ap ae θ,d.l.rul.saveT ap ae θ θ θ⟩;exact(((b.x ζ _).x ζ _).x ζ _).x ζ _
end
section
variable {cs:List zd}{t t0:List zf}{c:zd}{vs:κ}
structure UH (cs:List zd) (t0 t:List zf):Prop where
 M:VY cs<=500
 many:∀c∈cs,yT c=false
 coll:xV cs=Z t0
 tab:VT t0 (cs.flatMap zj)
 safe:∀c∈cs,xu c=true
 jm:xX (t0.j+1) t0 cs=(t,true)
def FG{s:Λ}(h:uH s=.ok (cs,t)):∃t0,UH cs t0 t:=by
 unfold uH at h;split at h;cases h;rename_i l;split at h;cases h;rename_i n g;split at h;cases h;rename_i k i;split at h;cases h;rename_i j;split at h;cases h;rename_i t0 e;split at h;rename_i a;split at h;rename_i b;obtain⟨rfl,rfl⟩:=h;refine⟨t0,?_,λc d=>?_,e,wy e,λc d=>gu.1 a c d,?_⟩;have m:=oe i;have o:=iq g;omega;cases f:yT c;rfl;exact zC (fa.2 ⟨c,d,f⟩) j;rw[←b];cases h;cases h
def Vn(t:List zf):List (ByteArray×Nat):=t.w λe=>(e.name,e.jh)
def Jf(t:Ψ)(n:Λ)(s:Nat):Vn (xW t n s).1=Vn t:=by
 unfold xW;split;rfl;rename_i e d;split;rfl;obtain⟨f,b,j⟩:=qr d;unfold Vn;refine qR ζ λi g h=>?_;simp only[xM,fG];split;rename_i a;subst a;rw[b];rfl
def Ia:∀(cs:Ξ) (x:Ψ×Bool),Vn (cs.H qB x).1=Vn x.1
 |[],_=>rfl
 |c::cs,x=>by
  rw[uQ,Ia cs];exact Jf _ _ _
def nR:∀(m:Nat) (t:Ψ) (cs:Ξ),Vn (xX m t cs).1=Vn t
 |0,_,_=>rfl
 |m+1,t,cs=>by
  have a:Vn (qD t cs).1=Vn t:=Ia cs (t,false);unfold xX;split
  .rw[nR m,a]
  .exact a
def EL{a:Ψ}(h:Vn t=Vn a):U4 t=U4 a:=by
 have:=congrArg (List.map Prod.fst) h;simpa [Vn,U4,Function.comp_def] using this
def UH.lit(h:UH cs t0 t)(w:c∈cs){l:zk}(u:l∈zj c):∃e,zO t l.o=Z e/\e.name=l.o/\zE t l.o<t.j/\(t.w (·.jh)).d (zE t l.o) 0=l.k.j/\zE t l.o=zM t l.o:=by
 have i:Vn t=Vn t0:=by have:=nR (t0.j+1) t0 cs;rw[h.jm] at this;exact this
 have a:=vg.2 ⟨c,w,u⟩;have f:(zO t0 l.o).I=true:=by
  rcases j:zO t0 l.o with _|e;obtain⟨e,s,v⟩:=z9.1 ((h.tab.names l.o).2 ⟨l,a,rfl⟩);exact zC v (mF h.tab.rise j e s);rfl
 have g:=(G9 (EL i).z _).1 f;obtain⟨e,j⟩:=my.1 g;obtain⟨m,n,o⟩:=qr j;have d:zE t l.o=zM t l.o:=by unfold zE;rw[zb g]
 refine⟨e,j,o,by rw[d];exact m,?_,d⟩;rw[d];have r:(t.w (·.jh)).d (zM t l.o) 0=e.jh:=by simp[v_,m,n]
 rw[r];have b:(e.name,e.jh)∈Vn t0:=by
  rw[←i];exact z9.2 ⟨e,by rw[←n];exact zr m,rfl⟩
 obtain⟨q,p,k⟩:=z9.1 b;simp only[yk] at k;rw[←k.2];exact(h.tab.jh q p l a (by rw[k.1,o])).z
def UH.sol(h:UH cs t0 t):Vx cs (val t):=by
 have b:gC t0 cs:=by
  intro c i l d;have a:=vg.2 ⟨c,i,d⟩;rcases j:zO t0 l.o with _|e;obtain⟨e,f,g⟩:=z9.1 ((h.tab.names l.o).2 ⟨l,a,rfl⟩);exact zC g (mF h.tab.rise j e f);rfl
 have:=it (t0.j+1) t0 cs b (by rw[h.jm]);rw[h.jm] at this;exact this
def im(t:Ψ)(n:Λ):xO t n=val t n:=rfl
def Tg{a b:Λ}{f d:zf}(h:zO t a=Z f)(k:zO t b=Z d)(e:zM t a=zM t b):a=b:=by
 obtain⟨m,i,l⟩:=qr h;obtain⟨n,j,g⟩:=qr k;have:f=d:=by rw[←i,←j];simp[e]
 rw[←l,←g,this]
def rq(p:Nat)(ts:List yo)(x:yo):(jP p ts x).var=x.var/\(jP p ts x).D=x.D:=by unfold jP;split<;>exact⟨rfl,rfl⟩
def Al(t:Ψ)(ns vs:List Λ)(a:Φ)(l:zk)(p:Nat):zL (zT t ns vs a l) p=zL ⟨0,uq ns vs a l⟩ p:=by
 unfold zL zT;simp only[List.any_map];congr 1;funext x;simp only[Function.comp,(rq 0 _ x).1,(rq 0 _ x).2]
def N2(t:Ψ)(ns vs:List Λ)(a:Φ)(l:zk)(p:Nat):xd (zT t ns vs a l) p=xd ⟨0,uq ns vs a l⟩ p:=by
 unfold xd;rw[Al,show zL (zT t ns vs a l)=zL ⟨0,uq ns vs a l⟩ from funext (Al t ns vs a l)]
def NM(ns:List Λ)(x:Λ):(xr ns x).d 0<zU ns.j:=by
 unfold xr zU;split;rename_i h;simp only[uF];split<;>omega
 simp only[kV];split<;>omega
def eF(t:Ψ)(ns vs:List Λ)(a:Φ)(l:zk)(q:∀k,a.d k 0<5)(p:l.k.j<=3):qJ (zT t ns vs a l) l.k.j (zU ns.j):=by
 have b:∀x∈(zT t ns vs a l).v,∃y∈l.k,x=jP 0 (uq ns vs a l) (uR ns vs a y)/\uR ns vs a y∈uq ns vs a l:=by
  intro x e;unfold zT at e;simp only[z9] at e;obtain⟨z,f,rfl⟩:=e;have h:=f;unfold uq at f;obtain⟨y,g,rfl⟩:=z9.1 f;exact⟨y,g,rfl,h⟩
 refine⟨by simp[zT,uq],p,λx e d=>?_,λx e d=>?_⟩;obtain⟨y,g,rfl,n⟩:=b x e;obtain⟨m,j⟩:=rq 0 (uq ns vs a l) (uR ns vs a y);rw[m] at d;rw[j,N2];refine⟨?_,?_⟩;unfold uR at d ⊢;split;unfold vd;split;exact q_ rfl;split;exact q_ rfl;exact q _;rename_i i;rw[za i] at d;cases d;have o:zL ⟨0,uq ns vs a l⟩ (uR ns vs a y).D=true:=(f6 _ _).2 ⟨_,n,d,rfl⟩;unfold jP;rw[zb d];simp only;unfold xd;rw[zb o];rfl;obtain⟨y,g,rfl,n⟩:=b x e;obtain⟨m,j⟩:=rq 0 (uq ns vs a l) (uR ns vs a y);unfold uR at d ⊢;split;rename_i i;rw[zb i] at d;cases d;exact NM ns y
def BC{ns:List Λ}{f:Φ}{l:zk}{p:Nat}:zL (zT t ns vs f l) p=true↔∃y∈l.k,zV y=true/\vd vs f y=p:=by
 rw[Al,f6];constructor;rintro⟨x,h,d,g⟩;unfold uq at h;obtain⟨y,b,rfl⟩:=z9.1 h;unfold uR at d g;by_cases a:zV y=true;rw[zb a] at g;exact⟨y,b,a,g⟩;rw[za a] at d;cases d;rintro⟨y,b,a,e⟩;refine⟨uR ns vs f y,z9.2 ⟨y,b,rfl⟩,?_,?_⟩;unfold uR;rw[zb a];unfold uR;rw[zb a];exact e
def Lz(h:vs.Nodup)(x:Λ):(km vs x).Nodup:=by
 unfold km;split;rename_i d;simp only[uK,tA] at d;rw[so];refine⟨h,ζ,λa f b e=>?_⟩;simp at e;subst e;rintro rfl;rw[qq.2 f] at d;cases d.2;exact h
def GE:∀(args vs:List Λ),vs.Nodup->(xH vs args).Nodup
 |[],_,h=>h
 |x::r,vs,h=>GE r (km vs x) (Lz h x)
def D9(c:zd):(zu c).Nodup:=by
 have:∀(a:Ω) (vs:List Λ),vs.Nodup->(a.H qz vs).Nodup:=by
  intro a;induction a with
  |nil=>intro vs h;exact h
  |cons l a b=>
   intro vs h;rw[uQ];refine b _ ?_;unfold qz;split;exact h;exact GE _ _ h
 exact this c.d [] z_
def mR{α:Type}[DecidableEq α]:∀{l1 l2:List α},l1.Nodup->(∀x∈l1,x∈l2)->l1.j<=l2.j
 |[],l2,_,_=>ζ
 |a::l1,l2,g,d=>by
  have f:=d a ζ;have h:=mR (l1:=l1) (l2:=l2.erase a) (j5.1 g).2 (λx e=>by
   have b:x≠a:=by rintro rfl;exact(j5.1 g).1 e
   exact(lY b).2 (d x (by simp[e])))
  rw[n5 f] at h;have:=pn f;simp;omega
def ID:∀{l:List Λ} (_:l.Nodup) {k:Nat} (f:k<l.j),yG l l[k]=Z k
 |y::r,b,0,_=>by simp[yG]
 |y::r,b,k+1,f=>by
  have a:k<r.j:=by simpa using f
  have d:y≠r[k]:=by
   rintro e;exact(j5.1 b).1 (e ▸ zr a)
  simp only[ri,yG,za d,ID (j5.1 b).2 a,jY]
def eo:∀{ps:List Λ} {n:Λ},n∈ps->∃k,k<ps.j/\yG ps n=Z k:=fun{ps n} h=>by
 have:(yG ps n).I=true:=by rw[oU];exact qq.2 h
 obtain⟨k,a⟩:=my.1 this;obtain⟨b,_⟩:=lM a;exact⟨k,b,a⟩
def ny(h:yT c=false):c.g.k.j<=3/\c.d.j<=6/\(∀l∈c.d,l.k.j<=3)/\(ux c).j<=5:=by
 simp only[yT,pY,decide_eq_false_iff_not,List.any_eq_false,decide_eq_true_eq] at h;obtain⟨⟨⟨d,f⟩,a⟩,e⟩:=h;exact⟨η,η,λl b=>by have:=a l b;omega,η⟩
def fO(h:yT c=false):(zu c).j<=5:=by
 have f:=(ny h).2.2.2;have:=mR (D9 c) (l2:=ux c) (λx e=>by
  obtain⟨a,l,b,_,d⟩:=fo.1 e;exact et.2 ⟨a,zg ⟨l,b,d⟩⟩)
 omega
structure jX (pl:List Nat) (k:Nat):Prop where
 five:∀i,pl.d i 0<5
 low:∀i,i<k->pl.d i 0<k
 onto:∀p,p<k->∃i,i<k/\pl.d i 0=p
def ED(h:UH cs t0 t)(s:c∈cs)(ns:List Λ)(o:Option (List Int))(u:jX (yL (o.d [])) (zu c).j):pZ (vI t ns c o) (t.w (·.jh)) (zU ns.j):=by
 have C:=h.many c s;obtain⟨L,V,F,T⟩:=ny C;have P:=fO C;have w:=h.safe c s;simp only[xu,uK,gu,ld,tA] at w;have a:∀{l:zk} {p:Nat},(∀y∈l.k,zV y=true->y∈zu c)->zL (zT t ns (zu c) (yL (o.d [])) l) p=true->p<(zu c).j:=by
  intro l p v m;obtain⟨y,J,N,n⟩:=BC.1 m;obtain⟨k,S,I⟩:=eo (v y J N);unfold vd at n;rw[I] at n;simp only at n;rw[za η] at n;rw[←n];exact u.low k S
 have f:=pg.1 w.1;have d:∀l∈c.d,∀y∈l.k,zV y=true->y∈zu c:=by
  intro l b y E v;cases G:l.i;exact fo.2 ⟨v,l,b,G,E⟩;rcases w.2 l b with q|q;rw[G] at q;cases q;exact pg.1 q y E v
 have j:∀l∈c.d,(zT t ns (zu c) (yL (o.d [])) l).o<(t.w (·.jh)).j/\qJ (zT t ns (zu c) (yL (o.d [])) l) ((t.w (·.jh)).d (zT t ns (zu c) (yL (o.d [])) l).o 0) (zU ns.j):=by
  intro l b;obtain⟨e,_,_,A,z,_⟩:=h.lit s (l:=l) (by simp[zj,b]);refine⟨by simpa [zT] using A,?_⟩;show qJ _ ((t.w (·.jh)).d (zE t l.o) 0) _;rw[z];exact eF t ns _ _ l u.five (F l b)
 obtain⟨e,_,_,A,z,_⟩:=h.lit s (l:=c.g) (by simp[zj]);refine⟨⟨P,λl b=>?_,λl b p m=>?_,λl b p m=>?_,λp m=>a f m,λp B=>?_⟩,by simpa [vI,zT] using A,?_,λl b=>?_,λl b=>?_⟩;obtain⟨x,g,rfl⟩:=z9.1 b;have:=F x (xw.1 g).1;simp[zT,uq];omega;obtain⟨x,g,rfl⟩:=z9.1 b;exact a (d x (xw.1 g).1) m;obtain⟨x,g,rfl⟩:=z9.1 b;exact a (d x (xw.1 g).1) m;obtain⟨i,D,K⟩:=u.onto p B;have r:=zr D;obtain⟨H,l,M,R,Q⟩:=fo.1 r;refine⟨_,z9.2 ⟨l,xw.2 ⟨M,by simp[R]⟩,rfl⟩,BC.2 ⟨_,Q,H,?_⟩⟩;unfold vd;rw[ID (D9 c) D];simp only;rw[za η];exact K;show qJ _ ((t.w (·.jh)).d (zE t c.g.o) 0) _;rw[z];exact eF t ns _ _ c.g u.five L;obtain⟨x,g,rfl⟩:=z9.1 b;exact j x (xw.1 g).1;obtain⟨x,g,rfl⟩:=z9.1 b;exact j x (xw.1 g).1
def th(h:UH cs t0 t)(ns:List Λ)(os:Option (List (Option (List Int))))(hp:∀i (d:i<cs.j),jX (yL ((uo os i).d [])) (zu cs[i]).j):su (vq t ns os cs):=by
 have s:∀a∈t.w (·.jh),a<=3:=by
  intro a ha;obtain⟨e,he,rfl⟩:=z9.1 ha;have C:Vn t=Vn t0:=by have:=nR (t0.j+1) t0 cs;rw[h.jm] at this;exact this
  have n:(e.name,e.jh)∈Vn t0:=by rw[←C];exact z9.2 ⟨e,he,rfl⟩
  obtain⟨H,J,N⟩:=z9.1 n;simp only[yk] at N;obtain⟨l,K,l2⟩:=(h.tab.names H.name).1 (z9.2 ⟨H,J,rfl⟩);have:=h.tab.jh H J l K l2;obtain⟨c,E,y⟩:=vg.1 K;obtain⟨q1,_,D,_⟩:=ny (h.many c E);rw[←N.2,←this];rcases z7.1 y with rfl|y;exact q1;exact D l y
 have G:0<zU ns.j:=by unfold zU;split<;>omega
 have b:∀r∈uX t ns os cs,∃i,∃d:i<cs.j,0<cs[i].d.j/\r=vI t ns cs[i] (uo os i):=by
  intro r o;unfold uX at o;obtain⟨⟨c,i⟩,S,A⟩:=nC.1 o;have L:=sE.1 S;simp only at A L;obtain⟨d,rfl⟩:=jB.1 L;split at A;rename_i Q;simp only[zt] at A;exact⟨i,d,Q,A.z⟩;cases A
 refine⟨s,λf W=>?_,λr o=>?_,λr o r' B I l y=>?_⟩;have u:f∈vM t ns cs:=W;unfold vM at u;obtain⟨c,E,rfl⟩:=z9.1 u;have v:=(xw.1 E).1;obtain⟨e,_,_,D,q4,_⟩:=h.lit v (l:=c.g) (by simp[zj]);have z:qJ (zT t ns [] [0,0,0,0,0] c.g) c.g.k.j (zU ns.j):=eF t ns [] _ c.g (λk=>by
  by_cases R:k<5;have:k=0∨k=1∨k=2∨k=3∨k=4:=η;rcases this with rfl|rfl|rfl|rfl|rfl<;>decide
  simp[v_,i_ (show([0,0,0,0,0]:Φ).j<=k by simp;omega)]) (ny (h.many c v)).1
 refine⟨by simpa [qu,vq] using D,?_,?_⟩;show UL ((t.w (·.jh)).d (zE t c.g.o) 0) _;rw[q4];exact eV z _;refine DV z G λp _=>?_;by_cases R:p<5;have:p=0∨p=1∨p=2∨p=3∨p=4:=η;rcases this with rfl|rfl|rfl|rfl|rfl<;>exact G
 rw[show([0,0,0,0,0]:Φ).d p 0=0 by simp[v_,i_ (show([0,0,0,0,0]:Φ).j<=p by simp;omega)]];exact G;obtain⟨i,d,_,rfl⟩:=b r o;exact ED h (zr d) ns _ (hp i d);obtain⟨i,d,_,rfl⟩:=b r o;obtain⟨j,hj,_,rfl⟩:=b r' B;obtain⟨x,P,rfl⟩:=z9.1 y;have w:=(xw.1 P).1;have F:x.i=true:=by simpa using(xw.1 P).2
 have g:=h.sol cs[i] (zr d) x w;unfold up at g;rw[zb F] at g;obtain⟨e1,T,_,_,_,a5⟩:=h.lit (zr d) (l:=x) (by simp[zj,w]);obtain⟨e2,b1,_,_,_,V⟩:=h.lit (zr hj) (l:=cs[j].g) (by simp[zj]);intro e;have M:zE t x.o=zE t cs[j].g.o:=e;rw[a5,V] at M;have m:=Tg T b1 M;have q:xO t cs[i].g.o=xO t cs[j].g.o:=I;rw[im,im,←m] at q;omega
def pX{k:Nat}(f:k<=5):jX (yL []) k:=by
 have e:yL []=[0,1,2,3,4]:=rfl;have b:∀i,i<5->([0,1,2,3,4]:Φ).d i 0=i:=by
  intro i a;have:i=0∨i=1∨i=2∨i=3∨i=4:=η;rcases this with rfl|rfl|rfl|rfl|rfl<;>rfl
 rw[e];refine⟨λi=>?_,λi a=>by rw[b i η];exact a,λp d=>⟨p,d,b p η⟩⟩;by_cases a:i<5;rw[b i a];exact a;simp[v_,i_ (show([0,1,2,3,4]:Φ).j<=i by simp;omega)]
end
section
open Classical
def UH.low{cs:Ξ}{a t:Ψ}(h:UH cs a t):t.j=a.j/\t.j<=500/\∀n,xO t n<=t.j:=by
 have g:Vn t=Vn a:=by have:=nR (a.j+1) a cs;rw[h.jm] at this;exact this
 have d:t.j=a.j:=by have:=congrArg List.length g;simpa [Vn] using this
 have p:=e8 _ [] a h.coll;have u:=oI cs;have s:=h.M;simp only[jD,uM] at p;have f:gC a cs:=by
  intro c m l k;have b:=vg.2 ⟨c,m,k⟩;rcases i:zO a l.o with _|e;obtain⟨e,r,j⟩:=z9.1 ((h.tab.names l.o).2 ⟨l,b,rfl⟩);exact zC j (mF h.tab.rise i e r);rfl
 have q:∀n,val a n=0:=λn=>by
  unfold val;split;rename_i e i;have:=eO _ [] (λe i=>by cases i) a h.coll e (pS i).1;omega;rfl
 have o:=(sW f q).2 (by rw[h.jm]);rw[h.jm] at o;refine⟨d,η,λn=>?_⟩;rw[im];by_cases j:n∈U4 a;have:=B7 o (ps:=U4 a) (λc m l k=>(h.tab.names l.o).2 ⟨l,vg.2 ⟨c,m,k⟩,rfl⟩) j;simp[U4] at this;show val t n<=_;omega;have:val t n=0:=AM (by rw[EL g];exact j);omega
def D1(cs:Ξ):mw cs<=VY cs:=by
 induction cs with
 |nil=>simp[mw,VY]
 |cons c cs d=>
  have e:=tU c.d;have f:fg c.d=xn c.d:=by
   have:∀b:Ω,fg b=xn b:=by
    intro b;induction b with
    |nil=>rfl
    |cons a b d=>simp[fg,xn,gA] at d ⊢;omega
   exact this _
  simp[mw,VY,Wy,gI,gA] at d ⊢;omega
end
section
variable {ns:κ}
def wu(h:yw ns){i j:Nat}(a:i<j)(b:j<ns.j):UU (ns.d i g_) (ns.d j g_)=true:=by
 have c:i<ns.j:=η;rw[U8 _ c,U8 _ b];exact pd.1 h i j c b a
def R5(h:yw ns)(x:Λ):∀(n l a:Nat),l<=a->a<=ns.j->a-l<n->(∀i,i<l->UU (ns.d i g_) x=true)->(∀i,a<=i->i<ns.j->UU (ns.d i g_) x=false)->Vb ns x n l a<=ns.j/\(∀i,i<Vb ns x n l a->UU (ns.d i g_) x=true)/\∀i,Vb ns x n l a<=i->i<ns.j->UU (ns.d i g_) x=false:=by
 intro n;induction n with
 |zero=>intro l a _ _ q;omega
 |succ n p=>
  intro l a t s u k o;unfold Vb;by_cases d:l<a;rw[zb d];have v:l+(a-l) / 2<a:=η;have f:l<=l+(a-l) / 2:=η;generalize l+(a-l) / 2=m at *;by_cases e:UU (ns.d m g_) x=true;rw[zb e];refine p (m+1) a η s η (λi j=>?_) o;by_cases c:i=m;rw[c];exact e;exact lt_trans (wu h (show i<m by omega) η) e;rw[za e];have b:UU (ns.d m g_) x=false:=by simpa using e
  refine p l m f η η k (λi j g=>?_);by_cases c:i=m;rw[c];exact b;cases r:UU (ns.d i g_) x;rfl;have:=lt_trans (wu h (show m<i by omega) g) r;rw[this] at b;cases b;rw[za d];exact⟨η,k,λi j g=>o i η g⟩
def GA(h:yw ns)(x:Λ):ut ns x<=ns.j/\(∀i,i<ut ns x->UU (ns.d i g_) x=true)/\∀i,ut ns x<=i->i<ns.j->UU (ns.d i g_) x=false:=
 R5 h x _ 0 ns.j (zs _) (ze _) η (λi a=>η) (λi a b=>η)
def tp(h:yw ns){v:Nat}(a:v<ns.j):xr ns (ns.d v g_)=Z v:=by
 obtain⟨e,b,c⟩:=GA h (ns.d v g_);have d:ut ns (ns.d v g_)=v:=by
  rcases nE (ut ns (ns.d v g_)) v with q|q|q;have:=c _ (ze _) η;rw[wu h q a] at this;cases this;exact q;have:=b v q;rw[UE] at this;cases this
 unfold xr;rw[d,zb ⟨a,rfl⟩]
def ru{x:Λ}{v:Nat}(h:xr ns x=Z v):v<ns.j/\ns.d v g_=x:=by
 unfold xr at h;split at h;rename_i a;simp only[zt] at h;subst h;exact a;cases h
def Do(h:yw ns){x:Λ}(b:x∈ns):∃v,xr ns x=Z v/\v<ns.j:=by
 obtain⟨v,a,rfl⟩:=uT b;have:=tp h a;rw[U8 _ a] at this;exact⟨v,this,a⟩
def Kg(h:yw ns)(x:Λ):yw (mX ns x)/\∀y,y∈mX ns x↔y=x∨y∈ns:=by
 unfold mX;obtain⟨A,z,u⟩:=GA h x;by_cases f:ut ns x<ns.j/\ns.d (ut ns x) g_=x;rw[zb f];refine⟨h,λy=>⟨zg,λq=>q.elim (λe=>?_) id⟩⟩;rw[e,←f.2,U8 _ f.1];exact zr f.1;rw[za f];generalize ut ns x=p at *;refine⟨?_,λy=>?_⟩;unfold yw;have n:=jF p ns;have c:=h;unfold yw at c;rw[←n,mK] at c;rw[mK,fZ];have l:∀a∈ns.G p,UU a x=true:=λa j=>by
  obtain⟨i,s,rfl⟩:=uT j;have o:i<p:=by simp at s;omega
  have d:i<ns.j:=η;have:=z i o;rw[U8 _ d] at this;simpa using this
 have k:∀b∈ns.drop p,UU x b=true:=λb g=>by
  obtain⟨i,s,rfl⟩:=uT g;have d:p+i<ns.j:=by simp at s;omega
  have t:=u (p+i) η d;rw[U8 _ d] at t;rw[List.getElem_drop];cases v:UU x ns[p+i];exfalso;have e:=sV t v;by_cases m:i=0;subst m;exact f ⟨η,by rw[U8 _ η];simpa using e⟩;have r:=wu h (show p<p+i by omega) d;rw[U8 _ d,e] at r;have w:=u p (ze _) η;rw[w] at r;cases r;rfl
 refine⟨c.1,⟨k,c.2.1⟩,λa j b g=>?_⟩;rcases z7.1 g with rfl|g;exact l a j;exact c.2.2 a j b g;have:y∈ns↔y∈ns.G p∨y∈ns.drop p:=by
  rw[←zW,jF]
 rw[this];simp only[zW,z7];constructor;rintro(q|q|q);exact zg (zh q);exact zh q;exact zg (zg q);rintro(q|q|q);exact zg (zh q);exact zh q;exact zg (zg q)
def Rz(h:yw ns)(x:Λ):yw (jn ns x)/\∀y,y∈jn ns x↔(y=x/\zV x=false)∨y∈ns:=by
 unfold jn;cases a:zV x;simpa using Kg h x;simp[h]
def Ar:∀(xs:List Λ) {ns:List Λ},yw ns->yw (xs.H jn ns)/\∀y,y∈xs.H jn ns↔(y∈xs/\zV y=false)∨y∈ns
 |[],ns,h=>⟨h,λy=>ζ⟩
 |x::xs,ns,h=>by
  obtain⟨d,c⟩:=Rz h x;obtain⟨f,e⟩:=Ar xs d;refine⟨f,λy=>?_⟩;rw[uQ,e,c];simp only[z7];constructor
  .rintro(⟨b,a⟩|⟨rfl,a⟩|q)
   .exact zh ⟨zg b,a⟩
   .exact zh ⟨zh rfl,a⟩
   .exact zg q
  .rintro(⟨rfl|b,a⟩|q)
   .exact zg (zh ⟨rfl,a⟩)
   .exact zh ⟨b,a⟩
   .exact zg (zg q)
def Fy:∀(ls:Ω) {ns:List Λ},yw ns->yw (ls.H vl ns)/\∀y,y∈ls.H vl ns↔(∃l∈ls,y∈l.k/\zV y=false)∨y∈ns
 |[],ns,h=>⟨h,λy=>ζ⟩
 |l::ls,ns,h=>by
  obtain⟨c,b⟩:=Ar l.k h;obtain⟨e,d⟩:=Fy ls (ns:=vl ns l) c;refine⟨e,λy=>?_⟩;have a:∀y,y∈vl ns l↔(y∈l.k/\zV y=false)∨y∈ns:=b;rw[uQ,d,a];simp only[z7,exists_eq_or_imp];constructor
  .rintro(q|q|q)
   .exact zh (zg q)
   .exact zh (zh q)
   .exact zg q
  .rintro((q|q)|q)
   .exact zg (zh q)
   .exact zh q
   .exact zg (zg q)
def EB:∀(cs:Ξ) {ns:List Λ},yw ns->yw (cs.H qQ ns)/\∀y,y∈cs.H qQ ns↔(∃c∈cs,∃l∈zj c,y∈l.k/\zV y=false)∨y∈ns
 |[],ns,h=>⟨h,λy=>ζ⟩
 |c::cs,ns,h=>by
  obtain⟨f,e⟩:=Ar c.g.k h;obtain⟨i,d⟩:=Fy c.d (ns:=vl ns c.g) f;obtain⟨j,g⟩:=EB cs (ns:=qQ ns c) i;refine⟨j,λy=>?_⟩;have b:∀y,y∈vl ns c.g↔(y∈c.g.k/\zV y=false)∨y∈ns:=e;have a:∀y,y∈qQ ns c↔(∃l∈c.d,y∈l.k/\zV y=false)∨y∈vl ns c.g:=d;rw[uQ,g,a,b];simp only[z7,exists_eq_or_imp,zj];constructor
  .rintro(q|q|q|q)
   .exact zh (zg q)
   .exact zh (zh (zg q))
   .exact zh (zh (zh q))
   .exact zg q
  .rintro(((q|q)|q)|q)
   .exact zg (zg (zh q))
   .exact zg (zh q)
   .exact zh q
   .exact zg (zg (zg q))
def dU(cs:Ξ):yw (zp cs)/\∀y,y∈zp cs↔∃c∈cs,∃l∈zj c,y∈l.k/\zV y=false:=by
 obtain⟨a,b⟩:=EB cs (ns:=[]) List.Pairwise.nil;exact⟨a,λy=>by rw[show zp cs=cs.H qQ [] from rfl,b];simp⟩
end
section
open Classical
variable {vs ns:κ}{pl:List Nat}{t t0:List zf}{cs:List zd}
def kJ(ns:κ)(σ:ByteArray->Nat)(l:zk)(i:Nat):Nat:=match l.k[i]? with
 |none=>0
 |some y=>if zV y=true then σ y else(xr ns y).d 0
def qI(ns:κ)(σ:ByteArray->Nat)(l:zk):zl:=[kJ ns σ l 0,kJ ns σ l 1,kJ ns σ l 2]
def DS(a:∀k,pl.d k 0<5)(n:Λ):vd vs pl n<5:=by
 unfold vd;split;omega;split;omega;exact a _
def QZ(t:Ψ)(ns vs:List Λ)(f:∀k,pl.d k 0<5)(l:zk)(y:Φ)(i:Nat):U5 (zT t ns vs pl l) y i=kJ ns (λv=>y.d (vd vs pl v) 0) l i:=by
 unfold U5 kJ;by_cases h:i<l.k.j;have a:i<(zT t ns vs pl l).v.j:=by simp[zT,uq];exact h
 rw[zb a,yn h,U8 _ a];have e:(zT t ns vs pl l).v[i]=jP 0 (uq ns vs pl l) (uR ns vs pl l.k[i]):=by simp[zT,uq]
 obtain⟨d,c⟩:=rq 0 (uq ns vs pl l) (uR ns vs pl l.k[i]);rw[e];unfold VQ;rw[d,c];unfold uR;by_cases b:zV l.k[i]=true;have:=DS (vs:=vs) f l.k[i];simp[b,this];simp[b];have a:¬i<(zT t ns vs pl l).v.j:=by simp[zT,uq];omega
 rw[za a,d8 η]
def tM(t:Ψ)(ns vs:List Λ)(a:∀k,pl.d k 0<5)(l:zk)(y:Φ):zI (zT t ns vs pl l) y=qI ns (λv=>y.d (vd vs pl v) 0) l:=by
 simp only[zI,qI,QZ t ns vs a]
def J9{σ τ:Λ->Nat}{l:zk}(h:∀y∈l.k,zV y=true->σ y=τ y):qI ns σ l=qI ns τ l:=by
 have:∀i,kJ ns σ l i=kJ ns τ l i:=by
  intro i;unfold kJ;rcases c:l.k[i]? with _|y;rfl;have b:=fy c;by_cases a:zV y=true;simp only[a,if_true];exact h y b a;simp[a]
 simp only[qI,this]
def ey(t:List zf)(ns:κ)(c:zd)(D:DB)(x:zl):Prop:=∃σ,(∀l∈c.d,l.i=false->UD D (zE t l.o) (qI ns σ l))/\(∀l∈c.d,l.i=true->D (zE t l.o) (qI ns σ l)=Y)/\x=qI ns σ c.g
def KC{k:Nat}{f:Nat->Nat}(h:∀p,p<k->∃i,i<k/\f i=p){i j:Nat}(n:i<k)(g:j<k)(e:f i=f j):i=j:=by
 by_cases b:i=j;exact b;have:=mR (l1:=h_ k) (l2:=((h_ k).erase j).w f) n_ (λp l=>by
  obtain⟨a,m,d⟩:=h p (qF.1 l);by_cases c:a=j;exact z9.2 ⟨i,(lY b).2 (qF.2 n),by rw[e,←c,d]⟩;exact z9.2 ⟨a,(lY c).2 (qF.2 m),d⟩)
 rw[xv,n5 (qF.2 g),pG] at this;omega
def IZ(m:vs.j<=5)(k:jX pl vs.j){u v:Λ}(l:u∈vs)(g:v∈vs)(e:vd vs pl u=vd vs pl v):u=v:=by
 obtain⟨i,h,d⟩:=eo l;obtain⟨j,f,c⟩:=eo g;unfold vd at e;rw[d,c] at e;simp only at e;rw[za η,za η] at e;have:=KC k.onto h f e;subst this;obtain⟨_,a⟩:=lM d;obtain⟨_,b⟩:=lM c;rw[←a,←b]
def Gr{c:zd}{o:Option (List Int)}{D:DB}{x:zl}(E:∀l∈zj c,∀y∈l.k,zV y=true->y∈zu c)(B:(zu c).j<=5)(e:jX (yL (o.d [])) (zu c).j):Wt (vI t ns c o) D x↔ey t ns c D x:=by
 constructor;rintro⟨y,j,s,n⟩;refine⟨λv=>y.d (vd (zu c) (yL (o.d [])) v) 0,λl b w=>?_,λl b w=>?_,?_⟩;have:=j (zT t ns (zu c) (yL (o.d [])) l) (z9.2 ⟨l,xw.2 ⟨b,by simp[w]⟩,rfl⟩);rw[tM t ns _ e.five] at this;exact this;have:=s (zT t ns (zu c) (yL (o.d [])) l) (z9.2 ⟨l,xw.2 ⟨b,by simp[w]⟩,rfl⟩);rw[tM t ns _ e.five] at this;exact this;rw[n];exact tM t ns _ e.five _ _;rintro⟨σ,j,s,n⟩;let g:Nat->Nat:=λp=>if d:∃v,v∈zu c/\vd (zu c) (yL (o.d [])) v=p then σ d.choose else 0
 have k:∀v∈zu c,g (vd (zu c) (yL (o.d [])) v)=σ v:=by
  intro v h;have d:∃u,u∈zu c/\vd (zu c) (yL (o.d [])) u=vd (zu c) (yL (o.d [])) v:=⟨v,h,rfl⟩;show(if d:∃u,u∈zu c/\vd (zu c) (yL (o.d [])) u=vd (zu c) (yL (o.d [])) v then σ d.choose else 0)=σ v;rw[dif_pos d,IZ B e d.choose_spec.1 h d.choose_spec.2]
 have C:∀p,p<5->((h_ 5).w g).d p 0=g p:=by
  intro p q;rw[U8 _ (by simp;exact q)];simp
 have a:∀l∈zj c,zI (zT t ns (zu c) (yL (o.d [])) l) ((h_ 5).w g)=qI ns σ l:=by
  intro l b;rw[tM t ns _ e.five];refine J9 λy r i=>?_;rw[C _ (DS e.five _),k y (E l b y r i)]
 refine⟨(h_ 5).w g,λl b=>?_,λl b=>?_,?_⟩;obtain⟨z,m,rfl⟩:=z9.1 b;obtain⟨f,A⟩:=xw.1 m;rw[a z (by simp[zj,f])];exact j z f (by simpa using A);obtain⟨z,m,rfl⟩:=z9.1 b;obtain⟨f,A⟩:=xw.1 m;rw[a z (by simp[zj,f])];exact s z f (by simpa using A);rw[n];exact(a c.g (by simp[zj])).z
def UH.covered(h:UH cs t0 t){c:zd}(g:c∈cs):∀l∈zj c,∀y∈l.k,zV y=true->y∈zu c:=by
 have b:=h.safe c g;simp only[xu,uK,gu,ld,tA] at b;intro l a y d e;rcases z7.1 a with rfl|a;exact pg.1 b.1 y d e;cases f:l.i;exact fo.2 ⟨e,l,a,f,d⟩;rcases b.2 l a with q|q;rw[f] at q;cases q;exact pg.1 q y d e
def Jd(t:List zf)(ns:κ)(cs:List zd)(s:Nat)(D:DB)(p:Nat)(x:zl):Prop:=∃c∈cs,0<c.d.j/\xO t c.g.o=s/\p=zE t c.g.o/\ey t ns c D x
def rU{os:Option (List (Option (List Int)))}{r:zv}:r∈uX t ns os cs↔∃i,∃b:i<cs.j,0<cs[i].d.j/\r=vI t ns cs[i] (uo os i):=by
 unfold uX;rw[nC];constructor;rintro⟨⟨c,i⟩,f,a⟩;have e:=sE.1 f;simp only at a e;obtain⟨b,rfl⟩:=jB.1 e;split at a;rename_i d;simp only[zt] at a;exact⟨i,b,d,a.z⟩;cases a;rintro⟨i,b,d,rfl⟩;refine⟨(cs[i],i),sE.2 (by simp[b]),?_⟩;simp only;rw[zb d]
def Bj(h:UH cs t0 t)(ns:List Λ)(os:Option (List (Option (List Int))))(g:∀i (b:i<cs.j),jX (yL ((uo os i).d [])) (zu cs[i]).j)(s:Nat)(D:DB)(p:Nat)(x:zl):jQ ((uX t ns os cs).filter λr=>decide (r.L=s)) D p x↔Jd t ns cs s D p x:=by
 constructor;rintro⟨r,j,e,f⟩;obtain⟨k,m⟩:=xw.1 j;obtain⟨i,b,d,rfl⟩:=rU.1 k;have a:=zr b;exact⟨cs[i],a,d,of_decide_eq_true m,e,(Gr (h.covered a) (fO (h.many _ a)) (g i b)).1 f⟩;rintro⟨c,a,d,e,f,l⟩;obtain⟨i,b,rfl⟩:=vh.1 a;exact⟨vI t ns cs[i] (uo os i),xw.2 ⟨rU.2 ⟨i,b,d,rfl⟩,decide_eq_true e⟩,f,(Gr (h.covered a) (fO (h.many _ a)) (g i b)).2 l⟩
def LX{rs a:List zv}(h:∀D p x,jQ rs D p x↔jQ a D p x)(k:Nat)(D:DB):zzs rs k D=zzs a k D:=by
 funext p x;unfold zzs;rcases D p x with _|m;simp only[h D p x];rfl
def Ic{rs a:List zv}(h:∀D p x,jQ rs D p x↔jQ a D p x)(mr:Nat):∀left k D,zy9 rs mr left k D=zy9 a mr left k D
 |0,_,_=>rfl
 |left+1,k,D=>by
  unfold zy9;rw[LX h,Ic h mr left]
def D7{rs a:List zv}(h:∀s D p x,jQ (rs.filter λr=>decide (r.L=s)) D p x↔jQ (a.filter λr=>decide (r.L=s)) D p x)(b:∀s,(rs.filter λr=>decide (r.L=s))=[]↔(a.filter λr=>decide (r.L=s))=[])(mr mx:Nat):∀n s k D,zzc rs mr mx n s k D=zzc a mr mx n s k D
 |0,_,_,_=>rfl
 |n+1,s,k,D=>by
  unfold zzc;simp only[b s,Ic (h s) mr,D7 h b mr mx n]
def R7(h:UH cs t0 t)(ns:List Λ)(os a:Option (List (Option (List Int))))(l:∀i (b:i<cs.j),jX (yL ((uo os i).d [])) (zu cs[i]).j)(d:∀i (b:i<cs.j),jX (yL ((uo a i).d [])) (zu cs[i]).j)(mr mx:Nat):z1h (vq t ns os cs) mr mx=z1h (vq t ns a cs) mr mx:=by
 have g:∀(os:Option (List (Option (List Int)))) s,((uX t ns os cs).filter λr=>decide (r.L=s))=[]↔∀c∈cs,0<c.d.j->¬xO t c.g.o=s:=by
  intro os s;rw[eN];constructor;intro q c m f j;obtain⟨i,b,rfl⟩:=vh.1 m;have:=q _ (rU.2 ⟨i,b,f,rfl⟩);exact this (decide_eq_true j);intro q r k;obtain⟨i,b,f,rfl⟩:=rU.1 k;exact λe=>q _ (zr b) f (of_decide_eq_true e)
 unfold z1h;show(if mZ (z0v (vM t ns cs)) mr then zzc (uX t ns os cs) mr mx _ 0 0 _ else Y)=(if mZ (z0v (vM t ns cs)) mr then zzc (uX t ns a cs) mr mx _ 0 0 _ else Y);rw[D7 (λs D p x=>(Bj h ns os l s D p x).A (Bj h ns a d s D p x).z) (λs=>(g os s).A (g a s).z)];rfl
def Ak{n:Nat}:∀{l:List Int} {e:List Bool},ky n l e=true->e.j=5->l.Nodup/\∀x∈l,0<=x/\x<n/\x<5/\e.d x.D false=false
 |[],_,_,_=>⟨z_,ζ⟩
 |x::r,e,h,o=>by
  unfold ky at h;split at h
  .cases h
  .rename_i s;split at h
   .cases h
   .rename_i k;obtain⟨m,j⟩:=Ak h (by simp[o]);have i:x.D<e.j:=η;have g:∀y∈r,y≠x:=by
     rintro y f rfl;have:=(j y f).2.2.2;rw[pj,zb ⟨rfl,i⟩] at this;cases this
    refine⟨j5.2 ⟨λq=>g x q rfl,m⟩,λy f=>?_⟩;rcases z7.1 f with rfl|f
    .exact⟨η,η,η,by simpa using k⟩
    .obtain⟨a,b,c,d⟩:=j y f;have p:¬x.D=y.D:=λq=>g y f η;rw[pj,za (λq=>p q.1)] at d;exact⟨a,b,c,d⟩
def SE{l:List Int}(R:l.j<=5)(h:sp l=true):jX (yL l) l.j:=by
 obtain⟨E,n⟩:=Ak h rfl;have g:∀m,m<=l.j->(∀j (c:j<m) (d:j<l.j),((l.G m).zipIdx.H qd [0,1,2,3,4]).d l[j].D 0=j)/\∀i,(∀j (c:j<m) (d:j<l.j),l[j].D≠i)->((l.G m).zipIdx.H qd [0,1,2,3,4]).d i 0<5:=by
  intro m;induction m with
  |zero=>
   intro _;refine⟨λj c=>η,λi _=>?_⟩;have:=(pX (k:=5) (ze _)).five i;exact this
  |succ m K=>
   intro Q;have s:m<l.j:=η;obtain⟨a,b⟩:=K η;obtain⟨D,I,G,_⟩:=n l[m] (zr s);have w:((l.G m).zipIdx.H qd [0,1,2,3,4]).j=5:=eP (l.G m);rw[Fn s];have M:∀A:Φ,qd A (l[m],m)=A.set l[m].D m:=λA=>by unfold qd;exact zb ⟨D,G⟩
   rw[M];refine⟨λj c d=>?_,λi u=>?_⟩;rw[pj];by_cases o:j=m;subst o;rw[zb ⟨rfl,by rw[w];omega⟩];rw[za,a j η d];intro q;obtain⟨J,_⟩:=n l[j] (zr d);have:l[m]=l[j]:=η;exact o ((List.getElem_inj E).1 this.z);rw[pj];split;omega;exact b i λj c d=>u j η d
 obtain⟨a,b⟩:=g l.j (ze _);rw[ve] at a b;have f:∀i,i<l.j->∃j,∃c:j<l.j,l[j].D=i:=by
  intro i u;by_cases r:∃j,∃c:j<l.j,l[j].D=i;exact r;exfalso;have v:(l.w Int.toNat).Nodup:=by
   refine mV.2 (List.Pairwise.imp_of_mem (λH F B e=>B ?_) E);have P:=n _ H;have N:=n _ F;omega
  have:=mR (l1:=l.w Int.toNat) (l2:=(h_ l.j).erase i) v (λy L=>by
   obtain⟨z,C,rfl⟩:=z9.1 L;obtain⟨J,S,_⟩:=n z C;obtain⟨j,c,rfl⟩:=vh.1 C;exact(lY (λq=>r ⟨j,c,q⟩)).2 (qF.2 η))
  rw[xv,n5 (qF.2 u),pG] at this;omega
 refine⟨λi=>?_,λi u=>?_,λp x=>?_⟩;by_cases r:∃j,∃c:j<l.j,l[j].D=i;obtain⟨j,c,rfl⟩:=r;have:=a j c c;unfold yL;omega;exact b i λj _ c e=>r ⟨j,c,e⟩;obtain⟨j,c,rfl⟩:=f i u;have:=a j c c;unfold yL;omega;obtain⟨D,I,_⟩:=n l[p] (zr x);exact⟨l[p].D,η,a p x x⟩
def Co{os:Option (List (Option (List Int)))}(h:vK cs os=true)(j:∀c∈cs,(zu c).j<=5):∀i (f:i<cs.j),jX (yL ((uo os i).d [])) (zu cs[i]).j:=by
 intro i f;have a:=j _ (zr f);rcases os with _|l;exact pX a;unfold vK at h;simp only[uK,beq_iff_eq,gu] at h;have d:i<l.j:=η;have b:=h.2 (cs[i],l[i]) (by
  rw[vh];exact⟨i,by simp;omega,ζ⟩)
 have e:uo (Z l) i=l[i]:=by simp[uo,d]
 rw[e];rcases g:l[i] with _|o;exact pX a;rw[g] at b;simp only[vN,uK,beq_iff_eq] at b;show jX (yL o) _;rw[←b.1];exact SE η b.2
end
section
variable {r r2:List UA}
def lB(l:zk):Nat:=if l.k.j=0 then 2 else 2*l.k.j+3
def WO(c:zd):Nat:=lB c.g+(c.d.w lB).sum
def p9{k:Int}(h:US r=k)(a:k≠0):r.j=r.tail.j+1:=by
 rcases r with _|⟨x,r⟩;exact zC h.z a;simp
def Ep:∀(r:Δ) {ts:List Λ} {r2:Δ},y5 r=Z (ts,r2)->2*ts.j+r2.j<=r.j+1
 |[],_,_,h=>by simp[y5] at h
 |[x],ts,r2,h=>by
  simp only[y5] at h;split at h<;>simp at h
  obtain⟨rfl,rfl⟩:=h;simp
 |x::y::r,ts,r2,h=>by
  simp only[y5] at h;split at h
  .split at h
   .cases a:y5 r with
    |none=>rw[a] at h;simp at h
    |some z=>
     obtain⟨b,c⟩:=z;rw[a] at h;simp at h;have:=Ep r a;obtain⟨rfl,rfl⟩:=h;simp;omega
   .simp at h;obtain⟨rfl,rfl⟩:=h;simp;omega
  .simp at h
def B3{a:zk}(h:x6 r=Z (a,r2)):lB a+r2.j<=r.j+1:=by
 unfold x6 at h;split at h;rename_i c;have:=p9 c θ;split at h;rename_i d;have:=p9 d θ;split at h;cases h;rename_i f g b;have:=Ep _ b;split at h;rename_i e;have:=p9 e θ;cases h;unfold lB;dsimp only;split<;>omega
 cases h;cases h;simp[lB];omega;cases h
def SH{a:zk}(h:vm r=Z (a,r2)):lB a+r2.j<=r.j+1:=by
 unfold vm at h;split at h;rename_i c;have:=p9 c θ;rcases b:x6 r.tail with _|z;rw[b] at h;simp at h;obtain⟨d,e⟩:=z;rw[b] at h;simp at h;have:=B3 b;obtain⟨rfl,rfl⟩:=h;simp only[lB] at this ⊢;omega;exact B3 h
def Rx{n:Nat}:∀{r r2:Δ} {b:Ω},un n r=Z (b,r2)->(b.w lB).sum+r2.j<=r.j+1:=by
 induction n with
 |zero=>intro r r2 b h;simp[un] at h
 |succ n g=>
  intro r r2 b h;rcases c:vm r with _|z;rw[tK c] at h;cases h;obtain⟨a,f⟩:=z;have:=SH c;by_cases e:US f=6;have:=p9 e θ;rw[rJ c e] at h;rcases d:un n f.tail with _|z;rw[d] at h;simp at h;rw[d] at h;simp at h;have:=g d;obtain⟨rfl,rfl⟩:=h;simp only[xU,q7];omega;rw[sI c e] at h;simp at h;obtain⟨rfl,rfl⟩:=h;simp;omega
def Ko{n:Nat}{c:zd}(h:vJ n r=Z (c,r2)):WO c+r2.j<=r.j:=by
 unfold vJ at h;split at h;cases h;rename_i a i f;have:=B3 f;split at h;rename_i g;have:=p9 g θ;split at h;cases h;rename_i b j e;have:=Rx e;split at h;rename_i d;have:=p9 d θ;cases h;unfold WO;dsimp only;omega;cases h;split at h;rename_i d;have:=p9 d θ;cases h;simp[WO];omega;cases h
def Fa{d:Nat}:∀{m:Nat} {r:Δ} {cs:Ξ},yW d m r=Z cs->(cs.w WO).sum<=r.j
 |_,[],cs,h=>by simp[yW] at h;subst h;simp
 |0,_::_,cs,h=>by simp[yW] at h
 |m+1,x::r,cs,h=>by
  cases b:vJ d (x::r) with
  |none=>rw[i7 ζ b] at h;cases h
  |some z=>
   obtain⟨c,r2⟩:=z;rw[tR ζ b] at h;cases a:yW d m r2 with
   |none=>rw[a] at h;simp at h
   |some e=>
    rw[a] at h;simp at h;subst h;have f:=Ko b;have g:=Fa a;simp only[xU,q7];omega
def Hb{s:Λ}{cs:Ξ}{t:Ψ}(h:uH s=.ok (cs,t)):(cs.w WO).sum<=500:=by
 unfold uH at h;split at h;cases h;rename_i d;split at h;cases h;rename_i f a;split at h;cases h;rename_i c b;have e:=Fa b;have g:=iq a;split at h;cases h;split at h;cases h;split at h;split at h;cases h;omega;cases h;cases h
def gE(ls:List zk):Nat:=(ls.w λl=>l.k.countP zV).sum
def hZ(ls:List zk):Nat:=(ls.w λl=>l.k.countP λa=>!zV a).sum
def AB:∀(ls:Ω),(∀l∈ls,l.k.j<=3)->3*(gE ls+hZ ls)<=(ls.w lB).sum
 |[],_=>by simp[gE,hZ]
 |l::ls,h=>by
  have c:=AB ls (λx b=>h x (by simp[b]));have g:=h l ζ;have d:=List.length_eq_countP_add_countP zV (l:=l.k);have e:3*l.k.j<=lB l:=by unfold lB;split<;>omega
  have f:l.k.countP (λa=>decide ¬zV a=true)=l.k.countP λa=>!zV a:=by congr 1;funext a;cases zV a<;>rfl
  simp only[gE,hZ,xU,q7] at c ⊢;omega
def B0:∀(cs:Ξ),(∀c∈cs,yT c=false)->3*((cs.w λc=>gE c.d).sum+(cs.w λc=>hZ (zj c)).sum)<=(cs.w WO).sum
 |[],_=>ζ
 |c::cs,h=>by
  have d:=B0 cs (λx b=>h x (by simp[b]));obtain⟨e,_,a,_⟩:=ny (h c ζ);have i:=AB c.d a;have f:=AB [c.g] (by simpa using e);have g:hZ (zj c)=hZ [c.g]+hZ c.d:=by simp[hZ,zj]
  simp only[xU,q7,WO,g] at d ⊢;simp at f;omega
def Hj{α β:Type}(f:α->List β):∀l:List α,(l.flatMap f).j=(l.w λx=>(f x).j).sum
 |[]=>rfl
 |a::l=>ζ
def Fq(cs:Ξ):(zp cs).j<=(cs.w λc=>hZ (zj c)).sum:=by
 obtain⟨g,j⟩:=dU cs;have k:(zp cs).Nodup:=List.Pairwise.imp (fun{a b} q e=>by subst e;rw[UE] at q;cases q) g;have d:=mR k (l2:=cs.flatMap λc=>(zj c).flatMap λl=>l.k.filter λa=>!zV a) (λx f=>by
  obtain⟨c,m,l,h,f,i⟩:=(j x).1 f;exact vg.2 ⟨c,m,vg.2 ⟨l,h,xw.2 ⟨f,by simp[i]⟩⟩⟩)
 rw[Hj] at d;have e:(λc:zd=>((zj c).flatMap λl=>l.k.filter λa=>!zV a).j)=λc=>hZ (zj c):=by
  funext c;rw[Hj];unfold hZ;congr 2;funext l;rw[wM]
 rw[e] at d;exact d
end
section
open Go.Proofs.Tryz Go.RowKit
variable {lo:Nat}{l:List Int}{us:List O}
def nB(n:Nat)(l:List Int):Bool:=(h_ n).all λk=>decide (l.count (k:Int)=1)
def Hc(n:Nat):∀(l:List Int) (a:List Bool),a.j=5->l.Nodup->(∀x∈l,0<=x/\x<(n:Int)/\x<5/\a.d x.D false=false)->ky n l a=true
 |[],_,_,_,_=>rfl
 |x::l,a,i,d,b=>by
  obtain⟨o,p,m,f⟩:=b x ζ;rw[ky,za η,za (by rw[f];decide)];refine Hc n l _ (by simp[i]) (j5.1 d).2 λy c=>?_;obtain⟨h,g,j,k⟩:=b y (by simp[c]);refine⟨h,g,j,?_⟩;rw[pj,za]
  .exact k
  .rintro⟨e,_⟩;have:x=y:=η;subst this;exact(j5.1 d).1 c
def NS(r:l.j<=5):nB l.j l=sp l:=by
 have o:((h_ l.j).map (Nat.cast:Nat->Int)).Nodup:=mV.2 (List.Pairwise.imp (fun{a b} h e=>h η) n_);rw[Bool.eq_iff_iff];constructor;intro h;have n:∀k,k<l.j->l.count (k:Int)=1:=λk d=>by simpa using gu.1 h k (qF.2 d)
 have i:∀x∈l,0<=x/\x<(l.j:Int):=λx c=>by
  by_cases f:x∈(h_ l.j).map (Nat.cast:Nat->Int);obtain⟨k,d,rfl⟩:=z9.1 f;have:=qF.1 d;omega;exfalso;have:=mR o (l2:=l.erase x) (λy g=>(lY (by rintro rfl;exact f g)).2 (by
   obtain⟨k,d,rfl⟩:=z9.1 g;exact u_.1 (by rw[n k (qF.1 d)];omega)))
  rw[xv,pG,n5 c] at this;have:=pn c;omega
 have j:l.Nodup:=r_.2 λx=>by
  by_cases c:x∈l;obtain⟨a,b⟩:=i x c;have:=n x.D η;rw[Int.toNat_of_nonneg a] at this;omega;rw[List.count_eq_zero.2 c];omega
 exact Hc _ l _ rfl j λx c=>by
  obtain⟨a,b⟩:=i x c;refine⟨a,b,η,?_⟩;have:x=0∨x=1∨x=2∨x=3∨x=4:=η;rcases this with rfl|rfl|rfl|rfl|rfl<;>rfl
 intro h;obtain⟨m,c⟩:=Ak h rfl;refine gu.2 λk d=>?_;have d:=qF.1 d;have p:(k:Int)∈l:=by
  by_cases f:(k:Int)∈l;exact f;exfalso;have:=mR m (l2:=((h_ l.j).map (Nat.cast:Nat->Int)).erase (k:Int)) (λy g=>(lY (by rintro rfl;exact f g)).2 (by
   obtain⟨a,b,_⟩:=c y g;exact z9.2 ⟨y.D,qF.2 η,η⟩))
  rw[n5 (z9.2 ⟨k,qF.2 d,rfl⟩),xv,pG] at this;omega
 have q:=r_.1 m (k:Int);have s:=u_.2 p;simp only[decide_eq_true_eq];omega
def Q1{j:Nat}(a:j<l.j)(k:Int):(l.G (j+1)).count k=(l.G j).count k+if l[j]=k then 1 else 0:=by
 rw[yF a,List.count_append,List.count_singleton];by_cases h:l[j]=k<;>simp[h]
def Jx(m:Nat):nB (m+1) l=(nB m l&&decide (l.count (m:Int)=1)):=by
 unfold nB;rw[AT,List.all_append];simp
def MY{n m:Nat}(a:m<n)(h:l.count (m:Int)≠1):nB n l=false:=by
 cases b:nB n l;rfl;have:=gu.1 b m (qF.2 a);exact zC (by simpa using this) h
def Ex(w:U)(r vb:O)(o:Option (List Int))(m:ur w r o)(j:ur w vb o)(G:(o.d []).j<=281474976710656):
  c_ e_ 18 #[r,vb] w λe B=>e=ε (.i true)/\μ w B:=by
 obtain⟨F,C,rfl⟩:=m.qm;obtain⟨E,q,rfl⟩:=j.qm;have A:=U2 λk (h:k<(o.d []).j)=>m.cell k h;have v:=U2 λk (h:k<(o.d []).j)=>j.cell k h;clear m j;generalize o.d []=l at *;go_enter func18,ntmps18;go_wp2;go_loopw [5] (λi wr=>∃k:Nat,k<=l.j/\i=ι k/\μ w wr) (λi _=>l.j-(d_ i).D);exact⟨0,zs _,rfl,zn _ _⟩;obtain⟨k,h,rfl,a⟩:=hrel;have s:=a.q;by_cases c:k<l.j
 .obtain⟨g,f,rfl,z,d⟩:=A.l k c;obtain⟨u,H,rfl,n,b⟩:=v.l k c;have D:=zi a z d;have t:=zi a n b;have y:g<wr.o.q:=η;have p:u<wr.o.q:=η;clear d b;generalize l[k]=x at *;go_wp2;go_quiet (fail)
  go_wp2;go_roundw;exact⟨k+1,η,ξ,zG a _⟩;simp[d_];omega
 go_wp2;go_ret;exact⟨rfl,a⟩
def RV{cs:Ξ}{os:List (Option (List Int))}{k:Nat}(b:k<cs.j)(a:k<os.j)(h:vN cs[k] os[k]=false):vK cs (Z os)=false:=by
 unfold vK;rw[ik];refine zg (List.all_eq_false.2 ⟨(cs[k],os[k]),vh.2 ⟨k,by simp;omega,ζ⟩,by simp[h]⟩)
def NV{cs:Ξ}{os:List (Option (List Int))}(b:os.j=cs.j)(h:∀k (a:k<cs.j) (c:k<os.j),vN cs[k] os[k]=true):vK cs (Z os)=true:=by
 unfold vK;simp only[uK,beq_iff_eq,gu];refine⟨b,λx d=>?_⟩;obtain⟨k,a,rfl⟩:=vh.1 d;simp only[List.length_zip] at a;simpa using h k η η
def Nc{c:zd}(b:(zu c).j<=5):vN c (Z l)=(l.j == (zu c).j&&nB (zu c).j l):=by
 unfold vN;by_cases a:l.j=(zu c).j;rw[←a,NS η];dsimp only;rw[beq_false_of_ne a];rfl
def lU(w:U)(v:O)(us:List O):Prop:=∃b a,v=.k b us.j a/\∀k (h:k<us.j),∃g f,b=Z ⟨g,f,Y⟩/\g<w.o.q/\w.p ⟨g,f+k,Y⟩=Z us[k]
def lU.u{w w':U}{v:O}(h:lU w v us)(b:μ w w'):lU w' v us:=by
 obtain⟨i,a,j,n⟩:=h;refine⟨i,a,j,λk d=>?_⟩;obtain⟨g,f,e,c,m⟩:=n k d;exact⟨g,f,e,yh c b.q,zi b c m⟩
def lU.own{w:U}{B T:Nat}{v:O}(h:w.r B T 1 v us.j us):lU w v us:=by
 obtain⟨e,a,rfl⟩:=zq h;refine⟨e,a,rfl,λk d=>?_⟩;obtain⟨g,c,b,_,i,f⟩:=yt h η;simp at b;exact⟨g,0,b.1,i,by rw[uM];exact f k _ (yn d)⟩
def Sx(w:U)(mb:Nat)(lv:O)(cs:Ξ)(t:Ψ)(us:Γ)(os:List (Option (List Int)))(hm:jp lo w mb cs t)(ho:lU w lv us)(ag:us.j=os.j)(P:∀k (s:k<us.j) (L:k<os.j),ur w us[k] os[k])(am:∀o∈os,(o.d []).j<=2000000)(Q:∀c∈cs,c.d.j<=999/\xn (zj c)<=1000/\(zu c).j<=5/\∀l∈zj c,∀t∈l.k,0<t.q)(aG:cs.j<=1000):
  c_ e_ 75 #[(π mb),lv,.i false] w λe w'=>e=ε (.i (vK cs (Z os)))/\μ w w':=by
 obtain⟨_,cv,pv,kv,ae,ak,_,_⟩:=hm;obtain⟨ao,aE,rfl⟩:=ak.qm;obtain⟨av,a1,rfl,aj⟩:=ho;have E:∀k (s:k<os.j),∃G fl u,av=Z (ω G fl)/\G<w.o.q/\w.p (ω G (fl+k))=Z u/\ur w u os[k]:=λk s=>by
  obtain⟨g,f,e,L,h3⟩:=aj k η;exact⟨g,f,_,e,L,h3,P k η s⟩
 clear aj P;rw[ag];clear ag;obtain⟨aI,aH,a9⟩:=ae.I;by_cases p:os.j=cs.j
 .rw[p];have aq:=U2 Q;have ay:=U2 am;have HC:=U2 E;have HL:=U2 p;clear Q am E p;go_enter func75,ntmps75;go_wp2;go_loopw [7] (λv7 wr=>∃k:Nat,k<=cs.j/\v7=ι k/\μ w wr/\X (∀j (s:j<cs.j) (L:j<os.j),j<k->vN cs[j] os[j]=true)) (λi _=>cs.j-(d_ i).D);exact⟨0,zs _,rfl,zn _ _,λj _ _ h=>η⟩;obtain⟨k,hk,rfl,b,HD⟩:=hrel;have a3:=b.q;have al:=ae.u b;obtain⟨aC,aA,aB⟩:=al.I;by_cases B:k<cs.j
  .have M:k<os.j:=by rw[HL.l];exact B
   obtain⟨g,aJ,a4,aF,a5,rfl,z⟩:=ak.at k B;obtain⟨aD,T,au,aa⟩:=aq.l _ (zr B);have an:=ay.l _ (zr M);obtain⟨G,fl,u,rfl,a0,hu,A⟩:=HC.l k M;have v:=zi b a0 hu;have d:G<wr.o.q:=η;have A:=A.u b;have z:=z.u b;have HF:=U2 fun(h:vN cs[k] os[k]=false)=>RV B M h;have HT:X (vN cs[k] os[k]=true->∀j (s:j<cs.j) (L:j<os.j),j<k+1->vN cs[j] os[j]=true):=λh j s L hj=>by
    by_cases e:j=k;subst e;exact h;exact HD.l j s L η
   clear HD hu;generalize cs[k]=c at *;generalize os[k]=o at *;have HV:=U2 (og wr true g (k*4) c _ _ _ _ z η T aa);rw[AV] at HV;have a2:=z.lt;clear T aa z;rcases o with _|l
   .have h0:u=ν:=A;subst h0;have F:∀W:U,(binOp .eql 24 (ν) (ν)).run e_ W=.ok (.i true) W:=λW=>by
     have:=run_equal_slice_nil W 24 3 Y 0 0 underlying24;simp[binOp,this]
    go_wp2_with (go_at_call 108;refine HV.l.y ?_;rintro e H ⟨vv,rfl,r,a⟩;obtain⟨ac,K,rfl⟩:=r.qm;have q:=U6 b a;have D:=zi a d v;have y:G<H.o.q:=(by have:=a.q;omega))
    go_roundw;exact⟨k+1,η,ξ,q,HT.l rfl⟩;simp[d_];omega
   obtain⟨ad,J,rfl,I⟩:=A;have F:∀W:U,(binOp .eql 24 (.k (Z ad) l.j J) (ν)).run e_ W=.ok (.i false) W:=λW=>by
    have:=run_equal_slice_nil W 24 3 (Z ad) l.j J underlying24;simp[binOp,this]
   have HE:=U2 (Nc (l:=l) au);have ax:l.j<=2000000:=an;generalize zu c=vs at *;by_cases he:l.j=vs.j
   .rw[he] at v F;have V:=U2 I;have ah:=U2 he;have ai:X (vN c (Z l)=nB vs.j l):=by
     show _=_;rw[HE.l,he,beq_self_eq_true];rfl
    clear he I HE ax an;go_wp2_with (go_at_call 108;refine HV.l.y ?_;rintro e H ⟨vv,rfl,r,a⟩;obtain⟨ac,K,rfl⟩:=r.qm;have q:=U6 b a;have D:=zi a d v;have y:G<H.o.q:=(by have:=a.q;omega))
    have ab:X (∀j (h:j<l.j),∃g f,ad=(ω g f)/\g<H.o.q/\H.p (ω g (f+j))=Z (ι l[j])):=λj h=>by
     obtain⟨g,f,e,q1,q2⟩:=V.l j h;exact⟨g,f,e,yh q1 a.q,zi a q1 q2⟩
    clear V v HV d r a;go_loopw [9] (λv9 wj=>∃m:Nat,m<=vs.j/\v9=ι m/\wj=H/\X (nB m l=true)) (λi _=>vs.j-(d_ i).D);exact⟨0,zs _,rfl,rfl,rfl⟩;obtain⟨m,hm,rfl,rfl,HM⟩:=hrel;by_cases aw:m<vs.j
    .go_wp2;go_loopw [10,11] (λap az wi=>∃(j n:Nat),j<=vs.j/\n<=j/\az=ι j/\ap=ι n/\wi=wr/\X (n=(l.G j).count (m:Int))) (λ_ i _=>vs.j-(d_ i).D);exact⟨0,0,zs _,zs _,rfl,rfl,rfl,by simp[X]⟩;obtain⟨j,n,hj,a8,rfl,rfl,rfl,HN⟩:=hrel;by_cases ar:j<vs.j
     .have C:j<l.j:=by rw[ah.l];exact ar
      obtain⟨g2,f2,rfl,a6,a7⟩:=ab.l j C;have R:=U2 (Q1 C (m:Int));generalize l[j]=x at *;by_cases N:x=(m:Int)
      .subst N;go_wp2;go_roundw;exact⟨j+1,n+1,η,η,ξ,ξ,trivial,by show _=_;rw[R.l,←HN.l];simp⟩;simp[d_];omega
      have hb:(x == (m:Int))=false:=beq_false_of_ne N;go_wp2;go_roundw;exact⟨j+1,n,η,η,ξ,rfl,trivial,by show _=_;rw[R.l,←HN.l,za N];rfl⟩;simp[d_];omega
     have S:X (n=l.count (m:Int)):=by
      show _=_;rw[HN.l,yO (by rw[ah.l];omega)]
     by_cases s:n=1
     .subst s;go_wp2;go_roundw;exact⟨m+1,η,ξ,trivial,by show _=_;rw[Jx,HM.l,←S.l];rfl⟩;simp[d_];omega
     have af:((n:Int) != 1)=true:=by rw[bne_iff_ne];omega
     go_wp2;go_ret;exact⟨by rw[HF.l (by rw[ai.l];exact MY aw (by rw[←S.l];exact s))];rfl,q⟩
    go_wp2;go_roundw;exact⟨k+1,η,ξ,q,HT.l (by rw[ai.l,show vs.j=m from by omega];exact HM.l)⟩;simp[d_];omega
   have af:((l.j:Int) != (vs.j:Int))=true:=by rw[bne_iff_ne];omega
   go_wp2_with (go_at_call 108;refine HV.l.y ?_;rintro e H ⟨vv,rfl,r,a⟩;obtain⟨ac,K,rfl⟩:=r.qm;have q:=U6 b a;have D:=zi a d v;have y:G<H.o.q:=(by have:=a.q;omega))
   go_ret;exact⟨by rw[HF.l (by rw[HE.l];simp[he])];rfl,q⟩
  go_wp2;go_ret;exact⟨by rw[NV HL.l λj s L=>HD.l j s L η];rfl,b⟩
 have af:((os.j:Int) != (cs.j:Int))=true:=by rw[bne_iff_ne];omega
 have hB:vK cs (Z os)=false:=by unfold vK;simp[p]
 rw[hB];go_enter func75,ntmps75;go_wp2;go_ret;exact⟨rfl,φ⟩
end
def Wc(V:Nat):Nat->Nat
 |0=>0
 |k+1=>V*Wc V k+1
def Ig{V:Nat}(b:1<=V):∀(k:Nat) (hs:Φ),hs.j<=k->V7 V hs<=hs.sum*V ^ k+Wc V k
 |_,[],_=>by simp[V7]
 |0,h::r,a=>by simp at a
 |k+1,h::r,a=>by
  have c:=Ig b k r (by simpa using a);have f:V*(h+V7 V r)<=V*(h+(r.sum*V ^ k+Wc V k)):=nF _ η;have d:V*(h+(r.sum*V ^ k+Wc V k))=V*h+r.sum*(V ^ k*V)+V*Wc V k:=by
   rw[y_,y_,w_ V,Nat.mul_comm V (V ^ k)];omega
  have e:V*h<=h*(V ^ k*V):=by
   rw[Nat.mul_comm V h];refine nF _ ?_;have:=f5 V (Nat.one_le_pow k V b);omega
  simp only[V7,Wc,q7,Nat.pow_succ,mn];omega
def H8{α:Type}(f g:α->Nat):∀a:List α,(a.w λp=>f p+g p).sum=(a.w f).sum+(a.w g).sum
 |[]=>rfl
 |p::a=>by simp[H8 f g a];omega
def EJ{α:Type}:∀a:List α,(a.w λ_=>0).sum=0
 |[]=>rfl
 |p::a=>by simp[EJ a]
def CS{α:Type}(q:α->Bool):∀a:List α,(a.w λp=>if q p=true then 1 else 0).sum=a.countP q
 |[]=>rfl
 |p::a=>by simp only[xU,q7,CS q a,o_];omega
def Ci(p:Nat):∀(ls:List zx) (k:Nat),((ls.zipIdx k).filterMap λx=>(xd x.1 p).w λa=>(x.2,a)).j=ls.countP λl=>zL l p
 |[],_=>rfl
 |l::ls,k=>by
  have:=Ci p ls (k+1);rw[List.zipIdx_cons,wI,o_];simp only[xd];cases b:zL l p<;>simp[xd] at this ⊢<;>omega
def Cz(ps:Φ):∀a:List zx,(ps.w λp=>a.countP λl=>zL l p).sum=(a.w λl=>ps.countP (zL l)).sum
 |[]=>by simp[EJ]
 |l::a=>by
  have c:=Cz ps a;have b:=H8 (λp=>a.countP λl=>zL l p) (λp=>if zL l p=true then 1 else 0) ps;simp only[o_,xU,q7] at b ⊢;rw[b,c,CS];omega
def Kx(l:zx)(n:Nat):(h_ n).countP (zL l)<=l.v.countP (·.var):=by
 rw[wM,wM];have h:((h_ n).filter (zL l)).Nodup:=List.Nodup.sublist List.filter_sublist n_;have:=Ag h (l2:=(l.v.filter (·.var)).w (·.D)) (λx d=>by
  obtain⟨t,a,b,c⟩:=(f6 l x).1 (xw.1 d).2;exact z9.2 ⟨t,xw.2 ⟨a,b⟩,c⟩)
 simpa using this
def FX{α:Type}{f g:α->Nat}:∀{ps:List α},(∀p∈ps,f p<=g p)->(ps.w f).sum<=(ps.w g).sum
 |[],_=>ze _
 |p::ps,h=>by
  have b:=FX (ps:=ps) (λx a=>h x (by simp[a]));have c:=h p ζ;simp only[xU,q7];omega
def TC(r:zv):(Vu r).sum<=(r.qc.w λl=>l.v.countP (·.var)).sum:=by
 have e:Vu r=(h_ r.m).w λp=>r.qc.countP λl=>zL l p:=by
  unfold Vu xx;congr 1;funext p;exact Ci p r.qc 0
 rw[e,Cz];exact FX λl _=>Kx l _
def Rb{r:zv}(h:fM r)(f:r.m≠0):1<=(Vu r).sum:=by
 obtain⟨n,c⟩:∃n,r.m=n+1:=⟨r.m-1,η⟩;obtain⟨l,a,b⟩:=h.safe 0 η;have e:(xx r 0).j=r.qc.countP λl=>zL l 0:=Ci 0 r.qc 0;have d:0<r.qc.countP λl=>zL l 0:=List.countP_pos_iff.2 ⟨l,a,b⟩;unfold Vu;rw[c,List.range_succ_eq_map,xU,q7];omega
def Sh{V:Nat}(b:1<=V){r:zv}(h:fM r)(d:r.qc.j<=6):j0 V r<=(Vu r).sum*(6*(V ^ 5+Wc V 5)):=by
 unfold j0;by_cases a:r.m=0;simp[Vu,a,V7];have c:=Rb h a;have i:=Ig b 5 (Vu r) (by simpa [Vu] using h.m);have e:1*Wc V 5<=(Vu r).sum*Wc V 5:=f5 _ c;have f:r.qc.j*V7 V (Vu r)<=6*V7 V (Vu r):=f5 _ d;have g:(Vu r).sum*(6*(V ^ 5+Wc V 5))=6*((Vu r).sum*V ^ 5+(Vu r).sum*Wc V 5):=by rw[w_,y_]
 omega
def J3(t:Ψ)(ns vs:List Λ)(b:Φ)(l:zk):(zT t ns vs b l).v.countP (·.var)=l.k.countP zV:=by
 unfold zT uq;simp only[nI,List.countP_map];congr 1;funext a;show(jP 0 _ (uR ns vs b a)).var=zV a;rw[(rq _ _ _).1];unfold uR;cases zV a<;>rfl
def JI{cs:Ξ}{j t:Ψ}(h:UH cs j t){c:zd}(g:c∈cs)(ns:List Λ)(o:Option (List Int))(n:jX (yL (o.d [])) (zu c).j){V:Nat}(i:1<=V):WS (vI t ns c o)/\j0 V (vI t ns c o)<=gE c.d*(6*(V ^ 5+Wc V 5)):=by
 have d:=(ED h g ns o n).fine;obtain⟨_,p,_,_⟩:=ny (h.many c g);have k:(vI t ns c o).qc.j<=6:=by
  have:(c.d.filter λl=>!l.i).j<=c.d.j:=sg _ _;simp only[vI,xv];omega
 have q:=TC (vI t ns c o);have r:((vI t ns c o).qc.w λl=>l.v.countP (·.var)).sum<=gE c.d:=by
  simp only[vI,nI];have e:((λl:zx=>l.v.countP (·.var)) ∘ zT t ns (zu c) (yL (o.d [])))=λl:zk=>l.k.countP zV:=by
   funext l;exact J3 t ns _ _ l
  rw[e];unfold gE;generalize c.d=b;induction b with
  |nil=>exact ze _
  |cons a b s=>
   rw[List.filter_cons];split<;>simp only[xU,q7]<;>omega
 refine⟨⟨d.m,λe=>?_⟩,zX (Sh i d k) (f5 _ η)⟩;by_cases m:(vI t ns c o).m=0;exact m;obtain⟨l,f,_⟩:=d.safe 0 η;rw[e] at f;cases f
def Fk{t:Ψ}{ns:List Λ}{os:Option (List (Option (List Int)))}{V G:Nat}:∀(xs:List (zd×Nat)),(∀x∈xs,WS (vI t ns x.1 (uo os x.2))/\j0 V (vI t ns x.1 (uo os x.2))<=gE x.1.d*G)->(∀r∈xs.filterMap (λx=>if x.1.d.j>0 then Z (vI t ns x.1 (uo os x.2)) else Y),WS r)/\((xs.filterMap λx=>if x.1.d.j>0 then Z (vI t ns x.1 (uo os x.2)) else Y).w (j0 V)).sum<=(xs.w λx=>gE x.1.d).sum*G
 |[],_=>ζ
 |x::xs,h=>by
  obtain⟨c,g⟩:=Fk (t:=t) (ns:=ns) (os:=os) (V:=V) (G:=G) xs (λy d=>h y (by simp[d]));obtain⟨e,f⟩:=h x ζ;rw[wI];simp only[xU,q7,mn];by_cases b:x.1.d.j>0
  .simp only[b,if_true,xU,q7,z7];refine⟨λr a=>?_,η⟩;rcases a with rfl|a
   .exact e
   .exact c r a
  .simp only[b,if_false];exact⟨c,η⟩
def Pe:∀v,v<167->1048576*((166-v)*(6*(zU v ^ 5+Wc (zU v) 5)))<9223372036854775808:=by decide +kernel
def PD{s:Λ}{cs:Ξ}{k t:Ψ}(p:uH s=.ok (cs,t))(h:UH cs k t)(os:Option (List (Option (List Int))))(o:∀i (w:i<cs.j),jX (yL ((uo os i).d [])) (zu cs[i]).j){a mr mx:Nat}(b:mx<=1048576){R:zw}(l:nY a (vq t (zp cs) os cs) mr mx=Z (Z R)):0<=R.jg:=by
 have r:=Hb p;have q:=B0 cs h.many;have u:=Fq cs;have j:1<=zU (zp cs).j:=by unfold zU;split<;>omega
 obtain⟨n,d⟩:=Fk (t:=t) (ns:=zp cs) (os:=os) (V:=zU (zp cs).j) (G:=6*(zU (zp cs).j ^ 5+Wc (zU (zp cs).j) 5)) cs.zipIdx (λx b=>by
  obtain⟨f,g⟩:=List.mem_zipIdx' b;exact JI h (by rw[g];exact zr f) _ _ (by rw[g];exact o _ f) j)
 have e:(cs.zipIdx.w λx=>gE x.1.d)=cs.w λc=>gE c.d:=by
  rw[show(λx:zd×Nat=>gE x.1.d)=(λc:zd=>gE c.d) ∘ Prod.fst from rfl,←nI,List.zipIdx_map_fst]
 rw[e] at d;have v:=Pe (zp cs).j η;have m:(cs.w λc=>gE c.d).sum*(6*(zU (zp cs).j ^ 5+Wc (zU (zp cs).j) 5))<=(166-(zp cs).j)*(6*(zU (zp cs).j ^ 5+Wc (zU (zp cs).j) 5)):=f5 _ η;refine Ny b n ?_ l;have:1048576*((vq t (zp cs) os cs).H.w (j0 (zU (vq t (zp cs) os cs).r))).sum<=1048576*((166-(zp cs).j)*(6*(zU (zp cs).j ^ 5+Wc (zU (zp cs).j) 5))):=nF _ (zX d m);omega
end Go.Proofs.YteampbddflhngaaGreat
