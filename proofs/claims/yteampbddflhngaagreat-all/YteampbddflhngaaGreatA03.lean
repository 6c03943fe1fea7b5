import Derived.Test.YteampbddflhngaaGreatRows
import Derived.ProofKit
import Derived.ChangeSlices
import Derived.Deep.Slices
import Derived.Deep.Strs
import Derived.SizedLaws
import Derived.Test.YteampbddflhngaaGreatA01
namespace Go.Proofs.YteampbddflhngaaGreat
open List renaming length→List.j,getD→List.d,take→List.G,map→List.w,toArray→List.F,foldl→List.H,getD→g_,replicate→i_,range→j_,lookup_eq_none_iff→m_,pairwise_flatMap→n_,lookup→o_,take_take→q_,take_set_of_le→r_,getD_cons_zero→s_,getD_cons_succ→t_,mem_range'_1→v_,length→x_,range'_succ→z_,sum_append→B_,of_mem_zip→E_
open _root_.Array renaming size→Array.q,getD→Array.d,toList→Array.v,map→Array.w,foldl→Array.H
open _root_.ByteArray renaming size→ByteArray.q,toList→ByteArray.v,size_append→h_,empty→k_
open Go.RowKit.Below renaming size→Go.RowKit.Below.q,setCell→Go.RowKit.Below.x,mono→Go.RowKit.Below.y,trans→Go.RowKit.Below.A
open Go.TypeInfo renaming size→Go.TypeInfo.q
open Go.RowKit.Hid renaming out→Go.RowKit.Hid.l
open Go.World renaming heap→Go.World.o,setCell→Go.World.x,cell?→Go.World.p,ownsRow→Go.World.r
open Go.Value renaming string→Go.Value.g,bool→Go.Value.i,cells→Go.Value.E
open Go.TypeDesc renaming string→Go.TypeDesc.g,bool→Go.TypeDesc.i
open Option renaming getD→Option.d,toList→Option.v,map→Option.w,isSome→Option.I,not_isNone→w_,bind_some→y_,some→Z,none→Y
open Go.Calls renaming mono→Go.Calls.y
open Eq renaming trans→Eq.A,symm→Eq.z
open Iff renaming trans→Iff.A,symm→Iff.z
open List.IsPrefix renaming trans→List.IsPrefix.A
open Go.Obj renaming cells→Go.Obj.E
open Int renaming toNat→Int.D,toNat_natCast→l_
open UInt8 renaming toNat→UInt8.D
open Ne renaming symm→Ne.z
open Nat renaming mul_add→p_,pos_of_ne_zero→u_,one_mul→A_,le_antisymm→D_
open Go.Act renaming eval→C_
open Go.Addr renaming add→F_
open Go.RowKit renaming Hid→X,intOf→d_
open Go renaming World→U,Value→O,Calls→c_
open Go.Proofs.Tryz renaming prog→e_
set_option linter.all false
set_option maxRecDepth 100000
set_option maxHeartbeats 4000000
section
open Go.Proofs.Tryz Go.RowKit
structure VD where
 kind:Int
 a:Int
 b:Int
 c:Int
 s:ByteArray
structure Wl (w:U) (v:O) (l:List VD):Prop where
 qm:∃ao cap,v=.slice ao l.j cap
 E:∀k (hk:k<l.j),∃b o cap,v=.slice (Z ⟨b,o,Y⟩) l.j cap/\b<w.o.q/\w.p ⟨b,o+k*5,Y⟩=Z (ι l[k].kind)/\w.p ⟨b,o+k*5+1,Y⟩=Z (ι l[k].a) ∧
  w.p ⟨b,o+k*5+2,Y⟩=Z (ι l[k].b)/\w.p ⟨b,o+k*5+3,Y⟩=Z (ι l[k].c)/\w.p ⟨b,o+k*5+4,Y⟩=Z (.g l[k].s)
 len:l.j<=281474976710656
 fits:∀x∈l,x.s.q<=281474976710656
def Wl.u{w w':U}{v:O}{l:List VD}(h:Wl w v l)(c:μ w w'):Wl w' v l:=
 ⟨h.qm,λk e=>by
  obtain⟨b,o,d,m,a,g,f,n,i,j⟩:=h.E k e;exact⟨b,o,d,m,yh a c.q,(zi c a g),(zi c a f),(zi c a n),(zi c a i),(zi c a j)⟩,h.len,h.fits⟩
def Wl.cell{w:U}{d:Option Addr}{n cap:Nat}{l:List VD}(h:Wl w (.slice d n cap) l)(k:Nat)(e:k<l.j):∃b o,d=Z (ω b o)/\b<w.o.q/\w.p (ω b (o+k*5))=Z (ι l[k].kind)/\w.p (ω b (o+k*5+1))=Z (ι l[k].a) ∧
  w.p (ω b (o+k*5+2))=Z (ι l[k].b)/\w.p (ω b (o+k*5+3))=Z (ι l[k].c)/\w.p (ω b (o+k*5+4))=Z (.g l[k].s):=by
 obtain⟨b,o,c,a,r⟩:=h.E k e;simp at a;exact⟨b,o,a.1,r⟩
def Vf(l:List VD):Nat:=(l.map λx=>x.s.q).sum
def LD(l:List VD)(k:Nat)(a:k<l.j):Vf (l.G (k+1))=Vf (l.G k)+l[k].s.q:=by
 unfold Vf;rw[yF a,uY,B_];simp
def nA(l:List VD):Bool:=decide (l.j+Vf l<=1048576)
def K1(l:List VD)(k:Nat):Vf (l.G k)<=Vf l:=by
 have:Vf l=Vf (l.G k)+Vf (l.drop k):=by unfold Vf;rw[←B_,←uY,jF]
 omega
def JN(w:U)(v:O)(l:List VD)(h:Wl w v l):
  c_ e_ 28 #[v] w λe t=>e=ε (.i (nA l))/\t=w:=by
 obtain⟨z,m,rfl⟩:=h.qm;have g:=U2 h.fits;by_cases f:1048576<l.j
 .have c:X (nA l=false):=by unfold X nA;rw[decide_eq_false_iff_not];omega
  go_enter func28,ntmps28;go_wp2;go_ret;exact⟨by rw[c.l];rfl,rfl⟩
 go_enter func28,ntmps28;go_wp2;go_loop [3,4] (λr j=>∃k n:Nat,k<=l.j/\j=ι k/\r=ι n/\n<=1048576/\X (n=l.j+Vf (l.G k))) (λ_ i=>l.j-(d_ i).D);exact⟨0,l.j,zs _,rfl,rfl,η,by simp[X,Vf]⟩;obtain⟨k,n,y,rfl,rfl,B,H⟩:=hrel;by_cases a:k<l.j
 .obtain⟨b,o,rfl,u,_,_,_,_,A⟩:=h.cell k a;have q:=g.l _ (zr a);have d:X (n+l[k].s.q=l.j+Vf (l.G (k+1))):=by rw[X,LD l k a,H.l];omega
  generalize l[k]=x at *;generalize x.s=s at *;by_cases p:1048576<n+s.q
  .have c:X (nA l=false):=by unfold X nA;rw[decide_eq_false_iff_not];have:=d.l;have:=K1 l (k+1);omega
   go_wp2;go_ret;exact⟨by rw[c.l];rfl,rfl⟩
  go_wp2;go_round;exact⟨k+1,n+s.q,η,ξ,ξ,η,d⟩;simp[d_];omega
 have c:X (nA l=true):=by unfold X nA;rw[decide_eq_true_iff];have:=H.l;rw[yO η] at this;omega
 go_wp2;go_ret;exact⟨by rw[c.l];rfl,rfl⟩
def Ru(w:U)(k:Int):
  c_ e_ 29 #[ι k] w λe b=>e=ε (.i (k == 9||k == 17))/\b=w:=by
 go_enter func29,ntmps29;cases c:(k == 9)
 .cases a:(k == 17)
  .go_wp2;go_ret;exact⟨rfl,rfl⟩
  go_wp2;go_ret;exact⟨rfl,rfl⟩
 go_wp2;go_ret;exact⟨rfl,rfl⟩
end
section
open Go.Proofs.Tryz Go.RowKit
variable {w:U}{v:O}
def Ud:(e_.info? 67).w (λi=>(i.zero,i.q,i.bytes))=Z (Z (.agg #[ι 0,ι 0,ι 0,ι 0,.g k_]),5,48):=χ
def fu(l:List VD):List Value:=l.flatMap λx=>[ι x.kind,ι x.a,ι x.b,ι x.c,.g x.s]
def R6(l:List VD)(x:VD):fu (l++[x])=fu l++[ι x.kind,ι x.a,ι x.b,ι x.c,.g x.s]:=by simp[fu]
def Hn:∀(l:List VD) (k:Nat) (b:k<l.j),(fu l)[k*5]?=Z (ι l[k].kind)/\(fu l)[k*5+1]?=Z (ι l[k].a)/\(fu l)[k*5+2]?=Z (ι l[k].b)/\(fu l)[k*5+3]?=Z (ι l[k].c)/\(fu l)[k*5+4]?=Z (.g l[k].s)
 |[],k,b=>by simp at b
 |a::l,0,_=>by simp[fu]
 |a::l,k+1,b=>by
  have:=Hn l k (by simpa using b);simp only[fu,uZ] at this ⊢;rw[show(k+1)*5=k*5+1+1+1+1+1 from by omega,show k*5+1+1+1+1+1+1=k*5+1+1+1+1+1+1 from rfl,show k*5+1+1+1+1+1+2=k*5+2+1+1+1+1+1 from by omega,show k*5+1+1+1+1+1+3=k*5+3+1+1+1+1+1 from by omega,show k*5+1+1+1+1+1+4=k*5+4+1+1+1+1+1 from by omega];simpa using this
def Wl.own{a:Nat}{l:List VD}(h:w.r a 67 5 v l.j (fu l))(m:l.j<=281474976710656)(j:∀x∈l,x.s.q<=281474976710656):Wl w v l:=by
 refine⟨zq h,λk d=>?_,m,j⟩;obtain⟨g,c,n,_,q,b⟩:=yt h η;obtain⟨f,e,p,i,o⟩:=Hn l k d;refine⟨g,0,c,n,q,?_,?_,?_,?_,?_⟩;rw[uM];exact b _ _ f;rw[uM];exact b _ _ e;rw[uM];exact b _ _ p;rw[uM];exact b _ _ i;rw[uM];exact b _ _ o
def PR{l:List VD}{x:VD}(h:x∈l):x.s.q<=Vf l:=by
 induction l with
 |nil=>cases h
 |cons a l b=>
  simp only[Vf,xU,q7] at b ⊢;rcases z7.1 h with rfl|h;omega;have:=b h;omega
def WM(w:U)(v:O)(b:List Int):Prop:=∃a,w.r a 3 1 v b.j (b.w (O.int .i64))
def WM.u{w':U}{l:List Int}(h:WM w v l)(a:μ w w'):WM w' v l:=by obtain⟨b,h⟩:=h;exact⟨b,zy h a⟩
def WM.qm{l:List Int}(h:WM w v l):∃c a,v=.slice c l.j a:=by obtain⟨b,h⟩:=h;exact zq h
def WM.cell{w:U}{d:Option Addr}{n cap:Nat}{b:List Int}(h:WM w (.slice d n cap) b)(k:Nat)(i:k<b.j):∃g,d=Z (δ g)/\g<w.o.q/\w.p (ω g k)=Z (ι b[k]):=by
 obtain⟨c,j⟩:=h;obtain⟨g,f,e,_,l,a⟩:=yt j η;simp at e;exact⟨g,e.1,l,a k _ (by simp[i])⟩
end
section
open Go.Proofs.Tryz Go.ChangeShapes Go.WideShapes Go.ChangeAt Go.RowKit Go.Deep
def TJ:ownKnob e_.godebug=none:=χ
def Uk:laidOutB e_=true:=χ
def U1:e_.cellsOf 67=5:=χ
def TN:e_.cellsOf 3=1:=χ
def TV:e_.cellsOf 9=1:=χ
def Ur:e_.bytesOf 67=48:=χ
def VX:reachBytes=140737488351232:=rfl
def WZ(x:VD):Prop:=(-9223372036854775808<=x.a/\x.a<=9223372036854775807)/\(-9223372036854775808<=x.b/\x.b<=9223372036854775807)/\(-9223372036854775808<=x.c/\x.c<=9223372036854775807)
def Vr{H:Type}{P:Program}{e:TypeId}:∀{l:List (DataW H)} {d:DataW H},d∈l->∀n∈d.weights P e,n∈DataW.weightsAll P e l
 |[],_,h=>by cases h
 |a::l,d,h=>by
  intro n b;simp only[DataW.weightsAll,zW];rcases z7.1 h with rfl|h
  .exact zh b
  .exact zg (Vr h n b)
def WD{w:U}{b o:Nat}{u:O}(h:w.p (ω b o)=Z u):b<w.o.q:=by
 unfold U.cell? at h;false_or_by_contra
 rename_i a;rw[Array.getElem?_eq_none (by simpa using a)] at h;simp at h
def M1{H:Type}{enc:TypeId×O->H}{W:U}{e:Nat}{d:Γ}{x:DataW H×List MemPlace}(h:DataW.trod enc e_ W 0 (λ_=>true) true e 67 d=Z x):
  ∃y:VD,d=[ι y.kind,ι y.a,ι y.b,ι y.c,.g y.s]/\y.s.q∈x.1.weights e_ 67/\WZ y:=by
 obtain⟨C,n,_,rfl,v,g,f⟩:=DataW.trod_struct underlying67 h;rw[U1] at v;match C,g,d,v with
 |[I,E,J,G,K],_,[D,N,L,F,M],_=>
  have u:=f 0 _ rfl;have r:=f 1 _ rfl;have z:=f 2 _ rfl;have B:=f 3 _ rfl;have w:=f 4 _ rfl;simp[TN,TV] at u r z B w;obtain⟨k,q,_,_⟩:=DataW.trod_int underlying3 u;obtain⟨a,A,_,j⟩:=DataW.trod_int underlying3 r;obtain⟨b,p,_,i⟩:=DataW.trod_int underlying3 z;obtain⟨c,t,_,l⟩:=DataW.trod_int underlying3 B;obtain⟨s,o,m,_⟩:=DataW.trod_string underlying9 w;simp at q A p t o;refine⟨⟨k,a,b,c,s⟩,by simp[q,A,p,t,o],?_,bounds_i64 j,bounds_i64 i,bounds_i64 l⟩;simp[DataW.weights,DataW.weightsEach,underlying67,m]
def KQ{H:Type}{enc:TypeId×O->H}{W:U}{t:Nat}{R:O}{x:DataW H×List MemPlace}(V:DataW.trod enc e_ W 0 (λ_=>true) true t 22 [R]=Z x)
  (A:(DataW.weightsEach e_ [22] [x.1]).all (·<=reachBytes)=true):∃l,Wl W R l/\∀x∈l,WZ x:=by
 rcases open_slice underlying22 V with⟨d,_⟩|⟨a,g,ac,m,n,D,Pl,d,_,hl,hm,z,p,Q⟩
 simp at d;subst d;exact⟨[],⟨⟨Y,0,rfl⟩,λk F=>by simp at F,ζ,λx p=>by cases p⟩,λx p=>by cases p⟩;simp at d;subst d;simp only[if_true] at z;subst z;subst p;have S:=sized_slice A (j:=0) rfl rfl underlying22;rw[Ur,VX] at S;simp at S;have v:∀i,∃y:VD,i<g->(∃e,W.cells? 0 (a.add (i*5)) 5=Z e/\e=[ι y.kind,ι y.a,ι y.b,ι y.c,.g y.s])/\y.s.q<=140737488351232/\WZ y:=by
  intro i;by_cases s:i<g;obtain⟨e,B,T⟩:=Q i η;rw[U1] at B;obtain⟨y,hy,I,K⟩:=M1 T;refine⟨y,λ_=>⟨⟨e,B,hy⟩,?_,K⟩⟩;rw[←VX];refine of_decide_eq_true (gu.1 A _ (DataW.weights_mem_each (j:=0) rfl rfl _ ?_));simp only[DataW.weights,underlying22,z7,zW];exact zg (zh (Vr (z9.2 ⟨i,qF.2 s,rfl⟩) _ I));exact⟨⟨0,0,0,0,k_⟩,λh=>zC h s⟩
 obtain⟨ab,C⟩:=Classical.axiomOfChoice v;obtain⟨b,f,q⟩:=a;refine⟨(j_ g).w ab,⟨⟨Z ⟨b,f,q⟩,m,ζ⟩,?_,by simp;omega,?_⟩,?_⟩;intro k F;have M:k<g:=by simpa using F
 obtain⟨⟨e,B,d⟩,_⟩:=C k M;obtain⟨_,_,c⟩:=U.cells?_some B;have E:=c 0 η;have G:=c 1 η;have P:=c 2 η;have L:=c 3 η;have J:=c 4 η;subst d;have r:q=none:=by
  obtain⟨⟨aa,N,u⟩,_⟩:=C 0 η;obtain⟨_,_,o⟩:=U.cells?_some N;subst u;have:=o 0 η;simpa [F_] using U.cell?_spot this
 subst r;have w:∀j,(F_ (ω b f) (k*5)).add j=(ω b (f+k*5+j)):=by
  intro j;unfold F_;split<;>split<;>simp_all
 simp only[w] at E G P L J;simp at E G P L J;simp only[xM,fT];exact⟨b,f,m,ζ,WD E,E,G,P,L,J⟩;intro x p;obtain⟨i,s,rfl⟩:=z9.1 p;have:=(C i (qF.1 s)).2.1;omega;intro x p;obtain⟨i,s,rfl⟩:=z9.1 p;exact(C i (qF.1 s)).2.2
end
section
open Go.Proofs.Tryz Go.RowKit
variable {lo:Nat}
def oZ(w:U)(o vb:O)(l:List Λ)(r:U7 lo w o l){f:Nat}(j:U7 f w vb l)(E:l.j<=281474976710656):
  c_ e_ 44 #[o,vb] w λe v=>e=ε (.i true)/\μ w v:=by
 obtain⟨C,y,rfl⟩:=r.qm;obtain⟨A,n,rfl⟩:=j.qm;go_enter func44,ntmps44;go_wp2;go_loopw [5] (λi wr=>∃k:Nat,k<=l.j/\i=ι k/\μ w wr) (λi _=>l.j-(d_ i).D);exact⟨0,zs _,rfl,zn _ _⟩;obtain⟨k,B,rfl,a⟩:=hrel;have p:=a.q;by_cases c:k<l.j
 .obtain⟨g,rfl,u,d⟩:=r.cell k c;obtain⟨s,rfl,h,b⟩:=j.cell k c;have z:=zi a u d;have q:=zi a h b;have t:g<wr.o.q:=η;have m:s<wr.o.q:=η;have D:=qH (rfl:l[k]=l[k]);clear d b;generalize l[k]=x at *;go_wp2;go_quiet (fail)
  go_wp2;go_roundw;exact⟨k+1,η,ξ,zG a _⟩;simp[d_];omega
 go_wp2;go_ret;exact⟨rfl,a⟩
def sA:∀{l:List Λ},(∀t∈l,0<t.q)->l≠[]->0<(yD l).q
 |[],_,h=>zC rfl h
 |[t],h,_=>h t ζ
 |t::u::r,h,_=>by
  have:=h t ζ;show 0<(t++ul++yD (u::r)).q;rw[h_,h_];omega
def rE{s:Λ}(h:0<s.q):(s.v == [])=false:=by
 rw[ku,beq_eq_false_iff_ne];intro a;have:s.data.v.j=s.q:=nZ;rw[a] at this;simp at this;omega
def Fp(w:U)(l:zk)(va:O)(hs:U7 lo w va l.k)(hf:mW l):
  c_ e_ 46 #[.agg #[.i l.i,.g l.o,va]] w λe w'=>e=ε (.g (xb l))/\μ w w':=by
 obtain⟨W,B,rfl⟩:=hs.qm;obtain⟨V,h2,h3,h4⟩:=hf;have z:=U2 h4;have aa:kc.q=1:=rfl;clear h4;cases C:l.i
 .have f:gV l=l.o:=by unfold gV;rw[C];rfl
  have G:(l.o).q<=7:=by rw[←f];exact oz V
  have c:X (xb l=if l.k.j=0 then l.o else l.o++jz++yD l.k++lq):=by rw[X,←f];rfl
  clear f C;go_enter func46,ntmps46;go_wp2;go_loopw [4,5] (λL E wr=>∃(k:Nat) (s:Λ),k<=l.k.j/\E=ι k/\L=.g s/\s.q<=8*k/\X (s=yD (l.k.G k))/\μ w wr/\U3 wr w.o.q #[.i false,.g l.o,.slice W l.k.j B] 90) (λ_ i _=>l.k.j-(d_ i).D);exact⟨0,_,zs _,rfl,rfl,ze _,rfl,γ,U3.new _ _ _⟩;obtain⟨k,s,hk,rfl,rfl,Q,H,d,n⟩:=hrel;have A:=d.q;obtain⟨hc,S,T⟩:=n.I;by_cases j:k<l.k.j
  .obtain⟨g,rfl,I,p⟩:=hs.cell k j;have N:=zi d I p;have R:g<wr.o.q:=η;have q:=wg j;have M:=(z.l _ (zr j)).2;clear p;generalize l.k[k]=x at *;by_cases b:k=0
   .have a:s=k_:=by rw[H.l,b];rfl
    have v:X (s++x=yD (l.k.G (k+1))):=by rw[X,q,zb b,a];simp
    have m:(s.v == [])=true:=by rw[a,ku];rfl
    subst b;clear q H a;go_wp2;go_roundw;exact⟨1,s++x,η,ξ,rfl,(by rw[h_];omega),v,γ,n⟩;simp[d_];omega
   have v:X (s++ul++x=yD (l.k.G (k+1))):=by rw[X,q,za b,H.l]
   have o:0<s.q:=by
    rw[H.l];refine sA (λt r=>(z.l t (gZ r)).1) ?_;intro h;have:=congrArg x_ h;rw[vi,jD] at this;omega
   have m:=rE o;have y:ul.q=2:=rfl;have P:(s++ul).q=s.q+2:=by rw[h_,y]
   clear q H;go_wp2;go_roundw;exact⟨k+1,s++ul++x,η,ξ,rfl,(by rw[h_];omega),v,γ,n⟩;simp[d_];omega
  have a:s=yD l.k:=by rw[H.l,yO η]
  by_cases b:l.k.j=0
  .have m:(s.v == [])=true:=by
    have e:=lK b;rw[a,e,yD,ku];rfl
   have u:X (xb l=l.o):=by rw[X,c.l,zb b]
   clear c H a;go_wp2;go_ret;exact⟨by rw[u.l];rfl,d⟩
  have o:0<s.q:=by
   rw[a];exact sA (λt r=>(z.l t r).1) (λe=>b (by rw[e];rfl))
  have m:=rE o;have u:X (xb l=l.o++jz++s++lq):=by rw[X,c.l,za b,a]
  have F:jz.q=1:=rfl;have D:lq.q=1:=rfl;have K:(l.o++jz).q<=8:=by rw[h_];omega
  have J:(l.o++jz++s).q<=8+8*k:=by rw[h_];omega
  clear c H a;go_wp2;go_ret;exact⟨by rw[u.l];rfl,d⟩
 have f:gV l=kc++l.o:=by unfold gV;rw[C];rfl
 have G:(kc++l.o).q<=7:=by rw[←f];exact oz V
 have c:X (xb l=if l.k.j=0 then kc++l.o else kc++l.o++jz++yD l.k++lq):=by rw[X,←f];rfl
 clear f C;go_enter func46,ntmps46;go_wp2;go_loopw [4,5] (λL E wr=>∃(k:Nat) (s:Λ),k<=l.k.j/\E=ι k/\L=.g s/\s.q<=8*k/\X (s=yD (l.k.G k))/\μ w wr/\U3 wr w.o.q #[.i true,.g l.o,.slice W l.k.j B] 90) (λ_ i _=>l.k.j-(d_ i).D);exact⟨0,_,zs _,rfl,rfl,ze _,rfl,γ,U3.new _ _ _⟩;obtain⟨k,s,hk,rfl,rfl,Q,H,d,n⟩:=hrel;have A:=d.q;obtain⟨hc,S,T⟩:=n.I;by_cases j:k<l.k.j
 .obtain⟨g,rfl,I,p⟩:=hs.cell k j;have N:=zi d I p;have R:g<wr.o.q:=η;have q:=wg j;have M:=(z.l _ (zr j)).2;clear p;generalize l.k[k]=x at *;by_cases b:k=0
  .have a:s=k_:=by rw[H.l,b];rfl
   have v:X (s++x=yD (l.k.G (k+1))):=by rw[X,q,zb b,a];simp
   have m:(s.v == [])=true:=by rw[a,ku];rfl
   subst b;clear q H a;go_wp2;go_roundw;exact⟨1,s++x,η,ξ,rfl,(by rw[h_];omega),v,γ,n⟩;simp[d_];omega
  have v:X (s++ul++x=yD (l.k.G (k+1))):=by rw[X,q,za b,H.l]
  have o:0<s.q:=by
   rw[H.l];refine sA (λt r=>(z.l t (gZ r)).1) ?_;intro h;have:=congrArg x_ h;rw[vi,jD] at this;omega
  have m:=rE o;have y:ul.q=2:=rfl;have P:(s++ul).q=s.q+2:=by rw[h_,y]
  clear q H;go_wp2;go_roundw;exact⟨k+1,s++ul++x,η,ξ,rfl,(by rw[h_];omega),v,γ,n⟩;simp[d_];omega
 have a:s=yD l.k:=by rw[H.l,yO η]
 by_cases b:l.k.j=0
 .have m:(s.v == [])=true:=by
   have e:=lK b;rw[a,e,yD,ku];rfl
  have u:X (xb l=kc++l.o):=by rw[X,c.l,zb b]
  clear c H a;go_wp2;go_ret;exact⟨by rw[u.l];rfl,d⟩
 have o:0<s.q:=by
  rw[a];exact sA (λt r=>(z.l t r).1) (λe=>b (by rw[e];rfl))
 have m:=rE o;have u:X (xb l=kc++l.o++jz++s++lq):=by rw[X,c.l,za b,a]
 have F:jz.q=1:=rfl;have D:lq.q=1:=rfl;have K:(kc++l.o++jz).q<=8:=by rw[h_];omega
 have J:(kc++l.o++jz++s).q<=8+8*k:=by rw[h_];omega
 clear c H a;go_wp2;go_ret;exact⟨by rw[u.l];rfl,d⟩
end
section
open Go.RowKit
def CW(B:Nat)(w:U)(wb d f:Nat):Prop:=B<=wb/\∃b a c e,U3 w wb #[b,ν,ν,ν,ι 0,ι 0,ι 0,ν,.i true,a,ν,ν,ν,ν] 35 ∧
 w.r B 40 2 b d c/\w.r B 9 1 a f e
end
section
open Go.Proofs.Tryz Go.RowKit
def EU{x:Λ}(h:(x.v == [44])=true):Ve (UC x 0)=false:=by
 rw[beq_iff_eq,ku] at h;obtain⟨⟨l⟩⟩:=x;simp at h;subst h;rfl
def Oo(w:U)(v:O)(L:List Λ)(z:Bool)(R:SV w v L)(N:∀y∈L,0<y.q)(aC:L.j<=500)(hb:Vo L z=false)(az:¬L.j=0)(hs:xg (UC (gB L 0) 0)=true)(a7:¬L.j=1)(a4:¬L.j<4)(a8:¬L.j%2=1)(B:((gB L 1).v == [40])=true)(A:((gB L (L.j-1)).v == [41])=true):
  c_ e_ 152 #[v,.i z] w λe I=>jV (x9 false L) w e I:=by
 obtain⟨i0,hi,Q,ah,an⟩:=info_parts Uw;have c:=nX hb;obtain⟨aD,au,rfl⟩:=R.qm;have al:0<(gB L 0).q:=by rw[←xK (by omega:0<L.j)];exact N _ (zr _)
 obtain⟨b,o,rfl,V,n⟩:=R.E η;have J:=n 0 η;have af:=n 1 η;have ag:=n (L.j-1) η;rw[xK η] at J af ag;rw[vB] at J;have ae:=U2 n;clear n;have aA:((L.j:Int) == 0)=false:=by rw[beq_eq_false_iff_ne];omega
 have a3:((L.j:Int) == 1)=false:=by rw[beq_eq_false_iff_ne];omega
 have a2:((L.j:Int)%2 == 1)=false:=by rw[beq_eq_false_iff_ne];omega
 rcases c with c|⟨_,c⟩|⟨⟨_,c⟩,rfl⟩;omega
 all_goals
  go_enter func152,ntmps152;go_wp2_with (go_at_call 184;refine(gT _ _ al).y ?_;rintro e I ⟨rfl,rfl⟩)
  go_loopw [9] (λi wr=>∃(k:Nat) (av:O),2<=k/\k<=L.j-1/\i=ι k/\X (qP L k=true)/\μ w wr/\U3 wr w.o.q #[.i false,.g k_,ν] 90/\U3 wr (w.o.q+1) #[.i false,.g (gB L 0),av] 90/\wr.r w.o.q 9 1 av (vw L k).j ((vw L k).map O.string)) (λi _=>L.j-(d_ i).D);exact⟨2,_,ze _,η,rfl,by simp[X,qP],γ,(U3.new w _ _).u zQ,U3.newAt _ _ _ _ ζ,xj _ _ _ _⟩;obtain⟨k,av,t,hk,rfl,H,q,m,f,a⟩:=hrel;obtain⟨D,l,rfl⟩:=zq a;obtain⟨a1,a6⟩:=f.H;obtain⟨C,a0⟩:=m.H;have aq:=q.q;have ax:=f.lt;have ar:=BG L k;by_cases a5:k<L.j-1
  .have ad:=(q.cell (p:=(ω b (o+k))) V).A (ae.l k η);have a9:b<wr.o.q:=η;have ay:k<L.j:=η;have g:0<L[k].q:=N _ (zr _);rw[xK (by omega:k<L.j)] at ad g;have G:vw L (k+1)=vw L k++(if 2<=k/\k%2=0 then [gB L k] else []):=rfl;have x:qP L (k+1)=(qP L k&&(decide (k<2)||W7 L k)):=rfl;rw[H.l,decide_eq_false (by omega:¬k<2),pk,pT] at x;have u:X (W7 L k=false->qP L (L.j-1)=false):=λh=>Ih (i:=k+1) (by rw[x,h]) _ η;unfold W7 at x u;by_cases s:k%2=0
   .rw[zb s] at x u;rw[zb ⟨t,s⟩] at G;have aa:((k:Int)%2 == 0)=true:=by rw[beq_iff_eq];omega
    have am:((k:Int)%2 == 1)=false:=by rw[beq_eq_false_iff_ne];omega
    have S:=U2 G;have E:=U2 x;clear G x s;cases F:Ve (UC (gB L k) 0)
    .have T:X (x9 false L=Y):=by unfold X x9;rw[za η,hs,za ζ,za η,za (by rw[B,A];simp;omega),u.l F];simp
     clear u S E;generalize gB L k=W at *;go_wp2_with (go_at_call 185;refine(nJ _ _ g).y ?_;rintro e I ⟨rfl,d⟩;obtain rfl:=d.z)
     rw[T.l];exact zP (v:=.tuple #[.agg #[.i false,.g (gB L 0),.slice D (vw L k).j l],.i false]) (by simp[results,results152,go_sem,C];try rfl) rfl ⟨γ,_,_,_,_,_,rfl⟩
    rw[F] at E;clear u;generalize gB L k=W at *;generalize ab:vw L k=ak at *;clear ab;go_wp2_with (go_at_call 185;refine(nJ _ _ g).y ?_;rintro e I ⟨rfl,d⟩;obtain rfl:=d.z)
    go_region_law (first|(refine oE wr _ [.g W] 9 rfl (.tmp 103) (.tmp 108) 30 rfl w.o.q 9 i0 _ 1 16 underlying30 hi Q ah an rfl θ _ _ _ (by simp[C_]) a γ wr.o.q 1 (by simp[C_]) (by exact U3.drew (U3.newAt _ _ _ _ rfl)) rfl a_ η η q.q ?_;intro v' w2 K ai t ap;obtain⟨ac,M,rfl⟩:=zq K;have j:=U3.keep (U3.drew (f.u zQ)) (mu a f θ) t;have P:=U3.keep (U3.drew (m.u zQ)) (mu a m θ) t;obtain⟨ao,aw⟩:=j.H))
    all_goals
     go_wp2;go_roundw;exact⟨k+1,_,η,η,ξ,E,(q.A ai).x ζ _,P.set_ne η _ _,j.set 2 _,by rw[S.l];have:=xJ K ((UF.refl (w.o.q+1) w2).x 2 (.slice ac (ak.j+1) M)) j θ;simpa using this⟩;simp[d_];omega
   rw[za s] at x u;rw[za η,vD] at G;have aa:((k:Int)%2 == 0)=false:=by rw[beq_eq_false_iff_ne];omega
   have am:((k:Int)%2 == 1)=true:=by rw[beq_iff_eq];omega
   have S:=U2 G;have E:=U2 x;clear G x s;cases F:((gB L k).v == [44])
   .have T:X (x9 false L=Y):=by unfold X x9;rw[za η,hs,za ζ,za η,za (by rw[B,A];simp;omega),u.l F];simp
    clear u S E;generalize gB L k=W at *;go_wp2_with (go_at_call 185;refine(nJ _ _ g).y ?_;rintro e I ⟨rfl,d⟩;obtain rfl:=d.z)
    rw[T.l];exact zP (v:=.tuple #[.agg #[.i false,.g (gB L 0),.slice D (vw L k).j l],.i false]) (by simp[results,results152,go_sem,C];try rfl) rfl ⟨γ,_,_,_,_,_,rfl⟩
   rw[F] at E;have aB:=EU F;clear u;generalize gB L k=W at *;go_wp2_with (go_at_call 185;refine(nJ _ _ g).y ?_;rintro e I ⟨rfl,d⟩;obtain rfl:=d.z)
   go_roundw;exact⟨k+1,_,η,η,ξ,E,q,m,f,by rw[S.l];exact a⟩;simp[d_];omega
  have aj:k=L.j-1:=η;have T:X (x9 false L=Z ⟨false,gB L 0,vw L k⟩):=by unfold X x9;rw[za η,hs,za ζ,za η,za (by rw[B,A];simp;omega),←aj,H.l];simp
  clear H;generalize vw L k=ak at *;go_wp2;rw[T.l];exact zP (v:=.tuple #[.agg #[.i false,.g (gB L 0),.slice D ak.j l],.i true]) (by simp[results,results152,go_sem,C]) rfl ⟨γ,_,rfl,xJ (r:=w.o.q) a ψ m θ⟩
def JO(w:U)(v:O)(x:Λ)(L:List Λ)(hv:SV w v (x::L))(N:∀y∈L,0<y.q)(hx:(x.v == [33])=true)(aG:L.j<=500)(a2:¬L.j=0)(hs:xg (UC (gB L 0) 0)=true)(aA:¬L.j=1)(a7:¬L.j<4)(aB:¬L.j%2=1)(B:((gB L 1).v == [40])=true)(A:((gB L (L.j-1)).v == [41])=true):
  c_ e_ 152 #[v,.i false] w λe I=>jV (x9 true L) w e I:=by
 obtain⟨i0,hi,Q,ai,ap⟩:=info_parts Uw;obtain⟨aF,aw,rfl⟩:=hv.qm;obtain⟨b1,o1,rfl,ab,z⟩:=hv.E ζ;have ao:=z 0 ζ;rw[vB,dB] at ao;clear z;have am:0<(gB L 0).q:=by rw[←xK (by omega:0<L.j)];exact N _ (zr _)
 have aD:((L.j:Int) == 0)=false:=by rw[beq_eq_false_iff_ne];omega
 have a6:((L.j:Int) == 1)=false:=by rw[beq_eq_false_iff_ne];omega
 have a5:((L.j:Int)%2 == 1)=false:=by rw[beq_eq_false_iff_ne];omega
 go_enter func152,ntmps152;go_wp2_with (first|(refine jE _ w rfl (.tmp 26) 30 9 (Z (.const (ι 1))) Y rfl underlying30 i0 hi TW _ (x::L) rfl hv 1 (L.j+1) (zg rfl) (zh ⟨rfl,rfl⟩) η ζ L.j η ?_;intro aH ay R;simp only[mP,fA,ve] at R;obtain⟨b,o,rfl,V,m⟩:=R.E η;have J:=m 0 η;have ag:=m 1 η;have ah:=m (L.j-1) η;rw[xK η] at J ag ah;rw[vB] at J;have af:=U2 m;clear m)|(go_at_call 184;refine(gT _ _ am).y ?_;rintro e I ⟨rfl,rfl⟩))
 go_loopw [9] (λi wr=>∃(k:Nat) (av:O),2<=k/\k<=L.j-1/\i=ι k/\X (qP L k=true)/\μ w wr/\U3 wr w.o.q #[.i false,.g k_,ν] 90/\U3 wr (w.o.q+1) #[.i true,.g (gB L 0),av] 90/\wr.r w.o.q 9 1 av (vw L k).j ((vw L k).map O.string)) (λi _=>L.j-(d_ i).D);exact⟨2,_,ze _,η,rfl,by simp[X,qP],γ,(U3.new w _ _).u zQ,U3.newAt _ _ _ _ ζ,xj _ _ _ _⟩;obtain⟨k,av,s,hk,rfl,H,n,l,d,a⟩:=hrel;obtain⟨D,j,rfl⟩:=zq a;obtain⟨a4,a9⟩:=d.H;obtain⟨C,a3⟩:=l.H;have au:=n.q;have a0:=d.lt;have ax:=BG L k;by_cases a8:k<L.j-1
 .have ae:=(n.cell (p:=(ω b (o+k))) V).A (af.l k η);have aC:b<wr.o.q:=η;have a1:k<L.j:=η;have f:0<L[k].q:=N _ (zr _);rw[xK (by omega:k<L.j)] at ae f;have G:vw L (k+1)=vw L k++(if 2<=k/\k%2=0 then [gB L k] else []):=rfl;have u:qP L (k+1)=(qP L k&&(decide (k<2)||W7 L k)):=rfl;rw[H.l,decide_eq_false (by omega:¬k<2),pk,pT] at u;have t:X (W7 L k=false->qP L (L.j-1)=false):=λh=>Ih (i:=k+1) (by rw[u,h]) _ η;unfold W7 at u t;by_cases q:k%2=0
  .rw[zb q] at u t;rw[zb ⟨s,q⟩] at G;have aa:((k:Int)%2 == 0)=true:=by rw[beq_iff_eq];omega
   have an:((k:Int)%2 == 1)=false:=by rw[beq_eq_false_iff_ne];omega
   have S:=U2 G;have E:=U2 u;clear G u q;cases F:Ve (UC (gB L k) 0)
   .have T:X (x9 true L=Y):=by unfold X x9;rw[za η,hs,za ζ,za η,za (by rw[B,A];simp;omega),t.l F];simp
    clear t S E;generalize gB L k=W at *;go_wp2_with (go_at_call 185;refine(nJ _ _ f).y ?_;rintro e I ⟨rfl,c⟩;obtain rfl:=c.z)
    rw[T.l];exact zP (v:=.tuple #[.agg #[.i true,.g (gB L 0),.slice D (vw L k).j j],.i false]) (by simp[results,results152,go_sem,C];try rfl) rfl ⟨γ,_,_,_,_,_,rfl⟩
   rw[F] at E;clear t;generalize gB L k=W at *;generalize ac:vw L k=ak at *;clear ac;go_wp2_with (go_at_call 185;refine(nJ _ _ f).y ?_;rintro e I ⟨rfl,c⟩;obtain rfl:=c.z)
   go_region_law (first|(refine oE wr _ [.g W] 9 rfl (.tmp 103) (.tmp 108) 30 rfl w.o.q 9 i0 _ 1 16 underlying30 hi Q ai ap rfl θ _ _ _ (by simp[C_]) a γ wr.o.q 1 (by simp[C_]) (by exact U3.drew (U3.newAt _ _ _ _ rfl)) rfl a_ η η n.q ?_;intro v' w2 K aj s ar;obtain⟨ad,M,rfl⟩:=zq K;have g:=U3.keep (U3.drew (d.u zQ)) (mu a d θ) s;have P:=U3.keep (U3.drew (l.u zQ)) (mu a l θ) s;obtain⟨aq,az⟩:=g.H))
   all_goals
    go_wp2;go_roundw;exact⟨k+1,_,η,η,ξ,E,(n.A aj).x ζ _,P.set_ne η _ _,g.set 2 _,by rw[S.l];have:=xJ K ((UF.refl (w.o.q+1) w2).x 2 (.slice ad (ak.j+1) M)) g θ;simpa using this⟩;simp[d_];omega
  rw[za q] at u t;rw[za η,vD] at G;have aa:((k:Int)%2 == 0)=false:=by rw[beq_eq_false_iff_ne];omega
  have an:((k:Int)%2 == 1)=true:=by rw[beq_iff_eq];omega
  have S:=U2 G;have E:=U2 u;clear G u q;cases F:((gB L k).v == [44])
  .have T:X (x9 true L=Y):=by unfold X x9;rw[za η,hs,za ζ,za η,za (by rw[B,A];simp;omega),t.l F];simp
   clear t S E;generalize gB L k=W at *;go_wp2_with (go_at_call 185;refine(nJ _ _ f).y ?_;rintro e I ⟨rfl,c⟩;obtain rfl:=c.z)
   rw[T.l];exact zP (v:=.tuple #[.agg #[.i true,.g (gB L 0),.slice D (vw L k).j j],.i false]) (by simp[results,results152,go_sem,C];try rfl) rfl ⟨γ,_,_,_,_,_,rfl⟩
  rw[F] at E;have aE:=EU F;clear t;generalize gB L k=W at *;go_wp2_with (go_at_call 185;refine(nJ _ _ f).y ?_;rintro e I ⟨rfl,c⟩;obtain rfl:=c.z)
  go_roundw;exact⟨k+1,_,η,η,ξ,E,n,l,d,by rw[S.l];exact a⟩;simp[d_];omega
 have al:k=L.j-1:=η;have T:X (x9 true L=Z ⟨true,gB L 0,vw L k⟩):=by unfold X x9;rw[za η,hs,za ζ,za η,za (by rw[B,A];simp;omega),←al,H.l];simp
 clear H;generalize vw L k=ak at *;go_wp2;rw[T.l];exact zP (v:=.tuple #[.agg #[.i true,.g (gB L 0),.slice D ak.j j],.i true]) (by simp[results,results152,go_sem,C]) rfl ⟨γ,_,rfl,xJ (r:=w.o.q) a ψ l θ⟩
end
section
variable {T:zm}
def jW(T:zm)(a:Nat):qO:=T.B.d a qO.zero
def lh(T:zm):Prop:=∀a,a<T.B.j->gF T.r (jW T a)
def mL(T:zm)(a v:Nat):zK T a v=if a<T.B.j/\v<T.r/\(jW T a).K.d v 0=v then Z ((jW T a).down.d v 0) else none:=by
 unfold zK yJ jW;by_cases b:a<T.B.j/\v<T.r;rw[zb b];dsimp only;generalize (T.B.d a qO.zero).K.d v 0=x;by_cases c:x=v;subst c;rw[za (by omega:¬x≥T.r)];simp[b];by_cases d:x≥T.r;simp[d,c];simp[d,c];rw[za b,za (λq=>b ⟨q.1,q.2.1⟩)]
def lu{a v b:Nat}(h:zK T a v=Z b):a<T.B.j/\v<T.r:=by
 unfold zK yJ at h;by_cases c:a<T.B.j/\v<T.r;exact c;rw[za c] at h;cases h
def CM(h:lh T){a f v:Nat}(b:yJ T a f=Z v):f<=v/\v<T.r/\(zK T a v).I=true/\∀u,f<=u->u<v->zK T a u=none:=by
 unfold yJ at b;split at b;rename_i d;simp only at b;split at b;cases b;rename_i i;simp only[zt] at b;have c:=(h a d.1).some d.2 (by unfold jW;omega);unfold jW at c;rw[b] at c i;refine⟨c.1,η,?_,λu e g=>?_⟩;rw[mL,zb ⟨d.1,η,c.2.1.2⟩];rfl;rw[mL,za (λq=>c.2.2 u e g ⟨q.2.1,q.2.2⟩)];cases b
def HY(h:lh T){a f:Nat}(b:yJ T a f=Y):∀u,f<=u->zK T a u=none:=by
 intro u c;rw[mL];refine za λq=>?_;unfold yJ at b;rw[zb ⟨q.1,η⟩] at b;simp only at b;split at b;rename_i d;exact(h a q.1).none (show f<T.r by omega) (by unfold jW;omega) u c ⟨q.2.1,q.2.2⟩;cases b
def Vj(T:zm):Nat->zl->Option Nat
 |a,[]=>Z a
 |a,v::r=>match zK T a v with
  |none=>Y
  |some b=>Vj T b r
def pF(T:zm):∀(p q:zl) (a:Nat),Vj T a (p++q)=(Vj T a p).bind λb=>Vj T b q
 |[],q,a=>rfl
 |v::p,q,a=>by
  simp only[dM,Vj];cases zK T a v with
  |none=>rfl
  |some b=>exact pF T p q b
structure kE (T:zm) (pth:Nat->zl):Prop where
 dep:1<=T.ql/\T.ql<=3
 wid:1<=T.r
 pos:0<T.B.j
 node:lh T
 root:pth 0=[]
 lev:∀a,a<T.B.j->(pth a).j<T.ql
 inj:∀a b,a<T.B.j->b<T.B.j->pth a=pth b->a=b
 kid:∀a v b,zK T a v=Z b->(pth a).j+1<T.ql->b<T.B.j/\pth b=pth a++[v]
 par:∀b,b<T.B.j->b≠0->∃a v,zK T a v=Z b/\(pth a).j+1<T.ql/\pth b=pth a++[v]
def Ky(l:List qO)(i j:Nat)(v d:qO):(l.set i v).d j d=if i=j/\i<l.j then v else l.d j d:=by
 simp only[kZ,sS];by_cases h:i=j;subst h;by_cases a:i<l.j;simp[a];simp[a];simp[h]
def Hw(T:zm)(a v d b:Nat)(c:a<T.B.j)(e:v<T.r):jW (yu T a v d) b=if b=a then lP (jW T a) v d else jW T b:=by
 unfold yu jW;rw[zb ⟨c,e⟩];simp only;rw[Ky];by_cases h:b=a;subst h;rw[zb ⟨rfl,c⟩,zb rfl];rw[za (λq=>h q.1.z),za h]
def lN(T:zm)(a v d:Nat):(yu T a v d).B.j=T.B.j:=by unfold yu;split<;>simp
def pD(T:zm)(a v d:Nat):(yu T a v d).r=T.r:=by unfold yu;split<;>rfl
def rI(T:zm)(a v d:Nat):(yu T a v d).ql=T.ql:=by unfold yu;split<;>rfl
def ET(T:zm)(a v d:Nat):(yu T a v d).count=T.count:=by unfold yu;split<;>rfl
def CC(h:lh T){a v d:Nat}(g:a<T.B.j)(f:v<T.r)(m:zK T a v=Y):lh (yu T a v d)/\∀b u,zK (yu T a v d) b u=if b=a/\u=v then Z d else zK T b u:=by
 have j:¬mO T.r (jW T a) v:=λq=>by rw[mL,zb ⟨g,f,q.2⟩] at m;cases m
 obtain⟨n,k,o⟩:=(h a g).put (d:=d) f j;have l:lh (yu T a v d):=by
  intro b e;rw[lN] at e;rw[pD,Hw T a v d b g f];split;exact n;exact h b e
 refine⟨l,λb u=>?_⟩;rw[mL,lN,pD,Hw T a v d b g f,mL];by_cases e:b=a;subst e;rw[zb rfl,o];by_cases i:u=v;subst i;rw[zb rfl,zb ⟨g,f,((k u).2 (zh rfl)).2⟩,zb ⟨rfl,rfl⟩];rw[za i,za (λq:b=b/\u=v=>i q.2)];by_cases c:b<T.B.j/\u<T.r/\(jW T b).K.d u 0=u;rw[zb c,zb ⟨c.1,c.2.1,((k u).2 (zg c.2)).2⟩];rw[za c];refine za λq=>c ⟨q.1,?_⟩;rcases(k u).1 q.2 with r|r
 exact zC r i;exact r;rw[za e,za (λq:b=a/\u=v=>e q.1)]
def Sz(h:lh T):lh (yI T)/\∀b u,zK (yI T) b u=zK T b u:=by
 have c:∀b,jW (yI T) b=if b<T.B.j then jW T b else if b=T.B.j then⟨i_ T.r T.r,i_ T.r 0⟩ else qO.zero:=by
  intro b;unfold jW yI;simp only[kZ,List.getElem?_append];by_cases a:b<T.B.j;simp[a];rw[za a,za a];by_cases e:b=T.B.j;subst e;simp;rw[za e];rw[d8 υ];rfl
 have f:(yI T).B.j=T.B.j+1:=by simp[yI]
 have g:lh (yI T):=by
  intro b i;rw[c];by_cases a:b<T.B.j;rw[zb a];exact h b a;rw[za a,zb η];exact(gF.new T.r).1
 refine⟨g,λb u=>?_⟩;rw[mL,mL,c,f,show(yI T).r=T.r from rfl];by_cases a:b<T.B.j;rw[zb a];by_cases d:u<T.r/\(jW T b).K.d u 0=u;rw[zb ⟨η,d⟩,zb ⟨a,d⟩];rw[za (λq=>d q.2),za (λq=>d q.2)];rw[za a,za (λq:b<T.B.j/\_=>a q.1)];by_cases e:b=T.B.j;rw[zb e];exact za λq=>(gF.new T.r).2 u q.2;exact za λq=>η
end
section
variable {pth:Nat->zl}
def uD(T:zm)(q:zl):Option Nat:=Vj T 0 q
structure WH (T T':zm) (key:zl) (m:Nat) (new:Bool) (room:Nat):Prop where
 inv:∃pth',kE T' pth'
 r:T'.r=T.r
 ql:T'.ql=T.ql
 is:new=(uD T key).isNone
 same:new=false->T'=T
 more:new=true->T'.count=T.count+1/\T'.B.j<=T.B.j+room
 sem:∀q,q.j=T.ql->uD T' q=if q=key then Z ((uD T q).d m) else uD T q
def kE.grow{T:zm}(h:kE T pth){a v:Nat}(K:a<T.B.j)(J:v<T.r)(I:(pth a).j+1<T.ql)(t:zK T a v=Y):
  kE (yu (yI T) a v T.B.j) (λc=>if c=T.B.j then pth a++[v] else pth c)/\(∀b u,zK (yu (yI T) a v T.B.j) b u=if b=a/\u=v then Z T.B.j else zK T b u)/\(yu (yI T) a v T.B.j).B.j=T.B.j+1/\(yu (yI T) a v T.B.j).r=T.r/\(yu (yI T) a v T.B.j).ql=T.ql/\(yu (yI T) a v T.B.j).count=T.count:=by
 have A:=Sz h.node;have q:(yI T).B.j=T.B.j+1:=by simp[yI]
 obtain⟨G,D⟩:=CC A.1 (a:=a) (v:=v) (d:=T.B.j) (by rw[q];omega) (show v<(yI T).r from J) (by rw[A.2];exact t);have s:∀b u,zK (yu (yI T) a v T.B.j) b u=if b=a/\u=v then Z T.B.j else zK T b u:=λb u=>by rw[D,A.2]
 have j:(yu (yI T) a v T.B.j).B.j=T.B.j+1:=by rw[lN,q]
 have o:(yu (yI T) a v T.B.j).r=T.r:=by rw[pD];rfl
 have i:(yu (yI T) a v T.B.j).ql=T.ql:=by rw[rI];rfl
 have z:(yu (yI T) a v T.B.j).count=T.count:=by rw[ET];rfl
 have g:∀c,c<T.B.j->pth c≠pth a++[v]:=by
  intro c p e;have w:c≠0:=by rintro rfl;rw[h.root] at e;exact zC e.z ζ
  obtain⟨H,L,l,C,r⟩:=h.par c p w;rw[e] at r;have k:=rB r rfl;have m:=h.inj a H K (lu l).1 k.1;subst m;simp only[m8,and_true] at k;rw[←k.2] at l;rw[l] at t;cases t
 refine⟨⟨by rw[i];exact h.dep,by rw[o];exact h.wid,by rw[j];omega,G,?_,λc p=>?_,λc d p x e=>?_,λc u b f n=>?_,λb E B=>?_⟩,s,j,o,i,z⟩;rw[za η];exact h.root;rw[j] at p;rw[i];by_cases e:c=T.B.j;rw[zb e];simp;omega;rw[za e];exact h.lev c η;rw[j] at p x;by_cases k:c=T.B.j;by_cases m:d=T.B.j;rw[k,m];rw[zb k,za m] at e;exact zC e.z (g d η);by_cases m:d=T.B.j;rw[za k,zb m] at e;exact zC e (g c η);rw[za k,za m] at e;exact h.inj c d η η e;rw[s] at f;rw[i] at n;by_cases e:c=a/\u=v;rw[zb e] at f;simp only[zt] at f;obtain⟨rfl,rfl⟩:=e;subst f;rw[zb rfl,za η];exact⟨η,rfl⟩;rw[za e] at f;have y:=(lu f).1;rw[za η] at n;obtain⟨M,F⟩:=h.kid c u b f n;rw[za η,za η];exact⟨η,F⟩;rw[j] at E;by_cases e:b=T.B.j;refine⟨a,v,by rw[s,zb ⟨rfl,rfl⟩,e],by rw[za η,i];exact I,by rw[zb e,za η]⟩;obtain⟨c,u,l,C,r⟩:=h.par b η B;have y:=(lu l).1;refine⟨c,u,?_,by rw[za η,i];exact C,by rw[za e,za η];exact r⟩;rw[s,za];exact l;rintro⟨rfl,rfl⟩;rw[t] at l;cases l
def kE.grow_sem{T j:zm}{pth:Nat->zl}(h:kE T pth){a v:Nat}(n:(pth a).j+1<T.ql)(k:zK T a v=Y)(d:∀b u,zK j b u=if b=a/\u=v then Z T.B.j else zK T b u):∀(q:zl) (c:Nat),c<T.B.j->(pth c).j+q.j=T.ql->Vj j c q=Vj T c q
 |[],c,_,_=>rfl
 |u::q,c,p,i=>by
  simp only[Vj,d];simp only[xp] at i;by_cases e:c=a/\u=v
  .obtain⟨rfl,rfl⟩:=e;rw[zb ⟨rfl,rfl⟩,k];simp only;cases q with
   |nil=>simp at i;omega
   |cons x q=>
    simp only[Vj,d];by_cases g:c=T.B.j
    .omega
    .rw[za (λq=>g q.1.z)];cases f:zK T T.B.j x with
     |none=>rfl
     |some y=>have:=(lu f).1;omega
  .rw[za e];cases f:zK T c u with
   |none=>rfl
   |some b=>
    simp only;by_cases l:(pth c).j+1<T.ql
    .obtain⟨o,m⟩:=h.kid c u b f l;exact h.grow_sem n k d q b o (by rw[m];simp;omega)
    .cases q with
     |nil=>rfl
     |cons x q=>simp at i;omega
def kE.put_sem{T E:zm}{pth:Nat->zl}(h:kE T pth){a v m:Nat}(I:(pth a).j+1=T.ql)(B:a<T.B.j)(J:zK T a v=Y)(D:∀b u,zK E b u=if b=a/\u=v then Z m else zK T b u):∀(q:zl) (c:Nat),c<T.B.j->(pth c).j+q.j=T.ql->Vj E c q=if pth c++q=pth a++[v] then Z m else Vj T c q
 |[],c,l,p=>by have:=h.lev c l;simp at p;omega
 |u::q,c,l,p=>by
  simp only[Vj,D];simp only[xp] at p;by_cases G:(pth c).j+1<T.ql
  .have w:c≠a:=by rintro rfl;omega
   rw[za (λq=>w q.1)];cases F:zK T c u with
   |none=>
    simp only;rw[za];intro e;have t:∀(k:Nat) (q:zl) (b:Nat),q.j=k->b<T.B.j->pth c++u::q=pth b->False:=by
     intro k;induction k with
     |zero=>
      intro q b o r e;have:q=[]:=p5.1 o;subst this;have g:b≠0:=by rintro rfl;rw[h.root] at e;simp at e
      obtain⟨x,y,n,H,j⟩:=h.par b r g;rw[←e] at j;have f:=rB j rfl;have:=h.inj c x l (lu n).1 f.1;subst this;simp only[m8,and_true] at f;rw[←f.2,F] at n;cases n
     |succ k K=>
      intro q b o r e;have g:b≠0:=by rintro rfl;rw[h.root] at e;simp at e
      obtain⟨x,y,n,H,j⟩:=h.par b r g;have d:q≠[]:=by rintro rfl;simp at o
      have i:q=q.dropLast++[q.getLast d]:=(Cg d).z;rw[←e,i] at j;have z:(pth c++u::q.dropLast)++[q.getLast d]=pth x++[y]:=by rw[←j];simp
      have f:=rB z rfl;exact K q.dropLast x (by simp[o]) (lu n).1 f.1
    have d:q≠[]:=by rintro rfl;simp at p;omega
    have i:q=q.dropLast++[q.getLast d]:=(Cg d).z;rw[i] at e;have z:(pth c++u::q.dropLast)++[q.getLast d]=pth a++[v]:=by rw[←e];simp
    have f:=rB z rfl;exact t _ q.dropLast a rfl B f.1
   |some b=>
    simp only;obtain⟨M,C⟩:=h.kid c u b F G;rw[h.put_sem I B J D q b M (by rw[C];simp;omega),C];simp
  .have s:q=[]:=p5.1 (by have:=h.lev c l;omega);subst s;by_cases e:c=a/\u=v
   .obtain⟨rfl,rfl⟩:=e;simp[Vj]
   .rw[za e];have A:¬pth c++[u]=pth a++[v]:=by
     intro L;have f:=rB L rfl;exact e ⟨h.inj c a l B f.1,by simpa using f.2⟩
    rw[za A];cases zK T c u<;>rfl
def kE.reach{T:zm}(h:kE T pth):∀(k:Nat) (b:Nat),b<T.B.j->(pth b).j=k->Vj T 0 (pth b)=Z b:=by
 intro k;induction k with
 |zero=>
  intro b c a;have e:pth b=pth 0:=by rw[h.root];exact p5.1 a
  have:=h.inj b 0 c h.pos e;subst this;rw[h.root];rfl
 |succ k j=>
  intro b c a;have d:b≠0:=by rintro rfl;rw[h.root] at a;simp at a
  obtain⟨x,y,f,l,g⟩:=h.par b c d;have i:=j x (lu f).1 (by rw[g] at a;simpa using a);rw[g,pF,i];simp[Vj,f]
def BD(m:Nat):∀(r:zl) (T:zm) (pth:Nat->zl) (a:Nat),kE T pth->a<T.B.j->T.ql<=(pth a).j+r.j->(∀v∈r,v<T.r)->WH T (vH m T a (pth a).j r).1 (pth a++r.G (T.ql-(pth a).j)) m (vH m T a (pth a).j r).2 (T.ql-1-(pth a).j)
 |[],T,pth,a,h,z,I,_=>by have:=h.lev a z;simp at I;omega
 |v::r,T,pth,a,h,z,I,F=>by
  have R:=h.lev a z;have hv:v<T.r:=F v ζ;have j:=h.reach _ a z rfl;simp only[xp] at I;unfold vH;by_cases W:(pth a).j+1≥T.ql
  .rw[zb W];have M:T.ql-(pth a).j=1:=η;rw[M];have i:uD T (pth a++(v::r).G 1)=zK T a v:=by
    unfold uD;rw[pF,j];simp only[pE,List.take_zero,y_,Vj];cases zK T a v<;>rfl
   unfold dQ;cases g:zK T a v with
   |some b=>
    refine⟨⟨pth,h⟩,rfl,rfl,by rw[i,g];rfl,λ_=>rfl,λq=>by simp at q,λq s=>?_⟩;by_cases e:q=pth a++(v::r).G 1
    .subst e;rw[zb rfl,i,g];rfl
    .rw[za e]
   |none=>
    have o:=CC h.node (d:=m) z hv g;have J:∀q c,Vj {yu T a v m with count:=(yu T a v m).count+1} c q=Vj (yu T a v m) c q:=by
     intro q;induction q with
     |nil=>intro c;rfl
     |cons x q f=>
      intro c;simp only[Vj];have:zK {yu T a v m with count:=(yu T a v m).count+1} c x=zK (yu T a v m) c x:=rfl;rw[this];cases zK (yu T a v m) c x with
      |none=>rfl
      |some b=>exact f b
    refine⟨⟨pth,?_⟩,pD _ _ _ _,rI _ _ _ _,by rw[i,g];rfl,λq=>by simp at q,λ_=>⟨by simp[ET],by simp[lN]⟩,λq s=>?_⟩
    .have k:∀b u,zK {yu T a v m with count:=(yu T a v m).count+1} b u=if b=a/\u=v then Z m else zK T b u:=o.2
     refine⟨by show 1<=(yu T a v m).ql/\(yu T a v m).ql<=3;rw[rI];exact h.dep,by show 1<=(yu T a v m).r;rw[pD];exact h.wid,by show 0<(yu T a v m).B.j;rw[lN];exact h.pos,o.1,h.root,λc G=>by show _<(yu T a v m).ql;rw[rI];exact h.lev c (by simpa [lN] using G),λc d G H e=>h.inj c d (by simpa [lN] using G) (by simpa [lN] using H) e,λc u b t Q=>?_,λb hb N=>?_⟩
     .rw[k] at t;have C:(pth c).j+1<T.ql:=by simpa [rI] using Q
      by_cases e:c=a/\u=v
      .obtain⟨rfl,rfl⟩:=e;omega
      .rw[za e] at t;obtain⟨P,A⟩:=h.kid c u b t C;exact⟨by simpa [lN] using P,A⟩
     .obtain⟨c,u,L,q2,q3⟩:=h.par b (by simpa [lN] using hb) N;refine⟨c,u,?_,by simpa [rI] using q2,q3⟩;rw[k,za]
      .exact L
      .rintro⟨rfl,rfl⟩;rw[g] at L;cases L
    .unfold uD;rw[J,h.put_sem η z g o.2 q 0 h.pos (by rw[h.root];simpa using s),h.root];have B:(v::r).G 1=[v]:=ζ;rw[B,mo];by_cases e:q=pth a++[v]
     .rw[zb e,zb e];have:Vj T 0 q=none:=by rw[e];have:=i;unfold uD at this;rw[B] at this;rw[this,g]
      rw[this];rfl
     .rw[za e,za e]
  .rw[za W];obtain⟨K,k⟩:∃K,T.ql-(pth a).j=K+1:=⟨T.ql-(pth a).j-1,η⟩;have D:∀p:zl,p=pth a++[v]->p++r.G (T.ql-p.j)=pth a++(v::r).G (T.ql-(pth a).j):=by
    rintro p rfl;rw[k,pE];have:T.ql-(pth a++[v]).j=K:=by simp;omega
    rw[this];simp
   unfold qN;cases g:zK T a v with
   |some b=>
    obtain⟨P,A⟩:=h.kid a v b g η;have f:=BD m r T pth b h P (by rw[A];simp;omega) (λx g=>F x (by simp[g]));rw[D _ A] at f;have e:(pth b).j=(pth a).j+1:=by rw[A];simp
    rw[e] at f;exact⟨f.inv,f.r,f.ql,f.is,f.same,λq=>⟨(f.more q).1,by have:=(f.more q).2;simp only at this ⊢;omega⟩,f.sem⟩
   |none=>
    obtain⟨g1,g2,S,V,E,g6⟩:=h.grow z hv η g;have f:=BD m r (yu (yI T) a v T.B.j) _ T.B.j g1 (by rw[S];omega) (by rw[zb rfl,E];simp;omega) (λx g=>by rw[V];exact F x (by simp[g]));rw[zb rfl,E,D _ rfl] at f;have e:(pth a++[v]).j=(pth a).j+1:=ζ;rw[e] at f;have n:∀q:zl,q.j=T.ql->uD (yu (yI T) a v T.B.j) q=uD T q:=λq s=>h.grow_sem η g g2 q 0 h.pos (by rw[h.root];simpa using s);have w:(pth a++(v::r).G (T.ql-(pth a).j)).j=T.ql:=by simp;omega
    have l:uD T (pth a++(v::r).G (T.ql-(pth a).j))=none:=by
     unfold uD;rw[pF,j,k,pE];simp[Vj,g]
    have y:=f.is;rw[n _ w,l] at y;refine⟨f.inv,by rw[f.r,V],by rw[f.ql,E],by rw[l];exact y,λq=>?_,λq=>⟨by rw[(f.more q).1,g6],by have:=(f.more q).2;rw[S] at this;simp only at this ⊢;omega⟩,λq s=>?_⟩
    .rw[y] at q;cases q
    .rw[f.sem q (by rw[E];exact s),n q s]
end
section
variable {T:zm}{pth:Nat->zl}
def MU(h:kE T pth)(row:zl)(m:Nat)(b:row.j=3)(a:mm T row=true):WH T (yE T row m).1 (row.G T.ql) m (yE T row m).2 (T.ql-1):=by
 have:=BD m row T pth 0 h h.pos (by rw[h.root];simp[b];exact h.dep.2) (λv c=>by simp only[mm,gu,decide_eq_true_eq] at a;exact a v c);rw[h.root] at this;unfold yE;rw[zb a];simpa using this
def Ib(w d:Nat):(xk w d).r=zU w:=rfl
def rG(w d:Nat):(xk w d).ql=xz d:=rfl
def mv(d:Nat):1<=xz d/\xz d<=3:=by unfold xz;by_cases a:d<1<;>by_cases b:d>3<;>simp[a,b]<;>omega
def G5(w d a v:Nat):zK (xk w d) a v=none:=by
 rw[mL];refine za λq=>?_;have b:a=0:=by have:=q.1;simp[xk,yI] at this;exact this
 subst b;exact(gF.new (zU w)).2 v q.2
def IW(w d:Nat):kE (xk w d) (λ_=>[]):=by
 refine⟨mv d,by show 1<=zU w;unfold zU;split<;>omega,by simp[xk,yI],?_,rfl,λa _=>by show 0<xz d;exact(mv d).1,λa b c e _=>?_,(λa v b f=>by rw[G5] at f;exact zC f ζ),λb e h=>?_⟩;intro a c;have g:a=0:=by simp[xk,yI] at c;exact c
 subst g;exact(gF.new (zU w)).1;simp[xk,yI] at c e;omega;simp[xk,yI] at e;omega
def i6(w d:Nat)(q:zl)(a:q≠[]):uD (xk w d) q=none:=by
 rcases q with _|⟨v,q⟩;exact zC rfl a;simp[uD,Vj,G5]
def DU(T:zm):∀(r:zl) (a level:Nat),level<T.ql->T.ql<=level+r.j->vf T a level r=Vj T a (r.G (T.ql-level))
 |[],a,level,f,c=>by simp at c;omega
 |v::r,a,level,f,c=>by
  obtain⟨k,d⟩:∃k,T.ql-level=k+1:=⟨T.ql-level-1,η⟩;unfold vf;rw[d,pE];simp only[Vj];cases g:zK T a v with
  |none=>rfl
  |some b=>
   simp only;by_cases e:level+1≥T.ql
   .rw[zb e];have:k=0:=η;subst this;simp[Vj]
   .rw[za e,DU T r b (level+1) η (by simp at c;omega)];have:T.ql-(level+1)=k:=η;rw[this]
def QA(h:kE T pth)(row:zl)(a:row.j=3):ud T row=uD T (row.G T.ql):=by
 have:=DU T row 0 0 (by have:=h.dep.1;omega) (by rw[a];have:=h.dep.2;omega);simpa [ud,uD] using this
def qY(T:zm):Nat->Nat->Nat->List zl
 |0,_,_=>[[]]
 |d+1,a,f=>(List.range' f (T.r-f)).flatMap λv=>match zK T a v with
  |none=>[]
  |some b=>(qY T d b 0).w (v::·)
def IS{d a f:Nat}(h:∀u,f<=u->zK T a u=Y):qY T (d+1) a f=[]:=by
 simp only[qY,List.flatMap_eq_nil_iff,v_];intro v b;rw[h v b.1]
def Lo{d a v b:Nat}:∀(n f:Nat),v-f=n->f<=v->v<T.r->zK T a v=Z b->(∀u,f<=u->u<v->zK T a u=Y)->qY T (d+1) a f=(qY T d b 0).w (v::·)++qY T (d+1) a (v+1):=by
 intro n;induction n with
 |zero=>
  intro f m j h e _;have:f=v:=η;subst this;obtain⟨k,g⟩:∃k,T.r-f=k+1:=⟨T.r-f-1,η⟩;have c:T.r-(f+1)=k:=η;simp only[qY,g,c,z_,uZ,e]
 |succ n o=>
  intro f m j h e i;obtain⟨k,g⟩:∃k,T.r-f=k+1:=⟨T.r-f-1,η⟩;have c:T.r-(f+1)=k:=η;rw[←o (f+1) η η h e (λu p l=>i u η l)];simp only[qY,g,c,z_,uZ,i f (ze _) η,mo]
def GJ(row:zl)(l v:Nat)(k:zl)(a:l<row.j):(row.set l v).G (l+1)++k=row.G l++v::k:=by
 have:(row.set l v).G (l+1)=row.G l++[v]:=by
  rw[yF (by simpa using a),r_ (ze _)];simp
 rw[this];simp
def Qp(row:zl)(l v j:Nat)(a:l<j):(row.set l v).drop j=row.drop j:=by
 rw[List.drop_set,zb a]
def Pw(H:lh T)(R:T.ql<=3):∀(n a level f:Nat) (row:zl) (g:List zl),level<T.ql->row.j=3->f<=T.r->(T.r-f)+1+(T.ql-level-1)*(T.r+1)<=n →
  ∃c,ue T n a level f row g=Z (c,g++(qY T (T.ql-level) a f).w λk=>row.G level++k++row.drop T.ql)/\c.j=3/\c.G level=row.G level/\c.drop T.ql=row.drop T.ql:=by
 intro n;induction n with
 |zero=>intro a level f row g s D Q u;omega
 |succ n z=>
  intro a level f row g s D Q u;obtain⟨d,y⟩:∃d,T.ql-level=d+1:=⟨T.ql-level-1,η⟩;unfold ue;rcases G:yJ T a f with _|v;refine⟨row,?_,D,rfl,rfl⟩;rw[y,IS (HY H G)];simp;obtain⟨V,P,L,K⟩:=CM H G;obtain⟨b,E⟩:=my.1 L;have m:=Lo (d:=d) _ f rfl V P E K;simp only;have l:(row.set level v).j=3:=by simpa using D
  have q:level<row.j:=η;have h:(row.set level v).drop T.ql=row.drop T.ql:=Qp row level v T.ql s;have i:(row.set level v).G level=row.G level:=by rw[r_ (ze _)]
  have p:T.ql-level-1=d:=η;by_cases e:level+1≥T.ql;rw[zb e];have C:d=0:=η;subst C;obtain⟨c,A,w,x,t⟩:=z a level (v+1) (row.set level v) (g++[row.set level v]) s l η (by rw[p] at u ⊢;omega);refine⟨c,?_,w,by rw[x,i],by rw[t,h]⟩;rw[A,y,m];simp only[qY,xU,List.map_nil,dM,mo,i,h,jt,zt,yk,true_and];congr 2;have:=GJ row level v (row.drop T.ql) q;have S:T.ql=level+1:=η;rw[←h,S] at this ⊢;rw[jF] at this;exact this;rw[za e,za η,E];simp only[uF];have W:d*(T.r+1)=(d-1)*(T.r+1)+(T.r+1):=by
   obtain⟨j,rfl⟩:∃j,d=j+1:=⟨d-1,η⟩;simp[Nat.succ_mul]
  have B:T.ql-(level+1)-1=d-1:=η;have r:T.ql-(level+1)=d:=η;obtain⟨o,A,w,x,t⟩:=z b (level+1) 0 (row.set level v) g η l η (by rw[p] at u;rw[B];omega);rw[A];simp only;obtain⟨c,N,J,M,I⟩:=z a level (v+1) o (g++(qY T (T.ql-(level+1)) b 0).w λk=>(row.set level v).G (level+1)++k++(row.set level v).drop T.ql) s w η (by rw[p] at u ⊢;omega);have F:o.G level=row.G level:=by
   have:=congrArg (List.take level) x;rwa [q_,q_,dC η,i] at this
  refine⟨c,?_,J,by rw[M,F],by rw[I,t,h]⟩;rw[N,y,m,r,F,t,h,uY,nI,←jt];congr 3;refine congrArg (g++·) (d9 λk _=>?_);simp only[Function.comp];rw[GJ row level v k q]
def V9(k:zl)(d:Nat):zl:=k++([0,0,0]:zl).drop d
def L6(h:kE T pth)(a:Nat)(e:3*(T.r+1)<=a):mI a T=Z ((qY T T.ql 0 0).w λk=>V9 k T.ql):=by
 have c:=h.dep;have f:T.r+1+(T.ql-1)*(T.r+1)<=3*(T.r+1):=by
  have:(T.ql-1)*(T.r+1)<=2*(T.r+1):=f5 _ η;omega
 obtain⟨b,d,_,_,_⟩:=Pw h.node c.2 a 0 0 0 [0,0,0] [] η rfl η υ;unfold mI;rw[d];simp[V9]
def As(T:zm):∀(d a f:Nat) (k:zl),k∈qY T d a f↔k.j=d/\(Vj T a k).I=true/\(0<d->f<=k.headD 0)
 |0,a,f,k=>by
  simp only[qY,xo];constructor
  .rintro rfl;simp[Vj]
  .rintro⟨h,_⟩;exact p5.1 h
 |d+1,a,f,k=>by
  simp only[qY,vg,v_];constructor
  .rintro⟨v,n,g⟩;cases c:zK T a v with
   |none=>rw[c] at g;simp at g
   |some b=>
    rw[c] at g;simp only[z9] at g;obtain⟨m,j,rfl⟩:=g;obtain⟨i,e,_⟩:=(As T d b 0 m).1 j;refine⟨by simp[i],?_,λ_=>by simpa using n.1⟩;simp only[Vj,c];exact e
  .rintro⟨i,e,l⟩;cases k with
   |nil=>simp at i
   |cons v k=>
    simp only[Vj] at e;simp only[List.headD_cons] at l;cases c:zK T a v with
    |none=>rw[c] at e;simp at e
    |some b=>
     rw[c] at e;have o:=(lu c).2;have:=l η;refine⟨v,η,?_⟩;rw[c];simp only[z9];exact⟨k,(As T d b 0 k).2 ⟨by simpa using i,e,λ_=>zs _⟩,rfl⟩
end
def Xa:zl->zl->Prop
 |a::x,b::y=>a<b∨a=b/\Xa x y
 |_,_=>False
def Ab:∀x:zl,¬Xa x x
 |[]=>id
 |a::x=>by
  rintro(h|⟨_,h⟩)
  .omega
  .exact Ab x h
def oA(T:zm):∀(d a f:Nat),(qY T d a f).Pairwise Xa
 |0,a,f=>by simp[qY]
 |d+1,a,f=>by
  simp only[qY];rw[n_];refine⟨λv _=>?_,?_⟩
  .cases zK T a v with
   |none=>exact List.Pairwise.nil
   |some b=>
    simp only;rw[mV];exact(oA T d b 0).imp λh=>zg ⟨rfl,h⟩
  .refine List.Pairwise.imp ?_ (List.pairwise_lt_range' (s:=f) (n:=T.r-f));intro v u i x e y g;cases j:zK T a v with
   |none=>rw[j] at e;simp at e
   |some b=>
    rw[j] at e;cases k:zK T a u with
    |none=>rw[k] at g;simp at g
    |some c=>
     rw[k] at g;simp only[z9] at e g;obtain⟨l,_,rfl⟩:=e;obtain⟨m,_,rfl⟩:=g;exact zh i
def BS(T:zm)(d a f:Nat):(qY T d a f).Nodup:=by
 refine(oA T d a f).imp ?_;rintro x y h rfl;exact Ab x h
def AY:∀{l1 l2:List zl},l1.Nodup->(∀x∈l1,x∈l2)->l1.j<=l2.j
 |[],l2,_,_=>ζ
 |a::l1,l2,f,c=>by
  have e:=c a ζ;have g:=AY (l1:=l1) (l2:=l2.erase a) (j5.1 f).2 (λx d=>by
   have b:x≠a:=by rintro rfl;exact(j5.1 f).1 d
   exact(lY b).2 (c x (by simp[d])))
  rw[n5 e] at g;have:=pn e;simp;omega
def KO{l1 l2:List zl}(b:l1.Nodup)(c:l2.Nodup)(h:∀x,x∈l1↔x∈l2):l1.j=l2.j:=
 D_ (AY b λx a=>(h x).1 a) (AY c λx a=>(h x).2 a)
def UX(T:zm):List zl:=qY T T.ql 0 0
def qV(T:zm)(k:zl):k∈UX T↔k.j=T.ql/\(uD T k).I=true:=by
 unfold UX;rw[As];exact⟨λh=>⟨h.1,h.2.1⟩,λh=>⟨h.1,h.2,λ_=>zs _⟩⟩
structure vU (T:zm):Prop where
 inv:∃pth,kE T pth
 cnt:(UX T).j=T.count
 room:T.B.j<=1+2*T.count
def vU.new(w d:Nat):vU (xk w d):=by
 refine⟨⟨_,IW w d⟩,?_,by simp[xk,yI]⟩;have:UX (xk w d)=[]:=by
  rw[List.eq_nil_iff_forall_not_mem];intro k c;obtain⟨a,b⟩:=(qV _ k).1 c;rw[i6 w d k (by rintro rfl;have:=(mv d).1;rw[rG] at a;simp at a;omega)] at b;cases b
 rw[this];rfl
def iP{T:zm}:∀(k:zl) (a:Nat),(Vj T a k).I=true->∀v∈k,v<T.r
 |[],_,_,v,c=>by cases c
 |u::k,a,h,v,c=>by
  simp only[Vj] at h;cases d:zK T a u with
  |none=>rw[d] at h;simp at h
  |some b=>
   rw[d] at h;rcases z7.1 c with rfl|c
   .exact(lu d).2
   .exact iP k b h v c
def vU.add{T:zm}(h:vU T)(row:zl)(m:Nat)(i:row.j=3)(n:mm T row=true):
  vU (yE T row m).1/\(yE T row m).1.r=T.r/\(yE T row m).1.ql=T.ql/\(yE T row m).2=(uD T (row.G T.ql)).isNone/\((yE T row m).2=false->(yE T row m).1=T)/\((yE T row m).2=true->(yE T row m).1.count=T.count+1)/\∀q,q.j=T.ql->uD (yE T row m).1 q=if q=row.G T.ql then Z ((uD T q).d m) else uD T q:=by
 obtain⟨l,j⟩:=h.inv;have a:=MU j row m i n;have p:=j.dep;refine⟨⟨a.inv,?_,?_⟩,a.r,a.ql,a.is,a.same,λq=>(a.more q).1,a.sem⟩;cases b:(yE T row m).2;rw[a.same b];exact h.cnt;rw[(a.more b).1,←h.cnt];have d:=a.is;rw[b] at d;have g:(row.G T.ql).j=T.ql:=by rw[vi,i];omega
 have f:row.G T.ql∉UX T:=λo=>by
  have:=((qV T _).1 o).2;rw[←w_,←d] at this;cases this
 have:=KO (l1:=UX (yE T row m).1) (l2:=row.G T.ql::UX T) (BS _ _ _ _) (j5.2 ⟨f,BS _ _ _ _⟩) (λk=>by
  rw[qV,a.ql,z7,qV];by_cases c:k.j=T.ql;rw[a.sem k c];by_cases e:k=row.G T.ql;simp[e,g];simp[e,c];constructor;intro q;exact zC q.1 c;rintro(q|q);rw[q] at c;exact zC g c;exact zC q.1 c)
 simpa using this;cases b:(yE T row m).2;rw[a.same b];exact h.room;have:=a.more b;have:=h.room;omega
def vU.rows{T:zm}(h:vU T)(a:Nat)(b:3*(T.r+1)<=a):mI a T=Z ((UX T).w λk=>V9 k T.ql):=by
 obtain⟨c,d⟩:=h.inv;exact L6 d a b
def vU.rowsG{T:zm}(h:vU T)(a:Nat)(b:3*(T.r+1)<=a)(c:T.count<=1048576):rowsG a T=Z ((UX T).w λk=>V9 k T.ql):=by
 unfold Go.Proofs.YteampbddflhngaaGreat.rowsG;rw[h.rows a b];simp[h.cnt,c]
def vU.okT{T:zm}(h:vU T)(a:T.count<=10000000):okT T=true:=by
 have:=h.room;simp only[Go.Proofs.YteampbddflhngaaGreat.okT,uK,decide_eq_true_eq];omega
def vU.mark{T:zm}(h:vU T)(row:zl)(a:row.j=3):ud T row=uD T (row.G T.ql):=by
 obtain⟨b,c⟩:=h.inv;exact QA c row a
def kh(J:zF)(h:Nat×Nat)(v:Nat):Option Nat:=zK (J.ja.d h.1 xa.zero).rows ((J.ja.d h.1 xa.zero).B.d h.2 0) v
def BR(J:zF):Prop:=∀i,lh (J.ja.d i xa.zero).rows
def qS(J a:zF):Prop:=a={J with jg:=a.jg}
def qS.refl(J:zF):qS J J:=rfl
def qS.A{a b c:zF}(h:qS a b)(k:qS b c):qS a c:=by
 unfold qS at *;rw[h] at k;exact k
def qS.ja{a b:zF}(h:qS a b):b.ja=a.ja:=by rw[h]
def Ow{J:zF}{h:Nat×Nat}{f:Nat}(hs:qk J h=true):qS J (qv J h f).1/\(qv J h f).2=yJ (J.ja.d h.1 xa.zero).rows ((J.ja.d h.1 xa.zero).B.d h.2 0) f:=by
 unfold qv;rw[zb hs];exact⟨rfl,rfl⟩
def td(a b c i:Nat):Prop:=i<a/\a<=i+b∨a<=i/\a+c<=i+b
def Gz(J:zF)(hs:List (Nat×Nat))(f:Nat):Option Nat->Prop
 |none=>∀u,f<=u->∃h∈hs,kh J h u=Y
 |some v=>f<=v/\(∀h∈hs,(kh J h v).I=true)/\∀u,f<=u->u<v->∃h∈hs,kh J h u=Y
def Ks{J a:zF}(h:qS J a)(x:Nat×Nat)(v:Nat):kh a x v=kh J x v:=by unfold kh;rw[h.ja]
def Jq(W f:Nat)(hs:List (Nat×Nat))(j:zF)(A:BR j)(D:∀h∈hs,qk j h=true)(T:∀h∈hs,∀v,(kh j h v).I=true->v<W):
  ∀(n:Nat) (J:zF) (at' b a:Nat),qS j J->f<=at'->a<hs.j->b<=hs.j->(∀u,f<=u->u<at'->∃h∈hs,kh j h u=Y)->(∀i (x:i<hs.j),td a b hs.j i->(kh j hs[i] at').I=true)->(W-at')*(hs.j+1)+(hs.j-b)<n →
  ∃G r,gU n J hs at' b a=Z (G,r)/\qS j G/\Gz j hs f r:=by
 intro n;induction n with
 |zero=>intro J at' b a _ _ _ _ _ _ h;omega
 |succ n I=>
  intro J at' b a y H F M d p hn;unfold gU;by_cases s:b<hs.j;rw[zb s];have P:hs.d a (0,0)=hs[a]:=by simp[g_,F]
  have c:hs[a]∈hs:=zr F;have m:qk J hs[a]=true:=by
   have:=D _ c;unfold qk at this ⊢;rw[y.ja];exact this
  obtain⟨C,t⟩:=Ow (f:=at') m;rw[y.ja] at t;rw[P];cases N:qv J hs[a] at' with
  |mk z o=>
   rw[N] at C t;simp only at C t;have k:=y.A C;have q:=A hs[a].1;rcases o with _|v;refine⟨z,Y,rfl,k,λu Q=>?_⟩;by_cases l:u<at';exact d u Q l;exact⟨hs[a],c,HY q t.z u η⟩;obtain⟨p1,p2,E,R⟩:=CM q t.z;have S:=T _ c v E;simp only;by_cases g:v>at';rw[zb g,zb g];refine I z v (0+1) _ k η (by split<;>omega) η (λu K h2=>?_) (λi x w=>?_) ?_;by_cases l:u<at';exact d u K l;exact⟨hs[a],c,R u η h2⟩;have:i=a:=by
    unfold td at w;split at w<;>omega
   subst this;exact E;have e:W-at'=(W-v)+(v-at'):=η;have:(W-at')*(hs.j+1)=(W-v)*(hs.j+1)+(v-at')*(hs.j+1):=by rw[e,mn]
   have:1*(hs.j+1)<=(v-at')*(hs.j+1):=f5 _ η;omega;have V:v=at':=η;subst V;rw[za g,za g];refine I z v (b+1) _ k H (by split<;>omega) η d (λi x w=>?_) η;by_cases B:i=a;subst B;exact E;refine p i x ?_;unfold td at w ⊢;split at w<;>omega
  rw[za s];refine⟨J,Z at',rfl,y,H,λh L=>?_,d⟩;obtain⟨i,x,rfl⟩:=uT L;refine p i x ?_;unfold td;omega
def LN(W:Nat)(J:zF)(place f n:Nat)(q:place<5)(g:BR J)(d:J.jf.d place []≠[])(e:∀h∈J.jf.d place [],qk J h=true)(m:∀h∈J.jf.d place [],∀v,(kh J h v).I=true->v<W)(s:W*((J.jf.d place []).j+1)+(J.jf.d place []).j<n):
  ∃j b,lc n J place f=Z (j,b)/\qS J j/\Gz J (J.jf.d place []) f b:=by
 have c:0<(J.jf.d place []).j:=by
  rcases k:J.jf.d place [] with _|⟨a,l⟩;exact zC k d;simp
 unfold lc;rw[za η];refine Jq W f _ J g e m n J f 0 0 rfl (ze _) c η (λu p r=>η) (λi t o=>by unfold td at o;omega) ?_;have:(W-f)*((J.jf.d place []).j+1)<=W*((J.jf.d place []).j+1):=f5 _ η;omega
section
variable {je:Int}
def yP(l:zx)(d:Nat):List Nat:=(j_ d).filter (zL l)
def y9(l:zx)(vals:List Nat)(d:Nat):zl:=(yP l d).w λp=>vals.d p 0
def mB(l:zx)(d:Nat):yP l (d+1)=if zL l d then yP l d++[d] else yP l d:=by
 unfold yP;rw[AT,wG];by_cases h:zL l d<;>simp[h]
def rK(l:zx)(d p:Nat):p∈yP l d↔p<d/\zL l p=true:=by simp[yP]
def BW(l:zx){a b:Nat}(h:a<=b):yP l a <+: yP l b:=by
 induction h with
 |refl=>exact List.prefix_rfl
 |step h c=>
  rw[mB];split;exact c.A (List.prefix_append _ _);exact c
def BM(l:zx)(p:Nat):xd l p=if zL l p then Z (yP l p).j else none:=by
 unfold xd yP;rw[wM]
def lG(l:zx):xi l=(yP l 5).j:=by
 unfold xi yP;rw[wM]
def pO(l:zx)(vals:Φ)(d:Nat):(y9 l vals d).j=(yP l d).j:=by simp[y9]
def eT(l:zx){x y:Φ}{d:Nat}(h:∀p,p<d->zL l p=true->x.d p 0=y.d p 0):y9 l x d=y9 l y d:=by
 unfold y9;refine d9 λp a=>?_;have:=(rK l d p).1 a;exact h p this.1 this.2
def oO(l:zx)(vals:Φ){a b:Nat}(h:a<=b):y9 l vals a=(y9 l vals b).G (yP l a).j:=by
 obtain⟨t,c⟩:=BW l h;unfold y9;rw[←c];simp
def DA(l:zx)(vals:Φ)(d v:Nat)(b:d<vals.j):y9 l (vals.set d v) (d+1)=if zL l d then y9 l vals d++[v] else y9 l vals d:=by
 have a:(yP l d).w (λp=>(vals.set d v).d p 0)=(yP l d).w λp=>vals.d p 0:=by
  refine d9 λp c=>?_;have:=(rK l d p).1 c;rw[uW,za η]
 unfold y9;rw[mB];split;rw[uY,a];simp[b];exact a
def Ag:∀{l1 l2:Φ},l1.Nodup->(∀x∈l1,x∈l2)->l1.j<=l2.j
 |[],l2,_,_=>ζ
 |a::l1,l2,f,c=>by
  have e:=c a ζ;have g:=Ag (l1:=l1) (l2:=l2.erase a) (j5.1 f).2 (λx d=>by
   have b:x≠a:=by rintro rfl;exact(j5.1 f).1 d
   exact(lY b).2 (c x (by simp[d])))
  rw[n5 e] at g;have:=pn e;simp;omega
def f6(l:zx)(p:Nat):zL l p=true↔∃t∈l.v,t.var=true/\t.D=p:=by
 unfold zL;rw[fa];constructor;rintro⟨t,b,a⟩;simp only[uK,beq_iff_eq] at a;exact⟨t,b,a.1,a.2⟩;rintro⟨t,b,a,c⟩;exact⟨t,b,by simp[a,c]⟩
def B1(l:zx)(d:Nat):(yP l d).j<=l.v.j:=by
 have:=Ag (l1:=yP l d) (l2:=l.v.w (·.D)) (List.nodup_range.filter _) (λp a=>by
  obtain⟨t,b,_,c⟩:=(f6 l p).1 ((rK l d p).1 a).2;exact z9.2 ⟨t,b,c⟩)
 simpa using this
def ww(je:Int):∀(ts:List yo) (k:Int),k<=ts.H (λk t=>if t.var&&decide ((t.D:Int)<je)&&decide ((t.D:Int)>k) then(t.D:Int) else k) k/\(∀t∈ts,t.var=true->(t.D:Int)<je->(t.D:Int)<=ts.H (λk t=>if t.var&&decide ((t.D:Int)<je)&&decide ((t.D:Int)>k) then(t.D:Int) else k) k)/\(k<je->ts.H (λk t=>if t.var&&decide ((t.D:Int)<je)&&decide ((t.D:Int)>k) then(t.D:Int) else k) k<je)
 |[],k=>⟨Int.le_refl _,λt h=>(by cases h),λh=>h⟩
 |t::ts,k=>by
  simp only[uQ];by_cases d:(t.var&&decide ((t.D:Int)<je)&&decide ((t.D:Int)>k))=true
  .rw[zb d];simp only[uK,decide_eq_true_eq] at d;obtain⟨g,f,e⟩:=ww je ts (t.D:Int);refine⟨η,λu a c b=>?_,λ_=>e η⟩;rcases z7.1 a with rfl|a
   .exact g
   .exact f u a c b
  .rw[za d];obtain⟨g,f,e⟩:=ww je ts k;refine⟨g,λu a c b=>?_,e⟩;rcases z7.1 a with rfl|a
   .have:(u.D:Int)<=k:=by
     simp only[c,b,pk,decide_true,decide_eq_true_eq] at d;omega
    omega
   .exact f u a c b
def Bd(l:zx){p:Nat}(b:zL l p=true)(d:(p:Int)<je):(p:Int)<=kH l je:=by
 obtain⟨t,a,c,e⟩:=(f6 l p).1 b;have:=(ww je l.v (-1)).2.1 t a c η;unfold kH;omega
def F7(l:zx)(a:0<=je):kH l je<je:=(ww je l.v (-1)).2.2 η
def LR(l:zx)(je:Int):-1<=kH l je:=(ww je l.v (-1)).1
def eJ:∀(ts:List yo) (k:Nat),k<=ts.H (λk t=>if t.var&&decide (t.D≥k) then t.D+1 else k) k/\(∀t∈ts,t.var=true->t.D<ts.H (λk t=>if t.var&&decide (t.D≥k) then t.D+1 else k) k)/\∀b,k<=b->(∀t∈ts,t.var=true->t.D<b)->ts.H (λk t=>if t.var&&decide (t.D≥k) then t.D+1 else k) k<=b
 |[],k=>⟨ze _,λt h=>(by cases h),λb h _=>h⟩
 |t::ts,k=>by
  simp only[uQ];by_cases c:(t.var&&decide (t.D≥k))=true
  .rw[zb c];simp only[uK,decide_eq_true_eq] at c;obtain⟨j,g,f⟩:=eJ ts (t.D+1);refine⟨η,λu a e=>?_,λb i d=>f b (by have:=d t ζ c.1;omega) λu a=>d u (by simp[a])⟩;rcases z7.1 a with rfl|a
   .omega
   .exact g u a e
  .rw[za c];obtain⟨j,g,f⟩:=eJ ts k;refine⟨j,λu a e=>?_,λb i d=>f b i λu a=>d u (by simp[a])⟩;rcases z7.1 a with rfl|a
   .have:u.D<k:=by simp only[e,pk,decide_eq_true_eq] at c;omega
    omega
   .exact g u a e
def eY(l:zx){p:Nat}(a:zL l p=true):p<vo l:=by
 obtain⟨t,b,c,d⟩:=(f6 l p).1 a;have:=(eJ l.v 0).2.1 t b c;unfold vo;omega
def CH(l:zx){k:Nat}(h:∀p,zL l p=true->p<k):vo l<=k:=
 (eJ l.v 0).2.2 k η λt a b=>h t.D ((f6 l t.D).2 ⟨t,a,b,rfl⟩)
def IL(l:zx)(a:0<=je):jw l je<je:=by
 unfold jw;split;omega;exact F7 l a
def Be(je:Int):∀(ls:List zx) (b:Int),b<=ls.H (qC je) b/\(∀l∈ls,jw l je<=ls.H (qC je) b)/\(0<=je->b<je->ls.H (qC je) b<je)
 |[],b=>⟨Int.le_refl _,λl h=>(by cases h),λ_ h=>h⟩
 |l::ls,b=>by
  simp only[uQ];obtain⟨i,e,d⟩:=Be je ls (qC je b l);have f:b<=qC je b l/\jw l je<=qC je b l:=by unfold qC;split<;>omega
  refine⟨η,λu a=>?_,λc g=>d c ?_⟩
  .rcases z7.1 a with rfl|a
   .omega
   .exact e u a
  .have:=IL l c;unfold qC;split<;>omega
def ty(r:zv)(a:0<=je):xQ r je<je/\-1<=xQ r je/\kH r.g je<=xQ r je/\(∀l∈r.qc,jw l je<=xQ r je)/\∀l∈r.qx,jw l je<=xQ r je:=by
 unfold xQ;obtain⟨g,f,b⟩:=Be je r.qc (kH r.g je);obtain⟨h,c,e⟩:=Be je r.qx (r.qc.H (qC je) (kH r.g je));have:=LR r.g je;exact⟨e a (b a (F7 r.g a)),η,η,λl d=>by have:=f l d;omega,c⟩
def Da{l:zx}{je:Nat}{b:Int}(h:jw l je<=b):(∀p,zL l p=true->p<je)∨∀p,zL l p=true->p<je->(p:Int)<=b:=by
 unfold jw at h;by_cases c:(vo l:Int)<=je;exact zh λp a=>by have:=eY l a;omega
 rw[za c] at h;exact zg λp a d=>by have:=Bd l (je:=(je:Int)) a η;omega
end
section
variable {r:zv}{i:Nat}{hs:List (Nat×Nat)}
structure fM (r:zv):Prop where
 m:r.m<=5
 v:∀l∈r.qc,l.v.j<=3
 qc:∀l∈r.qc,∀p,zL l p=true->p<r.m
 qx:∀l∈r.qx,∀p,zL l p=true->p<r.m
 g:∀p,zL r.g p=true->p<r.m
 safe:∀p,p<r.m->∃l∈r.qc,zL l p=true
structure ft (r:zv) (Ts:List zm) (W:Nat):Prop where
 len:Ts.j=r.qc.j
 ok:∀(i:Nat) (l:zx) (T:zm),r.qc[i]?=Z l->Ts[i]?=Z T->vU T/\T.ql=xz (xi l)/\T.r<=W
structure jU (r:zv) (Ts Ns:List zm) (J:zF):Prop where
 g:J.g=r.g
 m:J.m=r.m
 jf:J.jf=(j_ 5).w (xx r)
 ji:J.ji=(j_ 5).w λp=>xQ r (p:Nat)
 last:J.last=xQ r r.m
 bars:J.bars=(r.qx.zip Ns).w λx=>⟨x.1,vo x.1,x.2⟩
 ja:J.ja.w (·.rows)=Ts
 vlen:J.P.j=5
 flen:J.from.j=5
def pU(l:zx){x y:Φ}(h:∀p,zL l p=true->x.d p 0=y.d p 0):zI l x=zI l y:=by
 have a:∀i,U5 l x i=U5 l y i:=by
  intro i;unfold U5;split;rename_i c;unfold VQ;rw[show l.v.d i ⟨false,0,0⟩=l.v[i] by simp[g_,c]];split;rename_i b;simp only[uK,decide_eq_true_eq] at b;exact h _ ((f6 l _).2 ⟨_,zr c,b.1,rfl⟩);rfl;rfl
 unfold zI;rw[a,a,a]
def eE(T:zm)(l:zx)(y:List Nat):Prop:=(xi l=0->T.count≠0)/\(xi l≠0->(uD T (y9 l y 5)).I=true)
def jK(r:zv)(a Ns:List zm)(y:List Nat):Prop:=(∀(i:Nat) (l:zx) (T:zm),r.qc[i]?=Z l->a[i]?=Z T->eE T l y)/\∀x∈r.qx.zip Ns,ud x.2 (zI x.1 y)=Y
def Jw{l:zx}(b:∀p,zL l p=true->p<r.m){d:Nat}(c:r.m<=d):yP l d=yP l r.m:=by
 induction c with
 |refl=>rfl
 |@step m h a=>
  rw[mB,za (λq=>by have:=b _ q;have:r.m<=m:=h;omega),a]
def JJ(b:r.m<=5){l:zx}(a:∀p,zL l p=true->p<r.m)(y:Φ):y9 l y 5=y9 l y r.m:=by
 unfold y9;rw[Jw a b]
def Ro(r:zv)(J:zF)(d:Nat):Prop:=∀(i:Nat) (l:zx) (s:xa),r.qc[i]?=Z l->J.ja[i]?=Z s->s.B.j=3/\(∀k,k<=(yP l d).j->k<3->Vj s.rows 0 ((y9 l J.P d).G k)=Z (s.B.d k 0))/\(Vj s.rows 0 (y9 l J.P d)).I=true
def OI(r:zv)(Ns:List zm)(vals:List Nat)(d:Nat):Prop:=∀x∈r.qx.zip Ns,vo x.1<=d->ud x.2 (zI x.1 vals)=Y
def D5{d c:Nat}(h:(i,c)∈xx r d):∃l,r.qc[i]?=Z l/\zL l d=true/\c=(yP l d).j:=by
 unfold xx at h;simp only[nC,qG,yk] at h;obtain⟨⟨l,j⟩,g,f,a,e,k⟩:=h;rw[BM] at a;split at a;rename_i b;simp only[zt] at a;have:=sE.1 g;simp only at this e b a;subst e;exact⟨l,this,b,η⟩;cases a
def Wa{d:Nat}{l:zx}(h:r.qc[i]?=Z l)(a:zL l d=true):(i,(yP l d).j)∈xx r d:=by
 unfold xx;simp only[nC,qG,yk];refine⟨(l,i),sE.2 h,(yP l d).j,?_,rfl,rfl⟩;rw[BM,zb a]
def Cx(r:zv)(d:Nat):((xx r d).w (·.1)).Nodup:=by
 unfold xx;have f:∀(c:List zx) (n:Nat),(((c.zipIdx n).filterMap λx=>(xd x.1 d).w λb=>(x.2,b)).w (·.1)).Nodup/\∀i∈((c.zipIdx n).filterMap λx=>(xd x.1 d).w λb=>(x.2,b)).w (·.1),n<=i:=by
  intro c;induction c with
  |nil=>intro n;simp
  |cons l c m=>
   intro n;obtain⟨j,e⟩:=m (n+1);rw[List.zipIdx_cons,wI];rcases h:(xd l d).w λb=>(n,b) with _|x;exact⟨j,λi g=>by have:=e i g;omega⟩;have o:x.1=n:=by
    simp only[qG] at h;obtain⟨a,_,rfl⟩:=h;rfl
   simp only[xU,j5,z7];refine⟨⟨λk=>by have:=e _ k;omega,j⟩,?_⟩;rintro i (rfl|g);omega;have:=e i g;omega
 exact(f r.qc 0).1
def setDown(v a:Nat)(s:xa):xa:=if a+1≥3 then s else{s with B:=s.B.set (a+1) ((zK s.rows (s.B.d a 0) v).d 0)}
def K9{J:zF}{v:Nat}{h:Nat×Nat}(hs:qk J h=true):vR v J h={J with ja:=J.ja.set h.1 (setDown v h.2 (J.ja.d h.1 xa.zero))}:=by
 unfold vR setDown;by_cases a:h.2+1≥3;rw[zb (zg a),zb a];have b:h.1<J.ja.j:=by simp only[qk,uK,decide_eq_true_eq] at hs;exact hs.1
 have:J.ja.set h.1 (J.ja.d h.1 xa.zero)=J.ja:=by
  rw[show J.ja.d h.1 xa.zero=J.ja[h.1] by simp[g_,b]];exact tr _
 rw[this];rw[za (by rintro(q|q);rw[hs] at q;cases q;exact a q),za a]
def DF(v:Nat):∀(hs:List (Nat×Nat)) (J:zF),(hs.w (·.1)).Nodup->(∀h∈hs,qk J h=true)->∃e,hs.H (vR v) J={J with ja:=e}/\e.j=J.ja.j/\∀i s,J.ja[i]?=Z s->e[i]?=Z (match hs.lookup i with|none=>s|some c=>setDown v c s)
 |[],J,_,_=>⟨J.ja,rfl,rfl,λi s h=>by simpa using h⟩
 |(j,c)::hs,J,k,d=>by
  simp only[uQ];have f:=d (j,c) ζ;rw[K9 f];simp only;have g:j<J.ja.j:=by simp only[qk,uK,decide_eq_true_eq] at f;exact f.1
  simp only[xU,j5] at k;obtain⟨e,u,t,l⟩:=DF v hs {J with ja:=J.ja.set j (setDown v c (J.ja.d j xa.zero))} k.2 (λh n=>by
   have:=d h (by simp[n]);unfold qk at this ⊢;simpa using this)
  refine⟨e,u,by simpa using t,λi s m=>?_⟩;by_cases b:i=j
  .subst b;have w:J.ja.d i xa.zero=s:=by simp[g_,m]
   have:=l i (setDown v c s) (by rw[w];simp[g]);rw[this];have a:hs.lookup i=none:=by
    rw[m_];intro x p;have:x.1≠i:=by
     rintro rfl;exact k.1 (z9.2 ⟨x,p,rfl⟩)
    simpa using λq=>this q.z
   rw[a];simp[o_]
  .have:=l i s (by simp only[sS,Ne.symm b,if_false];exact m);rw[this];have o:(i == j)=false:=by simp[b]
   simp[o_,o]
def Qa{c:Nat}(d:(hs.w (·.1)).Nodup)(f:(i,c)∈hs):hs.lookup i=Z c:=by
 induction hs with
 |nil=>cases f
 |cons a hs h=>
  obtain⟨j,m⟩:=a;simp only[xU,j5] at d;rcases z7.1 f with e|b;simp only[yk] at e;obtain⟨rfl,rfl⟩:=e;simp[o_];have:i≠j:=by
   rintro rfl;exact d.1 (z9.2 ⟨(i,c),b,rfl⟩)
  have g:(i == j)=false:=by simp[this]
  simp only[o_,g];exact h d.2 b
def Q7(h:∀a,(i,a)∉hs):hs.lookup i=none:=by
 rw[m_];rintro⟨j,m⟩ b;have:i≠j:=by rintro rfl;exact h m b
 simpa using this
end
section
variable {r:zv}{Ts Ns:List zm}{J:zF}
structure VP (r:zv) (Ts Ns:List zm) (W:Nat) (J:zF) (d:Nat):Prop where
 stat:jU r Ts Ns J
 B:Ro r J d
 nob:OI r Ns J.P d
 «from» : ∀i,i<d->J.from.d i 0=J.P.d i 0+1
 small:∀i,i<d->J.P.d i 0<W
def jU.same{a:zF}(h:jU r Ts Ns J)(s:qS J a):jU r Ts Ns a:=by
 rw[s];exact⟨h.g,h.m,h.jf,h.ji,h.last,h.bars,h.ja,h.vlen,h.flen⟩
def VP.same{r:zv}{Ts Ns:List zm}{W:Nat}{J a:zF}{d:Nat}(h:VP r Ts Ns W J d)(s:qS J a):VP r Ts Ns W a d:=by
 refine⟨h.stat.same s,?_,?_,?_,?_⟩;rw[s];exact h.B;rw[s];exact h.nob;rw[s];exact h.from;rw[s];exact h.small
def VP.back{W d b:Nat}(h:VP r Ts Ns W J d)(a:b<=d):VP r Ts Ns W J b:=by
 refine⟨h.stat,λi l s p g=>?_,λx j f=>h.nob x j η,λi u=>h.from i η,λi u=>h.small i η⟩;obtain⟨q,o,c⟩:=h.B i l s p g;have m:=(BW l a).length_le;refine⟨q,λk f n=>?_,?_⟩;rw[oO l J.P a,q_,dC f];exact o k η n;rw[oO l J.P a];have e:y9 l J.P d=(y9 l J.P d).G (yP l b).j++(y9 l J.P d).drop (yP l b).j:=(jF _ _).z;rw[e,pF] at c;rcases t:Vj s.rows 0 ((y9 l J.P d).G (yP l b).j) with _|x;rw[t] at c;cases c;rfl
def jU.side(h:jU r Ts Ns J){i:Nat}{s:xa}(hs:J.ja[i]?=Z s):Ts[i]?=Z s.rows:=by
 rw[←h.ja];simp[hs]
def jU.some{r:zv}{Ts Ns:List zm}{W:Nat}{J:zF}(h:jU r Ts Ns J)(b:ft r Ts W){i:Nat}{l:zx}(a:r.qc[i]?=Z l):∃s,J.ja[i]?=Z s:=by
 have c:J.ja.j=r.qc.j:=by rw[←b.len,←h.ja];simp
 have d:=(jB.1 a).1;exact⟨_,yn η⟩
def jU.holdsAt(h:jU r Ts Ns J){d:Nat}(a:d<5):J.jf.d d []=xx r d:=by
 rw[h.jf];simp[g_,a]
def VP.hold{W d:Nat}(h:VP r Ts Ns W J d)(q:fM r)(j:ft r Ts W){x:Nat×Nat}(p:x∈xx r d):
  ∃l s,r.qc[x.1]?=Z l/\J.ja[x.1]?=Z s/\zL l d=true/\x.2=(yP l d).j/\x.2<3/\qk J x=true/\vU s.rows/\s.rows.r<=W/\∀v,Vj s.rows 0 (y9 l J.P d++[v])=kh J x v:=by
 obtain⟨i,e⟩:=x;obtain⟨l,b,k,c⟩:=D5 p;obtain⟨s,a⟩:=h.stat.some j b;have o:(yP l (d+1)).j=e+1:=by rw[mB,zb k,c];simp
 have f:e<3:=by
  have:=B1 l (d+1);have:=q.v l (fy b);omega
 have g:=(jB.1 a).1;obtain⟨m,w,n⟩:=j.ok i l s.rows b (h.stat.side a);refine⟨l,s,b,a,k,c,f,by simp[qk,g,f],m,n,λv=>?_⟩;obtain⟨y,t,u⟩:=h.B i l s b a;have:=t e η f;rw[c,show(y9 l J.P d).G (yP l d).j=y9 l J.P d by rw[←pO l J.P d];exact ve] at this;rw[pF,this];unfold kh;simp only[g_,a,uF,y_,Vj,c];cases zK s.rows _ v<;>rfl
def ea(h:jU r Ts Ns J)(k:Nat):vx J k=true↔∃x∈r.qx.zip Ns,vo x.1=k/\(ud x.2 (zI x.1 J.P)).I=true:=by
 unfold vx;rw[h.bars,List.any_map,fa];simp
def VP.G{r:zv}{Ts Ns:List zm}{W:Nat}{J:zF}{d v:Nat}(h:VP r Ts Ns W J d)(T:fM r)(hf:ft r Ts W)(hd:d<r.m)(hv:∀x∈xx r d,(kh J x v).I=true)(hW:v<W):
  (uG J d v).P=J.P.set d v/\(∀i,i<d->(uG J d v).from.d i 0=J.from.d i 0)/\(uG J d v).from.d d 0=v+1/\(d+1<5->(uG J d v).from.d (d+1) 0=0)/\VP r Ts Ns W (uG J d v) d/\(vx (uG J d v) (d+1)=false->VP r Ts Ns W (uG J d v) (d+1)):=by
 have af:=T.m;have ad:d<5:=η;have aa:=h.stat.vlen;have ae:=h.stat.flen;unfold uG;rw[za η,h.stat.holdsAt ad];obtain⟨S,e1,e2,e3⟩:=DF v (xx r d) {J with P:=J.P.set d v,«from»:=(if d+1<5 then(J.from.set d (v+1)).set (d+1) 0 else J.from.set d (v+1))} (Cx r d) (λx w=>by
  obtain⟨_,_,_,_,_,_,_,q,_⟩:=h.hold T hf w;unfold qk at q ⊢;exact q)
 rw[e1];simp only at e2 e3 ⊢;have F:∀i,i<d->(if d+1<5 then(J.from.set d (v+1)).set (d+1) 0 else J.from.set d (v+1)).d i 0=J.from.d i 0:=by
  intro i D;split;rw[uW,za η,uW,za η];rw[uW,za η]
 have N:(if d+1<5 then(J.from.set d (v+1)).set (d+1) 0 else J.from.set d (v+1)).d d 0=v+1:=by
  split;rw[uW,za η,uW,zb ⟨rfl,η⟩];rw[uW,zb ⟨rfl,η⟩]
 have C:S.w (·.rows)=Ts:=by
  rw[←h.stat.ja];refine ni λi=>?_;simp only[n8];rcases j:J.ja[i]? with _|s;have:J.ja.j<=i:=List.getElem?_eq_none_iff.1 j;rw[d8 η];rw[e3 i s j];simp only[jY,zt];rcases (xx r d).lookup i with _|lv;rfl;simp only[setDown];split<;>rfl
 have e:jU r Ts Ns {J with ja:=S,P:=J.P.set d v,«from»:=(if d+1<5 then(J.from.set d (v+1)).set (d+1) 0 else J.from.set d (v+1))}:=⟨h.stat.g,h.stat.m,h.stat.jf,h.stat.ji,h.stat.last,h.stat.bars,C,by simpa using aa,by show(if d+1<5 then(J.from.set d (v+1)).set (d+1) 0 else J.from.set d (v+1)).j=5;split<;>simpa using ae⟩;have t:∀l:zx,y9 l (J.P.set d v) d=y9 l J.P d:=λl=>eT l λp u _=>by rw[uW,za η]
 have f:∀(i:Nat) (l:zx) (s b:xa),r.qc[i]?=Z l->J.ja[i]?=Z s->S[i]?=Z b->b.B.j=3/\(∀k,k<=(yP l d).j->k<3->Vj b.rows 0 ((y9 l J.P d).G k)=Z (b.B.d k 0))/\(Vj b.rows 0 (y9 l J.P d)).I=true/\(∀k,k<=(yP l (d+1)).j->k<3->Vj b.rows 0 ((y9 l (J.P.set d v) (d+1)).G k)=Z (b.B.d k 0))/\(Vj b.rows 0 (y9 l (J.P.set d v) (d+1))).I=true:=by
  intro i l s b g j a;obtain⟨n1,R,n3⟩:=h.B i l s g j;rw[e3 i s j] at a;by_cases H:zL l d=true;have z:=Wa g H;rw[Qa (Cx r d) z] at a;simp only[zt] at a;obtain⟨l',s0,y,I,_,q4,q5,_,_,_,q9⟩:=h.hold T hf z;simp only at y I q5;rw[g] at y;rw[j] at I;simp only[zt] at y I;subst y;subst I;have G:=hv _ z;obtain⟨bb,A⟩:=my.1 G;have E:=q9 v;rw[A] at E;have u:y9 l (J.P.set d v) (d+1)=y9 l J.P d++[v]:=by rw[DA l _ _ _ η,zb H]
  have c:b.rows=s.rows:=by rw[←a];unfold setDown;split<;>rfl
  have M:(y9 l J.P d).j=(yP l d).j:=pO _ _ _;have L:∀k,k<=(yP l d).j->b.B.d k 0=s.B.d k 0:=by
   intro k o;rw[←a];unfold setDown;split;rfl;rw[uW,za η]
  have ac:zK s.rows (s.B.d (yP l d).j 0) v=Z bb:=by
   unfold kh at A;simpa [g_,j] using A
  refine⟨by rw[←a];unfold setDown;split<;>simp[n1],λk o h3=>by rw[c,L k o];exact R k o h3,by rw[c];exact n3,λk o h3=>?_,by rw[c,u,E];rfl⟩;rw[c,u];rw[mB,zb H,yB,List.length_singleton] at o;by_cases P:k<=(yP l d).j;rw[List.take_append_of_le_length η,L k P];exact R k P h3;have:k=(yP l d).j+1:=η;subst this;rw[yO (by simp[M]),E,←a];unfold setDown;rw[za η];simp only;rw[uW,zb ⟨rfl,η⟩,ac];rfl;have ab:∀lv,(i,lv)∉xx r d:=λlv z=>by
   obtain⟨l',y,I,_⟩:=D5 z;rw[g] at y;simp only[zt] at y;subst y;exact H I
  rw[Q7 ab] at a;simp only[zt] at a;subst a;have u:y9 l (J.P.set d v) (d+1)=y9 l J.P d:=by rw[DA l _ _ _ η,za H]
  have G:yP l (d+1)=yP l d:=by rw[mB,za H]
  exact⟨n1,R,n3,by rw[u,G];exact R,by rw[u];exact n3⟩
 have n:=fun(i:Nat) (l:zx) (b:xa) (g:r.qc[i]?=Z l) (_:S[i]?=Z b)=>h.stat.some hf g;have K:∀x∈r.qx.zip Ns,vo x.1<=d->zI x.1 (J.P.set d v)=zI x.1 J.P:=λx _ o=>pU x.1 λp u=>by
  have:=eY x.1 u;rw[uW,za η]
 refine⟨trivial,F,N,λh5=>?_,⟨e,λi l b g a=>?_,λx w o=>?_,λi D=>?_,λi D=>?_⟩,λhb=>⟨e,λi l b g a=>?_,λx w o=>?_,λi D=>?_,λi D=>?_⟩⟩;rw[zb h5,uW,zb ⟨rfl,by simp;omega⟩];obtain⟨s,j⟩:=n i l b g a;obtain⟨V,a2,a3,_,_⟩:=f i l s b g j a;exact⟨V,by rw[t];exact a2,by rw[t];exact a3⟩;show ud x.2 (zI x.1 (J.P.set d v))=Y;rw[K x w o];exact h.nob x w o;show(if d+1<5 then _ else _:Φ).d i 0=(J.P.set d v).d i 0+1;rw[F i D,uW,za η];exact h.from i D;show(J.P.set d v).d i 0<W;rw[uW,za η];exact h.small i D;obtain⟨s,j⟩:=n i l b g a;obtain⟨V,_,_,a4,a5⟩:=f i l s b g j a;exact⟨V,a4,a5⟩;show ud x.2 (zI x.1 (J.P.set d v))=Y;by_cases Q:vo x.1<=d;rw[K x w Q];exact h.nob x w Q;rcases z:ud x.2 (zI x.1 (J.P.set d v)) with _|m;rfl;have:=(ea e (d+1)).2 ⟨x,w,η,by show(ud x.2 (zI x.1 (J.P.set d v))).I=true;rw[z];rfl⟩;rw[hb] at this;cases this;show(if d+1<5 then _ else _:Φ).d i 0=(J.P.set d v).d i 0+1;by_cases B:i=d;subst B;rw[N,uW,zb ⟨rfl,η⟩];rw[F i η,uW,za η];exact h.from i η;show(J.P.set d v).d i 0<W;by_cases B:i=d;subst B;rw[uW,zb ⟨rfl,η⟩];exact hW;rw[uW,za η];exact h.small i η
end
section
variable {d W:Nat}{Ts Ns:List zm}
def L8(d:Nat)(vals:List Nat)(f:Nat)(y:List Nat):Prop:=(∀p,p<d->y.d p 0=vals.d p 0)/\f<=y.d d 0∨∃i,i<d/\(∀p,p<i->y.d p 0=vals.d p 0)/\vals.d i 0<y.d i 0
def WQ(r:zv)(Ts Ns:List zm)(E:zl->Prop)(d:Nat)(vals:List Nat)(f:Nat):Prop:=∀y,jK r Ts Ns y->E (zI r.g y)∨L8 d vals f y
def QY{l:zx}{e:Nat}(b:∀p,zL l p=true->p<d)(c:d<=e):yP l e=yP l d:=by
 induction c with
 |refl=>rfl
 |@step m h a=>
  rw[mB,za (λq=>by have:=b _ q;have:d<=m:=h;omega),a]
def pi(d:Nat)(vals y:List Nat):List Nat:=(j_ 5).w λp=>if p<d then vals.d p 0 else y.d p 0
def oD(d:Nat)(vals y:Φ){p:Nat}(a:p<5):(pi d vals y).d p 0=if p<d then vals.d p 0 else y.d p 0:=by
 simp[pi,g_,a]
def Lg{T:zm}{a:Nat}{p q:zl}(h:(Vj T a (p++q)).I=true):(Vj T a p).I=true:=by
 rw[pF] at h;rcases b:Vj T a p with _|x;rw[b] at h;cases h;rfl
def VP.mix{r:zv}{J:zF}(h:VP r Ts Ns W J d)(k:fM r)(z:ft r Ts W)(E:d<=r.m){y:Φ}(u:jK r Ts Ns y)(C:∀p:Nat,(p:Int)<=xQ r (d:Nat)->y.d p 0=J.P.d p 0):jK r Ts Ns (pi d J.P y)/\zI r.g (pi d J.P y)=zI r.g y:=by
 obtain⟨_,_,D,A,w⟩:=ty r (je:=(d:Nat)) η;have B:=k.m;have m:∀{l:zx},(∀p,zL l p=true->p<r.m)->(∀p,zL l p=true->p<d)->∀p,zL l p=true->(pi d J.P y).d p 0=J.P.d p 0:=λg b p f=>by
  have:=g p f;rw[oD d _ _ η,zb (b p f)]
 have j:∀{l:zx},(∀p,zL l p=true->p<r.m)->(∀p,zL l p=true->p<d->(p:Int)<=xQ r (d:Nat))->∀p,zL l p=true->(pi d J.P y).d p 0=y.d p 0:=λg b p f=>by
  have:=g p f;rw[oD d _ _ η];split;rename_i o;exact(C p (b p f o)).z;rfl
 refine⟨⟨λi l T g n=>⟨λq=>(u.1 i l T g n).1 q,λq=>?_⟩,λx t=>?_⟩,pU _ (j k.g λp f b=>by have:=Bd r.g (je:=((d:Nat):Int)) f η;omega)⟩;have a:=fy g;rcases Da (A l a) with b|b;obtain⟨s,v⟩:=h.stat.some z g;have c:=h.stat.side v;rw[n] at c;simp only[zt] at c;have e:y9 l (pi d J.P y) 5=y9 l J.P d:=by
  rw[eT l (y:=J.P) λp _ f=>m (k.qc l a) b p f];unfold y9;rw[QY b η]
 rw[e,c];exact(h.B i l s g v).2.2;rw[eT l (y:=y) λp _ f=>j (k.qc l a) b p f];exact(u.1 i l T g n).2 q;have a:=(E_ t).1;rcases Da (w x.1 a) with b|b;rw[pU x.1 (m (k.qx x.1 a) b)];exact h.nob x t (CH x.1 b);rw[pU x.1 (j (k.qx x.1 a) b)];exact u.2 x t
def VP.sol{r:zv}{J:zF}(h:VP r Ts Ns W J d)(b:fM r)(k:ft r Ts W)(w:d<r.m){y:Φ}(g:jK r Ts Ns y)(o:∀p,p<d->y.d p 0=J.P.d p 0):∀x∈xx r d,(kh J x (y.d d 0)).I=true:=by
 intro x f;obtain⟨l,s,i,n,c,_,_,_,_,_,t⟩:=h.hold b k f;have u:=b.m;have v:=h.stat.side n;have j:xi l≠0:=by
  rw[lG];intro q;have:d∈yP l 5:=(rK l 5 d).2 ⟨η,c⟩;rw[p5.1 q] at this;cases this
 have a:=(g.1 x.1 l s.rows i v).2 j;rw[←t];have e:y9 l J.P d++[y.d d 0]=y9 l y (d+1):=by
  have:y9 l y d=y9 l J.P d:=eT l λp m _=>o p m;unfold y9 at this ⊢;rw[mB,zb c,uY,this];rfl
 rw[e,oO l y (show d+1<=5 by omega)];unfold uD at a;rw[←jF (yP l (d+1)).j (y9 l y 5)] at a;exact Lg a
def s5(W:Nat):Nat->Nat
 |0=>1
 |j+1=>W*(1+s5 W j)+1
def mq(W vars d f:Nat):Nat:=(W-f)*(1+s5 W (vars-d-1))+1
def fz(W vars:Nat)(vals:List Nat):Nat->Nat
 |0=>0
 |d+1=>fz W vars vals d+mq W vars d (vals.d d 0+1)
def qo(W vars d:Nat)(vals:List Nat)(f:Nat):Nat:=fz W vars vals d+if d<vars then mq W vars d f else 1
def EQ(W vars:Nat){x y:Φ}:∀d,(∀p,p<d->x.d p 0=y.d p 0)->fz W vars x d=fz W vars y d
 |0,_=>rfl
 |d+1,h=>by simp only[fz];rw[EQ W vars d (λp a=>h p η),h d η]
def RS(W vars:Nat)(vals:Φ){a b:Nat}(h:a<=b):fz W vars vals a<=fz W vars vals b:=by
 induction h with
 |refl=>exact ze _
 |step h c=>simp only[fz];omega
def Jj{vars f v:Nat}{vals:Φ}(a:d<vars)(h:d<vals.j)(i:f<=v)(l:v<W):qo W vars (d+1) (vals.set d v) 0<qo W vars d vals f/\qo W vars d (vals.set d v) (v+1)<qo W vars d vals f:=by
 have b:fz W vars (vals.set d v) d=fz W vars vals d:=EQ W vars d λp n=>by rw[uW,za η]
 have g:(vals.set d v).d d 0=v:=by rw[uW,zb ⟨rfl,h⟩]
 have c:(if d+1<vars then mq W vars (d+1) 0 else 1)=s5 W (vars-d-1):=by
  split;obtain⟨j,e⟩:∃j,vars-d-1=j+1:=⟨vars-d-2,η⟩;rw[e];unfold mq;rw[show vars-(d+1)-1=j by omega,Nat.sub_zero];rfl;rw[show vars-d-1=0 by omega];rfl
 have m:mq W vars d f=mq W vars d (v+1)+(v+1-f)*(1+s5 W (vars-d-1)):=by
  unfold mq;rw[show W-f=(W-(v+1))+(v+1-f) by omega,mn];omega
 have k:1*(1+s5 W (vars-d-1))<=(v+1-f)*(1+s5 W (vars-d-1)):=f5 _ η;refine⟨?_,?_⟩;unfold qo;rw[zb a,c];simp only[fz];rw[b,g];omega;unfold qo;rw[zb a,zb a,b];omega
def Fl(W vars d:Nat)(vals:Φ)(f:Nat):1<=qo W vars d vals f:=by
 unfold qo;split;unfold mq;omega;omega
def Gg{vars b f:Nat}{vals:Φ}(e:d<=vars)(g:b<d):qo W vars b vals (vals.d b 0+1)<qo W vars d vals f:=by
 have a:qo W vars b vals (vals.d b 0+1)=fz W vars vals (b+1):=by
  unfold qo;rw[zb η];rfl
 have h:=RS W vars vals (show b+1<=d by omega);have c:1<=if d<vars then mq W vars d f else 1:=by
  split;unfold mq;omega;omega
 rw[a];unfold qo;omega
def QJ(r:zv)(Ts Ns:List zm)(W:Nat)(E:zl->Prop)(M:Nat)(a:zF):Bool->Prop
 |true=>VP r Ts Ns W a r.m/\WQ r Ts Ns E r.m a.P 0/\qo W r.m r.m a.P 0<=M
 |false=>(∀y,jK r Ts Ns y->E (zI r.g y))/\jU r Ts Ns a
def jU.ok{r:zv}{Ts Ns:List zm}{W:Nat}{J:zF}(h:jU r Ts Ns J)(c:ft r Ts W):BR J:=by
 intro i;rcases b:J.ja[i]? with _|s;have:J.ja.d i xa.zero=xa.zero:=by simp[g_,b]
 rw[this];intro a g;simp[xa.zero] at g;have:J.ja.d i xa.zero=s:=by simp[g_,b]
 rw[this];have e:=h.side b;have j:i<r.qc.j:=by rw[←c.len];exact(jB.1 e).1
 obtain⟨⟨f,hinv⟩,_⟩:=(c.ok i _ _ (yn j) e).1;exact hinv.node
def Pn{r:zv}(F:fM r)(L:ft r Ts W)(E:zl->Prop)(A:Nat)(hA:W*(r.qc.j+1)+r.qc.j<=A):
  ∀(n:Nat) (J:zF) (d f:Nat),VP r Ts Ns W J d->d<=r.m->(d<r.m->J.from.d d 0=f)->WQ r Ts Ns E d J.P f->qo W r.m d J.P f+A<n->∃K b,jR n J (d:Nat)=Z (K,b)/\QJ r Ts Ns W E (qo W r.m d J.P f) K b:=by
 intro n;induction n with
 |zero=>intro J d f _ _ _ _ h;omega
 |succ n ih=>
  intro J d f h hd ad hL hn;have ar:=F.m;have ap:=Fl W r.m d J.P f;unfold jR;have T:=h.stat.m;by_cases k:d<r.m;rw[zb ⟨η,by rw[T];omega,η⟩];simp only[l_];have a:=h.stat.holdsAt (show d<5 by omega);have ab:J.jf.d d []≠[]:=by
   rw[a];obtain⟨l,ak,al⟩:=F.safe d k;obtain⟨i,hi,rfl⟩:=uT ak;intro q;have:=Wa (yn hi) al;rw[q] at this;cases this
  have an:(xx r d).j<=r.qc.j:=by
   unfold xx;refine zX (sY _ _) ?_;simp
  have au:W*((xx r d).j+1)+(xx r d).j<=A:=by
   have:W*((xx r d).j+1)<=W*(r.qc.j+1):=nF _ η;omega
  obtain⟨D,aj,a1,a2,a3⟩:=LN W J d (J.from.d d 0) n η (h.stat.ok L) ab (by
   rw[a];intro x z;obtain⟨_,_,_,_,_,_,_,q,_⟩:=h.hold F L z;exact q) (by
   rw[a];intro x z v hv;obtain⟨l,s,_,u,_,_,_,_,_,q8,_⟩:=h.hold F L z;unfold kh at hv;obtain⟨b,C⟩:=my.1 hv;have:=(lu C).2;rw[show J.ja.d x.1 xa.zero=s by simp[g_,u]] at this;omega) (by rw[a];omega)
  rw[a] at a3;rw[ad k] at a1 a3;rw[ad k,a1];have h1:=h.same a2;have j:D.P=J.P:=by rw[a2]
  have N:D.from=J.from:=by rw[a2]
  have R:=λx v=>Ks a2 x v;rcases aj with _|v;simp only;have am:D.ji.d d 0=xQ r (d:Nat):=by rw[h1.stat.ji];simp[g_,show d<5 by omega]
  rw[am];obtain⟨b1,b2,b3,b4,b5⟩:=ty r (je:=((d:Nat):Int)) η;have G:∀y,jK r Ts Ns y->(∀p:Nat,(p:Int)<=xQ r (d:Nat)->y.d p 0=J.P.d p 0)->E (zI r.g y):=by
   intro y m ha;obtain⟨m1,m2⟩:=h.mix F L hd m ha;have H:∀p,p<d->(pi d J.P y).d p 0=J.P.d p 0:=λp o=>by rw[oD d _ _ η,zb o]
   rw[←m2];rcases hL _ m1 with q|⟨_,q⟩|⟨i,g,_,V⟩;exact q;obtain⟨x,z,P⟩:=a3 _ q;have:=h.sol F L k m1 H x z;rw[P] at this;cases this;rw[H i g] at V;omega
  by_cases ao:xQ r (d:Nat)<0;have ah:xQ r (d:Nat)=-1:=η;rw[ah];rcases n with _|n;omega;refine⟨D,false,?_,?_,h1.stat⟩;unfold jR;rw[za η];have:¬((-1:Int)≥(D.m:Int)):=η;simp[this];intro y m;exact G y m λp o=>η;obtain⟨b,C⟩:∃b:Nat,xQ r (d:Nat)=(b:Int):=⟨(xQ r (d:Nat)).D,η⟩;rw[C] at G b1 ⊢;have af:b<d:=η;have hM:=Gg (W:=W) (vars:=r.m) (f:=f) (vals:=J.P) hd af;obtain⟨K,I,s1,t⟩:=ih D b (J.P.d b 0+1) (h1.back η) η (λ_=>by rw[N,h.from b af]) (by
   rw[j];intro y m;rcases hL y m with q|⟨g,u⟩|⟨i,g,u,V⟩;exact zh q;exact zh (G y m λp o=>g p η);by_cases aq:i<=b;refine zg ?_;by_cases aa:i=b;subst aa;exact zh ⟨u,η⟩;exact zg ⟨i,η,u,V⟩;exact zh (G y m λp o=>u p η)) (by rw[j];omega)
  refine⟨K,I,s1,?_⟩;rw[j] at t;cases I;exact t;exact⟨t.1,t.2.1,by have:=t.2.2;omega⟩;simp only;obtain⟨c1,c2,c3⟩:=a3;have ae:v<W:=by
   obtain⟨x,z⟩:=List.exists_mem_of_ne_nil _ (a ▸ ab);obtain⟨l,s,_,u,_,_,_,_,_,q8,_⟩:=h.hold F L z;have hv:=c2 x z;unfold kh at hv;obtain⟨b,C⟩:=my.1 hv;have:=(lu C).2;rw[show J.ja.d x.1 xa.zero=s by simp[g_,u]] at this;omega
  obtain⟨M,t2,t3,t4,t5,t6⟩:=h1.G F L k (v:=v) (λx z=>by rw[R];exact c2 x z) ae;rw[j] at M;have ac:d<J.P.j:=by rw[h.stat.vlen];omega
  obtain⟨m1,m2⟩:=Jj (W:=W) (vars:=r.m) (f:=f) (vals:=J.P) k ac c1 ae;have B:∀y,jK r Ts Ns y->(∀p,p<d->y.d p 0=J.P.d p 0)->f<=y.d d 0->v<=y.d d 0:=by
   intro y m ha hq;false_or_by_contra
   rename_i aw;obtain⟨x,z,P⟩:=c3 (y.d d 0) hq η;have:=h.sol F L k m ha x z;rw[P] at this;cases this
  have c:∀p,p<d->(J.P.set d v).d p 0=J.P.d p 0:=λp o=>by rw[uW,za η]
  have w:(J.P.set d v).d d 0=v:=by rw[uW,zb ⟨rfl,ac⟩]
  by_cases C:vx (uG D d v) (d+1)=true;rw[zb C];obtain⟨x,z,hk,hm⟩:=(ea t5.stat (d+1)).1 C;rw[M] at hm;obtain⟨K,I,s1,t⟩:=ih (uG D d v) d (v+1) t5 hd (λ_=>t3) (by
   rw[M];intro y m;rcases hL y m with q|⟨g,u⟩|⟨i,g,u,V⟩;exact zh q;have ai:=B y m g u;by_cases S:y.d d 0=v;have:=m.2 x z;rw[pU x.1 (y:=J.P.set d v) λp o=>?_] at this;rw[this] at hm;cases hm;have av:=eY x.1 o;by_cases Q:p=d;rw[Q,w,S];rw[c p η,g p η];exact zg (zh ⟨λp o=>by rw[c p o];exact g p o,η⟩);exact zg (zg ⟨i,g,λp o=>by rw[c p η];exact u p o,by rw[c i g];exact V⟩)) (by rw[M];omega)
  refine⟨K,I,s1,?_⟩;rw[M] at t;cases I;exact t;exact⟨t.1,t.2.1,by have:=t.2.2;omega⟩;rw[za C];have C:vx (uG D d v) (d+1)=false:=by simpa using C
  have e:((d:Nat):Int)+1=((d+1:Nat):Int):=η;rw[e];obtain⟨K,I,s1,t⟩:=ih (uG D d v) (d+1) 0 (t6 C) η (λ_=>t4 η) (by
   rw[M];intro y m;rcases hL y m with q|⟨g,u⟩|⟨i,g,u,V⟩;exact zh q;have ai:=B y m g u;by_cases S:y.d d 0=v;refine zg (zh ⟨λp o=>?_,zs _⟩);by_cases Q:p=d;rw[Q,w,S];rw[c p η];exact g p η;exact zg (zg ⟨d,η,λp o=>by rw[c p o];exact g p o,by rw[w];omega⟩);exact zg (zg ⟨i,η,λp o=>by rw[c p η];exact u p o,by rw[c i g];exact V⟩)) (by rw[M];omega)
  refine⟨K,I,s1,?_⟩;rw[M] at t;cases I;exact t;exact⟨t.1,t.2.1,by have:=t.2.2;omega⟩;have ag:d=r.m:=η;subst ag;rw[za (by rw[T];omega)];refine⟨J,true,by simp[T],h,?_,?_⟩;intro y m;rcases hL y m with q|⟨g,_⟩|q;exact zh q;exact zg (zh ⟨g,zs _⟩);exact zg (zg q);unfold qo;rw[za k,za k];exact ze _
end
def r9(r:zv)(a Ns:List zm)(W:Nat)(E:zl->Prop)(J:zF)(M:Nat):Prop:=
 J.ql=-1/\jU r a Ns J/\(∀y,jK r a Ns y->E (zI r.g y))∨(∀(i:Nat) (T:zm),a[i]?=Z T->T.count≠0)/\∃(d f:Nat),J.ql=(d:Nat)/\d<=r.m/\VP r a Ns W J d/\(d<r.m->J.from.d d 0=f)/\WQ r a Ns E d J.P f/\qo W r.m d J.P f<=M
def tq{d:Nat}(c:d≠0)(e:d<=3):xz d=d:=by unfold xz;by_cases a:d<1<;>by_cases b:d>3<;>simp[a,b]<;>omega
def eE.count{T:zm}{l:zx}{y:Φ}(h:eE T l y)(f:vU T)(b:T.ql=xz (xi l))(g:l.v.j<=3):T.count≠0:=by
 by_cases a:xi l=0;exact h.1 a;have c:=h.2 a;have e:=B1 l 5;rw[←lG] at e;have d:=(qV T _).2 ⟨by rw[pO,←lG,b,tq a η],c⟩;have:=pn d;rw[f.cnt] at this;omega
def pe(r:zv)(qc qx:List zm):zF:={g:=r.g,m:=r.m,ja:=qc.w (λT=>⟨T,[0,0,0]⟩),bars:=(r.qx.zip qx).w (λx=>⟨x.1,vo x.1,x.2⟩),jf:=(j_ 5).w (xx r),ji:=(j_ 5).w (λp=>xQ r (p:Nat)),last:=xQ r r.m,P:=[0,0,0,0,0],«from»:=[0,0,0,0,0],ql:=if qc.any (λT=>T.count == 0) then -1 else 0,jg:=0}
def JK(r:zv)(a Ns:List zm):xL r a Ns=if vx (pe r a Ns) 0 then{pe r a Ns with ql:=-1} else pe r a Ns:=rfl
def Bc(r:zv)(a Ns:List zm):∃b,xL r a Ns={pe r a Ns with ql:=b}/\b=if vx (xL r a Ns) 0=true then -1 else if a.any (λT=>T.count == 0)=true then -1 else 0:=by
 have d:∀b:Int,vx {pe r a Ns with ql:=b} 0=vx (pe r a Ns) 0:=λ_=>rfl;rw[JK];by_cases c:vx (pe r a Ns) 0=true;rw[zb c];exact⟨-1,rfl,by rw[d,zb c]⟩;rw[za c];exact⟨_,rfl,by rw[za c]⟩
def PH(r:zv)(a Ns:List zm):jU r a Ns (xL r a Ns)/\(xL r a Ns).P=[0,0,0,0,0]/\(xL r a Ns).from=[0,0,0,0,0]/\(xL r a Ns).ja=a.w (λT=>⟨T,[0,0,0]⟩):=by
 obtain⟨b,h,_⟩:=Bc r a Ns;rw[h];exact⟨⟨rfl,rfl,rfl,rfl,rfl,rfl,by simp[pe,Function.comp_def],rfl,rfl⟩,rfl,rfl,rfl⟩
def Jn{r:zv}{b Ns:List zm}{W:Nat}(F:fM r)(C:ft r b W)(E:zl->Prop):r9 r b Ns W E (xL r b Ns) (qo W r.m 0 [] 0):=by
 obtain⟨c,L,z,A⟩:=PH r b Ns;have e:(∃(i:Nat) (T:zm),b[i]?=Z T/\T.count=0)->∀y,¬jK r b Ns y:=by
  rintro⟨i,T,f,n⟩ y g;have o:i<r.qc.j:=by rw[←C.len];exact(jB.1 f).1
  have v:=yn o;obtain⟨I,H,_⟩:=C.ok i _ T v f;exact(g.1 i _ T v f).count I H (F.v _ (fy v)) n
 have d:vx (xL r b Ns) 0=true->∀y,¬jK r b Ns y:=by
  intro h y g;obtain⟨x,B,q,t⟩:=(ea c 0).1 h;have:=g.2 x B;rw[pU x.1 (y:=(xL r b Ns).P) λp j=>by have:=eY x.1 j;omega] at this;rw[this] at t;cases t
 have a:(xL r b Ns).ql=if vx (xL r b Ns) 0=true then -1 else if b.any (λT=>T.count == 0)=true then -1 else 0:=by
  obtain⟨K,f,n⟩:=Bc r b Ns;rw[←n,f]
 by_cases h:vx (xL r b Ns) 0=true;left;rw[zb h] at a;exact⟨a,c,λy g=>zC g (d h y)⟩;rw[za h] at a;by_cases u:b.any (λT=>T.count == 0)=true;left;rw[zb u] at a;refine⟨a,c,λy g=>zC g (e ?_ y)⟩;obtain⟨T,f,n⟩:=fa.1 u;obtain⟨i,o,rfl⟩:=uT f;exact⟨i,_,yn o,by simpa using n⟩;right;rw[za u] at a;refine⟨λi T D G=>u (fa.2 ⟨T,fy D,by simp[G]⟩),0,0,a,zs _,⟨c,λi l s v w=>?_,λx B q=>?_,λi o=>η,λi o=>η⟩,λ_=>by rw[z];rfl,λy _=>zg (zh ⟨λp j=>η,zs _⟩),?_⟩;rw[A] at w;simp only[n8,qG] at w;obtain⟨T,D,rfl⟩:=w;have j:y9 l (xL r b Ns).P 0=[]:=rfl;refine⟨rfl,λk q J=>?_,by rw[j];rfl⟩;have:k=0:=by simp[yP] at q;exact q
 subst this;rw[j];rfl;rcases t:ud x.2 (zI x.1 (xL r b Ns).P) with _|m;rfl;exact zC ((ea c 0).2 ⟨x,B,η,by rw[t];rfl⟩) h;unfold qo;exact ze _
def Jt{r:zv}{v Ns:List zm}{W:Nat}(w:fM r)(R:ft r v W)(E:zl->Prop)(A:Nat)(hA:W*(r.qc.j+1)+r.qc.j<=A)(n:Nat)(J:zF)(M:Nat)(h:r9 r v Ns W E J M)(hn:M+A+1<n):
  ∃c b,hX n J=Z (c,b)/\(b=false->∀y,jK r v Ns y->E (zI r.g y))/\(b=true->jK r v Ns c.P/\c.g=r.g/\∃L,L<M/\r9 r v Ns W (λx=>E x∨x=zI r.g c.P) c L):=by
 unfold hX;rcases h with⟨F,h2,I⟩|⟨t,d,f,F,h2,I,h4,h5,h6⟩
 rw[F];obtain⟨k,rfl⟩:∃k,n=k+1:=⟨n-1,η⟩;refine⟨{J with ql:=-1},false,?_,λ_=>I,λq=>by cases q⟩;unfold jR;have:¬((-1:Int)≥(J.m:Int)):=η;simp[this];rw[F];obtain⟨c,b,s1,N⟩:=Pn w R E A hA n J d f I h2 h4 h5 η;rw[s1];simp only;cases b;exact⟨_,false,rfl,λ_=>N.1,λq=>by cases q⟩;obtain⟨e,t2,t3⟩:=N;have G:=w.m;have z:jK r v Ns c.P:=by
  refine⟨λi l T K S=>⟨λ_=>t i T S,λ_=>?_⟩,λx hx=>?_⟩;obtain⟨s,P⟩:=e.stat.some R K;have j:=e.stat.side P;rw[S] at j;simp only[zt] at j;rw[JJ G (w.qc l (fy K)),j];exact(e.B i l s K P).2.2;exact e.nob x hx (CH x.1 (w.qx x.1 (E_ hx).1))
 refine⟨_,true,rfl,λq=>(by cases q),λ_=>⟨z,e.stat.g,?_⟩⟩;obtain⟨b1,b2,b3,_,_⟩:=ty r (je:=((r.m:Nat):Int)) η;have m:=e.stat.last;have u:∀y,(∀p:Nat,(p:Int)<=xQ r (r.m:Nat)->y.d p 0=c.P.d p 0)->zI r.g y=zI r.g c.P:=λy ha=>pU r.g λp B=>ha p (by
  have F:=w.g p B;have:=Bd r.g (je:=((r.m:Nat):Int)) B η;omega)
 have g:jU r v Ns {c with ql:=c.last}:=⟨e.stat.g,e.stat.m,e.stat.jf,e.stat.ji,e.stat.last,e.stat.bars,e.stat.ja,e.stat.vlen,e.stat.flen⟩;have V:=Fl W r.m d J.P f;by_cases Q:xQ r (r.m:Nat)<0;refine⟨M-1,η,zh ⟨by show c.last=-1;rw[m];omega,g,λy hy=>?_⟩⟩;exact zg (u y λp B=>η);obtain⟨o,hb⟩:∃b:Nat,xQ r (r.m:Nat)=(b:Int):=⟨(xQ r (r.m:Nat)).D,η⟩;have D:o<r.m:=η;have hM:=Gg (W:=W) (vars:=r.m) (f:=0) (vals:=c.P) (ze _) D;have a:=e.back (b:=o) η;refine⟨qo W r.m o c.P (c.P.d o 0+1),η,zg ⟨t,o,c.P.d o 0+1,by show c.last=_;rw[m,hb],η,⟨g,a.B,a.nob,a.from,a.small⟩,λ_=>e.from o D,λy hy=>?_,ze _⟩⟩;rcases t2 y hy with q|⟨q1,_⟩|⟨i,q1,H,q3⟩;exact zh (zh q);exact zh (zg (u y λp B=>q1 p η));by_cases aa:i<=o;refine zg ?_;by_cases C:i=o;subst C;exact zh ⟨H,η⟩;exact zg ⟨i,η,H,q3⟩;exact zh (zg (u y λp B=>H p η))
section
variable {l:zx}{W:Nat}
structure qJ (l:zx) (a W:Nat):Prop where
 len:l.v.j=a
 le3:a<=3
 lev:∀t∈l.v,t.var=true->t.D<5/\xd l t.D=Z t.w
 con:∀t∈l.v,t.var=false->t.D<W
def UL(a:Nat)(row:zl):Prop:=row.j=3/\∀i,a<=i->row.d i 0=0
def sQ(l:zx)(y:Φ){i:Nat}(a:i<3):(zI l y).d i 0=U5 l y i:=by
 match i,a with
 |0,_=>rfl
 |1,_=>rfl
 |2,_=>rfl
def eV{a:Nat}(h:qJ l a W)(y:Φ):UL a (zI l y):=by
 refine⟨rfl,λi c=>?_⟩;by_cases b:i<3;rw[sQ l y b];unfold U5;rw[za (by rw[h.len];omega)];simp[g_,zI];rw[d8 υ];rfl
def G0{a:Nat}{x y:zl}(b:UL a x)(d:UL a y)(h:∀i,i<a->i<3->x.d i 0=y.d i 0):x=y:=by
 refine qR (by rw[b.1,d.1]) λi c f=>?_;have e:x.d i 0=y.d i 0:=by
  by_cases g:i<a;exact h i g (by rw[b.1] at c;exact c);rw[b.2 i η,d.2 i η]
 simpa [g_,c,f] using e
def LZ{p d:Nat}(b:zL l p=true)(c:p<d):(yP l d)[(yP l p).j]?=Z p:=by
 obtain⟨t,a⟩:=BW l (show p+1<=d by omega);rw[←a,mB,zb b];simp
def eH{p j:Nat}(h:xd l p=Z j)(b:p<5):(yP l 5)[j]?=Z p:=by
 rw[BM] at h;split at h;rename_i a;simp only[zt] at h;subst h;exact LZ a b;cases h
def oK{p j:Nat}(h:xd l p=Z j)(a:p<5):j<xi l:=by
 have:=eH h a;rw[lG];exact(jB.1 this).1
def oV{a:Nat}(h:qJ l a W):xi l<=3:=by
 have:=B1 l 5;rw[lG];have:=h.len;have:=h.le3;omega
def qJ.leveled{l:zx}{a W:Nat}(h:qJ l a W){t:yo}(b:t∈l.v):leveled t=t.var:=by
 unfold Go.Proofs.YteampbddflhngaaGreat.leveled;cases d:t.var;rfl;obtain⟨c,e⟩:=h.lev t b d;have:=oK e c;have:=oV h;simp;omega
def sm(l:zx)(row f:zl)(i:Nat):(j7 l row f i).j=f.j:=by unfold j7;split<;>simp
def sX(l:zx)(row:zl):(uP l row).j=3:=by unfold uP;rw[sm,sm,sm];rfl
def A4{row:zl}{g:Nat->Nat}(v:∀i (c:i<l.v.j),leveled l.v[i]=true->row.d i 0=g l.v[i].w){f:zl}{m:Nat}(t:f.j=3)
  (s:∀j,j<3->(f.d j 0=g j∨f.d j 0=0)/\((∃i,∃c:i<l.v.j,i<m/\leveled l.v[i]=true/\l.v[i].w=j)->f.d j 0=g j)/\((¬∃i,∃c:i<l.v.j,leveled l.v[i]=true/\l.v[i].w=j)->f.d j 0=0)):
  ∀j,j<3->((j7 l row f m).d j 0=g j∨(j7 l row f m).d j 0=0)/\((∃i,∃c:i<l.v.j,i<m+1/\leveled l.v[i]=true/\l.v[i].w=j)->(j7 l row f m).d j 0=g j)/\((¬∃i,∃c:i<l.v.j,leveled l.v[i]=true/\l.v[i].w=j)->(j7 l row f m).d j 0=0):=by
 intro j n;obtain⟨p,o,r⟩:=s j n;unfold j7;by_cases b:m<l.v.j/\leveled (l.v.d m ⟨false,0,0⟩)=true;rw[zb b];have e:l.v.d m ⟨false,0,0⟩=l.v[m]'b.1:=by simp[g_,b.1]
 rw[e] at b ⊢;rw[uW];by_cases a:l.v[m].w=j/\l.v[m].w<f.j;rw[zb a];have:=v m b.1 b.2;rw[a.1] at this;exact⟨zh this,λ_=>this,λq=>zC ⟨m,b.1,b.2,a.1⟩ q⟩;rw[za a];refine⟨p,?_,r⟩;rintro⟨i,c,u,k,h⟩;by_cases d:i=m;subst d;exact zC ⟨h,by rw[h,t];exact n⟩ a;exact o ⟨i,c,η,k,h⟩;rw[za b];refine⟨p,?_,r⟩;rintro⟨i,c,u,k,h⟩;by_cases d:i=m;subst d;exact zC ⟨c,by simpa [g_,c] using k⟩ b;exact o ⟨i,c,η,k,h⟩
def Pb{a:Nat}(h:qJ l a W){row:zl}{g:Nat->Nat}(d:∀i (b:i<l.v.j),leveled l.v[i]=true->row.d i 0=g l.v[i].w)(j:Nat)(c:j<3):((∃i,∃b:i<l.v.j,leveled l.v[i]=true/\l.v[i].w=j)->(uP l row).d j 0=g j)/\((¬∃i,∃b:i<l.v.j,leveled l.v[i]=true/\l.v[i].w=j)->(uP l row).d j 0=0):=by
 have n:∀j,j<3->((([0,0,0]:zl).d j 0=g j∨([0,0,0]:zl).d j 0=0)/\((∃i,∃b:i<l.v.j,i<0/\leveled l.v[i]=true/\l.v[i].w=j)->([0,0,0]:zl).d j 0=g j)/\((¬∃i,∃b:i<l.v.j,leveled l.v[i]=true/\l.v[i].w=j)->([0,0,0]:zl).d j 0=0)):=by
  intro j c;have e:([0,0,0]:zl).d j 0=0:=by
   match j,c with
   |0,_=>rfl
   |1,_=>rfl
   |2,_=>rfl
  exact⟨zg e,fun⟨i,_,q,_⟩=>η,λ_=>e⟩
 have k:=A4 d rfl n;have r:=A4 d (by rw[sm];rfl) k;have o:=A4 d (by rw[sm,sm];rfl) r;obtain⟨_,f,p⟩:=o j c;refine⟨fun⟨i,b,m,s⟩=>f ⟨i,b,?_,m,s⟩,p⟩;have:=h.len;have:=h.le3;omega
def Iq{a:Nat}(h:qJ l a W){row f:zl}:ua l row=Z f↔f=uP l row/\∀i (b:i<l.v.j),kf l.v[i] (row.d i 0) (uP l row)=true:=by
 have c:(xI l row (uP l row) 0&&xI l row (uP l row) 1&&xI l row (uP l row) 2)=true↔∀i (b:i<l.v.j),kf l.v[i] (row.d i 0) (uP l row)=true:=by
  have g:∀i,xI l row (uP l row) i=true↔∀b:i<l.v.j,kf l.v[i] (row.d i 0) (uP l row)=true:=by
   intro i;unfold xI;simp only[ld,decide_eq_true_eq];constructor;rintro(q|q) b;omega;simpa [g_,b] using q;intro q;by_cases b:i<l.v.j;exact zg (by simpa [g_,b] using q b);exact zh η
  simp only[uK,g];constructor;rintro⟨⟨k,m⟩,j⟩ i b;have:=h.len;have:=h.le3;have e:i=0∨i=1∨i=2:=η;rcases e with rfl|rfl|rfl;exact k b;exact m b;exact j b;intro q;exact⟨⟨λb=>q 0 b,λb=>q 1 b⟩,λb=>q 2 b⟩
 unfold ua;by_cases d:(xI l row (uP l row) 0&&xI l row (uP l row) 1&&xI l row (uP l row) 2)=true;rw[zb d];simp only[zt];exact⟨λq=>⟨q.z,c.1 d⟩,λq=>q.1.z⟩;rw[za d];constructor;intro q;cases q;intro q;exact zC (c.2 q.2) d
def Mj{l:Φ}(h:l.Nodup){i j:Nat}(c:i<l.j)(a:j<l.j)(e:l[i]=l[j]):i=j:=by
 have b:=pd.1 h;rcases nE i j with q|q|q;exact zC e (b i j c a q);exact q;exact zC e.z (b j i a c q)
def Ng{a:Nat}(h:qJ l a W)(y:Φ):∃f,ua l (zI l y)=Z f/\f.j=3/\f.G (xi l)=y9 l y 5/\∀j,xi l<=j->f.d j 0=0:=by
 have s:∀i (b:i<l.v.j),(zI l y).d i 0=VQ l.v[i] y:=λi b=>by
  have:=h.len;have:=h.le3;rw[sQ l y η];unfold U5;simp[g_,b]
 have w:∀i (b:i<l.v.j),leveled l.v[i]=true->(zI l y).d i 0=(y9 l y 5).d l.v[i].w 0:=λi b c=>by
  have n:=zr b;rw[h.leveled n] at c;obtain⟨p,o⟩:=h.lev _ n c;rw[s i b];unfold VQ;rw[zb (by simp[c,p])];have:=eH o p;unfold y9;simp[g_,this]
 have r:=λj d=>Pb h (row:=zI l y) (g:=λj=>(y9 l y 5).d j 0) w j d;have q:∀i (b:i<l.v.j),leveled l.v[i]=true->l.v[i].w<xi l:=λi b c=>by
  have n:=zr b;rw[h.leveled n] at c;obtain⟨p,o⟩:=h.lev _ n c;exact oK o p
 have F:=oV h;have m:∀j,xi l<=j->(uP l (zI l y)).d j 0=0:=λj d=>by
  by_cases E:j<3;exact(r j E).2 fun⟨i,b,H,I⟩=>by have:=q i b H;omega
  have:=sX l (zI l y);simp[g_,List.getElem?_eq_none (show(uP l (zI l y)).j<=j by omega)]
 have k:∀j,j<xi l->(uP l (zI l y)).d j 0=(y9 l y 5).d j 0:=λj d=>by
  refine(r j η).1 ?_;rw[lG] at d;have A:=zr d;obtain⟨J,G⟩:=(rK l 5 _).1 A;obtain⟨t,v,x,C⟩:=(f6 l _).1 G;obtain⟨i,b,rfl⟩:=uT v;refine⟨i,b,by rw[h.leveled v];exact x,?_⟩;obtain⟨D,B⟩:=h.lev _ v x;have:=eH B D;rw[C] at this;obtain⟨z,e⟩:=jB.1 this;exact Mj (List.nodup_range.filter _:(yP l 5).Nodup) z d e
 refine⟨uP l (zI l y),(Iq h).2 ⟨rfl,λi b=>?_⟩,sX _ _,?_,m⟩;unfold kf;have n:=zr b;cases c:leveled l.v[i];rw[za ζ,s i b];rw[h.leveled n] at c;unfold VQ;rw[za (by simp[c])];simp;rw[zb rfl,k _ (q i b c),w i b c];simp;refine qR (by rw[vi,sX,pO,←lG];omega) λj p o=>?_;have d:j<xi l:=by rw[pO,←lG] at o;exact o
 have:=k j d;have u:j<(uP l (zI l y)).j:=by rw[sX];omega
 simp only[g_,yn u,yn o,uF] at this;rw[List.getElem_take];exact this
def IC{a:Nat}(h:qJ l a W){row f:zl}(q:UL a row)(s:ua l row=Z f)(y:Φ)(p:f.G (xi l)=y9 l y 5):row=zI l y:=by
 obtain⟨rfl,n⟩:=(Iq h).1 s;refine G0 q (eV h y) λi t r=>?_;have c:i<l.v.j:=by rw[h.len];exact t
 have b:=zr c;have d:=n i c;rw[sQ l y r];unfold U5;rw[zb c,show l.v.d i ⟨false,0,0⟩=l.v[i] by simp[g_,c]];unfold kf at d;unfold VQ;cases g:leveled l.v[i];rw[g,za ζ] at d;rw[h.leveled b] at g;rw[za (by simp[g])];exact(by simpa using d:l.v[i].D=row.d i 0).z;rw[g,zb rfl] at d;rw[h.leveled b] at g;obtain⟨j,o⟩:=h.lev _ b g;rw[zb (by simp[g,j])];have m:=oK o j;have k:=eH o j;have e:(uP l row).d l.v[i].w 0=((uP l row).G (xi l)).d l.v[i].w 0:=by
  simp[g_,m]
 rw[e,p] at d;unfold y9 at d;simp only[g_,n8,k,jY,uF,beq_iff_eq] at d;exact d.z
end
section
variable {W:Nat}{l:zx}{T:zm}
def Va(W:Nat)(row:zl):Prop:=∀v∈row,v<W
def QF{row:zl}(h:Va W row)(b:0<W)(i:Nat):row.d i 0<W:=by
 by_cases a:i<row.j;rw[show row.d i 0=row[i] by simp[g_,a]];exact h _ (zr a);rw[show row.d i 0=0 by simp[g_,a]];exact b
def Bs{row f:zl}(b:0<W)(c:Va W row)(a:Va W f)(i:Nat):Va W (j7 l row f i):=by
 unfold j7;split;intro v d;rcases mA d with q|q;exact a v q;rw[q];exact QF c b i;exact a
def Jm{row f:zl}(c:0<W)(b:Va W row)(a:ua l row=Z f):f.j=3/\Va W f:=by
 unfold ua at a;split at a;simp only[zt] at a;rw[←a];refine⟨sX l row,?_⟩;unfold uP;have d:Va W [0,0,0]:=by intro v e;simp at e;omega
 exact Bs c b (Bs c b (Bs c b d 0) 1) 2;cases a
def CE(T:zm)(row:zl):mm T row=true↔Va T.r row:=by simp[mm,Va]
def BT:∀(rs:List zl) (T:zm),vU T->(∀r∈rs,r.j=3/\Va T.r r)->T.count+rs.j<=9000000->∃a,xZ rs T=Z a/\vU a/\a.r=T.r/\a.ql=T.ql/\a.count<=T.count+rs.j/\∀k,k.j=T.ql->((uD a k).I=true↔(uD T k).I=true∨∃r∈rs,r.G T.ql=k)
 |[],T,h,_,_=>⟨T,rfl,h,rfl,rfl,ζ,λk _=>ζ⟩
 |r::rs,T,h,j,u=>by
  simp only[xp] at u;obtain⟨n,C⟩:=j r ζ;obtain⟨o,m,d,E,y,t,s⟩:=h.add r 0 n ((CE T r).2 C);have f:(yE T r 0).1.count<=T.count+1:=by
   cases g:(yE T r 0).2 with
   |false=>rw[y g];omega
   |true=>rw[t g];exact ze _
  obtain⟨a,p,A,v,w,D,z⟩:=BT rs (yE T r 0).1 o (λx B=>by rw[m];exact j x (by simp[B])) η;unfold xZ;rw[zb (h.okT η)];refine⟨a,p,A,by rw[v,m],by rw[w,d],by simp only[xp];omega,λk i=>?_⟩;rw[z k (by rw[d];exact i),s k i,d];by_cases e:k=r.G T.ql
  .subst e;simp
  .rw[za e];constructor
   .rintro(q|⟨x,b,c⟩)
    .exact zh q
    .exact zg ⟨x,by simp[b],c⟩
   .rintro(q|⟨x,b,c⟩)
    .exact zh q
    .rcases z7.1 b with rfl|b
     .exact zC c.z e
     .exact zg ⟨x,b,c⟩
structure vy (T:zm) (l:zx) (W:Nat) (P:zl->Prop):Prop where
 ok:vU T
 r:T.r=W
 ql:T.ql=xz (xi l)
 sem:∀k,k.j=T.ql->((uD T k).I=true↔∃row f,P row/\ua l row=Z f/\f.G T.ql=k)
def vy.congr{P Q:zl->Prop}(h:vy T l W P)(e:∀x,P x↔Q x):vy T l W Q:=
 ⟨h.ok,h.r,h.ql,λk a=>by rw[h.sem k a];exact⟨fun⟨r,f,q⟩=>⟨r,f,(e r).1 q.1,q.2⟩,fun⟨r,f,q⟩=>⟨r,f,(e r).2 q.1,q.2⟩⟩⟩
def vy.new(l:zx)(w W:Nat)(b:W=zU w):vy (xk w (xi l)) l W (λ_=>False):=by
 refine⟨vU.new _ _,by rw[Ib,b],rG _ _,λk a=>?_⟩;constructor;intro q;rw[i6 _ _ k (by rintro rfl;have:=(mv (xi l)).1;rw[rG] at a;simp at a;omega)] at q;cases q;rintro⟨_,_,q,_⟩;exact q.elim
def vy.adds{P:zl->Prop}(h:vy T l W P)(s:0<W)(a:List zl)(hs:∀r∈a,Va W r)(w:T.count+a.j<=9000000):∃d,xZ (a.filterMap (ua l)) T=Z d/\vy d l W (λx=>P x∨x∈a)/\d.count<=T.count+a.j:=by
 have n:(a.filterMap (ua l)).j<=a.j:=sY _ _;obtain⟨d,q,u,o,g,v,t⟩:=BT (a.filterMap (ua l)) T h.ok (λr p=>by
  obtain⟨x,i,m⟩:=nC.1 p;rw[h.r];exact Jm s (hs x i) m) η
 refine⟨d,q,⟨u,by rw[o,h.r],by rw[g,h.ql],λk j=>?_⟩,η⟩;rw[g] at j;rw[t k j,h.sem k j,g];constructor;rintro(⟨r,f,b,c,e⟩|⟨f,b,c⟩);exact⟨r,f,zh b,c,e⟩;obtain⟨x,i,m⟩:=nC.1 b;exact⟨x,f,zg i,m,c⟩;rintro⟨r,f,b|b,c,e⟩;exact zh ⟨r,f,b,c,e⟩;exact zg ⟨f,nC.2 ⟨r,b,c⟩,e⟩
def C5{k:zl}{d:Nat}(h:k.j=d)(a:d<=3):(V9 k d).j=3:=by simp[V9,h];omega
def sR{k:zl}{d:Nat}(h:k.j=d):(V9 k d).G d=k:=by simp[V9,←h]
def Ee{k:zl}{d:Nat}(b:0<W)(h:Va W k):Va W (V9 k d):=by
 intro v a;unfold V9 at a;rcases zW.1 a with q|q;exact h v q;have:=fw q;simp at this;omega
def vy.join{a:zm}{P Q:zl->Prop}(h:vy T l W P)(k:vy a l W Q)(E:0<W)(F:T.count+a.count<=9000000):∃d,xZ ((UX a).w λx=>V9 x a.ql) T=Z d/\vy d l W (λx=>P x∨Q x)/\d.count<=T.count+a.count:=by
 have g:a.ql=T.ql:=by rw[h.ql,k.ql]
 have C:T.ql<=3:=by rw[h.ql];exact(mv _).2
 obtain⟨d,q,u,B,i,A,t⟩:=BT ((UX a).w λx=>V9 x a.ql) T h.ok (λr p=>by
  obtain⟨x,j,rfl⟩:=z9.1 p;obtain⟨c,b⟩:=(qV a x).1 j;refine⟨C5 c η,?_⟩;rw[h.r];refine Ee E ?_;intro v D;have:=iP x 0 b v D;rw[k.r] at this;exact this) (by simp[k.ok.cnt];omega)
 refine⟨d,q,⟨u,by rw[B,h.r],by rw[i,h.ql],λy m=>?_⟩,by simpa [k.ok.cnt] using A⟩;rw[i] at m;rw[t y m,h.sem y m,i];constructor;rintro(⟨r,f,c,b,e⟩|⟨r,c,b⟩);exact⟨r,f,zh c,b,e⟩;obtain⟨x,j,rfl⟩:=z9.1 c;obtain⟨n,s⟩:=(qV a x).1 j;rw[←g,sR n] at b;subst b;obtain⟨r,f,z,o,w⟩:=(k.sem x n).1 s;exact⟨r,f,zg z,o,by rw[←g];exact w⟩;rintro⟨r,f,c|c,b,e⟩;exact zh ⟨r,f,c,b,e⟩;refine zg ⟨V9 y a.ql,z9.2 ⟨y,(qV a y).2 ⟨η,(k.sem y η).2 ⟨r,f,c,b,by rw[g];exact e⟩⟩,rfl⟩,?_⟩;rw[←g,sR η]
def vy.sat{a D:Nat}{P:zl->Prop}(h:vy T l W P)(j:qJ l a D)(v:∀x,P x->UL a x)(y:Φ):eE T l y↔P (zI l y):=by
 obtain⟨f,u,w,E,G⟩:=Ng j y;have t:=oV j;by_cases b:xi l=0;have i:T.ql=1:=by rw[h.ql,b];rfl
 have C:y9 l y 5=[]:=p5.1 (by rw[pO,←lG];exact b);constructor;intro m;have o:=m.1 b;rw[←h.ok.cnt] at o;obtain⟨k,z⟩:=List.exists_mem_of_length_pos (u_ o);obtain⟨F,A⟩:=(qV T k).1 z;obtain⟨r,g,e,p,n⟩:=(h.sem k F).1 A;have:=IC j (v r e) p y (by rw[b,C];rfl);rw[←this];exact e;intro c;refine⟨λ_ o=>?_,λq=>zC b q⟩;have:(uD T (f.G T.ql)).I=true:=(h.sem _ (by rw[vi,w,i];rfl)).2 ⟨_,f,c,u,rfl⟩;have B:=(qV T _).2 ⟨by rw[vi,w,i];rfl,this⟩;have:=pn B;rw[h.ok.cnt] at this;omega;have s:T.ql=xi l:=by rw[h.ql,tq b t]
 have d:(y9 l y 5).j=T.ql:=by rw[pO,←lG,s]
 constructor;intro m;obtain⟨r,g,e,p,n⟩:=(h.sem _ d).1 (m.2 b);rw[s] at n;have:=IC j (v r e) p y n;rw[←this];exact e;intro c;exact⟨λq=>zC q b,λ_=>(h.sem _ d).2 ⟨_,f,c,u,by rw[s];exact E⟩⟩
structure pW (V:yQ) (l:zx) (W:Nat) (P0 P1:zl->Prop) (Pf:zl->Prop) (c:Nat):Prop where
 lit:V.lit=l
 before:vy V.before l W P0
 qw:vy V.qw l W Pf
 all:vy V.all l W P1
 M:V.before.count+V.qw.count<=c/\V.all.count<=c
def EE{V:yQ}{w:Nat}{k j i:zl->Prop}{c:Nat}(h:pW V l W k j i c)(n:W=zU w)(d:List zl)(hs:∀r∈d,Va W r)(A:c+d.j<=1048576)(e:Nat)(s:3*(W+1)<=e):∃m,fB e w V d=Z m/\pW m l W (λx=>k x∨i x) (λx=>j x∨x∈d) (λx=>x∈d) (c+d.j):=by
 have g:0<W:=by rw[n];unfold zU;split<;>omega
 have p:=h.qw.ok.rowsG e (by rw[h.qw.r];exact s) (by have:=h.M.1;omega);obtain⟨b,t,v,B⟩:=h.before.join h.qw g (by have:=h.M.1;omega);obtain⟨f,o,y,F⟩:=(vy.new l w W n).adds g d hs (by simp[xk,yI];omega);obtain⟨a,q,u,C⟩:=h.all.adds g d hs (by have:=h.M.2;omega);refine⟨{V with before:=b,qw:=f,all:=a},?_,h.lit,v,y.congr (λx=>ζ),u,?_⟩;unfold fB;rw[p,h.lit];simp only[t,o,q];have z:=h.M.1;have E:=h.M.2;have D:(xk w (xi l)).count=0:=rfl;simp only;omega
end
section
open Classical
abbrev DB:=Nat->zl->Option Nat
noncomputable def zzj(ar:List Nat)(R:zw):DB:=λp row=>if p<ar.j/\UL (ar.d p 0) row then ud (R.rows.d p zm.zero) row else Y
structure qX (ar:List Nat) (W:Nat) (R:zw):Prop where
 len:R.rows.j=ar.j
 tries:∀p (hp:p<R.rows.j),vU R.rows[p]/\R.rows[p].r=W/\R.rows[p].ql=xz (ar.d p 0)/\∀k∈UX R.rows[p],UL (ar.d p 0) (V9 k R.rows[p].ql)
 cnt:R.count=(R.rows.w (·.count)).sum
def OJ(l:List zm):∀(p:Nat) (T:zm) (b:p<l.j),((l.set p T).w (·.count)).sum+l[p].count=(l.w (·.count)).sum+T.count:=by
 induction l with
 |nil=>intro p T b;simp at b
 |cons a l c=>
  intro p T b;rcases p with _|p;simp;omega;have:=c p T (by simpa using b);simp at this ⊢;omega
def ib(l:List zm):∀(p:Nat) (b:p<l.j),l[p].count<=(l.w (·.count)).sum:=by
 induction l with
 |nil=>intro p b;simp at b
 |cons a l c=>
  intro p b;rcases p with _|p;simp;have:=c p (by simpa using b);simp at this ⊢;omega
def N0{a:Nat}(f:a<=3){x y:zl}(c:UL a x)(d:UL a y)(e:x.G (xz a)=y.G (xz a)):x=y:=by
 refine G0 c d λi g h=>?_;have b:i<xz a:=by rw[tq η f];exact g
 have:=congrArg (λl=>l.d i 0) e;simpa [g_,List.getElem?_take,b] using this
def C2{a:Nat}(k:a<=3){x:zl}(e:UL a x):V9 (x.G (xz a)) (xz a)=x:=by
 have m:a<=xz a:=by
  by_cases h:a=0;omega;rw[tq h k];exact ze _
 show x.G (xz a)++([0,0,0]:zl).drop (xz a)=x;have b:=e.1;refine qR (by simp[b];omega) λi o l=>?_;have f:=λi (n:xz a<=i)=>e.2 i η;by_cases n:i<xz a;rw[uI (by simp[b];omega)];simp;rw[mh υ];have g:x[i]=0:=by have:=f i η;simpa [g_,l] using this
 rw[g];simp only[List.getElem_drop];have:∀j (d:j<([0,0,0]:Φ).j),([0,0,0]:Φ)[j]=0:=by
  intro j d;have c:j=0∨j=1∨j=2:=by simp at d;omega
  rcases c with rfl|rfl|rfl<;>rfl
 exact this _ _
structure V1 (ar:List Nat) (W k:Nat) (D0:DB) (c0:List Nat) (R:zw):Prop where
 inv:qX ar W R
 Q:R.Q=k
 flen:R.qw.j=ar.j
 qw:∀p (hp:p<R.qw.j),R.qw[p].Nodup/\∀row∈R.qw[p],UL (ar.d p 0) row/\Va W row/\D0 p row=Y
 abs:∀p row,zzj ar R p row=match D0 p row with
  |some m=>Z m
  |none=>if row∈R.qw.d p [] then Z k else Y
 cnts:∀p (hp:p<R.rows.j),R.rows[p].count=c0.d p 0+(R.qw.d p []).j
def U8{α:Type}{l:List α}{i:Nat}(d:α)(h:i<l.j):l.d i d=l[i]:=by simp[g_,h]
def pj{α:Type}(l:List α)(i j:Nat)(v d:α):(l.set i v).d j d=if i=j/\i<l.j then v else l.d j d:=by
 simp only[kZ,sS];by_cases h:i=j;subst h;by_cases a:i<l.j;simp[a];simp[a];simp[h]
def V1.add{g:Φ}{W k:Nat}{D0:DB}{c0:Φ}{R:zw}(h:V1 g W k D0 c0 R)(h3:∀a∈g,a<=3){p:Nat}(F:p<g.j){row:zl}(u:UL (g.d p 0) row)(hs:Va W row){mr:Nat}(hc:R.count<=mr)(hm:mr<=1048576):
  ∃B ok,kq mr R p row=Z (B,ok)/\V1 g W k D0 c0 B/\B.jg=R.jg/\(zzj g B p row).I=true/\(∀q x,x∈R.qw.d q []->x∈B.qw.d q [])/\(∀q x,x∈B.qw.d q []->x∈R.qw.d q []∨q=p/\x=row)/\(ok=true->B.count<=mr)/\(ok=false->B.count>mr):=by
 have f:p<R.rows.j:=by rw[h.inv.len];exact F
 have v:p<R.qw.j:=by rw[h.flen];exact F
 obtain⟨t1,t2,L,t4⟩:=h.inv.tries p f;have M:g.d p 0<=3:=by rw[U8 _ F];exact h3 _ (zr F)
 have S:=ib R.rows p f;rw[←h.inv.cnt] at S;have ab:=h.cnts p f;have I:=(CE R.rows[p] row).2 (by rw[t2];exact hs);obtain⟨P,a2,K,J,a5,a6,Q⟩:=t1.add row R.Q u.1 I;have ae:(row.G R.rows[p].ql).j=R.rows[p].ql:=by
  rw[vi,u.1,L];have:=(mv (g.d p 0)).2;omega
 have H:=λx (i:UL (g.d p 0) x)=>t1.mark x i.1;have w:R.rows.d p zm.zero=R.rows[p]:=U8 _ f;have n:zzj g R p row=uD R.rows[p] (row.G R.rows[p].ql):=by
  unfold zzj;rw[zb ⟨F,u⟩,w,H row u]
 unfold kq;rw[zb ⟨f,v,by rw[w];exact t1.okT η,η,η⟩,w];cases hA:yE R.rows[p] row R.Q with
 |mk T b=>
  rw[hA] at P a2 K J a5 a6 Q;simp only at P a2 K J a5 a6 Q;cases b;have hT:=a5 rfl;subst hT;have C:=tr f;refine⟨{R with rows:=R.rows.set p R.rows[p]},true,rfl,?_,rfl,?_,λq x i=>i,λq x i=>zh i,λ_=>hc,λq=>by cases q⟩;rw[C];exact h;rw[C];show(zzj g R p row).I=true;rw[n];rw[←w_,←J];rfl;have s:uD R.rows[p] (row.G R.rows[p].ql)=none:=by
   rcases j:uD R.rows[p] (row.G R.rows[p].ql) with _|m;rfl;rw[j] at J;cases J
  have A:D0 p row=Y/\row∉R.qw.d p []:=by
   have:=h.abs p row;rw[n,s] at this;rcases j:D0 p row with _|m;rw[j] at this;refine⟨rfl,λaa=>?_⟩;simp only at this;rw[zb aa] at this;cases this;rw[j] at this;cases this
  have N:R.qw.d p []=R.qw[p]:=U8 _ v;have ad:=OJ R.rows p T f;have E:=a6 rfl;have ac:(R.rows.set p T).j=R.rows.j:=ζ;have hinv:qX g W {R with rows:=R.rows.set p T,qw:=R.qw.set p (R.qw.d p []++[row]),count:=R.count+1}:=by
   refine⟨by simp[h.inv.len],λq j=>?_,?_⟩;simp only[dG] at j;simp only[fG];by_cases e:p=q;subst e;simp only[if_true];refine⟨P,by rw[a2,t2],by rw[K,L],λx i=>?_⟩;obtain⟨x1,V⟩:=(qV T x).1 i;rw[K] at x1 ⊢;rw[Q x x1] at V;by_cases G:x=row.G R.rows[p].ql;rw[G,L,C2 M u];exact u;rw[za G] at V;exact t4 x ((qV R.rows[p] x).2 ⟨x1,V⟩);simp only[e,if_false];exact h.inv.tries q j;show R.count+1=((R.rows.set p T).w (·.count)).sum;rw[h.inv.cnt];omega
  have t:∀q,(R.rows.set p T).d q zm.zero=if p=q then T else R.rows.d q zm.zero:=λq=>by
   rw[pj];by_cases e:p=q;rw[zb ⟨e,f⟩,zb e];rw[za (λx=>e x.1),za e]
  have c:∀q,(R.qw.set p (R.qw.d p []++[row])).d q []=if p=q then R.qw.d p []++[row] else R.qw.d q []:=λq=>by
   rw[pj];by_cases e:p=q;rw[zb ⟨e,v⟩,zb e];rw[za (λx=>e x.1),za e]
  have o:∀q x,zzj g {R with rows:=R.rows.set p T,qw:=R.qw.set p (R.qw.d p []++[row]),count:=R.count+1} q x=if q=p/\x=row then Z k else zzj g R q x:=by
   intro q x;unfold zzj;simp only[t];by_cases e:p=q;subst e;simp only[if_true,true_and];by_cases d:p<g.j/\UL (g.d p 0) x;rw[zb d,zb d,w,H x d.2,P.mark x d.2.1,K,Q _ (by rw[vi,d.2.1,L];have:=(mv (g.d p 0)).2;omega)];by_cases G:x=row;subst G;rw[zb rfl,zb rfl,s,h.Q];rfl;rw[za G,za];intro D;rw[L] at D;exact G (N0 M d.2 u D);rw[za d,za d,za];rintro rfl;exact d ⟨F,u⟩;simp only[e,if_false];rw[za (λz:q=p/\x=row=>e z.1.z)]
  refine⟨{R with rows:=R.rows.set p T,qw:=R.qw.set p (R.qw.d p []++[row]),count:=R.count+1},decide (R.count+1<=mr),rfl,⟨hinv,h.Q,by simp[h.flen],λq j=>?_,λq x=>?_,λq j=>?_⟩,rfl,?_,λq x i=>?_,λq x i=>?_,λq=>by simpa using q,λq=>by simpa using q⟩;have l:q<R.qw.j:=by simpa using j
  have e:(R.qw.set p (R.qw.d p []++[row]))[q]=(R.qw.set p (R.qw.d p []++[row])).d q []:=(U8 _ j).z;show((R.qw.set p (R.qw.d p []++[row]))[q]).Nodup/\_;rw[e,c q];by_cases D:p=q;subst D;rw[zb rfl,N];obtain⟨n1,n2⟩:=h.qw p v;rw[N] at A;refine⟨?_,λx i=>?_⟩;rw[so];exact⟨n1,ζ,λx i y hy=>by simp at hy;subst hy;rintro rfl;exact A.2 i⟩;rcases zW.1 i with q|q;exact n2 x q;simp at q;subst q;exact⟨u,hs,A.1⟩;rw[za D,U8 _ l];exact h.qw q l;rw[o];show _=match D0 q x with|some m=>Z m|none=>if x∈(R.qw.set p (R.qw.d p []++[row])).d q [] then Z k else Y
  rw[c q,h.abs q x];by_cases e:q=p/\x=row;obtain⟨rfl,rfl⟩:=e;rw[zb ⟨rfl,rfl⟩,A.1];simp;rw[za e];rcases D0 q x with _|m;simp only;by_cases D:p=q;subst D;rw[zb rfl];have:x≠row:=λe3=>e ⟨rfl,e3⟩;simp[this];rw[za D];rfl;have l:q<R.rows.j:=by simpa using j
  show(R.rows.set p T)[q].count=c0.d q 0+((R.qw.set p (R.qw.d p []++[row])).d q []).j;rw[c q,←U8 zm.zero j,t q];by_cases e:p=q;subst e;rw[zb rfl,zb rfl,E,ab];simp;omega;rw[za e,za e,U8 _ l];exact h.cnts q l;rw[o,zb ⟨rfl,rfl⟩];rfl;show x∈(R.qw.set p (R.qw.d p []++[row])).d q [];rw[c q];by_cases e:p=q;subst e;rw[zb rfl];exact List.mem_append_left _ i;rw[za e];exact i;have r:x∈(R.qw.set p (R.qw.d p []++[row])).d q []:=i;rw[c q] at r;by_cases e:p=q;subst e;rw[zb rfl] at r;rcases zW.1 r with q|q;exact zh q;simp at q;exact zg ⟨rfl,q⟩;rw[za e] at r;exact zh r
end
section
open Classical
variable {Ts Ns:List zm}{W:Nat}
def Ki{r:zv}(d:fM r)(e:ft r Ts W){y:Φ}(h:jK r Ts Ns y){p:Nat}(m:p<r.m):y.d p 0<W:=by
 obtain⟨l,k,f⟩:=d.safe p m;obtain⟨i,c,rfl⟩:=uT k;have b:i<Ts.j:=by rw[e.len];exact c
 obtain⟨_,_,o⟩:=e.ok i _ _ (yn c) (yn b);have n:=d.m;have a:=(rK _ 5 p).2 ⟨η,f⟩;have j:xi r.qc[i]≠0:=by
  rw[lG];intro q;rw[p5.1 q] at a;cases a
 have g:=(h.1 i _ _ (yn c) (yn b)).2 j;have:=iP _ 0 g (y.d p 0) (z9.2 ⟨p,a,rfl⟩);omega
def DV{l:zx}{a:Nat}(h:qJ l a W)(g:0<W){y:Φ}(f:∀p,zL l p=true->y.d p 0<W):Va W (zI l y):=by
 have j:∀i,U5 l y i<W:=by
  intro i;unfold U5;split;rename_i e;rw[show l.v.d i ⟨false,0,0⟩=l.v[i] by simp[g_,e]];have d:=zr e;unfold VQ;split;rename_i b;simp only[uK,decide_eq_true_eq] at b;exact f _ ((f6 l _).2 ⟨_,d,b.1,rfl⟩);rename_i b;cases c:l.v[i].var;exact h.con _ d c;have:=(h.lev _ d c).1;simp[c,this] at b;exact g
 intro v b;simp only[zI,z7,n6,or_false] at b;rcases b with rfl|rfl|rfl<;>exact j _
def r9.y{r:zv}{E g:zl->Prop}{J:zF}{M:Nat}(h:r9 r Ts Ns W E J M)(i:∀x,E x->g x):r9 r Ts Ns W g J M:=by
 rcases h with⟨b,e,c⟩|⟨k,d,f,b,e,c,l,m,j⟩
 exact zh ⟨b,e,λy a=>i _ (c y a)⟩;exact zg ⟨k,d,f,b,e,c,l,λy a=>(m y a).imp (i _) id,j⟩
def V1.jg{a:Φ}{W k:Nat}{D0:DB}{c0:Φ}{R:zw}(h:V1 a W k D0 c0 R)(m:Int):V1 a W k D0 c0 {R with jg:=m}:=
 ⟨⟨h.inv.len,h.inv.tries,h.inv.cnt⟩,h.Q,h.flen,h.qw,h.abs,h.cnts⟩
def V1.grow{b:Φ}{k:Nat}{D0:DB}{c0:Φ}{R R':zw}(h:V1 b W k D0 c0 R)(f:V1 b W k D0 c0 R')(e:∀q x,x∈R.qw.d q []->x∈R'.qw.d q []){p:Nat}{x:zl}(a:(zzj b R p x).I=true):(zzj b R' p x).I=true:=by
 rw[h.abs] at a;rw[f.abs];rcases d:D0 p x with _|m;rw[d] at a;simp only at a ⊢;by_cases c:x∈R.qw.d p [];rw[zb (e p x c)];rfl;rw[za c] at a;cases a;rfl
structure He (ar:List Nat) (W k:Nat) (D0:DB) (c0:List Nat) (p mr:Nat) (sol:zl->Prop) (R R':zw) (ok:Bool):Prop where
 mid:V1 ar W k D0 c0 R'
 y:∀q x,x∈R.qw.d q []->x∈R'.qw.d q []
 sound:∀q x,x∈R'.qw.d q []->x∈R.qw.d q []∨q=p/\sol x
 yes:ok=true->R'.count<=mr/\∀x,sol x->(zzj ar R' p x).I=true
 no:ok=false->R'.count>mr
def QU{d:Φ}{k:Nat}{D0:DB}{c0:Φ}{r:zv}(g:fM r)(w:ft r Ts W)(h3:∀a∈d,a<=3)(hW:0<W)(T:r.g.o<d.j)(F:qJ r.g (d.d r.g.o 0) W)(A:Nat)(L:W*(r.qc.j+1)+r.qc.j<=A){mr:Nat}(u:mr<=1048576):
  ∀(n:Nat) (R:zw) (J:zF) (M:Nat),V1 d W k D0 c0 R->R.count<=mr->r9 r Ts Ns W (λx=>(zzj d R r.g.o x).I=true) J M->M+A+2<n->∃B ok,qa mr r.g.o n R J=Z (B,ok)/\He d W k D0 c0 r.g.o mr (λx=>∃y,jK r Ts Ns y/\x=zI r.g y) R B ok:=by
 intro n;induction n with
 |zero=>intro R J M _ _ _ h;omega
 |succ n ih=>
  intro R J M h E hJ hn;obtain⟨f,b,P,S,V⟩:=Jt g w _ A L n J M hJ η;unfold qa;rw[P];cases b;refine⟨_,true,rfl,h.jg _,λq x c=>c,λq x c=>zh c,λ_=>⟨E,?_⟩,λq=>by cases q⟩;rintro x ⟨y,hy,rfl⟩;exact S rfl y hy;obtain⟨m,m2,G,m3,m4⟩:=V rfl;simp only;rw[m2];have s:=DV F hW λp t=>Ki g w m (g.g p t);obtain⟨C,ok,I,l,_,Q,o,D,N,a8⟩:=h.add h3 T (eV F f.P) s E u;rw[I];cases ok;refine⟨C,false,rfl,l,o,λq x c=>?_,(λq=>by cases q),a8⟩;rcases D q x c with z|⟨j,v⟩;exact zh z;exact zg ⟨j,f.P,m,v⟩;simp only;obtain⟨H,i,K,e⟩:=ih C f G l (N rfl) (m4.y λx c=>by
   rcases c with q|q;exact h.grow l o q;rw[q];exact Q) η
  refine⟨H,i,K,e.mid,λq x c=>e.y q x (o q x c),λq x c=>?_,e.yes,e.no⟩;rcases e.sound q x c with z|z;rcases D q x z with z|⟨j,v⟩;exact zh z;exact zg ⟨j,f.P,m,v⟩;exact zg z
end
section
open Classical
variable {r:zv}{W wd mr:Nat}{c0:List Nat}
def UD(D:DB)(p:Nat)(x:zl):Prop:=(D p x).I=true
def Wt(r:zv)(D:DB)(x:zl):Prop:=∃y,(∀l∈r.qc,UD D l.o (zI l y))/\(∀l∈r.qx,D l.o (zI l y)=Y)/\x=zI r.g y
structure pZ (r:zv) (ar:List Nat) (W:Nat):Prop where
 fine:fM r
 hpred:r.g.o<ar.j
 g:qJ r.g (ar.d r.g.o 0) W
 qc:∀l∈r.qc,l.o<ar.j/\qJ l (ar.d l.o 0) W
 qx:∀l∈r.qx,l.o<ar.j/\qJ l (ar.d l.o 0) W
def wk(a:List Nat)(D:DB):Prop:=∀p x,UD D p x->p<a.j/\UL (a.d p 0) x
def tQ(a:Φ)(R:zw):wk a (zzj a R):=by
 intro p x h;unfold UD zzj at h;split at h;assumption
 cases h
def CO{g:Φ}(m:pZ r g W){R:zw}(v:qX g W R){h:List zm}{P:Nat->zl->Prop}(e:h.j=r.qc.j)(q:∀(i:Nat) (l:zx) (T:zm),r.qc[i]?=Z l->h[i]?=Z T->vy T l W (P i)/\∀x,P i x->UL (g.d l.o 0) x)(y:Φ):
  jK r h (jS wd R r) y↔(∀(i:Nat) (l:zx),r.qc[i]?=Z l->P i (zI l y))/\∀l∈r.qx,zzj g R l.o (zI l y)=none:=by
 have b:∀l∈r.qx,ud (m7 wd R l.o) (zI l y)=zzj g R l.o (zI l y):=by
  intro l a;obtain⟨u,s⟩:=m.qx l a;unfold m7 zzj;rw[za (by rw[v.len];omega),zb ⟨u,eV s y⟩]
 unfold jK jS;constructor;rintro⟨n,p⟩;refine⟨λi l a=>?_,λl a=>?_⟩;have f:i<h.j:=by rw[e];exact(jB.1 a).1
 obtain⟨j,o⟩:=q i l _ a (yn f);exact(j.sat (m.qc l (fy a)).2 o y).1 (n i l _ a (yn f));rw[←b l a];obtain⟨i,c,rfl⟩:=uT a;exact p (r.qx[i],m7 wd R r.qx[i].o) (vh.2 ⟨i,by simp[c],ζ⟩);rintro⟨n,p⟩;refine⟨λi l T a k=>?_,λx t=>?_⟩;obtain⟨j,o⟩:=q i l T a k;exact(j.sat (m.qc l (fy a)).2 o y).2 (n i l a);obtain⟨i,c,rfl⟩:=vh.1 t;simp only[List.length_zip,xv] at c;have d:i<r.qx.j:=η;simp only[List.getElem_zip,xM];rw[b _ (zr d)];exact p _ (zr d)
structure Bq (ar:List Nat) (W:Nat) (w:yi) (r:zv) (D0 D:DB) (c:List Nat):Prop where
 p:w.p=r
 len:w.J.j=r.qc.j
 J:∀(i:Nat) (l:zx) (V:yQ),r.qc[i]?=Z l->w.J[i]?=Z V->pW V l W (UD D0 l.o) (UD D l.o) (λx=>UD D l.o x/\¬UD D0 l.o x) (c.d l.o 0)
def me(W:Nat)(r:zv):Nat:=qo W r.m 0 [] 0+(W*(r.qc.j+1)+r.qc.j)+3
def CT{h:Φ}{k:Nat}{D:DB}(f:pZ r h W)(J:∀a∈h,a<=3)(K:0<W)(w:mr<=1048576){R:zw}(p:V1 h W k D c0 R)(H:R.count<=mr){j:List zm}{P:Nat->zl->Prop}(c:j.j=r.qc.j)(s:∀(i:Nat) (l:zx) (T:zm),r.qc[i]?=Z l->j[i]?=Z T->vy T l W (P i)/\∀x,P i x->UL (h.d l.o 0) x)(E:∀l∈r.qx,∀x,zzj h R l.o x=D l.o x)(b:Nat)(A:me W r<=b):
  ∃m ok,qa mr r.g.o b R (xL r j (jS wd R r))=Z (m,ok)/\He h W k D c0 r.g.o mr (λx=>∃y,((∀(i:Nat) (l:zx),r.qc[i]?=Z l->P i (zI l y))/\∀l∈r.qx,D l.o (zI l y)=Y)/\x=zI r.g y) R m ok:=by
 have B:ft r j W:=⟨c,λi l T e o=>by obtain⟨v,_⟩:=s i l T e o;exact⟨v.ok,v.ql,by rw[v.r];exact ze _⟩⟩;have C:qo W r.m 0 [] 0+(W*(r.qc.j+1)+r.qc.j)+3<=b:=A;obtain⟨m,ok,G,g⟩:=QU (Ns:=jS wd R r) (D0:=D) (c0:=c0) (k:=k) f.fine B J K f.hpred f.g _ (ze _) w b R _ _ p H (Jn f.fine B _) η;have d:∀x,(∃y,jK r j (jS wd R r) y/\x=zI r.g y)↔∃y,((∀(i:Nat) (l:zx),r.qc[i]?=Z l->P i (zI l y))/\∀l∈r.qx,D l.o (zI l y)=Y)/\x=zI r.g y:=by
  intro x;constructor;rintro⟨y,n,t⟩;obtain⟨I,F⟩:=(CO f p.inv c s y).1 n;exact⟨y,⟨I,λl e=>by rw[←E l e];exact F l e⟩,t⟩;rintro⟨y,n,t⟩;exact⟨y,(CO f p.inv c s y).2 ⟨n.1,λl e=>by rw[E l e];exact n.2 l e⟩,t⟩
 exact⟨m,ok,G,g.mid,g.y,λq x u=>(g.sound q x u).imp id λz=>⟨z.1,(d x).1 z.2⟩,λq=>⟨(g.yes q).1,λx u=>(g.yes q).2 x ((d x).2 u)⟩,g.no⟩
structure iU (ar:List Nat) (W k:Nat) (D:DB) (c0:List Nat) (mr:Nat) (want:Nat->zl->Prop) (R R':zw) (ok:Bool):Prop where
 mid:V1 ar W k D c0 R'
 y:∀q x,x∈R.qw.d q []->x∈R'.qw.d q []
 sound:∀q x,x∈R'.qw.d q []->x∈R.qw.d q []∨want q x
 yes:ok=true->R'.count<=mr
 no:ok=false->R'.count>mr
def R8{e:Φ}{k:Nat}{D0 D:DB}{w:yi}(t:Bq e W w r D0 D c0)(I:wk e D)(C:pZ r e W)(K:∀a∈e,a<=3)(M:0<W)(u:mr<=1048576){R:zw}(F:V1 e W k D c0 R)(G:R.count<=mr)(L:∀l∈r.qx,∀x,zzj e R l.o x=D l.o x)(b:Nat)(v:me W r<=b):
  ∃m ok,gS b wd mr true R w=Z (m,ok)/\iU e W k D c0 mr (λq x=>q=r.g.o/\Wt r D x) R m ok/\(ok=true->∀x,Wt r D x->UD (zzj e m) r.g.o x):=by
 have H:∀(i:Nat) (l:zx) (T:zm),r.qc[i]?=Z l->(w.J.w (·.all))[i]?=Z T->vy T l W ((λi x=>∃l,r.qc[i]?=Z l/\UD D l.o x) i)/\∀x,(λi x=>∃l,r.qc[i]?=Z l/\UD D l.o x) i x->UL (e.d l.o 0) x:=by
  intro i l T d j;simp only[n8,qG] at j;obtain⟨V,J,rfl⟩:=j;refine⟨(t.J i l V d J).all.congr λx=>⟨λq=>⟨l,d,q⟩,fun⟨n,c,g⟩=>?_⟩,λx ⟨n,c,g⟩=>?_⟩;rw[d] at c;simp only[zt] at c;subst c;exact g;rw[d] at c;simp only[zt] at c;subst c;exact(I _ x g).2
 obtain⟨m,ok,E,h⟩:=CT (wd:=wd) C K M u F G (by simp[t.len]) H L b v;have f:∀x,(∃y,((∀(i:Nat) (l:zx),r.qc[i]?=Z l->(∃n,r.qc[i]?=Z n/\UD D n.o (zI l y)))/\∀l∈r.qx,D l.o (zI l y)=Y)/\x=zI r.g y)↔Wt r D x:=by
  intro x;constructor;rintro⟨y,⟨c,g⟩,o⟩;refine⟨y,λl d=>?_,g,o⟩;obtain⟨i,A,rfl⟩:=uT d;obtain⟨n,p,B⟩:=c i _ (yn A);rw[yn A] at p;simp only[zt] at p;subst p;exact B;rintro⟨y,c,g,o⟩;exact⟨y,⟨λi l d=>⟨l,d,c l (fy d)⟩,g⟩,o⟩
 unfold gS;rw[zb rfl,t.p];exact⟨m,ok,E,⟨h.mid,h.y,λq x s=>(h.sound q x s).imp id λz=>⟨z.1,(f x).1 z.2⟩,λq=>(h.yes q).1,h.no⟩,λq x s=>(h.yes q).2 x ((f x).2 s)⟩
def WF(r:zv)(D0 D:DB)(i:Nat)(y:List Nat):Prop:=∃(j:Nat) (l:zx),i<=j/\r.qc[j]?=Z l/\UD D l.o (zI l y)/\¬UD D0 l.o (zI l y)/\(∀(t:Nat) (a:zx),r.qc[t]?=Z a->(t<j->UD D0 a.o (zI a y))/\(j<t->UD D a.o (zI a y)))/\∀l∈r.qx,D l.o (zI l y)=Y
def LQ{A:Φ}{k:Nat}{D0 D:DB}{w:yi}(L:Bq A W w r D0 D c0)(hD:wk A D)(aa:∀p x,UD D0 p x->UD D p x)(hr:pZ r A W)(h3:∀a∈A,a<=3)(hW:0<W)(ai:mr<=1048576)(u:Nat)(ah:me W r<=u)(ad:∀l∈r.qx,l.o≠r.g.o):
  ∀(n i:Nat) (R:zw),i+n=w.J.j->V1 A W k D c0 R->R.count<=mr->(∀l∈r.qx,∀x,zzj A R l.o x=D l.o x)->∃R' ok,kw u wd mr w n i R=Z (R',ok)/\iU A W k D c0 mr (λq x=>q=r.g.o/\Wt r D x) R R' ok/\(ok=true->∀y,WF r D0 D i y->UD (zzj A R') r.g.o (zI r.g y)):=by
 intro n;induction n with
 |zero=>
  intro i R hi P hc _;refine⟨R,true,rfl,⟨P,λq x c=>c,λq x c=>zh c,λ_=>hc,λq=>by cases q⟩,λ_ y S=>?_⟩;obtain⟨j,l,b,d,_⟩:=S;have:=(jB.1 d).1;have:=L.len;omega
 |succ n ih=>
  intro i R hi P hc hn;have G:i<w.J.j:=η;have C:i<r.qc.j:=by rw[←L.len];exact G
  have hV:=L.J i _ _ (yn C) (yn G);have ab:=(hr.qc _ (zr C)).2;have hg:w.J.d i ⟨⟨0,[]⟩,zm.zero,zm.zero,zm.zero⟩=w.J[i]:=U8 _ G;unfold kw;rw[hg];by_cases s:w.J[i].qw.count>0;rw[zb s];have hT:∀(t:Nat) (l:zx) (T:zm),r.qc[t]?=Z l->(UR w.J i)[t]?=Z T->vy T l W ((λt x=>∃l,r.qc[t]?=Z l/\(t<i->UD D0 l.o x)/\(t=i->UD D l.o x/\¬UD D0 l.o x)/\(i<t->UD D l.o x)) t)/\∀x,(λt x=>∃l,r.qc[t]?=Z l/\(t<i->UD D0 l.o x)/\(t=i->UD D l.o x/\¬UD D0 l.o x)/\(i<t->UD D l.o x)) t x->UL (A.d l.o 0) x:=by
   intro t l T h I;unfold UR at I;simp only[n8,qG,List.getElem?_zipIdx] at I;obtain⟨⟨V,j⟩,⟨V',af,M⟩,rfl⟩:=I;simp only[uM,yk] at M;obtain⟨rfl,rfl⟩:=M;have J:=L.J t l V' h af;have Q:∀x,(∃l,r.qc[t]?=Z l/\(t<i->UD D0 l.o x)/\(t=i->UD D l.o x/\¬UD D0 l.o x)/\(i<t->UD D l.o x))->UL (A.d l.o 0) x:=by
    rintro x ⟨e,b,d,v,B⟩;rw[h] at b;simp only[zt] at b;subst b;rcases nE t i with z|z|z;exact(hD _ x (aa _ x (d z))).2;exact(hD _ x (v z).1).2;exact(hD _ x (B z)).2
   refine⟨?_,Q⟩;simp only;by_cases h1:t<i;rw[zb h1];refine J.before.congr λx=>⟨λq=>⟨l,h,λ_=>q,λz=>η,λz=>η⟩,fun⟨e,b,d,_,_⟩=>?_⟩;rw[h] at b;simp only[zt] at b;subst b;exact d h1;rw[za h1];by_cases h2:t=i;rw[zb h2];refine J.qw.congr λx=>⟨λq=>⟨l,h,λz=>η,λ_=>q,λz=>η⟩,fun⟨e,b,_,v,_⟩=>?_⟩;rw[h] at b;simp only[zt] at b;subst b;exact v h2;rw[za h2];refine J.all.congr λx=>⟨λq=>⟨l,h,λz=>η,λz=>η,λ_=>q⟩,fun⟨e,b,_,_,B⟩=>?_⟩;rw[h] at b;simp only[zt] at b;subst b;exact B η
  obtain⟨R1,ok,a1,o⟩:=CT (wd:=wd) hr h3 hW ai P hc (by simp[UR,L.len]) hT hn u ah;rw[L.p,a1];have f:∀x,(∃y,((∀(t:Nat) (l:zx),r.qc[t]?=Z l->(∃e,r.qc[t]?=Z e/\(t<i->UD D0 e.o (zI l y))/\(t=i->UD D e.o (zI l y)/\¬UD D0 e.o (zI l y))/\(i<t->UD D e.o (zI l y))))/\∀l∈r.qx,D l.o (zI l y)=Y)/\x=zI r.g y)->Wt r D x:=by
   rintro x ⟨y,⟨b,d⟩,v⟩;refine⟨y,λl h=>?_,d,v⟩;obtain⟨t,ht,rfl⟩:=uT h;obtain⟨e,s1,s2,s3,s4⟩:=b t _ (yn ht);rw[yn ht] at s1;simp only[zt] at s1;subst s1;rcases nE t i with z|z|z;exact aa _ _ (s2 z);exact(s3 z).1;exact s4 z
  cases ok;exact⟨R1,false,rfl,⟨o.mid,o.y,λq x c=>(o.sound q x c).imp id λz=>⟨z.1,f x z.2⟩,(λq=>by cases q),o.no⟩,λq=>by cases q⟩;simp only;obtain⟨b1,b2⟩:=o.yes rfl;have ac:∀l∈r.qx,∀x,zzj A R1 l.o x=D l.o x:=by
   intro l h x;have ag:=ad l h;rw[o.mid.abs,←hn l h x,P.abs];rcases hq:D l.o x with _|m;simp only;by_cases c:x∈R.qw.d l.o [];rw[zb c,zb (o.y _ x c)];rw[za c,za];intro ae;rcases o.sound _ x ae with z|z;exact c z;exact ag z.1;rfl
  obtain⟨R2,F,c1,E,c3⟩:=ih (i+1) R1 η o.mid b1 ac;refine⟨R2,F,c1,⟨E.mid,λq x c=>E.y q x (o.y q x c),λq x c=>?_,E.yes,E.no⟩,λH y S=>?_⟩;rcases E.sound q x c with z|z;exact(o.sound q x z).imp id λz=>⟨z.1,f x z.2⟩;exact zg z;obtain⟨j,l,b,d,v,B,N,q6⟩:=S;by_cases K:j=i;subst K;refine o.mid.grow E.mid E.y (b2 _ ⟨y,⟨λt e g=>⟨e,g,λz=>(N t e g).1 z,λz=>?_,λz=>(N t e g).2 z⟩,q6⟩,rfl⟩);subst z;rw[d] at g;simp only[zt] at g;subst g;exact⟨v,B⟩;exact c3 H y ⟨j,l,η,d,v,B,N,q6⟩;rw[za s];obtain⟨R2,F,c1,E,c3⟩:=ih (i+1) R η P hc hn;refine⟨R2,F,c1,E,λH y S=>?_⟩;obtain⟨j,l,b,d,v,B,N,q6⟩:=S;by_cases K:j=i;subst K;rw[yn C] at d;simp only[zt] at d;subst d;have hs:=(hV.qw.sat ab (λx c=>(hD _ x c.1).2) y).2 ⟨v,B⟩;exact zC (u_ (hs.count hV.qw.ok hV.qw.ql (hr.fine.v _ (zr C)))) s;exact c3 H y ⟨j,l,η,d,v,B,N,q6⟩
end
section
open Classical
variable {W wd:Nat}{D0:DB}{ws:List yi}{rs:List zv}
structure wP (rs:List zv) (ar:List Nat) (W:Nat):Prop where
 H:∀r∈rs,pZ r ar W
 apart:∀r∈rs,∀r'∈rs,∀l∈r.qx,l.o≠r'.g.o
def wV(rs:List zv)(R:zw):Prop:=∀q x,x∈R.qw.d q []->∃r∈rs,q=r.g.o
def V1.qx{a:Φ}{W k:Nat}{D:DB}{c0:Φ}{R:zw}{rs:List zv}(h:V1 a W k D c0 R)(hs:wP rs a W)(g:wV rs R){r:zv}(d:r∈rs):∀l∈r.qx,∀x,zzj a R l.o x=D l.o x:=by
 intro l f x;rw[h.abs];rcases j:D l.o x with _|m;simp only;rw[za];intro c;obtain⟨b,e,i⟩:=g _ x c;exact hs.apart r d b e l f i;rfl
inductive kA (ar:Φ) (W:Nat) (D0 D:DB) (c:Φ):List yi->List zv->Prop
 |nil:kA ar W D0 D c [] []
 |cons {w:yi} {r:zv} {ws:List yi} {rs:List zv}:Bq ar W w r D0 D c->kA ar W D0 D c ws rs->kA ar W D0 D c (w::ws) (r::rs)
def sB(first:Bool)(r:zv)(D0 D:DB)(x:zl):Prop:=if first then Wt r D x else ∃y,WF r D0 D 0 y/\x=zI r.g y
def Oe{h:Φ}{k:Nat}{D:DB}{c0:Φ}(K:wk h D)(J:∀p x,UD D0 p x->UD D p x)(L:∀a∈h,a<=3)(N:0<W){mr:Nat}(v:mr<=1048576)(c:Nat){f:List zv}(hs:wP f h W)(A:∀r∈f,me W r<=c)(first:Bool)(hw:kA h W D0 D c0 ws rs)(i:∀r∈rs,r∈f):
  ∀(R:zw),V1 h W k D c0 R->R.count<=mr->wV f R->∃B ok,gP c wd mr first ws R=Z (B,ok)/\iU h W k D c0 mr (λq x=>∃r∈rs,q=r.g.o/\Wt r D x) R B ok/\wV f B/\(ok=true->∀r∈rs,∀x,sB first r D0 D x->UD (zzj h B) r.g.o x):=by
 induction hw with
 |nil=>
  intro R o C E;exact⟨R,true,rfl,⟨o,λq x b=>b,λq x b=>zh b,λ_=>C,λq=>by cases q⟩,E,λ_ r S=>by cases S⟩
 |@cons w r ws rs m P ih=>
  intro R o C E;have d:=i r ζ;have M:=o.qx hs E d;have u:∃g ok,gS c wd mr first R w=Z (g,ok)/\iU h W k D c0 mr (λq x=>q=r.g.o/\Wt r D x) R g ok/\(ok=true->∀x,sB first r D0 D x->UD (zzj h g) r.g.o x):=by
   cases first
   obtain⟨g,ok,n,e,s⟩:=LQ (wd:=wd) m K J (hs.H r d) L N v c (A r d) (hs.apart r d r d) w.J.j 0 R η o C M;refine⟨g,ok,?_,e,λq x b=>?_⟩;unfold gS;exact n;have H:∃y,WF r D0 D 0 y/\x=zI r.g y:=by simpa [sB] using b
   obtain⟨y,T,rfl⟩:=H;exact s q y T;obtain⟨g,ok,n,e,s⟩:=R8 (wd:=wd) m K (hs.H r d) L N v o C M c (A r d);exact⟨g,ok,n,e,λq x b=>s q x (by simpa [sB] using b)⟩
  obtain⟨g,ok,n,e,s⟩:=u;have t:wV f g:=by
   intro q x b;rcases e.sound q x b with z|z;exact E q x z;exact⟨r,d,z.1⟩
  unfold gP;rw[n];cases ok;exact⟨g,false,rfl,⟨e.mid,e.y,λq x b=>(e.sound q x b).imp id λz=>⟨r,ζ,z⟩,e.yes,e.no⟩,t,λq=>by cases q⟩;simp only;obtain⟨Q,F,b1,l,b3,b4⟩:=ih (λx b=>i x (by simp[b])) g e.mid (e.yes rfl) t;refine⟨Q,F,b1,⟨l.mid,λq x b=>l.y q x (e.y q x b),λq x b=>?_,l.yes,l.no⟩,b3,λG I j x b=>?_⟩;rcases l.sound q x b with z|⟨I,V,z2⟩;exact(e.sound q x z).imp id λz=>⟨r,ζ,z⟩;exact zg ⟨I,by simp[V],z2⟩;rcases z7.1 j with rfl|j;exact e.mid.grow l.mid l.y (s rfl x b);exact b4 G I j x b
def LV{r:zv}{D:DB}(o:∀p x,UD D0 p x->UD D p x){y:Φ}(v:∀l∈r.qc,UD D l.o (zI l y))(B:∀l∈r.qx,D l.o (zI l y)=Y):WF r D0 D 0 y∨Wt r D0 (zI r.g y):=by
 by_cases c:∀l∈r.qc,UD D0 l.o (zI l y);refine zg ⟨y,c,λl f=>?_,rfl⟩;rcases d:D0 l.o (zI l y) with _|m;rfl;have:=o l.o (zI l y) (by unfold UD;rw[d];rfl);unfold UD at this;rw[B l f] at this;cases this;refine zh ?_;have q:∃(j:Nat) (l:zx),r.qc[j]?=Z l/\¬UD D0 l.o (zI l y):=by
  false_or_by_contra
  rename_i h;apply c;intro l f;obtain⟨i,J,rfl⟩:=uT f;false_or_by_contra
  rename_i d;exact h ⟨i,_,yn J,d⟩
 have e:∀n j:Nat,j=n->(∃l,r.qc[j]?=Z l/\¬UD D0 l.o (zI l y))->∃(j:Nat) (l:zx),r.qc[j]?=Z l/\¬UD D0 l.o (zI l y)/\∀(t:Nat) (a:zx),t<j->r.qc[t]?=Z a->UD D0 a.o (zI a y):=by
  intro n;induction n using Nat.strongRecOn with
  |_ n G=>
   rintro j rfl ⟨l,f,d⟩;by_cases b:∃(t:Nat) (a:zx),t<j/\r.qc[t]?=Z a/\¬UD D0 a.o (zI a y);obtain⟨t,a,g,s,k⟩:=b;exact G t g t rfl ⟨a,s,k⟩;refine⟨j,l,f,d,λt a g s=>?_⟩;false_or_by_contra
   rename_i k;exact b ⟨t,a,g,s,k⟩
 obtain⟨w,C,I,H⟩:=q;obtain⟨j,l,A,F,E⟩:=e w w rfl ⟨C,I,H⟩;exact⟨j,l,zs _,A,v l (fy A),F,λt a u=>⟨λz=>E t a z u,λ_=>v a (fy u)⟩,B⟩
def FY{y:Φ}{W wd k:Nat}(J:W=zU wd){D0 D:DB}{c0:Φ}{R':zw}(A:∀p x,UD D0 p x->UD D p x)(d:V1 y W k D c0 R')(M:R'.count<=1048576)(a:Nat)(z:3*(W+1)<=a):
  ∀(ls:List zx) (vs:List yQ),vs.j=ls.j->(∀l∈ls,l.o<y.j)->(∀(i:Nat) (l:zx) (V:yQ),ls[i]?=Z l->vs[i]?=Z V->pW V l W (UD D0 l.o) (UD D l.o) (λx=>UD D l.o x/\¬UD D0 l.o x) (c0.d l.o 0)) →
   ∃b,fP a wd R'.qw vs=Z b/\b.j=ls.j/\∀(i:Nat) (l:zx) (V:yQ),ls[i]?=Z l->b[i]?=Z V->pW V l W (UD D l.o) (UD (zzj y R') l.o) (λx=>UD (zzj y R') l.o x/\¬UD D l.o x) ((R'.rows.w (·.count)).d l.o 0)
 |[],[],_,_,_=>⟨[],rfl,rfl,λi l V h=>by simp at h⟩
 |[],V::vs,t,_,_=>by simp at t
 |l::ls,[],t,_,_=>by simp at t
 |l::ls,V::vs,t,I,K=>by
  have H:=K 0 l V rfl rfl;have v:=I l ζ;have f:l.o<R'.qw.j:=by rw[d.flen];exact v
  have g:l.o<R'.rows.j:=by rw[d.inv.len];exact v
  have u:=d.qw l.o f;have o:=d.cnts l.o g;have B:=ib R'.rows l.o g;rw[←d.inv.cnt] at B;have E:R'.qw.d l.o []=R'.qw[l.o]:=U8 _ f;rw[E] at o;obtain⟨F,L,r⟩:=EE H J R'.qw[l.o] (λx j=>(u.2 x j).2.1) η a z;obtain⟨b,N,R,Q⟩:=FY J A d M a z ls vs (by simpa using t) (λx j=>I x (by simp[j])) (λi C F n w=>K (i+1) C F (by simpa using n) (by simpa using w));have c:∀x,UD (zzj y R') l.o x↔UD D l.o x∨x∈R'.qw[l.o]:=by
   intro x;unfold UD;rw[d.abs,E];cases T:D l.o x with
   |some m=>simp
   |none=>
    simp only;by_cases j:x∈R'.qw[l.o]
    .simp[j]
    .simp[j]
  refine⟨F::b,?_,by simp[R],λi C P n w=>?_⟩
  .unfold fP;rw[H.lit,zb f,E,L,N]
  .cases i with
   |zero=>
    simp only[dS,zt] at n w;subst n;subst w;refine⟨r.lit,r.before.congr λx=>?_,r.qw.congr λx=>?_,r.all.congr λx=>(c x).z,?_⟩
    .constructor
     .rintro(q|q)
      .exact A _ x q
      .exact q.1
     .intro q;by_cases G:UD D0 l.o x
      .exact zh G
      .exact zg ⟨q,G⟩
    .constructor
     .intro q;refine⟨(c x).2 (zg q),λs=>?_⟩;unfold UD at s;rw[(u.2 x q).2.2] at s;cases s
     .rintro⟨S,s⟩;exact((c x).1 S).resolve_left s
    .have e:(R'.rows.w (·.count)).d l.o 0=R'.rows[l.o].count:=by simp[g_,g]
     rw[e,o];exact r.M
   |succ i=>exact Q i C P (by simpa using n) (by simpa using w)
def Ot{d:Φ}{k:Nat}(z:W=zU wd){D:DB}{c0:Φ}{R':zw}(g:∀p x,UD D0 p x->UD D p x)(m:V1 d W k D c0 R')(o:R'.count<=1048576)(a:Nat)(f:3*(W+1)<=a)(v:kA d W D0 D c0 ws rs)(h:∀r∈rs,∀l∈r.qc,l.o<d.j):
  ∃b,dO a wd R'.qw ws=Z b/\kA d W D (zzj d R') (R'.rows.w (·.count)) b rs:=by
 induction v with
 |nil=>exact⟨[],rfl,kA.nil⟩
 |@cons w r ws rs c i t=>
  obtain⟨b,q,n⟩:=t (λx u=>h x (by simp[u]));obtain⟨e,j,s,y⟩:=FY z g m o a f r.qc w.J c.len (h r ζ) c.J;refine⟨{w with J:=e}::b,?_,kA.cons ⟨c.p,s,y⟩ n⟩;unfold dO;rw[j,q]
def jQ(rs:List zv)(D:DB)(p:Nat)(x:zl):Prop:=∃r∈rs,p=r.g.o/\Wt r D x
noncomputable def zzs(rs:List zv)(k:Nat)(D:DB):DB:=λp x=>match D p x with
 |some m=>Z m
 |none=>if jQ rs D p x then Z k else Y
def V1.clear{a:Φ}{R:zw}(h:qX a W R):V1 a W R.Q (zzj a R) (R.rows.w (·.count)) (qZ R):=by
 have d:∀p,(i_ R.rows.j ([]:List zl)).d p []=[]:=λp=>by
  by_cases b:p<R.rows.j<;>simp[g_,b]
 refine⟨⟨h.len,h.tries,h.cnt⟩,rfl,by simp[qZ,h.len],λp b=>?_,λp x=>?_,λp b=>?_⟩;simp only[qZ,ij];exact⟨List.nodup_nil,λx e=>by cases e⟩;show zzj a R p x=match zzj a R p x with|some m=>Z m|none=>if x∈(i_ R.rows.j ([]:List zl)).d p [] then Z R.Q else Y
 rw[d];cases zzj a R p x<;>simp
 show R.rows[p].count=(R.rows.w (·.count)).d p 0+((i_ R.rows.j ([]:List zl)).d p []).j;have c:p<R.rows.j:=b;rw[d,show(R.rows.w (·.count)).d p 0=R.rows[p].count by simp[g_,c]];rfl
def V1.start{a:Φ}{R:zw}(h:qX a W R):V1 a W (R.Q+1) (zzj a R) (R.rows.w (·.count)) (qZ {R with Q:=R.Q+1}):=
 V1.clear (R:={R with Q:=R.Q+1}) ⟨h.len,h.tries,h.cnt⟩
def T9{b:Φ}(u:W=zU wd)(Q:∀a∈b,a<=3){mr:Nat}(F:mr<=1048576)(c:Nat)(hs:wP rs b W)(A:(∀r∈rs,me W r<=c)/\3*(W+1)<=c)(first:Bool){R:zw}(P:qX b W R)(L:R.count<=mr)(t:∀p x,UD D0 p x->UD (zzj b R) p x)(J:kA b W D0 (zzj b R) (R.rows.w (·.count)) ws rs)(D:first=false->∀p x,jQ rs D0 p x->UD (zzj b R) p x):
  ∃d i ok,rm c wd mr first ws R=Z (d,i,ok)/\qX b W d/\d.Q=R.Q+1/\(∀p x,UD (zzj b d) p x->UD (zzs rs (R.Q+1) (zzj b R)) p x)/\(ok=false->d.count>mr)/\(ok=true->d.count<=mr/\zzj b d=zzs rs (R.Q+1) (zzj b R)/\kA b W (zzj b R) (zzj b d) (d.rows.w (·.count)) i rs):=by
 have V:0<W:=by rw[u];unfold zU;split<;>omega
 have E:=V1.start P;have w:∀q x,x∉(qZ {R with Q:=R.Q+1}).qw.d q []:=λq x h=>by
  have:(i_ R.rows.j ([]:List zl)).d q []=[]:=by by_cases N:q<R.rows.j<;>simp[g_,N]
  have z:x∈(i_ R.rows.j ([]:List zl)).d q []:=h;rw[this] at z;cases z
 obtain⟨d,ok,K,g,a3,H⟩:=Oe (wd:=wd) (tQ b R) t Q V F c hs A.1 first J (λr n=>n) (qZ {R with Q:=R.Q+1}) E L (λq x h=>zC h (w q x))
 have e:∀p x,x∈d.qw.d p []->jQ rs (zzj b R) p x:=λp x h=>(g.sound p x h).resolve_left (w p x);have k:∀p x,UD (zzj b d) p x->UD (zzs rs (R.Q+1) (zzj b R)) p x:=by
  intro p x h;unfold UD at h ⊢;rw[g.mid.abs] at h;unfold zzs;rcases v:zzj b R p x with _|m;rw[v] at h;by_cases o:x∈d.qw.d p [];rw[zb (e p x o)];rfl;rw[za o] at h;cases h;rfl
 unfold rm;rw[K];cases ok;exact⟨d,ws,false,rfl,g.mid.inv,g.mid.Q,k,λ_=>g.no rfl,λq=>by cases q⟩;have j:=g.yes rfl;obtain⟨i,M,S⟩:=Ot u t g.mid η c A.2 J (λr n l T=>((hs.H r n).qc l T).1);simp only[M,jY];refine⟨d,i,true,rfl,g.mid.inv,g.mid.Q,k,λq=>(by cases q),λ_=>⟨j,?_,S⟩⟩;have s:∀p x,jQ rs (zzj b R) p x->UD (zzj b d) p x:=by
  rintro p x ⟨r,n,rfl,y,G,I,rfl⟩;cases first
  rcases LV t G I with q|q;exact H rfl r n _ (by simp only[sB];exact⟨y,q,rfl⟩);have B:=D rfl r.g.o _ ⟨r,n,rfl,q⟩;unfold UD at B ⊢;rw[g.mid.abs];rcases v:zzj b R r.g.o (zI r.g y) with _|m;rw[v] at B;cases B;rfl;exact H rfl r n _ (by simp only[sB,if_true];exact⟨y,G,I,rfl⟩)
 funext p x;have C:=g.mid.abs p x;unfold zzs;rw[C];rcases v:zzj b R p x with _|m;rw[v] at C;by_cases f:jQ rs (zzj b R) p x;have:=s p x f;unfold UD at this;rw[C] at this;by_cases o:x∈d.qw.d p [];rw[zb o,zb f];rw[za o] at this;cases this;rw[za f,za (λo=>f (e p x o))];rfl
end
section
open Classical
def rD{c:Φ}{W:Nat}{R:zw}(h:qX c W R)(r:∀a∈c,a<=3){p:Nat}(i:p<R.rows.j)(x:zl):x∈(UX R.rows[p]).w (λk=>V9 k R.rows[p].ql)↔UD (zzj c R) p x:=by
 obtain⟨m,t,l,s⟩:=h.tries p i;have b:p<c.j:=by rw[←h.len];exact i
 have g:c.d p 0<=3:=by rw[U8 _ b];exact r _ (zr b)
 have j:R.rows[p].ql<=3:=by rw[l];exact(mv _).2
 have e:R.rows.d p zm.zero=R.rows[p]:=U8 _ i;unfold UD zzj;constructor;intro d;obtain⟨k,n,rfl⟩:=z9.1 d;obtain⟨o,q⟩:=(qV _ k).1 n;rw[zb ⟨b,s k n⟩,e,m.mark _ (C5 o j),sR o];exact q;intro d;by_cases f:p<c.j/\UL (c.d p 0) x;rw[zb f,e,m.mark x f.2.1] at d;refine z9.2 ⟨x.G R.rows[p].ql,(qV _ _).2 ⟨by rw[vi,f.2.1];omega,d⟩,?_⟩;rw[l,C2 g f.2];rw[za f] at d;cases d
def lr(D:DB)(n:Nat):Prop:=∃l:List (Nat×zl),l.Nodup/\(∀p x,(p,x)∈l↔UD D p x)/\l.j=n
def Cs:∀{l1 l2:List (Nat×zl)},l1.Nodup->(∀x∈l1,x∈l2)->l1.j<=l2.j
 |[],l2,_,_=>ζ
 |a::l1,l2,f,c=>by
  have e:=c a ζ;have g:=Cs (l1:=l1) (l2:=l2.erase a) (j5.1 f).2 (λx d=>by
   have b:x≠a:=by rintro rfl;exact(j5.1 f).1 d
   exact(lY b).2 (c x (by simp[d])))
  rw[n5 e] at g;have:=pn e;simp;omega
def t9{D E:DB}{n m:Nat}(h:lr D n)(k:lr E m)(hs:∀p x,UD D p x->UD E p x):n<=m:=by
 obtain⟨l,c,d,rfl⟩:=h;obtain⟨f,e,b,rfl⟩:=k;exact Cs c λx a=>(b x.1 x.2).2 (hs _ _ ((d x.1 x.2).1 a))
def Cj{D:DB}{n m:Nat}(h:lr D n)(k:lr D m):n=m:=D_ (t9 h k λ_ _ q=>q) (t9 k h λ_ _ q=>q)
def K4{D E:DB}{n m:Nat}(h:lr D n)(k:lr E m)(hs:∀p x,UD D p x->UD E p x)(e:m<=n):∀p x,UD E p x->UD D p x:=by
 intro p x d;false_or_by_contra
 rename_i g;obtain⟨l,f,c,rfl⟩:=h;obtain⟨i,j,b,rfl⟩:=k;have:=Cs (l1:=(p,x)::l) (l2:=i) (j5.2 ⟨λq=>g ((c p x).1 q),f⟩) (λy a=>by
  rcases z7.1 a with rfl|a;exact(b p x).2 d;exact(b y.1 y.2).2 (hs _ _ ((c y.1 y.2).1 a)))
 simp at this;omega
def qX.card{g:Φ}{W:Nat}{R:zw}(h:qX g W R)(r:∀a∈g,a<=3):lr (zzj g R) R.count:=by
 refine⟨(j_ R.rows.j).flatMap λp=>((UX (R.rows.d p zm.zero)).w λk=>V9 k (R.rows.d p zm.zero).ql).w λx=>(p,x),?_,λp x=>?_,?_⟩;unfold List.Nodup;rw[n_];refine⟨λp f=>?_,?_⟩;have j:=qF.1 f;rw[mV,U8 _ j,mV];refine List.Pairwise.imp_of_mem ?_ (BS R.rows[p] R.rows[p].ql 0 0);intro a b u v c e;simp only[yk,true_and] at e;have l:=((qV R.rows[p] a).1 u).1;have s:=((qV R.rows[p] b).1 v).1;have:=congrArg (List.take R.rows[p].ql) e;rw[sR l,sR s] at this;exact c this;refine List.Pairwise.imp ?_ (List.nodup_range (n:=R.rows.j));intro a b c x d y w e;obtain⟨_,_,rfl⟩:=z9.1 d;obtain⟨_,_,rfl⟩:=z9.1 w;simp only[yk] at e;exact c e.1;simp only[vg,qF];constructor;rintro⟨q,m,d⟩;obtain⟨z,o,e⟩:=z9.1 d;simp only[yk] at e;obtain⟨rfl,rfl⟩:=e;rw[U8 _ m] at o;exact(rD h r m z).1 o;intro d;have f:p<R.rows.j:=by rw[h.len];exact(tQ g R p x d).1
 refine⟨p,f,z9.2 ⟨x,?_,rfl⟩⟩;rw[U8 _ f];exact(rD h r f x).2 d;rw[List.length_flatMap,h.cnt];congr 1;refine qR ζ λi l s=>?_;have t:i<R.rows.j:=by simpa using l
 simp only[xM,fT,xv,U8 zm.zero t];exact(h.tries i t).1.cnt
def tn:DB:=λ_ _=>Y
def Hs{o:Φ}{W wd:Nat}(c:W=zU wd)(s:∀a∈o,a<=3){R:zw}(h:qX o W R)(E:R.count<=1048576)(b:Nat)(j:3*(W+1)<=b):∀(ls:List zx),(∀l∈ls,l.o<o.j)->∃vs,fC b wd R ls=Z vs/\vs.j=ls.j/\∀(i:Nat) (l:zx) (V:yQ),ls[i]?=Z l->vs[i]?=Z V->pW V l W (UD tn l.o) (UD (zzj o R) l.o) (λx=>UD (zzj o R) l.o x/\¬UD tn l.o x) ((R.rows.w (·.count)).d l.o 0)
 |[],_=>⟨[],rfl,rfl,λi l V h=>by simp at h⟩
 |l::ls,A=>by
  obtain⟨vs,C,J,K⟩:=Hs c s h E b j ls (λx t=>A x (by simp[t]));have d:l.o<R.rows.j:=by rw[h.len];exact A l ζ
  obtain⟨z,B,N,P⟩:=h.tries l.o d;have p:=ib R.rows l.o d;rw[←h.cnt] at p;have r:0<W:=by rw[c];unfold zU;split<;>omega
  have m:m7 wd R l.o=R.rows[l.o]:=by unfold m7;rw[za η,U8 _ d]
  have y:=z.rowsG b (by rw[B];exact j) η;have I:pW (gD wd l) l W (λ_=>False) (λ_=>False) (λ_=>False) 0:=⟨rfl,vy.new l wd W c,vy.new l wd W c,vy.new l wd W c,by simp[gD,xk,yI],by simp[gD,xk,yI]⟩;have g:((UX R.rows[l.o]).w λk=>V9 k R.rows[l.o].ql).j=R.rows[l.o].count:=by rw[xv];exact z.cnt
  obtain⟨M,G,n⟩:=EE I c ((UX R.rows[l.o]).w λk=>V9 k R.rows[l.o].ql) (λx t=>by
   obtain⟨k,D,rfl⟩:=z9.1 t;refine Ee r ?_;intro v L;have:=iP k 0 ((qV _ k).1 D).2 v L;rw[B] at this;exact this) (by rw[g];omega) b j
  have f:∀x,¬UD tn l.o x:=λx q=>by cases q
  refine⟨M::vs,?_,by simp[J],λi F H w u=>?_⟩
  .unfold fC;rw[m,y];simp only[G,C]
  .cases i with
   |zero=>
    simp only[dS,zt] at w u;subst w;subst u;refine⟨n.lit,n.before.congr λx=>⟨λq=>by rcases q with q|q<;>exact q.elim,λq=>zC q (f x)⟩,n.qw.congr λx=>?_,n.all.congr λx=>?_,?_⟩
    .rw[rD h s d];exact⟨λq=>⟨q,f x⟩,λq=>q.1⟩
    .rw[rD h s d];exact⟨λq=>q.resolve_left id,zg⟩
    .have e:(R.rows.w (·.count)).d l.o 0=R.rows[l.o].count:=by simp[g_,d]
     have:=n.M;rw[g] at this;rw[e];simpa using this
   |succ i=>exact K i F H (by simpa using w) (by simpa using u)
def EI{f:Φ}{W wd:Nat}(e:W=zU wd)(k:∀a∈f,a<=3){R:zw}(h:qX f W R)(o:R.count<=1048576)(c:Nat)(g:3*(W+1)<=c)(s:Nat):∀(b:List zv),(∀r∈b,∀l∈r.qc,l.o<f.j)->∃d,UZ c wd R s b=Z d/\kA f W tn (zzj f R) (R.rows.w (·.count)) d (b.filter λr=>decide (r.L=s))
 |[],_=>⟨[],rfl,kA.nil⟩
 |r::b,n=>by
  obtain⟨d,j,m⟩:=EI e k h o c g s b (λx q=>n x (by simp[q]));unfold UZ;by_cases i:r.L=s
  .obtain⟨vs,u,p,t⟩:=Hs e k h o c g r.qc (n r ζ);rw[zb i,u,j];refine⟨⟨r,vs⟩::d,rfl,?_⟩;rw[List.filter_cons_of_pos (by simp[i])];exact kA.cons ⟨rfl,p,t⟩ m
  .rw[za i];refine⟨d,j,?_⟩;rw[List.filter_cons_of_neg (by simp[i])];exact m
def kA.j{b:Φ}{W:Nat}{D0 D:DB}{c:Φ}{a:List yi}{rs:List zv}(h:kA b W D0 D c a rs):a.j=rs.j:=by
 induction h with
 |nil=>rfl
 |cons _ _ d=>simp[d]
end
section
open Classical
variable {mr mx:Nat}
def mZ(D:DB)(mr:Nat):Prop:=∃n,n<=mr/\lr D n
noncomputable def zy9(rs:List zv)(mr:Nat):Nat->Nat->DB->Option (DB×Nat)
 |0,_,_=>Y
 |left+1,k,D=>
  if mZ (zzs rs (k+1) D) mr then
   if ∀p x,UD (zzs rs (k+1) D) p x->UD D p x then Z (zzs rs (k+1) D,k+1)
   else zy9 rs mr left (k+1) (zzs rs (k+1) D)
  else Y
noncomputable def zzc(rules:List zv)(mr mx:Nat):Nat->Nat->Nat->DB->Option (DB×Nat)
 |0,_,k,D=>Z (D,k)
 |n+1,s,k,D=>
  if (rules.filter λr=>decide (r.L=s))=[] then zzc rules mr mx n (s+1) k D
  else match zy9 (rules.filter λr=>decide (r.L=s)) mr (mx-k) k D with
   |none=>Y
   |some (D',k')=>zzc rules mr mx n (s+1) k' D'
noncomputable def z0v(fs:List jM):DB:=λp x=>if ∃f∈fs,f.o=p/\f.row=x then Z 0 else Y
noncomputable def z1h(S:j8)(mr mx:Nat):Option (DB×Nat):=if mZ (z0v S.facts) mr then zzc S.H mr mx S.N.j 0 0 (z0v S.facts) else Y
def R0(rs:List zv)(k:Nat)(D:DB):∀p x,UD D p x->UD (zzs rs k D) p x:=by
 intro p x h;unfold UD zzs at *;rcases a:D p x with _|m;rw[a] at h;cases h;rfl
def Fz{rs:List zv}{k:Nat}{D:DB}:∀p x,jQ rs D p x->UD (zzs rs k D) p x:=by
 intro p x h;unfold UD zzs;rcases a:D p x with _|m;simp only;rw[zb h];rfl;rfl
def La{c:Φ}{W wd:Nat}(w:W=zU wd)(D:∀a∈c,a<=3)(G:mr<=1048576){rs:List zv}(hs:wP rs c W)(B:Nat)(J:(∀r∈rs,me W r<=B)/\3*(W+1)<=B):
  ∀(n:Nat) (first:Bool) (u:List yi) (R:zw) (D0:DB),qX c W R->R.count<=mr->R.Q<=mx->(∀p x,UD D0 p x->UD (zzj c R) p x)->kA c W D0 (zzj c R) (R.rows.w (·.count)) u rs->(first=false->∀p x,jQ rs D0 p x->UD (zzj c R) p x)->B+(mx-R.Q)<n →
  ∃k ok,gR wd mr mx n first u R=Z (k,ok)/\(ok=false->zy9 rs mr (mx-R.Q) R.Q (zzj c R)=Y)/\(ok=true->qX c W k/\k.count<=mr/\k.Q<=mx/\zy9 rs mr (mx-R.Q) R.Q (zzj c R)=Z (zzj c k,k.Q)):=by
 intro n;induction n with
 |zero=>intro first u R D0 _ _ _ _ _ _ h;omega
 |succ n ih=>
  intro first u R D0 L S hk F hw C hn
  unfold gR;by_cases l:R.Q≥mx;rw[zb l];refine⟨R,false,rfl,λ_=>?_,λq=>by cases q⟩;rw[show mx-R.Q=0 by omega];rfl;rw[za l];obtain⟨left,j⟩:∃left,mx-R.Q=left+1:=⟨mx-R.Q-1,η⟩;obtain⟨d,E,ok,N,A,I,V,a5,Q⟩:=T9 w D G n hs ⟨λr M=>by have:=J.1 r M;omega,by have:=J.2;omega⟩ first L S F hw C
  rw[N];have b:=A.card D;have f:=L.card D;rw[j];cases ok;refine⟨d,false,rfl,λ_=>?_,λq=>by cases q⟩;unfold zy9;rw[za];rintro⟨m,m1,m2⟩;have:=t9 b m2 V;have:=a5 rfl;omega;obtain⟨z,v,T⟩:=Q rfl;simp only;have s:mZ (zzj c d) mr:=⟨d.count,z,b⟩;have g:∀p x,UD (zzj c R) p x->UD (zzj c d) p x:=by rw[v];exact R0 _ _ _
  by_cases i:d.count>R.count;rw[zb i];have t:¬∀p x,UD (zzj c d) p x->UD (zzj c R) p x:=λq=>by
   have:=t9 b f q;omega
  obtain⟨P,y,c1,K,H⟩:=ih false E d (zzj c R) A z η g T (λ_ p x hx=>by rw[v];exact Fz p x hx) η;have hl:mx-d.Q=left:=η;have e:zy9 rs mr (left+1) R.Q (zzj c R)=zy9 rs mr left d.Q (zzj c d):=by
   rw[zy9,←v,zb s,za t,I]
  rw[hl] at K H;exact⟨P,y,c1,λq=>by rw[e];exact K q,λq=>by rw[e];exact H q⟩;rw[za i];have o:=K4 f b g η;refine⟨d,true,rfl,λq=>(by cases q),λ_=>⟨A,z,η,?_⟩⟩;rw[zy9,←v,zb s,zb o,I]
structure i4 (rs:List zv) (ar:List Nat) (W:Nat):Prop where
 H:∀r∈rs,pZ r ar W
 apart:∀r∈rs,∀r'∈rs,r.L=r'.L->∀l∈r.qx,l.o≠r'.g.o
def i4.jm{a:List zv}{d:Φ}{W:Nat}(h:i4 a d W)(s:Nat):wP (a.filter λr=>decide (r.L=s)) d W:=by
 refine⟨λr c=>h.H r (xw.1 c).1,λr c e b l g=>h.apart r (xw.1 c).1 e (xw.1 b).1 ?_ l g⟩;have f:=(xw.1 c).2;have i:=(xw.1 b).2;simp at f i;omega
def Lq{e:Φ}{W wd:Nat}(f:W=zU wd)(z:∀a∈e,a<=3)(t:mr<=1048576){b:List zv}(w:i4 b e W)(B:Nat)(o:(∀r∈b,me W r<=B)/\3*(W+1)<=B)(c:Nat)(M:B+mx<c):
  ∀(n s:Nat) (R:zw),qX e W R->R.count<=mr->R.Q<=mx->∃g ok,gh c wd mr mx b n s R=Z (g,ok)/\(ok=false->zzc b mr mx n s R.Q (zzj e R)=Y)/\(ok=true->qX e W g/\g.count<=mr/\zzc b mr mx n s R.Q (zzj e R)=Z (zzj e g,g.Q)):=by
 intro n;induction n with
 |zero=>intro s R i j _;exact⟨R,true,rfl,λq=>(by cases q),λ_=>⟨i,j,rfl⟩⟩
 |succ n C=>
  intro s R i j v;obtain⟨u,I,A⟩:=EI f z i η c (by have:=o.2;omega) s b (λr m l K=>((w.H r m).qc l K).1);have d:=A.j;unfold gh rz;rw[I];simp only;unfold zzc;by_cases k:(b.filter λr=>decide (r.L=s))=[];rw[zb k];rw[k] at d;rw[za (by simp at d;simp[d])];simp only;exact C (s+1) R i j v;rw[za k];have h:u.j>0:=by rw[d];exact List.length_pos_iff.2 k
  rw[zb h];obtain⟨y,ok,D,H,J⟩:=La f z t (mx:=mx) (w.jm s) B ⟨λr m=>o.1 r (xw.1 m).1,o.2⟩ c true u R tn i j v (λp x q=>by cases q) A (λq=>by cases q) η;rw[D];cases ok;refine⟨y,false,rfl,λ_=>?_,λq=>by cases q⟩;rw[H rfl];obtain⟨E,L,F,G⟩:=J rfl;simp only;rw[G];exact C (s+1) y E L F
def CJ{d:Φ}{W:Nat}(w:∀a∈d,a<=3){mr:Nat}(e:mr<=1048576){k:Nat}{D0:DB}{c0:Φ}:∀(fs:List jM) (R:zw),(∀f∈fs,f.o<d.j/\UL (d.d f.o 0) f.row/\Va W f.row)->V1 d W k D0 c0 R->R.count<=mr->∃c ok,gN mr fs R=Z (c,ok)/\V1 d W k D0 c0 c/\(∀q x,x∈R.qw.d q []->x∈c.qw.d q [])/\(∀q x,x∈c.qw.d q []->x∈R.qw.d q []∨∃f∈fs,f.o=q/\f.row=x)/\(ok=true->c.count<=mr/\∀f∈fs,UD (zzj d c) f.o f.row)/\(ok=false->c.count>mr)
 |[],R,_,j,m=>⟨R,true,rfl,j,λq x b=>b,λq x b=>zh b,λ_=>⟨m,λf h=>by cases h⟩,λq=>by cases q⟩
 |f::fs,R,h,j,m=>by
  obtain⟨A,K,M⟩:=h f ζ;obtain⟨s,ok,C,n,_,H,v,t,F,J⟩:=j.add w A K M m e;unfold gN;rw[C];cases ok with
  |false=>
   refine⟨s,false,rfl,n,v,λq x b=>?_,(λq=>by cases q),J⟩;rcases t q x b with z|⟨l,p⟩
   .exact zh z
   .exact zg ⟨f,ζ,l.z,p.z⟩
  |true=>
   simp only;obtain⟨B,i,E,y,u,G,r,I⟩:=CJ w e fs s (λx b=>h x (by simp[b])) n (F rfl);refine⟨B,i,E,y,λq x b=>u q x (v q x b),λq x b=>?_,λq=>⟨(r q).1,λg o=>?_⟩,I⟩
   .rcases G q x b with z|⟨g,L,D⟩
    .rcases t q x z with z|⟨l,p⟩
     .exact zh z
     .exact zg ⟨f,ζ,l.z,p.z⟩
    .exact zg ⟨g,by simp[L],D⟩
   .rcases z7.1 o with rfl|o
    .exact n.grow y u H
    .exact(r q).2 g o
structure su (S:j8):Prop where
 small:∀a∈S.N,a<=3
 facts:∀f∈S.facts,f.o<S.N.j/\UL (S.N.d f.o 0) f.row/\Va (zU S.r) f.row
 H:i4 S.H S.N (zU S.r)
def NY(S:j8):qX S.N (zU S.r) ⟨S.N.w (xk S.r),0,0,0,[]⟩:=by
 refine⟨ζ,λp f=>?_,?_⟩;have b:p<S.N.j:=by simpa using f
 simp only[xM];refine⟨vU.new _ _,Ib _ _,by rw[rG,U8 _ b],λk e=>?_⟩;obtain⟨d,c⟩:=(qV _ k).1 e;rw[i6 _ _ k (by rintro rfl;have:=(mv S.N[p]).1;rw[rG] at d;simp at d;omega)] at c;cases c;show 0=_;rw[nI];have:∀l:Φ,(l.w ((λT:zm=>T.count) ∘ xk S.r)).sum=0:=by
  intro l;induction l with
  |nil=>rfl
  |cons a l g=>simp only[xU,q7,g];rfl
 exact(this _).z
def E8(S:j8)(p:Nat)(x:zl):zzj S.N ⟨S.N.w (xk S.r),0,0,0,[]⟩ p x=none:=by
 unfold zzj;split;rename_i a;have b:p<(S.N.w (xk S.r)).j:=by simpa using a.1
 show ud ((S.N.w (xk S.r)).d p zm.zero) x=Y;rw[U8 _ b,xM,(vU.new _ _).mark x a.2.1,i6];intro e;have:=congrArg x_ e;rw[vi,a.2.1,rG] at this;have:=mv S.N[p];simp at *;omega;rfl
def LA{S:j8}(h:su S)(v:mr<=1048576):∃N,∀b,N<=b->∃g,nY b S mr mx=Z g/\(g=Y->z1h S mr mx=Y)/\∀R,g=Z R->qX S.N (zU S.r) R/\R.count<=mr/\z1h S mr mx=Z (zzj S.N R,R.Q):=by
 obtain⟨B,s⟩:∃B,(∀r∈S.H,me (zU S.r) r<=B)/\3*(zU S.r+1)<=B:=by
  have:∀w:List zv,∃B,∀r∈w,me (zU S.r) r<=B:=by
   intro w;induction w with
   |nil=>exact⟨0,λr d=>by cases d⟩
   |cons a w V=>
    obtain⟨B,s⟩:=V;refine⟨B+me (zU S.r) a,λr d=>?_⟩;rcases z7.1 d with rfl|d;omega;have:=s r d;omega
  obtain⟨B,s⟩:=this S.H;exact⟨B+3*(zU S.r+1),λr d=>by have:=s r d;omega,η⟩
 refine⟨B+mx+1,λb ab=>?_⟩;have l:=V1.clear (NY S);have aa:qZ ⟨S.N.w (xk S.r),0,0,0,[]⟩=hY S:=rfl;obtain⟨R,ok,J,i,a3,G,M,L⟩:=CJ h.small v S.facts (hY S) h.facts l (zs _);have t:∀q x,x∉(hY S).qw.d q []:=λq x j=>by
  have u:x∈(i_ (S.N.w (xk S.r)).j ([]:List zl)).d q []:=j;have:∀n,(i_ n ([]:List zl)).d q []=[]:=λn=>by by_cases P:q<n<;>simp[g_,P]
  rw[this] at u;cases u
 have k:∀p x,UD (zzj S.N R) p x->UD (z0v S.facts) p x:=by
  intro p x j;unfold UD at j ⊢;rw[i.abs,E8] at j;by_cases e:x∈R.qw.d p [];unfold z0v;rw[zb ((G p x e).resolve_left (t p x))];rfl;rw[za e] at j;cases j
 unfold nY;rw[J];cases ok;refine⟨Y,rfl,λ_=>?_,λR q=>by cases q⟩;unfold z1h;rw[za];rintro⟨m,m1,m2⟩;have:=t9 (i.inv.card h.small) m2 k;have:=L rfl;omega;obtain⟨F,b2⟩:=M rfl;have A:R.Q=0:=i.Q;have o:zzj S.N R=z0v S.facts:=by
  funext p x;have z:=i.abs p x;rw[E8] at z;rw[z];unfold z0v;by_cases y:∃f∈S.facts,f.o=p/\f.row=x;rw[zb y];obtain⟨f,I,rfl,rfl⟩:=y;have:=b2 f I;unfold UD at this;rw[z] at this;by_cases e:f.row∈R.qw.d f.o [];rw[zb e];rw[za e] at this;cases this;rw[za y,za];intro e;exact y ((G p x e).resolve_left (t p x))
 have C:mZ (z0v S.facts) mr:=⟨R.count,F,by rw[←o];exact i.inv.card h.small⟩;obtain⟨K,D,c1,H,E⟩:=Lq rfl h.small v (mx:=mx) h.H B s b η S.N.j 0 R i.inv F η;simp only[c1,jY];rw[A,o] at H E;have c:z1h S mr mx=zzc S.H mr mx S.N.j 0 0 (z0v S.facts):=by
  unfold z1h;rw[zb C]
 cases D;exact⟨Y,rfl,λ_=>by rw[c];exact H rfl,λR q=>by cases q⟩;refine⟨Z K,rfl,(λq=>by cases q),λR2 q=>?_⟩;simp only[zt] at q;subst q;obtain⟨T,Q,W⟩:=E rfl;exact⟨T,Q,by rw[c];exact W⟩
end
def Vy(b:UInt8):Int:=(b.D:Int)
def VZ:List UInt8->Int
 |[]=>0
 |b::_=>Vy b
def lW(l:List UInt8)(k:Int):Nat:=if k=9 then 2 else if k=1∨k=2 then(l.takeWhile λb=>Ve (Vy b)).j else if k=3 then(l.takeWhile λb=>yY (Vy b)).j else 1
def pp:Nat->List UInt8->Option (List UA)
 |0,_=>Z []
 |_+1,[]=>Z []
 |n+1,a::l=>
  if qU (Vy a) then pp n l
  else if xy (Vy a) (VZ l)=0 then Y
  else if 6<lW (a::l) (xy (Vy a) (VZ l)) then Y
  else(pp n ((a::l).drop (lW (a::l) (xy (Vy a) (VZ l))))).w ((xy (Vy a) (VZ l),(⟨((a::l).G (lW (a::l) (xy (Vy a) (VZ l)))).F⟩:ByteArray))::·)
def oT(s:Λ)(i:Nat):UC s i=VZ (s.data.v.drop i):=by
 unfold UC;split;rename_i h;have a:i<s.data.v.j:=by simpa using h
 rw[yK a];simp[VZ,Vy,ByteArray.getElem_eq_getElem_data];rename_i h;rw[uk (by have:s.data.v.j=s.q:=(by rw[nZ];rfl);omega)];rfl
def Ik(p:Int->Bool)(s:Λ):∀(n i:Nat),s.q-i<=n->yN p s i=i+((s.data.v.drop i).takeWhile λb=>p (Vy b)).j:=by
 have e:s.data.v.j=s.q:=by rw[nZ];rfl
 intro n;induction n with
 |zero=>
  intro i h;rw[fS η,uk η];simp
 |succ n f=>
  intro i h;by_cases d:i<s.q;have a:=oT s i;rw[yK η] at a ⊢;simp only[VZ] at a;cases c:p (UC s i);rw[p6 c,ro,←a,c];simp;rw[np d c,f (i+1) η,ro,←a,c];simp;omega;rw[fS d,uk η];simp
def LG{s:Λ}{i:Nat}{k:Int}(a:k≠0):y7 s i k=i+lW (s.data.v.drop i) k:=by
 unfold y7 lW;rw[za a];split;rfl;split;exact Ik Ve s _ i (ze _);split;exact Ik yY s _ i (ze _);rfl
def PF(s:Λ)(i m:Nat):s.extract i (i+m)=⟨((s.data.v.drop i).G m).F⟩:=by
 apply ByteArray.ext;rw[ByteArray.data_extract];apply Array.ext';simp[List.take_drop]
def Ph(s:Λ):∀(n i:Nat),UJ n s i=pp n (s.data.v.drop i):=by
 have j:s.data.v.j=s.q:=by rw[nZ];rfl
 intro n;induction n with
 |zero=>intro i;rfl
 |succ n g=>
  intro i;by_cases h:i<s.q;have d:=oT s i;have b:=oT s (i+1);have f:∀k,k≠0->y7 s i k=i+lW (s.data.v.drop i) k:=λk c=>LG c;have e:=PF s i;have a:∀m,s.data.v.drop (i+m)=(s.data.v.drop i).drop m:=λm=>by rw[List.drop_drop]
  have o:=yK (l:=s.data.v) (i:=i) η;unfold UJ;rw[zb h];rw[o] at d f e a ⊢;unfold pp;simp only[VZ] at d;rw[d,b,g];split;rfl;split;rfl;rename_i c;generalize xy (Vy s.data.v[i]) (VZ (List.drop (i+1) s.data.v))=k at *;rw[f k c];generalize lW (s.data.v[i]::List.drop (i+1) s.data.v) k=m at *;rw[oo,e m,g,a m];rw[sH h,uk η];rfl
structure rc (x:List UInt8):Prop where
 ne:x≠[]
 six:x.j<=6
 kind:(xg (VZ x)=true∨qA (VZ x)=true)/\(∀b∈x,Ve (Vy b)=true)∨yY (VZ x)=true/\∀b∈x,yY (Vy b)=true
def bl(x:ByteArray):List UInt8:=x.data.v
def nQ(l:zk):Prop:=(rc (bl l.o)/\xg (VZ (bl l.o))=true)/\∀x∈l.k,rc (bl x)
def rn(c:zd):Prop:=c.g.i=false/\nQ c.g/\∀l∈c.d,nQ l
section
variable {r r2:List UA}
def nL(x:UA):Prop:=VE x.1=true->rc (bl x.2)/\(x.1=1->xg (VZ (bl x.2))=true)
def BU(p:UInt8->Bool)(l:List UInt8):l.G (l.takeWhile p).j=l.takeWhile p:=by
 induction l with
 |nil=>rfl
 |cons a l b=>
  rw[ro];split;simp[b];rfl
def wT{p:UInt8->Bool}:∀{l:List UInt8} {b:UInt8},b∈l.takeWhile p->p b=true
 |[],_,h=>by simp at h
 |a::l,b,h=>by
  rw[ro] at h;split at h
  .rename_i c;rcases z7.1 h with rfl|h
   .exact c
   .exact wT h
  .cases h
def Cc:∀(n:Nat) (l:List UInt8) (ts:Δ),pp n l=Z ts->∀x∈ts,nL x
 |0,_,ts,h,x,f=>by simp[pp] at h;subst h;cases f
 |_+1,[],ts,h,x,f=>by simp[pp] at h;subst h;cases f
 |n+1,a::l,ts,h,x,f=>by
  unfold pp at h;split at h
  .exact Cc n l ts h x f
  .split at h
   .cases h
   .rename_i y;split at h
    .cases h
    .rename_i t;obtain⟨v,w,rfl⟩:=qG.1 h;rcases z7.1 f with rfl|f
     .intro s;simp only at s ⊢;have u:∀m,bl (⟨((a::l).G m).F⟩:Λ)=(a::l).G m:=λm=>by simp[bl]
      rw[u];generalize c:xy (Vy a) (VZ l)=k at *;unfold xy at c;by_cases g:xg (Vy a)=true
      .rw[zb g] at c;subst c;have e:lW (a::l) 1=((a::l).takeWhile λb=>Ve (Vy b)).j:=rfl;rw[e] at t ⊢;rw[BU];have d:(a::l).takeWhile (λb=>Ve (Vy b))=a::l.takeWhile (λb=>Ve (Vy b)):=by rw[ro,zb (by simp[Ve,g])]
       refine⟨⟨by rw[d];simp,η,zh ⟨zh (by rw[d];exact g),λb i=>wT (p:=λb=>Ve (Vy b)) i⟩⟩,λ_=>by rw[d];exact g⟩
      .rw[za g] at c;by_cases o:qA (Vy a)=true
       .rw[zb o] at c;subst c;have e:lW (a::l) 2=((a::l).takeWhile λb=>Ve (Vy b)).j:=rfl;rw[e] at t ⊢;rw[BU];have d:(a::l).takeWhile (λb=>Ve (Vy b))=a::l.takeWhile (λb=>Ve (Vy b)):=by rw[ro,zb (by simp[Ve,o])]
        exact⟨⟨by rw[d];simp,η,zh ⟨zg (by rw[d];exact o),λb i=>wT (p:=λb=>Ve (Vy b)) i⟩⟩,λq=>by cases q⟩
       .rw[za o] at c;by_cases j:yY (Vy a)=true
        .rw[zb j] at c;subst c;have e:lW (a::l) 3=((a::l).takeWhile λb=>yY (Vy b)).j:=rfl;rw[e] at t ⊢;rw[BU];have d:(a::l).takeWhile (λb=>yY (Vy b))=a::l.takeWhile (λb=>yY (Vy b)):=by rw[ro,zb (by simp[j])]
         exact⟨⟨by rw[d];simp,η,zg ⟨by rw[d];exact j,λb i=>wT (p:=λb=>yY (Vy b)) i⟩⟩,λq=>by cases q⟩
        .exfalso;rw[za j] at c;split at c
         .subst c;simp[VE] at s
         .unfold fE at c
          (repeat' split at c)<;>subst c<;>simp[VE] at s
     .exact Cc n _ v w x f
def FI:∀(r:Δ) {ts:List Λ} {r2:Δ},y5 r=Z (ts,r2)->(∀x∈r,nL x)->(∀y∈ts,rc (bl y))/\∀x∈r2,x∈r
 |[],_,_,h,_=>by simp[y5] at h
 |[x],ts,r2,h,b=>by
  simp only[y5] at h;split at h
  .rename_i c;simp only[zt,yk] at h;obtain⟨rfl,rfl⟩:=h;exact⟨λy d=>by simp at d;subst d;exact(b x ζ c).1,ζ⟩
  .cases h
 |x::y::r,ts,r2,h,b=>by
  simp only[y5] at h;split at h
  .rename_i c;split at h
   .obtain⟨z,f,e⟩:=qG.1 h;simp only[yk] at e;obtain⟨rfl,rfl⟩:=e;obtain⟨i,g⟩:=FI r (ts:=z.1) (r2:=z.2) f (λu a=>b u (by simp[a]));refine⟨λu a=>?_,λu a=>by simp[g u a]⟩;rcases z7.1 a with rfl|a
    .exact(b x ζ c).1
    .exact i u a
   .simp only[zt,yk] at h;obtain⟨rfl,rfl⟩:=h;exact⟨λu a=>by simp at a;subst a;exact(b x ζ c).1,λu a=>by simp[List.mem_cons.1 a]⟩
  .cases h
def lz{x:UA}(h:x∈r.tail):x∈r:=by
 rcases r with _|⟨a,r⟩;exact h;simp at h;simp[h]
def AI{l:zk}(h:x6 r=Z (l,r2))(d:∀x∈r,nL x):l.i=false/\nQ l/\∀x∈r2,x∈r:=by
 unfold x6 at h;split at h;rename_i e;rcases r with _|⟨a,r⟩;simp[US] at e;have m:a.1=1:=e;have f:=d a ζ (by rw[m];rfl);have j:rc (bl a.2)/\xg (VZ (bl a.2))=true:=⟨f.1,f.2 m⟩;change (if US r=4 then(match y5 r.tail with|none=>Y|some (k,r2)=>if US r2=5 then Z ((⟨false,a.2,k⟩:zk),r2.tail) else Y) else Z ((⟨false,a.2,[]⟩:zk),r))=Z (l,r2) at h;by_cases g:US r=4;rw[zb g] at h;rcases c:y5 r.tail with _|z;rw[c] at h;cases h;obtain⟨k,q⟩:=z;rw[c] at h;simp only at h;by_cases i:US q=5;rw[zb i] at h;simp only[zt,yk] at h;obtain⟨rfl,rfl⟩:=h;obtain⟨p,o⟩:=FI _ c (λu b=>d u (by simp[lz b]));exact⟨rfl,⟨j,p⟩,λu b=>by simp[lz (o u (lz b))]⟩;rw[za i] at h;cases h;rw[za g] at h;simp only[zt,yk] at h;obtain⟨rfl,rfl⟩:=h;exact⟨rfl,⟨j,λy n=>by cases n⟩,λu b=>by simp[b]⟩;cases h
def N8{l:zk}(h:vm r=Z (l,r2))(b:∀x∈r,nL x):nQ l/\∀x∈r2,x∈r:=by
 unfold vm at h;split at h;obtain⟨z,d,c⟩:=qG.1 h;simp only[yk] at c;obtain⟨rfl,rfl⟩:=c;obtain⟨_,f,e⟩:=AI (l:=z.1) (r2:=z.2) d (λu a=>b u (lz a));exact⟨f,λu a=>lz (e u a)⟩;exact(AI h b).2
def CD:∀(n:Nat) {r:Δ} {b:Ω} {r2:Δ},un n r=Z (b,r2)->(∀x∈r,nL x)->(∀l∈b,nQ l)/\∀x∈r2,x∈r
 |0,_,_,_,h,_=>by cases h
 |n+1,r,b,r2,h,f=>by
  unfold un at h;split at h
  .cases h
  .rename_i a p j;obtain⟨g,d⟩:=N8 j f;split at h
   .obtain⟨z,m,i⟩:=qG.1 h;simp only[yk] at i;obtain⟨rfl,rfl⟩:=i;obtain⟨k,o⟩:=CD n (b:=z.1) (r2:=z.2) m (λu e=>f u (d u (lz e)));refine⟨λl c=>?_,λu e=>d u (lz (o u e))⟩;rcases z7.1 c with rfl|c
    .exact g
    .exact k l c
   .simp only[zt,yk] at h;obtain⟨rfl,rfl⟩:=h;exact⟨λl c=>by simp at c;subst c;exact g,d⟩
def QB{n:Nat}{c:zd}(h:vJ n r=Z (c,r2))(g:∀x∈r,nL x):rn c/\∀x∈r2,x∈r:=by
 unfold vJ at h;split at h;cases h;rename_i a s j;obtain⟨f,i,e⟩:=AI j g;split at h;split at h;cases h;rename_i b q k;split at h;simp only[zt,yk] at h;obtain⟨rfl,rfl⟩:=h;obtain⟨m,o⟩:=CD n k (λu d=>g u (e u (lz d)));exact⟨⟨f,i,m⟩,λu d=>e u (lz (o u (lz d)))⟩;cases h;split at h;simp only[zt,yk] at h;obtain⟨rfl,rfl⟩:=h;exact⟨⟨f,i,λl p=>by cases p⟩,λu d=>e u (lz d)⟩;cases h
def DQ{n:Nat}:∀(m:Nat) {r:Δ} {cs:Ξ},yW n m r=Z cs->(∀x∈r,nL x)->∀c∈cs,rn c
 |m,[],cs,h,_=>by cases m<;>(simp[yW] at h;subst h;simp)
 |0,_::_,cs,h,_=>by simp[yW] at h
 |m+1,x::r,cs,h,b=>by
  unfold yW at h;split at h
  .cases h
  .rename_i c r2 d;obtain⟨g,f⟩:=QB d b;obtain⟨j,e,rfl⟩:=qG.1 h;intro z a;rcases z7.1 a with rfl|a
   .exact g
   .exact DQ m e (λu i=>b u (f u i)) z a
def Ml{s:Λ}{l:Δ}(h:UG s=Z l):∀x∈l,nL x:=by
 unfold UG at h;rw[Ph] at h;exact Cc _ _ _ h
end
section
variable {hs:List Nat}
def V7(V:Nat):List Nat->Nat
 |[]=>0
 |h::r=>V*(h+V7 V r)+1
def VL(V:Nat):List Nat->List Nat->Nat->Nat
 |h::r,f::a,d=>(V-f)*(h+V7 V r)+1+(match d with|0=>0|d+1=>VL V r a d)
 |_,_,_=>0
def B4(V:Nat):∀(hs b:Φ) {d e:Nat},d<=e->VL V hs b d<=VL V hs b e
 |[],_,_,_,_=>by simp[VL]
 |_::_,[],_,_,_=>by simp[VL]
 |h::r,f::a,0,e,_=>by simp[VL]
 |h::r,f::a,d+1,0,q=>η
 |h::r,f::a,d+1,e+1,q=>by
  have:=B4 V r a (d:=d) (e:=e) η;simp only[VL];omega
def Gs(V:Nat)(hs a:Φ):VL V hs (a.set 0 0) 0<=V7 V hs:=by
 rcases hs with _|⟨h,r⟩;simp[VL];cases a<;>simp[VL,V7]
def G6(V:Nat){v:Nat}(m:v<V):∀(d:Nat) (hs c:Φ),d<hs.j->d<c.j->c.d d 0<=v->VL V hs ((c.set d (v+1)).set (d+1) 0) (d+1)+hs.d d 0*(v+1-c.d d 0)<=VL V hs c d
 |0,h::r,f::e,_,_,g=>by
  have i:=Gs V r e;simp only[ml,pu,VL,s_] at g ⊢;obtain⟨a,s⟩:∃a,V=a+(v+1):=⟨V-(v+1),η⟩;obtain⟨b,p⟩:∃b,v=b+f:=⟨v-f,η⟩;have l:V-(v+1)=a:=η;have k:V-f=a+(b+1):=η;have j:v+1-f=b+1:=η;rw[l,k,j];have q:(a+(b+1))*(h+V7 V r)=a*(h+V7 V r)+((b+1)*h+(b*V7 V r+V7 V r)):=by rw[mn,p_ (b+1),mn b 1 (V7 V r),A_]
  have o:h*(b+1)=(b+1)*h:=Nat.mul_comm _ _;omega
 |d+1,h::r,f::e,i,n,g=>by
  have:=G6 V m d r e (by simpa using i) (by simpa using n) (by simpa using g);simp only[pu,VL,t_] at this ⊢;omega
 |_,[],_,h,_,_=>by simp at h
 |_,_::_,[],_,h,_=>by simp at h
def D8(V:Nat):∀(d:Nat) (hs a:Φ),d<hs.j->d<a.j->hs.d d 0*(V-a.d d 0)+1<=VL V hs a d/\∀b,b<d->VL V hs a b+(hs.d d 0*(V-a.d d 0)+1)<=VL V hs a d
 |0,h::r,f::c,_,_=>by
  refine⟨?_,λb g=>η⟩;simp only[VL,s_,p_];rw[Nat.mul_comm h];omega
 |d+1,h::r,f::c,i,j=>by
  obtain⟨k,e⟩:=D8 V d r c (by simpa using i) (by simpa using j);simp only[VL,t_];refine⟨η,λb g=>?_⟩;cases b with
  |zero=>simp only;omega
  |succ b=>have:=e b η;simp only;omega
 |_,[],_,h,_=>by simp at h
 |_,_::_,[],_,h=>by simp at h
def VV(V:Nat)(hs a:List Nat)(d:Int):Nat:=if d<0 then 0 else VL V hs a d.D
def OR(V:Nat)(hs a:Φ){d e:Int}(h:d<=e):VV V hs a d<=VV V hs a e:=by
 unfold VV;split;omega;split;omega;exact B4 V hs a η
structure Wp (V:Nat) (hs:List Nat) (J:zF):Prop where
 wide:∀i,(J.ja.d i xa.zero).rows.r<=V
 jf:∀p,p<hs.j->(J.jf.d p []).j=hs.d p 0
 m:J.m=hs.j
 five:hs.j<=5
 ji:∀p,p<hs.j->J.ji.d p 0<(p:Int)
 last:J.last<(hs.j:Int)
 flen:J.from.j=5
def Wp.same{V:Nat}{J a:zF}(h:Wp V hs J)(s:qS J a):Wp V hs a:=by
 rw[s];exact⟨h.wide,h.jf,h.m,h.five,h.ji,h.last,h.flen⟩
def Oc{T:zm}{a f v:Nat}(h:yJ T a f=Z v):f<T.r/\v<T.r:=by
 unfold yJ at h;split at h;rename_i q;simp only at h;split at h;cases h;cases h;exact⟨q.2,η⟩;cases h
def Au{V:Nat}(hs:List (Nat×Nat)):∀(n:Nat) (J:zF) (at' a b m:Nat) (f:zF) (o:Option Nat),(∀i,(J.ja.d i xa.zero).rows.r<=V)->J.jg=(m:Int)->m+hs.j*(V-at')+1<9223372036854775808+a->(a=0∨at'<V)->a<=hs.j->gU n J hs at' a b=Z (f,o)->∃e:Nat,f.jg=(e:Int)/\qS J f/\(o=Y->e+a<=m+hs.j*(V-at')+1)/\∀v,o=Z v->at'<=v/\(0<hs.j->v<V)/\e+a<=m+hs.j*(v+1-at')
 |0,_,_,_,_,_,_,_,_,_,_,_,_,h=>by simp[gU] at h
 |n+1,J,at',a,b,m,f,o,y,p,G,d,F,h=>by
  simp only[gU] at h;by_cases j:a<hs.j
  .rw[zb j] at h;unfold qv at h;by_cases k:qk J (hs.d b (0,0))=true
   .rw[zb k] at h;have D:m+1<9223372036854775808:=by
     rcases d with rfl|d
     .omega
     .have:hs.j*1<=hs.j*(V-at'):=nF _ η;omega
    have w:IntKind.i64.wrap (J.jg+1)=((m+1:Nat):Int):=by rw[p,IntKind.wrap_i64];omega
    rw[w] at h;cases s:yJ (J.ja.d (hs.d b (0,0)).1 xa.zero).rows ((J.ja.d (hs.d b (0,0)).1 xa.zero).B.d (hs.d b (0,0)).2 0) at' with
    |none=>
     rw[s] at h;simp only[zt,yk] at h;obtain⟨rfl,rfl⟩:=h;refine⟨m+1,rfl,rfl,λ_=>?_,λv q=>by cases q⟩;rcases d with rfl|d
     .omega
     .have:hs.j*1<=hs.j*(V-at'):=nF _ η;omega
    |some v=>
     rw[s] at h;simp only at h;obtain⟨H,C⟩:=Oc s;have I:=y (hs.d b (0,0)).1;have t:at'<V:=η;have x:v<V:=η;by_cases c:v>at'
     .rw[zb c,zb c] at h;have M:hs.j*(V-at')=hs.j*(V-v)+hs.j*(v-at'):=by rw[←p_];congr 1;omega
      have L:hs.j*1<=hs.j*(v-at'):=nF _ η;obtain⟨e,z,g,A,l⟩:=Au hs n {J with jg:=((m+1:Nat):Int)} v (0+1) _ (m+1) f o (λi=>y i) rfl η (zg x) η h;refine⟨e,z,?_,λq=>?_,λu q=>?_⟩
      .unfold qS at g ⊢;rw[g]
      .have:=A q;omega
      .obtain⟨B,r,E⟩:=l u q;refine⟨η,r,?_⟩;have K:hs.j*(u+1-at')=hs.j*(u+1-v)+hs.j*(v-at'):=by rw[←p_];congr 1;omega
       omega
     .rw[za c,za c] at h;obtain⟨e,z,g,A,l⟩:=Au hs n {J with jg:=((m+1:Nat):Int)} at' (a+1) _ (m+1) f o (λi=>y i) rfl η (zg t) η h;refine⟨e,z,?_,λq=>?_,λu q=>?_⟩
      .unfold qS at g ⊢;rw[g]
      .have:=A q;omega
      .obtain⟨B,r,E⟩:=l u q;exact⟨B,r,η⟩
   .rw[za k] at h;simp only[zt,yk] at h;obtain⟨rfl,rfl⟩:=h;refine⟨m,p,rfl,λ_=>?_,λv q=>by cases q⟩;rcases d with rfl|d
    .omega
    .have:hs.j*1<=hs.j*(V-at'):=nF _ η;omega
  .rw[za j] at h;simp only[zt,yk] at h;obtain⟨rfl,rfl⟩:=h;refine⟨m,p,rfl,(λq=>by cases q),λv q=>?_⟩;cases q;refine⟨ze _,λq=>?_,?_⟩
   .rcases d with rfl|d
    .omega
    .exact d
   .have:at'+1-at'=1:=η;rw[this];omega
def J4{V:Nat}{J:zF}(h:Wp V hs J){n d f m:Nat}(i:d<hs.j)(e:J.jg=(m:Int))(k:m+hs.d d 0*(V-f)+1<9223372036854775808){c:zF}{o:Option Nat}(a:lc n J d f=Z (c,o)):∃b:Nat,c.jg=(b:Int)/\qS J c/\(o=Y->b<=m+hs.d d 0*(V-f)+1)/\∀v,o=Z v->f<=v/\v<V/\b<=m+hs.d d 0*(v+1-f):=by
 unfold lc at a;split at a;simp only[zt,yk] at a;obtain⟨rfl,rfl⟩:=a;exact⟨m,e,rfl,λ_=>η,λv q=>by cases q⟩;rename_i j;rw[←h.jf d i] at k ⊢;obtain⟨b,r,l,s,g⟩:=Au _ n J f 0 0 m c o h.wide e η (zh rfl) (zs _) a;refine⟨b,r,l,λq=>by have:=s q;omega,λv q=>?_⟩;obtain⟨p,t,u⟩:=g v q;exact⟨p,t η,η⟩
def Is(v:Nat):∀(hs:List (Nat×Nat)) (J:zF),∃a,hs.H (vR v) J={J with ja:=a}/\∀i,(a.d i xa.zero).rows=(J.ja.d i xa.zero).rows
 |[],J=>⟨J.ja,rfl,λ_=>rfl⟩
 |h::r,J=>by
  obtain⟨g,b,e⟩:∃a,vR v J h={J with ja:=a}/\∀i,(a.d i xa.zero).rows=(J.ja.d i xa.zero).rows:=by
   unfold vR;split
   .exact⟨J.ja,rfl,λ_=>rfl⟩
   .refine⟨_,rfl,λi=>?_⟩;rw[pj];split
    .rename_i q;rw[q.1]
    .rfl
  obtain⟨c,d,f⟩:=Is v r (vR v J h);refine⟨c,?_,λi=>?_⟩
  .rw[uQ,d,b]
  .rw[f,b];exact e i
def Wp.G{V:Nat}{J:zF}(h:Wp V hs J){d v:Nat}(f:d<hs.j):Wp V hs (uG J d v)/\(uG J d v).jg=J.jg/\(uG J d v).from=(J.from.set d (v+1)).set (d+1) 0:=by
 have g:=h.five;have a:=h.flen;have e:(if d+1<5 then(J.from.set d (v+1)).set (d+1) 0 else J.from.set d (v+1))=(J.from.set d (v+1)).set (d+1) 0:=by
  split;rfl;exact(List.set_eq_of_length_le υ).z
 unfold uG;rw[za η,e];obtain⟨j,c,b⟩:=Is v (J.jf.d d []) {J with P:=J.P.set d v,«from»:=(J.from.set d (v+1)).set (d+1) 0};rw[c];exact⟨⟨λi=>by rw[b];exact h.wide i,h.jf,h.m,h.five,h.ji,h.last,by simp[a]⟩,rfl,rfl⟩
def Ba{V:Nat}{hs:Φ}{B:Nat}(A:B<9223372036854775808):∀(n:Nat) (J:zF) (d:Int) (m:Nat) (a:zF) (o:Bool),Wp V hs J->J.jg=(m:Int)->d<=hs.j->m+VV V hs J.from d<=B->jR n J d=Z (a,o)->Wp V hs a/\∃r:Nat,a.jg=(r:Int)/\r<=B/\(o=true->r+VV V hs a.from hs.j<=B)
 |0,_,_,_,_,_,_,_,_,_,h=>by simp[jR] at h
 |n+1,J,d,m,a,o,c,u,S,j,h=>by
  simp only[jR] at h;have W:=c.five;have G:=c.m;by_cases w:0<=d/\d<(J.m:Int)/\d<5
  .rw[zb w] at h;obtain⟨k,rfl⟩:∃k:Nat,d=(k:Int):=⟨d.D,η⟩;have e:k<hs.j:=η;have f:k<J.from.j:=by rw[c.flen];omega
   simp only[l_] at h;have p:VV V hs J.from (k:Int)=VL V hs J.from k:=by unfold VV;rw[za η,l_]
   rw[p] at j;obtain⟨Q,N⟩:=D8 V k hs J.from e f;cases l:lc n J k (J.from.d k 0) with
   |none=>rw[l] at h;simp at h
   |some x=>
    obtain⟨i,L⟩:=x;rw[l] at h;obtain⟨z,t,y,I,E⟩:=J4 c e u η l;have b:=c.same y;have g:i.from=J.from:=by rw[y]
    cases L with
    |none=>
     simp only at h;have s:=b.ji k e;have:=I rfl;refine Ba A n i _ z a o b t η ?_ h;rw[g];unfold VV;split
     .omega
     .have:=N (i.ji.d k 0).D η;omega
    |some v=>
     simp only at h;obtain⟨D,M,R⟩:=E v rfl;obtain⟨F,C,K⟩:=b.G (v:=v) e;have H:=G6 V M k hs J.from e f D;have P:=B4 V hs ((J.from.set k (v+1)).set (k+1) 0) (Nat.le_add_right k 1);refine Ba A n (uG i k v) _ z a o F (by rw[C,t]) (by split<;>omega) ?_ h;rw[K,g];split
     .unfold VV;rw[za η,l_];omega
     .unfold VV;rw[za η,show((k:Int)+1).D=k+1 from by omega];omega
  .rw[za w] at h;simp only[zt,yk] at h;obtain⟨rfl,rfl⟩:=h;refine⟨c,m,u,η,λq=>?_⟩;have T:d≥(J.m:Int):=by simpa using q
   rw[show d=(hs.j:Int) from by omega] at j;exact j
end
section
variable {R R':zw}{mr:Nat}
def Kj{V:Nat}{hs:Φ}{B:Nat}(k:B<9223372036854775808){n:Nat}{J b:zF}{m:Nat}{o:Bool}(g:Wp V hs J)(p:J.jg=(m:Int))(i:J.ql<=hs.j)(j:m+VV V hs J.from J.ql<=B)(h:hX n J=Z (b,o)):Wp V hs b/\b.ql<=hs.j/\∃d:Nat,b.jg=(d:Int)/\d+VV V hs b.from b.ql<=B:=by
 unfold hX at h;rcases e:jR n J J.ql with _|x;rw[e] at h;simp at h;obtain⟨c,f⟩:=x;rw[e] at h;simp only[zt,yk] at h;obtain⟨rfl,rfl⟩:=h;obtain⟨a,d,s,l,r⟩:=Ba k n J J.ql m c f g p i j e;refine⟨⟨a.wide,a.jf,a.m,a.five,a.ji,a.last,a.flen⟩,?_,d,s,?_⟩;have:=a.last;show(if f=true then c.last else -1)<=_;split<;>omega
 show d+VV V hs c.from (if f=true then c.last else -1)<=B;split;rename_i q;have:=r q;have:=OR V hs c.from (Int.le_of_lt a.last);omega;simp only[VV];rw[zb η];exact l
def VR(R R':zw)(c:Nat):Prop:=R'.Q=R.Q/\∀k:Nat,R.jg=(k:Int)->k+c<9223372036854775808->∃a:Nat,R'.jg=(a:Int)/\a<=k+c
def VR.A{R b a:zw}{c d:Nat}(h:VR R b c)(g:VR b a d):VR R a (c+d):=
 ⟨g.1.A h.1,λk e n=>by
  obtain⟨j,i,o⟩:=h.2 k e η;obtain⟨f,l,m⟩:=g.2 j i η;exact⟨f,l,η⟩⟩
def VR.y{c d:Nat}(h:VR R R' c)(g:c<=d):VR R R' d:=
 ⟨h.1,λk a f=>by
  obtain⟨e,b,i⟩:=h.2 k a η;exact⟨e,b,η⟩⟩
def VR.refl(R:zw):VR R R 0:=⟨rfl,λk a _=>⟨k,a,η⟩⟩
def I2{p:Nat}{x:zl}{ok:Bool}(h:kq mr R p x=Z (R',ok)):VR R R' 0:=by
 have:R'.jg=R.jg/\R'.Q=R.Q:=by
  unfold kq at h;split at h;split at h;cases h;exact⟨rfl,rfl⟩;cases h;exact⟨rfl,rfl⟩;cases h
 exact⟨this.2,λk a _=>⟨k,by rw[this.1,a],η⟩⟩
def CF{V:Nat}{hs:Φ}{B:Nat}(f:B<9223372036854775808){mr p:Nat}:∀(n:Nat) (R:zw) (J:zF) (m:Nat) (R':zw),Wp V hs J->J.jg=(m:Int)->J.ql<=hs.j->m+VV V hs J.from J.ql<=B->qa mr p n R J=Z (R',true)->VR R R' B
 |0,_,_,_,_,_,_,_,_,h=>by simp[qa] at h
 |n+1,R,J,m,R',i,s,j,l,h=>by
  simp only[qa] at h;cases b:hX n J with
  |none=>rw[b] at h;simp at h
  |some x=>
   obtain⟨a,o⟩:=x;rw[b] at h;obtain⟨r,u,d,e,g⟩:=Kj f i s j l b;cases o with
   |false=>
    simp only[zt,yk,and_true] at h;subst h;refine⟨rfl,λk q v=>⟨k+d,?_,η⟩⟩;show IntKind.i64.wrap (R.jg+a.jg)=_;rw[q,e,IntKind.wrap_i64];omega
   |true=>
    simp only at h;cases c:kq mr R p (zI a.g a.P) with
    |none=>rw[c] at h;simp at h
    |some y=>
     obtain⟨t,ok⟩:=y;rw[c] at h;cases ok with
     |false=>simp at h
     |true=>
      have:=(I2 c).A (CF f n t a d R' r e u g h);exact this.y η
def Vu(r:zv):List Nat:=(j_ r.m).w λp=>(xx r p).j
def Hh{V:Nat}{r:zv}(m:r.m<=5){b Ns:List zm}(k:∀T∈b,T.r<=V){p n:Nat}(j:V7 V (Vu r)<9223372036854775808)(h:qa mr p n R (xL r b Ns)=Z (R',true)):VR R R' (V7 V (Vu r)):=by
 obtain⟨c,l,g⟩:=Bc r b Ns;have e:c=-1∨c=0:=by rw[g];split<;>(try split)<;>simp
 rw[l] at h;have a:(Vu r).j=r.m:=by simp[Vu]
 refine CF (V:=V) (hs:=Vu r) j n R _ 0 R' ⟨λi=>?_,λq d=>?_,a.z,η,λq d=>?_,?_,rfl⟩ rfl ?_ ?_ h;show((b.w λT=>(⟨T,[0,0,0]⟩:xa)).d i xa.zero).rows.r<=V;by_cases f:i<b.j;rw[U8 _ (by simpa using f),xM];exact k _ (zr f);rw[kZ,d8 (by simpa using f)];exact zs _;show(((j_ 5).w (xx r)).d q []).j=_;rw[a] at d;rw[U8 _ υ,U8 _ η];simp[Vu];show((j_ 5).w λp=>xQ r (p:Nat)).d q 0<_;rw[a] at d;rw[U8 _ υ];simp only[xM,fT];exact(ty r η).1;show xQ r r.m<_;rw[a];exact(ty r η).1;show c<=_;omega;show 0+VV V (Vu r) [0,0,0,0,0] c<=_;rcases e with rfl|rfl;simp[VV];have:=Gs V (Vu r) [0,0,0,0,0];simpa [VV] using this
def j0(V:Nat)(r:zv):Nat:=r.qc.j*V7 V (Vu r)
structure WS (r:zv):Prop where
 five:r.m<=5
 none:r.qc=[]->r.m=0
structure WR (V:Nat) (W:yi):Prop where
 p:WS W.p
 len:W.J.j=W.p.qc.j
 wide:∀v∈W.J,v.before.r<=V/\v.qw.r<=V/\v.all.r<=V
def BY{V a f mr:Nat}{W:yi}(b:WR V W)(d:V7 V (Vu W.p)<9223372036854775808):∀(n i:Nat) (R R':zw),kw a f mr W n i R=Z (R',true)->VR R R' (n*V7 V (Vu W.p))
 |0,i,R,R',h=>by
  simp only[kw,zt,yk,and_true] at h;subst h;exact(VR.refl R).y η
 |n+1,i,R,R',h=>by
  have e:(n+1)*V7 V (Vu W.p)=V7 V (Vu W.p)+n*V7 V (Vu W.p):=by rw[mn,A_];omega
  rw[e];simp only[kw] at h;split at h
  .cases c:qa mr W.p.g.o a R (xL W.p (UR W.J i) (jS f R W.p)) with
   |none=>rw[c] at h;simp at h
   |some x=>
    obtain⟨p,ok⟩:=x;rw[c] at h;cases ok with
    |false=>simp at h
    |true=>
     refine(Hh b.p.five (λT g=>?_) d c).A (BY b d n (i+1) p R' h);unfold UR at g;obtain⟨⟨v,j⟩,o,rfl⟩:=z9.1 g;obtain⟨k,m,l⟩:=b.wide v (List.fst_mem_of_mem_zipIdx o);simp only;split
     .exact k
     .split
      .exact m
      .exact l
  .exact(BY b d n (i+1) R R' h).y η
def Qb{V b d:Nat}{W:yi}(c:WR V W)(j:j0 V W.p<9223372036854775808){first:Bool}(h:gS b d mr first R W=Z (R',true)):VR R R' (j0 V W.p):=by
 have e:V7 V (Vu W.p)<=j0 V W.p:=by
  unfold j0;rcases g:W.p.qc with _|⟨a,l⟩;simp[Vu,c.p.none g,V7];have:1*V7 V (Vu W.p)<=(a::l).j*V7 V (Vu W.p):=f5 _ ζ;omega
 unfold gS at h;split at h;refine(Hh c.p.five (λT i=>?_) η h).y e;obtain⟨v,f,rfl⟩:=z9.1 i;exact(c.wide v f).2.2;rw[c.len] at h;exact BY c η _ 0 R R' h
def IH{V a d mr:Nat}{first:Bool}:∀(b:List yi) (R R':zw),(∀W∈b,WR V W)->(b.w λW=>j0 V W.p).sum<9223372036854775808->gP a d mr first b R=Z (R',true)->VR R R' (b.w λW=>j0 V W.p).sum
 |[],R,R',_,_,h=>by
  simp only[gP,zt,yk,and_true] at h;subst h;exact VR.refl R
 |W::b,R,R',e,g,h=>by
  simp only[xU,q7] at g ⊢;simp only[gP] at h;cases c:gS a d mr first R W with
  |none=>rw[c] at h;simp at h
  |some x=>
   obtain⟨j,ok⟩:=x;rw[c] at h;cases ok with
   |false=>simp at h
   |true=>exact(Qb (e W ζ) η c).A (IH b j R' (λf i=>e f (by simp[i])) η h)
end
def Sc(T:zm)(a v m:Nat):(dQ T a v m).1.r=T.r:=by
 unfold dQ;split;rfl;exact pD _ _ _ _
def DX(m:Nat):∀(r:zl) (T:zm) (a l:Nat),(vH m T a l r).1.r=T.r
 |[],_,_,_=>rfl
 |v::r,T,a,l=>by
  simp only[vH];split
  .exact Sc _ _ _ _
  .rw[DX m r];unfold qN;split
   .rfl
   .exact pD _ _ _ _
def eZ:∀(rs:List zl) (T a:zm),xZ rs T=Z a->a.r=T.r
 |[],T,a,h=>by simp[xZ] at h;rw[h]
 |r::rs,T,a,h=>by
  simp only[xZ] at h;split at h
  .rw[eZ rs _ a h];unfold yE;split
   .exact DX 0 r T 0 0
   .rfl
  .cases h
def WY(V:Nat)(v:yQ):Prop:=v.before.r<=V/\v.qw.r<=V/\v.all.r<=V
def I8{c e:Nat}{v v':yQ}{d:List zl}(g:WY (zU e) v)(h:fB c e v d=Z v'):WY (zU e) v':=by
 unfold fB at h;split at h;cases h;split at h;rename_i b f a i j k;cases h;refine⟨?_,?_,?_⟩;show b.r<=_;rw[eZ _ _ _ i];exact g.1;show f.r<=_;rw[eZ _ _ _ j];exact ze _;show a.r<=_;rw[eZ _ _ _ k];exact g.2.2;cases h
def CG{a e:Nat}{R:zw}:∀(ls:List zx) (vs:List yQ),fC a e R ls=Z vs->vs.j=ls.j/\∀v∈vs,WY (zU e) v
 |[],vs,h=>by simp[fC] at h;subst h;simp
 |l::ls,vs,h=>by
  simp only[fC] at h;split at h
  .cases h
  .split at h
   .rename_i v d g b;cases h;obtain⟨f,i⟩:=CG ls d b;refine⟨by simp[f],λu c=>?_⟩;rcases z7.1 c with rfl|c
    .exact I8 ⟨ze _,ze _,ze _⟩ g
    .exact i u c
   .cases h
def AF{b c:Nat}{R:zw}{s:Nat}:∀(rs:List zv) (a:List yi),(∀r∈rs,WS r)->UZ b c R s rs=Z a->(∀W∈a,WR (zU c) W)/\(a.w λW=>j0 (zU c) W.p).sum<=(rs.w (j0 (zU c))).sum
 |[],a,_,h=>by simp[UZ] at h;subst h;simp
 |r::rs,a,f,h=>by
  simp only[UZ] at h;simp only[xU,q7];split at h
  .split at h
   .rename_i vs e m l;cases h;obtain⟨g,n⟩:=AF rs e (λx d=>f x (by simp[d])) l;obtain⟨j,k⟩:=CG r.qc vs m;refine⟨λW i=>?_,?_⟩
    .rcases z7.1 i with rfl|i
     .exact⟨f r ζ,j,k⟩
     .exact g W i
    .simp only[xU,q7];omega
   .cases h
  .obtain⟨g,n⟩:=AF rs a (λx d=>f x (by simp[d])) h;exact⟨g,η⟩
def GI{b d:Nat}{k:List (List zl)}:∀(vs a:List yQ),(∀v∈vs,WY (zU d) v)->fP b d k vs=Z a->a.j=vs.j/\∀v∈a,WY (zU d) v
 |[],a,_,h=>by simp[fP] at h;subst h;simp
 |v::vs,a,g,h=>by
  simp only[fP] at h;split at h
  .rename_i m f e l;cases h;obtain⟨j,i⟩:=GI vs f (λu c=>g u (by simp[c])) l;refine⟨by simp[j],λu c=>?_⟩;rcases z7.1 c with rfl|c
   .split at e
    .exact I8 (g v ζ) e
    .cases e;exact g _ ζ
   .exact i u c
  .cases h
def CA{d c:Nat}{p:List (List zl)}:∀(b a:List yi),(∀W∈b,WR (zU c) W)->dO d c p b=Z a->(∀W∈a,WR (zU c) W)/\(a.w λW=>j0 (zU c) W.p).sum=(b.w λW=>j0 (zU c) W.p).sum
 |[],a,_,h=>by simp[dO] at h;subst h;simp
 |W::b,a,i,h=>by
  simp only[dO] at h;split at h
  .rename_i n g m q;cases h;obtain⟨o,l⟩:=CA b g (λu r=>i u (by simp[r])) q;have e:=i W ζ;obtain⟨j,s⟩:=GI _ _ e.wide m;refine⟨λk f=>?_,by simp[l]⟩;rcases z7.1 f with rfl|f
   .exact⟨e.p,j.A e.len,s⟩
   .exact o k f
  .cases h
def WV(C:Nat)(R:zw):Prop:=∃k:Nat,R.jg=(k:Int)/\k<=R.Q*C
def I6{d mr mx C:Nat}(s:mx<=1048576)(m:1048576*C<9223372036854775808):∀(n:Nat) (first:Bool) (a:List yi) (R R':zw),(∀W∈a,WR (zU d) W)->(a.w λW=>j0 (zU d) W.p).sum<=C->WV C R->gR d mr mx n first a R=Z (R',true)->WV C R'/\R'.Q<=mx
 |0,_,_,_,_,_,_,_,h=>by simp[gR] at h
 |n+1,first,a,R,R',j,o,⟨k,l,z⟩,h=>by
  simp only[gR] at h;split at h
  .cases h
  .rename_i r;unfold rm at h;cases g:gP n d mr first a (qZ {R with Q:=R.Q+1}) with
   |none=>rw[g] at h;simp at h
   |some x=>
    obtain⟨b,ok⟩:=x;rw[g] at h;cases ok with
    |false=>simp at h
    |true=>
     have q:(R.Q+1)*C<=1048576*C:=f5 _ η;have w:(R.Q+1)*C=R.Q*C+C:=by rw[mn,A_]
     obtain⟨f,t⟩:=(IH a _ b j η g).y o;have f:b.Q=R.Q+1:=f;obtain⟨v,u,A⟩:=t k l η;have i:WV C b:=⟨v,u,by rw[f];omega⟩;simp only at h;cases e:dO n d b.qw a with
     |none=>rw[e] at h;simp at h
     |some c=>
      rw[e] at h;simp only[jY] at h;obtain⟨p,y⟩:=CA a c j e;split at h
      .exact I6 s m n false c b R' p η i h
      .cases h;exact⟨i,η⟩
def Gv{a e mr mx C:Nat}(i:mx<=1048576)(l:1048576*C<9223372036854775808){rs:List zv}(j:∀r∈rs,WS r)(p:(rs.w (j0 (zU e))).sum<=C):∀(n s:Nat) (R R':zw),WV C R->R.Q<=mx->gh a e mr mx rs n s R=Z (R',true)->WV C R'/\R'.Q<=mx
 |0,s,R,R',c,f,h=>by simp only[gh,zt,yk,and_true] at h;subst h;exact⟨c,f⟩
 |n+1,s,R,R',c,f,h=>by
  simp only[gh] at h;cases b:rz a e mr mx rs R s with
  |none=>rw[b] at h;simp at h
  |some x=>
   obtain⟨d,ok⟩:=x;rw[b] at h;cases ok with
   |false=>simp at h
   |true=>
    have k:WV C d/\d.Q<=mx:=by
     unfold rz at b;split at b
     .cases b
     .rename_i g o;obtain⟨m,q⟩:=AF rs g j o;split at b
      .exact I6 i l a true g R d m η c b
      .cases b;exact⟨c,f⟩
    exact Gv i l j p n (s+1) d R' k.1 k.2 h
def ES{mr:Nat}:∀(fs:List jM) (R R':zw),gN mr fs R=Z (R',true)->VR R R' 0
 |[],R,R',h=>by simp only[gN,zt,yk,and_true] at h;subst h;exact VR.refl R
 |f::fs,R,R',h=>by
  simp only[gN] at h;cases a:kq mr R f.o f.row with
  |none=>rw[a] at h;simp at h
  |some x=>
   obtain⟨b,ok⟩:=x;rw[a] at h;cases ok with
   |false=>simp at h
   |true=>exact(I2 a).A (ES fs b R' h)
def Ny{a mr mx:Nat}{S:j8}{R:zw}(i:mx<=1048576)(j:∀r∈S.H,WS r)(m:1048576*(S.H.w (j0 (zU S.r))).sum<9223372036854775808)(h:nY a S mr mx=Z (Z R)):0<=R.jg:=by
 unfold nY at h;rcases b:gN mr S.facts (hY S) with _|x;rw[b] at h;simp at h;obtain⟨d,ok⟩:=x;rw[b] at h;cases ok;simp at h;obtain⟨f,g⟩:=ES _ _ _ b;obtain⟨k,n,o⟩:=g 0 rfl η;have f:d.Q=0:=f;simp only at h;rcases c:gh a S.r mr mx S.H S.N.j 0 d with _|y;rw[c] at h;simp at h;obtain⟨l,ok⟩:=y;rw[c] at h;cases ok;simp at h;simp only[jY,if_true,zt] at h;subst h;obtain⟨⟨p,e,_⟩,_⟩:=Gv i m j (ze _) _ 0 d l ⟨k,n,η⟩ η c;omega
section
open Go.Proofs.Tryz Go.RowKit
def fY(a:List Int)(k:Int):Prop:=(2<=k/\k<=6)∨k=9∨k=17∨k∈a
def Hm(l:List VD)(c:List Int):Prop:=∀W b a,Wl W b a->(∀x∈a,x∈l/\fY c x.kind)->a.j<=1048576->(∀x∈a,x.s.q<=1048576)->c_ e_ 31 #[b] W λe d=>e=ε (ι (-1))/\μ W d
def Kt(w:U)(k:Int):
  c_ e_ 30 #[ι k] w λe a=>e=ε (.i (k == 2||k == 3||k == 4||k == 5||k == 6))/\a=w:=by
 go_enter func30,ntmps30;cases g:(k == 2)
 .cases c:(k == 3)
  .cases d:(k == 4)
   .cases f:(k == 5)
    .cases b:(k == 6)
     .go_wp2;go_ret;exact⟨rfl,rfl⟩
     go_wp2;go_ret;exact⟨rfl,rfl⟩
    go_wp2;go_ret;exact⟨rfl,rfl⟩
   go_wp2;go_ret;exact⟨rfl,rfl⟩
  go_wp2;go_ret;exact⟨rfl,rfl⟩
 go_wp2;go_ret;exact⟨rfl,rfl⟩
def JP(w:U)(v:O)(l:List VD)(h:Wl w v l)(kv:O)(g:List Int)(I:WM w kv g)(a8:g.j<=20)(K:Hm l g):
  c_ e_ 15 #[v,.i true,kv] w λe s=>e=ε (.i true)/\μ w s:=by
 obtain⟨i0,hi,al,af,au⟩:=info_parts Ud;obtain⟨ao,aE,rfl⟩:=h.qm;obtain⟨aG,a7,rfl⟩:=I.qm;have ac:=U2 K;have n:=U2 (JN w _ l h);have t:nA l=decide (l.j+Vf l<=1048576):=rfl;clear K;cases u:nA l
 .rw[u] at n;clear t u;go_enter func15,ntmps15;go_wp2_with (go_at_call 28;refine n.l.y ?_;rintro e s ⟨rfl,f⟩;obtain rfl:=f.z;clear n)
  go_ret;exact⟨rfl,zn _ _⟩
 rw[u] at n t;have ai:=of_decide_eq_true t.z;have HF:X (∀x∈l,x.s.q<=1048576):=λx A=>by have:=PR A;omega
 have aC:l.j<=1048576:=η;clear t u ai;go_enter func15,ntmps15;go_wp2_with (go_at_call 28;refine n.l.y ?_;rintro e s ⟨rfl,f⟩;obtain rfl:=f.z;clear n)
 go_loopw [8,9] (λv8 v9 wr=>∃(k:Nat) (a:List VD),k<=l.j/\v9=ι k/\a.j<=k/\μ w wr/\wr.r w.o.q 67 5 v8 a.j (fu a)/\X (∀x∈a,x∈l/\fY g x.kind)) (λ_ i _=>l.j-(d_ i).D);exact⟨0,[],zs _,rfl,ze _,zn _ _,xj _ _ _ _,λx A=>by cases A⟩;obtain⟨k,a,hk,rfl,aB,d,m,C⟩:=hrel;obtain⟨aD,az,rfl⟩:=zq m;have a3:=d.q;by_cases J:k<l.j
 .obtain⟨b,o,rfl,M,h0,h1,h2,h3,h4⟩:=h.cell k J;have T:=zi d M h0;have ad:=zi d M h1;have V:=zi d M h2;have ae:=zi d M h3;have aq:=zi d M h4;have p:b<wr.o.q:=η;have HM:=U2 (zr J);clear h0 h1 h2 h3 h4;generalize l[k]=x at *;obtain⟨P,rfl⟩:∃P,P=wr:=⟨wr,rfl⟩;obtain⟨G,N,S⟩:∃G:Bool,X (G=true->fY g x.kind)/\X (∀W:U,c_ e_ 29 #[ι x.kind] W λe s=>e=ε (.i G)/\s=W):=⟨_,(λh=>by simp at h;unfold fY;rcases h with h|h<;>simp[h]),λW=>Ru W x.kind⟩;obtain⟨E,H,Q⟩:∃E:Bool,X (E=true->fY g x.kind)/\X (∀W:U,c_ e_ 30 #[ι x.kind] W λe s=>e=ε (.i E)/\s=W):=⟨_,(λh=>by simp at h;unfold fY;omega),λW=>Kt W x.kind⟩;have R:X ((G||E)=true->fY g x.kind):=λh=>by
   rcases Bool.or_eq_true_iff.1 h with h|h;exact N.l h;exact H.l h
  clear N H;cases G<;>cases E
  all_goals
   go_wp2_with (first|(go_at_call 29;refine(S.l _).y ?_;rintro e s ⟨rfl,f⟩;obtain rfl:=f.z)|(go_at_call 30;refine(Q.l _).y ?_;rintro e s ⟨rfl,f⟩;obtain rfl:=f.z))
   go_loopw [11,13] (λam ah wj=>∃(j:Nat) (F:Bool),j<=g.j/\ah=ι j/\am=.i F/\μ P wj/\X (F=true->fY g x.kind)) (λ_ i _=>g.j-(d_ i).D);exact⟨0,_,zs _,rfl,rfl,zn _ _,R⟩;obtain⟨j,F,hj,rfl,rfl,c,HB⟩:=hrel;have r:=U6 d c;have a6:=c.q;by_cases D:j<g.j
   .obtain⟨gk,rfl,aj,L⟩:=I.cell j D;have aA:=zi r aj L;have aF:gk<wr.o.q:=by have:=r.q;omega
    have an:=U2 (zr D);clear L;generalize g[j]=q at *;cases F
    .cases hq:(x.kind == q)
     .go_wp2;go_roundw;exact⟨j+1,false,η,ξ,rfl,φ,λh=>by cases h⟩;simp[d_];omega
     have aa:X (fY g x.kind):=by have h':=eq_of_beq hq;subst h';exact zg (zg (zg an.l))
     go_wp2;go_roundw;exact⟨j+1,true,η,ξ,rfl,φ,λ_=>aa.l⟩;simp[d_];omega
    go_wp2;go_roundw;exact⟨j+1,true,η,ξ,rfl,φ,HB⟩;simp[d_];omega
   cases F
   .go_wp2;go_roundw;exact⟨k+1,a,η,ξ,η,r,zy m c,C⟩;simp[d_];omega
   have a0:=zi c p T;have ax:=zi c p ad;have ay:=zi c p V;have aw:=zi c p ae;have a5:=zi c p aq;have a2:b<wr.o.q:=η;have z:=zy m c;have ar:X (∀y∈a++[x],y∈l/\fY g y.kind):=λy B=>by
    rcases zW.1 B with B|B;exact C.l y B;simp at B;subst B;exact⟨HM.l,HB.l rfl⟩
   clear HB C;go_wp2_with (at_builtin;refine kU _ _ [ι x.kind,ι x.a,ι x.b,ι x.c,.g x.s] _ rfl (.tmp 54) (.tmp 59) 22 rfl w.o.q 67 i0 _ 5 48 underlying22 hi al af au rfl θ _ _ _ rfl z (zn _ _) _ _ rfl ζ rfl a_ η η r.q ?_;intro v' w2 ab ag av ap a9 a1;clear av ap)
   go_roundw;exact⟨k+1,a++[x],η,ξ,υ,r.A ag,(by rw[R6];simpa using ab),ar⟩;simp[d_];omega
 have a4:k=l.j:=η;go_wp2_with (go_at_call 31;refine(ac.l _ _ a (Wl.own m η (λx A=>by have:=HF.l x (C.l x A).1;omega)) C.l η (λx A=>HF.l x (C.l x A).1)).y ?_;rintro e s ⟨rfl,ak⟩)
 go_ret;exact⟨rfl,U6 d ak⟩
end
end Go.Proofs.YteampbddflhngaaGreat
