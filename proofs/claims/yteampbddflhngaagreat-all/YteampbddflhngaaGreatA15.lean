import Derived.Test.YteampbddflhngaaGreatA14
namespace Go.Proofs.YteampbddflhngaaGreat
open List renaming length→List.j,take→List.G
open _root_.Array renaming size→Array.q,toList→Array.v
open _root_.ByteArray renaming size→ByteArray.q,toList→ByteArray.v
open Go.RowKit.Below renaming size→Go.RowKit.Below.q,setCell→Go.RowKit.Below.x,mono→Go.RowKit.Below.y,trans→Go.RowKit.Below.A,alloc→Go.RowKit.Below.C
open Go.TypeInfo renaming size→Go.TypeInfo.q
open Go.RowKit.Hid renaming out→Go.RowKit.Hid.l
open Go.World renaming heap→Go.World.o,setCell→Go.World.x,cell?→Go.World.p,alloc→Go.World.C,ownsRow→Go.World.r,setCell_alloc_past→h_,setCell→i_
open Go.Value renaming slice→Go.Value.k,string→Go.Value.g,bool→Go.Value.i,cells→Go.Value.E,ownBlock→Go.Value.m,slice→g_
open Go.TypeDesc renaming slice→Go.TypeDesc.k,string→Go.TypeDesc.g,bool→Go.TypeDesc.i
open Go.Calls renaming mono→Go.Calls.y
open Eq renaming trans→Eq.A
open Iff renaming trans→Iff.A
open Go.Obj renaming cells→Go.Obj.E
open Option renaming toList→Option.v,some→Z,none→Y
open Nat renaming lt_succ_self→j_
open Go.Act renaming eval→k_
open Ne renaming symm→l_
open Go.RowKit renaming Hid→X,intOf→d_
open Go renaming World→U,Value→O,Calls→c_
open Go.Proofs.Tryz renaming prog→e_
set_option linter.all false
set_option maxRecDepth 100000
set_option maxHeartbeats 4000000
open Go.RowKit
section
open Go.Proofs.Tryz
section
variable {B:Nat} {own:UY} {w:U} {wb:Nat} {M:ym} {V:Nat->O}
def tE(h:zH B own w wb M V)(hn:M.F.j<=1048577)(aa:M.z.j<=1048577):
  c_ e_ 39 #[(π wb)] w λe w'=>e=ε (.i true)/\w'=w:=by
 have R:X (∀i,i<M.F.j->∃g a n x,V 12=.k (Z (δ g)) M.F.j a/\g<w.o.q/\w.p (ω g i)=Z (.k (Z (δ x)) n n)/\n<=1048576/\x<w.o.q/\∀k,k<n->∃y,w.p (ω x k)=Z (.k (Z (δ y)) (i+1) (i+1))/\y<w.o.q/\w.p (δ y)=Z (.g ByteArray.empty)):=λi m=>by
  obtain⟨g,a,L,E,q3,v⟩:=kL (h.hd.row 12 _ _ _ _ rfl) i m;obtain⟨_,u,r1,C,s,r4⟩:=h.inn.F i m;refine⟨g,a,M.F[i].2,M.F[i].1,L,E,by rw[v];simp[kS,sl],C,yb s rfl,λk q=>?_⟩;obtain⟨g2,o,r,t,D,W⟩:=kL s k q;cases r;obtain⟨_,c,S,t2⟩:=r4 _ (zr (l:=u) (n:=k) η);exact⟨u[k],by rw[W];simp[vC],S.lt,by rw[S.H.1];exact t2⟩
 have T:X (∀i,i<M.z.j->∃g a n x,V 13=.k (Z (δ g)) M.z.j a/\g<w.o.q/\w.p (ω g i)=Z (.k (Z (δ x)) n n)/\n<=1000/\∀k,k<n->x<w.o.q/\∃y,w.p (ω x (k*3))=Z (.i false)/\w.p (ω x (k*3+1))=Z (.g dJ)/\w.p (ω x (k*3+2))=Z (.k (Z (δ y)) (i+1) (i+1))):=λi m=>by
  obtain⟨g,a,L,E,q3,v⟩:=kL (h.hd.row 13 _ _ _ _ rfl) i m;obtain⟨_,u,r1,C,s⟩:=h.inn.z i m;refine⟨g,a,M.z[i].2,M.z[i].1,L,E,by rw[v];simp[kS,sl],C,λk q=>?_⟩;obtain⟨s0,r,t,D⟩:=pq s k υ;simp only[xM,ka,sl] at r t D;exact⟨s0,_,r,t,D⟩
 obtain⟨ao,a,P⟩:=zq (h.hd.row 12 _ _ _ _ rfl);obtain⟨ac,o,b⟩:=zq (h.hd.row 13 _ _ _ _ rfl);have d:=h.box;rw[P,b] at d;rw[P] at R;rw[b] at T;obtain⟨hc,hf,ad⟩:=d.I;have ab:(dJ.v == [109,105,110,101])=true:=by rw[ku];rfl
 clear h P b d;generalize M.F.j=A at *;generalize M.z.j=H at *;go_enter func39,ntmps39;go_wp2;go_loop [3] (λN=>∃i:Nat,i<=A/\N=ι i) (λN=>A-(d_ N).toNat);exact⟨0,zs _,rfl⟩;obtain⟨i,m,rfl⟩:=hrel;by_cases Q:i<A
 .obtain⟨g,cp,n,x,K,e1,e2,e3,e4,p⟩:=R.l i Q;cases K;have I:=U2 p;clear p;go_wp2;go_loop [4] (λG=>∃k:Nat,k<=n/\G=ι k) (λG=>n-(d_ G).toNat);exact⟨0,zs _,rfl⟩;obtain⟨k,q,rfl⟩:=hrel;by_cases f:k<n
  .obtain⟨y,f1,f2,f3⟩:=I.l k f;go_wp2;go_round;exact⟨k+1,η,ξ⟩;simp[d_];omega
  go_wp2;go_round;exact⟨i+1,η,ξ⟩;simp[d_];omega
 go_wp2;go_loop [5] (λz=>∃i:Nat,i<=H/\z=ι i) (λz=>H-(d_ z).toNat);exact⟨0,zs _,rfl⟩;obtain⟨j,hj,rfl⟩:=hrel;by_cases F:j<H
 .obtain⟨g,cp,n,x,K,e1,e2,e3,p⟩:=T.l j F;cases K;have I:=U2 p;clear p;go_wp2;go_loop [6] (λJ=>∃k:Nat,k<=n/\J=ι k) (λJ=>n-(d_ J).toNat);exact⟨0,zs _,rfl⟩;obtain⟨k,q,rfl⟩:=hrel;by_cases f:k<n
  .obtain⟨f0,y,f1,f2,f3⟩:=I.l k f;go_wp2;go_round;exact⟨k+1,η,ξ⟩;simp[d_];omega
  go_wp2;go_round;exact⟨j+1,η,ξ⟩;simp[d_];omega
 go_wp2;go_ret;exact⟨rfl,rfl⟩
def ur.ints{W:U}{g:Nat}{l:List Int}(a:U3 W g (ug l) 3):ur W (.k (Z (δ g)) l.j l.j) (Z l):=ur.of a.lt λk b=>by rw[a.H.1];simp[ug,b]
def RM(h:zH B own w wb M V)(hn:M.F.j<=1048577)(G:M.z.j<=1048577)(ad:M.ins.j<=1048577)(ac:M.ls.j<=2000000000000):
  c_ e_ 58 #[(π wb)] w λe u=>e=ε (.i true)/\μ w u:=by
 have HI:X (∀i,i<M.ins.j->∃g c f b x y l,V 2=.k (Z (δ g)) M.ins.j c/\V 3=.k (Z (δ f)) M.ins.j b/\g<w.o.q/\f<w.o.q/\w.p (ω g i)=Z (.k (Z (δ x)) l l)/\w.p (ω f i)=Z (.k (Z (δ y)) l l)/\∀W,μ w W->c_ e_ 18 #[.k (Z (δ x)) l l,.k (Z (δ y)) l l] W λe u=>e=ε (.i true)/\μ W u):=λi j=>by
  obtain⟨g,c,q1,R,q3,I⟩:=kL (h.hd.row 2 _ _ _ _ rfl) i j;obtain⟨f,b,r1,K,r3,H⟩:=kL (h.hd.row 3 _ _ _ _ rfl) i j;obtain⟨⟨_,N⟩,⟨_,F⟩,s3⟩:=h.inn.ints i j;exact⟨g,c,f,b,M.ins[i].1,M.ins[i].2.1,M.ins[i].2.2.j,q1,r1,R,K,by rw[I];simp[lC,sl],by rw[H];simp[lO,sl],λW k=>Ex W _ _ (Z _) (ur.ints (N.u k)) (ur.ints (F.u k)) (by show M.ins[i].2.2.j<=_;omega)⟩
 have HL:X (∀i,i<M.ls.j->∃g c f b x y l,V 10=.k (Z (δ g)) M.ls.j c/\V 11=.k (Z (δ f)) M.ls.j b/\g<w.o.q/\f<w.o.q/\w.p (ω g i)=Z (.k (Z (δ x)) l l)/\w.p (ω f i)=Z (.k (Z (δ y)) l l)/\∀W,μ w W->c_ e_ 44 #[.k (Z (δ x)) l l,.k (Z (δ y)) l l] W λe u=>e=ε (.i true)/\μ W u):=λi j=>by
  obtain⟨g,c,q1,R,q3,I⟩:=kL (h.hd.row 10 _ _ _ _ rfl) i j;obtain⟨f,b,r1,K,r3,H⟩:=kL (h.hd.row 11 _ _ _ _ rfl) i j;obtain⟨⟨_,N⟩,⟨_,F⟩,s3⟩:=h.inn.lists i j;exact⟨g,c,f,b,M.ls[i].1,M.ls[i].2.1,M.ls[i].2.2.j,q1,r1,R,K,by rw[I];simp[pz,sl],by rw[H];simp[ph,sl],λW k=>oZ W _ _ _ (N.u k) (F.u k) η⟩
 have ab:=U2 λW (k:μ w W)=>tE (h.u k) hn G;obtain⟨a2,c2,P⟩:=zq (h.hd.row 2 _ _ _ _ rfl);obtain⟨a3,c3,q⟩:=zq (h.hd.row 3 _ _ _ _ rfl);obtain⟨a4,c4,S⟩:=zq (h.hd.row 10 _ _ _ _ rfl);obtain⟨a5,c5,m⟩:=zq (h.hd.row 11 _ _ _ _ rfl);have o:=h.box;rw[P,q,S,m] at o;rw[P,q] at HI;rw[S,m] at HL;clear h P q S m;generalize M.ins.j=L at *;generalize M.ls.j=T at *;go_enter func58,ntmps58;go_wp2;go_loopw [3] (λq wr=>∃i:Nat,i<=L/\q=ι i/\μ w wr) (λq _=>L-(d_ q).toNat);exact⟨0,zs _,rfl,zn _ _⟩;obtain⟨i,j,rfl,a⟩:=hrel;have d:=o.u a;obtain⟨hc,hf,E⟩:=d.I;by_cases r:i<L
 .obtain⟨g,c,f,b,x,y,l,e1,e2,v,D,z,A,t⟩:=HI.l i r;cases e1;cases e2;have J:=zi a v z;have aa:=zi a D A;have C:=yh v a.q;have s:=yh D a.q;have p:=U2 t;clear z A t;go_wp2;go_region_with (go_at_call 18;refine(p.l _ (by exact zG a 1)).y ?_;rintro e w1 ⟨rfl,n⟩)
  all_goals
   go_wp2;go_roundw;exact⟨i+1,η,ξ,U6 (zG a 1) n⟩;simp[d_];omega
 go_wp2;go_loopw [5] (λm wr=>∃i:Nat,i<=T/\m=ι i/\μ w wr) (λm _=>T-(d_ m).toNat);exact⟨0,zs _,rfl,a⟩;clear hc hf E d a;obtain⟨i,j,rfl,a⟩:=hrel;have d:=o.u a;obtain⟨hc,hf,E⟩:=d.I;by_cases r:i<T
 .obtain⟨g,c,f,b,x,y,l,e1,e2,v,D,z,A,t⟩:=HL.l i r;cases e1;cases e2;have J:=zi a v z;have aa:=zi a D A;have C:=yh v a.q;have s:=yh D a.q;have p:=U2 t;clear z A t;go_wp2;go_region_with (go_at_call 44;refine(p.l _ (by exact zG a 1)).y ?_;rintro e w1 ⟨rfl,n⟩)
  all_goals
   go_wp2;go_roundw;exact⟨i+1,η,ξ,U6 (zG a 1) n⟩;simp[d_];omega
 go_wp2_with (go_at_call 39;refine(ab.l _ a).y ?_;rintro e w1 ⟨rfl,Q⟩;obtain rfl:=Q.symm)
 go_ret;exact⟨rfl,a⟩
end
structure lf (w:U) (orv:O) (nb:Bool) (os:Option (List (Option (List Int)))):Prop where
 len:(os.getD []).j<=2000000
 each:∀o∈os.getD [],(o.getD []).j<=2000000
 hand:∀W,μ w W->c_ Tryz.prog 34 #[orv,.i nb] W λe w'=>∃hv,e=.returned hv/\X (ki w' hv os/\∀W2,μ w' W2->c_ Tryz.prog 36 #[hv,orv,.i nb] W2 λe w3=>e=ε (.i true)/\X (μ W2 w3))/\X (μ W w')
 ord:∀W,μ w W->∀mb cs t lo,jp lo W mb cs t->(∀c∈cs,c.d.j<=999/\xn (zj c)<=1000/\(zu c).j<=5/\∀l∈zj c,∀t∈l.k,0<t.q)->cs.j<=1000->c_ Tryz.prog 75 #[(π mb),orv,.i nb] W λe w'=>e=ε (.i (vK cs os))/\μ W w'
def lf.no(w:U)(c:O):lf w c true none:=
 ⟨zs _,(λo f=>by cases f),λW _=>(NP W _).y λe i ⟨b,a⟩=>by
  subst a;exact⟨_,b,⟨rfl,λg _=>(Tc g _ _).y λe m ⟨h,d⟩=>by subst d;exact⟨h,zn _ _⟩⟩,zn _ _⟩,λW _ k l t j _ _ _=>(QT W _ _).y λe i ⟨b,a⟩=>by subst a;exact⟨b,zn _ _⟩⟩
section
variable {B:Nat} {own:UY} {w:U} {wb:Nat} {M:ym} {V:Nat->O}
def rj(B:Nat)(own:UY)(w:U)(wb:Nat)(M:ym)(V:Nat->O)(e:Ending)(w':U):Prop:=e=ε (.i true)/\X (∃a c d,c.j<=M.rs.j+1/\zH B a w' wb {M with rs:=c} (vY V 1 d)/\∀b,b<w.o.q->a b=own b)/\X (uw own w w')
def OF(V:Nat->O)(f:Nat):vY V f (V f)=V:=funext λg=>by
 unfold vY;split
 .rename_i e;rw[e]
 .rfl
def rj.kept{w':U}(h:zH B own w wb M V)(a:μ w w'):rj B own w wb M V (ε (.i true)) w':=⟨rfl,⟨own,M.rs,V 1,η,by rw[OF];exact h.u a,λ_ _=>rfl⟩,uw.of a⟩
def Bg(h:zH B own w wb M V){g:O}{nb:Bool}{os:Option (List (Option (List Int)))}(u:lf w g nb os)(x m:Nat)(c o n:Int)(G:n=8∨n=9∨n=10)(C:X (∀W r,μ w W->ki W r os->c_ e_ 35 #[(π x),r,ι c,ι o] W λe i=>e=ε (.tuple #[.pointer Y,ι n])/\X (μ W i)))(s:X (∀W,μ w W->c_ e_ 37 #[(π m),g,.i nb,ι c,ι o] W λe i=>e=ε (.tuple #[.pointer Y,ι n])/\X (μ W i))):
  c_ e_ 17 #[(π wb),.agg #[(π x),(π m)],g,.i nb,ι c,ι o] w λe i=>rj B own w wb M V e i:=by
 have D:=U2 u.hand;have A:=U2 λW=>rj.kept h (w':=W);clear h u;rcases G with rfl|rfl|rfl
 all_goals
  go_enter func17,ntmps17;go_upto_region 1 with fail
  have l:X (μ w (w.C (.E #[(π x),(π m)] 40))):=(zn _ _).C (ze _) _;have d:=U2 (U3.new w #[(π x),(π m)] 40);generalize w.C (.E #[(π x),(π m)] 40)=H at *;go_wp2_with (first|(go_at_call 34;refine(D.l _ l.l).y ?_;rintro e I ⟨r,rfl,t,a⟩;have j:=U2 (U6 l.l a.l);obtain⟨N,_,z⟩:=(d.l.u a.l).I)|(go_at_call 35;refine(C.l _ _ j.l t.l.1).y ?_;rintro e L ⟨rfl,b⟩;have q:=U2 (U6 j.l b.l);obtain⟨E,_⟩:=((d.l.u a.l).u b.l).H;have y:=((d.l.u a.l).u b.l).lt)|(go_at_call 36;refine(t.l.2 _ b.l).y ?_;rintro e K ⟨rfl,f⟩;have k:=U2 (U6 q.l f.l);obtain⟨F,_⟩:=(((d.l.u a.l).u b.l).u f.l).H;have v:=(((d.l.u a.l).u b.l).u f.l).lt)|(go_at_call 37;refine(s.l _ k.l).y ?_;rintro e J ⟨rfl,p⟩))
  go_ret;exact A.l _ (U6 k.l p.l)
def N1(h:zH B own w wb M V){F:O}{nb:Bool}{os:Option (List (Option (List Int)))}(ho:lf w F nb os)(x m:Nat)(cs:Ξ)(t:Ψ)(j qy:Int)(hn:M.rs.j<=1048576)(P Q:U->U->Nat->Prop)(K:X (∀W1 W2 W3 W4 p o,μ w W1->P W1 W2 p->μ W2 W3->Q W3 W4 o->μ w W4->μ W2 W4->WX own W4 (p,o,m,cs,t)))(HR:X (∀W hv,μ w W->ki W hv os->c_ e_ 35 #[(π x),hv,ι j,ι qy] W λe y=>∃p,e=ε (.tuple #[(π p),ι 0])/\X (P W y p)/\X (μ W y)))(L:X (∀W,μ w W->c_ e_ 37 #[(π m),F,.i nb,ι j,ι qy] W λe y=>∃o,e=ε (.tuple #[(π o),ι 0])/\X (Q W y o)/\X (μ W y))):
  c_ e_ 17 #[(π wb),.agg #[(π x),(π m)],F,.i nb,ι j,ι qy] w λe y=>rj B own w wb M V e y:=by
 obtain⟨i0,hi,am,ai,ap⟩:=info_parts TO;have HH:=U2 ho.hand;have HW:=U2 h;have ae:=h.hd.q;clear h ho;go_enter func17,ntmps17;go_upto_region 1 with fail
 have J:X (μ w (w.C (.E #[(π x),(π m)] 40))):=(zn _ _).C (ze _) _;have g:=U2 (U3.new w #[(π x),(π m)] 40);generalize w.C (.E #[(π x),(π m)] 40)=wX at *;go_upto_region 9 with (first|(go_at_call 34;refine(HH.l _ J.l).y ?_;rintro e w1 ⟨hv,rfl,HV,c⟩;have C:=U2 (U6 J.l c.l);obtain⟨xc,_,S⟩:=(g.l.u c.l).I)|(go_at_call 35;refine(HR.l _ _ C.l HV.l.1).y ?_;rintro e w2 ⟨p,rfl,aa,a⟩;have ao:=U2 (U6 C.l a.l);obtain⟨ak,_⟩:=((g.l.u c.l).u a.l).H;have R:=((g.l.u c.l).u a.l).lt)|(go_at_call 36;refine(HV.l.2 _ a.l).y ?_;rintro e w3 ⟨rfl,i⟩;have N:=U2 (U6 ao.l i.l);obtain⟨af,_⟩:=(((g.l.u c.l).u a.l).u i.l).H;have ad:=(((g.l.u c.l).u a.l).u i.l).lt)|(go_at_call 37;refine(L.l _ N.l).y ?_;rintro e w4 ⟨o,rfl,ab,D⟩))
 have k:=U2 (U6 N.l D.l);have al:=U2 (K.l _ _ _ _ p o C.l aa.l i.l ab.l k.l (U6 i.l D.l));have l:=U2 (HW.l.u k.l);have an:=(((g.l.u c.l).u a.l).u i.l).u D.l;clear aa ab HR L xc ak af S R ad HH HV K;obtain⟨xc,_,S⟩:=an.I;have H:=l.l.box;obtain⟨wc,wf,au⟩:=H.I;have d:w4.r B 50 3 (V 1) M.rs.j (mz M.rs):=l.l.hd.row 1 _ _ _ _ rfl;have av:=zX ae k.l.q;obtain⟨I,z,E⟩:=zq d;have ay:w4.p (ω wb 1)=Z (.k I M.rs.j z):=by rw[wc,←E];rfl
 rw[E] at d;clear wc;go_region_law (first|(refine fU w4 _ [(π p),(π o),(π m)] 50 rfl (.tmp 65) (.tmp 71) 29 rfl B 50 i0 _ 3 24 underlying29 hi am ai ap rfl θ (.k I M.rs.j z) M.rs.j (mz M.rs) (by simp[k_]) d φ w4.o.q 1 (by simp[k_]) (by exact U3.drew (U3.new _ _ _)) rfl a_ η η η ?_;intro v' w5 ac G v aw a1;obtain⟨az,ar,rfl⟩:=zq ac;have ag:=H.save G (vL d H θ);obtain⟨a0,ax,aq⟩:=ag.I))
 all_goals
  rw[←E] at G v;have hq:=l.l.put (f:=1) (M':={M with rs:=M.rs++[(p,o,m,cs,t)]}) θ (λf hf=>by unfold ym.f;split<;>first|rfl|omega) (T:=50) (s:=3) (n:=M.rs.j+1) (by simp[ym.f,mz]) ac G (v.imp_right zg) l.l.nums λA y u ah aj=>⟨u.ints,u.win,u.D,u.lists,u.F,u.z,u.pairs,λr hr=>by
   rcases zW.1 hr with q|q;exact u.ress r q;rw[xo.1 q];exact al.l.keep ah (λb hb=>(l.l.tags 1 θ b hb).2) (λb q1 q2=>(aj b q1).A q2)⟩
  have HQ:=U2 hq;clear hq;go_wp2;go_ret;obtain⟨⟨A,r1,r2⟩,r3,_⟩:=HQ.l;exact⟨rfl,⟨A,_,_,ζ,r1,λb q=>r2 b (yh q k.l.q)⟩,(uw.of k.l).A r3 λ_ _=>rfl⟩
end
end
section
section
variable {B:Nat} {own:UY} {w w' w2:U} {wb:Nat} {M:ym} {V:Nat->O}
def zH.regs(h:zH B own w wb M V){a n ex:Int}{nb:Bool}(o:Vz a/\Vz n/\Vz ex)(g:zc [wb] w w')(c:U3 w' wb #[V 0,V 1,V 2,V 3,ι a,ι n,ι ex,V 7,.i nb,V 9,V 10,V 11,V 12,V 13] 35):zH B own w' wb {M with a:=a,n:=n,ex:=ex,nn:=nb} (vY (vY (vY (vY V 4 (ι a)) 5 (ι n)) 6 (ι ex)) 8 (.i nb))/\uw own w w':=by
 have i:∀b∈[wb],(0<(own b).1/\(own b).1<20)/\xh own b:=λb c=>by
  rw[xo.1 c];exact⟨by rw[h.hd.tag];decide,by unfold xh;rw[h.hd.tag];decide⟩
 refine⟨⟨h.hd.gen [4,5,6,8] g (λb c=>zh (xo.1 c)) c (λ_ _=>rfl) (λb q=>h.hd.new b (zX g.q q)) (λf e=>?_) (λf e=>?_),?_,rfl,rfl,rfl,rfl⟩,⟨_,g,λb c=>(i b c).2⟩⟩;simp at e;obtain⟨l,k,j,m⟩:=e;exact⟨by simp[vY,l,k,j,m],by unfold ym.f;split<;>rfl⟩;simp at e;rcases e with rfl|rfl|rfl|rfl<;>exact⟨λT s n p q=>by simp[ym.f] at q,λb q=>by simp[vY,O.ownBlock] at q⟩
 have d:=h.inn.keep g (λb c=>(i b c).1) (λ_ _ _=>rfl);exact⟨d.ints,d.win,o,d.lists,d.F,d.z,d.pairs,d.ress⟩
def zH.reord(h:zH B own w wb M V){ord':List wa}{v:O}(m:w2.r B 24 1 v ord'.j (ord'.map dW))(j:zc (V 7).m.v w w2)(d:v.m=(V 7).m∨v.m=Y∨∃g,v.m=Z g/\w.o.q<=g)(k:∀o∈ord',rP M.ins o)(l:ord'.j<=M.ord.j+1):U9 B own w wb M (ε (.i true)) (w2.x (ω wb 7) v)/\∃a,zH B a (w2.x (ω wb 7) v) wb {M with ord:=ord'} (vY V 7 v)/\∀b,b<w.o.q->a b=own b:=by
 obtain⟨⟨a,e,i⟩,p,_⟩:=h.put (f:=7) (M':={M with ord:=ord'}) θ (λf q=>by unfold ym.f;split<;>first|rfl|omega) (T:=24) (s:=1) (n:=ord'.j) rfl m j d h.nums λa w' c _ _=>⟨c.ints,k,c.D,c.lists,c.F,c.z,c.pairs,c.ress⟩;exact⟨⟨rfl,⟨a,_,_,e,⟨ζ,ζ,ζ,ζ,l,ζ,ζ,ζ,rfl⟩,i⟩,p⟩,a,e,i⟩
def EV(l:List Int)(i:Nat)(c:Int):(ug l).setIfInBounds i (ι c)=ug (l.set i c):=by simp[ug,List.map_set]
def zH.write(h:zH B own w wb M V)(k:Nat)(N:k<M.ins.j)(i:Nat)(c:Int):
  zH B own ((w.x (ω M.ins[k].1 i) (ι c)).x (ω M.ins[k].2.1 i) (ι c)) wb {M with ins:=M.ins.set k (M.ins[k].1,M.ins[k].2.1,M.ins[k].2.2.set i c)} V/\uw own w ((w.x (ω M.ins[k].1 i) (ι c)).x (ω M.ins[k].2.1 i) (ι c)):=by
 obtain⟨⟨K,P⟩,⟨t2,aa⟩,S⟩:=h.inn.ints k N;have e3:lC (M.ins.set k (M.ins[k].1,M.ins[k].2.1,M.ins[k].2.2.set i c))=lC M.ins:=ot N ζ;have e4:lO (M.ins.set k (M.ins[k].1,M.ins[k].2.1,M.ins[k].2.2.set i c))=lO M.ins:=ot N ζ;have ew:∀o∈M.ord,rP (M.ins.set k (M.ins[k].1,M.ins[k].2.1,M.ins[k].2.2.set i c)) o:=λo W=>by
  have q:=h.inn.win o W;match o,q with
  |none,_=>trivial
  |some (g,f,n,ex),⟨x,hx,E,C⟩=>
   obtain⟨j,v,rfl⟩:=vh.1 hx;refine⟨_,vh.2 ⟨j,by simpa using v,rfl⟩,?_⟩;rw[fG];split;rename_i e;subst e;exact⟨E,by simpa using C⟩;exact⟨E,C⟩
 generalize ab:M.ins[k].1=G at *;generalize ac:M.ins[k].2.1=F at *;generalize hl:M.ins[k].2.2=l at *;have D:zc [G,F] w ((w.x (ω G i) (ι c)).x (ω F i) (ι c)):=((zc.set w G i _).more ζ).A ((zc.set _ F i _).more ζ);have hN:∀b∈[G,F],own b=(20,k+1)∨own b=(21,k+1):=λb z=>by
  simp at z;rcases z with rfl|rfl;exact zh K;exact zg t2
 have hz:∀b∈[G,F],xh own b:=λb z=>by
  unfold xh;rcases hN b z with e|e<;>rw[e]<;>simp
 have q:∀b t,own b=t->t≠(20,k+1)->t≠(21,k+1)->b∉[G,F]:=λb t e E C hm=>by
  rcases hN b hm with e2|e2;exact E (e ▸ e2);exact C (e ▸ e2)
 have qb:∀{b:Nat} {c:Array O} {T:TypeId} {t:W8},own b=t/\U3 w b c T->t≠(20,k+1)->t≠(21,k+1)->own b=t/\U3 _ b c T:=λa E C=>⟨a.1,a.2.save D (q _ _ a.1 E C)⟩;have J:∀{g n:Nat} {A:Nat} {e:TypeId} {s m:Nat} {xs:Γ} {t:W8},own g=t->w.r A e s (sl g n) m xs->t≠(20,k+1)->t≠(21,k+1)->U.ownsRow _ A e s (sl g n) m xs:=λa W E C=>yd W D λb z=>by cases z;exact q _ _ a E C
 have I:G≠F:=λe=>by rw[e,t2] at K;simp at K
 refine⟨⟨h.hd.gen [] D (λb z=>zg (zg (by rcases hN b z with e|e<;>rw[e]<;>simp))) (h.hd.box.save D (q _ _ h.hd.tag ζ ζ)) (λ_ _=>rfl) (λb q=>h.hd.new b (zX D.q q)) (λf _=>⟨rfl,?_⟩) ζ,⟨λj v=>?_,ew,h.inn.D,λj v=>?_,λj v=>?_,λj v=>?_,λp hp=>(h.inn.pairs p hp).keep D hz λ_ _ e=>e,λr hr=>(h.inn.ress r hr).keep D hz λ_ _ e=>e⟩,h.nums⟩,⟨_,D,hz⟩⟩;unfold ym.f;split<;>simp[e3,e4]
 have Q:j<M.ins.j:=by simpa using v
 by_cases y:j=k;subst y;simp only[mY];have r1:=(P.set i (ι c)).set_ne I i (ι c);have r2:=(aa.set_ne (l_ I) i (ι c)).set i (ι c);rw[EV] at r1 r2;exact⟨⟨K,r1⟩,⟨t2,r2⟩,by simpa using S⟩;simp only[nD (l_ y)];obtain⟨d,u,H⟩:=h.inn.ints j Q;exact⟨qb d (by simp[y]) ζ,qb u ζ (by simp[y]),H⟩;obtain⟨d,u,H⟩:=h.inn.lists j v;exact⟨⟨d.1,J d.1 d.2 ζ ζ⟩,⟨u.1,J u.1 u.2 ζ ζ⟩,H⟩;obtain⟨d,L,u,H,R,a5⟩:=h.inn.F j v;refine⟨d,L,u,H,J d R ζ ζ,λx hx=>?_⟩;obtain⟨b1,c,b2,b3⟩:=a5 x hx;have b4:=qb ⟨b1,b2⟩ ζ ζ;exact⟨b4.1,c,b4.2,b3⟩;obtain⟨d,L,u,H,R⟩:=h.inn.z j v;exact⟨d,L,u,H,J d R ζ ζ⟩
end
end
section
open Go.Proofs.Tryz
section
variable {B:Nat} {own:UY} {w:U} {wb:Nat} {M:ym} {V:Nat->O} {a b c:Int} {s:ByteArray}
def uU(B:Nat)(own:UY)(w:U)(wb:Nat)(M:ym)(e:Ending)(w':U):Prop:=∃d,U9 B own w wb {M with nn:=d} e w'
def uU.of{e:Ending}{w':U}(h:U9 B own w wb M e w'):uU B own w wb M e w':=⟨M.nn,h⟩
def uU.more{e:Ending}{d f:U}(h:uU B own w wb M e d)(g:μ d f):uU B own w wb M e f:=by
 obtain⟨i,q⟩:=h;exact⟨i,q.more g⟩
def zH.regsN{w':U}(h:zH B own w wb M V){a n d:Int}{nb:Bool}(j:Vz a/\Vz n/\Vz d)(e:zc [wb] w w')(f:U3 w' wb #[V 0,V 1,V 2,V 3,ι a,ι n,ι d,V 7,.i nb,V 9,V 10,V 11,V 12,V 13] 35):uU B own w wb M (ε (.i true)) w':=by
 obtain⟨g,i⟩:=h.regs j e f;exact⟨nb,rfl,⟨own,_,_,g,⟨ζ,ζ,ζ,ζ,ζ,ζ,ζ,ζ,rfl⟩,λ_ _=>rfl⟩,i⟩
def NA(h:zH B own w wb M V)(g:Vz a/\Vz b/\Vz c):
  c_ e_ 94 #[(π wb),.agg #[ι 4,ι a,ι b,ι c,.g s]] w λe f=>uU B own w wb M e f:=by
 have d:=h.box;have j:=U2 (h.regsN (w':=((w.x (ω wb 4) (ι a)).x (ω wb 5) (ι b)).x (ω wb 6) (ι c)) (nb:=M.nn) g (((zc.set w wb 4 _).A (zc.set _ wb 5 _)).A (zc.set _ wb 6 _)) (by simpa using((d.set 4 (ι a)).set 5 (ι b)).set 6 (ι c)));obtain⟨l,k,i⟩:=d.I;clear h g;go_enter func94,ntmps94;go_wp2;go_ret;exact j.l.more zQ
def Re(h:zH B own w wb M V):
  c_ e_ 94 #[(π wb),.agg #[ι 6,ι a,ι b,ι c,.g s]] w λe r=>uU B own w wb M e r:=by
 have o:=h.box;have x:=h.hd.q;have u:=U2 h;obtain⟨z,y,g⟩:=o.I;clear h;generalize k:(bits BinOp.and IntKind.i64 a 1 == 1)=d;have m:X (uU B own w wb M (ε (.i true)) ((((w.x (ω wb 7) (.k (Z (δ (w.o.q+1))) 0 0)).x (ω wb 8) (.i d)).C (.E #[ι 6,ι a,ι b,ι c,.g s] 67)).C (.E #[] 24))):=by
  have j:=CV (w.C (.E #[ι 6,ι a,ι b,ι c,.g s] 67)) [] 24 θ;rw[U.size_alloc] at j;obtain⟨⟨_,_,t⟩,f,i,l⟩:=u.l.reord (ord':=[]) (v:=.k (Z (δ (w.o.q+1))) 0 0) (yq j η) (zc.of (show μ w _ from φ)) (zg (zg ⟨_,rfl,Nat.le_succ _⟩)) ζ ζ;obtain⟨p,n⟩:=i.regs (nb:=d) i.inn.D (zc.set _ wb 8 (.i d)) (by simpa [vY] using i.box.set 8 (.i d));have q:uU B own w wb M (ε (.i true)) _:=⟨d,rfl,⟨f,_,_,p,⟨ζ,ζ,ζ,ζ,ζ,ζ,ζ,ζ,rfl⟩,l⟩,t.l.A n l⟩;rw[h_ _ _ _ _ υ,h_ _ _ _ _ g,h_ _ _ _ _ (by simp[i_];omega),h_ _ _ _ _ (by simp[i_];omega)] at q;exact q
 go_enter func94,ntmps94;go_wp2;go_ret;exact m.l
def RF(h:zH B own w wb M V)(hn:M.ins.j<=1048577)(ha:Vz a)(hb:Vz b):
  c_ e_ 94 #[(π wb),.agg #[ι 3,ι a,ι b,ι c,.g s]] w λe N=>uU B own w wb M e N:=by
 unfold Vz at ha hb;have P:=U2 λG (q:μ w G)=>uU.of (U9.kept h q);have HT:=U2 h;obtain⟨al,ar,g⟩:=zq (h.hd.row 2 _ _ _ _ rfl);obtain⟨am,aw,o⟩:=zq (h.hd.row 3 _ _ _ _ rfl);have A:=h.box;rw[g,o] at A;obtain⟨hc,hf,a5⟩:=A.I;by_cases h0:M.ins.j=0
 .clear h g o;generalize M.ins.j=n at *;subst h0;go_enter func94,ntmps94;go_wp2;go_ret;exact P.l _ φ
 obtain⟨k,F⟩:∃k,k=kt a M.ins.j:=⟨_,rfl⟩;have hk:k<M.ins.j:=by rw[F];exact m9 a η
 have ae:X (∀W:U,c_ e_ 95 #[ι a,ι M.ins.j] W λe N=>e=ε (ι (k:Int))/\N=W):=λW=>by rw[F];exact lJ W a _ η η ha
 have HR:X (∀W,μ w W->∃H j,al=Z (δ H)/\am=Z (δ j)/\H<W.o.q/\j<W.o.q/\W.p (ω H k)=Z (.k (Z (δ M.ins[k].1)) M.ins[k].2.2.j M.ins[k].2.2.j)/\W.p (ω j k)=Z (.k (Z (δ M.ins[k].2.1)) M.ins[k].2.2.j M.ins[k].2.2.j)/\own j=(5,0)):=λW t=>by
  obtain⟨H,c1,q1,q2,q3,q4⟩:=kL ((h.u t).hd.row 2 _ _ _ _ rfl) k hk;obtain⟨j,c2,r1,r2,r3,r4⟩:=kL ((h.u t).hd.row 3 _ _ _ _ rfl) k hk;have q5:=q1;have r5:=r1;rw[g] at q5;rw[o] at r5;cases q5;cases r5;exact⟨H,j,rfl,rfl,q2,r2,by rw[q4];simp[lC,sl],by rw[r4];simp[lO,sl],((h.u t).hd.tg 3 j (by rw[r1];rfl)).1⟩
 have L:X (∀W,μ w W->∀i,i<M.ins[k].2.2.j->uU B own w wb M (ε (.i true)) ((W.x (ω M.ins[k].1 i) (ι c)).x (ω M.ins[k].2.1 i) (ι c))):=λW t i _=>by
  obtain⟨q1,q2⟩:=(h.u t).write k hk i c;exact uU.of (U9.from t ⟨rfl,⟨_,_,_,q1,⟨ζ,ζ,ζ,ζ,ζ,ζ,ζ,ζ,rfl⟩,λ_ _=>rfl⟩,q2⟩)
 have E:=U2 λW (t:μ w W)=>(h.u t).inn.ints k hk;have S:=h.hd.tag;have ai:=h.hd.new;clear h F g o;generalize M.ins[k].1=m at *;generalize M.ins[k].2.1=gc at *;generalize M.ins[k].2.2=l at *;go_enter func94,ntmps94;go_wp2;go_quiet ((go_at_call 95;exact c_.quiet_of_same (ae.l _)))
 have f:μ w ((w.C (.E #[ι 3,ι a,ι b,ι c,.g s] 67)).drewN nq):=zG zQ _;have I:U3 ((w.C (.E #[ι 3,ι a,ι b,ι c,.g s] 67)).drewN nq) w.o.q #[ι 3,ι a,ι b,ι c,.g s] 67:=(U3.new w _ _).u (zG (zn _ _) _);generalize (w.C (.E #[ι 3,ι a,ι b,ι c,.g s] 67)).drewN nq=G at *;clear hc hf;have u:=A.u f;obtain⟨hc,hf,ap⟩:=u.I;obtain⟨Q,ab,a6⟩:=I.I;obtain⟨H,j,rfl,rfl,K,aa,R,ac,_⟩:=HR.l _ f;by_cases hz:l.j=0
 .have a7:¬(0:Int)<(l.j:Int):=η;go_wp2;go_ret;exact P.l _ f
 have a4:(0:Int)<(l.j:Int):=η;obtain⟨⟨p,s1⟩,⟨t2,s2⟩,s3⟩:=E.l _ f;obtain⟨i,z⟩:∃i,i=kt b l.j:=⟨_,rfl⟩;have v:i<l.j:=by rw[z];exact m9 b η
 have ag:X (∀W:U,c_ e_ 95 #[ι b,ι l.j] W λe N=>e=ε (ι (i:Int))/\N=W):=λW=>by rw[z];exact lJ W b l.j η η hb
 clear z s1 s2;go_wp2;go_quiet ((go_at_call 95;exact c_.quiet_of_same (ag.l _)))
 clear hc hf Q ab;have d:μ G (G.drewN nq):=zG (zn _ _) _;generalize G.drewN nq=r at *;have y:=U6 f d;have J:=u.u d;obtain⟨hc,hf,ax⟩:=J.I;have ad:=I.u d;obtain⟨Q,ab,ao⟩:=ad.I;have a3:=zi d K R;have a2:=zi d aa ac;have av:=yh K d.q;have ay:=yh aa d.q;have aj:=U2 (L.l r y i v);obtain⟨⟨_,C⟩,⟨_,D⟩,_⟩:=E.l _ y;obtain⟨_,_,_,r2,_,_,_,_,r8⟩:=HR.l _ y;cases r2;have a1:r.p (ω m i)=Z (ι l[i]):=by rw[C.H.1];simp[ug,v]
 have ak:r.p (ω gc i)=Z (ι l[i]):=by rw[D.H.1];simp[ug,v]
 have aq:=C.lt;have T:=D.lt;have aA:=C.H.2;have a9:=D.H.2;have an:m≠wb:=λe=>by rw[e,S] at p;simp at p
 have az:gc≠wb:=λe=>by rw[e,S] at t2;simp at t2
 have au:m≠w.o.q:=λe=>by rw[e,ai _ (ze _)] at p;simp at p
 have a8:m≠j:=λe=>by rw[e,r8] at p;simp at p
 have ah:m≠gc:=λe=>by rw[e,t2] at p;simp at p
 clear L E HR R ac p t2;generalize l[i]=x at *;go_wp2;have af:zc [m] r (r.x (ω m i) (ι c)):=zc.set r m i _;have a0:(r.x (ω m i) (ι c)).p (ω gc i)=Z (ι x):=by
  rw[U.cell?_of_block (w:=r) (af.block gc T (by simp;exact l_ ah))];exact ak
 go_region
 go_wp2;go_region
 go_wp2;go_ret;exact aj.l.more (zn _ _).drew.drew
end
section
variable {B:Nat} {own:UY} {w:U} {wb:Nat} {M:ym} {V:Nat->O} {a b c:Int} {s:ByteArray}
def eQ(B:Nat)(own:UY)(w:U)(wb:Nat)(M:ym)(e:Ending)(w':U):Prop:=e=ε (.tuple #[])/\X (uU B own w wb M (ε (.i true)) w')
def Ei{d j k:U}{l:Nat->O}(n:zH B own d wb {M with nn:=false} l)(p:uw own w d)(y:d.o.q=w.o.q)(i:μ d j){o:wa}{h:O}(t:k.r B 24 1 h (M.ord.j+1) (M.ord.map dW++[dW o]))(x:zc (l 7).m.v j k)(m:h.m=(l 7).m∨∃g,h.m=Z g/\j.o.q<=g)(A:rP M.ins o):eQ B own w wb M (ε (.tuple #[])) (k.x (ω wb 7) h):=by
 obtain⟨⟨_,_,z⟩,f,r,u⟩:=(n.u i).reord (ord':=M.ord++[o]) (v:=h) (by rw[yB,uY];exact t) x (m.imp_right zg) (λq e=>by
  rcases zW.1 e with e|e;exact n.inn.win q e;rw[xo.1 e];exact A) ζ
 have C:=i.q;exact⟨rfl,false,rfl,⟨f,_,_,r,⟨ζ,ζ,ζ,ζ,ζ,ζ,ζ,ζ,rfl⟩,λb q=>u b η⟩,(p.A (uw.of (own:=own) i) λ_ _=>rfl).A z.l λ_ _=>rfl⟩
def Fo(h:zH B own w wb M V)(hn:M.ord.j<=1048577)(L:M.ins.j=0∨(bits BinOp.and IntKind.i64 b 1 == 1)=true):
  c_ e_ 135 #[(π wb),.agg #[ι 5,ι a,ι b,ι c,.g s]] w λe J=>eQ B own w wb M e J:=by
 obtain⟨i0,hi,z,D,E⟩:=info_parts Ut;have hB:=h.hd.q;have y:=h.box;obtain⟨u,N⟩:=h.regs (w':=w.x (ω wb 8) (.i false)) (nb:=false) h.inn.D (zc.set w wb 8 _) (by simpa using y.set 8 (.i false));have R:=U2 u;have HZ:=U2 N;obtain⟨F,r,j⟩:=zq (h.hd.row 2 _ _ _ _ rfl);obtain⟨n,d,l⟩:=zq (h.hd.row 7 _ _ _ _ rfl);have C:=U2 l;have x:X (∀W,Below (w.x (ω wb 8) (.i false)).o.q (w.x (ω wb 8) (.i false)) W->U3 W wb #[V 0,V 1,.slice F M.ins.j r,V 3,ι M.a,ι M.n,ι M.ex,.slice n M.ord.j d,.i false,V 9,V 10,V 11,V 12,V 13] 35/\W.r B 24 1 (.slice n M.ord.j d) M.ord.j (M.ord.map dW)):=λW K=>by
  rw[←j,←l];exact⟨(u.u K).box,(u.u K).hd.row 7 _ _ _ _ rfl⟩
 rw[j] at y;obtain⟨hc,hf,aa⟩:=y.I;clear h u N j l;by_cases A:M.ins.j=0
 all_goals
  have g:((M.ins.j:Int) == 0)=decide (M.ins.j=0):=by cases T:decide (M.ins.j=0)<;>simp at T ⊢<;>omega
  first|rw[decide_eq_true A] at g|(rw[decide_eq_false A] at g;have G:=L.resolve_left A)
  clear L;go_enter func135,ntmps135;go_upto_region 3 with fail
  have q:(w.x (ω wb 8) (.i false)).o.q=w.o.q:=by simp[i_]
  have m:X (Below (w.x (ω wb 8) (.i false)).o.q (w.x (ω wb 8) (.i false)) ((w.x (ω wb 8) (.i false)).C (.E #[ι 5,ι a,ι b,ι c,.g s] 67))):=zQ;generalize (w.x (ω wb 8) (.i false)).C (.E #[ι 5,ι a,ι b,ι c,.g s] 67)=H at *;generalize w.x (ω wb 8) (.i false)=wY at *;obtain⟨k,t⟩:=x.l _ m.l;have ae:B<=H.o.q:=by have:=m.l.q;omega
  obtain⟨Q,P,S⟩:=k.I;go_wp2_with (at_builtin;refine jx H _ [ν] _ rfl (.tmp 28) (.tmp 29) 26 rfl B 24 i0 _ 1 24 underlying26 hi z D E rfl θ (.slice n M.ord.j d) M.ord.j (M.ord.map dW) rfl t (zn _ _) _ _ rfl ζ rfl a_ η η η ?_;intro v3 w3 p i f;obtain⟨af,I,rfl⟩:=zq p;have v:=k.save i (vL t k θ);obtain⟨ab,ac,ad⟩:=v.I)
  (try simp only[Exit.inBlock,Exit.then])
  refine zP (results_none rfl _ _ _) rfl ?_;rw[←C.l] at i f;exact Ei (o:=Y) R.l HZ.l q m.l p i f trivial
def Qx(h:zH B own w wb M V)(ha:Vz a)(hn:M.ord.j<=1048577)(aR:M.ins.j<=1048577)(hz:M.ins.j≠0)(a9:(bits BinOp.and IntKind.i64 b 1 == 1)=false):
  c_ e_ 135 #[(π wb),.agg #[ι 5,ι a,ι b,ι c,.g s]] w λe t=>eQ B own w wb M e t:=by
 obtain⟨i0,hi,au,ap,a7⟩:=info_parts Ut;have hB:=h.hd.q;have d:=h.inn.D;have hb:=h.box;obtain⟨Q,h2⟩:=h.regs (w':=w.x (ω wb 8) (.i false)) (nb:=false) h.inn.D (zc.set w wb 8 _) (by simpa using hb.set 8 (.i false));have HW:=U2 Q;have HZ:=U2 h2;obtain⟨ah,af,v⟩:=zq (h.hd.row 2 _ _ _ _ rfl);obtain⟨P,p,K⟩:=zq (h.hd.row 7 _ _ _ _ rfl);have a6:=U2 K;obtain⟨k,J⟩:∃k,k=kt a M.ins.j:=⟨_,rfl⟩;have hk:k<M.ins.j:=by rw[J];exact m9 a η
 have ae:X (∀W:U,c_ e_ 95 #[ι a,ι M.ins.j] W λe t=>e=ε (ι (k:Int))/\t=W):=λW=>by rw[J];exact lJ W a M.ins.j η η ha
 have ad:X (∀W,Below (w.x (ω wb 8) (.i false)).o.q (w.x (ω wb 8) (.i false)) W->U3 W wb #[V 0,V 1,.slice ah M.ins.j af,V 3,ι M.a,ι M.n,ι M.ex,.slice P M.ord.j p,.i false,V 9,V 10,V 11,V 12,V 13] 35/\W.r B 24 1 (.slice P M.ord.j p) M.ord.j (M.ord.map dW)/\∃S,ah=Z (δ S)/\S<W.o.q/\W.p (ω S k)=Z (.slice (Z (δ M.ins[k].1)) M.ins[k].2.2.j M.ins[k].2.2.j)/\M.ins[k].1<W.o.q):=λW hW=>by
  obtain⟨S,c1,q1,q2,q3,q4⟩:=kL ((Q.u hW).hd.row 2 _ _ _ _ rfl) k hk;have q5:V 2=_:=q1;rw[v] at q5;cases q5;rw[←v,←K];exact⟨(Q.u hW).box,(Q.u hW).hd.row 7 _ _ _ _ rfl,S,rfl,q2,by rw[q4];simp[lC,sl],((Q.u hW).inn.ints k hk).1.2.lt⟩
 have aN:=(h.inn.ints k hk).2.2;have HX:X (∃x∈M.ins,x=M.ins[k]):=⟨_,zr hk,rfl⟩;rw[v] at hb;obtain⟨hc,hf,aw⟩:=hb.I;clear h Q h2 J v K;have a8:((M.ins.j:Int) == 0)=false:=by rw[beq_eq_false_iff_ne];omega
 go_enter func135,ntmps135;go_upto_region 5 with fail
 have I:X (Below (w.x (ω wb 8) (.i false)).o.q (w.x (ω wb 8) (.i false)) ((w.x (ω wb 8) (.i false)).C (.E #[ι 5,ι a,ι b,ι c,.g s] 67))):=zQ;have D:(w.x (ω wb 8) (.i false)).o.q=w.o.q:=by simp[i_]
 have T:U3 ((w.x (ω wb 8) (.i false)).C (.E #[ι 5,ι a,ι b,ι c,.g s] 67)) w.o.q #[ι 5,ι a,ι b,ι c,.g s] 67:=U3.newAt _ _ _ _ D.symm;generalize (w.x (ω wb 8) (.i false)).C (.E #[ι 5,ι a,ι b,ι c,.g s] 67)=wX at *;generalize w.x (ω wb 8) (.i false)=wY at *;obtain⟨E,ac,S,rfl,aI,ax,ag⟩:=ad.l _ I.l;have a1:B<=wX.o.q:=by have:=I.l.q;omega
 clear hc hf aw hb;obtain⟨a3,am,a4⟩:=E.I;obtain⟨aq,a5,az⟩:=T.I;generalize M.ins[k]=x at *;have i:=U2 λW=>lJ W M.a (x.2.2.j+1) η η d.1;obtain⟨at',g⟩:∃q,q=kt M.a (x.2.2.j+1):=⟨_,rfl⟩;have ao:at'<x.2.2.j+1:=by rw[g];exact m9 _ η
 rw[←g] at i;have j:=U2 λW=>lJ W M.n (x.2.2.j-at'+1) η η d.2.1;obtain⟨n,F⟩:∃q,q=kt M.n (x.2.2.j-at'+1):=⟨_,rfl⟩;have a2:n<x.2.2.j-at'+1:=by rw[F];exact m9 _ η
 rw[←F] at j;have l:=U2 λW=>lJ W M.ex (x.2.2.j-at'-n+1) η η d.2.2;obtain⟨u,G⟩:∃q,q=kt M.ex (x.2.2.j-at'-n+1):=⟨_,rfl⟩;have ar:u<x.2.2.j-at'-n+1:=by rw[G];exact m9 _ η
 rw[←G] at l;clear g F G d;have ak:X (∀W,c_ e_ 95 #[ι M.a,ι ((x.2.2.j:Int)+1)] W λe t=>e=ε (ι (at':Int))/\t=W):=λW=>by
  have:=i.l W;rw[Int.natCast_add] at this;exact this
 have aj:X (∀W,c_ e_ 95 #[ι M.n,ι ((x.2.2.j:Int)-(at':Int)+1)] W λe t=>e=ε (ι (n:Int))/\t=W):=λW=>by
  have:=j.l W;rw[show((x.2.2.j-at'+1:Nat):Int)=(x.2.2.j:Int)-(at':Int)+1 from by omega] at this;exact this
 have al:X (∀W,c_ e_ 95 #[ι M.ex,ι ((x.2.2.j:Int)-(at':Int)-(n:Int)+1)] W λe t=>e=ε (ι (u:Int))/\t=W):=λW=>by
  have:=l.l W;rw[show((x.2.2.j-at'-n+1:Nat):Int)=(x.2.2.j:Int)-(at':Int)-(n:Int)+1 from by omega] at this;exact this
 clear i j l;go_quiet ((go_at_call 95;exact c_.quiet_of_same (ae.l _)))
 clear ae;have f:X (μ wX (wX.drewN nq)):=zG (zn _ _) _;generalize wX.drewN nq=wZ at *;have N:=E.u f.l;have aG:x.1<wZ.o.q:=yh ag f.l.q;have an:=U2 (U6 I.l f.l);have L:X (rP M.ins (Z (x.1,at',n,u))):=by
  obtain⟨y,hy,rfl⟩:=HX.l;exact⟨y,hy,rfl,η⟩
 have ab:=zy ac f.l;have aE:=zX a1 f.l.q;have l1:at'<=x.2.2.j:=η;have l2:at'+n<=x.2.2.j:=η;have l3:at'+n+u<=x.2.2.j:=η;clear a3 am a4 aq a5 az T E ax ag HX ad f ao a2 ar ac;obtain⟨aQ,aF,aB⟩:=N.I;generalize x.1=R at *;generalize x.2.2.j=ln at *;go_upto_region 7 with (go_at_call 95;refine(ak.l _).y ?_;rintro e w5 ⟨rfl,m⟩;obtain rfl:=m.symm)
 go_upto_region 8 with (go_at_call 95;refine(aj.l _).y ?_;rintro e w5 ⟨rfl,m⟩;obtain rfl:=m.symm)
 go_upto_region 9 with (go_at_call 95;refine(al.l _).y ?_;rintro e w5 ⟨rfl,m⟩;obtain rfl:=m.symm)
 obtain⟨A,av⟩:∃A,A=at'+n:=⟨_,rfl⟩;obtain⟨z,a0⟩:∃z,z=at'+n+u:=⟨_,rfl⟩;obtain⟨r,aS,ay⟩:∃r,(if z=at' then Z ((δ R):Addr) else Z (ω R at'))=Z (ω R r)/\X (rP M.ins (Z (R,r,n,u))):=by
  by_cases q:z=at';obtain⟨y,hy,e,aC⟩:=L.l;exact⟨0,by simp[q],⟨y,hy,e,η⟩⟩;exact⟨at',by simp[q],L⟩
 have aK:IntKind.i64.wrap ((at':Int)+(n:Int))=(A:Int):=by rw[IntKind.wrap_i64];omega
 have aP:IntKind.i64.wrap ((A:Int)+(u:Int))=(z:Int):=by rw[IntKind.wrap_i64];omega
 have c1:(z:Int)<=(ln:Int):=η;have c2:(A:Int)<=max (z:Int) 0:=η;have c3:at'<=A:=η;have c4:A<=z:=η;have d1:A-at'=n:=η;have d2:z-at'=n+u:=η;clear av a0 l1 l2 l3 L;go_region_law (first|(refine fU wZ _ [.slice (Z (ω R r)) n (n+u)] 24 rfl (.tmp 82) (.tmp 94) 26 rfl B 24 i0 _ 1 24 underlying26 hi au ap a7 rfl θ (.slice P M.ord.j p) M.ord.j (M.ord.map dW) (by simp[k_]) ab φ wZ.o.q 1 (by simp[k_]) (by exact U3.drew (U3.new _ _ _)) rfl a_ η η η ?_;intro v3 w3 aa H C aL aH;obtain⟨aO,aA,rfl⟩:=zq aa;have ai:=N.save H (vL ab N θ);obtain⟨aD,aJ,aM⟩:=ai.I))
 all_goals
  go_wp2
  (try simp only[Exit.inBlock,Exit.then])
  refine zP (results_none rfl _ _ _) rfl ?_;rw[←a6.l] at H C;exact Ei (o:=Z (R,r,n,u)) HW.l HZ.l D an.l aa H C ay.l
end
section
variable {B:Nat} {own:UY} {w:U} {wb:Nat} {M:ym} {V:Nat->O} {a b c:Int} {s:ByteArray}
def Tn(h:zH B own w wb M V)(r:Vz a)(k:M.ord.j<=1048577)(j:M.ins.j<=1048577):
  c_ e_ 94 #[(π wb),.agg #[ι 5,ι a,ι b,ι c,.g s]] w λe f=>uU B own w wb M e f:=by
 have o:X (∀W,μ w W->c_ e_ 135 #[(π wb),.agg #[ι 5,ι a,ι b,ι c,.g s]] W λe f=>e=ε (.tuple #[])/\X (uU B own w wb M (ε (.i true)) f)):=λW g=>by
  have q:c_ e_ 135 #[(π wb),.agg #[ι 5,ι a,ι b,ι c,.g s]] W λe f=>eQ B own W wb M e f:=by
   by_cases l:M.ins.j=0;exact Fo (h.u g) k (zh l);cases d:(bits BinOp.and IntKind.i64 b 1 == 1);exact Qx (h.u g) r k j l d;exact Fo (h.u g) k (zg d)
  refine q.y ?_;rintro e f ⟨n,p,m⟩;exact⟨n,p,U9.from g m⟩
 clear h;go_enter func94,ntmps94;go_wp2_with (go_at_call 135;refine(o.l _ φ).y ?_;rintro e t ⟨rfl,i⟩)
 go_ret;exact i.l
def zH.addI{v:U}(h:zH B own w wb M V){ga gb:Nat}{l:List Int}{v1 v2:O}(E:zc (wb::((V 2).m.v++(V 3).m.v)) w v)(j:U3 v wb #[V 0,V 1,v1,v2,ι M.a,ι M.n,ι M.ex,V 7,.i M.nn,V 9,V 10,V 11,V 12,V 13] 35)(r:v.r B 24 1 v1 (M.ins.j+1) (lC M.ins++[sl ga l.j]))(p:v.r B 24 1 v2 (M.ins.j+1) (lO M.ins++[sl gb l.j]))(N:v1.m=(V 2).m∨∃g,v1.m=Z g/\w.o.q<=g)(K:v2.m=(V 3).m∨∃g,v2.m=Z g/\w.o.q<=g)(C:∀b,v1.m=Z b->v2.m≠Z b)(S:w.o.q<=ga)(aa:w.o.q<=gb)(H:ga≠gb)(D:U3 v ga (ug l) 3)(F:U3 v gb (ug l) 3)(hl:l.j<=1048576):U9 B own w wb M (ε (.i true)) v:=by
 have Q:=h.hd.tg 2;have P:=h.hd.tg 3;have hs:=E.q;have W:=D.lt;have ab:=F.lt;have L:∀b∈wb::((V 2).m.v++(V 3).m.v),(b=wb∨(∃f∈[2,3],(V f).m=Z b)∨(own b).2≠0)/\(own b=(1,0)∨own b=(4,0)∨own b=(5,0)):=λb j=>by
  rcases z7.1 j with rfl|e;exact⟨zh rfl,zh h.hd.tag⟩;rcases zW.1 e with e|e;exact⟨zg (zh ⟨2,ζ,yA e⟩),zg (zh (Q b (yA e)).1)⟩;exact⟨zg (zh ⟨3,ζ,yA e⟩),zg (zg (P b (yA e)).1)⟩
 have J:∀b,v1.m=Z b->own b=(4,0)∨w.o.q<=b:=λb q=>by
  rcases N with e|⟨g1,e,m⟩;exact zh (Q b (e ▸ q)).1;rw[e] at q;cases q;exact zg m
 have I:∀b,v2.m=Z b->own b=(5,0)∨w.o.q<=b:=λb q=>by
  rcases K with e|⟨g1,e,m⟩;exact zh (P b (e ▸ q)).1;rw[e] at q;cases q;exact zg m
 have t:∀g,U3 v g (ug l) 3->v1.m≠Z g/\v2.m≠Z g:=λg j=>⟨λq=>uj r j θ q rfl,λq=>uj p j θ q rfl⟩;obtain⟨i,d⟩:∃i:UY,∀b,i b=if v2.m=Z b then(5,0) else if v1.m=Z b then(4,0) else if ga=b then(20,M.ins.j+1) else if gb=b then(21,M.ins.j+1) else own b:=⟨_,λ_=>rfl⟩
 have G:∀b,b<w.o.q->i b=own b:=λb q=>by
  rw[d];split;rename_i e;rcases I b e with m|m;exact m.symm;omega;split;rename_i e;rcases J b e with m|m;exact m.symm;omega;rw[za η,za η]
 have u:=h.inn.keep E (λb j=>by rcases(L b j).2 with q|q|q<;>rw[q]<;>simp) λb q _=>G b q;refine⟨rfl,⟨i,{M with ins:=M.ins++[(ga,gb,l)]},λf=>if f=2 then v1 else if f=3 then v2 else V f,⟨h.hd.gen [2,3] E (λb j=>(L b j).1) ?_ G (λb q=>?_) (λf y=>?_) (λf y=>?_),⟨λk R=>?_,λo ho=>?_,u.D,u.lists,u.F,u.z,u.pairs,u.ress⟩,h.nums⟩,⟨ζ,ζ,ζ,ζ,ζ,ζ,ζ,ζ,rfl⟩,G⟩,⟨_,E,λb j=>by unfold xh;rcases(L b j).2 with q|q|q<;>rw[q]<;>decide⟩⟩;obtain⟨e1,m,e3,e4⟩:=h.nums;rw[←e1,←m,←e3,←e4] at j;exact j;rw[d,za (λe=>by have:=yb p e;omega),za (λe=>by have:=yb r e;omega),za η,za η];exact h.hd.new b η;simp at y;refine⟨by simp[y.1,y.2],?_⟩;unfold ym.f;split<;>first|rfl|omega
 simp at y;rcases y with rfl|rfl;refine⟨λT s n xs q=>?_,λb q=>?_⟩;cases q;simpa [lC] using r;have z:v1.m=Z b:=q;exact⟨by rw[d,za (C b z),zb z],yb r z⟩;refine⟨λT s n xs q=>?_,λb q=>?_⟩;cases q;simpa [lO] using p;have z:v2.m=Z b:=q;exact⟨by rw[d,zb z],yb p z⟩;by_cases A:k<M.ins.j;have:=u.ints k A;simp only[uI A];exact this;obtain rfl:k=M.ins.j:=by simp at R;omega
 simp only[n4];exact⟨⟨by rw[d,za (t _ D).2,za (t _ D).1,zb rfl],D⟩,⟨by rw[d,za (t _ F).2,za (t _ F).1,za H,zb rfl],F⟩,hl⟩;have q:=u.win o ho;match o,q with
 |none,_=>trivial
 |some (g,f,n,ex),⟨x,hx,q1,q2⟩=>exact⟨x,zW.2 (zh hx),q1,q2⟩
def vj(s:ByteArray)(k:Nat):List Int:=(List.range s.q).map λi=>if i<k then UC s i else 0
def P4(s:Λ)(k:Nat):(vj s k).j=s.q:=by simp[vj]
def NT(s:Λ)(k:Nat):(vj s k).set k (UC s k)=vj s (k+1):=by
 refine qR (by simp[vj]) λi d f=>?_;simp only[vj,fG,xM,fT];by_cases e:k=i;subst e;simp;rw[za e];by_cases q:i<k;rw[zb q,zb η];rw[za q,za η]
def MV(s:Λ):madeCells #[ι 0] s.q=ug (vj s 0):=by
 refine Array.ext (by simp[size_madeCells,ug,vj]) λi d e=>?_;simp[madeCells,ug,vj,Nat.mod_one]
def GZ{s:Λ}{k i:Nat}(d:i<s.q):(ug (vj s k))[i]?=Z (ι (if i<k then UC s i else 0)):=by simp[ug,vj,d]
def Oa(h:zH B own w wb M V)(hs:s.q<=1048576)(aW:M.ins.j<=1048577):
  c_ e_ 94 #[(π wb),.agg #[ι 2,ι a,ι b,ι c,.g s]] w λe w'=>uU B own w wb M e w':=by
 obtain⟨i0,hi,ao,am,ar⟩:=info_parts Ut;have hB:=h.hd.q;have HW:=U2 h;have a8:=λW:U=>run_make_row' (P:=e_) (w:=W) 24 3 (ι 0) 8 underlying24 TF rfl .i64 .i64 s.q η η;rw[MV] at a8;obtain⟨r,j,E⟩:=zq (h.hd.row 2 _ _ _ _ rfl);obtain⟨o,d,K⟩:=zq (h.hd.row 3 _ _ _ _ rfl);have an:=U2 E;have aq:=U2 K;have a1:X (∀W,μ w W->U3 W wb #[V 0,V 1,.k r M.ins.j j,.k o M.ins.j d,ι M.a,ι M.n,ι M.ex,V 7,.i M.nn,V 9,V 10,V 11,V 12,V 13] 35/\W.r B 24 1 (.k r M.ins.j j) M.ins.j (lC M.ins)/\W.r B 24 1 (.k o M.ins.j d) M.ins.j (lO M.ins)):=λW hW=>by
  rw[←E,←K];exact⟨(h.u hW).box,(h.u hW).hd.row 2 _ _ _ _ rfl,(h.u hW).hd.row 3 _ _ _ _ rfl⟩
 have N:∀q,(g_ r M.ins.j j).m=Z q->(g_ o M.ins.j d).m≠Z q:=λq L F=>by
  rw[←E] at L;rw[←K] at F;have:=(h.hd.tg 2 q L).1;rw[(h.hd.tg 3 q F).1] at this;cases this
 have HD:=U2 N;clear h E K N;go_enter func94,ntmps94;go_upto_region 6 with fail
 have ay:U3 (((w.C (.E #[ι 2,ι a,ι b,ι c,.g s] 67)).C (.E (ug (vj s 0)) 3)).C (.E (ug (vj s 0)) 3)) w.o.q #[ι 2,ι a,ι b,ι c,.g s] 67:=((U3.new w _ _).up _).up _;have a2:U3 (((w.C (.E #[ι 2,ι a,ι b,ι c,.g s] 67)).C (.E (ug (vj s 0)) 3)).C (.E (ug (vj s 0)) 3)) (w.o.q+1) (ug (vj s 0)) 3:=(U3.newAt _ _ _ _ ζ).up _;have a0:U3 (((w.C (.E #[ι 2,ι a,ι b,ι c,.g s] 67)).C (.E (ug (vj s 0)) 3)).C (.E (ug (vj s 0)) 3)) (w.o.q+1+1) (ug (vj s 0)) 3:=U3.newAt _ _ _ _ ζ;have az:X (μ w (((w.C (.E #[ι 2,ι a,ι b,ι c,.g s] 67)).C (.E (ug (vj s 0)) 3)).C (.E (ug (vj s 0)) 3))):=(show μ w _ from φ);generalize ((w.C (.E #[ι 2,ι a,ι b,ι c,.g s] 67)).C (.E (ug (vj s 0)) 3)).C (.E (ug (vj s 0)) 3)=wX at *;have a7:X (w.o.q<w.o.q+1):=j_ _;generalize w.o.q+1=v at *;have a9:X (v<v+1):=j_ _;generalize v+1=G at *;go_wp2;go_loopw [7] (λv7 wr=>∃k:Nat,k<=s.q/\v7=ι k/\U3 wr w.o.q #[ι 2,ι a,ι b,ι c,.g s] 67/\U3 wr v (ug (vj s k)) 3/\U3 wr G (ug (vj s k)) 3/\X (μ w wr)) (λi _=>s.q-(d_ i).toNat);exact⟨0,zs _,rfl,ay,a2,a0,az⟩;obtain⟨k,hk,rfl,ho,h1,h2,HB⟩:=hrel;obtain⟨aJ,aY,aS⟩:=ho.I;have aN:=h1.lt;have aO:=h2.lt;have aC:=a7.l;have aU:=a9.l;by_cases af:k<s.q
 .have av:=qK af;have aM:=h1.H.2;have aV:=h2.H.2;have aQ:wr.p (ω v k)=Z (ι (if k<k then UC s k else 0)):=by rw[h1.H.1];exact GZ af
  have aZ:wr.p (ω G k)=Z (ι (if k<k then UC s k else 0)):=by rw[h2.H.1];exact GZ af
  have a4:w.o.q≠v:=η;have a6:w.o.q≠G:=η;have ak:v≠G:=η;have ax:=h1.set k (ι (UC s k));have a5:=h2.set_ne (l_ ak) k (ι (UC s k));have u:=((ho.set_ne a4 k (ι (UC s k))).set_ne a6 k (ι (UC s k)));have D:=ax.set_ne ak k (ι (UC s k));have y:=a5.set k (ι (UC s k));rw[EV,NT] at D y;have au:X (μ w ((wr.x (ω v k) (ι (UC s k))).x (ω G k) (ι (UC s k)))):=(HB.l.x (by show w.o.q<=v;omega) _).x (by show w.o.q<=G;omega) _;rw[av] at D y u au;have aA:wrap64 (s[k].toNat:Int)=(s[k].toNat:Int):=by
   have:=fV s k;rw[av] at this;unfold wrap64;omega
  go_wp2;go_roundw;exact⟨k+1,η,ξ,u,D,y,au⟩;simp[d_];omega
 have a3:k=s.q:=η;subst a3;obtain⟨z,ag,H⟩:=a1.l _ HB.l;obtain⟨hc,hf,aB⟩:=z.I;have aD:=HB.l.q;have aT:B<=wr.o.q:=η;go_upto_region 13 with (at_builtin;refine jx wr _ [.k (Z (δ v)) s.q s.q] _ rfl (.tmp 52) (.tmp 54) 26 rfl B 24 i0 _ 1 24 underlying26 hi ao am ar rfl θ (.k r M.ins.j j) M.ins.j (lC M.ins) rfl ag (zn _ _) _ _ rfl ζ rfl a_ η η η ?_;intro v3 w3 aa aj Q;obtain⟨p,f,rfl⟩:=zq aa;have u:=z.save aj (vL ag z θ);obtain⟨aE,aI,aR⟩:=u.I)
 have A:=u.set 2 (.k p (M.ins.j+1) f);have ab:zc (wb::(g_ r M.ins.j j).m.v) wr (w3.x (ω wb 2) (.k p (M.ins.j+1) f)):=(aj.more (λx I=>by simp[I])).A ((zc.set w3 wb 2 _).more (λx I=>by simp at I;simp[I]));have ac:(w3.x (ω wb 2) (.k p (M.ins.j+1) f)).r B 24 1 (.k p (M.ins.j+1) f) (M.ins.j+1) (lC M.ins++[.k (Z (δ v)) s.q s.q]):=yd aa (zc.set w3 wb 2 _) λq m n=>uj aa u θ m (by simpa using n);have T:(w3.x (ω wb 2) (.k p (M.ins.j+1) f)).r B 24 1 (.k o M.ins.j d) M.ins.j (lO M.ins):=yd H ab λq m n=>by
  rcases z7.1 n with rfl|n;exact uj H z θ m rfl;exact HD.l q (yA n) m
 have aG:=ab.q;generalize w3.x (ω wb 2) (.k p (M.ins.j+1) f)=w4 at *;simp only[List.setIfInBounds_toArray,pu,ml] at A;obtain⟨aK,aH,aL⟩:=A.I;go_wp2_with (at_builtin;refine jx w4 _ [.k (Z (δ G)) s.q s.q] _ rfl (.tmp 63) (.tmp 65) 26 rfl B 24 i0 _ 1 24 underlying26 hi ao am ar rfl θ (.k o M.ins.j d) M.ins.j (lO M.ins) rfl T (zn _ _) _ _ rfl η rfl a_ η η η ?_;intro v5 w5 ah ap R;obtain⟨J,t,rfl⟩:=zq ah;have ad:=A.save ap (vL T A θ);obtain⟨aF,aP,aX⟩:=ad.I)
 go_ret;have ai:zc (wb::(g_ o M.ins.j d).m.v) w4 (w5.x (ω wb 3) (.k J (M.ins.j+1) t)):=(ap.more (λx I=>by simp[I])).A ((zc.set w5 wb 3 _).more (λx I=>by simp at I;simp[I]));have ae:zc (wb::((g_ r M.ins.j j).m.v++(g_ o M.ins.j d).m.v)) wr (w5.x (ω wb 3) (.k J (M.ins.j+1) t)):=(ab.more (λq m=>by simp only[z7,zW] at m ⊢;rcases m with m|m<;>simp[m])).A (ai.more (λq m=>by simp only[z7,zW] at m ⊢;rcases m with m|m<;>simp[m]));have S:∀g,U3 wr g (ug (vj s s.q)) 3->g∉wb::((g_ r M.ins.j j).m.v++(g_ o M.ins.j d).m.v):=λg hg n=>by
  rcases z7.1 n with rfl|n;exact zC (hg.type z) θ;rcases zW.1 n with n|n;exact uj ag hg θ (yA n) rfl;exact uj H hg θ (yA n) rfl
 have al:∀q,(g_ p (M.ins.j+1) f).m=Z q->(g_ o M.ins.j d).m≠Z q:=λq L F=>by
  rcases Q with e|⟨g,e,hg⟩;exact HD.l q (by rw[←e,L]) F;rw[e] at L;have:=yb H F;simp at L;omega
 have aw:=yd ac ai λq m n=>by
  rcases z7.1 n with rfl|n;exact uj ac A θ m rfl;exact al q m (yA n)
 have C:=P4 s s.q;refine uU.of (HW.l.addI (ga:=v) (gb:=G) (l:=vj s s.q) (v1:=.k p (M.ins.j+1) f) (v2:=.k J (M.ins.j+1) t) (by rw[an.l,aq.l];exact(zc.of HB.l).A ae) (by simpa using ad.set 3 (.k J (M.ins.j+1) t)) (by rw[C];exact aw) (by rw[C];exact yd ah (zc.set w5 wb 3 _) λq m n=>uj ah ad θ m (by simpa using n)) (by rw[an.l];exact Q.imp_right fun⟨g,e,hg⟩=>⟨g,e,η⟩) (by rw[aq.l];exact R.imp_right fun⟨g,e,hg⟩=>⟨g,e,η⟩) (λq L F=>?_) η η η (h1.save ae (S _ h1)) (h2.save ae (S _ h2)) (by rw[C];exact hs));rcases R with e|⟨g,e,hg⟩;exact al q L (by rw[←e,F]);rw[e] at F;have:=yb ac L;simp at F;omega
end
end
section
def GL{α β:Type}{P:α->β->Prop}:∀(l:List α),(∀x∈l,∃y,P x y)->∃r:List β,r.j=l.j/\∀k (a:k<l.j) (b:k<r.j),P l[k] r[k]
 |[],_=>⟨[],rfl,λk a=>by simp at a⟩
 |x::l,h=>by
  obtain⟨y,d⟩:=h x ζ;obtain⟨r,a,b⟩:=GL l (λz e=>h z (by simp[e]));refine⟨y::r,by simp[a],λk f c=>?_⟩;cases k with
  |zero=>exact d
  |succ k=>exact b k (by simpa using f) (by simpa using c)
section
variable {B:Nat} {own:UY} {w:U} {wb:Nat} {M:ym} {V:Nat->O}
def zH.os(h:zH B own w wb M V):∃b:List (Option (List Int)),b.j=(M.ord.map dW).j/\∀k (u:k<(M.ord.map dW).j) (z:k<b.j),ur w (M.ord.map dW)[k] b[k]/\(b[k].getD []).j<=1048576:=by
 refine GL (P:=λv o=>ur w v o/\(o.getD []).j<=1048576) _ λv p=>?_;obtain⟨o,q,rfl⟩:=z9.1 p;have l:=h.inn.win o q;match o,l with
 |none,_=>exact⟨Y,rfl,zs _⟩
 |some (g,f,n,s),⟨x,i,r,y⟩=>
  subst r;obtain⟨j,e,rfl⟩:=vh.1 i;obtain⟨⟨_,d⟩,_,m⟩:=h.inn.ints j e;generalize M.ins[j]=x at *;have a:((x.2.2.drop f).G n).j=n:=by simp;omega
  refine⟨Z ((x.2.2.drop f).G n),⟨(ω x.1 f),n+s,by rw[a];rfl,λk t=>⟨x.1,f,rfl,d.lt,?_⟩⟩,by rw[uF,a];omega⟩;rw[d.H.1];have c:f+k<x.2.2.j:=η;simp[ug,c]
def lf.rd{b:O}{a:Γ}{os:List (Option (List Int))}(s:lU w b a)(q:∀v∈a,v.oneCell'=true)(l:os.j=a.j)(d:∀k (l:k<a.j) (d:k<os.j),ur w a[k] os[k]/\(os[k].getD []).j<=1048576)(H:a.j<=1048577):lf w b false (Z os):=by
 have g:∀o∈os,(o.getD []).j<=2000000:=λo A=>by
  obtain⟨k,p,rfl⟩:=vh.1 A;have:=(d k η p).2;omega
 refine⟨by show os.j<=_;omega,g,λW h=>?_,λW h D E t G z u r=>?_⟩;refine(KZ W b a (s.u h) q η).y ?_;rintro e F ⟨y,rfl,m,x⟩;have i:=U6 h x.l;refine⟨_,rfl,⟨⟨_,0,_,by rw[l],m.l.1.lt,λk p=>?_⟩,λC c=>?_⟩,x⟩;refine⟨a[k]'η,?_,((d k η p).1).u i⟩;rw[m.l.1.H.1];have:k<a.j:=η;simp[List.getElem?_append_left this];have f:=U6 i c;exact K3 C b a os _ y (s.u f) (m.l.1.u c) (m.l.2.u c) l (λk n j=>⟨((d k n j).1).u f,by have:=(d k n j).2;omega⟩) η;exact Sx W D b E t a os z (s.u h) l.symm (λk n j=>((d k n j).1).u h) g u r
def zH.hand(h:zH B own w wb M V)(c:M.ord.j<=1048577):∃a,lf w (V 7) M.nn a:=by
 cases j:M.nn;obtain⟨a,d,i⟩:=h.os;have b:w.r B 24 1 (V 7) M.ord.j (M.ord.map dW):=h.hd.row 7 _ _ _ _ rfl;rw[show M.ord.j=(M.ord.map dW).j from by simp] at b c;refine⟨Z a,lf.rd (lU.own b) (λv e=>?_) d i c⟩;obtain⟨o,_,rfl⟩:=z9.1 e;match o with
 |none=>rfl
 |some (g,f,n,k)=>rfl
 exact⟨Y,lf.no w _⟩
end
end
section
open Go.Proofs.Tryz
def Kr{B:Nat}{own:UY}{w:U}{wb:Nat}{M:ym}{V:Nat->O}(h:zH B own w wb M V){ag:O}{nb:Bool}{os:Option (List (Option (List Int)))}(S:lf w ag nb os)(p:qE)(hp:p∈M.ps)(f J:Int)(av:Vz f)(az:Vz J)(hn:M.rs.j<=1048576):
  c_ e_ 17 #[(π wb),.agg #[.pointer (Z (δ p.1)),.pointer (Z (δ p.2.1))],ag,.i nb,ι f,ι J] w λe N=>rj B own w wb M V e N:=by
 unfold Vz at av az;by_cases Q:f<0∨1048576<f∨J<0∨1048576<J;exact Bg h S _ _ f J 8 (zh rfl) (λW hv _ _=>(Ji W _ _ f J η η Q).y λe N ⟨q1,G⟩=>by subst G;exact⟨q1,zn _ _⟩) (λW _=>(Kh W _ _ f J Q).y λe N ⟨q1,G⟩=>by subst G;exact⟨q1,zn _ _⟩);obtain⟨n,rfl⟩:∃n:Nat,f=(n:Int):=⟨f.toNat,η⟩;obtain⟨o,rfl⟩:∃o:Nat,J=(o:Int):=⟨J.toNat,η⟩;have E:n<=1048576:=η;have A:o<=1048576:=η;obtain⟨⟨lo,s,hB,hP,hQ,_,r,a5,ai⟩,x,hx⟩:=h.inn.pairs p hp;obtain⟨t0,i⟩:=OW hx;obtain⟨px,pm,m,t⟩:=p;dsimp only at *;have hU:V8 (xh own) w.o.q:=λb q=>h.hd.under q;have ap:∀b,xh own b->b<lo∨s.o.q<=b:=λb q=>by
  apply Classical.byContradiction;intro c;exact q (ai b η η)
 obtain⟨ao,ax,a1,ah,ay,am,aq⟩:=hQ.read (z:=xh own) r ap;have ad:=hP.same r;have aj:=hQ.same r;have ae:lo<=w.o.q:=by
  obtain⟨q,_,_,G,_⟩:=ad;exact zX q (Nat.le_of_lt G.lt)
 have j:=i.parts.runok.1;have h5:∀c∈m,(zu c).j<=5:=λc hc=>fO (i.parts.many c hc);have an:∀c∈m,c.d.j<=999/\xn (zj c)<=1000/\(zu c).j<=5/\∀l∈zj c,∀t∈l.k,0<t.q:=λc hc=>by
  have h1:=i.d c hc;have h2:=(j.sums c hc).1;exact⟨η,by simpa [xn,zj] using h2,h5 c hc,λl hl a ha=>(i.k c hc l hl).2 a ha⟩
 have HO:=λW (C:μ w W)=>S.ord W C pm m t lo (aj.u C) an i.len;cases C:vK m os;rw[C] at HO;have hk:wO m t os:=⟨j.len,j.names,j.fine,j.sums,j.M,j.vals,j.jm,S.len,S.each,(λq=>by rw[C] at q;cases q),λq=>by rw[C] at q;cases q⟩;exact Bg h S _ _ _ _ 9 (zg (zh rfl)) (λW hv F T=>OG W px m t hv os n o (ad.u F) T hk C E A) (λW F=>NG E A (HO W F));rw[C] at HO;have H:=λW (hv:O) (F:μ w W) (T:ki W hv os)=>Rj W px hx (ad.u F) i.parts (zX ae F.q) hv os T C n o E A;have I:=λW (F:μ w W)=>IT (z:=xh own) E A (HO W F) (yp5 t m n o) (λW2 af=>Mk W2 pm n o ao ax a1 ah ay am m t0 t (hU.up (U6 F af).q) (aq.u (U6 F af)) i.parts i.ctx i.len i.names i.low i.d i.k E A i.M);have d:=Ni i.parts i.ctx n o;rcases hA:z1h (vq t (zp m) Y m) n o with _|y;rw[hA] at d H;have ac:yp5 t m n o=none:=by
  rcases hq:yp5 t m n o with _|y;rfl;rw[hq] at d;exact d.elim
 rw[ac] at I;exact Bg h S _ _ _ _ 10 (zg (zg rfl)) H I;obtain⟨D,ee⟩:=y;rw[hA] at d H;obtain⟨L,kk,ac⟩:∃L k,yp5 t m n o=Z (L,k):=by
  rcases hq:yp5 t m n o with _|y;rw[hq] at d;exact d.elim;exact⟨y.1,y.2,rfl⟩
 rw[ac] at d I;have u:=d.2.card i.ctx;refine N1 h S _ _ m t _ _ hn (λW N rb=>∃R pv nv rv ab,kN W.o.q lo N rb t (zp m) R pv nv rv ab/\W.p (ω px 1)=Z pv/\Vk t (zp m) R/\zzj (t.map (·.jh)) R=D/\R.Q=ee/\lr D R.count/\R.count<=1048576/\0<=R.jg) (λW N mb=>∃fv,W.o.q<=mb/\U3 N mb #[fv,ι kk] 54/\yX (xh own) W.o.q N fv L) ?_ H I;intro W1 W2 W3 W4 rb mb b1 ⟨R,pv,nv,rv,ab,P,r0,r2,r3,r4,r5,r6,r7⟩ a2 ⟨fv,f1,f2,f3⟩ b4 ak;obtain⟨_,cv,al,kv,k1,k2,k3,k4⟩:=aj;have g:∀b,w.o.q<=b->¬xh own b:=λb q e=>e (h.hd.new b q);have K:=b1.q;have a6:=P.box.lt;have a4:=a2.q;have aa:∀b,lo<=b->b<s.o.q->¬xh own b:=λb q1 G e=>e (ai b q1 G);have ar:=hP;have a0:=hQ;obtain⟨g1,v0,aw,g2,g3,g4⟩:=ar;obtain⟨e1,a3,au,a7,e2,e3,e4,e5⟩:=a0;have ec:al=au:=by
  have q:=e2.same e1 r;rw[U3] at q k1;rw[k1] at q;simp only[zt,Obj.cells.injEq,Array.mk.injEq,m8,and_true] at q;exact q.2.1
 have ht:=d.2;rw[←r3] at ht;refine⟨W1.o.q,lo,R,L,kk,pv,nv,rv,fv,cv,al,kv,ab,P.u ak,⟨g _ (zX K P.low),g mb (by have:=P.low;omega),aa pm e1 e2.lt⟩,?_,λp a c=>?_,r2,ht,⟨(Cj u r5),by rw[r4];exact d.1,r7⟩,f2,f3.low (zs _),by rw[Cj u r5];exact r6,i.ctx,k1.u b4,zy (yq k3 (zs _)) b4,λb q=>?_⟩;have ep:pv=aw:=by
  have q:=(g2.same g1 r).u b1;rw[q.H.1] at r0;exact(Option.some.inj r0).symm
 rintro v (rfl|rfl|rfl|rfl) b q;subst ep;exact aa b (yZ g4 q) (yb g4 q);exact g b (zX K (yZ P.vals q));exact g b (zX K (yZ P.rows q));obtain⟨_,_,G,_⟩:=f3;have:=yZ G q;have:=P.low;exact g b η;obtain⟨fp,q⟩:=P.tries p a c;exact⟨fp,q.u ak,λb C=>g b (zX K (q.lt b C).1)⟩;subst ec;exact aa b (yZ e4 q) (yb e4 q)
end
end Go.Proofs.YteampbddflhngaaGreat
