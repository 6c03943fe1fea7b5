import Derived.Deep.Cut
import Derived.Laws.AppendOwnNone
import Derived.Test.YteampbddflhngaaGreatR03
import Derived.Test.YteampbddflhngaaGreatR04
import Derived.Test.YteampbddflhngaaGreatR05
namespace Go.Proofs.YteampbddflhngaaGreat
open List renaming length→List.j,take→List.G
open _root_.Array renaming size→Array.q,toList→Array.v
open _root_.ByteArray renaming size→ByteArray.q,toList→ByteArray.v
open Go.RowKit.Below renaming size→Go.RowKit.Below.q,setCell→Go.RowKit.Below.x,trans→Go.RowKit.Below.A,alloc→Go.RowKit.Below.C
open Go.TypeInfo renaming size→Go.TypeInfo.q
open Go.RowKit.Hid renaming out→Go.RowKit.Hid.l
open Go.World renaming heap→Go.World.o,setCell→Go.World.x,cell?→Go.World.p,alloc→Go.World.C,ownsRow→Go.World.r
open Go.Value renaming slice→Go.Value.k,string→Go.Value.d,bool→Go.Value.i,cells→Go.Value.E,tuple→Go.Value.B
open Go.TypeDesc renaming slice→Go.TypeDesc.k,string→Go.TypeDesc.d,bool→Go.TypeDesc.i,tuple→Go.TypeDesc.B
open Go.Calls renaming mono→Go.Calls.y
open Eq renaming trans→Eq.A,symm→Eq.z
open Iff renaming trans→Iff.A,symm→Iff.z
open Go.Obj renaming cells→Go.Obj.E
open Int renaming toNat→Int.D
open Ne renaming symm→Ne.z
open Option renaming some→Z,none→Y
open Go.RowKit renaming Hid→X
open Go renaming World→U,Value→O
set_option linter.all false
set_option maxRecDepth 100000
set_option maxHeartbeats 40000000
section
open Go.Proofs.Tryz Go.RowKit
variable {lo:Nat}{o:Option (List zj)}
def GC(w:U)(v:O)(l:κ)(b:Bool)(k:SV w v l)(g:∀y∈l,0<y.q)(r:l.j<=500):
  Calls prog 152 #[v,.i b] w λe z=>kg (jS l b) w e z:=by
 unfold jS;cases p:TV l b;rw[za ζ];by_cases d:l.j=0;have:xC false l=none:=by unfold xC;rw[zb d]
 rw[this];exact ME w v l b k g r p d;cases f:xe (Tr (gB l 0) 0);have:xC false l=none:=by unfold xC;rw[za d,zb f]
 rw[this];exact Jf w v l b k g r p d f;by_cases j:l.j=1;have:xC false l=Z ⟨false,gB l 0,[]⟩:=by unfold xC;rw[za d,f,za ζ,zb j]
 rw[this];exact IY w v l b k g r p d f j;by_cases a:l.j<4∨l.j%2=1∨((gB l 1).v == [40])=false∨((gB l (l.j-1)).v == [41])=false;have:xC false l=none:=by unfold xC;rw[za d,f,za ζ,za j,zb a]
 rw[this];by_cases q:l.j<4;exact Ma w v l b k g r p d f j q;by_cases s:l.j%2=1;exact Qh w v l b k g r p d f j q s;cases m:((gB l 1).v == [40]);exact I7 w v l b k g r p d f j q s m;cases n:((gB l (l.j-1)).v == [41]);exact Ph w v l b k g r p d f j q s m n;rw[m,n] at a;simp at a;omega;simp only[not_or,sG] at a;exact Qr w v l b k g r p d f j a.1 a.2.1 a.2.2.1 a.2.2.2;rw[zb rfl];simp only[TV,uK,decide_eq_true_eq,tp] at p;obtain⟨⟨u,A⟩,rfl⟩:=p;rcases l with _|⟨x,l⟩;simp at u;have i:(x.v == [33])=true:=A;have c:∀y∈l,0<y.q:=λy t=>g y (nX _ t);have h:l.j<=500:=by simp at r;omega
 rw[mR];by_cases d:l.j=0;have:xC true l=none:=by unfold xC;rw[zb d]
 rw[this];exact NY w v x l k c i h d;cases f:xe (Tr (gB l 0) 0);have:xC true l=none:=by unfold xC;rw[za d,zb f]
 rw[this];exact QI w v x l k c i h d f;by_cases j:l.j=1;have:xC true l=Z ⟨true,gB l 0,[]⟩:=by unfold xC;rw[za d,f,za ζ,zb j]
 rw[this];exact Jt w v x l k c i h d f j;by_cases a:l.j<4∨l.j%2=1∨((gB l 1).v == [40])=false∨((gB l (l.j-1)).v == [41])=false;have:xC true l=none:=by unfold xC;rw[za d,f,za ζ,za j,zb a]
 rw[this];by_cases q:l.j<4;exact Iu w v x l k c i h d f j q;by_cases s:l.j%2=1;exact RT w v x l k c i h d f j q s;cases m:((gB l 1).v == [40]);exact Rj w v x l k c i h d f j q s m;cases n:((gB l (l.j-1)).v == [41]);exact Lv w v x l k c i h d f j q s m n;rw[m,n] at a;simp at a;omega;simp only[not_or,sG] at a;exact JE w v x l k c i h d f j a.1 a.2.1 a.2.2.1 a.2.2.2
def Bp(w:U)(v:O)(l:κ)(a:Bool)(k:SV w v l)(d:∀y∈l,0<y.q)(j:l.j<=500)(h:jS l a=Y):
  Calls prog 152 #[v,.i a] w λe g=>∃b p f n c,e=ε (.B #[.agg #[.i b,.d p,.slice f n c],.i false])/\μ w g:=by
 refine(GC w v l a k d j).y ?_;rintro e g ⟨m,i⟩;rw[h] at i;obtain⟨b,p,f,n,c,q⟩:=i;exact⟨b,p,f,n,c,q,m⟩
def oP(w:U)(v:O)(l:κ)(b:Bool)(a:zj)(j:SV w v l)(f:∀y∈l,0<y.q)(i:l.j<=500)(h:jS l b=Z a):
  Calls prog 152 #[v,.i b] w λe d=>∃c,e=ε (.B #[.agg #[.i a.i,.d a.o,c],.i true])/\Tn w.o.q d c a.k/\μ w d:=by
 refine(GC w v l b j f i).y ?_;rintro e d ⟨k,g⟩;rw[h] at g;obtain⟨c,n,m⟩:=g;exact⟨c,n,m,k⟩
def B1(o:Option (List zj))(w:U)(e:Ending)(w':U):Prop:=
 μ w w'/\match o with
  |none=>e=ε (.B #[ν,.i false])
  |some a=>∃v,e=ε (.B #[v,.i true])/\TL w.o.q w' v a
def E4{w w':U}(h:X (o=Y))(a:μ w w'):B1 o w (ε (.B #[ν,.i false])) w':=by
 have b:o=none:=h;subst b;exact⟨a,rfl⟩
def Nl{w w':U}{v:O}{a:Ω}(h:X (o=Z a))(c:μ w w')(hs:TL w.o.q w' v a):B1 o w (ε (.B #[v,.i true])) w':=by
 have b:o=Z a:=h;subst b;exact⟨c,v,rfl,hs⟩
def F0(w:U)(v:O)(l:κ)(hv:SV w v l)(ak:∀y∈l,0<y.q)(hl:l.j<=500):
  Calls prog 153 #[v] w λe w'=>B1 (yT l (l.j+1) 0 0 0) w e w':=by
 obtain⟨i0,hi,ae,ah,ad⟩:=info_parts SU;obtain⟨i1,N,_,_,_⟩:=info_parts SL;obtain⟨ao,ar,rfl⟩:=hv.qy;go_enter func153,ntmps153;go_wp2;go_loopw [4,5,6,7] (λv4 v5 v6 v7 wr=>∃(g:Ω) (f k m:Nat) (d:Int) (V:Γ),v5=ι f/\v6=ι d/\v7=ι k/\f<=k/\k<=l.j+1/\m+k=l.j+1/\-500<=d+(k:Int)/\d<=k/\-(k:Int)<=d/\g.j<=k/\(k=l.j+1∨f<=l.j) ∧
   μ w wr/\wr.r w.o.q 90 3 v4 g.j V/\vl w.o.q wr g V/\X (yT l (l.j+1) 0 0 0=(yT l m f d k).map (g++·))) (λ_ _ _ i _=>l.j+1-(intOf i).D)
 exact⟨[],0,0,l.j+1,0,[],rfl,rfl,rfl,zg _,η,η,η,η,η,ζ,ze η,zn _ _,xp _ _ _ _,rfl,(by simp[X])⟩;obtain⟨g,f,k,m,d,V,rfl,rfl,rfl,a1,a0,av,au,ay,aw,aq,az,h,n,s,H⟩:=hrel;have ap:=h.q;by_cases a2:k<=l.j
 .obtain⟨m,rfl⟩:∃m',m=m'+1:=⟨m-1,η⟩;by_cases M:k<l.j
  .obtain⟨b,o,rfl,aj,af⟩:=hv.cell k M;have al:=zi h aj af;have ax:b<wr.o.q:=η;rw[xJ M] at al;clear af;have c:yT l (m+1) f d k=(if ((gB l k).v == [40]) then yT l m f (d+1) (k+1) else if ((gB l k).v == [41]) then yT l m f (d-1) (k+1) else if ((gB l k).v == [44])=false∨0<d then yT l m f d (k+1) else match jS ((l.drop f).G (k-f)) false with|none=>Y|some a=>(yT l m (k+1) d (k+1)).map (a::·)):=by rw[yT,zb M];try rfl
   cases B:((gB l k).v == [40])
   .cases A:((gB l k).v == [41])
    .cases F:((gB l k).v == [44])
     .have C:X (yT l (l.j+1) 0 0 0=(yT l m f d (k+1)).map (g++·)):=by rw[X,H.l,c,B,A,F];simp
      clear H c;generalize gB l k=x at *;go_wp2;go_roundw;exact⟨g,f,k+1,m,d,V,rfl,rfl,ξ,η,η,η,η,η,η,η,η,h,n,s,C⟩;simp[intOf];omega
     by_cases an:0<d
     .have C:X (yT l (l.j+1) 0 0 0=(yT l m f d (k+1)).map (g++·)):=by rw[X,H.l,c,B,A,F];simp[an]
      clear H c;generalize gB l k=x at *;go_wp2;go_roundw;exact⟨g,f,k+1,m,d,V,rfl,rfl,ξ,η,η,η,η,η,η,η,η,h,n,s,C⟩;simp[intOf];omega
     rw[B,A,F,za ζ,za ζ,za υ] at c;generalize gB l k=x at *;have D:X (∀y∈(l.drop f).G (k-f),0<y.q):=λy hy=>ak y (fg (gH hy));rcases z:jS ((l.drop f).G (k-f)) false with _|a
     .have W:=Tg z;have HF:X (yT l (l.j+1) 0 0 0=Y):=by rw[X,H.l,c,z];rfl
      clear H c z;go_wp2_with (first|(refine jF _ w rfl (.tmp 58) 30 9 (Z (.tmp 59)) (Z (.tmp 60)) rfl underlying30 i1 N SZ _ l rfl hv f k (ze rfl) (ze rfl) η η (k-f) rfl ?_;intro ac G u)|(go_at_call 152;refine(Bp _ _ ((l.drop f).G (k-f)) false (by exact u.u h) D.l υ W).y ?_;rintro e w1 ⟨b1,p1,am,n1,ag,rfl,j⟩;have p:=Tk h j;have L:=p.q))
      go_ret2
      exact E4 HF γ
     have W:=Tg z;have C:X (yT l (l.j+1) 0 0 0=(yT l m (k+1) d (k+1)).map ((g++[a])++·)):=by rw[X,H.l,c,z];simp only[];rw[sW]
     clear H c z;go_wp2_with (first|(refine jF _ w rfl (.tmp 58) 30 9 (Z (.tmp 59)) (Z (.tmp 60)) rfl underlying30 i1 N SZ _ l rfl hv f k (ze rfl) (ze rfl) η η (k-f) rfl ?_;intro ac G u)|(go_at_call 152;refine(oP _ _ ((l.drop f).G (k-f)) false a (by exact u.u h) D.l υ W).y ?_;rintro e w1 ⟨va,rfl,r,j⟩;obtain⟨aa,J,rfl⟩:=r.qy;have p:=Tk h j;have L:=p.q;have t:=zy n j;have I:=s.y λ_ _ q=>q.u j)|(at_builtin;refine gu w1 _ _ _ rfl (.tmp 67) (.tmp 69) 91 rfl w.o.q 90 i0 _ 3 48 underlying91 hi ae ah ad rfl θ _ _ _ rfl t zP _ _ rfl ζ rfl a_ η η L ?_;intro v' w2 Q ab P T E ai;clear P T;have S:Tn w.o.q w2 (O.slice aa a.k.j J) a.k:=yo (gW t θ r E) h.q;have K:=I.y λ_ _ q=>gW t θ q E))
     go_roundw;exact⟨g++[a],k+1,k+1,m,d,_,ξ,rfl,ξ,zg _,η,η,η,η,η,by simp;omega,η,p.A ab,by rw[yN];exact Q,K.snoc S,C⟩;simp[intOf];omega
    obtain⟨_,F⟩:=s41 A;have C:X (yT l (l.j+1) 0 0 0=(yT l m f (d-1) (k+1)).map (g++·)):=by rw[X,H.l,c,B,A];rfl
    clear H c;generalize gB l k=x at *;go_wp2;go_roundw;exact⟨g,f,k+1,m,d-1,V,rfl,rfl,ξ,η,η,η,η,η,η,η,η,h,n,s,C⟩;simp[intOf];omega
   obtain⟨A,F⟩:=s40 B;have C:X (yT l (l.j+1) 0 0 0=(yT l m f (d+1) (k+1)).map (g++·)):=by rw[X,H.l,c,B];rfl
   clear H c;generalize gB l k=x at *;go_wp2;go_roundw;exact⟨g,f,k+1,m,d+1,V,rfl,rfl,ξ,η,η,η,η,η,η,η,η,h,n,s,C⟩;simp[intOf];omega
  have c:yT l (m+1) f d k=(match jS ((l.drop f).G (k-f)) false with|none=>Y|some a=>Z [a]):=by rw[yT,za M];try rfl
  have R:m=0:=η;have D:X (∀y∈(l.drop f).G (k-f),0<y.q):=λy hy=>ak y (fg (gH hy));rcases z:jS ((l.drop f).G (k-f)) false with _|a
  .have W:=Tg z;have HF:X (yT l (l.j+1) 0 0 0=Y):=by rw[X,H.l,c,z];rfl
   clear H c z;go_wp2_with (first|(refine jF _ w rfl (.tmp 58) 30 9 (Z (.tmp 59)) (Z (.tmp 60)) rfl underlying30 i1 N SZ _ l rfl hv f k (ze rfl) (ze rfl) η η (k-f) rfl ?_;intro ac G u)|(go_at_call 152;refine(Bp _ _ ((l.drop f).G (k-f)) false (by exact u.u h) D.l υ W).y ?_;rintro e w1 ⟨b1,p1,am,n1,ag,rfl,j⟩;have p:=Tk h j;have L:=p.q))
   go_ret2
   exact E4 HF γ
  have W:=Tg z;have C:X (yT l (l.j+1) 0 0 0=(yT l m (k+1) d (k+1)).map ((g++[a])++·)):=by rw[X,H.l,c,z,R];simp[yT]
  clear H c z;go_wp2_with (first|(refine jF _ w rfl (.tmp 58) 30 9 (Z (.tmp 59)) (Z (.tmp 60)) rfl underlying30 i1 N SZ _ l rfl hv f k (ze rfl) (ze rfl) η η (k-f) rfl ?_;intro ac G u)|(go_at_call 152;refine(oP _ _ ((l.drop f).G (k-f)) false a (by exact u.u h) D.l υ W).y ?_;rintro e w1 ⟨va,rfl,r,j⟩;obtain⟨aa,J,rfl⟩:=r.qy;have p:=Tk h j;have L:=p.q;have t:=zy n j;have I:=s.y λ_ _ q=>q.u j)|(at_builtin;refine gu w1 _ _ _ rfl (.tmp 67) (.tmp 69) 91 rfl w.o.q 90 i0 _ 3 48 underlying91 hi ae ah ad rfl θ _ _ _ rfl t zP _ _ rfl ζ rfl a_ η η L ?_;intro v' w2 Q ab P T E ai;clear P T;have S:Tn w.o.q w2 (O.slice aa a.k.j J) a.k:=yo (gW t θ r E) h.q;have K:=I.y λ_ _ q=>gW t θ q E))
  go_roundw;exact⟨g++[a],k+1,k+1,m,d,_,ξ,rfl,ξ,zg _,η,η,η,η,η,by simp;omega,η,p.A ab,by rw[yN];exact Q,K.snoc S,C⟩;simp[intOf];omega
 have R:m=0:=η;have HF:X (yT l (l.j+1) 0 0 0=Z g):=by rw[X,H.l,R];simp[yT]
 clear H;go_wp2;go_ret2
 exact Nl HF h ⟨_,n,s⟩
end
section
open Go.Proofs.Tryz Go.RowKit
variable {lo:Nat}
def Lb(o:Option zc)(w:U)(e:Ending)(w':U):Prop:=
 μ w w'/\match o with
  |none=>∃b p j n f d i a,e=ε (.B #[.agg #[.i b,.d p,.k j n f,.k d i a],.i false])
  |some c=>∃g h,e=ε (.B #[.agg #[.i c.g.i,.d c.g.o,g,h],.i true])/\Tn w.o.q w' g c.g.k/\TL w.o.q w' h c.d
def Ix(w:U)(v:O)(l:κ)(f:SV w v l)(a:∀y∈l,0<y.q)(d:l.j<=500)(h:yT l (l.j+1) 0 0 0=Y):
  Calls prog 153 #[v] w λe b=>e=ε (.B #[ν,.i false])/\μ w b:=by
 refine(F0 w v l f a d).y ?_;rintro e b ⟨g,c⟩;rw[h] at c;exact⟨c,g⟩
def Qu(w:U)(v:O)(l:κ)(i:Ω)(k:SV w v l)(f:∀y∈l,0<y.q)(j:l.j<=500)(h:yT l (l.j+1) 0 0 0=Z i):
  Calls prog 153 #[v] w λe d=>∃c,e=ε (.B #[c,.i true])/\TL w.o.q d c i/\μ w d:=by
 refine(F0 w v l k f j).y ?_;rintro e d ⟨m,g⟩;rw[h] at g;obtain⟨c,a,b⟩:=g;exact⟨c,a,b,m⟩
def GF(w:U)(v:O)(l:κ)(T:SV w v l)(av:∀y∈l,0<y.q)(hl:l.j<=500):
  Calls prog 107 #[v] w λe w'=>Lb (km l) w e w':=by
 obtain⟨i1,M,_,_,_⟩:=info_parts SL;obtain⟨ao,a7,rfl⟩:=T.qy;have hW:μ w ((w.C (.E #[.i false,.d {data:=#[]},ν,ν] 93)).C (.E #[.i false,.d {data:=#[]},ν,ν] 93)):=γ;have ai:Th ((w.C (.E #[.i false,.d {data:=#[]},ν,ν] 93)).C (.E #[.i false,.d {data:=#[]},ν,ν] 93)) w.o.q #[.i false,.d {data:=#[]},ν,ν] 93:=(Th.new w _ _).u zP;have ap:Th ((w.C (.E #[.i false,.d {data:=#[]},ν,ν] 93)).C (.E #[.i false,.d {data:=#[]},ν,ν] 93)) (w.o.q+1) #[.i false,.d {data:=#[]},ν,ν] 93:=Th.newAt _ _ _ _ ζ;go_enter func107,ntmps107;go_wp2;go_loop [5] (λi=>∃k:Nat,k<=l.j/\i=ι k/\X (uc l=k+uc (l.drop k))) (λi=>l.j-(intOf i).D);exact⟨0,zs _,rfl,by simp[X]⟩;obtain⟨k,hk,rfl,H⟩:=hrel;by_cases L:k<l.j
 case' pos=>
  obtain⟨b,o,rfl,a6,a2⟩:=T.cell k L;rw[xJ L] at a2;cases hI:((gB l k).v == [58,45])
  .have H2:X (uc l=(k+1)+uc (l.drop (k+1))):=by rw[X,H.l,KI L hI];omega
   clear H;generalize gB l k=x at *;go_wp2;go_round;exact⟨k+1,η,ξ,H2⟩;simp[intOf];omega
  have HK:X (uc l=k):=by rw[X,H.l,L8 L hI];rfl
  generalize gB l k=x at *
 case' neg=>
  have HK:X (uc l=k):=by rw[X,H.l,ui η];rfl
 all_goals
  clear H;have af:X (∀y∈l.G k,0<y.q):=λy hy=>av y (gH hy);cases hL:jS (l.G k) true
  .have V:=Tg hL;have P:X (km l=Y):=by unfold X km;rw[HK.l,hL]
   clear hL;go_upto_region 7 with (first|(refine jF _ w rfl (.tmp 24) 30 9 Y (Z (.tmp 25)) rfl underlying30 i1 M SZ _ l rfl T 0 k (zh ⟨rfl,rfl⟩) (ze rfl) η η k rfl ?_;intro a4 am E;rw[fx] at E)|(go_at_call 152;refine(Bp _ _ (l.G k) true (by exact E.u hW) af.l υ V).y ?_;rintro e I ⟨J,G,d,K,c,rfl,n⟩;have f:=ai.u n;have g:=ap.u n;obtain⟨q,D⟩:=f.H;obtain⟨B,t,a3⟩:=g.e;have ac:=f.lt;have Q:=Tk hW n))
   have s:Th ((((I.x (δ (w.o.q+1)) (.i J)).x (ω (w.o.q+1) 1) (.d G)).x (ω (w.o.q+1) 2) (.k d K c)).C (.E #[.i J,.d G,.k d K c] 90)) (w.o.q+1) #[.i J,.d G,.k d K c,ν] 93:=(((g.set 0 _).set 1 _).set 2 _).u zP;have j:Th ((((I.x (δ (w.o.q+1)) (.i J)).x (ω (w.o.q+1) 1) (.d G)).x (ω (w.o.q+1) 2) (.k d K c)).C (.E #[.i J,.d G,.k d K c] 90)) w.o.q #[.i false,.d {data:=#[]},ν,ν] 93:=(((f.set_ne η _ _).set_ne η _ _).set_ne η _ _).u zP;have F:μ w ((((I.x (δ (w.o.q+1)) (.i J)).x (ω (w.o.q+1) 1) (.d G)).x (ω (w.o.q+1) 2) (.k d K c)).C (.E #[.i J,.d G,.k d K c] 90)):=by have hq:=Q.q;exact γ
   generalize ((((I.x (δ (w.o.q+1)) (.i J)).x (ω (w.o.q+1) 1) (.d G)).x (ω (w.o.q+1) 2) (.k d K c)).C (.E #[.i J,.d G,.k d K c] 90))=w2 at *;clear f g q D B t;obtain⟨C,ab⟩:=j.H;obtain⟨ar,ad,a5⟩:=s.e;have aw:=j.lt;go_wp2;rw[P.l];exact zO (v:=.B #[.agg #[.i J,.d G,.k d K c,ν],.i false]) (by simp[results,results107,go_sem,C]) rfl ⟨γ,_,_,_,_,_,_,_,_,rfl⟩
  rename_i a;have V:=Tg hL;clear hL;go_upto_region 7 with (first|(refine jF _ w rfl (.tmp 24) 30 9 Y (Z (.tmp 25)) rfl underlying30 i1 M SZ _ l rfl T 0 k (zh ⟨rfl,rfl⟩) (ze rfl) η η k rfl ?_;intro a4 am E;rw[fx] at E)|(go_at_call 152;refine(oP _ _ (l.G k) true a (by exact E.u hW) af.l υ V).y ?_;rintro e I ⟨va,rfl,aq,n⟩;obtain⟨d,c,rfl⟩:=aq.qy;have f:=ai.u n;have g:=ap.u n;obtain⟨q,D⟩:=f.H;obtain⟨B,t,a3⟩:=g.e;have ac:=f.lt;have Q:=Tk hW n))
  have s:Th ((((I.x (δ (w.o.q+1)) (.i a.i)).x (ω (w.o.q+1) 1) (.d a.o)).x (ω (w.o.q+1) 2) (.k d a.k.j c)).C (.E #[.i a.i,.d a.o,.k d a.k.j c] 90)) (w.o.q+1) #[.i a.i,.d a.o,.k d a.k.j c,ν] 93:=(((g.set 0 _).set 1 _).set 2 _).u zP;have j:Th ((((I.x (δ (w.o.q+1)) (.i a.i)).x (ω (w.o.q+1) 1) (.d a.o)).x (ω (w.o.q+1) 2) (.k d a.k.j c)).C (.E #[.i a.i,.d a.o,.k d a.k.j c] 90)) w.o.q #[.i false,.d {data:=#[]},ν,ν] 93:=(((f.set_ne η _ _).set_ne η _ _).set_ne η _ _).u zP;have F:μ w ((((I.x (δ (w.o.q+1)) (.i a.i)).x (ω (w.o.q+1) 1) (.d a.o)).x (ω (w.o.q+1) 2) (.k d a.k.j c)).C (.E #[.i a.i,.d a.o,.k d a.k.j c] 90)):=by have hq:=Q.q;exact γ
  have ae:Tn w.o.q ((((I.x (δ (w.o.q+1)) (.i a.i)).x (ω (w.o.q+1) 1) (.d a.o)).x (ω (w.o.q+1) 2) (.k d a.k.j c)).C (.E #[.i a.i,.d a.o,.k d a.k.j c] 90)) (.k d a.k.j c) a.k:=((aq.low (by simp only[U.size_alloc];omega)).but (r:=w.o.q+1) ((((Tu.refl _ _).x _ _).x _ _).x _ _) g θ).u zP;generalize ((((I.x (δ (w.o.q+1)) (.i a.i)).x (ω (w.o.q+1) 1) (.d a.o)).x (ω (w.o.q+1) 2) (.k d a.k.j c)).C (.E #[.i a.i,.d a.o,.k d a.k.j c] 90))=w2 at *;clear f g q D B t;obtain⟨C,ab⟩:=j.H;obtain⟨ar,ad,a5⟩:=s.e;have aw:=j.lt
 .have au:X (k=l.j):=by unfold X;omega
  have P:X (km l=Z ⟨a,[]⟩):=by unfold X km;rw[HK.l,V.l];simp only[];rw[zb au.l]
  have az:((k:Int) == (l.j:Int))=true:=by rw[beq_iff_eq];have:=au.l;omega
  go_wp2;rw[P.l];exact zO (v:=.B #[.agg #[.i a.i,.d a.o,.k d a.k.j c,ν],.i true]) (by simp[results,results107,go_sem,C]) rfl ⟨γ,_,_,rfl,ae.but (r:=w.o.q) ψ j θ,TL.nil _⟩
 have N:X (∀y∈l.drop (k+1),0<y.q):=λy hy=>av y (fg hy);have az:((k:Int) == (l.j:Int))=false:=by rw[beq_eq_false_iff_ne];omega
 rcases p:yT (l.drop (k+1)) ((l.drop (k+1)).j+1) 0 0 0 with _|bd
 .have S:=Tg p;have P:X (km l=Y):=by unfold X km;rw[HK.l,V.l];simp only[];rw[za η,p]
  clear p;go_wp2_with (first|(refine jF _ w rfl (.tmp 43) 30 9 (Z (.tmp 45)) Y rfl underlying30 i1 M SZ _ l rfl T (k+1) l.j (ze rfl) (zh ⟨rfl,rfl⟩) η η (l.j-(k+1)) rfl ?_;intro a1 an A;rw[yV ζ] at A)|(go_at_call 153;refine(Ix _ _ (l.drop (k+1)) (by exact A.u F) N.l υ S).y ?_;rintro e w3 ⟨rfl,h⟩;have m:=j.u h;have z:=s.u h;obtain⟨u,ah⟩:=m.H;obtain⟨aj,W,ay⟩:=z.e;have aa:=m.lt;have R:=Tk F h;have ag:=R.q))
  rw[P.l];exact zO (v:=.B #[.agg #[.i a.i,.d a.o,.k d a.k.j c,ν],.i false]) (by simp[results,results107,go_sem,u]) rfl ⟨γ,_,_,_,_,_,_,_,_,rfl⟩
 have S:=Tg p;have P:X (km l=Z ⟨a,bd⟩):=by unfold X km;rw[HK.l,V.l];simp only[];rw[za η,p]
 clear p;go_wp2_with (first|(refine jF _ w rfl (.tmp 43) 30 9 (Z (.tmp 45)) Y rfl underlying30 i1 M SZ _ l rfl T (k+1) l.j (ze rfl) (zh ⟨rfl,rfl⟩) η η (l.j-(k+1)) rfl ?_;intro a1 an A;rw[yV ζ] at A)|(go_at_call 153;refine(Qu _ _ (l.drop (k+1)) bd (by exact A.u F) N.l υ S).y ?_;rintro e w3 ⟨vb,rfl,ak,h⟩;obtain⟨ax,al,rfl⟩:=ak.qy;have m:=j.u h;have z:=s.u h;obtain⟨u,ah⟩:=m.H;obtain⟨aj,W,ay⟩:=z.e;have aa:=m.lt;have R:=Tk F h;have ag:=R.q))
 rw[P.l];have a0:=ae.u h;exact zO (v:=.B #[.agg #[.i a.i,.d a.o,.k d a.k.j c,.k ax bd.j al],.i true]) (by simp[results,results107,go_sem,u]) rfl ⟨γ,_,_,rfl,(a0.but (r:=w.o.q+1) ((Tu.refl _ _).x _ _) z θ).but (r:=w.o.q) ψ (m.set_ne η _ _) θ,((ak.low η).but (r:=w.o.q+1) ((Tu.refl _ _).x _ _) z θ θ).but (r:=w.o.q) ψ (m.set_ne η _ _) θ θ⟩
end
section
open Go.Proofs.Tryz Go.RowKit
variable {lo:Nat}{o:Option (List zc)}
def Lr(w:U)(v:O)(l:κ)(q:SV w v l)(f:∀y∈l,0<y.q)(m:l.j<=500)(h:km l=Y):
  Calls prog 107 #[v] w λe j=>∃b p g n d c i a,e=ε (.B #[.agg #[.i b,.d p,.slice g n d,.slice c i a],.i false])/\μ w j:=by
 refine(GF w v l q f m).y ?_;rintro e j ⟨r,k⟩;rw[h] at k;obtain⟨b,p,g,n,d,c,i,a,s⟩:=k;exact⟨b,p,g,n,d,c,i,a,s,r⟩
def OJ(w:U)(v:O)(l:κ)(c:zc)(m:SV w v l)(i:∀y∈l,0<y.q)(k:l.j<=500)(h:km l=Z c):
  Calls prog 107 #[v] w λe f=>∃d g,e=ε (.B #[.agg #[.i c.g.i,.d c.g.o,d,g],.i true])/\Tn w.o.q f d c.g.k/\TL w.o.q f g c.d/\μ w f:=by
 refine(GF w v l m i k).y ?_;rintro e f ⟨n,j⟩;rw[h] at j;obtain⟨d,g,a,b,c⟩:=j;exact⟨d,g,a,b,c,n⟩
def S4:(prog.info? 93).map (λi=>(i.zero,i.q,i.bytes))=Z (Z (.agg #[.i false,.d ByteArray.empty,ν,ν]),4,72):=χ
def B4(o:Option (List zc))(w:U)(e:Ending)(w':U):Prop:=
 μ w w'/\match o with
  |none=>∃c n a,e=ε (.B #[.slice c n a,.i false])
  |some b=>∃v,e=ε (.B #[v,.i true])/\TO w.o.q 93 w' v b
def Ig{w w':U}{a:Option Addr}{n cap:Nat}(h:X (o=Y))(b:μ w w'):B4 o w (ε (.B #[.slice a n cap,.i false])) w':=by
 have c:o=none:=h;subst c;exact⟨b,a,n,cap,rfl⟩
def PX{w w':U}{v:O}{cs:Ξ}(h:X (o=Z cs))(a:μ w w')(hs:TO w.o.q 93 w' v cs):B4 o w (ε (.B #[v,.i true])) w':=by
 have b:o=Z cs:=h;subst b;exact⟨a,v,rfl,hs⟩
def A0(w:U)(v:O)(l:κ)(R:SV w v l)(ai:∀y∈l,0<y.q)(hl:l.j<=500):
  Calls prog 66 #[v] w λe w'=>B4 (vI l) w e w':=by
 obtain⟨i0,hi,af,T,V⟩:=info_parts S4;obtain⟨i1,M,_,_,_⟩:=info_parts SL;obtain⟨ao,ar,rfl⟩:=R.qy;go_enter func66,ntmps66;go_wp2;go_loopw [4,5,6] (λv4 v5 v6 wr=>∃(d:Ξ) (f k m:Nat) (S:Γ),v5=ι f/\v6=ι k/\f<=k/\m+k=l.j/\d.j<=k/\μ w wr/\wr.r w.o.q 93 4 v4 d.j S/\qN w.o.q wr d S/\X (vI l=(qO l m f k).map (d++·))) (λ_ _ i _=>l.j-(intOf i).D);exact⟨[],0,0,l.j,[],rfl,rfl,zg _,rfl,ζ,zn _ _,xp _ _ _ _,rfl,(by simp[X,vI])⟩;obtain⟨d,f,k,m,S,rfl,rfl,aw,au,al,a,g,u,H⟩:=hrel;have an:=a.q;by_cases P:k<l.j
 .obtain⟨m,rfl⟩:∃m',m=m'+1:=⟨m-1,η⟩;obtain⟨b,o,rfl,G,L⟩:=R.cell k P;have ab:=zi a G L;have aq:b<wr.o.q:=η;rw[xJ P] at ab;clear L;cases z:((gB l k).v == [46])
  .have H2:X (vI l=(qO l m f (k+1)).map (d++·)):=by rw[X,H.l,qO,z];rfl
   clear H;generalize gB l k=x at *;go_wp2;go_roundw;exact⟨d,f,k+1,m,S,rfl,ξ,η,η,η,a,g,u,H2⟩;simp[intOf];omega
  have Q:X (∀y∈(l.drop f).G (k-f),0<y.q):=λy hy=>ai y (fg (gH hy));rcases A:km ((l.drop f).G (k-f)) with _|c
  .have HL:=Tg A;have B:X (vI l=Y):=by rw[X,H.l,qO,z,zb rfl,A];rfl
   clear H A;generalize gB l k=x at *;go_wp2_with (first|(refine jF _ w rfl (.tmp 21) 30 9 (Z (.tmp 22)) (Z (.tmp 23)) rfl underlying30 i1 M SZ _ l rfl R f k (ze rfl) (ze rfl) η η (k-f) rfl ?_;intro aj C s)|(go_at_call 107;refine(Lr _ _ ((l.drop f).G (k-f)) (by exact s.u a) Q.l υ HL).y ?_;rintro e w1 ⟨b1,p1,ax,n1,ap,t,n3,j,rfl,h⟩;have r:=Tk a h;have D:=r.q))
   go_ret2
   exact Ig B γ
  have HL:=Tg A;have H2:X (vI l=(qO l m (k+1) (k+1)).map ((d++[c])++·)):=by rw[X,H.l,qO,z,zb rfl,A];simp only[];rw[sW]
  clear H A;generalize gB l k=x at *;go_wp2_with (first|(refine jF _ w rfl (.tmp 21) 30 9 (Z (.tmp 22)) (Z (.tmp 23)) rfl underlying30 i1 M SZ _ l rfl R f k (ze rfl) (ze rfl) η η (k-f) rfl ?_;intro aj C s)|(go_at_call 107;refine(OJ _ _ ((l.drop f).G (k-f)) c (by exact s.u a) Q.l υ HL).y ?_;rintro e w1 ⟨va,vb,rfl,K,F,h⟩;obtain⟨t,j,rfl⟩:=K.qy;obtain⟨av,am,rfl⟩:=F.qy;have r:=Tk a h;have D:=r.q;have n:=zy g h;have E:=u.y (λ_ _ q=>q.u h) (λ_ _ q=>q.u h))|(at_builtin;refine gu w1 _ _ _ rfl (.tmp 30) (.tmp 32) 43 rfl w.o.q 93 i0 _ 4 72 underlying43 hi af T V rfl θ _ _ _ rfl n zP _ _ rfl ζ rfl a_ η η D ?_;intro v' w2 ac ae aa ah p ak;clear aa ah;have W:Tn w.o.q w2 (O.slice t c.g.k.j j) c.g.k:=yo (gW n θ K p) a.q;have ad:=(F.push n θ θ p).low a.q;have I:=E.y (λ_ _ q=>gW n θ q p) (λ_ _ q=>q.push n θ θ p)))
  go_roundw;exact⟨d++[c],k+1,k+1,m,_,ξ,ξ,zg _,η,by simp;omega,r.A ae,by rw[yN];exact ac,I.snoc W ad,H2⟩;simp[intOf];omega
 have J:m=0:=η;obtain⟨t,j,rfl⟩:=zr g;by_cases N:f=l.j
 .have B:X (vI l=Z d):=by rw[X,H.l,J,qO,zb N];simp
  have ag:((f:Int) == (l.j:Int))=true:=by rw[beq_iff_eq];omega
  clear H;go_wp2;go_ret2
  exact PX B a ⟨_,g,u⟩
 have B:X (vI l=Y):=by rw[X,H.l,J,qO,za N];rfl
 have ag:((f:Int) == (l.j:Int))=false:=by rw[beq_eq_false_iff_ne];omega
 clear H;go_wp2;go_ret2
 exact Ig B a
end
section
open Go.Proofs.Tryz Go.RowKit
variable {lo:Nat}
def eS(w:U)(v:O)(vs:κ)(t:ByteArray)(hs:Tn lo w v vs)(n:vs.j<=1000):
  Calls prog 109 #[v,.d t] w λe l=>e=ε (.i (yh t vs))/\l=w:=by
 obtain⟨p,j,rfl⟩:=hs.qy;go_enter func109,ntmps109;go_wp2;go_loop [5] (λi=>∃k:Nat,k<=vs.j/\i=ι k/\X (t∈vs↔t∈vs.drop k)) (λi=>vs.j-(intOf i).D);exact⟨0,zs _,rfl,by simp[X]⟩;obtain⟨k,q,rfl,H⟩:=hrel;by_cases b:k<vs.j
 .obtain⟨g,rfl,o,m⟩:=hs.cell k b;have d:=xn b;generalize vs[k]=x at *;have f:=Tg d;by_cases c:x=t
  .have h:=jt c;have a:X (t∈vs):=by rw[X,H.l,f.l,c];simp
   go_wp2;go_ret;exact⟨by rw[vO.2 a.l];rfl,rfl⟩
  have h:=vV c;have a:X (t∈vs↔t∈vs.drop (k+1)):=by rw[X,H.l,f.l];simp[Ne.symm c]
  go_wp2;go_round;exact⟨k+1,η,ξ,a⟩;simp[intOf];omega
 have a:X (t∉vs):=by rw[X,H.l,ui η];simp
 go_wp2;go_ret;exact⟨by rw[tN.2 a.l];rfl,rfl⟩
def vl.one{w:U}:∀{b:Ω} {xs:Γ},vl lo w b xs->∀u∈xs,u.oneCell'=true
 |[],_,h,u,a=>by simp only[vl] at h;subst h;cases a
 |_::b,_,h,u,a=>by
  obtain⟨v,r,rfl,d,e⟩:=h;obtain⟨f,c,rfl⟩:=d.qy;simp only[zG] at a;rcases a with rfl|rfl|rfl|a
  .rfl
  .rfl
  .rfl
  .exact vl.one e u a
structure l8 (w:U) (g o:Nat) (c:zc) (ao:Option Addr) (cap:Nat) (aob:Option Addr) (capb:Nat):Prop where
 lt:g<w.o.q
 c0:w.p ⟨g,o,Y⟩=Z (.i c.g.i)
 c1:w.p ⟨g,o+1,Y⟩=Z (.d c.g.o)
 c2:w.p ⟨g,o+2,Y⟩=Z (.k ao c.g.k.j cap)
 c3:w.p ⟨g,o+3,Y⟩=Z (.k aob c.d.j capb)
 k:Tn 0 w (.k ao c.g.k.j cap) c.g.k
 d:TL 0 w (.k aob c.d.j capb) c.d
def l8.u{w w':U}{g o:Nat}{c:zc}{e:Option Addr}{cap:Nat}{d:Option Addr}{a:Nat}(h:l8 w g o c e cap d a)(b:μ w w'):l8 w' g o c e cap d a:=
 ⟨ym h.lt b.q,(b.cell (p:=(ω g o)) h.lt).A h.c0,(b.cell (p:=(ω g (o+1))) h.lt).A h.c1,(b.cell (p:=(ω g (o+2))) h.lt).A h.c2,(b.cell (p:=(ω g (o+3))) h.lt).A h.c3,h.k.u b,h.d.u b⟩
def TO.at{T:TypeId}{w:U}{e:Option Addr}{n cap:Nat}{cs:Ξ}(h:TO lo T w (.k e n cap) cs)(k:Nat)(o:k<cs.j):∃g c a d b,e=Z (δ g)/\l8 w g (k*4) cs[k] c a d b:=by
 obtain⟨g,c,a,d,b,m,j,q,l,r,p,f,i⟩:=h.cell k o;exact⟨g,c,a,d,b,m,j,q,l,r,p,f.low (zs _),i.low (zs _)⟩
def iv(w:U)(g o:Nat)(c:zc)(l:Option Addr)(cap:Nat)(H:Option Addr)(f:Nat)(h:l8 w g o c l cap H f)(hl:c.d.j<=1000):
  Calls prog 68 #[.pointer (Z (ω g o))] w λe m=>∃v,e=.returned v/\TL 0 m v (zm c)/\μ w m:=by
 obtain⟨S,R,K,z,B⟩:=info_parts SU;have ad:=h.lt;have h0:=h.c0;have h1:=h.c1;have h2:=h.c2;have h3:=h.c3;obtain⟨x,t,r⟩:=h.d;have d:=(zn w.o.q w).C (zg _) (.E #[.i c.g.i,.d c.g.o,.k l c.g.k.j cap] 90);have a:(w.C (.E #[.i c.g.i,.d c.g.o,.k l c.g.k.j cap] 90)).r w.o.q 90 3 (.k (Z (δ w.o.q)) 1 1) 1 [.i c.g.i,.d c.g.o,.k l c.g.k.j cap]:=
  ⟨rfl,ze ⟨w.o.q,1,_,rfl,zg _,Th.new w _ _,zg _,by unfold maxLen;omega,rfl,rfl⟩⟩
 have A:=t.1;have M:=vl.one r;have i:∀m,μ w m->vl 0 m (zm c) ([.i c.g.i,.d c.g.o,.k l c.g.k.j cap]++x):=λm T=>⟨_,_,rfl,h.k.u T,r.y λ_ _ q=>q.u T⟩;have b:=Tg i;have s:=t;obtain⟨_,⟨n,hn⟩|⟨E,Q,ab,n,V,P,ac,aa,W,hx⟩⟩:=s
 .simp at n;obtain⟨rfl,C,rfl⟩:=n;have J:x=[]:=lP η;go_enter func68,ntmps68;go_wp2_with (at_builtin;refine wpList_append_own_none rfl (.tmp 9) (.tmp 13) 91 rfl w.o.q 90 S 3 underlying91 R _ _ _ rfl a rfl ?_)
  go_ret;refine⟨_,rfl,⟨_,?_,b.l _ d⟩,d⟩;rw[J,qb];simpa [zm,C] using yo a (zs _)
 simp at n;obtain⟨rfl,_,rfl⟩:=n;have I:∀j u,x[j]?=Z u->(w.C (.E #[.i c.g.i,.d c.g.o,.k l c.g.k.j cap] 90)).p (Addr.add (δ E) j)=Z u:=λj u y=>by
  rw[Addr.add_lit,vx,d.cell (p:=(ω E j)) (kp.1 P).1];unfold U.cell?;rw[P];simp;rw[←hx,nc] at y;split at y;simpa using y;simp at y
 have G:=Tg I;have D:=Tg M;go_enter func68,ntmps68;go_wp2_with (at_builtin;refine wpList_append_own _ rfl (.tmp 9) (.tmp 13) 91 rfl w.o.q 90 S _ 3 48 underlying91 R K z B rfl θ _ _ _ rfl a (δ E) c.d.j f x rfl A G.l D.l b_ η ζ ?_;intro v' w2 F L _)
 go_ret;have N:=d.grown L ζ (λk hk=>by cases hk;exact zg _);refine⟨_,rfl,⟨_,?_,b.l _ N⟩,N⟩;rw[show(zm c).j=1+c.d.j by simp[zm];omega];exact yo F (zs _)
def p7(qc first:Bool)(vs:κ)(l:zj):κ:=if qc&&(first||l.i) then vs else xG vs l.k
def j4(qc:Bool)(a:List zj):Nat->κ
 |0=>[]
 |k+1=>match a[k]? with
  |none=>j4 qc a k
  |some l=>p7 qc (k == 0) (j4 qc a k) l
def eY(qc:Bool)(a:Ω)(k:Nat)(b:k<a.j):j4 qc a (k+1)=p7 qc (k == 0) (j4 qc a k) a[k]:=by
 rw[j4,yn b]
def Pi(qc first:Bool)(vs:κ)(l:zj):(p7 qc first vs l).j<=vs.j+l.k.j:=by
 unfold p7;split;omega;exact pq l.k vs
def BZ(qc:Bool)(a:Ω):∀k,k<=a.j->(j4 qc a k).j<=xj (a.G k)
 |0,_=>by simp[j4]
 |k+1,d=>by
  rw[eY qc a k η,yM η,K1];have c:=BZ qc a k η;have b:=Pi qc (k == 0) (j4 qc a k) a[k];omega
def Lm(c:zc):j4 false (zm c) (zm c).j=uq c:=by
 have a:∀k,k<=c.d.j->j4 false (zm c) (k+1)=(c.d.G k).foldl gC (xG [] c.g.k):=by
  intro k;induction k with
  |zero=>intro _;rfl
  |succ k b=>
   intro d;rw[eY _ _ _ (by simp[zm];omega),b η,yM η,qZ];rfl
 have:=a c.d.j (zg _);rw[uW] at this;exact this
def GN(c:zc):j4 true (zm c) (zm c).j=zx c:=by
 have a:∀k,k<=c.d.j->j4 true (zm c) (k+1)=(c.d.G k).foldl qd []:=by
  intro k;induction k with
  |zero=>intro _;rfl
  |succ k b=>
   intro d;rw[eY _ _ _ (by simp[zm];omega),b η,yM η,qZ];simp only[uG,List.foldl_nil,p7,qd,zm,pC];simp
 have:=a c.d.j (zg _);rw[uW] at this;exact this
def Bz(w:U)(qc:Bool)(g o:Nat)(c:zc)(ao:Option Addr)(cap:Nat)(V:Option Addr)(A:Nat)(h:l8 w g o c ao cap V A)(hl:c.d.j<=999)(ar:xj (zm c)<=1000)(hz:∀l∈zm c,∀t∈l.k,0<t.q):
  Calls prog 108 #[.pointer (Z (ω g o)),.i qc] w λe D=>∃v,e=.returned v/\Tn w.o.q D v (j4 qc (zm c) (zm c).j)/\μ w D:=by
 obtain⟨i0,hi,ac,am,aa⟩:=info_parts SL;have a1:(zm c).j<=1000:=by simp[zm];omega
 have HZ:=Tg hz;have W:=iv w g o c ao cap V A h η;clear hz;generalize zm c=p at *;go_enter func108,ntmps108;go_wp2_with (go_at_call 68;refine W.y ?_;rintro e G ⟨lv,rfl,B,L⟩;obtain⟨az,aq,rfl⟩:=B.qy;clear W)
 go_loopw [5,7] (λv5 v7 wr=>∃k:Nat,k<=p.j/\v7=ι k/\μ G wr/\wr.r G.o.q 9 1 v5 (j4 qc p k).j ((j4 qc p k).map O.string)) (λ_ i _=>p.j-(intOf i).D);exact⟨0,zs _,rfl,zn _ _,xp _ _ _ _⟩;obtain⟨k,hk,rfl,n,b⟩:=hrel;have M:=n.q;by_cases u:k<p.j
 .obtain⟨gl,a4,au,rfl,J,R,al,s,an⟩:=B.cell k u;have F:=zi n J R;have Q:=zi n J s;have aj:gl<wr.o.q:=η;have r:=eY qc p k u;have a0:=BZ qc p k η;have S:=tF p k u;rw[yn u] at S;simp only[jZ,uD] at S;have ae:=Tg (HZ.l _ (zq u));generalize p[k]=a at *;generalize ad:j4 qc p k=vs at *;have HS:=Tg r;clear r ad R al;by_cases d:(qc&&((k == 0)||a.i))=true
  .have HR:X (j4 qc p (k+1)=vs):=by rw[X,HS.l,p7,d];rfl
   simp only[uK,lz,beq_iff_eq] at d;obtain⟨rfl,d⟩:=d;clear HS s;by_cases N:k=0
   .subst N;go_wp2;go_roundw;exact⟨0+1,η,ξ,n,by rw[HR.l];exact b⟩;simp[intOf];omega
   have ak:((k:Int) == 0)=false:=by rw[beq_eq_false_iff_ne];omega
   have x:=d.resolve_left N;rw[x] at F;go_wp2;go_roundw;exact⟨k+1,η,ξ,n,by rw[HR.l];exact b⟩;simp[intOf];omega
  have HR:X (j4 qc p (k+1)=xG vs a.k):=by rw[X,HS.l,p7,za d]
  clear HS;have T:qc=false∨(qc=true/\((k:Int) == 0)=false/\a.i=false):=by
   cases qc;exact zh rfl;right;simp only[nY,lz,beq_iff_eq,not_or,rz] at d;exact⟨rfl,by rw[beq_eq_false_iff_ne];omega,d.2⟩
  clear d;rcases T with rfl|⟨rfl,ak,x⟩
  all_goals
   (try rw[x] at F)
   go_wp2;go_loopw [5,8] (λv5 v8 wj=>∃j:Nat,j<=a.k.j/\v8=ι j/\μ G wj/\wj.r G.o.q 9 1 v5 (xG vs (a.k.G j)).j ((xG vs (a.k.G j)).map O.string)) (λ_ i _=>a.k.j-(intOf i).D);exact⟨0,zs _,rfl,n,b⟩;clear F Q b n M aj;obtain⟨j,hj,rfl,m,b⟩:=hrel;have aw:=m.q;have Q:=zi m J s;have ay:gl<wr.o.q:=η;by_cases E:j<a.k.j
   .obtain⟨ga,rfl,ag,P⟩:=an.cell j E;have a3:=zi m ag P;have ax:ga<wr.o.q:=η;have H:=ae.l _ (zq E);have r:=Ca vs a.k j E;have ai:=pq (a.k.G j) vs;have K:(a.k.G j).j=j:=by simp;omega
    rw[K] at ai;clear P K;generalize a.k[j]=C at *;generalize xG vs (a.k.G j)=I at *;have q:=Tg r;clear r;have z:zT C=qr (Tr C 0):=rfl;cases hT:qr (Tr C 0)
    .have y:X (xG vs (a.k.G (j+1))=I):=by rw[X,q.l,Fs (by rw[z,hT])]
     clear q z;go_wp2_with (first|(go_at_call 154;refine(iE _ _ H).y ?_;rintro e D ⟨rfl,f⟩;obtain rfl:=f.z)|(go_at_call 109;refine(eS _ _ I C b η).y ?_;rintro e D ⟨rfl,f⟩;obtain rfl:=f.z))
     go_roundw;exact⟨j+1,η,ξ,m,by rw[y.l];exact b⟩;simp[intOf];omega
    cases hM:yh C I
    .have y:X (xG vs (a.k.G (j+1))=I++[C]):=by rw[X,q.l,G7 (by rw[z,hT]) hM]
     clear q z;go_wp2_with (first|(go_at_call 154;refine(iE _ _ H).y ?_;rintro e D ⟨rfl,f⟩;obtain rfl:=f.z)|(go_at_call 109;refine(eS _ _ I C b η).y ?_;rintro e D ⟨rfl,f⟩;obtain rfl:=f.z)|(at_builtin;refine gu _ _ _ _ rfl (.tmp 65) (.tmp 74) 30 rfl G.o.q 9 i0 _ 1 16 underlying30 hi ac am aa rfl θ _ _ _ rfl b (zn _ _) _ _ rfl ζ rfl a_ η η m.q ?_;intro v' w2 ab ap s ah a2 av;clear s ah))
     go_roundw;exact⟨j+1,η,ξ,m.A ap,by rw[y.l];simpa using ab⟩;simp[intOf];omega
    have y:X (xG vs (a.k.G (j+1))=I):=by rw[X,q.l,Hc hM]
    clear q z;go_wp2_with (first|(go_at_call 154;refine(iE _ _ H).y ?_;rintro e D ⟨rfl,f⟩;obtain rfl:=f.z)|(go_at_call 109;refine(eS _ _ I C b η).y ?_;rintro e D ⟨rfl,f⟩;obtain rfl:=f.z))
    go_roundw;exact⟨j+1,η,ξ,m,by rw[y.l];exact b⟩;simp[intOf];omega
   have hE:a.k.G j=a.k:=yV η;rw[hE] at b;clear hE;go_wp2;go_roundw;exact⟨k+1,η,ξ,m,by rw[HR.l];exact b⟩;simp[intOf];omega
 have af:k=p.j:=η;subst af;go_wp2;go_ret;exact⟨_,rfl,yo b L.q,Tk L n⟩
def jD(x l:zj):Bool:=decide (l.o=x.o)&&decide (l.k.j≠x.k.j)
def kx(cs:List zc)(x:zj):Bool:=(cs.flatMap zm).any (jD x)
def Q7(cs:Ξ)(k:Nat)(a:k<cs.j):(cs.drop k).flatMap zm=zm cs[k]++(cs.drop (k+1)).flatMap zm:=by rw[xn a,uU]
def Pu(w:U)(pb:Nat)(cv v1 v2:O)(cs:Ξ)(x:zj)(va:O)(hp:Th w pb #[cv,v1,v2] 45)(C:TO lo 93 w cv cs)(A:∀c∈cs,qo c)(hl:cs.j<=1000){N:Nat}(hs:Tn N w va x.k):
  Calls prog 110 #[(π pb),.agg #[.i x.i,.d x.o,va]] w λe w'=>e=ε (.i (kx cs x))/\μ w w':=by
 obtain⟨ao,Q,rfl⟩:=C.qy;obtain⟨M,B,rfl⟩:=hs.qy;have V:=Tg A;clear A;go_enter func110,ntmps110;go_wp2;go_loopw [5] (λi wr=>∃k:Nat,k<=cs.j/\i=ι k/\μ w wr/\Th wr w.o.q #[.i x.i,.d x.o,.k M x.k.j B] 90/\Th wr pb #[.k ao cs.j Q,v1,v2] 45/\X (kx cs x=((cs.drop k).flatMap zm).any (jD x))) (λi _=>cs.j-(intOf i).D);exact⟨0,zs _,rfl,γ,Th.new _ _ _,hp.u γ,rfl⟩;obtain⟨k,hk,rfl,m,P,v,H⟩:=hrel;obtain⟨L,aa⟩:=v.H;have af:=m.q;by_cases r:k<cs.j
 .obtain⟨g,aq,ab,am,ae,rfl,R⟩:=C.at k r;obtain⟨ai,aj⟩:=V.l _ (zq r);have y:=Q7 cs k r;generalize cs[k]=c at *;generalize hR:(cs.drop (k+1)).flatMap zm=rest at *;have HR:=Tg hR;have H1:X (kx cs x=(zm c++rest).any (jD x)):=by rw[X,H.l,y]
  clear hR H y;have ar:(zm c).j<=1001:=by simp[zm];omega
  go_wp2_with (go_at_call 68;refine(iv _ g (k*4) c _ _ _ _ (by exact R.u m) η).y ?_;rintro e w1 ⟨lv,rfl,n,q⟩;obtain⟨an,ad,rfl⟩:=n.qy;have D:=Tk m q;have t:=P.u q;have F:=v.u q)
  generalize J:zm c=p at *;clear J;go_loopw [7] (λi wj=>∃j:Nat,j<=p.j/\i=ι j/\μ w1 wj/\X (kx cs x=(p.drop j++rest).any (jD x))) (λi _=>p.j-(intOf i).D);exact⟨0,zs _,rfl,zn _ _,H1⟩;clear L aa;obtain⟨j,hj,rfl,b,I⟩:=hrel;have ac:=b.q;have o:=t.u b;obtain⟨au,av⟩:=o.H;by_cases u:j<p.j
  .obtain⟨gl,ah,ag,rfl,s,T,G,z,W⟩:=n.cell j u;have ap:=zi b s G;have ak:=zi b s z;have al:gl<wr.o.q:=η;have E:=xn u;clear T G z W;generalize p[j]=a at *;have f:X (kx cs x=(jD x a||(p.drop (j+1)++rest).any (jD x))):=by rw[X,I.l,E];rfl
   clear E I;by_cases d:a.o=x.o
   .have K:=jt d;by_cases l:a.k.j=x.k.j
    .have h:X (kx cs x=(p.drop (j+1)++rest).any (jD x)):=by rw[X,f.l,jD];simp[l]
     have S:((a.k.j:Int) == (x.k.j:Int))=true:=by rw[beq_iff_eq];omega
     clear f d l;generalize a.k.j=na at *;generalize a.o=pa at *;go_wp2;go_quiet (fail)
     go_wp2;go_roundw;exact⟨j+1,η,ξ,zI b _,h⟩;simp[intOf];omega
    have h:X (kx cs x=true):=by rw[X,f.l,jD];simp[d,l]
    have S:((a.k.j:Int) == (x.k.j:Int))=false:=by rw[beq_eq_false_iff_ne];omega
    clear f d l;generalize a.k.j=na at *;generalize a.o=pa at *;go_wp2;go_quiet (fail)
    go_wp2;go_ret;exact⟨by rw[h.l];rfl,zI (Tk D b) _⟩
   have K:=vV d;have h:X (kx cs x=(p.drop (j+1)++rest).any (jD x)):=by rw[X,f.l,jD];simp[d]
   clear f d;generalize a.o=pa at *;go_wp2;go_quiet (fail)
   go_wp2;go_roundw;exact⟨j+1,η,ξ,zI b _,h⟩;simp[intOf];omega
  have HE:X (kx cs x=((cs.drop (k+1)).flatMap zm).any (jD x)):=by rw[X,I.l,ui η,HR.l];rfl
  clear I;go_wp2;go_roundw;exact⟨k+1,η,ξ,Tk D b,o,F.u b,HE⟩;simp[intOf];omega
 have HE:X (kx cs x=false):=by rw[X,H.l,ui η];rfl
 clear H;go_wp2;go_ret;exact⟨by rw[HE.l];rfl,m⟩
def nW(w:U)(pb:Nat)(c0 d j:O)(l:κ)(n:ByteArray)(m:Th w pb #[c0,d,j] 45)(hs:Tn lo w d l)(r:l.j<=1000):
  Calls prog 111 #[(π pb),.d n] w λe o=>e=ε (ι (lc l n))/\o=w:=by
 obtain⟨t,q⟩:=m.H;obtain⟨u,h,rfl⟩:=hs.qy;go_enter func111,ntmps111;go_wp2;go_loop [5] (λi=>∃k:Nat,k<=l.j/\i=ι k/\X (yA l n=(yA (l.drop k) n).map (·+k))) (λi=>l.j-(intOf i).D);exact⟨0,zs _,rfl,by simp[X]⟩;obtain⟨k,v,rfl,H⟩:=hrel;by_cases a:k<l.j
 .obtain⟨g,rfl,s,p⟩:=hs.cell k a;by_cases c:l[k]=n
  .have f:=jt c;have b:X (lc l n=(k:Int)):=by unfold X lc;rw[H.l,B0 a c];simp
   go_wp2;go_ret;exact⟨by rw[b.l];rfl,rfl⟩
  have f:=vV c;have b:X (yA l n=(yA (l.drop (k+1)) n).map (·+(k+1))):=by
   rw[X,H.l,Ay a c];cases yA (l.drop (k+1)) n<;>simp;omega
  go_wp2;go_round;exact⟨k+1,η,ξ,b⟩;simp[intOf];omega
 have b:X (lc l n=-1):=by unfold X lc;rw[H.l,ui η];rfl
 go_wp2;go_ret;exact⟨by rw[b.l];rfl,rfl⟩
def em(c:zc):Bool:=decide (6<c.d.j)||decide (5<(uq c).j)
def nZ(l:zj):Bool:=decide (3<l.k.j)
def lA(c:zc):Bool:=em c||(zm c).any nZ
def nP(c:zc):Bool:=(uq c).all λv=>yh v (zx c)
def n8(cs:List zc)(c:zc):Bool:=(zm c).any (kx cs)
def kf(cs:List zc):Int:=if cs.any lA then 4 else if cs.any (n8 cs) then 5 else if cs.all nP then 0 else 6
def eE{α:Type}(l:List α)(p:α->Bool)(k:Nat)(a:k<l.j):(l.G (k+1)).any p=((l.G k).any p||p l[k]):=by rw[yM a,List.any_append];simp
def EY{α:Type}(l:List α)(p:α->Bool)(k:Nat)(a:k<l.j):(l.G (k+1)).all p=((l.G k).all p&&p l[k]):=by rw[yM a,List.all_append];simp
def Cp(w:U)(pb:Nat)(cv v1 v2:O)(cs:Ξ)(hp:Th w pb #[cv,v1,v2] 45)(D:TO lo 93 w cv cs)(J:∀c∈cs,qo c/\c.d.j<=999/\xj (zm c)<=1000/\∀l∈zm c,∀t∈l.k,0<t.q)(hl:cs.j<=1000):
  Calls prog 67 #[(π pb)] w λe w'=>e=ε (ι (kf cs))/\μ w w':=by
 obtain⟨ao,aq,rfl⟩:=D.qy;have S:=Tg J;have a0:=Tg λc hc=>(J c hc).1;clear J;go_enter func67,ntmps67;go_wp2;go_loopw [3,4,5,6] (λv3 v4 v5 v6 wr=>∃(k:Nat) (m a s:Bool),k<=cs.j/\v6=ι k/\v3=.i m/\v4=.i a/\v5=.i s/\μ w wr/\Th wr pb #[.k ao cs.j aq,v1,v2] 45/\X (m=(cs.G k).any lA)/\X (a=(cs.G k).any (n8 cs))/\X (s=(cs.G k).all nP)) (λ_ _ _ i _=>cs.j-(intOf i).D);exact⟨0,false,false,true,zs _,rfl,rfl,rfl,rfl,zn _ _,hp,rfl,rfl,rfl⟩;obtain⟨k,m,a,s,hk,rfl,rfl,rfl,rfl,o,am,HM,HA,HS⟩:=hrel;obtain⟨aT,bh⟩:=am.H;have aA:=o.q;by_cases n:k<cs.j
 .obtain⟨g,bf,aD,be,aE,rfl,C⟩:=D.at k n;obtain⟨⟨aY,aS⟩,aW,ah,ae⟩:=S.l _ (zq n);have ay:=Tg (eE cs lA k n);have ax:=Tg (eE cs (n8 cs) k n);have au:=Tg (EY cs nP k n);generalize cs[k]=c at *;have z:=Tg ah;have ak:=Tg ae;have bd:(zx c).j<=1000:=by have:=eJ c.d [];unfold zx;simp at this;omega
  have ba:(uq c).j<=1000:=by have h1:=Ed c.d (xG [] c.g.k);have h2:=pq c.g.k [];unfold uq;simp at h2;omega
  have aQ:(zm c).j<=1000:=by simp[zm];omega
  clear ah ae;obtain⟨y,ad⟩:∃y,X (y=((cs.G k).any lA||em c)):=⟨_,rfl⟩;have HW:(m=true/\X (y=true))∨(m=false/\6<c.d.j/\X (y=true))∨(m=false/\¬6<c.d.j/\5<(uq c).j/\X (y=true))∨(m=false/\¬6<c.d.j/\¬5<(uq c).j/\X (y=false)):=by
   simp only[X,ad.l,←HM.l,em];cases m<;>by_cases h6:6<c.d.j<;>by_cases h5:5<(uq c).j<;>simp[h6,h5]
  rcases HW with⟨rfl,u⟩|⟨rfl,h6,u⟩|⟨rfl,h6,h5,u⟩|⟨rfl,h6,h5,u⟩
  all_goals
   go_wp2_with (first|(go_at_call 108;have P:=T;refine(Bz _ true g (k*4) c _ _ _ _ (by exact C.u P) η z.l ak.l).y ?_;rintro e w2 ⟨aX,rfl,E,H⟩;rw[GN] at E;obtain⟨aP,aI,rfl⟩:=E.qy;have N:=Tk T H;have W:=L.u H;have f:=C.u N;have aZ:=f.c3;have aF:=f.lt;have bg:=N.q;have al:=(am.u Q).u H;clear P)|(go_at_call 108;have P:=o;refine(Bz _ false g (k*4) c _ _ _ _ (by exact C.u P) η z.l ak.l).y ?_;rintro e w1 ⟨bc,rfl,L,Q⟩;rw[Lm] at L;obtain⟨aR,aJ,rfl⟩:=L.qy;have T:=Tk o Q;clear o P))
   go_loopw [5,10] (λv5 av wj=>∃(j:Nat) (I:Bool),j<=(uq c).j/\av=ι j/\v5=.i I/\μ w2 wj/\X (I=(s&&((uq c).G j).all λv=>yh v (zx c)))) (λ_ i _=>(uq c).j-(intOf i).D);exact⟨0,s,zs _,rfl,rfl,zn _ _,(by simp[X])⟩;obtain⟨j,I,hj,rfl,rfl,d,x⟩:=hrel;have aG:=d.q;by_cases R:j<(uq c).j
   .obtain⟨ga,rfl,aw,aa⟩:=W.cell j R;have aU:=zi d aw aa;have aH:ga<wr.o.q:=η;have h:=EY (uq c) (λv=>yh v (zx c)) j R;clear aa;generalize (uq c)[j]=x1 at *;have az:X ((s&&((uq c).G (j+1)).all λv=>yh v (zx c))=(I&&yh x1 (zx c))):=by rw[X,h,x.l,Bool.and_assoc]
    clear h x;cases I
    all_goals
     go_wp2_with (go_at_call 109;refine(eS _ _ (zx c) x1 (by exact E.u d) η).y ?_;rintro e w' ⟨rfl,a7⟩;obtain rfl:=a7.z)
     go_roundw;exact⟨j+1,_,η,ξ,rfl,d,(by rw[X,az.l];rfl)⟩;simp[intOf];omega
   have ar:(uq c).G j=uq c:=yV η;have a5:X (I=(cs.G (k+1)).all nP):=by rw[X,x.l,ar,au.l,HS.l];rfl
   clear x;go_wp2_with (go_at_call 68;refine(iv _ g (k*4) c _ _ _ _ (by exact f.u d) η).y ?_;rintro e w3 ⟨lv,rfl,A,aj⟩;obtain⟨aM,aC,rfl⟩:=A.qy;have ac:=Tk N (Tk d aj);have B:=(al.u d).u aj)
   go_loopw [3,4,13] (λv3 v4 a2 wq=>∃(q:Nat) (F K:Bool),q<=(zm c).j/\a2=ι q/\v3=.i F/\v4=.i K/\μ w3 wq/\X (F=(y||((zm c).G q).any nZ))/\X (K=(a||((zm c).G q).any (kx cs)))) (λ_ _ i _=>(zm c).j-(intOf i).D);exact⟨0,_,a,zs _,rfl,rfl,rfl,zn _ _,(by simp[X,u.l]<;>omega),(by simp[X])⟩;obtain⟨q,F,K,P,rfl,rfl,rfl,b,p,r⟩:=hrel;have aB:=b.q;by_cases G:q<(zm c).j
   .obtain⟨gl,aN,aK,rfl,M,ai,ag,af,a6⟩:=A.cell q G;have bb:=zi b M ai;have aO:=zi b M ag;have aL:=zi b M af;have aV:gl<wr.o.q:=η;have h:=eE (zm c) nZ q G;have an:=eE (zm c) (kx cs) q G;clear ai ag af;generalize (zm c)[q]=a1 at *;have a9:X ((y||((zm c).G (q+1)).any nZ)=(F||nZ a1)):=by rw[X,h,p.l,Bool.or_assoc]
    have a3:X ((a||((zm c).G (q+1)).any (kx cs))=(K||kx cs a1)):=by rw[X,an,r.l,Bool.or_assoc]
    clear h an p r;cases F
    all_goals cases K
    all_goals
     go_wp2_with (go_at_call 110;refine(Pu _ pb _ _ _ cs a1 _ (by exact B.u b) (by exact D.u (Tk ac b)) a0.l hl (by exact a6.u b)).y ?_;rintro e w5 ⟨rfl,ap⟩)
     go_roundw;exact⟨q+1,_,_,η,ξ,rfl,rfl,Tk b ap,(by rw[X,a9.l];first|rfl|(simp[nZ];done)|(simp[nZ];omega)),(by rw[X,a3.l];rfl)⟩;simp[intOf];omega
   have ab:(zm c).G q=zm c:=yV η;have a4:X (F=(cs.G (k+1)).any lA):=by rw[X,p.l,ab,ay.l,ad.l,lA,Bool.or_assoc]
   have a8:X (K=(cs.G (k+1)).any (n8 cs)):=by rw[X,r.l,ab,ax.l,HA.l];rfl
   clear p r;go_wp2;go_roundw;exact⟨k+1,F,K,I,η,ξ,rfl,rfl,rfl,Tk ac b,B.u b,a4,a8,a5⟩;simp[intOf];omega
 have V:cs.G k=cs:=yV η;rw[V] at HM HA HS;have HW:X (kf cs=if m then 4 else if a then 5 else if s then 0 else 6):=by unfold X kf;rw[←HM.l,←HA.l,←HS.l]
 clear HM HA HS V;cases m
 all_goals cases a
 all_goals cases s
 all_goals
  go_wp2;go_ret;exact⟨by rw[HW.l];rfl,o⟩
end
def QJ(c:zc):lA c=yR c:=by
 unfold lA em yR zm nZ;rw[List.any_cons];generalize decide (6<c.d.j)=a;generalize decide (5<(uq c).j)=b;generalize decide (3<c.g.k.j)=d;generalize (c.d.any λl=>decide (3<l.k.j))=e;cases a<;>cases b<;>cases d<;>cases e<;>rfl
def IL(c:zc):nP c=xB c:=by
 rw[Bool.eq_iff_iff];unfold nP xB;rw[gd,uK,nN,gd];constructor;intro h;have f:=λv (a:v∈uq c)=>vO.1 (h v a);refine⟨λt e a=>f t (ev.2 ⟨a,zh e⟩),λl b=>?_⟩;cases d:l.i;rfl;rw[nT,p8,nN];exact λt e a=>f t (ev.2 ⟨a,ze ⟨l,b,e⟩⟩);rintro⟨j,i⟩ v a;rw[vO];obtain⟨g,h|⟨l,b,h⟩⟩:=ev.1 a;exact j v h g;cases d:l.i;exact fm.2 ⟨g,l,b,d,h⟩;have:=i l b;rw[d,nT,p8,nN] at this;exact this v h g
def OO(cs:Ξ):cs.any lA=cs.any yR:=by rw[show lA=yR from funext QJ]
def QZ(cs:Ξ):cs.all nP=cs.all xB:=by rw[show nP=xB from funext IL]
section
variable {t:List zf}
def U2.stop{i:Ω}{l:zj}(h:U2 t i)(a:vS t l=Y):∃d∈i,jD l d=true:=by
 unfold vS at a;split at a;rename_i e j;obtain⟨g,k⟩:=pQ j;split at a;cases a;rename_i f;obtain⟨d,c,b⟩:=(h.names e.name).1 (zF.2 ⟨e,g,rfl⟩);refine⟨d,c,?_⟩;unfold jD;rw[uK,decide_eq_true_eq,decide_eq_true_eq];refine⟨by rw[b,k],?_⟩;rw[h.jh e g d c b];exact f;cases a
def AG:∀(a done:Ω) (t:Ψ),U2 t done->match a.foldl uI (Z t) with
  |some e=>U2 e (done++a)
  |none=>∃x∈done++a,∃y∈done++a,jD x y=true
 |[],done,t,h=>by simpa using h
 |l::a,done,t,h=>by
  rw[uG];cases b:vS t l with
  |none=>
   rw[show uI (Z t) l=Y from b,rK];obtain⟨f,c,g⟩:=h.stop b;exact⟨l,ζ,f,by simp[c],g⟩
  |some d=>
   rw[show uI (Z t) l=Z d from b];have:=AG a (done++[l]) d (h.step b);rwa [kO] at this
def QX{b:Ω}(h:U2 t b){x y:zj}(f:x∈b)(g:y∈b):jD x y=false:=by
 obtain⟨e,c,a⟩:=zF.1 ((h.names x.o).2 ⟨x,f,rfl⟩);unfold jD;cases d:decide (y.o=x.o);rfl;rw[decide_eq_true_eq] at d;rw[nY,decide_eq_false_iff_not,h.jh e c x f a.z,h.jh e c y g (d.A a.z)];simp
def EA(cs:Ξ):cs.any (n8 cs)=true↔∃x∈cs.flatMap zm,∃y∈cs.flatMap zm,jD x y=true:=by
 simp only[n8,kx,fc,ve];constructor;rintro⟨c,b,x,d,y,a,h⟩;exact⟨x,⟨c,b,d⟩,y,a,h⟩;rintro⟨x,⟨c,b,d⟩,y,a,h⟩;exact⟨c,b,x,d,y,a,h⟩
def JV{cs:Ξ}(h:uC cs=Y):cs.any (n8 cs)=true:=by
 have:=AG (cs.flatMap zm) [] [] eV;unfold uC at h;rw[h] at this;rw[EA];simpa using this
def wD{cs:Ξ}(h:uC cs=Z t):cs.any (n8 cs)=false/\U2 t (cs.flatMap zm):=by
 have:=AG (cs.flatMap zm) [] [] eV;unfold uC at h;rw[h] at this;simp only[rj] at this;refine⟨?_,this⟩;rw[←rz,EA];rintro⟨x,c,y,b,a⟩;rw[QX this c b] at a;cases a
end
section
open Go.Proofs.Tryz Go.RowKit
variable {lo:Nat}{l out:κ}{i:Nat}
def f9(out:κ)(y:ByteArray):Bool:=match out.getLast? with
 |none=>true
 |some z=>TB z y
def wK(o:κ)(z y:ByteArray):f9 (o++[z]) y=TB z y:=by simp[f9]
def fj(l out:κ)(i:Nat)(k:Int):Prop:=
 (k=-1/\∀j (a:j<l.j),j<i->f9 out l[j]=false)∨∃(q:Nat) (b:q<l.j),k=q/\q<i/\f9 out l[q]=true/\∀j (a:j<l.j),j<i->f9 out l[j]=true->TB l[j] l[q]=false
def QH(l out:κ):fj l out 0 (-1):=zh ⟨rfl,λ_ _ h=>η⟩
def Ln{k:Int}(h:fj l out i k)(o:i<l.j)(e:f9 out l[i]=false):fj l out (i+1) k:=by
 rcases h with⟨d,f⟩|⟨q,n,d,f,m,g⟩
 refine zh ⟨d,λj c b=>?_⟩;rcases dV j i with h|h;exact f j c h;obtain rfl:j=i:=η;exact e;refine ze ⟨q,n,d,η,m,λj c b a=>?_⟩;rcases dV j i with h|h;exact g j c h a;obtain rfl:j=i:=η;rw[e] at a;cases a
def Cj(h:fj l out i (-1))(e:i<l.j)(b:f9 out l[i]=true):fj l out (i+1) i:=by
 rcases h with⟨_,f⟩|⟨q,_,g,_⟩
 refine ze ⟨i,e,rfl,η,b,λj d c a=>?_⟩;rcases dV j i with h|h;rw[f j d h] at a;cases a;obtain rfl:j=i:=η;exact Tv _;omega
def Ez{q:Nat}(h:fj l out i q)(f:i<l.j)(s:q<l.j)(d:f9 out l[i]=true)(c:TB l[i] l[q]=true):fj l out (i+1) i:=by
 rcases h with⟨k,_⟩|⟨o,b,k,p,r,m⟩
 omega;obtain rfl:q=o:=η;refine ze ⟨i,f,rfl,η,d,λj g e a=>?_⟩;rcases dV j i with h|h;cases n:TB l[j] l[i];rfl;have:=lt_trans n c;rw[m j g h a] at this;cases this;obtain rfl:j=i:=η;exact Tv _
def Eu{q:Nat}(h:fj l out i q)(o:i<l.j)(n:q<l.j)(c:TB l[i] l[q]=false):fj l out (i+1) q:=by
 rcases h with⟨f,_⟩|⟨k,b,f,p,m,g⟩
 omega;obtain rfl:q=k:=η;refine ze ⟨q,n,rfl,η,m,λj e d a=>?_⟩;rcases dV j i with h|h;exact g j e h a;obtain rfl:j=i:=η;exact c
structure U5 (l out:κ):Prop where
 rising:y9 out
 sub:∀x∈out,x∈l
 left:∀y∈l,y∉out->∀z∈out,TB z y=true
 room:out.j+mj l out<=l.j
def I5(l:κ):U5 l []:=⟨List.Pairwise.nil,λ_ h=>(by cases h),λ_ _ _ _ h=>(by cases h),by rw[DN];simp⟩
def Qf{y:ByteArray}(b:y9 out)(h:f9 out y=true):∀z∈out,TB z y=true:=by
 intro z a;rcases ez out with e|⟨o,x,e⟩;subst e;cases a;rw[iU] at e;subst e;rw[wK] at h;rcases ya.1 a with a|a;exact lt_trans ((m7.1 b).2.2 z a x ζ) h;simp at a;subst a;exact h
def Dx{y:ByteArray}(h:∀z∈out,TB z y=true):f9 out y=true:=by
 rcases ez out with e|⟨o,x,e⟩;subst e;rfl;rw[iU] at e;subst e;rw[wK];exact h x ζ
def Mk{q:Nat}(h:U5 l out)(s:q<l.j)(C:fj l out l.j q):U5 l (out++[l[q]])/\mj l (out++[l[q]])<mj l out:=by
 rcases C with⟨B,_⟩|⟨A,v,B,_,D,w⟩
 omega;obtain rfl:q=A:=η;have c:=Qf h.rising D;have g:l[q]∉out:=λp=>by have:=c _ p;rw[Tv] at this;cases this
 have r:=JF (zq s) g;refine⟨⟨?_,?_,?_,?_⟩,r⟩;exact m7.2 ⟨h.rising,List.pairwise_singleton _ _,λa E b u=>by simp at u;subst u;exact c a E⟩;intro x d;rcases ya.1 d with d|d;exact h.sub x d;simp at d;subst d;exact zq s;intro y n f z e;have k:y∉out:=λp=>f (ya.2 (zh p));rcases ya.1 e with e|e;exact h.left y n k z e;simp at e;subst e;obtain⟨j,t,rfl⟩:=vd n;have o:=Dx (h.left _ n k);have m:=w j t t o;cases d:TB l[q] l[j];exact zB (ya.2 (ze (by simp[sV m d]))) f;rfl;have:=h.room;simp;omega
def PG(h:U5 l out)(e:fj l out l.j (-1)):∀x,x∈out↔x∈l:=by
 intro x;refine⟨h.sub x,λb=>?_⟩;rcases e with⟨_,d⟩|⟨q,_,f,_⟩
 false_or_by_contra
 rename_i c;obtain⟨j,a,rfl⟩:=vd b;have:=Dx (h.left _ b c);rw[d j a a] at this;cases this;omega
def F9(w:U)(v:O)(l:κ)(hs:Tn lo w v l)(hl:l.j<=1000):
  Calls prog 69 #[v] w λe w'=>∃v' r,e=.returned v'/\Tn w.o.q w' v' r/\y9 r/\(∀x,x∈r↔x∈l)/\r.j<=l.j/\μ w w':=by
 obtain⟨i0,hi,ad,Q,S⟩:=info_parts SL;obtain⟨ao,ay,rfl⟩:=hs.qy;go_enter func69,ntmps69;go_wp2;go_loopg [3] (l.j) (λn v3 wr=>∃out:κ,X (U5 l out)/\mj l out<=n/\μ w wr/\wr.r w.o.q 9 1 v3 out.j (out.map O.string))
 case atStart=>exact⟨[],I5 l,by rw[DN];omega,zn _ _,xp _ _ _ _⟩
 obtain⟨out,P,aw,aj,E⟩:=hrel;obtain⟨a0,ap,rfl⟩:=zr E;have H:=P.l.room;go_wp2;go_loopw [4,5] (λv4 v5 wj=>∃(i:Nat) (G:Int),i<=l.j/\v5=ι i/\v4=ι G/\μ wr wj/\X (fj l out i G)/\X (G=-1∨∃(q:Nat) (_:q<l.j),G=q)) (λ_ i _=>l.j-(intOf i).D)
 case atStart=>exact⟨0,-1,zs _,rfl,rfl,zn _ _,QH l out,zh rfl⟩
 obtain⟨i,G,aq,rfl,rfl,a,f,u⟩:=hrel;have p:=Tk aj a;have K:=p.q;have s:=zy E a;by_cases b:i<l.j
 .obtain⟨g,rfl,hg,I⟩:=hs.cell i b;have av:=zi p hg I;have ah:g<wr.o.q:=η;clear I;rcases ez out with e|⟨o,z,e⟩
  .subst e;have c:f9 [] l[i]=true:=rfl;rcases u.l with B|⟨q,A,D⟩
   .subst B;have t:=Tg (Cj f.l b c);clear f u c;generalize l[i]=x at *;go_wp2;go_quiet (fail)
    go_wp2;go_roundw;exact⟨i+1,(i:Int),η,ξ,rfl,zI a _,t,ze ⟨i,b,rfl⟩⟩;simp[intOf];omega
   subst D;obtain⟨R,C,m,k⟩:=hs.cell q A;simp at C;subst C;have M:=zi p m k;have ab:decide ((q:Int)<0)=false:=by rw[decide_eq_false_iff_not];omega
   clear k;cases d:TB l[i] l[q]
   .have t:=Tg (Eu f.l b A d);unfold TB at d;clear f u c;generalize l[i]=x at *;generalize l[q]=y at *;go_wp2;go_quiet (fail)
    go_wp2;go_roundw;exact⟨i+1,(q:Int),η,ξ,rfl,zI a _,t,ze ⟨q,A,rfl⟩⟩;simp[intOf];omega
   have t:=Tg (Ez f.l b A c d);unfold TB at d;clear f u c;generalize l[i]=x at *;generalize l[q]=y at *;go_wp2;go_quiet (fail)
   go_wp2;go_roundw;exact⟨i+1,(i:Int),η,ξ,rfl,zI a _,t,ze ⟨i,b,rfl⟩⟩;simp[intOf];omega
  rw[iU] at e;subst e;obtain⟨go,T,N,_,ag,F⟩:=yr s ζ;simp at N;obtain⟨rfl,_⟩:=N;have az:=F o.j (.d z) ζ;have ac:((o.j:Int)+1 == 0)=false:=by rw[beq_eq_false_iff_ne];omega
  have an:o.j<o.j+1:=η;have am:=ag;have a1:o.j<=1000:=by simp at H;omega
  have ar:IntKind.i64.wrap (o.j:Int)=(o.j:Int):=IntWalk.i64_in _ η;clear F;cases j:TB z l[i]
  .have t:=Tg (Ln f.l b (by rw[wK];exact j));cases J:Op.bytesLess l[i].v z.v
   .have ai:=jt (sV J j);clear f j;generalize l[i]=x at *;go_wp2;go_quiet (fail)
    go_wp2;go_roundw;exact⟨i+1,G,η,ξ,rfl,zI a _,t,u⟩;simp[intOf];omega
   clear f j;generalize l[i]=x at *;go_wp2;go_quiet (fail)
   go_wp2;go_roundw;exact⟨i+1,G,η,ξ,rfl,zI a _,t,u⟩;simp[intOf];omega
  have c:f9 (o++[z]) l[i]=true:=by rw[wK];exact j
  have J:Op.bytesLess l[i].v z.v=false:=MF j;have ai:(l[i].v == z.v)=false:=vV (λh=>by rw[h,Tv] at j;cases j);clear j;rcases u.l with B|⟨q,A,D⟩
  .subst B;have t:=Tg (Cj f.l b c);clear f u c;generalize l[i]=x at *;go_wp2;go_quiet (fail)
   go_wp2;go_roundw;exact⟨i+1,(i:Int),η,ξ,rfl,zI a _,t,ze ⟨i,b,rfl⟩⟩;simp[intOf];omega
  subst D;obtain⟨R,C,m,k⟩:=hs.cell q A;simp at C;subst C;have M:=zi p m k;have ab:decide ((q:Int)<0)=false:=by rw[decide_eq_false_iff_not];omega
  clear k;cases d:TB l[i] l[q]
  .have t:=Tg (Eu f.l b A d);unfold TB at d;clear f u c;generalize l[i]=x at *;generalize l[q]=y at *;go_wp2;go_quiet (fail)
   go_wp2;go_roundw;exact⟨i+1,(q:Int),η,ξ,rfl,zI a _,t,ze ⟨q,A,rfl⟩⟩;simp[intOf];omega
  have t:=Tg (Ez f.l b A c d);unfold TB at d;clear f u c;generalize l[i]=x at *;generalize l[q]=y at *;go_wp2;go_quiet (fail)
  go_wp2;go_roundw;exact⟨i+1,(i:Int),η,ξ,rfl,zI a _,t,ze ⟨i,b,rfl⟩⟩;simp[intOf];omega
 have af:i=l.j:=η;subst af;rcases u.l with B|⟨q,A,D⟩
 .subst B;have HD:=Tg (PG P.l f.l);clear f u;go_wp2;go_ret;exact⟨_,out,rfl,s,P.l.rising,HD.l,η,p⟩
 subst D;obtain⟨R,rfl,m,k⟩:=hs.cell q A;have M:=zi p m k;have ah:R<wr.o.q:=η;obtain⟨L,ax⟩:=Mk P.l A f.l;have ak:=Tg L;clear f u k L;generalize l[q]=y at *;go_wp2_with (at_builtin;refine gu _ _ _ _ rfl (.tmp 47) (.tmp 52) 30 rfl w.o.q 9 i0 _ 1 16 underlying30 hi ad Q S rfl θ _ _ _ rfl s (zn _ _) _ _ rfl ζ rfl a_ η η K ?_;intro v' w2 W aa V ae au al;clear V ae)
 go_roundg (mj l (out++[y]))
 case measure=>omega
 exact⟨out++[y],ak,zg _,p.A aa,by simpa using W⟩
end
section
variable {ps:κ}{sv:List Nat}{k:Nat}{cs:List zc}
def vR(ps:κ)(sv:List Nat)(n:ByteArray):Nat:=match yA ps n with
 |some k=>sv.getD k 0
 |none=>0
def iA:∀{ps:κ} {n:ByteArray},n∈ps->∃k,yA ps n=Z k
 |[],_,h=>by cases h
 |y::r,n,h=>by
  unfold yA;by_cases e:y=n
  .exact⟨0,by rw[zb e]⟩
  .rw[za e];rcases zG.1 h with h|h
   .exact zB h.z e
   .obtain⟨k,a⟩:=iA h;exact⟨k+1,by rw[a];rfl⟩
def it{n:ByteArray}(h:yA ps n=Z k)(a:k<sv.j):vR ps sv n=sv[k]:=by
 unfold vR;rw[h];simp[List.getD_eq_getElem?_getD,a]
def Ld{m:ByteArray}(h:yA ps m=Z k)(e:k<sv.j)(s:Nat)(n:ByteArray):vR ps (sv.set k s) n=if n=m then s else vR ps sv n:=by
 by_cases a:n=m;subst a;rw[zb rfl,it h (by simpa using e)];simp;rw[za a];unfold vR;rcases b:yA ps n with _|j;rfl;have c:k≠j:=by
  rintro rfl;obtain⟨g,d⟩:=lN h;obtain⟨i,f⟩:=lN b;exact a (f.z.A d)
 simp[List.getD_eq_getElem?_getD,c]
def IQ(ps:κ)(k:Nat)(n:ByteArray):vR ps (List.replicate k 0) n=0:=by
 unfold vR;split;simp[List.getD_eq_getElem?_getD,List.getElem?_replicate];split<;>rfl
 rfl
def Vh(cs:List zc)(ps:κ)(sv:List Nat):Prop:=∀f,Ul cs f->∀n,vR ps sv n<=f n
def Su(cs:Ξ)(ps:κ)(k:Nat):Vh cs ps (List.replicate k 0):=λf _ n=>by rw[IQ];omega
def OD(h:Vh cs ps sv){c:zc}(g:c∈cs){l:zj}(d:l∈c.d)(i:yA ps c.g.o=Z k)(b:k<sv.j):Vh cs ps (sv.set k (vR ps sv l.o+up l)):=by
 intro f a n;rw[Ld i b];split;rename_i e;have:=a c g l d;have:=h f a l.o;rw[e];omega;exact h f a n
def Pc(h:Vh cs ps sv)(a:∀c∈cs,∀l∈zm c,l.o∈ps){c:zc}(d:c∈cs){l:zj}(e:l∈c.d)(j:ps.j<=vR ps sv l.o+up l):¬∃f,Ul cs f:=by
 rintro⟨g,i⟩;obtain⟨f,b⟩:=Fc i;have n:=Ap b a (a c d c.g (by simp[zm]));have m:=b.1 c d l e;have o:=h f b.1 l.o;omega
def Uq(cs:List zc)(ps:κ)(sv:List Nat)(i:Nat):Prop:=∀c∈cs.G i,∀l∈c.d,vR ps sv l.o+up l<=vR ps sv c.g.o
def nH(c:zc)(ps:κ)(sv:List Nat)(k:Nat):Prop:=∀l∈c.d.G k,vR ps sv l.o+up l<=vR ps sv c.g.o
def Nf(cs:Ξ)(ps:κ)(sv:Φ):Uq cs ps sv 0:=λc a=>by simp at a
def Qk(c:zc)(ps:κ)(sv:Φ):nH c ps sv 0:=λl a=>by simp at a
def O1{c:zc}(h:nH c ps sv k)(b:k<c.d.j)(d:vR ps sv c.d[k].o+up c.d[k]<=vR ps sv c.g.o):nH c ps sv (k+1):=by
 intro l a;rw[yM b,ya] at a;rcases a with a|a;exact h l a;simp at a;subst a;exact d
def P6{i:Nat}(h:Uq cs ps sv i)(e:i<cs.j)(b:nH cs[i] ps sv cs[i].d.j):Uq cs ps sv (i+1):=by
 intro c a;rw[yM e,ya] at a;rcases a with a|a;exact h c a;simp at a;subst a;intro l d;exact b l (by rw[yV (zg _)];exact d)
def Ot(h:Uq cs ps sv cs.j):Ul cs (vR ps sv):=λc a=>h c (by rw[yV (zg _)];exact a)
def KQ(a:Vh cs ps sv)(h:Uq cs ps sv cs.j):TT cs (vR ps sv):=⟨Ot h,a⟩
def Do:∀(sv:Φ) (k s:Nat) (b:k<sv.j),(sv.set k s).sum+sv[k]=sv.sum+s
 |a::r,0,s,_=>by simp;omega
 |a::r,k+1,s,b=>by
  have:=Do r k s (by simpa using b);simp;omega
def Hf:∀(sv:Φ) (M:Nat),(∀s∈sv,s<=M)->sv.sum<=sv.j*M
 |[],M,_=>ζ
 |a::r,M,h=>by
  have d:=Hf r M λs b=>h s (by simp[b]);have c:=h a ζ;simp only[qD,xt,lG,Nat.one_mul];omega
def Pj{f g:ByteArray->Nat}(a:TT cs f)(b:TT cs g)(n:ByteArray):f n=g n:=Nat.le_antisymm (a.2 g b.1 n) (b.2 f a.1 n)
end
section
variable {ps:κ}{t:List zf}{cs:List zc}
def Ho(h:y9 ps){i j:Nat}(c:i<ps.j)(b:j<ps.j)(e:ps[i]=ps[j]):i=j:=by
 unfold y9 at h;rw[rx] at h;rcases rm i j with a|a|a;have:=h i j c b a;rw[e,Tv] at this;cases this;exact a;have:=h j i b c a;rw[e,Tv] at this;cases this
def Mu{sv:Φ}(h:y9 ps)(e:sv.j=ps.j){k:Nat}(b:k<ps.j):vR ps sv ps[k]=sv[k]:=by
 obtain⟨j,a⟩:=iA (zq b);obtain⟨d,c⟩:=lN a;have:=Ho h d b c;subst this;exact it a η
def NA(h:y9 (Ti t)){k:Nat}(c:k<t.j):val t t[k].name=t[k].L:=by
 unfold val;rcases a:zU t t[k].name with _|e;exact zB rfl (rp h a t[k] (zq c));obtain⟨d,b,f⟩:=jw a;have g:=Ho h (by simpa [Ti] using d) (by simpa [Ti] using c) (by simp[Ti,b,f]);simp only;rw[←b];congr 1;congr 1
def wY(h:U2 t (cs.flatMap zm)):kJ t cs:=by
 intro c f l b;rcases d:zU t l.o with _|e;obtain⟨e,a,g⟩:=zF.1 ((h.names l.o).2 ⟨l,ve.2 ⟨c,f,b⟩,rfl⟩);exact zB g (rp h.rise d e a);rfl
def CF(h:∀e∈t,e.L<=0)(n:ByteArray):val t n=0:=by
 unfold val;split;rename_i e a;have:=h e (pQ a).1;omega;rfl
inductive hZ (s:ByteArray):Except Int (Ξ×κ×Φ)->Prop
 |long:500<s.q->hZ s (.error 1)
 |lex:¬500<s.q->x9 s.q s=none->hZ s (.error 2)
 |parse {l:κ}:¬500<s.q->x9 s.q s=some l->vI l=none->hZ s (.error 3)
 |wrong {l:κ} {cs:Ξ}:¬500<s.q->x9 s.q s=some l->vI l=some cs->kf cs≠0->hZ s (.error (kf cs))
 |strata {l:κ} {cs:Ξ}:¬500<s.q->x9 s.q s=some l->vI l=some cs->kf cs=0->(¬∃f,Ul cs f)->hZ s (.error 7)
 |ok {l:κ} {cs:Ξ} {ps:κ} {sv:Φ}:¬500<s.q->x9 s.q s=some l->vI l=some cs->kf cs=0->y9 ps->(∀n,n∈ps↔∃x∈cs.flatMap zm,x.o=n)->sv.j=ps.j->TT cs (vR ps sv)->hZ s (.ok (cs,ps,sv))
def i3:Except Int (List zc×List zf)->Except Int (List zc×κ×List Nat)
 |.error k=>.error k
 |.ok (cs,t)=>.ok (cs,Ti t,t.map zf.L)
def i9{s:ByteArray}{l:κ}(h:x9 s.q s=Z l):∃a,Tt s=Z a/\vI l=yW a.j a.j a:=by
 have b:=Be s;rw[h] at b;rcases c:Tt s with _|a;rw[sO,c] at h;cases h;rw[c] at b;exact⟨a,rfl,b⟩
def AZ:(kf cs=4/\cs.any yR=true)∨(kf cs=5/\cs.any yR=false/\uC cs=Y)∨(∃t,cs.any yR=false/\uC cs=Z t/\((kf cs=6/\cs.all xB=false)∨(kf cs=0/\cs.all xB=true))):=by
 unfold kf;rw[OO,QZ];cases b:cs.any yR;right;rcases a:uC cs with _|t;left;rw[JV a];exact⟨rfl,rfl,rfl⟩;right;refine⟨t,rfl,rfl,?_⟩;rw[(wD a).1];cases c:cs.all xB;exact zh ⟨rfl,rfl⟩;exact ze ⟨rfl,rfl⟩;exact zh ⟨rfl,rfl⟩
def Il(h:uC cs=Z t):∀e∈t,e.L<=0:=iq _ [] (λe a=>by cases a) t h
def FV{s:ByteArray}{r:Except Int (Ξ×κ×Φ)}(h:hZ s r):i3 (uF s)=r:=by
 cases h with
 |long h=>unfold uF;rw[zb h];rfl
 |lex h f=>
  unfold uF;rw[za h];rw[sO] at f;rcases G:Tt s with _|p;rfl;rw[G] at f;cases f
 |parse h f j=>
  obtain⟨p,i,d⟩:=i9 f;rw[j] at d;unfold uF;rw[za h,i];simp only;rw[←d];rfl
 |wrong h f j g=>
  rename_i cs;obtain⟨p,i,d⟩:=i9 f;rw[j] at d;unfold uF;rw[za h,i];simp only;rw[←d];simp only;rcases AZ (cs:=cs) with⟨e,a⟩|⟨e,a,b⟩|⟨t,a,b,⟨e,c⟩|⟨e,c⟩⟩
  rw[e,a];rfl;rw[e,a,b];rfl;rw[e,a,b];simp only;rw[c];rfl;exact zB e g
 |strata h f j g z=>
  rename_i cs;obtain⟨p,i,d⟩:=i9 f;rw[j] at d;unfold uF;rw[za h,i];simp only;rw[←d];simp only;rcases AZ (cs:=cs) with⟨e,a⟩|⟨e,a,b⟩|⟨t,a,b,⟨e,c⟩|⟨e,c⟩⟩
  rw[g] at e;cases e;rw[g] at e;cases e;rw[g] at e;cases e;rw[a,b];simp only;rw[c];have u:=ef (wY (wD b).2) (CF (Il b));have:(ul (t.j+1) t cs).2=false:=by rw[←rz];exact λe=>z (u.1.1 e)
  rw[this];rfl
 |ok h f j g y J C B=>
  rename_i l cs ps I;obtain⟨p,i,d⟩:=i9 f;rw[j] at d;unfold uF;rw[za h,i];simp only;rw[←d];simp only;rcases AZ (cs:=cs) with⟨e,a⟩|⟨e,a,b⟩|⟨t,a,b,⟨e,c⟩|⟨e,c⟩⟩
  rw[g] at e;cases e;rw[g] at e;cases e;rw[g] at e;cases e;rw[a,b];simp only;rw[c];have q:=(wD b).2;have u:=ef (wY q) (CF (Il b));have o:=u.1.2 ⟨_,B.1⟩;have m:=u.2 o;have D:=iG (t.j+1) t cs (wY q);rw[o];simp only[if_true,gR,if_false,i3];generalize (ul (t.j+1) t cs).1=A at m D;have w:=D.A (FG q.rise y λn=>(q.names n).A (J n).z);subst w;have x:A.map zf.L=I:=by
   apply jy (by rw[C];simp[Ti]);intro k v E;have H:k<A.j:=by simpa using v
   have F:=Mu y C (k:=k) η;have K:=NA y H;rw[←F,Pj B m];simp only[Ti,ub];exact K.z
  rw[x]
end
end Go.Proofs.YteampbddflhngaaGreat
