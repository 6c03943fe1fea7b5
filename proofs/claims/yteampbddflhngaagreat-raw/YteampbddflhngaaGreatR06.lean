import Derived.Deep.Cut
import Derived.Laws.AppendOwnNone
import Derived.Test.YteampbddflhngaaGreatR03
import Derived.Test.YteampbddflhngaaGreatR04
import Derived.Test.YteampbddflhngaaGreatR05
namespace Go.Proofs.YteampbddflhngaaGreat
open List renaming length→List.j,take→List.G
open _root_.Array renaming size→Array.q,toList→Array.v
open _root_.ByteArray renaming size→ByteArray.q,toList→ByteArray.v
open Go.RowKit.Below renaming size→Go.RowKit.Below.q,setCell→Go.RowKit.Below.x,trans→Go.RowKit.Below.A,alloc→Go.RowKit.Below.C
open Go.TypeInfo renaming size→Go.TypeInfo.q
open Go.RowKit.Hid renaming out→Go.RowKit.Hid.l
open Go.World renaming heap→Go.World.o,setCell→Go.World.x,cell?→Go.World.p,alloc→Go.World.C,ownsRow→Go.World.r
open Go.Value renaming slice→Go.Value.k,string→Go.Value.d,bool→Go.Value.i,cells→Go.Value.E,tuple→Go.Value.B
open Go.TypeDesc renaming slice→Go.TypeDesc.k,string→Go.TypeDesc.d,bool→Go.TypeDesc.i,tuple→Go.TypeDesc.B
open Go.Calls renaming mono→Go.Calls.y
open Eq renaming trans→Eq.A,symm→Eq.z
open Iff renaming trans→Iff.A,symm→Iff.z
open Go.Obj renaming cells→Go.Obj.E
open Int renaming toNat→Int.D
open Ne renaming symm→Ne.z
open Option renaming some→Z,none→Y
open Go.RowKit renaming Hid→X
open Go renaming World→U,Value→O
set_option linter.all false
set_option maxRecDepth 100000
set_option maxHeartbeats 40000000
section
open Go.Proofs.Tryz Go.RowKit
variable {lo:Nat}{o:Option (List zj)}
def Et(w:U)(v:O)(l:κ)(b:Bool)(k:SV w v l)(g:∀y∈l,0<y.q)(q:l.j<=500):
  Calls prog 152 #[v,.i b] w λe A=>jW (kj l b) w e A:=by
 unfold kj;cases p:TW l b;rw[za ζ];by_cases d:l.j=0;have:x6 false l=none:=by unfold x6;rw[zb d]
 rw[this];exact Sl w v l b k g q p d;cases f:xi (Tt (gB l 0) 0);have:x6 false l=none:=by unfold x6;rw[za d,zb f]
 rw[this];exact Q3 w v l b k g q p d f;by_cases i:l.j=1;have:x6 false l=Z ⟨false,gB l 0,[]⟩:=by unfold x6;rw[za d,f,za ζ,zb i]
 rw[this];exact KE w v l b k g q p d f i;by_cases a:l.j<4∨l.j%2=1∨((gB l 1).v == [40])=false∨((gB l (l.j-1)).v == [41])=false;have:x6 false l=none:=by unfold x6;rw[za d,f,za ζ,za i,zb a]
 rw[this];by_cases r:l.j<4;exact MM w v l b k g q p d f i r;by_cases s:l.j%2=1;exact Q1 w v l b k g q p d f i r s;cases m:((gB l 1).v == [40]);exact Jm w v l b k g q p d f i r s m;cases n:((gB l (l.j-1)).v == [41]);exact Nt w v l b k g q p d f i r s m n;rw[m,n] at a;simp at a;omega;simp only[not_or,tM] at a;exact QQ w v l b k g q p d f i a.1 a.2.1 a.2.2.1 a.2.2.2;rw[zb rfl];simp only[TW,uI,decide_eq_true_eq,sX] at p;obtain⟨⟨u,z⟩,rfl⟩:=p;rcases l with _|⟨x,l⟩;simp at u;have j:(x.v == [33])=true:=z;have c:∀y∈l,0<y.q:=λy t=>g y (nP _ t);have h:l.j<=500:=by simp at q;omega
 rw[mR];by_cases d:l.j=0;have:x6 true l=none:=by unfold x6;rw[zb d]
 rw[this];exact ND w v x l k c j h d;cases f:xi (Tt (gB l 0) 0);have:x6 true l=none:=by unfold x6;rw[za d,zb f]
 rw[this];exact JX w v x l k c j h d f;by_cases i:l.j=1;have:x6 true l=Z ⟨true,gB l 0,[]⟩:=by unfold x6;rw[za d,f,za ζ,zb i]
 rw[this];exact QR w v x l k c j h d f i;by_cases a:l.j<4∨l.j%2=1∨((gB l 1).v == [40])=false∨((gB l (l.j-1)).v == [41])=false;have:x6 true l=none:=by unfold x6;rw[za d,f,za ζ,za i,zb a]
 rw[this];by_cases r:l.j<4;exact MN w v x l k c j h d f i r;by_cases s:l.j%2=1;exact LX w v x l k c j h d f i r s;cases m:((gB l 1).v == [40]);exact LE w v x l k c j h d f i r s m;cases n:((gB l (l.j-1)).v == [41]);exact PG w v x l k c j h d f i r s m n;rw[m,n] at a;simp at a;omega;simp only[not_or,tM] at a;exact Me w v x l k c j h d f i a.1 a.2.1 a.2.2.1 a.2.2.2
def BS(w:U)(v:O)(l:κ)(a:Bool)(m:SV w v l)(f:∀y∈l,0<y.q)(k:l.j<=500)(h:kj l a=Y):
  Calls prog 152 #[v,.i a] w λe i=>∃b p d n c,e=ε (.B #[.agg #[.i b,.d p,.k d n c],.i false])/\μ w i:=by
 refine(Et w v l a m f k).y ?_;rintro e i ⟨j,g⟩;rw[h] at g;obtain⟨b,p,d,n,c,q⟩:=g;exact⟨b,p,d,n,c,q,j⟩
def AY(w:U)(v:O)(l:κ)(b:Bool)(a:zj)(k:SV w v l)(f:∀y∈l,0<y.q)(j:l.j<=500)(h:kj l b=Z a):
  Calls prog 152 #[v,.i b] w λe d=>∃c,e=ε (.B #[.agg #[.i a.i,.d a.o,c],.i true])/\To w.o.q d c a.k/\μ w d:=by
 refine(Et w v l b k f j).y ?_;rintro e d ⟨i,g⟩;rw[h] at g;obtain⟨c,m,n⟩:=g;exact⟨c,m,n,i⟩
def Ak(o:Option (List zj))(w:U)(e:Ending)(w':U):Prop:=
 μ w w'/\match o with
  |none=>e=ε (.B #[ν,.i false])
  |some a=>∃v,e=ε (.B #[v,.i true])/\TN w.o.q w' v a
def GE{w w':U}(h:X (o=Y))(b:μ w w'):Ak o w (ε (.B #[ν,.i false])) w':=by
 have a:o=none:=h;subst a;exact⟨b,rfl⟩
def Sg{w w':U}{v:O}{a:Ω}(h:X (o=Z a))(c:μ w w')(hs:TN w.o.q w' v a):Ak o w (ε (.B #[v,.i true])) w':=by
 have b:o=Z a:=h;subst b;exact⟨c,v,rfl,hs⟩
def G6(w:U)(v:O)(l:κ)(hv:SV w v l)(ah:∀y∈l,0<y.q)(hl:l.j<=500):
  Calls prog 153 #[v] w λe w'=>Ak (yS l (l.j+1) 0 0 0) w e w':=by
 obtain⟨i0,hi,ad,af,ag⟩:=info_parts S9;obtain⟨i1,M,_,_,_⟩:=info_parts SG;obtain⟨ao,aw,rfl⟩:=hv.qy;go_enter func153,ntmps153;go_wp2;go_loopw [4,5,6,7] (λv4 v5 v6 v7 wr=>∃(g:Ω) (f k m:Nat) (d:Int) (V:Γ),v5=ι f/\v6=ι d/\v7=ι k/\f<=k/\k<=l.j+1/\m+k=l.j+1/\-500<=d+(k:Int)/\d<=k/\-(k:Int)<=d/\g.j<=k/\(k=l.j+1∨f<=l.j) ∧
   μ w wr/\wr.r w.o.q 90 3 v4 g.j V/\uZ w.o.q wr g V/\X (yS l (l.j+1) 0 0 0=(yS l m f d k).map (g++·))) (λ_ _ _ i _=>l.j+1-(intOf i).D)
 exact⟨[],0,0,l.j+1,0,[],rfl,rfl,rfl,zf _,η,η,η,η,η,ζ,ze η,zn _ _,xo _ _ _ _,rfl,(by simp[X])⟩;obtain⟨g,f,k,m,d,V,rfl,rfl,rfl,au,ay,a1,a0,ar,ax,ap,av,h,j,s,H⟩:=hrel;have aq:=h.q;by_cases az:k<=l.j
 .obtain⟨m,rfl⟩:∃m',m=m'+1:=⟨m-1,η⟩;by_cases N:k<l.j
  .obtain⟨b,o,rfl,ai,aj⟩:=hv.cell k N;have am:=zi h ai aj;have a2:b<wr.o.q:=η;rw[xJ N] at am;clear aj;have c:yS l (m+1) f d k=(if ((gB l k).v == [40]) then yS l m f (d+1) (k+1) else if ((gB l k).v == [41]) then yS l m f (d-1) (k+1) else if ((gB l k).v == [44])=false∨0<d then yS l m f d (k+1) else match kj ((l.drop f).G (k-f)) false with|none=>Y|some a=>(yS l m (k+1) d (k+1)).map (a::·)):=by rw[yS,zb N];try rfl
   cases A:((gB l k).v == [40])
   .cases B:((gB l k).v == [41])
    .cases E:((gB l k).v == [44])
     .have C:X (yS l (l.j+1) 0 0 0=(yS l m f d (k+1)).map (g++·)):=by rw[X,H.l,c,A,B,E];simp
      clear H c;generalize gB l k=x at *;go_wp2;go_roundw;exact⟨g,f,k+1,m,d,V,rfl,rfl,ξ,η,η,η,η,η,η,η,η,h,j,s,C⟩;simp[intOf];omega
     by_cases an:0<d
     .have C:X (yS l (l.j+1) 0 0 0=(yS l m f d (k+1)).map (g++·)):=by rw[X,H.l,c,A,B,E];simp[an]
      clear H c;generalize gB l k=x at *;go_wp2;go_roundw;exact⟨g,f,k+1,m,d,V,rfl,rfl,ξ,η,η,η,η,η,η,η,η,h,j,s,C⟩;simp[intOf];omega
     rw[A,B,E,za ζ,za ζ,za υ] at c;generalize gB l k=x at *;have F:X (∀y∈(l.drop f).G (k-f),0<y.q):=λy hy=>ah y (fB (gh hy));rcases z:kj ((l.drop f).G (k-f)) false with _|a
     .have W:=Th z;have HF:X (yS l (l.j+1) 0 0 0=Y):=by rw[X,H.l,c,z];rfl
      clear H c z;go_wp2_with (first|(refine jz _ w rfl (.tmp 58) 30 9 (Z (.tmp 59)) (Z (.tmp 60)) rfl underlying30 i1 M S6 _ l rfl hv f k (ze rfl) (ze rfl) η η (k-f) rfl ?_;intro T I t)|(go_at_call 152;refine(BS _ _ ((l.drop f).G (k-f)) false (by exact t.u h) F.l υ W).y ?_;rintro e w1 ⟨b1,p1,al,n1,ak,rfl,n⟩;have p:=Tl h n;have J:=p.q))
      go_ret2
      exact GE HF γ
     have W:=Th z;have C:X (yS l (l.j+1) 0 0 0=(yS l m (k+1) d (k+1)).map ((g++[a])++·)):=by rw[X,H.l,c,z];simp only[];rw[sO]
     clear H c z;go_wp2_with (first|(refine jz _ w rfl (.tmp 58) 30 9 (Z (.tmp 59)) (Z (.tmp 60)) rfl underlying30 i1 M S6 _ l rfl hv f k (ze rfl) (ze rfl) η η (k-f) rfl ?_;intro T I t)|(go_at_call 152;refine(AY _ _ ((l.drop f).G (k-f)) false a (by exact t.u h) F.l υ W).y ?_;rintro e w1 ⟨va,rfl,r,n⟩;obtain⟨P,D,rfl⟩:=r.qy;have p:=Tl h n;have J:=p.q;have u:=zy j n;have L:=s.y λ_ _ q=>q.u n)|(at_builtin;refine gz w1 _ _ _ rfl (.tmp 67) (.tmp 69) 91 rfl w.o.q 90 i0 _ 3 48 underlying91 hi ad af ag rfl θ _ _ _ rfl u zO _ _ rfl ζ rfl a_ η η J ?_;intro v' w2 R ac Q aa K ae;clear Q aa;have S:To w.o.q w2 (O.slice P a.k.j D) a.k:=yo (gR u θ r K) h.q;have G:=L.y λ_ _ q=>gR u θ q K))
     go_roundw;exact⟨g++[a],k+1,k+1,m,d,_,ξ,rfl,ξ,zf _,η,η,η,η,η,by simp;omega,η,p.A ac,by rw[yK];exact R,G.snoc S,C⟩;simp[intOf];omega
    obtain⟨_,E⟩:=s41 B;have C:X (yS l (l.j+1) 0 0 0=(yS l m f (d-1) (k+1)).map (g++·)):=by rw[X,H.l,c,A,B];rfl
    clear H c;generalize gB l k=x at *;go_wp2;go_roundw;exact⟨g,f,k+1,m,d-1,V,rfl,rfl,ξ,η,η,η,η,η,η,η,η,h,j,s,C⟩;simp[intOf];omega
   obtain⟨B,E⟩:=s40 A;have C:X (yS l (l.j+1) 0 0 0=(yS l m f (d+1) (k+1)).map (g++·)):=by rw[X,H.l,c,A];rfl
   clear H c;generalize gB l k=x at *;go_wp2;go_roundw;exact⟨g,f,k+1,m,d+1,V,rfl,rfl,ξ,η,η,η,η,η,η,η,η,h,j,s,C⟩;simp[intOf];omega
  have c:yS l (m+1) f d k=(match kj ((l.drop f).G (k-f)) false with|none=>Y|some a=>Z [a]):=by rw[yS,za N];try rfl
  have ab:m=0:=η;have F:X (∀y∈(l.drop f).G (k-f),0<y.q):=λy hy=>ah y (fB (gh hy));rcases z:kj ((l.drop f).G (k-f)) false with _|a
  .have W:=Th z;have HF:X (yS l (l.j+1) 0 0 0=Y):=by rw[X,H.l,c,z];rfl
   clear H c z;go_wp2_with (first|(refine jz _ w rfl (.tmp 58) 30 9 (Z (.tmp 59)) (Z (.tmp 60)) rfl underlying30 i1 M S6 _ l rfl hv f k (ze rfl) (ze rfl) η η (k-f) rfl ?_;intro T I t)|(go_at_call 152;refine(BS _ _ ((l.drop f).G (k-f)) false (by exact t.u h) F.l υ W).y ?_;rintro e w1 ⟨b1,p1,al,n1,ak,rfl,n⟩;have p:=Tl h n;have J:=p.q))
   go_ret2
   exact GE HF γ
  have W:=Th z;have C:X (yS l (l.j+1) 0 0 0=(yS l m (k+1) d (k+1)).map ((g++[a])++·)):=by rw[X,H.l,c,z,ab];simp[yS]
  clear H c z;go_wp2_with (first|(refine jz _ w rfl (.tmp 58) 30 9 (Z (.tmp 59)) (Z (.tmp 60)) rfl underlying30 i1 M S6 _ l rfl hv f k (ze rfl) (ze rfl) η η (k-f) rfl ?_;intro T I t)|(go_at_call 152;refine(AY _ _ ((l.drop f).G (k-f)) false a (by exact t.u h) F.l υ W).y ?_;rintro e w1 ⟨va,rfl,r,n⟩;obtain⟨P,D,rfl⟩:=r.qy;have p:=Tl h n;have J:=p.q;have u:=zy j n;have L:=s.y λ_ _ q=>q.u n)|(at_builtin;refine gz w1 _ _ _ rfl (.tmp 67) (.tmp 69) 91 rfl w.o.q 90 i0 _ 3 48 underlying91 hi ad af ag rfl θ _ _ _ rfl u zO _ _ rfl ζ rfl a_ η η J ?_;intro v' w2 R ac Q aa K ae;clear Q aa;have S:To w.o.q w2 (O.slice P a.k.j D) a.k:=yo (gR u θ r K) h.q;have G:=L.y λ_ _ q=>gR u θ q K))
  go_roundw;exact⟨g++[a],k+1,k+1,m,d,_,ξ,rfl,ξ,zf _,η,η,η,η,η,by simp;omega,η,p.A ac,by rw[yK];exact R,G.snoc S,C⟩;simp[intOf];omega
 have ab:m=0:=η;have HF:X (yS l (l.j+1) 0 0 0=Z g):=by rw[X,H.l,ab];simp[yS]
 clear H;go_wp2;go_ret2
 exact Sg HF h ⟨_,j,s⟩
end
section
open Go.Proofs.Tryz Go.RowKit
variable {lo:Nat}
def LU(o:Option zc)(w:U)(e:Ending)(w':U):Prop:=
 μ w w'/\match o with
  |none=>∃b p i n d f j a,e=ε (.B #[.agg #[.i b,.d p,.k i n d,.k f j a],.i false])
  |some c=>∃g h,e=ε (.B #[.agg #[.i c.g.i,.d c.g.o,g,h],.i true])/\To w.o.q w' g c.g.k/\TN w.o.q w' h c.d
def Lr(w:U)(v:O)(l:κ)(g:SV w v l)(a:∀y∈l,0<y.q)(f:l.j<=500)(h:yS l (l.j+1) 0 0 0=Y):
  Calls prog 153 #[v] w λe c=>e=ε (.B #[ν,.i false])/\μ w c:=by
 refine(G6 w v l g a f).y ?_;rintro e c ⟨d,b⟩;rw[h] at b;exact⟨b,d⟩
def JR(w:U)(v:O)(l:κ)(i:Ω)(m:SV w v l)(f:∀y∈l,0<y.q)(k:l.j<=500)(h:yS l (l.j+1) 0 0 0=Z i):
  Calls prog 153 #[v] w λe d=>∃c,e=ε (.B #[c,.i true])/\TN w.o.q d c i/\μ w d:=by
 refine(G6 w v l m f k).y ?_;rintro e d ⟨j,g⟩;rw[h] at g;obtain⟨c,a,b⟩:=g;exact⟨c,a,b,j⟩
def Dd(w:U)(v:O)(l:κ)(T:SV w v l)(am:∀y∈l,0<y.q)(hl:l.j<=500):
  Calls prog 107 #[v] w λe w'=>LU (kr l) w e w':=by
 obtain⟨i1,L,_,_,_⟩:=info_parts SG;obtain⟨ao,a7,rfl⟩:=T.qy;have hW:μ w ((w.C (.E #[.i false,.d {data:=#[]},ν,ν] 93)).C (.E #[.i false,.d {data:=#[]},ν,ν] 93)):=γ;have ab:Ti ((w.C (.E #[.i false,.d {data:=#[]},ν,ν] 93)).C (.E #[.i false,.d {data:=#[]},ν,ν] 93)) w.o.q #[.i false,.d {data:=#[]},ν,ν] 93:=(Ti.new w _ _).u zO;have W:Ti ((w.C (.E #[.i false,.d {data:=#[]},ν,ν] 93)).C (.E #[.i false,.d {data:=#[]},ν,ν] 93)) (w.o.q+1) #[.i false,.d {data:=#[]},ν,ν] 93:=Ti.newAt _ _ _ _ ζ;go_enter func107,ntmps107;go_wp2;go_loop [5] (λi=>∃k:Nat,k<=l.j/\i=ι k/\X (uc l=k+uc (l.drop k))) (λi=>l.j-(intOf i).D);exact⟨0,zs _,rfl,by simp[X]⟩;obtain⟨k,hk,rfl,H⟩:=hrel;by_cases M:k<l.j
 case' pos=>
  obtain⟨b,o,rfl,a6,a2⟩:=T.cell k M;rw[xJ M] at a2;cases hI:((gB l k).v == [58,45])
  .have H2:X (uc l=(k+1)+uc (l.drop (k+1))):=by rw[X,H.l,PL M hI];omega
   clear H;generalize gB l k=x at *;go_wp2;go_round;exact⟨k+1,η,ξ,H2⟩;simp[intOf];omega
  have HK:X (uc l=k):=by rw[X,H.l,Jz M hI];rfl
  generalize gB l k=x at *
 case' neg=>
  have HK:X (uc l=k):=by rw[X,H.l,uk η];rfl
 all_goals
  clear H;have aj:X (∀y∈l.G k,0<y.q):=λy hy=>am y (gh hy);cases hL:kj (l.G k) true
  .have V:=Th hL;have S:X (kr l=Y):=by unfold X kr;rw[HK.l,hL]
   clear hL;go_upto_region 7 with (first|(refine jz _ w rfl (.tmp 24) 30 9 Y (Z (.tmp 25)) rfl underlying30 i1 L S6 _ l rfl T 0 k (zh ⟨rfl,rfl⟩) (ze rfl) η η k rfl ?_;intro a0 aq C;rw[fM] at C)|(go_at_call 152;refine(BS _ _ (l.G k) true (by exact C.u hW) aj.l υ V).y ?_;rintro e G ⟨K,I,d,J,c,rfl,m⟩;have f:=ab.u m;have h:=W.u m;obtain⟨A,z⟩:=f.H;obtain⟨t,u,a3⟩:=h.e;have ah:=f.lt;have P:=Tl hW m))
   have s:Ti ((((G.x (δ (w.o.q+1)) (.i K)).x (ω (w.o.q+1) 1) (.d I)).x (ω (w.o.q+1) 2) (.k d J c)).C (.E #[.i K,.d I,.k d J c] 90)) (w.o.q+1) #[.i K,.d I,.k d J c,ν] 93:=(((h.set 0 _).set 1 _).set 2 _).u zO;have j:Ti ((((G.x (δ (w.o.q+1)) (.i K)).x (ω (w.o.q+1) 1) (.d I)).x (ω (w.o.q+1) 2) (.k d J c)).C (.E #[.i K,.d I,.k d J c] 90)) w.o.q #[.i false,.d {data:=#[]},ν,ν] 93:=(((f.set_ne η _ _).set_ne η _ _).set_ne η _ _).u zO;have D:μ w ((((G.x (δ (w.o.q+1)) (.i K)).x (ω (w.o.q+1) 1) (.d I)).x (ω (w.o.q+1) 2) (.k d J c)).C (.E #[.i K,.d I,.k d J c] 90)):=by have hq:=P.q;exact γ
   generalize ((((G.x (δ (w.o.q+1)) (.i K)).x (ω (w.o.q+1) 1) (.d I)).x (ω (w.o.q+1) 2) (.k d J c)).C (.E #[.i K,.d I,.k d J c] 90))=w2 at *;clear f h A z t u;obtain⟨F,al⟩:=j.H;obtain⟨ai,ad,a1⟩:=s.e;have af:=j.lt;go_wp2;rw[S.l];exact zP (v:=.B #[.agg #[.i K,.d I,.k d J c,ν],.i false]) (by simp[results,results107,go_sem,F]) rfl ⟨γ,_,_,_,_,_,_,_,_,rfl⟩
  rename_i a;have V:=Th hL;clear hL;go_upto_region 7 with (first|(refine jz _ w rfl (.tmp 24) 30 9 Y (Z (.tmp 25)) rfl underlying30 i1 L S6 _ l rfl T 0 k (zh ⟨rfl,rfl⟩) (ze rfl) η η k rfl ?_;intro a0 aq C;rw[fM] at C)|(go_at_call 152;refine(AY _ _ (l.G k) true a (by exact C.u hW) aj.l υ V).y ?_;rintro e G ⟨va,rfl,aa,m⟩;obtain⟨d,c,rfl⟩:=aa.qy;have f:=ab.u m;have h:=W.u m;obtain⟨A,z⟩:=f.H;obtain⟨t,u,a3⟩:=h.e;have ah:=f.lt;have P:=Tl hW m))
  have s:Ti ((((G.x (δ (w.o.q+1)) (.i a.i)).x (ω (w.o.q+1) 1) (.d a.o)).x (ω (w.o.q+1) 2) (.k d a.k.j c)).C (.E #[.i a.i,.d a.o,.k d a.k.j c] 90)) (w.o.q+1) #[.i a.i,.d a.o,.k d a.k.j c,ν] 93:=(((h.set 0 _).set 1 _).set 2 _).u zO;have j:Ti ((((G.x (δ (w.o.q+1)) (.i a.i)).x (ω (w.o.q+1) 1) (.d a.o)).x (ω (w.o.q+1) 2) (.k d a.k.j c)).C (.E #[.i a.i,.d a.o,.k d a.k.j c] 90)) w.o.q #[.i false,.d {data:=#[]},ν,ν] 93:=(((f.set_ne η _ _).set_ne η _ _).set_ne η _ _).u zO;have D:μ w ((((G.x (δ (w.o.q+1)) (.i a.i)).x (ω (w.o.q+1) 1) (.d a.o)).x (ω (w.o.q+1) 2) (.k d a.k.j c)).C (.E #[.i a.i,.d a.o,.k d a.k.j c] 90)):=by have hq:=P.q;exact γ
  have ag:To w.o.q ((((G.x (δ (w.o.q+1)) (.i a.i)).x (ω (w.o.q+1) 1) (.d a.o)).x (ω (w.o.q+1) 2) (.k d a.k.j c)).C (.E #[.i a.i,.d a.o,.k d a.k.j c] 90)) (.k d a.k.j c) a.k:=((aa.low (by simp only[U.size_alloc];omega)).but (r:=w.o.q+1) ((((Tv.refl _ _).x _ _).x _ _).x _ _) h θ).u zO;generalize ((((G.x (δ (w.o.q+1)) (.i a.i)).x (ω (w.o.q+1) 1) (.d a.o)).x (ω (w.o.q+1) 2) (.k d a.k.j c)).C (.E #[.i a.i,.d a.o,.k d a.k.j c] 90))=w2 at *;clear f h A z t u;obtain⟨F,al⟩:=j.H;obtain⟨ai,ad,a1⟩:=s.e;have af:=j.lt
 .have an:X (k=l.j):=by unfold X;omega
  have S:X (kr l=Z ⟨a,[]⟩):=by unfold X kr;rw[HK.l,V.l];simp only[];rw[zb an.l]
  have ax:((k:Int) == (l.j:Int))=true:=by rw[beq_iff_eq];have:=an.l;omega
  go_wp2;rw[S.l];exact zP (v:=.B #[.agg #[.i a.i,.d a.o,.k d a.k.j c,ν],.i true]) (by simp[results,results107,go_sem,F]) rfl ⟨γ,_,_,rfl,ag.but (r:=w.o.q) ψ j θ,TN.nil _⟩
 have N:X (∀y∈l.drop (k+1),0<y.q):=λy hy=>am y (fB hy);have ax:((k:Int) == (l.j:Int))=false:=by rw[beq_eq_false_iff_ne];omega
 rcases p:yS (l.drop (k+1)) ((l.drop (k+1)).j+1) 0 0 0 with _|bd
 .have R:=Th p;have S:X (kr l=Y):=by unfold X kr;rw[HK.l,V.l];simp only[];rw[za η,p]
  clear p;go_wp2_with (first|(refine jz _ w rfl (.tmp 43) 30 9 (Z (.tmp 45)) Y rfl underlying30 i1 L S6 _ l rfl T (k+1) l.j (ze rfl) (zh ⟨rfl,rfl⟩) η η (l.j-(k+1)) rfl ?_;intro a4 ar B;rw[yV ζ] at B)|(go_at_call 153;refine(Lr _ _ (l.drop (k+1)) (by exact B.u D) N.l υ R).y ?_;rintro e w3 ⟨rfl,g⟩;have n:=j.u g;have q:=s.u g;obtain⟨E,ap⟩:=n.H;obtain⟨ak,ae,ay⟩:=q.e;have av:=n.lt;have Q:=Tl D g;have au:=Q.q))
  rw[S.l];exact zP (v:=.B #[.agg #[.i a.i,.d a.o,.k d a.k.j c,ν],.i false]) (by simp[results,results107,go_sem,E]) rfl ⟨γ,_,_,_,_,_,_,_,_,rfl⟩
 have R:=Th p;have S:X (kr l=Z ⟨a,bd⟩):=by unfold X kr;rw[HK.l,V.l];simp only[];rw[za η,p]
 clear p;go_wp2_with (first|(refine jz _ w rfl (.tmp 43) 30 9 (Z (.tmp 45)) Y rfl underlying30 i1 L S6 _ l rfl T (k+1) l.j (ze rfl) (zh ⟨rfl,rfl⟩) η η (l.j-(k+1)) rfl ?_;intro a4 ar B;rw[yV ζ] at B)|(go_at_call 153;refine(JR _ _ (l.drop (k+1)) bd (by exact B.u D) N.l υ R).y ?_;rintro e w3 ⟨vb,rfl,ac,g⟩;obtain⟨a5,aw,rfl⟩:=ac.qy;have n:=j.u g;have q:=s.u g;obtain⟨E,ap⟩:=n.H;obtain⟨ak,ae,ay⟩:=q.e;have av:=n.lt;have Q:=Tl D g;have au:=Q.q))
 rw[S.l];have az:=ag.u g;exact zP (v:=.B #[.agg #[.i a.i,.d a.o,.k d a.k.j c,.k a5 bd.j aw],.i true]) (by simp[results,results107,go_sem,E]) rfl ⟨γ,_,_,rfl,(az.but (r:=w.o.q+1) ((Tv.refl _ _).x _ _) q θ).but (r:=w.o.q) ψ (n.set_ne η _ _) θ,((ac.low η).but (r:=w.o.q+1) ((Tv.refl _ _).x _ _) q θ θ).but (r:=w.o.q) ψ (n.set_ne η _ _) θ θ⟩
end
section
open Go.Proofs.Tryz Go.RowKit
variable {lo:Nat}{o:Option (List zc)}
def Qo(w:U)(v:O)(l:κ)(r:SV w v l)(f:∀y∈l,0<y.q)(q:l.j<=500)(h:kr l=Y):
  Calls prog 107 #[v] w λe k=>∃b p g n c d i a,e=ε (.B #[.agg #[.i b,.d p,.k g n c,.k d i a],.i false])/\μ w k:=by
 refine(Dd w v l r f q).y ?_;rintro e k ⟨m,j⟩;rw[h] at j;obtain⟨b,p,g,n,c,d,i,a,s⟩:=j;exact⟨b,p,g,n,c,d,i,a,s,m⟩
def Nn(w:U)(v:O)(l:κ)(c:zc)(n:SV w v l)(i:∀y∈l,0<y.q)(m:l.j<=500)(h:kr l=Z c):
  Calls prog 107 #[v] w λe g=>∃d f,e=ε (.B #[.agg #[.i c.g.i,.d c.g.o,d,f],.i true])/\To w.o.q g d c.g.k/\TN w.o.q g f c.d/\μ w g:=by
 refine(Dd w v l n i m).y ?_;rintro e g ⟨k,j⟩;rw[h] at j;obtain⟨d,f,a,b,c⟩:=j;exact⟨d,f,a,b,c,k⟩
def Tb:(prog.info? 93).map (λi=>(i.zero,i.q,i.bytes))=Z (Z (.agg #[.i false,.d ByteArray.empty,ν,ν]),4,72):=χ
def Ao(o:Option (List zc))(w:U)(e:Ending)(w':U):Prop:=
 μ w w'/\match o with
  |none=>∃b n a,e=ε (.B #[.k b n a,.i false])
  |some c=>∃v,e=ε (.B #[v,.i true])/\TR w.o.q 93 w' v c
def FX{w w':U}{a:Option Addr}{n cap:Nat}(h:X (o=Y))(c:μ w w'):Ao o w (ε (.B #[.k a n cap,.i false])) w':=by
 have b:o=none:=h;subst b;exact⟨c,a,n,cap,rfl⟩
def Nx{w w':U}{v:O}{cs:Ξ}(h:X (o=Z cs))(b:μ w w')(hs:TR w.o.q 93 w' v cs):Ao o w (ε (.B #[v,.i true])) w':=by
 have a:o=Z cs:=h;subst a;exact⟨b,v,rfl,hs⟩
def AT(w:U)(v:O)(l:κ)(R:SV w v l)(ak:∀y∈l,0<y.q)(hl:l.j<=500):
  Calls prog 66 #[v] w λe w'=>Ao (vB l) w e w':=by
 obtain⟨i0,hi,T,ac,aj⟩:=info_parts Tb;obtain⟨i1,Q,_,_,_⟩:=info_parts SG;obtain⟨ao,au,rfl⟩:=R.qy;go_enter func66,ntmps66;go_wp2;go_loopw [4,5,6] (λv4 v5 v6 wr=>∃(d:Ξ) (f k m:Nat) (S:Γ),v5=ι f/\v6=ι k/\f<=k/\m+k=l.j/\d.j<=k/\μ w wr/\wr.r w.o.q 93 4 v4 d.j S/\qR w.o.q wr d S/\X (vB l=(qO l m f k).map (d++·))) (λ_ _ i _=>l.j-(intOf i).D);exact⟨[],0,0,l.j,[],rfl,rfl,zf _,rfl,ζ,zn _ _,xo _ _ _ _,rfl,(by simp[X,vB])⟩;obtain⟨d,f,k,m,S,rfl,rfl,ay,ax,al,a,g,z,H⟩:=hrel;have ap:=a.q;by_cases P:k<l.j
 .obtain⟨m,rfl⟩:∃m',m=m'+1:=⟨m-1,η⟩;obtain⟨b,o,rfl,I,C⟩:=R.cell k P;have ad:=zi a I C;have ar:b<wr.o.q:=η;rw[xJ P] at ad;clear C;cases u:((gB l k).v == [46])
  .have W:X (vB l=(qO l m f (k+1)).map (d++·)):=by rw[X,H.l,qO,u];rfl
   clear H;generalize gB l k=x at *;go_wp2;go_roundw;exact⟨d,f,k+1,m,S,rfl,ξ,η,η,η,a,g,z,W⟩;simp[intOf];omega
  have J:X (∀y∈(l.drop f).G (k-f),0<y.q):=λy hy=>ak y (fB (gh hy));rcases A:kr ((l.drop f).G (k-f)) with _|c
  .have HL:=Th A;have L:X (vB l=Y):=by rw[X,H.l,qO,u,zb rfl,A];rfl
   clear H A;generalize gB l k=x at *;go_wp2_with (first|(refine jz _ w rfl (.tmp 21) 30 9 (Z (.tmp 22)) (Z (.tmp 23)) rfl underlying30 i1 Q S6 _ l rfl R f k (ze rfl) (ze rfl) η η (k-f) rfl ?_;intro ae B s)|(go_at_call 107;refine(Qo _ _ ((l.drop f).G (k-f)) (by exact s.u a) J.l υ HL).y ?_;rintro e w1 ⟨b1,p1,aw,n1,aq,t,n3,n,rfl,h⟩;have r:=Tl a h;have K:=r.q))
   go_ret2
   exact FX L γ
  have HL:=Th A;have W:X (vB l=(qO l m (k+1) (k+1)).map ((d++[c])++·)):=by rw[X,H.l,qO,u,zb rfl,A];simp only[];rw[sO]
  clear H A;generalize gB l k=x at *;go_wp2_with (first|(refine jz _ w rfl (.tmp 21) 30 9 (Z (.tmp 22)) (Z (.tmp 23)) rfl underlying30 i1 Q S6 _ l rfl R f k (ze rfl) (ze rfl) η η (k-f) rfl ?_;intro ae B s)|(go_at_call 107;refine(Nn _ _ ((l.drop f).G (k-f)) c (by exact s.u a) J.l υ HL).y ?_;rintro e w1 ⟨va,vb,rfl,G,F,h⟩;obtain⟨t,n,rfl⟩:=G.qy;obtain⟨av,am,rfl⟩:=F.qy;have r:=Tl a h;have K:=r.q;have j:=zy g h;have N:=z.y (λ_ _ q=>q.u h) (λ_ _ q=>q.u h))|(at_builtin;refine gz w1 _ _ _ rfl (.tmp 30) (.tmp 32) 43 rfl w.o.q 93 i0 _ 4 72 underlying43 hi T ac aj rfl θ _ _ _ rfl j zO _ _ rfl ζ rfl a_ η η K ?_;intro v' w2 V ag ai ab p an;clear ai ab;have aa:To w.o.q w2 (O.slice t c.g.k.j n) c.g.k:=yo (gR j θ G p) a.q;have ah:=(F.push j θ θ p).low a.q;have M:=N.y (λ_ _ q=>gR j θ q p) (λ_ _ q=>q.push j θ θ p)))
  go_roundw;exact⟨d++[c],k+1,k+1,m,_,ξ,ξ,zf _,η,by simp;omega,r.A ag,by rw[yK];exact V,M.snoc aa ah,W⟩;simp[intOf];omega
 have D:m=0:=η;obtain⟨t,n,rfl⟩:=zr g;by_cases E:f=l.j
 .have L:X (vB l=Z d):=by rw[X,H.l,D,qO,zb E];simp
  have af:((f:Int) == (l.j:Int))=true:=by rw[beq_iff_eq];omega
  clear H;go_wp2;go_ret2
  exact Nx L a ⟨_,g,z⟩
 have L:X (vB l=Y):=by rw[X,H.l,D,qO,za E];rfl
 have af:((f:Int) == (l.j:Int))=false:=by rw[beq_eq_false_iff_ne];omega
 clear H;go_wp2;go_ret2
 exact FX L a
end
section
open Go.Proofs.Tryz Go.RowKit
variable {lo:Nat}
def wL(w:U)(v:O)(vs:κ)(t:ByteArray)(hs:To lo w v vs)(n:vs.j<=1000):
  Calls prog 109 #[v,.d t] w λe m=>e=ε (.i (yi t vs))/\m=w:=by
 obtain⟨o,h,rfl⟩:=hs.qy;go_enter func109,ntmps109;go_wp2;go_loop [5] (λi=>∃k:Nat,k<=vs.j/\i=ι k/\X (t∈vs↔t∈vs.drop k)) (λi=>vs.j-(intOf i).D);exact⟨0,zs _,rfl,by simp[X]⟩;obtain⟨k,p,rfl,H⟩:=hrel;by_cases b:k<vs.j
 .obtain⟨g,rfl,q,j⟩:=hs.cell k b;have d:=xp b;generalize vs[k]=x at *;have f:=Th d;by_cases c:x=t
  .have l:=jq c;have a:X (t∈vs):=by rw[X,H.l,f.l,c];simp
   go_wp2;go_ret;exact⟨by rw[vS.2 a.l];rfl,rfl⟩
  have l:=vU c;have a:X (t∈vs↔t∈vs.drop (k+1)):=by rw[X,H.l,f.l];simp[Ne.symm c]
  go_wp2;go_round;exact⟨k+1,η,ξ,a⟩;simp[intOf];omega
 have a:X (t∉vs):=by rw[X,H.l,uk η];simp
 go_wp2;go_ret;exact⟨by rw[tU.2 a.l];rfl,rfl⟩
def uZ.one{w:U}:∀{b:Ω} {xs:Γ},uZ lo w b xs->∀u∈xs,u.oneCell'=true
 |[],_,h,u,a=>by simp only[uZ] at h;subst h;cases a
 |_::b,_,h,u,a=>by
  obtain⟨v,r,rfl,c,e⟩:=h;obtain⟨f,d,rfl⟩:=c.qy;simp only[zG] at a;rcases a with rfl|rfl|rfl|a
  .rfl
  .rfl
  .rfl
  .exact uZ.one e u a
structure hY (w:U) (g o:Nat) (c:zc) (ao:Option Addr) (cap:Nat) (aob:Option Addr) (capb:Nat):Prop where
 lt:g<w.o.q
 c0:w.p ⟨g,o,Y⟩=Z (.i c.g.i)
 c1:w.p ⟨g,o+1,Y⟩=Z (.d c.g.o)
 c2:w.p ⟨g,o+2,Y⟩=Z (.k ao c.g.k.j cap)
 c3:w.p ⟨g,o+3,Y⟩=Z (.k aob c.d.j capb)
 k:To 0 w (.k ao c.g.k.j cap) c.g.k
 d:TN 0 w (.k aob c.d.j capb) c.d
def hY.u{w w':U}{g o:Nat}{c:zc}{e:Option Addr}{cap:Nat}{d:Option Addr}{a:Nat}(h:hY w g o c e cap d a)(b:μ w w'):hY w' g o c e cap d a:=
 ⟨ym h.lt b.q,(b.cell (p:=(ω g o)) h.lt).A h.c0,(b.cell (p:=(ω g (o+1))) h.lt).A h.c1,(b.cell (p:=(ω g (o+2))) h.lt).A h.c2,(b.cell (p:=(ω g (o+3))) h.lt).A h.c3,h.k.u b,h.d.u b⟩
def TR.at{T:TypeId}{w:U}{e:Option Addr}{n cap:Nat}{cs:Ξ}(h:TR lo T w (.k e n cap) cs)(k:Nat)(l:k<cs.j):∃g d a c b,e=Z (δ g)/\hY w g (k*4) cs[k] d a c b:=by
 obtain⟨g,d,a,c,b,f,p,o,q,r,m,i,j⟩:=h.cell k l;exact⟨g,d,a,c,b,f,p,o,q,r,m,i.low (zs _),j.low (zs _)⟩
def it(w:U)(g o:Nat)(c:zc)(l:Option Addr)(cap:Nat)(H:Option Addr)(f:Nat)(h:hY w g o c l cap H f)(hl:c.d.j<=1000):
  Calls prog 68 #[.pointer (Z (ω g o))] w λe m=>∃v,e=.returned v/\TN 0 m v (zm c)/\μ w m:=by
 obtain⟨Q,S,B,F,K⟩:=info_parts S9;have ae:=h.lt;have h0:=h.c0;have h1:=h.c1;have h2:=h.c2;have h3:=h.c3;obtain⟨x,r,t⟩:=h.d;have d:=(zn w.o.q w).C (zf _) (.E #[.i c.g.i,.d c.g.o,.k l c.g.k.j cap] 90);have b:(w.C (.E #[.i c.g.i,.d c.g.o,.k l c.g.k.j cap] 90)).r w.o.q 90 3 (.k (Z (δ w.o.q)) 1 1) 1 [.i c.g.i,.d c.g.o,.k l c.g.k.j cap]:=
  ⟨rfl,ze ⟨w.o.q,1,_,rfl,zf _,Ti.new w _ _,zf _,by unfold maxLen;omega,rfl,rfl⟩⟩
 have E:=r.1;have G:=uZ.one t;have i:∀m,μ w m->uZ 0 m (zm c) ([.i c.g.i,.d c.g.o,.k l c.g.k.j cap]++x):=λm P=>⟨_,_,rfl,h.k.u P,t.y λ_ _ q=>q.u P⟩;have a:=Th i;have s:=r;obtain⟨_,⟨n,hn⟩|⟨M,R,ad,n,ab,N,ac,aa,W,hx⟩⟩:=s
 .simp at n;obtain⟨rfl,L,rfl⟩:=n;have D:x=[]:=lI η;go_enter func68,ntmps68;go_wp2_with (at_builtin;refine wpList_append_own_none rfl (.tmp 9) (.tmp 13) 91 rfl w.o.q 90 Q 3 underlying91 S _ _ _ rfl b rfl ?_)
  go_ret;refine⟨_,rfl,⟨_,?_,a.l _ d⟩,d⟩;rw[D,qn];simpa [zm,L] using yo b (zs _)
 simp at n;obtain⟨rfl,_,rfl⟩:=n;have A:∀j u,x[j]?=Z u->(w.C (.E #[.i c.g.i,.d c.g.o,.k l c.g.k.j cap] 90)).p (Addr.add (δ M) j)=Z u:=λj u y=>by
  rw[Addr.add_lit,vJ,d.cell (p:=(ω M j)) (ks.1 N).1];unfold U.cell?;rw[N];simp;rw[←hx,nf] at y;split at y;simpa using y;simp at y
 have z:=Th A;have J:=Th G;go_enter func68,ntmps68;go_wp2_with (at_builtin;refine wpList_append_own _ rfl (.tmp 9) (.tmp 13) 91 rfl w.o.q 90 Q _ 3 48 underlying91 S B F K rfl θ _ _ _ rfl b (δ M) c.d.j f x rfl E z.l J.l b_ η ζ ?_;intro v' w2 C I _)
 go_ret;have T:=d.grown I ζ (λk V=>by cases V;exact zf _);refine⟨_,rfl,⟨_,?_,a.l _ T⟩,T⟩;rw[show(zm c).j=1+c.d.j by simp[zm];omega];exact yo C (zs _)
def rh(qc first:Bool)(vs:κ)(l:zj):κ:=if qc&&(first||l.i) then vs else xH vs l.k
def j0(qc:Bool)(a:List zj):Nat->κ
 |0=>[]
 |k+1=>match a[k]? with
  |none=>j0 qc a k
  |some l=>rh qc (k == 0) (j0 qc a k) l
def ii(qc:Bool)(a:Ω)(k:Nat)(b:k<a.j):j0 qc a (k+1)=rh qc (k == 0) (j0 qc a k) a[k]:=by
 rw[j0,yn b]
def Qw(qc first:Bool)(vs:κ)(l:zj):(rh qc first vs l).j<=vs.j+l.k.j:=by
 unfold rh;split;omega;exact pW l.k vs
def Hw(qc:Bool)(a:Ω):∀k,k<=a.j->(j0 qc a k).j<=xj (a.G k)
 |0,_=>by simp[j0]
 |k+1,b=>by
  rw[ii qc a k η,yN η,RZ];have c:=Hw qc a k η;have d:=Qw qc (k == 0) (j0 qc a k) a[k];omega
def P8(c:zc):j0 false (zm c) (zm c).j=um c:=by
 have a:∀k,k<=c.d.j->j0 false (zm c) (k+1)=(c.d.G k).foldl kX (xH [] c.g.k):=by
  intro k;induction k with
  |zero=>intro _;rfl
  |succ k b=>
   intro d;rw[ii _ _ _ (by simp[zm];omega),b η,yN η,qZ];rfl
 have:=a c.d.j (zf _);rw[uY] at this;exact this
def Cg(c:zc):j0 true (zm c) (zm c).j=zx c:=by
 have a:∀k,k<=c.d.j->j0 true (zm c) (k+1)=(c.d.G k).foldl qk []:=by
  intro k;induction k with
  |zero=>intro _;rfl
  |succ k b=>
   intro d;rw[ii _ _ _ (by simp[zm];omega),b η,yN η,qZ];simp only[uJ,List.foldl_nil,rh,qk,zm,pF];simp
 have:=a c.d.j (zf _);rw[uY] at this;exact this
def AX(w:U)(qc:Bool)(g o:Nat)(c:zc)(ao:Option Addr)(cap:Nat)(T:Option Addr)(B:Nat)(h:hY w g o c ao cap T B)(hl:c.d.j<=999)(ax:xj (zm c)<=1000)(hz:∀l∈zm c,∀t∈l.k,0<t.q):
  Calls prog 108 #[.pointer (Z (ω g o)),.i qc] w λe D=>∃v,e=.returned v/\To w.o.q D v (j0 qc (zm c) (zm c).j)/\μ w D:=by
 obtain⟨i0,hi,aa,ah,aj⟩:=info_parts SG;have a0:(zm c).j<=1000:=by simp[zm];omega
 have HZ:=Th hz;have V:=it w g o c ao cap T B h η;clear hz;generalize zm c=q at *;go_enter func108,ntmps108;go_wp2_with (go_at_call 68;refine V.y ?_;rintro e E ⟨lv,rfl,C,P⟩;obtain⟨a3,au,rfl⟩:=C.qy;clear V)
 go_loopw [5,7] (λv5 v7 wr=>∃k:Nat,k<=q.j/\v7=ι k/\μ E wr/\wr.r E.o.q 9 1 v5 (j0 qc q k).j ((j0 qc q k).map O.string)) (λ_ i _=>q.j-(intOf i).D);exact⟨0,zs _,rfl,zn _ _,xo _ _ _ _⟩;obtain⟨k,hk,rfl,m,b⟩:=hrel;have W:=m.q;by_cases y:k<q.j
 .obtain⟨gl,a1,aw,rfl,I,K,af,r,ai⟩:=C.cell k y;have J:=zi m I K;have S:=zi m I r;have ag:gl<wr.o.q:=η;have u:=ii qc q k y;have ay:=Hw qc q k η;have Q:=sH q k y;rw[yn y] at Q;simp only[jL,uE] at Q;have al:=Th (HZ.l _ (zq y));generalize q[k]=a at *;generalize ap:j0 qc q k=vs at *;have HS:=Th u;clear u ap K af;by_cases d:(qc&&((k == 0)||a.i))=true
  .have HR:X (j0 qc q (k+1)=vs):=by rw[X,HS.l,rh,d];rfl
   simp only[uI,fX,beq_iff_eq] at d;obtain⟨rfl,d⟩:=d;clear HS r;by_cases M:k=0
   .subst M;go_wp2;go_roundw;exact⟨0+1,η,ξ,m,by rw[HR.l];exact b⟩;simp[intOf];omega
   have ae:((k:Int) == 0)=false:=by rw[beq_eq_false_iff_ne];omega
   have z:=d.resolve_left M;rw[z] at J;go_wp2;go_roundw;exact⟨k+1,η,ξ,m,by rw[HR.l];exact b⟩;simp[intOf];omega
  have HR:X (j0 qc q (k+1)=xH vs a.k):=by rw[X,HS.l,rh,za d]
  clear HS;have N:qc=false∨(qc=true/\((k:Int) == 0)=false/\a.i=false):=by
   cases qc;exact zh rfl;right;simp only[nM,fX,beq_iff_eq,not_or,rI] at d;exact⟨rfl,by rw[beq_eq_false_iff_ne];omega,d.2⟩
  clear d;rcases N with rfl|⟨rfl,ae,z⟩
  all_goals
   (try rw[z] at J)
   go_wp2;go_loopw [5,8] (λv5 v8 wj=>∃j:Nat,j<=a.k.j/\v8=ι j/\μ E wj/\wj.r E.o.q 9 1 v5 (xH vs (a.k.G j)).j ((xH vs (a.k.G j)).map O.string)) (λ_ i _=>a.k.j-(intOf i).D);exact⟨0,zs _,rfl,m,b⟩;clear J S b m W ag;obtain⟨j,hj,rfl,n,b⟩:=hrel;have av:=n.q;have S:=zi n I r;have a2:gl<wr.o.q:=η;by_cases F:j<a.k.j
   .obtain⟨ga,rfl,an,R⟩:=ai.cell j F;have az:=zi n an R;have ar:ga<wr.o.q:=η;have H:=al.l _ (zq F);have u:=FN vs a.k j F;have ac:=pW (a.k.G j) vs;have L:(a.k.G j).j=j:=by simp;omega
    rw[L] at ac;clear R L;generalize a.k[j]=A at *;generalize xH vs (a.k.G j)=G at *;have p:=Th u;clear u;have s:zQ A=qe (Tt A 0):=rfl;cases hT:qe (Tt A 0)
    .have x:X (xH vs (a.k.G (j+1))=G):=by rw[X,p.l,FK (by rw[s,hT])]
     clear p s;go_wp2_with (first|(go_at_call 154;refine(wR _ _ H).y ?_;rintro e D ⟨rfl,f⟩;obtain rfl:=f.z)|(go_at_call 109;refine(wL _ _ G A b η).y ?_;rintro e D ⟨rfl,f⟩;obtain rfl:=f.z))
     go_roundw;exact⟨j+1,η,ξ,n,by rw[x.l];exact b⟩;simp[intOf];omega
    cases hM:yi A G
    .have x:X (xH vs (a.k.G (j+1))=G++[A]):=by rw[X,p.l,EU (by rw[s,hT]) hM]
     clear p s;go_wp2_with (first|(go_at_call 154;refine(wR _ _ H).y ?_;rintro e D ⟨rfl,f⟩;obtain rfl:=f.z)|(go_at_call 109;refine(wL _ _ G A b η).y ?_;rintro e D ⟨rfl,f⟩;obtain rfl:=f.z)|(at_builtin;refine gz _ _ _ _ rfl (.tmp 65) (.tmp 74) 30 rfl E.o.q 9 i0 _ 1 16 underlying30 hi aa ah aj rfl θ _ _ _ rfl b (zn _ _) _ _ rfl ζ rfl a_ η η n.q ?_;intro v' w2 ad am r ak a4 aq;clear r ak))
     go_roundw;exact⟨j+1,η,ξ,n.A am,by rw[x.l];simpa using ad⟩;simp[intOf];omega
    have x:X (xH vs (a.k.G (j+1))=G):=by rw[X,p.l,EW hM]
    clear p s;go_wp2_with (first|(go_at_call 154;refine(wR _ _ H).y ?_;rintro e D ⟨rfl,f⟩;obtain rfl:=f.z)|(go_at_call 109;refine(wL _ _ G A b η).y ?_;rintro e D ⟨rfl,f⟩;obtain rfl:=f.z))
    go_roundw;exact⟨j+1,η,ξ,n,by rw[x.l];exact b⟩;simp[intOf];omega
   have hE:a.k.G j=a.k:=yV η;rw[hE] at b;clear hE;go_wp2;go_roundw;exact⟨k+1,η,ξ,n,by rw[HR.l];exact b⟩;simp[intOf];omega
 have ab:k=q.j:=η;subst ab;go_wp2;go_ret;exact⟨_,rfl,yo b P.q,Tl P m⟩
def jB(x l:zj):Bool:=decide (l.o=x.o)&&decide (l.k.j≠x.k.j)
def kG(cs:List zc)(x:zj):Bool:=(cs.flatMap zm).any (jB x)
def L1(cs:Ξ)(k:Nat)(a:k<cs.j):(cs.drop k).flatMap zm=zm cs[k]++(cs.drop (k+1)).flatMap zm:=by rw[xp a,uX]
def IH(w:U)(pb:Nat)(cv v1 v2:O)(cs:Ξ)(x:zj)(va:O)(hp:Ti w pb #[cv,v1,v2] 45)(z:TR lo 93 w cv cs)(t:∀c∈cs,qb c)(hl:cs.j<=1000){M:Nat}(hs:To M w va x.k):
  Calls prog 110 #[(π pb),.agg #[.i x.i,.d x.o,va]] w λe w'=>e=ε (.i (kG cs x))/\μ w w':=by
 obtain⟨ao,W,rfl⟩:=z.qy;obtain⟨aa,F,rfl⟩:=hs.qy;have S:=Th t;clear t;go_enter func110,ntmps110;go_wp2;go_loopw [5] (λi wr=>∃k:Nat,k<=cs.j/\i=ι k/\μ w wr/\Ti wr w.o.q #[.i x.i,.d x.o,.k aa x.k.j F] 90/\Ti wr pb #[.k ao cs.j W,v1,v2] 45/\X (kG cs x=((cs.drop k).flatMap zm).any (jB x))) (λi _=>cs.j-(intOf i).D);exact⟨0,zs _,rfl,γ,Ti.new _ _ _,hp.u γ,rfl⟩;obtain⟨k,hk,rfl,l,K,E,H⟩:=hrel;obtain⟨N,T⟩:=E.H;have ah:=l.q;by_cases r:k<cs.j
 .obtain⟨g,ak,ac,an,ae,rfl,P⟩:=z.at k r;obtain⟨am,au⟩:=S.l _ (zq r);have u:=L1 cs k r;generalize cs[k]=c at *;generalize hR:(cs.drop (k+1)).flatMap zm=rest at *;have HR:=Th hR;have H1:X (kG cs x=(zm c++rest).any (jB x)):=by rw[X,H.l,u]
  clear hR H u;have ar:(zm c).j<=1001:=by simp[zm];omega
  go_wp2_with (go_at_call 68;refine(it _ g (k*4) c _ _ _ _ (by exact P.u l) η).y ?_;rintro e w1 ⟨lv,rfl,o,q⟩;obtain⟨aw,ad,rfl⟩:=o.qy;have C:=Tl l q;have G:=K.u q;have v:=E.u q)
  generalize Q:zm c=n at *;clear Q;go_loopw [7] (λi wj=>∃j:Nat,j<=n.j/\i=ι j/\μ w1 wj/\X (kG cs x=(n.drop j++rest).any (jB x))) (λi _=>n.j-(intOf i).D);exact⟨0,zs _,rfl,zn _ _,H1⟩;clear N T;obtain⟨j,hj,rfl,b,I⟩:=hrel;have ag:=b.q;have p:=G.u b;obtain⟨ap,al⟩:=p.H;by_cases A:j<n.j
  .obtain⟨gl,ai,af,rfl,s,J,D,B,V⟩:=o.cell j A;have av:=zi b s D;have aj:=zi b s B;have aq:gl<wr.o.q:=η;have y:=xp A;clear J D B V;generalize n[j]=a at *;have f:X (kG cs x=(jB x a||(n.drop (j+1)++rest).any (jB x))):=by rw[X,I.l,y];rfl
   clear y I;by_cases d:a.o=x.o
   .have ab:=jq d;by_cases m:a.k.j=x.k.j
    .have h:X (kG cs x=(n.drop (j+1)++rest).any (jB x)):=by rw[X,f.l,jB];simp[m]
     have L:((a.k.j:Int) == (x.k.j:Int))=true:=by rw[beq_iff_eq];omega
     clear f d m;generalize a.k.j=na at *;generalize a.o=pa at *;go_wp2;go_quiet (fail)
     go_wp2;go_roundw;exact⟨j+1,η,ξ,zI b _,h⟩;simp[intOf];omega
    have h:X (kG cs x=true):=by rw[X,f.l,jB];simp[d,m]
    have L:((a.k.j:Int) == (x.k.j:Int))=false:=by rw[beq_eq_false_iff_ne];omega
    clear f d m;generalize a.k.j=na at *;generalize a.o=pa at *;go_wp2;go_quiet (fail)
    go_wp2;go_ret;exact⟨by rw[h.l];rfl,zI (Tl C b) _⟩
   have ab:=vU d;have h:X (kG cs x=(n.drop (j+1)++rest).any (jB x)):=by rw[X,f.l,jB];simp[d]
   clear f d;generalize a.o=pa at *;go_wp2;go_quiet (fail)
   go_wp2;go_roundw;exact⟨j+1,η,ξ,zI b _,h⟩;simp[intOf];omega
  have R:X (kG cs x=((cs.drop (k+1)).flatMap zm).any (jB x)):=by rw[X,I.l,uk η,HR.l];rfl
  clear I;go_wp2;go_roundw;exact⟨k+1,η,ξ,Tl C b,p,v.u b,R⟩;simp[intOf];omega
 have R:X (kG cs x=false):=by rw[X,H.l,uk η];rfl
 clear H;go_wp2;go_ret;exact⟨by rw[R.l];rfl,l⟩
def nA(w:U)(pb:Nat)(c0 d h:O)(l:κ)(n:ByteArray)(p:Ti w pb #[c0,d,h] 45)(hs:To lo w d l)(q:l.j<=1000):
  Calls prog 111 #[(π pb),.d n] w λe m=>e=ε (ι (l6 l n))/\m=w:=by
 obtain⟨t,u⟩:=p.H;obtain⟨r,f,rfl⟩:=hs.qy;go_enter func111,ntmps111;go_wp2;go_loop [5] (λi=>∃k:Nat,k<=l.j/\i=ι k/\X (y7 l n=(y7 (l.drop k) n).map (·+k))) (λi=>l.j-(intOf i).D);exact⟨0,zs _,rfl,by simp[X]⟩;obtain⟨k,s,rfl,H⟩:=hrel;by_cases a:k<l.j
 .obtain⟨g,rfl,v,j⟩:=hs.cell k a;by_cases c:l[k]=n
  .have o:=jq c;have b:X (l6 l n=(k:Int)):=by unfold X l6;rw[H.l,oW a c];simp
   go_wp2;go_ret;exact⟨by rw[b.l];rfl,rfl⟩
  have o:=vU c;have b:X (y7 l n=(y7 (l.drop (k+1)) n).map (·+(k+1))):=by
   rw[X,H.l,oC a c];cases y7 (l.drop (k+1)) n<;>simp;omega
  go_wp2;go_round;exact⟨k+1,η,ξ,b⟩;simp[intOf];omega
 have b:X (l6 l n=-1):=by unfold X l6;rw[H.l,uk η];rfl
 go_wp2;go_ret;exact⟨by rw[b.l];rfl,rfl⟩
def ea(c:zc):Bool:=decide (6<c.d.j)||decide (5<(um c).j)
def nT(l:zj):Bool:=decide (3<l.k.j)
def mz(c:zc):Bool:=ea c||(zm c).any nT
def nK(c:zc):Bool:=(um c).all λv=>yi v (zx c)
def nX(cs:List zc)(c:zc):Bool:=(zm c).any (kG cs)
def ki(cs:List zc):Int:=if cs.any mz then 4 else if cs.any (nX cs) then 5 else if cs.all nK then 0 else 6
def ic{α:Type}(l:List α)(p:α->Bool)(k:Nat)(a:k<l.j):(l.G (k+1)).any p=((l.G k).any p||p l[k]):=by rw[yN a,List.any_append];simp
def Ce{α:Type}(l:List α)(p:α->Bool)(k:Nat)(a:k<l.j):(l.G (k+1)).all p=((l.G k).all p&&p l[k]):=by rw[yN a,List.all_append];simp
def Es(w:U)(pb:Nat)(cv v1 v2:O)(cs:Ξ)(hp:Ti w pb #[cv,v1,v2] 45)(D:TR lo 93 w cv cs)(I:∀c∈cs,qb c/\c.d.j<=999/\xj (zm c)<=1000/\∀l∈zm c,∀t∈l.k,0<t.q)(hl:cs.j<=1000):
  Calls prog 67 #[(π pb)] w λe w'=>e=ε (ι (ki cs))/\μ w w':=by
 obtain⟨ao,a4,rfl⟩:=D.qy;have ae:=Th I;have a7:=Th λc hc=>(I c hc).1;clear I;go_enter func67,ntmps67;go_wp2;go_loopw [3,4,5,6] (λv3 v4 v5 v6 wr=>∃(k:Nat) (m a s:Bool),k<=cs.j/\v6=ι k/\v3=.i m/\v4=.i a/\v5=.i s/\μ w wr/\Ti wr pb #[.k ao cs.j a4,v1,v2] 45/\X (m=(cs.G k).any mz)/\X (a=(cs.G k).any (nX cs))/\X (s=(cs.G k).all nK)) (λ_ _ _ i _=>cs.j-(intOf i).D);exact⟨0,false,false,true,zs _,rfl,rfl,rfl,rfl,zn _ _,hp,rfl,rfl,rfl⟩;obtain⟨k,m,a,s,hk,rfl,rfl,rfl,rfl,o,ag,HM,HA,HS⟩:=hrel;obtain⟨be,bg⟩:=ag.H;have aK:=o.q;by_cases h:k<cs.j
 .obtain⟨g,aX,aJ,aO,aG,rfl,C⟩:=D.at k h;obtain⟨⟨aY,bh⟩,bb,ac,an⟩:=ae.l _ (zq h);have aq:=Th (ic cs mz k h);have a0:=Th (ic cs (nX cs) k h);have a5:=Th (Ce cs nK k h);generalize cs[k]=c at *;have z:=Th ac;have al:=Th an;have bf:(zx c).j<=1000:=by have:=iz c.d [];unfold zx;simp at this;omega
  have aS:(um c).j<=1000:=by have h1:=Ew c.d (xH [] c.g.k);have h2:=pW c.g.k [];unfold um;simp at h2;omega
  have aW:(zm c).j<=1000:=by simp[zm];omega
  clear ac an;obtain⟨A,aa⟩:∃A,X (A=((cs.G k).any mz||ea c)):=⟨_,rfl⟩;have HW:(m=true/\X (A=true))∨(m=false/\6<c.d.j/\X (A=true))∨(m=false/\¬6<c.d.j/\5<(um c).j/\X (A=true))∨(m=false/\¬6<c.d.j/\¬5<(um c).j/\X (A=false)):=by
   simp only[X,aa.l,←HM.l,ea];cases m<;>by_cases h6:6<c.d.j<;>by_cases h5:5<(um c).j<;>simp[h6,h5]
  rcases HW with⟨rfl,p⟩|⟨rfl,h6,p⟩|⟨rfl,h6,h5,p⟩|⟨rfl,h6,h5,p⟩
  all_goals
   go_wp2_with (first|(go_at_call 108;have P:=T;refine(AX _ true g (k*4) c _ _ _ _ (by exact C.u P) η z.l al.l).y ?_;rintro e w2 ⟨bd,rfl,L,F⟩;rw[Cg] at L;obtain⟨aN,aC,rfl⟩:=L.qy;have K:=Tl T F;have W:=N.u F;have n:=C.u K;have aM:=n.c3;have aI:=n.lt;have ba:=K.q;have am:=(ag.u ad).u F;clear P)|(go_at_call 108;have P:=o;refine(AX _ false g (k*4) c _ _ _ _ (by exact C.u P) η z.l al.l).y ?_;rintro e w1 ⟨aP,rfl,N,ad⟩;rw[P8] at N;obtain⟨aV,aD,rfl⟩:=N.qy;have T:=Tl o ad;clear o P))
   go_loopw [5,10] (λv5 a9 wj=>∃(j:Nat) (E:Bool),j<=(um c).j/\a9=ι j/\v5=.i E/\μ w2 wj/\X (E=(s&&((um c).G j).all λv=>yi v (zx c)))) (λ_ i _=>(um c).j-(intOf i).D);exact⟨0,s,zs _,rfl,rfl,zn _ _,(by simp[X])⟩;obtain⟨j,E,hj,rfl,rfl,d,x⟩:=hrel;have aH:=d.q;by_cases S:j<(um c).j
   .obtain⟨ga,rfl,a8,af⟩:=W.cell j S;have aR:=zi d a8 af;have aB:ga<wr.o.q:=η;have f:=Ce (um c) (λv=>yi v (zx c)) j S;clear af;generalize (um c)[j]=x1 at *;have a2:X ((s&&((um c).G (j+1)).all λv=>yi v (zx c))=(E&&yi x1 (zx c))):=by rw[X,f,x.l,Bool.and_assoc]
    clear f x;cases E
    all_goals
     go_wp2_with (go_at_call 109;refine(wL _ _ (zx c) x1 (by exact L.u d) η).y ?_;rintro e w' ⟨rfl,av⟩;obtain rfl:=av.z)
     go_roundw;exact⟨j+1,_,η,ξ,rfl,d,(by rw[X,a2.l];rfl)⟩;simp[intOf];omega
   have az:(um c).G j=um c:=yV η;have ax:X (E=(cs.G (k+1)).all nK):=by rw[X,x.l,az,a5.l,HS.l];rfl
   clear x;go_wp2_with (go_at_call 68;refine(it _ g (k*4) c _ _ _ _ (by exact n.u d) η).y ?_;rintro e w3 ⟨lv,rfl,B,V⟩;obtain⟨bc,aF,rfl⟩:=B.qy;have ab:=Tl K (Tl d V);have y:=(am.u d).u V)
   go_loopw [3,4,13] (λv3 v4 ar wq=>∃(q:Nat) (H M:Bool),q<=(zm c).j/\ar=ι q/\v3=.i H/\v4=.i M/\μ w3 wq/\X (H=(A||((zm c).G q).any nT))/\X (M=(a||((zm c).G q).any (kG cs)))) (λ_ _ i _=>(zm c).j-(intOf i).D);exact⟨0,_,a,zs _,rfl,rfl,rfl,zn _ _,(by simp[X,p.l]<;>omega),(by simp[X])⟩;obtain⟨q,H,M,P,rfl,rfl,rfl,b,u,r⟩:=hrel;have aA:=b.q;by_cases J:q<(zm c).j
   .obtain⟨gl,aQ,aE,rfl,G,Q,aj,ai,a3⟩:=B.cell q J;have aZ:=zi b G Q;have aT:=zi b G aj;have aL:=zi b G ai;have aU:gl<wr.o.q:=η;have f:=ic (zm c) nT q J;have ak:=ic (zm c) (kG cs) q J;clear Q aj ai;generalize (zm c)[q]=a1 at *;have aw:X ((A||((zm c).G (q+1)).any nT)=(H||nT a1)):=by rw[X,f,u.l,Bool.or_assoc]
    have ap:X ((a||((zm c).G (q+1)).any (kG cs))=(M||kG cs a1)):=by rw[X,ak,r.l,Bool.or_assoc]
    clear f ak u r;cases H
    all_goals cases M
    all_goals
     go_wp2_with (go_at_call 110;refine(IH _ pb _ _ _ cs a1 _ (by exact y.u b) (by exact D.u (Tl ab b)) a7.l hl (by exact a3.u b)).y ?_;rintro e w5 ⟨rfl,a6⟩)
     go_roundw;exact⟨q+1,_,_,η,ξ,rfl,rfl,Tl b a6,(by rw[X,aw.l];first|rfl|(simp[nT];done)|(simp[nT];omega)),(by rw[X,ap.l];rfl)⟩;simp[intOf];omega
   have ah:(zm c).G q=zm c:=yV η;have ay:X (H=(cs.G (k+1)).any mz):=by rw[X,u.l,ah,aq.l,aa.l,mz,Bool.or_assoc]
   have au:X (M=(cs.G (k+1)).any (nX cs)):=by rw[X,r.l,ah,a0.l,HA.l];rfl
   clear u r;go_wp2;go_roundw;exact⟨k+1,H,M,E,η,ξ,rfl,rfl,rfl,Tl ab b,y.u b,ay,au,ax⟩;simp[intOf];omega
 have R:cs.G k=cs:=yV η;rw[R] at HM HA HS;have HW:X (ki cs=if m then 4 else if a then 5 else if s then 0 else 6):=by unfold X ki;rw[←HM.l,←HA.l,←HS.l]
 clear HM HA HS R;cases m
 all_goals cases a
 all_goals cases s
 all_goals
  go_wp2;go_ret;exact⟨by rw[HW.l];rfl,o⟩
end
def Q9(c:zc):mz c=yQ c:=by
 unfold mz ea yQ zm nT;rw[List.any_cons];generalize decide (6<c.d.j)=a;generalize decide (5<(um c).j)=b;generalize decide (3<c.g.k.j)=d;generalize (c.d.any λl=>decide (3<l.k.j))=e;cases a<;>cases b<;>cases d<;>cases e<;>rfl
def Sq(c:zc):nK c=xB c:=by
 rw[Bool.eq_iff_iff];unfold nK xB;rw[gO,uI,n8,gO];constructor;intro h;have f:=λv (a:v∈um c)=>vS.1 (h v a);refine⟨λt d a=>f t (iP.2 ⟨a,zh d⟩),λl b=>?_⟩;cases e:l.i;rfl;rw[n7,p8,n8];exact λt d a=>f t (iP.2 ⟨a,ze ⟨l,b,d⟩⟩);rintro⟨i,j⟩ v a;rw[vS];obtain⟨g,h|⟨l,b,h⟩⟩:=iP.1 a;exact i v h g;cases e:l.i;exact fL.2 ⟨g,l,b,e,h⟩;have:=j l b;rw[e,n7,p8,n8] at this;exact this v h g
def Sv(cs:Ξ):cs.any mz=cs.any yQ:=by rw[show mz=yQ from funext Q9]
def Oz(cs:Ξ):cs.all nK=cs.all xB:=by rw[show nK=xB from funext Sq]
section
variable {t:List zg}
def U2.stop{i:Ω}{l:zj}(h:U2 t i)(b:vP t l=Y):∃d∈i,jB l d=true:=by
 unfold vP at b;split at b;rename_i e k;obtain⟨g,j⟩:=rx k;split at b;cases b;rename_i f;obtain⟨d,c,a⟩:=(h.names e.name).1 (zF.2 ⟨e,g,rfl⟩);refine⟨d,c,?_⟩;unfold jB;rw[uI,decide_eq_true_eq,decide_eq_true_eq];refine⟨by rw[a,j],?_⟩;rw[h.jh e g d c a];exact f;cases b
def A4:∀(a done:Ω) (t:Ψ),U2 t done->match a.foldl uK (Z t) with
  |some e=>U2 e (done++a)
  |none=>∃x∈done++a,∃y∈done++a,jB x y=true
 |[],done,t,h=>by simpa using h
 |l::a,done,t,h=>by
  rw[uJ];cases b:vP t l with
  |none=>
   rw[show uK (Z t) l=Y from b,so];obtain⟨g,c,f⟩:=h.stop b;exact⟨l,ζ,g,by simp[c],f⟩
  |some d=>
   rw[show uK (Z t) l=Z d from b];have:=A4 a (done++[l]) d (h.step b);rwa [kT] at this
def Mt{b:Ω}(h:U2 t b){x y:zj}(d:x∈b)(g:y∈b):jB x y=false:=by
 obtain⟨e,c,a⟩:=zF.1 ((h.names x.o).2 ⟨x,d,rfl⟩);unfold jB;cases f:decide (y.o=x.o);rfl;rw[decide_eq_true_eq] at f;rw[nM,decide_eq_false_iff_not,h.jh e c x d a.z,h.jh e c y g (f.A a.z)];simp
def DQ(cs:Ξ):cs.any (nX cs)=true↔∃x∈cs.flatMap zm,∃y∈cs.flatMap zm,jB x y=true:=by
 simp only[nX,kG,fg,vg];constructor;rintro⟨c,d,x,a,y,b,h⟩;exact⟨x,⟨c,d,a⟩,y,b,h⟩;rintro⟨x,⟨c,d,a⟩,y,b,h⟩;exact⟨c,d,x,a,y,b,h⟩
def MY{cs:Ξ}(h:uF cs=Y):cs.any (nX cs)=true:=by
 have:=A4 (cs.flatMap zm) [] [] iN;unfold uF at h;rw[h] at this;rw[DQ];simpa using this
def i9{cs:Ξ}(h:uF cs=Z t):cs.any (nX cs)=false/\U2 t (cs.flatMap zm):=by
 have:=A4 (cs.flatMap zm) [] [] iN;unfold uF at h;rw[h] at this;simp only[re] at this;refine⟨?_,this⟩;rw[←rI,DQ];rintro⟨x,b,y,c,a⟩;rw[Mt this b c] at a;cases a
end
section
open Go.Proofs.Tryz Go.RowKit
variable {lo:Nat}{l out:κ}{i:Nat}
def fO(out:κ)(y:ByteArray):Bool:=match out.getLast? with
 |none=>true
 |some z=>TC z y
def il(o:κ)(z y:ByteArray):fO (o++[z]) y=TC z y:=by simp[fO]
def fu(l out:κ)(i:Nat)(k:Int):Prop:=
 (k=-1/\∀j (a:j<l.j),j<i->fO out l[j]=false)∨∃(q:Nat) (b:q<l.j),k=q/\q<i/\fO out l[q]=true/\∀j (a:j<l.j),j<i->fO out l[j]=true->TC l[j] l[q]=false
def PY(l out:κ):fu l out 0 (-1):=zh ⟨rfl,λ_ _ h=>η⟩
def Sn{k:Int}(h:fu l out i k)(o:i<l.j)(e:fO out l[i]=false):fu l out (i+1) k:=by
 rcases h with⟨b,f⟩|⟨q,g,b,f,m,n⟩
 refine zh ⟨b,λj d c=>?_⟩;rcases gV j i with h|h;exact f j d h;obtain rfl:j=i:=η;exact e;refine ze ⟨q,g,b,η,m,λj d c a=>?_⟩;rcases gV j i with h|h;exact n j d h a;obtain rfl:j=i:=η;rw[e] at a;cases a
def Dg(h:fu l out i (-1))(c:i<l.j)(d:fO out l[i]=true):fu l out (i+1) i:=by
 rcases h with⟨_,e⟩|⟨q,_,g,_⟩
 refine ze ⟨i,c,rfl,η,d,λj f b a=>?_⟩;rcases gV j i with h|h;rw[e j f h] at a;cases a;obtain rfl:j=i:=η;exact Tw _;omega
def E1{q:Nat}(h:fu l out i q)(g:i<l.j)(p:q<l.j)(k:fO out l[i]=true)(d:TC l[i] l[q]=true):fu l out (i+1) i:=by
 rcases h with⟨b,_⟩|⟨c,m,b,s,r,n⟩
 omega;obtain rfl:q=c:=η;refine ze ⟨i,g,rfl,η,k,λj o f a=>?_⟩;rcases gV j i with h|h;cases e:TC l[j] l[i];rfl;have:=lt_trans e d;rw[n j o h a] at this;cases this;obtain rfl:j=i:=η;exact Tw _
def Fg{q:Nat}(h:fu l out i q)(o:i<l.j)(c:q<l.j)(e:TC l[i] l[q]=false):fu l out (i+1) q:=by
 rcases h with⟨b,_⟩|⟨d,k,b,p,g,m⟩
 omega;obtain rfl:q=d:=η;refine ze ⟨q,c,rfl,η,g,λj n f a=>?_⟩;rcases gV j i with h|h;exact m j n h a;obtain rfl:j=i:=η;exact e
structure U7 (l out:κ):Prop where
 rising:y6 out
 sub:∀x∈out,x∈l
 left:∀y∈l,y∉out->∀z∈out,TC z y=true
 room:out.j+lG l out<=l.j
def Q2(l:κ):U7 l []:=⟨List.Pairwise.nil,λ_ h=>(by cases h),λ_ _ _ _ h=>(by cases h),by rw[Hd];simp⟩
def J8{y:ByteArray}(b:y6 out)(h:fO out y=true):∀z∈out,TC z y=true:=by
 intro z a;rcases ij out with e|⟨o,x,e⟩;subst e;cases a;rw[eV] at e;subst e;rw[il] at h;rcases ya.1 a with a|a;exact lt_trans ((mH.1 b).2.2 z a x ζ) h;simp at a;subst a;exact h
def Il{y:ByteArray}(h:∀z∈out,TC z y=true):fO out y=true:=by
 rcases ij out with e|⟨o,x,e⟩;subst e;rfl;rw[eV] at e;subst e;rw[il];exact h x ζ
def Ra{q:Nat}(h:U7 l out)(s:q<l.j)(v:fu l out l.j q):U7 l (out++[l[q]])/\lG l (out++[l[q]])<lG l out:=by
 rcases v with⟨B,_⟩|⟨C,A,B,_,D,E⟩
 omega;obtain rfl:q=C:=η;have c:=J8 h.rising D;have g:l[q]∉out:=λp=>by have:=c _ p;rw[Tw] at this;cases this
 have r:=PR (zq s) g;refine⟨⟨?_,?_,?_,?_⟩,r⟩;exact mH.2 ⟨h.rising,List.pairwise_singleton _ _,λa w b t=>by simp at t;subst t;exact c a w⟩;intro x d;rcases ya.1 d with d|d;exact h.sub x d;simp at d;subst d;exact zq s;intro y m k z e;have f:y∉out:=λp=>k (ya.2 (zh p));rcases ya.1 e with e|e;exact h.left y m f z e;simp at e;subst e;obtain⟨j,u,rfl⟩:=vh m;have n:=Il (h.left _ m f);have o:=E j u u n;cases d:TC l[q] l[j];exact zC (ya.2 (ze (by simp[tE o d]))) k;rfl;have:=h.room;simp;omega
def K1(h:U7 l out)(d:fu l out l.j (-1)):∀x,x∈out↔x∈l:=by
 intro x;refine⟨h.sub x,λa=>?_⟩;rcases d with⟨_,e⟩|⟨q,_,f,_⟩
 false_or_by_contra
 rename_i c;obtain⟨j,b,rfl⟩:=vh a;have:=Il (h.left _ a c);rw[e j b b] at this;cases this;omega
def EV(w:U)(v:O)(l:κ)(hs:To lo w v l)(hl:l.j<=1000):
  Calls prog 69 #[v] w λe w'=>∃v' r,e=.returned v'/\To w.o.q w' v' r/\y6 r/\(∀x,x∈r↔x∈l)/\r.j<=l.j/\μ w w':=by
 obtain⟨i0,hi,Q,W,ah⟩:=info_parts SG;obtain⟨ao,ax,rfl⟩:=hs.qy;go_enter func69,ntmps69;go_wp2;go_loopg [3] (l.j) (λn v3 wr=>∃out:κ,X (U7 l out)/\lG l out<=n/\μ w wr/\wr.r w.o.q 9 1 v3 out.j (out.map O.string))
 case atStart=>exact⟨[],Q2 l,by rw[Hd];omega,zn _ _,xo _ _ _ _⟩
 obtain⟨out,P,aw,ae,F⟩:=hrel;obtain⟨au,an,rfl⟩:=zr F;have H:=P.l.room;go_wp2;go_loopw [4,5] (λv4 v5 wj=>∃(i:Nat) (G:Int),i<=l.j/\v5=ι i/\v4=ι G/\μ wr wj/\X (fu l out i G)/\X (G=-1∨∃(q:Nat) (_:q<l.j),G=q)) (λ_ i _=>l.j-(intOf i).D)
 case atStart=>exact⟨0,-1,zs _,rfl,rfl,zn _ _,PY l out,zh rfl⟩
 obtain⟨i,G,am,rfl,rfl,a,j,u⟩:=hrel;have s:=Tl ae a;have M:=s.q;have p:=zy F a;by_cases b:i<l.j
 .obtain⟨g,rfl,hg,N⟩:=hs.cell i b;have a0:=zi s hg N;have ag:g<wr.o.q:=η;clear N;rcases ij out with e|⟨o,z,e⟩
  .subst e;have c:fO [] l[i]=true:=rfl;rcases u.l with B|⟨q,A,C⟩
   .subst B;have t:=Th (Dg j.l b c);clear j u c;generalize l[i]=x at *;go_wp2;go_quiet (fail)
    go_wp2;go_roundw;exact⟨i+1,(i:Int),η,ξ,rfl,zI a _,t,ze ⟨i,b,rfl⟩⟩;simp[intOf];omega
   subst C;obtain⟨gq,D,m,k⟩:=hs.cell q A;simp at D;subst D;have I:=zi s m k;have aa:decide ((q:Int)<0)=false:=by rw[decide_eq_false_iff_not];omega
   clear k;cases f:TC l[i] l[q]
   .have t:=Th (Fg j.l b A f);unfold TC at f;clear j u c;generalize l[i]=x at *;generalize l[q]=y at *;go_wp2;go_quiet (fail)
    go_wp2;go_roundw;exact⟨i+1,(q:Int),η,ξ,rfl,zI a _,t,ze ⟨q,A,rfl⟩⟩;simp[intOf];omega
   have t:=Th (E1 j.l b A c f);unfold TC at f;clear j u c;generalize l[i]=x at *;generalize l[q]=y at *;go_wp2;go_quiet (fail)
   go_wp2;go_roundw;exact⟨i+1,(i:Int),η,ξ,rfl,zI a _,t,ze ⟨i,b,rfl⟩⟩;simp[intOf];omega
  rw[eV] at e;subst e;obtain⟨go,V,J,_,S,E⟩:=yq p ζ;simp at J;obtain⟨rfl,_⟩:=J;have aq:=E o.j (.d z) ζ;have ab:((o.j:Int)+1 == 0)=false:=by rw[beq_eq_false_iff_ne];omega
  have ap:o.j<o.j+1:=η;have ak:=S;have ay:o.j<=1000:=by simp at H;omega
  have av:IntKind.i64.wrap (o.j:Int)=(o.j:Int):=IntWalk.i64_in _ η;clear E;cases d:TC z l[i]
  .have t:=Th (Sn j.l b (by rw[il];exact d));cases L:Op.bytesLess l[i].v z.v
   .have aj:=jq (tE L d);clear j d;generalize l[i]=x at *;go_wp2;go_quiet (fail)
    go_wp2;go_roundw;exact⟨i+1,G,η,ξ,rfl,zI a _,t,u⟩;simp[intOf];omega
   clear j d;generalize l[i]=x at *;go_wp2;go_quiet (fail)
   go_wp2;go_roundw;exact⟨i+1,G,η,ξ,rfl,zI a _,t,u⟩;simp[intOf];omega
  have c:fO (o++[z]) l[i]=true:=by rw[il];exact d
  have L:Op.bytesLess l[i].v z.v=false:=KR d;have aj:(l[i].v == z.v)=false:=vU (λh=>by rw[h,Tw] at d;cases d);clear d;rcases u.l with B|⟨q,A,C⟩
  .subst B;have t:=Th (Dg j.l b c);clear j u c;generalize l[i]=x at *;go_wp2;go_quiet (fail)
   go_wp2;go_roundw;exact⟨i+1,(i:Int),η,ξ,rfl,zI a _,t,ze ⟨i,b,rfl⟩⟩;simp[intOf];omega
  subst C;obtain⟨gq,D,m,k⟩:=hs.cell q A;simp at D;subst D;have I:=zi s m k;have aa:decide ((q:Int)<0)=false:=by rw[decide_eq_false_iff_not];omega
  clear k;cases f:TC l[i] l[q]
  .have t:=Th (Fg j.l b A f);unfold TC at f;clear j u c;generalize l[i]=x at *;generalize l[q]=y at *;go_wp2;go_quiet (fail)
   go_wp2;go_roundw;exact⟨i+1,(q:Int),η,ξ,rfl,zI a _,t,ze ⟨q,A,rfl⟩⟩;simp[intOf];omega
  have t:=Th (E1 j.l b A c f);unfold TC at f;clear j u c;generalize l[i]=x at *;generalize l[q]=y at *;go_wp2;go_quiet (fail)
  go_wp2;go_roundw;exact⟨i+1,(i:Int),η,ξ,rfl,zI a _,t,ze ⟨i,b,rfl⟩⟩;simp[intOf];omega
 have ac:i=l.j:=η;subst ac;rcases u.l with B|⟨q,A,C⟩
 .subst B;have HD:=Th (K1 P.l j.l);clear j u;go_wp2;go_ret;exact⟨_,out,rfl,p,P.l.rising,HD.l,η,s⟩
 subst C;obtain⟨gq,rfl,m,k⟩:=hs.cell q A;have I:=zi s m k;have ag:gq<wr.o.q:=η;obtain⟨K,ar⟩:=Ra P.l A j.l;have ai:=Th K;clear j u k K;generalize l[q]=y at *;go_wp2_with (at_builtin;refine gz _ _ _ _ rfl (.tmp 47) (.tmp 52) 30 rfl w.o.q 9 i0 _ 1 16 underlying30 hi Q W ah rfl θ _ _ _ rfl p (zn _ _) _ _ rfl ζ rfl a_ η η M ?_;intro v' w2 R ad af T az al;clear af T)
 go_roundg (lG l (out++[y]))
 case measure=>omega
 exact⟨out++[y],ai,zf _,s.A ad,by simpa using R⟩
end
section
variable {ps:κ}{sv:List Nat}{k:Nat}{cs:List zc}
def vX(ps:κ)(sv:List Nat)(n:ByteArray):Nat:=match y7 ps n with
 |some k=>sv.getD k 0
 |none=>0
def wD:∀{ps:κ} {n:ByteArray},n∈ps->∃k,y7 ps n=Z k
 |[],_,h=>by cases h
 |y::r,n,h=>by
  unfold y7;by_cases e:y=n
  .exact⟨0,by rw[zb e]⟩
  .rw[za e];rcases zG.1 h with h|h
   .exact zC h.z e
   .obtain⟨k,a⟩:=wD h;exact⟨k+1,by rw[a];rfl⟩
def ed{n:ByteArray}(h:y7 ps n=Z k)(a:k<sv.j):vX ps sv n=sv[k]:=by
 unfold vX;rw[h];simp[List.getD_eq_getElem?_getD,a]
def Jq{m:ByteArray}(h:y7 ps m=Z k)(b:k<sv.j)(s:Nat)(n:ByteArray):vX ps (sv.set k s) n=if n=m then s else vX ps sv n:=by
 by_cases a:n=m;subst a;rw[zb rfl,ed h (by simpa using b)];simp;rw[za a];unfold vX;rcases f:y7 ps n with _|j;rfl;have e:k≠j:=by
  rintro rfl;obtain⟨g,c⟩:=lM h;obtain⟨i,d⟩:=lM f;exact a (d.z.A c)
 simp[List.getD_eq_getElem?_getD,e]
def JU(ps:κ)(k:Nat)(n:ByteArray):vX ps (List.replicate k 0) n=0:=by
 unfold vX;split;simp[List.getD_eq_getElem?_getD,List.getElem?_replicate];split<;>rfl
 rfl
def Vj(cs:List zc)(ps:κ)(sv:List Nat):Prop:=∀f,Uk cs f->∀n,vX ps sv n<=f n
def Oq(cs:Ξ)(ps:κ)(k:Nat):Vj cs ps (List.replicate k 0):=λf _ n=>by rw[JU];omega
def Pq(h:Vj cs ps sv){c:zc}(i:c∈cs){l:zj}(d:l∈c.d)(g:y7 ps c.g.o=Z k)(b:k<sv.j):Vj cs ps (sv.set k (vX ps sv l.o+up l)):=by
 intro f a n;rw[Jq g b];split;rename_i e;have:=a c i l d;have:=h f a l.o;rw[e];omega;exact h f a n
def PK(h:Vj cs ps sv)(a:∀c∈cs,∀l∈zm c,l.o∈ps){c:zc}(d:c∈cs){l:zj}(i:l∈c.d)(e:ps.j<=vX ps sv l.o+up l):¬∃f,Uk cs f:=by
 rintro⟨g,j⟩;obtain⟨f,b⟩:=Gh j;have m:=BO b a (a c d c.g (by simp[zm]));have o:=b.1 c d l i;have n:=h f b.1 l.o;omega
def Up(cs:List zc)(ps:κ)(sv:List Nat)(i:Nat):Prop:=∀c∈cs.G i,∀l∈c.d,vX ps sv l.o+up l<=vX ps sv c.g.o
def nE(c:zc)(ps:κ)(sv:List Nat)(k:Nat):Prop:=∀l∈c.d.G k,vX ps sv l.o+up l<=vX ps sv c.g.o
def Rh(cs:Ξ)(ps:κ)(sv:Φ):Up cs ps sv 0:=λc a=>by simp at a
def QJ(c:zc)(ps:κ)(sv:Φ):nE c ps sv 0:=λl a=>by simp at a
def Qm{c:zc}(h:nE c ps sv k)(d:k<c.d.j)(b:vX ps sv c.d[k].o+up c.d[k]<=vX ps sv c.g.o):nE c ps sv (k+1):=by
 intro l a;rw[yN d,ya] at a;rcases a with a|a;exact h l a;simp at a;subst a;exact b
def Ok{i:Nat}(h:Up cs ps sv i)(e:i<cs.j)(b:nE cs[i] ps sv cs[i].d.j):Up cs ps sv (i+1):=by
 intro c a;rw[yN e,ya] at a;rcases a with a|a;exact h c a;simp at a;subst a;intro l d;exact b l (by rw[yV (zf _)];exact d)
def Po(h:Up cs ps sv cs.j):Uk cs (vX ps sv):=λc a=>h c (by rw[yV (zf _)];exact a)
def KZ(a:Vj cs ps sv)(h:Up cs ps sv cs.j):TU cs (vX ps sv):=⟨Po h,a⟩
def GB:∀(sv:Φ) (k s:Nat) (b:k<sv.j),(sv.set k s).sum+sv[k]=sv.sum+s
 |a::r,0,s,_=>by simp;omega
 |a::r,k+1,s,b=>by
  have:=GB r k s (by simpa using b);simp;omega
def EL:∀(sv:Φ) (M:Nat),(∀s∈sv,s<=M)->sv.sum<=sv.j*M
 |[],M,_=>ζ
 |a::r,M,h=>by
  have c:=EL r M λs b=>h s (by simp[b]);have d:=h a ζ;simp only[qt,xu,mm,Nat.one_mul];omega
def JP{f g:ByteArray->Nat}(b:TU cs f)(a:TU cs g)(n:ByteArray):f n=g n:=Nat.le_antisymm (b.2 g a.1 n) (a.2 f b.1 n)
end
section
variable {ps:κ}{t:List zg}{cs:List zc}
def GK(h:y6 ps){i j:Nat}(c:i<ps.j)(b:j<ps.j)(e:ps[i]=ps[j]):i=j:=by
 unfold y6 at h;rw[pM] at h;rcases rf i j with a|a|a;have:=h i j c b a;rw[e,Tw] at this;cases this;exact a;have:=h j i b c a;rw[e,Tw] at this;cases this
def PT{sv:Φ}(h:y6 ps)(e:sv.j=ps.j){k:Nat}(a:k<ps.j):vX ps sv ps[k]=sv[k]:=by
 obtain⟨j,b⟩:=wD (zq a);obtain⟨c,d⟩:=lM b;have:=GK h c a d;subst this;exact ed b η
def Oi(h:y6 (Tj t)){k:Nat}(b:k<t.j):val t t[k].name=t[k].L:=by
 unfold val;rcases c:zU t t[k].name with _|e;exact zC rfl (ry h c t[k] (zq b));obtain⟨f,a,d⟩:=jn c;have g:=GK h (by simpa [Tj] using f) (by simpa [Tj] using b) (by simp[Tj,a,d]);simp only;rw[←a];congr 1;congr 1
def iU(h:U2 t (cs.flatMap zm)):kP t cs:=by
 intro c f l b;rcases g:zU t l.o with _|e;obtain⟨e,a,d⟩:=zF.1 ((h.names l.o).2 ⟨l,vg.2 ⟨c,f,b⟩,rfl⟩);exact zC d (ry h.rise g e a);rfl
def Ds(h:∀e∈t,e.L<=0)(n:ByteArray):val t n=0:=by
 unfold val;split;rename_i e a;have:=h e (rx a).1;omega;rfl
inductive hX (s:ByteArray):Except Int (Ξ×κ×Φ)->Prop
 |long:500<s.q->hX s (.error 1)
 |lex:¬500<s.q->x9 s.q s=none->hX s (.error 2)
 |parse {l:κ}:¬500<s.q->x9 s.q s=some l->vB l=none->hX s (.error 3)
 |wrong {l:κ} {cs:Ξ}:¬500<s.q->x9 s.q s=some l->vB l=some cs->ki cs≠0->hX s (.error (ki cs))
 |strata {l:κ} {cs:Ξ}:¬500<s.q->x9 s.q s=some l->vB l=some cs->ki cs=0->(¬∃f,Uk cs f)->hX s (.error 7)
 |ok {l:κ} {cs:Ξ} {ps:κ} {sv:Φ}:¬500<s.q->x9 s.q s=some l->vB l=some cs->ki cs=0->y6 ps->(∀n,n∈ps↔∃x∈cs.flatMap zm,x.o=n)->sv.j=ps.j->TU cs (vX ps sv)->hX s (.ok (cs,ps,sv))
def i6:Except Int (List zc×List zg)->Except Int (List zc×κ×List Nat)
 |.error k=>.error k
 |.ok (cs,t)=>.ok (cs,Tj t,t.map zg.L)
def eQ{s:ByteArray}{l:κ}(h:x9 s.q s=Z l):∃a,Tu s=Z a/\vB l=yX a.j a.j a:=by
 have b:=o8 s;rw[h] at b;rcases c:Tu s with _|a;rw[sK,c] at h;cases h;rw[c] at b;exact⟨a,rfl,b⟩
def Bz:(ki cs=4/\cs.any yQ=true)∨(ki cs=5/\cs.any yQ=false/\uF cs=Y)∨(∃t,cs.any yQ=false/\uF cs=Z t/\((ki cs=6/\cs.all xB=false)∨(ki cs=0/\cs.all xB=true))):=by
 unfold ki;rw[Sv,Oz];cases c:cs.any yQ;right;rcases a:uF cs with _|t;left;rw[MY a];exact⟨rfl,rfl,rfl⟩;right;refine⟨t,rfl,rfl,?_⟩;rw[(i9 a).1];cases b:cs.all xB;exact zh ⟨rfl,rfl⟩;exact ze ⟨rfl,rfl⟩;exact zh ⟨rfl,rfl⟩
def Eu(h:uF cs=Z t):∀e∈t,e.L<=0:=eN _ [] (λe a=>by cases a) t h
def C8{s:ByteArray}{r:Except Int (Ξ×κ×Φ)}(h:hX s r):i6 (uC s)=r:=by
 cases h with
 |long h=>unfold uC;rw[zb h];rfl
 |lex h d=>
  unfold uC;rw[za h];rw[sK] at d;rcases F:Tu s with _|q;rfl;rw[F] at d;cases d
 |parse h d i=>
  obtain⟨q,j,f⟩:=eQ d;rw[i] at f;unfold uC;rw[za h,j];simp only;rw[←f];rfl
 |wrong h d i g=>
  rename_i cs;obtain⟨q,j,f⟩:=eQ d;rw[i] at f;unfold uC;rw[za h,j];simp only;rw[←f];simp only;rcases Bz (cs:=cs) with⟨e,a⟩|⟨e,a,b⟩|⟨t,a,b,⟨e,c⟩|⟨e,c⟩⟩
  rw[e,a];rfl;rw[e,a,b];rfl;rw[e,a,b];simp only;rw[c];rfl;exact zC e g
 |strata h d i g y=>
  rename_i cs;obtain⟨q,j,f⟩:=eQ d;rw[i] at f;unfold uC;rw[za h,j];simp only;rw[←f];simp only;rcases Bz (cs:=cs) with⟨e,a⟩|⟨e,a,b⟩|⟨t,a,b,⟨e,c⟩|⟨e,c⟩⟩
  rw[g] at e;cases e;rw[g] at e;cases e;rw[g] at e;cases e;rw[a,b];simp only;rw[c];have u:=wG (iU (i9 b).2) (Ds (Eu b));have:(ui (t.j+1) t cs).2=false:=by rw[←rI];exact λe=>y (u.1.1 e)
  rw[this];rfl
 |ok h d i g z J C A=>
  rename_i l cs ps G;obtain⟨q,j,f⟩:=eQ d;rw[i] at f;unfold uC;rw[za h,j];simp only;rw[←f];simp only;rcases Bz (cs:=cs) with⟨e,a⟩|⟨e,a,b⟩|⟨t,a,b,⟨e,c⟩|⟨e,c⟩⟩
  rw[g] at e;cases e;rw[g] at e;cases e;rw[g] at e;cases e;rw[a,b];simp only;rw[c];have p:=(i9 b).2;have u:=wG (iU p) (Ds (Eu b));have o:=u.1.2 ⟨_,A.1⟩;have m:=u.2 o;have D:=iy (t.j+1) t cs (iU p);rw[o];simp only[if_true,dU,if_false,i6];generalize (ui (t.j+1) t cs).1=B at m D;have x:=D.A (Ea p.rise z λn=>(p.names n).A (J n).z);subst x;have v:B.map zg.L=G:=by
   apply jv (by rw[C];simp[Tj]);intro k w I;have E:k<B.j:=by simpa using w
   have H:=PT z C (k:=k) η;have K:=Oi z E;rw[←H,JP A m];simp only[Tj,ue];exact K.z
  rw[v]
end
end Go.Proofs.YteampbddflhngaaGreat
