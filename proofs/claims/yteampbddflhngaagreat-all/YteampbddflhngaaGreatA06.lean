import Derived.Deep.Cut
import Derived.Laws.AppendOwnNone
import Derived.Test.YteampbddflhngaaGreatA03
import Derived.Test.YteampbddflhngaaGreatA04
import Derived.Test.YteampbddflhngaaGreatA05
namespace Go.Proofs.YteampbddflhngaaGreat
open List renaming length→List.j,take→List.G,getD_eq_getElem?_getD→g_,replicate→i_
open _root_.Array renaming size→Array.q,toList→Array.v
open _root_.ByteArray renaming size→ByteArray.q,toList→ByteArray.v
open Go.RowKit.Below renaming size→Go.RowKit.Below.q,setCell→Go.RowKit.Below.x,trans→Go.RowKit.Below.A,alloc→Go.RowKit.Below.C
open Go.TypeInfo renaming size→Go.TypeInfo.q
open Go.RowKit.Hid renaming out→Go.RowKit.Hid.l
open Go.World renaming heap→Go.World.o,setCell→Go.World.x,cell?→Go.World.p,alloc→Go.World.C,ownsRow→Go.World.r
open Go.Value renaming slice→Go.Value.k,string→Go.Value.g,bool→Go.Value.i,cells→Go.Value.E,tuple→Go.Value.B
open Go.TypeDesc renaming slice→Go.TypeDesc.k,string→Go.TypeDesc.g,bool→Go.TypeDesc.i,tuple→Go.TypeDesc.B
open Go.Calls renaming mono→Go.Calls.y
open Eq renaming trans→Eq.A,symm→Eq.z
open Iff renaming trans→Iff.A,symm→Iff.z
open Go.Obj renaming cells→Go.Obj.E
open Int renaming toNat→Int.D
open Ne renaming symm→Ne.z
open Bool renaming or_assoc→h_
open Option renaming some→Z,none→Y
open Go.RowKit renaming Hid→X,intOf→d_
open Go renaming World→U,Value→O,Calls→c_
open Go.Proofs.Tryz renaming prog→e_
set_option linter.all false
set_option maxRecDepth 100000
set_option maxHeartbeats 40000000
section
open Go.Proofs.Tryz Go.RowKit
variable {lo:Nat}{o:Option (List zk)}
def GP(w:U)(v:O)(l:List Λ)(b:Bool)(k:SV w v l)(g:∀y∈l,0<y.q)(r:l.j<=500):
  c_ e_ 152 #[v,.i b] w λe u=>jV (kj l b) w e u:=by
 unfold kj;cases p:Vo l b;rw[za ζ];by_cases d:l.j=0;have:x9 false l=none:=by unfold x9;rw[zb d]
 rw[this];exact JZ w v l b k g r p d;cases f:xg (UC (gB l 0) 0);have:x9 false l=none:=by unfold x9;rw[za d,zb f]
 rw[this];exact MZ w v l b k g r p d f;by_cases h:l.j=1;have:x9 false l=Z ⟨false,gB l 0,[]⟩:=by unfold x9;rw[za d,f,za ζ,zb h]
 rw[this];exact PU w v l b k g r p d f h;by_cases a:l.j<4∨l.j%2=1∨((gB l 1).v == [40])=false∨((gB l (l.j-1)).v == [41])=false;have:x9 false l=none:=by unfold x9;rw[za d,f,za ζ,za h,zb a]
 rw[this];by_cases q:l.j<4;exact T8 w v l b k g r p d f h q;by_cases s:l.j%2=1;exact QM w v l b k g r p d f h q s;cases m:((gB l 1).v == [40]);exact S6 w v l b k g r p d f h q s m;cases n:((gB l (l.j-1)).v == [41]);exact IX w v l b k g r p d f h q s m n;rw[m,n] at a;simp at a;omega;simp only[not_or,wQ] at a;exact Oo w v l b k g r p d f h a.1 a.2.1 a.2.2.1 a.2.2.2;rw[zb rfl];simp only[Vo,uK,decide_eq_true_eq,tA] at p;obtain⟨⟨t,z⟩,rfl⟩:=p;rcases l with _|⟨x,l⟩;simp at t;have j:(x.v == [33])=true:=z;have c:∀y∈l,0<y.q:=λy A=>g y (pf _ A);have i:l.j<=500:=by simp at r;omega
 rw[nc];by_cases d:l.j=0;have:x9 true l=none:=by unfold x9;rw[zb d]
 rw[this];exact Nh w v x l k c j i d;cases f:xg (UC (gB l 0) 0);have:x9 true l=none:=by unfold x9;rw[za d,zb f]
 rw[this];exact MC w v x l k c j i d f;by_cases h:l.j=1;have:x9 true l=Z ⟨true,gB l 0,[]⟩:=by unfold x9;rw[za d,f,za ζ,zb h]
 rw[this];exact Lv w v x l k c j i d f h;by_cases a:l.j<4∨l.j%2=1∨((gB l 1).v == [40])=false∨((gB l (l.j-1)).v == [41])=false;have:x9 true l=none:=by unfold x9;rw[za d,f,za ζ,za h,zb a]
 rw[this];by_cases q:l.j<4;exact NN w v x l k c j i d f h q;by_cases s:l.j%2=1;exact RJ w v x l k c j i d f h q s;cases m:((gB l 1).v == [40]);exact Rh w v x l k c j i d f h q s m;cases n:((gB l (l.j-1)).v == [41]);exact S3 w v x l k c j i d f h q s m n;rw[m,n] at a;simp at a;omega;simp only[not_or,wQ] at a;exact JO w v x l k c j i d f h a.1 a.2.1 a.2.2.1 a.2.2.2
def Bw(w:U)(v:O)(l:List Λ)(a:Bool)(q:SV w v l)(d:∀y∈l,0<y.q)(m:l.j<=500)(h:kj l a=Y):
  c_ e_ 152 #[v,.i a] w λe i=>∃b p f n c,e=ε (.B #[.agg #[.i b,.g p,.slice f n c],.i false])/\μ w i:=by
 refine(GP w v l a q d m).y ?_;rintro e i ⟨j,g⟩;rw[h] at g;obtain⟨b,p,f,n,c,k⟩:=g;exact⟨b,p,f,n,c,k,j⟩
def oG(w:U)(v:O)(l:List Λ)(b:Bool)(a:zk)(m:SV w v l)(d:∀y∈l,0<y.q)(n:l.j<=500)(h:kj l b=Z a):
  c_ e_ 152 #[v,.i b] w λe f=>∃c,e=ε (.B #[.agg #[.i a.i,.g a.o,c],.i true])/\U7 w.o.q f c a.k/\μ w f:=by
 refine(GP w v l b m d n).y ?_;rintro e f ⟨i,g⟩;rw[h] at g;obtain⟨c,j,k⟩:=g;exact⟨c,j,k,i⟩
def Bo(o:Option (List zk))(w:U)(e:Ending)(w':U):Prop:=
 μ w w'/\match o with
  |none=>e=ε (.B #[ν,.i false])
  |some a=>∃v,e=ε (.B #[v,.i true])/\Vd w.o.q w' v a
def Gp{w w':U}(h:X (o=Y))(b:μ w w'):Bo o w (ε (.B #[ν,.i false])) w':=by
 have a:o=none:=h;subst a;exact⟨b,rfl⟩
def O3{w w':U}{v:O}{ls:Ω}(h:X (o=Z ls))(b:μ w w')(hs:Vd w.o.q w' v ls):Bo o w (ε (.B #[v,.i true])) w':=by
 have a:o=Z ls:=h;subst a;exact⟨b,v,rfl,hs⟩
def GY(w:U)(v:O)(l:List Λ)(hv:SV w v l)(af:∀y∈l,0<y.q)(hl:l.j<=500):
  c_ e_ 153 #[v] w λe w'=>Bo (yU l (l.j+1) 0 0 0) w e w':=by
 obtain⟨i0,hi,ah,ae,aj⟩:=info_parts Uo;obtain⟨i1,M,_,_,_⟩:=info_parts Uw;obtain⟨ao,a0,rfl⟩:=hv.qm;go_enter func153,ntmps153;go_wp2;go_loopw [4,5,6,7] (λv4 v5 v6 v7 wr=>∃(g:Ω) (f k m:Nat) (d:Int) (R:Γ),v5=ι f/\v6=ι d/\v7=ι k/\f<=k/\k<=l.j+1/\m+k=l.j+1/\-500<=d+(k:Int)/\d<=k/\-(k:Int)<=d/\g.j<=k/\(k=l.j+1∨f<=l.j) ∧
   μ w wr/\wr.r w.o.q 90 3 v4 g.j R/\uJ w.o.q wr g R/\X (yU l (l.j+1) 0 0 0=(yU l m f d k).map (g++·))) (λ_ _ _ i _=>l.j+1-(d_ i).D)
 exact⟨[],0,0,l.j+1,0,[],rfl,rfl,rfl,ze _,η,η,η,η,η,ζ,zg η,zn _ _,xj _ _ _ _,rfl,(by simp[X])⟩;obtain⟨g,f,k,m,d,R,rfl,rfl,rfl,ax,ar,a1,az,av,au,aq,aw,h,n,s,H⟩:=hrel;have ap:=h.q;by_cases a2:k<=l.j
 .obtain⟨m,rfl⟩:∃m',m=m'+1:=⟨m-1,η⟩;by_cases N:k<l.j
  .obtain⟨b,o,rfl,ak,ai⟩:=hv.cell k N;have al:=zi h ak ai;have ay:b<wr.o.q:=η;rw[xK N] at al;clear ai;have c:yU l (m+1) f d k=(if ((gB l k).v == [40]) then yU l m f (d+1) (k+1) else if ((gB l k).v == [41]) then yU l m f (d-1) (k+1) else if ((gB l k).v == [44])=false∨0<d then yU l m f d (k+1) else match kj ((l.drop f).G (k-f)) false with|none=>Y|some a=>(yU l m (k+1) d (k+1)).map (a::·)):=by rw[yU,zb N];try rfl
   cases B:((gB l k).v == [40])
   .cases A:((gB l k).v == [41])
    .cases C:((gB l k).v == [44])
     .have F:X (yU l (l.j+1) 0 0 0=(yU l m f d (k+1)).map (g++·)):=by rw[X,H.l,c,B,A,C];simp
      clear H c;generalize gB l k=x at *;go_wp2;go_roundw;exact⟨g,f,k+1,m,d,R,rfl,rfl,ξ,η,η,η,η,η,η,η,η,h,n,s,F⟩;simp[d_];omega
     by_cases am:0<d
     .have F:X (yU l (l.j+1) 0 0 0=(yU l m f d (k+1)).map (g++·)):=by rw[X,H.l,c,B,A,C];simp[am]
      clear H c;generalize gB l k=x at *;go_wp2;go_roundw;exact⟨g,f,k+1,m,d,R,rfl,rfl,ξ,η,η,η,η,η,η,η,η,h,n,s,F⟩;simp[d_];omega
     rw[B,A,C,za ζ,za ζ,za υ] at c;generalize gB l k=x at *;have L:X (∀y∈(l.drop f).G (k-f),0<y.q):=λy hy=>af y (fw (gZ hy));rcases z:kj ((l.drop f).G (k-f)) false with _|a
     .have V:=U2 z;have HF:X (yU l (l.j+1) 0 0 0=Y):=by rw[X,H.l,c,z];rfl
      clear H c z;go_wp2_with (first|(refine jE _ w rfl (.tmp 58) 30 9 (Z (.tmp 59)) (Z (.tmp 60)) rfl underlying30 i1 M TW _ l rfl hv f k (zg rfl) (zg rfl) η η (k-f) rfl ?_;intro ac G u)|(go_at_call 152;refine(Bw _ _ ((l.drop f).G (k-f)) false (by exact u.u h) L.l υ V).y ?_;rintro e w1 ⟨b1,p1,an,n1,ag,rfl,j⟩;have p:=U6 h j;have K:=p.q))
      go_ret2
      exact Gp HF γ
     have V:=U2 z;have F:X (yU l (l.j+1) 0 0 0=(yU l m (k+1) d (k+1)).map ((g++[a])++·)):=by rw[X,H.l,c,z];simp only[];rw[tH]
     clear H c z;go_wp2_with (first|(refine jE _ w rfl (.tmp 58) 30 9 (Z (.tmp 59)) (Z (.tmp 60)) rfl underlying30 i1 M TW _ l rfl hv f k (zg rfl) (zg rfl) η η (k-f) rfl ?_;intro ac G u)|(go_at_call 152;refine(oG _ _ ((l.drop f).G (k-f)) false a (by exact u.u h) L.l υ V).y ?_;rintro e w1 ⟨va,rfl,r,j⟩;obtain⟨W,J,rfl⟩:=r.qm;have p:=U6 h j;have K:=p.q;have t:=zy n j;have I:=s.y λ_ _ q=>q.u j)|(at_builtin;refine kU w1 _ _ _ rfl (.tmp 67) (.tmp 69) 91 rfl w.o.q 90 i0 _ 3 48 underlying91 hi ah ae aj rfl θ _ _ _ rfl t zQ _ _ rfl ζ rfl a_ η η K ?_;intro v' w2 Q S ab aa E ad;clear ab aa;have T:U7 w.o.q w2 (O.slice W a.k.j J) a.k:=yq (fe t θ r E) h.q;have D:=I.y λ_ _ q=>fe t θ q E))
     go_roundw;exact⟨g++[a],k+1,k+1,m,d,_,ξ,rfl,ξ,ze _,η,η,η,η,η,by simp;omega,η,p.A S,by rw[yB];exact Q,D.snoc T,F⟩;simp[d_];omega
    obtain⟨_,C⟩:=s41 A;have F:X (yU l (l.j+1) 0 0 0=(yU l m f (d-1) (k+1)).map (g++·)):=by rw[X,H.l,c,B,A];rfl
    clear H c;generalize gB l k=x at *;go_wp2;go_roundw;exact⟨g,f,k+1,m,d-1,R,rfl,rfl,ξ,η,η,η,η,η,η,η,η,h,n,s,F⟩;simp[d_];omega
   obtain⟨A,C⟩:=s40 B;have F:X (yU l (l.j+1) 0 0 0=(yU l m f (d+1) (k+1)).map (g++·)):=by rw[X,H.l,c,B];rfl
   clear H c;generalize gB l k=x at *;go_wp2;go_roundw;exact⟨g,f,k+1,m,d+1,R,rfl,rfl,ξ,η,η,η,η,η,η,η,η,h,n,s,F⟩;simp[d_];omega
  have c:yU l (m+1) f d k=(match kj ((l.drop f).G (k-f)) false with|none=>Y|some a=>Z [a]):=by rw[yU,za N];try rfl
  have P:m=0:=η;have L:X (∀y∈(l.drop f).G (k-f),0<y.q):=λy hy=>af y (fw (gZ hy));rcases z:kj ((l.drop f).G (k-f)) false with _|a
  .have V:=U2 z;have HF:X (yU l (l.j+1) 0 0 0=Y):=by rw[X,H.l,c,z];rfl
   clear H c z;go_wp2_with (first|(refine jE _ w rfl (.tmp 58) 30 9 (Z (.tmp 59)) (Z (.tmp 60)) rfl underlying30 i1 M TW _ l rfl hv f k (zg rfl) (zg rfl) η η (k-f) rfl ?_;intro ac G u)|(go_at_call 152;refine(Bw _ _ ((l.drop f).G (k-f)) false (by exact u.u h) L.l υ V).y ?_;rintro e w1 ⟨b1,p1,an,n1,ag,rfl,j⟩;have p:=U6 h j;have K:=p.q))
   go_ret2
   exact Gp HF γ
  have V:=U2 z;have F:X (yU l (l.j+1) 0 0 0=(yU l m (k+1) d (k+1)).map ((g++[a])++·)):=by rw[X,H.l,c,z,P];simp[yU]
  clear H c z;go_wp2_with (first|(refine jE _ w rfl (.tmp 58) 30 9 (Z (.tmp 59)) (Z (.tmp 60)) rfl underlying30 i1 M TW _ l rfl hv f k (zg rfl) (zg rfl) η η (k-f) rfl ?_;intro ac G u)|(go_at_call 152;refine(oG _ _ ((l.drop f).G (k-f)) false a (by exact u.u h) L.l υ V).y ?_;rintro e w1 ⟨va,rfl,r,j⟩;obtain⟨W,J,rfl⟩:=r.qm;have p:=U6 h j;have K:=p.q;have t:=zy n j;have I:=s.y λ_ _ q=>q.u j)|(at_builtin;refine kU w1 _ _ _ rfl (.tmp 67) (.tmp 69) 91 rfl w.o.q 90 i0 _ 3 48 underlying91 hi ah ae aj rfl θ _ _ _ rfl t zQ _ _ rfl ζ rfl a_ η η K ?_;intro v' w2 Q S ab aa E ad;clear ab aa;have T:U7 w.o.q w2 (O.slice W a.k.j J) a.k:=yq (fe t θ r E) h.q;have D:=I.y λ_ _ q=>fe t θ q E))
  go_roundw;exact⟨g++[a],k+1,k+1,m,d,_,ξ,rfl,ξ,ze _,η,η,η,η,η,by simp;omega,η,p.A S,by rw[yB];exact Q,D.snoc T,F⟩;simp[d_];omega
 have P:m=0:=η;have HF:X (yU l (l.j+1) 0 0 0=Z g):=by rw[X,H.l,P];simp[yU]
 clear H;go_wp2;go_ret2
 exact O3 HF h ⟨_,n,s⟩
end
section
open Go.Proofs.Tryz Go.RowKit
variable {lo:Nat}
def Nv(o:Option zd)(w:U)(e:Ending)(w':U):Prop:=
 μ w w'/\match o with
  |none=>∃b p i n d f j a,e=ε (.B #[.agg #[.i b,.g p,.k i n d,.k f j a],.i false])
  |some c=>∃g h,e=ε (.B #[.agg #[.i c.g.i,.g c.g.o,g,h],.i true])/\U7 w.o.q w' g c.g.k/\Vd w.o.q w' h c.d
def Tp(w:U)(v:O)(l:List Λ)(g:SV w v l)(a:∀y∈l,0<y.q)(f:l.j<=500)(h:yU l (l.j+1) 0 0 0=Y):
  c_ e_ 153 #[v] w λe c=>e=ε (.B #[ν,.i false])/\μ w c:=by
 refine(GY w v l g a f).y ?_;rintro e c ⟨d,b⟩;rw[h] at b;exact⟨b,d⟩
def RX(w:U)(v:O)(l:List Λ)(ls:Ω)(k:SV w v l)(d:∀y∈l,0<y.q)(j:l.j<=500)(h:yU l (l.j+1) 0 0 0=Z ls):
  c_ e_ 153 #[v] w λe f=>∃c,e=ε (.B #[c,.i true])/\Vd w.o.q f c ls/\μ w f:=by
 refine(GY w v l k d j).y ?_;rintro e f ⟨i,g⟩;rw[h] at g;obtain⟨c,a,b⟩:=g;exact⟨c,a,b,i⟩
def Fu(w:U)(v:O)(l:List Λ)(T:SV w v l)(al:∀y∈l,0<y.q)(hl:l.j<=500):
  c_ e_ 107 #[v] w λe w'=>Nv (kR l) w e w':=by
 obtain⟨i1,L,_,_,_⟩:=info_parts Uw;obtain⟨ao,a7,rfl⟩:=T.qm;have hW:μ w ((w.C (.E #[.i false,.g {data:=#[]},ν,ν] 93)).C (.E #[.i false,.g {data:=#[]},ν,ν] 93)):=γ;have aj:U3 ((w.C (.E #[.i false,.g {data:=#[]},ν,ν] 93)).C (.E #[.i false,.g {data:=#[]},ν,ν] 93)) w.o.q #[.i false,.g {data:=#[]},ν,ν] 93:=(U3.new w _ _).u zQ;have W:U3 ((w.C (.E #[.i false,.g {data:=#[]},ν,ν] 93)).C (.E #[.i false,.g {data:=#[]},ν,ν] 93)) (w.o.q+1) #[.i false,.g {data:=#[]},ν,ν] 93:=U3.newAt _ _ _ _ ζ;go_enter func107,ntmps107;go_wp2;go_loop [5] (λi=>∃k:Nat,k<=l.j/\i=ι k/\X (uc l=k+uc (l.drop k))) (λi=>l.j-(d_ i).D);exact⟨0,zs _,rfl,by simp[X]⟩;obtain⟨k,hk,rfl,H⟩:=hrel;by_cases M:k<l.j
 case' pos=>
  obtain⟨b,o,rfl,a6,a2⟩:=T.cell k M;rw[xK M] at a2;cases hI:((gB l k).v == [58,45])
  .have H2:X (uc l=(k+1)+uc (l.drop (k+1))):=by rw[X,H.l,Ku M hI];omega
   clear H;generalize gB l k=x at *;go_wp2;go_round;exact⟨k+1,η,ξ,H2⟩;simp[d_];omega
  have HK:X (uc l=k):=by rw[X,H.l,RD M hI];rfl
  generalize gB l k=x at *
 case' neg=>
  have HK:X (uc l=k):=by rw[X,H.l,uk η];rfl
 all_goals
  clear H;have aw:X (∀y∈l.G k,0<y.q):=λy hy=>al y (gZ hy);cases hL:kj (l.G k) true
  .have V:=U2 hL;have S:X (kR l=Y):=by unfold X kR;rw[HK.l,hL]
   clear hL;go_upto_region 7 with (first|(refine jE _ w rfl (.tmp 24) 30 9 Y (Z (.tmp 25)) rfl underlying30 i1 L TW _ l rfl T 0 k (zh ⟨rfl,rfl⟩) (zg rfl) η η k rfl ?_;intro a5 am B;rw[fA] at B)|(go_at_call 152;refine(Bw _ _ (l.G k) true (by exact B.u hW) aw.l υ V).y ?_;rintro e J ⟨G,K,d,I,c,rfl,m⟩;have f:=aj.u m;have h:=W.u m;obtain⟨q,D⟩:=f.H;obtain⟨E,A,a4⟩:=h.I;have ar:=f.lt;have Q:=U6 hW m))
   have F:U3 ((((J.x (δ (w.o.q+1)) (.i G)).x (ω (w.o.q+1) 1) (.g K)).x (ω (w.o.q+1) 2) (.k d I c)).C (.E #[.i G,.g K,.k d I c] 90)) (w.o.q+1) #[.i G,.g K,.k d I c,ν] 93:=(((h.set 0 _).set 1 _).set 2 _).u zQ;have j:U3 ((((J.x (δ (w.o.q+1)) (.i G)).x (ω (w.o.q+1) 1) (.g K)).x (ω (w.o.q+1) 2) (.k d I c)).C (.E #[.i G,.g K,.k d I c] 90)) w.o.q #[.i false,.g {data:=#[]},ν,ν] 93:=(((f.set_ne η _ _).set_ne η _ _).set_ne η _ _).u zQ;have z:μ w ((((J.x (δ (w.o.q+1)) (.i G)).x (ω (w.o.q+1) 1) (.g K)).x (ω (w.o.q+1) 2) (.k d I c)).C (.E #[.i G,.g K,.k d I c] 90)):=by have hq:=Q.q;exact γ
   generalize ((((J.x (δ (w.o.q+1)) (.i G)).x (ω (w.o.q+1) 1) (.g K)).x (ω (w.o.q+1) 2) (.k d I c)).C (.E #[.i G,.g K,.k d I c] 90))=w2 at *;clear f h q D E A;obtain⟨C,ag⟩:=j.H;obtain⟨ac,ae,a3⟩:=F.I;have af:=j.lt;go_wp2;rw[S.l];exact zP (v:=.B #[.agg #[.i G,.g K,.k d I c,ν],.i false]) (by simp[results,results107,go_sem,C]) rfl ⟨γ,_,_,_,_,_,_,_,_,rfl⟩
  rename_i a;have V:=U2 hL;clear hL;go_upto_region 7 with (first|(refine jE _ w rfl (.tmp 24) 30 9 Y (Z (.tmp 25)) rfl underlying30 i1 L TW _ l rfl T 0 k (zh ⟨rfl,rfl⟩) (zg rfl) η η k rfl ?_;intro a5 am B;rw[fA] at B)|(go_at_call 152;refine(oG _ _ (l.G k) true a (by exact B.u hW) aw.l υ V).y ?_;rintro e J ⟨va,rfl,ak,m⟩;obtain⟨d,c,rfl⟩:=ak.qm;have f:=aj.u m;have h:=W.u m;obtain⟨q,D⟩:=f.H;obtain⟨E,A,a4⟩:=h.I;have ar:=f.lt;have Q:=U6 hW m))
  have F:U3 ((((J.x (δ (w.o.q+1)) (.i a.i)).x (ω (w.o.q+1) 1) (.g a.o)).x (ω (w.o.q+1) 2) (.k d a.k.j c)).C (.E #[.i a.i,.g a.o,.k d a.k.j c] 90)) (w.o.q+1) #[.i a.i,.g a.o,.k d a.k.j c,ν] 93:=(((h.set 0 _).set 1 _).set 2 _).u zQ;have j:U3 ((((J.x (δ (w.o.q+1)) (.i a.i)).x (ω (w.o.q+1) 1) (.g a.o)).x (ω (w.o.q+1) 2) (.k d a.k.j c)).C (.E #[.i a.i,.g a.o,.k d a.k.j c] 90)) w.o.q #[.i false,.g {data:=#[]},ν,ν] 93:=(((f.set_ne η _ _).set_ne η _ _).set_ne η _ _).u zQ;have z:μ w ((((J.x (δ (w.o.q+1)) (.i a.i)).x (ω (w.o.q+1) 1) (.g a.o)).x (ω (w.o.q+1) 2) (.k d a.k.j c)).C (.E #[.i a.i,.g a.o,.k d a.k.j c] 90)):=by have hq:=Q.q;exact γ
  have av:U7 w.o.q ((((J.x (δ (w.o.q+1)) (.i a.i)).x (ω (w.o.q+1) 1) (.g a.o)).x (ω (w.o.q+1) 2) (.k d a.k.j c)).C (.E #[.i a.i,.g a.o,.k d a.k.j c] 90)) (.k d a.k.j c) a.k:=((ak.low (by simp only[U.size_alloc];omega)).but (r:=w.o.q+1) ((((UF.refl _ _).x _ _).x _ _).x _ _) h θ).u zQ;generalize ((((J.x (δ (w.o.q+1)) (.i a.i)).x (ω (w.o.q+1) 1) (.g a.o)).x (ω (w.o.q+1) 2) (.k d a.k.j c)).C (.E #[.i a.i,.g a.o,.k d a.k.j c] 90))=w2 at *;clear f h q D E A;obtain⟨C,ag⟩:=j.H;obtain⟨ac,ae,a3⟩:=F.I;have af:=j.lt
 .have aa:X (k=l.j):=by unfold X;omega
  have S:X (kR l=Z ⟨a,[]⟩):=by unfold X kR;rw[HK.l,V.l];simp only[];rw[zb aa.l]
  have a1:((k:Int) == (l.j:Int))=true:=by rw[beq_iff_eq];have:=aa.l;omega
  go_wp2;rw[S.l];exact zP (v:=.B #[.agg #[.i a.i,.g a.o,.k d a.k.j c,ν],.i true]) (by simp[results,results107,go_sem,C]) rfl ⟨γ,_,_,rfl,av.but (r:=w.o.q) ψ j θ,Vd.nil _⟩
 have N:X (∀y∈l.drop (k+1),0<y.q):=λy hy=>al y (fw hy);have a1:((k:Int) == (l.j:Int))=false:=by rw[beq_eq_false_iff_ne];omega
 rcases p:yU (l.drop (k+1)) ((l.drop (k+1)).j+1) 0 0 0 with _|bd
 .have R:=U2 p;have S:X (kR l=Y):=by unfold X kR;rw[HK.l,V.l];simp only[];rw[za η,p]
  clear p;go_wp2_with (first|(refine jE _ w rfl (.tmp 43) 30 9 (Z (.tmp 45)) Y rfl underlying30 i1 L TW _ l rfl T (k+1) l.j (zg rfl) (zh ⟨rfl,rfl⟩) η η (l.j-(k+1)) rfl ?_;intro a0 ap u;rw[yO ζ] at u)|(go_at_call 153;refine(Tp _ _ (l.drop (k+1)) (by exact u.u z) N.l υ R).y ?_;rintro e w3 ⟨rfl,g⟩;have n:=j.u g;have s:=F.u g;obtain⟨t,au⟩:=n.H;obtain⟨ad,aq,ay⟩:=s.I;have ab:=n.lt;have P:=U6 z g;have ah:=P.q))
  rw[S.l];exact zP (v:=.B #[.agg #[.i a.i,.g a.o,.k d a.k.j c,ν],.i false]) (by simp[results,results107,go_sem,t]) rfl ⟨γ,_,_,_,_,_,_,_,_,rfl⟩
 have R:=U2 p;have S:X (kR l=Z ⟨a,bd⟩):=by unfold X kR;rw[HK.l,V.l];simp only[];rw[za η,p]
 clear p;go_wp2_with (first|(refine jE _ w rfl (.tmp 43) 30 9 (Z (.tmp 45)) Y rfl underlying30 i1 L TW _ l rfl T (k+1) l.j (zg rfl) (zh ⟨rfl,rfl⟩) η η (l.j-(k+1)) rfl ?_;intro a0 ap u;rw[yO ζ] at u)|(go_at_call 153;refine(RX _ _ (l.drop (k+1)) bd (by exact u.u z) N.l υ R).y ?_;rintro e w3 ⟨vb,rfl,an,g⟩;obtain⟨az,ai,rfl⟩:=an.qm;have n:=j.u g;have s:=F.u g;obtain⟨t,au⟩:=n.H;obtain⟨ad,aq,ay⟩:=s.I;have ab:=n.lt;have P:=U6 z g;have ah:=P.q))
 rw[S.l];have ax:=av.u g;exact zP (v:=.B #[.agg #[.i a.i,.g a.o,.k d a.k.j c,.k az bd.j ai],.i true]) (by simp[results,results107,go_sem,t]) rfl ⟨γ,_,_,rfl,(ax.but (r:=w.o.q+1) ((UF.refl _ _).x _ _) s θ).but (r:=w.o.q) ψ (n.set_ne η _ _) θ,((an.low η).but (r:=w.o.q+1) ((UF.refl _ _).x _ _) s θ θ).but (r:=w.o.q) ψ (n.set_ne η _ _) θ θ⟩
end
section
open Go.Proofs.Tryz Go.RowKit
variable {lo:Nat}{o:Option (List zd)}
def S0(w:U)(v:O)(l:List Λ)(s:SV w v l)(f:∀y∈l,0<y.q)(r:l.j<=500)(h:kR l=Y):
  c_ e_ 107 #[v] w λe k=>∃b p g n c d i a,e=ε (.B #[.agg #[.i b,.g p,.slice g n c,.slice d i a],.i false])/\μ w k:=by
 refine(Fu w v l s f r).y ?_;rintro e k ⟨m,j⟩;rw[h] at j;obtain⟨b,p,g,n,c,d,i,a,q⟩:=j;exact⟨b,p,g,n,c,d,i,a,q,m⟩
def N9(w:U)(v:O)(l:List Λ)(c:zd)(n:SV w v l)(i:∀y∈l,0<y.q)(m:l.j<=500)(h:kR l=Z c):
  c_ e_ 107 #[v] w λe f=>∃d g,e=ε (.B #[.agg #[.i c.g.i,.g c.g.o,d,g],.i true])/\U7 w.o.q f d c.g.k/\Vd w.o.q f g c.d/\μ w f:=by
 refine(Fu w v l n i m).y ?_;rintro e f ⟨k,j⟩;rw[h] at j;obtain⟨d,g,a,b,c⟩:=j;exact⟨d,g,a,b,c,k⟩
def Ua:(e_.info? 93).map (λi=>(i.zero,i.q,i.bytes))=Z (Z (.agg #[.i false,.g ByteArray.empty,ν,ν]),4,72):=χ
def AA(o:Option (List zd))(w:U)(e:Ending)(w':U):Prop:=
 μ w w'/\match o with
  |none=>∃b n a,e=ε (.B #[.slice b n a,.i false])
  |some c=>∃v,e=ε (.B #[v,.i true])/\Vh w.o.q 93 w' v c
def Fe{w w':U}{a:Option Addr}{n cap:Nat}(h:X (o=Y))(c:μ w w'):AA o w (ε (.B #[.slice a n cap,.i false])) w':=by
 have b:o=none:=h;subst b;exact⟨c,a,n,cap,rfl⟩
def Sj{w w':U}{v:O}{cs:Ξ}(h:X (o=Z cs))(b:μ w w')(hs:Vh w.o.q 93 w' v cs):AA o w (ε (.B #[v,.i true])) w':=by
 have a:o=Z cs:=h;subst a;exact⟨b,v,rfl,hs⟩
def A0(w:U)(v:O)(l:List Λ)(S:SV w v l)(af:∀y∈l,0<y.q)(hl:l.j<=500):
  c_ e_ 66 #[v] w λe w'=>AA (vS l) w e w':=by
 obtain⟨i0,hi,W,ac,ae⟩:=info_parts Ua;obtain⟨i1,L,_,_,_⟩:=info_parts Uw;obtain⟨ao,ax,rfl⟩:=S.qm;go_enter func66,ntmps66;go_wp2;go_loopw [4,5,6] (λv4 v5 v6 wr=>∃(f:Ξ) (d k m:Nat) (R:Γ),v5=ι d/\v6=ι k/\d<=k/\m+k=l.j/\f.j<=k/\μ w wr/\wr.r w.o.q 93 4 v4 f.j R/\js w.o.q wr f R/\X (vS l=(jq l m d k).map (f++·))) (λ_ _ i _=>l.j-(d_ i).D);exact⟨[],0,0,l.j,[],rfl,rfl,ze _,rfl,ζ,zn _ _,xj _ _ _ _,rfl,(by simp[X,vS])⟩;obtain⟨f,d,k,m,R,rfl,rfl,av,aq,an,a,g,u,H⟩:=hrel;have am:=a.q;by_cases F:k<l.j
 .obtain⟨m,rfl⟩:∃m',m=m'+1:=⟨m-1,η⟩;obtain⟨b,o,rfl,P,N⟩:=S.cell k F;have ah:=zi a P N;have aw:b<wr.o.q:=η;rw[xK F] at ah;clear N;cases s:((gB l k).v == [46])
  .have H2:X (vS l=(jq l m d (k+1)).map (f++·)):=by rw[X,H.l,jq,s];rfl
   clear H;generalize gB l k=x at *;go_wp2;go_roundw;exact⟨f,d,k+1,m,R,rfl,ξ,η,η,η,a,g,u,H2⟩;simp[d_];omega
  have C:X (∀y∈(l.drop d).G (k-d),0<y.q):=λy hy=>af y (fw (gZ hy));rcases A:kR ((l.drop d).G (k-d)) with _|c
  .have HL:=U2 A;have D:X (vS l=Y):=by rw[X,H.l,jq,s,zb rfl,A];rfl
   clear H A;generalize gB l k=x at *;go_wp2_with (first|(refine jE _ w rfl (.tmp 21) 30 9 (Z (.tmp 22)) (Z (.tmp 23)) rfl underlying30 i1 L TW _ l rfl S d k (zg rfl) (zg rfl) η η (k-d) rfl ?_;intro aj I t)|(go_at_call 107;refine(S0 _ _ ((l.drop d).G (k-d)) (by exact t.u a) C.l υ HL).y ?_;rintro e w1 ⟨b1,p1,au,n1,ap,z,n3,j,rfl,h⟩;have p:=U6 a h;have G:=p.q))
   go_ret2
   exact Fe D γ
  have HL:=U2 A;have H2:X (vS l=(jq l m (k+1) (k+1)).map ((f++[c])++·)):=by rw[X,H.l,jq,s,zb rfl,A];simp only[];rw[tH]
  clear H A;generalize gB l k=x at *;go_wp2_with (first|(refine jE _ w rfl (.tmp 21) 30 9 (Z (.tmp 22)) (Z (.tmp 23)) rfl underlying30 i1 L TW _ l rfl S d k (zg rfl) (zg rfl) η η (k-d) rfl ?_;intro aj I t)|(go_at_call 107;refine(N9 _ _ ((l.drop d).G (k-d)) c (by exact t.u a) C.l υ HL).y ?_;rintro e w1 ⟨va,vb,rfl,M,E,h⟩;obtain⟨z,j,rfl⟩:=M.qm;obtain⟨ar,ak,rfl⟩:=E.qm;have p:=U6 a h;have G:=p.q;have n:=zy g h;have J:=u.y (λ_ _ q=>q.u h) (λ_ _ q=>q.u h))|(at_builtin;refine kU w1 _ _ _ rfl (.tmp 30) (.tmp 32) 43 rfl w.o.q 93 i0 _ 4 72 underlying43 hi W ac ae rfl θ _ _ _ rfl n zQ _ _ rfl ζ rfl a_ η η G ?_;intro v' w2 T ad ag aa r al;clear ag aa;have ai:U7 w.o.q w2 (O.slice z c.g.k.j j) c.g.k:=yq (fe n θ M r) a.q;have ab:=(E.push n θ θ r).low a.q;have K:=J.y (λ_ _ q=>fe n θ q r) (λ_ _ q=>q.push n θ θ r)))
  go_roundw;exact⟨f++[c],k+1,k+1,m,_,ξ,ξ,ze _,η,by simp;omega,p.A ad,by rw[yB];exact T,K.snoc ai ab,H2⟩;simp[d_];omega
 have B:m=0:=η;obtain⟨z,j,rfl⟩:=zq g;by_cases Q:d=l.j
 .have D:X (vS l=Z f):=by rw[X,H.l,B,jq,zb Q];simp
  have V:((d:Int) == (l.j:Int))=true:=by rw[beq_iff_eq];omega
  clear H;go_wp2;go_ret2
  exact Sj D a ⟨_,g,u⟩
 have D:X (vS l=Y):=by rw[X,H.l,B,jq,za Q];rfl
 have V:((d:Int) == (l.j:Int))=false:=by rw[beq_eq_false_iff_ne];omega
 clear H;go_wp2;go_ret2
 exact Fe D a
end
section
open Go.Proofs.Tryz Go.RowKit
variable {lo:Nat}
def iK(w:U)(v:O)(vs:List Λ)(t:Λ)(hs:U7 lo w v vs)(p:vs.j<=1000):
  c_ e_ 109 #[v,.g t] w λe h=>e=ε (.i (yr t vs))/\h=w:=by
 obtain⟨o,j,rfl⟩:=hs.qm;go_enter func109,ntmps109;go_wp2;go_loop [5] (λi=>∃k:Nat,k<=vs.j/\i=ι k/\X (t∈vs↔t∈vs.drop k)) (λi=>vs.j-(d_ i).D);exact⟨0,zs _,rfl,by simp[X]⟩;obtain⟨k,n,rfl,H⟩:=hrel;by_cases b:k<vs.j
 .obtain⟨g,rfl,q,l⟩:=hs.cell k b;have d:=yK b;generalize vs[k]=x at *;have f:=U2 d;by_cases c:x=t
  .have m:=qH c;have a:X (t∈vs):=by rw[X,H.l,f.l,c];simp
   go_wp2;go_ret;exact⟨by rw[qq.2 a.l];rfl,rfl⟩
  have m:=vn c;have a:X (t∈vs↔t∈vs.drop (k+1)):=by rw[X,H.l,f.l];simp[Ne.symm c]
  go_wp2;go_round;exact⟨k+1,η,ξ,a⟩;simp[d_];omega
 have a:X (t∉vs):=by rw[X,H.l,uk η];simp
 go_wp2;go_ret;exact⟨by rw[sZ.2 a.l];rfl,rfl⟩
def uJ.one{w:U}:∀{ls:Ω} {xs:Γ},uJ lo w ls xs->∀u∈xs,u.oneCell'=true
 |[],_,h,u,a=>by simp only[uJ] at h;subst h;cases a
 |_::ls,_,h,u,a=>by
  obtain⟨v,r,rfl,b,d⟩:=h;obtain⟨e,c,rfl⟩:=b.qm;simp only[z7] at a;rcases a with rfl|rfl|rfl|a
  .rfl
  .rfl
  .rfl
  .exact uJ.one d u a
structure lx (w:U) (g o:Nat) (c:zd) (ao:Option Addr) (cap:Nat) (aob:Option Addr) (capb:Nat):Prop where
 lt:g<w.o.q
 c0:w.p ⟨g,o,Y⟩=Z (.i c.g.i)
 c1:w.p ⟨g,o+1,Y⟩=Z (.g c.g.o)
 c2:w.p ⟨g,o+2,Y⟩=Z (.k ao c.g.k.j cap)
 c3:w.p ⟨g,o+3,Y⟩=Z (.k aob c.d.j capb)
 k:U7 0 w (.k ao c.g.k.j cap) c.g.k
 d:Vd 0 w (.k aob c.d.j capb) c.d
def lx.u{w w':U}{g o:Nat}{c:zd}{e:Option Addr}{cap:Nat}{d:Option Addr}{a:Nat}(h:lx w g o c e cap d a)(b:μ w w'):lx w' g o c e cap d a:=
 ⟨yh h.lt b.q,(b.cell (p:=(ω g o)) h.lt).A h.c0,(b.cell (p:=(ω g (o+1))) h.lt).A h.c1,(b.cell (p:=(ω g (o+2))) h.lt).A h.c2,(b.cell (p:=(ω g (o+3))) h.lt).A h.c3,h.k.u b,h.d.u b⟩
def Vh.at{T:TypeId}{w:U}{e:Option Addr}{n cap:Nat}{cs:Ξ}(h:Vh lo T w (.k e n cap) cs)(k:Nat)(f:k<cs.j):∃g c a d b,e=Z (δ g)/\lx w g (k*4) cs[k] c a d b:=by
 obtain⟨g,c,a,d,b,i,r,m,p,q,l,o,j⟩:=h.cell k f;exact⟨g,c,a,d,b,i,r,m,p,q,l,o.low (zs _),j.low (zs _)⟩
def eS(w:U)(g o:Nat)(c:zd)(l:Option Addr)(cap:Nat)(B:Option Addr)(f:Nat)(h:lx w g o c l cap B f)(hl:c.d.j<=1000):
  c_ e_ 68 #[.pointer (Z (ω g o))] w λe m=>∃v,e=.returned v/\Vd 0 m v (zj c)/\μ w m:=by
 obtain⟨R,T,D,H,J⟩:=info_parts Uo;have aa:=h.lt;have h0:=h.c0;have h1:=h.c1;have h2:=h.c2;have h3:=h.c3;obtain⟨x,n,t⟩:=h.d;have d:=(zn w.o.q w).C (ze _) (.E #[.i c.g.i,.g c.g.o,.k l c.g.k.j cap] 90);have a:(w.C (.E #[.i c.g.i,.g c.g.o,.k l c.g.k.j cap] 90)).r w.o.q 90 3 (.k (Z (δ w.o.q)) 1 1) 1 [.i c.g.i,.g c.g.o,.k l c.g.k.j cap]:=
  ⟨rfl,zg ⟨w.o.q,1,_,rfl,ze _,U3.new w _ _,ze _,by unfold maxLen;omega,rfl,rfl⟩⟩
 have G:=n.1;have z:=uJ.one t;have i:∀m,μ w m->uJ 0 m (zj c) ([.i c.g.i,.g c.g.o,.k l c.g.k.j cap]++x):=λm N=>⟨_,_,rfl,h.k.u N,t.y λ_ _ q=>q.u N⟩;have b:=U2 i;have r:=n;obtain⟨_,⟨s,hn⟩|⟨I,S,ad,s,W,P,ab,ae,ac,hx⟩⟩:=r
 .simp at s;obtain⟨rfl,L,rfl⟩:=s;have F:x=[]:=lK η;go_enter func68,ntmps68;go_wp2_with (at_builtin;refine wpList_append_own_none rfl (.tmp 9) (.tmp 13) 91 rfl w.o.q 90 R 3 underlying91 T _ _ _ rfl a rfl ?_)
  go_ret;refine⟨_,rfl,⟨_,?_,b.l _ d⟩,d⟩;rw[F,vD];simpa [zj,L] using yq a (zs _)
 simp at s;obtain⟨rfl,_,rfl⟩:=s;have E:∀j u,x[j]?=Z u->(w.C (.E #[.i c.g.i,.g c.g.o,.k l c.g.k.j cap] 90)).p (Addr.add (δ I) j)=Z u:=λj u y=>by
  rw[Addr.add_lit,uM,d.cell (p:=(ω I j)) (kB.1 P).1];unfold U.cell?;rw[P];simp;rw[←hx,mH] at y;split at y;simpa using y;simp at y
 have C:=U2 E;have K:=U2 z;go_enter func68,ntmps68;go_wp2_with (at_builtin;refine wpList_append_own _ rfl (.tmp 9) (.tmp 13) 91 rfl w.o.q 90 R _ 3 48 underlying91 T D H J rfl θ _ _ _ rfl a (δ I) c.d.j f x rfl G C.l K.l b_ η ζ ?_;intro v' w2 A M _)
 go_ret;have Q:=d.grown M ζ (λk V=>by cases V;exact ze _);refine⟨_,rfl,⟨_,?_,b.l _ Q⟩,Q⟩;rw[show(zj c).j=1+c.d.j by simp[zj];omega];exact yq A (zs _)
def pK(qc first:Bool)(vs:κ)(l:zk):κ:=if qc&&(first||l.i) then vs else xH vs l.k
def jI(qc:Bool)(ls:List zk):Nat->κ
 |0=>[]
 |k+1=>match ls[k]? with
  |none=>jI qc ls k
  |some l=>pK qc (k == 0) (jI qc ls k) l
def ez(qc:Bool)(ls:Ω)(k:Nat)(a:k<ls.j):jI qc ls (k+1)=pK qc (k == 0) (jI qc ls k) ls[k]:=by
 rw[jI,yn a]
def J8(qc first:Bool)(vs:List Λ)(l:zk):(pK qc first vs l).j<=vs.j+l.k.j:=by
 unfold pK;split;omega;exact rf l.k vs
def Ft(qc:Bool)(ls:Ω):∀k,k<=ls.j->(jI qc ls k).j<=xn (ls.G k)
 |0,_=>by simp[jI]
 |k+1,a=>by
  rw[ez qc ls k η,yF η,Nb];have b:=Ft qc ls k η;have c:=J8 qc (k == 0) (jI qc ls k) ls[k];omega
def PT(c:zd):jI false (zj c) (zj c).j=ux c:=by
 have a:∀k,k<=c.d.j->jI false (zj c) (k+1)=(c.d.G k).foldl gO (xH [] c.g.k):=by
  intro k;induction k with
  |zero=>intro _;rfl
  |succ k b=>
   intro d;rw[ez _ _ _ (by simp[zj];omega),b η,yF η,j4];rfl
 have:=a c.d.j (ze _);rw[ve] at this;exact this
def AV(c:zd):jI true (zj c) (zj c).j=zu c:=by
 have a:∀k,k<=c.d.j->jI true (zj c) (k+1)=(c.d.G k).foldl qz []:=by
  intro k;induction k with
  |zero=>intro _;rfl
  |succ k b=>
   intro d;rw[ez _ _ _ (by simp[zj];omega),b η,yF η,j4];simp only[uQ,List.foldl_nil,pK,qz,zj,ri];simp
 have:=a c.d.j (ze _);rw[ve] at this;exact this
def og(w:U)(qc:Bool)(g o:Nat)(c:zd)(ao:Option Addr)(cap:Nat)(Q:Option Addr)(C:Nat)(h:lx w g o c ao cap Q C)(hl:c.d.j<=999)(aq:xn (zj c)<=1000)(hz:∀l∈zj c,∀t∈l.k,0<t.q):
  c_ e_ 108 #[.pointer (Z (ω g o)),.i qc] w λe A=>∃v,e=.returned v/\U7 w.o.q A v (jI qc (zj c) (zj c).j)/\μ w A:=by
 obtain⟨i0,hi,ai,ad,ap⟩:=info_parts Uw;have az:(zj c).j<=1000:=by simp[zj];omega
 have HZ:=U2 hz;have V:=eS w g o c ao cap Q C h η;clear hz;generalize zj c=p at *;go_enter func108,ntmps108;go_wp2_with (go_at_call 68;refine V.y ?_;rintro e H ⟨lv,rfl,D,L⟩;obtain⟨a1,ar,rfl⟩:=D.qm;clear V)
 go_loopw [5,7] (λv5 v7 wr=>∃k:Nat,k<=p.j/\v7=ι k/\μ H wr/\wr.r H.o.q 9 1 v5 (jI qc p k).j ((jI qc p k).map O.string)) (λ_ i _=>p.j-(d_ i).D);exact⟨0,zs _,rfl,zn _ _,xj _ _ _ _⟩;obtain⟨k,hk,rfl,n,b⟩:=hrel;have R:=n.q;by_cases u:k<p.j
 .obtain⟨gl,a4,av,rfl,J,K,aj,z,am⟩:=D.cell k u;have I:=zi n J K;have P:=zi n J z;have al:gl<wr.o.q:=η;have x:=ez qc p k u;have a3:=Ft qc p k η;have S:=tD p k u;rw[yn u] at S;simp only[jY,uF] at S;have ae:=U2 (HZ.l _ (zr u));generalize p[k]=a at *;generalize ag:jI qc p k=vs at *;have HS:=U2 x;clear x ag K aj;by_cases d:(qc&&((k == 0)||a.i))=true
  .have HR:X (jI qc p (k+1)=vs):=by rw[X,HS.l,pK,d];rfl
   simp only[uK,ld,beq_iff_eq] at d;obtain⟨rfl,d⟩:=d;clear HS z;by_cases M:k=0
   .subst M;go_wp2;go_roundw;exact⟨0+1,η,ξ,n,by rw[HR.l];exact b⟩;simp[d_];omega
   have aa:((k:Int) == 0)=false:=by rw[beq_eq_false_iff_ne];omega
   have y:=d.resolve_left M;rw[y] at I;go_wp2;go_roundw;exact⟨k+1,η,ξ,n,by rw[HR.l];exact b⟩;simp[d_];omega
  have HR:X (jI qc p (k+1)=xH vs a.k):=by rw[X,HS.l,pK,za d]
  clear HS;have W:qc=false∨(qc=true/\((k:Int) == 0)=false/\a.i=false):=by
   cases qc;exact zh rfl;right;simp only[pk,ld,beq_iff_eq,not_or,rV] at d;exact⟨rfl,by rw[beq_eq_false_iff_ne];omega,d.2⟩
  clear d;rcases W with rfl|⟨rfl,aa,y⟩
  all_goals
   (try rw[y] at I)
   go_wp2;go_loopw [5,8] (λv5 v8 wj=>∃j:Nat,j<=a.k.j/\v8=ι j/\μ H wj/\wj.r H.o.q 9 1 v5 (xH vs (a.k.G j)).j ((xH vs (a.k.G j)).map O.string)) (λ_ i _=>a.k.j-(d_ i).D);exact⟨0,zs _,rfl,n,b⟩;clear I P b n R al;obtain⟨j,hj,rfl,m,b⟩:=hrel;have aw:=m.q;have P:=zi m J z;have a2:gl<wr.o.q:=η;by_cases F:j<a.k.j
   .obtain⟨ga,rfl,ah,N⟩:=am.cell j F;have a0:=zi m ah N;have ax:ga<wr.o.q:=η;have E:=ae.l _ (zr F);have x:=G4 vs a.k j F;have ac:=rf (a.k.G j) vs;have T:(a.k.G j).j=j:=by simp;omega
    rw[T] at ac;clear N T;generalize a.k[j]=B at *;generalize xH vs (a.k.G j)=G at *;have q:=U2 x;clear x;have r:zV B=qA (UC B 0):=rfl;cases hT:qA (UC B 0)
    .have s:X (xH vs (a.k.G (j+1))=G):=by rw[X,q.l,GQ (by rw[r,hT])]
     clear q r;go_wp2_with (first|(go_at_call 154;refine(oq _ _ E).y ?_;rintro e A ⟨rfl,f⟩;obtain rfl:=f.z)|(go_at_call 109;refine(iK _ _ G B b η).y ?_;rintro e A ⟨rfl,f⟩;obtain rfl:=f.z))
     go_roundw;exact⟨j+1,η,ξ,m,by rw[s.l];exact b⟩;simp[d_];omega
    cases hM:yr B G
    .have s:X (xH vs (a.k.G (j+1))=G++[B]):=by rw[X,q.l,GT (by rw[r,hT]) hM]
     clear q r;go_wp2_with (first|(go_at_call 154;refine(oq _ _ E).y ?_;rintro e A ⟨rfl,f⟩;obtain rfl:=f.z)|(go_at_call 109;refine(iK _ _ G B b η).y ?_;rintro e A ⟨rfl,f⟩;obtain rfl:=f.z)|(at_builtin;refine kU _ _ _ _ rfl (.tmp 65) (.tmp 74) 30 rfl H.o.q 9 i0 _ 1 16 underlying30 hi ai ad ap rfl θ _ _ _ rfl b (zn _ _) _ _ rfl ζ rfl a_ η η m.q ?_;intro v' w2 ab af z an ay au;clear z an))
     go_roundw;exact⟨j+1,η,ξ,m.A af,by rw[s.l];simpa using ab⟩;simp[d_];omega
    have s:X (xH vs (a.k.G (j+1))=G):=by rw[X,q.l,GM hM]
    clear q r;go_wp2_with (first|(go_at_call 154;refine(oq _ _ E).y ?_;rintro e A ⟨rfl,f⟩;obtain rfl:=f.z)|(go_at_call 109;refine(iK _ _ G B b η).y ?_;rintro e A ⟨rfl,f⟩;obtain rfl:=f.z))
    go_roundw;exact⟨j+1,η,ξ,m,by rw[s.l];exact b⟩;simp[d_];omega
   have hE:a.k.G j=a.k:=yO η;rw[hE] at b;clear hE;go_wp2;go_roundw;exact⟨k+1,η,ξ,m,by rw[HR.l];exact b⟩;simp[d_];omega
 have ak:k=p.j:=η;subst ak;go_wp2;go_ret;exact⟨_,rfl,yq b L.q,U6 L n⟩
def jL(x l:zk):Bool:=decide (l.o=x.o)&&decide (l.k.j≠x.k.j)
def kF(cs:List zd)(x:zk):Bool:=(cs.flatMap zj).any (jL x)
def Pq(cs:Ξ)(k:Nat)(a:k<cs.j):(cs.drop k).flatMap zj=zj cs[k]++(cs.drop (k+1)).flatMap zj:=by rw[yK a,uZ]
def KU(w:U)(pb:Nat)(cv v1 v2:O)(cs:Ξ)(x:zk)(va:O)(hp:U3 w pb #[cv,v1,v2] 45)(F:Vh lo 93 w cv cs)(z:∀c∈cs,vV c)(hl:cs.j<=1000){P:Nat}(hs:U7 P w va x.k):
  c_ e_ 110 #[(π pb),.agg #[.i x.i,.g x.o,va]] w λe w'=>e=ε (.i (kF cs x))/\μ w w':=by
 obtain⟨ao,aa,rfl⟩:=F.qm;obtain⟨Q,v,rfl⟩:=hs.qm;have M:=U2 z;clear z;go_enter func110,ntmps110;go_wp2;go_loopw [5] (λi wr=>∃k:Nat,k<=cs.j/\i=ι k/\μ w wr/\U3 wr w.o.q #[.i x.i,.g x.o,.k Q x.k.j v] 90/\U3 wr pb #[.k ao cs.j aa,v1,v2] 45/\X (kF cs x=((cs.drop k).flatMap zj).any (jL x))) (λi _=>cs.j-(d_ i).D);exact⟨0,zs _,rfl,γ,U3.new _ _ _,hp.u γ,rfl⟩;obtain⟨k,hk,rfl,m,S,s,H⟩:=hrel;obtain⟨ab,N⟩:=s.H;have af:=m.q;by_cases r:k<cs.j
 .obtain⟨g,av,ae,aw,ah,rfl,V⟩:=F.at k r;obtain⟨al,am⟩:=M.l _ (zr r);have B:=Pq cs k r;generalize cs[k]=c at *;generalize hR:(cs.drop (k+1)).flatMap zj=rest at *;have HR:=U2 hR;have H1:X (kF cs x=(zj c++rest).any (jL x)):=by rw[X,H.l,B]
  clear hR H B;have aq:(zj c).j<=1001:=by simp[zj];omega
  go_wp2_with (go_at_call 68;refine(eS _ g (k*4) c _ _ _ _ (by exact V.u m) η).y ?_;rintro e w1 ⟨lv,rfl,n,q⟩;obtain⟨ap,ag,rfl⟩:=n.qm;have y:=U6 m q;have C:=S.u q;have t:=s.u q)
  generalize L:zj c=o at *;clear L;go_loopw [7] (λi wj=>∃j:Nat,j<=o.j/\i=ι j/\μ w1 wj/\X (kF cs x=(o.drop j++rest).any (jL x))) (λi _=>o.j-(d_ i).D);exact⟨0,zs _,rfl,zn _ _,H1⟩;clear ab N;obtain⟨j,hj,rfl,b,I⟩:=hrel;have ad:=b.q;have p:=C.u b;obtain⟨ai,ar⟩:=p.H;by_cases E:j<o.j
  .obtain⟨gl,au,ac,rfl,D,K,A,G,J⟩:=n.cell j E;have an:=zi b D A;have ak:=zi b D G;have aj:gl<wr.o.q:=η;have u:=yK E;clear K A G J;generalize o[j]=a at *;have f:X (kF cs x=(jL x a||(o.drop (j+1)++rest).any (jL x))):=by rw[X,I.l,u];rfl
   clear u I;by_cases d:a.o=x.o
   .have W:=qH d;by_cases l:a.k.j=x.k.j
    .have h:X (kF cs x=(o.drop (j+1)++rest).any (jL x)):=by rw[X,f.l,jL];simp[l]
     have R:((a.k.j:Int) == (x.k.j:Int))=true:=by rw[beq_iff_eq];omega
     clear f d l;generalize a.k.j=na at *;generalize a.o=pa at *;go_wp2;go_quiet (fail)
     go_wp2;go_roundw;exact⟨j+1,η,ξ,zG b _,h⟩;simp[d_];omega
    have h:X (kF cs x=true):=by rw[X,f.l,jL];simp[d,l]
    have R:((a.k.j:Int) == (x.k.j:Int))=false:=by rw[beq_eq_false_iff_ne];omega
    clear f d l;generalize a.k.j=na at *;generalize a.o=pa at *;go_wp2;go_quiet (fail)
    go_wp2;go_ret;exact⟨by rw[h.l];rfl,zG (U6 y b) _⟩
   have W:=vn d;have h:X (kF cs x=(o.drop (j+1)++rest).any (jL x)):=by rw[X,f.l,jL];simp[d]
   clear f d;generalize a.o=pa at *;go_wp2;go_quiet (fail)
   go_wp2;go_roundw;exact⟨j+1,η,ξ,zG b _,h⟩;simp[d_];omega
  have T:X (kF cs x=((cs.drop (k+1)).flatMap zj).any (jL x)):=by rw[X,I.l,uk η,HR.l];rfl
  clear I;go_wp2;go_roundw;exact⟨k+1,η,ξ,U6 y b,p,t.u b,T⟩;simp[d_];omega
 have T:X (kF cs x=false):=by rw[X,H.l,uk η];rfl
 clear H;go_wp2;go_ret;exact⟨by rw[T.l];rfl,m⟩
def nM(w:U)(pb:Nat)(c0 d h:O)(l:List Λ)(n:Λ)(m:U3 w pb #[c0,d,h] 45)(hs:U7 lo w d l)(t:l.j<=1000):
  c_ e_ 111 #[(π pb),.g n] w λe f=>e=ε (ι (l6 l n))/\f=w:=by
 obtain⟨u,s⟩:=m.H;obtain⟨r,j,rfl⟩:=hs.qm;go_enter func111,ntmps111;go_wp2;go_loop [5] (λi=>∃k:Nat,k<=l.j/\i=ι k/\X (yG l n=(yG (l.drop k) n).map (·+k))) (λi=>l.j-(d_ i).D);exact⟨0,zs _,rfl,by simp[X]⟩;obtain⟨k,q,rfl,H⟩:=hrel;by_cases a:k<l.j
 .obtain⟨g,rfl,v,o⟩:=hs.cell k a;by_cases c:l[k]=n
  .have p:=qH c;have b:X (l6 l n=(k:Int)):=by unfold X l6;rw[H.l,AL a c];simp
   go_wp2;go_ret;exact⟨by rw[b.l];rfl,rfl⟩
  have p:=vn c;have b:X (yG l n=(yG (l.drop (k+1)) n).map (·+(k+1))):=by
   rw[X,H.l,Af a c];cases yG (l.drop (k+1)) n<;>simp;omega
  go_wp2;go_round;exact⟨k+1,η,ξ,b⟩;simp[d_];omega
 have b:X (l6 l n=-1):=by unfold X l6;rw[H.l,uk η];rfl
 go_wp2;go_ret;exact⟨by rw[b.l];rfl,rfl⟩
def ip(c:zd):Bool:=decide (6<c.d.j)||decide (5<(ux c).j)
def pB(l:zk):Bool:=decide (3<l.k.j)
def lS(c:zd):Bool:=ip c||(zj c).any pB
def nH(c:zd):Bool:=(ux c).all λv=>yr v (zu c)
def p7(cs:List zd)(c:zd):Bool:=(zj c).any (kF cs)
def ko(cs:List zd):Int:=if cs.any lS then 4 else if cs.any (p7 cs) then 5 else if cs.all nH then 0 else 6
def wR{α:Type}(l:List α)(p:α->Bool)(k:Nat)(a:k<l.j):(l.G (k+1)).any p=((l.G k).any p||p l[k]):=by rw[yF a,List.any_append];simp
def CX{α:Type}(l:List α)(p:α->Bool)(k:Nat)(a:k<l.j):(l.G (k+1)).all p=((l.G k).all p&&p l[k]):=by rw[yF a,List.all_append];simp
def Ip(w:U)(pb:Nat)(cv v1 v2:O)(cs:Ξ)(hp:U3 w pb #[cv,v1,v2] 45)(K:Vh lo 93 w cv cs)(D:∀c∈cs,vV c/\c.d.j<=999/\xn (zj c)<=1000/\∀l∈zj c,∀t∈l.k,0<t.q)(hl:cs.j<=1000):
  c_ e_ 67 #[(π pb)] w λe w'=>e=ε (ι (ko cs))/\μ w w':=by
 obtain⟨ao,a4,rfl⟩:=K.qm;have af:=U2 D;have aq:=U2 λc hc=>(D c hc).1;clear D;go_enter func67,ntmps67;go_wp2;go_loopw [3,4,5,6] (λv3 v4 v5 v6 wr=>∃(k:Nat) (m a s:Bool),k<=cs.j/\v6=ι k/\v3=.i m/\v4=.i a/\v5=.i s/\μ w wr/\U3 wr pb #[.k ao cs.j a4,v1,v2] 45/\X (m=(cs.G k).any lS)/\X (a=(cs.G k).any (p7 cs))/\X (s=(cs.G k).all nH)) (λ_ _ _ i _=>cs.j-(d_ i).D);exact⟨0,false,false,true,zs _,rfl,rfl,rfl,rfl,zn _ _,hp,rfl,rfl,rfl⟩;obtain⟨k,m,a,s,hk,rfl,rfl,rfl,rfl,o,aj,HM,HA,HS⟩:=hrel;obtain⟨bg,be⟩:=aj.H;have aD:=o.q;by_cases h:k<cs.j
 .obtain⟨g,bh,aG,bb,aH,rfl,N⟩:=K.at k h;obtain⟨⟨aY,aM⟩,aX,V,ab⟩:=af.l _ (zr h);have a7:=U2 (wR cs lS k h);have a8:=U2 (wR cs (p7 cs) k h);have au:=U2 (CX cs nH k h);generalize cs[k]=c at *;have A:=U2 V;have an:=U2 ab;have aV:(zu c).j<=1000:=by have:=sK c.d [];unfold zu;simp at this;omega
  have aP:(ux c).j<=1000:=by have h1:=DK c.d (xH [] c.g.k);have h2:=rf c.g.k [];unfold ux;simp at h2;omega
  have aN:(zj c).j<=1000:=by simp[zj];omega
  clear V ab;obtain⟨z,ak⟩:∃z,X (z=((cs.G k).any lS||ip c)):=⟨_,rfl⟩;have HW:(m=true/\X (z=true))∨(m=false/\6<c.d.j/\X (z=true))∨(m=false/\¬6<c.d.j/\5<(ux c).j/\X (z=true))∨(m=false/\¬6<c.d.j/\¬5<(ux c).j/\X (z=false)):=by
   simp only[X,ak.l,←HM.l,ip];cases m<;>by_cases h6:6<c.d.j<;>by_cases h5:5<(ux c).j<;>simp[h6,h5]
  rcases HW with⟨rfl,p⟩|⟨rfl,h6,p⟩|⟨rfl,h6,h5,p⟩|⟨rfl,h6,h5,p⟩
  all_goals
   go_wp2_with (first|(go_at_call 108;have P:=ac;refine(og _ true g (k*4) c _ _ _ _ (by exact N.u P) η A.l an.l).y ?_;rintro e w2 ⟨aZ,rfl,H,J⟩;rw[AV] at H;obtain⟨bf,aE,rfl⟩:=H.qm;have E:=U6 ac J;have ag:=F.u J;have n:=N.u E;have aL:=n.c3;have aC:=n.lt;have bc:=E.q;have am:=(aj.u R).u J;clear P)|(go_at_call 108;have P:=o;refine(og _ false g (k*4) c _ _ _ _ (by exact N.u P) η A.l an.l).y ?_;rintro e w1 ⟨aS,rfl,F,R⟩;rw[PT] at F;obtain⟨ba,aB,rfl⟩:=F.qm;have ac:=U6 o R;clear o P))
   go_loopw [5,10] (λv5 ap wj=>∃(j:Nat) (I:Bool),j<=(ux c).j/\ap=ι j/\v5=.i I/\μ w2 wj/\X (I=(s&&((ux c).G j).all λv=>yr v (zu c)))) (λ_ i _=>(ux c).j-(d_ i).D);exact⟨0,s,zs _,rfl,rfl,zn _ _,(by simp[X])⟩;obtain⟨j,I,hj,rfl,rfl,d,r⟩:=hrel;have aI:=d.q;by_cases T:j<(ux c).j
   .obtain⟨ga,rfl,az,S⟩:=ag.cell j T;have aQ:=zi d az S;have aK:ga<wr.o.q:=η;have f:=CX (ux c) (λv=>yr v (zu c)) j T;clear S;generalize (ux c)[j]=x1 at *;have a6:X ((s&&((ux c).G (j+1)).all λv=>yr v (zu c))=(I&&yr x1 (zu c))):=by rw[X,f,r.l,Bool.and_assoc]
    clear f r;cases I
    all_goals
     go_wp2_with (go_at_call 109;refine(iK _ _ (zu c) x1 (by exact H.u d) η).y ?_;rintro e w' ⟨rfl,a0⟩;obtain rfl:=a0.z)
     go_roundw;exact⟨j+1,_,η,ξ,rfl,d,(by rw[X,a6.l];rfl)⟩;simp[d_];omega
   have av:(ux c).G j=ux c:=yO η;have a3:X (I=(cs.G (k+1)).all nH):=by rw[X,r.l,av,au.l,HS.l];rfl
   clear r;go_wp2_with (go_at_call 68;refine(eS _ g (k*4) c _ _ _ _ (by exact n.u d) η).y ?_;rintro e w3 ⟨lv,rfl,B,Q⟩;obtain⟨aU,aA,rfl⟩:=B.qm;have aa:=U6 E (U6 d Q);have y:=(am.u d).u Q)
   go_loopw [3,4,13] (λv3 v4 ay wq=>∃(q:Nat) (G C:Bool),q<=(zj c).j/\ay=ι q/\v3=.i G/\v4=.i C/\μ w3 wq/\X (G=(z||((zj c).G q).any pB))/\X (C=(a||((zj c).G q).any (kF cs)))) (λ_ _ i _=>(zj c).j-(d_ i).D);exact⟨0,_,a,zs _,rfl,rfl,rfl,zn _ _,(by simp[X,p.l]<;>omega),(by simp[X])⟩;obtain⟨q,G,C,P,rfl,rfl,rfl,b,u,x⟩:=hrel;have aF:=b.q;by_cases L:q<(zj c).j
   .obtain⟨gl,aO,aJ,rfl,M,al,ae,ad,a5⟩:=B.cell q L;have bd:=zi b M al;have aT:=zi b M ae;have aW:=zi b M ad;have aR:gl<wr.o.q:=η;have f:=wR (zj c) pB q L;have W:=wR (zj c) (kF cs) q L;clear al ae ad;generalize (zj c)[q]=a1 at *;have ar:X ((z||((zj c).G (q+1)).any pB)=(G||pB a1)):=by rw[X,f,u.l,h_]
    have ax:X ((a||((zj c).G (q+1)).any (kF cs))=(C||kF cs a1)):=by rw[X,W,x.l,h_]
    clear f W u x;cases G
    all_goals cases C
    all_goals
     go_wp2_with (go_at_call 110;refine(KU _ pb _ _ _ cs a1 _ (by exact y.u b) (by exact K.u (U6 aa b)) aq.l hl (by exact a5.u b)).y ?_;rintro e w5 ⟨rfl,aw⟩)
     go_roundw;exact⟨q+1,_,_,η,ξ,rfl,rfl,U6 b aw,(by rw[X,ar.l];first|rfl|(simp[pB];done)|(simp[pB];omega)),(by rw[X,ax.l];rfl)⟩;simp[d_];omega
   have ai:(zj c).G q=zj c:=yO η;have a9:X (G=(cs.G (k+1)).any lS):=by rw[X,u.l,ai,a7.l,ak.l,lS,h_]
   have a2:X (C=(cs.G (k+1)).any (p7 cs)):=by rw[X,x.l,ai,a8.l,HA.l];rfl
   clear u x;go_wp2;go_roundw;exact⟨k+1,G,C,I,η,ξ,rfl,rfl,rfl,U6 aa b,y.u b,a9,a2,a3⟩;simp[d_];omega
 have ah:cs.G k=cs:=yO η;rw[ah] at HM HA HS;have HW:X (ko cs=if m then 4 else if a then 5 else if s then 0 else 6):=by unfold X ko;rw[←HM.l,←HA.l,←HS.l]
 clear HM HA HS ah;cases m
 all_goals cases a
 all_goals cases s
 all_goals
  go_wp2;go_ret;exact⟨by rw[HW.l];rfl,o⟩
end
def NF(c:zd):lS c=yT c:=by
 unfold lS ip yT zj pB;rw[List.any_cons];generalize decide (6<c.d.j)=a;generalize decide (5<(ux c).j)=b;generalize decide (3<c.g.k.j)=d;generalize (c.d.any λl=>decide (3<l.k.j))=e;cases a<;>cases b<;>cases d<;>cases e<;>rfl
def LI(c:zd):nH c=xu c:=by
 rw[Bool.eq_iff_iff];unfold nH xu;rw[gu,uK,pg,gu];constructor;intro h;have f:=λv (a:v∈ux c)=>qq.1 (h v a);refine⟨λt d a=>f t (et.2 ⟨a,zh d⟩),λl b=>?_⟩;cases e:l.i;rfl;rw[pA,pT,pg];exact λt d a=>f t (et.2 ⟨a,zg ⟨l,b,d⟩⟩);rintro⟨i,j⟩ v a;rw[qq];obtain⟨g,h|⟨l,b,h⟩⟩:=et.1 a;exact i v h g;cases e:l.i;exact fo.2 ⟨g,l,b,e,h⟩;have:=j l b;rw[e,pA,pT,pg] at this;exact this v h g
def Tu(cs:Ξ):cs.any lS=cs.any yT:=by rw[show lS=yT from funext NF]
def JC(cs:Ξ):cs.all nH=cs.all xu:=by rw[show nH=xu from funext LI]
section
variable {t:List zf}
def VT.stop{ls:Ω}{l:zk}(h:VT t ls)(b:vZ t l=Y):∃d∈ls,jL l d=true:=by
 unfold vZ at b;split at b;rename_i e i;obtain⟨g,j⟩:=pS i;split at b;cases b;rename_i f;obtain⟨d,c,a⟩:=(h.names e.name).1 (z9.2 ⟨e,g,rfl⟩);refine⟨d,c,?_⟩;unfold jL;rw[uK,decide_eq_true_eq,decide_eq_true_eq];refine⟨by rw[a,j],?_⟩;rw[h.jh e g d c a];exact f;cases b
def BJ:∀(ls done:Ω) (t:Ψ),VT t done->match ls.foldl uN (Z t) with
  |some f=>VT f (done++ls)
  |none=>∃x∈done++ls,∃y∈done++ls,jL x y=true
 |[],done,t,h=>by simpa using h
 |l::ls,done,t,h=>by
  rw[uQ];cases a:vZ t l with
  |none=>
   rw[show uN (Z t) l=Y from a,sd];obtain⟨d,b,e⟩:=h.stop a;exact⟨l,ζ,d,by simp[b],e⟩
  |some c=>
   rw[show uN (Z t) l=Z c from a];have:=BJ ls (done++[l]) c (h.step a);rwa [jt] at this
def Oq{ls:Ω}(h:VT t ls){x y:zk}(b:x∈ls)(f:y∈ls):jL x y=false:=by
 obtain⟨e,c,a⟩:=z9.1 ((h.names x.o).2 ⟨x,b,rfl⟩);unfold jL;cases d:decide (y.o=x.o);rfl;rw[decide_eq_true_eq] at d;rw[pk,decide_eq_false_iff_not,h.jh e c x b a.z,h.jh e c y f (d.A a.z)];simp
def CL(cs:Ξ):cs.any (p7 cs)=true↔∃x∈cs.flatMap zj,∃y∈cs.flatMap zj,jL x y=true:=by
 simp only[p7,kF,fa,vg];constructor;rintro⟨c,b,x,d,y,a,h⟩;exact⟨x,⟨c,b,d⟩,y,a,h⟩;rintro⟨x,⟨c,b,d⟩,y,a,h⟩;exact⟨c,b,x,d,y,a,h⟩
def LJ{cs:Ξ}(h:xV cs=Y):cs.any (p7 cs)=true:=by
 have:=BJ (cs.flatMap zj) [] [] rH;unfold xV at h;rw[h] at this;rw[CL];simpa using this
def iV{cs:Ξ}(h:xV cs=Z t):cs.any (p7 cs)=false/\VT t (cs.flatMap zj):=by
 have:=BJ (cs.flatMap zj) [] [] rH;unfold xV at h;rw[h] at this;simp only[mo] at this;refine⟨?_,this⟩;rw[←rV,CL];rintro⟨x,c,y,b,a⟩;rw[Oq this c b] at a;cases a
end
section
open Go.Proofs.Tryz Go.RowKit
variable {lo:Nat}{l out:κ}{i:Nat}
def fL(out:κ)(y:ByteArray):Bool:=match out.getLast? with
 |none=>true
 |some z=>UU z y
def ei(o:List Λ)(z y:Λ):fL (o++[z]) y=UU z y:=by simp[fL]
def fx(l out:κ)(i:Nat)(k:Int):Prop:=
 (k=-1/\∀j (a:j<l.j),j<i->fL out l[j]=false)∨∃(q:Nat) (b:q<l.j),k=q/\q<i/\fL out l[q]=true/\∀j (a:j<l.j),j<i->fL out l[j]=true->UU l[j] l[q]=false
def Nx(l out:List Λ):fx l out 0 (-1):=zh ⟨rfl,λ_ _ h=>η⟩
def NZ{k:Int}(h:fx l out i k)(o:i<l.j)(f:fL out l[i]=false):fx l out (i+1) k:=by
 rcases h with⟨d,e⟩|⟨q,g,d,e,m,n⟩
 refine zh ⟨d,λj c b=>?_⟩;rcases dE j i with h|h;exact e j c h;obtain rfl:j=i:=η;exact f;refine zg ⟨q,g,d,η,m,λj c b a=>?_⟩;rcases dE j i with h|h;exact n j c h a;obtain rfl:j=i:=η;rw[f] at a;cases a
def En(h:fx l out i (-1))(f:i<l.j)(e:fL out l[i]=true):fx l out (i+1) i:=by
 rcases h with⟨_,d⟩|⟨q,_,g,_⟩
 refine zg ⟨i,f,rfl,η,e,λj c b a=>?_⟩;rcases dE j i with h|h;rw[d j c h] at a;cases a;obtain rfl:j=i:=η;exact UE _;omega
def Hi{q:Nat}(h:fx l out i q)(o:i<l.j)(p:q<l.j)(n:fL out l[i]=true)(m:UU l[i] l[q]=true):fx l out (i+1) i:=by
 rcases h with⟨f,_⟩|⟨e,g,f,s,r,k⟩
 omega;obtain rfl:q=e:=η;refine zg ⟨i,o,rfl,η,n,λj c b a=>?_⟩;rcases dE j i with h|h;cases d:UU l[j] l[i];rfl;have:=lt_trans d m;rw[k j c h a] at this;cases this;obtain rfl:j=i:=η;exact UE _
def Gc{q:Nat}(h:fx l out i q)(p:i<l.j)(c:q<l.j)(n:UU l[i] l[q]=false):fx l out (i+1) q:=by
 rcases h with⟨f,_⟩|⟨e,k,f,o,g,m⟩
 omega;obtain rfl:q=e:=η;refine zg ⟨q,c,rfl,η,g,λj d b a=>?_⟩;rcases dE j i with h|h;exact m j d h a;obtain rfl:j=i:=η;exact n
structure VW (l out:κ):Prop where
 rising:yw out
 sub:∀x∈out,x∈l
 left:∀y∈l,y∉out->∀z∈out,UU z y=true
 room:out.j+lV l out<=l.j
def JA(l:List Λ):VW l []:=⟨List.Pairwise.nil,λ_ h=>(by cases h),λ_ _ _ _ h=>(by cases h),by rw[IF];simp⟩
def Js{y:Λ}(b:yw out)(h:fL out y=true):∀z∈out,UU z y=true:=by
 intro z a;rcases oj out with e|⟨o,x,e⟩;subst e;cases a;rw[ii] at e;subst e;rw[ei] at h;rcases zW.1 a with a|a;exact lt_trans ((mK.1 b).2.2 z a x ζ) h;simp at a;subst a;exact h
def Gi{y:Λ}(h:∀z∈out,UU z y=true):fL out y=true:=by
 rcases oj out with e|⟨o,x,e⟩;subst e;rfl;rw[ii] at e;subst e;rw[ei];exact h x ζ
def OO{q:Nat}(h:VW l out)(t:q<l.j)(v:fx l out l.j q):VW l (out++[l[q]])/\lV l (out++[l[q]])<lV l out:=by
 rcases v with⟨w,_⟩|⟨C,A,w,_,D,B⟩
 omega;obtain rfl:q=C:=η;have c:=Js h.rising D;have g:l[q]∉out:=λm=>by have:=c _ m;rw[UE] at this;cases this
 have n:=J7 (zr t) g;refine⟨⟨?_,?_,?_,?_⟩,n⟩;exact mK.2 ⟨h.rising,List.pairwise_singleton _ _,λa E b s=>by simp at s;subst s;exact c a E⟩;intro x d;rcases zW.1 d with d|d;exact h.sub x d;simp at d;subst d;exact zr t;intro y p k z e;have f:y∉out:=λm=>k (zW.2 (zh m));rcases zW.1 e with e|e;exact h.left y p f z e;simp at e;subst e;obtain⟨j,u,rfl⟩:=uT p;have o:=Gi (h.left _ p f);have r:=B j u u o;cases d:UU l[q] l[j];exact zC (zW.2 (zg (by simp[sV r d]))) k;rfl;have:=h.room;simp;omega
def Ln(h:VW l out)(c:fx l out l.j (-1)):∀x,x∈out↔x∈l:=by
 intro x;refine⟨h.sub x,λb=>?_⟩;rcases c with⟨_,d⟩|⟨q,_,f,_⟩
 false_or_by_contra
 rename_i e;obtain⟨j,a,rfl⟩:=uT b;have:=Gi (h.left _ b e);rw[d j a a] at this;cases this;omega
def FL(w:U)(v:O)(l:List Λ)(hs:U7 lo w v l)(hl:l.j<=1000):
  c_ e_ 69 #[v] w λe w'=>∃v' r,e=.returned v'/\U7 w.o.q w' v' r/\yw r/\(∀x,x∈r↔x∈l)/\r.j<=l.j/\μ w w':=by
 obtain⟨i0,hi,T,aa,ae⟩:=info_parts Uw;obtain⟨ao,ay,rfl⟩:=hs.qm;go_enter func69,ntmps69;go_wp2;go_loopg [3] (l.j) (λn v3 wr=>∃out:List Λ,X (VW l out)/\lV l out<=n/\μ w wr/\wr.r w.o.q 9 1 v3 out.j (out.map O.string))
 case atStart=>exact⟨[],JA l,by rw[IF];omega,zn _ _,xj _ _ _ _⟩
 obtain⟨out,P,aw,ah,E⟩:=hrel;obtain⟨av,al,rfl⟩:=zq E;have G:=P.l.room;go_wp2;go_loopw [4,5] (λv4 v5 wj=>∃(i:Nat) (H:Int),i<=l.j/\v5=ι i/\v4=ι H/\μ wr wj/\X (fx l out i H)/\X (H=-1∨∃(q:Nat) (_:q<l.j),H=q)) (λ_ i _=>l.j-(d_ i).D)
 case atStart=>exact⟨0,-1,zs _,rfl,rfl,zn _ _,Nx l out,zh rfl⟩
 obtain⟨i,H,ap,rfl,rfl,a,j,u⟩:=hrel;have p:=U6 ah a;have M:=p.q;have s:=zy E a;by_cases b:i<l.j
 .obtain⟨g,rfl,hg,K⟩:=hs.cell i b;have az:=zi p hg K;have aj:g<wr.o.q:=η;clear K;rcases oj out with e|⟨o,z,e⟩
  .subst e;have c:fL [] l[i]=true:=rfl;rcases u.l with D|⟨q,A,C⟩
   .subst D;have t:=U2 (En j.l b c);clear j u c;generalize l[i]=x at *;go_wp2;go_quiet (fail)
    go_wp2;go_roundw;exact⟨i+1,(i:Int),η,ξ,rfl,zG a _,t,zg ⟨i,b,rfl⟩⟩;simp[d_];omega
   subst C;obtain⟨gq,B,k,m⟩:=hs.cell q A;simp at B;subst B;have L:=zi p k m;have Q:decide ((q:Int)<0)=false:=by rw[decide_eq_false_iff_not];omega
   clear m;cases f:UU l[i] l[q]
   .have t:=U2 (Gc j.l b A f);unfold UU at f;clear j u c;generalize l[i]=x at *;generalize l[q]=y at *;go_wp2;go_quiet (fail)
    go_wp2;go_roundw;exact⟨i+1,(q:Int),η,ξ,rfl,zG a _,t,zg ⟨q,A,rfl⟩⟩;simp[d_];omega
   have t:=U2 (Hi j.l b A c f);unfold UU at f;clear j u c;generalize l[i]=x at *;generalize l[q]=y at *;go_wp2;go_quiet (fail)
   go_wp2;go_roundw;exact⟨i+1,(i:Int),η,ξ,rfl,zG a _,t,zg ⟨i,b,rfl⟩⟩;simp[d_];omega
  rw[ii] at e;subst e;obtain⟨go,W,I,_,ab,F⟩:=yt s ζ;simp at I;obtain⟨rfl,_⟩:=I;have aq:=F o.j (.g z) ζ;have ad:((o.j:Int)+1 == 0)=false:=by rw[beq_eq_false_iff_ne];omega
  have an:o.j<o.j+1:=η;have ak:=ab;have ax:o.j<=1000:=by simp at G;omega
  have ar:IntKind.i64.wrap (o.j:Int)=(o.j:Int):=IntWalk.i64_in _ η;clear F;cases d:UU z l[i]
  .have t:=U2 (NZ j.l b (by rw[ei];exact d));cases J:Op.bytesLess l[i].v z.v
   .have S:=qH (sV J d);clear j d;generalize l[i]=x at *;go_wp2;go_quiet (fail)
    go_wp2;go_roundw;exact⟨i+1,H,η,ξ,rfl,zG a _,t,u⟩;simp[d_];omega
   clear j d;generalize l[i]=x at *;go_wp2;go_quiet (fail)
   go_wp2;go_roundw;exact⟨i+1,H,η,ξ,rfl,zG a _,t,u⟩;simp[d_];omega
  have c:fL (o++[z]) l[i]=true:=by rw[ei];exact d
  have J:Op.bytesLess l[i].v z.v=false:=Jl d;have S:(l[i].v == z.v)=false:=vn (λh=>by rw[h,UE] at d;cases d);clear d;rcases u.l with D|⟨q,A,C⟩
  .subst D;have t:=U2 (En j.l b c);clear j u c;generalize l[i]=x at *;go_wp2;go_quiet (fail)
   go_wp2;go_roundw;exact⟨i+1,(i:Int),η,ξ,rfl,zG a _,t,zg ⟨i,b,rfl⟩⟩;simp[d_];omega
  subst C;obtain⟨gq,B,k,m⟩:=hs.cell q A;simp at B;subst B;have L:=zi p k m;have Q:decide ((q:Int)<0)=false:=by rw[decide_eq_false_iff_not];omega
  clear m;cases f:UU l[i] l[q]
  .have t:=U2 (Gc j.l b A f);unfold UU at f;clear j u c;generalize l[i]=x at *;generalize l[q]=y at *;go_wp2;go_quiet (fail)
   go_wp2;go_roundw;exact⟨i+1,(q:Int),η,ξ,rfl,zG a _,t,zg ⟨q,A,rfl⟩⟩;simp[d_];omega
  have t:=U2 (Hi j.l b A c f);unfold UU at f;clear j u c;generalize l[i]=x at *;generalize l[q]=y at *;go_wp2;go_quiet (fail)
  go_wp2;go_roundw;exact⟨i+1,(i:Int),η,ξ,rfl,zG a _,t,zg ⟨i,b,rfl⟩⟩;simp[d_];omega
 have ai:i=l.j:=η;subst ai;rcases u.l with D|⟨q,A,C⟩
 .subst D;have HD:=U2 (Ln P.l j.l);clear j u;go_wp2;go_ret;exact⟨_,out,rfl,s,P.l.rising,HD.l,η,p⟩
 subst C;obtain⟨gq,rfl,k,m⟩:=hs.cell q A;have L:=zi p k m;have aj:gq<wr.o.q:=η;obtain⟨N,a0⟩:=OO P.l A j.l;have af:=U2 N;clear j u m N;generalize l[q]=y at *;go_wp2_with (at_builtin;refine kU _ _ _ _ rfl (.tmp 47) (.tmp 52) 30 rfl w.o.q 9 i0 _ 1 16 underlying30 hi T aa ae rfl θ _ _ _ rfl s (zn _ _) _ _ rfl ζ rfl a_ η η M ?_;intro v' w2 R ac ag V au am;clear ag V)
 go_roundg (lV l (out++[y]))
 case measure=>omega
 exact⟨out++[y],af,ze _,p.A ac,by simpa using R⟩
end
section
variable {ps:κ}{sv:List Nat}{k:Nat}{cs:List zd}
def qe(ps:κ)(sv:List Nat)(n:ByteArray):Nat:=match yG ps n with
 |some k=>sv.getD k 0
 |none=>0
def iw:∀{ps:List Λ} {n:Λ},n∈ps->∃k,yG ps n=Z k
 |[],_,h=>by cases h
 |y::r,n,h=>by
  unfold yG;by_cases e:y=n
  .exact⟨0,by rw[zb e]⟩
  .rw[za e];rcases z7.1 h with h|h
   .exact zC h.z e
   .obtain⟨k,a⟩:=iw h;exact⟨k+1,by rw[a];rfl⟩
def iE{n:Λ}(h:yG ps n=Z k)(a:k<sv.j):qe ps sv n=sv[k]:=by
 unfold qe;rw[h];simp[g_,a]
def JH{m:Λ}(h:yG ps m=Z k)(c:k<sv.j)(s:Nat)(n:Λ):qe ps (sv.set k s) n=if n=m then s else qe ps sv n:=by
 by_cases a:n=m;subst a;rw[zb rfl,iE h (by simpa using c)];simp;rw[za a];unfold qe;rcases e:yG ps n with _|j;rfl;have b:k≠j:=by
  rintro rfl;obtain⟨g,f⟩:=lM h;obtain⟨i,d⟩:=lM e;exact a (d.z.A f)
 simp[g_,b]
def Te(ps:List Λ)(k:Nat)(n:Λ):qe ps (i_ k 0) n=0:=by
 unfold qe;split;simp[g_,List.getElem?_replicate];split<;>rfl
 rfl
def WI(cs:List zd)(ps:κ)(sv:List Nat):Prop:=∀f,Vx cs f->∀n,qe ps sv n<=f n
def Pp(cs:Ξ)(ps:List Λ)(k:Nat):WI cs ps (i_ k 0):=λf _ n=>by rw[Te];omega
def NC(h:WI cs ps sv){c:zd}(i:c∈cs){l:zk}(g:l∈c.d)(d:yG ps c.g.o=Z k)(b:k<sv.j):WI cs ps (sv.set k (qe ps sv l.o+up l)):=by
 intro f a n;rw[JH d b];split;rename_i e;have:=a c i l g;have:=h f a l.o;rw[e];omega;exact h f a n
def Ra(h:WI cs ps sv)(a:∀c∈cs,∀l∈zj c,l.o∈ps){c:zd}(d:c∈cs){l:zk}(i:l∈c.d)(e:ps.j<=qe ps sv l.o+up l):¬∃f,Vx cs f:=by
 rintro⟨g,j⟩;obtain⟨f,b⟩:=Hv j;have m:=B7 b a (a c d c.g (by simp[zj]));have o:=b.1 c d l i;have n:=h f b.1 l.o;omega
def VF(cs:List zd)(ps:κ)(sv:List Nat)(i:Nat):Prop:=∀c∈cs.G i,∀l∈c.d,qe ps sv l.o+up l<=qe ps sv c.g.o
def nK(c:zd)(ps:κ)(sv:List Nat)(k:Nat):Prop:=∀l∈c.d.G k,qe ps sv l.o+up l<=qe ps sv c.g.o
def Nt(cs:Ξ)(ps:List Λ)(sv:Φ):VF cs ps sv 0:=λc a=>by simp at a
def MR(c:zd)(ps:List Λ)(sv:Φ):nK c ps sv 0:=λl a=>by simp at a
def Na{c:zd}(h:nK c ps sv k)(b:k<c.d.j)(d:qe ps sv c.d[k].o+up c.d[k]<=qe ps sv c.g.o):nK c ps sv (k+1):=by
 intro l a;rw[yF b,zW] at a;rcases a with a|a;exact h l a;simp at a;subst a;exact d
def QD{i:Nat}(h:VF cs ps sv i)(d:i<cs.j)(e:nK cs[i] ps sv cs[i].d.j):VF cs ps sv (i+1):=by
 intro c a;rw[yF d,zW] at a;rcases a with a|a;exact h c a;simp at a;subst a;intro l b;exact e l (by rw[yO (ze _)];exact b)
def Lx(h:VF cs ps sv cs.j):Vx cs (qe ps sv):=λc a=>h c (by rw[yO (ze _)];exact a)
def Ms(a:WI cs ps sv)(h:VF cs ps sv cs.j):Vl cs (qe ps sv):=⟨Lx h,a⟩
def FK:∀(sv:Φ) (k s:Nat) (b:k<sv.j),(sv.set k s).sum+sv[k]=sv.sum+s
 |a::r,0,s,_=>by simp;omega
 |a::r,k+1,s,b=>by
  have:=FK r k s (by simpa using b);simp;omega
def FN:∀(sv:Φ) (M:Nat),(∀s∈sv,s<=M)->sv.sum<=sv.j*M
 |[],M,_=>ζ
 |a::r,M,h=>by
  have c:=FN r M λs b=>h s (by simp[b]);have d:=h a ζ;simp only[q7,xp,mn,Nat.one_mul];omega
def Qg{f g:Λ->Nat}(a:Vl cs f)(b:Vl cs g)(n:Λ):f n=g n:=Nat.le_antisymm (a.2 g b.1 n) (b.2 f a.1 n)
end
section
variable {ps:κ}{t:List zf}{cs:List zd}
def A5(h:yw ps){i j:Nat}(c:i<ps.j)(b:j<ps.j)(e:ps[i]=ps[j]):i=j:=by
 unfold yw at h;rw[pd] at h;rcases nE i j with a|a|a;have:=h i j c b a;rw[e,UE] at this;cases this;exact a;have:=h j i b c a;rw[e,UE] at this;cases this
def JR{sv:Φ}(h:yw ps)(e:sv.j=ps.j){k:Nat}(b:k<ps.j):qe ps sv ps[k]=sv[k]:=by
 obtain⟨j,a⟩:=iw (zr b);obtain⟨c,d⟩:=lM a;have:=A5 h c b d;subst this;exact iE a η
def Nw(h:yw (U4 t)){k:Nat}(a:k<t.j):val t t[k].name=t[k].L:=by
 unfold val;rcases c:zO t t[k].name with _|e;exact zC rfl (mF h c t[k] (zr a));obtain⟨d,b,f⟩:=qr c;have g:=A5 h (by simpa [U4] using d) (by simpa [U4] using a) (by simp[U4,b,f]);simp only;rw[←b];congr 1;congr 1
def ir(h:VT t (cs.flatMap zj)):gC t cs:=by
 intro c f l a;rcases g:zO t l.o with _|e;obtain⟨e,b,d⟩:=z9.1 ((h.names l.o).2 ⟨l,vg.2 ⟨c,f,a⟩,rfl⟩);exact zC d (mF h.rise g e b);rfl
def Dk(h:∀e∈t,e.L<=0)(n:Λ):val t n=0:=by
 unfold val;split;rename_i e a;have:=h e (pS a).1;omega;rfl
inductive hO (s:Λ):Except Int (Ξ×List Λ×Φ)->Prop
 |long:500<s.q->hO s (.error 1)
 |lex:¬500<s.q->xC s.q s=none->hO s (.error 2)
 |parse {l:List Λ}:¬500<s.q->xC s.q s=some l->vS l=none->hO s (.error 3)
 |wrong {l:List Λ} {cs:Ξ}:¬500<s.q->xC s.q s=some l->vS l=some cs->ko cs≠0->hO s (.error (ko cs))
 |strata {l:List Λ} {cs:Ξ}:¬500<s.q->xC s.q s=some l->vS l=some cs->ko cs=0->(¬∃f,Vx cs f)->hO s (.error 7)
 |ok {l:List Λ} {cs:Ξ} {ps:List Λ} {sv:Φ}:¬500<s.q->xC s.q s=some l->vS l=some cs->ko cs=0->yw ps->(∀n,n∈ps↔∃x∈cs.flatMap zj,x.o=n)->sv.j=ps.j->Vl cs (qe ps sv)->hO s (.ok (cs,ps,sv))
def iN:Except Int (List zd×List zf)->Except Int (List zd×κ×List Nat)
 |.error k=>.error k
 |.ok (cs,t)=>.ok (cs,U4 t,t.map zf.L)
def iv{s:Λ}{l:List Λ}(h:xC s.q s=Z l):∃a,UG s=Z a/\vS l=yW a.j a.j a:=by
 have b:=By s;rw[h] at b;rcases c:UG s with _|a;rw[sU,c] at h;cases h;rw[c] at b;exact⟨a,rfl,b⟩
def Bz:(ko cs=4/\cs.any yT=true)∨(ko cs=5/\cs.any yT=false/\xV cs=Y)∨(∃t,cs.any yT=false/\xV cs=Z t/\((ko cs=6/\cs.all xu=false)∨(ko cs=0/\cs.all xu=true))):=by
 unfold ko;rw[Tu,JC];cases b:cs.any yT;right;rcases a:xV cs with _|t;left;rw[LJ a];exact⟨rfl,rfl,rfl⟩;right;refine⟨t,rfl,rfl,?_⟩;rw[(iV a).1];cases c:cs.all xu;exact zh ⟨rfl,rfl⟩;exact zg ⟨rfl,rfl⟩;exact zh ⟨rfl,rfl⟩
def I5(h:xV cs=Z t):∀e∈t,e.L<=0:=eO _ [] (λe a=>by cases a) t h
def C0{s:Λ}{r:Except Int (Ξ×List Λ×Φ)}(h:hO s r):iN (uH s)=r:=by
 cases h with
 |long h=>unfold uH;rw[zb h];rfl
 |lex h d=>
  unfold uH;rw[za h];rw[sU] at d;rcases E:UG s with _|q;rfl;rw[E] at d;cases d
 |parse h d j=>
  obtain⟨q,i,f⟩:=iv d;rw[j] at f;unfold uH;rw[za h,i];simp only;rw[←f];rfl
 |wrong h d j g=>
  rename_i cs;obtain⟨q,i,f⟩:=iv d;rw[j] at f;unfold uH;rw[za h,i];simp only;rw[←f];simp only;rcases Bz (cs:=cs) with⟨e,a⟩|⟨e,a,b⟩|⟨t,a,b,⟨e,c⟩|⟨e,c⟩⟩
  rw[e,a];rfl;rw[e,a,b];rfl;rw[e,a,b];simp only;rw[c];rfl;exact zC e g
 |strata h d j g x=>
  rename_i cs;obtain⟨q,i,f⟩:=iv d;rw[j] at f;unfold uH;rw[za h,i];simp only;rw[←f];simp only;rcases Bz (cs:=cs) with⟨e,a⟩|⟨e,a,b⟩|⟨t,a,b,⟨e,c⟩|⟨e,c⟩⟩
  rw[g] at e;cases e;rw[g] at e;cases e;rw[g] at e;cases e;rw[a,b];simp only;rw[c];have u:=sW (ir (iV b).2) (Dk (I5 b));have:(xX (t.j+1) t cs).2=false:=by rw[←rV];exact λe=>x (u.1.1 e)
  rw[this];rfl
 |ok h d j g v G B A=>
  rename_i l cs ps H;obtain⟨q,i,f⟩:=iv d;rw[j] at f;unfold uH;rw[za h,i];simp only;rw[←f];simp only;rcases Bz (cs:=cs) with⟨e,a⟩|⟨e,a,b⟩|⟨t,a,b,⟨e,c⟩|⟨e,c⟩⟩
  rw[g] at e;cases e;rw[g] at e;cases e;rw[g] at e;cases e;rw[a,b];simp only;rw[c];have p:=(iV b).2;have u:=sW (ir p) (Dk (I5 b));have m:=u.1.2 ⟨_,A.1⟩;have o:=u.2 m;have C:=wt (t.j+1) t cs (ir p);rw[m];simp only[if_true,fh,if_false,iN];generalize (xX (t.j+1) t cs).1=D at o C;have w:=C.A (Cm p.rise v λn=>(p.names n).A (G n).z);subst w;have y:D.map zf.L=H:=by
   apply qR (by rw[B];simp[U4]);intro k z I;have F:k<D.j:=by simpa using z
   have K:=JR v B (k:=k) η;have J:=Nw v F;rw[←K,Qg A o];simp only[U4,xM];exact J.z
  rw[y]
end
end Go.Proofs.YteampbddflhngaaGreat
