import Derived.ProofKit
import Derived.ChangeSlices
import Derived.Deep.Slices
import Derived.Deep.Strs
import Derived.SizedLaws
import Derived.Test.YteampbddflhngaaGreatR01
namespace Go.Proofs.YteampbddflhngaaGreat
open List renaming length→List.j,getD→List.g,take→List.G,map→List.w,toArray→List.F,foldl→List.H
open _root_.Array renaming size→Array.q,getD→Array.g,toList→Array.v,map→Array.w,foldl→Array.H
open _root_.ByteArray renaming size→ByteArray.q,toList→ByteArray.v
open Go.RowKit.Below renaming size→Go.RowKit.Below.q,setCell→Go.RowKit.Below.x,mono→Go.RowKit.Below.y,trans→Go.RowKit.Below.A
open Go.TypeInfo renaming size→Go.TypeInfo.q
open Go.RowKit.Hid renaming out→Go.RowKit.Hid.l
open Go.World renaming heap→Go.World.o,setCell→Go.World.x,ownsRow→Go.World.r
open Go.Value renaming string→Go.Value.d,bool→Go.Value.i,cells→Go.Value.E
open Go.TypeDesc renaming string→Go.TypeDesc.d,bool→Go.TypeDesc.i
open Option renaming getD→Option.g,toList→Option.v,map→Option.w,isSome→Option.I,some→Z,none→Y
open Go.Calls renaming mono→Go.Calls.y
open Eq renaming trans→Eq.A,symm→Eq.z
open Iff renaming trans→Iff.A,symm→Iff.z
open List.IsPrefix renaming trans→List.IsPrefix.A
open Go.Obj renaming cells→Go.Obj.E
open Int renaming toNat→Int.D
open UInt8 renaming toNat→UInt8.D
open Ne renaming symm→Ne.z
open Go.RowKit renaming Hid→X
open Go renaming World→U,Value→O
set_option linter.all false
set_option maxRecDepth 100000
set_option maxHeartbeats 2000000
section
open Go.Proofs.Tryz Go.ChangeShapes Go.WideShapes Go.ChangeAt Go.RowKit Go.Deep
def SI:ownKnob prog.godebug=none:=χ
def SX:laidOutB prog=true:=χ
def SO:prog.cellsOf 3=1:=χ
def UZ{w:U}{b o:Nat}{u:O}(h:w.cell? (ω b o)=Z u):b<w.o.q:=by
 unfold U.cell? at h;false_or_by_contra
 rename_i a;rw[Array.getElem?_eq_none (by simpa using a)] at h;simp at h
end
section
open Go.Proofs.Tryz Go.RowKit
variable {lo:Nat}
def DX(w:U)(m vb:O)(l:κ)(q:Tn lo w m l){f:Nat}(r:Tn f w vb l)(C:l.j<=281474976710656):
  Calls prog 44 #[m,vb] w λe z=>e=ε (.i true)/\μ w z:=by
 obtain⟨D,s,rfl⟩:=q.qy;obtain⟨v,j,rfl⟩:=r.qy;go_enter func44,ntmps44;go_wp2;go_loopw [5] (λi wr=>∃k:Nat,k<=l.j/\i=ι k/\μ w wr) (λi _=>l.j-(intOf i).D);exact⟨0,zs _,rfl,zn _ _⟩;obtain⟨k,E,rfl,a⟩:=hrel;have n:=a.q;by_cases d:k<l.j
 .obtain⟨g,rfl,t,c⟩:=q.cell k d;obtain⟨A,rfl,h,b⟩:=r.cell k d;have u:=zi a t c;have p:=zi a h b;have y:g<wr.o.q:=η;have o:A<wr.o.q:=η;have B:=jt (rfl:l[k]=l[k]);clear c b;generalize l[k]=x at *;go_wp2;go_quiet (fail)
  go_wp2;go_roundw;exact⟨k+1,η,ξ,zI a _⟩;simp[intOf];omega
 go_wp2;go_ret;exact⟨rfl,a⟩
def rD:∀{l:κ},(∀t∈l,0<t.q)->l≠[]->0<(y6 l).q
 |[],_,h=>zB rfl h
 |[t],h,_=>h t ζ
 |t::u::r,h,_=>by
  have:=h t ζ;show 0<(t++ug++y6 (u::r)).q;rw[ByteArray.size_append,ByteArray.size_append];omega
def rC{s:ByteArray}(h:0<s.q):(s.v == [])=false:=by
 rw[kd,beq_eq_false_iff_ne];intro a;have:s.data.v.j=s.q:=nE;rw[a] at this;simp at this;omega
def Gt(w:U)(l:zj)(V:O)(hs:Tn lo w V l.k)(hf:sB l):
  Calls prog 46 #[.agg #[.i l.i,.d l.o,V]] w λe w'=>e=ε (.d (xd l))/\μ w w':=by
 obtain⟨ao,A,rfl⟩:=hs.qy;obtain⟨h1,h2,h3,W⟩:=hf;have z:=Tg W;have aa:ke.q=1:=rfl;clear W;cases C:l.i
 .have f:gI l=l.o:=by unfold gI;rw[C];rfl
  have S:(l.o).q<=7:=by rw[←f];exact oy h1
  have c:X (xd l=if l.k.j=0 then l.o else l.o++jj++y6 l.k++fT):=by rw[X,←f];rfl
  clear f C;go_enter func46,ntmps46;go_wp2;go_loopw [4,5] (λF E wr=>∃(k:Nat) (s:ByteArray),k<=l.k.j/\E=ι k/\F=.d s/\s.q<=8*k/\X (s=y6 (l.k.G k))/\μ w wr/\Th wr w.o.q #[.i false,.d l.o,.slice ao l.k.j A] 90) (λ_ i _=>l.k.j-(intOf i).D);exact⟨0,_,zs _,rfl,rfl,zg _,rfl,γ,Th.new _ _ _⟩;obtain⟨k,s,hk,rfl,rfl,L,H,d,j⟩:=hrel;have B:=d.q;obtain⟨hc,M,G⟩:=j.e;by_cases n:k<l.k.j
  .obtain⟨g,rfl,J,p⟩:=hs.cell k n;have K:=zi d J p;have Q:g<wr.o.q:=η;have q:=sE n;have D:=(z.l _ (zq n)).2;clear p;generalize l.k[k]=x at *;by_cases b:k=0
   .have a:s=ByteArray.empty:=by rw[H.l,b];rfl
    have y:X (s++x=y6 (l.k.G (k+1))):=by rw[X,q,zb b,a];simp
    have m:(s.v == [])=true:=by rw[a,kd];rfl
    subst b;clear q H a;go_wp2;go_roundw;exact⟨1,s++x,η,ξ,rfl,(by rw[ByteArray.size_append];omega),y,γ,j⟩;simp[intOf];omega
   have y:X (s++ug++x=y6 (l.k.G (k+1))):=by rw[X,q,za b,H.l]
   have o:0<s.q:=by
    rw[H.l];refine rD (λt u=>(z.l t (gH u)).1) ?_;intro h;have:=congrArg List.length h;rw[vc,qW] at this;omega
   have m:=rC o;have r:ug.q=2:=rfl;have I:(s++ug).q=s.q+2:=by rw[ByteArray.size_append,r]
   clear q H;go_wp2;go_roundw;exact⟨k+1,s++ug++x,η,ξ,rfl,(by rw[ByteArray.size_append];omega),y,γ,j⟩;simp[intOf];omega
  have a:s=y6 l.k:=by rw[H.l,yV η]
  by_cases b:l.k.j=0
  .have m:(s.v == [])=true:=by
    have e:=lP b;rw[a,e,y6,kd];rfl
   have v:X (xd l=l.o):=by rw[X,c.l,zb b]
   clear c H a;go_wp2;go_ret;exact⟨by rw[v.l];rfl,d⟩
  have o:0<s.q:=by
   rw[a];exact rD (λt u=>(z.l t u).1) (λe=>b (by rw[e];rfl))
  have m:=rC o;have v:X (xd l=l.o++jj++s++fT):=by rw[X,c.l,za b,a]
  have R:jj.q=1:=rfl;have T:fT.q=1:=rfl;have P:(l.o++jj).q<=8:=by rw[ByteArray.size_append];omega
  have N:(l.o++jj++s).q<=8+8*k:=by rw[ByteArray.size_append];omega
  clear c H a;go_wp2;go_ret;exact⟨by rw[v.l];rfl,d⟩
 have f:gI l=ke++l.o:=by unfold gI;rw[C];rfl
 have S:(ke++l.o).q<=7:=by rw[←f];exact oy h1
 have c:X (xd l=if l.k.j=0 then ke++l.o else ke++l.o++jj++y6 l.k++fT):=by rw[X,←f];rfl
 clear f C;go_enter func46,ntmps46;go_wp2;go_loopw [4,5] (λF E wr=>∃(k:Nat) (s:ByteArray),k<=l.k.j/\E=ι k/\F=.d s/\s.q<=8*k/\X (s=y6 (l.k.G k))/\μ w wr/\Th wr w.o.q #[.i true,.d l.o,.slice ao l.k.j A] 90) (λ_ i _=>l.k.j-(intOf i).D);exact⟨0,_,zs _,rfl,rfl,zg _,rfl,γ,Th.new _ _ _⟩;obtain⟨k,s,hk,rfl,rfl,L,H,d,j⟩:=hrel;have B:=d.q;obtain⟨hc,M,G⟩:=j.e;by_cases n:k<l.k.j
 .obtain⟨g,rfl,J,p⟩:=hs.cell k n;have K:=zi d J p;have Q:g<wr.o.q:=η;have q:=sE n;have D:=(z.l _ (zq n)).2;clear p;generalize l.k[k]=x at *;by_cases b:k=0
  .have a:s=ByteArray.empty:=by rw[H.l,b];rfl
   have y:X (s++x=y6 (l.k.G (k+1))):=by rw[X,q,zb b,a];simp
   have m:(s.v == [])=true:=by rw[a,kd];rfl
   subst b;clear q H a;go_wp2;go_roundw;exact⟨1,s++x,η,ξ,rfl,(by rw[ByteArray.size_append];omega),y,γ,j⟩;simp[intOf];omega
  have y:X (s++ug++x=y6 (l.k.G (k+1))):=by rw[X,q,za b,H.l]
  have o:0<s.q:=by
   rw[H.l];refine rD (λt u=>(z.l t (gH u)).1) ?_;intro h;have:=congrArg List.length h;rw[vc,qW] at this;omega
  have m:=rC o;have r:ug.q=2:=rfl;have I:(s++ug).q=s.q+2:=by rw[ByteArray.size_append,r]
  clear q H;go_wp2;go_roundw;exact⟨k+1,s++ug++x,η,ξ,rfl,(by rw[ByteArray.size_append];omega),y,γ,j⟩;simp[intOf];omega
 have a:s=y6 l.k:=by rw[H.l,yV η]
 by_cases b:l.k.j=0
 .have m:(s.v == [])=true:=by
   have e:=lP b;rw[a,e,y6,kd];rfl
  have v:X (xd l=ke++l.o):=by rw[X,c.l,zb b]
  clear c H a;go_wp2;go_ret;exact⟨by rw[v.l];rfl,d⟩
 have o:0<s.q:=by
  rw[a];exact rD (λt u=>(z.l t u).1) (λe=>b (by rw[e];rfl))
 have m:=rC o;have v:X (xd l=ke++l.o++jj++s++fT):=by rw[X,c.l,za b,a]
 have R:jj.q=1:=rfl;have T:fT.q=1:=rfl;have P:(ke++l.o++jj).q<=8:=by rw[ByteArray.size_append];omega
 have N:(ke++l.o++jj++s).q<=8+8*k:=by rw[ByteArray.size_append];omega
 clear c H a;go_wp2;go_ret;exact⟨by rw[v.l];rfl,d⟩
end
section
open Go.RowKit
def CW(B:Nat)(w:U)(c g e:Nat):Prop:=B<=c/\∃b a f d,Th w c #[b,ν,ν,ν,ι 0,ι 0,ι 0,ν,.i true,a,ν,ν,ν,ν] 35 ∧
 w.r B 40 2 b g f/\w.r B 9 1 a e d
end
section
open Go.Proofs.Tryz Go.RowKit
def CP{x:ByteArray}(h:(x.v == [44])=true):TK (Tr x 0)=false:=by
 rw[beq_iff_eq,kd] at h;obtain⟨⟨l⟩⟩:=x;simp at h;subst h;rfl
def Qr(w:U)(v:O)(L:κ)(z:Bool)(Q:SV w v L)(T:∀y∈L,0<y.q)(a5:L.j<=500)(hb:TV L z=false)(a0:¬L.j=0)(hs:xe (Tr (gB L 0) 0)=true)(aD:¬L.j=1)(a3:¬L.j<4)(ay:¬L.j%2=1)(E:((gB L 1).v == [40])=true)(D:((gB L (L.j-1)).v == [41])=true):
  Calls prog 152 #[v,.i z] w λe I=>kg (xC false L) w e I:=by
 obtain⟨i0,hi,N,am,aa⟩:=info_parts SL;have c:=nK hb;obtain⟨aC,aq,rfl⟩:=Q.qy;have ad:0<(gB L 0).q:=by rw[←xJ (by omega:0<L.j)];exact T _ (zq _)
 obtain⟨b,o,rfl,S,n⟩:=Q.E η;have V:=n 0 η;have af:=n 1 η;have ac:=n (L.j-1) η;rw[xJ η] at V af ac;rw[vr] at V;have aj:=Tg n;clear n;have aA:((L.j:Int) == 0)=false:=by rw[beq_eq_false_iff_ne];omega
 have a9:((L.j:Int) == 1)=false:=by rw[beq_eq_false_iff_ne];omega
 have a8:((L.j:Int)%2 == 1)=false:=by rw[beq_eq_false_iff_ne];omega
 rcases c with c|⟨_,c⟩|⟨⟨_,c⟩,rfl⟩;omega
 all_goals
  go_enter func152,ntmps152;go_wp2_with (go_at_call 184;refine(gA _ _ ad).y ?_;rintro e I ⟨rfl,rfl⟩)
  go_loopw [9] (λi wr=>∃(k:Nat) (av:O),2<=k/\k<=L.j-1/\i=ι k/\X (qs L k=true)/\μ w wr/\Th wr w.o.q #[.i false,.d ByteArray.empty,ν] 90/\Th wr (w.o.q+1) #[.i false,.d (gB L 0),av] 90/\wr.r w.o.q 9 1 av (vm L k).j ((vm L k).map O.string)) (λi _=>L.j-(intOf i).D);exact⟨2,_,zg _,η,rfl,by simp[X,qs],γ,(Th.new w _ _).u zP,Th.newAt _ _ _ _ ζ,xp _ _ _ _⟩;obtain⟨k,av,t,hk,rfl,H,s,f,j,a⟩:=hrel;obtain⟨C,m,rfl⟩:=zr a;obtain⟨az,aB⟩:=j.H;obtain⟨A,a2⟩:=f.H;have ao:=s.q;have ax:=j.lt;have ar:=Av L k;by_cases a1:k<L.j-1
  .have ah:=(s.cell (p:=(ω b (o+k))) S).A (aj.l k η);have a6:b<wr.o.q:=η;have a7:k<L.j:=η;have g:0<L[k].q:=T _ (zq _);rw[xJ (by omega:k<L.j)] at ah g;have F:vm L (k+1)=vm L k++(if 2<=k/\k%2=0 then [gB L k] else []):=rfl;have u:qs L (k+1)=(qs L k&&(decide (k<2)||UV L k)):=rfl;rw[H.l,decide_eq_false (by omega:¬k<2),nY,p8] at u;have x:X (UV L k=false->qs L (L.j-1)=false):=λh=>Ip (i:=k+1) (by rw[u,h]) _ η;unfold UV at u x;by_cases l:k%2=0
   .rw[zb l] at u x;rw[zb ⟨t,l⟩] at F;have ab:((k:Int)%2 == 0)=true:=by rw[beq_iff_eq];omega
    have ae:((k:Int)%2 == 1)=false:=by rw[beq_eq_false_iff_ne];omega
    have P:=Tg F;have B:=Tg u;clear F u l;cases G:TK (Tr (gB L k) 0)
    .have K:X (xC false L=Y):=by unfold X xC;rw[za η,hs,za ζ,za η,za (by rw[E,D];simp;omega),x.l G];simp
     clear x P B;generalize gB L k=W at *;go_wp2_with (go_at_call 185;refine(nF _ _ g).y ?_;rintro e I ⟨rfl,d⟩;obtain rfl:=d.z)
     rw[K.l];exact zO (v:=.tuple #[.agg #[.i false,.d (gB L 0),.slice C (vm L k).j m],.i false]) (by simp[results,results152,go_sem,A];try rfl) rfl ⟨γ,_,_,_,_,_,rfl⟩
    rw[G] at B;clear x;generalize gB L k=W at *;generalize ag:vm L k=ak at *;clear ag;go_wp2_with (go_at_call 185;refine(nF _ _ g).y ?_;rintro e I ⟨rfl,d⟩;obtain rfl:=d.z)
    go_region_law (first|(refine BE wr _ [.d W] 9 rfl (.tmp 103) (.tmp 108) 30 rfl w.o.q 9 i0 _ 1 16 underlying30 hi N am aa rfl θ _ _ _ (by simp[Act.eval]) a γ wr.o.q 1 (by simp[Act.eval]) (by exact Th.drew (Th.newAt _ _ _ _ rfl)) rfl a_ η η s.q ?_;intro v' w2 J an t aw;obtain⟨ai,R,rfl⟩:=zr J;have q:=Th.keep (Th.drew (j.u zP)) (mn a j θ) t;have M:=Th.keep (Th.drew (f.u zP)) (mn a f θ) t;obtain⟨au,ap⟩:=q.H))
    all_goals
     go_wp2;go_roundw;exact⟨k+1,_,η,η,ξ,B,(s.A an).x ζ _,M.set_ne η _ _,q.set 2 _,by rw[P.l];have:=xL J ((Tu.refl (w.o.q+1) w2).x 2 (.slice ai (ak.j+1) R)) q θ;simpa using this⟩;simp[intOf];omega
   rw[za l] at u x;rw[za η,qb] at F;have ab:((k:Int)%2 == 0)=false:=by rw[beq_eq_false_iff_ne];omega
   have ae:((k:Int)%2 == 1)=true:=by rw[beq_iff_eq];omega
   have P:=Tg F;have B:=Tg u;clear F u l;cases G:((gB L k).v == [44])
   .have K:X (xC false L=Y):=by unfold X xC;rw[za η,hs,za ζ,za η,za (by rw[E,D];simp;omega),x.l G];simp
    clear x P B;generalize gB L k=W at *;go_wp2_with (go_at_call 185;refine(nF _ _ g).y ?_;rintro e I ⟨rfl,d⟩;obtain rfl:=d.z)
    rw[K.l];exact zO (v:=.tuple #[.agg #[.i false,.d (gB L 0),.slice C (vm L k).j m],.i false]) (by simp[results,results152,go_sem,A];try rfl) rfl ⟨γ,_,_,_,_,_,rfl⟩
   rw[G] at B;have a4:=CP G;clear x;generalize gB L k=W at *;go_wp2_with (go_at_call 185;refine(nF _ _ g).y ?_;rintro e I ⟨rfl,d⟩;obtain rfl:=d.z)
   go_roundw;exact⟨k+1,_,η,η,ξ,B,s,f,j,by rw[P.l];exact a⟩;simp[intOf];omega
  have al:k=L.j-1:=η;have K:X (xC false L=Z ⟨false,gB L 0,vm L k⟩):=by unfold X xC;rw[za η,hs,za ζ,za η,za (by rw[E,D];simp;omega),←al,H.l];simp
  clear H;generalize vm L k=ak at *;go_wp2;rw[K.l];exact zO (v:=.tuple #[.agg #[.i false,.d (gB L 0),.slice C ak.j m],.i true]) (by simp[results,results152,go_sem,A]) rfl ⟨γ,_,rfl,xL (r:=w.o.q) a ψ f θ⟩
def JE(w:U)(v:O)(x:ByteArray)(L:κ)(hv:SV w v (x::L))(T:∀y∈L,0<y.q)(hx:(x.v == [33])=true)(a8:L.j<=500)(a3:¬L.j=0)(hs:xe (Tr (gB L 0) 0)=true)(aH:¬L.j=1)(a6:¬L.j<4)(a1:¬L.j%2=1)(E:((gB L 1).v == [40])=true)(D:((gB L (L.j-1)).v == [41])=true):
  Calls prog 152 #[v,.i false] w λe I=>kg (xC true L) w e I:=by
 obtain⟨i0,hi,N,an,aa⟩:=info_parts SL;obtain⟨aE,ax,rfl⟩:=hv.qy;obtain⟨b1,o1,rfl,ap,z⟩:=hv.E ζ;have al:=z 0 ζ;rw[vr,dZ] at al;clear z;have ad:0<(gB L 0).q:=by rw[←xJ (by omega:0<L.j)];exact T _ (zq _)
 have aD:((L.j:Int) == 0)=false:=by rw[beq_eq_false_iff_ne];omega
 have aC:((L.j:Int) == 1)=false:=by rw[beq_eq_false_iff_ne];omega
 have aB:((L.j:Int)%2 == 1)=false:=by rw[beq_eq_false_iff_ne];omega
 go_enter func152,ntmps152;go_wp2_with (first|(refine jF _ w rfl (.tmp 26) 30 9 (Z (.const (ι 1))) Y rfl underlying30 i0 hi SZ _ (x::L) rfl hv 1 (L.j+1) (ze rfl) (zh ⟨rfl,rfl⟩) η ζ L.j η ?_;intro aG au Q;simp only[mF,fx,uW] at Q;obtain⟨b,o,rfl,S,m⟩:=Q.E η;have V:=m 0 η;have af:=m 1 η;have ac:=m (L.j-1) η;rw[xJ η] at V af ac;rw[vr] at V;have aj:=Tg m;clear m)|(go_at_call 184;refine(gA _ _ ad).y ?_;rintro e I ⟨rfl,rfl⟩))
 go_loopw [9] (λi wr=>∃(k:Nat) (av:O),2<=k/\k<=L.j-1/\i=ι k/\X (qs L k=true)/\μ w wr/\Th wr w.o.q #[.i false,.d ByteArray.empty,ν] 90/\Th wr (w.o.q+1) #[.i true,.d (gB L 0),av] 90/\wr.r w.o.q 9 1 av (vm L k).j ((vm L k).map O.string)) (λi _=>L.j-(intOf i).D);exact⟨2,_,zg _,η,rfl,by simp[X,qs],γ,(Th.new w _ _).u zP,Th.newAt _ _ _ _ ζ,xp _ _ _ _⟩;obtain⟨k,av,s,hk,rfl,H,q,d,g,a⟩:=hrel;obtain⟨C,l,rfl⟩:=zr a;obtain⟨a2,aF⟩:=g.H;obtain⟨A,a5⟩:=d.H;have aq:=q.q;have a0:=g.lt;have aw:=Av L k;by_cases a4:k<L.j-1
 .have ah:=(q.cell (p:=(ω b (o+k))) S).A (aj.l k η);have a9:b<wr.o.q:=η;have aA:k<L.j:=η;have f:0<L[k].q:=T _ (zq _);rw[xJ (by omega:k<L.j)] at ah f;have F:vm L (k+1)=vm L k++(if 2<=k/\k%2=0 then [gB L k] else []):=rfl;have t:qs L (k+1)=(qs L k&&(decide (k<2)||UV L k)):=rfl;rw[H.l,decide_eq_false (by omega:¬k<2),nY,p8] at t;have u:X (UV L k=false->qs L (L.j-1)=false):=λh=>Ip (i:=k+1) (by rw[t,h]) _ η;unfold UV at t u;by_cases j:k%2=0
  .rw[zb j] at t u;rw[zb ⟨s,j⟩] at F;have ab:((k:Int)%2 == 0)=true:=by rw[beq_iff_eq];omega
   have ae:((k:Int)%2 == 1)=false:=by rw[beq_eq_false_iff_ne];omega
   have P:=Tg F;have B:=Tg t;clear F t j;cases G:TK (Tr (gB L k) 0)
   .have K:X (xC true L=Y):=by unfold X xC;rw[za η,hs,za ζ,za η,za (by rw[E,D];simp;omega),u.l G];simp
    clear u P B;generalize gB L k=W at *;go_wp2_with (go_at_call 185;refine(nF _ _ f).y ?_;rintro e I ⟨rfl,c⟩;obtain rfl:=c.z)
    rw[K.l];exact zO (v:=.tuple #[.agg #[.i true,.d (gB L 0),.slice C (vm L k).j l],.i false]) (by simp[results,results152,go_sem,A];try rfl) rfl ⟨γ,_,_,_,_,_,rfl⟩
   rw[G] at B;clear u;generalize gB L k=W at *;generalize ag:vm L k=ak at *;clear ag;go_wp2_with (go_at_call 185;refine(nF _ _ f).y ?_;rintro e I ⟨rfl,c⟩;obtain rfl:=c.z)
   go_region_law (first|(refine BE wr _ [.d W] 9 rfl (.tmp 103) (.tmp 108) 30 rfl w.o.q 9 i0 _ 1 16 underlying30 hi N an aa rfl θ _ _ _ (by simp[Act.eval]) a γ wr.o.q 1 (by simp[Act.eval]) (by exact Th.drew (Th.newAt _ _ _ _ rfl)) rfl a_ η η q.q ?_;intro v' w2 J ao s az;obtain⟨ai,R,rfl⟩:=zr J;have n:=Th.keep (Th.drew (g.u zP)) (mn a g θ) s;have M:=Th.keep (Th.drew (d.u zP)) (mn a d θ) s;obtain⟨ay,ar⟩:=n.H))
   all_goals
    go_wp2;go_roundw;exact⟨k+1,_,η,η,ξ,B,(q.A ao).x ζ _,M.set_ne η _ _,n.set 2 _,by rw[P.l];have:=xL J ((Tu.refl (w.o.q+1) w2).x 2 (.slice ai (ak.j+1) R)) n θ;simpa using this⟩;simp[intOf];omega
  rw[za j] at t u;rw[za η,qb] at F;have ab:((k:Int)%2 == 0)=false:=by rw[beq_eq_false_iff_ne];omega
  have ae:((k:Int)%2 == 1)=true:=by rw[beq_iff_eq];omega
  have P:=Tg F;have B:=Tg t;clear F t j;cases G:((gB L k).v == [44])
  .have K:X (xC true L=Y):=by unfold X xC;rw[za η,hs,za ζ,za η,za (by rw[E,D];simp;omega),u.l G];simp
   clear u P B;generalize gB L k=W at *;go_wp2_with (go_at_call 185;refine(nF _ _ f).y ?_;rintro e I ⟨rfl,c⟩;obtain rfl:=c.z)
   rw[K.l];exact zO (v:=.tuple #[.agg #[.i true,.d (gB L 0),.slice C (vm L k).j l],.i false]) (by simp[results,results152,go_sem,A];try rfl) rfl ⟨γ,_,_,_,_,_,rfl⟩
  rw[G] at B;have a7:=CP G;clear u;generalize gB L k=W at *;go_wp2_with (go_at_call 185;refine(nF _ _ f).y ?_;rintro e I ⟨rfl,c⟩;obtain rfl:=c.z)
  go_roundw;exact⟨k+1,_,η,η,ξ,B,q,d,g,by rw[P.l];exact a⟩;simp[intOf];omega
 have am:k=L.j-1:=η;have K:X (xC true L=Z ⟨true,gB L 0,vm L k⟩):=by unfold X xC;rw[za η,hs,za ζ,za η,za (by rw[E,D];simp;omega),←am,H.l];simp
 clear H;generalize vm L k=ak at *;go_wp2;rw[K.l];exact zO (v:=.tuple #[.agg #[.i true,.d (gB L 0),.slice C ak.j l],.i true]) (by simp[results,results152,go_sem,A]) rfl ⟨γ,_,rfl,xL (r:=w.o.q) a ψ d θ⟩
end
section
variable {T:zl}{pth:Nat->zk}
def KW(h:kr T pth)(row:zk)(m:Nat)(c:row.j=3)(a:lE T row=true):Vf T (yC T row m).1 (row.G T.ql) m (yC T row m).2 (T.ql-1):=by
 have:=A3 m row T pth 0 h h.pos (by rw[h.root];simp[c];exact h.dep.2) (λv b=>by simp only[lE,gd,decide_eq_true_eq] at a;exact a v b);rw[h.root] at this;unfold yC;rw[zb a];simpa using this
def DW(w d:Nat):(xk w d).r=zM w:=rfl
def rO(w d:Nat):(xk w d).ql=xx d:=rfl
def mu(d:Nat):1<=xx d/\xx d<=3:=by unfold xx;by_cases b:d<1<;>by_cases a:d>3<;>simp[b,a]<;>omega
def CM(w d a v:Nat):zJ (xk w d) a v=none:=by
 rw[mz];refine za λq=>?_;have b:a=0:=by have:=q.1;simp[xk,yD] at this;exact this
 subst b;exact(gK.new (zM w)).2 v q.2
def IC(w d:Nat):kr (xk w d) (λ_=>[]):=by
 refine⟨mu d,by show 1<=zM w;unfold zM;split<;>omega,by simp[xk,yD],?_,rfl,λa _=>by show 0<xx d;exact(mu d).1,λa b c e _=>?_,(λa v b f=>by rw[CM] at f;exact zB f ζ),λb e h=>?_⟩;intro a c;have g:a=0:=by simp[xk,yD] at c;exact c
 subst g;exact(gK.new (zM w)).1;simp[xk,yD] at c e;omega;simp[xk,yD] at e;omega
def eT(w d:Nat)(q:zk)(a:q≠[]):uv (xk w d) q=none:=by
 rcases q with _|⟨v,q⟩;exact zB rfl a;simp[uv,TR,CM]
def EV(T:zl):∀(r:zk) (a level:Nat),level<T.ql->T.ql<=level+r.j->uT T a level r=TR T a (r.G (T.ql-level))
 |[],a,level,d,c=>by simp at c;omega
 |v::r,a,level,d,c=>by
  obtain⟨k,f⟩:∃k,T.ql-level=k+1:=⟨T.ql-level-1,η⟩;unfold uT;rw[f,pR];simp only[TR];cases g:zJ T a v with
  |none=>rfl
  |some b=>
   simp only;by_cases e:level+1≥T.ql
   .rw[zb e];have:k=0:=η;subst this;simp[TR]
   .rw[za e,EV T r b (level+1) η (by simp at c;omega)];have:T.ql-(level+1)=k:=η;rw[this]
def Lc(h:kr T pth)(row:zk)(a:row.j=3):ua T row=uv T (row.G T.ql):=by
 have:=EV T row 0 0 (by have:=h.dep.1;omega) (by rw[a];have:=h.dep.2;omega);simpa [ua,uv] using this
def qP(T:zl):Nat->Nat->Nat->List zk
 |0,_,_=>[[]]
 |d+1,a,f=>(List.range' f (T.r-f)).flatMap λv=>match zJ T a v with
  |none=>[]
  |some b=>(qP T d b 0).w (v::·)
def P8{d a f:Nat}(h:∀u,f<=u->zJ T a u=Y):qP T (d+1) a f=[]:=by
 simp only[qP,List.flatMap_eq_nil_iff,List.mem_range'_1];intro v b;rw[h v b.1]
def Sc{d a v b:Nat}:∀(n f:Nat),v-f=n->f<=v->v<T.r->zJ T a v=Z b->(∀u,f<=u->u<v->zJ T a u=Y)->qP T (d+1) a f=(qP T d b 0).w (v::·)++qP T (d+1) a (v+1):=by
 intro n;induction n with
 |zero=>
  intro f m j h g _;have:f=v:=η;subst this;obtain⟨k,e⟩:∃k,T.r-f=k+1:=⟨T.r-f-1,η⟩;have c:T.r-(f+1)=k:=η;simp only[qP,e,c,List.range'_succ,uU,g]
 |succ n l=>
  intro f m j h g i;obtain⟨k,e⟩:∃k,T.r-f=k+1:=⟨T.r-f-1,η⟩;have c:T.r-(f+1)=k:=η;rw[←l (f+1) η η h g (λu p o=>i u η o)];simp only[qP,e,c,List.range'_succ,uU,i f (zg _) η,rj]
def F5(row:zk)(l v:Nat)(k:zk)(a:l<row.j):(row.set l v).G (l+1)++k=row.G l++v::k:=by
 have:(row.set l v).G (l+1)=row.G l++[v]:=by
  rw[yM (by simpa using a),List.take_set_of_le (zg _)];simp
 rw[this];simp
def PY(row:zk)(l v j:Nat)(a:l<j):(row.set l v).drop j=row.drop j:=by
 rw[List.drop_set,zb a]
def Pb(G:lm T)(I:T.ql<=3):∀(n a level f:Nat) (row:zk) (c:List zk),level<T.ql->row.j=3->f<=T.r->(T.r-f)+1+(T.ql-level-1)*(T.r+1)<=n →
  ∃g,ud T n a level f row c=Z (g,c++(qP T (T.ql-level) a f).w λk=>row.G level++k++row.drop T.ql)/\g.j=3/\g.G level=row.G level/\g.drop T.ql=row.drop T.ql:=by
 intro n;induction n with
 |zero=>intro a level f row c u A N t;omega
 |succ n D=>
  intro a level f row c u A N t;obtain⟨d,x⟩:∃d,T.ql-level=d+1:=⟨T.ql-level-1,η⟩;unfold ud;rcases F:yF T a f with _|v;refine⟨row,?_,A,rfl,rfl⟩;rw[x,P8 (DP G F)];simp;obtain⟨Q,L,K,P⟩:=Fn G F;obtain⟨b,H⟩:=mh.1 K;have m:=Sc (d:=d) _ f rfl Q L H P;simp only;have l:(row.set level v).j=3:=by simpa using A
  have r:level<row.j:=η;have h:(row.set level v).drop T.ql=row.drop T.ql:=PY row level v T.ql u;have i:(row.set level v).G level=row.G level:=by rw[List.take_set_of_le (zg _)]
  have p:T.ql-level-1=d:=η;by_cases e:level+1≥T.ql;rw[zb e];have B:d=0:=η;subst B;obtain⟨g,C,z,w,s⟩:=D a level (v+1) (row.set level v) (c++[row.set level v]) u l η (by rw[p] at t ⊢;omega);refine⟨g,?_,z,by rw[w,i],by rw[s,h]⟩;rw[C,x,m];simp only[qP,un,List.map_nil,lr,rj,i,h,kO,zt,ye,true_and];congr 2;have:=F5 row level v (row.drop T.ql) r;have V:T.ql=level+1:=η;rw[←h,V] at this ⊢;rw[kj] at this;exact this;rw[za e,za η,H];simp only[uD];have W:d*(T.r+1)=(d-1)*(T.r+1)+(T.r+1):=by
   obtain⟨j,rfl⟩:∃j,d=j+1:=⟨d-1,η⟩;simp[Nat.succ_mul]
  have y:T.ql-(level+1)-1=d-1:=η;have q:T.ql-(level+1)=d:=η;obtain⟨o,C,z,w,s⟩:=D b (level+1) 0 (row.set level v) c η l η (by rw[p] at t;rw[y];omega);rw[C];simp only;obtain⟨g,J,S,M,R⟩:=D a level (v+1) o (c++(qP T (T.ql-(level+1)) b 0).w λk=>(row.set level v).G (level+1)++k++(row.set level v).drop T.ql) u z η (by rw[p] at t ⊢;omega);have E:o.G level=row.G level:=by
   have:=congrArg (List.take level) w;rwa [List.take_take,List.take_take,gV η,i] at this
  refine⟨g,?_,S,by rw[M,E],by rw[R,s,h]⟩;rw[J,x,m,q,E,s,h,qF,nA,←kO];congr 3;refine congrArg (c++·) (kV λk _=>?_);simp only[Function.comp];rw[F5 row level v k r]
def Uk(k:zk)(d:Nat):zk:=k++([0,0,0]:zk).drop d
def It(h:kr T pth)(a:Nat)(f:3*(T.r+1)<=a):my a T=Z ((qP T T.ql 0 0).w λk=>Uk k T.ql):=by
 have c:=h.dep;have e:T.r+1+(T.ql-1)*(T.r+1)<=3*(T.r+1):=by
  have:(T.ql-1)*(T.r+1)<=2*(T.r+1):=fB _ η;omega
 obtain⟨b,d,_,_,_⟩:=Pb h.node c.2 a 0 0 0 [0,0,0] [] η rfl η υ;unfold my;rw[d];simp[Uk]
def BS(T:zl):∀(d a f:Nat) (k:zk),k∈qP T d a f↔k.j=d/\(TR T a k).I=true/\(0<d->f<=k.headD 0)
 |0,a,f,k=>by
  simp only[qP,xQ];constructor
  .rintro rfl;simp[TR]
  .rintro⟨h,_⟩;exact pe.1 h
 |d+1,a,f,k=>by
  simp only[qP,ve,List.mem_range'_1];constructor
  .rintro⟨v,m,g⟩;cases c:zJ T a v with
   |none=>rw[c] at g;simp at g
   |some b=>
    rw[c] at g;simp only[zF] at g;obtain⟨n,j,rfl⟩:=g;obtain⟨i,e,_⟩:=(BS T d b 0 n).1 j;refine⟨by simp[i],?_,λ_=>by simpa using m.1⟩;simp only[TR,c];exact e
  .rintro⟨i,e,l⟩;cases k with
   |nil=>simp at i
   |cons v k=>
    simp only[TR] at e;simp only[List.headD_cons] at l;cases c:zJ T a v with
    |none=>rw[c] at e;simp at e
    |some b=>
     rw[c] at e;have o:=(fU c).2;have:=l η;refine⟨v,η,?_⟩;rw[c];simp only[zF];exact⟨k,(BS T d b 0 k).2 ⟨by simpa using i,e,λ_=>zs _⟩,rfl⟩
end
def Vy:zk->zk->Prop
 |a::x,b::y=>a<b∨a=b/\Vy x y
 |_,_=>False
def AP:∀x:zk,¬Vy x x
 |[]=>id
 |a::x=>by
  rintro(h|⟨_,h⟩)
  .omega
  .exact AP x h
def Ak(T:zl):∀(d a f:Nat),(qP T d a f).Pairwise Vy
 |0,a,f=>by simp[qP]
 |d+1,a,f=>by
  simp only[qP];rw[List.pairwise_flatMap];refine⟨λv _=>?_,?_⟩
  .cases zJ T a v with
   |none=>exact List.Pairwise.nil
   |some b=>
    simp only;rw[mT];exact(Ak T d b 0).imp λh=>ze ⟨rfl,h⟩
  .refine List.Pairwise.imp ?_ (List.pairwise_lt_range' (s:=f) (n:=T.r-f));intro v u i x g y e;cases k:zJ T a v with
   |none=>rw[k] at g;simp at g
   |some b=>
    rw[k] at g;cases j:zJ T a u with
    |none=>rw[j] at e;simp at e
    |some c=>
     rw[j] at e;simp only[zF] at g e;obtain⟨l,_,rfl⟩:=g;obtain⟨m,_,rfl⟩:=e;exact zh i
def oS(T:zl)(d a f:Nat):(qP T d a f).Nodup:=by
 refine(Ak T d a f).imp ?_;rintro x y h rfl;exact AP x h
def BM:∀{l1 l2:List zk},l1.Nodup->(∀x∈l1,x∈l2)->l1.j<=l2.j
 |[],l2,_,_=>ζ
 |a::l1,l2,e,d=>by
  have c:=d a ζ;have g:=BM (l1:=l1) (l2:=l2.erase a) (jp.1 e).2 (λx f=>by
   have b:x≠a:=by rintro rfl;exact(jp.1 e).1 f
   exact(me b).2 (d x (by simp[f])))
  rw[mN c] at g;have:=nI c;simp;omega
def Lo{l1 l2:List zk}(c:l1.Nodup)(b:l2.Nodup)(h:∀x,x∈l1↔x∈l2):l1.j=l2.j:=
 Nat.le_antisymm (BM c λx a=>(h x).1 a) (BM b λx a=>(h x).2 a)
def TD(T:zl):List zk:=qP T T.ql 0 0
def qU(T:zl)(k:zk):k∈TD T↔k.j=T.ql/\(uv T k).I=true:=by
 unfold TD;rw[BS];exact⟨λh=>⟨h.1,h.2.1⟩,λh=>⟨h.1,h.2,λ_=>zs _⟩⟩
structure vU (T:zl):Prop where
 inv:∃pth,kr T pth
 cnt:(TD T).j=T.count
 room:T.B.j<=1+2*T.count
def vU.new(w d:Nat):vU (xk w d):=by
 refine⟨⟨_,IC w d⟩,?_,by simp[xk,yD]⟩;have:TD (xk w d)=[]:=by
  rw[List.eq_nil_iff_forall_not_mem];intro k c;obtain⟨b,a⟩:=(qU _ k).1 c;rw[eT w d k (by rintro rfl;have:=(mu d).1;rw[rO] at b;simp at b;omega)] at a;cases a
 rw[this];rfl
def ip{T:zl}:∀(k:zk) (a:Nat),(TR T a k).I=true->∀v∈k,v<T.r
 |[],_,_,v,c=>by cases c
 |u::k,a,h,v,c=>by
  simp only[TR] at h;cases d:zJ T a u with
  |none=>rw[d] at h;simp at h
  |some b=>
   rw[d] at h;rcases zG.1 c with rfl|c
   .exact(fU d).2
   .exact ip k b h v c
def vU.add{T:zl}(h:vU T)(row:zk)(m:Nat)(i:row.j=3)(n:lE T row=true):
  vU (yC T row m).1/\(yC T row m).1.r=T.r/\(yC T row m).1.ql=T.ql/\(yC T row m).2=(uv T (row.G T.ql)).isNone/\((yC T row m).2=false->(yC T row m).1=T)/\((yC T row m).2=true->(yC T row m).1.count=T.count+1)/\∀q,q.j=T.ql->uv (yC T row m).1 q=if q=row.G T.ql then Z ((uv T q).g m) else uv T q:=by
 obtain⟨l,j⟩:=h.inv;have a:=KW j row m i n;have p:=j.dep;refine⟨⟨a.inv,?_,?_⟩,a.r,a.ql,a.is,a.same,λq=>(a.more q).1,a.sem⟩;cases c:(yC T row m).2;rw[a.same c];exact h.cnt;rw[(a.more c).1,←h.cnt];have f:=a.is;rw[c] at f;have g:(row.G T.ql).j=T.ql:=by rw[vc,i];omega
 have d:row.G T.ql∉TD T:=λo=>by
  have:=((qU T _).1 o).2;rw[←Option.not_isNone,←f] at this;cases this
 have:=Lo (l1:=TD (yC T row m).1) (l2:=row.G T.ql::TD T) (oS _ _ _ _) (jp.2 ⟨d,oS _ _ _ _⟩) (λk=>by
  rw[qU,a.ql,zG,qU];by_cases b:k.j=T.ql;rw[a.sem k b];by_cases e:k=row.G T.ql;simp[e,g];simp[e,b];constructor;intro q;exact zB q.1 b;rintro(q|q);rw[q] at b;exact zB g b;exact zB q.1 b)
 simpa using this;cases c:(yC T row m).2;rw[a.same c];exact h.room;have:=a.more c;have:=h.room;omega
def vU.I{T:zl}(h:vU T)(a:Nat)(c:3*(T.r+1)<=a):my a T=Z ((TD T).w λk=>Uk k T.ql):=by
 obtain⟨b,d⟩:=h.inv;exact It d a c
def vU.rowsG{T:zl}(h:vU T)(a:Nat)(b:3*(T.r+1)<=a)(c:T.count<=1048576):rowsG a T=Z ((TD T).w λk=>Uk k T.ql):=by
 unfold Go.Proofs.YteampbddflhngaaGreat.rowsG;rw[h.I a b];simp[h.cnt,c]
def vU.okT{T:zl}(h:vU T)(a:T.count<=10000000):okT T=true:=by
 have:=h.room;simp only[Go.Proofs.YteampbddflhngaaGreat.okT,uK,decide_eq_true_eq];omega
def vU.mark{T:zl}(h:vU T)(row:zk)(b:row.j=3):ua T row=uv T (row.G T.ql):=by
 obtain⟨a,c⟩:=h.inv;exact Lc c row b
def kh(J:zE)(h:Nat×Nat)(v:Nat):Option Nat:=zJ (J.ja.g h.1 xb.zero).I ((J.ja.g h.1 xb.zero).B.g h.2 0) v
def Ar(J:zE):Prop:=∀i,lm (J.ja.g i xb.zero).I
def qt(J a:zE):Prop:=a={J with jg:=a.jg}
def qt.refl(J:zE):qt J J:=rfl
def qt.A{a b c:zE}(h:qt a b)(k:qt b c):qt a c:=by
 unfold qt at *;rw[h] at k;exact k
def qt.ja{a b:zE}(h:qt a b):b.ja=a.ja:=by rw[h]
def MO{J:zE}{h:Nat×Nat}{f:Nat}(hs:vY J h=true):qt J (qe J h f).1/\(qe J h f).2=yF (J.ja.g h.1 xb.zero).I ((J.ja.g h.1 xb.zero).B.g h.2 0) f:=by
 unfold qe;rw[zb hs];exact⟨rfl,rfl⟩
def tR(a b c i:Nat):Prop:=i<a/\a<=i+b∨a<=i/\a+c<=i+b
def Fk(J:zE)(hs:List (Nat×Nat))(f:Nat):Option Nat->Prop
 |none=>∀u,f<=u->∃h∈hs,kh J h u=Y
 |some v=>f<=v/\(∀h∈hs,(kh J h v).I=true)/\∀u,f<=u->u<v->∃h∈hs,kh J h u=Y
def Kz{J a:zE}(h:qt J a)(x:Nat×Nat)(v:Nat):kh a x v=kh J x v:=by unfold kh;rw[h.ja]
def QB(W f:Nat)(hs:List (Nat×Nat))(j:zE)(D:Ar j)(z:∀h∈hs,vY j h=true)(Q:∀h∈hs,∀v,(kh j h v).I=true->v<W):
  ∀(n:Nat) (J:zE) (at' b a:Nat),qt j J->f<=at'->a<hs.j->b<=hs.j->(∀u,f<=u->u<at'->∃h∈hs,kh j h u=Y)->(∀i (r:i<hs.j),tR a b hs.j i->(kh j hs[i] at').I=true)->(W-at')*(hs.j+1)+(hs.j-b)<n →
  ∃I t,gE n J hs at' b a=Z (I,t)/\qt j I/\Fk j hs f t:=by
 intro n;induction n with
 |zero=>intro J at' b a _ _ _ _ _ _ h;omega
 |succ n H=>
  intro J at' b a y F G V g p hn;unfold gE;by_cases w:b<hs.j;rw[zb w];have S:hs.g a (0,0)=hs[a]:=by simp[List.getD,G]
  have c:hs[a]∈hs:=zq G;have x:vY J hs[a]=true:=by
   have:=z _ c;unfold vY at this ⊢;rw[y.ja];exact this
  obtain⟨B,s⟩:=MO (f:=at') x;rw[y.ja] at s;rw[S];cases P:qe J hs[a] at' with
  |mk E o=>
   rw[P] at B s;simp only at B s;have k:=y.A B;have m:=D hs[a].1;rcases o with _|v;refine⟨E,Y,rfl,k,λu T=>?_⟩;by_cases l:u<at';exact g u T l;exact⟨hs[a],c,DP m s.z u η⟩;obtain⟨p1,p2,A,K⟩:=Fn m s.z;have R:=Q _ c v A;simp only;by_cases d:v>at';rw[zb d,zb d];refine H E v (0+1) _ k η (by split<;>omega) η (λu h1 N=>?_) (λi r q=>?_) ?_;by_cases l:u<at';exact g u h1 l;exact⟨hs[a],c,K u η N⟩;have:i=a:=by
    unfold tR at q;split at q<;>omega
   subst this;exact A;have e:W-at'=(W-v)+(v-at'):=η;have:(W-at')*(hs.j+1)=(W-v)*(hs.j+1)+(v-at')*(hs.j+1):=by rw[e,lG]
   have:1*(hs.j+1)<=(v-at')*(hs.j+1):=fB _ η;omega;have L:v=at':=η;subst L;rw[za d,za d];refine H E v (b+1) _ k F (by split<;>omega) η g (λi r q=>?_) η;by_cases C:i=a;subst C;exact A;refine p i r ?_;unfold tR at q ⊢;split at q<;>omega
  rw[za w];refine⟨J,Z at',rfl,y,F,λh M=>?_,g⟩;obtain⟨i,r,rfl⟩:=vd M;refine p i r ?_;unfold tR;omega
def IU(W:Nat)(J:zE)(place f n:Nat)(p:place<5)(e:Ar J)(g:J.jf.g place []≠[])(d:∀h∈J.jf.g place [],vY J h=true)(m:∀h∈J.jf.g place [],∀v,(kh J h v).I=true->v<W)(q:W*((J.jf.g place []).j+1)+(J.jf.g place []).j<n):
  ∃j c,l6 n J place f=Z (j,c)/\qt J j/\Fk J (J.jf.g place []) f c:=by
 have b:0<(J.jf.g place []).j:=by
  rcases o:J.jf.g place [] with _|⟨a,l⟩;exact zB o g;simp
 unfold l6;rw[za η];refine QB W f _ J e d m n J f 0 0 rfl (zg _) b η (λu t s=>η) (λi r k=>by unfold tR at k;omega) ?_;have:(W-f)*((J.jf.g place []).j+1)<=W*((J.jf.g place []).j+1):=fB _ η;omega
section
variable {je:Int}
def yI(l:zw)(d:Nat):List Nat:=(List.range d).filter (zK l)
def yz(l:zw)(vals:List Nat)(d:Nat):zk:=(yI l d).w λp=>vals.g p 0
def ni(l:zw)(d:Nat):yI l (d+1)=if zK l d then yI l d++[d] else yI l d:=by
 unfold yI;rw[oj,wa];by_cases h:zK l d<;>simp[h]
def sg(l:zw)(d p:Nat):p∈yI l d↔p<d/\zK l p=true:=by simp[yI]
def oK(l:zw){a b:Nat}(h:a<=b):yI l a <+: yI l b:=by
 induction h with
 |refl=>exact List.prefix_rfl
 |step h c=>
  rw[ni];split;exact c.A (List.prefix_append _ _);exact c
def BI(l:zw)(p:Nat):xh l p=if zK l p then Z (yI l p).j else none:=by
 unfold xh yI;rw[tL]
def lu(l:zw):xi l=(yI l 5).j:=by
 unfold xi yI;rw[tL]
def py(l:zw)(vals:Φ)(d:Nat):(yz l vals d).j=(yI l d).j:=by simp[yz]
def eA(l:zw){x y:Φ}{d:Nat}(h:∀p,p<d->zK l p=true->x.g p 0=y.g p 0):yz l x d=yz l y d:=by
 unfold yz;refine kV λp a=>?_;have:=(sg l d p).1 a;exact h p this.1 this.2
def oh(l:zw)(vals:Φ){a b:Nat}(h:a<=b):yz l vals a=(yz l vals b).G (yI l a).j:=by
 obtain⟨t,c⟩:=oK l h;unfold yz;rw[←c];simp
def Ib(l:zw)(vals:Φ)(d v:Nat)(c:d<vals.j):yz l (vals.set d v) (d+1)=if zK l d then yz l vals d++[v] else yz l vals d:=by
 have a:(yI l d).w (λp=>(vals.set d v).g p 0)=(yI l d).w λp=>vals.g p 0:=by
  refine kV λp b=>?_;have:=(sg l d p).1 b;rw[uQ,za η]
 unfold yz;rw[ni];split;rw[qF,a];simp[c];exact a
def Bs:∀{l1 l2:Φ},l1.Nodup->(∀x∈l1,x∈l2)->l1.j<=l2.j
 |[],l2,_,_=>ζ
 |a::l1,l2,e,d=>by
  have c:=d a ζ;have g:=Bs (l1:=l1) (l2:=l2.erase a) (jp.1 e).2 (λx f=>by
   have b:x≠a:=by rintro rfl;exact(jp.1 e).1 f
   exact(me b).2 (d x (by simp[f])))
  rw[mN c] at g;have:=nI c;simp;omega
def fJ(l:zw)(p:Nat):zK l p=true↔∃t∈l.v,t.var=true/\t.z=p:=by
 unfold zK;rw[fc];constructor;rintro⟨t,b,a⟩;simp only[uK,beq_iff_eq] at a;exact⟨t,b,a.1,a.2⟩;rintro⟨t,b,a,c⟩;exact⟨t,b,by simp[a,c]⟩
def iW(l:zw)(d:Nat):(yI l d).j<=l.v.j:=by
 have:=Bs (l1:=yI l d) (l2:=l.v.w (·.z)) (List.nodup_range.filter _) (λp b=>by
  obtain⟨t,c,_,a⟩:=(fJ l p).1 ((sg l d p).1 b).2;exact zF.2 ⟨t,c,a⟩)
 simpa using this
def tJ(je:Int):∀(ts:List yi) (k:Int),k<=ts.H (λk t=>if t.var&&decide ((t.z:Int)<je)&&decide ((t.z:Int)>k) then(t.z:Int) else k) k/\(∀t∈ts,t.var=true->(t.z:Int)<je->(t.z:Int)<=ts.H (λk t=>if t.var&&decide ((t.z:Int)<je)&&decide ((t.z:Int)>k) then(t.z:Int) else k) k)/\(k<je->ts.H (λk t=>if t.var&&decide ((t.z:Int)<je)&&decide ((t.z:Int)>k) then(t.z:Int) else k) k<je)
 |[],k=>⟨Int.le_refl _,λt h=>(by cases h),λh=>h⟩
 |t::ts,k=>by
  simp only[uG];by_cases c:(t.var&&decide ((t.z:Int)<je)&&decide ((t.z:Int)>k))=true
  .rw[zb c];simp only[uK,decide_eq_true_eq] at c;obtain⟨e,f,g⟩:=tJ je ts (t.z:Int);refine⟨η,λu a b d=>?_,λ_=>g η⟩;rcases zG.1 a with rfl|a
   .exact e
   .exact f u a b d
  .rw[za c];obtain⟨e,f,g⟩:=tJ je ts k;refine⟨e,λu a b d=>?_,g⟩;rcases zG.1 a with rfl|a
   .have:(u.z:Int)<=k:=by
     simp only[b,d,nY,decide_true,decide_eq_true_eq] at c;omega
    omega
   .exact f u a b d
def Ag(l:zw){p:Nat}(a:zK l p=true)(d:(p:Int)<je):(p:Int)<=ku l je:=by
 obtain⟨t,c,b,e⟩:=(fJ l p).1 a;have:=(tJ je l.v (-1)).2.1 t c b η;unfold ku;omega
def D7(l:zw)(a:0<=je):ku l je<je:=(tJ je l.v (-1)).2.2 η
def Is(l:zw)(je:Int):-1<=ku l je:=(tJ je l.v (-1)).1
def eC:∀(ts:List yi) (k:Nat),k<=ts.H (λk t=>if t.var&&decide (t.z≥k) then t.z+1 else k) k/\(∀t∈ts,t.var=true->t.z<ts.H (λk t=>if t.var&&decide (t.z≥k) then t.z+1 else k) k)/\∀b,k<=b->(∀t∈ts,t.var=true->t.z<b)->ts.H (λk t=>if t.var&&decide (t.z≥k) then t.z+1 else k) k<=b
 |[],k=>⟨zg _,λt h=>(by cases h),λb h _=>h⟩
 |t::ts,k=>by
  simp only[uG];by_cases c:(t.var&&decide (t.z≥k))=true
  .rw[zb c];simp only[uK,decide_eq_true_eq] at c;obtain⟨i,f,g⟩:=eC ts (t.z+1);refine⟨η,λu a e=>?_,λb j d=>g b (by have:=d t ζ c.1;omega) λu a=>d u (by simp[a])⟩;rcases zG.1 a with rfl|a
   .omega
   .exact f u a e
  .rw[za c];obtain⟨i,f,g⟩:=eC ts k;refine⟨i,λu a e=>?_,λb j d=>g b j λu a=>d u (by simp[a])⟩;rcases zG.1 a with rfl|a
   .have:u.z<k:=by simp only[e,nY,decide_eq_true_eq] at c;omega
    omega
   .exact f u a e
def eo(l:zw){p:Nat}(a:zK l p=true):p<vj l:=by
 obtain⟨t,c,b,d⟩:=(fJ l p).1 a;have:=(eC l.v 0).2.1 t c b;unfold vj;omega
def Cl(l:zw){k:Nat}(h:∀p,zK l p=true->p<k):vj l<=k:=
 (eC l.v 0).2.2 k η λt b a=>h t.z ((fJ l t.z).2 ⟨t,b,a,rfl⟩)
def JK(l:zw)(a:0<=je):qV l je<je:=by
 unfold qV;split;omega;exact D7 l a
def BH(je:Int):∀(a:List zw) (b:Int),b<=a.H (qa je) b/\(∀l∈a,qV l je<=a.H (qa je) b)/\(0<=je->b<je->a.H (qa je) b<je)
 |[],b=>⟨Int.le_refl _,λl h=>(by cases h),λ_ h=>h⟩
 |l::a,b=>by
  simp only[uG];obtain⟨i,e,f⟩:=BH je a (qa je b l);have g:b<=qa je b l/\qV l je<=qa je b l:=by unfold qa;split<;>omega
  refine⟨η,λu c=>?_,λd j=>f d ?_⟩
  .rcases zG.1 c with rfl|c
   .omega
   .exact e u c
  .have:=JK l d;unfold qa;split<;>omega
def tU(r:zu)(a:0<=je):xM r je<je/\-1<=xM r je/\ku r.g je<=xM r je/\(∀l∈r.qc,qV l je<=xM r je)/\∀l∈r.qx,qV l je<=xM r je:=by
 unfold xM;obtain⟨h,e,d⟩:=BH je r.qc (ku r.g je);obtain⟨g,c,f⟩:=BH je r.qx (r.qc.H (qa je) (ku r.g je));have:=Is r.g je;exact⟨f a (d a (D7 r.g a)),η,η,λl b=>by have:=e l b;omega,c⟩
def Co{l:zw}{je:Nat}{b:Int}(h:qV l je<=b):(∀p,zK l p=true->p<je)∨∀p,zK l p=true->p<je->(p:Int)<=b:=by
 unfold qV at h;by_cases c:(vj l:Int)<=je;exact zh λp a=>by have:=eo l a;omega
 rw[za c] at h;exact ze λp a d=>by have:=Ag l (je:=(je:Int)) a η;omega
end
section
variable {r:zu}{i:Nat}{hs:List (Nat×Nat)}
structure f8 (r:zu):Prop where
 m:r.m<=5
 v:∀l∈r.qc,l.v.j<=3
 qc:∀l∈r.qc,∀p,zK l p=true->p<r.m
 qx:∀l∈r.qx,∀p,zK l p=true->p<r.m
 g:∀p,zK r.g p=true->p<r.m
 safe:∀p,p<r.m->∃l∈r.qc,zK l p=true
structure fE (r:zu) (Ts:List zl) (W:Nat):Prop where
 len:Ts.j=r.qc.j
 ok:∀(i:Nat) (l:zw) (T:zl),r.qc[i]?=Z l->Ts[i]?=Z T->vU T/\T.ql=xx (xi l)/\T.r<=W
structure jA (r:zu) (Ts Ns:List zl) (J:zE):Prop where
 g:J.g=r.g
 m:J.m=r.m
 jf:J.jf=(List.range 5).w (xy r)
 ji:J.ji=(List.range 5).w λp=>xM r (p:Nat)
 last:J.last=xM r r.m
 bars:J.bars=(r.qx.zip Ns).w λx=>⟨x.1,vj x.1,x.2⟩
 ja:J.ja.w (·.I)=Ts
 vlen:J.P.j=5
 flen:J.from.j=5
def po(l:zw){x y:Φ}(h:∀p,zK l p=true->x.g p 0=y.g p 0):zH l x=zH l y:=by
 have a:∀i,Tj l x i=Tj l y i:=by
  intro i;unfold Tj;split;rename_i c;unfold U0;rw[show l.v.g i ⟨false,0,0⟩=l.v[i] by simp[List.getD,c]];split;rename_i b;simp only[uK,decide_eq_true_eq] at b;exact h _ ((fJ l _).2 ⟨_,zq c,b.1,rfl⟩);rfl;rfl
 unfold zH;rw[a,a,a]
def eI(T:zl)(l:zw)(y:List Nat):Prop:=(xi l=0->T.count≠0)/\(xi l≠0->(uv T (yz l y 5)).I=true)
def j7(r:zu)(a Ns:List zl)(y:List Nat):Prop:=(∀(i:Nat) (l:zw) (T:zl),r.qc[i]?=Z l->a[i]?=Z T->eI T l y)/\∀x∈r.qx.zip Ns,ua x.2 (zH x.1 y)=Y
def IV{l:zw}(c:∀p,zK l p=true->p<r.m){d:Nat}(a:r.m<=d):yI l d=yI l r.m:=by
 induction a with
 |refl=>rfl
 |@step m h b=>
  rw[ni,za (λq=>by have:=c _ q;have:r.m<=m:=h;omega),b]
def Jz(a:r.m<=5){l:zw}(b:∀p,zK l p=true->p<r.m)(y:Φ):yz l y 5=yz l y r.m:=by
 unfold yz;rw[IV b a]
def RL(r:zu)(J:zE)(d:Nat):Prop:=∀(i:Nat) (l:zw) (s:xb),r.qc[i]?=Z l->J.ja[i]?=Z s->s.B.j=3/\(∀k,k<=(yI l d).j->k<3->TR s.I 0 ((yz l J.P d).G k)=Z (s.B.g k 0))/\(TR s.I 0 (yz l J.P d)).I=true
def Mr(r:zu)(Ns:List zl)(vals:List Nat)(d:Nat):Prop:=∀x∈r.qx.zip Ns,vj x.1<=d->ua x.2 (zH x.1 vals)=Y
def F4{d c:Nat}(h:(i,c)∈xy r d):∃l,r.qc[i]?=Z l/\zK l d=true/\c=(yI l d).j:=by
 unfold xy at h;simp only[mP,qn,ye] at h;obtain⟨⟨l,j⟩,g,f,a,e,k⟩:=h;rw[BI] at a;split at a;rename_i b;simp only[zt] at a;have:=su.1 g;simp only at this e b a;subst e;exact⟨l,this,b,η⟩;cases a
def U7{d:Nat}{l:zw}(h:r.qc[i]?=Z l)(a:zK l d=true):(i,(yI l d).j)∈xy r d:=by
 unfold xy;simp only[mP,qn,ye];refine⟨(l,i),su.2 h,(yI l d).j,?_,rfl,rfl⟩;rw[BI,zb a]
def Dc(r:zu)(d:Nat):((xy r d).w (·.1)).Nodup:=by
 unfold xy;have e:∀(b:List zw) (n:Nat),(((b.zipIdx n).filterMap λx=>(xh x.1 d).w λc=>(x.2,c)).w (·.1)).Nodup/\∀i∈((b.zipIdx n).filterMap λx=>(xh x.1 d).w λc=>(x.2,c)).w (·.1),n<=i:=by
  intro b;induction b with
  |nil=>intro n;simp
  |cons l b m=>
   intro n;obtain⟨j,g⟩:=m (n+1);rw[List.zipIdx_cons,th];rcases h:(xh l d).w λc=>(n,c) with _|x;exact⟨j,λi f=>by have:=g i f;omega⟩;have o:x.1=n:=by
    simp only[qn] at h;obtain⟨a,_,rfl⟩:=h;rfl
   simp only[un,jp,zG];refine⟨⟨λk=>by have:=g _ k;omega,j⟩,?_⟩;rintro i (rfl|f);omega;have:=g i f;omega
 exact(e r.qc 0).1
def setDown(v a:Nat)(s:xb):xb:=if a+1≥3 then s else{s with B:=s.B.set (a+1) ((zJ s.I (s.B.g a 0) v).g 0)}
def IK{J:zE}{v:Nat}{h:Nat×Nat}(hs:vY J h=true):vw v J h={J with ja:=J.ja.set h.1 (setDown v h.2 (J.ja.g h.1 xb.zero))}:=by
 unfold vw setDown;by_cases a:h.2+1≥3;rw[zb (ze a),zb a];have b:h.1<J.ja.j:=by simp only[vY,uK,decide_eq_true_eq] at hs;exact hs.1
 have:J.ja.set h.1 (J.ja.g h.1 xb.zero)=J.ja:=by
  rw[show J.ja.g h.1 xb.zero=J.ja[h.1] by simp[List.getD,b]];exact ic _
 rw[this];rw[za (by rintro(q|q);rw[hs] at q;cases q;exact a q),za a]
def GH(v:Nat):∀(hs:List (Nat×Nat)) (J:zE),(hs.w (·.1)).Nodup->(∀h∈hs,vY J h=true)->∃e,hs.H (vw v) J={J with ja:=e}/\e.j=J.ja.j/\∀i s,J.ja[i]?=Z s->e[i]?=Z (match hs.lookup i with|none=>s|some d=>setDown v d s)
 |[],J,_,_=>⟨J.ja,rfl,rfl,λi s h=>by simpa using h⟩
 |(j,d)::hs,J,k,c=>by
  simp only[uG];have g:=c (j,d) ζ;rw[IK g];simp only;have f:j<J.ja.j:=by simp only[vY,uK,decide_eq_true_eq] at g;exact g.1
  simp only[un,jp] at k;obtain⟨e,n,t,l⟩:=GH v hs {J with ja:=J.ja.set j (setDown v d (J.ja.g j xb.zero))} k.2 (λh p=>by
   have:=c h (by simp[p]);unfold vY at this ⊢;simpa using this)
  refine⟨e,n,by simpa using t,λi s m=>?_⟩;by_cases b:i=j
  .subst b;have o:J.ja.g i xb.zero=s:=by simp[List.getD,m]
   have:=l i (setDown v d s) (by rw[o];simp[f]);rw[this];have a:hs.lookup i=none:=by
    rw[List.lookup_eq_none_iff];intro x u;have:x.1≠i:=by
     rintro rfl;exact k.1 (zF.2 ⟨x,u,rfl⟩)
    simpa using λq=>this q.z
   rw[a];simp[List.lookup]
  .have:=l i s (by simp only[tI,Ne.symm b,if_false];exact m);rw[this];have w:(i == j)=false:=by simp[b]
   simp[List.lookup,w]
def N7{d:Nat}(c:(hs.w (·.1)).Nodup)(f:(i,d)∈hs):hs.lookup i=Z d:=by
 induction hs with
 |nil=>cases f
 |cons a hs g=>
  obtain⟨j,m⟩:=a;simp only[un,jp] at c;rcases zG.1 f with e|b;simp only[ye] at e;obtain⟨rfl,rfl⟩:=e;simp[List.lookup];have:i≠j:=by
   rintro rfl;exact c.1 (zF.2 ⟨(i,d),b,rfl⟩)
  have h:(i == j)=false:=by simp[this]
  simp only[List.lookup,h];exact g c.2 b
def NK(h:∀a,(i,a)∉hs):hs.lookup i=none:=by
 rw[List.lookup_eq_none_iff];rintro⟨j,m⟩ b;have:i≠j:=by rintro rfl;exact h m b
 simpa using this
end
section
variable {r:zu}{Ts Ns:List zl}{J:zE}
structure U1 (r:zu) (Ts Ns:List zl) (W:Nat) (J:zE) (d:Nat):Prop where
 stat:jA r Ts Ns J
 B:RL r J d
 nob:Mr r Ns J.P d
 «from» : ∀i,i<d->J.from.g i 0=J.P.g i 0+1
 small:∀i,i<d->J.P.g i 0<W
def jA.same{a:zE}(h:jA r Ts Ns J)(s:qt J a):jA r Ts Ns a:=by
 rw[s];exact⟨h.g,h.m,h.jf,h.ji,h.last,h.bars,h.ja,h.vlen,h.flen⟩
def U1.same{r:zu}{Ts Ns:List zl}{W:Nat}{J a:zE}{d:Nat}(h:U1 r Ts Ns W J d)(s:qt J a):U1 r Ts Ns W a d:=by
 refine⟨h.stat.same s,?_,?_,?_,?_⟩;rw[s];exact h.B;rw[s];exact h.nob;rw[s];exact h.from;rw[s];exact h.small
def U1.back{W d b:Nat}(h:U1 r Ts Ns W J d)(e:b<=d):U1 r Ts Ns W J b:=by
 refine⟨h.stat,λi l s j g=>?_,λx q f=>h.nob x q η,λi n=>h.from i η,λi n=>h.small i η⟩;obtain⟨t,p,a⟩:=h.B i l s j g;have o:=(oK l e).length_le;refine⟨t,λk f u=>?_,?_⟩;rw[oh l J.P e,List.take_take,gV f];exact p k η u;rw[oh l J.P e];have c:yz l J.P d=(yz l J.P d).G (yI l b).j++(yz l J.P d).drop (yI l b).j:=(kj _ _).z;rw[c,p6] at a;rcases m:TR s.I 0 ((yz l J.P d).G (yI l b).j) with _|x;rw[m] at a;cases a;rfl
def jA.side(h:jA r Ts Ns J){i:Nat}{s:xb}(hs:J.ja[i]?=Z s):Ts[i]?=Z s.I:=by
 rw[←h.ja];simp[hs]
def jA.some{r:zu}{Ts Ns:List zl}{W:Nat}{J:zE}(h:jA r Ts Ns J)(a:fE r Ts W){i:Nat}{l:zw}(b:r.qc[i]?=Z l):∃s,J.ja[i]?=Z s:=by
 have d:J.ja.j=r.qc.j:=by rw[←a.len,←h.ja];simp
 have c:=(j5.1 b).1;exact⟨_,yn η⟩
def jA.holdsAt(h:jA r Ts Ns J){d:Nat}(a:d<5):J.jf.g d []=xy r d:=by
 rw[h.jf];simp[List.getD,a]
def U1.hold{W d:Nat}(h:U1 r Ts Ns W J d)(t:f8 r)(j:fE r Ts W){x:Nat×Nat}(m:x∈xy r d):
  ∃l s,r.qc[x.1]?=Z l/\J.ja[x.1]?=Z s/\zK l d=true/\x.2=(yI l d).j/\x.2<3/\vY J x=true/\vU s.I/\s.I.r<=W/\∀v,TR s.I 0 (yz l J.P d++[v])=kh J x v:=by
 obtain⟨i,g⟩:=x;obtain⟨l,b,k,c⟩:=F4 m;obtain⟨s,a⟩:=h.stat.some j b;have o:(yI l (d+1)).j=g+1:=by rw[ni,zb k,c];simp
 have f:g<3:=by
  have:=iW l (d+1);have:=t.v l (fD b);omega
 have e:=(j5.1 a).1;obtain⟨q,w,n⟩:=j.ok i l s.I b (h.stat.side a);refine⟨l,s,b,a,k,c,f,by simp[vY,e,f],q,n,λv=>?_⟩;obtain⟨y,p,u⟩:=h.B i l s b a;have:=p g η f;rw[c,show(yz l J.P d).G (yI l d).j=yz l J.P d by rw[←py l J.P d];exact uW] at this;rw[p6,this];unfold kh;simp only[List.getD,a,uD,Option.bind_some,TR,c];cases zJ s.I _ v<;>rfl
def e8(h:jA r Ts Ns J)(k:Nat):vi J k=true↔∃x∈r.qx.zip Ns,vj x.1=k/\(ua x.2 (zH x.1 J.P)).I=true:=by
 unfold vi;rw[h.bars,List.any_map,fc];simp
def U1.G{r:zu}{Ts Ns:List zl}{W:Nat}{J:zE}{d v:Nat}(h:U1 r Ts Ns W J d)(hr:f8 r)(V:fE r Ts W)(hd:d<r.m)(hv:∀x∈xy r d,(kh J x v).I=true)(hW:v<W):
  (uE J d v).P=J.P.set d v/\(∀i,i<d->(uE J d v).from.g i 0=J.from.g i 0)/\(uE J d v).from.g d 0=v+1/\(d+1<5->(uE J d v).from.g (d+1) 0=0)/\U1 r Ts Ns W (uE J d v) d/\(vi (uE J d v) (d+1)=false->U1 r Ts Ns W (uE J d v) (d+1)):=by
 have ae:=hr.m;have T:d<5:=η;have ab:=h.stat.vlen;have aa:=h.stat.flen;unfold uE;rw[za η,h.stat.holdsAt T];obtain⟨R,e1,e2,e3⟩:=GH v (xy r d) {J with P:=J.P.set d v,«from»:=(if d+1<5 then(J.from.set d (v+1)).set (d+1) 0 else J.from.set d (v+1))} (Dc r d) (λx y=>by
  obtain⟨_,_,_,_,_,_,_,q,_⟩:=h.hold hr V y;unfold vY at q ⊢;exact q)
 rw[e1];simp only at e2 e3 ⊢;have C:∀i,i<d->(if d+1<5 then(J.from.set d (v+1)).set (d+1) 0 else J.from.set d (v+1)).g i 0=J.from.g i 0:=by
  intro i D;split;rw[uQ,za η,uQ,za η];rw[uQ,za η]
 have N:(if d+1<5 then(J.from.set d (v+1)).set (d+1) 0 else J.from.set d (v+1)).g d 0=v+1:=by
  split;rw[uQ,za η,uQ,zb ⟨rfl,η⟩];rw[uQ,zb ⟨rfl,η⟩]
 have B:R.w (·.I)=Ts:=by
  rw[←h.stat.ja];refine nL λi=>?_;simp only[mL];rcases n:J.ja[i]? with _|s;have:J.ja.j<=i:=List.getElem?_eq_none_iff.1 n;rw[gL η];rw[e3 i s n];simp only[jZ,zt];rcases (xy r d).lookup i with _|lv;rfl;simp only[setDown];split<;>rfl
 have e:jA r Ts Ns {J with ja:=R,P:=J.P.set d v,«from»:=(if d+1<5 then(J.from.set d (v+1)).set (d+1) 0 else J.from.set d (v+1))}:=⟨h.stat.g,h.stat.m,h.stat.jf,h.stat.ji,h.stat.last,h.stat.bars,B,by simpa using ab,by show(if d+1<5 then(J.from.set d (v+1)).set (d+1) 0 else J.from.set d (v+1)).j=5;split<;>simpa using aa⟩;have t:∀l:zw,yz l (J.P.set d v) d=yz l J.P d:=λl=>eA l λp w _=>by rw[uQ,za η]
 have f:∀(i:Nat) (l:zw) (s b:xb),r.qc[i]?=Z l->J.ja[i]?=Z s->R[i]?=Z b->b.B.j=3/\(∀k,k<=(yI l d).j->k<3->TR b.I 0 ((yz l J.P d).G k)=Z (b.B.g k 0))/\(TR b.I 0 (yz l J.P d)).I=true/\(∀k,k<=(yI l (d+1)).j->k<3->TR b.I 0 ((yz l (J.P.set d v) (d+1)).G k)=Z (b.B.g k 0))/\(TR b.I 0 (yz l (J.P.set d v) (d+1))).I=true:=by
  intro i l s b g n a;obtain⟨n1,S,n3⟩:=h.B i l s g n;rw[e3 i s n] at a;by_cases H:zK l d=true;have G:=U7 g H;rw[N7 (Dc r d) G] at a;simp only[zt] at a;obtain⟨l',s0,u,I,_,q4,q5,_,_,_,q9⟩:=h.hold hr V G;simp only at u I q5;rw[g] at u;rw[n] at I;simp only[zt] at u I;subst u;subst I;have E:=hv _ G;obtain⟨bb,z⟩:=mh.1 E;have F:=q9 v;rw[z] at F;have w:yz l (J.P.set d v) (d+1)=yz l J.P d++[v]:=by rw[Ib l _ _ _ η,zb H]
  have c:b.I=s.I:=by rw[←a];unfold setDown;split<;>rfl
  have Q:(yz l J.P d).j=(yI l d).j:=py _ _ _;have L:∀k,k<=(yI l d).j->b.B.g k 0=s.B.g k 0:=by
   intro k o;rw[←a];unfold setDown;split;rfl;rw[uQ,za η]
  have ac:zJ s.I (s.B.g (yI l d).j 0) v=Z bb:=by
   unfold kh at z;simpa [List.getD,n] using z
  refine⟨by rw[←a];unfold setDown;split<;>simp[n1],λk o h3=>by rw[c,L k o];exact S k o h3,by rw[c];exact n3,λk o h3=>?_,by rw[c,w,F];rfl⟩;rw[c,w];rw[ni,zb H,yN,List.length_singleton] at o;by_cases K:k<=(yI l d).j;rw[List.take_append_of_le_length η,L k K];exact S k K h3;have:k=(yI l d).j+1:=η;subst this;rw[yV (by simp[Q]),F,←a];unfold setDown;rw[za η];simp only;rw[uQ,zb ⟨rfl,η⟩,ac];rfl;have ad:∀lv,(i,lv)∉xy r d:=λlv G=>by
   obtain⟨l',u,I,_⟩:=F4 G;rw[g] at u;simp only[zt] at u;subst u;exact H I
  rw[NK ad] at a;simp only[zt] at a;subst a;have w:yz l (J.P.set d v) (d+1)=yz l J.P d:=by rw[Ib l _ _ _ η,za H]
  have E:yI l (d+1)=yI l d:=by rw[ni,za H]
  exact⟨n1,S,n3,by rw[w,E];exact S,by rw[w];exact n3⟩
 have j:=fun(i:Nat) (l:zw) (b:xb) (g:r.qc[i]?=Z l) (_:R[i]?=Z b)=>h.stat.some V g;have P:∀x∈r.qx.zip Ns,vj x.1<=d->zH x.1 (J.P.set d v)=zH x.1 J.P:=λx _ o=>po x.1 λp w=>by
  have:=eo x.1 w;rw[uQ,za η]
 refine⟨trivial,C,N,λh5=>?_,⟨e,λi l b g a=>?_,λx y o=>?_,λi D=>?_,λi D=>?_⟩,λhb=>⟨e,λi l b g a=>?_,λx y o=>?_,λi D=>?_,λi D=>?_⟩⟩;rw[zb h5,uQ,zb ⟨rfl,by simp;omega⟩];obtain⟨s,n⟩:=j i l b g a;obtain⟨a1,a2,a3,_,_⟩:=f i l s b g n a;exact⟨a1,by rw[t];exact a2,by rw[t];exact a3⟩;show ua x.2 (zH x.1 (J.P.set d v))=Y;rw[P x y o];exact h.nob x y o;show(if d+1<5 then _ else _:Φ).g i 0=(J.P.set d v).g i 0+1;rw[C i D,uQ,za η];exact h.from i D;show(J.P.set d v).g i 0<W;rw[uQ,za η];exact h.small i D;obtain⟨s,n⟩:=j i l b g a;obtain⟨a1,_,_,a4,a5⟩:=f i l s b g n a;exact⟨a1,a4,a5⟩;show ua x.2 (zH x.1 (J.P.set d v))=Y;by_cases M:vj x.1<=d;rw[P x y M];exact h.nob x y M;rcases G:ua x.2 (zH x.1 (J.P.set d v)) with _|m;rfl;have:=(e8 e (d+1)).2 ⟨x,y,η,by show(ua x.2 (zH x.1 (J.P.set d v))).I=true;rw[G];rfl⟩;rw[hb] at this;cases this;show(if d+1<5 then _ else _:Φ).g i 0=(J.P.set d v).g i 0+1;by_cases A:i=d;subst A;rw[N,uQ,zb ⟨rfl,η⟩];rw[C i η,uQ,za η];exact h.from i η;show(J.P.set d v).g i 0<W;by_cases A:i=d;subst A;rw[uQ,zb ⟨rfl,η⟩];exact hW;rw[uQ,za η];exact h.small i η
end
section
variable {d W:Nat}{Ts Ns:List zl}
def NR(d:Nat)(vals:List Nat)(f:Nat)(y:List Nat):Prop:=(∀p,p<d->y.g p 0=vals.g p 0)/\f<=y.g d 0∨∃i,i<d/\(∀p,p<i->y.g p 0=vals.g p 0)/\vals.g i 0<y.g i 0
def Vl(r:zu)(Ts Ns:List zl)(E:zk->Prop)(d:Nat)(vals:List Nat)(f:Nat):Prop:=∀y,j7 r Ts Ns y->E (zH r.g y)∨NR d vals f y
def Rg{l:zw}{e:Nat}(c:∀p,zK l p=true->p<d)(a:d<=e):yI l e=yI l d:=by
 induction a with
 |refl=>rfl
 |@step m h b=>
  rw[ni,za (λq=>by have:=c _ q;have:d<=m:=h;omega),b]
def nV(d:Nat)(vals y:List Nat):List Nat:=(List.range 5).w λp=>if p<d then vals.g p 0 else y.g p 0
def oM(d:Nat)(vals y:Φ){p:Nat}(a:p<5):(nV d vals y).g p 0=if p<d then vals.g p 0 else y.g p 0:=by
 simp[nV,List.getD,a]
def I1{T:zl}{a:Nat}{p q:zk}(h:(TR T a (p++q)).I=true):(TR T a p).I=true:=by
 rw[p6] at h;rcases b:TR T a p with _|x;rw[b] at h;cases h;rfl
def U1.mix{r:zu}{J:zE}(h:U1 r Ts Ns W J d)(k:f8 r)(z:fE r Ts W)(D:d<=r.m){y:Φ}(t:j7 r Ts Ns y)(C:∀p:Nat,(p:Int)<=xM r (d:Nat)->y.g p 0=J.P.g p 0):j7 r Ts Ns (nV d J.P y)/\zH r.g (nV d J.P y)=zH r.g y:=by
 obtain⟨_,_,E,B,w⟩:=tU r (je:=(d:Nat)) η;have A:=k.m;have m:∀{l:zw},(∀p,zK l p=true->p<r.m)->(∀p,zK l p=true->p<d)->∀p,zK l p=true->(nV d J.P y).g p 0=J.P.g p 0:=λg b p f=>by
  have:=g p f;rw[oM d _ _ η,zb (b p f)]
 have j:∀{l:zw},(∀p,zK l p=true->p<r.m)->(∀p,zK l p=true->p<d->(p:Int)<=xM r (d:Nat))->∀p,zK l p=true->(nV d J.P y).g p 0=y.g p 0:=λg b p f=>by
  have:=g p f;rw[oM d _ _ η];split;rename_i o;exact(C p (b p f o)).z;rfl
 refine⟨⟨λi l T g n=>⟨λq=>(t.1 i l T g n).1 q,λq=>?_⟩,λx u=>?_⟩,po _ (j k.g λp f b=>by have:=Ag r.g (je:=((d:Nat):Int)) f η;omega)⟩;have a:=fD g;rcases Co (B l a) with b|b;obtain⟨s,v⟩:=h.stat.some z g;have c:=h.stat.side v;rw[n] at c;simp only[zt] at c;have e:yz l (nV d J.P y) 5=yz l J.P d:=by
  rw[eA l (y:=J.P) λp _ f=>m (k.qc l a) b p f];unfold yz;rw[Rg b η]
 rw[e,c];exact(h.B i l s g v).2.2;rw[eA l (y:=y) λp _ f=>j (k.qc l a) b p f];exact(t.1 i l T g n).2 q;have a:=(List.of_mem_zip u).1;rcases Co (w x.1 a) with b|b;rw[po x.1 (m (k.qx x.1 a) b)];exact h.nob x u (Cl x.1 b);rw[po x.1 (j (k.qx x.1 a) b)];exact t.2 x u
def U1.sol{r:zu}{J:zE}(h:U1 r Ts Ns W J d)(c:f8 r)(i:fE r Ts W)(w:d<r.m){y:Φ}(k:j7 r Ts Ns y)(f:∀p,p<d->y.g p 0=J.P.g p 0):∀x∈xy r d,(kh J x (y.g d 0)).I=true:=by
 intro x u;obtain⟨l,s,t,o,b,_,_,_,_,_,v⟩:=h.hold c i u;have n:=c.m;have g:=h.stat.side o;have j:xi l≠0:=by
  rw[lu];intro q;have:d∈yI l 5:=(sg l 5 d).2 ⟨η,b⟩;rw[pe.1 q] at this;cases this
 have a:=(k.1 x.1 l s.I t g).2 j;rw[←v];have e:yz l J.P d++[y.g d 0]=yz l y (d+1):=by
  have:yz l y d=yz l J.P d:=eA l λp m _=>f p m;unfold yz at this ⊢;rw[ni,zb b,qF,this];rfl
 rw[e,oh l y (show d+1<=5 by omega)];unfold uv at a;rw[←kj (yI l (d+1)).j (yz l y 5)] at a;exact I1 a
def rM(W:Nat):Nat->Nat
 |0=>1
 |j+1=>W*(1+rM W j)+1
def lW(W vars d f:Nat):Nat:=(W-f)*(1+rM W (vars-d-1))+1
def fu(W vars:Nat)(vals:List Nat):Nat->Nat
 |0=>0
 |d+1=>fu W vars vals d+lW W vars d (vals.g d 0+1)
def vP(W vars d:Nat)(vals:List Nat)(f:Nat):Nat:=fu W vars vals d+if d<vars then lW W vars d f else 1
def CT(W vars:Nat){x y:Φ}:∀d,(∀p,p<d->x.g p 0=y.g p 0)->fu W vars x d=fu W vars y d
 |0,_=>rfl
 |d+1,h=>by simp only[fu];rw[CT W vars d (λp a=>h p η),h d η]
def IH(W vars:Nat)(vals:Φ){a b:Nat}(h:a<=b):fu W vars vals a<=fu W vars vals b:=by
 induction h with
 |refl=>exact zg _
 |step h c=>simp only[fu];omega
def MW{vars f v:Nat}{vals:Φ}(a:d<vars)(c:d<vals.j)(i:f<=v)(l:v<W):vP W vars (d+1) (vals.set d v) 0<vP W vars d vals f/\vP W vars d (vals.set d v) (v+1)<vP W vars d vals f:=by
 have b:fu W vars (vals.set d v) d=fu W vars vals d:=CT W vars d λp m=>by rw[uQ,za η]
 have g:(vals.set d v).g d 0=v:=by rw[uQ,zb ⟨rfl,c⟩]
 have e:(if d+1<vars then lW W vars (d+1) 0 else 1)=rM W (vars-d-1):=by
  split;obtain⟨j,h⟩:∃j,vars-d-1=j+1:=⟨vars-d-2,η⟩;rw[h];unfold lW;rw[show vars-(d+1)-1=j by omega,Nat.sub_zero];rfl;rw[show vars-d-1=0 by omega];rfl
 have n:lW W vars d f=lW W vars d (v+1)+(v+1-f)*(1+rM W (vars-d-1)):=by
  unfold lW;rw[show W-f=(W-(v+1))+(v+1-f) by omega,lG];omega
 have k:1*(1+rM W (vars-d-1))<=(v+1-f)*(1+rM W (vars-d-1)):=fB _ η;refine⟨?_,?_⟩;unfold vP;rw[zb a,e];simp only[fu];rw[b,g];omega;unfold vP;rw[zb a,zb a,b];omega
def Fz(W vars d:Nat)(vals:Φ)(f:Nat):1<=vP W vars d vals f:=by
 unfold vP;split;unfold lW;omega;omega
def Gr{vars b f:Nat}{vals:Φ}(e:d<=vars)(h:b<d):vP W vars b vals (vals.g b 0+1)<vP W vars d vals f:=by
 have a:vP W vars b vals (vals.g b 0+1)=fu W vars vals (b+1):=by
  unfold vP;rw[zb η];rfl
 have g:=IH W vars vals (show b+1<=d by omega);have c:1<=if d<vars then lW W vars d f else 1:=by
  split;unfold lW;omega;omega
 rw[a];unfold vP;omega
def Oa(r:zu)(Ts Ns:List zl)(W:Nat)(E:zk->Prop)(M:Nat)(a:zE):Bool->Prop
 |true=>U1 r Ts Ns W a r.m/\Vl r Ts Ns E r.m a.P 0/\vP W r.m r.m a.P 0<=M
 |false=>(∀y,j7 r Ts Ns y->E (zH r.g y))/\jA r Ts Ns a
def jA.ok{r:zu}{Ts Ns:List zl}{W:Nat}{J:zE}(h:jA r Ts Ns J)(e:fE r Ts W):Ar J:=by
 intro i;rcases b:J.ja[i]? with _|s;have:J.ja.g i xb.zero=xb.zero:=by simp[List.getD,b]
 rw[this];intro a f;simp[xb.zero] at f;have:J.ja.g i xb.zero=s:=by simp[List.getD,b]
 rw[this];have c:=h.side b;have j:i<r.qc.j:=by rw[←e.len];exact(j5.1 c).1
 obtain⟨⟨g,hinv⟩,_⟩:=(e.ok i _ _ (yn j) c).1;exact hinv.node
def Mq{r:zu}(G:f8 r)(L:fE r Ts W)(E:zk->Prop)(A:Nat)(hA:W*(r.qc.j+1)+r.qc.j<=A):
  ∀(n:Nat) (J:zE) (d f:Nat),U1 r Ts Ns W J d->d<=r.m->(d<r.m->J.from.g d 0=f)->Vl r Ts Ns E d J.P f->vP W r.m d J.P f+A<n->∃M b,jE n J (d:Nat)=Z (M,b)/\Oa r Ts Ns W E (vP W r.m d J.P f) M b:=by
 intro n;induction n with
 |zero=>intro J d f _ _ _ _ h;omega
 |succ n ih=>
  intro J d f h hd ae hL hn;have au:=G.m;have ao:=Fz W r.m d J.P f;unfold jE;have Q:=h.stat.m;by_cases j:d<r.m;rw[zb ⟨η,by rw[Q];omega,η⟩];simp only[Int.toNat_natCast];have a:=h.stat.holdsAt (show d<5 by omega);have af:J.jf.g d []≠[]:=by
   rw[a];obtain⟨l,ah,ai⟩:=G.safe d j;obtain⟨i,hi,rfl⟩:=vd ah;intro q;have:=U7 (yn hi) ai;rw[q] at this;cases this
  have an:(xy r d).j<=r.qc.j:=by
   unfold xy;refine zY (tz _ _) ?_;simp
  have aw:W*((xy r d).j+1)+(xy r d).j<=A:=by
   have:W*((xy r d).j+1)<=W*(r.qc.j+1):=nC _ η;omega
  obtain⟨D,al,a1,a2,a3⟩:=IU W J d (J.from.g d 0) n η (h.stat.ok L) af (by
   rw[a];intro x B;obtain⟨_,_,_,_,_,_,_,q,_⟩:=h.hold G L B;exact q) (by
   rw[a];intro x B v hv;obtain⟨l,s,_,u,_,_,_,_,_,q8,_⟩:=h.hold G L B;unfold kh at hv;obtain⟨b,C⟩:=mh.1 hv;have:=(fU C).2;rw[show J.ja.g x.1 xb.zero=s by simp[List.getD,u]] at this;omega) (by rw[a];omega)
  rw[a] at a3;rw[ae j] at a1 a3;rw[ae j,a1];have h1:=h.same a2;have g:D.P=J.P:=by rw[a2]
  have T:D.from=J.from:=by rw[a2]
  have N:=λx v=>Kz a2 x v;rcases al with _|v;simp only;have am:D.ji.g d 0=xM r (d:Nat):=by rw[h1.stat.ji];simp[List.getD,show d<5 by omega]
  rw[am];obtain⟨b1,b2,b3,b4,b5⟩:=tU r (je:=((d:Nat):Int)) η;have F:∀y,j7 r Ts Ns y->(∀p:Nat,(p:Int)<=xM r (d:Nat)->y.g p 0=J.P.g p 0)->E (zH r.g y):=by
   intro y m ha;obtain⟨m1,m2⟩:=h.mix G L hd m ha;have I:∀p,p<d->(nV d J.P y).g p 0=J.P.g p 0:=λp o=>by rw[oM d _ _ η,zb o]
   rw[←m2];rcases hL _ m1 with q|⟨_,q⟩|⟨i,k,_,S⟩;exact q;obtain⟨x,B,P⟩:=a3 _ q;have:=h.sol G L j m1 I x B;rw[P] at this;cases this;rw[I i k] at S;omega
  by_cases ap:xM r (d:Nat)<0;have ag:xM r (d:Nat)=-1:=η;rw[ag];rcases n with _|n;omega;refine⟨D,false,?_,?_,h1.stat⟩;unfold jE;rw[za η];have:¬((-1:Int)≥(D.m:Int)):=η;simp[this];intro y m;exact F y m λp o=>η;obtain⟨b,C⟩:∃b:Nat,xM r (d:Nat)=(b:Int):=⟨(xM r (d:Nat)).D,η⟩;rw[C] at F b1 ⊢;have ac:b<d:=η;have hM:=Gr (W:=W) (vars:=r.m) (f:=f) (vals:=J.P) hd ac;obtain⟨M,H,s1,t⟩:=ih D b (J.P.g b 0+1) (h1.back η) η (λ_=>by rw[T,h.from b ac]) (by
   rw[g];intro y m;rcases hL y m with q|⟨k,u⟩|⟨i,k,u,S⟩;exact zh q;exact zh (F y m λp o=>k p η);by_cases ar:i<=b;refine ze ?_;by_cases ab:i=b;subst ab;exact zh ⟨u,η⟩;exact ze ⟨i,η,u,S⟩;exact zh (F y m λp o=>u p η)) (by rw[g];omega)
  refine⟨M,H,s1,?_⟩;rw[g] at t;cases H;exact t;exact⟨t.1,t.2.1,by have:=t.2.2;omega⟩;simp only;obtain⟨c1,c2,c3⟩:=a3;have ad:v<W:=by
   obtain⟨x,B⟩:=List.exists_mem_of_ne_nil _ (a ▸ af);obtain⟨l,s,_,u,_,_,_,_,_,q8,_⟩:=h.hold G L B;have hv:=c2 x B;unfold kh at hv;obtain⟨b,C⟩:=mh.1 hv;have:=(fU C).2;rw[show J.ja.g x.1 xb.zero=s by simp[List.getD,u]] at this;omega
  obtain⟨K,t2,t3,t4,t5,t6⟩:=h1.G G L j (v:=v) (λx B=>by rw[N];exact c2 x B) ad;rw[g] at K;have aa:d<J.P.j:=by rw[h.stat.vlen];omega
  obtain⟨m1,m2⟩:=MW (W:=W) (vars:=r.m) (f:=f) (vals:=J.P) j aa c1 ad;have z:∀y,j7 r Ts Ns y->(∀p,p<d->y.g p 0=J.P.g p 0)->f<=y.g d 0->v<=y.g d 0:=by
   intro y m ha hq;false_or_by_contra
   rename_i aq;obtain⟨x,B,P⟩:=c3 (y.g d 0) hq η;have:=h.sol G L j m ha x B;rw[P] at this;cases this
  have c:∀p,p<d->(J.P.set d v).g p 0=J.P.g p 0:=λp o=>by rw[uQ,za η]
  have w:(J.P.set d v).g d 0=v:=by rw[uQ,zb ⟨rfl,aa⟩]
  by_cases C:vi (uE D d v) (d+1)=true;rw[zb C];obtain⟨x,B,hk,hm⟩:=(e8 t5.stat (d+1)).1 C;rw[K] at hm;obtain⟨M,H,s1,t⟩:=ih (uE D d v) d (v+1) t5 hd (λ_=>t3) (by
   rw[K];intro y m;rcases hL y m with q|⟨k,u⟩|⟨i,k,u,S⟩;exact zh q;have aj:=z y m k u;by_cases R:y.g d 0=v;have:=m.2 x B;rw[po x.1 (y:=J.P.set d v) λp o=>?_] at this;rw[this] at hm;cases hm;have av:=eo x.1 o;by_cases V:p=d;rw[V,w,R];rw[c p η,k p η];exact ze (zh ⟨λp o=>by rw[c p o];exact k p o,η⟩);exact ze (ze ⟨i,k,λp o=>by rw[c p η];exact u p o,by rw[c i k];exact S⟩)) (by rw[K];omega)
  refine⟨M,H,s1,?_⟩;rw[K] at t;cases H;exact t;exact⟨t.1,t.2.1,by have:=t.2.2;omega⟩;rw[za C];have C:vi (uE D d v) (d+1)=false:=by simpa using C
  have e:((d:Nat):Int)+1=((d+1:Nat):Int):=η;rw[e];obtain⟨M,H,s1,t⟩:=ih (uE D d v) (d+1) 0 (t6 C) η (λ_=>t4 η) (by
   rw[K];intro y m;rcases hL y m with q|⟨k,u⟩|⟨i,k,u,S⟩;exact zh q;have aj:=z y m k u;by_cases R:y.g d 0=v;refine ze (zh ⟨λp o=>?_,zs _⟩);by_cases V:p=d;rw[V,w,R];rw[c p η];exact k p η;exact ze (ze ⟨d,η,λp o=>by rw[c p o];exact k p o,by rw[w];omega⟩);exact ze (ze ⟨i,η,λp o=>by rw[c p η];exact u p o,by rw[c i k];exact S⟩)) (by rw[K];omega)
  refine⟨M,H,s1,?_⟩;rw[K] at t;cases H;exact t;exact⟨t.1,t.2.1,by have:=t.2.2;omega⟩;have ak:d=r.m:=η;subst ak;rw[za (by rw[Q];omega)];refine⟨J,true,by simp[Q],h,?_,?_⟩;intro y m;rcases hL y m with q|⟨k,_⟩|q;exact zh q;exact ze (zh ⟨k,zs _⟩);exact ze (ze q);unfold vP;rw[za j,za j];exact zg _
end
def pA(r:zu)(a Ns:List zl)(W:Nat)(E:zk->Prop)(J:zE)(M:Nat):Prop:=
 J.ql=-1/\jA r a Ns J/\(∀y,j7 r a Ns y->E (zH r.g y))∨(∀(i:Nat) (T:zl),a[i]?=Z T->T.count≠0)/\∃(d f:Nat),J.ql=(d:Nat)/\d<=r.m/\U1 r a Ns W J d/\(d<r.m->J.from.g d 0=f)/\Vl r a Ns E d J.P f/\vP W r.m d J.P f<=M
def tW{d:Nat}(c:d≠0)(e:d<=3):xx d=d:=by unfold xx;by_cases b:d<1<;>by_cases a:d>3<;>simp[b,a]<;>omega
def eI.count{T:zl}{l:zw}{y:Φ}(h:eI T l y)(c:vU T)(e:T.ql=xx (xi l))(g:l.v.j<=3):T.count≠0:=by
 by_cases a:xi l=0;exact h.1 a;have d:=h.2 a;have f:=iW l 5;rw[←lu] at f;have b:=(qU T _).2 ⟨by rw[py,←lu,e,tW a η],d⟩;have:=nI b;rw[c.cnt] at this;omega
def n9(r:zu)(qc qx:List zl):zE:={g:=r.g,m:=r.m,ja:=qc.w (λT=>⟨T,[0,0,0]⟩),bars:=(r.qx.zip qx).w (λx=>⟨x.1,vj x.1,x.2⟩),jf:=(List.range 5).w (xy r),ji:=(List.range 5).w (λp=>xM r (p:Nat)),last:=xM r r.m,P:=[0,0,0,0,0],«from»:=[0,0,0,0,0],ql:=if qc.any (λT=>T.count == 0) then -1 else 0,jg:=0}
def Lz(r:zu)(a Ns:List zl):xK r a Ns=if vi (n9 r a Ns) 0 then{n9 r a Ns with ql:=-1} else n9 r a Ns:=rfl
def o5(r:zu)(a Ns:List zl):∃b,xK r a Ns={n9 r a Ns with ql:=b}/\b=if vi (xK r a Ns) 0=true then -1 else if a.any (λT=>T.count == 0)=true then -1 else 0:=by
 have d:∀b:Int,vi {n9 r a Ns with ql:=b} 0=vi (n9 r a Ns) 0:=λ_=>rfl;rw[Lz];by_cases c:vi (n9 r a Ns) 0=true;rw[zb c];exact⟨-1,rfl,by rw[d,zb c]⟩;rw[za c];exact⟨_,rfl,by rw[za c]⟩
def LT(r:zu)(a Ns:List zl):jA r a Ns (xK r a Ns)/\(xK r a Ns).P=[0,0,0,0,0]/\(xK r a Ns).from=[0,0,0,0,0]/\(xK r a Ns).ja=a.w (λT=>⟨T,[0,0,0]⟩):=by
 obtain⟨b,h,_⟩:=o5 r a Ns;rw[h];exact⟨⟨rfl,rfl,rfl,rfl,rfl,rfl,by simp[n9,Function.comp_def],rfl,rfl⟩,rfl,rfl,rfl⟩
def Oj{r:zu}{b Ns:List zl}{W:Nat}(H:f8 r)(C:fE r b W)(E:zk->Prop):pA r b Ns W E (xK r b Ns) (vP W r.m 0 [] 0):=by
 obtain⟨c,J,A,w⟩:=LT r b Ns;have d:(∃(i:Nat) (T:zl),b[i]?=Z T/\T.count=0)->∀y,¬j7 r b Ns y:=by
  rintro⟨i,T,g,j⟩ y f;have n:i<r.qc.j:=by rw[←C.len];exact(j5.1 g).1
  have t:=yn n;obtain⟨I,G,_⟩:=C.ok i _ T t g;exact(f.1 i _ T t g).count I G (H.v _ (fD t)) j
 have e:vi (xK r b Ns) 0=true->∀y,¬j7 r b Ns y:=by
  intro h y f;obtain⟨x,B,u,v⟩:=(e8 c 0).1 h;have:=f.2 x B;rw[po x.1 (y:=(xK r b Ns).P) λp o=>by have:=eo x.1 o;omega] at this;rw[this] at v;cases v
 have a:(xK r b Ns).ql=if vi (xK r b Ns) 0=true then -1 else if b.any (λT=>T.count == 0)=true then -1 else 0:=by
  obtain⟨K,g,j⟩:=o5 r b Ns;rw[←j,g]
 by_cases h:vi (xK r b Ns) 0=true;left;rw[zb h] at a;exact⟨a,c,λy f=>zB f (e h y)⟩;rw[za h] at a;by_cases q:b.any (λT=>T.count == 0)=true;left;rw[zb q] at a;refine⟨a,c,λy f=>zB f (d ?_ y)⟩;obtain⟨T,g,j⟩:=fc.1 q;obtain⟨i,n,rfl⟩:=vd g;exact⟨i,_,yn n,by simpa using j⟩;right;rw[za q] at a;refine⟨λi T D F=>q (fc.2 ⟨T,fD D,by simp[F]⟩),0,0,a,zs _,⟨c,λi l s t z=>?_,λx B u=>?_,λi n=>η,λi n=>η⟩,λ_=>by rw[A];rfl,λy _=>ze (zh ⟨λp o=>η,zs _⟩),?_⟩;rw[w] at z;simp only[mL,qn] at z;obtain⟨T,D,rfl⟩:=z;have o:yz l (xK r b Ns).P 0=[]:=rfl;refine⟨rfl,λk u L=>?_,by rw[o];rfl⟩;have:k=0:=by simp[yI] at u;exact u
 subst this;rw[o];rfl;rcases v:ua x.2 (zH x.1 (xK r b Ns).P) with _|m;rfl;exact zB ((e8 c 0).2 ⟨x,B,η,by rw[v];rfl⟩) h;unfold vP;exact zg _
def Qb{r:zu}{u Ns:List zl}{W:Nat}(z:f8 r)(Q:fE r u W)(E:zk->Prop)(A:Nat)(hA:W*(r.qc.j+1)+r.qc.j<=A)(n:Nat)(J:zE)(M:Nat)(h:pA r u Ns W E J M)(hn:M+A+1<n):
  ∃e b,lf n J=Z (e,b)/\(b=false->∀y,j7 r u Ns y->E (zH r.g y))/\(b=true->j7 r u Ns e.P/\e.g=r.g/\∃V,V<M/\pA r u Ns W (λx=>E x∨x=zH r.g e.P) e V):=by
 unfold lf;rcases h with⟨F,N,K⟩|⟨t,d,f,F,N,K,h4,h5,h6⟩
 rw[F];obtain⟨k,rfl⟩:∃k,n=k+1:=⟨n-1,η⟩;refine⟨{J with ql:=-1},false,?_,λ_=>K,λq=>by cases q⟩;unfold jE;have:¬((-1:Int)≥(J.m:Int)):=η;simp[this];rw[F];obtain⟨e,b,s1,s2⟩:=Mq z Q E A hA n J d f K N h4 h5 η;rw[s1];simp only;cases b;exact⟨_,false,rfl,λ_=>s2.1,λq=>by cases q⟩;obtain⟨c,t2,t3⟩:=s2;have G:=z.m;have D:j7 r u Ns e.P:=by
  refine⟨λi l T H R=>⟨λ_=>t i T R,λ_=>?_⟩,λx hx=>?_⟩;obtain⟨s,S⟩:=c.stat.some Q H;have j:=c.stat.side S;rw[R] at j;simp only[zt] at j;rw[Jz G (z.qc l (fD H)),j];exact(c.B i l s H S).2.2;exact c.nob x hx (Cl x.1 (z.qx x.1 (List.of_mem_zip hx).1))
 refine⟨_,true,rfl,λq=>(by cases q),λ_=>⟨D,c.stat.g,?_⟩⟩;obtain⟨b1,b2,b3,_,_⟩:=tU r (je:=((r.m:Nat):Int)) η;have m:=c.stat.last;have v:∀y,(∀p:Nat,(p:Int)<=xM r (r.m:Nat)->y.g p 0=e.P.g p 0)->zH r.g y=zH r.g e.P:=λy ha=>po r.g λp C=>ha p (by
  have F:=z.g p C;have:=Ag r.g (je:=((r.m:Nat):Int)) C η;omega)
 have g:jA r u Ns {e with ql:=e.last}:=⟨c.stat.g,c.stat.m,c.stat.jf,c.stat.ji,c.stat.last,c.stat.bars,c.stat.ja,c.stat.vlen,c.stat.flen⟩;have L:=Fz W r.m d J.P f;by_cases P:xM r (r.m:Nat)<0;refine⟨M-1,η,zh ⟨by show e.last=-1;rw[m];omega,g,λy hy=>?_⟩⟩;exact ze (v y λp C=>η);obtain⟨o,hb⟩:∃b:Nat,xM r (r.m:Nat)=(b:Int):=⟨(xM r (r.m:Nat)).D,η⟩;have w:o<r.m:=η;have hM:=Gr (W:=W) (vars:=r.m) (f:=0) (vals:=e.P) (zg _) w;have a:=c.back (b:=o) η;refine⟨vP W r.m o e.P (e.P.g o 0+1),η,ze ⟨t,o,e.P.g o 0+1,by show e.last=_;rw[m,hb],η,⟨g,a.B,a.nob,a.from,a.small⟩,λ_=>c.from o w,λy hy=>?_,zg _⟩⟩;rcases t2 y hy with q|⟨q1,_⟩|⟨i,q1,I,q3⟩;exact zh (zh q);exact zh (ze (v y λp C=>q1 p η));by_cases aa:i<=o;refine ze ?_;by_cases B:i=o;subst B;exact zh ⟨I,η⟩;exact ze ⟨i,η,I,q3⟩;exact zh (ze (v y λp C=>I p η))
section
variable {l:zw}{W:Nat}
structure qz (l:zw) (a W:Nat):Prop where
 len:l.v.j=a
 le3:a<=3
 lev:∀t∈l.v,t.var=true->t.z<5/\xh l t.z=Z t.w
 con:∀t∈l.v,t.var=false->t.z<W
def T0(a:Nat)(row:zk):Prop:=row.j=3/\∀i,a<=i->row.g i 0=0
def sH(l:zw)(y:Φ){i:Nat}(a:i<3):(zH l y).g i 0=Tj l y i:=by
 match i,a with
 |0,_=>rfl
 |1,_=>rfl
 |2,_=>rfl
def iw{a:Nat}(h:qz l a W)(y:Φ):T0 a (zH l y):=by
 refine⟨rfl,λi c=>?_⟩;by_cases b:i<3;rw[sH l y b];unfold Tj;rw[za (by rw[h.len];omega)];simp[List.getD,zH];rw[gL υ];rfl
def EM{a:Nat}{x y:zk}(c:T0 a x)(d:T0 a y)(h:∀i,i<a->i<3->x.g i 0=y.g i 0):x=y:=by
 refine jy (by rw[c.1,d.1]) λi b g=>?_;have e:x.g i 0=y.g i 0:=by
  by_cases f:i<a;exact h i f (by rw[c.1] at b;exact b);rw[c.2 i η,d.2 i η]
 simpa [List.getD,b,g] using e
def JZ{p d:Nat}(a:zK l p=true)(c:p<d):(yI l d)[(yI l p).j]?=Z p:=by
 obtain⟨t,b⟩:=oK l (show p+1<=d by omega);rw[←b,ni,zb a];simp
def eW{p j:Nat}(h:xh l p=Z j)(a:p<5):(yI l 5)[j]?=Z p:=by
 rw[BI] at h;split at h;rename_i b;simp only[zt] at h;subst h;exact JZ b a;cases h
def AS{p j:Nat}(h:xh l p=Z j)(a:p<5):j<xi l:=by
 have:=eW h a;rw[lu];exact(j5.1 this).1
def iX{a:Nat}(h:qz l a W):xi l<=3:=by
 have:=iW l 5;rw[lu];have:=h.len;have:=h.le3;omega
def qz.leveled{l:zw}{a W:Nat}(h:qz l a W){t:yi}(e:t∈l.v):leveled t=t.var:=by
 unfold Go.Proofs.YteampbddflhngaaGreat.leveled;cases b:t.var;rfl;obtain⟨d,c⟩:=h.lev t e b;have:=AS c d;have:=iX h;simp;omega
def rW(l:zw)(row f:zk)(i:Nat):(jv l row f i).j=f.j:=by unfold jv;split<;>simp
def tS(l:zw)(row:zk):(uL l row).j=3:=by unfold uL;rw[rW,rW,rW];rfl
def A8{row:zk}{g:Nat->Nat}(v:∀i (c:i<l.v.j),leveled l.v[i]=true->row.g i 0=g l.v[i].w){f:zk}{m:Nat}(t:f.j=3)
  (s:∀j,j<3->(f.g j 0=g j∨f.g j 0=0)/\((∃i,∃c:i<l.v.j,i<m/\leveled l.v[i]=true/\l.v[i].w=j)->f.g j 0=g j)/\((¬∃i,∃c:i<l.v.j,leveled l.v[i]=true/\l.v[i].w=j)->f.g j 0=0)):
  ∀j,j<3->((jv l row f m).g j 0=g j∨(jv l row f m).g j 0=0)/\((∃i,∃c:i<l.v.j,i<m+1/\leveled l.v[i]=true/\l.v[i].w=j)->(jv l row f m).g j 0=g j)/\((¬∃i,∃c:i<l.v.j,leveled l.v[i]=true/\l.v[i].w=j)->(jv l row f m).g j 0=0):=by
 intro j o;obtain⟨p,r,n⟩:=s j o;unfold jv;by_cases b:m<l.v.j/\leveled (l.v.g m ⟨false,0,0⟩)=true;rw[zb b];have e:l.v.g m ⟨false,0,0⟩=l.v[m]'b.1:=by simp[List.getD,b.1]
 rw[e] at b ⊢;rw[uQ];by_cases a:l.v[m].w=j/\l.v[m].w<f.j;rw[zb a];have:=v m b.1 b.2;rw[a.1] at this;exact⟨zh this,λ_=>this,λq=>zB ⟨m,b.1,b.2,a.1⟩ q⟩;rw[za a];refine⟨p,?_,n⟩;rintro⟨i,c,u,k,h⟩;by_cases d:i=m;subst d;exact zB ⟨h,by rw[h,t];exact o⟩ a;exact r ⟨i,c,η,k,h⟩;rw[za b];refine⟨p,?_,n⟩;rintro⟨i,c,u,k,h⟩;by_cases d:i=m;subst d;exact zB ⟨c,by simpa [List.getD,c] using k⟩ b;exact r ⟨i,c,η,k,h⟩
def Rv{a:Nat}(h:qz l a W){row:zk}{g:Nat->Nat}(c:∀i (b:i<l.v.j),leveled l.v[i]=true->row.g i 0=g l.v[i].w)(j:Nat)(d:j<3):((∃i,∃b:i<l.v.j,leveled l.v[i]=true/\l.v[i].w=j)->(uL l row).g j 0=g j)/\((¬∃i,∃b:i<l.v.j,leveled l.v[i]=true/\l.v[i].w=j)->(uL l row).g j 0=0):=by
 have m:∀j,j<3->((([0,0,0]:zk).g j 0=g j∨([0,0,0]:zk).g j 0=0)/\((∃i,∃b:i<l.v.j,i<0/\leveled l.v[i]=true/\l.v[i].w=j)->([0,0,0]:zk).g j 0=g j)/\((¬∃i,∃b:i<l.v.j,leveled l.v[i]=true/\l.v[i].w=j)->([0,0,0]:zk).g j 0=0)):=by
  intro j d;have e:([0,0,0]:zk).g j 0=0:=by
   match j,d with
   |0,_=>rfl
   |1,_=>rfl
   |2,_=>rfl
  exact⟨ze e,fun⟨i,_,q,_⟩=>η,λ_=>e⟩
 have r:=A8 c rfl m;have p:=A8 c (by rw[rW];rfl) r;have s:=A8 c (by rw[rW,rW];rfl) p;obtain⟨_,o,f⟩:=s j d;refine⟨fun⟨i,b,k,n⟩=>o ⟨i,b,?_,k,n⟩,f⟩;have:=h.len;have:=h.le3;omega
def Ck{a:Nat}(h:qz l a W){row f:zk}:xZ l row=Z f↔f=uL l row/\∀i (b:i<l.v.j),jM l.v[i] (row.g i 0) (uL l row)=true:=by
 have c:(xU l row (uL l row) 0&&xU l row (uL l row) 1&&xU l row (uL l row) 2)=true↔∀i (b:i<l.v.j),jM l.v[i] (row.g i 0) (uL l row)=true:=by
  have e:∀i,xU l row (uL l row) i=true↔∀b:i<l.v.j,jM l.v[i] (row.g i 0) (uL l row)=true:=by
   intro i;unfold xU;simp only[lz,decide_eq_true_eq];constructor;rintro(q|q) b;omega;simpa [List.getD,b] using q;intro q;by_cases b:i<l.v.j;exact ze (by simpa [List.getD,b] using q b);exact zh η
  simp only[uK,e];constructor;rintro⟨⟨j,k⟩,m⟩ i b;have:=h.len;have:=h.le3;have g:i=0∨i=1∨i=2:=η;rcases g with rfl|rfl|rfl;exact j b;exact k b;exact m b;intro q;exact⟨⟨λb=>q 0 b,λb=>q 1 b⟩,λb=>q 2 b⟩
 unfold xZ;by_cases d:(xU l row (uL l row) 0&&xU l row (uL l row) 1&&xU l row (uL l row) 2)=true;rw[zb d];simp only[zt];exact⟨λq=>⟨q.z,c.1 d⟩,λq=>q.1.z⟩;rw[za d];constructor;intro q;cases q;intro q;exact zB (c.2 q.2) d
def JB{l:Φ}(h:l.Nodup){i j:Nat}(b:i<l.j)(c:j<l.j)(e:l[i]=l[j]):i=j:=by
 have a:=rx.1 h;rcases rm i j with q|q|q;exact zB e (a i j b c q);exact q;exact zB e.z (a j i c b q)
def Nn{a:Nat}(h:qz l a W)(y:Φ):∃f,xZ l (zH l y)=Z f/\f.j=3/\f.G (xi l)=yz l y 5/\∀j,xi l<=j->f.g j 0=0:=by
 have p:∀i (b:i<l.v.j),(zH l y).g i 0=U0 l.v[i] y:=λi b=>by
  have:=h.len;have:=h.le3;rw[sH l y η];unfold Tj;simp[List.getD,b]
 have x:∀i (b:i<l.v.j),leveled l.v[i]=true->(zH l y).g i 0=(yz l y 5).g l.v[i].w 0:=λi b c=>by
  have n:=zq b;rw[h.leveled n] at c;obtain⟨q,m⟩:=h.lev _ n c;rw[p i b];unfold U0;rw[zb (by simp[c,q])];have:=eW m q;unfold yz;simp[List.getD,this]
 have s:=λj k=>Rv h (row:=zH l y) (g:=λj=>(yz l y 5).g j 0) x j k;have r:∀i (b:i<l.v.j),leveled l.v[i]=true->l.v[i].w<xi l:=λi b c=>by
  have n:=zq b;rw[h.leveled n] at c;obtain⟨q,m⟩:=h.lev _ n c;exact AS m q
 have A:=iX h;have o:∀j,xi l<=j->(uL l (zH l y)).g j 0=0:=λj k=>by
  by_cases E:j<3;exact(s j E).2 fun⟨i,b,G,J⟩=>by have:=r i b G;omega
  have:=tS l (zH l y);simp[List.getD,List.getElem?_eq_none (show(uL l (zH l y)).j<=j by omega)]
 have d:∀j,j<xi l->(uL l (zH l y)).g j 0=(yz l y 5).g j 0:=λj k=>by
  refine(s j η).1 ?_;rw[lu] at k;have H:=zq k;obtain⟨I,B⟩:=(sg l 5 _).1 H;obtain⟨t,u,w,C⟩:=(fJ l _).1 B;obtain⟨i,b,rfl⟩:=vd u;refine⟨i,b,by rw[h.leveled u];exact w,?_⟩;obtain⟨z,F⟩:=h.lev _ u w;have:=eW F z;rw[C] at this;obtain⟨D,e⟩:=j5.1 this;exact JB (List.nodup_range.filter _:(yI l 5).Nodup) D k e
 refine⟨uL l (zH l y),(Ck h).2 ⟨rfl,λi b=>?_⟩,tS _ _,?_,o⟩;unfold jM;have n:=zq b;cases c:leveled l.v[i];rw[za ζ,p i b];rw[h.leveled n] at c;unfold U0;rw[za (by simp[c])];simp;rw[zb rfl,d _ (r i b c),x i b c];simp;refine jy (by rw[vc,tS,py,←lu];omega) λj q m=>?_;have k:j<xi l:=by rw[py,←lu] at m;exact m
 have:=d j k;have v:j<(uL l (zH l y)).j:=by rw[tS];omega
 simp only[List.getD,yn v,yn m,uD] at this;rw[List.getElem_take];exact this
def Dg{a:Nat}(h:qz l a W){row f:zk}(q:T0 a row)(p:xZ l row=Z f)(y:Φ)(r:f.G (xi l)=yz l y 5):row=zH l y:=by
 obtain⟨rfl,j⟩:=(Ck h).1 p;refine EM q (iw h y) λi s t=>?_;have c:i<l.v.j:=by rw[h.len];exact s
 have b:=zq c;have d:=j i c;rw[sH l y t];unfold Tj;rw[zb c,show l.v.g i ⟨false,0,0⟩=l.v[i] by simp[List.getD,c]];unfold jM at d;unfold U0;cases g:leveled l.v[i];rw[g,za ζ] at d;rw[h.leveled b] at g;rw[za (by simp[g])];exact(by simpa using d:l.v[i].z=row.g i 0).z;rw[g,zb rfl] at d;rw[h.leveled b] at g;obtain⟨m,o⟩:=h.lev _ b g;rw[zb (by simp[g,m])];have n:=AS o m;have k:=eW o m;have e:(uL l row).g l.v[i].w 0=((uL l row).G (xi l)).g l.v[i].w 0:=by
  simp[List.getD,n]
 rw[e,r] at d;unfold yz at d;simp only[List.getD,mL,k,jZ,uD,beq_iff_eq] at d;exact d.z
end
section
variable {W:Nat}{l:zw}{T:zl}
def TF(W:Nat)(row:zk):Prop:=∀v∈row,v<W
def RJ{row:zk}(h:TF W row)(b:0<W)(i:Nat):row.g i 0<W:=by
 by_cases a:i<row.j;rw[show row.g i 0=row[i] by simp[List.getD,a]];exact h _ (zq a);rw[show row.g i 0=0 by simp[List.getD,a]];exact b
def oZ{row f:zk}(d:0<W)(c:TF W row)(a:TF W f)(i:Nat):TF W (jv l row f i):=by
 unfold jv;split;intro v b;rcases lK b with q|q;exact a v q;rw[q];exact RJ c d i;exact a
def Qp{row f:zk}(b:0<W)(c:TF W row)(a:xZ l row=Z f):f.j=3/\TF W f:=by
 unfold xZ at a;split at a;simp only[zt] at a;rw[←a];refine⟨tS l row,?_⟩;unfold uL;have d:TF W [0,0,0]:=by intro v e;simp at e;omega
 exact oZ b c (oZ b c (oZ b c d 0) 1) 2;cases a
def C9(T:zl)(row:zk):lE T row=true↔TF T.r row:=by simp[lE,TF]
def BU:∀(rs:List zk) (T:zl),vU T->(∀r∈rs,r.j=3/\TF T.r r)->T.count+rs.j<=9000000->∃a,xY rs T=Z a/\vU a/\a.r=T.r/\a.ql=T.ql/\a.count<=T.count+rs.j/\∀k,k.j=T.ql->((uv a k).I=true↔(uv T k).I=true∨∃r∈rs,r.G T.ql=k)
 |[],T,h,_,_=>⟨T,rfl,h,rfl,rfl,ζ,λk _=>ζ⟩
 |r::rs,T,h,i,u=>by
  simp only[xt] at u;obtain⟨w,p⟩:=i r ζ;obtain⟨B,f,d,E,n,s,A⟩:=h.add r 0 w ((C9 T r).2 p);have j:(yC T r 0).1.count<=T.count+1:=by
   cases m:(yC T r 0).2 with
   |false=>rw[n m];omega
   |true=>rw[s m];exact zg _
  obtain⟨a,o,v,z,t,D,y⟩:=BU rs (yC T r 0).1 B (λx C=>by rw[f];exact i x (by simp[C])) η;unfold xY;rw[zb (h.okT η)];refine⟨a,o,v,by rw[z,f],by rw[t,d],by simp only[xt];omega,λk g=>?_⟩;rw[y k (by rw[d];exact g),A k g,d];by_cases e:k=r.G T.ql
  .subst e;simp
  .rw[za e];constructor
   .rintro(q|⟨x,b,c⟩)
    .exact zh q
    .exact ze ⟨x,by simp[b],c⟩
   .rintro(q|⟨x,b,c⟩)
    .exact zh q
    .rcases zG.1 b with rfl|b
     .exact zB c.z e
     .exact ze ⟨x,b,c⟩
structure vu (T:zl) (l:zw) (W:Nat) (P:zk->Prop):Prop where
 ok:vU T
 r:T.r=W
 ql:T.ql=xx (xi l)
 sem:∀k,k.j=T.ql->((uv T k).I=true↔∃row f,P row/\xZ l row=Z f/\f.G T.ql=k)
def vu.congr{P Q:zk->Prop}(h:vu T l W P)(e:∀x,P x↔Q x):vu T l W Q:=
 ⟨h.ok,h.r,h.ql,λk a=>by rw[h.sem k a];exact⟨fun⟨r,f,q⟩=>⟨r,f,(e r).1 q.1,q.2⟩,fun⟨r,f,q⟩=>⟨r,f,(e r).2 q.1,q.2⟩⟩⟩
def vu.new(l:zw)(w W:Nat)(b:W=zM w):vu (xk w (xi l)) l W (λ_=>False):=by
 refine⟨vU.new _ _,by rw[DW,b],rO _ _,λk a=>?_⟩;constructor;intro q;rw[eT _ _ k (by rintro rfl;have:=(mu (xi l)).1;rw[rO] at a;simp at a;omega)] at q;cases q;rintro⟨_,_,q,_⟩;exact q.elim
def vu.adds{P:zk->Prop}(h:vu T l W P)(o:0<W)(a:List zk)(hs:∀r∈a,TF W r)(w:T.count+a.j<=9000000):∃d,xY (a.filterMap (xZ l)) T=Z d/\vu d l W (λx=>P x∨x∈a)/\d.count<=T.count+a.j:=by
 have n:(a.filterMap (xZ l)).j<=a.j:=tz _ _;obtain⟨d,p,s,q,m,v,u⟩:=BU (a.filterMap (xZ l)) T h.ok (λr t=>by
  obtain⟨x,i,g⟩:=mP.1 t;rw[h.r];exact Qp o (hs x i) g) η
 refine⟨d,p,⟨s,by rw[q,h.r],by rw[m,h.ql],λk j=>?_⟩,η⟩;rw[m] at j;rw[u k j,h.sem k j,m];constructor;rintro(⟨r,f,b,c,e⟩|⟨f,b,c⟩);exact⟨r,f,zh b,c,e⟩;obtain⟨x,i,g⟩:=mP.1 b;exact⟨x,f,ze i,g,c⟩;rintro⟨r,f,b|b,c,e⟩;exact zh ⟨r,f,b,c,e⟩;exact ze ⟨f,mP.2 ⟨r,b,c⟩,e⟩
def EQ{k:zk}{d:Nat}(h:k.j=d)(a:d<=3):(Uk k d).j=3:=by simp[Uk,h];omega
def sY{k:zk}{d:Nat}(h:k.j=d):(Uk k d).G d=k:=by simp[Uk,←h]
def DQ{k:zk}{d:Nat}(b:0<W)(h:TF W k):TF W (Uk k d):=by
 intro v a;unfold Uk at a;rcases ya.1 a with q|q;exact h v q;have:=fg q;simp at this;omega
def vu.join{a:zl}{P Q:zk->Prop}(h:vu T l W P)(k:vu a l W Q)(w:0<W)(F:T.count+a.count<=9000000):∃d,xY ((TD a).w λx=>Uk x a.ql) T=Z d/\vu d l W (λx=>P x∨Q x)/\d.count<=T.count+a.count:=by
 have e:a.ql=T.ql:=by rw[h.ql,k.ql]
 have q:T.ql<=3:=by rw[h.ql];exact(mu _).2
 obtain⟨d,D,A,E,j,o,s⟩:=BU ((TD a).w λx=>Uk x a.ql) T h.ok (λr B=>by
  obtain⟨x,m,rfl⟩:=zF.1 B;obtain⟨c,b⟩:=(qU a x).1 m;refine⟨EQ c η,?_⟩;rw[h.r];refine DQ w ?_;intro v p;have:=ip x 0 b v p;rw[k.r] at this;exact this) (by simp[k.ok.cnt];omega)
 refine⟨d,D,⟨A,by rw[E,h.r],by rw[j,h.ql],λy i=>?_⟩,by simpa [k.ok.cnt] using o⟩;rw[j] at i;rw[s y i,h.sem y i,j];constructor;rintro(⟨r,f,c,b,g⟩|⟨r,c,b⟩);exact⟨r,f,zh c,b,g⟩;obtain⟨x,m,rfl⟩:=zF.1 c;obtain⟨n,t⟩:=(qU a x).1 m;rw[←e,sY n] at b;subst b;obtain⟨r,f,u,C,z⟩:=(k.sem x n).1 t;exact⟨r,f,ze u,C,by rw[←e];exact z⟩;rintro⟨r,f,c|c,b,g⟩;exact zh ⟨r,f,c,b,g⟩;refine ze ⟨Uk y a.ql,zF.2 ⟨y,(qU a y).2 ⟨η,(k.sem y η).2 ⟨r,f,c,b,by rw[e];exact g⟩⟩,rfl⟩,?_⟩;rw[←e,sY η]
def vu.sat{a z:Nat}{P:zk->Prop}(h:vu T l W P)(j:qz l a z)(w:∀x,P x->T0 a x)(y:Φ):eI T l y↔P (zH l y):=by
 obtain⟨f,v,u,E,G⟩:=Nn j y;have n:=iX j;by_cases b:xi l=0;have e:T.ql=1:=by rw[h.ql,b];rfl
 have C:yz l y 5=[]:=pe.1 (by rw[py,←lu];exact b);constructor;intro o;have s:=o.1 b;rw[←h.ok.cnt] at s;obtain⟨k,A⟩:=List.exists_mem_of_length_pos (Nat.pos_of_ne_zero s);obtain⟨D,F⟩:=(qU T k).1 A;obtain⟨r,g,i,t,p⟩:=(h.sem k D).1 F;have:=Dg j (w r i) t y (by rw[b,C];rfl);rw[←this];exact i;intro c;refine⟨λ_ s=>?_,λq=>zB b q⟩;have:(uv T (f.G T.ql)).I=true:=(h.sem _ (by rw[vc,u,e];rfl)).2 ⟨_,f,c,v,rfl⟩;have B:=(qU T _).2 ⟨by rw[vc,u,e];rfl,this⟩;have:=nI B;rw[h.ok.cnt] at this;omega;have m:T.ql=xi l:=by rw[h.ql,tW b n]
 have d:(yz l y 5).j=T.ql:=by rw[py,←lu,m]
 constructor;intro o;obtain⟨r,g,i,t,p⟩:=(h.sem _ d).1 (o.2 b);rw[m] at p;have:=Dg j (w r i) t y p;rw[←this];exact i;intro c;exact⟨λq=>zB q b,λ_=>(h.sem _ d).2 ⟨_,f,c,v,by rw[m];exact E⟩⟩
structure pp (V:yH) (l:zw) (W:Nat) (P0 P1:zk->Prop) (Pf:zk->Prop) (c:Nat):Prop where
 lit:V.lit=l
 before:vu V.before l W P0
 qw:vu V.qw l W Pf
 all:vu V.all l W P1
 K:V.before.count+V.qw.count<=c/\V.all.count<=c
def E3{V:yH}{w:Nat}{m i n:zk->Prop}{c:Nat}(h:pp V l W m i n c)(j:W=zM w)(d:List zk)(hs:∀r∈d,TF W r)(B:c+d.j<=1048576)(e:Nat)(q:3*(W+1)<=e):∃k,fz e w V d=Z k/\pp k l W (λx=>m x∨n x) (λx=>i x∨x∈d) (λx=>x∈d) (c+d.j):=by
 have g:0<W:=by rw[j];unfold zM;split<;>omega
 have u:=h.qw.ok.rowsG e (by rw[h.qw.r];exact q) (by have:=h.K.1;omega);obtain⟨b,p,s,D⟩:=h.before.join h.qw g (by have:=h.K.1;omega);obtain⟨f,y,o,A⟩:=(vu.new l w W j).adds g d hs (by simp[xk,yD];omega);obtain⟨a,v,t,F⟩:=h.all.adds g d hs (by have:=h.K.2;omega);refine⟨{V with before:=b,qw:=f,all:=a},?_,h.lit,s,o.congr (λx=>ζ),t,?_⟩;unfold fz;rw[u,h.lit];simp only[p,y,v];have C:=h.K.1;have z:=h.K.2;have E:(xk w (xi l)).count=0:=rfl;simp only;omega
end
section
open Classical
abbrev DB:=Nat->zk->Option Nat
noncomputable def zyx(ar:List Nat)(R:zv):DB:=λp row=>if p<ar.j/\T0 (ar.g p 0) row then ua (R.I.g p zl.zero) row else Y
structure qQ (ar:List Nat) (W:Nat) (R:zv):Prop where
 len:R.I.j=ar.j
 tries:∀p (hp:p<R.I.j),vU R.I[p]/\R.I[p].r=W/\R.I[p].ql=xx (ar.g p 0)/\∀k∈TD R.I[p],T0 (ar.g p 0) (Uk k R.I[p].ql)
 cnt:R.count=(R.I.w (·.count)).sum
def Pz(l:List zl):∀(p:Nat) (T:zl) (b:p<l.j),((l.set p T).w (·.count)).sum+l[p].count=(l.w (·.count)).sum+T.count:=by
 induction l with
 |nil=>intro p T b;simp at b
 |cons a l c=>
  intro p T b;rcases p with _|p;simp;omega;have:=c p T (by simpa using b);simp at this ⊢;omega
def eL(l:List zl):∀(p:Nat) (b:p<l.j),l[p].count<=(l.w (·.count)).sum:=by
 induction l with
 |nil=>intro p b;simp at b
 |cons a l c=>
  intro p b;rcases p with _|p;simp;have:=c p (by simpa using b);simp at this ⊢;omega
def Rh{a:Nat}(g:a<=3){x y:zk}(f:T0 a x)(b:T0 a y)(e:x.G (xx a)=y.G (xx a)):x=y:=by
 refine EM f b λi d h=>?_;have c:i<xx a:=by rw[tW η g];exact d
 have:=congrArg (λl=>l.g i 0) e;simpa [List.getD,List.getElem?_take,c] using this
def GR{a:Nat}(n:a<=3){x:zk}(e:T0 a x):Uk (x.G (xx a)) (xx a)=x:=by
 have g:a<=xx a:=by
  by_cases k:a=0;omega;rw[tW k n];exact zg _
 show x.G (xx a)++([0,0,0]:zk).drop (xx a)=x;have b:=e.1;refine jy (by simp[b];omega) λi o m=>?_;have f:=λi (l:xx a<=i)=>e.2 i η;by_cases l:i<xx a;rw[uH (by simp[b];omega)];simp;rw[lB υ];have h:x[i]=0:=by have:=f i η;simpa [List.getD,m] using this
 rw[h];simp only[List.getElem_drop];have:∀j (d:j<([0,0,0]:Φ).j),([0,0,0]:Φ)[j]=0:=by
  intro j d;have c:j=0∨j=1∨j=2:=by simp at d;omega
  rcases c with rfl|rfl|rfl<;>rfl
 exact this _ _
structure Uf (ar:List Nat) (W k:Nat) (D0:DB) (c0:List Nat) (R:zv):Prop where
 inv:qQ ar W R
 Q:R.Q=k
 flen:R.qw.j=ar.j
 qw:∀p (hp:p<R.qw.j),R.qw[p].Nodup/\∀row∈R.qw[p],T0 (ar.g p 0) row/\TF W row/\D0 p row=Y
 abs:∀p row,zyx ar R p row=match D0 p row with
  |some m=>Z m
  |none=>if row∈R.qw.g p [] then Z k else Y
 cnts:∀p (hp:p<R.I.j),R.I[p].count=c0.g p 0+(R.qw.g p []).j
def Tl{α:Type}{l:List α}{i:Nat}(d:α)(h:i<l.j):l.g i d=l[i]:=by simp[List.getD,h]
def nS{α:Type}(l:List α)(i j:Nat)(v d:α):(l.set i v).g j d=if i=j/\i<l.j then v else l.g j d:=by
 simp only[kL,tI];by_cases h:i=j;subst h;by_cases a:i<l.j;simp[a];simp[a];simp[h]
def Uf.add{f:Φ}{W k:Nat}{D0:DB}{c0:Φ}{R:zv}(h:Uf f W k D0 c0 R)(h3:∀a∈f,a<=3){p:Nat}(G:p<f.j){row:zk}(v:T0 (f.g p 0) row)(hs:TF W row){mr:Nat}(hc:R.count<=mr)(hm:mr<=1048576):
  ∃B ok,jV mr R p row=Z (B,ok)/\Uf f W k D0 c0 B/\B.jg=R.jg/\(zyx f B p row).I=true/\(∀q x,x∈R.qw.g q []->x∈B.qw.g q [])/\(∀q x,x∈B.qw.g q []->x∈R.qw.g q []∨q=p/\x=row)/\(ok=true->B.count<=mr)/\(ok=false->B.count>mr):=by
 have g:p<R.I.j:=by rw[h.inv.len];exact G
 have A:p<R.qw.j:=by rw[h.flen];exact G
 obtain⟨V,t2,L,t4⟩:=h.inv.tries p g;have H:f.g p 0<=3:=by rw[Tl _ G];exact h3 _ (zq G)
 have ad:=eL R.I p g;rw[←h.inv.cnt] at ad;have aa:=h.cnts p g;have I:=(C9 R.I[p] row).2 (by rw[t2];exact hs);obtain⟨Q,a2,N,M,S,a6,P⟩:=V.add row R.Q v.1 I;have af:(row.G R.I[p].ql).j=R.I[p].ql:=by
  rw[vc,v.1,L];have:=(mu (f.g p 0)).2;omega
 have K:=λx (i:T0 (f.g p 0) x)=>V.mark x i.1;have w:R.I.g p zl.zero=R.I[p]:=Tl _ g;have r:zyx f R p row=uv R.I[p] (row.G R.I[p].ql):=by
  unfold zyx;rw[zb ⟨G,v⟩,w,K row v]
 unfold jV;rw[zb ⟨g,A,by rw[w];exact V.okT η,η,η⟩,w];cases hA:yC R.I[p] row R.Q with
 |mk T b=>
  rw[hA] at Q a2 N M S a6 P;simp only at Q a2 N M S a6 P;cases b;have hT:=S rfl;subst hT;have C:=ic g;refine⟨{R with I:=R.I.set p R.I[p]},true,rfl,?_,rfl,?_,λq x i=>i,λq x i=>zh i,λ_=>hc,λq=>by cases q⟩;rw[C];exact h;rw[C];show(zyx f R p row).I=true;rw[r];rw[←Option.not_isNone,←M];rfl;have n:uv R.I[p] (row.G R.I[p].ql)=none:=by
   rcases j:uv R.I[p] (row.G R.I[p].ql) with _|m;rfl;rw[j] at M;cases M
  have u:D0 p row=Y/\row∉R.qw.g p []:=by
   have:=h.abs p row;rw[r,n] at this;rcases j:D0 p row with _|m;rw[j] at this;refine⟨rfl,λab=>?_⟩;simp only at this;rw[zb ab] at this;cases this;rw[j] at this;cases this
  have J:R.qw.g p []=R.qw[p]:=Tl _ A;have ae:=Pz R.I p T g;have E:=a6 rfl;have ac:(R.I.set p T).j=R.I.j:=ζ;have hinv:qQ f W {R with I:=R.I.set p T,qw:=R.qw.set p (R.qw.g p []++[row]),count:=R.count+1}:=by
   refine⟨by simp[h.inv.len],λq j=>?_,?_⟩;simp only[fo] at j;simp only[lV];by_cases e:p=q;subst e;simp only[if_true];refine⟨Q,by rw[a2,t2],by rw[N,L],λx i=>?_⟩;obtain⟨x1,x2⟩:=(qU T x).1 i;rw[N] at x1 ⊢;rw[P x x1] at x2;by_cases F:x=row.G R.I[p].ql;rw[F,L,GR H v];exact v;rw[za F] at x2;exact t4 x ((qU R.I[p] x).2 ⟨x1,x2⟩);simp only[e,if_false];exact h.inv.tries q j;show R.count+1=((R.I.set p T).w (·.count)).sum;rw[h.inv.cnt];omega
  have t:∀q,(R.I.set p T).g q zl.zero=if p=q then T else R.I.g q zl.zero:=λq=>by
   rw[nS];by_cases e:p=q;rw[zb ⟨e,g⟩,zb e];rw[za (λx=>e x.1),za e]
  have c:∀q,(R.qw.set p (R.qw.g p []++[row])).g q []=if p=q then R.qw.g p []++[row] else R.qw.g q []:=λq=>by
   rw[nS];by_cases e:p=q;rw[zb ⟨e,A⟩,zb e];rw[za (λx=>e x.1),za e]
  have s:∀q x,zyx f {R with I:=R.I.set p T,qw:=R.qw.set p (R.qw.g p []++[row]),count:=R.count+1} q x=if q=p/\x=row then Z k else zyx f R q x:=by
   intro q x;unfold zyx;simp only[t];by_cases e:p=q;subst e;simp only[if_true,true_and];by_cases d:p<f.j/\T0 (f.g p 0) x;rw[zb d,zb d,w,K x d.2,Q.mark x d.2.1,N,P _ (by rw[vc,d.2.1,L];have:=(mu (f.g p 0)).2;omega)];by_cases F:x=row;subst F;rw[zb rfl,zb rfl,n,h.Q];rfl;rw[za F,za];intro D;rw[L] at D;exact F (Rh H d.2 v D);rw[za d,za d,za];rintro rfl;exact d ⟨G,v⟩;simp only[e,if_false];rw[za (λz:q=p/\x=row=>e z.1.z)]
  refine⟨{R with I:=R.I.set p T,qw:=R.qw.set p (R.qw.g p []++[row]),count:=R.count+1},decide (R.count+1<=mr),rfl,⟨hinv,h.Q,by simp[h.flen],λq j=>?_,λq x=>?_,λq j=>?_⟩,rfl,?_,λq x i=>?_,λq x i=>?_,λq=>by simpa using q,λq=>by simpa using q⟩;have l:q<R.qw.j:=by simpa using j
  have e:(R.qw.set p (R.qw.g p []++[row]))[q]=(R.qw.set p (R.qw.g p []++[row])).g q []:=(Tl _ j).z;show((R.qw.set p (R.qw.g p []++[row]))[q]).Nodup/\_;rw[e,c q];by_cases D:p=q;subst D;rw[zb rfl,J];obtain⟨n1,n2⟩:=h.qw p A;rw[J] at u;refine⟨?_,λx i=>?_⟩;rw[sj];exact⟨n1,ζ,λx i y hy=>by simp at hy;subst hy;rintro rfl;exact u.2 i⟩;rcases ya.1 i with q|q;exact n2 x q;simp at q;subst q;exact⟨v,hs,u.1⟩;rw[za D,Tl _ l];exact h.qw q l;rw[s];show _=match D0 q x with|some m=>Z m|none=>if x∈(R.qw.set p (R.qw.g p []++[row])).g q [] then Z k else Y
  rw[c q,h.abs q x];by_cases e:q=p/\x=row;obtain⟨rfl,rfl⟩:=e;rw[zb ⟨rfl,rfl⟩,u.1];simp;rw[za e];rcases D0 q x with _|m;simp only;by_cases D:p=q;subst D;rw[zb rfl];have:x≠row:=λe3=>e ⟨rfl,e3⟩;simp[this];rw[za D];rfl;have l:q<R.I.j:=by simpa using j
  show(R.I.set p T)[q].count=c0.g q 0+((R.qw.set p (R.qw.g p []++[row])).g q []).j;rw[c q,←Tl zl.zero j,t q];by_cases e:p=q;subst e;rw[zb rfl,zb rfl,E,aa];simp;omega;rw[za e,za e,Tl _ l];exact h.cnts q l;rw[s,zb ⟨rfl,rfl⟩];rfl;show x∈(R.qw.set p (R.qw.g p []++[row])).g q [];rw[c q];by_cases e:p=q;subst e;rw[zb rfl];exact List.mem_append_left _ i;rw[za e];exact i;have o:x∈(R.qw.set p (R.qw.g p []++[row])).g q []:=i;rw[c q] at o;by_cases e:p=q;subst e;rw[zb rfl] at o;rcases ya.1 o with q|q;exact zh q;simp at q;exact ze ⟨rfl,q⟩;rw[za e] at o;exact zh o
end
section
open Classical
variable {Ts Ns:List zl}{W:Nat}
def KC{r:zu}(e:f8 r)(d:fE r Ts W){y:Φ}(j:j7 r Ts Ns y){p:Nat}(k:p<r.m):y.g p 0<W:=by
 obtain⟨l,f,m⟩:=e.safe p k;obtain⟨i,c,rfl⟩:=vd f;have b:i<Ts.j:=by rw[d.len];exact c
 obtain⟨_,_,o⟩:=d.ok i _ _ (yn c) (yn b);have n:=e.m;have a:=(sg _ 5 p).2 ⟨η,m⟩;have h:xi r.qc[i]≠0:=by
  rw[lu];intro q;rw[pe.1 q] at a;cases a
 have g:=(j.1 i _ _ (yn c) (yn b)).2 h;have:=ip _ 0 g (y.g p 0) (zF.2 ⟨p,a,rfl⟩);omega
def Ef{l:zw}{a:Nat}(h:qz l a W)(j:0<W){y:Φ}(f:∀p,zK l p=true->y.g p 0<W):TF W (zH l y):=by
 have g:∀i,Tj l y i<W:=by
  intro i;unfold Tj;split;rename_i e;rw[show l.v.g i ⟨false,0,0⟩=l.v[i] by simp[List.getD,e]];have c:=zq e;unfold U0;split;rename_i b;simp only[uK,decide_eq_true_eq] at b;exact f _ ((fJ l _).2 ⟨_,c,b.1,rfl⟩);rename_i b;cases d:l.v[i].var;exact h.con _ c d;have:=(h.lev _ c d).1;simp[d,this] at b;exact j
 intro v b;simp only[zH,zG,nB,or_false] at b;rcases b with rfl|rfl|rfl<;>exact g _
def pA.y{r:zu}{E i:zk->Prop}{J:zE}{M:Nat}(h:pA r Ts Ns W E J M)(g:∀x,E x->i x):pA r Ts Ns W i J M:=by
 rcases h with⟨c,b,e⟩|⟨j,d,f,c,b,e,k,m,l⟩
 exact zh ⟨c,b,λy a=>g _ (e y a)⟩;exact ze ⟨j,d,f,c,b,e,k,λy a=>(m y a).imp (g _) id,l⟩
def Uf.jg{a:Φ}{W k:Nat}{D0:DB}{c0:Φ}{R:zv}(h:Uf a W k D0 c0 R)(m:Int):Uf a W k D0 c0 {R with jg:=m}:=
 ⟨⟨h.inv.len,h.inv.tries,h.inv.cnt⟩,h.Q,h.flen,h.qw,h.abs,h.cnts⟩
def Uf.grow{b:Φ}{k:Nat}{D0:DB}{c0:Φ}{R R':zv}(h:Uf b W k D0 c0 R)(e:Uf b W k D0 c0 R')(d:∀q x,x∈R.qw.g q []->x∈R'.qw.g q []){p:Nat}{x:zk}(a:(zyx b R p x).I=true):(zyx b R' p x).I=true:=by
 rw[h.abs] at a;rw[e.abs];rcases f:D0 p x with _|m;rw[f] at a;simp only at a ⊢;by_cases c:x∈R.qw.g p [];rw[zb (d p x c)];rfl;rw[za c] at a;cases a;rfl
structure DJ (ar:List Nat) (W k:Nat) (D0:DB) (c0:List Nat) (p mr:Nat) (sol:zk->Prop) (R R':zv) (ok:Bool):Prop where
 mid:Uf ar W k D0 c0 R'
 y:∀q x,x∈R.qw.g q []->x∈R'.qw.g q []
 sound:∀q x,x∈R'.qw.g q []->x∈R.qw.g q []∨q=p/\sol x
 yes:ok=true->R'.count<=mr/\∀x,sol x->(zyx ar R' p x).I=true
 no:ok=false->R'.count>mr
def PT{d:Φ}{k:Nat}{D0:DB}{c0:Φ}{r:zu}(t:f8 r)(D:fE r Ts W)(h3:∀a∈d,a<=3)(hW:0<W)(hp:r.g.o<d.j)(w:qz r.g (d.g r.g.o 0) W)(A:Nat)(S:W*(r.qc.j+1)+r.qc.j<=A){mr:Nat}(v:mr<=1048576):
  ∀(n:Nat) (R:zv) (J:zE) (M:Nat),Uf d W k D0 c0 R->R.count<=mr->pA r Ts Ns W (λx=>(zyx d R r.g.o x).I=true) J M->M+A+2<n->∃B ok,vX mr r.g.o n R J=Z (B,ok)/\DJ d W k D0 c0 r.g.o mr (λx=>∃y,j7 r Ts Ns y/\x=zH r.g y) R B ok:=by
 intro n;induction n with
 |zero=>intro R J M _ _ _ h;omega
 |succ n V=>
  intro R J M h E Q hn;obtain⟨f,b,I,n2,N⟩:=Qb t D _ A S n J M Q η;unfold vX;rw[I];cases b;refine⟨_,true,rfl,h.jg _,λq x c=>c,λq x c=>zh c,λ_=>⟨E,?_⟩,λq=>by cases q⟩;rintro x ⟨y,T,rfl⟩;exact n2 rfl y T;obtain⟨m,H,L,m3,K⟩:=N rfl;simp only;rw[H];have l:=Ef w hW λp j=>KC t D m (t.g p j);obtain⟨F,ok,a1,s,_,a4,g,C,a7,P⟩:=h.add h3 hp (iw w f.P) l E v;rw[a1];cases ok;refine⟨F,false,rfl,s,g,λq x c=>?_,(λq=>by cases q),P⟩;rcases C q x c with z|⟨i,o⟩;exact zh z;exact ze ⟨i,f.P,m,o⟩;simp only;obtain⟨R2,u,G,e⟩:=V F f L s (a7 rfl) (K.y λx c=>by
   rcases c with q|q;exact h.grow s g q;rw[q];exact a4) η
  refine⟨R2,u,G,e.mid,λq x c=>e.y q x (g q x c),λq x c=>?_,e.yes,e.no⟩;rcases e.sound q x c with z|z;rcases C q x z with z|⟨i,o⟩;exact zh z;exact ze ⟨i,f.P,m,o⟩;exact ze z
end
section
open Classical
variable {r:zu}{W wd mr:Nat}{c0:List Nat}
def Tq(D:DB)(p:Nat)(x:zk):Prop:=(D p x).I=true
def UT(r:zu)(D:DB)(x:zk):Prop:=∃y,(∀l∈r.qc,Tq D l.o (zH l y))/\(∀l∈r.qx,D l.o (zH l y)=Y)/\x=zH r.g y
structure p4 (r:zu) (ar:List Nat) (W:Nat):Prop where
 fine:f8 r
 hpred:r.g.o<ar.j
 g:qz r.g (ar.g r.g.o 0) W
 qc:∀l∈r.qc,l.o<ar.j/\qz l (ar.g l.o 0) W
 qx:∀l∈r.qx,l.o<ar.j/\qz l (ar.g l.o 0) W
def tC(a:List Nat)(D:DB):Prop:=∀p x,Tq D p x->p<a.j/\T0 (a.g p 0) x
def tM(a:Φ)(R:zv):tC a (zyx a R):=by
 intro p x h;unfold Tq zyx at h;split at h;assumption
 cases h
def Gz{d:Φ}(p:p4 r d W){R:zv}(s:qQ d W R){h:List zl}{P:Nat->zk->Prop}(f:h.j=r.qc.j)(q:∀(i:Nat) (l:zw) (T:zl),r.qc[i]?=Z l->h[i]?=Z T->vu T l W (P i)/\∀x,P i x->T0 (d.g l.o 0) x)(y:Φ):
  j7 r h (j0 wd R r) y↔(∀(i:Nat) (l:zw),r.qc[i]?=Z l->P i (zH l y))/\∀l∈r.qx,zyx d R l.o (zH l y)=none:=by
 have b:∀l∈r.qx,ua (ma wd R l.o) (zH l y)=zyx d R l.o (zH l y):=by
  intro l a;obtain⟨u,t⟩:=p.qx l a;unfold ma zyx;rw[za (by rw[s.len];omega),zb ⟨u,iw t y⟩]
 unfold j7 j0;constructor;rintro⟨o,j⟩;refine⟨λi l a=>?_,λl a=>?_⟩;have g:i<h.j:=by rw[f];exact(j5.1 a).1
 obtain⟨n,k⟩:=q i l _ a (yn g);exact(n.sat (p.qc l (fD a)).2 k y).1 (o i l _ a (yn g));rw[←b l a];obtain⟨i,c,rfl⟩:=vd a;exact j (r.qx[i],ma wd R r.qx[i].o) (vL.2 ⟨i,by simp[c],ζ⟩);rintro⟨o,j⟩;refine⟨λi l T a m=>?_,λx v=>?_⟩;obtain⟨n,k⟩:=q i l T a m;exact(n.sat (p.qc l (fD a)).2 k y).2 (o i l a);obtain⟨i,c,rfl⟩:=vL.1 v;simp only[List.length_zip,xu] at c;have e:i<r.qx.j:=η;simp only[List.getElem_zip,ub];rw[b _ (zq e)];exact j _ (zq e)
structure AR (ar:List Nat) (W:Nat) (w:yd) (r:zu) (D0 D:DB) (c:List Nat):Prop where
 p:w.p=r
 len:w.F.j=r.qc.j
 F:∀(i:Nat) (l:zw) (V:yH),r.qc[i]?=Z l->w.F[i]?=Z V->pp V l W (Tq D0 l.o) (Tq D l.o) (λx=>Tq D l.o x/\¬Tq D0 l.o x) (c.g l.o 0)
def lQ(W:Nat)(r:zu):Nat:=vP W r.m 0 [] 0+(W*(r.qc.j+1)+r.qc.j)+3
def Hs{f:Φ}{k:Nat}{D:DB}(h:p4 r f W)(I:∀a∈f,a<=3)(H:0<W)(A:mr<=1048576){R:zv}(t:Uf f W k D c0 R)(G:R.count<=mr){j:List zl}{P:Nat->zk->Prop}(c:j.j=r.qc.j)(o:∀(i:Nat) (l:zw) (T:zl),r.qc[i]?=Z l->j[i]?=Z T->vu T l W (P i)/\∀x,P i x->T0 (f.g l.o 0) x)(E:∀l∈r.qx,∀x,zyx f R l.o x=D l.o x)(b:Nat)(u:lQ W r<=b):
  ∃m ok,vX mr r.g.o b R (xK r j (j0 wd R r))=Z (m,ok)/\DJ f W k D c0 r.g.o mr (λx=>∃y,((∀(i:Nat) (l:zw),r.qc[i]?=Z l->P i (zH l y))/\∀l∈r.qx,D l.o (zH l y)=Y)/\x=zH r.g y) R m ok:=by
 have C:fE r j W:=⟨c,λi l T e p=>by obtain⟨v,_⟩:=o i l T e p;exact⟨v.ok,v.ql,by rw[v.r];exact zg _⟩⟩;have B:vP W r.m 0 [] 0+(W*(r.qc.j+1)+r.qc.j)+3<=b:=u;obtain⟨m,ok,K,g⟩:=PT (Ns:=j0 wd R r) (D0:=D) (c0:=c0) (k:=k) h.fine C I H h.hpred h.g _ (zg _) A b R _ _ t G (Oj h.fine C _) η;have d:∀x,(∃y,j7 r j (j0 wd R r) y/\x=zH r.g y)↔∃y,((∀(i:Nat) (l:zw),r.qc[i]?=Z l->P i (zH l y))/\∀l∈r.qx,D l.o (zH l y)=Y)/\x=zH r.g y:=by
  intro x;constructor;rintro⟨y,n,s⟩;obtain⟨F,J⟩:=(Gz h t.inv c o y).1 n;exact⟨y,⟨F,λl e=>by rw[←E l e];exact J l e⟩,s⟩;rintro⟨y,n,s⟩;exact⟨y,(Gz h t.inv c o y).2 ⟨n.1,λl e=>by rw[E l e];exact n.2 l e⟩,s⟩
 exact⟨m,ok,K,g.mid,g.y,λq x w=>(g.sound q x w).imp id λz=>⟨z.1,(d x).1 z.2⟩,λq=>⟨(g.yes q).1,λx w=>(g.yes q).2 x ((d x).2 w)⟩,g.no⟩
structure eH (ar:List Nat) (W k:Nat) (D:DB) (c0:List Nat) (mr:Nat) (want:Nat->zk->Prop) (R R':zv) (ok:Bool):Prop where
 mid:Uf ar W k D c0 R'
 y:∀q x,x∈R.qw.g q []->x∈R'.qw.g q []
 sound:∀q x,x∈R'.qw.g q []->x∈R.qw.g q []∨want q x
 yes:ok=true->R'.count<=mr
 no:ok=false->R'.count>mr
def OH{d:Φ}{k:Nat}{D0 D:DB}{w:yd}(p:AR d W w r D0 D c0)(M:tC d D)(I:p4 r d W)(H:∀a∈d,a<=3)(G:0<W)(v:mr<=1048576){R:zv}(J:Uf d W k D c0 R)(E:R.count<=mr)(F:∀l∈r.qx,∀x,zyx d R l.o x=D l.o x)(c:Nat)(u:lQ W r<=c):
  ∃j ok,gh c wd mr true R w=Z (j,ok)/\eH d W k D c0 mr (λq x=>q=r.g.o/\UT r D x) R j ok/\(ok=true->∀x,UT r D x->Tq (zyx d j) r.g.o x):=by
 have C:∀(i:Nat) (l:zw) (T:zl),r.qc[i]?=Z l->(w.F.w (·.all))[i]?=Z T->vu T l W ((λi x=>∃l,r.qc[i]?=Z l/\Tq D l.o x) i)/\∀x,(λi x=>∃l,r.qc[i]?=Z l/\Tq D l.o x) i x->T0 (d.g l.o 0) x:=by
  intro i l T e m;simp only[mL,qn] at m;obtain⟨V,B,rfl⟩:=m;refine⟨(p.F i l V e B).all.congr λx=>⟨λq=>⟨l,e,q⟩,fun⟨n,b,g⟩=>?_⟩,λx ⟨n,b,g⟩=>?_⟩;rw[e] at b;simp only[zt] at b;subst b;exact g;rw[e] at b;simp only[zt] at b;subst b;exact(M _ x g).2
 obtain⟨j,ok,L,h⟩:=Hs (wd:=wd) I H G v J E (by simp[p.len]) C F c u;have f:∀x,(∃y,((∀(i:Nat) (l:zw),r.qc[i]?=Z l->(∃n,r.qc[i]?=Z n/\Tq D n.o (zH l y)))/\∀l∈r.qx,D l.o (zH l y)=Y)/\x=zH r.g y)↔UT r D x:=by
  intro x;constructor;rintro⟨y,⟨b,g⟩,t⟩;refine⟨y,λl e=>?_,g,t⟩;obtain⟨i,A,rfl⟩:=vd e;obtain⟨n,s,K⟩:=b i _ (yn A);rw[yn A] at s;simp only[zt] at s;subst s;exact K;rintro⟨y,b,g,t⟩;exact⟨y,⟨λi l e=>⟨l,e,b l (fD e)⟩,g⟩,t⟩
 unfold gh;rw[zb rfl,p.p];exact⟨j,ok,L,⟨h.mid,h.y,λq x o=>(h.sound q x o).imp id λz=>⟨z.1,(f x).1 z.2⟩,λq=>(h.yes q).1,h.no⟩,λq x o=>(h.yes q).2 x ((f x).2 o)⟩
def Vb(r:zu)(D0 D:DB)(i:Nat)(y:List Nat):Prop:=∃(j:Nat) (l:zw),i<=j/\r.qc[j]?=Z l/\Tq D l.o (zH l y)/\¬Tq D0 l.o (zH l y)/\(∀(t:Nat) (a:zw),r.qc[t]?=Z a->(t<j->Tq D0 a.o (zH a y))/\(j<t->Tq D a.o (zH a y)))/\∀l∈r.qx,D l.o (zH l y)=Y
def Sl{s:Φ}{k:Nat}{D0 D:DB}{w:yd}(L:AR s W w r D0 D c0)(hD:tC s D)(Q:∀p x,Tq D0 p x->Tq D p x)(hr:p4 r s W)(h3:∀a∈s,a<=3)(hW:0<W)(ah:mr<=1048576)(A:Nat)(ag:lQ W r<=A)(ai:∀l∈r.qx,l.o≠r.g.o):
  ∀(n i:Nat) (R:zv),i+n=w.F.j->Uf s W k D c0 R->R.count<=mr->(∀l∈r.qx,∀x,zyx s R l.o x=D l.o x)->∃R' ok,jR A wd mr w n i R=Z (R',ok)/\eH s W k D c0 mr (λq x=>q=r.g.o/\UT r D x) R R' ok/\(ok=true->∀y,Vb r D0 D i y->Tq (zyx s R') r.g.o (zH r.g y)):=by
 intro n;induction n with
 |zero=>
  intro i R hi S hc _;refine⟨R,true,rfl,⟨S,λq x c=>c,λq x c=>zh c,λ_=>hc,λq=>by cases q⟩,λ_ y P=>?_⟩;obtain⟨j,l,b,d,_⟩:=P;have:=(j5.1 d).1;have:=L.len;omega
 |succ n ih=>
  intro i R hi S hc hn;have F:i<w.F.j:=η;have B:i<r.qc.j:=by rw[←L.len];exact F
  have hV:=L.F i _ _ (yn B) (yn F);have ae:=(hr.qc _ (zq B)).2;have hg:w.F.g i ⟨⟨0,[]⟩,zl.zero,zl.zero,zl.zero⟩=w.F[i]:=Tl _ F;unfold jR;rw[hg];by_cases v:w.F[i].qw.count>0;rw[zb v];have hT:∀(t:Nat) (l:zw) (T:zl),r.qc[t]?=Z l->(T5 w.F i)[t]?=Z T->vu T l W ((λt x=>∃l,r.qc[t]?=Z l/\(t<i->Tq D0 l.o x)/\(t=i->Tq D l.o x/\¬Tq D0 l.o x)/\(i<t->Tq D l.o x)) t)/\∀x,(λt x=>∃l,r.qc[t]?=Z l/\(t<i->Tq D0 l.o x)/\(t=i->Tq D l.o x/\¬Tq D0 l.o x)/\(i<t->Tq D l.o x)) t x->T0 (s.g l.o 0) x:=by
   intro t l T h G;unfold T5 at G;simp only[mL,qn,List.getElem?_zipIdx] at G;obtain⟨⟨V,j⟩,⟨V',ac,aa⟩,rfl⟩:=G;simp only[vx,ye] at aa;obtain⟨rfl,rfl⟩:=aa;have I:=L.F t l V' h ac;have M:∀x,(∃l,r.qc[t]?=Z l/\(t<i->Tq D0 l.o x)/\(t=i->Tq D l.o x/\¬Tq D0 l.o x)/\(i<t->Tq D l.o x))->T0 (s.g l.o 0) x:=by
    rintro x ⟨f,b,d,u,E⟩;rw[h] at b;simp only[zt] at b;subst b;rcases rm t i with z|z|z;exact(hD _ x (Q _ x (d z))).2;exact(hD _ x (u z).1).2;exact(hD _ x (E z)).2
   refine⟨?_,M⟩;simp only;by_cases h1:t<i;rw[zb h1];refine I.before.congr λx=>⟨λq=>⟨l,h,λ_=>q,λz=>η,λz=>η⟩,fun⟨f,b,d,_,_⟩=>?_⟩;rw[h] at b;simp only[zt] at b;subst b;exact d h1;rw[za h1];by_cases h2:t=i;rw[zb h2];refine I.qw.congr λx=>⟨λq=>⟨l,h,λz=>η,λ_=>q,λz=>η⟩,fun⟨f,b,_,u,_⟩=>?_⟩;rw[h] at b;simp only[zt] at b;subst b;exact u h2;rw[za h2];refine I.all.congr λx=>⟨λq=>⟨l,h,λz=>η,λz=>η,λ_=>q⟩,fun⟨f,b,_,_,E⟩=>?_⟩;rw[h] at b;simp only[zt] at b;subst b;exact E η
  obtain⟨R1,ok,a1,o⟩:=Hs (wd:=wd) hr h3 hW ah S hc (by simp[T5,L.len]) hT hn A ag;rw[L.p,a1];have e:∀x,(∃y,((∀(t:Nat) (l:zw),r.qc[t]?=Z l->(∃f,r.qc[t]?=Z f/\(t<i->Tq D0 f.o (zH l y))/\(t=i->Tq D f.o (zH l y)/\¬Tq D0 f.o (zH l y))/\(i<t->Tq D f.o (zH l y))))/\∀l∈r.qx,D l.o (zH l y)=Y)/\x=zH r.g y)->UT r D x:=by
   rintro x ⟨y,⟨b,d⟩,u⟩;refine⟨y,λl h=>?_,d,u⟩;obtain⟨t,ht,rfl⟩:=vd h;obtain⟨f,s1,s2,s3,s4⟩:=b t _ (yn ht);rw[yn ht] at s1;simp only[zt] at s1;subst s1;rcases rm t i with z|z|z;exact Q _ _ (s2 z);exact(s3 z).1;exact s4 z
  cases ok;exact⟨R1,false,rfl,⟨o.mid,o.y,λq x c=>(o.sound q x c).imp id λz=>⟨z.1,e x z.2⟩,(λq=>by cases q),o.no⟩,λq=>by cases q⟩;simp only;obtain⟨b1,b2⟩:=o.yes rfl;have ab:∀l∈r.qx,∀x,zyx s R1 l.o x=D l.o x:=by
   intro l h x;have af:=ai l h;rw[o.mid.abs,←hn l h x,S.abs];rcases hq:D l.o x with _|m;simp only;by_cases c:x∈R.qw.g l.o [];rw[zb c,zb (o.y _ x c)];rw[za c,za];intro ad;rcases o.sound _ x ad with z|z;exact c z;exact af z.1;rfl
  obtain⟨R2,K,c1,C,c3⟩:=ih (i+1) R1 η o.mid b1 ab;refine⟨R2,K,c1,⟨C.mid,λq x c=>C.y q x (o.y q x c),λq x c=>?_,C.yes,C.no⟩,λH y P=>?_⟩;rcases C.sound q x c with z|z;exact(o.sound q x z).imp id λz=>⟨z.1,e x z.2⟩;exact ze z;obtain⟨j,l,b,d,u,E,N,q6⟩:=P;by_cases J:j=i;subst J;refine o.mid.grow C.mid C.y (b2 _ ⟨y,⟨λt f g=>⟨f,g,λz=>(N t f g).1 z,λz=>?_,λz=>(N t f g).2 z⟩,q6⟩,rfl⟩);subst z;rw[d] at g;simp only[zt] at g;subst g;exact⟨u,E⟩;exact c3 H y ⟨j,l,η,d,u,E,N,q6⟩;rw[za v];obtain⟨R2,K,c1,C,c3⟩:=ih (i+1) R η S hc hn;refine⟨R2,K,c1,C,λH y P=>?_⟩;obtain⟨j,l,b,d,u,E,N,q6⟩:=P;by_cases J:j=i;subst J;rw[yn B] at d;simp only[zt] at d;subst d;have hs:=(hV.qw.sat ae (λx c=>(hD _ x c.1).2) y).2 ⟨u,E⟩;exact zB (Nat.pos_of_ne_zero (hs.count hV.qw.ok hV.qw.ql (hr.fine.v _ (zq B)))) v;exact c3 H y ⟨j,l,η,d,u,E,N,q6⟩
end
section
open Classical
variable {W wd:Nat}{D0:DB}{ws:List yd}{rs:List zu}
structure tq (rs:List zu) (ar:List Nat) (W:Nat):Prop where
 H:∀r∈rs,p4 r ar W
 apart:∀r∈rs,∀r'∈rs,∀l∈r.qx,l.o≠r'.g.o
def i7(rs:List zu)(R:zv):Prop:=∀q x,x∈R.qw.g q []->∃r∈rs,q=r.g.o
def Uf.qx{a:Φ}{W k:Nat}{D:DB}{c0:Φ}{R:zv}{rs:List zu}(h:Uf a W k D c0 R)(hs:tq rs a W)(c:i7 rs R){r:zu}(i:r∈rs):∀l∈r.qx,∀x,zyx a R l.o x=D l.o x:=by
 intro l b x;rw[h.abs];rcases j:D l.o x with _|m;simp only;rw[za];intro g;obtain⟨d,f,e⟩:=c _ x g;exact hs.apart r i d f l b e;rfl
inductive kC (ar:Φ) (W:Nat) (D0 D:DB) (c:Φ):List yd->List zu->Prop
 |nil:kC ar W D0 D c [] []
 |cons {w:yd} {r:zu} {ws:List yd} {rs:List zu}:AR ar W w r D0 D c->kC ar W D0 D c ws rs->kC ar W D0 D c (w::ws) (r::rs)
def ry(first:Bool)(r:zu)(D0 D:DB)(x:zk):Prop:=if first then UT r D x else ∃y,Vb r D0 D 0 y/\x=zH r.g y
def PQ{h:Φ}{k:Nat}{D:DB}{c0:Φ}(N:tC h D)(I:∀p x,Tq D0 p x->Tq D p x)(M:∀a∈h,a<=3)(L:0<W){mr:Nat}(A:mr<=1048576)(c:Nat){f:List zu}(hs:tq f h W)(t:∀r∈f,lQ W r<=c)(first:Bool)(S:kC h W D0 D c0 ws rs)(i:∀r∈rs,r∈f):
  ∀(R:zv),Uf h W k D c0 R->R.count<=mr->i7 f R->∃B ok,gq c wd mr first ws R=Z (B,ok)/\eH h W k D c0 mr (λq x=>∃r∈rs,q=r.g.o/\UT r D x) R B ok/\i7 f B/\(ok=true->∀r∈rs,∀x,ry first r D0 D x->Tq (zyx h B) r.g.o x):=by
 induction S with
 |nil=>
  intro R o C E;exact⟨R,true,rfl,⟨o,λq x b=>b,λq x b=>zh b,λ_=>C,λq=>by cases q⟩,E,λ_ r hr=>by cases hr⟩
 |@cons w r ws rs n aa ih=>
  intro R o C E;have d:=i r ζ;have K:=o.qx hs E d;have s:∃g ok,gh c wd mr first R w=Z (g,ok)/\eH h W k D c0 mr (λq x=>q=r.g.o/\UT r D x) R g ok/\(ok=true->∀x,ry first r D0 D x->Tq (zyx h g) r.g.o x):=by
   cases first
   obtain⟨g,ok,v,e,u⟩:=Sl (wd:=wd) n N I (hs.H r d) M L A c (t r d) (hs.apart r d r d) w.F.j 0 R η o C K;refine⟨g,ok,?_,e,λq x b=>?_⟩;unfold gh;exact v;have F:∃y,Vb r D0 D 0 y/\x=zH r.g y:=by simpa [ry] using b
   obtain⟨y,y1,rfl⟩:=F;exact u q y y1;obtain⟨g,ok,v,e,u⟩:=OH (wd:=wd) n N (hs.H r d) M L A o C K c (t r d);exact⟨g,ok,v,e,λq x b=>u q x (by simpa [ry] using b)⟩
  obtain⟨g,ok,v,e,u⟩:=s;have m:i7 f g:=by
   intro q x b;rcases e.sound q x b with z|z;exact E q x z;exact⟨r,d,z.1⟩
  unfold gq;rw[v];cases ok;exact⟨g,false,rfl,⟨e.mid,e.y,λq x b=>(e.sound q x b).imp id λz=>⟨r,ζ,z⟩,e.yes,e.no⟩,m,λq=>by cases q⟩;simp only;obtain⟨R2,J,Q,l,b3,T⟩:=ih (λx b=>i x (by simp[b])) g e.mid (e.yes rfl) m;refine⟨R2,J,Q,⟨l.mid,λq x b=>l.y q x (e.y q x b),λq x b=>?_,l.yes,l.no⟩,b3,λG H j x b=>?_⟩;rcases l.sound q x b with z|⟨H,P,V⟩;exact(e.sound q x z).imp id λz=>⟨r,ζ,z⟩;exact ze ⟨H,by simp[P],V⟩;rcases zG.1 j with rfl|j;exact e.mid.grow l.mid l.y (u rfl x b);exact T G H j x b
def KO{r:zu}{D:DB}(q:∀p x,Tq D0 p x->Tq D p x){y:Φ}(w:∀l∈r.qc,Tq D l.o (zH l y))(u:∀l∈r.qx,D l.o (zH l y)=Y):Vb r D0 D 0 y∨UT r D0 (zH r.g y):=by
 by_cases c:∀l∈r.qc,Tq D0 l.o (zH l y);refine ze ⟨y,c,λl e=>?_,rfl⟩;rcases f:D0 l.o (zH l y) with _|m;rfl;have:=q l.o (zH l y) (by unfold Tq;rw[f];rfl);unfold Tq at this;rw[u l e] at this;cases this;refine zh ?_;have k:∃(j:Nat) (l:zw),r.qc[j]?=Z l/\¬Tq D0 l.o (zH l y):=by
  false_or_by_contra
  rename_i s;apply c;intro l e;obtain⟨i,G,rfl⟩:=vd e;false_or_by_contra
  rename_i f;exact s ⟨i,_,yn G,f⟩
 have d:∀n j:Nat,j=n->(∃l,r.qc[j]?=Z l/\¬Tq D0 l.o (zH l y))->∃(j:Nat) (l:zw),r.qc[j]?=Z l/\¬Tq D0 l.o (zH l y)/\∀(t:Nat) (a:zw),t<j->r.qc[t]?=Z a->Tq D0 a.o (zH a y):=by
  intro n;induction n using Nat.strongRecOn with
  |_ n F=>
   rintro j rfl ⟨l,e,f⟩;by_cases b:∃(t:Nat) (a:zw),t<j/\r.qc[t]?=Z a/\¬Tq D0 a.o (zH a y);obtain⟨t,a,h,g,o⟩:=b;exact F t h t rfl ⟨a,g,o⟩;refine⟨j,l,e,f,λt a h g=>?_⟩;false_or_by_contra
   rename_i o;exact b ⟨t,a,h,g,o⟩
 obtain⟨A,I,C,J⟩:=k;obtain⟨j,l,B,H,E⟩:=d A A rfl ⟨I,C,J⟩;exact⟨j,l,zs _,B,w l (fD B),H,λt a v=>⟨λz=>E t a z v,λ_=>w a (fD v)⟩,u⟩
def Ec{t:Φ}{W wd k:Nat}(K:W=zM wd){D0 D:DB}{c0:Φ}{R':zv}(A:∀p x,Tq D0 p x->Tq D p x)(g:Uf t W k D c0 R')(R:R'.count<=1048576)(a:Nat)(B:3*(W+1)<=a):
  ∀(d:List zw) (vs:List yH),vs.j=d.j->(∀l∈d,l.o<t.j)->(∀(i:Nat) (l:zw) (V:yH),d[i]?=Z l->vs[i]?=Z V->pp V l W (Tq D0 l.o) (Tq D l.o) (λx=>Tq D l.o x/\¬Tq D0 l.o x) (c0.g l.o 0)) →
   ∃c,f6 a wd R'.qw vs=Z c/\c.j=d.j/\∀(i:Nat) (l:zw) (V:yH),d[i]?=Z l->c[i]?=Z V->pp V l W (Tq D l.o) (Tq (zyx t R') l.o) (λx=>Tq (zyx t R') l.o x/\¬Tq D l.o x) ((R'.I.w (·.count)).g l.o 0)
 |[],[],_,_,_=>⟨[],rfl,rfl,λi l V h=>by simp at h⟩
 |[],V::vs,v,_,_=>by simp at v
 |l::d,[],v,_,_=>by simp at v
 |l::d,V::vs,v,L,J=>by
  have H:=J 0 l V rfl rfl;have o:=L l ζ;have j:l.o<R'.qw.j:=by rw[g.flen];exact o
  have f:l.o<R'.I.j:=by rw[g.inv.len];exact o
  have w:=g.qw l.o j;have s:=g.cnts l.o f;have G:=eL R'.I l.o f;rw[←g.inv.cnt] at G;have C:R'.qw.g l.o []=R'.qw[l.o]:=Tl _ j;rw[C] at s;obtain⟨F,Q,u⟩:=E3 H K R'.qw[l.o] (λx n=>(w.2 x n).2.1) η a B;obtain⟨c,N,T,M⟩:=Ec K A g R a B d vs (by simpa using v) (λx n=>L x (by simp[n])) (λi E F z r=>J (i+1) E F (by simpa using z) (by simpa using r));have b:∀x,Tq (zyx t R') l.o x↔Tq D l.o x∨x∈R'.qw[l.o]:=by
   intro x;unfold Tq;rw[g.abs,C];cases hq:D l.o x with
   |some m=>simp
   |none=>
    simp only;by_cases n:x∈R'.qw[l.o]
    .simp[n]
    .simp[n]
  refine⟨F::c,?_,by simp[T],λi E P z r=>?_⟩
  .unfold f6;rw[H.lit,zb j,C,Q,N]
  .cases i with
   |zero=>
    simp only[hY,zt] at z r;subst z;subst r;refine⟨u.lit,u.before.congr λx=>?_,u.qw.congr λx=>?_,u.all.congr λx=>(b x).z,?_⟩
    .constructor
     .rintro(q|q)
      .exact A _ x q
      .exact q.1
     .intro q;by_cases I:Tq D0 l.o x
      .exact zh I
      .exact ze ⟨q,I⟩
    .constructor
     .intro q;refine⟨(b x).2 (ze q),λy=>?_⟩;unfold Tq at y;rw[(w.2 x q).2.2] at y;cases y
     .rintro⟨S,y⟩;exact((b x).1 S).resolve_left y
    .have e:(R'.I.w (·.count)).g l.o 0=R'.I[l.o].count:=by simp[List.getD,f]
     rw[e,s];exact u.K
   |succ i=>exact M i E P (by simpa using z) (by simpa using r)
def MT{d:Φ}{k:Nat}(s:W=zM wd){D:DB}{c0:Φ}{R':zv}(e:∀p x,Tq D0 p x->Tq D p x)(t:Uf d W k D c0 R')(n:R'.count<=1048576)(a:Nat)(g:3*(W+1)<=a)(i:kC d W D0 D c0 ws rs)(h:∀r∈rs,∀l∈r.qc,l.o<d.j):
  ∃b,fe a wd R'.qw ws=Z b/\kC d W D (zyx d R') (R'.I.w (·.count)) b rs:=by
 induction i with
 |nil=>exact⟨[],rfl,kC.nil⟩
 |@cons w r ws rs c z o=>
  obtain⟨b,u,y⟩:=o (λx v=>h x (by simp[v]));obtain⟨f,m,j,q⟩:=Ec s e t n a g r.qc w.F c.len (h r ζ) c.F;refine⟨{w with F:=f}::b,?_,kC.cons ⟨c.p,j,q⟩ y⟩;unfold fe;rw[m,u]
def j6(rs:List zu)(D:DB)(p:Nat)(x:zk):Prop:=∃r∈rs,p=r.g.o/\UT r D x
noncomputable def zy4(rs:List zu)(k:Nat)(D:DB):DB:=λp x=>match D p x with
 |some m=>Z m
 |none=>if j6 rs D p x then Z k else Y
def Uf.clear{a:Φ}{R:zv}(h:qQ a W R):Uf a W R.Q (zyx a R) (R.I.w (·.count)) (qS R):=by
 have d:∀p,(List.replicate R.I.j ([]:List zk)).g p []=[]:=λp=>by
  by_cases b:p<R.I.j<;>simp[List.getD,b]
 refine⟨⟨h.len,h.tries,h.cnt⟩,rfl,by simp[qS,h.len],λp b=>?_,λp x=>?_,λp b=>?_⟩;simp only[qS,eX];exact⟨List.nodup_nil,λx e=>by cases e⟩;show zyx a R p x=match zyx a R p x with|some m=>Z m|none=>if x∈(List.replicate R.I.j ([]:List zk)).g p [] then Z R.Q else Y
 rw[d];cases zyx a R p x<;>simp
 show R.I[p].count=(R.I.w (·.count)).g p 0+((List.replicate R.I.j ([]:List zk)).g p []).j;have c:p<R.I.j:=b;rw[d,show(R.I.w (·.count)).g p 0=R.I[p].count by simp[List.getD,c]];rfl
def Uf.start{a:Φ}{R:zv}(h:qQ a W R):Uf a W (R.Q+1) (zyx a R) (R.I.w (·.count)) (qS {R with Q:=R.Q+1}):=
 Uf.clear (R:={R with Q:=R.Q+1}) ⟨h.len,h.tries,h.cnt⟩
def MC{b:Φ}(v:W=zM wd)(Q:∀a∈b,a<=3){mr:Nat}(F:mr<=1048576)(d:Nat)(hs:tq rs b W)(A:(∀r∈rs,lQ W r<=d)/\3*(W+1)<=d)(first:Bool){R:zv}(N:qQ b W R)(M:R.count<=mr)(o:∀p x,Tq D0 p x->Tq (zyx b R) p x)(G:kC b W D0 (zyx b R) (R.I.w (·.count)) ws rs)(C:first=false->∀p x,j6 rs D0 p x->Tq (zyx b R) p x):
  ∃c j ok,pT d wd mr first ws R=Z (c,j,ok)/\qQ b W c/\c.Q=R.Q+1/\(∀p x,Tq (zyx b c) p x->Tq (zy4 rs (R.Q+1) (zyx b R)) p x)/\(ok=false->c.count>mr)/\(ok=true->c.count<=mr/\zyx b c=zy4 rs (R.Q+1) (zyx b R)/\kC b W (zyx b R) (zyx b c) (c.I.w (·.count)) j rs):=by
 have P:0<W:=by rw[v];unfold zM;split<;>omega
 have B:=Uf.start N;have u:∀q x,x∉(qS {R with Q:=R.Q+1}).qw.g q []:=λq x g=>by
  have:(List.replicate R.I.j ([]:List zk)).g q []=[]:=by by_cases S:q<R.I.j<;>simp[List.getD,S]
  have w:x∈(List.replicate R.I.j ([]:List zk)).g q []:=g;rw[this] at w;cases w
 obtain⟨c,ok,T,h,a3,I⟩:=PQ (wd:=wd) (tM b R) o Q P F d hs A.1 first G (λr s=>s) (qS {R with Q:=R.Q+1}) B M (λq x g=>zB g (u q x))
 have e:∀p x,x∈c.qw.g p []->j6 rs (zyx b R) p x:=λp x g=>(h.sound p x g).resolve_left (u p x);have k:∀p x,Tq (zyx b c) p x->Tq (zy4 rs (R.Q+1) (zyx b R)) p x:=by
  intro p x g;unfold Tq at g ⊢;rw[h.mid.abs] at g;unfold zy4;rcases z:zyx b R p x with _|m;rw[z] at g;by_cases t:x∈c.qw.g p [];rw[zb (e p x t)];rfl;rw[za t] at g;cases g;rfl
 unfold pT;rw[T];cases ok;exact⟨c,ws,false,rfl,h.mid.inv,h.mid.Q,k,λ_=>h.no rfl,λq=>by cases q⟩;have i:=h.yes rfl;obtain⟨j,K,V⟩:=MT v o h.mid η d A.2 G (λr s l L=>((hs.H r s).qc l L).1);simp only[K,jZ];refine⟨c,j,true,rfl,h.mid.inv,h.mid.Q,k,λq=>(by cases q),λ_=>⟨i,?_,V⟩⟩;have n:∀p x,j6 rs (zyx b R) p x->Tq (zyx b c) p x:=by
  rintro p x ⟨r,s,rfl,y,J,H,rfl⟩;cases first
  rcases KO o J H with q|q;exact I rfl r s _ (by simp only[ry];exact⟨y,q,rfl⟩);have E:=C rfl r.g.o _ ⟨r,s,rfl,q⟩;unfold Tq at E ⊢;rw[h.mid.abs];rcases z:zyx b R r.g.o (zH r.g y) with _|m;rw[z] at E;cases E;rfl;exact I rfl r s _ (by simp only[ry,if_true];exact⟨y,J,H,rfl⟩)
 funext p x;have D:=h.mid.abs p x;unfold zy4;rw[D];rcases z:zyx b R p x with _|m;rw[z] at D;by_cases f:j6 rs (zyx b R) p x;have:=n p x f;unfold Tq at this;rw[D] at this;by_cases t:x∈c.qw.g p [];rw[zb t,zb f];rw[za t] at this;cases this;rw[za f,za (λt=>f (e p x t))];rfl
end
section
open Classical
def rS{b:Φ}{W:Nat}{R:zv}(h:qQ b W R)(r:∀a∈b,a<=3){p:Nat}(g:p<R.I.j)(x:zk):x∈(TD R.I[p]).w (λk=>Uk k R.I[p].ql)↔Tq (zyx b R) p x:=by
 obtain⟨o,t,l,q⟩:=h.tries p g;have c:p<b.j:=by rw[←h.len];exact g
 have i:b.g p 0<=3:=by rw[Tl _ c];exact r _ (zq c)
 have j:R.I[p].ql<=3:=by rw[l];exact(mu _).2
 have f:R.I.g p zl.zero=R.I[p]:=Tl _ g;unfold Tq zyx;constructor;intro d;obtain⟨k,n,rfl⟩:=zF.1 d;obtain⟨m,s⟩:=(qU _ k).1 n;rw[zb ⟨c,q k n⟩,f,o.mark _ (EQ m j),sY m];exact s;intro d;by_cases e:p<b.j/\T0 (b.g p 0) x;rw[zb e,f,o.mark x e.2.1] at d;refine zF.2 ⟨x.G R.I[p].ql,(qU _ _).2 ⟨by rw[vc,e.2.1];omega,d⟩,?_⟩;rw[l,GR i e.2];rw[za e] at d;cases d
def l9(D:DB)(n:Nat):Prop:=∃l:List (Nat×zk),l.Nodup/\(∀p x,(p,x)∈l↔Tq D p x)/\l.j=n
def BN:∀{l1 l2:List (Nat×zk)},l1.Nodup->(∀x∈l1,x∈l2)->l1.j<=l2.j
 |[],l2,_,_=>ζ
 |a::l1,l2,e,d=>by
  have c:=d a ζ;have g:=BN (l1:=l1) (l2:=l2.erase a) (jp.1 e).2 (λx f=>by
   have b:x≠a:=by rintro rfl;exact(jp.1 e).1 f
   exact(me b).2 (d x (by simp[f])))
  rw[mN c] at g;have:=nI c;simp;omega
def tV{D E:DB}{n m:Nat}(h:l9 D n)(k:l9 E m)(hs:∀p x,Tq D p x->Tq E p x):n<=m:=by
 obtain⟨l,b,a,rfl⟩:=h;obtain⟨e,f,d,rfl⟩:=k;exact BN b λx c=>(d x.1 x.2).2 (hs _ _ ((a x.1 x.2).1 c))
def Bt{D:DB}{n m:Nat}(h:l9 D n)(k:l9 D m):n=m:=Nat.le_antisymm (tV h k λ_ _ q=>q) (tV k h λ_ _ q=>q)
def J4{D E:DB}{n m:Nat}(h:l9 D n)(k:l9 E m)(hs:∀p x,Tq D p x->Tq E p x)(i:m<=n):∀p x,Tq E p x->Tq D p x:=by
 intro p x g;false_or_by_contra
 rename_i d;obtain⟨l,f,b,rfl⟩:=h;obtain⟨e,j,c,rfl⟩:=k;have:=BN (l1:=(p,x)::l) (l2:=e) (jp.2 ⟨λq=>d ((b p x).1 q),f⟩) (λy a=>by
  rcases zG.1 a with rfl|a;exact(c p x).2 g;exact(c y.1 y.2).2 (hs _ _ ((b y.1 y.2).1 a)))
 simp at this;omega
def qQ.card{g:Φ}{W:Nat}{R:zv}(h:qQ g W R)(s:∀a∈g,a<=3):l9 (zyx g R) R.count:=by
 refine⟨(List.range R.I.j).flatMap λp=>((TD (R.I.g p zl.zero)).w λk=>Uk k (R.I.g p zl.zero).ql).w λx=>(p,x),?_,λp x=>?_,?_⟩;unfold List.Nodup;rw[List.pairwise_flatMap];refine⟨λp f=>?_,?_⟩;have l:=qG.1 f;rw[mT,Tl _ l,mT];refine List.Pairwise.imp_of_mem ?_ (oS R.I[p] R.I[p].ql 0 0);intro a b u w c e;simp only[ye,true_and] at e;have j:=((qU R.I[p] a).1 u).1;have r:=((qU R.I[p] b).1 w).1;have:=congrArg (List.take R.I[p].ql) e;rw[sY j,sY r] at this;exact c this;refine List.Pairwise.imp ?_ (List.nodup_range (n:=R.I.j));intro a b c x d y v e;obtain⟨_,_,rfl⟩:=zF.1 d;obtain⟨_,_,rfl⟩:=zF.1 v;simp only[ye] at e;exact c e.1;simp only[ve,qG];constructor;rintro⟨q,t,d⟩;obtain⟨z,m,e⟩:=zF.1 d;simp only[ye] at e;obtain⟨rfl,rfl⟩:=e;rw[Tl _ t] at m;exact(rS h s t z).1 m;intro d;have f:p<R.I.j:=by rw[h.len];exact(tM g R p x d).1
 refine⟨p,f,zF.2 ⟨x,?_,rfl⟩⟩;rw[Tl _ f];exact(rS h s f x).2 d;rw[List.length_flatMap,h.cnt];congr 1;refine jy ζ λi j r=>?_;have o:i<R.I.j:=by simpa using j
 simp only[ub,fR,xu,Tl zl.zero o];exact(h.tries i o).1.cnt
def sU:DB:=λ_ _=>Y
def Fi{o:Φ}{W wd:Nat}(d:W=zM wd)(t:∀a∈o,a<=3){R:zv}(h:qQ o W R)(J:R.count<=1048576)(b:Nat)(j:3*(W+1)<=b):∀(m:List zw),(∀l∈m,l.o<o.j)->∃vs,fA b wd R m=Z vs/\vs.j=m.j/\∀(i:Nat) (l:zw) (V:yH),m[i]?=Z l->vs[i]?=Z V->pp V l W (Tq sU l.o) (Tq (zyx o R) l.o) (λx=>Tq (zyx o R) l.o x/\¬Tq sU l.o x) ((R.I.w (·.count)).g l.o 0)
 |[],_=>⟨[],rfl,rfl,λi l V h=>by simp at h⟩
 |l::m,C=>by
  obtain⟨vs,H,F,K⟩:=Fi d t h J b j m (λx z=>C x (by simp[z]));have c:l.o<R.I.j:=by rw[h.len];exact C l ζ
  obtain⟨B,A,Q,P⟩:=h.tries l.o c;have y:=eL R.I l.o c;rw[←h.cnt] at y;have s:0<W:=by rw[d];unfold zM;split<;>omega
  have n:ma wd R l.o=R.I[l.o]:=by unfold ma;rw[za η,Tl _ c]
  have u:=B.rowsG b (by rw[A];exact j) η;have I:pp (gF wd l) l W (λ_=>False) (λ_=>False) (λ_=>False) 0:=⟨rfl,vu.new l wd W d,vu.new l wd W d,vu.new l wd W d,by simp[gF,xk,yD],by simp[gF,xk,yD]⟩;have g:((TD R.I[l.o]).w λk=>Uk k R.I[l.o].ql).j=R.I[l.o].count:=by rw[xu];exact B.cnt
  obtain⟨M,E,p⟩:=E3 I d ((TD R.I[l.o]).w λk=>Uk k R.I[l.o].ql) (λx z=>by
   obtain⟨k,N,rfl⟩:=zF.1 z;refine DQ s ?_;intro v D;have:=ip k 0 ((qU _ k).1 N).2 v D;rw[A] at this;exact this) (by rw[g];omega) b j
  have f:∀x,¬Tq sU l.o x:=λx q=>by cases q
  refine⟨M::vs,?_,by simp[F],λi L G r w=>?_⟩
  .unfold fA;rw[n,u];simp only[E,H]
  .cases i with
   |zero=>
    simp only[hY,zt] at r w;subst r;subst w;refine⟨p.lit,p.before.congr λx=>⟨λq=>by rcases q with q|q<;>exact q.elim,λq=>zB q (f x)⟩,p.qw.congr λx=>?_,p.all.congr λx=>?_,?_⟩
    .rw[rS h t c];exact⟨λq=>⟨q,f x⟩,λq=>q.1⟩
    .rw[rS h t c];exact⟨λq=>q.resolve_left id,ze⟩
    .have e:(R.I.w (·.count)).g l.o 0=R.I[l.o].count:=by simp[List.getD,c]
     have:=p.K;rw[g] at this;rw[e];simpa using this
   |succ i=>exact K i L G (by simpa using r) (by simpa using w)
def FE{f:Φ}{W wd:Nat}(e:W=zM wd)(o:∀a∈f,a<=3){R:zv}(h:qQ f W R)(j:R.count<=1048576)(c:Nat)(g:3*(W+1)<=c)(s:Nat):∀(b:List zu),(∀r∈b,∀l∈r.qc,l.o<f.j)->∃d,TE c wd R s b=Z d/\kC f W sU (zyx f R) (R.I.w (·.count)) d (b.filter λr=>decide (r.L=s))
 |[],_=>⟨[],rfl,kC.nil⟩
 |r::b,k=>by
  obtain⟨d,m,n⟩:=FE e o h j c g s b (λx u=>k x (by simp[u]));unfold TE;by_cases i:r.L=s
  .obtain⟨vs,p,t,q⟩:=Fi e o h j c g r.qc (k r ζ);rw[zb i,p,m];refine⟨⟨r,vs⟩::d,rfl,?_⟩;rw[List.filter_cons_of_pos (by simp[i])];exact kC.cons ⟨rfl,t,q⟩ n
  .rw[za i];refine⟨d,m,?_⟩;rw[List.filter_cons_of_neg (by simp[i])];exact n
def kC.j{d:Φ}{W:Nat}{D0 D:DB}{c:Φ}{a:List yd}{rs:List zu}(h:kC d W D0 D c a rs):a.j=rs.j:=by
 induction h with
 |nil=>rfl
 |cons _ _ b=>simp[b]
end
section
open Classical
variable {mr mx:Nat}
def mC(D:DB)(mr:Nat):Prop:=∃n,n<=mr/\l9 D n
noncomputable def zyo(rs:List zu)(mr:Nat):Nat->Nat->DB->Option (DB×Nat)
 |0,_,_=>Y
 |left+1,k,D=>
  if mC (zy4 rs (k+1) D) mr then
   if ∀p x,Tq (zy4 rs (k+1) D) p x->Tq D p x then Z (zy4 rs (k+1) D,k+1)
   else zyo rs mr left (k+1) (zy4 rs (k+1) D)
  else Y
noncomputable def zyq(rules:List zu)(mr mx:Nat):Nat->Nat->Nat->DB->Option (DB×Nat)
 |0,_,k,D=>Z (D,k)
 |n+1,s,k,D=>
  if (rules.filter λr=>decide (r.L=s))=[] then zyq rules mr mx n (s+1) k D
  else match zyo (rules.filter λr=>decide (r.L=s)) mr (mx-k) k D with
   |none=>Y
   |some (D',k')=>zyq rules mr mx n (s+1) k' D'
noncomputable def zz3(fs:List jI):DB:=λp x=>if ∃f∈fs,f.o=p/\f.row=x then Z 0 else Y
noncomputable def z0n(S:js)(mr mx:Nat):Option (DB×Nat):=if mC (zz3 S.facts) mr then zyq S.H mr mx S.M.j 0 0 (zz3 S.facts) else Y
def Mh(rs:List zu)(k:Nat)(D:DB):∀p x,Tq D p x->Tq (zy4 rs k D) p x:=by
 intro p x h;unfold Tq zy4 at *;rcases a:D p x with _|m;rw[a] at h;cases h;rfl
def Ct{rs:List zu}{k:Nat}{D:DB}:∀p x,j6 rs D p x->Tq (zy4 rs k D) p x:=by
 intro p x h;unfold Tq zy4;rcases a:D p x with _|m;simp only;rw[zb h];rfl;rfl
def IM{c:Φ}{W wd:Nat}(z:W=zM wd)(E:∀a∈c,a<=3)(G:mr<=1048576){rs:List zu}(hs:tq rs c W)(B:Nat)(H:(∀r∈rs,lQ W r<=B)/\3*(W+1)<=B):
  ∀(n:Nat) (first:Bool) (u:List yd) (R:zv) (D0:DB),qQ c W R->R.count<=mr->R.Q<=mx->(∀p x,Tq D0 p x->Tq (zyx c R) p x)->kC c W D0 (zyx c R) (R.I.w (·.count)) u rs->(first=false->∀p x,j6 rs D0 p x->Tq (zyx c R) p x)->B+(mx-R.Q)<n →
  ∃k ok,kY wd mr mx n first u R=Z (k,ok)/\(ok=false->zyo rs mr (mx-R.Q) R.Q (zyx c R)=Y)/\(ok=true->qQ c W k/\k.count<=mr/\k.Q<=mx/\zyo rs mr (mx-R.Q) R.Q (zyx c R)=Z (zyx c k,k.Q)):=by
 intro n;induction n with
 |zero=>intro first u R D0 _ _ _ _ _ _ h;omega
 |succ n ih=>
  intro first u R D0 J V hk C Q A hn
  unfold kY;by_cases t:R.Q≥mx;rw[zb t];refine⟨R,false,rfl,λ_=>?_,λq=>by cases q⟩;rw[show mx-R.Q=0 by omega];rfl;rw[za t];obtain⟨left,j⟩:∃left,mx-R.Q=left+1:=⟨mx-R.Q-1,η⟩;obtain⟨d,w,ok,a1,D,L,a4,M,P⟩:=MC z E G n hs ⟨λr hr=>by have:=H.1 r hr;omega,by have:=H.2;omega⟩ first J V C Q A
  rw[a1];have b:=D.card E;have f:=J.card E;rw[j];cases ok;refine⟨d,false,rfl,λ_=>?_,λq=>by cases q⟩;unfold zyo;rw[za];rintro⟨m,m1,N⟩;have:=tV b N a4;have:=M rfl;omega;obtain⟨y,v,b3⟩:=P rfl;simp only;have s:mC (zyx c d) mr:=⟨d.count,y,b⟩;have i:∀p x,Tq (zyx c R) p x->Tq (zyx c d) p x:=by rw[v];exact Mh _ _ _
  by_cases g:d.count>R.count;rw[zb g];have o:¬∀p x,Tq (zyx c d) p x->Tq (zyx c R) p x:=λq=>by
   have:=tV b f q;omega
  obtain⟨R2,F,S,I,K⟩:=ih false w d (zyx c R) D y η i b3 (λ_ p x hx=>by rw[v];exact Ct p x hx) η;have T:mx-d.Q=left:=η;have e:zyo rs mr (left+1) R.Q (zyx c R)=zyo rs mr left d.Q (zyx c d):=by
   rw[zyo,←v,zb s,za o,L]
  rw[T] at I K;exact⟨R2,F,S,λq=>by rw[e];exact I q,λq=>by rw[e];exact K q⟩;rw[za g];have l:=J4 f b i η;refine⟨d,true,rfl,λq=>(by cases q),λ_=>⟨D,y,η,?_⟩⟩;rw[zyo,←v,zb s,zb l,L]
structure iH (rs:List zu) (ar:List Nat) (W:Nat):Prop where
 H:∀r∈rs,p4 r ar W
 apart:∀r∈rs,∀r'∈rs,r.L=r'.L->∀l∈r.qx,l.o≠r'.g.o
def iH.jm{a:List zu}{d:Φ}{W:Nat}(h:iH a d W)(s:Nat):tq (a.filter λr=>decide (r.L=s)) d W:=by
 refine⟨λr c=>h.H r (xz.1 c).1,λr c f b l e=>h.apart r (xz.1 c).1 f (xz.1 b).1 ?_ l e⟩;have i:=(xz.1 c).2;have g:=(xz.1 b).2;simp at i g;omega
def L3{e:Φ}{W wd:Nat}(h:W=zM wd)(y:∀a∈e,a<=3)(t:mr<=1048576){b:List zu}(z:iH b e W)(B:Nat)(m:(∀r∈b,lQ W r<=B)/\3*(W+1)<=B)(d:Nat)(K:B+mx<d):
  ∀(n s:Nat) (R:zv),qQ e W R->R.count<=mr->R.Q<=mx->∃g ok,kP d wd mr mx b n s R=Z (g,ok)/\(ok=false->zyq b mr mx n s R.Q (zyx e R)=Y)/\(ok=true->qQ e W g/\g.count<=mr/\zyq b mr mx n s R.Q (zyx e R)=Z (zyx e g,g.Q)):=by
 intro n;induction n with
 |zero=>intro s R i k _;exact⟨R,true,rfl,λq=>(by cases q),λ_=>⟨i,k,rfl⟩⟩
 |succ n v=>
  intro s R i k w;obtain⟨u,E,C⟩:=FE h y i η d (by have:=m.2;omega) s b (λr o l G=>((z.H r o).qc l G).1);have c:=C.j;unfold kP pO;rw[E];simp only;unfold zyq;by_cases j:(b.filter λr=>decide (r.L=s))=[];rw[zb j];rw[j] at c;rw[za (by simp at c;simp[c])];simp only;exact v (s+1) R i k w;rw[za j];have f:u.j>0:=by rw[c];exact List.length_pos_iff.2 j
  rw[zb f];obtain⟨A,ok,L,I,M⟩:=IM h y t (mx:=mx) (z.jm s) B ⟨λr o=>m.1 r (xz.1 o).1,m.2⟩ d true u R sU i k w (λp x q=>by cases q) C (λq=>by cases q) η;rw[L];cases ok;refine⟨A,false,rfl,λ_=>?_,λq=>by cases q⟩;rw[I rfl];obtain⟨D,H,J,F⟩:=M rfl;simp only;rw[F];exact v (s+1) A D H J
def F3{d:Φ}{W:Nat}(w:∀a∈d,a<=3){mr:Nat}(e:mr<=1048576){k:Nat}{D0:DB}{c0:Φ}:∀(fs:List jI) (R:zv),(∀f∈fs,f.o<d.j/\T0 (d.g f.o 0) f.row/\TF W f.row)->Uf d W k D0 c0 R->R.count<=mr->∃c ok,gJ mr fs R=Z (c,ok)/\Uf d W k D0 c0 c/\(∀q x,x∈R.qw.g q []->x∈c.qw.g q [])/\(∀q x,x∈c.qw.g q []->x∈R.qw.g q []∨∃f∈fs,f.o=q/\f.row=x)/\(ok=true->c.count<=mr/\∀f∈fs,Tq (zyx d c) f.o f.row)/\(ok=false->c.count>mr)
 |[],R,_,o,m=>⟨R,true,rfl,o,λq x b=>b,λq x b=>zh b,λ_=>⟨m,λf h=>by cases h⟩,λq=>by cases q⟩
 |f::fs,R,h,o,m=>by
  obtain⟨M,A,E⟩:=h f ζ;obtain⟨y,ok,K,n,_,H,r,t,J,D⟩:=o.add w M A E m e;unfold gJ;rw[K];cases ok with
  |false=>
   refine⟨y,false,rfl,n,r,λq x b=>?_,(λq=>by cases q),D⟩;rcases t q x b with z|⟨i,l⟩
   .exact zh z
   .exact ze ⟨f,ζ,i.z,l.z⟩
  |true=>
   simp only;obtain⟨I,p,C,u,v,F,s,G⟩:=F3 w e fs y (λx b=>h x (by simp[b])) n (J rfl);refine⟨I,p,C,u,λq x b=>v q x (r q x b),λq x b=>?_,λq=>⟨(s q).1,λg j=>?_⟩,G⟩
   .rcases F q x b with z|⟨g,B,L⟩
    .rcases t q x z with z|⟨i,l⟩
     .exact zh z
     .exact ze ⟨f,ζ,i.z,l.z⟩
    .exact ze ⟨g,by simp[B],L⟩
   .rcases zG.1 j with rfl|j
    .exact n.grow u v H
    .exact(s q).2 g j
structure rJ (S:js):Prop where
 small:∀a∈S.M,a<=3
 facts:∀f∈S.facts,f.o<S.M.j/\T0 (S.M.g f.o 0) f.row/\TF (zM S.r) f.row
 H:iH S.H S.M (zM S.r)
def Md(S:js):qQ S.M (zM S.r) ⟨S.M.w (xk S.r),0,0,0,[]⟩:=by
 refine⟨ζ,λp e=>?_,?_⟩;have b:p<S.M.j:=by simpa using e
 simp only[ub];refine⟨vU.new _ _,DW _ _,by rw[rO,Tl _ b],λk g=>?_⟩;obtain⟨c,d⟩:=(qU _ k).1 g;rw[eT _ _ k (by rintro rfl;have:=(mu S.M[p]).1;rw[rO] at c;simp at c;omega)] at d;cases d;show 0=_;rw[nA];have:∀l:Φ,(l.w ((λT:zl=>T.count) ∘ xk S.r)).sum=0:=by
  intro l;induction l with
  |nil=>rfl
  |cons a l f=>simp only[un,qD,f];rfl
 exact(this _).z
def Fv(S:js)(p:Nat)(x:zk):zyx S.M ⟨S.M.w (xk S.r),0,0,0,[]⟩ p x=none:=by
 unfold zyx;split;rename_i a;have b:p<(S.M.w (xk S.r)).j:=by simpa using a.1
 show ua ((S.M.w (xk S.r)).g p zl.zero) x=Y;rw[Tl _ b,ub,(vU.new _ _).mark x a.2.1,eT];intro e;have:=congrArg List.length e;rw[vc,a.2.1,rO] at this;have:=mu S.M[p];simp at *;omega;rfl
def Qx{S:js}(h:rJ S)(v:mr<=1048576):∃N,∀b,N<=b->∃g,pk b S mr mx=Z g/\(g=Y->z0n S mr mx=Y)/\∀R,g=Z R->qQ S.M (zM S.r) R/\R.count<=mr/\z0n S mr mx=Z (zyx S.M R,R.Q):=by
 obtain⟨B,k⟩:∃B,(∀r∈S.H,lQ (zM S.r) r<=B)/\3*(zM S.r+1)<=B:=by
  have:∀y:List zu,∃B,∀r∈y,lQ (zM S.r) r<=B:=by
   intro y;induction y with
   |nil=>exact⟨0,λr d=>by cases d⟩
   |cons a y V=>
    obtain⟨B,k⟩:=V;refine⟨B+lQ (zM S.r) a,λr d=>?_⟩;rcases zG.1 d with rfl|d;omega;have:=k r d;omega
  obtain⟨B,k⟩:=this S.H;exact⟨B+3*(zM S.r+1),λr d=>by have:=k r d;omega,η⟩
 refine⟨B+mx+1,λb aa=>?_⟩;have t:=Uf.clear (Md S);have I:qS ⟨S.M.w (xk S.r),0,0,0,[]⟩=l7 S:=rfl;obtain⟨R,ok,a1,i,a3,H,J,P⟩:=F3 h.small v S.facts (l7 S) h.facts t (zs _);have o:∀q x,x∉(l7 S).qw.g q []:=λq x j=>by
  have l:x∈(List.replicate (S.M.w (xk S.r)).j ([]:List zk)).g q []:=j;have:∀n,(List.replicate n ([]:List zk)).g q []=[]:=λn=>by by_cases hp:q<n<;>simp[List.getD,hp]
  rw[this] at l;cases l
 have s:∀p x,Tq (zyx S.M R) p x->Tq (zz3 S.facts) p x:=by
  intro p x j;unfold Tq at j ⊢;rw[i.abs,Fv] at j;by_cases e:x∈R.qw.g p [];unfold zz3;rw[zb ((H p x e).resolve_left (o p x))];rfl;rw[za e] at j;cases j
 unfold pk;rw[a1];cases ok;refine⟨Y,rfl,λ_=>?_,λR q=>by cases q⟩;unfold z0n;rw[za];rintro⟨m,m1,K⟩;have:=tV (i.inv.card h.small) K s;have:=P rfl;omega;obtain⟨E,W⟩:=J rfl;have z:R.Q=0:=i.Q;have u:zyx S.M R=zz3 S.facts:=by
  funext p x;have D:=i.abs p x;rw[Fv] at D;rw[D];unfold zz3;by_cases w:∃f∈S.facts,f.o=p/\f.row=x;rw[zb w];obtain⟨f,f1,rfl,rfl⟩:=w;have:=W f f1;unfold Tq at this;rw[D] at this;by_cases e:f.row∈R.qw.g f.o [];rw[zb e];rw[za e] at this;cases this;rw[za w,za];intro e;exact w ((H p x e).resolve_left (o p x))
 have C:mC (zz3 S.facts) mr:=⟨R.count,E,by rw[←u];exact i.inv.card h.small⟩;obtain⟨R1,A,Q,F,G⟩:=L3 rfl h.small v (mx:=mx) h.H B k b η S.M.j 0 R i.inv E η;simp only[Q,jZ];rw[z,u] at F G;have c:z0n S mr mx=zyq S.H mr mx S.M.j 0 0 (zz3 S.facts):=by
  unfold z0n;rw[zb C]
 cases A;exact⟨Y,rfl,λ_=>by rw[c];exact F rfl,λR q=>by cases q⟩;refine⟨Z R1,rfl,(λq=>by cases q),λR2 q=>?_⟩;simp only[zt] at q;subst q;obtain⟨L,T,M⟩:=G rfl;exact⟨L,T,by rw[c];exact M⟩
end
def Ub(b:UInt8):Int:=(b.D:Int)
def U8:List UInt8->Int
 |[]=>0
 |b::_=>Ub b
def mt(l:List UInt8)(k:Int):Nat:=if k=9 then 2 else if k=1∨k=2 then(l.takeWhile λb=>TK (Ub b)).j else if k=3 then(l.takeWhile λb=>yY (Ub b)).j else 1
def n6:Nat->List UInt8->Option (List To)
 |0,_=>Z []
 |_+1,[]=>Z []
 |n+1,a::l=>
  if qJ (Ub a) then n6 n l
  else if xw (Ub a) (U8 l)=0 then Y
  else if 6<mt (a::l) (xw (Ub a) (U8 l)) then Y
  else(n6 n ((a::l).drop (mt (a::l) (xw (Ub a) (U8 l))))).w ((xw (Ub a) (U8 l),(⟨((a::l).G (mt (a::l) (xw (Ub a) (U8 l)))).F⟩:ByteArray))::·)
def oF(s:ByteArray)(i:Nat):Tr s i=U8 (s.data.v.drop i):=by
 unfold Tr;split;rename_i h;have a:i<s.data.v.j:=by simpa using h
 rw[xn a];simp[U8,Ub,ByteArray.getElem_eq_getElem_data];rename_i h;rw[ui (by have:s.data.v.j=s.q:=(by rw[nE];rfl);omega)];rfl
def G9(p:Int->Bool)(s:ByteArray):∀(n i:Nat),s.q-i<=n->yK p s i=i+((s.data.v.drop i).takeWhile λb=>p (Ub b)).j:=by
 have f:s.data.v.j=s.q:=by rw[nE];rfl
 intro n;induction n with
 |zero=>
  intro i h;rw[fH η,ui η];simp
 |succ n e=>
  intro i h;by_cases d:i<s.q;have c:=oF s i;rw[xn η] at c ⊢;simp only[U8] at c;cases a:p (Tr s i);rw[pn a,pw,←c,a];simp;rw[np d a,e (i+1) η,pw,←c,a];simp;omega;rw[fH d,ui η];simp
def MK{s:ByteArray}{i:Nat}{k:Int}(a:k≠0):yv s i k=i+mt (s.data.v.drop i) k:=by
 unfold yv mt;rw[za a];split;rfl;split;exact G9 TK s _ i (zg _);split;exact G9 yY s _ i (zg _);rfl
def KT(s:ByteArray)(i m:Nat):s.extract i (i+m)=⟨((s.data.v.drop i).G m).F⟩:=by
 apply ByteArray.ext;rw[ByteArray.data_extract];apply Array.ext';simp[List.take_drop]
def O7(s:ByteArray):∀(n i:Nat),Tx n s i=n6 n (s.data.v.drop i):=by
 have j:s.data.v.j=s.q:=by rw[nE];rfl
 intro n;induction n with
 |zero=>intro i;rfl
 |succ n f=>
  intro i;by_cases g:i<s.q;have d:=oF s i;have b:=oF s (i+1);have e:∀k,k≠0->yv s i k=i+mt (s.data.v.drop i) k:=λk c=>MK c;have h:=KT s i;have a:∀m,s.data.v.drop (i+m)=(s.data.v.drop i).drop m:=λm=>by rw[List.drop_drop]
  have o:=xn (l:=s.data.v) (i:=i) η;unfold Tx;rw[zb g];rw[o] at d e h a ⊢;unfold n6;simp only[U8] at d;rw[d,b,f];split;rfl;split;rfl;rename_i c;generalize xw (Ub s.data.v[i]) (U8 (List.drop (i+1) s.data.v))=k at *;rw[e k c];generalize mt (s.data.v[i]::List.drop (i+1) s.data.v) k=m at *;rw[i4,h m,f,a m];rw[sA g,ui η];rfl
structure pV (x:List UInt8):Prop where
 ne:x≠[]
 six:x.j<=6
 kind:(xe (U8 x)=true∨qr (U8 x)=true)/\(∀b∈x,TK (Ub b)=true)∨yY (U8 x)=true/\∀b∈x,yY (Ub b)=true
def bl(x:ByteArray):List UInt8:=x.data.v
def pj(l:zj):Prop:=(pV (bl l.o)/\xe (U8 (bl l.o))=true)/\∀x∈l.k,pV (bl x)
def rq(c:zc):Prop:=c.g.i=false/\pj c.g/\∀l∈c.d,pj l
section
variable {r r2:List To}
def n4(x:To):Prop:=Un x.1=true->pV (bl x.2)/\(x.1=1->xe (U8 (bl x.2))=true)
def BP(p:UInt8->Bool)(l:List UInt8):l.G (l.takeWhile p).j=l.takeWhile p:=by
 induction l with
 |nil=>rfl
 |cons a l b=>
  rw[pw];split;simp[b];rfl
def ea{p:UInt8->Bool}:∀{l:List UInt8} {b:UInt8},b∈l.takeWhile p->p b=true
 |[],_,h=>by simp at h
 |a::l,b,h=>by
  rw[pw] at h;split at h
  .rename_i c;rcases zG.1 h with rfl|h
   .exact c
   .exact ea h
  .cases h
def oN:∀(n:Nat) (l:List UInt8) (ts:Δ),n6 n l=Z ts->∀x∈ts,n4 x
 |0,_,ts,h,x,f=>by simp[n6] at h;subst h;cases f
 |_+1,[],ts,h,x,f=>by simp[n6] at h;subst h;cases f
 |n+1,a::l,ts,h,x,f=>by
  unfold n6 at h;split at h
  .exact oN n l ts h x f
  .split at h
   .cases h
   .rename_i y;split at h
    .cases h
    .rename_i t;obtain⟨v,w,rfl⟩:=qn.1 h;rcases zG.1 f with rfl|f
     .intro u;simp only at u ⊢;have s:∀m,bl (⟨((a::l).G m).F⟩:ByteArray)=(a::l).G m:=λm=>by simp[bl]
      rw[s];generalize c:xw (Ub a) (U8 l)=k at *;unfold xw at c;by_cases g:xe (Ub a)=true
      .rw[zb g] at c;subst c;have e:mt (a::l) 1=((a::l).takeWhile λb=>TK (Ub b)).j:=rfl;rw[e] at t ⊢;rw[BP];have d:(a::l).takeWhile (λb=>TK (Ub b))=a::l.takeWhile (λb=>TK (Ub b)):=by rw[pw,zb (by simp[TK,g])]
       refine⟨⟨by rw[d];simp,η,zh ⟨zh (by rw[d];exact g),λb i=>ea (p:=λb=>TK (Ub b)) i⟩⟩,λ_=>by rw[d];exact g⟩
      .rw[za g] at c;by_cases j:qr (Ub a)=true
       .rw[zb j] at c;subst c;have e:mt (a::l) 2=((a::l).takeWhile λb=>TK (Ub b)).j:=rfl;rw[e] at t ⊢;rw[BP];have d:(a::l).takeWhile (λb=>TK (Ub b))=a::l.takeWhile (λb=>TK (Ub b)):=by rw[pw,zb (by simp[TK,j])]
        exact⟨⟨by rw[d];simp,η,zh ⟨ze (by rw[d];exact j),λb i=>ea (p:=λb=>TK (Ub b)) i⟩⟩,λq=>by cases q⟩
       .rw[za j] at c;by_cases o:yY (Ub a)=true
        .rw[zb o] at c;subst c;have e:mt (a::l) 3=((a::l).takeWhile λb=>yY (Ub b)).j:=rfl;rw[e] at t ⊢;rw[BP];have d:(a::l).takeWhile (λb=>yY (Ub b))=a::l.takeWhile (λb=>yY (Ub b)):=by rw[pw,zb (by simp[o])]
         exact⟨⟨by rw[d];simp,η,ze ⟨by rw[d];exact o,λb i=>ea (p:=λb=>yY (Ub b)) i⟩⟩,λq=>by cases q⟩
        .exfalso;rw[za o] at c;split at c
         .subst c;simp[Un] at u
         .unfold fy at c
          (repeat' split at c)<;>subst c<;>simp[Un] at u
     .exact oN n _ v w x f
def He:∀(r:Δ) {ts:κ} {r2:Δ},yx r=Z (ts,r2)->(∀x∈r,n4 x)->(∀y∈ts,pV (bl y))/\∀x∈r2,x∈r
 |[],_,_,h,_=>by simp[yx] at h
 |[x],ts,r2,h,b=>by
  simp only[yx] at h;split at h
  .rename_i c;simp only[zt,ye] at h;obtain⟨rfl,rfl⟩:=h;exact⟨λy e=>by simp at e;subst e;exact(b x ζ c).1,ζ⟩
  .cases h
 |x::y::r,ts,r2,h,b=>by
  simp only[yx] at h;split at h
  .rename_i c;split at h
   .obtain⟨z,f,d⟩:=qn.1 h;simp only[ye] at d;obtain⟨rfl,rfl⟩:=d;obtain⟨g,i⟩:=He r (ts:=z.1) (r2:=z.2) f (λu a=>b u (by simp[a]));refine⟨λu a=>?_,λu a=>by simp[i u a]⟩;rcases zG.1 a with rfl|a
    .exact(b x ζ c).1
    .exact g u a
   .simp only[zt,ye] at h;obtain⟨rfl,rfl⟩:=h;exact⟨λu a=>by simp at a;subst a;exact(b x ζ c).1,λu a=>by simp[List.mem_cons.1 a]⟩
  .cases h
def li{x:To}(h:x∈r.tail):x∈r:=by
 rcases r with _|⟨a,r⟩;exact h;simp at h;simp[h]
def oU{l:zj}(h:xv r=Z (l,r2))(m:∀x∈r,n4 x):l.i=false/\pj l/\∀x∈r2,x∈r:=by
 unfold xv at h;split at h;rename_i i;rcases r with _|⟨a,r⟩;simp[T6] at i;have d:a.1=1:=i;have e:=m a ζ (by rw[d];rfl);have f:pV (bl a.2)/\xe (U8 (bl a.2))=true:=⟨e.1,e.2 d⟩;change (if T6 r=4 then(match yx r.tail with|none=>Y|some (j,r2)=>if T6 r2=5 then Z ((⟨false,a.2,j⟩:zj),r2.tail) else Y) else Z ((⟨false,a.2,[]⟩:zj),r))=Z (l,r2) at h;by_cases g:T6 r=4;rw[zb g] at h;rcases c:yx r.tail with _|z;rw[c] at h;cases h;obtain⟨j,o⟩:=z;rw[c] at h;simp only at h;by_cases k:T6 o=5;rw[zb k] at h;simp only[zt,ye] at h;obtain⟨rfl,rfl⟩:=h;obtain⟨n,q⟩:=He _ c (λu b=>m u (by simp[li b]));exact⟨rfl,⟨f,n⟩,λu b=>by simp[li (q u (li b))]⟩;rw[za k] at h;cases h;rw[za g] at h;simp only[zt,ye] at h;obtain⟨rfl,rfl⟩:=h;exact⟨rfl,⟨f,λy p=>by cases p⟩,λu b=>by simp[b]⟩;cases h
def Ol{l:zj}(h:uY r=Z (l,r2))(c:∀x∈r,n4 x):pj l/\∀x∈r2,x∈r:=by
 unfold uY at h;split at h;obtain⟨z,d,b⟩:=qn.1 h;simp only[ye] at b;obtain⟨rfl,rfl⟩:=b;obtain⟨_,e,f⟩:=oU (l:=z.1) (r2:=z.2) d (λu a=>c u (li a));exact⟨e,λu a=>li (f u a)⟩;exact(oU h c).2
def D5:∀(n:Nat) {r:Δ} {b:Ω} {r2:Δ},uj n r=Z (b,r2)->(∀x∈r,n4 x)->(∀l∈b,pj l)/\∀x∈r2,x∈r
 |0,_,_,_,h,_=>by cases h
 |n+1,r,b,r2,h,i=>by
  unfold uj at h;split at h
  .cases h
  .rename_i a p k;obtain⟨g,e⟩:=Ol k i;split at h
   .obtain⟨z,j,f⟩:=qn.1 h;simp only[ye] at f;obtain⟨rfl,rfl⟩:=f;obtain⟨m,o⟩:=D5 n (b:=z.1) (r2:=z.2) j (λu d=>i u (e u (li d)));refine⟨λl c=>?_,λu d=>e u (li (o u d))⟩;rcases zG.1 c with rfl|c
    .exact g
    .exact m l c
   .simp only[zt,ye] at h;obtain⟨rfl,rfl⟩:=h;exact⟨λl c=>by simp at c;subst c;exact g,e⟩
def JU{n:Nat}{c:zc}(h:vE n r=Z (c,r2))(i:∀x∈r,n4 x):rq c/\∀x∈r2,x∈r:=by
 unfold vE at h;split at h;cases h;rename_i a q j;obtain⟨g,f,e⟩:=oU j i;split at h;split at h;cases h;rename_i b s p;split at h;simp only[zt,ye] at h;obtain⟨rfl,rfl⟩:=h;obtain⟨m,o⟩:=D5 n p (λu d=>i u (e u (li d)));exact⟨⟨g,f,m⟩,λu d=>e u (li (o u (li d)))⟩;cases h;split at h;simp only[zt,ye] at h;obtain⟨rfl,rfl⟩:=h;exact⟨⟨g,f,λl k=>by cases k⟩,λu d=>e u (li d)⟩;cases h
def FC{n:Nat}:∀(m:Nat) {r:Δ} {cs:Ξ},yW n m r=Z cs->(∀x∈r,n4 x)->∀c∈cs,rq c
 |m,[],cs,h,_=>by cases m<;>(simp[yW] at h;subst h;simp)
 |0,_::_,cs,h,_=>by simp[yW] at h
 |m+1,x::r,cs,h,b=>by
  unfold yW at h;split at h
  .cases h
  .rename_i c r2 d;obtain⟨e,i⟩:=JU d b;obtain⟨j,f,rfl⟩:=qn.1 h;intro z a;rcases zG.1 a with rfl|a
   .exact e
   .exact FC m f (λu g=>b u (i u g)) z a
def RO{s:ByteArray}{l:Δ}(h:Tt s=Z l):∀x∈l,n4 x:=by
 unfold Tt at h;rw[O7] at h;exact oN _ _ _ h
end
section
variable {hs:List Nat}
def Ui(V:Nat):List Nat->Nat
 |[]=>0
 |h::r=>V*(h+Ui V r)+1
def Ut(V:Nat):List Nat->List Nat->Nat->Nat
 |h::r,f::a,d=>(V-f)*(h+Ui V r)+1+(match d with|0=>0|d+1=>Ut V r a d)
 |_,_,_=>0
def o6(V:Nat):∀(hs b:Φ) {d e:Nat},d<=e->Ut V hs b d<=Ut V hs b e
 |[],_,_,_,_=>by simp[Ut]
 |_::_,[],_,_,_=>by simp[Ut]
 |h::r,f::a,0,e,_=>by simp[Ut]
 |h::r,f::a,d+1,0,q=>η
 |h::r,f::a,d+1,e+1,q=>by
  have:=o6 V r a (d:=d) (e:=e) η;simp only[Ut];omega
def DV(V:Nat)(hs a:Φ):Ut V hs (a.set 0 0) 0<=Ui V hs:=by
 rcases hs with _|⟨h,r⟩;simp[Ut];cases a<;>simp[Ut,Ui]
def DU(V:Nat){v:Nat}(l:v<V):∀(d:Nat) (hs c:Φ),d<hs.j->d<c.j->c.g d 0<=v->Ut V hs ((c.set d (v+1)).set (d+1) 0) (d+1)+hs.g d 0*(v+1-c.g d 0)<=Ut V hs c d
 |0,h::r,f::g,_,_,e=>by
  have i:=DV V r g;simp only[pF,rt,Ut,List.getD_cons_zero] at e ⊢;obtain⟨a,o⟩:∃a,V=a+(v+1):=⟨V-(v+1),η⟩;obtain⟨b,s⟩:∃b,v=b+f:=⟨v-f,η⟩;have j:V-(v+1)=a:=η;have m:V-f=a+(b+1):=η;have k:v+1-f=b+1:=η;rw[j,m,k];have p:(a+(b+1))*(h+Ui V r)=a*(h+Ui V r)+((b+1)*h+(b*Ui V r+Ui V r)):=by rw[lG,Nat.mul_add (b+1),lG b 1 (Ui V r),Nat.one_mul]
  have q:h*(b+1)=(b+1)*h:=Nat.mul_comm _ _;omega
 |d+1,h::r,f::g,i,n,e=>by
  have:=DU V l d r g (by simpa using i) (by simpa using n) (by simpa using e);simp only[rt,Ut,List.getD_cons_succ] at this ⊢;omega
 |_,[],_,h,_,_=>by simp at h
 |_,_::_,[],_,h,_=>by simp at h
def G8(V:Nat):∀(d:Nat) (hs a:Φ),d<hs.j->d<a.j->hs.g d 0*(V-a.g d 0)+1<=Ut V hs a d/\∀b,b<d->Ut V hs a b+(hs.g d 0*(V-a.g d 0)+1)<=Ut V hs a d
 |0,h::r,f::c,_,_=>by
  refine⟨?_,λb j=>η⟩;simp only[Ut,List.getD_cons_zero,Nat.mul_add];rw[Nat.mul_comm h];omega
 |d+1,h::r,f::c,g,e=>by
  obtain⟨k,i⟩:=G8 V d r c (by simpa using g) (by simpa using e);simp only[Ut,List.getD_cons_succ];refine⟨η,λb j=>?_⟩;cases b with
  |zero=>simp only;omega
  |succ b=>have:=i b η;simp only;omega
 |_,[],_,h,_=>by simp at h
 |_,_::_,[],_,h=>by simp at h
def U3(V:Nat)(hs a:List Nat)(d:Int):Nat:=if d<0 then 0 else Ut V hs a d.D
def Pn(V:Nat)(hs a:Φ){d e:Int}(h:d<=e):U3 V hs a d<=U3 V hs a e:=by
 unfold U3;split;omega;split;omega;exact o6 V hs a η
structure UN (V:Nat) (hs:List Nat) (J:zE):Prop where
 wide:∀i,(J.ja.g i xb.zero).I.r<=V
 jf:∀p,p<hs.j->(J.jf.g p []).j=hs.g p 0
 m:J.m=hs.j
 five:hs.j<=5
 ji:∀p,p<hs.j->J.ji.g p 0<(p:Int)
 last:J.last<(hs.j:Int)
 flen:J.from.j=5
def UN.same{V:Nat}{J a:zE}(h:UN V hs J)(s:qt J a):UN V hs a:=by
 rw[s];exact⟨h.wide,h.jf,h.m,h.five,h.ji,h.last,h.flen⟩
def Oh{T:zl}{a f v:Nat}(h:yF T a f=Z v):f<T.r/\v<T.r:=by
 unfold yF at h;split at h;rename_i q;simp only at h;split at h;cases h;cases h;exact⟨q.2,η⟩;cases h
def ox{V:Nat}(hs:List (Nat×Nat)):∀(n:Nat) (J:zE) (at' a b m:Nat) (f:zE) (o:Option Nat),(∀i,(J.ja.g i xb.zero).I.r<=V)->J.jg=(m:Int)->m+hs.j*(V-at')+1<9223372036854775808+a->(a=0∨at'<V)->a<=hs.j->gE n J hs at' a b=Z (f,o)->∃e:Nat,f.jg=(e:Int)/\qt J f/\(o=Y->e+a<=m+hs.j*(V-at')+1)/\∀v,o=Z v->at'<=v/\(0<hs.j->v<V)/\e+a<=m+hs.j*(v+1-at')
 |0,_,_,_,_,_,_,_,_,_,_,_,_,h=>by simp[gE] at h
 |n+1,J,at',a,b,m,f,o,s,y,M,c,C,h=>by
  simp only[gE] at h;by_cases j:a<hs.j
  .rw[zb j] at h;unfold qe at h;by_cases g:vY J (hs.g b (0,0))=true
   .rw[zb g] at h;have E:m+1<9223372036854775808:=by
     rcases c with rfl|c
     .omega
     .have:hs.j*1<=hs.j*(V-at'):=nC _ η;omega
    have l:IntKind.i64.wrap (J.jg+1)=((m+1:Nat):Int):=by rw[y,IntKind.wrap_i64];omega
    rw[l] at h;cases w:yF (J.ja.g (hs.g b (0,0)).1 xb.zero).I ((J.ja.g (hs.g b (0,0)).1 xb.zero).B.g (hs.g b (0,0)).2 0) at' with
    |none=>
     rw[w] at h;simp only[zt,ye] at h;obtain⟨rfl,rfl⟩:=h;refine⟨m+1,rfl,rfl,λ_=>?_,λv q=>by cases q⟩;rcases c with rfl|c
     .omega
     .have:hs.j*1<=hs.j*(V-at'):=nC _ η;omega
    |some v=>
     rw[w] at h;simp only at h;obtain⟨I,D⟩:=Oh w;have G:=s (hs.g b (0,0)).1;have r:at'<V:=η;have A:v<V:=η;by_cases d:v>at'
     .rw[zb d,zb d] at h;have H:hs.j*(V-at')=hs.j*(V-v)+hs.j*(v-at'):=by rw[←Nat.mul_add];congr 1;omega
      have L:hs.j*1<=hs.j*(v-at'):=nC _ η;obtain⟨e,z,k,p,x⟩:=ox hs n {J with jg:=((m+1:Nat):Int)} v (0+1) _ (m+1) f o (λi=>s i) rfl η (ze A) η h;refine⟨e,z,?_,λq=>?_,λu q=>?_⟩
      .unfold qt at k ⊢;rw[k]
      .have:=p q;omega
      .obtain⟨B,t,F⟩:=x u q;refine⟨η,t,?_⟩;have K:hs.j*(u+1-at')=hs.j*(u+1-v)+hs.j*(v-at'):=by rw[←Nat.mul_add];congr 1;omega
       omega
     .rw[za d,za d] at h;obtain⟨e,z,k,p,x⟩:=ox hs n {J with jg:=((m+1:Nat):Int)} at' (a+1) _ (m+1) f o (λi=>s i) rfl η (ze r) η h;refine⟨e,z,?_,λq=>?_,λu q=>?_⟩
      .unfold qt at k ⊢;rw[k]
      .have:=p q;omega
      .obtain⟨B,t,F⟩:=x u q;exact⟨B,t,η⟩
   .rw[za g] at h;simp only[zt,ye] at h;obtain⟨rfl,rfl⟩:=h;refine⟨m,y,rfl,λ_=>?_,λv q=>by cases q⟩;rcases c with rfl|c
    .omega
    .have:hs.j*1<=hs.j*(V-at'):=nC _ η;omega
  .rw[za j] at h;simp only[zt,ye] at h;obtain⟨rfl,rfl⟩:=h;refine⟨m,y,rfl,(λq=>by cases q),λv q=>?_⟩;cases q;refine⟨zg _,λq=>?_,?_⟩
   .rcases c with rfl|c
    .omega
    .exact c
   .have:at'+1-at'=1:=η;rw[this];omega
def IE{V:Nat}{J:zE}(h:UN V hs J){n d f m:Nat}(k:d<hs.j)(e:J.jg=(m:Int))(t:m+hs.g d 0*(V-f)+1<9223372036854775808){c:zE}{o:Option Nat}(b:l6 n J d f=Z (c,o)):∃a:Nat,c.jg=(a:Int)/\qt J c/\(o=Y->a<=m+hs.g d 0*(V-f)+1)/\∀v,o=Z v->f<=v/\v<V/\a<=m+hs.g d 0*(v+1-f):=by
 unfold l6 at b;split at b;simp only[zt,ye] at b;obtain⟨rfl,rfl⟩:=b;exact⟨m,e,rfl,λ_=>η,λv q=>by cases q⟩;rename_i p;rw[←h.jf d k] at t ⊢;obtain⟨a,r,i,j,g⟩:=ox _ n J f 0 0 m c o h.wide e η (zh rfl) (zs _) b;refine⟨a,r,i,λq=>by have:=j q;omega,λv q=>?_⟩;obtain⟨l,s,u⟩:=g v q;exact⟨l,s η,η⟩
def Gx(v:Nat):∀(hs:List (Nat×Nat)) (J:zE),∃a,hs.H (vw v) J={J with ja:=a}/\∀i,(a.g i xb.zero).I=(J.ja.g i xb.zero).I
 |[],J=>⟨J.ja,rfl,λ_=>rfl⟩
 |h::r,J=>by
  obtain⟨g,b,e⟩:∃a,vw v J h={J with ja:=a}/\∀i,(a.g i xb.zero).I=(J.ja.g i xb.zero).I:=by
   unfold vw;split
   .exact⟨J.ja,rfl,λ_=>rfl⟩
   .refine⟨_,rfl,λi=>?_⟩;rw[nS];split
    .rename_i q;rw[q.1]
    .rfl
  obtain⟨d,f,c⟩:=Gx v r (vw v J h);refine⟨d,?_,λi=>?_⟩
  .rw[uG,f,b]
  .rw[c,b];exact e i
def UN.G{V:Nat}{J:zE}(h:UN V hs J){d v:Nat}(f:d<hs.j):UN V hs (uE J d v)/\(uE J d v).jg=J.jg/\(uE J d v).from=(J.from.set d (v+1)).set (d+1) 0:=by
 have j:=h.five;have a:=h.flen;have b:(if d+1<5 then(J.from.set d (v+1)).set (d+1) 0 else J.from.set d (v+1))=(J.from.set d (v+1)).set (d+1) 0:=by
  split;rfl;exact(List.set_eq_of_length_le υ).z
 unfold uE;rw[za η,b];obtain⟨g,c,e⟩:=Gx v (J.jf.g d []) {J with P:=J.P.set d v,«from»:=(J.from.set d (v+1)).set (d+1) 0};rw[c];exact⟨⟨λi=>by rw[e];exact h.wide i,h.jf,h.m,h.five,h.ji,h.last,by simp[a]⟩,rfl,rfl⟩
def oY{V:Nat}{hs:Φ}{B:Nat}(s:B<9223372036854775808):∀(n:Nat) (J:zE) (d:Int) (m:Nat) (b:zE) (o:Bool),UN V hs J->J.jg=(m:Int)->d<=hs.j->m+U3 V hs J.from d<=B->jE n J d=Z (b,o)->UN V hs b/\∃j:Nat,b.jg=(j:Int)/\j<=B/\(o=true->j+U3 V hs b.from hs.j<=B)
 |0,_,_,_,_,_,_,_,_,_,h=>by simp[jE] at h
 |n+1,J,d,m,b,o,c,z,Q,r,h=>by
  simp only[jE] at h;have R:=c.five;have M:=c.m;by_cases w:0<=d/\d<(J.m:Int)/\d<5
  .rw[zb w] at h;obtain⟨k,rfl⟩:∃k:Nat,d=(k:Int):=⟨d.D,η⟩;have g:k<hs.j:=η;have f:k<J.from.j:=by rw[c.flen];omega
   simp only[Int.toNat_natCast] at h;have p:U3 V hs J.from (k:Int)=Ut V hs J.from k:=by unfold U3;rw[za η,Int.toNat_natCast]
   rw[p] at r;obtain⟨W,C⟩:=G8 V k hs J.from g f;cases l:l6 n J k (J.from.g k 0) with
   |none=>rw[l] at h;simp at h
   |some x=>
    obtain⟨i,H⟩:=x;rw[l] at h;obtain⟨u,A,y,N,L⟩:=IE c g z η l;have a:=c.same y;have e:i.from=J.from:=by rw[y]
    cases H with
    |none=>
     simp only at h;have t:=a.ji k g;have:=N rfl;refine oY s n i _ u b o a A η ?_ h;rw[e];unfold U3;split
     .omega
     .have:=C (i.ji.g k 0).D η;omega
    |some v=>
     simp only at h;obtain⟨D,K,T⟩:=L v rfl;obtain⟨G,F,I⟩:=a.G (v:=v) g;have E:=DU V K k hs J.from g f D;have P:=o6 V hs ((J.from.set k (v+1)).set (k+1) 0) (Nat.le_add_right k 1);refine oY s n (uE i k v) _ u b o G (by rw[F,A]) (by split<;>omega) ?_ h;rw[I,e];split
     .unfold U3;rw[za η,Int.toNat_natCast];omega
     .unfold U3;rw[za η,show((k:Int)+1).D=k+1 from by omega];omega
  .rw[za w] at h;simp only[zt,ye] at h;obtain⟨rfl,rfl⟩:=h;refine⟨c,m,z,η,λq=>?_⟩;have S:d≥(J.m:Int):=by simpa using q
   rw[show d=(hs.j:Int) from by omega] at r;exact r
end
section
variable {R R':zv}{mr:Nat}
def KU{V:Nat}{hs:Φ}{B:Nat}(g:B<9223372036854775808){n:Nat}{J b:zE}{m:Nat}{o:Bool}(k:UN V hs J)(i:J.jg=(m:Int))(j:J.ql<=hs.j)(s:m+U3 V hs J.from J.ql<=B)(h:lf n J=Z (b,o)):UN V hs b/\b.ql<=hs.j/\∃d:Nat,b.jg=(d:Int)/\d+U3 V hs b.from b.ql<=B:=by
 unfold lf at h;rcases e:jE n J J.ql with _|x;rw[e] at h;simp at h;obtain⟨c,f⟩:=x;rw[e] at h;simp only[zt,ye] at h;obtain⟨rfl,rfl⟩:=h;obtain⟨a,d,l,r,p⟩:=oY g n J J.ql m c f k i j s e;refine⟨⟨a.wide,a.jf,a.m,a.five,a.ji,a.last,a.flen⟩,?_,d,l,?_⟩;have:=a.last;show(if f=true then c.last else -1)<=_;split<;>omega
 show d+U3 V hs c.from (if f=true then c.last else -1)<=B;split;rename_i q;have:=p q;have:=Pn V hs c.from (Int.le_of_lt a.last);omega;simp only[U3];rw[zb η];exact r
def Uy(R R':zv)(c:Nat):Prop:=R'.Q=R.Q/\∀k:Nat,R.jg=(k:Int)->k+c<9223372036854775808->∃a:Nat,R'.jg=(a:Int)/\a<=k+c
def Uy.A{R a b:zv}{c d:Nat}(h:Uy R a c)(g:Uy a b d):Uy R b (c+d):=
 ⟨g.1.A h.1,λk j m=>by
  obtain⟨i,f,o⟩:=h.2 k j η;obtain⟨l,e,n⟩:=g.2 i f η;exact⟨l,e,η⟩⟩
def Uy.y{c d:Nat}(h:Uy R R' c)(f:c<=d):Uy R R' d:=
 ⟨h.1,λk e g=>by
  obtain⟨b,a,i⟩:=h.2 k e η;exact⟨b,a,η⟩⟩
def Uy.refl(R:zv):Uy R R 0:=⟨rfl,λk a _=>⟨k,a,η⟩⟩
def GB{p:Nat}{x:zk}{ok:Bool}(h:jV mr R p x=Z (R',ok)):Uy R R' 0:=by
 have:R'.jg=R.jg/\R'.Q=R.Q:=by
  unfold jV at h;split at h;split at h;cases h;exact⟨rfl,rfl⟩;cases h;exact⟨rfl,rfl⟩;cases h
 exact⟨this.2,λk a _=>⟨k,by rw[this.1,a],η⟩⟩
def Id{V:Nat}{hs:Φ}{B:Nat}(d:B<9223372036854775808){mr p:Nat}:∀(n:Nat) (R:zv) (J:zE) (m:Nat) (R':zv),UN V hs J->J.jg=(m:Int)->J.ql<=hs.j->m+U3 V hs J.from J.ql<=B->vX mr p n R J=Z (R',true)->Uy R R' B
 |0,_,_,_,_,_,_,_,_,h=>by simp[vX] at h
 |n+1,R,J,m,R',l,g,j,u,h=>by
  simp only[vX] at h;cases b:lf n J with
  |none=>rw[b] at h;simp at h
  |some x=>
   obtain⟨a,o⟩:=x;rw[b] at h;obtain⟨q,t,e,f,s⟩:=KU d l g j u b;cases o with
   |false=>
    simp only[zt,ye,and_true] at h;subst h;refine⟨rfl,λk r v=>⟨k+e,?_,η⟩⟩;show IntKind.i64.wrap (R.jg+a.jg)=_;rw[r,f,IntKind.wrap_i64];omega
   |true=>
    simp only at h;cases c:jV mr R p (zH a.g a.P) with
    |none=>rw[c] at h;simp at h
    |some y=>
     obtain⟨i,ok⟩:=y;rw[c] at h;cases ok with
     |false=>simp at h
     |true=>
      have:=(GB c).A (Id d n i a e R' q f t s h);exact this.y η
def TZ(r:zu):List Nat:=(List.range r.m).w λp=>(xy r p).j
def CN{V:Nat}{r:zu}(m:r.m<=5){b Ns:List zl}(j:∀T∈b,T.r<=V){p n:Nat}(g:Ui V (TZ r)<9223372036854775808)(h:vX mr p n R (xK r b Ns)=Z (R',true)):Uy R R' (Ui V (TZ r)):=by
 obtain⟨c,k,l⟩:=o5 r b Ns;have e:c=-1∨c=0:=by rw[l];split<;>(try split)<;>simp
 rw[k] at h;have a:(TZ r).j=r.m:=by simp[TZ]
 refine Id (V:=V) (hs:=TZ r) g n R _ 0 R' ⟨λi=>?_,λq f=>?_,a.z,η,λq f=>?_,?_,rfl⟩ rfl ?_ ?_ h;show((b.w λT=>(⟨T,[0,0,0]⟩:xb)).g i xb.zero).I.r<=V;by_cases d:i<b.j;rw[Tl _ (by simpa using d),ub];exact j _ (zq d);rw[kL,gL (by simpa using d)];exact zs _;show(((List.range 5).w (xy r)).g q []).j=_;rw[a] at f;rw[Tl _ υ,Tl _ η];simp[TZ];show((List.range 5).w λp=>xM r (p:Nat)).g q 0<_;rw[a] at f;rw[Tl _ υ];simp only[ub,fR];exact(tU r η).1;show xM r r.m<_;rw[a];exact(tU r η).1;show c<=_;omega;show 0+U3 V (TZ r) [0,0,0,0,0] c<=_;rcases e with rfl|rfl;simp[U3];have:=DV V (TZ r) [0,0,0,0,0];simpa [U3] using this
def qX(V:Nat)(r:zu):Nat:=r.qc.j*Ui V (TZ r)
structure Vo (r:zu):Prop where
 five:r.m<=5
 none:r.qc=[]->r.m=0
structure Vk (V:Nat) (W:yd):Prop where
 p:Vo W.p
 len:W.F.j=W.p.qc.j
 wide:∀v∈W.F,v.before.r<=V/\v.qw.r<=V/\v.all.r<=V
def AI{V a g mr:Nat}{W:yd}(b:Vk V W)(c:Ui V (TZ W.p)<9223372036854775808):∀(n i:Nat) (R R':zv),jR a g mr W n i R=Z (R',true)->Uy R R' (n*Ui V (TZ W.p))
 |0,i,R,R',h=>by
  simp only[jR,zt,ye,and_true] at h;subst h;exact(Uy.refl R).y η
 |n+1,i,R,R',h=>by
  have e:(n+1)*Ui V (TZ W.p)=Ui V (TZ W.p)+n*Ui V (TZ W.p):=by rw[lG,Nat.one_mul];omega
  rw[e];simp only[jR] at h;split at h
  .cases d:vX mr W.p.g.o a R (xK W.p (T5 W.F i) (j0 g R W.p)) with
   |none=>rw[d] at h;simp at h
   |some x=>
    obtain⟨l,ok⟩:=x;rw[d] at h;cases ok with
    |false=>simp at h
    |true=>
     refine(CN b.p.five (λT f=>?_) c d).A (AI b c n (i+1) l R' h);unfold T5 at f;obtain⟨⟨v,j⟩,m,rfl⟩:=zF.1 f;obtain⟨o,p,k⟩:=b.wide v (List.fst_mem_of_mem_zipIdx m);simp only;split
     .exact o
     .split
      .exact p
      .exact k
  .exact(AI b c n (i+1) R R' h).y η
def LY{V c g:Nat}{W:yd}(b:Vk V W)(j:qX V W.p<9223372036854775808){first:Bool}(h:gh c g mr first R W=Z (R',true)):Uy R R' (qX V W.p):=by
 have i:Ui V (TZ W.p)<=qX V W.p:=by
  unfold qX;rcases f:W.p.qc with _|⟨a,l⟩;simp[TZ,b.p.none f,Ui];have:1*Ui V (TZ W.p)<=(a::l).j*Ui V (TZ W.p):=fB _ ζ;omega
 unfold gh at h;split at h;refine(CN b.p.five (λT d=>?_) η h).y i;obtain⟨v,e,rfl⟩:=zF.1 d;exact(b.wide v e).2.2;rw[b.len] at h;exact AI b η _ 0 R R' h
def G2{V a e mr:Nat}{first:Bool}:∀(b:List yd) (R R':zv),(∀W∈b,Vk V W)->(b.w λW=>qX V W.p).sum<9223372036854775808->gq a e mr first b R=Z (R',true)->Uy R R' (b.w λW=>qX V W.p).sum
 |[],R,R',_,_,h=>by
  simp only[gq,zt,ye,and_true] at h;subst h;exact Uy.refl R
 |W::b,R,R',d,f,h=>by
  simp only[un,qD] at f ⊢;simp only[gq] at h;cases c:gh a e mr first R W with
  |none=>rw[c] at h;simp at h
  |some x=>
   obtain⟨g,ok⟩:=x;rw[c] at h;cases ok with
   |false=>simp at h
   |true=>exact(LY (d W ζ) η c).A (G2 b g R' (λi j=>d i (by simp[j])) η h)
end
def St(T:zl)(a v m:Nat):(dY T a v m).1.r=T.r:=by
 unfold dY;split;rfl;exact pY _ _ _ _
def Gm(m:Nat):∀(r:zk) (T:zl) (a l:Nat),(vB m T a l r).1.r=T.r
 |[],_,_,_=>rfl
 |v::r,T,a,l=>by
  simp only[vB];split
  .exact St _ _ _ _
  .rw[Gm m r];unfold qA;split
   .rfl
   .exact pY _ _ _ _
def iC:∀(rs:List zk) (T a:zl),xY rs T=Z a->a.r=T.r
 |[],T,a,h=>by simp[xY] at h;rw[h]
 |r::rs,T,a,h=>by
  simp only[xY] at h;split at h
  .rw[iC rs _ a h];unfold yC;split
   .exact Gm 0 r T 0 0
   .rfl
  .cases h
def Vx(V:Nat)(v:yH):Prop:=v.before.r<=V/\v.qw.r<=V/\v.all.r<=V
def Ga{d e:Nat}{v v':yH}{c:List zk}(g:Vx (zM e) v)(h:fz d e v c=Z v'):Vx (zM e) v':=by
 unfold fz at h;split at h;cases h;split at h;rename_i b f a k j i;cases h;refine⟨?_,?_,?_⟩;show b.r<=_;rw[iC _ _ _ k];exact g.1;show f.r<=_;rw[iC _ _ _ j];exact zg _;show a.r<=_;rw[iC _ _ _ i];exact g.2.2;cases h
def EC{a f:Nat}{R:zv}:∀(b:List zw) (vs:List yH),fA a f R b=Z vs->vs.j=b.j/\∀v∈vs,Vx (zM f) v
 |[],vs,h=>by simp[fA] at h;subst h;simp
 |l::b,vs,h=>by
  simp only[fA] at h;split at h
  .cases h
  .split at h
   .rename_i v c g e;cases h;obtain⟨j,i⟩:=EC b c e;refine⟨by simp[j],λu d=>?_⟩;rcases zG.1 d with rfl|d
    .exact Ga ⟨zg _,zg _,zg _⟩ g
    .exact i u d
   .cases h
def AA{b c:Nat}{R:zv}{s:Nat}:∀(rs:List zu) (a:List yd),(∀r∈rs,Vo r)->TE b c R s rs=Z a->(∀W∈a,Vk (zM c) W)/\(a.w λW=>qX (zM c) W.p).sum<=(rs.w (qX (zM c))).sum
 |[],a,_,h=>by simp[TE] at h;subst h;simp
 |r::rs,a,i,h=>by
  simp only[TE] at h;simp only[un,qD];split at h
  .split at h
   .rename_i vs g l k;cases h;obtain⟨e,n⟩:=AA rs g (λx f=>i x (by simp[f])) k;obtain⟨j,m⟩:=EC r.qc vs l;refine⟨λW d=>?_,?_⟩
    .rcases zG.1 d with rfl|d
     .exact⟨i r ζ,j,m⟩
     .exact e W d
    .simp only[un,qD];omega
   .cases h
  .obtain⟨e,n⟩:=AA rs a (λx f=>i x (by simp[f])) h;exact⟨e,η⟩
def DS{b e:Nat}{i:List (List zk)}:∀(vs a:List yH),(∀v∈vs,Vx (zM e) v)->f6 b e i vs=Z a->a.j=vs.j/\∀v∈a,Vx (zM e) v
 |[],a,_,h=>by simp[f6] at h;subst h;simp
 |v::vs,a,d,h=>by
  simp only[f6] at h;split at h
  .rename_i m g f j;cases h;obtain⟨k,l⟩:=DS vs g (λu c=>d u (by simp[c])) j;refine⟨by simp[k],λu c=>?_⟩;rcases zG.1 c with rfl|c
   .split at f
    .exact Ga (d v ζ) f
    .cases f;exact d _ ζ
   .exact l u c
  .cases h
def Es{d c:Nat}{m:List (List zk)}:∀(b a:List yd),(∀W∈b,Vk (zM c) W)->fe d c m b=Z a->(∀W∈a,Vk (zM c) W)/\(a.w λW=>qX (zM c) W.p).sum=(b.w λW=>qX (zM c) W.p).sum
 |[],a,_,h=>by simp[fe] at h;subst h;simp
 |W::b,a,i,h=>by
  simp only[fe] at h;split at h
  .rename_i k e p n;cases h;obtain⟨q,s⟩:=Es b e (λu o=>i u (by simp[o])) n;have f:=i W ζ;obtain⟨l,j⟩:=DS _ _ f.wide p;refine⟨λr g=>?_,by simp[s]⟩;rcases zG.1 g with rfl|g
   .exact⟨f.p,l.A f.len,j⟩
   .exact q r g
  .cases h
def Vv(C:Nat)(R:zv):Prop:=∃k:Nat,R.jg=(k:Int)/\k<=R.Q*C
def FB{d mr mx C:Nat}(u:mx<=1048576)(q:1048576*C<9223372036854775808):∀(n:Nat) (first:Bool) (a:List yd) (R R':zv),(∀W∈a,Vk (zM d) W)->(a.w λW=>qX (zM d) W.p).sum<=C->Vv C R->kY d mr mx n first a R=Z (R',true)->Vv C R'/\R'.Q<=mx
 |0,_,_,_,_,_,_,_,h=>by simp[kY] at h
 |n+1,first,a,R,R',i,r,⟨k,s,y⟩,h=>by
  simp only[kY] at h;split at h
  .cases h
  .rename_i v;unfold pT at h;cases f:gq n d mr first a (qS {R with Q:=R.Q+1}) with
   |none=>rw[f] at h;simp at h
   |some x=>
    obtain⟨c,ok⟩:=x;rw[f] at h;cases ok with
    |false=>simp at h
    |true=>
     have o:(R.Q+1)*C<=1048576*C:=fB _ η;have w:(R.Q+1)*C=R.Q*C+C:=by rw[lG,Nat.one_mul]
     obtain⟨e,l⟩:=(G2 a _ c i η f).y r;have e:c.Q=R.Q+1:=e;obtain⟨t,m,z⟩:=l k s η;have j:Vv C c:=⟨t,m,by rw[e];omega⟩;simp only at h;cases g:fe n d c.qw a with
     |none=>rw[g] at h;simp at h
     |some b=>
      rw[g] at h;simp only[jZ] at h;obtain⟨p,A⟩:=Es a b i g;split at h
      .exact FB u q n false b c R' p η j h
      .cases h;exact⟨j,η⟩
def CC{a f mr mx C:Nat}(k:mx<=1048576)(l:1048576*C<9223372036854775808){rs:List zu}(i:∀r∈rs,Vo r)(o:(rs.w (qX (zM f))).sum<=C):∀(n s:Nat) (R R':zv),Vv C R->R.Q<=mx->kP a f mr mx rs n s R=Z (R',true)->Vv C R'/\R'.Q<=mx
 |0,s,R,R',c,e,h=>by simp only[kP,zt,ye,and_true] at h;subst h;exact⟨c,e⟩
 |n+1,s,R,R',c,e,h=>by
  simp only[kP] at h;cases b:pO a f mr mx rs R s with
  |none=>rw[b] at h;simp at h
  |some x=>
   obtain⟨d,ok⟩:=x;rw[b] at h;cases ok with
   |false=>simp at h
   |true=>
    have j:Vv C d/\d.Q<=mx:=by
     unfold pO at b;split at b
     .cases b
     .rename_i g m;obtain⟨p,q⟩:=AA rs g i m;split at b
      .exact FB k l a true g R d p η c b
      .cases b;exact⟨c,e⟩
    exact CC k l i o n (s+1) d R' j.1 j.2 h
def Ce{mr:Nat}:∀(fs:List jI) (R R':zv),gJ mr fs R=Z (R',true)->Uy R R' 0
 |[],R,R',h=>by simp only[gJ,zt,ye,and_true] at h;subst h;exact Uy.refl R
 |f::fs,R,R',h=>by
  simp only[gJ] at h;cases a:jV mr R f.o f.row with
  |none=>rw[a] at h;simp at h
  |some x=>
   obtain⟨b,ok⟩:=x;rw[a] at h;cases ok with
   |false=>simp at h
   |true=>exact(GB a).A (Ce fs b R' h)
def Oc{a mr mx:Nat}{S:js}{R:zv}(l:mx<=1048576)(n:∀r∈S.H,Vo r)(m:1048576*(S.H.w (qX (zM S.r))).sum<9223372036854775808)(h:pk a S mr mx=Z (Z R)):0<=R.jg:=by
 unfold pk at h;rcases d:gJ mr S.facts (l7 S) with _|x;rw[d] at h;simp at h;obtain⟨c,ok⟩:=x;rw[d] at h;cases ok;simp at h;obtain⟨f,i⟩:=Ce _ _ _ d;obtain⟨k,j,p⟩:=i 0 rfl η;have f:c.Q=0:=f;simp only at h;rcases b:kP a S.r mr mx S.H S.M.j 0 c with _|y;rw[b] at h;simp at h;obtain⟨g,ok⟩:=y;rw[b] at h;cases ok;simp at h;simp only[jZ,if_true,zt] at h;subst h;obtain⟨⟨o,e,_⟩,_⟩:=CC l m n (zg _) _ 0 c g ⟨k,j,η⟩ η b;omega
end Go.Proofs.YteampbddflhngaaGreat
