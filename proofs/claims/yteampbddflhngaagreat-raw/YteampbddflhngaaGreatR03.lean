import Derived.ProofKit
import Derived.ChangeSlices
import Derived.Deep.Slices
import Derived.Deep.Strs
import Derived.SizedLaws
import Derived.Test.YteampbddflhngaaGreatR01
namespace Go.Proofs.YteampbddflhngaaGreat
open List renaming length→List.j,getD→List.g,take→List.G,map→List.w,toArray→List.F,foldl→List.H
open _root_.Array renaming size→Array.q,getD→Array.g,toList→Array.v,map→Array.w,foldl→Array.H
open _root_.ByteArray renaming size→ByteArray.q,toList→ByteArray.v
open Go.RowKit.Below renaming size→Go.RowKit.Below.q,setCell→Go.RowKit.Below.x,mono→Go.RowKit.Below.y,trans→Go.RowKit.Below.A
open Go.TypeInfo renaming size→Go.TypeInfo.q
open Go.RowKit.Hid renaming out→Go.RowKit.Hid.l
open Go.World renaming heap→Go.World.o,setCell→Go.World.x,ownsRow→Go.World.r
open Go.Value renaming string→Go.Value.d,bool→Go.Value.i,cells→Go.Value.E
open Go.TypeDesc renaming string→Go.TypeDesc.d,bool→Go.TypeDesc.i
open Option renaming getD→Option.g,toList→Option.v,map→Option.w,isSome→Option.I,some→Z,none→Y
open Go.Calls renaming mono→Go.Calls.y
open Eq renaming trans→Eq.A,symm→Eq.z
open Iff renaming trans→Iff.A,symm→Iff.z
open List.IsPrefix renaming trans→List.IsPrefix.A
open Go.Obj renaming cells→Go.Obj.E
open Int renaming toNat→Int.D
open UInt8 renaming toNat→UInt8.D
open Ne renaming symm→Ne.z
open Go.RowKit renaming Hid→X
open Go renaming World→U,Value→O
set_option linter.all false
set_option maxRecDepth 100000
set_option maxHeartbeats 2000000
section
open Go.Proofs.Tryz Go.ChangeShapes Go.WideShapes Go.ChangeAt Go.RowKit Go.Deep
def SN:ownKnob prog.godebug=none:=χ
def S5:laidOutB prog=true:=χ
def SZ:prog.cellsOf 3=1:=χ
def Ve{w:U}{b o:Nat}{u:O}(h:w.cell? (ω b o)=Z u):b<w.o.q:=by
 unfold U.cell? at h;false_or_by_contra
 rename_i a;rw[Array.getElem?_eq_none (by simpa using a)] at h;simp at h
end
section
open Go.Proofs.Tryz Go.RowKit
variable {lo:Nat}
def Gd(w:U)(n vb:O)(l:κ)(o:To lo w n l){f:Nat}(p:To f w vb l)(D:l.j<=281474976710656):
  Calls prog 44 #[n,vb] w λe A=>e=ε (.i true)/\μ w A:=by
 obtain⟨C,v,rfl⟩:=o.qy;obtain⟨s,j,rfl⟩:=p.qy;go_enter func44,ntmps44;go_wp2;go_loopw [5] (λi wr=>∃k:Nat,k<=l.j/\i=ι k/\μ w wr) (λi _=>l.j-(intOf i).D);exact⟨0,zs _,rfl,zn _ _⟩;obtain⟨k,B,rfl,a⟩:=hrel;have q:=a.q;by_cases d:k<l.j
 .obtain⟨g,rfl,z,c⟩:=o.cell k d;obtain⟨u,rfl,h,b⟩:=p.cell k d;have t:=zi a z c;have m:=zi a h b;have y:g<wr.o.q:=η;have r:u<wr.o.q:=η;have E:=jq (rfl:l[k]=l[k]);clear c b;generalize l[k]=x at *;go_wp2;go_quiet (fail)
  go_wp2;go_roundw;exact⟨k+1,η,ξ,zI a _⟩;simp[intOf];omega
 go_wp2;go_ret;exact⟨rfl,a⟩
def sB:∀{l:κ},(∀t∈l,0<t.q)->l≠[]->0<(yB l).q
 |[],_,h=>zC rfl h
 |[t],h,_=>h t ζ
 |t::u::r,h,_=>by
  have:=h t ζ;show 0<(t++ug++yB (u::r)).q;rw[ByteArray.size_append,ByteArray.size_append];omega
def sA{s:ByteArray}(h:0<s.q):(s.v == [])=false:=by
 rw[jS,beq_eq_false_iff_ne];intro a;have:s.data.v.j=s.q:=nZ;rw[a] at this;simp at this;omega
def Hb(w:U)(l:zj)(V:O)(hs:To lo w V l.k)(hf:rE l):
  Calls prog 46 #[.agg #[.i l.i,.d l.o,V]] w λe w'=>e=ε (.d (xg l))/\μ w w':=by
 obtain⟨W,A,rfl⟩:=hs.qy;obtain⟨h1,h2,h3,h4⟩:=hf;have z:=Th h4;have aa:jP.q=1:=rfl;clear h4;cases C:l.i
 .have j:gL l=l.o:=by unfold gL;rw[C];rfl
  have K:(l.o).q<=7:=by rw[←j];exact B0 h1
  have d:X (xg l=if l.k.j=0 then l.o else l.o++ju++yB l.k++fZ):=by rw[X,←j];rfl
  clear j C;go_enter func46,ntmps46;go_wp2;go_loopw [4,5] (λQ R wr=>∃(k:Nat) (s:ByteArray),k<=l.k.j/\R=ι k/\Q=.d s/\s.q<=8*k/\X (s=yB (l.k.G k))/\μ w wr/\Ti wr w.o.q #[.i false,.d l.o,.slice W l.k.j A] 90) (λ_ i _=>l.k.j-(intOf i).D);exact⟨0,_,zs _,rfl,rfl,zf _,rfl,γ,Ti.new _ _ _⟩;obtain⟨k,s,hk,rfl,rfl,S,H,b,f⟩:=hrel;have B:=b.q;obtain⟨hc,D,P⟩:=f.e;by_cases o:k<l.k.j
  .obtain⟨g,rfl,M,p⟩:=hs.cell k o;have I:=zi b M p;have L:g<wr.o.q:=η;have q:=tO o;have J:=(z.l _ (zq o)).2;clear p;generalize l.k[k]=x at *;by_cases c:k=0
   .have a:s=ByteArray.empty:=by rw[H.l,c];rfl
    have y:X (s++x=yB (l.k.G (k+1))):=by rw[X,q,zb c,a];simp
    have n:(s.v == [])=true:=by rw[a,jS];rfl
    subst c;clear q H a;go_wp2;go_roundw;exact⟨1,s++x,η,ξ,rfl,(by rw[ByteArray.size_append];omega),y,γ,f⟩;simp[intOf];omega
   have y:X (s++ug++x=yB (l.k.G (k+1))):=by rw[X,q,za c,H.l]
   have m:0<s.q:=by
    rw[H.l];refine sB (λt r=>(z.l t (gh r)).1) ?_;intro h;have:=congrArg List.length h;rw[vd,jr] at this;omega
   have n:=sA m;have u:ug.q=2:=rfl;have F:(s++ug).q=s.q+2:=by rw[ByteArray.size_append,u]
   clear q H;go_wp2;go_roundw;exact⟨k+1,s++ug++x,η,ξ,rfl,(by rw[ByteArray.size_append];omega),y,γ,f⟩;simp[intOf];omega
  have a:s=yB l.k:=by rw[H.l,yV η]
  by_cases c:l.k.j=0
  .have n:(s.v == [])=true:=by
    have e:=lI c;rw[a,e,yB,jS];rfl
   have v:X (xg l=l.o):=by rw[X,d.l,zb c]
   clear d H a;go_wp2;go_ret;exact⟨by rw[v.l];rfl,b⟩
  have m:0<s.q:=by
   rw[a];exact sB (λt r=>(z.l t r).1) (λe=>c (by rw[e];rfl))
  have n:=sA m;have v:X (xg l=l.o++ju++s++fZ):=by rw[X,d.l,za c,a]
  have T:ju.q=1:=rfl;have N:fZ.q=1:=rfl;have G:(l.o++ju).q<=8:=by rw[ByteArray.size_append];omega
  have E:(l.o++ju++s).q<=8+8*k:=by rw[ByteArray.size_append];omega
  clear d H a;go_wp2;go_ret;exact⟨by rw[v.l];rfl,b⟩
 have j:gL l=jP++l.o:=by unfold gL;rw[C];rfl
 have K:(jP++l.o).q<=7:=by rw[←j];exact B0 h1
 have d:X (xg l=if l.k.j=0 then jP++l.o else jP++l.o++ju++yB l.k++fZ):=by rw[X,←j];rfl
 clear j C;go_enter func46,ntmps46;go_wp2;go_loopw [4,5] (λQ R wr=>∃(k:Nat) (s:ByteArray),k<=l.k.j/\R=ι k/\Q=.d s/\s.q<=8*k/\X (s=yB (l.k.G k))/\μ w wr/\Ti wr w.o.q #[.i true,.d l.o,.slice W l.k.j A] 90) (λ_ i _=>l.k.j-(intOf i).D);exact⟨0,_,zs _,rfl,rfl,zf _,rfl,γ,Ti.new _ _ _⟩;obtain⟨k,s,hk,rfl,rfl,S,H,b,f⟩:=hrel;have B:=b.q;obtain⟨hc,D,P⟩:=f.e;by_cases o:k<l.k.j
 .obtain⟨g,rfl,M,p⟩:=hs.cell k o;have I:=zi b M p;have L:g<wr.o.q:=η;have q:=tO o;have J:=(z.l _ (zq o)).2;clear p;generalize l.k[k]=x at *;by_cases c:k=0
  .have a:s=ByteArray.empty:=by rw[H.l,c];rfl
   have y:X (s++x=yB (l.k.G (k+1))):=by rw[X,q,zb c,a];simp
   have n:(s.v == [])=true:=by rw[a,jS];rfl
   subst c;clear q H a;go_wp2;go_roundw;exact⟨1,s++x,η,ξ,rfl,(by rw[ByteArray.size_append];omega),y,γ,f⟩;simp[intOf];omega
  have y:X (s++ug++x=yB (l.k.G (k+1))):=by rw[X,q,za c,H.l]
  have m:0<s.q:=by
   rw[H.l];refine sB (λt r=>(z.l t (gh r)).1) ?_;intro h;have:=congrArg List.length h;rw[vd,jr] at this;omega
  have n:=sA m;have u:ug.q=2:=rfl;have F:(s++ug).q=s.q+2:=by rw[ByteArray.size_append,u]
  clear q H;go_wp2;go_roundw;exact⟨k+1,s++ug++x,η,ξ,rfl,(by rw[ByteArray.size_append];omega),y,γ,f⟩;simp[intOf];omega
 have a:s=yB l.k:=by rw[H.l,yV η]
 by_cases c:l.k.j=0
 .have n:(s.v == [])=true:=by
   have e:=lI c;rw[a,e,yB,jS];rfl
  have v:X (xg l=jP++l.o):=by rw[X,d.l,zb c]
  clear d H a;go_wp2;go_ret;exact⟨by rw[v.l];rfl,b⟩
 have m:0<s.q:=by
  rw[a];exact sB (λt r=>(z.l t r).1) (λe=>c (by rw[e];rfl))
 have n:=sA m;have v:X (xg l=jP++l.o++ju++s++fZ):=by rw[X,d.l,za c,a]
 have T:ju.q=1:=rfl;have N:fZ.q=1:=rfl;have G:(jP++l.o++ju).q<=8:=by rw[ByteArray.size_append];omega
 have E:(jP++l.o++ju++s).q<=8+8*k:=by rw[ByteArray.size_append];omega
 clear d H a;go_wp2;go_ret;exact⟨by rw[v.l];rfl,b⟩
end
section
open Go.RowKit
def CW(B:Nat)(w:U)(c f d:Nat):Prop:=B<=c/\∃b a e g,Ti w c #[b,ν,ν,ν,ι 0,ι 0,ι 0,ν,.i true,a,ν,ν,ν,ν] 35 ∧
 w.r B 40 2 b f e/\w.r B 9 1 a d g
end
section
open Go.Proofs.Tryz Go.RowKit
def CZ{x:ByteArray}(h:(x.v == [44])=true):TL (Tt x 0)=false:=by
 rw[beq_iff_eq,jS] at h;obtain⟨⟨l⟩⟩:=x;simp at h;subst h;rfl
def QQ(w:U)(v:O)(L:κ)(z:Bool)(T:SV w v L)(Q:∀y∈L,0<y.q)(a0:L.j<=500)(hb:TW L z=false)(aC:¬L.j=0)(hs:xi (Tt (gB L 0) 0)=true)(a2:¬L.j=1)(az:¬L.j<4)(a3:¬L.j%2=1)(D:((gB L 1).v == [40])=true)(E:((gB L (L.j-1)).v == [41])=true):
  Calls prog 152 #[v,.i z] w λe I=>jW (x6 false L) w e I:=by
 obtain⟨i0,hi,R,ag,aj⟩:=info_parts SG;have c:=nO hb;obtain⟨a7,au,rfl⟩:=T.qy;have aa:0<(gB L 0).q:=by rw[←xJ (by omega:0<L.j)];exact Q _ (zq _)
 obtain⟨b,o,rfl,S,f⟩:=T.E η;have P:=f 0 η;have ab:=f 1 η;have ac:=f (L.j-1) η;rw[xJ η] at P ab ac;rw[vu] at P;have al:=Th f;clear f;have ay:((L.j:Int) == 0)=false:=by rw[beq_eq_false_iff_ne];omega
 have a6:((L.j:Int) == 1)=false:=by rw[beq_eq_false_iff_ne];omega
 have a5:((L.j:Int)%2 == 1)=false:=by rw[beq_eq_false_iff_ne];omega
 rcases c with c|⟨_,c⟩|⟨⟨_,c⟩,rfl⟩;omega
 all_goals
  go_enter func152,ntmps152;go_wp2_with (go_at_call 184;refine(gu _ _ aa).y ?_;rintro e I ⟨rfl,rfl⟩)
  go_loopw [9] (λi wr=>∃(k:Nat) (av:O),2<=k/\k<=L.j-1/\i=ι k/\X (qC L k=true)/\μ w wr/\Ti wr w.o.q #[.i false,.d ByteArray.empty,ν] 90/\Ti wr (w.o.q+1) #[.i false,.d (gB L 0),av] 90/\wr.r w.o.q 9 1 av (vj L k).j ((vj L k).w O.string)) (λi _=>L.j-(intOf i).D);exact⟨2,_,zf _,η,rfl,by simp[X,qC],γ,(Ti.new w _ _).u zO,Ti.newAt _ _ _ _ ζ,xo _ _ _ _⟩;obtain⟨k,av,x,hk,rfl,H,q,g,s,a⟩:=hrel;obtain⟨B,m,rfl⟩:=zr a;obtain⟨a4,aB⟩:=s.H;obtain⟨C,a1⟩:=g.H;have ax:=q.q;have aw:=s.lt;have ap:=Bo L k;by_cases a9:k<L.j-1
  .have ad:=(q.cell (p:=(ω b (o+k))) S).A (al.l k η);have aD:b<wr.o.q:=η;have a8:k<L.j:=η;have j:0<L[k].q:=Q _ (zq _);rw[xJ (by omega:k<L.j)] at ad j;have G:vj L (k+1)=vj L k++(if 2<=k/\k%2=0 then [gB L k] else []):=rfl;have t:qC L (k+1)=(qC L k&&(decide (k<2)||UW L k)):=rfl;rw[H.l,decide_eq_false (by omega:¬k<2),nM,p8] at t;have u:X (UW L k=false->qC L (L.j-1)=false):=λh=>Hm (i:=k+1) (by rw[t,h]) _ η;unfold UW at t u;by_cases n:k%2=0
   .rw[zb n] at t u;rw[zb ⟨x,n⟩] at G;have am:((k:Int)%2 == 0)=true:=by rw[beq_iff_eq];omega
    have ah:((k:Int)%2 == 1)=false:=by rw[beq_eq_false_iff_ne];omega
    have K:=Th G;have A:=Th t;clear G t n;cases F:TL (Tt (gB L k) 0)
    .have V:X (x6 false L=Y):=by unfold X x6;rw[za η,hs,za ζ,za η,za (by rw[D,E];simp;omega),u.l F];simp
     clear u K A;generalize gB L k=W at *;go_wp2_with (go_at_call 185;refine(n6 _ _ j).y ?_;rintro e I ⟨rfl,d⟩;obtain rfl:=d.z)
     rw[V.l];exact zP (v:=.tuple #[.agg #[.i false,.d (gB L 0),.slice B (vj L k).j m],.i false]) (by simp[results,results152,go_sem,C];try rfl) rfl ⟨γ,_,_,_,_,_,rfl⟩
    rw[F] at A;clear u;generalize gB L k=W at *;generalize ae:vj L k=ak at *;clear ae;go_wp2_with (go_at_call 185;refine(n6 _ _ j).y ?_;rintro e I ⟨rfl,d⟩;obtain rfl:=d.z)
    go_region_law (first|(refine A7 wr _ [.d W] 9 rfl (.tmp 103) (.tmp 108) 30 rfl w.o.q 9 i0 _ 1 16 underlying30 hi R ag aj rfl θ _ _ _ (by simp[Act.eval]) a γ wr.o.q 1 (by simp[Act.eval]) (by exact Ti.drew (Ti.newAt _ _ _ _ rfl)) rfl a_ η η q.q ?_;intro v' w2 J an x ao;obtain⟨ai,N,rfl⟩:=zr J;have l:=Ti.keep (Ti.drew (s.u zO)) (mq a s θ) x;have M:=Ti.keep (Ti.drew (g.u zO)) (mq a g θ) x;obtain⟨ar,aq⟩:=l.H))
    all_goals
     go_wp2;go_roundw;exact⟨k+1,_,η,η,ξ,A,(q.A an).x ζ _,M.set_ne η _ _,l.set 2 _,by rw[K.l];have:=xP J ((Tv.refl (w.o.q+1) w2).x 2 (.slice ai (ak.j+1) N)) l θ;simpa using this⟩;simp[intOf];omega
   rw[za n] at t u;rw[za η,qn] at G;have am:((k:Int)%2 == 0)=false:=by rw[beq_eq_false_iff_ne];omega
   have ah:((k:Int)%2 == 1)=true:=by rw[beq_iff_eq];omega
   have K:=Th G;have A:=Th t;clear G t n;cases F:((gB L k).v == [44])
   .have V:X (x6 false L=Y):=by unfold X x6;rw[za η,hs,za ζ,za η,za (by rw[D,E];simp;omega),u.l F];simp
    clear u K A;generalize gB L k=W at *;go_wp2_with (go_at_call 185;refine(n6 _ _ j).y ?_;rintro e I ⟨rfl,d⟩;obtain rfl:=d.z)
    rw[V.l];exact zP (v:=.tuple #[.agg #[.i false,.d (gB L 0),.slice B (vj L k).j m],.i false]) (by simp[results,results152,go_sem,C];try rfl) rfl ⟨γ,_,_,_,_,_,rfl⟩
   rw[F] at A;have aA:=CZ F;clear u;generalize gB L k=W at *;go_wp2_with (go_at_call 185;refine(n6 _ _ j).y ?_;rintro e I ⟨rfl,d⟩;obtain rfl:=d.z)
   go_roundw;exact⟨k+1,_,η,η,ξ,A,q,g,s,by rw[K.l];exact a⟩;simp[intOf];omega
  have af:k=L.j-1:=η;have V:X (x6 false L=Z ⟨false,gB L 0,vj L k⟩):=by unfold X x6;rw[za η,hs,za ζ,za η,za (by rw[D,E];simp;omega),←af,H.l];simp
  clear H;generalize vj L k=ak at *;go_wp2;rw[V.l];exact zP (v:=.tuple #[.agg #[.i false,.d (gB L 0),.slice B ak.j m],.i true]) (by simp[results,results152,go_sem,C]) rfl ⟨γ,_,rfl,xP (r:=w.o.q) a ψ g θ⟩
def Me(w:U)(v:O)(x:ByteArray)(L:κ)(hv:SV w v (x::L))(R:∀y∈L,0<y.q)(hx:(x.v == [33])=true)(a3:L.j<=500)(aG:¬L.j=0)(hs:xi (Tt (gB L 0) 0)=true)(a6:¬L.j=1)(a2:¬L.j<4)(a7:¬L.j%2=1)(D:((gB L 1).v == [40])=true)(E:((gB L (L.j-1)).v == [41])=true):
  Calls prog 152 #[v,.i false] w λe I=>jW (x6 true L) w e I:=by
 obtain⟨i0,hi,S,ai,am⟩:=info_parts SG;obtain⟨a4,a0,rfl⟩:=hv.qy;obtain⟨b1,o1,rfl,ac,z⟩:=hv.E ζ;have af:=z 0 ζ;rw[vu,gQ] at af;clear z;have aa:0<(gB L 0).q:=by rw[←xJ (by omega:0<L.j)];exact R _ (zq _)
 have a1:((L.j:Int) == 0)=false:=by rw[beq_eq_false_iff_ne];omega
 have aA:((L.j:Int) == 1)=false:=by rw[beq_eq_false_iff_ne];omega
 have a9:((L.j:Int)%2 == 1)=false:=by rw[beq_eq_false_iff_ne];omega
 go_enter func152,ntmps152;go_wp2_with (first|(refine jz _ w rfl (.tmp 26) 30 9 (Z (.const (ι 1))) Y rfl underlying30 i0 hi S6 _ (x::L) rfl hv 1 (L.j+1) (ze rfl) (zh ⟨rfl,rfl⟩) η ζ L.j η ?_;intro aB ax V;simp only[mF,fM,uY] at V;obtain⟨b,o,rfl,T,d⟩:=V.E η;have Q:=d 0 η;have ab:=d 1 η;have ad:=d (L.j-1) η;rw[xJ η] at Q ab ad;rw[vu] at Q;have an:=Th d;clear d)|(go_at_call 184;refine(gu _ _ aa).y ?_;rintro e I ⟨rfl,rfl⟩))
 go_loopw [9] (λi wr=>∃(k:Nat) (av:O),2<=k/\k<=L.j-1/\i=ι k/\X (qC L k=true)/\μ w wr/\Ti wr w.o.q #[.i false,.d ByteArray.empty,ν] 90/\Ti wr (w.o.q+1) #[.i true,.d (gB L 0),av] 90/\wr.r w.o.q 9 1 av (vj L k).j ((vj L k).w O.string)) (λi _=>L.j-(intOf i).D);exact⟨2,_,zf _,η,rfl,by simp[X,qC],γ,(Ti.new w _ _).u zO,Ti.newAt _ _ _ _ ζ,xo _ _ _ _⟩;obtain⟨k,av,u,hk,rfl,H,n,f,q,a⟩:=hrel;obtain⟨B,l,rfl⟩:=zr a;obtain⟨a8,aF⟩:=q.H;obtain⟨C,a5⟩:=f.H;have az:=n.q;have ay:=q.lt;have ar:=Bo L k;by_cases aD:k<L.j-1
 .have ae:=(n.cell (p:=(ω b (o+k))) T).A (an.l k η);have aH:b<wr.o.q:=η;have aC:k<L.j:=η;have g:0<L[k].q:=R _ (zq _);rw[xJ (by omega:k<L.j)] at ae g;have G:vj L (k+1)=vj L k++(if 2<=k/\k%2=0 then [gB L k] else []):=rfl;have s:qC L (k+1)=(qC L k&&(decide (k<2)||UW L k)):=rfl;rw[H.l,decide_eq_false (by omega:¬k<2),nM,p8] at s;have t:X (UW L k=false->qC L (L.j-1)=false):=λh=>Hm (i:=k+1) (by rw[s,h]) _ η;unfold UW at s t;by_cases m:k%2=0
  .rw[zb m] at s t;rw[zb ⟨u,m⟩] at G;have ao:((k:Int)%2 == 0)=true:=by rw[beq_iff_eq];omega
   have aj:((k:Int)%2 == 1)=false:=by rw[beq_eq_false_iff_ne];omega
   have K:=Th G;have A:=Th s;clear G s m;cases F:TL (Tt (gB L k) 0)
   .have P:X (x6 true L=Y):=by unfold X x6;rw[za η,hs,za ζ,za η,za (by rw[D,E];simp;omega),t.l F];simp
    clear t K A;generalize gB L k=W at *;go_wp2_with (go_at_call 185;refine(n6 _ _ g).y ?_;rintro e I ⟨rfl,c⟩;obtain rfl:=c.z)
    rw[P.l];exact zP (v:=.tuple #[.agg #[.i true,.d (gB L 0),.slice B (vj L k).j l],.i false]) (by simp[results,results152,go_sem,C];try rfl) rfl ⟨γ,_,_,_,_,_,rfl⟩
   rw[F] at A;clear t;generalize gB L k=W at *;generalize ag:vj L k=ak at *;clear ag;go_wp2_with (go_at_call 185;refine(n6 _ _ g).y ?_;rintro e I ⟨rfl,c⟩;obtain rfl:=c.z)
   go_region_law (first|(refine A7 wr _ [.d W] 9 rfl (.tmp 103) (.tmp 108) 30 rfl w.o.q 9 i0 _ 1 16 underlying30 hi S ai am rfl θ _ _ _ (by simp[Act.eval]) a γ wr.o.q 1 (by simp[Act.eval]) (by exact Ti.drew (Ti.newAt _ _ _ _ rfl)) rfl a_ η η n.q ?_;intro v' w2 J ap u aq;obtain⟨al,N,rfl⟩:=zr J;have j:=Ti.keep (Ti.drew (q.u zO)) (mq a q θ) u;have M:=Ti.keep (Ti.drew (f.u zO)) (mq a f θ) u;obtain⟨aw,au⟩:=j.H))
   all_goals
    go_wp2;go_roundw;exact⟨k+1,_,η,η,ξ,A,(n.A ap).x ζ _,M.set_ne η _ _,j.set 2 _,by rw[K.l];have:=xP J ((Tv.refl (w.o.q+1) w2).x 2 (.slice al (ak.j+1) N)) j θ;simpa using this⟩;simp[intOf];omega
  rw[za m] at s t;rw[za η,qn] at G;have ao:((k:Int)%2 == 0)=false:=by rw[beq_eq_false_iff_ne];omega
  have aj:((k:Int)%2 == 1)=true:=by rw[beq_iff_eq];omega
  have K:=Th G;have A:=Th s;clear G s m;cases F:((gB L k).v == [44])
  .have P:X (x6 true L=Y):=by unfold X x6;rw[za η,hs,za ζ,za η,za (by rw[D,E];simp;omega),t.l F];simp
   clear t K A;generalize gB L k=W at *;go_wp2_with (go_at_call 185;refine(n6 _ _ g).y ?_;rintro e I ⟨rfl,c⟩;obtain rfl:=c.z)
   rw[P.l];exact zP (v:=.tuple #[.agg #[.i true,.d (gB L 0),.slice B (vj L k).j l],.i false]) (by simp[results,results152,go_sem,C];try rfl) rfl ⟨γ,_,_,_,_,_,rfl⟩
  rw[F] at A;have aE:=CZ F;clear t;generalize gB L k=W at *;go_wp2_with (go_at_call 185;refine(n6 _ _ g).y ?_;rintro e I ⟨rfl,c⟩;obtain rfl:=c.z)
  go_roundw;exact⟨k+1,_,η,η,ξ,A,n,f,q,by rw[K.l];exact a⟩;simp[intOf];omega
 have ah:k=L.j-1:=η;have P:X (x6 true L=Z ⟨true,gB L 0,vj L k⟩):=by unfold X x6;rw[za η,hs,za ζ,za η,za (by rw[D,E];simp;omega),←ah,H.l];simp
 clear H;generalize vj L k=ak at *;go_wp2;rw[P.l];exact zP (v:=.tuple #[.agg #[.i true,.d (gB L 0),.slice B ak.j l],.i true]) (by simp[results,results152,go_sem,C]) rfl ⟨γ,_,rfl,xP (r:=w.o.q) a ψ f θ⟩
end
section
variable {T:zl}{pth:Nat->zk}
def Jt(h:kp T pth)(row:zk)(m:Nat)(b:row.j=3)(a:mt T row=true):Vg T (yC T row m).1 (row.G T.ql) m (yC T row m).2 (T.ql-1):=by
 have:=oj m row T pth 0 h h.pos (by rw[h.root];simp[b];exact h.dep.2) (λv c=>by simp only[mt,gO,decide_eq_true_eq] at a;exact a v c);rw[h.root] at this;unfold yC;rw[zb a];simpa using this
def Hz(w d:Nat):(xk w d).r=zM w:=rfl
def sy(w d:Nat):(xk w d).ql=xv d:=rfl
def my(d:Nat):1<=xv d/\xv d<=3:=by unfold xv;by_cases a:d<1<;>by_cases b:d>3<;>simp[a,b]<;>omega
def CE(w d a v:Nat):zJ (xk w d) a v=none:=by
 rw[mD];refine za λq=>?_;have b:a=0:=by have:=q.1;simp[xk,yD] at this;exact this
 subst b;exact(gJ.new (zM w)).2 v q.2
def Ru(w d:Nat):kp (xk w d) (λ_=>[]):=by
 refine⟨my d,by show 1<=zM w;unfold zM;split<;>omega,by simp[xk,yD],?_,rfl,λa _=>by show 0<xv d;exact(my d).1,λa b c e _=>?_,(λa v b f=>by rw[CE] at f;exact zC f ζ),λb e h=>?_⟩;intro a c;have g:a=0:=by simp[xk,yD] at c;exact c
 subst g;exact(gJ.new (zM w)).1;simp[xk,yD] at c e;omega;simp[xk,yD] at e;omega
def wI(w d:Nat)(q:zk)(a:q≠[]):uA (xk w d) q=none:=by
 rcases q with _|⟨v,q⟩;exact zC rfl a;simp[uA,TS,CE]
def FE(T:zl):∀(r:zk) (a level:Nat),level<T.ql->T.ql<=level+r.j->uV T a level r=TS T a (r.G (T.ql-level))
 |[],a,level,f,c=>by simp at c;omega
 |v::r,a,level,f,c=>by
  obtain⟨k,d⟩:∃k,T.ql-level=k+1:=⟨T.ql-level-1,η⟩;unfold uV;rw[d,pE];simp only[TS];cases g:zJ T a v with
  |none=>rfl
  |some b=>
   simp only;by_cases e:level+1≥T.ql
   .rw[zb e];have:k=0:=η;subst this;simp[TS]
   .rw[za e,FE T r b (level+1) η (by simp at c;omega)];have:T.ql-(level+1)=k:=η;rw[this]
def P2(h:kp T pth)(row:zk)(a:row.j=3):uf T row=uA T (row.G T.ql):=by
 have:=FE T row 0 0 (by have:=h.dep.1;omega) (by rw[a];have:=h.dep.2;omega);simpa [uf,uA] using this
def qJ(T:zl):Nat->Nat->Nat->List zk
 |0,_,_=>[[]]
 |d+1,a,f=>(List.range' f (T.r-f)).flatMap λv=>match zJ T a v with
  |none=>[]
  |some b=>(qJ T d b 0).w (v::·)
def I4{d a f:Nat}(h:∀u,f<=u->zJ T a u=Y):qJ T (d+1) a f=[]:=by
 simp only[qJ,List.flatMap_eq_nil_iff,List.mem_range'_1];intro v b;rw[h v b.1]
def Sd{d a v b:Nat}:∀(n f:Nat),v-f=n->f<=v->v<T.r->zJ T a v=Z b->(∀u,f<=u->u<v->zJ T a u=Y)->qJ T (d+1) a f=(qJ T d b 0).w (v::·)++qJ T (d+1) a (v+1):=by
 intro n;induction n with
 |zero=>
  intro f j l h g _;have:f=v:=η;subst this;obtain⟨k,e⟩:∃k,T.r-f=k+1:=⟨T.r-f-1,η⟩;have c:T.r-(f+1)=k:=η;simp only[qJ,e,c,List.range'_succ,uX,g]
 |succ n o=>
  intro f j l h g i;obtain⟨k,e⟩:∃k,T.r-f=k+1:=⟨T.r-f-1,η⟩;have c:T.r-(f+1)=k:=η;rw[←o (f+1) η η h g (λu p m=>i u η m)];simp only[qJ,e,c,List.range'_succ,uX,i f (zf _) η,re]
def Hn(row:zk)(l v:Nat)(k:zk)(a:l<row.j):(row.set l v).G (l+1)++k=row.G l++v::k:=by
 have:(row.set l v).G (l+1)=row.G l++[v]:=by
  rw[yN (by simpa using a),List.take_set_of_le (zf _)];simp
 rw[this];simp
def Qx(row:zk)(l v j:Nat)(a:l<j):(row.set l v).drop j=row.drop j:=by
 rw[List.drop_set,zb a]
def KN(H:ld T)(I:T.ql<=3):∀(n a level f:Nat) (row:zk) (c:List zk),level<T.ql->row.j=3->f<=T.r->(T.r-f)+1+(T.ql-level-1)*(T.r+1)<=n →
  ∃g,ub T n a level f row c=Z (g,c++(qJ T (T.ql-level) a f).w λk=>row.G level++k++row.drop T.ql)/\g.j=3/\g.G level=row.G level/\g.drop T.ql=row.drop T.ql:=by
 intro n;induction n with
 |zero=>intro a level f row c t B S u;omega
 |succ n D=>
  intro a level f row c t B S u;obtain⟨d,x⟩:∃d,T.ql-level=d+1:=⟨T.ql-level-1,η⟩;unfold ub;rcases G:yG T a f with _|v;refine⟨row,?_,B,rfl,rfl⟩;rw[x,I4 (CK H G)];simp;obtain⟨J,R,K,N⟩:=Ed H G;obtain⟨b,F⟩:=lV.1 K;have m:=Sd (d:=d) _ f rfl J R F N;simp only;have l:(row.set level v).j=3:=by simpa using B
  have q:level<row.j:=η;have h:(row.set level v).drop T.ql=row.drop T.ql:=Qx row level v T.ql t;have i:(row.set level v).G level=row.G level:=by rw[List.take_set_of_le (zf _)]
  have p:T.ql-level-1=d:=η;by_cases e:level+1≥T.ql;rw[zb e];have w:d=0:=η;subst w;obtain⟨g,A,y,C,s⟩:=D a level (v+1) (row.set level v) (c++[row.set level v]) t l η (by rw[p] at u ⊢;omega);refine⟨g,?_,y,by rw[C,i],by rw[s,h]⟩;rw[A,x,m];simp only[qJ,uq,List.map_nil,lr,re,i,h,kT,zt,ye,true_and];congr 2;have:=Hn row level v (row.drop T.ql) q;have V:T.ql=level+1:=η;rw[←h,V] at this ⊢;rw[jQ] at this;exact this;rw[za e,za η,F];simp only[uE];have W:d*(T.r+1)=(d-1)*(T.r+1)+(T.r+1):=by
   obtain⟨j,rfl⟩:∃j,d=j+1:=⟨d-1,η⟩;simp[Nat.succ_mul]
  have z:T.ql-(level+1)-1=d-1:=η;have r:T.ql-(level+1)=d:=η;obtain⟨o,A,y,C,s⟩:=D b (level+1) 0 (row.set level v) c η l η (by rw[p] at u;rw[z];omega);rw[A];simp only;obtain⟨g,M,P,Q,L⟩:=D a level (v+1) o (c++(qJ T (T.ql-(level+1)) b 0).w λk=>(row.set level v).G (level+1)++k++(row.set level v).drop T.ql) t y η (by rw[p] at u ⊢;omega);have E:o.G level=row.G level:=by
   have:=congrArg (List.take level) C;rwa [List.take_take,List.take_take,dX η,i] at this
  refine⟨g,?_,P,by rw[Q,E],by rw[L,s,h]⟩;rw[M,x,m,r,E,s,h,qF,pg,←kT];congr 3;refine congrArg (c++·) (gE λk _=>?_);simp only[Function.comp];rw[Hn row level v k q]
def Um(k:zk)(d:Nat):zk:=k++([0,0,0]:zk).drop d
def Ky(h:kp T pth)(a:Nat)(f:3*(T.r+1)<=a):mY a T=Z ((qJ T T.ql 0 0).w λk=>Um k T.ql):=by
 have d:=h.dep;have e:T.r+1+(T.ql-1)*(T.r+1)<=3*(T.r+1):=by
  have:(T.ql-1)*(T.r+1)<=2*(T.r+1):=fK _ η;omega
 obtain⟨b,c,_,_,_⟩:=KN h.node d.2 a 0 0 0 [0,0,0] [] η rfl η υ;unfold mY;rw[c];simp[Um]
def A8(T:zl):∀(d a f:Nat) (k:zk),k∈qJ T d a f↔k.j=d/\(TS T a k).I=true/\(0<d->f<=k.headD 0)
 |0,a,f,k=>by
  simp only[qJ,xL];constructor
  .rintro rfl;simp[TS]
  .rintro⟨h,_⟩;exact nU.1 h
 |d+1,a,f,k=>by
  simp only[qJ,vg,List.mem_range'_1];constructor
  .rintro⟨v,n,g⟩;cases c:zJ T a v with
   |none=>rw[c] at g;simp at g
   |some b=>
    rw[c] at g;simp only[zF] at g;obtain⟨m,j,rfl⟩:=g;obtain⟨i,e,_⟩:=(A8 T d b 0 m).1 j;refine⟨by simp[i],?_,λ_=>by simpa using n.1⟩;simp only[TS,c];exact e
  .rintro⟨i,e,l⟩;cases k with
   |nil=>simp at i
   |cons v k=>
    simp only[TS] at e;simp only[List.headD_cons] at l;cases c:zJ T a v with
    |none=>rw[c] at e;simp at e
    |some b=>
     rw[c] at e;have o:=(ln c).2;have:=l η;refine⟨v,η,?_⟩;rw[c];simp only[zF];exact⟨k,(A8 T d b 0 k).2 ⟨by simpa using i,e,λ_=>zs _⟩,rfl⟩
end
def V2:zk->zk->Prop
 |a::x,b::y=>a<b∨a=b/\V2 x y
 |_,_=>False
def Bx:∀x:zk,¬V2 x x
 |[]=>id
 |a::x=>by
  rintro(h|⟨_,h⟩)
  .omega
  .exact Bx x h
def oB(T:zl):∀(d a f:Nat),(qJ T d a f).Pairwise V2
 |0,a,f=>by simp[qJ]
 |d+1,a,f=>by
  simp only[qJ];rw[List.pairwise_flatMap];refine⟨λv _=>?_,?_⟩
  .cases zJ T a v with
   |none=>exact List.Pairwise.nil
   |some b=>
    simp only;rw[mX];exact(oB T d b 0).imp λh=>ze ⟨rfl,h⟩
  .refine List.Pairwise.imp ?_ (List.pairwise_lt_range' (s:=f) (n:=T.r-f));intro v u i x e y g;cases j:zJ T a v with
   |none=>rw[j] at e;simp at e
   |some b=>
    rw[j] at e;cases k:zJ T a u with
    |none=>rw[k] at g;simp at g
    |some c=>
     rw[k] at g;simp only[zF] at e g;obtain⟨m,_,rfl⟩:=e;obtain⟨l,_,rfl⟩:=g;exact zh i
def oF(T:zl)(d a f:Nat):(qJ T d a f).Nodup:=by
 refine(oB T d a f).imp ?_;rintro x y h rfl;exact Bx x h
def Ay:∀{l1 l2:List zk},l1.Nodup->(∀x∈l1,x∈l2)->l1.j<=l2.j
 |[],l2,_,_=>ζ
 |a::l1,l2,e,c=>by
  have f:=c a ζ;have g:=Ay (l1:=l1) (l2:=l2.erase a) (jx.1 e).2 (λx d=>by
   have b:x≠a:=by rintro rfl;exact(jx.1 e).1 d
   exact(lN b).2 (c x (by simp[d])))
  rw[nt f] at g;have:=pd f;simp;omega
def JY{l1 l2:List zk}(b:l1.Nodup)(c:l2.Nodup)(h:∀x,x∈l1↔x∈l2):l1.j=l2.j:=
 Nat.le_antisymm (Ay b λx a=>(h x).1 a) (Ay c λx a=>(h x).2 a)
def TE(T:zl):List zk:=qJ T T.ql 0 0
def qN(T:zl)(k:zk):k∈TE T↔k.j=T.ql/\(uA T k).I=true:=by
 unfold TE;rw[A8];exact⟨λh=>⟨h.1,h.2.1⟩,λh=>⟨h.1,h.2,λ_=>zs _⟩⟩
structure vK (T:zl):Prop where
 inv:∃pth,kp T pth
 cnt:(TE T).j=T.count
 room:T.B.j<=1+2*T.count
def vK.new(w d:Nat):vK (xk w d):=by
 refine⟨⟨_,Ru w d⟩,?_,by simp[xk,yD]⟩;have:TE (xk w d)=[]:=by
  rw[List.eq_nil_iff_forall_not_mem];intro k c;obtain⟨a,b⟩:=(qN _ k).1 c;rw[wI w d k (by rintro rfl;have:=(my d).1;rw[sy] at a;simp at a;omega)] at b;cases b
 rw[this];rfl
def w9{T:zl}:∀(k:zk) (a:Nat),(TS T a k).I=true->∀v∈k,v<T.r
 |[],_,_,v,c=>by cases c
 |u::k,a,h,v,c=>by
  simp only[TS] at h;cases d:zJ T a u with
  |none=>rw[d] at h;simp at h
  |some b=>
   rw[d] at h;rcases zG.1 c with rfl|c
   .exact(ln d).2
   .exact w9 k b h v c
def vK.add{T:zl}(h:vK T)(row:zk)(m:Nat)(i:row.j=3)(n:mt T row=true):
  vK (yC T row m).1/\(yC T row m).1.r=T.r/\(yC T row m).1.ql=T.ql/\(yC T row m).2=(uA T (row.G T.ql)).isNone/\((yC T row m).2=false->(yC T row m).1=T)/\((yC T row m).2=true->(yC T row m).1.count=T.count+1)/\∀q,q.j=T.ql->uA (yC T row m).1 q=if q=row.G T.ql then Z ((uA T q).g m) else uA T q:=by
 obtain⟨o,j⟩:=h.inv;have a:=Jt j row m i n;have p:=j.dep;refine⟨⟨a.inv,?_,?_⟩,a.r,a.ql,a.is,a.same,λq=>(a.more q).1,a.sem⟩;cases c:(yC T row m).2;rw[a.same c];exact h.cnt;rw[(a.more c).1,←h.cnt];have d:=a.is;rw[c] at d;have g:(row.G T.ql).j=T.ql:=by rw[vd,i];omega
 have f:row.G T.ql∉TE T:=λl=>by
  have:=((qN T _).1 l).2;rw[←Option.not_isNone,←d] at this;cases this
 have:=JY (l1:=TE (yC T row m).1) (l2:=row.G T.ql::TE T) (oF _ _ _ _) (jx.2 ⟨f,oF _ _ _ _⟩) (λk=>by
  rw[qN,a.ql,zG,qN];by_cases b:k.j=T.ql;rw[a.sem k b];by_cases e:k=row.G T.ql;simp[e,g];simp[e,b];constructor;intro q;exact zC q.1 b;rintro(q|q);rw[q] at b;exact zC g b;exact zC q.1 b)
 simpa using this;cases c:(yC T row m).2;rw[a.same c];exact h.room;have:=a.more c;have:=h.room;omega
def vK.I{T:zl}(h:vK T)(a:Nat)(b:3*(T.r+1)<=a):mY a T=Z ((TE T).w λk=>Um k T.ql):=by
 obtain⟨c,d⟩:=h.inv;exact Ky d a b
def vK.rowsG{T:zl}(h:vK T)(a:Nat)(c:3*(T.r+1)<=a)(b:T.count<=1048576):rowsG a T=Z ((TE T).w λk=>Um k T.ql):=by
 unfold Go.Proofs.YteampbddflhngaaGreat.rowsG;rw[h.I a c];simp[h.cnt,b]
def vK.okT{T:zl}(h:vK T)(a:T.count<=10000000):okT T=true:=by
 have:=h.room;simp only[Go.Proofs.YteampbddflhngaaGreat.okT,uI,decide_eq_true_eq];omega
def vK.mark{T:zl}(h:vK T)(row:zk)(a:row.j=3):uf T row=uA T (row.G T.ql):=by
 obtain⟨b,c⟩:=h.inv;exact P2 c row a
def jU(J:zE)(h:Nat×Nat)(v:Nat):Option Nat:=zJ (J.ja.g h.1 xa.zero).I ((J.ja.g h.1 xa.zero).B.g h.2 0) v
def Bn(J:zE):Prop:=∀i,ld (J.ja.g i xa.zero).I
def qE(J a:zE):Prop:=a={J with jg:=a.jg}
def qE.refl(J:zE):qE J J:=rfl
def qE.A{a b c:zE}(h:qE a b)(k:qE b c):qE a c:=by
 unfold qE at *;rw[h] at k;exact k
def qE.ja{a b:zE}(h:qE a b):b.ja=a.ja:=by rw[h]
def Qk{J:zE}{h:Nat×Nat}{f:Nat}(hs:vL J h=true):qE J (qd J h f).1/\(qd J h f).2=yG (J.ja.g h.1 xa.zero).I ((J.ja.g h.1 xa.zero).B.g h.2 0) f:=by
 unfold qd;rw[zb hs];exact⟨rfl,rfl⟩
def tX(a b c i:Nat):Prop:=i<a/\a<=i+b∨a<=i/\a+c<=i+b
def EB(J:zE)(hs:List (Nat×Nat))(f:Nat):Option Nat->Prop
 |none=>∀u,f<=u->∃h∈hs,jU J h u=Y
 |some v=>f<=v/\(∀h∈hs,(jU J h v).I=true)/\∀u,f<=u->u<v->∃h∈hs,jU J h u=Y
def Jo{J a:zE}(h:qE J a)(x:Nat×Nat)(v:Nat):jU a x v=jU J x v:=by unfold jU;rw[h.ja]
def QS(W f:Nat)(hs:List (Nat×Nat))(j:zE)(A:Bn j)(B:∀h∈hs,vL j h=true)(R:∀h∈hs,∀v,(jU j h v).I=true->v<W):
  ∀(n:Nat) (J:zE) (at' b a:Nat),qE j J->f<=at'->a<hs.j->b<=hs.j->(∀u,f<=u->u<at'->∃h∈hs,jU j h u=Y)->(∀i (r:i<hs.j),tX a b hs.j i->(jU j hs[i] at').I=true)->(W-at')*(hs.j+1)+(hs.j-b)<n →
  ∃H s,gC n J hs at' b a=Z (H,s)/\qE j H/\EB j hs f s:=by
 intro n;induction n with
 |zero=>intro J at' b a _ _ _ _ _ _ h;omega
 |succ n I=>
  intro J at' b a y G F Q g x hn;unfold gC;by_cases w:b<hs.j;rw[zb w];have S:hs.g a (0,0)=hs[a]:=by simp[List.getD,F]
  have c:hs[a]∈hs:=zq F;have m:vL J hs[a]=true:=by
   have:=B _ c;unfold vL at this ⊢;rw[y.ja];exact this
  obtain⟨C,p⟩:=Qk (f:=at') m;rw[y.ja] at p;rw[S];cases L:qd J hs[a] at' with
  |mk z o=>
   rw[L] at C p;simp only at C p;have l:=y.A C;have q:=A hs[a].1;rcases o with _|v;refine⟨z,Y,rfl,l,λu V=>?_⟩;by_cases k:u<at';exact g u V k;exact⟨hs[a],c,CK q p.z u η⟩;obtain⟨p1,p2,E,N⟩:=Ed q p.z;have M:=R _ c v E;simp only;by_cases d:v>at';rw[zb d,zb d];refine I z v (0+1) _ l η (by split<;>omega) η (λu T h2=>?_) (λi r t=>?_) ?_;by_cases k:u<at';exact g u T k;exact⟨hs[a],c,N u η h2⟩;have:i=a:=by
    unfold tX at t;split at t<;>omega
   subst this;exact E;have e:W-at'=(W-v)+(v-at'):=η;have:(W-at')*(hs.j+1)=(W-v)*(hs.j+1)+(v-at')*(hs.j+1):=by rw[e,mm]
   have:1*(hs.j+1)<=(v-at')*(hs.j+1):=fK _ η;omega;have K:v=at':=η;subst K;rw[za d,za d];refine I z v (b+1) _ l G (by split<;>omega) η g (λi r t=>?_) η;by_cases D:i=a;subst D;exact E;refine x i r ?_;unfold tX at t ⊢;split at t<;>omega
  rw[za w];refine⟨J,Z at',rfl,y,G,λh P=>?_,g⟩;obtain⟨i,r,rfl⟩:=vh P;refine x i r ?_;unfold tX;omega
def OF(W:Nat)(J:zE)(place f n:Nat)(s:place<5)(e:Bn J)(g:J.jf.g place []≠[])(d:∀h∈J.jf.g place [],vL J h=true)(o:∀h∈J.jf.g place [],∀v,(jU J h v).I=true->v<W)(q:W*((J.jf.g place []).j+1)+(J.jf.g place []).j<n):
  ∃j b,lc n J place f=Z (j,b)/\qE J j/\EB J (J.jf.g place []) f b:=by
 have c:0<(J.jf.g place []).j:=by
  rcases k:J.jf.g place [] with _|⟨a,l⟩;exact zC k g;simp
 unfold lc;rw[za η];refine QS W f _ J e d o n J f 0 0 rfl (zf _) c η (λu p t=>η) (λi r m=>by unfold tX at m;omega) ?_;have:(W-f)*((J.jf.g place []).j+1)<=W*((J.jf.g place []).j+1):=fK _ η;omega
section
variable {je:Int}
def yM(l:zw)(d:Nat):List Nat:=(List.range d).filter (zK l)
def yz(l:zw)(vals:List Nat)(d:Nat):zk:=(yM l d).w λp=>vals.g p 0
def ny(l:zw)(d:Nat):yM l (d+1)=if zK l d then yM l d++[d] else yM l d:=by
 unfold yM;rw[oG,sQ];by_cases h:zK l d<;>simp[h]
def sq(l:zw)(d p:Nat):p∈yM l d↔p<d/\zK l p=true:=by simp[yM]
def BT(l:zw){a b:Nat}(h:a<=b):yM l a <+: yM l b:=by
 induction h with
 |refl=>exact List.prefix_rfl
 |step h c=>
  rw[ny];split;exact c.A (List.prefix_append _ _);exact c
def AW(l:zw)(p:Nat):xd l p=if zK l p then Z (yM l p).j else none:=by
 unfold xd yM;rw[tR]
def fV(l:zw):xe l=(yM l 5).j:=by
 unfold xe yM;rw[tR]
def pZ(l:zw)(vals:Φ)(d:Nat):(yz l vals d).j=(yM l d).j:=by simp[yz]
def ef(l:zw){x y:Φ}{d:Nat}(h:∀p,p<d->zK l p=true->x.g p 0=y.g p 0):yz l x d=yz l y d:=by
 unfold yz;refine gE λp a=>?_;have:=(sq l d p).1 a;exact h p this.1 this.2
def Az(l:zw)(vals:Φ){a b:Nat}(h:a<=b):yz l vals a=(yz l vals b).G (yM l a).j:=by
 obtain⟨t,c⟩:=BT l h;unfold yz;rw[←c];simp
def E0(l:zw)(vals:Φ)(d v:Nat)(b:d<vals.j):yz l (vals.set d v) (d+1)=if zK l d then yz l vals d++[v] else yz l vals d:=by
 have a:(yM l d).w (λp=>(vals.set d v).g p 0)=(yM l d).w λp=>vals.g p 0:=by
  refine gE λp c=>?_;have:=(sq l d p).1 c;rw[uN,za η]
 unfold yz;rw[ny];split;rw[qF,a];simp[b];exact a
def Bb:∀{l1 l2:Φ},l1.Nodup->(∀x∈l1,x∈l2)->l1.j<=l2.j
 |[],l2,_,_=>ζ
 |a::l1,l2,e,c=>by
  have f:=c a ζ;have g:=Bb (l1:=l1) (l2:=l2.erase a) (jx.1 e).2 (λx d=>by
   have b:x≠a:=by rintro rfl;exact(jx.1 e).1 d
   exact(lN b).2 (c x (by simp[d])))
  rw[nt f] at g;have:=pd f;simp;omega
def fH(l:zw)(p:Nat):zK l p=true↔∃t∈l.v,t.var=true/\t.z=p:=by
 unfold zK;rw[fg];constructor;rintro⟨t,b,a⟩;simp only[uI,beq_iff_eq] at a;exact⟨t,b,a.1,a.2⟩;rintro⟨t,b,a,c⟩;exact⟨t,b,by simp[a,c]⟩
def oZ(l:zw)(d:Nat):(yM l d).j<=l.v.j:=by
 have:=Bb (l1:=yM l d) (l2:=l.v.w (·.z)) (List.nodup_range.filter _) (λp c=>by
  obtain⟨t,a,_,b⟩:=(fH l p).1 ((sq l d p).1 c).2;exact zF.2 ⟨t,a,b⟩)
 simpa using this
def wt(je:Int):∀(ts:List yh) (k:Int),k<=ts.H (λk t=>if t.var&&decide ((t.z:Int)<je)&&decide ((t.z:Int)>k) then(t.z:Int) else k) k/\(∀t∈ts,t.var=true->(t.z:Int)<je->(t.z:Int)<=ts.H (λk t=>if t.var&&decide ((t.z:Int)<je)&&decide ((t.z:Int)>k) then(t.z:Int) else k) k)/\(k<je->ts.H (λk t=>if t.var&&decide ((t.z:Int)<je)&&decide ((t.z:Int)>k) then(t.z:Int) else k) k<je)
 |[],k=>⟨Int.le_refl _,λt h=>(by cases h),λh=>h⟩
 |t::ts,k=>by
  simp only[uJ];by_cases d:(t.var&&decide ((t.z:Int)<je)&&decide ((t.z:Int)>k))=true
  .rw[zb d];simp only[uI,decide_eq_true_eq] at d;obtain⟨f,g,e⟩:=wt je ts (t.z:Int);refine⟨η,λu a b c=>?_,λ_=>e η⟩;rcases zG.1 a with rfl|a
   .exact f
   .exact g u a b c
  .rw[za d];obtain⟨f,g,e⟩:=wt je ts k;refine⟨f,λu a b c=>?_,e⟩;rcases zG.1 a with rfl|a
   .have:(u.z:Int)<=k:=by
     simp only[b,c,nM,decide_true,decide_eq_true_eq] at d;omega
    omega
   .exact g u a b c
def Bv(l:zw){p:Nat}(c:zK l p=true)(d:(p:Int)<je):(p:Int)<=ky l je:=by
 obtain⟨t,a,b,e⟩:=(fH l p).1 c;have:=(wt je l.v (-1)).2.1 t a b η;unfold ky;omega
def Dl(l:zw)(a:0<=je):ky l je<je:=(wt je l.v (-1)).2.2 η
def Oa(l:zw)(je:Int):-1<=ky l je:=(wt je l.v (-1)).1
def eB:∀(ts:List yh) (k:Nat),k<=ts.H (λk t=>if t.var&&decide (t.z≥k) then t.z+1 else k) k/\(∀t∈ts,t.var=true->t.z<ts.H (λk t=>if t.var&&decide (t.z≥k) then t.z+1 else k) k)/\∀b,k<=b->(∀t∈ts,t.var=true->t.z<b)->ts.H (λk t=>if t.var&&decide (t.z≥k) then t.z+1 else k) k<=b
 |[],k=>⟨zf _,λt h=>(by cases h),λb h _=>h⟩
 |t::ts,k=>by
  simp only[uJ];by_cases c:(t.var&&decide (t.z≥k))=true
  .rw[zb c];simp only[uI,decide_eq_true_eq] at c;obtain⟨i,g,f⟩:=eB ts (t.z+1);refine⟨η,λu a e=>?_,λb j d=>f b (by have:=d t ζ c.1;omega) λu a=>d u (by simp[a])⟩;rcases zG.1 a with rfl|a
   .omega
   .exact g u a e
  .rw[za c];obtain⟨i,g,f⟩:=eB ts k;refine⟨i,λu a e=>?_,λb j d=>f b j λu a=>d u (by simp[a])⟩;rcases zG.1 a with rfl|a
   .have:u.z<k:=by simp only[e,nM,decide_eq_true_eq] at c;omega
    omega
   .exact g u a e
def wP(l:zw){p:Nat}(c:zK l p=true):p<vm l:=by
 obtain⟨t,a,b,d⟩:=(fH l p).1 c;have:=(eB l.v 0).2.1 t a b;unfold vm;omega
def D8(l:zw){k:Nat}(h:∀p,zK l p=true->p<k):vm l<=k:=
 (eB l.v 0).2.2 k η λt a b=>h t.z ((fH l t.z).2 ⟨t,a,b,rfl⟩)
def Qj(l:zw)(a:0<=je):qL l je<je:=by
 unfold qL;split;omega;exact Dl l a
def oh(je:Int):∀(a:List zw) (b:Int),b<=a.H (qr je) b/\(∀l∈a,qL l je<=a.H (qr je) b)/\(0<=je->b<je->a.H (qr je) b<je)
 |[],b=>⟨Int.le_refl _,λl h=>(by cases h),λ_ h=>h⟩
 |l::a,b=>by
  simp only[uJ];obtain⟨i,f,e⟩:=oh je a (qr je b l);have g:b<=qr je b l/\qL l je<=qr je b l:=by unfold qr;split<;>omega
  refine⟨η,λu c=>?_,λd j=>e d ?_⟩
  .rcases zG.1 c with rfl|c
   .omega
   .exact f u c
  .have:=Qj l d;unfold qr;split<;>omega
def t7(r:zu)(a:0<=je):xO r je<je/\-1<=xO r je/\ky r.g je<=xO r je/\(∀l∈r.qc,qL l je<=xO r je)/\∀l∈r.qx,qL l je<=xO r je:=by
 unfold xO;obtain⟨g,b,c⟩:=oh je r.qc (ky r.g je);obtain⟨h,e,f⟩:=oh je r.qx (r.qc.H (qr je) (ky r.g je));have:=Oa r.g je;exact⟨f a (c a (Dl r.g a)),η,η,λl d=>by have:=b l d;omega,e⟩
def F7{l:zw}{je:Nat}{b:Int}(h:qL l je<=b):(∀p,zK l p=true->p<je)∨∀p,zK l p=true->p<je->(p:Int)<=b:=by
 unfold qL at h;by_cases c:(vm l:Int)<=je;exact zh λp a=>by have:=wP l a;omega
 rw[za c] at h;exact ze λp a d=>by have:=Bv l (je:=(je:Int)) a η;omega
end
section
variable {r:zu}{i:Nat}{hs:List (Nat×Nat)}
structure fE (r:zu):Prop where
 m:r.m<=5
 v:∀l∈r.qc,l.v.j<=3
 qc:∀l∈r.qc,∀p,zK l p=true->p<r.m
 qx:∀l∈r.qx,∀p,zK l p=true->p<r.m
 g:∀p,zK r.g p=true->p<r.m
 safe:∀p,p<r.m->∃l∈r.qc,zK l p=true
structure fJ (r:zu) (Ts:List zl) (W:Nat):Prop where
 len:Ts.j=r.qc.j
 ok:∀(i:Nat) (l:zw) (T:zl),r.qc[i]?=Z l->Ts[i]?=Z T->vK T/\T.ql=xv (xe l)/\T.r<=W
structure j9 (r:zu) (Ts Ns:List zl) (J:zE):Prop where
 g:J.g=r.g
 m:J.m=r.m
 jf:J.jf=(List.range 5).w (xz r)
 ji:J.ji=(List.range 5).w λp=>xO r (p:Nat)
 last:J.last=xO r r.m
 bars:J.bars=(r.qx.zip Ns).w λx=>⟨x.1,vm x.1,x.2⟩
 ja:J.ja.w (·.I)=Ts
 vlen:J.P.j=5
 flen:J.from.j=5
def rc(l:zw){x y:Φ}(h:∀p,zK l p=true->x.g p 0=y.g p 0):zH l x=zH l y:=by
 have a:∀i,Tk l x i=Tk l y i:=by
  intro i;unfold Tk;split;rename_i b;unfold U1;rw[show l.v.g i ⟨false,0,0⟩=l.v[i] by simp[List.getD,b]];split;rename_i c;simp only[uI,decide_eq_true_eq] at c;exact h _ ((fH l _).2 ⟨_,zq b,c.1,rfl⟩);rfl;rfl
 unfold zH;rw[a,a,a]
def eM(T:zl)(l:zw)(y:List Nat):Prop:=(xe l=0->T.count≠0)/\(xe l≠0->(uA T (yz l y 5)).I=true)
def jA(r:zu)(a Ns:List zl)(y:List Nat):Prop:=(∀(i:Nat) (l:zw) (T:zl),r.qc[i]?=Z l->a[i]?=Z T->eM T l y)/\∀x∈r.qx.zip Ns,uf x.2 (zH x.1 y)=Y
def PS{l:zw}(a:∀p,zK l p=true->p<r.m){d:Nat}(b:r.m<=d):yM l d=yM l r.m:=by
 induction b with
 |refl=>rfl
 |@step m h c=>
  rw[ny,za (λq=>by have:=a _ q;have:r.m<=m:=h;omega),c]
def Kz(b:r.m<=5){l:zw}(a:∀p,zK l p=true->p<r.m)(y:Φ):yz l y 5=yz l y r.m:=by
 unfold yz;rw[PS a b]
def Jr(r:zu)(J:zE)(d:Nat):Prop:=∀(i:Nat) (l:zw) (s:xa),r.qc[i]?=Z l->J.ja[i]?=Z s->s.B.j=3/\(∀k,k<=(yM l d).j->k<3->TS s.I 0 ((yz l J.P d).G k)=Z (s.B.g k 0))/\(TS s.I 0 (yz l J.P d)).I=true
def OP(r:zu)(Ns:List zl)(vals:List Nat)(d:Nat):Prop:=∀x∈r.qx.zip Ns,vm x.1<=d->uf x.2 (zH x.1 vals)=Y
def Ft{d e:Nat}(h:(i,e)∈xz r d):∃l,r.qc[i]?=Z l/\zK l d=true/\e=(yM l d).j:=by
 unfold xz at h;simp only[mM,qq,ye] at h;obtain⟨⟨l,j⟩,f,g,a,b,k⟩:=h;rw[AW] at a;split at a;rename_i c;simp only[zt] at a;have:=se.1 f;simp only at this b c a;subst b;exact⟨l,this,c,η⟩;cases a
def U6{d:Nat}{l:zw}(h:r.qc[i]?=Z l)(a:zK l d=true):(i,(yM l d).j)∈xz r d:=by
 unfold xz;simp only[mM,qq,ye];refine⟨(l,i),se.2 h,(yM l d).j,?_,rfl,rfl⟩;rw[AW,zb a]
def E4(r:zu)(d:Nat):((xz r d).w (·.1)).Nodup:=by
 unfold xz;have f:∀(b:List zw) (n:Nat),(((b.zipIdx n).filterMap λx=>(xd x.1 d).w λc=>(x.2,c)).w (·.1)).Nodup/\∀i∈((b.zipIdx n).filterMap λx=>(xd x.1 d).w λc=>(x.2,c)).w (·.1),n<=i:=by
  intro b;induction b with
  |nil=>intro n;simp
  |cons l b m=>
   intro n;obtain⟨h,g⟩:=m (n+1);rw[List.zipIdx_cons,tG];rcases j:(xd l d).w λc=>(n,c) with _|x;exact⟨h,λi e=>by have:=g i e;omega⟩;have o:x.1=n:=by
    simp only[qq] at j;obtain⟨a,_,rfl⟩:=j;rfl
   simp only[uq,jx,zG];refine⟨⟨λk=>by have:=g _ k;omega,h⟩,?_⟩;rintro i (rfl|e);omega;have:=g i e;omega
 exact(f r.qc 0).1
def setDown(v a:Nat)(s:xa):xa:=if a+1≥3 then s else{s with B:=s.B.set (a+1) ((zJ s.I (s.B.g a 0) v).g 0)}
def PV{J:zE}{v:Nat}{h:Nat×Nat}(hs:vL J h=true):vF v J h={J with ja:=J.ja.set h.1 (setDown v h.2 (J.ja.g h.1 xa.zero))}:=by
 unfold vF setDown;by_cases a:h.2+1≥3;rw[zb (ze a),zb a];have b:h.1<J.ja.j:=by simp only[vL,uI,decide_eq_true_eq] at hs;exact hs.1
 have:J.ja.set h.1 (J.ja.g h.1 xa.zero)=J.ja:=by
  rw[show J.ja.g h.1 xa.zero=J.ja[h.1] by simp[List.getD,b]];exact ik _
 rw[this];rw[za (by rintro(q|q);rw[hs] at q;cases q;exact a q),za a]
def En(v:Nat):∀(hs:List (Nat×Nat)) (J:zE),(hs.w (·.1)).Nodup->(∀h∈hs,vL J h=true)->∃c,hs.H (vF v) J={J with ja:=c}/\c.j=J.ja.j/\∀i s,J.ja[i]?=Z s->c[i]?=Z (match hs.lookup i with|none=>s|some e=>setDown v e s)
 |[],J,_,_=>⟨J.ja,rfl,rfl,λi s h=>by simpa using h⟩
 |(j,e)::hs,J,f,d=>by
  simp only[uJ];have g:=d (j,e) ζ;rw[PV g];simp only;have k:j<J.ja.j:=by simp only[vL,uI,decide_eq_true_eq] at g;exact g.1
  simp only[uq,jx] at f;obtain⟨c,n,w,m⟩:=En v hs {J with ja:=J.ja.set j (setDown v e (J.ja.g j xa.zero))} f.2 (λh p=>by
   have:=d h (by simp[p]);unfold vL at this ⊢;simpa using this)
  refine⟨c,n,by simpa using w,λi s l=>?_⟩;by_cases a:i=j
  .subst a;have u:J.ja.g i xa.zero=s:=by simp[List.getD,l]
   have:=m i (setDown v e s) (by rw[u];simp[k]);rw[this];have b:hs.lookup i=none:=by
    rw[List.lookup_eq_none_iff];intro x o;have:x.1≠i:=by
     rintro rfl;exact f.1 (zF.2 ⟨x,o,rfl⟩)
    simpa using λq=>this q.z
   rw[b];simp[List.lookup]
  .have:=m i s (by simp only[sV,Ne.symm a,if_false];exact l);rw[this];have t:(i == j)=false:=by simp[a]
   simp[List.lookup,t]
def RE{d:Nat}(c:(hs.w (·.1)).Nodup)(f:(i,d)∈hs):hs.lookup i=Z d:=by
 induction hs with
 |nil=>cases f
 |cons a hs h=>
  obtain⟨j,m⟩:=a;simp only[uq,jx] at c;rcases zG.1 f with e|b;simp only[ye] at e;obtain⟨rfl,rfl⟩:=e;simp[List.lookup];have:i≠j:=by
   rintro rfl;exact c.1 (zF.2 ⟨(i,d),b,rfl⟩)
  have g:(i == j)=false:=by simp[this]
  simp only[List.lookup,g];exact h c.2 b
def Jd(h:∀b,(i,b)∉hs):hs.lookup i=none:=by
 rw[List.lookup_eq_none_iff];rintro⟨j,m⟩ a;have:i≠j:=by rintro rfl;exact h m a
 simpa using this
end
section
variable {r:zu}{Ts Ns:List zl}{J:zE}
structure Uz (r:zu) (Ts Ns:List zl) (W:Nat) (J:zE) (d:Nat):Prop where
 stat:j9 r Ts Ns J
 B:Jr r J d
 nob:OP r Ns J.P d
 «from» : ∀i,i<d->J.from.g i 0=J.P.g i 0+1
 small:∀i,i<d->J.P.g i 0<W
def j9.same{a:zE}(h:j9 r Ts Ns J)(s:qE J a):j9 r Ts Ns a:=by
 rw[s];exact⟨h.g,h.m,h.jf,h.ji,h.last,h.bars,h.ja,h.vlen,h.flen⟩
def Uz.same{r:zu}{Ts Ns:List zl}{W:Nat}{J a:zE}{d:Nat}(h:Uz r Ts Ns W J d)(s:qE J a):Uz r Ts Ns W a d:=by
 refine⟨h.stat.same s,?_,?_,?_,?_⟩;rw[s];exact h.B;rw[s];exact h.nob;rw[s];exact h.from;rw[s];exact h.small
def Uz.back{W d b:Nat}(h:Uz r Ts Ns W J d)(e:b<=d):Uz r Ts Ns W J b:=by
 refine⟨h.stat,λi l s j g=>?_,λx m f=>h.nob x m η,λi n=>h.from i η,λi n=>h.small i η⟩;obtain⟨u,q,a⟩:=h.B i l s j g;have o:=(BT l e).length_le;refine⟨u,λk f p=>?_,?_⟩;rw[Az l J.P e,List.take_take,dX f];exact q k η p;rw[Az l J.P e];have c:yz l J.P d=(yz l J.P d).G (yM l b).j++(yz l J.P d).drop (yM l b).j:=(jQ _ _).z;rw[c,pK] at a;rcases t:TS s.I 0 ((yz l J.P d).G (yM l b).j) with _|x;rw[t] at a;cases a;rfl
def j9.side(h:j9 r Ts Ns J){i:Nat}{s:xa}(hs:J.ja[i]?=Z s):Ts[i]?=Z s.I:=by
 rw[←h.ja];simp[hs]
def j9.some{r:zu}{Ts Ns:List zl}{W:Nat}{J:zE}(h:j9 r Ts Ns J)(b:fJ r Ts W){i:Nat}{l:zw}(a:r.qc[i]?=Z l):∃s,J.ja[i]?=Z s:=by
 have c:J.ja.j=r.qc.j:=by rw[←b.len,←h.ja];simp
 have d:=(jC.1 a).1;exact⟨_,yn η⟩
def j9.holdsAt(h:j9 r Ts Ns J){d:Nat}(a:d<5):J.jf.g d []=xz r d:=by
 rw[h.jf];simp[List.getD,a]
def Uz.hold{W d:Nat}(h:Uz r Ts Ns W J d)(q:fE r)(j:fJ r Ts W){x:Nat×Nat}(p:x∈xz r d):
  ∃l s,r.qc[x.1]?=Z l/\J.ja[x.1]?=Z s/\zK l d=true/\x.2=(yM l d).j/\x.2<3/\vL J x=true/\vK s.I/\s.I.r<=W/\∀v,TS s.I 0 (yz l J.P d++[v])=jU J x v:=by
 obtain⟨i,g⟩:=x;obtain⟨l,b,k,c⟩:=Ft p;obtain⟨s,a⟩:=h.stat.some j b;have m:(yM l (d+1)).j=g+1:=by rw[ny,zb k,c];simp
 have e:g<3:=by
  have:=oZ l (d+1);have:=q.v l (ft b);omega
 have f:=(jC.1 a).1;obtain⟨n,w,o⟩:=j.ok i l s.I b (h.stat.side a);refine⟨l,s,b,a,k,c,e,by simp[vL,f,e],n,o,λv=>?_⟩;obtain⟨y,t,u⟩:=h.B i l s b a;have:=t g η e;rw[c,show(yz l J.P d).G (yM l d).j=yz l J.P d by rw[←pZ l J.P d];exact uY] at this;rw[pK,this];unfold jU;simp only[List.getD,a,uE,Option.bind_some,TS,c];cases zJ s.I _ v<;>rfl
def iO(h:j9 r Ts Ns J)(k:Nat):vi J k=true↔∃x∈r.qx.zip Ns,vm x.1=k/\(uf x.2 (zH x.1 J.P)).I=true:=by
 unfold vi;rw[h.bars,List.any_map,fg];simp
def Uz.G{r:zu}{Ts Ns:List zl}{W:Nat}{J:zE}{d v:Nat}(h:Uz r Ts Ns W J d)(hr:fE r)(T:fJ r Ts W)(hd:d<r.m)(hv:∀x∈xz r d,(jU J x v).I=true)(hW:v<W):
  (uB J d v).P=J.P.set d v/\(∀i,i<d->(uB J d v).from.g i 0=J.from.g i 0)/\(uB J d v).from.g d 0=v+1/\(d+1<5->(uB J d v).from.g (d+1) 0=0)/\Uz r Ts Ns W (uB J d v) d/\(vi (uB J d v) (d+1)=false->Uz r Ts Ns W (uB J d v) (d+1)):=by
 have af:=hr.m;have ab:d<5:=η;have aa:=h.stat.vlen;have ae:=h.stat.flen;unfold uB;rw[za η,h.stat.holdsAt ab];obtain⟨R,e1,e2,V⟩:=En v (xz r d) {J with P:=J.P.set d v,«from»:=(if d+1<5 then(J.from.set d (v+1)).set (d+1) 0 else J.from.set d (v+1))} (E4 r d) (λx y=>by
  obtain⟨_,_,_,_,_,_,_,q,_⟩:=h.hold hr T y;unfold vL at q ⊢;exact q)
 rw[e1];simp only at e2 V ⊢;have B:∀i,i<d->(if d+1<5 then(J.from.set d (v+1)).set (d+1) 0 else J.from.set d (v+1)).g i 0=J.from.g i 0:=by
  intro i D;split;rw[uN,za η,uN,za η];rw[uN,za η]
 have L:(if d+1<5 then(J.from.set d (v+1)).set (d+1) 0 else J.from.set d (v+1)).g d 0=v+1:=by
  split;rw[uN,za η,uN,zb ⟨rfl,η⟩];rw[uN,zb ⟨rfl,η⟩]
 have A:R.w (·.I)=Ts:=by
  rw[←h.stat.ja];refine nI λi=>?_;simp only[mG];rcases j:J.ja[i]? with _|s;have:J.ja.j<=i:=List.getElem?_eq_none_iff.1 j;rw[gi η];rw[V i s j];simp only[jL,zt];rcases (xz r d).lookup i with _|lv;rfl;simp only[setDown];split<;>rfl
 have e:j9 r Ts Ns {J with ja:=R,P:=J.P.set d v,«from»:=(if d+1<5 then(J.from.set d (v+1)).set (d+1) 0 else J.from.set d (v+1))}:=⟨h.stat.g,h.stat.m,h.stat.jf,h.stat.ji,h.stat.last,h.stat.bars,A,by simpa using aa,by show(if d+1<5 then(J.from.set d (v+1)).set (d+1) 0 else J.from.set d (v+1)).j=5;split<;>simpa using ae⟩;have u:∀l:zw,yz l (J.P.set d v) d=yz l J.P d:=λl=>ef l λp w _=>by rw[uN,za η]
 have f:∀(i:Nat) (l:zw) (s b:xa),r.qc[i]?=Z l->J.ja[i]?=Z s->R[i]?=Z b->b.B.j=3/\(∀k,k<=(yM l d).j->k<3->TS b.I 0 ((yz l J.P d).G k)=Z (b.B.g k 0))/\(TS b.I 0 (yz l J.P d)).I=true/\(∀k,k<=(yM l (d+1)).j->k<3->TS b.I 0 ((yz l (J.P.set d v) (d+1)).G k)=Z (b.B.g k 0))/\(TS b.I 0 (yz l (J.P.set d v) (d+1))).I=true:=by
  intro i l s b g j a;obtain⟨n1,S,n3⟩:=h.B i l s g j;rw[V i s j] at a;by_cases H:zK l d=true;have G:=U6 g H;rw[RE (E4 r d) G] at a;simp only[zt] at a;obtain⟨l',s0,t,I,_,q4,q5,_,_,_,q9⟩:=h.hold hr T G;simp only at t I q5;rw[g] at t;rw[j] at I;simp only[zt] at t I;subst t;subst I;have E:=hv _ G;obtain⟨bb,F⟩:=lV.1 E;have z:=q9 v;rw[F] at z;have w:yz l (J.P.set d v) (d+1)=yz l J.P d++[v]:=by rw[E0 l _ _ _ η,zb H]
  have c:b.I=s.I:=by rw[←a];unfold setDown;split<;>rfl
  have Q:(yz l J.P d).j=(yM l d).j:=pZ _ _ _;have M:∀k,k<=(yM l d).j->b.B.g k 0=s.B.g k 0:=by
   intro k o;rw[←a];unfold setDown;split;rfl;rw[uN,za η]
  have ad:zJ s.I (s.B.g (yM l d).j 0) v=Z bb:=by
   unfold jU at F;simpa [List.getD,j] using F
  refine⟨by rw[←a];unfold setDown;split<;>simp[n1],λk o h3=>by rw[c,M k o];exact S k o h3,by rw[c];exact n3,λk o h3=>?_,by rw[c,w,z];rfl⟩;rw[c,w];rw[ny,zb H,yK,List.length_singleton] at o;by_cases P:k<=(yM l d).j;rw[List.take_append_of_le_length η,M k P];exact S k P h3;have:k=(yM l d).j+1:=η;subst this;rw[yV (by simp[Q]),z,←a];unfold setDown;rw[za η];simp only;rw[uN,zb ⟨rfl,η⟩,ad];rfl;have ac:∀lv,(i,lv)∉xz r d:=λlv G=>by
   obtain⟨l',t,I,_⟩:=Ft G;rw[g] at t;simp only[zt] at t;subst t;exact H I
  rw[Jd ac] at a;simp only[zt] at a;subst a;have w:yz l (J.P.set d v) (d+1)=yz l J.P d:=by rw[E0 l _ _ _ η,za H]
  have E:yM l (d+1)=yM l d:=by rw[ny,za H]
  exact⟨n1,S,n3,by rw[w,E];exact S,by rw[w];exact n3⟩
 have n:=fun(i:Nat) (l:zw) (b:xa) (g:r.qc[i]?=Z l) (_:R[i]?=Z b)=>h.stat.some T g;have K:∀x∈r.qx.zip Ns,vm x.1<=d->zH x.1 (J.P.set d v)=zH x.1 J.P:=λx _ o=>rc x.1 λp w=>by
  have:=wP x.1 w;rw[uN,za η]
 refine⟨trivial,B,L,λh5=>?_,⟨e,λi l b g a=>?_,λx y o=>?_,λi D=>?_,λi D=>?_⟩,λhb=>⟨e,λi l b g a=>?_,λx y o=>?_,λi D=>?_,λi D=>?_⟩⟩;rw[zb h5,uN,zb ⟨rfl,by simp;omega⟩];obtain⟨s,j⟩:=n i l b g a;obtain⟨a1,a2,a3,_,_⟩:=f i l s b g j a;exact⟨a1,by rw[u];exact a2,by rw[u];exact a3⟩;show uf x.2 (zH x.1 (J.P.set d v))=Y;rw[K x y o];exact h.nob x y o;show(if d+1<5 then _ else _:Φ).g i 0=(J.P.set d v).g i 0+1;rw[B i D,uN,za η];exact h.from i D;show(J.P.set d v).g i 0<W;rw[uN,za η];exact h.small i D;obtain⟨s,j⟩:=n i l b g a;obtain⟨a1,_,_,a4,a5⟩:=f i l s b g j a;exact⟨a1,a4,a5⟩;show uf x.2 (zH x.1 (J.P.set d v))=Y;by_cases N:vm x.1<=d;rw[K x y N];exact h.nob x y N;rcases G:uf x.2 (zH x.1 (J.P.set d v)) with _|m;rfl;have:=(iO e (d+1)).2 ⟨x,y,η,by show(uf x.2 (zH x.1 (J.P.set d v))).I=true;rw[G];rfl⟩;rw[hb] at this;cases this;show(if d+1<5 then _ else _:Φ).g i 0=(J.P.set d v).g i 0+1;by_cases C:i=d;subst C;rw[L,uN,zb ⟨rfl,η⟩];rw[B i η,uN,za η];exact h.from i η;show(J.P.set d v).g i 0<W;by_cases C:i=d;subst C;rw[uN,zb ⟨rfl,η⟩];exact hW;rw[uN,za η];exact h.small i η
end
section
variable {d W:Nat}{Ts Ns:List zl}
def Kh(d:Nat)(vals:List Nat)(f:Nat)(y:List Nat):Prop:=(∀p,p<d->y.g p 0=vals.g p 0)/\f<=y.g d 0∨∃i,i<d/\(∀p,p<i->y.g p 0=vals.g p 0)/\vals.g i 0<y.g i 0
def Vp(r:zu)(Ts Ns:List zl)(E:zk->Prop)(d:Nat)(vals:List Nat)(f:Nat):Prop:=∀y,jA r Ts Ns y->E (zH r.g y)∨Kh d vals f y
def Na{l:zw}{e:Nat}(a:∀p,zK l p=true->p<d)(b:d<=e):yM l e=yM l d:=by
 induction b with
 |refl=>rfl
 |@step m h c=>
  rw[ny,za (λq=>by have:=a _ q;have:d<=m:=h;omega),c]
def nR(d:Nat)(vals y:List Nat):List Nat:=(List.range 5).w λp=>if p<d then vals.g p 0 else y.g p 0
def oU(d:Nat)(vals y:Φ){p:Nat}(a:p<5):(nR d vals y).g p 0=if p<d then vals.g p 0 else y.g p 0:=by
 simp[nR,List.getD,a]
def Jy{T:zl}{a:Nat}{p q:zk}(h:(TS T a (p++q)).I=true):(TS T a p).I=true:=by
 rw[pK] at h;rcases b:TS T a p with _|x;rw[b] at h;cases h;rfl
def Uz.mix{r:zu}{J:zE}(h:Uz r Ts Ns W J d)(k:fE r)(w:fJ r Ts W)(D:d<=r.m){y:Φ}(n:jA r Ts Ns y)(z:∀p:Nat,(p:Int)<=xO r (d:Nat)->y.g p 0=J.P.g p 0):jA r Ts Ns (nR d J.P y)/\zH r.g (nR d J.P y)=zH r.g y:=by
 obtain⟨_,_,E,B,A⟩:=t7 r (je:=(d:Nat)) η;have C:=k.m;have m:∀{l:zw},(∀p,zK l p=true->p<r.m)->(∀p,zK l p=true->p<d)->∀p,zK l p=true->(nR d J.P y).g p 0=J.P.g p 0:=λg b p c=>by
  have:=g p c;rw[oU d _ _ η,zb (b p c)]
 have j:∀{l:zw},(∀p,zK l p=true->p<r.m)->(∀p,zK l p=true->p<d->(p:Int)<=xO r (d:Nat))->∀p,zK l p=true->(nR d J.P y).g p 0=y.g p 0:=λg b p c=>by
  have:=g p c;rw[oU d _ _ η];split;rename_i t;exact(z p (b p c t)).z;rfl
 refine⟨⟨λi l T g o=>⟨λq=>(n.1 i l T g o).1 q,λq=>?_⟩,λx u=>?_⟩,rc _ (j k.g λp c b=>by have:=Bv r.g (je:=((d:Nat):Int)) c η;omega)⟩;have a:=ft g;rcases F7 (B l a) with b|b;obtain⟨s,v⟩:=h.stat.some w g;have f:=h.stat.side v;rw[o] at f;simp only[zt] at f;have e:yz l (nR d J.P y) 5=yz l J.P d:=by
  rw[ef l (y:=J.P) λp _ c=>m (k.qc l a) b p c];unfold yz;rw[Na b η]
 rw[e,f];exact(h.B i l s g v).2.2;rw[ef l (y:=y) λp _ c=>j (k.qc l a) b p c];exact(n.1 i l T g o).2 q;have a:=(List.of_mem_zip u).1;rcases F7 (A x.1 a) with b|b;rw[rc x.1 (m (k.qx x.1 a) b)];exact h.nob x u (D8 x.1 b);rw[rc x.1 (j (k.qx x.1 a) b)];exact n.2 x u
def Uz.sol{r:zu}{J:zE}(h:Uz r Ts Ns W J d)(c:fE r)(t:fJ r Ts W)(w:d<r.m){y:Φ}(n:jA r Ts Ns y)(o:∀p,p<d->y.g p 0=J.P.g p 0):∀x∈xz r d,(jU J x (y.g d 0)).I=true:=by
 intro x g;obtain⟨l,s,f,u,b,_,_,_,_,_,m⟩:=h.hold c t g;have j:=c.m;have k:=h.stat.side u;have i:xe l≠0:=by
  rw[fV];intro q;have:d∈yM l 5:=(sq l 5 d).2 ⟨η,b⟩;rw[nU.1 q] at this;cases this
 have a:=(n.1 x.1 l s.I f k).2 i;rw[←m];have e:yz l J.P d++[y.g d 0]=yz l y (d+1):=by
  have:yz l y d=yz l J.P d:=ef l λp v _=>o p v;unfold yz at this ⊢;rw[ny,zb b,qF,this];rfl
 rw[e,Az l y (show d+1<=5 by omega)];unfold uA at a;rw[←jQ (yM l (d+1)).j (yz l y 5)] at a;exact Jy a
def rU(W:Nat):Nat->Nat
 |0=>1
 |j+1=>W*(1+rU W j)+1
def lS(W vars d f:Nat):Nat:=(W-f)*(1+rU W (vars-d-1))+1
def f8(W vars:Nat)(vals:List Nat):Nat->Nat
 |0=>0
 |d+1=>f8 W vars vals d+lS W vars d (vals.g d 0+1)
def vT(W vars d:Nat)(vals:List Nat)(f:Nat):Nat:=f8 W vars vals d+if d<vars then lS W vars d f else 1
def EH(W vars:Nat){x y:Φ}:∀d,(∀p,p<d->x.g p 0=y.g p 0)->f8 W vars x d=f8 W vars y d
 |0,_=>rfl
 |d+1,h=>by simp only[f8];rw[EH W vars d (λp a=>h p η),h d η]
def IC(W vars:Nat)(vals:Φ){a b:Nat}(h:a<=b):f8 W vars vals a<=f8 W vars vals b:=by
 induction h with
 |refl=>exact zf _
 |step h c=>simp only[f8];omega
def Lq{vars f v:Nat}{vals:Φ}(a:d<vars)(c:d<vals.j)(l:f<=v)(k:v<W):vT W vars (d+1) (vals.set d v) 0<vT W vars d vals f/\vT W vars d (vals.set d v) (v+1)<vT W vars d vals f:=by
 have b:f8 W vars (vals.set d v) d=f8 W vars vals d:=EH W vars d λp m=>by rw[uN,za η]
 have h:(vals.set d v).g d 0=v:=by rw[uN,zb ⟨rfl,c⟩]
 have e:(if d+1<vars then lS W vars (d+1) 0 else 1)=rU W (vars-d-1):=by
  split;obtain⟨j,g⟩:∃j,vars-d-1=j+1:=⟨vars-d-2,η⟩;rw[g];unfold lS;rw[show vars-(d+1)-1=j by omega,Nat.sub_zero];rfl;rw[show vars-d-1=0 by omega];rfl
 have i:lS W vars d f=lS W vars d (v+1)+(v+1-f)*(1+rU W (vars-d-1)):=by
  unfold lS;rw[show W-f=(W-(v+1))+(v+1-f) by omega,mm];omega
 have n:1*(1+rU W (vars-d-1))<=(v+1-f)*(1+rU W (vars-d-1)):=fK _ η;refine⟨?_,?_⟩;unfold vT;rw[zb a,e];simp only[f8];rw[b,h];omega;unfold vT;rw[zb a,zb a,b];omega
def EZ(W vars d:Nat)(vals:Φ)(f:Nat):1<=vT W vars d vals f:=by
 unfold vT;split;unfold lS;omega;omega
def FA{vars b f:Nat}{vals:Φ}(e:d<=vars)(g:b<d):vT W vars b vals (vals.g b 0+1)<vT W vars d vals f:=by
 have a:vT W vars b vals (vals.g b 0+1)=f8 W vars vals (b+1):=by
  unfold vT;rw[zb η];rfl
 have h:=IC W vars vals (show b+1<=d by omega);have c:1<=if d<vars then lS W vars d f else 1:=by
  split;unfold lS;omega;omega
 rw[a];unfold vT;omega
def IA(r:zu)(Ts Ns:List zl)(W:Nat)(E:zk->Prop)(M:Nat)(a:zE):Bool->Prop
 |true=>Uz r Ts Ns W a r.m/\Vp r Ts Ns E r.m a.P 0/\vT W r.m r.m a.P 0<=M
 |false=>(∀y,jA r Ts Ns y->E (zH r.g y))/\j9 r Ts Ns a
def j9.ok{r:zu}{Ts Ns:List zl}{W:Nat}{J:zE}(h:j9 r Ts Ns J)(e:fJ r Ts W):Bn J:=by
 intro i;rcases b:J.ja[i]? with _|s;have:J.ja.g i xa.zero=xa.zero:=by simp[List.getD,b]
 rw[this];intro a j;simp[xa.zero] at j;have:J.ja.g i xa.zero=s:=by simp[List.getD,b]
 rw[this];have c:=h.side b;have f:i<r.qc.j:=by rw[←e.len];exact(jC.1 c).1
 obtain⟨⟨g,hinv⟩,_⟩:=(e.ok i _ _ (yn f) c).1;exact hinv.node
def J0{r:zu}(G:fE r)(I:fJ r Ts W)(E:zk->Prop)(A:Nat)(hA:W*(r.qc.j+1)+r.qc.j<=A):
  ∀(n:Nat) (J:zE) (d f:Nat),Uz r Ts Ns W J d->d<=r.m->(d<r.m->J.from.g d 0=f)->Vp r Ts Ns E d J.P f->vT W r.m d J.P f+A<n->∃L b,jF n J (d:Nat)=Z (L,b)/\IA r Ts Ns W E (vT W r.m d J.P f) L b:=by
 intro n;induction n with
 |zero=>intro J d f _ _ _ _ h;omega
 |succ n ih=>
  intro J d f h hd af hL hn;have av:=G.m;have ao:=EZ W r.m d J.P f;unfold jF;have S:=h.stat.m;by_cases k:d<r.m;rw[zb ⟨η,by rw[S];omega,η⟩];simp only[Int.toNat_natCast];have a:=h.stat.holdsAt (show d<5 by omega);have ac:J.jf.g d []≠[]:=by
   rw[a];obtain⟨l,ag,ah⟩:=G.safe d k;obtain⟨i,hi,rfl⟩:=vh ag;intro q;have:=U6 (yn hi) ah;rw[q] at this;cases this
  have an:(xz r d).j<=r.qc.j:=by
   unfold xz;refine zY (tq _ _) ?_;simp
  have aq:W*((xz r d).j+1)+(xz r d).j<=A:=by
   have:W*((xz r d).j+1)<=W*(r.qc.j+1):=nB _ η;omega
  obtain⟨D,aj,a1,a2,a3⟩:=OF W J d (J.from.g d 0) n η (h.stat.ok I) ac (by
   rw[a];intro x B;obtain⟨_,_,_,_,_,_,_,q,_⟩:=h.hold G I B;exact q) (by
   rw[a];intro x B v hv;obtain⟨l,s,_,u,_,_,_,_,_,q8,_⟩:=h.hold G I B;unfold jU at hv;obtain⟨b,C⟩:=lV.1 hv;have:=(ln C).2;rw[show J.ja.g x.1 xa.zero=s by simp[List.getD,u]] at this;omega) (by rw[a];omega)
  rw[a] at a3;rw[af k] at a1 a3;rw[af k,a1];have h1:=h.same a2;have j:D.P=J.P:=by rw[a2]
  have Q:D.from=J.from:=by rw[a2]
  have P:=λx v=>Jo a2 x v;rcases aj with _|v;simp only;have am:D.ji.g d 0=xO r (d:Nat):=by rw[h1.stat.ji];simp[List.getD,show d<5 by omega]
  rw[am];obtain⟨b1,b2,b3,b4,b5⟩:=t7 r (je:=((d:Nat):Int)) η;have F:∀y,jA r Ts Ns y->(∀p:Nat,(p:Int)<=xO r (d:Nat)->y.g p 0=J.P.g p 0)->E (zH r.g y):=by
   intro y m ha;obtain⟨m1,m2⟩:=h.mix G I hd m ha;have M:∀p,p<d->(nR d J.P y).g p 0=J.P.g p 0:=λp o=>by rw[oU d _ _ η,zb o]
   rw[←m2];rcases hL _ m1 with q|⟨_,q⟩|⟨i,g,_,N⟩;exact q;obtain⟨x,B,R⟩:=a3 _ q;have:=h.sol G I k m1 M x B;rw[R] at this;cases this;rw[M i g] at N;omega
  by_cases ap:xO r (d:Nat)<0;have ak:xO r (d:Nat)=-1:=η;rw[ak];rcases n with _|n;omega;refine⟨D,false,?_,?_,h1.stat⟩;unfold jF;rw[za η];have:¬((-1:Int)≥(D.m:Int)):=η;simp[this];intro y m;exact F y m λp o=>η;obtain⟨b,C⟩:∃b:Nat,xO r (d:Nat)=(b:Int):=⟨(xO r (d:Nat)).D,η⟩;rw[C] at F b1 ⊢;have ab:b<d:=η;have hM:=FA (W:=W) (vars:=r.m) (f:=f) (vals:=J.P) hd ab;obtain⟨L,K,s1,t⟩:=ih D b (J.P.g b 0+1) (h1.back η) η (λ_=>by rw[Q,h.from b ab]) (by
   rw[j];intro y m;rcases hL y m with q|⟨g,u⟩|⟨i,g,u,N⟩;exact zh q;exact zh (F y m λp o=>g p η);by_cases ar:i<=b;refine ze ?_;by_cases ad:i=b;subst ad;exact zh ⟨u,η⟩;exact ze ⟨i,η,u,N⟩;exact zh (F y m λp o=>u p η)) (by rw[j];omega)
  refine⟨L,K,s1,?_⟩;rw[j] at t;cases K;exact t;exact⟨t.1,t.2.1,by have:=t.2.2;omega⟩;simp only;obtain⟨c1,c2,c3⟩:=a3;have ae:v<W:=by
   obtain⟨x,B⟩:=List.exists_mem_of_ne_nil _ (a ▸ ac);obtain⟨l,s,_,u,_,_,_,_,_,q8,_⟩:=h.hold G I B;have hv:=c2 x B;unfold jU at hv;obtain⟨b,C⟩:=lV.1 hv;have:=(ln C).2;rw[show J.ja.g x.1 xa.zero=s by simp[List.getD,u]] at this;omega
  obtain⟨H,t2,t3,t4,t5,t6⟩:=h1.G G I k (v:=v) (λx B=>by rw[P];exact c2 x B) ae;rw[j] at H;have aa:d<J.P.j:=by rw[h.stat.vlen];omega
  obtain⟨m1,m2⟩:=Lq (W:=W) (vars:=r.m) (f:=f) (vals:=J.P) k aa c1 ae;have z:∀y,jA r Ts Ns y->(∀p,p<d->y.g p 0=J.P.g p 0)->f<=y.g d 0->v<=y.g d 0:=by
   intro y m ha hq;false_or_by_contra
   rename_i au;obtain⟨x,B,R⟩:=c3 (y.g d 0) hq η;have:=h.sol G I k m ha x B;rw[R] at this;cases this
  have c:∀p,p<d->(J.P.set d v).g p 0=J.P.g p 0:=λp o=>by rw[uN,za η]
  have w:(J.P.set d v).g d 0=v:=by rw[uN,zb ⟨rfl,aa⟩]
  by_cases C:vi (uB D d v) (d+1)=true;rw[zb C];obtain⟨x,B,hk,hm⟩:=(iO t5.stat (d+1)).1 C;rw[H] at hm;obtain⟨L,K,s1,t⟩:=ih (uB D d v) d (v+1) t5 hd (λ_=>t3) (by
   rw[H];intro y m;rcases hL y m with q|⟨g,u⟩|⟨i,g,u,N⟩;exact zh q;have ai:=z y m g u;by_cases T:y.g d 0=v;have:=m.2 x B;rw[rc x.1 (y:=J.P.set d v) λp o=>?_] at this;rw[this] at hm;cases hm;have aw:=wP x.1 o;by_cases V:p=d;rw[V,w,T];rw[c p η,g p η];exact ze (zh ⟨λp o=>by rw[c p o];exact g p o,η⟩);exact ze (ze ⟨i,g,λp o=>by rw[c p η];exact u p o,by rw[c i g];exact N⟩)) (by rw[H];omega)
  refine⟨L,K,s1,?_⟩;rw[H] at t;cases K;exact t;exact⟨t.1,t.2.1,by have:=t.2.2;omega⟩;rw[za C];have C:vi (uB D d v) (d+1)=false:=by simpa using C
  have e:((d:Nat):Int)+1=((d+1:Nat):Int):=η;rw[e];obtain⟨L,K,s1,t⟩:=ih (uB D d v) (d+1) 0 (t6 C) η (λ_=>t4 η) (by
   rw[H];intro y m;rcases hL y m with q|⟨g,u⟩|⟨i,g,u,N⟩;exact zh q;have ai:=z y m g u;by_cases T:y.g d 0=v;refine ze (zh ⟨λp o=>?_,zs _⟩);by_cases V:p=d;rw[V,w,T];rw[c p η];exact g p η;exact ze (ze ⟨d,η,λp o=>by rw[c p o];exact g p o,by rw[w];omega⟩);exact ze (ze ⟨i,η,λp o=>by rw[c p η];exact u p o,by rw[c i g];exact N⟩)) (by rw[H];omega)
  refine⟨L,K,s1,?_⟩;rw[H] at t;cases K;exact t;exact⟨t.1,t.2.1,by have:=t.2.2;omega⟩;have al:d=r.m:=η;subst al;rw[za (by rw[S];omega)];refine⟨J,true,by simp[S],h,?_,?_⟩;intro y m;rcases hL y m with q|⟨g,_⟩|q;exact zh q;exact ze (zh ⟨g,zs _⟩);exact ze (ze q);unfold vT;rw[za k,za k];exact zf _
end
def pH(r:zu)(a Ns:List zl)(W:Nat)(E:zk->Prop)(J:zE)(M:Nat):Prop:=
 J.ql=-1/\j9 r a Ns J/\(∀y,jA r a Ns y->E (zH r.g y))∨(∀(i:Nat) (T:zl),a[i]?=Z T->T.count≠0)/\∃(d f:Nat),J.ql=(d:Nat)/\d<=r.m/\Uz r a Ns W J d/\(d<r.m->J.from.g d 0=f)/\Vp r a Ns E d J.P f/\vT W r.m d J.P f<=M
def tD{d:Nat}(c:d≠0)(e:d<=3):xv d=d:=by unfold xv;by_cases a:d<1<;>by_cases b:d>3<;>simp[a,b]<;>omega
def eM.count{T:zl}{l:zw}{y:Φ}(h:eM T l y)(d:vK T)(e:T.ql=xv (xe l))(g:l.v.j<=3):T.count≠0:=by
 by_cases a:xe l=0;exact h.1 a;have b:=h.2 a;have f:=oZ l 5;rw[←fV] at f;have c:=(qN T _).2 ⟨by rw[pZ,←fV,e,tD a η],b⟩;have:=pd c;rw[d.cnt] at this;omega
def nN(r:zu)(qc qx:List zl):zE:={g:=r.g,m:=r.m,ja:=qc.w (λT=>⟨T,[0,0,0]⟩),bars:=(r.qx.zip qx).w (λx=>⟨x.1,vm x.1,x.2⟩),jf:=(List.range 5).w (xz r),ji:=(List.range 5).w (λp=>xO r (p:Nat)),last:=xO r r.m,P:=[0,0,0,0,0],«from»:=[0,0,0,0,0],ql:=if qc.any (λT=>T.count == 0) then -1 else 0,jg:=0}
def Pd(r:zu)(a Ns:List zl):xK r a Ns=if vi (nN r a Ns) 0 then{nN r a Ns with ql:=-1} else nN r a Ns:=rfl
def oI(r:zu)(a Ns:List zl):∃c,xK r a Ns={nN r a Ns with ql:=c}/\c=if vi (xK r a Ns) 0=true then -1 else if a.any (λT=>T.count == 0)=true then -1 else 0:=by
 have d:∀c:Int,vi {nN r a Ns with ql:=c} 0=vi (nN r a Ns) 0:=λ_=>rfl;rw[Pd];by_cases b:vi (nN r a Ns) 0=true;rw[zb b];exact⟨-1,rfl,by rw[d,zb b]⟩;rw[za b];exact⟨_,rfl,by rw[za b]⟩
def So(r:zu)(a Ns:List zl):j9 r a Ns (xK r a Ns)/\(xK r a Ns).P=[0,0,0,0,0]/\(xK r a Ns).from=[0,0,0,0,0]/\(xK r a Ns).ja=a.w (λT=>⟨T,[0,0,0]⟩):=by
 obtain⟨b,h,_⟩:=oI r a Ns;rw[h];exact⟨⟨rfl,rfl,rfl,rfl,rfl,rfl,by simp[nN,Function.comp_def],rfl,rfl⟩,rfl,rfl,rfl⟩
def KP{r:zu}{b Ns:List zl}{W:Nat}(I:fE r)(C:fJ r b W)(E:zk->Prop):pH r b Ns W E (xK r b Ns) (vT W r.m 0 [] 0):=by
 obtain⟨c,J,A,w⟩:=So r b Ns;have d:(∃(i:Nat) (T:zl),b[i]?=Z T/\T.count=0)->∀y,¬jA r b Ns y:=by
  rintro⟨i,T,g,o⟩ y f;have j:i<r.qc.j:=by rw[←C.len];exact(jC.1 g).1
  have v:=yn j;obtain⟨F,H,_⟩:=C.ok i _ T v g;exact(f.1 i _ T v g).count F H (I.v _ (ft v)) o
 have e:vi (xK r b Ns) 0=true->∀y,¬jA r b Ns y:=by
  intro h y f;obtain⟨x,B,q,u⟩:=(iO c 0).1 h;have:=f.2 x B;rw[rc x.1 (y:=(xK r b Ns).P) λp n=>by have:=wP x.1 n;omega] at this;rw[this] at u;cases u
 have a:(xK r b Ns).ql=if vi (xK r b Ns) 0=true then -1 else if b.any (λT=>T.count == 0)=true then -1 else 0:=by
  obtain⟨K,g,o⟩:=oI r b Ns;rw[←o,g]
 by_cases h:vi (xK r b Ns) 0=true;left;rw[zb h] at a;exact⟨a,c,λy f=>zC f (e h y)⟩;rw[za h] at a;by_cases t:b.any (λT=>T.count == 0)=true;left;rw[zb t] at a;refine⟨a,c,λy f=>zC f (d ?_ y)⟩;obtain⟨T,g,o⟩:=fg.1 t;obtain⟨i,j,rfl⟩:=vh g;exact⟨i,_,yn j,by simpa using o⟩;right;rw[za t] at a;refine⟨λi T D G=>t (fg.2 ⟨T,ft D,by simp[G]⟩),0,0,a,zs _,⟨c,λi l s v z=>?_,λx B q=>?_,λi j=>η,λi j=>η⟩,λ_=>by rw[A];rfl,λy _=>ze (zh ⟨λp n=>η,zs _⟩),?_⟩;rw[w] at z;simp only[mG,qq] at z;obtain⟨T,D,rfl⟩:=z;have n:yz l (xK r b Ns).P 0=[]:=rfl;refine⟨rfl,λk q L=>?_,by rw[n];rfl⟩;have:k=0:=by simp[yM] at q;exact q
 subst this;rw[n];rfl;rcases u:uf x.2 (zH x.1 (xK r b Ns).P) with _|m;rfl;exact zC ((iO c 0).2 ⟨x,B,η,by rw[u];rfl⟩) h;unfold vT;exact zf _
def IJ{r:zu}{u Ns:List zl}{W:Nat}(B:fE r)(P:fJ r u W)(E:zk->Prop)(A:Nat)(hA:W*(r.qc.j+1)+r.qc.j<=A)(n:Nat)(J:zE)(M:Nat)(h:pH r u Ns W E J M)(hn:M+A+1<n):
  ∃e b,ly n J=Z (e,b)/\(b=false->∀y,jA r u Ns y->E (zH r.g y))/\(b=true->jA r u Ns e.P/\e.g=r.g/\∃V,V<M/\pH r u Ns W (λx=>E x∨x=zH r.g e.P) e V):=by
 unfold ly;rcases h with⟨F,h2,I⟩|⟨t,d,f,F,h2,I,h4,h5,h6⟩
 rw[F];obtain⟨k,rfl⟩:∃k,n=k+1:=⟨n-1,η⟩;refine⟨{J with ql:=-1},false,?_,λ_=>I,λq=>by cases q⟩;unfold jF;have:¬((-1:Int)≥(J.m:Int)):=η;simp[this];rw[F];obtain⟨e,b,s1,S⟩:=J0 B P E A hA n J d f I h2 h4 h5 η;rw[s1];simp only;cases b;exact⟨_,false,rfl,λ_=>S.1,λq=>by cases q⟩;obtain⟨c,t2,t3⟩:=S;have K:=B.m;have z:jA r u Ns e.P:=by
  refine⟨λi l T H hT=>⟨λ_=>t i T hT,λ_=>?_⟩,λx hx=>?_⟩;obtain⟨s,R⟩:=c.stat.some P H;have m:=c.stat.side R;rw[hT] at m;simp only[zt] at m;rw[Kz K (B.qc l (ft H)),m];exact(c.B i l s H R).2.2;exact c.nob x hx (D8 x.1 (B.qx x.1 (List.of_mem_zip hx).1))
 refine⟨_,true,rfl,λq=>(by cases q),λ_=>⟨z,c.stat.g,?_⟩⟩;obtain⟨b1,b2,b3,_,_⟩:=t7 r (je:=((r.m:Nat):Int)) η;have j:=c.stat.last;have v:∀y,(∀p:Nat,(p:Int)<=xO r (r.m:Nat)->y.g p 0=e.P.g p 0)->zH r.g y=zH r.g e.P:=λy ha=>rc r.g λp C=>ha p (by
  have F:=B.g p C;have:=Bv r.g (je:=((r.m:Nat):Int)) C η;omega)
 have g:j9 r u Ns {e with ql:=e.last}:=⟨c.stat.g,c.stat.m,c.stat.jf,c.stat.ji,c.stat.last,c.stat.bars,c.stat.ja,c.stat.vlen,c.stat.flen⟩;have Q:=EZ W r.m d J.P f;by_cases aa:xO r (r.m:Nat)<0;refine⟨M-1,η,zh ⟨by show e.last=-1;rw[j];omega,g,λy N=>?_⟩⟩;exact ze (v y λp C=>η);obtain⟨o,hb⟩:∃b:Nat,xO r (r.m:Nat)=(b:Int):=⟨(xO r (r.m:Nat)).D,η⟩;have w:o<r.m:=η;have hM:=FA (W:=W) (vars:=r.m) (f:=0) (vals:=e.P) (zf _) w;have a:=c.back (b:=o) η;refine⟨vT W r.m o e.P (e.P.g o 0+1),η,ze ⟨t,o,e.P.g o 0+1,by show e.last=_;rw[j,hb],η,⟨g,a.B,a.nob,a.from,a.small⟩,λ_=>c.from o w,λy N=>?_,zf _⟩⟩;rcases t2 y N with q|⟨L,_⟩|⟨i,L,G,q3⟩;exact zh (zh q);exact zh (ze (v y λp C=>L p η));by_cases ab:i<=o;refine ze ?_;by_cases D:i=o;subst D;exact zh ⟨G,η⟩;exact ze ⟨i,η,G,q3⟩;exact zh (ze (v y λp C=>G p η))
section
variable {l:zw}{W:Nat}
structure qA (l:zw) (a W:Nat):Prop where
 len:l.v.j=a
 le3:a<=3
 lev:∀t∈l.v,t.var=true->t.z<5/\xd l t.z=Z t.w
 con:∀t∈l.v,t.var=false->t.z<W
def T1(a:Nat)(row:zk):Prop:=row.j=3/\∀i,a<=i->row.g i 0=0
def tK(l:zw)(y:Φ){i:Nat}(a:i<3):(zH l y).g i 0=Tk l y i:=by
 match i,a with
 |0,_=>rfl
 |1,_=>rfl
 |2,_=>rfl
def eL{a:Nat}(h:qA l a W)(y:Φ):T1 a (zH l y):=by
 refine⟨rfl,λi c=>?_⟩;by_cases b:i<3;rw[tK l y b];unfold Tk;rw[za (by rw[h.len];omega)];simp[List.getD,zH];rw[gi υ];rfl
def CS{a:Nat}{x y:zk}(c:T1 a x)(d:T1 a y)(h:∀i,i<a->i<3->x.g i 0=y.g i 0):x=y:=by
 refine jv (by rw[c.1,d.1]) λi b g=>?_;have e:x.g i 0=y.g i 0:=by
  by_cases f:i<a;exact h i f (by rw[c.1] at b;exact b);rw[c.2 i η,d.2 i η]
 simpa [List.getD,b,g] using e
def OS{p d:Nat}(b:zK l p=true)(c:p<d):(yM l d)[(yM l p).j]?=Z p:=by
 obtain⟨t,a⟩:=BT l (show p+1<=d by omega);rw[←a,ny,zb b];simp
def eW{p j:Nat}(h:xd l p=Z j)(b:p<5):(yM l 5)[j]?=Z p:=by
 rw[AW] at h;split at h;rename_i a;simp only[zt] at h;subst h;exact OS a b;cases h
def Bp{p j:Nat}(h:xd l p=Z j)(a:p<5):j<xe l:=by
 have:=eW h a;rw[fV];exact(jC.1 this).1
def Bu{a:Nat}(h:qA l a W):xe l<=3:=by
 have:=oZ l 5;rw[fV];have:=h.len;have:=h.le3;omega
def qA.leveled{l:zw}{a W:Nat}(h:qA l a W){t:yh}(c:t∈l.v):leveled t=t.var:=by
 unfold Go.Proofs.YteampbddflhngaaGreat.leveled;cases e:t.var;rfl;obtain⟨b,d⟩:=h.lev t c e;have:=Bp d b;have:=Bu h;simp;omega
def rR(l:zw)(row f:zk)(i:Nat):(qW l row f i).j=f.j:=by unfold qW;split<;>simp
def wh(l:zw)(row:zk):(uH l row).j=3:=by unfold uH;rw[rR,rR,rR];rfl
def ow{row:zk}{g:Nat->Nat}(v:∀i (c:i<l.v.j),leveled l.v[i]=true->row.g i 0=g l.v[i].w){f:zk}{m:Nat}(t:f.j=3)
  (u:∀j,j<3->(f.g j 0=g j∨f.g j 0=0)/\((∃i,∃c:i<l.v.j,i<m/\leveled l.v[i]=true/\l.v[i].w=j)->f.g j 0=g j)/\((¬∃i,∃c:i<l.v.j,leveled l.v[i]=true/\l.v[i].w=j)->f.g j 0=0)):
  ∀j,j<3->((qW l row f m).g j 0=g j∨(qW l row f m).g j 0=0)/\((∃i,∃c:i<l.v.j,i<m+1/\leveled l.v[i]=true/\l.v[i].w=j)->(qW l row f m).g j 0=g j)/\((¬∃i,∃c:i<l.v.j,leveled l.v[i]=true/\l.v[i].w=j)->(qW l row f m).g j 0=0):=by
 intro j r;obtain⟨p,n,o⟩:=u j r;unfold qW;by_cases b:m<l.v.j/\leveled (l.v.g m ⟨false,0,0⟩)=true;rw[zb b];have e:l.v.g m ⟨false,0,0⟩=l.v[m]'b.1:=by simp[List.getD,b.1]
 rw[e] at b ⊢;rw[uN];by_cases a:l.v[m].w=j/\l.v[m].w<f.j;rw[zb a];have:=v m b.1 b.2;rw[a.1] at this;exact⟨zh this,λ_=>this,λq=>zC ⟨m,b.1,b.2,a.1⟩ q⟩;rw[za a];refine⟨p,?_,o⟩;rintro⟨i,c,s,k,h⟩;by_cases d:i=m;subst d;exact zC ⟨h,by rw[h,t];exact r⟩ a;exact n ⟨i,c,η,k,h⟩;rw[za b];refine⟨p,?_,o⟩;rintro⟨i,c,s,k,h⟩;by_cases d:i=m;subst d;exact zC ⟨c,by simpa [List.getD,c] using k⟩ b;exact n ⟨i,c,η,k,h⟩
def Kt{a:Nat}(h:qA l a W){row:zk}{g:Nat->Nat}(d:∀i (b:i<l.v.j),leveled l.v[i]=true->row.g i 0=g l.v[i].w)(j:Nat)(c:j<3):((∃i,∃b:i<l.v.j,leveled l.v[i]=true/\l.v[i].w=j)->(uH l row).g j 0=g j)/\((¬∃i,∃b:i<l.v.j,leveled l.v[i]=true/\l.v[i].w=j)->(uH l row).g j 0=0):=by
 have k:∀j,j<3->((([0,0,0]:zk).g j 0=g j∨([0,0,0]:zk).g j 0=0)/\((∃i,∃b:i<l.v.j,i<0/\leveled l.v[i]=true/\l.v[i].w=j)->([0,0,0]:zk).g j 0=g j)/\((¬∃i,∃b:i<l.v.j,leveled l.v[i]=true/\l.v[i].w=j)->([0,0,0]:zk).g j 0=0)):=by
  intro j c;have e:([0,0,0]:zk).g j 0=0:=by
   match j,c with
   |0,_=>rfl
   |1,_=>rfl
   |2,_=>rfl
  exact⟨ze e,fun⟨i,_,q,_⟩=>η,λ_=>e⟩
 have f:=ow d rfl k;have s:=ow d (by rw[rR];rfl) f;have r:=ow d (by rw[rR,rR];rfl) s;obtain⟨_,n,o⟩:=r j c;refine⟨fun⟨i,b,p,m⟩=>n ⟨i,b,?_,p,m⟩,o⟩;have:=h.len;have:=h.le3;omega
def Iq{a:Nat}(h:qA l a W){row f:zk}:xW l row=Z f↔f=uH l row/\∀i (b:i<l.v.j),kh l.v[i] (row.g i 0) (uH l row)=true:=by
 have c:(xU l row (uH l row) 0&&xU l row (uH l row) 1&&xU l row (uH l row) 2)=true↔∀i (b:i<l.v.j),kh l.v[i] (row.g i 0) (uH l row)=true:=by
  have e:∀i,xU l row (uH l row) i=true↔∀b:i<l.v.j,kh l.v[i] (row.g i 0) (uH l row)=true:=by
   intro i;unfold xU;simp only[fX,decide_eq_true_eq];constructor;rintro(q|q) b;omega;simpa [List.getD,b] using q;intro q;by_cases b:i<l.v.j;exact ze (by simpa [List.getD,b] using q b);exact zh η
  simp only[uI,e];constructor;rintro⟨⟨m,j⟩,k⟩ i b;have:=h.len;have:=h.le3;have g:i=0∨i=1∨i=2:=η;rcases g with rfl|rfl|rfl;exact m b;exact j b;exact k b;intro q;exact⟨⟨λb=>q 0 b,λb=>q 1 b⟩,λb=>q 2 b⟩
 unfold xW;by_cases d:(xU l row (uH l row) 0&&xU l row (uH l row) 1&&xU l row (uH l row) 2)=true;rw[zb d];simp only[zt];exact⟨λq=>⟨q.z,c.1 d⟩,λq=>q.1.z⟩;rw[za d];constructor;intro q;cases q;intro q;exact zC (c.2 q.2) d
def Nk{l:Φ}(h:l.Nodup){i j:Nat}(c:i<l.j)(a:j<l.j)(e:l[i]=l[j]):i=j:=by
 have b:=pM.1 h;rcases rf i j with q|q|q;exact zC e (b i j c a q);exact q;exact zC e.z (b j i a c q)
def QG{a:Nat}(h:qA l a W)(y:Φ):∃f,xW l (zH l y)=Z f/\f.j=3/\f.G (xe l)=yz l y 5/\∀j,xe l<=j->f.g j 0=0:=by
 have q:∀i (b:i<l.v.j),(zH l y).g i 0=U1 l.v[i] y:=λi b=>by
  have:=h.len;have:=h.le3;rw[tK l y η];unfold Tk;simp[List.getD,b]
 have x:∀i (b:i<l.v.j),leveled l.v[i]=true->(zH l y).g i 0=(yz l y 5).g l.v[i].w 0:=λi b c=>by
  have n:=zq b;rw[h.leveled n] at c;obtain⟨r,o⟩:=h.lev _ n c;rw[q i b];unfold U1;rw[zb (by simp[c,r])];have:=eW o r;unfold yz;simp[List.getD,this]
 have s:=λj k=>Kt h (row:=zH l y) (g:=λj=>(yz l y 5).g j 0) x j k;have p:∀i (b:i<l.v.j),leveled l.v[i]=true->l.v[i].w<xe l:=λi b c=>by
  have n:=zq b;rw[h.leveled n] at c;obtain⟨r,o⟩:=h.lev _ n c;exact Bp o r
 have z:=Bu h;have m:∀j,xe l<=j->(uH l (zH l y)).g j 0=0:=λj k=>by
  by_cases G:j<3;exact(s j G).2 fun⟨i,b,A,J⟩=>by have:=p i b A;omega
  have:=wh l (zH l y);simp[List.getD,List.getElem?_eq_none (show(uH l (zH l y)).j<=j by omega)]
 have d:∀j,j<xe l->(uH l (zH l y)).g j 0=(yz l y 5).g j 0:=λj k=>by
  refine(s j η).1 ?_;rw[fV] at k;have F:=zq k;obtain⟨I,H⟩:=(sq l 5 _).1 F;obtain⟨t,u,w,B⟩:=(fH l _).1 H;obtain⟨i,b,rfl⟩:=vh u;refine⟨i,b,by rw[h.leveled u];exact w,?_⟩;obtain⟨E,D⟩:=h.lev _ u w;have:=eW D E;rw[B] at this;obtain⟨C,e⟩:=jC.1 this;exact Nk (List.nodup_range.filter _:(yM l 5).Nodup) C k e
 refine⟨uH l (zH l y),(Iq h).2 ⟨rfl,λi b=>?_⟩,wh _ _,?_,m⟩;unfold kh;have n:=zq b;cases c:leveled l.v[i];rw[za ζ,q i b];rw[h.leveled n] at c;unfold U1;rw[za (by simp[c])];simp;rw[zb rfl,d _ (p i b c),x i b c];simp;refine jv (by rw[vd,wh,pZ,←fV];omega) λj r o=>?_;have k:j<xe l:=by rw[pZ,←fV] at o;exact o
 have:=d j k;have v:j<(uH l (zH l y)).j:=by rw[wh];omega
 simp only[List.getD,yn v,yn o,uE] at this;rw[List.getElem_take];exact this
def Ia{a:Nat}(h:qA l a W){row f:zk}(t:T1 a row)(p:xW l row=Z f)(y:Φ)(r:f.G (xe l)=yz l y 5):row=zH l y:=by
 obtain⟨rfl,j⟩:=(Iq h).1 p;refine CS t (eL h y) λi q s=>?_;have c:i<l.v.j:=by rw[h.len];exact q
 have b:=zq c;have d:=j i c;rw[tK l y s];unfold Tk;rw[zb c,show l.v.g i ⟨false,0,0⟩=l.v[i] by simp[List.getD,c]];unfold kh at d;unfold U1;cases g:leveled l.v[i];rw[g,za ζ] at d;rw[h.leveled b] at g;rw[za (by simp[g])];exact(by simpa using d:l.v[i].z=row.g i 0).z;rw[g,zb rfl] at d;rw[h.leveled b] at g;obtain⟨m,o⟩:=h.lev _ b g;rw[zb (by simp[g,m])];have n:=Bp o m;have k:=eW o m;have e:(uH l row).g l.v[i].w 0=((uH l row).G (xe l)).g l.v[i].w 0:=by
  simp[List.getD,n]
 rw[e,r] at d;unfold yz at d;simp only[List.getD,mG,k,jL,uE,beq_iff_eq] at d;exact d.z
end
section
variable {W:Nat}{l:zw}{T:zl}
def TH(W:Nat)(row:zk):Prop:=∀v∈row,v<W
def Jp{row:zk}(h:TH W row)(b:0<W)(i:Nat):row.g i 0<W:=by
 by_cases a:i<row.j;rw[show row.g i 0=row[i] by simp[List.getD,a]];exact h _ (zq a);rw[show row.g i 0=0 by simp[List.getD,a]];exact b
def oV{row f:zk}(c:0<W)(b:TH W row)(a:TH W f)(i:Nat):TH W (qW l row f i):=by
 unfold qW;split;intro v d;rcases mn d with q|q;exact a v q;rw[q];exact Jp b c i;exact a
def NX{row f:zk}(b:0<W)(c:TH W row)(a:xW l row=Z f):f.j=3/\TH W f:=by
 unfold xW at a;split at a;simp only[zt] at a;rw[←a];refine⟨wh l row,?_⟩;unfold uH;have d:TH W [0,0,0]:=by intro v e;simp at e;omega
 exact oV b c (oV b c (oV b c d 0) 1) 2;cases a
def EP(T:zl)(row:zk):mt T row=true↔TH T.r row:=by simp[mt,TH]
def oN:∀(rs:List zk) (T:zl),vK T->(∀r∈rs,r.j=3/\TH T.r r)->T.count+rs.j<=9000000->∃a,xX rs T=Z a/\vK a/\a.r=T.r/\a.ql=T.ql/\a.count<=T.count+rs.j/\∀k,k.j=T.ql->((uA a k).I=true↔(uA T k).I=true∨∃r∈rs,r.G T.ql=k)
 |[],T,h,_,_=>⟨T,rfl,h,rfl,rfl,ζ,λk _=>ζ⟩
 |r::rs,T,h,j,p=>by
  simp only[xu] at p;obtain⟨z,C⟩:=j r ζ;obtain⟨B,m,d,D,t,s,v⟩:=h.add r 0 z ((EP T r).2 C);have g:(yC T r 0).1.count<=T.count+1:=by
   cases i:(yC T r 0).2 with
   |false=>rw[t i];omega
   |true=>rw[s i];exact zf _
  obtain⟨a,o,u,y,w,E,n⟩:=oN rs (yC T r 0).1 B (λx A=>by rw[m];exact j x (by simp[A])) η;unfold xX;rw[zb (h.okT η)];refine⟨a,o,u,by rw[y,m],by rw[w,d],by simp only[xu];omega,λk f=>?_⟩;rw[n k (by rw[d];exact f),v k f,d];by_cases e:k=r.G T.ql
  .subst e;simp
  .rw[za e];constructor
   .rintro(q|⟨x,b,c⟩)
    .exact zh q
    .exact ze ⟨x,by simp[b],c⟩
   .rintro(q|⟨x,b,c⟩)
    .exact zh q
    .rcases zG.1 b with rfl|b
     .exact zC c.z e
     .exact ze ⟨x,b,c⟩
structure vn (T:zl) (l:zw) (W:Nat) (P:zk->Prop):Prop where
 ok:vK T
 r:T.r=W
 ql:T.ql=xv (xe l)
 sem:∀k,k.j=T.ql->((uA T k).I=true↔∃row f,P row/\xW l row=Z f/\f.G T.ql=k)
def vn.congr{P Q:zk->Prop}(h:vn T l W P)(e:∀x,P x↔Q x):vn T l W Q:=
 ⟨h.ok,h.r,h.ql,λk a=>by rw[h.sem k a];exact⟨fun⟨r,f,q⟩=>⟨r,f,(e r).1 q.1,q.2⟩,fun⟨r,f,q⟩=>⟨r,f,(e r).2 q.1,q.2⟩⟩⟩
def vn.new(l:zw)(w W:Nat)(b:W=zM w):vn (xk w (xe l)) l W (λ_=>False):=by
 refine⟨vK.new _ _,by rw[Hz,b],sy _ _,λk a=>?_⟩;constructor;intro q;rw[wI _ _ k (by rintro rfl;have:=(my (xe l)).1;rw[sy] at a;simp at a;omega)] at q;cases q;rintro⟨_,_,q,_⟩;exact q.elim
def vn.adds{P:zk->Prop}(h:vn T l W P)(s:0<W)(a:List zk)(hs:∀r∈a,TH W r)(w:T.count+a.j<=9000000):∃d,xX (a.filterMap (xW l)) T=Z d/\vn d l W (λx=>P x∨x∈a)/\d.count<=T.count+a.j:=by
 have n:(a.filterMap (xW l)).j<=a.j:=tq _ _;obtain⟨d,q,o,p,j,v,t⟩:=oN (a.filterMap (xW l)) T h.ok (λr u=>by
  obtain⟨x,i,g⟩:=mM.1 u;rw[h.r];exact NX s (hs x i) g) η
 refine⟨d,q,⟨o,by rw[p,h.r],by rw[j,h.ql],λk m=>?_⟩,η⟩;rw[j] at m;rw[t k m,h.sem k m,j];constructor;rintro(⟨r,f,b,c,e⟩|⟨f,b,c⟩);exact⟨r,f,zh b,c,e⟩;obtain⟨x,i,g⟩:=mM.1 b;exact⟨x,f,ze i,g,c⟩;rintro⟨r,f,b|b,c,e⟩;exact zh ⟨r,f,b,c,e⟩;exact ze ⟨f,mM.2 ⟨r,b,c⟩,e⟩
def Fr{k:zk}{d:Nat}(h:k.j=d)(a:d<=3):(Um k d).j=3:=by simp[Um,h];omega
def sP{k:zk}{d:Nat}(h:k.j=d):(Um k d).G d=k:=by simp[Um,←h]
def EA{k:zk}{d:Nat}(b:0<W)(h:TH W k):TH W (Um k d):=by
 intro v a;unfold Um at a;rcases ya.1 a with q|q;exact h v q;have:=fB q;simp at this;omega
def vn.join{a:zl}{P Q:zk->Prop}(h:vn T l W P)(k:vn a l W Q)(E:0<W)(F:T.count+a.count<=9000000):∃d,xX ((TE a).w λx=>Um x a.ql) T=Z d/\vn d l W (λx=>P x∨Q x)/\d.count<=T.count+a.count:=by
 have e:a.ql=T.ql:=by rw[h.ql,k.ql]
 have o:T.ql<=3:=by rw[h.ql];exact(my _).2
 obtain⟨d,D,B,C,i,w,t⟩:=oN ((TE a).w λx=>Um x a.ql) T h.ok (λr A=>by
  obtain⟨x,m,rfl⟩:=zF.1 A;obtain⟨b,c⟩:=(qN a x).1 m;refine⟨Fr b η,?_⟩;rw[h.r];refine EA E ?_;intro v p;have:=w9 x 0 c v p;rw[k.r] at this;exact this) (by simp[k.ok.cnt];omega)
 refine⟨d,D,⟨B,by rw[C,h.r],by rw[i,h.ql],λy j=>?_⟩,by simpa [k.ok.cnt] using w⟩;rw[i] at j;rw[t y j,h.sem y j,i];constructor;rintro(⟨r,f,b,c,g⟩|⟨r,b,c⟩);exact⟨r,f,zh b,c,g⟩;obtain⟨x,m,rfl⟩:=zF.1 b;obtain⟨n,z⟩:=(qN a x).1 m;rw[←e,sP n] at c;subst c;obtain⟨r,f,q,s,u⟩:=(k.sem x n).1 z;exact⟨r,f,ze q,s,by rw[←e];exact u⟩;rintro⟨r,f,b|b,c,g⟩;exact zh ⟨r,f,b,c,g⟩;refine ze ⟨Um y a.ql,zF.2 ⟨y,(qN a y).2 ⟨η,(k.sem y η).2 ⟨r,f,b,c,by rw[e];exact g⟩⟩,rfl⟩,?_⟩;rw[←e,sP η]
def vn.sat{a D:Nat}{P:zk->Prop}(h:vn T l W P)(j:qA l a D)(w:∀x,P x->T1 a x)(y:Φ):eM T l y↔P (zH l y):=by
 obtain⟨f,v,u,A,G⟩:=QG j y;have m:=Bu j;by_cases b:xe l=0;have e:T.ql=1:=by rw[h.ql,b];rfl
 have E:yz l y 5=[]:=nU.1 (by rw[pZ,←fV];exact b);constructor;intro p;have s:=p.1 b;rw[←h.ok.cnt] at s;obtain⟨k,z⟩:=List.exists_mem_of_length_pos (Nat.pos_of_ne_zero s);obtain⟨B,C⟩:=(qN T k).1 z;obtain⟨r,g,d,t,n⟩:=(h.sem k B).1 C;have:=Ia j (w r d) t y (by rw[b,E];rfl);rw[←this];exact d;intro c;refine⟨λ_ s=>?_,λq=>zC b q⟩;have:(uA T (f.G T.ql)).I=true:=(h.sem _ (by rw[vd,u,e];rfl)).2 ⟨_,f,c,v,rfl⟩;have F:=(qN T _).2 ⟨by rw[vd,u,e];rfl,this⟩;have:=pd F;rw[h.ok.cnt] at this;omega;have o:T.ql=xe l:=by rw[h.ql,tD b m]
 have i:(yz l y 5).j=T.ql:=by rw[pZ,←fV,o]
 constructor;intro p;obtain⟨r,g,d,t,n⟩:=(h.sem _ i).1 (p.2 b);rw[o] at n;have:=Ia j (w r d) t y n;rw[←this];exact d;intro c;exact⟨λq=>zC q b,λ_=>(h.sem _ i).2 ⟨_,f,c,v,by rw[o];exact A⟩⟩
structure pU (V:yO) (l:zw) (W:Nat) (P0 P1:zk->Prop) (Pf:zk->Prop) (c:Nat):Prop where
 lit:V.lit=l
 before:vn V.before l W P0
 qw:vn V.qw l W Pf
 all:vn V.all l W P1
 K:V.before.count+V.qw.count<=c/\V.all.count<=c
def CX{V:yO}{w:Nat}{j m i:zk->Prop}{c:Nat}(h:pU V l W j m i c)(n:W=zM w)(d:List zk)(hs:∀r∈d,TH W r)(A:c+d.j<=1048576)(e:Nat)(p:3*(W+1)<=e):∃k,fQ e w V d=Z k/\pU k l W (λx=>j x∨i x) (λx=>m x∨x∈d) (λx=>x∈d) (c+d.j):=by
 have g:0<W:=by rw[n];unfold zM;split<;>omega
 have u:=h.qw.ok.rowsG e (by rw[h.qw.r];exact p) (by have:=h.K.1;omega);obtain⟨b,s,t,B⟩:=h.before.join h.qw g (by have:=h.K.1;omega);obtain⟨f,q,o,z⟩:=(vn.new l w W n).adds g d hs (by simp[xk,yD];omega);obtain⟨a,y,v,D⟩:=h.all.adds g d hs (by have:=h.K.2;omega);refine⟨{V with before:=b,qw:=f,all:=a},?_,h.lit,t,o.congr (λx=>ζ),v,?_⟩;unfold fQ;rw[u,h.lit];simp only[s,q,y];have C:=h.K.1;have F:=h.K.2;have E:(xk w (xe l)).count=0:=rfl;simp only;omega
end
section
open Classical
abbrev DB:=Nat->zk->Option Nat
noncomputable def zyx(ar:List Nat)(R:zv):DB:=λp row=>if p<ar.j/\T1 (ar.g p 0) row then uf (R.I.g p zl.zero) row else Y
structure qK (ar:List Nat) (W:Nat) (R:zv):Prop where
 len:R.I.j=ar.j
 tries:∀p (hp:p<R.I.j),vK R.I[p]/\R.I[p].r=W/\R.I[p].ql=xv (ar.g p 0)/\∀k∈TE R.I[p],T1 (ar.g p 0) (Um k R.I[p].ql)
 cnt:R.count=(R.I.w (·.count)).sum
def Sr(l:List zl):∀(p:Nat) (T:zl) (b:p<l.j),((l.set p T).w (·.count)).sum+l[p].count=(l.w (·.count)).sum+T.count:=by
 induction l with
 |nil=>intro p T b;simp at b
 |cons a l c=>
  intro p T b;rcases p with _|p;simp;omega;have:=c p T (by simpa using b);simp at this ⊢;omega
def ev(l:List zl):∀(p:Nat) (b:p<l.j),l[p].count<=(l.w (·.count)).sum:=by
 induction l with
 |nil=>intro p b;simp at b
 |cons a l c=>
  intro p b;rcases p with _|p;simp;have:=c p (by simpa using b);simp at this ⊢;omega
def Rb{a:Nat}(f:a<=3){x y:zk}(b:T1 a x)(d:T1 a y)(e:x.G (xv a)=y.G (xv a)):x=y:=by
 refine CS b d λi c h=>?_;have g:i<xv a:=by rw[tD η f];exact c
 have:=congrArg (λl=>l.g i 0) e;simpa [List.getD,List.getElem?_take,g] using this
def DJ{a:Nat}(m:a<=3){x:zk}(d:T1 a x):Um (x.G (xv a)) (xv a)=x:=by
 have l:a<=xv a:=by
  by_cases g:a=0;omega;rw[tD g m];exact zf _
 show x.G (xv a)++([0,0,0]:zk).drop (xv a)=x;have b:=d.1;refine jv (by simp[b];omega) λi o n=>?_;have k:=λi (h:xv a<=i)=>d.2 i η;by_cases h:i<xv a;rw[uG (by simp[b];omega)];simp;rw[lW υ];have f:x[i]=0:=by have:=k i η;simpa [List.getD,n] using this
 rw[f];simp only[List.getElem_drop];have:∀j (e:j<([0,0,0]:Φ).j),([0,0,0]:Φ)[j]=0:=by
  intro j e;have c:j=0∨j=1∨j=2:=by simp at e;omega
  rcases c with rfl|rfl|rfl<;>rfl
 exact this _ _
structure Uh (ar:List Nat) (W k:Nat) (D0:DB) (c0:List Nat) (R:zv):Prop where
 inv:qK ar W R
 Q:R.Q=k
 flen:R.qw.j=ar.j
 qw:∀p (hp:p<R.qw.j),R.qw[p].Nodup/\∀row∈R.qw[p],T1 (ar.g p 0) row/\TH W row/\D0 p row=Y
 abs:∀p row,zyx ar R p row=match D0 p row with
  |some m=>Z m
  |none=>if row∈R.qw.g p [] then Z k else Y
 cnts:∀p (hp:p<R.I.j),R.I[p].count=c0.g p 0+(R.qw.g p []).j
def Tn{α:Type}{l:List α}{i:Nat}(d:α)(h:i<l.j):l.g i d=l[i]:=by simp[List.getD,h]
def nG{α:Type}(l:List α)(i j:Nat)(v d:α):(l.set i v).g j d=if i=j/\i<l.j then v else l.g j d:=by
 simp only[kS,sV];by_cases h:i=j;subst h;by_cases a:i<l.j;simp[a];simp[a];simp[h]
def Uh.add{f:Φ}{W k:Nat}{D0:DB}{c0:Φ}{R:zv}(h:Uh f W k D0 c0 R)(h3:∀a∈f,a<=3){p:Nat}(F:p<f.j){row:zk}(w:T1 (f.g p 0) row)(hs:TH W row){mr:Nat}(hc:R.count<=mr)(hm:mr<=1048576):
  ∃B ok,jV mr R p row=Z (B,ok)/\Uh f W k D0 c0 B/\B.jg=R.jg/\(zyx f B p row).I=true/\(∀q x,x∈R.qw.g q []->x∈B.qw.g q [])/\(∀q x,x∈B.qw.g q []->x∈R.qw.g q []∨q=p/\x=row)/\(ok=true->B.count<=mr)/\(ok=false->B.count>mr):=by
 have g:p<R.I.j:=by rw[h.inv.len];exact F
 have u:p<R.qw.j:=by rw[h.flen];exact F
 obtain⟨S,t2,H,t4⟩:=h.inv.tries p g;have J:f.g p 0<=3:=by rw[Tn _ F];exact h3 _ (zq F)
 have ac:=ev R.I p g;rw[←h.inv.cnt] at ac;have aa:=h.cnts p g;have K:=(EP R.I[p] row).2 (by rw[t2];exact hs);obtain⟨Q,a2,L,I,a5,a6,P⟩:=S.add row R.Q w.1 K;have ae:(row.G R.I[p].ql).j=R.I[p].ql:=by
  rw[vd,w.1,H];have:=(my (f.g p 0)).2;omega
 have M:=λx (i:T1 (f.g p 0) x)=>S.mark x i.1;have v:R.I.g p zl.zero=R.I[p]:=Tn _ g;have o:zyx f R p row=uA R.I[p] (row.G R.I[p].ql):=by
  unfold zyx;rw[zb ⟨F,w⟩,v,M row w]
 unfold jV;rw[zb ⟨g,u,by rw[v];exact S.okT η,η,η⟩,v];cases hA:yC R.I[p] row R.Q with
 |mk T b=>
  rw[hA] at Q a2 L I a5 a6 P;simp only at Q a2 L I a5 a6 P;cases b;have hT:=a5 rfl;subst hT;have C:=ik g;refine⟨{R with I:=R.I.set p R.I[p]},true,rfl,?_,rfl,?_,λq x i=>i,λq x i=>zh i,λ_=>hc,λq=>by cases q⟩;rw[C];exact h;rw[C];show(zyx f R p row).I=true;rw[o];rw[←Option.not_isNone,←I];rfl;have l:uA R.I[p] (row.G R.I[p].ql)=none:=by
   rcases j:uA R.I[p] (row.G R.I[p].ql) with _|m;rfl;rw[j] at I;cases I
  have A:D0 p row=Y/\row∉R.qw.g p []:=by
   have:=h.abs p row;rw[o,l] at this;rcases j:D0 p row with _|m;rw[j] at this;refine⟨rfl,λab=>?_⟩;simp only at this;rw[zb ab] at this;cases this;rw[j] at this;cases this
  have N:R.qw.g p []=R.qw[p]:=Tn _ u;have ad:=Sr R.I p T g;have E:=a6 rfl;have V:(R.I.set p T).j=R.I.j:=ζ;have hinv:qK f W {R with I:=R.I.set p T,qw:=R.qw.set p (R.qw.g p []++[row]),count:=R.count+1}:=by
   refine⟨by simp[h.inv.len],λq j=>?_,?_⟩;simp only[fz] at j;simp only[lT];by_cases e:p=q;subst e;simp only[if_true];refine⟨Q,by rw[a2,t2],by rw[L,H],λx i=>?_⟩;obtain⟨x1,x2⟩:=(qN T x).1 i;rw[L] at x1 ⊢;rw[P x x1] at x2;by_cases G:x=row.G R.I[p].ql;rw[G,H,DJ J w];exact w;rw[za G] at x2;exact t4 x ((qN R.I[p] x).2 ⟨x1,x2⟩);simp only[e,if_false];exact h.inv.tries q j;show R.count+1=((R.I.set p T).w (·.count)).sum;rw[h.inv.cnt];omega
  have r:∀q,(R.I.set p T).g q zl.zero=if p=q then T else R.I.g q zl.zero:=λq=>by
   rw[nG];by_cases e:p=q;rw[zb ⟨e,g⟩,zb e];rw[za (λx=>e x.1),za e]
  have c:∀q,(R.qw.set p (R.qw.g p []++[row])).g q []=if p=q then R.qw.g p []++[row] else R.qw.g q []:=λq=>by
   rw[nG];by_cases e:p=q;rw[zb ⟨e,u⟩,zb e];rw[za (λx=>e x.1),za e]
  have t:∀q x,zyx f {R with I:=R.I.set p T,qw:=R.qw.set p (R.qw.g p []++[row]),count:=R.count+1} q x=if q=p/\x=row then Z k else zyx f R q x:=by
   intro q x;unfold zyx;simp only[r];by_cases e:p=q;subst e;simp only[if_true,true_and];by_cases d:p<f.j/\T1 (f.g p 0) x;rw[zb d,zb d,v,M x d.2,Q.mark x d.2.1,L,P _ (by rw[vd,d.2.1,H];have:=(my (f.g p 0)).2;omega)];by_cases G:x=row;subst G;rw[zb rfl,zb rfl,l,h.Q];rfl;rw[za G,za];intro D;rw[H] at D;exact G (Rb J d.2 w D);rw[za d,za d,za];rintro rfl;exact d ⟨F,w⟩;simp only[e,if_false];rw[za (λz:q=p/\x=row=>e z.1.z)]
  refine⟨{R with I:=R.I.set p T,qw:=R.qw.set p (R.qw.g p []++[row]),count:=R.count+1},decide (R.count+1<=mr),rfl,⟨hinv,h.Q,by simp[h.flen],λq j=>?_,λq x=>?_,λq j=>?_⟩,rfl,?_,λq x i=>?_,λq x i=>?_,λq=>by simpa using q,λq=>by simpa using q⟩;have n:q<R.qw.j:=by simpa using j
  have e:(R.qw.set p (R.qw.g p []++[row]))[q]=(R.qw.set p (R.qw.g p []++[row])).g q []:=(Tn _ j).z;show((R.qw.set p (R.qw.g p []++[row]))[q]).Nodup/\_;rw[e,c q];by_cases D:p=q;subst D;rw[zb rfl,N];obtain⟨n1,n2⟩:=h.qw p u;rw[N] at A;refine⟨?_,λx i=>?_⟩;rw[rF];exact⟨n1,ζ,λx i y hy=>by simp at hy;subst hy;rintro rfl;exact A.2 i⟩;rcases ya.1 i with q|q;exact n2 x q;simp at q;subst q;exact⟨w,hs,A.1⟩;rw[za D,Tn _ n];exact h.qw q n;rw[t];show _=match D0 q x with|some m=>Z m|none=>if x∈(R.qw.set p (R.qw.g p []++[row])).g q [] then Z k else Y
  rw[c q,h.abs q x];by_cases e:q=p/\x=row;obtain⟨rfl,rfl⟩:=e;rw[zb ⟨rfl,rfl⟩,A.1];simp;rw[za e];rcases D0 q x with _|m;simp only;by_cases D:p=q;subst D;rw[zb rfl];have:x≠row:=λe3=>e ⟨rfl,e3⟩;simp[this];rw[za D];rfl;have n:q<R.I.j:=by simpa using j
  show(R.I.set p T)[q].count=c0.g q 0+((R.qw.set p (R.qw.g p []++[row])).g q []).j;rw[c q,←Tn zl.zero j,r q];by_cases e:p=q;subst e;rw[zb rfl,zb rfl,E,aa];simp;omega;rw[za e,za e,Tn _ n];exact h.cnts q n;rw[t,zb ⟨rfl,rfl⟩];rfl;show x∈(R.qw.set p (R.qw.g p []++[row])).g q [];rw[c q];by_cases e:p=q;subst e;rw[zb rfl];exact List.mem_append_left _ i;rw[za e];exact i;have s:x∈(R.qw.set p (R.qw.g p []++[row])).g q []:=i;rw[c q] at s;by_cases e:p=q;subst e;rw[zb rfl] at s;rcases ya.1 s with q|q;exact zh q;simp at q;exact ze ⟨rfl,q⟩;rw[za e] at s;exact zh s
end
section
open Classical
variable {Ts Ns:List zl}{W:Nat}
def LI{r:zu}(e:fE r)(d:fJ r Ts W){y:Φ}(j:jA r Ts Ns y){p:Nat}(n:p<r.m):y.g p 0<W:=by
 obtain⟨l,g,k⟩:=e.safe p n;obtain⟨i,c,rfl⟩:=vh g;have b:i<Ts.j:=by rw[d.len];exact c
 obtain⟨_,_,o⟩:=d.ok i _ _ (yn c) (yn b);have m:=e.m;have a:=(sq _ 5 p).2 ⟨η,k⟩;have h:xe r.qc[i]≠0:=by
  rw[fV];intro q;rw[nU.1 q] at a;cases a
 have f:=(j.1 i _ _ (yn c) (yn b)).2 h;have:=w9 _ 0 f (y.g p 0) (zF.2 ⟨p,a,rfl⟩);omega
def ES{l:zw}{a:Nat}(h:qA l a W)(g:0<W){y:Φ}(f:∀p,zK l p=true->y.g p 0<W):TH W (zH l y):=by
 have j:∀i,Tk l y i<W:=by
  intro i;unfold Tk;split;rename_i e;rw[show l.v.g i ⟨false,0,0⟩=l.v[i] by simp[List.getD,e]];have c:=zq e;unfold U1;split;rename_i b;simp only[uI,decide_eq_true_eq] at b;exact f _ ((fH l _).2 ⟨_,c,b.1,rfl⟩);rename_i b;cases d:l.v[i].var;exact h.con _ c d;have:=(h.lev _ c d).1;simp[d,this] at b;exact g
 intro v b;simp only[zH,zG,nQ,or_false] at b;rcases b with rfl|rfl|rfl<;>exact j _
def pH.y{r:zu}{E g:zk->Prop}{J:zE}{M:Nat}(h:pH r Ts Ns W E J M)(i:∀x,E x->g x):pH r Ts Ns W g J M:=by
 rcases h with⟨a,e,c⟩|⟨j,d,f,a,e,c,l,m,k⟩
 exact zh ⟨a,e,λy b=>i _ (c y b)⟩;exact ze ⟨j,d,f,a,e,c,l,λy b=>(m y b).imp (i _) id,k⟩
def Uh.jg{a:Φ}{W k:Nat}{D0:DB}{c0:Φ}{R:zv}(h:Uh a W k D0 c0 R)(m:Int):Uh a W k D0 c0 {R with jg:=m}:=
 ⟨⟨h.inv.len,h.inv.tries,h.inv.cnt⟩,h.Q,h.flen,h.qw,h.abs,h.cnts⟩
def Uh.grow{b:Φ}{k:Nat}{D0:DB}{c0:Φ}{R R':zv}(h:Uh b W k D0 c0 R)(f:Uh b W k D0 c0 R')(d:∀q x,x∈R.qw.g q []->x∈R'.qw.g q []){p:Nat}{x:zk}(a:(zyx b R p x).I=true):(zyx b R' p x).I=true:=by
 rw[h.abs] at a;rw[f.abs];rcases e:D0 p x with _|m;rw[e] at a;simp only at a ⊢;by_cases c:x∈R.qw.g p [];rw[zb (d p x c)];rfl;rw[za c] at a;cases a;rfl
structure Fw (ar:List Nat) (W k:Nat) (D0:DB) (c0:List Nat) (p mr:Nat) (sol:zk->Prop) (R R':zv) (ok:Bool):Prop where
 mid:Uh ar W k D0 c0 R'
 y:∀q x,x∈R.qw.g q []->x∈R'.qw.g q []
 sound:∀q x,x∈R'.qw.g q []->x∈R.qw.g q []∨q=p/\sol x
 yes:ok=true->R'.count<=mr/\∀x,sol x->(zyx ar R' p x).I=true
 no:ok=false->R'.count>mr
def Ot{d:Φ}{k:Nat}{D0:DB}{c0:Φ}{r:zu}(s:fE r)(w:fJ r Ts W)(h3:∀a∈d,a<=3)(hW:0<W)(V:r.g.o<d.j)(C:qA r.g (d.g r.g.o 0) W)(A:Nat)(T:W*(r.qc.j+1)+r.qc.j<=A){mr:Nat}(j:mr<=1048576):
  ∀(n:Nat) (R:zv) (J:zE) (M:Nat),Uh d W k D0 c0 R->R.count<=mr->pH r Ts Ns W (λx=>(zyx d R r.g.o x).I=true) J M->M+A+2<n->∃F ok,vM mr r.g.o n R J=Z (F,ok)/\Fw d W k D0 c0 r.g.o mr (λx=>∃y,jA r Ts Ns y/\x=zH r.g y) R F ok:=by
 intro n;induction n with
 |zero=>intro R J M _ _ _ h;omega
 |succ n ih=>
  intro R J M h B hJ hn;obtain⟨f,b,K,n2,P⟩:=IJ s w _ A T n J M hJ η;unfold vM;rw[K];cases b;refine⟨_,true,rfl,h.jg _,λq x c=>c,λq x c=>zh c,λ_=>⟨B,?_⟩,λq=>by cases q⟩;rintro x ⟨y,I,rfl⟩;exact n2 rfl y I;obtain⟨m,G,Q,m3,N⟩:=P rfl;simp only;rw[G];have l:=ES C hW λp g=>LI s w m (s.g p g);obtain⟨E,ok,a1,t,_,H,o,D,S,a8⟩:=h.add h3 V (eL C f.P) l B j;rw[a1];cases ok;refine⟨E,false,rfl,t,o,λq x c=>?_,(λq=>by cases q),a8⟩;rcases D q x c with z|⟨i,u⟩;exact zh z;exact ze ⟨i,f.P,m,u⟩;simp only;obtain⟨R2,v,L,e⟩:=ih E f Q t (S rfl) (N.y λx c=>by
   rcases c with q|q;exact h.grow t o q;rw[q];exact H) η
  refine⟨R2,v,L,e.mid,λq x c=>e.y q x (o q x c),λq x c=>?_,e.yes,e.no⟩;rcases e.sound q x c with z|z;rcases D q x z with z|⟨i,u⟩;exact zh z;exact ze ⟨i,f.P,m,u⟩;exact ze z
end
section
open Classical
variable {r:zu}{W wd mr:Nat}{c0:List Nat}
def Tr(D:DB)(p:Nat)(x:zk):Prop:=(D p x).I=true
def US(r:zu)(D:DB)(x:zk):Prop:=∃y,(∀l∈r.qc,Tr D l.o (zH l y))/\(∀l∈r.qx,D l.o (zH l y)=Y)/\x=zH r.g y
structure pT (r:zu) (ar:List Nat) (W:Nat):Prop where
 fine:fE r
 hpred:r.g.o<ar.j
 g:qA r.g (ar.g r.g.o 0) W
 qc:∀l∈r.qc,l.o<ar.j/\qA l (ar.g l.o 0) W
 qx:∀l∈r.qx,l.o<ar.j/\qA l (ar.g l.o 0) W
def tj(a:List Nat)(D:DB):Prop:=∀p x,Tr D p x->p<a.j/\T1 (a.g p 0) x
def sL(a:Φ)(R:zv):tj a (zyx a R):=by
 intro p x h;unfold Tr zyx at h;split at h;assumption
 cases h
def HY{d:Φ}(k:pT r d W){R:zv}(t:qK d W R){h:List zl}{P:Nat->zk->Prop}(f:h.j=r.qc.j)(q:∀(i:Nat) (l:zw) (T:zl),r.qc[i]?=Z l->h[i]?=Z T->vn T l W (P i)/\∀x,P i x->T1 (d.g l.o 0) x)(y:Φ):
  jA r h (jH wd R r) y↔(∀(i:Nat) (l:zw),r.qc[i]?=Z l->P i (zH l y))/\∀l∈r.qx,zyx d R l.o (zH l y)=none:=by
 have b:∀l∈r.qx,uf (lP wd R l.o) (zH l y)=zyx d R l.o (zH l y):=by
  intro l a;obtain⟨s,u⟩:=k.qx l a;unfold lP zyx;rw[za (by rw[t.len];omega),zb ⟨s,eL u y⟩]
 unfold jA jH;constructor;rintro⟨m,o⟩;refine⟨λi l a=>?_,λl a=>?_⟩;have g:i<h.j:=by rw[f];exact(jC.1 a).1
 obtain⟨p,j⟩:=q i l _ a (yn g);exact(p.sat (k.qc l (ft a)).2 j y).1 (m i l _ a (yn g));rw[←b l a];obtain⟨i,c,rfl⟩:=vh a;exact o (r.qx[i],lP wd R r.qx[i].o) (vQ.2 ⟨i,by simp[c],ζ⟩);rintro⟨m,o⟩;refine⟨λi l T a n=>?_,λx v=>?_⟩;obtain⟨p,j⟩:=q i l T a n;exact(p.sat (k.qc l (ft a)).2 j y).2 (m i l a);obtain⟨i,c,rfl⟩:=vQ.1 v;simp only[List.length_zip,xt] at c;have e:i<r.qx.j:=η;simp only[List.getElem_zip,ue];rw[b _ (zq e)];exact o _ (zq e)
structure oO (ar:List Nat) (W:Nat) (w:yd) (r:zu) (D0 D:DB) (c:List Nat):Prop where
 p:w.p=r
 len:w.F.j=r.qc.j
 F:∀(i:Nat) (l:zw) (V:yO),r.qc[i]?=Z l->w.F[i]?=Z V->pU V l W (Tr D0 l.o) (Tr D l.o) (λx=>Tr D l.o x/\¬Tr D0 l.o x) (c.g l.o 0)
def lD(W:Nat)(r:zu):Nat:=vT W r.m 0 [] 0+(W*(r.qc.j+1)+r.qc.j)+3
def Cy{f:Φ}{k:Nat}{D:DB}(g:pT r f W)(J:∀a∈f,a<=3)(K:0<W)(p:mr<=1048576){R:zv}(u:Uh f W k D c0 R)(H:R.count<=mr){j:List zl}{P:Nat->zk->Prop}(c:j.j=r.qc.j)(s:∀(i:Nat) (l:zw) (T:zl),r.qc[i]?=Z l->j[i]?=Z T->vn T l W (P i)/\∀x,P i x->T1 (f.g l.o 0) x)(E:∀l∈r.qx,∀x,zyx f R l.o x=D l.o x)(b:Nat)(o:lD W r<=b):
  ∃n ok,vM mr r.g.o b R (xK r j (jH wd R r))=Z (n,ok)/\Fw f W k D c0 r.g.o mr (λx=>∃y,((∀(i:Nat) (l:zw),r.qc[i]?=Z l->P i (zH l y))/\∀l∈r.qx,D l.o (zH l y)=Y)/\x=zH r.g y) R n ok:=by
 have B:fJ r j W:=⟨c,λi l T e w=>by obtain⟨v,_⟩:=s i l T e w;exact⟨v.ok,v.ql,by rw[v.r];exact zf _⟩⟩;have C:vT W r.m 0 [] 0+(W*(r.qc.j+1)+r.qc.j)+3<=b:=o;obtain⟨n,ok,I,h⟩:=Ot (Ns:=jH wd R r) (D0:=D) (c0:=c0) (k:=k) g.fine B J K g.hpred g.g _ (zf _) p b R _ _ u H (KP g.fine B _) η;have d:∀x,(∃y,jA r j (jH wd R r) y/\x=zH r.g y)↔∃y,((∀(i:Nat) (l:zw),r.qc[i]?=Z l->P i (zH l y))/\∀l∈r.qx,D l.o (zH l y)=Y)/\x=zH r.g y:=by
  intro x;constructor;rintro⟨y,m,t⟩;obtain⟨F,G⟩:=(HY g u.inv c s y).1 m;exact⟨y,⟨F,λl e=>by rw[←E l e];exact G l e⟩,t⟩;rintro⟨y,m,t⟩;exact⟨y,(HY g u.inv c s y).2 ⟨m.1,λl e=>by rw[E l e];exact m.2 l e⟩,t⟩
 exact⟨n,ok,I,h.mid,h.y,λq x A=>(h.sound q x A).imp id λz=>⟨z.1,(d x).1 z.2⟩,λq=>⟨(h.yes q).1,λx A=>(h.yes q).2 x ((d x).2 A)⟩,h.no⟩
structure wK (ar:List Nat) (W k:Nat) (D:DB) (c0:List Nat) (mr:Nat) (want:Nat->zk->Prop) (R R':zv) (ok:Bool):Prop where
 mid:Uh ar W k D c0 R'
 y:∀q x,x∈R.qw.g q []->x∈R'.qw.g q []
 sound:∀q x,x∈R'.qw.g q []->x∈R.qw.g q []∨want q x
 yes:ok=true->R'.count<=mr
 no:ok=false->R'.count>mr
def Mu{d:Φ}{k:Nat}{D0 D:DB}{w:yd}(u:oO d W w r D0 D c0)(B:tj d D)(H:pT r d W)(L:∀a∈d,a<=3)(M:0<W)(t:mr<=1048576){R:zv}(I:Uh d W k D c0 R)(F:R.count<=mr)(J:∀l∈r.qx,∀x,zyx d R l.o x=D l.o x)(c:Nat)(o:lD W r<=c):
  ∃n ok,kV c wd mr true R w=Z (n,ok)/\wK d W k D c0 mr (λq x=>q=r.g.o/\US r D x) R n ok/\(ok=true->∀x,US r D x->Tr (zyx d n) r.g.o x):=by
 have G:∀(i:Nat) (l:zw) (T:zl),r.qc[i]?=Z l->(w.F.w (·.all))[i]?=Z T->vn T l W ((λi x=>∃l,r.qc[i]?=Z l/\Tr D l.o x) i)/\∀x,(λi x=>∃l,r.qc[i]?=Z l/\Tr D l.o x) i x->T1 (d.g l.o 0) x:=by
  intro i l T e m;simp only[mG,qq] at m;obtain⟨V,C,rfl⟩:=m;refine⟨(u.F i l V e C).all.congr λx=>⟨λq=>⟨l,e,q⟩,fun⟨j,b,g⟩=>?_⟩,λx ⟨j,b,g⟩=>?_⟩;rw[e] at b;simp only[zt] at b;subst b;exact g;rw[e] at b;simp only[zt] at b;subst b;exact(B _ x g).2
 obtain⟨n,ok,K,h⟩:=Cy (wd:=wd) H L M t I F (by simp[u.len]) G J c o;have f:∀x,(∃y,((∀(i:Nat) (l:zw),r.qc[i]?=Z l->(∃j,r.qc[i]?=Z j/\Tr D j.o (zH l y)))/\∀l∈r.qx,D l.o (zH l y)=Y)/\x=zH r.g y)↔US r D x:=by
  intro x;constructor;rintro⟨y,⟨b,g⟩,p⟩;refine⟨y,λl e=>?_,g,p⟩;obtain⟨i,A,rfl⟩:=vh e;obtain⟨j,s,E⟩:=b i _ (yn A);rw[yn A] at s;simp only[zt] at s;subst s;exact E;rintro⟨y,b,g,p⟩;exact⟨y,⟨λi l e=>⟨l,e,b l (ft e)⟩,g⟩,p⟩
 unfold kV;rw[zb rfl,u.p];exact⟨n,ok,K,⟨h.mid,h.y,λq x v=>(h.sound q x v).imp id λz=>⟨z.1,(f x).1 z.2⟩,λq=>(h.yes q).1,h.no⟩,λq x v=>(h.yes q).2 x ((f x).2 v)⟩
def Va(r:zu)(D0 D:DB)(i:Nat)(y:List Nat):Prop:=∃(j:Nat) (l:zw),i<=j/\r.qc[j]?=Z l/\Tr D l.o (zH l y)/\¬Tr D0 l.o (zH l y)/\(∀(t:Nat) (a:zw),r.qc[t]?=Z a->(t<j->Tr D0 a.o (zH a y))/\(j<t->Tr D a.o (zH a y)))/\∀l∈r.qx,D l.o (zH l y)=Y
def NS{v:Φ}{k:Nat}{D0 D:DB}{w:yd}(L:oO v W w r D0 D c0)(hD:tj v D)(aa:∀p x,Tr D0 p x->Tr D p x)(hr:pT r v W)(h3:∀a∈v,a<=3)(hW:0<W)(ag:mr<=1048576)(A:Nat)(ac:lD W r<=A)(ad:∀l∈r.qx,l.o≠r.g.o):
  ∀(n i:Nat) (R:zv),i+n=w.F.j->Uh v W k D c0 R->R.count<=mr->(∀l∈r.qx,∀x,zyx v R l.o x=D l.o x)->∃R' ok,kl A wd mr w n i R=Z (R',ok)/\wK v W k D c0 mr (λq x=>q=r.g.o/\US r D x) R R' ok/\(ok=true->∀y,Va r D0 D i y->Tr (zyx v R') r.g.o (zH r.g y)):=by
 intro n;induction n with
 |zero=>
  intro i R hi S hc _;refine⟨R,true,rfl,⟨S,λq x c=>c,λq x c=>zh c,λ_=>hc,λq=>by cases q⟩,λ_ y N=>?_⟩;obtain⟨j,l,b,d,_⟩:=N;have:=(jC.1 d).1;have:=L.len;omega
 |succ n ih=>
  intro i R hi S hc hn;have I:i<w.F.j:=η;have B:i<r.qc.j:=by rw[←L.len];exact I
  have hV:=L.F i _ _ (yn B) (yn I);have ae:=(hr.qc _ (zq B)).2;have hg:w.F.g i ⟨⟨0,[]⟩,zl.zero,zl.zero,zl.zero⟩=w.F[i]:=Tn _ I;unfold kl;rw[hg];by_cases u:w.F[i].qw.count>0;rw[zb u];have hT:∀(t:Nat) (l:zw) (T:zl),r.qc[t]?=Z l->(T5 w.F i)[t]?=Z T->vn T l W ((λt x=>∃l,r.qc[t]?=Z l/\(t<i->Tr D0 l.o x)/\(t=i->Tr D l.o x/\¬Tr D0 l.o x)/\(i<t->Tr D l.o x)) t)/\∀x,(λt x=>∃l,r.qc[t]?=Z l/\(t<i->Tr D0 l.o x)/\(t=i->Tr D l.o x/\¬Tr D0 l.o x)/\(i<t->Tr D l.o x)) t x->T1 (v.g l.o 0) x:=by
   intro t l T h J;unfold T5 at J;simp only[mG,qq,List.getElem?_zipIdx] at J;obtain⟨⟨V,j⟩,⟨V',ai,P⟩,rfl⟩:=J;simp only[vJ,ye] at P;obtain⟨rfl,rfl⟩:=P;have H:=L.F t l V' h ai;have Q:∀x,(∃l,r.qc[t]?=Z l/\(t<i->Tr D0 l.o x)/\(t=i->Tr D l.o x/\¬Tr D0 l.o x)/\(i<t->Tr D l.o x))->T1 (v.g l.o 0) x:=by
    rintro x ⟨e,b,d,s,E⟩;rw[h] at b;simp only[zt] at b;subst b;rcases rf t i with z|z|z;exact(hD _ x (aa _ x (d z))).2;exact(hD _ x (s z).1).2;exact(hD _ x (E z)).2
   refine⟨?_,Q⟩;simp only;by_cases h1:t<i;rw[zb h1];refine H.before.congr λx=>⟨λq=>⟨l,h,λ_=>q,λz=>η,λz=>η⟩,fun⟨e,b,d,_,_⟩=>?_⟩;rw[h] at b;simp only[zt] at b;subst b;exact d h1;rw[za h1];by_cases h2:t=i;rw[zb h2];refine H.qw.congr λx=>⟨λq=>⟨l,h,λz=>η,λ_=>q,λz=>η⟩,fun⟨e,b,_,s,_⟩=>?_⟩;rw[h] at b;simp only[zt] at b;subst b;exact s h2;rw[za h2];refine H.all.congr λx=>⟨λq=>⟨l,h,λz=>η,λz=>η,λ_=>q⟩,fun⟨e,b,_,_,E⟩=>?_⟩;rw[h] at b;simp only[zt] at b;subst b;exact E η
  obtain⟨R1,ok,a1,o⟩:=Cy (wd:=wd) hr h3 hW ag S hc (by simp[T5,L.len]) hT hn A ac;rw[L.p,a1];have f:∀x,(∃y,((∀(t:Nat) (l:zw),r.qc[t]?=Z l->(∃e,r.qc[t]?=Z e/\(t<i->Tr D0 e.o (zH l y))/\(t=i->Tr D e.o (zH l y)/\¬Tr D0 e.o (zH l y))/\(i<t->Tr D e.o (zH l y))))/\∀l∈r.qx,D l.o (zH l y)=Y)/\x=zH r.g y)->US r D x:=by
   rintro x ⟨y,⟨b,d⟩,s⟩;refine⟨y,λl h=>?_,d,s⟩;obtain⟨t,ht,rfl⟩:=vh h;obtain⟨e,s1,s2,s3,s4⟩:=b t _ (yn ht);rw[yn ht] at s1;simp only[zt] at s1;subst s1;rcases rf t i with z|z|z;exact aa _ _ (s2 z);exact(s3 z).1;exact s4 z
  cases ok;exact⟨R1,false,rfl,⟨o.mid,o.y,λq x c=>(o.sound q x c).imp id λz=>⟨z.1,f x z.2⟩,(λq=>by cases q),o.no⟩,λq=>by cases q⟩;simp only;obtain⟨b1,b2⟩:=o.yes rfl;have af:∀l∈r.qx,∀x,zyx v R1 l.o x=D l.o x:=by
   intro l h x;have ah:=ad l h;rw[o.mid.abs,←hn l h x,S.abs];rcases hq:D l.o x with _|m;simp only;by_cases c:x∈R.qw.g l.o [];rw[zb c,zb (o.y _ x c)];rw[za c,za];intro ab;rcases o.sound _ x ab with z|z;exact c z;exact ah z.1;rfl
  obtain⟨R2,K,c1,C,c3⟩:=ih (i+1) R1 η o.mid b1 af;refine⟨R2,K,c1,⟨C.mid,λq x c=>C.y q x (o.y q x c),λq x c=>?_,C.yes,C.no⟩,λG y N=>?_⟩;rcases C.sound q x c with z|z;exact(o.sound q x z).imp id λz=>⟨z.1,f x z.2⟩;exact ze z;obtain⟨j,l,b,d,s,E,M,q6⟩:=N;by_cases F:j=i;subst F;refine o.mid.grow C.mid C.y (b2 _ ⟨y,⟨λt e g=>⟨e,g,λz=>(M t e g).1 z,λz=>?_,λz=>(M t e g).2 z⟩,q6⟩,rfl⟩);subst z;rw[d] at g;simp only[zt] at g;subst g;exact⟨s,E⟩;exact c3 G y ⟨j,l,η,d,s,E,M,q6⟩;rw[za u];obtain⟨R2,K,c1,C,c3⟩:=ih (i+1) R η S hc hn;refine⟨R2,K,c1,C,λG y N=>?_⟩;obtain⟨j,l,b,d,s,E,M,q6⟩:=N;by_cases F:j=i;subst F;rw[yn B] at d;simp only[zt] at d;subst d;have hs:=(hV.qw.sat ae (λx c=>(hD _ x c.1).2) y).2 ⟨s,E⟩;exact zC (Nat.pos_of_ne_zero (hs.count hV.qw.ok hV.qw.ql (hr.fine.v _ (zq B)))) u;exact c3 G y ⟨j,l,η,d,s,E,M,q6⟩
end
section
open Classical
variable {W wd:Nat}{D0:DB}{ws:List yd}{rs:List zu}
structure tx (rs:List zu) (ar:List Nat) (W:Nat):Prop where
 H:∀r∈rs,pT r ar W
 apart:∀r∈rs,∀r'∈rs,∀l∈r.qx,l.o≠r'.g.o
def i5(rs:List zu)(R:zv):Prop:=∀q x,x∈R.qw.g q []->∃r∈rs,q=r.g.o
def Uh.qx{a:Φ}{W k:Nat}{D:DB}{c0:Φ}{R:zv}{rs:List zu}(h:Uh a W k D c0 R)(hs:tx rs a W)(e:i5 rs R){r:zu}(g:r∈rs):∀l∈r.qx,∀x,zyx a R l.o x=D l.o x:=by
 intro l c x;rw[h.abs];rcases j:D l.o x with _|m;simp only;rw[za];intro d;obtain⟨i,b,f⟩:=e _ x d;exact hs.apart r g i b l c f;rfl
inductive km (ar:Φ) (W:Nat) (D0 D:DB) (c:Φ):List yd->List zu->Prop
 |nil:km ar W D0 D c [] []
 |cons {w:yd} {r:zu} {ws:List yd} {rs:List zu}:oO ar W w r D0 D c->km ar W D0 D c ws rs->km ar W D0 D c (w::ws) (r::rs)
def sD(first:Bool)(r:zu)(D0 D:DB)(x:zk):Prop:=if first then US r D x else ∃y,Va r D0 D 0 y/\x=zH r.g y
def MR{h:Φ}{k:Nat}{D:DB}{c0:Φ}(K:tj h D)(I:∀p x,Tr D0 p x->Tr D p x)(M:∀a∈h,a<=3)(N:0<W){mr:Nat}(s:mr<=1048576)(d:Nat){f:List zu}(hs:tx f h W)(m:∀r∈f,lD W r<=d)(first:Bool)(T:km h W D0 D c0 ws rs)(i:∀r∈rs,r∈f):
  ∀(R:zv),Uh h W k D c0 R->R.count<=mr->i5 f R->∃E ok,gx d wd mr first ws R=Z (E,ok)/\wK h W k D c0 mr (λq x=>∃r∈rs,q=r.g.o/\US r D x) R E ok/\i5 f E/\(ok=true->∀r∈rs,∀x,sD first r D0 D x->Tr (zyx h E) r.g.o x):=by
 induction T with
 |nil=>
  intro R u C B;exact⟨R,true,rfl,⟨u,λq x b=>b,λq x b=>zh b,λ_=>C,λq=>by cases q⟩,B,λ_ r hr=>by cases hr⟩
 |@cons w r ws rs o S ih=>
  intro R u C B;have c:=i r ζ;have L:=u.qx hs B c;have t:∃g ok,kV d wd mr first R w=Z (g,ok)/\wK h W k D c0 mr (λq x=>q=r.g.o/\US r D x) R g ok/\(ok=true->∀x,sD first r D0 D x->Tr (zyx h g) r.g.o x):=by
   cases first
   obtain⟨g,ok,A,e,v⟩:=NS (wd:=wd) o K I (hs.H r c) M N s d (m r c) (hs.apart r c r c) w.F.j 0 R η u C L;refine⟨g,ok,?_,e,λq x b=>?_⟩;unfold kV;exact A;have G:∃y,Va r D0 D 0 y/\x=zH r.g y:=by simpa [sD] using b
   obtain⟨y,y1,rfl⟩:=G;exact v q y y1;obtain⟨g,ok,A,e,v⟩:=Mu (wd:=wd) o K (hs.H r c) M N s u C L d (m r c);exact⟨g,ok,A,e,λq x b=>v q x (by simpa [sD] using b)⟩
  obtain⟨g,ok,A,e,v⟩:=t;have n:i5 f g:=by
   intro q x b;rcases e.sound q x b with z|z;exact B q x z;exact⟨r,c,z.1⟩
  unfold gx;rw[A];cases ok;exact⟨g,false,rfl,⟨e.mid,e.y,λq x b=>(e.sound q x b).imp id λz=>⟨r,ζ,z⟩,e.yes,e.no⟩,n,λq=>by cases q⟩;simp only;obtain⟨R2,H,Q,l,b3,V⟩:=ih (λx b=>i x (by simp[b])) g e.mid (e.yes rfl) n;refine⟨R2,H,Q,⟨l.mid,λq x b=>l.y q x (e.y q x b),λq x b=>?_,l.yes,l.no⟩,b3,λF J j x b=>?_⟩;rcases l.sound q x b with z|⟨J,P,z2⟩;exact(e.sound q x z).imp id λz=>⟨r,ζ,z⟩;exact ze ⟨J,by simp[P],z2⟩;rcases zG.1 j with rfl|j;exact e.mid.grow l.mid l.y (v rfl x b);exact V F J j x b
def JO{r:zu}{D:DB}(s:∀p x,Tr D0 p x->Tr D p x){y:Φ}(A:∀l∈r.qc,Tr D l.o (zH l y))(B:∀l∈r.qx,D l.o (zH l y)=Y):Va r D0 D 0 y∨US r D0 (zH r.g y):=by
 by_cases c:∀l∈r.qc,Tr D0 l.o (zH l y);refine ze ⟨y,c,λl f=>?_,rfl⟩;rcases d:D0 l.o (zH l y) with _|m;rfl;have:=s l.o (zH l y) (by unfold Tr;rw[d];rfl);unfold Tr at this;rw[B l f] at this;cases this;refine zh ?_;have k:∃(j:Nat) (l:zw),r.qc[j]?=Z l/\¬Tr D0 l.o (zH l y):=by
  false_or_by_contra
  rename_i q;apply c;intro l f;obtain⟨i,F,rfl⟩:=vh f;false_or_by_contra
  rename_i d;exact q ⟨i,_,yn F,d⟩
 have e:∀n j:Nat,j=n->(∃l,r.qc[j]?=Z l/\¬Tr D0 l.o (zH l y))->∃(j:Nat) (l:zw),r.qc[j]?=Z l/\¬Tr D0 l.o (zH l y)/\∀(t:Nat) (a:zw),t<j->r.qc[t]?=Z a->Tr D0 a.o (zH a y):=by
  intro n;induction n using Nat.strongRecOn with
  |_ n I=>
   rintro j rfl ⟨l,f,d⟩;by_cases b:∃(t:Nat) (a:zw),t<j/\r.qc[t]?=Z a/\¬Tr D0 a.o (zH a y);obtain⟨t,a,g,o,h⟩:=b;exact I t g t rfl ⟨a,o,h⟩;refine⟨j,l,f,d,λt a g o=>?_⟩;false_or_by_contra
   rename_i h;exact b ⟨t,a,g,o,h⟩
 obtain⟨w,H,E,J⟩:=k;obtain⟨j,l,v,G,C⟩:=e w w rfl ⟨H,E,J⟩;exact⟨j,l,zs _,v,A l (ft v),G,λt a u=>⟨λz=>C t a z u,λ_=>A a (ft u)⟩,B⟩
def D3{w:Φ}{W wd k:Nat}(K:W=zM wd){D0 D:DB}{c0:Φ}{R':zv}(A:∀p x,Tr D0 p x->Tr D p x)(g:Uh w W k D c0 R')(Q:R'.count<=1048576)(a:Nat)(o:3*(W+1)<=a):
  ∀(d:List zw) (vs:List yO),vs.j=d.j->(∀l∈d,l.o<w.j)->(∀(i:Nat) (l:zw) (V:yO),d[i]?=Z l->vs[i]?=Z V->pU V l W (Tr D0 l.o) (Tr D l.o) (λx=>Tr D l.o x/\¬Tr D0 l.o x) (c0.g l.o 0)) →
   ∃c,f6 a wd R'.qw vs=Z c/\c.j=d.j/\∀(i:Nat) (l:zw) (V:yO),d[i]?=Z l->c[i]?=Z V->pU V l W (Tr D l.o) (Tr (zyx w R') l.o) (λx=>Tr (zyx w R') l.o x/\¬Tr D l.o x) ((R'.I.w (·.count)).g l.o 0)
 |[],[],_,_,_=>⟨[],rfl,rfl,λi l V h=>by simp at h⟩
 |[],V::vs,z,_,_=>by simp at z
 |l::d,[],z,_,_=>by simp at z
 |l::d,V::vs,z,J,H=>by
  have I:=H 0 l V rfl rfl;have u:=J l ζ;have f:l.o<R'.qw.j:=by rw[g.flen];exact u
  have j:l.o<R'.I.j:=by rw[g.inv.len];exact u
  have s:=g.qw l.o f;have t:=g.cnts l.o j;have G:=ev R'.I l.o j;rw[←g.inv.cnt] at G;have F:R'.qw.g l.o []=R'.qw[l.o]:=Tn _ f;rw[F] at t;obtain⟨E,T,r⟩:=CX I K R'.qw[l.o] (λx n=>(s.2 x n).2.1) η a o;obtain⟨c,P,R,N⟩:=D3 K A g Q a o d vs (by simpa using z) (λx n=>J x (by simp[n])) (λi C E y B=>H (i+1) C E (by simpa using y) (by simpa using B));have b:∀x,Tr (zyx w R') l.o x↔Tr D l.o x∨x∈R'.qw[l.o]:=by
   intro x;unfold Tr;rw[g.abs,F];cases hq:D l.o x with
   |some m=>simp
   |none=>
    simp only;by_cases n:x∈R'.qw[l.o]
    .simp[n]
    .simp[n]
  refine⟨E::c,?_,by simp[R],λi C S y B=>?_⟩
  .unfold f6;rw[I.lit,zb f,F,T,P]
  .cases i with
   |zero=>
    simp only[l9,zt] at y B;subst y;subst B;refine⟨r.lit,r.before.congr λx=>?_,r.qw.congr λx=>?_,r.all.congr λx=>(b x).z,?_⟩
    .constructor
     .rintro(q|q)
      .exact A _ x q
      .exact q.1
     .intro q;by_cases L:Tr D0 l.o x
      .exact zh L
      .exact ze ⟨q,L⟩
    .constructor
     .intro q;refine⟨(b x).2 (ze q),λv=>?_⟩;unfold Tr at v;rw[(s.2 x q).2.2] at v;cases v
     .rintro⟨M,v⟩;exact((b x).1 M).resolve_left v
    .have e:(R'.I.w (·.count)).g l.o 0=R'.I[l.o].count:=by simp[List.getD,j]
     rw[e,t];exact r.K
   |succ i=>exact N i C S (by simpa using y) (by simpa using B)
def Oj{d:Φ}{k:Nat}(y:W=zM wd){D:DB}{c0:Φ}{R':zv}(g:∀p x,Tr D0 p x->Tr D p x)(u:Uh d W k D c0 R')(n:R'.count<=1048576)(a:Nat)(e:3*(W+1)<=a)(s:km d W D0 D c0 ws rs)(h:∀r∈rs,∀l∈r.qc,l.o<d.j):
  ∃b,fc a wd R'.qw ws=Z b/\km d W D (zyx d R') (R'.I.w (·.count)) b rs:=by
 induction s with
 |nil=>exact⟨[],rfl,km.nil⟩
 |@cons w r ws rs c q z=>
  obtain⟨b,i,o⟩:=z (λx v=>h x (by simp[v]));obtain⟨f,t,j,m⟩:=D3 y g u n a e r.qc w.F c.len (h r ζ) c.F;refine⟨{w with F:=f}::b,?_,km.cons ⟨c.p,j,m⟩ o⟩;unfold fc;rw[t,i]
def j5(rs:List zu)(D:DB)(p:Nat)(x:zk):Prop:=∃r∈rs,p=r.g.o/\US r D x
noncomputable def zy4(rs:List zu)(k:Nat)(D:DB):DB:=λp x=>match D p x with
 |some m=>Z m
 |none=>if j5 rs D p x then Z k else Y
def Uh.clear{a:Φ}{R:zv}(h:qK a W R):Uh a W R.Q (zyx a R) (R.I.w (·.count)) (qT R):=by
 have d:∀p,(List.replicate R.I.j ([]:List zk)).g p []=[]:=λp=>by
  by_cases b:p<R.I.j<;>simp[List.getD,b]
 refine⟨⟨h.len,h.tries,h.cnt⟩,rfl,by simp[qT,h.len],λp b=>?_,λp x=>?_,λp b=>?_⟩;simp only[qT,eP];exact⟨List.nodup_nil,λx e=>by cases e⟩;show zyx a R p x=match zyx a R p x with|some m=>Z m|none=>if x∈(List.replicate R.I.j ([]:List zk)).g p [] then Z R.Q else Y
 rw[d];cases zyx a R p x<;>simp
 show R.I[p].count=(R.I.w (·.count)).g p 0+((List.replicate R.I.j ([]:List zk)).g p []).j;have c:p<R.I.j:=b;rw[d,show(R.I.w (·.count)).g p 0=R.I[p].count by simp[List.getD,c]];rfl
def Uh.start{a:Φ}{R:zv}(h:qK a W R):Uh a W (R.Q+1) (zyx a R) (R.I.w (·.count)) (qT {R with Q:=R.Q+1}):=
 Uh.clear (R:={R with Q:=R.Q+1}) ⟨h.len,h.tries,h.cnt⟩
def RF{b:Φ}(z:W=zM wd)(T:∀a∈b,a<=3){mr:Nat}(D:mr<=1048576)(c:Nat)(hs:tx rs b W)(v:(∀r∈rs,lD W r<=c)/\3*(W+1)<=c)(first:Bool){R:zv}(N:qK b W R)(L:R.count<=mr)(t:∀p x,Tr D0 p x->Tr (zyx b R) p x)(H:km b W D0 (zyx b R) (R.I.w (·.count)) ws rs)(B:first=false->∀p x,j5 rs D0 p x->Tr (zyx b R) p x):
  ∃d i ok,rt c wd mr first ws R=Z (d,i,ok)/\qK b W d/\d.Q=R.Q+1/\(∀p x,Tr (zyx b d) p x->Tr (zy4 rs (R.Q+1) (zyx b R)) p x)/\(ok=false->d.count>mr)/\(ok=true->d.count<=mr/\zyx b d=zy4 rs (R.Q+1) (zyx b R)/\km b W (zyx b R) (zyx b d) (d.I.w (·.count)) i rs):=by
 have V:0<W:=by rw[z];unfold zM;split<;>omega
 have C:=Uh.start N;have w:∀q x,x∉(qT {R with Q:=R.Q+1}).qw.g q []:=λq x h=>by
  have:(List.replicate R.I.j ([]:List zk)).g q []=[]:=by by_cases P:q<R.I.j<;>simp[List.getD,P]
  have A:x∈(List.replicate R.I.j ([]:List zk)).g q []:=h;rw[this] at A;cases A
 obtain⟨d,ok,Q,g,a3,G⟩:=MR (wd:=wd) (sL b R) t T V D c hs v.1 first H (λr o=>o) (qT {R with Q:=R.Q+1}) C L (λq x h=>zC h (w q x))
 have e:∀p x,x∈d.qw.g p []->j5 rs (zyx b R) p x:=λp x h=>(g.sound p x h).resolve_left (w p x);have k:∀p x,Tr (zyx b d) p x->Tr (zy4 rs (R.Q+1) (zyx b R)) p x:=by
  intro p x h;unfold Tr at h ⊢;rw[g.mid.abs] at h;unfold zy4;rcases u:zyx b R p x with _|m;rw[u] at h;by_cases s:x∈d.qw.g p [];rw[zb (e p x s)];rfl;rw[za s] at h;cases h;rfl
 unfold rt;rw[Q];cases ok;exact⟨d,ws,false,rfl,g.mid.inv,g.mid.Q,k,λ_=>g.no rfl,λq=>by cases q⟩;have j:=g.yes rfl;obtain⟨i,K,M⟩:=Oj z t g.mid η c v.2 H (λr o l S=>((hs.H r o).qc l S).1);simp only[K,jL];refine⟨d,i,true,rfl,g.mid.inv,g.mid.Q,k,λq=>(by cases q),λ_=>⟨j,?_,M⟩⟩;have n:∀p x,j5 rs (zyx b R) p x->Tr (zyx b d) p x:=by
  rintro p x ⟨r,o,rfl,y,J,I,rfl⟩;cases first
  rcases JO t J I with q|q;exact G rfl r o _ (by simp only[sD];exact⟨y,q,rfl⟩);have F:=B rfl r.g.o _ ⟨r,o,rfl,q⟩;unfold Tr at F ⊢;rw[g.mid.abs];rcases u:zyx b R r.g.o (zH r.g y) with _|m;rw[u] at F;cases F;rfl;exact G rfl r o _ (by simp only[sD,if_true];exact⟨y,J,I,rfl⟩)
 funext p x;have E:=g.mid.abs p x;unfold zy4;rw[E];rcases u:zyx b R p x with _|m;rw[u] at E;by_cases f:j5 rs (zyx b R) p x;have:=n p x f;unfold Tr at this;rw[E] at this;by_cases s:x∈d.qw.g p [];rw[zb s,zb f];rw[za s] at this;cases this;rw[za f,za (λs=>f (e p x s))];rfl
end
section
open Classical
def rX{c:Φ}{W:Nat}{R:zv}(h:qK c W R)(s:∀a∈c,a<=3){p:Nat}(j:p<R.I.j)(x:zk):x∈(TE R.I[p]).w (λk=>Um k R.I[p].ql)↔Tr (zyx c R) p x:=by
 obtain⟨m,t,n,q⟩:=h.tries p j;have b:p<c.j:=by rw[←h.len];exact j
 have i:c.g p 0<=3:=by rw[Tn _ b];exact s _ (zq b)
 have g:R.I[p].ql<=3:=by rw[n];exact(my _).2
 have f:R.I.g p zl.zero=R.I[p]:=Tn _ j;unfold Tr zyx;constructor;intro d;obtain⟨k,o,rfl⟩:=zF.1 d;obtain⟨l,r⟩:=(qN _ k).1 o;rw[zb ⟨b,q k o⟩,f,m.mark _ (Fr l g),sP l];exact r;intro d;by_cases e:p<c.j/\T1 (c.g p 0) x;rw[zb e,f,m.mark x e.2.1] at d;refine zF.2 ⟨x.G R.I[p].ql,(qN _ _).2 ⟨by rw[vd,e.2.1];omega,d⟩,?_⟩;rw[n,DJ i e.2];rw[za e] at d;cases d
def lA(D:DB)(n:Nat):Prop:=∃l:List (Nat×zk),l.Nodup/\(∀p x,(p,x)∈l↔Tr D p x)/\l.j=n
def Bm:∀{l1 l2:List (Nat×zk)},l1.Nodup->(∀x∈l1,x∈l2)->l1.j<=l2.j
 |[],l2,_,_=>ζ
 |a::l1,l2,e,c=>by
  have f:=c a ζ;have g:=Bm (l1:=l1) (l2:=l2.erase a) (jx.1 e).2 (λx d=>by
   have b:x≠a:=by rintro rfl;exact(jx.1 e).1 d
   exact(lN b).2 (c x (by simp[d])))
  rw[nt f] at g;have:=pd f;simp;omega
def sZ{D E:DB}{n m:Nat}(h:lA D n)(k:lA E m)(hs:∀p x,Tr D p x->Tr E p x):n<=m:=by
 obtain⟨l,a,d,rfl⟩:=h;obtain⟨f,e,c,rfl⟩:=k;exact Bm a λx b=>(c x.1 x.2).2 (hs _ _ ((d x.1 x.2).1 b))
def oE{D:DB}{n m:Nat}(h:lA D n)(k:lA D m):n=m:=Nat.le_antisymm (sZ h k λ_ _ q=>q) (sZ k h λ_ _ q=>q)
def O0{D E:DB}{n m:Nat}(h:lA D n)(k:lA E m)(hs:∀p x,Tr D p x->Tr E p x)(d:m<=n):∀p x,Tr E p x->Tr D p x:=by
 intro p x f;false_or_by_contra
 rename_i g;obtain⟨l,e,c,rfl⟩:=h;obtain⟨i,j,b,rfl⟩:=k;have:=Bm (l1:=(p,x)::l) (l2:=i) (jx.2 ⟨λq=>g ((c p x).1 q),e⟩) (λy a=>by
  rcases zG.1 a with rfl|a;exact(b p x).2 f;exact(b y.1 y.2).2 (hs _ _ ((c y.1 y.2).1 a)))
 simp at this;omega
def qK.card{g:Φ}{W:Nat}{R:zv}(h:qK g W R)(s:∀a∈g,a<=3):lA (zyx g R) R.count:=by
 refine⟨(List.range R.I.j).flatMap λp=>((TE (R.I.g p zl.zero)).w λk=>Um k (R.I.g p zl.zero).ql).w λx=>(p,x),?_,λp x=>?_,?_⟩;unfold List.Nodup;rw[List.pairwise_flatMap];refine⟨λp f=>?_,?_⟩;have l:=qv.1 f;rw[mX,Tn _ l,mX];refine List.Pairwise.imp_of_mem ?_ (oF R.I[p] R.I[p].ql 0 0);intro a b v w c e;simp only[ye,true_and] at e;have j:=((qN R.I[p] a).1 v).1;have t:=((qN R.I[p] b).1 w).1;have:=congrArg (List.take R.I[p].ql) e;rw[sP j,sP t] at this;exact c this;refine List.Pairwise.imp ?_ (List.nodup_range (n:=R.I.j));intro a b c x d y u e;obtain⟨_,_,rfl⟩:=zF.1 d;obtain⟨_,_,rfl⟩:=zF.1 u;simp only[ye] at e;exact c e.1;simp only[vg,qv];constructor;rintro⟨q,m,d⟩;obtain⟨z,r,e⟩:=zF.1 d;simp only[ye] at e;obtain⟨rfl,rfl⟩:=e;rw[Tn _ m] at r;exact(rX h s m z).1 r;intro d;have f:p<R.I.j:=by rw[h.len];exact(sL g R p x d).1
 refine⟨p,f,zF.2 ⟨x,?_,rfl⟩⟩;rw[Tn _ f];exact(rX h s f x).2 d;rw[List.length_flatMap,h.cnt];congr 1;refine jv ζ λi j t=>?_;have o:i<R.I.j:=by simpa using j
 simp only[ue,l8,xt,Tn zl.zero o];exact(h.tries i o).1.cnt
def tB:DB:=λ_ _=>Y
def De{o:Φ}{W wd:Nat}(d:W=zM wd)(y:∀a∈o,a<=3){R:zv}(h:qK o W R)(J:R.count<=1048576)(b:Nat)(j:3*(W+1)<=b):∀(m:List zw),(∀l∈m,l.o<o.j)->∃vs,fA b wd R m=Z vs/\vs.j=m.j/\∀(i:Nat) (l:zw) (V:yO),m[i]?=Z l->vs[i]?=Z V->pU V l W (Tr tB l.o) (Tr (zyx o R) l.o) (λx=>Tr (zyx o R) l.o x/\¬Tr tB l.o x) ((R.I.w (·.count)).g l.o 0)
 |[],_=>⟨[],rfl,rfl,λi l V h=>by simp at h⟩
 |l::m,C=>by
  obtain⟨vs,N,D,H⟩:=De d y h J b j m (λx w=>C x (by simp[w]));have c:l.o<R.I.j:=by rw[h.len];exact C l ζ
  obtain⟨A,B,P,Q⟩:=h.tries l.o c;have u:=ev R.I l.o c;rw[←h.cnt] at u;have t:0<W:=by rw[d];unfold zM;split<;>omega
  have p:lP wd R l.o=R.I[l.o]:=by unfold lP;rw[za η,Tn _ c]
  have r:=A.rowsG b (by rw[B];exact j) η;have L:pU (gF wd l) l W (λ_=>False) (λ_=>False) (λ_=>False) 0:=⟨rfl,vn.new l wd W d,vn.new l wd W d,vn.new l wd W d,by simp[gF,xk,yD],by simp[gF,xk,yD]⟩;have g:((TE R.I[l.o]).w λk=>Um k R.I[l.o].ql).j=R.I[l.o].count:=by rw[xt];exact A.cnt
  obtain⟨K,I,n⟩:=CX L d ((TE R.I[l.o]).w λk=>Um k R.I[l.o].ql) (λx w=>by
   obtain⟨k,F,rfl⟩:=zF.1 w;refine EA t ?_;intro v E;have:=w9 k 0 ((qN _ k).1 F).2 v E;rw[B] at this;exact this) (by rw[g];omega) b j
  have f:∀x,¬Tr tB l.o x:=λx q=>by cases q
  refine⟨K::vs,?_,by simp[D],λi G M s z=>?_⟩
  .unfold fA;rw[p,r];simp only[I,N]
  .cases i with
   |zero=>
    simp only[l9,zt] at s z;subst s;subst z;refine⟨n.lit,n.before.congr λx=>⟨λq=>by rcases q with q|q<;>exact q.elim,λq=>zC q (f x)⟩,n.qw.congr λx=>?_,n.all.congr λx=>?_,?_⟩
    .rw[rX h y c];exact⟨λq=>⟨q,f x⟩,λq=>q.1⟩
    .rw[rX h y c];exact⟨λq=>q.resolve_left id,ze⟩
    .have e:(R.I.w (·.count)).g l.o 0=R.I[l.o].count:=by simp[List.getD,c]
     have:=n.K;rw[g] at this;rw[e];simpa using this
   |succ i=>exact H i G M (by simpa using s) (by simpa using z)
def EM{e:Φ}{W wd:Nat}(f:W=zM wd)(m:∀a∈e,a<=3){R:zv}(h:qK e W R)(n:R.count<=1048576)(c:Nat)(d:3*(W+1)<=c)(s:Nat):∀(b:List zu),(∀r∈b,∀l∈r.qc,l.o<e.j)->∃g,TF c wd R s b=Z g/\km e W tB (zyx e R) (R.I.w (·.count)) g (b.filter λr=>decide (r.L=s))
 |[],_=>⟨[],rfl,km.nil⟩
 |r::b,o=>by
  obtain⟨g,j,k⟩:=EM f m h n c d s b (λx q=>o x (by simp[q]));unfold TF;by_cases i:r.L=s
  .obtain⟨vs,u,t,p⟩:=De f m h n c d r.qc (o r ζ);rw[zb i,u,j];refine⟨⟨r,vs⟩::g,rfl,?_⟩;rw[List.filter_cons_of_pos (by simp[i])];exact km.cons ⟨rfl,t,p⟩ k
  .rw[za i];refine⟨g,j,?_⟩;rw[List.filter_cons_of_neg (by simp[i])];exact k
def km.j{d:Φ}{W:Nat}{D0 D:DB}{c:Φ}{a:List yd}{rs:List zu}(h:km d W D0 D c a rs):a.j=rs.j:=by
 induction h with
 |nil=>rfl
 |cons _ _ b=>simp[b]
end
section
open Classical
variable {mr mx:Nat}
def mU(D:DB)(mr:Nat):Prop:=∃n,n<=mr/\lA D n
noncomputable def zyo(rs:List zu)(mr:Nat):Nat->Nat->DB->Option (DB×Nat)
 |0,_,_=>Y
 |left+1,k,D=>
  if mU (zy4 rs (k+1) D) mr then
   if ∀p x,Tr (zy4 rs (k+1) D) p x->Tr D p x then Z (zy4 rs (k+1) D,k+1)
   else zyo rs mr left (k+1) (zy4 rs (k+1) D)
  else Y
noncomputable def zyq(rules:List zu)(mr mx:Nat):Nat->Nat->Nat->DB->Option (DB×Nat)
 |0,_,k,D=>Z (D,k)
 |n+1,s,k,D=>
  if (rules.filter λr=>decide (r.L=s))=[] then zyq rules mr mx n (s+1) k D
  else match zyo (rules.filter λr=>decide (r.L=s)) mr (mx-k) k D with
   |none=>Y
   |some (D',k')=>zyq rules mr mx n (s+1) k' D'
noncomputable def zz3(fs:List jI):DB:=λp x=>if ∃f∈fs,f.o=p/\f.row=x then Z 0 else Y
noncomputable def z0n(S:qY)(mr mx:Nat):Option (DB×Nat):=if mU (zz3 S.facts) mr then zyq S.H mr mx S.M.j 0 0 (zz3 S.facts) else Y
def PF(rs:List zu)(k:Nat)(D:DB):∀p x,Tr D p x->Tr (zy4 rs k D) p x:=by
 intro p x h;unfold Tr zy4 at *;rcases a:D p x with _|m;rw[a] at h;cases h;rfl
def Ga{rs:List zu}{k:Nat}{D:DB}:∀p x,j5 rs D p x->Tr (zy4 rs k D) p x:=by
 intro p x h;unfold Tr zy4;rcases a:D p x with _|m;simp only;rw[zb h];rfl;rfl
def PH{c:Φ}{W wd:Nat}(A:W=zM wd)(G:∀a∈c,a<=3)(z:mr<=1048576){rs:List zu}(hs:tx rs c W)(B:Nat)(J:(∀r∈rs,lD W r<=B)/\3*(W+1)<=B):
  ∀(n:Nat) (first:Bool) (v:List yd) (R:zv) (D0:DB),qK c W R->R.count<=mr->R.Q<=mx->(∀p x,Tr D0 p x->Tr (zyx c R) p x)->km c W D0 (zyx c R) (R.I.w (·.count)) v rs->(first=false->∀p x,j5 rs D0 p x->Tr (zyx c R) p x)->B+(mx-R.Q)<n →
  ∃k ok,gD wd mr mx n first v R=Z (k,ok)/\(ok=false->zyo rs mr (mx-R.Q) R.Q (zyx c R)=Y)/\(ok=true->qK c W k/\k.count<=mr/\k.Q<=mx/\zyo rs mr (mx-R.Q) R.Q (zyx c R)=Z (zyx c k,k.Q)):=by
 intro n;induction n with
 |zero=>intro first v R D0 _ _ _ _ _ _ h;omega
 |succ n ih=>
  intro first v R D0 I Q hk F V w hn
  unfold gD;by_cases t:R.Q≥mx;rw[zb t];refine⟨R,false,rfl,λ_=>?_,λq=>by cases q⟩;rw[show mx-R.Q=0 by omega];rfl;rw[za t];obtain⟨left,j⟩:∃left,mx-R.Q=left+1:=⟨mx-R.Q-1,η⟩;obtain⟨f,D,ok,a1,C,L,N,T,S⟩:=RF A G z n hs ⟨λr hr=>by have:=J.1 r hr;omega,by have:=J.2;omega⟩ first I Q F V w
  rw[a1];have b:=C.card G;have d:=I.card G;rw[j];cases ok;refine⟨f,false,rfl,λ_=>?_,λq=>by cases q⟩;unfold zyo;rw[za];rintro⟨m,m1,M⟩;have:=sZ b M N;have:=T rfl;omega;obtain⟨y,u,b3⟩:=S rfl;simp only;have s:mU (zyx c f) mr:=⟨f.count,y,b⟩;have i:∀p x,Tr (zyx c R) p x->Tr (zyx c f) p x:=by rw[u];exact PF _ _ _
  by_cases g:f.count>R.count;rw[zb g];have l:¬∀p x,Tr (zyx c f) p x->Tr (zyx c R) p x:=λq=>by
   have:=sZ b d q;omega
  obtain⟨R2,E,P,H,K⟩:=ih false D f (zyx c R) C y η i b3 (λ_ p x hx=>by rw[u];exact Ga p x hx) η;have hl:mx-f.Q=left:=η;have e:zyo rs mr (left+1) R.Q (zyx c R)=zyo rs mr left f.Q (zyx c f):=by
   rw[zyo,←u,zb s,za l,L]
  rw[hl] at H K;exact⟨R2,E,P,λq=>by rw[e];exact H q,λq=>by rw[e];exact K q⟩;rw[za g];have o:=O0 d b i η;refine⟨f,true,rfl,λq=>(by cases q),λ_=>⟨C,y,η,?_⟩⟩;rw[zyo,←u,zb s,zb o,L]
structure eK (rs:List zu) (ar:List Nat) (W:Nat):Prop where
 H:∀r∈rs,pT r ar W
 apart:∀r∈rs,∀r'∈rs,r.L=r'.L->∀l∈r.qx,l.o≠r'.g.o
def eK.jm{a:List zu}{d:Φ}{W:Nat}(h:eK a d W)(s:Nat):tx (a.filter λr=>decide (r.L=s)) d W:=by
 refine⟨λr c=>h.H r (xy.1 c).1,λr c i b l f=>h.apart r (xy.1 c).1 i (xy.1 b).1 ?_ l f⟩;have e:=(xy.1 c).2;have g:=(xy.1 b).2;simp at e g;omega
def RL{e:Φ}{W wd:Nat}(h:W=zM wd)(A:∀a∈e,a<=3)(o:mr<=1048576){b:List zu}(y:eK b e W)(B:Nat)(t:(∀r∈b,lD W r<=B)/\3*(W+1)<=B)(d:Nat)(D:B+mx<d):
  ∀(n s:Nat) (R:zv),qK e W R->R.count<=mr->R.Q<=mx->∃i ok,kR d wd mr mx b n s R=Z (i,ok)/\(ok=false->zyq b mr mx n s R.Q (zyx e R)=Y)/\(ok=true->qK e W i/\i.count<=mr/\zyq b mr mx n s R.Q (zyx e R)=Z (zyx e i,i.Q)):=by
 intro n;induction n with
 |zero=>intro s R g j _;exact⟨R,true,rfl,λq=>(by cases q),λ_=>⟨g,j,rfl⟩⟩
 |succ n C=>
  intro s R g j u;obtain⟨w,E,v⟩:=EM h A g η d (by have:=t.2;omega) s b (λr m l L=>((y.H r m).qc l L).1);have c:=v.j;unfold kR py;rw[E];simp only;unfold zyq;by_cases k:(b.filter λr=>decide (r.L=s))=[];rw[zb k];rw[k] at c;rw[za (by simp at c;simp[c])];simp only;exact C (s+1) R g j u;rw[za k];have f:w.j>0:=by rw[c];exact List.length_pos_iff.2 k
  rw[zb f];obtain⟨z,ok,M,J,K⟩:=PH h A o (mx:=mx) (y.jm s) B ⟨λr m=>t.1 r (xy.1 m).1,t.2⟩ d true w R tB g j u (λp x q=>by cases q) v (λq=>by cases q) η;rw[M];cases ok;refine⟨z,false,rfl,λ_=>?_,λq=>by cases q⟩;rw[J rfl];obtain⟨F,G,I,H⟩:=K rfl;simp only;rw[H];exact C (s+1) z F G I
def Cv{d:Φ}{W:Nat}(y:∀a∈d,a<=3){mr:Nat}(e:mr<=1048576){k:Nat}{D0:DB}{c0:Φ}:∀(fs:List jI) (R:zv),(∀f∈fs,f.o<d.j/\T1 (d.g f.o 0) f.row/\TH W f.row)->Uh d W k D0 c0 R->R.count<=mr->∃c ok,kY mr fs R=Z (c,ok)/\Uh d W k D0 c0 c/\(∀q x,x∈R.qw.g q []->x∈c.qw.g q [])/\(∀q x,x∈c.qw.g q []->x∈R.qw.g q []∨∃f∈fs,f.o=q/\f.row=x)/\(ok=true->c.count<=mr/\∀f∈fs,Tr (zyx d c) f.o f.row)/\(ok=false->c.count>mr)
 |[],R,_,n,j=>⟨R,true,rfl,n,λq x b=>b,λq x b=>zh b,λ_=>⟨j,λf h=>by cases h⟩,λq=>by cases q⟩
 |f::fs,R,h,n,j=>by
  obtain⟨D,A,C⟩:=h f ζ;obtain⟨w,ok,K,m,_,B,t,r,H,J⟩:=n.add y D A C j e;unfold kY;rw[K];cases ok with
  |false=>
   refine⟨w,false,rfl,m,t,λq x b=>?_,(λq=>by cases q),J⟩;rcases r q x b with z|⟨i,o⟩
   .exact zh z
   .exact ze ⟨f,ζ,i.z,o.z⟩
  |true=>
   simp only;obtain⟨L,p,F,u,v,I,s,E⟩:=Cv y e fs w (λx b=>h x (by simp[b])) m (H rfl);refine⟨L,p,F,u,λq x b=>v q x (t q x b),λq x b=>?_,λq=>⟨(s q).1,λg l=>?_⟩,E⟩
   .rcases I q x b with z|⟨g,M,G⟩
    .rcases r q x z with z|⟨i,o⟩
     .exact zh z
     .exact ze ⟨f,ζ,i.z,o.z⟩
    .exact ze ⟨g,by simp[M],G⟩
   .rcases zG.1 l with rfl|l
    .exact m.grow u v B
    .exact(s q).2 g l
structure rV (S:qY):Prop where
 small:∀a∈S.M,a<=3
 facts:∀f∈S.facts,f.o<S.M.j/\T1 (S.M.g f.o 0) f.row/\TH (zM S.r) f.row
 H:eK S.H S.M (zM S.r)
def Kf(S:qY):qK S.M (zM S.r) ⟨S.M.w (xk S.r),0,0,0,[]⟩:=by
 refine⟨ζ,λp g=>?_,?_⟩;have b:p<S.M.j:=by simpa using g
 simp only[ue];refine⟨vK.new _ _,Hz _ _,by rw[sy,Tn _ b],λk e=>?_⟩;obtain⟨c,d⟩:=(qN _ k).1 e;rw[wI _ _ k (by rintro rfl;have:=(my S.M[p]).1;rw[sy] at c;simp at c;omega)] at d;cases d;show 0=_;rw[pg];have:∀l:Φ,(l.w ((λT:zl=>T.count) ∘ xk S.r)).sum=0:=by
  intro l;induction l with
  |nil=>rfl
  |cons a l f=>simp only[uq,qt,f];rfl
 exact(this _).z
def Cx(S:qY)(p:Nat)(x:zk):zyx S.M ⟨S.M.w (xk S.r),0,0,0,[]⟩ p x=none:=by
 unfold zyx;split;rename_i a;have b:p<(S.M.w (xk S.r)).j:=by simpa using a.1
 show uf ((S.M.w (xk S.r)).g p zl.zero) x=Y;rw[Tn _ b,ue,(vK.new _ _).mark x a.2.1,wI];intro e;have:=congrArg List.length e;rw[vd,a.2.1,sy] at this;have:=my S.M[p];simp at *;omega;rfl
def Nb{S:qY}(h:rV S)(o:mr<=1048576):∃N,∀b,N<=b->∃d,pn b S mr mx=Z d/\(d=Y->z0n S mr mx=Y)/\∀R,d=Z R->qK S.M (zM S.r) R/\R.count<=mr/\z0n S mr mx=Z (zyx S.M R,R.Q):=by
 obtain⟨B,u⟩:∃B,(∀r∈S.H,lD (zM S.r) r<=B)/\3*(zM S.r+1)<=B:=by
  have:∀w:List zu,∃B,∀r∈w,lD (zM S.r) r<=B:=by
   intro w;induction w with
   |nil=>exact⟨0,λr e=>by cases e⟩
   |cons a w ih=>
    obtain⟨B,u⟩:=ih;refine⟨B+lD (zM S.r) a,λr e=>?_⟩;rcases zG.1 e with rfl|e;omega;have:=u r e;omega
  obtain⟨B,u⟩:=this S.H;exact⟨B+3*(zM S.r+1),λr e=>by have:=u r e;omega,η⟩
 refine⟨B+mx+1,λb J=>?_⟩;have s:=Uh.clear (Kf S);have P:qT ⟨S.M.w (xk S.r),0,0,0,[]⟩=lz S:=rfl;obtain⟨R,ok,a1,i,a3,F,V,T⟩:=Cv h.small o S.facts (lz S) h.facts s (zs _);have l:∀q x,x∉(lz S).qw.g q []:=λq x j=>by
  have v:x∈(List.replicate (S.M.w (xk S.r)).j ([]:List zk)).g q []:=j;have:∀n,(List.replicate n ([]:List zk)).g q []=[]:=λn=>by by_cases hp:q<n<;>simp[List.getD,hp]
  rw[this] at v;cases v
 have k:∀p x,Tr (zyx S.M R) p x->Tr (zz3 S.facts) p x:=by
  intro p x j;unfold Tr at j ⊢;rw[i.abs,Cx] at j;by_cases g:x∈R.qw.g p [];unfold zz3;rw[zb ((F p x g).resolve_left (l p x))];rfl;rw[za g] at j;cases j
 unfold pn;rw[a1];cases ok;refine⟨Y,rfl,λ_=>?_,λR q=>by cases q⟩;unfold z0n;rw[za];rintro⟨m,m1,I⟩;have:=sZ (i.inv.card h.small) I k;have:=T rfl;omega;obtain⟨G,W⟩:=V rfl;have D:R.Q=0:=i.Q;have t:zyx S.M R=zz3 S.facts:=by
  funext p x;have C:=i.abs p x;rw[Cx] at C;rw[C];unfold zz3;by_cases y:∃f∈S.facts,f.o=p/\f.row=x;rw[zb y];obtain⟨f,L,rfl,rfl⟩:=y;have:=W f L;unfold Tr at this;rw[C] at this;by_cases g:f.row∈R.qw.g f.o [];rw[zb g];rw[za g] at this;cases this;rw[za y,za];intro g;exact y ((F p x g).resolve_left (l p x))
 have z:mU (zz3 S.facts) mr:=⟨R.count,G,by rw[←t];exact i.inv.card h.small⟩;obtain⟨R1,A,K,E,H⟩:=RL rfl h.small o (mx:=mx) h.H B u b η S.M.j 0 R i.inv G η;simp only[K,jL];rw[D,t] at E H;have c:z0n S mr mx=zyq S.H mr mx S.M.j 0 0 (zz3 S.facts):=by
  unfold z0n;rw[zb z]
 cases A;exact⟨Y,rfl,λ_=>by rw[c];exact E rfl,λR q=>by cases q⟩;refine⟨Z R1,rfl,(λq=>by cases q),λR2 q=>?_⟩;simp only[zt] at q;subst q;obtain⟨M,Q,d3⟩:=H rfl;exact⟨M,Q,by rw[c];exact d3⟩
end
def Uc(b:UInt8):Int:=(b.D:Int)
def U8:List UInt8->Int
 |[]=>0
 |b::_=>Uc b
def lQ(l:List UInt8)(k:Int):Nat:=if k=9 then 2 else if k=1∨k=2 then(l.takeWhile λb=>TL (Uc b)).j else if k=3 then(l.takeWhile λb=>yY (Uc b)).j else 1
def pi:Nat->List UInt8->Option (List Tp)
 |0,_=>Z []
 |_+1,[]=>Z []
 |n+1,a::l=>
  if qS (Uc a) then pi n l
  else if xw (Uc a) (U8 l)=0 then Y
  else if 6<lQ (a::l) (xw (Uc a) (U8 l)) then Y
  else(pi n ((a::l).drop (lQ (a::l) (xw (Uc a) (U8 l))))).w ((xw (Uc a) (U8 l),(⟨((a::l).G (lQ (a::l) (xw (Uc a) (U8 l)))).F⟩:ByteArray))::·)
def Ah(s:ByteArray)(i:Nat):Tt s i=U8 (s.data.v.drop i):=by
 unfold Tt;split;rename_i h;have a:i<s.data.v.j:=by simpa using h
 rw[xp a];simp[U8,Uc,ByteArray.getElem_eq_getElem_data];rename_i h;rw[uk (by have:s.data.v.j=s.q:=(by rw[nZ];rfl);omega)];rfl
def Cz(p:Int->Bool)(s:ByteArray):∀(n i:Nat),s.q-i<=n->yJ p s i=i+((s.data.v.drop i).takeWhile λb=>p (Uc b)).j:=by
 have e:s.data.v.j=s.q:=by rw[nZ];rfl
 intro n;induction n with
 |zero=>
  intro i h;rw[fx η,uk η];simp
 |succ n f=>
  intro i h;by_cases d:i<s.q;have a:=Ah s i;rw[xp η] at a ⊢;simp only[U8] at a;cases c:p (Tt s i);rw[nY c,pL,←a,c];simp;rw[mL d c,f (i+1) η,pL,←a,c];simp;omega;rw[fx d,uk η];simp
def N9{s:ByteArray}{i:Nat}{k:Int}(a:k≠0):yx s i k=i+lQ (s.data.v.drop i) k:=by
 unfold yx lQ;rw[za a];split;rfl;split;exact Cz TL s _ i (zf _);split;exact Cz yY s _ i (zf _);rfl
def RA(s:ByteArray)(i m:Nat):s.extract i (i+m)=⟨((s.data.v.drop i).G m).F⟩:=by
 apply ByteArray.ext;rw[ByteArray.data_extract];apply Array.ext';simp[List.take_drop]
def JM(s:ByteArray):∀(n i:Nat),Ty n s i=pi n (s.data.v.drop i):=by
 have j:s.data.v.j=s.q:=by rw[nZ];rfl
 intro n;induction n with
 |zero=>intro i;rfl
 |succ n h=>
  intro i;by_cases f:i<s.q;have d:=Ah s i;have b:=Ah s (i+1);have g:∀k,k≠0->yx s i k=i+lQ (s.data.v.drop i) k:=λk c=>N9 c;have e:=RA s i;have a:∀m,s.data.v.drop (i+m)=(s.data.v.drop i).drop m:=λm=>by rw[List.drop_drop]
  have o:=xp (l:=s.data.v) (i:=i) η;unfold Ty;rw[zb f];rw[o] at d g e a ⊢;unfold pi;simp only[U8] at d;rw[d,b,h];split;rfl;split;rfl;rename_i c;generalize xw (Uc s.data.v[i]) (U8 (List.drop (i+1) s.data.v))=k at *;rw[g k c];generalize lQ (s.data.v[i]::List.drop (i+1) s.data.v) k=m at *;rw[e8,e m,h,a m];rw[sE f,uk η];rfl
structure rm (x:List UInt8):Prop where
 ne:x≠[]
 six:x.j<=6
 kind:(xi (U8 x)=true∨qe (U8 x)=true)/\(∀b∈x,TL (Uc b)=true)∨yY (U8 x)=true/\∀b∈x,yY (Uc b)=true
def bl(x:ByteArray):List UInt8:=x.data.v
def nW(l:zj):Prop:=(rm (bl l.o)/\xi (U8 (bl l.o))=true)/\∀x∈l.k,rm (bl x)
def pP(c:zc):Prop:=c.g.i=false/\nW c.g/\∀l∈c.d,nW l
section
variable {r r2:List Tp}
def nS(x:Tp):Prop:=Uo x.1=true->rm (bl x.2)/\(x.1=1->xi (U8 (bl x.2))=true)
def By(p:UInt8->Bool)(l:List UInt8):l.G (l.takeWhile p).j=l.takeWhile p:=by
 induction l with
 |nil=>rfl
 |cons a l b=>
  rw[pL];split;simp[b];rfl
def io{p:UInt8->Bool}:∀{l:List UInt8} {b:UInt8},b∈l.takeWhile p->p b=true
 |[],_,h=>by simp at h
 |a::l,b,h=>by
  rw[pL] at h;split at h
  .rename_i c;rcases zG.1 h with rfl|h
   .exact c
   .exact io h
  .cases h
def AC:∀(n:Nat) (l:List UInt8) (ts:Δ),pi n l=Z ts->∀x∈ts,nS x
 |0,_,ts,h,x,f=>by simp[pi] at h;subst h;cases f
 |_+1,[],ts,h,x,f=>by simp[pi] at h;subst h;cases f
 |n+1,a::l,ts,h,x,f=>by
  unfold pi at h;split at h
  .exact AC n l ts h x f
  .split at h
   .cases h
   .rename_i y;split at h
    .cases h
    .rename_i u;obtain⟨w,v,rfl⟩:=qq.1 h;rcases zG.1 f with rfl|f
     .intro s;simp only at s ⊢;have t:∀m,bl (⟨((a::l).G m).F⟩:ByteArray)=(a::l).G m:=λm=>by simp[bl]
      rw[t];generalize c:xw (Uc a) (U8 l)=k at *;unfold xw at c;by_cases g:xi (Uc a)=true
      .rw[zb g] at c;subst c;have e:lQ (a::l) 1=((a::l).takeWhile λb=>TL (Uc b)).j:=rfl;rw[e] at u ⊢;rw[By];have d:(a::l).takeWhile (λb=>TL (Uc b))=a::l.takeWhile (λb=>TL (Uc b)):=by rw[pL,zb (by simp[TL,g])]
       refine⟨⟨by rw[d];simp,η,zh ⟨zh (by rw[d];exact g),λb i=>io (p:=λb=>TL (Uc b)) i⟩⟩,λ_=>by rw[d];exact g⟩
      .rw[za g] at c;by_cases o:qe (Uc a)=true
       .rw[zb o] at c;subst c;have e:lQ (a::l) 2=((a::l).takeWhile λb=>TL (Uc b)).j:=rfl;rw[e] at u ⊢;rw[By];have d:(a::l).takeWhile (λb=>TL (Uc b))=a::l.takeWhile (λb=>TL (Uc b)):=by rw[pL,zb (by simp[TL,o])]
        exact⟨⟨by rw[d];simp,η,zh ⟨ze (by rw[d];exact o),λb i=>io (p:=λb=>TL (Uc b)) i⟩⟩,λq=>by cases q⟩
       .rw[za o] at c;by_cases j:yY (Uc a)=true
        .rw[zb j] at c;subst c;have e:lQ (a::l) 3=((a::l).takeWhile λb=>yY (Uc b)).j:=rfl;rw[e] at u ⊢;rw[By];have d:(a::l).takeWhile (λb=>yY (Uc b))=a::l.takeWhile (λb=>yY (Uc b)):=by rw[pL,zb (by simp[j])]
         exact⟨⟨by rw[d];simp,η,ze ⟨by rw[d];exact j,λb i=>io (p:=λb=>yY (Uc b)) i⟩⟩,λq=>by cases q⟩
        .exfalso;rw[za j] at c;split at c
         .subst c;simp[Uo] at s
         .unfold fo at c
          (repeat' split at c)<;>subst c<;>simp[Uo] at s
     .exact AC n _ w v x f
def Hp:∀(r:Δ) {ts:κ} {r2:Δ},yw r=Z (ts,r2)->(∀x∈r,nS x)->(∀y∈ts,rm (bl y))/\∀x∈r2,x∈r
 |[],_,_,h,_=>by simp[yw] at h
 |[x],ts,r2,h,b=>by
  simp only[yw] at h;split at h
  .rename_i c;simp only[zt,ye] at h;obtain⟨rfl,rfl⟩:=h;exact⟨λy d=>by simp at d;subst d;exact(b x ζ c).1,ζ⟩
  .cases h
 |x::y::r,ts,r2,h,b=>by
  simp only[yw] at h;split at h
  .rename_i c;split at h
   .obtain⟨z,g,e⟩:=qq.1 h;simp only[ye] at e;obtain⟨rfl,rfl⟩:=e;obtain⟨f,i⟩:=Hp r (ts:=z.1) (r2:=z.2) g (λu a=>b u (by simp[a]));refine⟨λu a=>?_,λu a=>by simp[i u a]⟩;rcases zG.1 a with rfl|a
    .exact(b x ζ c).1
    .exact f u a
   .simp only[zt,ye] at h;obtain⟨rfl,rfl⟩:=h;exact⟨λu a=>by simp at a;subst a;exact(b x ζ c).1,λu a=>by simp[List.mem_cons.1 a]⟩
  .cases h
def fU{x:Tp}(h:x∈r.tail):x∈r:=by
 rcases r with _|⟨a,r⟩;exact h;simp at h;simp[h]
def BI{l:zj}(h:xx r=Z (l,r2))(f:∀x∈r,nS x):l.i=false/\nW l/\∀x∈r2,x∈r:=by
 unfold xx at h;split at h;rename_i e;rcases r with _|⟨a,r⟩;simp[T7] at e;have j:a.1=1:=e;have i:=f a ζ (by rw[j];rfl);have m:rm (bl a.2)/\xi (U8 (bl a.2))=true:=⟨i.1,i.2 j⟩;change (if T7 r=4 then(match yw r.tail with|none=>Y|some (d,r2)=>if T7 r2=5 then Z ((⟨false,a.2,d⟩:zj),r2.tail) else Y) else Z ((⟨false,a.2,[]⟩:zj),r))=Z (l,r2) at h;by_cases g:T7 r=4;rw[zb g] at h;rcases c:yw r.tail with _|z;rw[c] at h;cases h;obtain⟨d,p⟩:=z;rw[c] at h;simp only at h;by_cases k:T7 p=5;rw[zb k] at h;simp only[zt,ye] at h;obtain⟨rfl,rfl⟩:=h;obtain⟨n,q⟩:=Hp _ c (λu b=>f u (by simp[fU b]));exact⟨rfl,⟨m,n⟩,λu b=>by simp[fU (q u (fU b))]⟩;rw[za k] at h;cases h;rw[za g] at h;simp only[zt,ye] at h;obtain⟨rfl,rfl⟩:=h;exact⟨rfl,⟨m,λy o=>by cases o⟩,λu b=>by simp[b]⟩;cases h
def NE{l:zj}(h:uU r=Z (l,r2))(b:∀x∈r,nS x):nW l/\∀x∈r2,x∈r:=by
 unfold uU at h;split at h;obtain⟨z,e,c⟩:=qq.1 h;simp only[ye] at c;obtain⟨rfl,rfl⟩:=c;obtain⟨_,f,d⟩:=BI (l:=z.1) (r2:=z.2) e (λu a=>b u (fU a));exact⟨f,λu a=>fU (d u a)⟩;exact(BI h b).2
def Ck:∀(n:Nat) {r:Δ} {b:Ω} {r2:Δ},uh n r=Z (b,r2)->(∀x∈r,nS x)->(∀l∈b,nW l)/\∀x∈r2,x∈r
 |0,_,_,_,h,_=>by cases h
 |n+1,r,b,r2,h,g=>by
  unfold uh at h;split at h
  .cases h
  .rename_i a p j;obtain⟨f,e⟩:=NE j g;split at h
   .obtain⟨z,o,i⟩:=qq.1 h;simp only[ye] at i;obtain⟨rfl,rfl⟩:=i;obtain⟨k,m⟩:=Ck n (b:=z.1) (r2:=z.2) o (λu d=>g u (e u (fU d)));refine⟨λl c=>?_,λu d=>e u (fU (m u d))⟩;rcases zG.1 c with rfl|c
    .exact f
    .exact k l c
   .simp only[zt,ye] at h;obtain⟨rfl,rfl⟩:=h;exact⟨λl c=>by simp at c;subst c;exact f,e⟩
def Ql{n:Nat}{c:zc}(h:vH n r=Z (c,r2))(g:∀x∈r,nS x):pP c/\∀x∈r2,x∈r:=by
 unfold vH at h;split at h;cases h;rename_i a s j;obtain⟨i,f,e⟩:=BI j g;split at h;split at h;cases h;rename_i b q p;split at h;simp only[zt,ye] at h;obtain⟨rfl,rfl⟩:=h;obtain⟨k,o⟩:=Ck n p (λu d=>g u (e u (fU d)));exact⟨⟨i,f,k⟩,λu d=>e u (fU (o u (fU d)))⟩;cases h;split at h;simp only[zt,ye] at h;obtain⟨rfl,rfl⟩:=h;exact⟨⟨i,f,λl m=>by cases m⟩,λu d=>e u (fU d)⟩;cases h
def DC{n:Nat}:∀(m:Nat) {r:Δ} {cs:Ξ},yX n m r=Z cs->(∀x∈r,nS x)->∀c∈cs,pP c
 |m,[],cs,h,_=>by cases m<;>(simp[yX] at h;subst h;simp)
 |0,_::_,cs,h,_=>by simp[yX] at h
 |m+1,x::r,cs,h,b=>by
  unfold yX at h;split at h
  .cases h
  .rename_i c r2 e;obtain⟨d,i⟩:=Ql e b;obtain⟨j,f,rfl⟩:=qq.1 h;intro z a;rcases zG.1 a with rfl|a
   .exact d
   .exact DC m f (λu g=>b u (i u g)) z a
def LO{s:ByteArray}{l:Δ}(h:Tu s=Z l):∀x∈l,nS x:=by
 unfold Tu at h;rw[JM] at h;exact AC _ _ _ h
end
section
variable {hs:List Nat}
def Uj(V:Nat):List Nat->Nat
 |[]=>0
 |h::r=>V*(h+Uj V r)+1
def Uu(V:Nat):List Nat->List Nat->Nat->Nat
 |h::r,f::a,d=>(V-f)*(h+Uj V r)+1+(match d with|0=>0|d+1=>Uu V r a d)
 |_,_,_=>0
def A0(V:Nat):∀(hs b:Φ) {d e:Nat},d<=e->Uu V hs b d<=Uu V hs b e
 |[],_,_,_,_=>by simp[Uu]
 |_::_,[],_,_,_=>by simp[Uu]
 |h::r,f::a,0,e,_=>by simp[Uu]
 |h::r,f::a,d+1,0,q=>η
 |h::r,f::a,d+1,e+1,q=>by
  have:=A0 V r a (d:=d) (e:=e) η;simp only[Uu];omega
def Eg(V:Nat)(hs a:Φ):Uu V hs (a.set 0 0) 0<=Uj V hs:=by
 rcases hs with _|⟨h,r⟩;simp[Uu];cases a<;>simp[Uu,Uj]
def C2(V:Nat){v:Nat}(k:v<V):∀(d:Nat) (hs c:Φ),d<hs.j->d<c.j->c.g d 0<=v->Uu V hs ((c.set d (v+1)).set (d+1) 0) (d+1)+hs.g d 0*(v+1-c.g d 0)<=Uu V hs c d
 |0,h::r,f::e,_,_,g=>by
  have i:=Eg V r e;simp only[rq,pC,Uu,List.getD_cons_zero] at g ⊢;obtain⟨a,q⟩:∃a,V=a+(v+1):=⟨V-(v+1),η⟩;obtain⟨b,s⟩:∃b,v=b+f:=⟨v-f,η⟩;have j:V-(v+1)=a:=η;have n:V-f=a+(b+1):=η;have l:v+1-f=b+1:=η;rw[j,n,l];have o:(a+(b+1))*(h+Uj V r)=a*(h+Uj V r)+((b+1)*h+(b*Uj V r+Uj V r)):=by rw[mm,Nat.mul_add (b+1),mm b 1 (Uj V r),Nat.one_mul]
  have p:h*(b+1)=(b+1)*h:=Nat.mul_comm _ _;omega
 |d+1,h::r,f::e,i,m,g=>by
  have:=C2 V k d r e (by simpa using i) (by simpa using m) (by simpa using g);simp only[pC,Uu,List.getD_cons_succ] at this ⊢;omega
 |_,[],_,h,_,_=>by simp at h
 |_,_::_,[],_,h,_=>by simp at h
def D4(V:Nat):∀(d:Nat) (hs a:Φ),d<hs.j->d<a.j->hs.g d 0*(V-a.g d 0)+1<=Uu V hs a d/\∀b,b<d->Uu V hs a b+(hs.g d 0*(V-a.g d 0)+1)<=Uu V hs a d
 |0,h::r,f::c,_,_=>by
  refine⟨?_,λb j=>η⟩;simp only[Uu,List.getD_cons_zero,Nat.mul_add];rw[Nat.mul_comm h];omega
 |d+1,h::r,f::c,e,i=>by
  obtain⟨k,g⟩:=D4 V d r c (by simpa using e) (by simpa using i);simp only[Uu,List.getD_cons_succ];refine⟨η,λb j=>?_⟩;cases b with
  |zero=>simp only;omega
  |succ b=>have:=g b η;simp only;omega
 |_,[],_,h,_=>by simp at h
 |_,_::_,[],_,h=>by simp at h
def U5(V:Nat)(hs a:List Nat)(d:Int):Nat:=if d<0 then 0 else Uu V hs a d.D
def RJ(V:Nat)(hs a:Φ){d e:Int}(h:d<=e):U5 V hs a d<=U5 V hs a e:=by
 unfold U5;split;omega;split;omega;exact A0 V hs a η
structure UN (V:Nat) (hs:List Nat) (J:zE):Prop where
 wide:∀i,(J.ja.g i xa.zero).I.r<=V
 jf:∀p,p<hs.j->(J.jf.g p []).j=hs.g p 0
 m:J.m=hs.j
 five:hs.j<=5
 ji:∀p,p<hs.j->J.ji.g p 0<(p:Int)
 last:J.last<(hs.j:Int)
 flen:J.from.j=5
def UN.same{V:Nat}{J a:zE}(h:UN V hs J)(s:qE J a):UN V hs a:=by
 rw[s];exact⟨h.wide,h.jf,h.m,h.five,h.ji,h.last,h.flen⟩
def PU{T:zl}{a f v:Nat}(h:yG T a f=Z v):f<T.r/\v<T.r:=by
 unfold yG at h;split at h;rename_i q;simp only at h;split at h;cases h;cases h;exact⟨q.2,η⟩;cases h
def oR{V:Nat}(hs:List (Nat×Nat)):∀(n:Nat) (J:zE) (at' a b m:Nat) (f:zE) (o:Option Nat),(∀i,(J.ja.g i xa.zero).I.r<=V)->J.jg=(m:Int)->m+hs.j*(V-at')+1<9223372036854775808+a->(a=0∨at'<V)->a<=hs.j->gC n J hs at' a b=Z (f,o)->∃e:Nat,f.jg=(e:Int)/\qE J f/\(o=Y->e+a<=m+hs.j*(V-at')+1)/\∀v,o=Z v->at'<=v/\(0<hs.j->v<V)/\e+a<=m+hs.j*(v+1-at')
 |0,_,_,_,_,_,_,_,_,_,_,_,_,h=>by simp[gC] at h
 |n+1,J,at',a,b,m,f,o,w,y,K,d,C,h=>by
  simp only[gC] at h;by_cases k:a<hs.j
  .rw[zb k] at h;unfold qd at h;by_cases g:vL J (hs.g b (0,0))=true
   .rw[zb g] at h;have E:m+1<9223372036854775808:=by
     rcases d with rfl|d
     .omega
     .have:hs.j*1<=hs.j*(V-at'):=nB _ η;omega
    have p:IntKind.i64.wrap (J.jg+1)=((m+1:Nat):Int):=by rw[y,IntKind.wrap_i64];omega
    rw[p] at h;cases l:yG (J.ja.g (hs.g b (0,0)).1 xa.zero).I ((J.ja.g (hs.g b (0,0)).1 xa.zero).B.g (hs.g b (0,0)).2 0) at' with
    |none=>
     rw[l] at h;simp only[zt,ye] at h;obtain⟨rfl,rfl⟩:=h;refine⟨m+1,rfl,rfl,λ_=>?_,λv q=>by cases q⟩;rcases d with rfl|d
     .omega
     .have:hs.j*1<=hs.j*(V-at'):=nB _ η;omega
    |some v=>
     rw[l] at h;simp only at h;obtain⟨G,D⟩:=PU l;have H:=w (hs.g b (0,0)).1;have A:at'<V:=η;have r:v<V:=η;by_cases c:v>at'
     .rw[zb c,zb c] at h;have L:hs.j*(V-at')=hs.j*(V-v)+hs.j*(v-at'):=by rw[←Nat.mul_add];congr 1;omega
      have M:hs.j*1<=hs.j*(v-at'):=nB _ η;obtain⟨e,s,j,t,z⟩:=oR hs n {J with jg:=((m+1:Nat):Int)} v (0+1) _ (m+1) f o (λi=>w i) rfl η (ze r) η h;refine⟨e,s,?_,λq=>?_,λu q=>?_⟩
      .unfold qE at j ⊢;rw[j]
      .have:=t q;omega
      .obtain⟨B,x,F⟩:=z u q;refine⟨η,x,?_⟩;have I:hs.j*(u+1-at')=hs.j*(u+1-v)+hs.j*(v-at'):=by rw[←Nat.mul_add];congr 1;omega
       omega
     .rw[za c,za c] at h;obtain⟨e,s,j,t,z⟩:=oR hs n {J with jg:=((m+1:Nat):Int)} at' (a+1) _ (m+1) f o (λi=>w i) rfl η (ze A) η h;refine⟨e,s,?_,λq=>?_,λu q=>?_⟩
      .unfold qE at j ⊢;rw[j]
      .have:=t q;omega
      .obtain⟨B,x,F⟩:=z u q;exact⟨B,x,η⟩
   .rw[za g] at h;simp only[zt,ye] at h;obtain⟨rfl,rfl⟩:=h;refine⟨m,y,rfl,λ_=>?_,λv q=>by cases q⟩;rcases d with rfl|d
    .omega
    .have:hs.j*1<=hs.j*(V-at'):=nB _ η;omega
  .rw[za k] at h;simp only[zt,ye] at h;obtain⟨rfl,rfl⟩:=h;refine⟨m,y,rfl,(λq=>by cases q),λv q=>?_⟩;cases q;refine⟨zf _,λq=>?_,?_⟩
   .rcases d with rfl|d
    .omega
    .exact d
   .have:at'+1-at'=1:=η;rw[this];omega
def IE{V:Nat}{J:zE}(h:UN V hs J){n d f m:Nat}(r:d<hs.j)(e:J.jg=(m:Int))(s:m+hs.g d 0*(V-f)+1<9223372036854775808){c:zE}{o:Option Nat}(a:lc n J d f=Z (c,o)):∃b:Nat,c.jg=(b:Int)/\qE J c/\(o=Y->b<=m+hs.g d 0*(V-f)+1)/\∀v,o=Z v->f<=v/\v<V/\b<=m+hs.g d 0*(v+1-f):=by
 unfold lc at a;split at a;simp only[zt,ye] at a;obtain⟨rfl,rfl⟩:=a;exact⟨m,e,rfl,λ_=>η,λv q=>by cases q⟩;rename_i t;rw[←h.jf d r] at s ⊢;obtain⟨b,i,p,j,k⟩:=oR _ n J f 0 0 m c o h.wide e η (zh rfl) (zs _) a;refine⟨b,i,p,λq=>by have:=j q;omega,λv q=>?_⟩;obtain⟨l,g,u⟩:=k v q;exact⟨l,g η,η⟩
def If(v:Nat):∀(hs:List (Nat×Nat)) (J:zE),∃a,hs.H (vF v) J={J with ja:=a}/\∀i,(a.g i xa.zero).I=(J.ja.g i xa.zero).I
 |[],J=>⟨J.ja,rfl,λ_=>rfl⟩
 |h::r,J=>by
  obtain⟨g,b,f⟩:∃a,vF v J h={J with ja:=a}/\∀i,(a.g i xa.zero).I=(J.ja.g i xa.zero).I:=by
   unfold vF;split
   .exact⟨J.ja,rfl,λ_=>rfl⟩
   .refine⟨_,rfl,λi=>?_⟩;rw[nG];split
    .rename_i q;rw[q.1]
    .rfl
  obtain⟨e,c,d⟩:=If v r (vF v J h);refine⟨e,?_,λi=>?_⟩
  .rw[uJ,c,b]
  .rw[d,b];exact f i
def UN.G{V:Nat}{J:zE}(h:UN V hs J){d v:Nat}(g:d<hs.j):UN V hs (uB J d v)/\(uB J d v).jg=J.jg/\(uB J d v).from=(J.from.set d (v+1)).set (d+1) 0:=by
 have j:=h.five;have a:=h.flen;have c:(if d+1<5 then(J.from.set d (v+1)).set (d+1) 0 else J.from.set d (v+1))=(J.from.set d (v+1)).set (d+1) 0:=by
  split;rfl;exact(List.set_eq_of_length_le υ).z
 unfold uB;rw[za η,c];obtain⟨f,b,e⟩:=If v (J.jf.g d []) {J with P:=J.P.set d v,«from»:=(J.from.set d (v+1)).set (d+1) 0};rw[b];exact⟨⟨λi=>by rw[e];exact h.wide i,h.jf,h.m,h.five,h.ji,h.last,by simp[a]⟩,rfl,rfl⟩
def oz{V:Nat}{hs:Φ}{B:Nat}(u:B<9223372036854775808):∀(n:Nat) (J:zE) (d:Int) (m:Nat) (a:zE) (o:Bool),UN V hs J->J.jg=(m:Int)->d<=hs.j->m+U5 V hs J.from d<=B->jF n J d=Z (a,o)->UN V hs a/\∃r:Nat,a.jg=(r:Int)/\r<=B/\(o=true->r+U5 V hs a.from hs.j<=B)
 |0,_,_,_,_,_,_,_,_,_,h=>by simp[jF] at h
 |n+1,J,d,m,a,o,c,y,Q,p,h=>by
  simp only[jF] at h;have S:=c.five;have L:=c.m;by_cases s:0<=d/\d<(J.m:Int)/\d<5
  .rw[zb s] at h;obtain⟨k,rfl⟩:∃k:Nat,d=(k:Int):=⟨d.D,η⟩;have e:k<hs.j:=η;have g:k<J.from.j:=by rw[c.flen];omega
   simp only[Int.toNat_natCast] at h;have l:U5 V hs J.from (k:Int)=Uu V hs J.from k:=by unfold U5;rw[za η,Int.toNat_natCast]
   rw[l] at p;obtain⟨R,C⟩:=D4 V k hs J.from e g;cases j:lc n J k (J.from.g k 0) with
   |none=>rw[j] at h;simp at h
   |some x=>
    obtain⟨i,K⟩:=x;rw[j] at h;obtain⟨t,z,w,P,F⟩:=IE c e y η j;have b:=c.same w;have f:i.from=J.from:=by rw[w]
    cases K with
    |none=>
     simp only at h;have A:=b.ji k e;have:=P rfl;refine oz u n i _ t a o b z η ?_ h;rw[f];unfold U5;split
     .omega
     .have:=C (i.ji.g k 0).D η;omega
    |some v=>
     simp only at h;obtain⟨H,N,T⟩:=F v rfl;obtain⟨D,I,E⟩:=b.G (v:=v) e;have M:=C2 V N k hs J.from e g H;have G:=A0 V hs ((J.from.set k (v+1)).set (k+1) 0) (Nat.le_add_right k 1);refine oz u n (uB i k v) _ t a o D (by rw[I,z]) (by split<;>omega) ?_ h;rw[E,f];split
     .unfold U5;rw[za η,Int.toNat_natCast];omega
     .unfold U5;rw[za η,show((k:Int)+1).D=k+1 from by omega];omega
  .rw[za s] at h;simp only[zt,ye] at h;obtain⟨rfl,rfl⟩:=h;refine⟨c,m,y,η,λq=>?_⟩;have W:d≥(J.m:Int):=by simpa using q
   rw[show d=(hs.j:Int) from by omega] at p;exact p
end
section
variable {R R':zv}{mr:Nat}
def Ld{V:Nat}{hs:Φ}{B:Nat}(l:B<9223372036854775808){n:Nat}{J b:zE}{m:Nat}{o:Bool}(s:UN V hs J)(g:J.jg=(m:Int))(i:J.ql<=hs.j)(r:m+U5 V hs J.from J.ql<=B)(h:ly n J=Z (b,o)):UN V hs b/\b.ql<=hs.j/\∃d:Nat,b.jg=(d:Int)/\d+U5 V hs b.from b.ql<=B:=by
 unfold ly at h;rcases e:jF n J J.ql with _|x;rw[e] at h;simp at h;obtain⟨c,f⟩:=x;rw[e] at h;simp only[zt,ye] at h;obtain⟨rfl,rfl⟩:=h;obtain⟨a,d,k,j,p⟩:=oz l n J J.ql m c f s g i r e;refine⟨⟨a.wide,a.jf,a.m,a.five,a.ji,a.last,a.flen⟩,?_,d,k,?_⟩;have:=a.last;show(if f=true then c.last else -1)<=_;split<;>omega
 show d+U5 V hs c.from (if f=true then c.last else -1)<=B;split;rename_i q;have:=p q;have:=RJ V hs c.from (Int.le_of_lt a.last);omega;simp only[U5];rw[zb η];exact j
def U0(R R':zv)(c:Nat):Prop:=R'.Q=R.Q/\∀k:Nat,R.jg=(k:Int)->k+c<9223372036854775808->∃a:Nat,R'.jg=(a:Int)/\a<=k+c
def U0.A{R a b:zv}{c d:Nat}(h:U0 R a c)(g:U0 a b d):U0 R b (c+d):=
 ⟨g.1.A h.1,λk l n=>by
  obtain⟨e,f,m⟩:=h.2 k l η;obtain⟨i,j,o⟩:=g.2 e f η;exact⟨i,j,η⟩⟩
def U0.y{c d:Nat}(h:U0 R R' c)(g:c<=d):U0 R R' d:=
 ⟨h.1,λk e i=>by
  obtain⟨a,b,f⟩:=h.2 k e η;exact⟨a,b,η⟩⟩
def U0.refl(R:zv):U0 R R 0:=⟨rfl,λk a _=>⟨k,a,η⟩⟩
def GA{p:Nat}{x:zk}{ok:Bool}(h:jV mr R p x=Z (R',ok)):U0 R R' 0:=by
 have:R'.jg=R.jg/\R'.Q=R.Q:=by
  unfold jV at h;split at h;split at h;cases h;exact⟨rfl,rfl⟩;cases h;exact⟨rfl,rfl⟩;cases h
 exact⟨this.2,λk a _=>⟨k,by rw[this.1,a],η⟩⟩
def EF{V:Nat}{hs:Φ}{B:Nat}(f:B<9223372036854775808){mr p:Nat}:∀(n:Nat) (R:zv) (J:zE) (m:Nat) (R':zv),UN V hs J->J.jg=(m:Int)->J.ql<=hs.j->m+U5 V hs J.from J.ql<=B->vM mr p n R J=Z (R',true)->U0 R R' B
 |0,_,_,_,_,_,_,_,_,h=>by simp[vM] at h
 |n+1,R,J,m,R',u,i,s,t,h=>by
  simp only[vM] at h;cases b:ly n J with
  |none=>rw[b] at h;simp at h
  |some x=>
   obtain⟨a,o⟩:=x;rw[b] at h;obtain⟨l,g,d,e,q⟩:=Ld f u i s t b;cases o with
   |false=>
    simp only[zt,ye,and_true] at h;subst h;refine⟨rfl,λk r v=>⟨k+d,?_,η⟩⟩;show IntKind.i64.wrap (R.jg+a.jg)=_;rw[r,e,IntKind.wrap_i64];omega
   |true=>
    simp only at h;cases c:jV mr R p (zH a.g a.P) with
    |none=>rw[c] at h;simp at h
    |some y=>
     obtain⟨j,ok⟩:=y;rw[c] at h;cases ok with
     |false=>simp at h
     |true=>
      have:=(GA c).A (EF f n j a d R' l e g q h);exact this.y η
def Ua(r:zu):List Nat:=(List.range r.m).w λp=>(xz r p).j
def EO{V:Nat}{r:zu}(m:r.m<=5){b Ns:List zl}(j:∀T∈b,T.r<=V){p n:Nat}(k:Uj V (Ua r)<9223372036854775808)(h:vM mr p n R (xK r b Ns)=Z (R',true)):U0 R R' (Uj V (Ua r)):=by
 obtain⟨c,g,l⟩:=oI r b Ns;have e:c=-1∨c=0:=by rw[l];split<;>(try split)<;>simp
 rw[g] at h;have a:(Ua r).j=r.m:=by simp[Ua]
 refine EF (V:=V) (hs:=Ua r) k n R _ 0 R' ⟨λi=>?_,λq d=>?_,a.z,η,λq d=>?_,?_,rfl⟩ rfl ?_ ?_ h;show((b.w λT=>(⟨T,[0,0,0]⟩:xa)).g i xa.zero).I.r<=V;by_cases f:i<b.j;rw[Tn _ (by simpa using f),ue];exact j _ (zq f);rw[kS,gi (by simpa using f)];exact zs _;show(((List.range 5).w (xz r)).g q []).j=_;rw[a] at d;rw[Tn _ υ,Tn _ η];simp[Ua];show((List.range 5).w λp=>xO r (p:Nat)).g q 0<_;rw[a] at d;rw[Tn _ υ];simp only[ue,l8];exact(t7 r η).1;show xO r r.m<_;rw[a];exact(t7 r η).1;show c<=_;omega;show 0+U5 V (Ua r) [0,0,0,0,0] c<=_;rcases e with rfl|rfl;simp[U5];have:=Eg V (Ua r) [0,0,0,0,0];simpa [U5] using this
def jw(V:Nat)(r:zu):Nat:=r.qc.j*Uj V (Ua r)
structure Vn (r:zu):Prop where
 five:r.m<=5
 none:r.qc=[]->r.m=0
structure Vl (V:Nat) (W:yd):Prop where
 p:Vn W.p
 len:W.F.j=W.p.qc.j
 wide:∀v∈W.F,v.before.r<=V/\v.qw.r<=V/\v.all.r<=V
def Al{V a f mr:Nat}{W:yd}(b:Vl V W)(d:Uj V (Ua W.p)<9223372036854775808):∀(n i:Nat) (R R':zv),kl a f mr W n i R=Z (R',true)->U0 R R' (n*Uj V (Ua W.p))
 |0,i,R,R',h=>by
  simp only[kl,zt,ye,and_true] at h;subst h;exact(U0.refl R).y η
 |n+1,i,R,R',h=>by
  have e:(n+1)*Uj V (Ua W.p)=Uj V (Ua W.p)+n*Uj V (Ua W.p):=by rw[mm,Nat.one_mul];omega
  rw[e];simp only[kl] at h;split at h
  .cases c:vM mr W.p.g.o a R (xK W.p (T5 W.F i) (jH f R W.p)) with
   |none=>rw[c] at h;simp at h
   |some x=>
    obtain⟨k,ok⟩:=x;rw[c] at h;cases ok with
    |false=>simp at h
    |true=>
     refine(EO b.p.five (λT g=>?_) d c).A (Al b d n (i+1) k R' h);unfold T5 at g;obtain⟨⟨v,j⟩,p,rfl⟩:=zF.1 g;obtain⟨o,m,l⟩:=b.wide v (List.fst_mem_of_mem_zipIdx p);simp only;split
     .exact o
     .split
      .exact m
      .exact l
  .exact(Al b d n (i+1) R R' h).y η
def Oo{V b d:Nat}{W:yd}(c:Vl V W)(j:jw V W.p<9223372036854775808){first:Bool}(h:kV b d mr first R W=Z (R',true)):U0 R R' (jw V W.p):=by
 have f:Uj V (Ua W.p)<=jw V W.p:=by
  unfold jw;rcases i:W.p.qc with _|⟨a,l⟩;simp[Ua,c.p.none i,Uj];have:1*Uj V (Ua W.p)<=(a::l).j*Uj V (Ua W.p):=fK _ ζ;omega
 unfold kV at h;split at h;refine(EO c.p.five (λT e=>?_) η h).y f;obtain⟨v,g,rfl⟩:=zF.1 e;exact(c.wide v g).2.2;rw[c.len] at h;exact Al c η _ 0 R R' h
def Hv{V a d mr:Nat}{first:Bool}:∀(b:List yd) (R R':zv),(∀W∈b,Vl V W)->(b.w λW=>jw V W.p).sum<9223372036854775808->gx a d mr first b R=Z (R',true)->U0 R R' (b.w λW=>jw V W.p).sum
 |[],R,R',_,_,h=>by
  simp only[gx,zt,ye,and_true] at h;subst h;exact U0.refl R
 |W::b,R,R',e,j,h=>by
  simp only[uq,qt] at j ⊢;simp only[gx] at h;cases c:kV a d mr first R W with
  |none=>rw[c] at h;simp at h
  |some x=>
   obtain⟨g,ok⟩:=x;rw[c] at h;cases ok with
   |false=>simp at h
   |true=>exact(Oo (e W ζ) η c).A (Hv b g R' (λf i=>e f (by simp[i])) η h)
end
def Nd(T:zl)(a v m:Nat):(gZ T a v m).1.r=T.r:=by
 unfold gZ;split;rfl;exact pQ _ _ _ _
def D7(m:Nat):∀(r:zk) (T:zl) (a l:Nat),(vG m T a l r).1.r=T.r
 |[],_,_,_=>rfl
 |v::r,T,a,l=>by
  simp only[vG];split
  .exact Nd _ _ _ _
  .rw[D7 m r];unfold qu;split
   .rfl
   .exact pQ _ _ _ _
def wE:∀(rs:List zk) (T a:zl),xX rs T=Z a->a.r=T.r
 |[],T,a,h=>by simp[xX] at h;rw[h]
 |r::rs,T,a,h=>by
  simp only[xX] at h;split at h
  .rw[wE rs _ a h];unfold yC;split
   .exact D7 0 r T 0 0
   .rfl
  .cases h
def Vy(V:Nat)(v:yO):Prop:=v.before.r<=V/\v.qw.r<=V/\v.all.r<=V
def Gp{c e:Nat}{v v':yO}{d:List zk}(g:Vy (zM e) v)(h:fQ c e v d=Z v'):Vy (zM e) v':=by
 unfold fQ at h;split at h;cases h;split at h;rename_i b f a k i j;cases h;refine⟨?_,?_,?_⟩;show b.r<=_;rw[wE _ _ _ k];exact g.1;show f.r<=_;rw[wE _ _ _ i];exact zf _;show a.r<=_;rw[wE _ _ _ j];exact g.2.2;cases h
def DW{a f:Nat}{R:zv}:∀(b:List zw) (vs:List yO),fA a f R b=Z vs->vs.j=b.j/\∀v∈vs,Vy (zM f) v
 |[],vs,h=>by simp[fA] at h;subst h;simp
 |l::b,vs,h=>by
  simp only[fA] at h;split at h
  .cases h
  .split at h
   .rename_i v c i d;cases h;obtain⟨g,j⟩:=DW b c d;refine⟨by simp[g],λu e=>?_⟩;rcases zG.1 e with rfl|e
    .exact Gp ⟨zf _,zf _,zf _⟩ i
    .exact j u e
   .cases h
def AQ{b c:Nat}{R:zv}{s:Nat}:∀(rs:List zu) (a:List yd),(∀r∈rs,Vn r)->TF b c R s rs=Z a->(∀W∈a,Vl (zM c) W)/\(a.w λW=>jw (zM c) W.p).sum<=(rs.w (jw (zM c))).sum
 |[],a,_,h=>by simp[TF] at h;subst h;simp
 |r::rs,a,i,h=>by
  simp only[TF] at h;simp only[uq,qt];split at h
  .split at h
   .rename_i vs f k l;cases h;obtain⟨d,m⟩:=AQ rs f (λx e=>i x (by simp[e])) l;obtain⟨n,j⟩:=DW r.qc vs k;refine⟨λW g=>?_,?_⟩
    .rcases zG.1 g with rfl|g
     .exact⟨i r ζ,n,j⟩
     .exact d W g
    .simp only[uq,qt];omega
   .cases h
  .obtain⟨d,m⟩:=AQ rs a (λx e=>i x (by simp[e])) h;exact⟨d,η⟩
def Fn{b d:Nat}{j:List (List zk)}:∀(vs a:List yO),(∀v∈vs,Vy (zM d) v)->f6 b d j vs=Z a->a.j=vs.j/\∀v∈a,Vy (zM d) v
 |[],a,_,h=>by simp[f6] at h;subst h;simp
 |v::vs,a,f,h=>by
  simp only[f6] at h;split at h
  .rename_i m g e l;cases h;obtain⟨i,k⟩:=Fn vs g (λu c=>f u (by simp[c])) l;refine⟨by simp[i],λu c=>?_⟩;rcases zG.1 c with rfl|c
   .split at e
    .exact Gp (f v ζ) e
    .cases e;exact f _ ζ
   .exact k u c
  .cases h
def GP{c b:Nat}{n:List (List zk)}:∀(d a:List yd),(∀W∈d,Vl (zM b) W)->fc c b n d=Z a->(∀W∈a,Vl (zM b) W)/\(a.w λW=>jw (zM b) W.p).sum=(d.w λW=>jw (zM b) W.p).sum
 |[],a,_,h=>by simp[fc] at h;subst h;simp
 |W::d,a,i,h=>by
  simp only[fc] at h;split at h
  .rename_i s e m q;cases h;obtain⟨l,o⟩:=GP d e (λu r=>i u (by simp[r])) q;have g:=i W ζ;obtain⟨p,j⟩:=Fn _ _ g.wide m;refine⟨λk f=>?_,by simp[o]⟩;rcases zG.1 f with rfl|f
   .exact⟨g.p,p.A g.len,j⟩
   .exact l k f
  .cases h
def Vx(C:Nat)(R:zv):Prop:=∃k:Nat,R.jg=(k:Int)/\k<=R.Q*C
def C4{b mr mx C:Nat}(t:mx<=1048576)(v:1048576*C<9223372036854775808):∀(n:Nat) (first:Bool) (a:List yd) (R R':zv),(∀W∈a,Vl (zM b) W)->(a.w λW=>jw (zM b) W.p).sum<=C->Vx C R->gD b mr mx n first a R=Z (R',true)->Vx C R'/\R'.Q<=mx
 |0,_,_,_,_,_,_,_,h=>by simp[gD] at h
 |n+1,first,a,R,R',i,q,⟨k,m,y⟩,h=>by
  simp only[gD] at h;split at h
  .cases h
  .rename_i u;unfold rt at h;cases e:gx n b mr first a (qT {R with Q:=R.Q+1}) with
   |none=>rw[e] at h;simp at h
   |some x=>
    obtain⟨c,ok⟩:=x;rw[e] at h;cases ok with
    |false=>simp at h
    |true=>
     have p:(R.Q+1)*C<=1048576*C:=fK _ η;have z:(R.Q+1)*C=R.Q*C+C:=by rw[mm,Nat.one_mul]
     obtain⟨f,l⟩:=(Hv a _ c i η e).y q;have f:c.Q=R.Q+1:=f;obtain⟨s,r,A⟩:=l k m η;have j:Vx C c:=⟨s,r,by rw[f];omega⟩;simp only at h;cases g:fc n b c.qw a with
     |none=>rw[g] at h;simp at h
     |some d=>
      rw[g] at h;simp only[jL] at h;obtain⟨o,w⟩:=GP a d i g;split at h
      .exact C4 t v n false d c R' o η j h
      .cases h;exact⟨j,η⟩
def Cc{a e mr mx C:Nat}(i:mx<=1048576)(j:1048576*C<9223372036854775808){rs:List zu}(l:∀r∈rs,Vn r)(p:(rs.w (jw (zM e))).sum<=C):∀(n s:Nat) (R R':zv),Vx C R->R.Q<=mx->kR a e mr mx rs n s R=Z (R',true)->Vx C R'/\R'.Q<=mx
 |0,s,R,R',c,f,h=>by simp only[kR,zt,ye,and_true] at h;subst h;exact⟨c,f⟩
 |n+1,s,R,R',c,f,h=>by
  simp only[kR] at h;cases b:py a e mr mx rs R s with
  |none=>rw[b] at h;simp at h
  |some x=>
   obtain⟨d,ok⟩:=x;rw[b] at h;cases ok with
   |false=>simp at h
   |true=>
    have g:Vx C d/\d.Q<=mx:=by
     unfold py at b;split at b
     .cases b
     .rename_i k o;obtain⟨m,q⟩:=AQ rs k l o;split at b
      .exact C4 i j a true k R d m η c b
      .cases b;exact⟨c,f⟩
    exact Cc i j l p n (s+1) d R' g.1 g.2 h
def DV{mr:Nat}:∀(fs:List jI) (R R':zv),kY mr fs R=Z (R',true)->U0 R R' 0
 |[],R,R',h=>by simp only[kY,zt,ye,and_true] at h;subst h;exact U0.refl R
 |f::fs,R,R',h=>by
  simp only[kY] at h;cases a:jV mr R f.o f.row with
  |none=>rw[a] at h;simp at h
  |some x=>
   obtain⟨b,ok⟩:=x;rw[a] at h;cases ok with
   |false=>simp at h
   |true=>exact(GA a).A (DV fs b R' h)
def IM{a mr mx:Nat}{S:qY}{R:zv}(j:mx<=1048576)(n:∀r∈S.H,Vn r)(m:1048576*(S.H.w (jw (zM S.r))).sum<9223372036854775808)(h:pn a S mr mx=Z (Z R)):0<=R.jg:=by
 unfold pn at h;rcases c:kY mr S.facts (lz S) with _|x;rw[c] at h;simp at h;obtain⟨d,ok⟩:=x;rw[c] at h;cases ok;simp at h;obtain⟨f,g⟩:=DV _ _ _ c;obtain⟨k,i,p⟩:=g 0 rfl η;have f:d.Q=0:=f;simp only at h;rcases b:kR a S.r mr mx S.H S.M.j 0 d with _|y;rw[b] at h;simp at h;obtain⟨l,ok⟩:=y;rw[b] at h;cases ok;simp at h;simp only[jL,if_true,zt] at h;subst h;obtain⟨⟨o,e,_⟩,_⟩:=Cc j m n (zf _) _ 0 d l ⟨k,i,η⟩ η b;omega
end Go.Proofs.YteampbddflhngaaGreat
