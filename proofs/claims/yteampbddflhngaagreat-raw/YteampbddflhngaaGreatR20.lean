import Derived.Test.YteampbddflhngaaGreatR14
import Derived.Test.YteampbddflhngaaGreatR16
namespace Go.Proofs.YteampbddflhngaaGreat
open List renaming length→List.j,toArray→List.F
open _root_.Array renaming size→Array.q,toList→Array.v
open Go.RowKit.Below renaming size→Go.RowKit.Below.q,alloc→Go.RowKit.Below.C
open Go.TypeInfo renaming size→Go.TypeInfo.q
open Go.RowKit.Hid renaming out→Go.RowKit.Hid.l
open Go.Shut renaming out→Go.Shut.l
open Go.World renaming heap→Go.World.o,cell?→Go.World.p,alloc→Go.World.C
open Go.Calls renaming mono→Go.Calls.y
open Option renaming some→Z,none→Y
open Go.RowKit renaming Hid→X
open Go renaming World→U,Value→O
set_option linter.all false
set_option maxRecDepth 100000
set_option maxHeartbeats 4000000
open Go.Proofs.Tryz Go.RowKit
section
variable {z:Nat->Prop} {lo:Nat}
def S4:(prog.info? 24).map (λi=>(i.zero,i.q,i.bytes))=Z (Z (ν),1,24):=χ
def SF:(prog.info? 24).map (·.q)=Z 1:=χ
def OX(a:Γ)(x:O):splice (madeCells #[x] (a.j+1)).v 0 a=a++[x]:=by
 unfold splice;have:(madeCells #[x] (a.j+1)).v=List.replicate (a.j+1) x:=by
  refine jv (by simp[size_madeCells]) λi b c=>?_;simp[madeCells,Nat.mod_one]
 rw[this];simp[List.drop_replicate]
def Lv(w:U)(B:O)(a:Γ)(E:mK w B a)(A:∀v∈a,v.oneCell'=true)(Q:a.j<=2000000):
  Calls prog 34 #[B,.bool false] w λe s=>∃x,e=ε (.slice (Z (δ w.o.q)) a.j (a.j+1))/\X (Ti s w.o.q (a++[O.slice (Z (δ x)) 1 1]).F 24/\Ti s x #[ι 7] 3)/\X (μ w s):=by
 obtain⟨H,G,rfl,c⟩:=E;have p:=run_make_row' (P:=prog) 26 24 (ν) 24 underlying26 S4 rfl .i64 .i64 (a.j+1) η η;rw[Int.natCast_add,show((1:Nat):Int)=1 from rfl] at p;have i:X (∀W,μ w W->0<a.j->∃t,H=Z t/\∀j v,a[j]?=Z v->W.p (t.add j)=Z v):=λW M o=>by
  obtain⟨g,f,e,R,_⟩:=c 0 o;refine⟨_,e,λj v J=>?_⟩;obtain⟨q,rfl⟩:=jC.1 J;obtain⟨S,N,y,K,L⟩:=c j q;rw[e] at y;cases y;rw[Addr.add_lit];exact zi M K L
 have r:=Th A;have l:X (0+a.j<=(madeCells #[O.slice Y 0 0] (a.j+1)).v.j):=by rw[X];simp[size_madeCells]
 have d:X (a.j=Nat.min a.j (a.j+1)):=by rw[X];exact(dX η).symm
 have m:=Th (OX a (ν));clear A c;go_enter func34,ntmps34;go_wp2_with (refine wpList_copy_splice rfl (.tmp 13) (.tmp 14) 26 26 rfl 24 underlying26 SF _ _ _ _ _ _ rfl rfl w.o.q 0 (madeCells #[ν] (a.j+1)).v 24 (by rw[Array.toArray_toList];exact Ti.new _ _ _) a d.l (λo=>⟨rfl,i.l _ (by exact(zn _ _).C (zf _) _) o⟩) l.l r.l w.o.q w (by exact(zn _ _).C (zf _) _) (zf _) ?_;intro k h n;rw[m.l] at h;have b:Ti k w.o.q (a++[O.slice Y 0 0]).F 24:=h.l;obtain⟨F,D,C⟩:=b.e;have I:=n.q)
 go_ret;have u:=b.set a.j (O.slice (Z (δ k.o.q)) 1 1);have e:(a++[O.slice Y 0 0]).F.setIfInBounds a.j (O.slice (Z (δ k.o.q)) 1 1)=(a++[O.slice (Z (δ k.o.q)) 1 1]).F:=ζ;rw[e] at u;exact⟨k.o.q,rfl,⟨u.up _,Ti.newAt _ _ _ _ (by simp[U.setCell])⟩,(show μ w _ from φ)⟩
def xQ.nil{w:U}{u:O}{o:Option (List Int)}(h:xQ w u o):(u=ν/\∀W:U,(binOp .eql 24 (ν) (ν)).run prog W=.ok (.bool true) W)∨∃a n c,u=.slice (Z a) n c/\∀W:U,(binOp .eql 24 (.slice (Z a) n c) (ν)).run prog W=.ok (.bool false) W:=by
 rcases o with _|l;refine zh ⟨h,λW=>?_⟩;have:=run_equal_slice_nil W 24 3 Y 0 0 underlying24;simp[binOp,this];obtain⟨a,b,rfl,_⟩:=h;refine ze ⟨a,l.j,b,rfl,λW=>?_⟩;have:=run_equal_slice_nil W 24 3 (Z a) l.j b underlying24;simp[binOp,this]
def Su(w:U)(Q:O)(a:Γ)(os:List (Option (List Int)))(g v:Nat)(S:mK w Q a)(M:Ti w g (a++[O.slice (Z ⟨v,0,Y⟩) 1 1]).F 24)(p:Ti w v #[ι 7] 3)(N:os.j=a.j)(r:∀k (h1:k<a.j) (h2:k<os.j),xQ w a[k] os[k]/\(os[k].getD []).j<=2000000)(hn:a.j<=2000000):
  Calls prog 36 #[.slice (Z ⟨g,0,Y⟩) a.j (a.j+1),Q,.bool false] w λe d=>e=ε (.bool true)/\X (μ w d):=by
 obtain⟨ao,V,rfl,m⟩:=S;have A:=Th m;have t:=Th M;have j:=Th p;have E:=Th r;have L:=Th N;clear m M p r N;go_enter func36,ntmps36;go_wp2;go_loopw [8] (λv8 wr=>∃k:Nat,k<=a.j/\v8=ι k/\X (μ w wr)) (λi _=>a.j-(intOf i).toNat);exact⟨0,zs _,rfl,zn _ _⟩;obtain⟨k,hk,rfl,b⟩:=hrel;have P:=b.l.q;by_cases c:k<a.j
 .obtain⟨y,J,rfl,G,l⟩:=A.l k c;obtain⟨f,F⟩:=E.l k c (by rw[L.l];exact c);have B:=zi b.l G l;have h:wr.p ⟨g,k,Y⟩=Z a[k]:=by rw[(t.l.u b.l).H.1];simp[List.getElem?_append_left c]
  have C:y<wr.o.q:=η;have n:=(t.l.u b.l).lt;have D:=f.nil;have K:=Th λW (s:μ wr W)=>Fz W _ _ _ ((f.u b.l).u s) ((f.u b.l).u s) η;clear l f F;generalize a[k]=u at *;generalize (os[k]'(by rw[L.l];exact c))=o at *;have H:X (∀W,μ wr W->Calls prog 18 #[u,u] W λe d=>e=ε (.bool true)/\X (μ w d)/\d.p ⟨g,k,Y⟩=Z u/\d.p ⟨y,J+k,Y⟩=Z u/\g<d.o.q/\y<d.o.q):=λW s=>by
   refine(K.l W s).y ?_;rintro e d ⟨R,q2⟩;have x:=Tl s q2;have:=x.q;exact⟨R,Tl b.l x,zi x n h,zi x C B,η,η⟩
  clear K;go_wp2;go_region_held3 (λd=>d.p ⟨g,k,Y⟩=Z u/\d.p ⟨y,J+k,Y⟩=Z u) (go_keep) (first|(go_at_call 18;refine(H.l _ φ).y ?_;rintro e w5 ⟨rfl,I,z1,z2,z3,z4⟩))
  all_goals
   rcases D with⟨rfl,q⟩|⟨T,n3,c3,rfl,q⟩
   all_goals
    go_wp2;go_quiet (fail)
    go_wp2;go_roundw;exact⟨k+1,η,ξ,zI I.l _⟩;simp[intOf];omega
 have h:wr.p ⟨g,a.j,Y⟩=Z (.slice (Z ⟨v,0,Y⟩) 1 1):=by rw[(t.l.u b.l).H.1];simp
 have ab:wr.p ⟨v,0,Y⟩=Z (ι 7):=by rw[(j.l.u b.l).H.1];rfl
 have n:=(t.l.u b.l).lt;have aa:=(j.l.u b.l).lt;go_wp2;go_ret;exact⟨rfl,b⟩
section
variable {w:U} {v:O} {nb:Bool} {pb mr mx:Nat} (hmr:mr<=1048576) (hmx:mx<=1048576)
include hmr hmx
def JG(c:X (Calls prog 75 #[(π pb),v,.bool nb] w λe b=>e=ε (.bool false)/\μ w b)):Calls prog 37 #[(π pb),v,.bool nb,ι mr,ι mx] w λe b=>e=ε (.tuple #[.pointer Y,ι 9])/\X (μ w b):=by
 have d:¬(mr:Int)<0:=η;have h:¬(1048576:Int)<(mr:Int):=η;have g:¬(mx:Int)<0:=η;have i:¬(1048576:Int)<(mx:Int):=η;go_enter func37,ntmps37;go_wp2_with (go_at_call 75;refine c.l.y ?_;rintro e f ⟨rfl,a⟩)
 go_ret2
 exact⟨rfl,a⟩
def RP(l:X (Calls prog 75 #[(π pb),v,.bool nb] w λe b=>e=ε (.bool true)/\μ w b))(f:Option (Θ×Nat))(i:X (∀W,μ w W->Calls prog 76 #[(π pb),ι mr,ι mx] W λe b=>rN z W f e b)):Calls prog 37 #[(π pb),v,.bool nb,ι mr,ι mx] w λe b=>QP z w f e b:=by
 have r:¬(mr:Int)<0:=η;have t:¬(1048576:Int)<(mr:Int):=η;have s:¬(mx:Int)<0:=η;have u:¬(1048576:Int)<(mx:Int):=η;rcases f with _|x
 .have d:X (∀W,μ w W->Calls prog 76 #[(π pb),ι mr,ι mx] W λe b=>e=ε (.pointer Y)/\X (μ W b)):=i;clear i;go_enter func37,ntmps37;go_wp2_with (first|(go_at_call 75;refine l.l.y ?_;rintro e o ⟨rfl,a⟩)|(go_at_call 76;refine(d.l _ a).y ?_;rintro e p ⟨rfl,c⟩))
  go_ret2
  exact⟨rfl,Tl a c.l⟩
 obtain⟨L,k⟩:=x;have d:X (∀W,μ w W->Calls prog 76 #[(π pb),ι mr,ι mx] W λe b=>∃g,e=ε ((π g))/\X (∃h,W.o.q<=g/\Ti b g #[h,ι k] 54/\yU z W.o.q b h L)/\X (μ W b)):=i;clear i;go_enter func37,ntmps37;go_wp2_with (first|(go_at_call 75;refine l.l.y ?_;rintro e o ⟨rfl,a⟩)|(go_at_call 76;refine(d.l _ a).y ?_;rintro e p ⟨g,rfl,j,c⟩))
 go_ret2
 obtain⟨h,m,q,n⟩:=j.l;exact⟨g,rfl,⟨h,zY a.q m,q,n.low a.q⟩,Tl a c.l⟩
end
end
end Go.Proofs.YteampbddflhngaaGreat
