import Derived.Test.YteampbddflhngaaGreatR14
import Derived.Test.YteampbddflhngaaGreatR16
namespace Go.Proofs.YteampbddflhngaaGreat
open List renaming length→List.j,toArray→List.F
open _root_.Array renaming size→Array.q,toList→Array.v
open Go.RowKit.Below renaming size→Go.RowKit.Below.q,alloc→Go.RowKit.Below.C
open Go.TypeInfo renaming size→Go.TypeInfo.q
open Go.RowKit.Hid renaming out→Go.RowKit.Hid.l
open Go.Shut renaming out→Go.Shut.l
open Go.World renaming heap→Go.World.o,cell?→Go.World.p,alloc→Go.World.C
open Go.Calls renaming mono→Go.Calls.y
open Option renaming some→Z,none→Y
open Go.RowKit renaming Hid→X
open Go renaming World→U,Value→O
set_option linter.all false
set_option maxRecDepth 100000
set_option maxHeartbeats 4000000
open Go.Proofs.Tryz Go.RowKit
section
variable {z:Nat->Prop} {lo:Nat}
def Ta:(prog.info? 24).map (λi=>(i.zero,i.q,i.bytes))=Z (Z (ν),1,24):=χ
def S2:(prog.info? 24).map (·.q)=Z 1:=χ
def JX(a:Γ)(x:O):splice (madeCells #[x] (a.j+1)).v 0 a=a++[x]:=by
 unfold splice;have:(madeCells #[x] (a.j+1)).v=List.replicate (a.j+1) x:=by
  refine jy (by simp[size_madeCells]) λi c b=>?_;simp[madeCells,Nat.mod_one]
 rw[this];simp[List.drop_replicate]
def Kt(w:U)(A:O)(a:Γ)(L:mM w A a)(B:∀v∈a,v.oneCell'=true)(S:a.j<=2000000):
  Calls prog 34 #[A,.bool false] w λe q=>∃C,e=ε (.slice (Z (δ w.o.q)) a.j (a.j+1))/\X (Th q w.o.q (a++[O.slice (Z (δ C)) 1 1]).F 24/\Th q C #[ι 7] 3)/\X (μ w q):=by
 obtain⟨H,D,rfl,c⟩:=L;have n:=run_make_row' (P:=prog) 26 24 (ν) 24 underlying26 Ta rfl .i64 .i64 (a.j+1) η η;rw[Int.natCast_add,show((1:Nat):Int)=1 from rfl] at n;have h:X (∀W,μ w W->0<a.j->∃t,H=Z t/\∀j v,a[j]?=Z v->W.p (t.add j)=Z v):=λW G p=>by
  obtain⟨g,f,e,N,_⟩:=c 0 p;refine⟨_,e,λj v M=>?_⟩;obtain⟨o,rfl⟩:=j5.1 M;obtain⟨Q,R,x,J,F⟩:=c j o;rw[e] at x;cases x;rw[Addr.add_lit];exact zi G J F
 have s:=Tg B;have i:X (0+a.j<=(madeCells #[O.slice Y 0 0] (a.j+1)).v.j):=by rw[X];simp[size_madeCells]
 have l:X (a.j=Nat.min a.j (a.j+1)):=by rw[X];exact(gV η).symm
 have r:=Tg (JX a (ν));clear B c;go_enter func34,ntmps34;go_wp2_with (refine wpList_copy_splice rfl (.tmp 13) (.tmp 14) 26 26 rfl 24 underlying26 S2 _ _ _ _ _ _ rfl rfl w.o.q 0 (madeCells #[ν] (a.j+1)).v 24 (by rw[Array.toArray_toList];exact Th.new _ _ _) a l.l (λp=>⟨rfl,h.l _ (by exact(zn _ _).C (zg _) _) p⟩) i.l s.l w.o.q w (by exact(zn _ _).C (zg _) _) (zg _) ?_;intro k d m;rw[r.l] at d;have b:Th k w.o.q (a++[O.slice Y 0 0]).F 24:=d.l;obtain⟨E,I,y⟩:=b.e;have K:=m.q)
 go_ret;have u:=b.set a.j (O.slice (Z (δ k.o.q)) 1 1);have e:(a++[O.slice Y 0 0]).F.setIfInBounds a.j (O.slice (Z (δ k.o.q)) 1 1)=(a++[O.slice (Z (δ k.o.q)) 1 1]).F:=ζ;rw[e] at u;exact⟨k.o.q,rfl,⟨u.up _,Th.newAt _ _ _ _ (by simp[U.setCell])⟩,(show μ w _ from φ)⟩
def xV.nil{w:U}{u:O}{o:Option (List Int)}(h:xV w u o):(u=ν/\∀W:U,(binOp .eql 24 (ν) (ν)).run prog W=.ok (.bool true) W)∨∃b n c,u=.slice (Z b) n c/\∀W:U,(binOp .eql 24 (.slice (Z b) n c) (ν)).run prog W=.ok (.bool false) W:=by
 rcases o with _|l;refine zh ⟨h,λW=>?_⟩;have:=run_equal_slice_nil W 24 3 Y 0 0 underlying24;simp[binOp,this];obtain⟨b,a,rfl,_⟩:=h;refine ze ⟨b,l.j,a,rfl,λW=>?_⟩;have:=run_equal_slice_nil W 24 3 (Z b) l.j a underlying24;simp[binOp,this]
def Rf(w:U)(N:O)(a:Γ)(os:List (Option (List Int)))(g x:Nat)(ho:mM w N a)(J:Th w g (a++[O.slice (Z ⟨x,0,Y⟩) 1 1]).F 24)(s:Th w x #[ι 7] 3)(L:os.j=a.j)(l:∀k (h1:k<a.j) (h2:k<os.j),xV w a[k] os[k]/\(os[k].getD []).j<=2000000)(hn:a.j<=2000000):
  Calls prog 36 #[.slice (Z ⟨g,0,Y⟩) a.j (a.j+1),N,.bool false] w λe c=>e=ε (.bool true)/\X (μ w c):=by
 obtain⟨ao,V,rfl,h⟩:=ho;have E:=Tg h;have v:=Tg J;have n:=Tg s;have G:=Tg l;have Q:=Tg L;clear h J s l L;go_enter func36,ntmps36;go_wp2;go_loopw [8] (λS wr=>∃k:Nat,k<=a.j/\S=ι k/\X (μ w wr)) (λi _=>a.j-(intOf i).toNat);exact⟨0,zs _,rfl,zn _ _⟩;obtain⟨k,hk,rfl,b⟩:=hrel;have K:=b.l.q;by_cases d:k<a.j
 .obtain⟨t,P,rfl,B,q⟩:=E.l k d;obtain⟨f,F⟩:=G.l k d (by rw[Q.l];exact d);have H:=zi b.l B q;have j:wr.p ⟨g,k,Y⟩=Z a[k]:=by rw[(v.l.u b.l).H.1];simp[List.getElem?_append_left d]
  have D:t<wr.o.q:=η;have m:=(v.l.u b.l).lt;have A:=f.nil;have M:=Tg λW (r:μ wr W)=>D6 W _ _ _ ((f.u b.l).u r) ((f.u b.l).u r) η;clear q f F;generalize a[k]=u at *;generalize (os[k]'(by rw[Q.l];exact d))=o at *;have I:X (∀W,μ wr W->Calls prog 18 #[u,u] W λe c=>e=ε (.bool true)/\X (μ w c)/\c.p ⟨g,k,Y⟩=Z u/\c.p ⟨t,P+k,Y⟩=Z u/\g<c.o.q/\t<c.o.q):=λW r=>by
   refine(M.l W r).y ?_;rintro e c ⟨q1,q2⟩;have y:=Tk r q2;have:=y.q;exact⟨q1,Tk b.l y,zi y m j,zi y D H,η,η⟩
  clear M;go_wp2;go_region_held3 (λc=>c.p ⟨g,k,Y⟩=Z u/\c.p ⟨t,P+k,Y⟩=Z u) (go_keep) (first|(go_at_call 18;refine(I.l _ φ).y ?_;rintro e w5 ⟨rfl,C,z1,z2,z3,z4⟩))
  all_goals
   rcases A with⟨rfl,p⟩|⟨T,n3,c3,rfl,p⟩
   all_goals
    go_wp2;go_quiet (fail)
    go_wp2;go_roundw;exact⟨k+1,η,ξ,zI C.l _⟩;simp[intOf];omega
 have j:wr.p ⟨g,a.j,Y⟩=Z (.slice (Z ⟨x,0,Y⟩) 1 1):=by rw[(v.l.u b.l).H.1];simp
 have R:wr.p ⟨x,0,Y⟩=Z (ι 7):=by rw[(n.l.u b.l).H.1];rfl
 have m:=(v.l.u b.l).lt;have aa:=(n.l.u b.l).lt;go_wp2;go_ret;exact⟨rfl,b⟩
section
variable {w:U} {v:O} {nb:Bool} {pb mr mx:Nat} (hmr:mr<=1048576) (hmx:mx<=1048576)
include hmr hmx
def PM(c:X (Calls prog 75 #[(π pb),v,.bool nb] w λe a=>e=ε (.bool false)/\μ w a)):Calls prog 37 #[(π pb),v,.bool nb,ι mr,ι mx] w λe a=>e=ε (.tuple #[.pointer Y,ι 9])/\X (μ w a):=by
 have g:¬(mr:Int)<0:=η;have f:¬(1048576:Int)<(mr:Int):=η;have i:¬(mx:Int)<0:=η;have h:¬(1048576:Int)<(mx:Int):=η;go_enter func37,ntmps37;go_wp2_with (go_at_call 75;refine c.l.y ?_;rintro e d ⟨rfl,b⟩)
 go_ret2
 exact⟨rfl,b⟩
def Kb(l:X (Calls prog 75 #[(π pb),v,.bool nb] w λe b=>e=ε (.bool true)/\μ w b))(f:Option (Θ×Nat))(i:X (∀W,μ w W->Calls prog 76 #[(π pb),ι mr,ι mx] W λe b=>r9 z W f e b)):Calls prog 37 #[(π pb),v,.bool nb,ι mr,ι mx] w λe b=>Jr z w f e b:=by
 have t:¬(mr:Int)<0:=η;have r:¬(1048576:Int)<(mr:Int):=η;have u:¬(mx:Int)<0:=η;have s:¬(1048576:Int)<(mx:Int):=η;rcases f with _|x
 .have d:X (∀W,μ w W->Calls prog 76 #[(π pb),ι mr,ι mx] W λe b=>e=ε (.pointer Y)/\X (μ W b)):=i;clear i;go_enter func37,ntmps37;go_wp2_with (first|(go_at_call 75;refine l.l.y ?_;rintro e m ⟨rfl,a⟩)|(go_at_call 76;refine(d.l _ a).y ?_;rintro e q ⟨rfl,c⟩))
  go_ret2
  exact⟨rfl,Tk a c.l⟩
 obtain⟨L,k⟩:=x;have d:X (∀W,μ w W->Calls prog 76 #[(π pb),ι mr,ι mx] W λe b=>∃g,e=ε ((π g))/\X (∃h,W.o.q<=g/\Th b g #[h,ι k] 54/\yX z W.o.q b h L)/\X (μ W b)):=i;clear i;go_enter func37,ntmps37;go_wp2_with (first|(go_at_call 75;refine l.l.y ?_;rintro e m ⟨rfl,a⟩)|(go_at_call 76;refine(d.l _ a).y ?_;rintro e q ⟨g,rfl,j,c⟩))
 go_ret2
 obtain⟨h,p,o,n⟩:=j.l;exact⟨g,rfl,⟨h,zY a.q p,o,n.low a.q⟩,Tk a c.l⟩
end
end
end Go.Proofs.YteampbddflhngaaGreat
