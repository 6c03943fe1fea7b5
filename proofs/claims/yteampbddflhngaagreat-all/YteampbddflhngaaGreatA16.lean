import Derived.Test.YteampbddflhngaaGreatA14
namespace Go.Proofs.YteampbddflhngaaGreat
open List renaming length→List.j
open _root_.Array renaming size→Array.q
open _root_.ByteArray renaming size→ByteArray.q
open Go.RowKit.Below renaming size→Go.RowKit.Below.q
open Go.RowKit.Hid renaming out→Go.RowKit.Hid.l
open Go.Shut renaming out→Go.Shut.l
open Go.Value renaming string→Go.Value.g,pointer→Go.Value.u
open Go.TypeDesc renaming string→Go.TypeDesc.g,pointer→Go.TypeDesc.u
open Go.World renaming cell?→Go.World.p
open Go.Calls renaming mono→Go.Calls.y
open Option renaming some→Z,none→Y
open Go.RowKit renaming Hid→X
open Go renaming World→U,Calls→c_
open Go.Proofs.Tryz renaming prog→e_
set_option linter.all false
set_option maxRecDepth 100000
set_option maxHeartbeats 4000000
open Go.Proofs.Tryz Go.RowKit
section
def Hp:∀(rs:List dI) (k:Nat) (a:k<rs.j),(mz rs)[k*3]?=Z (.u (Z (δ rs[k].1)))/\(mz rs)[k*3+1]?=Z (.u (Z (δ rs[k].2.1)))/\(mz rs)[k*3+2]?=Z (.u (Z (δ rs[k].2.2.1)))
 |[],k,a=>by simp at a
 |p::r,0,_=>by simp[mz]
 |p::r,k+1,a=>by
  have:=Hp r k (by simpa using a);simp only[mz,uZ] at this ⊢;rw[show(k+1)*3=k*3+1+1+1 from by omega];simpa using this
section
variable {B:Nat} {own:UY} {w:U} {wb:Nat} {M:ym} {V:Nat->Value} {k a b c:Int} {s:ByteArray}
def Ad(W:U)(d:k=1∨k=7∨k=8∨k=10∨k=11∨k=12∨k=13∨k=14∨k=15∨k=16):
  c_ e_ 94 #[(π wb),.agg #[ι k,ι a,ι b,ι c,.g s]] W λe f=>e=ε (.bool false)/\μ W f:=by
 rcases d with rfl|rfl|rfl|rfl|rfl|rfl|rfl|rfl|rfl|rfl
 all_goals
  go_enter func94,ntmps94;go_wp2;go_ret;exact⟨rfl,φ⟩
def DE(g:X (∀W,μ w W->c_ e_ 94 #[(π wb),.agg #[ι k,ι a,ι b,ι c,.g s]] W λe d=>U9 B own W wb M e d)):
  c_ e_ 57 #[(π wb),.agg #[ι k,ι a,ι b,ι c,.g s]] w λe d=>U9 B own w wb M e d:=by
 have i:=U2 λW (h:μ w W)=>(g.l W h).y λe d q=>U9.from h q;clear g;go_enter func57,ntmps57;go_wp2_with (go_at_call 94;refine(i.l _ φ).y ?_;rintro e j ⟨rfl,f⟩)
 go_ret;exact⟨rfl,f⟩
def IU(h:zH B own w wb M V)(hs:s.q<=1048576)(i:M.ps.j<=1048576):
  c_ e_ 57 #[(π wb),.agg #[ι 1,ι a,ι b,ι c,.g s]] w λe n=>U9 B own w wb M e n:=by
 have t:=U2 λW=>Ad (wb:=wb) (k:=1) (a:=a) (b:=b) (c:=c) (s:=s) W (zh rfl);have p:=U2 λW (l:μ w W)=>(Qi (h.u l) s hs i).y λe n q=>U9.from l q;clear h;go_enter func57,ntmps57;go_wp2_with (first|(go_at_call 94;refine(t.l _).y ?_;rintro e u ⟨rfl,d⟩;have f:=(U3.new w #[ι 1,ι a,ι b,ι c,.g s] 67).u d;obtain⟨r,o,m⟩:=f.I;have j:=U6 zQ d)|(go_at_call 16;refine(p.l _ (by exact j)).y ?_;rintro e v ⟨rfl,g⟩))
 go_ret;exact⟨rfl,g⟩
def sF(h:zH B own w wb M V)(hk:k=7∨k=12∨k=13∨k=14∨k=15∨k=16)(ha:Vz a)(hn:M.ps.j<=1048576)(y:X (∀W,μ w W->∀p∈M.ps,c_ e_ 96 #[(π wb),.agg #[.u (Z ⟨p.1,0,Y⟩),.u (Z ⟨p.2.1,0,Y⟩)],.agg #[ι k,ι a,ι b,ι c,.g s]] W λe g=>U9 B own W wb M e g)):
  c_ e_ 57 #[(π wb),.agg #[ι k,ι a,ι b,ι c,.g s]] w λe g=>U9 B own w wb M e g:=by
 unfold Vz at ha;have HW:=U2 h;have l:w.ownsRow B 40 2 (V 0) M.ps.j (mD M.ps):=h.hd.row 0 _ _ _ _ rfl;have o:=h.box;obtain⟨ag,F,I⟩:=zq l;rw[I] at l o;have D:=U2 λW=>Ad (wb:=wb) (k:=k) (a:=a) (b:=b) (c:=c) (s:=s) W η;clear h I;have f:0<M.ps.j∨M.ps.j=0:=η;rcases f with f|h0
 .obtain⟨m,u⟩:∃m,m=kt a M.ps.j:=⟨_,rfl⟩;have v:m<M.ps.j:=by rw[u];exact m9 a f
  have L:X (∀W:U,c_ e_ 95 #[ι a,ι M.ps.j] W λe g=>e=ε (ι (m:Int))/\g=W):=λW=>by rw[u];exact lJ W a M.ps.j f η ha
  clear u;obtain⟨G,S,I,_,E,t⟩:=yt l η;cases I;obtain⟨A,C⟩:=Gx M.ps m v;have z:=t _ _ A;have x:=t _ _ C;have Q:=U2 λW (hW:μ w W)=>(y.l W hW _ (zr v)).y λe g q=>U9.from hW q;clear A C HW l t y;generalize M.ps[m].1=q1 at *;generalize M.ps[m].2.1=q2 at *;generalize M.ps.j=n at *;rcases hk with rfl|rfl|rfl|rfl|rfl|rfl
  all_goals
   go_enter func57,ntmps57;go_wp2_with (go_at_call 94;refine(D.l _).y ?_;rintro e H ⟨rfl,i⟩;have r:=(U3.new w #[ι _,ι a,ι b,ι c,.g s] 67).u i;obtain⟨ab,N,aa⟩:=r.I;have d:μ w H:=zJ φ i (ze _);have j:=o.u d;obtain⟨P,J,K⟩:=j.I;have af:=zi d E z;have ad:=zi d E x;have ae:=d.q;have ac:G<H.heap.q:=η)
   go_region_held3 (λg=>g.p ⟨wb,0,Y⟩=Z (.slice (Z ⟨G,0,Y⟩) n F)/\g.p ⟨w.heap.q,1,Y⟩=Z (ι a)/\g.p ⟨G,m*2,Y⟩=Z ((π q1))/\g.p ⟨G,m*2+1,Y⟩=Z ((π q2))) (go_keep) (first|(go_at_call 95;refine(L.l _).y ?_;rintro e g ⟨rfl,R⟩;obtain rfl:=R.symm))
   all_goals
    go_wp2_with (go_at_call 96;refine(Q.l _ φ).y ?_;rintro e w3 ⟨rfl,T⟩)
    go_ret;exact⟨rfl,T⟩
 rw[h0] at o;rcases hk with rfl|rfl|rfl|rfl|rfl|rfl
 all_goals
  go_enter func57,ntmps57;go_wp2_with (go_at_call 94;refine(D.l _).y ?_;rintro e H ⟨rfl,i⟩;have r:=(U3.new w #[ι _,ι a,ι b,ι c,.g s] 67).u i;obtain⟨ab,N,aa⟩:=r.I;have d:μ w H:=zJ φ i (ze _);have j:=o.u d;obtain⟨P,J,K⟩:=j.I)
  go_ret;exact U9.kept HW.l d
def BI(h:zH B own w wb M V)(hk:k=8∨k=10∨k=11)(ha:Vz a)(hn:M.rs.j<=1048576)(C:X (∀W,μ w W->∀r∈M.rs,c_ e_ 97 #[(π wb),.agg #[.u (Z ⟨r.1,0,Y⟩),.u (Z ⟨r.2.1,0,Y⟩),.u (Z ⟨r.2.2.1,0,Y⟩)],.agg #[ι k,ι a,ι b,ι c,.g s]] W λe g=>U9 B own W wb M e g)):
  c_ e_ 57 #[(π wb),.agg #[ι k,ι a,ι b,ι c,.g s]] w λe g=>U9 B own w wb M e g:=by
 unfold Vz at ha;have HW:=U2 h;have o:w.ownsRow B 50 3 (V 1) M.rs.j (mz M.rs):=h.hd.row 1 _ _ _ _ rfl;have p:=h.box;obtain⟨ai,I,K⟩:=zq o;rw[K] at o p;have H:=U2 λW=>Ad (wb:=wb) (k:=k) (a:=a) (b:=b) (c:=c) (s:=s) W η;clear h K;have f:0<M.rs.j∨M.rs.j=0:=η;rcases f with f|h0
 .obtain⟨j,u⟩:∃j,j=kt a M.rs.j:=⟨_,rfl⟩;have y:j<M.rs.j:=by rw[u];exact m9 a f
  have P:X (∀W:U,c_ e_ 95 #[ι a,ι M.rs.j] W λe g=>e=ε (ι (j:Int))/\g=W):=λW=>by rw[u];exact lJ W a M.rs.j f η ha
  clear u;obtain⟨x,aa,K,_,v,m⟩:=yt o η;cases K;obtain⟨F,G,E⟩:=Hp M.rs j y;have D:=m _ _ F;have z:=m _ _ G;have A:=m _ _ E;have S:=U2 λW (hW:μ w W)=>(C.l W hW _ (zr y)).y λe g q=>U9.from hW q;clear F G E HW o m C;generalize M.rs[j].1=q1 at *;generalize M.rs[j].2.1=q2 at *;generalize M.rs[j].2.2.1=q3 at *;generalize M.rs.j=n at *;rcases hk with rfl|rfl|rfl
  all_goals
   go_enter func57,ntmps57;go_wp2_with (go_at_call 94;refine(H.l _).y ?_;rintro e J ⟨rfl,i⟩;have t:=(U3.new w #[ι _,ι a,ι b,ι c,.g s] 67).u i;obtain⟨ad,Q,ac⟩:=t.I;have d:μ w J:=zJ φ i (ze _);have l:=p.u d;obtain⟨R,L,N⟩:=l.I;have ah:=zi d v D;have af:=zi d v z;have aj:=zi d v A;have ag:=d.q;have ae:x<J.heap.q:=η)
   go_region_held3 (λg=>g.p ⟨wb,1,Y⟩=Z (.slice (Z ⟨x,0,Y⟩) n I)/\g.p ⟨w.heap.q,1,Y⟩=Z (ι a)/\g.p ⟨x,j*3,Y⟩=Z ((π q1))/\g.p ⟨x,j*3+1,Y⟩=Z ((π q2))/\g.p ⟨x,j*3+2,Y⟩=Z ((π q3))) (go_keep) (first|(go_at_call 95;refine(P.l _).y ?_;rintro e g ⟨rfl,T⟩;obtain rfl:=T.symm))
   all_goals
    go_wp2_with (go_at_call 97;refine(S.l _ φ).y ?_;rintro e w3 ⟨rfl,ab⟩)
    go_ret;exact⟨rfl,ab⟩
 rw[h0] at p;rcases hk with rfl|rfl|rfl
 all_goals
  go_enter func57,ntmps57;go_wp2_with (go_at_call 94;refine(H.l _).y ?_;rintro e J ⟨rfl,i⟩;have t:=(U3.new w #[ι _,ι a,ι b,ι c,.g s] 67).u i;obtain⟨ad,Q,ac⟩:=t.I;have d:μ w J:=zJ φ i (ze _);have l:=p.u d;obtain⟨R,L,N⟩:=l.I)
  go_ret;exact U9.kept HW.l d
end
end
end Go.Proofs.YteampbddflhngaaGreat
