import Derived.Test.YteampbddflhngaaGreatR14
import Derived.Test.YteampbddflhngaaGreatR16
namespace Go.Proofs.YteampbddflhngaaGreat
open List renaming length→List.j
open _root_.Array renaming size→Array.q
open _root_.ByteArray renaming size→ByteArray.q
open Go.RowKit.Below renaming size→Go.RowKit.Below.q
open Go.RowKit.Hid renaming out→Go.RowKit.Hid.l
open Go.World renaming cell?→Go.World.p
open Option renaming some→Z
set_option linter.all false
set_option maxRecDepth 100000
set_option maxHeartbeats 4000000
open Go.Proofs.Tryz Go.RowKit
section
section
variable {B:Nat} {own:TH} {w:World} {wb:Nat} {M:yZ} {V:Nat->Value}
def Fp(h:y7 B own w wb M V)(hn:M.J.j<=1048577)(ab:M.N.j<=1048577):
  Calls prog 39 #[(π wb)] w λe w'=>e=ε (.bool true)/\w'=w:=by
 have R:Hid (∀i,i<M.J.j->∃g a n x,V 12=.slice (Z (δ g)) M.J.j a/\g<w.heap.q/\w.p (ω g i)=Z (.slice (Z (δ x)) n n)/\n<=1048576/\x<w.heap.q/\∀k,k<n->∃y,w.p (ω x k)=Z (.slice (Z (δ y)) (i+1) (i+1))/\y<w.heap.q/\w.p (δ y)=Z (.string ByteArray.empty)):=λi m=>by
  obtain⟨g,a,N,J,q3,L⟩:=nR (h.hd.row 12 _ _ _ _ rfl) i m;obtain⟨_,D,r1,u,q,r4⟩:=h.inn.J i m;refine⟨g,a,M.J[i].2,M.J[i].1,N,J,by rw[L];simp[lJ,sl],u,yG q rfl,λk s=>?_⟩;obtain⟨g2,o,r,P,K,s4⟩:=nR q k s;cases r;obtain⟨_,c,S,t2⟩:=r4 _ (zq (l:=D) (n:=k) η);exact⟨D[k],by rw[s4];simp[vn],S.lt,by rw[S.H.1];exact t2⟩
 have T:Hid (∀i,i<M.N.j->∃g a n x,V 13=.slice (Z (δ g)) M.N.j a/\g<w.heap.q/\w.p (ω g i)=Z (.slice (Z (δ x)) n n)/\n<=1000/\∀k,k<n->x<w.heap.q/\∃y,w.p (ω x (k*3))=Z (.bool false)/\w.p (ω x (k*3+1))=Z (.string Az)/\w.p (ω x (k*3+2))=Z (.slice (Z (δ y)) (i+1) (i+1))):=λi m=>by
  obtain⟨g,a,N,J,q3,L⟩:=nR (h.hd.row 13 _ _ _ _ rfl) i m;obtain⟨_,D,r1,u,q⟩:=h.inn.N i m;refine⟨g,a,M.N[i].2,M.N[i].1,N,J,by rw[L];simp[lJ,sl],u,λk s=>?_⟩;obtain⟨s0,r,P,K⟩:=e9 q k υ;simp only[ub,wm,sl] at r P K;exact⟨s0,_,r,P,K⟩
 obtain⟨ao,a,t⟩:=zr (h.hd.row 12 _ _ _ _ rfl);obtain⟨aa,o,b⟩:=zr (h.hd.row 13 _ _ _ _ rfl);have f:=h.box;rw[t,b] at f;rw[t] at R;rw[b] at T;obtain⟨hc,hf,ac⟩:=f.e;have W:(Az.toList == [109,105,110,101])=true:=by rw[kd];rfl
 clear h t b f;generalize M.J.j=G at *;generalize M.N.j=F at *;go_enter func39,ntmps39;go_wp2;go_loop [3] (λH=>∃i:Nat,i<=G/\H=ι i) (λH=>G-(intOf H).toNat);exact⟨0,zs _,rfl⟩;obtain⟨i,m,rfl⟩:=hrel;by_cases C:i<G
 .obtain⟨g,cp,n,x,E,e1,e2,e3,e4,p⟩:=R.l i C;cases E;have Q:=Tg p;clear p;go_wp2;go_loop [4] (λA=>∃k:Nat,k<=n/\A=ι k) (λA=>n-(intOf A).toNat);exact⟨0,zs _,rfl⟩;obtain⟨k,s,rfl⟩:=hrel;by_cases d:k<n
  .obtain⟨y,f1,f2,f3⟩:=Q.l k d;go_wp2;go_round;exact⟨k+1,η,ξ⟩;simp[intOf];omega
  go_wp2;go_round;exact⟨i+1,η,ξ⟩;simp[intOf];omega
 go_wp2;go_loop [5] (λv=>∃i:Nat,i<=F/\v=ι i) (λv=>F-(intOf v).toNat);exact⟨0,zs _,rfl⟩;obtain⟨j,hj,rfl⟩:=hrel;by_cases z:j<F
 .obtain⟨g,cp,n,x,E,e1,e2,e3,p⟩:=T.l j z;cases E;have Q:=Tg p;clear p;go_wp2;go_loop [6] (λI=>∃k:Nat,k<=n/\I=ι k) (λI=>n-(intOf I).toNat);exact⟨0,zs _,rfl⟩;obtain⟨k,s,rfl⟩:=hrel;by_cases d:k<n
  .obtain⟨f0,y,f1,f2,f3⟩:=Q.l k d;go_wp2;go_round;exact⟨k+1,η,ξ⟩;simp[intOf];omega
  go_wp2;go_round;exact⟨j+1,η,ξ⟩;simp[intOf];omega
 go_wp2;go_ret;exact⟨rfl,rfl⟩
def xV.ints{W:World}{g:Nat}{l:List Int}(a:Th W g (rY l) 3):xV W (.slice (Z (δ g)) l.j l.j) (Z l):=xV.of a.lt λk b=>by rw[a.H.1];simp[rY,b]
end
end
end Go.Proofs.YteampbddflhngaaGreat
