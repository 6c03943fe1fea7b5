import Derived.Test.YteampbddflhngaaGreatR14
import Derived.Test.YteampbddflhngaaGreatR16
namespace Go.Proofs.YteampbddflhngaaGreat
open List renaming length→List.j
open _root_.Array renaming size→Array.q
open _root_.ByteArray renaming size→ByteArray.q
open Go.RowKit.Below renaming size→Go.RowKit.Below.q
open Go.RowKit.Hid renaming out→Go.RowKit.Hid.l
open Go.World renaming cell?→Go.World.p
open Option renaming some→Z
set_option linter.all false
set_option maxRecDepth 100000
set_option maxHeartbeats 4000000
open Go.Proofs.Tryz Go.RowKit
section
section
variable {B:Nat} {own:TI} {w:World} {wb:Nat} {M:yZ} {V:Nat->Value}
def Dh(h:yA B own w wb M V)(hn:M.J.j<=1048577)(ac:M.N.j<=1048577):
  Calls prog 39 #[(π wb)] w λe w'=>e=ε (.bool true)/\w'=w:=by
 have R:Hid (∀i,i<M.J.j->∃g a n x,V 12=.slice (Z (δ g)) M.J.j a/\g<w.heap.q/\w.p (ω g i)=Z (.slice (Z (δ x)) n n)/\n<=1048576/\x<w.heap.q/\∀k,k<n->∃y,w.p (ω x k)=Z (.slice (Z (δ y)) (i+1) (i+1))/\y<w.heap.q/\w.p (δ y)=Z (.string ByteArray.empty)):=λi m=>by
  obtain⟨g,a,t,N,q3,E⟩:=nJ (h.hd.row 12 _ _ _ _ rfl) i m;obtain⟨_,A,r1,D,s,r4⟩:=h.inn.J i m;refine⟨g,a,M.J[i].2,M.J[i].1,t,N,by rw[E];simp[mh,sl],D,yF s rfl,λk q=>?_⟩;obtain⟨g2,o,r,F,J,s4⟩:=nJ s k q;cases r;obtain⟨_,c,S,t2⟩:=r4 _ (zq (l:=A) (n:=k) η);exact⟨A[k],by rw[s4];simp[vr],S.lt,by rw[S.H.1];exact t2⟩
 have T:Hid (∀i,i<M.N.j->∃g a n x,V 13=.slice (Z (δ g)) M.N.j a/\g<w.heap.q/\w.p (ω g i)=Z (.slice (Z (δ x)) n n)/\n<=1000/\∀k,k<n->x<w.heap.q/\∃y,w.p (ω x (k*3))=Z (.bool false)/\w.p (ω x (k*3+1))=Z (.string BC)/\w.p (ω x (k*3+2))=Z (.slice (Z (δ y)) (i+1) (i+1))):=λi m=>by
  obtain⟨g,a,t,N,q3,E⟩:=nJ (h.hd.row 13 _ _ _ _ rfl) i m;obtain⟨_,A,r1,D,s⟩:=h.inn.N i m;refine⟨g,a,M.N[i].2,M.N[i].1,t,N,by rw[E];simp[mh,sl],D,λk q=>?_⟩;obtain⟨s0,r,F,J⟩:=iv s k υ;simp only[ue,tL,sl] at r F J;exact⟨s0,_,r,F,J⟩
 obtain⟨ao,a,v⟩:=zr (h.hd.row 12 _ _ _ _ rfl);obtain⟨ab,o,b⟩:=zr (h.hd.row 13 _ _ _ _ rfl);have d:=h.box;rw[v,b] at d;rw[v] at R;rw[b] at T;obtain⟨hc,hf,ad⟩:=d.e;have aa:(BC.toList == [109,105,110,101])=true:=by rw[jS];rfl
 clear h v b d;generalize M.J.j=G at *;generalize M.N.j=z at *;go_enter func39,ntmps39;go_wp2;go_loop [3] (λC=>∃i:Nat,i<=G/\C=ι i) (λC=>G-(intOf C).toNat);exact⟨0,zs _,rfl⟩;obtain⟨i,m,rfl⟩:=hrel;by_cases L:i<G
 .obtain⟨g,cp,n,x,K,e1,e2,e3,e4,p⟩:=R.l i L;cases K;have I:=Th p;clear p;go_wp2;go_loop [4] (λP=>∃k:Nat,k<=n/\P=ι k) (λP=>n-(intOf P).toNat);exact⟨0,zs _,rfl⟩;obtain⟨k,q,rfl⟩:=hrel;by_cases f:k<n
  .obtain⟨y,f1,W,f3⟩:=I.l k f;go_wp2;go_round;exact⟨k+1,η,ξ⟩;simp[intOf];omega
  go_wp2;go_round;exact⟨i+1,η,ξ⟩;simp[intOf];omega
 go_wp2;go_loop [5] (λQ=>∃i:Nat,i<=z/\Q=ι i) (λQ=>z-(intOf Q).toNat);exact⟨0,zs _,rfl⟩;obtain⟨j,hj,rfl⟩:=hrel;by_cases H:j<z
 .obtain⟨g,cp,n,x,K,e1,e2,e3,p⟩:=T.l j H;cases K;have I:=Th p;clear p;go_wp2;go_loop [6] (λu=>∃k:Nat,k<=n/\u=ι k) (λu=>n-(intOf u).toNat);exact⟨0,zs _,rfl⟩;obtain⟨k,q,rfl⟩:=hrel;by_cases f:k<n
  .obtain⟨f0,y,f1,W,f3⟩:=I.l k f;go_wp2;go_round;exact⟨k+1,η,ξ⟩;simp[intOf];omega
  go_wp2;go_round;exact⟨j+1,η,ξ⟩;simp[intOf];omega
 go_wp2;go_ret;exact⟨rfl,rfl⟩
def xQ.ints{W:World}{g:Nat}{l:List Int}(a:Ti W g (rM l) 3):xQ W (.slice (Z (δ g)) l.j l.j) (Z l):=xQ.of a.lt λk b=>by rw[a.H.1];simp[rM,b]
end
end
end Go.Proofs.YteampbddflhngaaGreat
