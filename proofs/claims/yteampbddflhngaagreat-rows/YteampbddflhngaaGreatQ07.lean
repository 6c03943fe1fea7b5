import Derived.Test.YteampbddflhngaaGreatRows
import Derived.ProofKit
import Derived.ChangeSlices
import Derived.Deep.Slices
import Derived.Deep.Strs
import Derived.SizedLaws
import Derived.Test.YteampbddflhngaaGreatQ03
namespace Go.Proofs.YteampbddflhngaaGreat
set_option linter.all false
set_option maxRecDepth 100000
set_option maxHeartbeats 2000000
open Go.Proofs.Tryz Go.RowKit
section
open Go.ChangeShapes Go.WideShapes Go.ChangeAt Go.Deep
def QS:ownKnob prog.godebug=none:=by kernel_rfl
def Rb:laidOutB prog=true:=by kernel_rfl
def QE:prog.cellsOf 67=5:=by kernel_rfl
def Rh:prog.cellsOf 3=1:=by kernel_rfl
def QP:prog.cellsOf 9=1:=by kernel_rfl
def Rv:prog.bytesOf 67=48:=by kernel_rfl
def SS:reachBytes=140737488351232:=rfl
def TI(x:S5):Prop:=(-9223372036854775808<=x.a/\x.a<=9223372036854775807)/\(-9223372036854775808<=x.b/\x.b<=9223372036854775807)/\(-9223372036854775808<=x.c/\x.c<=9223372036854775807)
def So{H:Type}{P:Program}{e:TypeId}:∀{l:List (DataW H)} {d:DataW H},d∈l->∀n∈d.weights P e,n∈DataW.weightsAll P e l
 |[],_,h=>by cases h
 |a::l,d,h=>by
  intro n b;simp only[DataW.weightsAll,zW];rcases zy.1 h with rfl|h
  .exact zh b
  .exact ze (So h n b)
def Tv{w:World}{b o:Nat}{u:Value}(h:w.cell? ⟨b,o,none⟩=some u):b<w.heap.size:=by
 unfold World.cell? at h;false_or_by_contra
 rename_i a;rw[Array.getElem?_eq_none (by simpa using a)] at h;simp at h
def JA{H:Type}{enc:TypeId×Value->H}{W:World}{e:Nat}{d:List Value}{x:DataW H×List MemPlace}(h:DataW.trod enc prog W 0 (λ_=>true) true e 67 d=some x):
  ∃y:S5,d=[ι y.kind,ι y.a,ι y.b,ι y.c,.string y.s]/\y.s.size∈x.1.weights prog 67/\TI y:=by
 obtain⟨C,n,_,rfl,z,f,g⟩:=DataW.trod_struct underlying67 h;rw[QE] at z;match C,f,d,z with
 |[N,K,L,G,E],_,[F,I,J,M,D],_=>
  have r:=g 0 _ rfl;have q:=g 1 _ rfl;have v:=g 2 _ rfl;have B:=g 3 _ rfl;have w:=g 4 _ rfl;simp[Rh,QP] at r q v B w;obtain⟨k,p,_,_⟩:=DataW.trod_int underlying3 r;obtain⟨a,o,_,i⟩:=DataW.trod_int underlying3 q;obtain⟨b,t,_,j⟩:=DataW.trod_int underlying3 v;obtain⟨c,A,_,m⟩:=DataW.trod_int underlying3 B;obtain⟨s,u,l,_⟩:=DataW.trod_string underlying9 w;simp at p o t A u;refine⟨⟨k,a,b,c,s⟩,by simp[p,o,t,A,u],?_,bounds_i64 i,bounds_i64 j,bounds_i64 m⟩;simp[DataW.weights,DataW.weightsEach,underlying67,l]
def Ml{H:Type}{enc:TypeId×Value->H}{W:World}{A:Nat}{Q:Value}{x:DataW H×List MemPlace}(X:DataW.trod enc prog W 0 (λ_=>true) true A 22 [Q]=some x)
  (t:(DataW.weightsEach prog [22] [x.1]).all (·<=reachBytes)=true):∃l,Tc W Q l/\∀x∈l,TI x:=by
 rcases open_slice underlying22 X with⟨d,_⟩|⟨a,p,V,m,n,D,Pl,d,_,hl,Z,w,g,N⟩
 simp at d;subst d;exact⟨[],⟨⟨none,0,rfl⟩,λk F=>by simp at F,by simp,λx g=>by cases g⟩,λx g=>by cases g⟩;simp at d;subst d;simp only[if_true] at w;subst w;subst g;have R:=sized_slice t (j:=0) rfl rfl underlying22;rw[Rv,SS] at R;simp at R;have z:∀i,∃y:S5,i<p->(∃e,W.cells? 0 (a.add (i*5)) 5=some e/\e=[ι y.kind,ι y.a,ι y.b,ι y.c,.string y.s])/\y.s.size<=140737488351232/\TI y:=by
  intro i;by_cases s:i<p;obtain⟨e,E,T⟩:=N i (by omega);rw[QE] at E;obtain⟨y,U,O,L⟩:=JA T;refine⟨y,λ_=>⟨⟨e,E,U⟩,?_,L⟩⟩;rw[←SS];refine of_decide_eq_true (fL.1 t _ (DataW.weights_mem_each (j:=0) rfl rfl _ ?_));simp only[DataW.weights,underlying22,zy,zW];exact ze (zh (So (zE.2 ⟨i,kx.2 s,rfl⟩) _ O));exact⟨⟨0,0,0,0,ByteArray.empty⟩,λh=>z9 h s⟩
 obtain⟨Y,B⟩:=Classical.axiomOfChoice z;obtain⟨b,o,q⟩:=a;refine⟨(List.range p).map Y,⟨⟨some ⟨b,o,q⟩,m,by simp⟩,?_,by simp;omega,?_⟩,?_⟩;intro k F;have M:k<p:=by simpa using F
 obtain⟨⟨e,E,d⟩,_⟩:=B k M;obtain⟨_,_,c⟩:=World.cells?_some E;have C:=c 0 (by omega);have I:=c 1 (by omega);have G:=c 2 (by omega);have K:=c 3 (by omega);have J:=c 4 (by omega);subst d;have r:q=none:=by
  obtain⟨⟨S,P,v⟩,_⟩:=B 0 (by omega);obtain⟨_,_,f⟩:=World.cells?_some P;subst v;have:=f 0 (by omega);simpa [Addr.add] using World.cell?_spot this
 subst r;have u:∀j,(Addr.add ⟨b,o,none⟩ (k*5)).add j=⟨b,o+k*5+j,none⟩:=by
  intro j;unfold Addr.add;split<;>split<;>simp_all
 simp only[u] at C I G K J;simp at C I G K J;simp only[xV,fc];exact⟨b,o,m,by simp,Tv C,C,I,G,K,J⟩;intro x g;obtain⟨i,s,rfl⟩:=zE.1 g;have:=(B i (kx.1 s)).2.1;omega;intro x g;obtain⟨i,s,rfl⟩:=zE.1 g;exact(B i (kx.1 s)).2.2
end
def L3(w:World)(v:Value)(x:ByteArray)(L:κ)(hv:SV w v (x::L))(S:∀y∈L,0<y.size)(hx:(x.toList == [33])=true)(a2:L.length<=500)(aB:¬L.length=0)(hs:yY (RA (gB L 0) 0)=true)(a1:¬L.length=1)(az:¬L.length<4)(a9:¬L.length%2=1)(E:((gB L 1).toList == [40])=true)(A:((gB L (L.length-1)).toList == [41])=true):
  Calls prog 152 #[v,.bool false] w λe G=>jD (xu true L) w e G:=by
 obtain⟨i0,hi,P,ac,af⟩:=info_parts QN;obtain⟨a3,an,rfl⟩:=hv.qy;obtain⟨b1,o1,rfl,ah,z⟩:=hv.cells (by simp);have Y:=z 0 (by simp);rw[uX,gH] at Y;clear z;have ai:0<(gB L 0).size:=by rw[←xG (by omega:0<L.length)];exact S _ (zt _)
 have a6:((L.length:Int) == 0)=false:=by rw[beq_eq_false_iff_ne];omega
 have ay:((L.length:Int) == 1)=false:=by rw[beq_eq_false_iff_ne];omega
 have aC:((L.length:Int)%2 == 1)=false:=by rw[beq_eq_false_iff_ne];omega
 go_enter func152,ntmps152;go_wp2_with (first|(refine qT _ w rfl (.tmp 26) 30 9 (some (.const (ι 1))) none rfl underlying30 i0 hi Rl _ (x::L) rfl hv 1 (L.length+1) (ze rfl) (zh ⟨rfl,rfl⟩) (by omega) (by simp) L.length (by omega) ?_;intro a0 al T;simp only[mj,gW,uR] at T;obtain⟨b,o,rfl,N,f⟩:=T.cells (by omega);have J:=f 0 (by omega);have ag:=f 1 (by omega);have ab:=f (L.length-1) (by omega);rw[xG (by omega)] at J ag ab;rw[uX] at J;have aj:=Ry f;clear f)|(go_at_call 184;refine(kW _ _ ai).mono ?_;rintro e G ⟨rfl,rfl⟩))
 go_loopw [9] (λi wr=>∃(k:Nat) (av:Value),2<=k/\k<=L.length-1/\i=ι k/\Hid (vX L k=true)/\μ w wr/\Rz wr w.heap.size #[.bool false,.string ByteArray.empty,ν] 90/\Rz wr (w.heap.size+1) #[.bool true,.string (gB L 0),av] 90/\wr.ownsRow w.heap.size 9 1 av (uN L k).length ((uN L k).map Value.string)) (λi _=>L.length-(intOf i).toNat);exact⟨2,_,zf _,by omega,rfl,by simp[Hid,vX],(by go_grown),(Rz.new w _ _).below zP,Rz.newAt _ _ _ _ (by simp),yW _ _ _ _⟩;obtain⟨k,av,t,hk,rfl,H,d,n,m,a⟩:=hrel;obtain⟨D,j,rfl⟩:=zq a;obtain⟨a7,a5⟩:=m.rules;obtain⟨B,aA⟩:=n.rules;have aq:=d.size;have ar:=m.lt;have au:=iU L k;by_cases a8:k<L.length-1
 .have ae:=(d.cell (p:=⟨b,o+k,none⟩) N).trans (aj.out k (by omega));have ax:b<wr.heap.size:=by omega
  have aw:k<L.length:=by omega
  have q:0<L[k].size:=S _ (zt _);rw[xG (by omega:k<L.length)] at ae q;have F:uN L (k+1)=uN L k++(if 2<=k/\k%2=0 then [gB L k] else []):=rfl;have u:vX L (k+1)=(vX L k&&(decide (k<2)||Tt L k)):=rfl;rw[H.out,decide_eq_false (by omega:¬k<2),mQ,pk] at u;have s:Hid (Tt L k=false->vX L (L.length-1)=false):=λh=>D6 (i:=k+1) (by rw[u,h]) _ (by omega);unfold Tt at u s;by_cases l:k%2=0
  .rw[zb l] at u s;rw[zb ⟨t,l⟩] at F;have aa:((k:Int)%2 == 0)=true:=by rw[beq_iff_eq];omega
   have Z:((k:Int)%2 == 1)=false:=by rw[beq_eq_false_iff_ne];omega
   have Q:=Ry F;have C:=Ry u;clear F u l;cases I:Sb (RA (gB L k) 0)
   .have O:Hid (xu true L=none):=by unfold Hid xu;rw[za (by omega),hs,za (by simp),za (by omega),za (by rw[E,A];simp;omega),s.out I];simp
    clear s Q C;generalize gB L k=U at *;go_wp2_with (go_at_call 185;refine(mU _ _ q).mono ?_;rintro e G ⟨rfl,c⟩;obtain rfl:=c.symm)
    rw[O.out];exact zO (v:=.tuple #[.agg #[.bool true,.string (gB L 0),.slice D (uN L k).length j],.bool false]) (by simp[results,results152,go_sem,B];try rfl) rfl ⟨(by go_grown),_,_,_,_,_,rfl⟩
   rw[I] at C;clear s;generalize gB L k=U at *;generalize ad:uN L k=ak at *;clear ad;go_wp2_with (go_at_call 185;refine(mU _ _ q).mono ?_;rintro e G ⟨rfl,c⟩;obtain rfl:=c.symm)
   go_region_law (first|(refine Ai wr _ [.string U] 9 rfl (.tmp 103) (.tmp 108) 30 rfl w.heap.size 9 i0 _ 1 16 underlying30 hi P ac af rfl (by decide) _ _ _ (by simp[Act.eval]) a (by exact(by go_grown)) wr.heap.size 1 (by simp[Act.eval]) (by exact Rz.drew (Rz.newAt _ _ _ _ rfl)) rfl (by simp[Value.oneCell']) (by omega) (by omega) d.size ?_;intro v' w2 K X t am;obtain⟨V,R,rfl⟩:=zq K;have g:=Rz.keep (Rz.drew (m.below zP)) (fU a m (by decide)) t;have M:=Rz.keep (Rz.drew (n.below zP)) (fU a n (by decide)) t;obtain⟨ap,ao⟩:=g.rules))
   all_goals
    go_wp2;go_roundw;exact⟨k+1,_,by omega,by omega,by go_num,C,(d.trans X).setCell (by simp) _,M.set_ne (by omega) _ _,g.set 2 _,by rw[Q.out];have:=xF K ((RD.refl (w.heap.size+1) w2).setCell 2 (.slice V (ak.length+1) R)) g (by decide);simpa using this⟩;simp[intOf];omega
  rw[za l] at u s;rw[za (by omega),vR] at F;have aa:((k:Int)%2 == 0)=false:=by rw[beq_eq_false_iff_ne];omega
  have Z:((k:Int)%2 == 1)=true:=by rw[beq_iff_eq];omega
  have Q:=Ry F;have C:=Ry u;clear F u l;cases I:((gB L k).toList == [44])
  .have O:Hid (xu true L=none):=by unfold Hid xu;rw[za (by omega),hs,za (by simp),za (by omega),za (by rw[E,A];simp;omega),s.out I];simp
   clear s Q C;generalize gB L k=U at *;go_wp2_with (go_at_call 185;refine(mU _ _ q).mono ?_;rintro e G ⟨rfl,c⟩;obtain rfl:=c.symm)
   rw[O.out];exact zO (v:=.tuple #[.agg #[.bool true,.string (gB L 0),.slice D (uN L k).length j],.bool false]) (by simp[results,results152,go_sem,B];try rfl) rfl ⟨(by go_grown),_,_,_,_,_,rfl⟩
  rw[I] at C;have a4:=Ba I;clear s;generalize gB L k=U at *;go_wp2_with (go_at_call 185;refine(mU _ _ q).mono ?_;rintro e G ⟨rfl,c⟩;obtain rfl:=c.symm)
  go_roundw;exact⟨k+1,_,by omega,by omega,by go_num,C,d,n,m,by rw[Q.out];exact a⟩;simp[intOf];omega
 have W:k=L.length-1:=by omega
 have O:Hid (xu true L=some ⟨true,gB L 0,uN L k⟩):=by unfold Hid xu;rw[za (by omega),hs,za (by simp),za (by omega),za (by rw[E,A];simp;omega),←W,H.out];simp
 clear H;generalize uN L k=ak at *;go_wp2;rw[O.out];exact zO (v:=.tuple #[.agg #[.bool true,.string (gB L 0),.slice D ak.length j],.bool true]) (by simp[results,results152,go_sem,B]) rfl ⟨(by go_grown),_,rfl,xF (r:=w.heap.size) a (by repeat'(first|with_reducible(first|apply xR|assumption|apply xN|apply xA|apply xD|apply xS|apply xT)|go_size)) n (by decide)⟩
end Go.Proofs.YteampbddflhngaaGreat
