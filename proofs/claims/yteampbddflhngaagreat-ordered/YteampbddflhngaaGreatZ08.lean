import Derived.Test.YteampbddflhngaaGreatRows
import Derived.ProofKit
import Derived.ChangeSlices
import Derived.Deep.Slices
import Derived.Deep.Strs
import Derived.SizedLaws
import Derived.Test.YteampbddflhngaaGreatZ03
namespace Go.Proofs.YteampbddflhngaaGreat
set_option linter.all false
set_option maxRecDepth 100000
set_option maxHeartbeats 4000000
open Go.Proofs.Tryz Go.RowKit
structure R7 where
 kind:Int
 a:Int
 b:Int
 c:Int
 s:ByteArray
structure Sg (w:World) (v:Value) (l:List R7):Prop where
 qx:∃ao cap,v=.slice ao l.length cap
 cells:∀k (hk:k<l.length),∃b o cap,v=.slice (some ⟨b,o,none⟩) l.length cap/\b<w.heap.size/\w.cell? ⟨b,o+k*5,none⟩=some (ι l[k].kind)/\w.cell? ⟨b,o+k*5+1,none⟩=some (ι l[k].a) ∧
  w.cell? ⟨b,o+k*5+2,none⟩=some (ι l[k].b)/\w.cell? ⟨b,o+k*5+3,none⟩=some (ι l[k].c)/\w.cell? ⟨b,o+k*5+4,none⟩=some (.string l[k].s)
 len:l.length<=281474976710656
 fits:∀x∈l,x.s.size<=281474976710656
theorem Sg.below{w w':World}{v:Value}{l:List R7}(h:Sg w v l)(c:μ w w'):Sg w' v l:=
 ⟨h.qx,fun k m=>by
  obtain⟨b,o,d,i,a,g,e,j,f,n⟩:=h.cells k m;exact⟨b,o,d,i,xP a c.size,(zl c a g),(zl c a e),(zl c a j),(zl c a f),(zl c a n)⟩,h.len,h.fits⟩
theorem Sg.cell{w:World}{c:Option Addr}{n cap:Nat}{l:List R7}(h:Sg w (.slice c n cap) l)(k:Nat)(e:k<l.length):∃b o,c=some ⟨b,o,none⟩/\b<w.heap.size/\w.cell? ⟨b,o+k*5,none⟩=some (ι l[k].kind)/\w.cell? ⟨b,o+k*5+1,none⟩=some (ι l[k].a) ∧
  w.cell? ⟨b,o+k*5+2,none⟩=some (ι l[k].b)/\w.cell? ⟨b,o+k*5+3,none⟩=some (ι l[k].c)/\w.cell? ⟨b,o+k*5+4,none⟩=some (.string l[k].s):=by
 obtain⟨b,o,d,a,r⟩:=h.cells k e;simp at a;exact⟨b,o,a.1,r⟩
def Rf(l:List R7):Nat:=(l.map fun x=>x.s.size).sum
theorem Hl(l:List R7)(k:Nat)(a:k<l.length):Rf (l.take (k+1))=Rf (l.take k)+l[k].s.size:=by
 unfold Rf;rw[yM a,uQ,List.sum_append];simp
def lQ(l:List R7):Bool:=decide (l.length+Rf l<=1048576)
theorem Mz(l:List R7)(k:Nat):Rf (l.take k)<=Rf l:=by
 have:Rf l=Rf (l.take k)+Rf (l.drop k):=by unfold Rf;rw[←List.sum_append,←uQ,qZ]
 omega
theorem ON(w:World)(v:Value)(l:List R7)(h:Sg w v l):
  Calls prog 28 #[v] w fun e m=>e=ε (.bool (lQ l))/\m=w:=by
 obtain⟨A,j,rfl⟩:=h.qx;have t:=Q5 h.fits;by_cases d:1048576<l.length
 ·have c:Hid (lQ l=false):=by unfold Hid lQ;rw[decide_eq_false_iff_not];omega
  go_enter func28,ntmps28;go_wp2;go_ret;exact⟨by rw[c.out];rfl,rfl⟩
 ·go_enter func28,ntmps28;go_wp2;go_loop [3,4] (fun g q=>∃k n:Nat,k<=l.length/\q=ι k/\g=ι n/\n<=1048576/\Hid (n=l.length+Rf (l.take k))) (fun _ i=>l.length-(intOf i).toNat)
  case atStart=>exact⟨0,l.length,zv _,rfl,rfl,by omega,by simp[Hid,Rf]⟩
  case round=>
   obtain⟨k,n,B,rfl,rfl,z,H⟩:=hrel;by_cases a:k<l.length
   ·obtain⟨b,o,rfl,y,_,_,_,_,u⟩:=h.cell k a;have r:=t.out _ (zs a);have f:Hid (n+l[k].s.size=l.length+Rf (l.take (k+1))):=by rw[Hid,Hl l k a,H.out];omega
    generalize l[k]=x at *;generalize x.s=s at *;by_cases p:1048576<n+s.size
    ·have c:Hid (lQ l=false):=by unfold Hid lQ;rw[decide_eq_false_iff_not];have:=f.out;have:=Mz l (k+1);omega
     go_wp2;go_ret;exact⟨by rw[c.out];rfl,rfl⟩
    ·go_wp2;go_round
     case rel=>exact⟨k+1,n+s.size,by omega,by go_num,by go_num,by omega,f⟩
     case measure=>simp[intOf];omega
   ·have c:Hid (lQ l=true):=by unfold Hid lQ;rw[decide_eq_true_iff];have:=H.out;rw[xh (by omega)] at this;omega
    go_wp2;go_ret;exact⟨by rw[c.out];rfl,rfl⟩
theorem OL(w:World)(k:Int):
  Calls prog 29 #[ι k] w fun e a=>e=ε (.bool (k == 9||k == 17))/\a=w:=by
 go_enter func29,ntmps29;cases c:(k == 9) with
 |true=>go_wp2;go_ret;exact⟨rfl,rfl⟩
 |false=>
  cases b:(k == 17) with
  |true=>go_wp2;go_ret;exact⟨rfl,rfl⟩
  |false=>go_wp2;go_ret;exact⟨rfl,rfl⟩
theorem Qm:(prog.info? 67).map (fun i=>(i.zero,i.size,i.bytes))=some (some (.agg #[ι 0,ι 0,ι 0,ι 0,.string ByteArray.empty]),5,48):=by kernel_rfl
def gT(l:List R7):List Value:=l.flatMap fun x=>[ι x.kind,ι x.a,ι x.b,ι x.c,.string x.s]
theorem Oo(l:List R7)(x:R7):gT (l++[x])=gT l++[ι x.kind,ι x.a,ι x.b,ι x.c,.string x.s]:=by simp[gT]
theorem Ex:∀(l:List R7) (k:Nat) (b:k<l.length),(gT l)[k*5]?=some (ι l[k].kind)/\(gT l)[k*5+1]?=some (ι l[k].a)/\(gT l)[k*5+2]?=some (ι l[k].b)/\(gT l)[k*5+3]?=some (ι l[k].c)/\(gT l)[k*5+4]?=some (.string l[k].s)
 |[],k,b=>by simp at b
 |a::l,0,_=>by simp[gT]
 |a::l,k+1,b=>by
  have:=Ex l k (by simpa using b);simp only[gT,uw] at this ⊢;rw[show(k+1)*5=k*5+1+1+1+1+1 from by omega,show k*5+1+1+1+1+1+1=k*5+1+1+1+1+1+1 from rfl,show k*5+1+1+1+1+1+2=k*5+2+1+1+1+1+1 from by omega,show k*5+1+1+1+1+1+3=k*5+3+1+1+1+1+1 from by omega,show k*5+1+1+1+1+1+4=k*5+4+1+1+1+1+1 from by omega];simpa using this
theorem Sg.own{w:World}{b:Nat}{v:Value}{l:List R7}(h:w.ownsRow b 67 5 v l.length (gT l))(d:l.length<=281474976710656)(f:∀x∈l,x.s.size<=281474976710656):Sg w v l:=by
 refine⟨zp h,fun k p=>?_,d,f⟩;obtain⟨g,c,n,_,e,a⟩:=yv h (by omega);obtain⟨j,i,o,m,q⟩:=Ex l k p;refine⟨g,0,c,n,e,?_,?_,?_,?_,?_⟩
 ·rw[vz];exact a _ _ j
 ·rw[vz];exact a _ _ i
 ·rw[vz];exact a _ _ o
 ·rw[vz];exact a _ _ m
 ·rw[vz];exact a _ _ q
theorem IV{l:List R7}{x:R7}(h:x∈l):x.s.size<=Rf l:=by
 induction l with
 |nil=>cases h
 |cons a l b=>
  simp only[Rf,xI,vQ] at b ⊢;rcases zx.1 h with rfl|h
  ·omega
  ·have:=b h;omega
def SC(w:World)(v:Value)(b:List Int):Prop:=∃a,w.ownsRow a 3 1 v b.length (b.map (Value.int .i64))
theorem SC.qx{w:World}{v:Value}{l:List Int}(h:SC w v l):∃c a,v=.slice c l.length a:=by obtain⟨b,h⟩:=h;exact zp h
theorem SC.cell{w:World}{e:Option Addr}{n cap:Nat}{b:List Int}(h:SC w (.slice e n cap) b)(k:Nat)(l:k<b.length):∃g,e=some ⟨g,0,none⟩/\g<w.heap.size/\w.cell? ⟨g,k,none⟩=some (ι b[k]):=by
 obtain⟨c,i⟩:=h;obtain⟨g,f,d,_,j,a⟩:=yv i (by omega);simp at d;exact⟨g,d.1,j,a k _ (by simp[l])⟩
section
open Go.ChangeShapes Go.WideShapes Go.ChangeAt Go.Deep
theorem Qa:ownKnob prog.godebug=none:=by kernel_rfl
theorem Qo:laidOutB prog=true:=by kernel_rfl
theorem Qr:prog.cellsOf 67=5:=by kernel_rfl
theorem PX:prog.cellsOf 3=1:=by kernel_rfl
theorem Qi:prog.cellsOf 9=1:=by kernel_rfl
theorem PU:prog.bytesOf 67=48:=by kernel_rfl
theorem RV:reachBytes=140737488351232:=rfl
def S9(x:R7):Prop:=(-9223372036854775808<=x.a/\x.a<=9223372036854775807)/\(-9223372036854775808<=x.b/\x.b<=9223372036854775807)/\(-9223372036854775808<=x.c/\x.c<=9223372036854775807)
theorem Rq{H:Type}{P:Program}{e:TypeId}:∀{l:List (DataW H)} {d:DataW H},d∈l->∀n∈d.weights P e,n∈DataW.weightsAll P e l
 |[],_,h=>by cases h
 |a::l,d,h=>by
  intro n b;simp only[DataW.weightsAll,zI];rcases zx.1 h with rfl|h
  ·exact zf b
  ·exact zb (Rq h n b)
theorem Sv{w:World}{b o:Nat}{u:Value}(h:w.cell? ⟨b,o,none⟩=some u):b<w.heap.size:=by
 unfold World.cell? at h;false_or_by_contra
 rename_i a;rw[Array.getElem?_eq_none (by simpa using a)] at h;simp at h
theorem Lk{H:Type}{enc:TypeId×Value->H}{W:World}{e:Nat}{d:List Value}{x:DataW H×List MemPlace}(h:DataW.trod enc prog W 0 (fun _=>true) true e 67 d=some x):
  ∃y:R7,d=[ι y.kind,ι y.a,ι y.b,ι y.c,.string y.s]/\y.s.size∈x.1.weights prog 67/\S9 y:=by
 obtain⟨C,n,_,rfl,p,f,g⟩:=DataW.trod_struct underlying67 h;rw[Qr] at p;match C,f,d,p with
 |[M,E,N,G,L],_,[I,F,J,D,K],_=>
  have w:=g 0 _ rfl;have t:=g 1 _ rfl;have v:=g 2 _ rfl;have r:=g 3 _ rfl;have B:=g 4 _ rfl;simp[PX,Qi] at w t v r B;obtain⟨k,q,_,_⟩:=DataW.trod_int underlying3 w;obtain⟨a,A,_,i⟩:=DataW.trod_int underlying3 t;obtain⟨b,z,_,l⟩:=DataW.trod_int underlying3 v;obtain⟨c,o,_,j⟩:=DataW.trod_int underlying3 r;obtain⟨s,u,m,_⟩:=DataW.trod_string underlying9 B;simp at q A z o u;refine⟨⟨k,a,b,c,s⟩,by simp[q,A,z,o,u],?_,bounds_i64 i,bounds_i64 l,bounds_i64 j⟩;simp[DataW.weights,DataW.weightsEach,underlying67,m]
theorem OF{H:Type}{enc:TypeId×Value->H}{W:World}{v:Nat}{Q:Value}{x:DataW H×List MemPlace}(T:DataW.trod enc prog W 0 (fun _=>true) true v 22 [Q]=some x)
  (w:(DataW.weightsEach prog [22] [x.1]).all (·<=reachBytes)=true):∃l,Sg W Q l/\∀x∈l,S9 x:=by
 rcases open_slice underlying22 T with⟨d,_⟩|⟨a,f,X,m,n,D,Pl,d,_,Z,hm,u,p,P⟩
 ·simp at d;subst d;exact⟨[],⟨⟨none,0,rfl⟩,fun k F=>by simp at F,by simp,fun x p=>by cases p⟩,fun x p=>by cases p⟩
 ·simp at d;subst d;simp only[if_true] at u;subst u;subst p;have R:=sized_slice w (j:=0) rfl rfl underlying22;rw[PU,RV] at R;simp at R;have z:∀i,∃y:R7,i<f->(∃e,W.cells? 0 (a.add (i*5)) 5=some e/\e=[ι y.kind,ι y.a,ι y.b,ι y.c,.string y.s])/\y.s.size<=140737488351232/\S9 y:=by
   intro i;by_cases s:i<f
   ·obtain⟨e,B,V⟩:=P i (by omega);rw[Qr] at B;obtain⟨y,S,M,N⟩:=Lk V;refine⟨y,fun _=>⟨⟨e,B,S⟩,?_,N⟩⟩;rw[←RV];refine of_decide_eq_true (ko.1 w _ (DataW.weights_mem_each (j:=0) rfl rfl _ ?_));simp only[DataW.weights,underlying22,zx,zI];exact zb (zf (Rq (zy.2 ⟨i,vM.2 s,rfl⟩) _ M))
   ·exact⟨⟨0,0,0,0,ByteArray.empty⟩,fun h=>zC h s⟩
  obtain⟨Y,C⟩:=Classical.axiomOfChoice z;obtain⟨b,g,q⟩:=a;refine⟨(List.range f).map Y,⟨⟨some ⟨b,g,q⟩,m,by simp⟩,?_,by simp;omega,?_⟩,?_⟩
  ·intro k F;have J:k<f:=by simpa using F
   obtain⟨⟨e,B,d⟩,_⟩:=C k J;obtain⟨_,_,c⟩:=World.cells?_some B;have E:=c 0 (by omega);have L:=c 1 (by omega);have G:=c 2 (by omega);have O:=c 3 (by omega);have K:=c 4 (by omega);subst d;have r:q=none:=by
    obtain⟨⟨U,I,A⟩,_⟩:=C 0 (by omega);obtain⟨_,_,o⟩:=World.cells?_some I;subst A;have:=o 0 (by omega);simpa [Addr.add] using World.cell?_spot this
   subst r;have t:∀j,(Addr.add ⟨b,g,none⟩ (k*5)).add j=⟨b,g+k*5+j,none⟩:=by
    intro j;unfold Addr.add;split<;>split<;>simp_all
   simp only[t] at E L G O K;simp at E L G O K;simp only[uM,mp];exact⟨b,g,m,by simp,Sv E,E,L,G,O,K⟩
  ·intro x p;obtain⟨i,s,rfl⟩:=zy.1 p;have:=(C i (vM.1 s)).2.1;omega
  ·intro x p;obtain⟨i,s,rfl⟩:=zy.1 p;exact(C i (vM.1 s)).2.2
end
theorem Nh(w:World)(wb:Nat)(c0 l g c h d o p k f b a:Value)(j:Q6 w wb #[c0,l,g,c,h,d,o,p,k,f,b,a,ν,ν] 35):
  Calls prog 39 #[(π wb)] w fun e m=>e=ε (.bool true)/\m=w:=by
 obtain⟨q,r,n⟩:=j.boxed;go_enter func39,ntmps39;go_wp2;go_loop [3] (fun i=>i=ι 0) (fun _=>0)
 case atStart=>rfl
 case round=>
  subst hrel;go_wp2;go_loop [5] (fun i=>i=ι 0) (fun _=>0)
  case atStart=>rfl
  case round=>
   subst hrel;go_wp2;go_ret;exact⟨rfl,rfl⟩
def dC(a:List Int)(k:Int):Prop:=(2<=k/\k<=6)∨k=9∨k=17∨k∈a
def C9(l:List R7)(d:List Int):Prop:=∀W b a,Sg W b a->(∀x∈a,x∈l/\dC d x.kind)->a.length<=1048576->(∀x∈a,x.s.size<=1048576)->Calls prog 31 #[b] W fun e c=>e=ε (ι (-1))/\μ W c
theorem J4(w:World)(k:Int):
  Calls prog 30 #[ι k] w fun e a=>e=ε (.bool (k == 2||k == 3||k == 4||k == 5||k == 6))/\a=w:=by
 go_enter func30,ntmps30;cases f:(k == 2) with
 |true=>go_wp2;go_ret;exact⟨rfl,rfl⟩
 |false=>
  cases b:(k == 3) with
  |true=>go_wp2;go_ret;exact⟨rfl,rfl⟩
  |false=>
   cases g:(k == 4) with
   |true=>go_wp2;go_ret;exact⟨rfl,rfl⟩
   |false=>
    cases d:(k == 5) with
    |true=>go_wp2;go_ret;exact⟨rfl,rfl⟩
    |false=>
     cases c:(k == 6) with
     |true=>go_wp2;go_ret;exact⟨rfl,rfl⟩
     |false=>go_wp2;go_ret;exact⟨rfl,rfl⟩
theorem Gw(w:World)(v:Value)(l:List R7)(h:Sg w v l)(kv:Value)(m:List Int)(N:SC w kv m)(a5:m.length<=20)(L:C9 l m):
  Calls prog 15 #[v,.bool true,kv] w fun e s=>e=ε (.bool true)/\μ w s:=by
 obtain⟨i0,hi,Y,ap,Z⟩:=info_parts Qm;obtain⟨ao,aC,rfl⟩:=h.qx;obtain⟨a9,a2,rfl⟩:=N.qx;have ak:=Q5 L;have n:=Q5 (ON w _ l h);have u:lQ l=decide (l.length+Rf l<=1048576):=rfl;clear L;cases t:lQ l with
 |false=>
  rw[t] at n;clear u t;go_enter func15,ntmps15;go_wp2_with (go_at_call 28;refine n.out.mono ?_;rintro e s ⟨rfl,f⟩;obtain rfl:=f.symm;clear n)
  go_ret;exact⟨rfl,zo _ _⟩
 |true=>
  rw[t] at n u;have af:=of_decide_eq_true u.symm;have HF:Hid (∀x∈l,x.s.size<=1048576):=fun x A=>by have:=IV A;omega
  have a4:l.length<=1048576:=by omega
  clear u t af;go_enter func15,ntmps15;go_wp2_with (go_at_call 28;refine n.out.mono ?_;rintro e s ⟨rfl,f⟩;obtain rfl:=f.symm;clear n)
  go_loopw [8,9] (fun v8 v9 wr=>∃(k:Nat) (c:List R7),k<=l.length/\v9=ι k/\c.length<=k/\μ w wr/\wr.ownsRow w.heap.size 67 5 v8 c.length (gT c)/\Hid (∀x∈c,x∈l/\dC m x.kind)) (fun _ i _=>l.length-(intOf i).toNat)
  case atStart=>exact⟨0,[],zv _,rfl,zg _,zo _ _,yC _ _ _ _,fun x A=>by cases A⟩
  case round=>
   obtain⟨k,c,hk,rfl,a8,d,g,C⟩:=hrel;obtain⟨aB,az,rfl⟩:=zp g;have a3:=d.size;by_cases K:k<l.length
   ·obtain⟨b,o,rfl,E,h0,h1,h2,h3,h4⟩:=h.cell k K;have am:=zl d E h0;have ai:=zl d E h1;have aj:=zl d E h2;have X:=zl d E h3;have R:=zl d E h4;have r:b<wr.heap.size:=by omega
    have HM:=Q5 (zs K);clear h0 h1 h2 h3 h4;generalize l[k]=x at *;obtain⟨O,rfl⟩:∃O,O=wr:=⟨wr,rfl⟩;obtain⟨I,M,an⟩:∃I:Bool,Hid (I=true->dC m x.kind)/\Hid (∀W:World,Calls prog 29 #[ι x.kind] W fun e s=>e=ε (.bool I)/\s=W):=⟨_,(fun h=>by simp at h;unfold dC;rcases h with h|h<;>simp[h]),fun W=>OL W x.kind⟩;obtain⟨F,J,ac⟩:∃F:Bool,Hid (F=true->dC m x.kind)/\Hid (∀W:World,Calls prog 30 #[ι x.kind] W fun e s=>e=ε (.bool F)/\s=W):=⟨_,(fun h=>by simp at h;unfold dC;omega),fun W=>J4 W x.kind⟩;have ad:Hid ((I||F)=true->dC m x.kind):=fun h=>by
     rcases Bool.or_eq_true_iff.1 h with h|h
     ·exact M.out h
     ·exact J.out h
    clear M J;cases I<;>cases F
    all_goals
     go_wp2_with (first|(go_at_call 29;refine(an.out _).mono ?_;rintro e s ⟨rfl,f⟩;obtain rfl:=f.symm)|(go_at_call 30;refine(ac.out _).mono ?_;rintro e s ⟨rfl,f⟩;obtain rfl:=f.symm))
     go_loopw [11,13] (fun al ag wj=>∃(j:Nat) (G:Bool),j<=m.length/\ag=ι j/\al=.bool G/\μ O wj/\Hid (G=true->dC m x.kind)) (fun _ i _=>m.length-(intOf i).toNat)
     case atStart=>exact⟨0,_,zv _,rfl,rfl,zo _ _,ad⟩
     case round=>
      obtain⟨j,G,hj,rfl,rfl,a,V⟩:=hrel;have p:=Q9 d a;have ar:=a.size;by_cases D:j<m.length
      ·obtain⟨gk,rfl,T,H⟩:=N.cell j D;have a7:=zl p T H;have a6:gk<wr.heap.size:=by have:=p.size;omega
       have aa:=Q5 (zs D);clear H;generalize m[j]=q at *;cases G with
       |true=>
        go_wp2;go_roundw
        case rel=>exact⟨j+1,true,by omega,by go_num,rfl,(by repeat'(first|with_reducible(first|apply zR|assumption|apply zN|apply zA|apply zD|apply zS)|go_size)),V⟩
        case measure=>simp[intOf];omega
       |false=>
        cases hq:(x.kind == q) with
        |true=>
         have ab:Hid (dC m x.kind):=by have h':=eq_of_beq hq;subst h';exact zb (zb (zb aa.out))
         go_wp2;go_roundw
         case rel=>exact⟨j+1,true,by omega,by go_num,rfl,(by repeat'(first|with_reducible(first|apply zR|assumption|apply zN|apply zA|apply zD|apply zS)|go_size)),fun _=>ab.out⟩
         case measure=>simp[intOf];omega
        |false=>
         go_wp2;go_roundw
         case rel=>exact⟨j+1,false,by omega,by go_num,rfl,(by repeat'(first|with_reducible(first|apply zR|assumption|apply zN|apply zA|apply zD|apply zS)|go_size)),fun h=>by cases h⟩
         case measure=>simp[intOf];omega
      ·cases G with
       |true=>
        have aq:=zl a r am;have a0:=zl a r ai;have au:=zl a r aj;have aw:=zl a r X;have a1:=zl a r R;have ax:b<wr.heap.size:=by omega
        have z:=zB g a;have S:Hid (∀y∈c++[x],y∈l/\dC m y.kind):=fun y B=>by
         rcases zI.1 B with B|B
         ·exact C.out y B
         ·simp at B;subst B;exact⟨HM.out,V.out rfl⟩
        clear V C;go_wp2_with (at_builtin;refine ks _ _ [ι x.kind,ι x.a,ι x.b,ι x.c,.string x.s] _ rfl (.tmp 54) (.tmp 59) 22 rfl w.heap.size 67 i0 _ 5 48 underlying22 hi Y ap Z rfl (by decide) _ _ _ rfl z (zo _ _) _ _ rfl (by simp) rfl (by simp[Value.oneCell']) (by omega) (by omega) p.size ?_;intro v' w2 U ae P ah aA ay;clear P ah)
        go_roundw
        case rel=>exact⟨k+1,c++[x],by omega,by go_num,(by simp;omega),p.trans ae,(by rw[Oo];simpa using U),S⟩
        case measure=>simp[intOf];omega
       |false=>
        go_wp2;go_roundw
        case rel=>exact⟨k+1,c,by omega,by go_num,by omega,p,zB g a,C⟩
        case measure=>simp[intOf];omega
   ·have av:k=l.length:=by omega
    go_wp2_with (go_at_call 31;refine(ak.out _ _ c (Sg.own g (by omega) (fun x A=>by have:=HF.out x (C.out x A).1;omega)) C.out (by omega) (fun x A=>HF.out x (C.out x A).1)).mono ?_;rintro e s ⟨rfl,Q⟩)
    go_ret;exact⟨rfl,Q9 d Q⟩
end Go.Proofs.YteampbddflhngaaGreat
