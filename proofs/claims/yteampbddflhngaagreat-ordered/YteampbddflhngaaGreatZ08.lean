import Derived.Test.YteampbddflhngaaGreatRows
import Derived.ProofKit
import Derived.ChangeSlices
import Derived.Deep.Slices
import Derived.Deep.Strs
import Derived.SizedLaws
import Derived.Test.YteampbddflhngaaGreatZ03
namespace Go.Proofs.YteampbddflhngaaGreat
set_option linter.all false
set_option maxRecDepth 100000
set_option maxHeartbeats 4000000
open Go.Proofs.Tryz Go.RowKit
structure R9 where
 kind:Int
 a:Int
 b:Int
 c:Int
 s:ByteArray
structure Si (w:World) (v:Value) (l:List R9):Prop where
 qx:∃ao cap,v=.slice ao l.length cap
 cells:∀k (hk:k<l.length),∃b o cap,v=.slice (some ⟨b,o,none⟩) l.length cap/\b<w.heap.size/\w.cell? ⟨b,o+k*5,none⟩=some (ι l[k].kind)/\w.cell? ⟨b,o+k*5+1,none⟩=some (ι l[k].a) ∧
  w.cell? ⟨b,o+k*5+2,none⟩=some (ι l[k].b)/\w.cell? ⟨b,o+k*5+3,none⟩=some (ι l[k].c)/\w.cell? ⟨b,o+k*5+4,none⟩=some (.string l[k].s)
 len:l.length<=281474976710656
 fits:∀x∈l,x.s.size<=281474976710656
theorem Si.below{w w':World}{v:Value}{l:List R9}(h:Si w v l)(c:μ w w'):Si w' v l:=
 ⟨h.qx,fun k m=>by
  obtain⟨b,o,d,f,a,g,n,i,j,e⟩:=h.cells k m;exact⟨b,o,d,f,xP a c.size,(zl c a g),(zl c a n),(zl c a i),(zl c a j),(zl c a e)⟩,h.len,h.fits⟩
theorem Si.cell{w:World}{c:Option Addr}{n cap:Nat}{l:List R9}(h:Si w (.slice c n cap) l)(k:Nat)(e:k<l.length):∃b o,c=some ⟨b,o,none⟩/\b<w.heap.size/\w.cell? ⟨b,o+k*5,none⟩=some (ι l[k].kind)/\w.cell? ⟨b,o+k*5+1,none⟩=some (ι l[k].a) ∧
  w.cell? ⟨b,o+k*5+2,none⟩=some (ι l[k].b)/\w.cell? ⟨b,o+k*5+3,none⟩=some (ι l[k].c)/\w.cell? ⟨b,o+k*5+4,none⟩=some (.string l[k].s):=by
 obtain⟨b,o,d,a,r⟩:=h.cells k e;simp at a;exact⟨b,o,a.1,r⟩
def Rh(l:List R9):Nat:=(l.map fun x=>x.s.size).sum
theorem Js(l:List R9)(k:Nat)(a:k<l.length):Rh (l.take (k+1))=Rh (l.take k)+l[k].s.size:=by
 unfold Rh;rw[yL a,uP,List.sum_append];simp
def l9(l:List R9):Bool:=decide (l.length+Rh l<=1048576)
theorem Pw(l:List R9)(k:Nat):Rh (l.take k)<=Rh l:=by
 have:Rh l=Rh (l.take k)+Rh (l.drop k):=by unfold Rh;rw[←List.sum_append,←uP,jt]
 omega
theorem Lr(w:World)(v:Value)(l:List R9)(h:Si w v l):
  Calls prog 28 #[v] w fun e q=>e=ε (.bool (l9 l))/\q=w:=by
 obtain⟨B,p,rfl⟩:=h.qx;have r:=Q7 h.fits;by_cases f:1048576<l.length
 ·have c:Hid (l9 l=false):=by unfold Hid l9;rw[decide_eq_false_iff_not];omega
  go_enter func28,ntmps28;go_wp2;go_ret;exact⟨by rw[c.out];rfl,rfl⟩
 ·go_enter func28,ntmps28;go_wp2;go_loop [3,4] (fun m t=>∃k n:Nat,k<=l.length/\t=ι k/\m=ι n/\n<=1048576/\Hid (n=l.length+Rh (l.take k))) (fun _ i=>l.length-(intOf i).toNat)
  case atStart=>exact⟨0,l.length,zv _,rfl,rfl,by omega,by simp[Hid,Rh]⟩
  case round=>
   obtain⟨k,n,A,rfl,rfl,z,H⟩:=hrel;by_cases a:k<l.length
   ·obtain⟨b,o,rfl,y,_,_,_,_,u⟩:=h.cell k a;have j:=r.out _ (zs a);have d:Hid (n+l[k].s.size=l.length+Rh (l.take (k+1))):=by rw[Hid,Js l k a,H.out];omega
    generalize l[k]=x at *;generalize x.s=s at *;by_cases g:1048576<n+s.size
    ·have c:Hid (l9 l=false):=by unfold Hid l9;rw[decide_eq_false_iff_not];have:=d.out;have:=Pw l (k+1);omega
     go_wp2;go_ret;exact⟨by rw[c.out];rfl,rfl⟩
    ·go_wp2;go_round
     ·exact⟨k+1,n+s.size,by omega,by go_num,by go_num,by omega,d⟩
     ·simp[intOf];omega
   ·have c:Hid (l9 l=true):=by unfold Hid l9;rw[decide_eq_true_iff];have:=H.out;rw[xg (by omega)] at this;omega
    go_wp2;go_ret;exact⟨by rw[c.out];rfl,rfl⟩
theorem O4(w:World)(k:Int):
  Calls prog 29 #[ι k] w fun e a=>e=ε (.bool (k == 9||k == 17))/\a=w:=by
 go_enter func29,ntmps29;cases c:(k == 9) with
 |true=>go_wp2;go_ret;exact⟨rfl,rfl⟩
 |false=>
  cases b:(k == 17) with
  |true=>go_wp2;go_ret;exact⟨rfl,rfl⟩
  |false=>go_wp2;go_ret;exact⟨rfl,rfl⟩
theorem Qo:(prog.info? 67).map (fun i=>(i.zero,i.size,i.bytes))=some (some (.agg #[ι 0,ι 0,ι 0,ι 0,.string ByteArray.empty]),5,48):=by kernel_rfl
def dR(l:List R9):List Value:=l.flatMap fun x=>[ι x.kind,ι x.a,ι x.b,ι x.c,.string x.s]
theorem O5(l:List R9)(x:R9):dR (l++[x])=dR l++[ι x.kind,ι x.a,ι x.b,ι x.c,.string x.s]:=by simp[dR]
theorem AB:∀(l:List R9) (k:Nat) (b:k<l.length),(dR l)[k*5]?=some (ι l[k].kind)/\(dR l)[k*5+1]?=some (ι l[k].a)/\(dR l)[k*5+2]?=some (ι l[k].b)/\(dR l)[k*5+3]?=some (ι l[k].c)/\(dR l)[k*5+4]?=some (.string l[k].s)
 |[],k,b=>by simp at b
 |a::l,0,_=>by simp[dR]
 |a::l,k+1,b=>by
  have:=AB l k (by simpa using b);simp only[dR,us] at this ⊢;rw[show(k+1)*5=k*5+1+1+1+1+1 from by omega,show k*5+1+1+1+1+1+1=k*5+1+1+1+1+1+1 from rfl,show k*5+1+1+1+1+1+2=k*5+2+1+1+1+1+1 from by omega,show k*5+1+1+1+1+1+3=k*5+3+1+1+1+1+1 from by omega,show k*5+1+1+1+1+1+4=k*5+4+1+1+1+1+1 from by omega];simpa using this
theorem Si.own{w:World}{b:Nat}{v:Value}{l:List R9}(h:w.ownsRow b 67 5 v l.length (dR l))(i:l.length<=281474976710656)(o:∀x∈l,x.s.size<=281474976710656):Si w v l:=by
 refine⟨zp h,fun k p=>?_,i,o⟩;obtain⟨g,c,e,_,j,a⟩:=yx h (by omega);obtain⟨f,q,n,m,d⟩:=AB l k p;refine⟨g,0,c,e,j,?_,?_,?_,?_,?_⟩
 ·rw[vB];exact a _ _ f
 ·rw[vB];exact a _ _ q
 ·rw[vB];exact a _ _ n
 ·rw[vB];exact a _ _ m
 ·rw[vB];exact a _ _ d
theorem KB{l:List R9}{x:R9}(h:x∈l):x.s.size<=Rh l:=by
 induction l with
 |nil=>cases h
 |cons a l b=>
  simp only[Rh,xH,vT] at b ⊢;rcases zx.1 h with rfl|h
  ·omega
  ·have:=b h;omega
def SG(w:World)(v:Value)(b:List Int):Prop:=∃a,w.ownsRow a 3 1 v b.length (b.map (Value.int .i64))
theorem SG.qx{w:World}{v:Value}{l:List Int}(h:SG w v l):∃c a,v=.slice c l.length a:=by obtain⟨b,h⟩:=h;exact zp h
theorem SG.cell{w:World}{e:Option Addr}{n cap:Nat}{b:List Int}(h:SG w (.slice e n cap) b)(k:Nat)(l:k<b.length):∃g,e=some ⟨g,0,none⟩/\g<w.heap.size/\w.cell? ⟨g,k,none⟩=some (ι b[k]):=by
 obtain⟨d,j⟩:=h;obtain⟨g,f,c,_,i,a⟩:=yx j (by omega);simp at c;exact⟨g,c.1,i,a k _ (by simp[l])⟩
section
open Go.ChangeShapes Go.WideShapes Go.ChangeAt Go.Deep
theorem Qj:ownKnob prog.godebug=none:=by kernel_rfl
theorem Qt:laidOutB prog=true:=by kernel_rfl
theorem Qg:prog.cellsOf 67=5:=by kernel_rfl
theorem PX:prog.cellsOf 3=1:=by kernel_rfl
theorem Qa:prog.cellsOf 9=1:=by kernel_rfl
theorem Qh:prog.bytesOf 67=48:=by kernel_rfl
theorem RS:reachBytes=140737488351232:=rfl
def SD(x:R9):Prop:=(-9223372036854775808<=x.a/\x.a<=9223372036854775807)/\(-9223372036854775808<=x.b/\x.b<=9223372036854775807)/\(-9223372036854775808<=x.c/\x.c<=9223372036854775807)
theorem Rt{H:Type}{P:Program}{e:TypeId}:∀{l:List (DataW H)} {d:DataW H},d∈l->∀n∈d.weights P e,n∈DataW.weightsAll P e l
 |[],_,h=>by cases h
 |a::l,d,h=>by
  intro n b;simp only[DataW.weightsAll,zI];rcases zx.1 h with rfl|h
  ·exact zf b
  ·exact zb (Rt h n b)
theorem Sw{w:World}{b o:Nat}{u:Value}(h:w.cell? ⟨b,o,none⟩=some u):b<w.heap.size:=by
 unfold World.cell? at h;false_or_by_contra
 rename_i a;rw[Array.getElem?_eq_none (by simpa using a)] at h;simp at h
theorem N6{H:Type}{enc:TypeId×Value->H}{W:World}{g:Nat}{d:List Value}{x:DataW H×List MemPlace}(h:DataW.trod enc prog W 0 (fun _=>true) true g 67 d=some x):
  ∃y:R9,d=[ι y.kind,ι y.a,ι y.b,ι y.c,.string y.s]/\y.s.size∈x.1.weights prog 67/\SD y:=by
 obtain⟨C,n,_,rfl,v,f,e⟩:=DataW.trod_struct underlying67 h;rw[Qg] at v;match C,f,d,v with
 |[M,J,N,I,L],_,[F,E,K,D,G],_=>
  have o:=e 0 _ rfl;have u:=e 1 _ rfl;have t:=e 2 _ rfl;have A:=e 3 _ rfl;have z:=e 4 _ rfl;simp[PX,Qa] at o u t A z;obtain⟨k,w,_,_⟩:=DataW.trod_int underlying3 o;obtain⟨a,r,_,l⟩:=DataW.trod_int underlying3 u;obtain⟨b,q,_,i⟩:=DataW.trod_int underlying3 t;obtain⟨c,B,_,m⟩:=DataW.trod_int underlying3 A;obtain⟨s,p,j,_⟩:=DataW.trod_string underlying9 z;simp at w r q B p;refine⟨⟨k,a,b,c,s⟩,by simp[w,r,q,B,p],?_,bounds_i64 l,bounds_i64 i,bounds_i64 m⟩;simp[DataW.weights,DataW.weightsEach,underlying67,j]
theorem I6{H:Type}{enc:TypeId×Value->H}{W:World}{u:Nat}{Q:Value}{x:DataW H×List MemPlace}(S:DataW.trod enc prog W 0 (fun _=>true) true u 22 [Q]=some x)
  (t:(DataW.weightsEach prog [22] [x.1]).all (·<=reachBytes)=true):∃l,Si W Q l/\∀x∈l,SD x:=by
 rcases open_slice underlying22 S with⟨d,_⟩|⟨a,o,V,m,n,D,Pl,d,_,Z,hm,w,f,G⟩
 ·simp at d;subst d;exact⟨[],⟨⟨none,0,rfl⟩,fun k J=>by simp at J,by simp,fun x f=>by cases f⟩,fun x f=>by cases f⟩
 ·simp at d;subst d;simp only[if_true] at w;subst w;subst f;have R:=sized_slice t (j:=0) rfl rfl underlying22;rw[Qh,RS] at R;simp at R;have v:∀i,∃y:R9,i<o->(∃e,W.cells? 0 (a.add (i*5)) 5=some e/\e=[ι y.kind,ι y.a,ι y.b,ι y.c,.string y.s])/\y.s.size<=140737488351232/\SD y:=by
   intro i;by_cases s:i<o
   ·obtain⟨e,E,T⟩:=G i (by omega);rw[Qg] at E;obtain⟨y,X,O,N⟩:=N6 T;refine⟨y,fun _=>⟨⟨e,E,X⟩,?_,N⟩⟩;rw[←RS];refine of_decide_eq_true (kh.1 t _ (DataW.weights_mem_each (j:=0) rfl rfl _ ?_));simp only[DataW.weights,underlying22,zx,zI];exact zb (zf (Rt (z7.2 ⟨i,vQ.2 s,rfl⟩) _ O))
   ·exact⟨⟨0,0,0,0,ByteArray.empty⟩,fun h=>zC h s⟩
  obtain⟨Y,C⟩:=Classical.axiomOfChoice v;obtain⟨b,p,q⟩:=a;refine⟨(List.range o).map Y,⟨⟨some ⟨b,p,q⟩,m,by simp⟩,?_,by simp;omega,?_⟩,?_⟩
  ·intro k J;have K:k<o:=by simpa using J
   obtain⟨⟨e,E,d⟩,_⟩:=C k K;obtain⟨_,_,c⟩:=World.cells?_some E;have B:=c 0 (by omega);have P:=c 1 (by omega);have I:=c 2 (by omega);have F:=c 3 (by omega);have M:=c 4 (by omega);subst d;have r:q=none:=by
    obtain⟨⟨U,L,z⟩,_⟩:=C 0 (by omega);obtain⟨_,_,g⟩:=World.cells?_some L;subst z;have:=g 0 (by omega);simpa [Addr.add] using World.cell?_spot this
   subst r;have A:∀j,(Addr.add ⟨b,p,none⟩ (k*5)).add j=⟨b,p+k*5+j,none⟩:=by
    intro j;unfold Addr.add;split<;>split<;>simp_all
   simp only[A] at B P I F M;simp at B P I F M;simp only[uJ,mI];exact⟨b,p,m,by simp,Sw B,B,P,I,F,M⟩
  ·intro x f;obtain⟨i,s,rfl⟩:=z7.1 f;have:=(C i (vQ.1 s)).2.1;omega
  ·intro x f;obtain⟨i,s,rfl⟩:=z7.1 f;exact(C i (vQ.1 s)).2.2
end
theorem Ix(w:World)(wb:Nat)(c0 d k c g n f l m h b a:Value)(j:Q8 w wb #[c0,d,k,c,g,n,f,l,m,h,b,a,ν,ν] 35):
  Calls prog 39 #[(π wb)] w fun e o=>e=ε (.bool true)/\o=w:=by
 obtain⟨q,r,p⟩:=j.boxed;go_enter func39,ntmps39;go_wp2;go_loop [3] (fun i=>i=ι 0) (fun _=>0)
 case atStart=>rfl
 case round=>
  subst hrel;go_wp2;go_loop [5] (fun i=>i=ι 0) (fun _=>0)
  case atStart=>rfl
  case round=>
   subst hrel;go_wp2;go_ret;exact⟨rfl,rfl⟩
def gT(a:List Int)(k:Int):Prop:=(2<=k/\k<=6)∨k=9∨k=17∨k∈a
def A6(l:List R9)(d:List Int):Prop:=∀W b a,Si W b a->(∀x∈a,x∈l/\gT d x.kind)->a.length<=1048576->(∀x∈a,x.s.size<=1048576)->Calls prog 31 #[b] W fun e c=>e=ε (ι (-1))/\μ W c
theorem JY(w:World)(k:Int):
  Calls prog 30 #[ι k] w fun e a=>e=ε (.bool (k == 2||k == 3||k == 4||k == 5||k == 6))/\a=w:=by
 go_enter func30,ntmps30;cases f:(k == 2) with
 |true=>go_wp2;go_ret;exact⟨rfl,rfl⟩
 |false=>
  cases g:(k == 3) with
  |true=>go_wp2;go_ret;exact⟨rfl,rfl⟩
  |false=>
   cases b:(k == 4) with
   |true=>go_wp2;go_ret;exact⟨rfl,rfl⟩
   |false=>
    cases c:(k == 5) with
    |true=>go_wp2;go_ret;exact⟨rfl,rfl⟩
    |false=>
     cases d:(k == 6) with
     |true=>go_wp2;go_ret;exact⟨rfl,rfl⟩
     |false=>go_wp2;go_ret;exact⟨rfl,rfl⟩
theorem MN(w:World)(v:Value)(l:List R9)(h:Si w v l)(kv:Value)(g:List Int)(L:SG w kv g)(aA:g.length<=20)(M:A6 l g):
  Calls prog 15 #[v,.bool true,kv] w fun e s=>e=ε (.bool true)/\μ w s:=by
 obtain⟨i0,hi,R,ab,aj⟩:=info_parts Qo;obtain⟨ao,a8,rfl⟩:=h.qx;obtain⟨aB,av,rfl⟩:=L.qx;have ae:=Q7 M;have n:=Q7 (Lr w _ l h);have u:l9 l=decide (l.length+Rh l<=1048576):=rfl;clear M;cases t:l9 l with
 |false=>
  rw[t] at n;clear u t;go_enter func15,ntmps15;go_wp2_with (go_at_call 28;refine n.out.mono ?_;rintro e s ⟨rfl,f⟩;obtain rfl:=f.symm;clear n)
  go_ret;exact⟨rfl,zo _ _⟩
 |true=>
  rw[t] at n u;have Y:=of_decide_eq_true u.symm;have HF:Hid (∀x∈l,x.s.size<=1048576):=fun x z=>by have:=KB z;omega
  have a7:l.length<=1048576:=by omega
  clear u t Y;go_enter func15,ntmps15;go_wp2_with (go_at_call 28;refine n.out.mono ?_;rintro e s ⟨rfl,f⟩;obtain rfl:=f.symm;clear n)
  go_loopw [8,9] (fun v8 v9 wr=>∃(k:Nat) (c:List R9),k<=l.length/\v9=ι k/\c.length<=k/\μ w wr/\wr.ownsRow w.heap.size 67 5 v8 c.length (dR c)/\Hid (∀x∈c,x∈l/\gT g x.kind)) (fun _ i _=>l.length-(intOf i).toNat)
  case atStart=>exact⟨0,[],zv _,rfl,zg _,zo _ _,yD _ _ _ _,fun x z=>by cases z⟩
  case round=>
   obtain⟨k,c,hk,rfl,aC,d,m,C⟩:=hrel;obtain⟨a9,a2,rfl⟩:=zp m;have a3:=d.size;by_cases N:k<l.length
   ·obtain⟨b,o,rfl,E,h0,h1,h2,h3,h4⟩:=h.cell k N;have ai:=zl d E h0;have V:=zl d E h1;have ah:=zl d E h2;have Z:=zl d E h3;have ak:=zl d E h4;have r:b<wr.heap.size:=by omega
    have HM:=Q7 (zs N);clear h0 h1 h2 h3 h4;generalize l[k]=x at *;obtain⟨O,rfl⟩:∃O,O=wr:=⟨wr,rfl⟩;obtain⟨J,F,T⟩:∃J:Bool,Hid (J=true->gT g x.kind)/\Hid (∀W:World,Calls prog 29 #[ι x.kind] W fun e s=>e=ε (.bool J)/\s=W):=⟨_,(fun h=>by simp at h;unfold gT;rcases h with h|h<;>simp[h]),fun W=>O4 W x.kind⟩;obtain⟨I,H,ap⟩:∃I:Bool,Hid (I=true->gT g x.kind)/\Hid (∀W:World,Calls prog 30 #[ι x.kind] W fun e s=>e=ε (.bool I)/\s=W):=⟨_,(fun h=>by simp at h;unfold gT;omega),fun W=>JY W x.kind⟩;have ag:Hid ((J||I)=true->gT g x.kind):=fun h=>by
     rcases Bool.or_eq_true_iff.1 h with h|h
     ·exact F.out h
     ·exact H.out h
    clear F H;cases J<;>cases I
    all_goals
     go_wp2_with (first|(go_at_call 29;refine(T.out _).mono ?_;rintro e s ⟨rfl,f⟩;obtain rfl:=f.symm)|(go_at_call 30;refine(ap.out _).mono ?_;rintro e s ⟨rfl,f⟩;obtain rfl:=f.symm))
     go_loopw [11,13] (fun ac an wj=>∃(j:Nat) (D:Bool),j<=g.length/\an=ι j/\ac=.bool D/\μ O wj/\Hid (D=true->gT g x.kind)) (fun _ i _=>g.length-(intOf i).toNat)
     case atStart=>exact⟨0,_,zv _,rfl,rfl,zo _ _,ag⟩
     case round=>
      obtain⟨j,D,hj,rfl,rfl,a,U⟩:=hrel;have p:=QB d a;have a1:=a.size;by_cases G:j<g.length
      ·obtain⟨gk,rfl,am,K⟩:=L.cell j G;have a6:=zl p am K;have a4:gk<wr.heap.size:=by have:=p.size;omega
       have S:=Q7 (zs G);clear K;generalize g[j]=q at *;cases D with
       |true=>
        go_wp2;go_roundw
        ·exact⟨j+1,true,by omega,by go_num,rfl,(by repeat'(first|with_reducible(first|apply zR|assumption|apply zN|apply zA|apply zD|apply zS)|go_size)),U⟩
        ·simp[intOf];omega
       |false=>
        cases hq:(x.kind == q) with
        |true=>
         have ad:Hid (gT g x.kind):=by have h':=eq_of_beq hq;subst h';exact zb (zb (zb S.out))
         go_wp2;go_roundw
         ·exact⟨j+1,true,by omega,by go_num,rfl,(by repeat'(first|with_reducible(first|apply zR|assumption|apply zN|apply zA|apply zD|apply zS)|go_size)),fun _=>ad.out⟩
         ·simp[intOf];omega
        |false=>
         go_wp2;go_roundw
         ·exact⟨j+1,false,by omega,by go_num,rfl,(by repeat'(first|with_reducible(first|apply zR|assumption|apply zN|apply zA|apply zD|apply zS)|go_size)),fun h=>by cases h⟩
         ·simp[intOf];omega
      ·cases D with
       |true=>
        have a0:=zl a r ai;have az:=zl a r V;have ar:=zl a r ah;have aq:=zl a r Z;have ax:=zl a r ak;have ay:b<wr.heap.size:=by omega
        have A:=zB m a;have X:Hid (∀y∈c++[x],y∈l/\gT g y.kind):=fun y B=>by
         rcases zI.1 B with B|B
         ·exact C.out y B
         ·simp at B;subst B;exact⟨HM.out,U.out rfl⟩
        clear U C;go_wp2_with (at_builtin;refine ki _ _ [ι x.kind,ι x.a,ι x.b,ι x.c,.string x.s] _ rfl (.tmp 54) (.tmp 59) 22 rfl w.heap.size 67 i0 _ 5 48 underlying22 hi R ab aj rfl (by decide) _ _ _ rfl A (zo _ _) _ _ rfl (by simp) rfl (by simp[Value.oneCell']) (by omega) (by omega) p.size ?_;intro v' w2 aa P af Q a5 aw;clear af Q)
        go_roundw
        ·exact⟨k+1,c++[x],by omega,by go_num,(by simp;omega),p.trans P,(by rw[O5];simpa using aa),X⟩
        ·simp[intOf];omega
       |false=>
        go_wp2;go_roundw
        ·exact⟨k+1,c,by omega,by go_num,by omega,p,zB m a,C⟩
        ·simp[intOf];omega
   ·have au:k=l.length:=by omega
    go_wp2_with (go_at_call 31;refine(ae.out _ _ c (Si.own m (by omega) (fun x z=>by have:=HF.out x (C.out x z).1;omega)) C.out (by omega) (fun x z=>HF.out x (C.out x z).1)).mono ?_;rintro e s ⟨rfl,al⟩)
    go_ret;exact⟨rfl,QB d al⟩
end Go.Proofs.YteampbddflhngaaGreat
