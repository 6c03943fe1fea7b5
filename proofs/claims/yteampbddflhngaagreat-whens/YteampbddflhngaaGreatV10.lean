import Derived.Test.YteampbddflhngaaGreatRows
import Derived.ProofKit
import Derived.ChangeSlices
import Derived.Deep.Slices
import Derived.Deep.Strs
import Derived.SizedLaws
import Derived.Test.YteampbddflhngaaGreatV05
namespace Go.Proofs.YteampbddflhngaaGreat
set_option maxRecDepth 100000
set_option maxHeartbeats 4000000
open Go.Proofs.Tryz Go.RowKit
structure PZ where
 kind:Int
 a:Int
 b:Int
 c:Int
 s:ByteArray
structure Q2 (w:World) (v:Value) (l:List PZ):Prop where
 qw:∃ao cap,v=.slice ao l.length cap
 cells:∀k (hk:k<l.length),∃b o cap,v=.slice (some ⟨b,o,none⟩) l.length cap/\b<w.heap.size/\w.cell? ⟨b,o+k*5,none⟩=some (.int .i64 l[k].kind)/\w.cell? ⟨b,o+k*5+1,none⟩=some (.int .i64 l[k].a) ∧
  w.cell? ⟨b,o+k*5+2,none⟩=some (.int .i64 l[k].b)/\w.cell? ⟨b,o+k*5+3,none⟩=some (.int .i64 l[k].c)/\w.cell? ⟨b,o+k*5+4,none⟩=some (.string l[k].s)
 len:l.length<=281474976710656
 fits:∀x∈l,x.s.size<=281474976710656
theorem Q2.below{w e:World}{v:Value}{l:List PZ}(h:Q2 w v l)(c:Below w.heap.size w e):Q2 e v l:=
 ⟨h.qw,fun k n=>by
  obtain⟨b,o,d,f,a,j,m,i,p,g⟩:=h.cells k n;exact⟨b,o,d,f,xo a c.size,(zl c a j),(zl c a m),(zl c a i),(zl c a p),(zl c a g)⟩,h.len,h.fits⟩
theorem Q2.cell{w:World}{d:Option Addr}{n cap:Nat}{l:List PZ}(h:Q2 w (.slice d n cap) l)(k:Nat)(e:k<l.length):∃b o,d=some ⟨b,o,none⟩/\b<w.heap.size/\w.cell? ⟨b,o+k*5,none⟩=some (.int .i64 l[k].kind)/\w.cell? ⟨b,o+k*5+1,none⟩=some (.int .i64 l[k].a) ∧
  w.cell? ⟨b,o+k*5+2,none⟩=some (.int .i64 l[k].b)/\w.cell? ⟨b,o+k*5+3,none⟩=some (.int .i64 l[k].c)/\w.cell? ⟨b,o+k*5+4,none⟩=some (.string l[k].s):=by
 obtain⟨b,o,c,a,r⟩:=h.cells k e;simp at a;exact⟨b,o,a.1,r⟩
def PC(l:List PZ):Nat:=(l.map fun x=>x.s.size).sum
theorem GL(l:List PZ)(k:Nat)(a:k<l.length):PC (l.take (k+1))=PC (l.take k)+l[k].s.size:=by
 unfold PC;rw[yM a,vB,List.sum_append];simp
def hU(l:List PZ):Bool:=decide (l.length+PC l<=1048576)
theorem Fb(l:List PZ)(k:Nat):PC (l.take k)<=PC l:=by
 have:PC l=PC (l.take k)+PC (l.drop k):=by unfold PC;rw[←List.sum_append,←vB,qO]
 omega
theorem FG(w:World)(v:Value)(l:List PZ)(h:Q2 w v l):
  Calls prog 28 #[v] w fun e t=>e=.returned (.bool (hU l))/\t=w:=by
 obtain⟨z,r,rfl⟩:=h.qw;have q:=OY h.fits;by_cases f:1048576<l.length
 ·have c:Hid (hU l=false):=by unfold Hid hU;rw[decide_eq_false_iff_not];omega
  go_enter func28,ntmps28;go_wp2;go_ret;exact⟨by rw[c.out];rfl,rfl⟩
 ·go_enter func28,ntmps28;go_wp2;go_loop [3,4] (fun g m=>∃k n:Nat,k<=l.length/\m=.int .i64 k/\g=.int .i64 n/\n<=1048576/\Hid (n=l.length+PC (l.take k))) (fun _ i=>l.length-(intOf i).toNat)
  case atStart=>exact⟨0,l.length,zv _,rfl,rfl,by omega,by simp[Hid,PC]⟩
  case round=>
   obtain⟨k,n,B,rfl,rfl,u,H⟩:=hrel;by_cases a:k<l.length
   ·obtain⟨b,o,rfl,y,_,_,_,_,A⟩:=h.cell k a;have p:=q.out _ (zu a);have d:Hid (n+l[k].s.size=l.length+PC (l.take (k+1))):=by rw[Hid,GL l k a,H.out];omega
    generalize l[k]=x at *;generalize x.s=s at *;by_cases j:1048576<n+s.size
    ·have c:Hid (hU l=false):=by unfold Hid hU;rw[decide_eq_false_iff_not];have:=d.out;have:=Fb l (k+1);omega
     go_wp2;go_ret;exact⟨by rw[c.out];rfl,rfl⟩
    ·go_wp2;go_round
     case rel=>exact⟨k+1,n+s.size,by omega,by go_num,by go_num,by omega,d⟩
     case measure=>simp[intOf];omega
   ·have c:Hid (hU l=true):=by unfold Hid hU;rw[decide_eq_true_iff];have:=H.out;rw[xk (by omega)] at this;omega
    go_wp2;go_ret;exact⟨by rw[c.out];rfl,rfl⟩
theorem NK(w:World)(k:Int):
  Calls prog 29 #[.int .i64 k] w fun e b=>e=.returned (.bool (k == 9||k == 17))/\b=w:=by
 go_enter func29,ntmps29;cases c:(k == 9) with
 |true=>go_wp2;go_ret;exact⟨rfl,rfl⟩
 |false=>
  cases a:(k == 17) with
  |true=>go_wp2;go_ret;exact⟨rfl,rfl⟩
  |false=>go_wp2;go_ret;exact⟨rfl,rfl⟩
theorem O6:(prog.info? 67).map (fun i=>(i.zero,i.size,i.bytes))=some (some (.agg #[.int .i64 0,.int .i64 0,.int .i64 0,.int .i64 0,.string ByteArray.empty]),5,48):=by kernel_rfl
def gS(l:List PZ):List Value:=l.flatMap fun x=>[.int .i64 x.kind,.int .i64 x.a,.int .i64 x.b,.int .i64 x.c,.string x.s]
theorem N9(l:List PZ)(x:PZ):gS (l++[x])=gS l++[.int .i64 x.kind,.int .i64 x.a,.int .i64 x.b,.int .i64 x.c,.string x.s]:=by simp[gS]
theorem CA:∀(l:List PZ) (k:Nat) (b:k<l.length),(gS l)[k*5]?=some (.int .i64 l[k].kind)/\(gS l)[k*5+1]?=some (.int .i64 l[k].a)/\(gS l)[k*5+2]?=some (.int .i64 l[k].b)/\(gS l)[k*5+3]?=some (.int .i64 l[k].c)/\(gS l)[k*5+4]?=some (.string l[k].s)
 |[],k,b=>by simp at b
 |a::l,0,_=>by simp[gS]
 |a::l,k+1,b=>by
  have:=CA l k (by simpa using b);simp only[gS,us] at this ⊢;rw[show(k+1)*5=k*5+1+1+1+1+1 from by omega,show k*5+1+1+1+1+1+1=k*5+1+1+1+1+1+1 from rfl,show k*5+1+1+1+1+1+2=k*5+2+1+1+1+1+1 from by omega,show k*5+1+1+1+1+1+3=k*5+3+1+1+1+1+1 from by omega,show k*5+1+1+1+1+1+4=k*5+4+1+1+1+1+1 from by omega];simpa using this
theorem Q2.own{w:World}{a:Nat}{v:Value}{l:List PZ}(h:w.ownsRow a 67 5 v l.length (gS l))(n:l.length<=281474976710656)(q:∀x∈l,x.s.size<=281474976710656):Q2 w v l:=by
 refine⟨zq h,fun k o=>?_,n,q⟩;obtain⟨g,c,d,_,m,b⟩:=y7 h (by omega);obtain⟨i,j,f,p,e⟩:=CA l k o;refine⟨g,0,c,d,m,?_,?_,?_,?_,?_⟩
 ·rw[uL];exact b _ _ i
 ·rw[uL];exact b _ _ j
 ·rw[uL];exact b _ _ f
 ·rw[uL];exact b _ _ p
 ·rw[uL];exact b _ _ e
theorem Lr{l:List PZ}{x:PZ}(h:x∈l):x.s.size<=PC l:=by
 induction l with
 |nil=>cases h
 |cons a l b=>
  simp only[PC,jx,mW] at b ⊢;rcases zw.1 h with rfl|h
  ·omega
  ·have:=b h;omega
def QZ(w:World)(v:Value)(b:List Int):Prop:=∃a,w.ownsRow a 3 1 v b.length (b.map (Value.int .i64))
theorem QZ.qw{w:World}{v:Value}{l:List Int}(h:QZ w v l):∃c a,v=.slice c l.length a:=by obtain⟨b,h⟩:=h;exact zq h
theorem QZ.cell{w:World}{f:Option Addr}{n cap:Nat}{a:List Int}(h:QZ w (.slice f n cap) a)(k:Nat)(l:k<a.length):∃g,f=some ⟨g,0,none⟩/\g<w.heap.size/\w.cell? ⟨g,k,none⟩=some (.int .i64 a[k]):=by
 obtain⟨e,i⟩:=h;obtain⟨g,d,c,_,j,b⟩:=y7 i (by omega);simp at c;exact⟨g,c.1,j,b k _ (by simp[l])⟩
def Qu(a:List Int)(k:Int):Prop:=k=9∨k=17∨k∈a
def DH(l:List PZ)(c:List Int):Prop:=∀W b a,Q2 W b a->(∀x∈a,x∈l/\Qu c x.kind)->a.length<=1048576->(∀x∈a,x.s.size<=1048576)->Calls prog 31 #[b] W fun e d=>e=.returned (.int .i64 (-1))/\Below W.heap.size W d
theorem LC(w:World)(v:Value)(l:List PZ)(h:Q2 w v l)(kv:Value)(p:List Int)(E:QZ w kv p)(az:p.length<=20)(F:DH l p):
  Calls prog 15 #[v,.bool false,kv] w fun e D=>e=.returned (.bool true)/\Below w.heap.size w D:=by
 obtain⟨i0,hi,W,V,ac⟩:=info_parts O6;obtain⟨ao,a3,rfl⟩:=h.qw;obtain⟨a2,an,rfl⟩:=E.qw;have P:=OY F;have g:=OY (FG w _ l h);have s:hU l=decide (l.length+PC l<=1048576):=rfl;clear F;cases t:hU l with
 |false=>
  rw[t] at g;clear s t;go_enter func15,ntmps15;go_wp2_with (first|(go_at_call 28;refine g.out.mono ?_;rintro e D ⟨rfl,n⟩;obtain rfl:=n.symm;clear g))
  go_ret;exact⟨rfl,zo _ _⟩
 |true=>
  rw[t] at g s;have O:=of_decide_eq_true s.symm;have HF:Hid (∀x∈l,x.s.size<=1048576):=fun x z=>by have:=Lr z;omega
  have a4:l.length<=1048576:=by omega
  clear s t O;go_enter func15,ntmps15;go_wp2_with (first|(go_at_call 28;refine g.out.mono ?_;rintro e D ⟨rfl,n⟩;obtain rfl:=n.symm;clear g))
  go_loopw [8,9] (fun v8 v9 wr=>∃(k:Nat) (c:List PZ),k<=l.length/\v9=.int .i64 k/\c.length<=k/\Below w.heap.size w wr/\wr.ownsRow w.heap.size 67 5 v8 c.length (gS c)/\Hid (∀x∈c,x∈l/\Qu p x.kind)) (fun _ i _=>l.length-(intOf i).toNat)
  case atStart=>exact⟨0,[],zv _,rfl,zh _,zo _ _,yK _ _ _ _,fun x z=>by cases z⟩
  case round=>
   obtain⟨k,c,hk,rfl,aw,d,f,B⟩:=hrel;obtain⟨ax,am,rfl⟩:=zq f;have ai:=d.size;by_cases I:k<l.length
   ·obtain⟨b,o,rfl,H,h0,h1,h2,h3,h4⟩:=h.cell k I;have M:=zl d H h0;have U:=zl d H h1;have ab:=zl d H h2;have L:=zl d H h3;have Y:=zl d H h4;have m:b<wr.heap.size:=by omega
    have HM:=OY (zu I);clear h0 h1 h2 h3 h4;generalize l[k]=x at *;obtain⟨K,rfl⟩:∃K,K=wr:=⟨wr,rfl⟩;go_wp2_with (first|(go_at_call 29;refine(NK _ _).mono ?_;rintro e D ⟨rfl,n⟩;obtain rfl:=n.symm))
    go_loopw [11,13] (fun T Z wj=>∃(j:Nat) (C:Bool),j<=p.length/\Z=.int .i64 j/\T=.bool C/\Below K.heap.size K wj/\Hid (C=true->Qu p x.kind)) (fun _ i _=>p.length-(intOf i).toNat)
    case atStart=>exact⟨0,_,zv _,rfl,rfl,zo _ _,(by intro h;simp at h;unfold Qu;rcases h with h|h<;>simp[h])⟩
    case round=>
     obtain⟨j,C,hj,rfl,rfl,a,R⟩:=hrel;have r:=Pc d a;have ar:=a.size;by_cases J:j<p.length
     ·obtain⟨gk,rfl,af,G⟩:=E.cell j J;have a0:=zl r af G;have ay:gk<wr.heap.size:=by have:=r.size;omega
      have aa:=OY (zu J);clear G;generalize p[j]=q at *;cases C with
      |true=>
       go_wp2;go_roundw
       case rel=>exact⟨j+1,true,by omega,by go_num,rfl,(by go_grown),R⟩
       case measure=>simp[intOf];omega
      |false=>
       cases hq:(x.kind == q) with
       |true=>
        have ag:Hid (Qu p x.kind):=by have h':=eq_of_beq hq;subst h';exact ze (ze aa.out)
        go_wp2;go_roundw
        case rel=>exact⟨j+1,true,by omega,by go_num,rfl,(by go_grown),fun _=>ag.out⟩
        case measure=>simp[intOf];omega
       |false=>
        go_wp2;go_roundw
        case rel=>exact⟨j+1,false,by omega,by go_num,rfl,(by go_grown),fun h=>by cases h⟩
        case measure=>simp[intOf];omega
     ·cases C with
      |true=>
       have ap:=zl a m M;have aq:=zl a m U;have ak:=zl a m ab;have au:=zl a m L;have av:=zl a m Y;have ah:b<wr.heap.size:=by omega
       have u:=zE f a;have Q:Hid (∀y∈c++[x],y∈l/\Qu p y.kind):=fun y A=>by
        rcases zW.1 A with A|A
        ·exact B.out y A
        ·simp at A;subst A;exact⟨HM.out,R.out rfl⟩
       clear R B;go_wp2_with (first|(at_builtin;refine jY _ _ [.int .i64 x.kind,.int .i64 x.a,.int .i64 x.b,.int .i64 x.c,.string x.s] _ rfl (.tmp 54) (.tmp 59) 22 rfl w.heap.size 67 i0 _ 5 48 underlying22 hi W V ac rfl (by decide) _ _ _ rfl u (zo _ _) _ _ rfl (by simp) rfl (by simp[Value.oneCell']) (by omega) (by omega) r.size ?_;intro v' w2 X ae N ad a1 al;clear N ad))
       go_roundw
       case rel=>exact⟨k+1,c++[x],by omega,by go_num,(by simp;omega),r.trans ae,(by rw[N9];simpa using X),Q⟩
       case measure=>simp[intOf];omega
      |false=>
       go_wp2;go_roundw
       case rel=>exact⟨k+1,c,by omega,by go_num,by omega,r,zE f a,B⟩
       case measure=>simp[intOf];omega
   ·have aj:k=l.length:=by omega
    go_wp2_with (first|(go_at_call 31;refine(P.out _ _ c (Q2.own f (by omega) (fun x z=>by have:=HF.out x (B.out x z).1;omega)) B.out (by omega) (fun x z=>HF.out x (B.out x z).1)).mono ?_;rintro e D ⟨rfl,S⟩))
    go_ret;exact⟨rfl,Pc d S⟩
section
open Go.ChangeShapes Go.WideShapes Go.ChangeAt Go.Deep
theorem OG:ownKnob prog.godebug=none:=by kernel_rfl
theorem OS:laidOutB prog=true:=by kernel_rfl
theorem Oy:prog.cellsOf 67=5:=by kernel_rfl
theorem OD:prog.cellsOf 3=1:=by kernel_rfl
theorem Ow:prog.cellsOf 9=1:=by kernel_rfl
theorem OQ:prog.bytesOf 67=48:=by kernel_rfl
theorem Qp:reachBytes=140737488351232:=rfl
def QW(x:PZ):Prop:=(-9223372036854775808<=x.a/\x.a<=9223372036854775807)/\(-9223372036854775808<=x.b/\x.b<=9223372036854775807)/\(-9223372036854775808<=x.c/\x.c<=9223372036854775807)
theorem PN{H:Type}{P:Program}{e:TypeId}:∀{l:List (DataW H)} {d:DataW H},d∈l->∀n∈d.weights P e,n∈DataW.weightsAll P e l
 |[],_,h=>by cases h
 |a::l,d,h=>by
  intro n b;simp only[DataW.weightsAll,zW];rcases zw.1 h with rfl|h
  ·exact zf b
  ·exact ze (PN h n b)
theorem QG{w:World}{b o:Nat}{u:Value}(h:w.cell? ⟨b,o,none⟩=some u):b<w.heap.size:=by
 unfold World.cell? at h;false_or_by_contra
 rename_i a;rw[Array.getElem?_eq_none (by simpa using a)] at h;simp at h
theorem Gj{H:Type}{enc:TypeId×Value->H}{W:World}{g:Nat}{d:List Value}{x:DataW H×List MemPlace}(h:DataW.trod enc prog W 0 (fun _=>true) true g 67 d=some x):
  ∃y:PZ,d=[.int .i64 y.kind,.int .i64 y.a,.int .i64 y.b,.int .i64 y.c,.string y.s]/\y.s.size∈x.1.weights prog 67/\QW y:=by
 obtain⟨C,n,_,rfl,w,e,f⟩:=DataW.trod_struct underlying67 h;rw[Oy] at w;match C,e,d,w with
 |[I,J,M,L,N],_,[G,F,K,E,D],_=>
  have o:=f 0 _ rfl;have r:=f 1 _ rfl;have p:=f 2 _ rfl;have t:=f 3 _ rfl;have A:=f 4 _ rfl;simp[OD,Ow] at o r p t A;obtain⟨k,z,_,_⟩:=DataW.trod_int underlying3 o;obtain⟨a,u,_,l⟩:=DataW.trod_int underlying3 r;obtain⟨b,B,_,m⟩:=DataW.trod_int underlying3 p;obtain⟨c,q,_,j⟩:=DataW.trod_int underlying3 t;obtain⟨s,v,i,_⟩:=DataW.trod_string underlying9 A;simp at z u B q v;refine⟨⟨k,a,b,c,s⟩,by simp[z,u,B,q,v],?_,bounds_i64 l,bounds_i64 m,bounds_i64 j⟩;simp[DataW.weights,DataW.weightsEach,underlying67,i]
theorem Fe{H:Type}{enc:TypeId×Value->H}{W:World}{w:Nat}{R:Value}{x:DataW H×List MemPlace}(X:DataW.trod enc prog W 0 (fun _=>true) true w 22 [R]=some x)
  (z:(DataW.weightsEach prog [22] [x.1]).all (·<=reachBytes)=true):∃l,Q2 W R l/\∀x∈l,QW x:=by
 rcases open_slice underlying22 X with⟨d,_⟩|⟨a,p,U,m,n,D,Z,d,_,hl,hm,u,f,K⟩
 ·simp at d;subst d;exact⟨[],⟨⟨none,0,rfl⟩,fun k I=>by simp at I,by simp,fun x f=>by cases f⟩,fun x f=>by cases f⟩
 ·simp at d;subst d;simp only[if_true] at u;subst u;subst f;have Q:=sized_slice z (j:=0) rfl rfl underlying22;rw[OQ,Qp] at Q;simp at Q;have v:∀i,∃y:PZ,i<p->(∃e,W.cells? 0 (a.add (i*5)) 5=some e/\e=[.int .i64 y.kind,.int .i64 y.a,.int .i64 y.b,.int .i64 y.c,.string y.s])/\y.s.size<=140737488351232/\QW y:=by
   intro i;by_cases s:i<p
   ·obtain⟨e,C,S⟩:=K i (by omega);rw[Oy] at C;obtain⟨y,T,P,L⟩:=Gj S;refine⟨y,fun _=>⟨⟨e,C,T⟩,?_,L⟩⟩;rw[←Qp];refine of_decide_eq_true (lq.1 z _ (DataW.weights_mem_each (j:=0) rfl rfl _ ?_));simp only[DataW.weights,underlying22,zw,zW];exact ze (zf (PN (zB.2 ⟨i,kG.2 s,rfl⟩) _ P))
   ·exact⟨⟨0,0,0,0,ByteArray.empty⟩,fun h=>zC h s⟩
  obtain⟨Y,E⟩:=Classical.axiomOfChoice v;obtain⟨b,g,q⟩:=a;refine⟨(List.range p).map Y,⟨⟨some ⟨b,g,q⟩,m,by simp⟩,?_,by simp;omega,?_⟩,?_⟩
  ·intro k I;have G:k<p:=by simpa using I
   obtain⟨⟨e,C,d⟩,_⟩:=E k G;obtain⟨_,_,c⟩:=World.cells?_some C;have B:=c 0 (by omega);have M:=c 1 (by omega);have J:=c 2 (by omega);have O:=c 3 (by omega);have F:=c 4 (by omega);subst d;have r:q=none:=by
    obtain⟨⟨V,N,A⟩,_⟩:=E 0 (by omega);obtain⟨_,_,o⟩:=World.cells?_some N;subst A;have:=o 0 (by omega);simpa [Addr.add] using World.cell?_spot this
   subst r;have t:∀j,(Addr.add ⟨b,g,none⟩ (k*5)).add j=⟨b,g+k*5+j,none⟩:=by
    intro j;unfold Addr.add;split<;>split<;>simp_all
   simp only[t] at B M J O F;simp at B M J O F;simp only[vO,nD];exact⟨b,g,m,by simp,QG B,B,M,J,O,F⟩
  ·intro x f;obtain⟨i,s,rfl⟩:=zB.1 f;have:=(E i (kG.1 s)).2.1;omega
  ·intro x f;obtain⟨i,s,rfl⟩:=zB.1 f;exact(E i (kG.1 s)).2.2
end
theorem KJ(w:World)(c:Nat)(c0 l h g p n f d o j a b:Value)(m:OZ w c #[c0,l,h,g,p,n,f,d,o,j,a,b,.slice none 0 0,.slice none 0 0] 35):
  Calls prog 39 #[.pointer (some ⟨c,0,none⟩)] w fun e q=>e=.returned (.bool true)/\q=w:=by
 obtain⟨r,s,k⟩:=m.boxed;go_enter func39,ntmps39;go_wp2;go_loop [3] (fun i=>i=.int .i64 0) (fun _=>0)
 case atStart=>rfl
 case round=>
  subst hrel;go_wp2;go_loop [5] (fun i=>i=.int .i64 0) (fun _=>0)
  case atStart=>rfl
  case round=>
   subst hrel;go_wp2;go_ret;exact⟨rfl,rfl⟩
theorem Ii(w:World)(a:Nat)(c0 m k o n j h p l d:Value)(g:OZ w a #[c0,m,.slice none 0 0,k,o,n,j,h,p,l,.slice none 0 0,d,.slice none 0 0,.slice none 0 0] 35):
  Calls prog 58 #[.pointer (some ⟨a,0,none⟩)] w fun e f=>e=.returned (.bool true)/\f=w:=by
 obtain⟨q,r⟩:=g.rules;have c:=KJ w a _ _ _ _ _ _ _ _ _ _ _ _ g;go_enter func58,ntmps58;go_wp2;go_loop [3] (fun i=>i=.int .i64 0) (fun _=>0)
 case atStart=>rfl
 case round=>
  subst hrel;go_wp2;go_loop [5] (fun i=>i=.int .i64 0) (fun _=>0)
  case atStart=>rfl
  case round=>
   subst hrel;go_wp2_with (first|(go_at_call 39;refine c.mono ?_;rintro e f ⟨rfl,b⟩;obtain rfl:=b.symm))
   go_ret;exact⟨rfl,rfl⟩
end Go.Proofs.YteampbddflhngaaGreat
