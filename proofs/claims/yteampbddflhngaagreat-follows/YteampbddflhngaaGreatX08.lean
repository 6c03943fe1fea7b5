import Derived.Test.YteampbddflhngaaGreatRows
import Derived.ProofKit
import Derived.ChangeSlices
import Derived.Deep.Slices
import Derived.Deep.Strs
import Derived.SizedLaws
import Derived.Test.YteampbddflhngaaGreatX03
namespace Go.Proofs.YteampbddflhngaaGreat
set_option linter.all false
set_option maxRecDepth 100000
set_option maxHeartbeats 4000000
open Go.Proofs.Tryz Go.RowKit
structure Qx where
 kind:Int
 a:Int
 b:Int
 c:Int
 s:ByteArray
structure QT (w:World) (v:Value) (l:List Qx):Prop where
 qx:∃ao cap,v=.slice ao l.length cap
 cells:∀k (hk:k<l.length),∃b o cap,v=.slice (some ⟨b,o,none⟩) l.length cap/\b<w.heap.size/\w.cell? ⟨b,o+k*5,none⟩=some (.int .i64 l[k].kind)/\w.cell? ⟨b,o+k*5+1,none⟩=some (.int .i64 l[k].a) ∧
  w.cell? ⟨b,o+k*5+2,none⟩=some (.int .i64 l[k].b)/\w.cell? ⟨b,o+k*5+3,none⟩=some (.int .i64 l[k].c)/\w.cell? ⟨b,o+k*5+4,none⟩=some (.string l[k].s)
 len:l.length<=281474976710656
 fits:∀x∈l,x.s.size<=281474976710656
theorem QT.below{w e:World}{v:Value}{l:List Qx}(h:QT w v l)(c:Below w.heap.size w e):QT e v l:=
 ⟨h.qx,fun k g=>by
  obtain⟨b,o,d,j,a,m,n,f,p,i⟩:=h.cells k g;exact⟨b,o,d,j,xG a c.size,(zm c a m),(zm c a n),(zm c a f),(zm c a p),(zm c a i)⟩,h.len,h.fits⟩
theorem QT.cell{w:World}{d:Option Addr}{n cap:Nat}{l:List Qx}(h:QT w (.slice d n cap) l)(k:Nat)(e:k<l.length):∃b o,d=some ⟨b,o,none⟩/\b<w.heap.size/\w.cell? ⟨b,o+k*5,none⟩=some (.int .i64 l[k].kind)/\w.cell? ⟨b,o+k*5+1,none⟩=some (.int .i64 l[k].a) ∧
  w.cell? ⟨b,o+k*5+2,none⟩=some (.int .i64 l[k].b)/\w.cell? ⟨b,o+k*5+3,none⟩=some (.int .i64 l[k].c)/\w.cell? ⟨b,o+k*5+4,none⟩=some (.string l[k].s):=by
 obtain⟨b,o,c,a,r⟩:=h.cells k e;simp at a;exact⟨b,o,a.1,r⟩
def PZ(l:List Qx):Nat:=(l.map fun x=>x.s.size).sum
theorem NF(l:List Qx)(k:Nat)(a:k<l.length):PZ (l.take (k+1))=PZ (l.take k)+l[k].s.size:=by
 unfold PZ;rw[yP a,vC,List.sum_append];simp
def l5(l:List Qx):Bool:=decide (l.length+PZ l<=1048576)
theorem Js(l:List Qx)(k:Nat):PZ (l.take k)<=PZ l:=by
 have:PZ l=PZ (l.take k)+PZ (l.drop k):=by unfold PZ;rw[←List.sum_append,←vC,qU]
 omega
theorem Hg(w:World)(v:Value)(l:List Qx)(h:QT w v l):
  Calls prog 28 #[v] w fun e t=>e=.returned (.bool (l5 l))/\t=w:=by
 obtain⟨B,p,rfl⟩:=h.qx;have g:=Px h.fits;by_cases d:1048576<l.length
 ·have c:Hid (l5 l=false):=by unfold Hid l5;rw[decide_eq_false_iff_not];omega
  go_enter func28,ntmps28;go_wp2;go_ret;exact⟨by rw[c.out];rfl,rfl⟩
 ·go_enter func28,ntmps28;go_wp2;go_loop [3,4] (fun q r=>∃k n:Nat,k<=l.length/\r=.int .i64 k/\q=.int .i64 n/\n<=1048576/\Hid (n=l.length+PZ (l.take k))) (fun _ i=>l.length-(intOf i).toNat)
  case atStart=>exact⟨0,l.length,zx _,rfl,rfl,by omega,by simp[Hid,PZ]⟩
  case round=>
   obtain⟨k,n,u,rfl,rfl,y,H⟩:=hrel;by_cases a:k<l.length
   ·obtain⟨b,o,rfl,z,_,_,_,_,A⟩:=h.cell k a;have m:=g.out _ (zv a);have f:Hid (n+l[k].s.size=l.length+PZ (l.take (k+1))):=by rw[Hid,NF l k a,H.out];omega
    generalize l[k]=x at *;generalize x.s=s at *;by_cases j:1048576<n+s.size
    ·have c:Hid (l5 l=false):=by unfold Hid l5;rw[decide_eq_false_iff_not];have:=f.out;have:=Js l (k+1);omega
     go_wp2;go_ret;exact⟨by rw[c.out];rfl,rfl⟩
    ·go_wp2;go_round
     case rel=>exact⟨k+1,n+s.size,by omega,by go_num,by go_num,by omega,f⟩
     case measure=>simp[intOf];omega
   ·have c:Hid (l5 l=true):=by unfold Hid l5;rw[decide_eq_true_iff];have:=H.out;rw[xi (by omega)] at this;omega
    go_wp2;go_ret;exact⟨by rw[c.out];rfl,rfl⟩
theorem Lc(w:World)(k:Int):
  Calls prog 29 #[.int .i64 k] w fun e b=>e=.returned (.bool (k == 9||k == 17))/\b=w:=by
 go_enter func29,ntmps29;cases c:(k == 9) with
 |true=>go_wp2;go_ret;exact⟨rfl,rfl⟩
 |false=>
  cases a:(k == 17) with
  |true=>go_wp2;go_ret;exact⟨rfl,rfl⟩
  |false=>go_wp2;go_ret;exact⟨rfl,rfl⟩
theorem Pg:(prog.info? 67).map (fun i=>(i.zero,i.size,i.bytes))=some (some (.agg #[.int .i64 0,.int .i64 0,.int .i64 0,.int .i64 0,.string ByteArray.empty]),5,48):=by kernel_rfl
def gX(l:List Qx):List Value:=l.flatMap fun x=>[.int .i64 x.kind,.int .i64 x.a,.int .i64 x.b,.int .i64 x.c,.string x.s]
theorem Mq(l:List Qx)(x:Qx):gX (l++[x])=gX l++[.int .i64 x.kind,.int .i64 x.a,.int .i64 x.b,.int .i64 x.c,.string x.s]:=by simp[gX]
theorem D5:∀(l:List Qx) (k:Nat) (b:k<l.length),(gX l)[k*5]?=some (.int .i64 l[k].kind)/\(gX l)[k*5+1]?=some (.int .i64 l[k].a)/\(gX l)[k*5+2]?=some (.int .i64 l[k].b)/\(gX l)[k*5+3]?=some (.int .i64 l[k].c)/\(gX l)[k*5+4]?=some (.string l[k].s)
 |[],k,b=>by simp at b
 |a::l,0,_=>by simp[gX]
 |a::l,k+1,b=>by
  have:=D5 l k (by simpa using b);simp only[gX,uo] at this ⊢;rw[show(k+1)*5=k*5+1+1+1+1+1 from by omega,show k*5+1+1+1+1+1+1=k*5+1+1+1+1+1+1 from rfl,show k*5+1+1+1+1+1+2=k*5+2+1+1+1+1+1 from by omega,show k*5+1+1+1+1+1+3=k*5+3+1+1+1+1+1 from by omega,show k*5+1+1+1+1+1+4=k*5+4+1+1+1+1+1 from by omega];simpa using this
theorem QT.own{w:World}{a:Nat}{v:Value}{l:List Qx}(h:w.ownsRow a 67 5 v l.length (gX l))(o:l.length<=281474976710656)(e:∀x∈l,x.s.size<=281474976710656):QT w v l:=by
 refine⟨zs h,fun k q=>?_,o,e⟩;obtain⟨g,c,j,_,i,b⟩:=yC h (by omega);obtain⟨m,n,d,p,f⟩:=D5 l k q;refine⟨g,0,c,j,i,?_,?_,?_,?_,?_⟩
 ·rw[vF];exact b _ _ m
 ·rw[vF];exact b _ _ n
 ·rw[vF];exact b _ _ d
 ·rw[vF];exact b _ _ p
 ·rw[vF];exact b _ _ f
theorem Od{l:List Qx}{x:Qx}(h:x∈l):x.s.size<=PZ l:=by
 induction l with
 |nil=>cases h
 |cons a l b=>
  simp only[PZ,xQ,vI] at b ⊢;rcases zu.1 h with rfl|h
  ·omega
  ·have:=b h;omega
def RA(w:World)(v:Value)(b:List Int):Prop:=∃a,w.ownsRow a 3 1 v b.length (b.map (Value.int .i64))
theorem RA.qx{w:World}{v:Value}{l:List Int}(h:RA w v l):∃c a,v=.slice c l.length a:=by obtain⟨b,h⟩:=h;exact zs h
theorem RA.cell{w:World}{f:Option Addr}{n cap:Nat}{a:List Int}(h:RA w (.slice f n cap) a)(k:Nat)(l:k<a.length):∃g,f=some ⟨g,0,none⟩/\g<w.heap.size/\w.cell? ⟨g,k,none⟩=some (.int .i64 a[k]):=by
 obtain⟨d,j⟩:=h;obtain⟨g,e,c,_,i,b⟩:=yC j (by omega);simp at c;exact⟨g,c.1,i,b k _ (by simp[l])⟩
def QI(a:List Int)(k:Int):Prop:=k=9∨k=17∨k∈a
def EG(l:List Qx)(c:List Int):Prop:=∀W b a,QT W b a->(∀x∈a,x∈l/\QI c x.kind)->a.length<=1048576->(∀x∈a,x.s.size<=1048576)->Calls prog 31 #[b] W fun e d=>e=.returned (.int .i64 (-1))/\Below W.heap.size W d
theorem KO(w:World)(v:Value)(l:List Qx)(h:QT w v l)(kv:Value)(n:List Int)(H:RA w kv n)(a3:n.length<=20)(J:EG l n):
  Calls prog 15 #[v,.bool false,kv] w fun e G=>e=.returned (.bool true)/\Below w.heap.size w G:=by
 obtain⟨i0,hi,Y,T,O⟩:=info_parts Pg;obtain⟨ao,ax,rfl⟩:=h.qx;obtain⟨a1,ag,rfl⟩:=H.qx;have N:=Px J;have g:=Px (Hg w _ l h);have t:l5 l=decide (l.length+PZ l<=1048576):=rfl;clear J;cases s:l5 l with
 |false=>
  rw[s] at g;clear t s;go_enter func15,ntmps15;go_wp2_with (first|(go_at_call 28;refine g.out.mono ?_;rintro e G ⟨rfl,p⟩;obtain rfl:=p.symm;clear g))
  go_ret;exact⟨rfl,zo _ _⟩
 |true=>
  rw[s] at g t;have aa:=of_decide_eq_true t.symm;have HF:Hid (∀x∈l,x.s.size<=1048576):=fun x u=>by have:=Od u;omega
  have a0:l.length<=1048576:=by omega
  clear t s aa;go_enter func15,ntmps15;go_wp2_with (first|(go_at_call 28;refine g.out.mono ?_;rintro e G ⟨rfl,p⟩;obtain rfl:=p.symm;clear g))
  go_loopw [8,9] (fun v8 v9 wr=>∃(k:Nat) (c:List Qx),k<=l.length/\v9=.int .i64 k/\c.length<=k/\Below w.heap.size w wr/\wr.ownsRow w.heap.size 67 5 v8 c.length (gX c)/\Hid (∀x∈c,x∈l/\QI n x.kind)) (fun _ i _=>l.length-(intOf i).toNat)
  case atStart=>exact⟨0,[],zx _,rfl,zf _,zo _ _,yI _ _ _ _,fun x u=>by cases u⟩
  case round=>
   obtain⟨k,c,hk,rfl,az,d,f,B⟩:=hrel;obtain⟨av,ai,rfl⟩:=zs f;have am:=d.size;by_cases I:k<l.length
   ·obtain⟨b,o,rfl,E,h0,h1,h2,h3,h4⟩:=h.cell k I;have ad:=zm d E h0;have ac:=zm d E h1;have P:=zm d E h2;have M:=zm d E h3;have S:=zm d E h4;have r:b<wr.heap.size:=by omega
    have HM:=Px (zv I);clear h0 h1 h2 h3 h4;generalize l[k]=x at *;obtain⟨K,rfl⟩:∃K,K=wr:=⟨wr,rfl⟩;go_wp2_with (first|(go_at_call 29;refine(Lc _ _).mono ?_;rintro e G ⟨rfl,p⟩;obtain rfl:=p.symm))
    go_loopw [11,13] (fun ab af wj=>∃(j:Nat) (D:Bool),j<=n.length/\af=.int .i64 j/\ab=.bool D/\Below K.heap.size K wj/\Hid (D=true->QI n x.kind)) (fun _ i _=>n.length-(intOf i).toNat)
    case atStart=>exact⟨0,_,zx _,rfl,rfl,zo _ _,(by intro h;simp at h;unfold QI;rcases h with h|h<;>simp[h])⟩
    case round=>
     obtain⟨j,D,hj,rfl,rfl,a,HB⟩:=hrel;have m:=P3 d a;have aq:=a.size;by_cases C:j<n.length
     ·obtain⟨gk,rfl,V,F⟩:=H.cell j C;have ay:=zm m V F;have aw:gk<wr.heap.size:=by have:=m.size;omega
      have R:=Px (zv C);clear F;generalize n[j]=q at *;cases D with
      |true=>
       go_wp2;go_roundw
       case rel=>exact⟨j+1,true,by omega,by go_num,rfl,(by go_grown),HB⟩
       case measure=>simp[intOf];omega
      |false=>
       cases hq:(x.kind == q) with
       |true=>
        have Z:Hid (QI n x.kind):=by have h':=eq_of_beq hq;subst h';exact ze (ze R.out)
        go_wp2;go_roundw
        case rel=>exact⟨j+1,true,by omega,by go_num,rfl,(by go_grown),fun _=>Z.out⟩
        case measure=>simp[intOf];omega
       |false=>
        go_wp2;go_roundw
        case rel=>exact⟨j+1,false,by omega,by go_num,rfl,(by go_grown),fun h=>by cases h⟩
        case measure=>simp[intOf];omega
     ·cases D with
      |true=>
       have ap:=zm a r ad;have ah:=zm a r ac;have ak:=zm a r P;have al:=zm a r M;have an:=zm a r S;have au:b<wr.heap.size:=by omega
       have z:=zC f a;have L:Hid (∀y∈c++[x],y∈l/\QI n y.kind):=fun y A=>by
        rcases zX.1 A with A|A
        ·exact B.out y A
        ·simp at A;subst A;exact⟨HM.out,HB.out rfl⟩
       clear HB B;go_wp2_with (first|(at_builtin;refine jS _ _ [.int .i64 x.kind,.int .i64 x.a,.int .i64 x.b,.int .i64 x.c,.string x.s] _ rfl (.tmp 54) (.tmp 59) 22 rfl w.heap.size 67 i0 _ 5 48 underlying22 hi Y T O rfl (by decide) _ _ _ rfl z (zo _ _) _ _ rfl (by simp) rfl (by simp[Value.oneCell']) (by omega) (by omega) m.size ?_;intro v' w2 X U ae W a2 aj;clear ae W))
       go_roundw
       case rel=>exact⟨k+1,c++[x],by omega,by go_num,(by simp;omega),m.trans U,(by rw[Mq];simpa using X),L⟩
       case measure=>simp[intOf];omega
      |false=>
       go_wp2;go_roundw
       case rel=>exact⟨k+1,c,by omega,by go_num,by omega,m,zC f a,B⟩
       case measure=>simp[intOf];omega
   ·have ar:k=l.length:=by omega
    go_wp2_with (first|(go_at_call 31;refine(N.out _ _ c (QT.own f (by omega) (fun x u=>by have:=HF.out x (B.out x u).1;omega)) B.out (by omega) (fun x u=>HF.out x (B.out x u).1)).mono ?_;rintro e G ⟨rfl,Q⟩))
    go_ret;exact⟨rfl,P3 d Q⟩
section
open Go.ChangeShapes Go.WideShapes Go.ChangeAt Go.Deep
theorem Pb:ownKnob prog.godebug=none:=by kernel_rfl
theorem OV:laidOutB prog=true:=by kernel_rfl
theorem OP:prog.cellsOf 67=5:=by kernel_rfl
theorem OQ:prog.cellsOf 3=1:=by kernel_rfl
theorem Pr:prog.cellsOf 9=1:=by kernel_rfl
theorem Ph:prog.bytesOf 67=48:=by kernel_rfl
theorem QE:reachBytes=140737488351232:=rfl
def R5(x:Qx):Prop:=(-9223372036854775808<=x.a/\x.a<=9223372036854775807)/\(-9223372036854775808<=x.b/\x.b<=9223372036854775807)/\(-9223372036854775808<=x.c/\x.c<=9223372036854775807)
theorem Qh{H:Type}{P:Program}{e:TypeId}:∀{l:List (DataW H)} {d:DataW H},d∈l->∀n∈d.weights P e,n∈DataW.weightsAll P e l
 |[],_,h=>by cases h
 |a::l,d,h=>by
  intro n b;simp only[DataW.weightsAll,zX];rcases zu.1 h with rfl|h
  ·exact zg b
  ·exact ze (Qh h n b)
theorem Rn{w:World}{b o:Nat}{u:Value}(h:w.cell? ⟨b,o,none⟩=some u):b<w.heap.size:=by
 unfold World.cell? at h;false_or_by_contra
 rename_i a;rw[Array.getElem?_eq_none (by simpa using a)] at h;simp at h
theorem IH{H:Type}{enc:TypeId×Value->H}{W:World}{f:Nat}{d:List Value}{x:DataW H×List MemPlace}(h:DataW.trod enc prog W 0 (fun _=>true) true f 67 d=some x):
  ∃y:Qx,d=[.int .i64 y.kind,.int .i64 y.a,.int .i64 y.b,.int .i64 y.c,.string y.s]/\y.s.size∈x.1.weights prog 67/\R5 y:=by
 obtain⟨C,n,_,rfl,z,e,g⟩:=DataW.trod_struct underlying67 h;rw[OP] at z;match C,e,d,z with
 |[L,I,N,G,J],_,[M,F,K,E,D],_=>
  have v:=g 0 _ rfl;have p:=g 1 _ rfl;have A:=g 2 _ rfl;have o:=g 3 _ rfl;have w:=g 4 _ rfl;simp[OQ,Pr] at v p A o w;obtain⟨k,u,_,_⟩:=DataW.trod_int underlying3 v;obtain⟨a,t,_,l⟩:=DataW.trod_int underlying3 p;obtain⟨b,q,_,j⟩:=DataW.trod_int underlying3 A;obtain⟨c,r,_,m⟩:=DataW.trod_int underlying3 o;obtain⟨s,B,i,_⟩:=DataW.trod_string underlying9 w;simp at u t q r B;refine⟨⟨k,a,b,c,s⟩,by simp[u,t,q,r,B],?_,bounds_i64 l,bounds_i64 j,bounds_i64 m⟩;simp[DataW.weights,DataW.weightsEach,underlying67,i]
theorem Gv{H:Type}{enc:TypeId×Value->H}{W:World}{w:Nat}{Q:Value}{x:DataW H×List MemPlace}(V:DataW.trod enc prog W 0 (fun _=>true) true w 22 [Q]=some x)
  (t:(DataW.weightsEach prog [22] [x.1]).all (·<=reachBytes)=true):∃l,QT W Q l/\∀x∈l,R5 x:=by
 rcases open_slice underlying22 V with⟨d,_⟩|⟨a,p,X,m,n,D,Z,d,_,hl,hm,A,g,M⟩
 ·simp at d;subst d;exact⟨[],⟨⟨none,0,rfl⟩,fun k O=>by simp at O,by simp,fun x g=>by cases g⟩,fun x g=>by cases g⟩
 ·simp at d;subst d;simp only[if_true] at A;subst A;subst g;have R:=sized_slice t (j:=0) rfl rfl underlying22;rw[Ph,QE] at R;simp at R;have z:∀i,∃y:Qx,i<p->(∃e,W.cells? 0 (a.add (i*5)) 5=some e/\e=[.int .i64 y.kind,.int .i64 y.a,.int .i64 y.b,.int .i64 y.c,.string y.s])/\y.s.size<=140737488351232/\R5 y:=by
   intro i;by_cases s:i<p
   ·obtain⟨e,B,T⟩:=M i (by omega);rw[OP] at B;obtain⟨y,S,F,J⟩:=IH T;refine⟨y,fun _=>⟨⟨e,B,S⟩,?_,J⟩⟩;rw[←QE];refine of_decide_eq_true (lg.1 t _ (DataW.weights_mem_each (j:=0) rfl rfl _ ?_));simp only[DataW.weights,underlying22,zu,zX];exact ze (zg (Qh (z9.2 ⟨i,gh.2 s,rfl⟩) _ F))
   ·exact⟨⟨0,0,0,0,ByteArray.empty⟩,fun h=>zB h s⟩
  obtain⟨Y,E⟩:=Classical.axiomOfChoice z;obtain⟨b,f,q⟩:=a;refine⟨(List.range p).map Y,⟨⟨some ⟨b,f,q⟩,m,by simp⟩,?_,by simp;omega,?_⟩,?_⟩
  ·intro k O;have I:k<p:=by simpa using O
   obtain⟨⟨e,B,d⟩,_⟩:=E k I;obtain⟨_,_,c⟩:=World.cells?_some B;have C:=c 0 (by omega);have P:=c 1 (by omega);have K:=c 2 (by omega);have G:=c 3 (by omega);have L:=c 4 (by omega);subst d;have r:q=none:=by
    obtain⟨⟨U,N,v⟩,_⟩:=E 0 (by omega);obtain⟨_,_,o⟩:=World.cells?_some N;subst v;have:=o 0 (by omega);simpa [Addr.add] using World.cell?_spot this
   subst r;have u:∀j,(Addr.add ⟨b,f,none⟩ (k*5)).add j=⟨b,f+k*5+j,none⟩:=by
    intro j;unfold Addr.add;split<;>split<;>simp_all
   simp only[u] at C P K G L;simp at C P K G L;simp only[vm,mI];exact⟨b,f,m,by simp,Rn C,C,P,K,G,L⟩
  ·intro x g;obtain⟨i,s,rfl⟩:=z9.1 g;have:=(E i (gh.1 s)).2.1;omega
  ·intro x g;obtain⟨i,s,rfl⟩:=z9.1 g;exact(E i (gh.1 s)).2.2
end
theorem KC(w:World)(c:Nat)(c0 f j o d p n h m g b a:Value)(k:Py w c #[c0,f,j,o,d,p,n,h,m,g,b,a,.slice none 0 0,.slice none 0 0] 35):
  Calls prog 39 #[.pointer (some ⟨c,0,none⟩)] w fun e q=>e=.returned (.bool true)/\q=w:=by
 obtain⟨s,r,l⟩:=k.boxed;go_enter func39,ntmps39;go_wp2;go_loop [3] (fun i=>i=.int .i64 0) (fun _=>0)
 case atStart=>rfl
 case round=>
  subst hrel;go_wp2;go_loop [5] (fun i=>i=.int .i64 0) (fun _=>0)
  case atStart=>rfl
  case round=>
   subst hrel;go_wp2;go_ret;exact⟨rfl,rfl⟩
theorem LI(w:World)(a:Nat)(c0 j o h p n l m k b:Value)(f:Py w a #[c0,j,.slice none 0 0,o,h,p,n,l,m,k,.slice none 0 0,b,.slice none 0 0,.slice none 0 0] 35):
  Calls prog 58 #[.pointer (some ⟨a,0,none⟩)] w fun e g=>e=.returned (.bool true)/\g=w:=by
 obtain⟨r,q⟩:=f.rules;have d:=KC w a _ _ _ _ _ _ _ _ _ _ _ _ f;go_enter func58,ntmps58;go_wp2;go_loop [3] (fun i=>i=.int .i64 0) (fun _=>0)
 case atStart=>rfl
 case round=>
  subst hrel;go_wp2;go_loop [5] (fun i=>i=.int .i64 0) (fun _=>0)
  case atStart=>rfl
  case round=>
   subst hrel;go_wp2_with (first|(go_at_call 39;refine d.mono ?_;rintro e g ⟨rfl,c⟩;obtain rfl:=c.symm))
   go_ret;exact⟨rfl,rfl⟩
end Go.Proofs.YteampbddflhngaaGreat
