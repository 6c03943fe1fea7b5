import Derived.Laws.Tables
import Derived.Laws.Rows
import Derived.Test.YteampbddflhngaaGreatR02
namespace Go.Proofs.YteampbddflhngaaGreat
open List renaming length→List.j,getD→List.g,take→List.G,toArray→List.F,foldl→List.H
open _root_.Array renaming size→Array.q,getD→Array.g,foldl→Array.H
open _root_.ByteArray renaming size→ByteArray.q
open Go.RowKit.Below renaming size→Go.RowKit.Below.q,setCell→Go.RowKit.Below.x,mono→Go.RowKit.Below.y,trans→Go.RowKit.Below.A,alloc→Go.RowKit.Below.C
open Go.TypeInfo renaming size→Go.TypeInfo.q
open Go.RowKit.Hid renaming out→Go.RowKit.Hid.l
open Go.Shut renaming out→Go.Shut.l
open Go.World renaming heap→Go.World.o,setCell→Go.World.x,cell?→Go.World.p,alloc→Go.World.C,ownsRow→Go.World.r
open Go.Value renaming slice→Go.Value.k,bool→Go.Value.i,cells→Go.Value.E,ownBlock→Go.Value.m,pointer→Go.Value.u,tuple→Go.Value.B
open Go.TypeDesc renaming slice→Go.TypeDesc.k,bool→Go.TypeDesc.i,pointer→Go.TypeDesc.u,tuple→Go.TypeDesc.B
open Option renaming getD→Option.g,isSome→Option.I,some→Z,none→Y
open Go.Calls renaming mono→Go.Calls.y
open Eq renaming trans→Eq.A
open Iff renaming trans→Iff.A
open Go.Obj renaming cells→Go.Obj.E
open Int renaming toNat→Int.D
open UInt8 renaming toNat→UInt8.D
open Go.RowKit renaming Hid→X
open Go renaming World→U,Value→O
set_option linter.all false
set_option maxRecDepth 100000
set_option maxHeartbeats 8000000
open Go.RowKit
section
open Go.Proofs.Tryz
variable {lo:Nat}
def GE(a b:Nat):((a:Int) == (b:Int))=(a == b):=by
 by_cases h:a=b;subst h;rw[beq_self_eq_true,beq_self_eq_true];rw[beq_eq_false_iff_ne.2 (by omega:(a:Int)≠(b:Int)),beq_eq_false_iff_ne.2 h]
def rn(t:yi):Value:=.agg #[.i t.var,ι t.z,ι t.w]
def UP(x y z:Nat):Value:=.agg #[ι x,ι y,ι z]
def t9(a b c d e:Nat):Value:=.agg #[ι a,ι b,ι c,ι d,ι e]
def B3(w:U)(t:yi)(a b c d e:Nat):
  Calls prog 188 #[rn t,t9 a b c d e] w λr i=>r=ε (ι (U0 t [a,b,c,d,e]:Nat))/\μ w i:=by
 obtain⟨j,n,g⟩:=t;unfold rn t9;simp only;cases j
 .have f:X (U0 ⟨false,n,g⟩ [a,b,c,d,e]=n):=rfl;go_enter func188,ntmps188;go_wp2;go_ret;exact⟨by rw[f.l];rfl,γ⟩
 by_cases h:n<5
 .have f:X (U0 ⟨true,n,g⟩ [a,b,c,d,e]=[a,b,c,d,e].g n 0):=by simp[X,U0,h]
  obtain rfl|rfl|rfl|rfl|rfl:n=0∨n=1∨n=2∨n=3∨n=4:=η
  all_goals
   go_enter func188,ntmps188;go_wp2;go_ret;exact⟨by rw[f.l];rfl,γ⟩
 have f:X (U0 ⟨true,n,g⟩ [a,b,c,d,e]=n):=by simp[X,U0,h]
 go_enter func188,ntmps188;go_wp2;go_ret;exact⟨by rw[f.l];rfl,γ⟩
def iz(w:U)(t:yi):
  Calls prog 218 #[rn t] w λr d=>r=ε (.i (leveled t))/\μ w d:=by
 obtain⟨e,n,b⟩:=t;unfold rn;simp only;cases e
 .have a:X (leveled ⟨false,n,b⟩=false):=rfl;go_enter func218,ntmps218;go_wp2;go_ret;exact⟨by rw[a.l];rfl,γ⟩
 by_cases c:b<3
 .have a:X (leveled ⟨true,n,b⟩=true):=by simp[X,leveled,c]
  go_enter func218,ntmps218;go_wp2;go_ret;exact⟨by rw[a.l];simp;omega,γ⟩
 have a:X (leveled ⟨true,n,b⟩=false):=by simp[X,leveled,c]
 go_enter func218,ntmps218;go_wp2;go_ret;exact⟨by rw[a.l];simp;omega,γ⟩
def AH(w:U)(t:yi)(v x y z:Nat):
  Calls prog 219 #[rn t,ι v,UP x y z] w λr u=>r=ε (.i (jM t v [x,y,z]))/\μ w u:=by
 have f:=Tg λW=>iz W t;have h:X (jM t v [x,y,z]=if leveled t then [x,y,z].g t.w 0 == v else t.z == v):=rfl;have d:leveled t=true->t.w<3:=by simp[leveled]
 generalize leveled t=m at *;obtain⟨j,n,e⟩:=t;unfold rn at f ⊢;unfold UP;simp only at f d h ⊢;cases m
 .go_enter func219,ntmps219;go_wp2_with (go_at_call 218;refine(f.l _).y ?_;rintro r i ⟨rfl,a⟩;have c:μ w i:=zQ γ a (zg _);have b:=((Th.new w #[.i j,ι n,ι e] 284).u ((zn _ _).C (zg _) (.E #[ι x,ι y,ι z] 165))).u a;obtain⟨q,k,o⟩:=b.e)
  go_ret;exact⟨by rw[h.l];simp[GE],c⟩
 have A:=d rfl;obtain rfl|rfl|rfl:e=0∨e=1∨e=2:=η
 all_goals
  go_enter func219,ntmps219;go_wp2_with (go_at_call 218;refine(f.l _).y ?_;rintro r i ⟨rfl,a⟩;have c:μ w i:=zQ γ a (zg _);have b:=((Th.new w #[.i j,ι n,ι _] 284).u ((zn _ _).C (zg _) (.E #[ι x,ι y,ι z] 165))).u a;obtain⟨q,k,o⟩:=b.e;have g:=(Th.newAt (w.C (.E #[.i j,ι n,ι _] 284)) (w.o.q+1) #[ι x,ι y,ι z] 165 ζ).u a;obtain⟨p,l,s⟩:=g.e)
  go_ret;exact⟨by rw[h.l];simp[GE],c⟩
def nG(l:zw)(vals:List Nat):Nat->Array O
 |0=>#[ι 0,ι 0,ι 0]
 |1=>#[ι ((Tj l vals 0:Nat):Int),ι 0,ι 0]
 |2=>#[ι ((Tj l vals 0:Nat):Int),ι ((Tj l vals 1:Nat):Int),ι 0]
 |_=>#[ι ((Tj l vals 0:Nat):Int),ι ((Tj l vals 1:Nat):Int),ι ((Tj l vals 2:Nat):Int)]
def oV(w:U)(v:O)(o:Nat)(ts:List yi)(a b c d e:Nat)(h:yu lo w v ts):
  Calls prog 161 #[.agg #[ι o,v],t9 a b c d e] w λr w'=>r=ε (.agg #[ι ((Tj ⟨o,ts⟩ [a,b,c,d,e] 0:Nat):Int),ι ((Tj ⟨o,ts⟩ [a,b,c,d,e] 1:Nat):Int),ι ((Tj ⟨o,ts⟩ [a,b,c,d,e] 2:Nat):Int)])/\μ w w':=by
 obtain⟨ao,af,rfl⟩:=h.qy;have hl:=h.len;unfold t9;go_enter func161,ntmps161;go_wp2;go_loopw [7] (λv7 wr=>∃k:Nat,k<=3/\v7=ι k/\Th wr w.o.q #[ι o,.k ao ts.j af] 204/\Th wr (w.o.q+1) #[ι a,ι b,ι c,ι d,ι e] 262/\Th wr (w.o.q+2) #[ι 0,ι 0,ι 0] 165/\Th wr (w.o.q+3) (nG ⟨o,ts⟩ [a,b,c,d,e] k) 165/\μ w wr) (λi _=>3-(intOf i).toNat);exact⟨0,η,rfl,(((Th.new w _ _).u zP).u zP).u zP,((Th.newAt _ _ _ _ ζ).u zP).u zP,(Th.newAt _ _ _ _ ζ).u zP,Th.newAt _ _ _ _ ζ,γ⟩;obtain⟨k,hk,rfl,z,A,B,D,m⟩:=hrel;obtain⟨ak,ai,ap⟩:=z.e;obtain⟨an,am,aj⟩:=A.e;have ah:=m.q;match k,hk with
 |0,_=>
  have f:Th wr (w.o.q+3) #[ι 0,ι 0,ι 0] 165:=D;obtain⟨ac,ad,ab⟩:=f.e;by_cases x:0<ts.j
  .obtain⟨g,K,H,T,h1,Q⟩:=h.cell 0 x;subst K;have M:=zi m H T;have P:=zi m H h1;have G:=zi m H Q;simp only[Nat.reduceMul,Nat.reduceAdd] at M P G;have ae:g<wr.o.q:=η;have C:X (Tj ⟨o,ts⟩ [a,b,c,d,e] 0=U0 ts[0] [a,b,c,d,e]):=by simp[X,Tj,x,List.getD_eq_getElem?_getD]
   have y:X (∀W,Calls prog 188 #[.agg #[.i ts[0].var,ι (ts[0].z:Nat),ι (ts[0].w:Nat)],.agg #[ι a,ι b,ι c,ι d,ι e]] W λr w'=>r=ε (ι ((Tj ⟨o,ts⟩ [a,b,c,d,e] 0:Nat):Int))/\μ W w'):=λW=>by rw[C.l];exact B3 W ts[0] a b c d e
   clear T h1 Q C;generalize ts[0]=t at *;obtain⟨s,u⟩:∃s,s=Tj ⟨o,ts⟩ [a,b,c,d,e] 0:=⟨_,rfl⟩;rw[←u] at y;have L:=Tg u.symm;clear u;go_wp2;go_region_with (go_at_call 188;refine(y.l _).y ?_;rintro r w2 ⟨rfl,N⟩;have l:μ wr w2:=(zQ γ N (zg _));have j:=f.u l;obtain⟨S,R,aa⟩:=j.e)
   all_goals
    have n:=j.set 0 (ι s);simp at n;have I:=(z.u l).set_ne (show w.o.q≠w.o.q+3 from by omega) 0 (ι s);have E:=(A.u l).set_ne (show w.o.q+1≠w.o.q+3 from by omega) 0 (ι s);have J:=(B.u l).set_ne (show w.o.q+2≠w.o.q+3 from by omega) 0 (ι s);have F:=(Tk m l).x (p:=(δ (w.o.q+3))) ζ (ι s);go_wp2;go_roundw;exact⟨1,η,rfl,I,E,J,(by simp only[nG,L.l];exact n),F⟩;simp[intOf]
  have C:X (Tj ⟨o,ts⟩ [a,b,c,d,e] 0=0):=by simp[X,Tj,x]
  have V:ts.j<=0:=η;go_wp2;go_roundw;exact⟨1,η,rfl,z,A,B,(by have q:=f;simp only[nG,C.l];exact q),m⟩;simp[intOf]
 |1,_=>
  have f:Th wr (w.o.q+3) #[ι ((Tj ⟨o,ts⟩ [a,b,c,d,e] 0:Nat):Int),ι 0,ι 0] 165:=D;obtain⟨ac,ad,ab⟩:=f.e;by_cases x:1<ts.j
  .obtain⟨g,K,H,T,h1,Q⟩:=h.cell 1 x;subst K;have M:=zi m H T;have P:=zi m H h1;have G:=zi m H Q;simp only[Nat.reduceMul,Nat.reduceAdd] at M P G;have ae:g<wr.o.q:=η;have C:X (Tj ⟨o,ts⟩ [a,b,c,d,e] 1=U0 ts[1] [a,b,c,d,e]):=by simp[X,Tj,x,List.getD_eq_getElem?_getD]
   have y:X (∀W,Calls prog 188 #[.agg #[.i ts[1].var,ι (ts[1].z:Nat),ι (ts[1].w:Nat)],.agg #[ι a,ι b,ι c,ι d,ι e]] W λr w'=>r=ε (ι ((Tj ⟨o,ts⟩ [a,b,c,d,e] 1:Nat):Int))/\μ W w'):=λW=>by rw[C.l];exact B3 W ts[1] a b c d e
   clear T h1 Q C;generalize ts[1]=t at *;obtain⟨s,u⟩:∃s,s=Tj ⟨o,ts⟩ [a,b,c,d,e] 1:=⟨_,rfl⟩;rw[←u] at y;have L:=Tg u.symm;clear u;go_wp2;go_region_with (go_at_call 188;refine(y.l _).y ?_;rintro r w2 ⟨rfl,N⟩;have l:μ wr w2:=(zQ γ N (zg _));have j:=f.u l;obtain⟨S,R,aa⟩:=j.e)
   all_goals
    have n:=j.set 1 (ι s);simp at n;have I:=(z.u l).set_ne (show w.o.q≠w.o.q+3 from by omega) 1 (ι s);have E:=(A.u l).set_ne (show w.o.q+1≠w.o.q+3 from by omega) 1 (ι s);have J:=(B.u l).set_ne (show w.o.q+2≠w.o.q+3 from by omega) 1 (ι s);have F:=(Tk m l).x (p:=(ω (w.o.q+3) 1)) ζ (ι s);go_wp2;go_roundw;exact⟨2,η,rfl,I,E,J,(by simp only[nG,L.l];exact n),F⟩;simp[intOf]
  have C:X (Tj ⟨o,ts⟩ [a,b,c,d,e] 1=0):=by simp[X,Tj,x]
  have V:ts.j<=1:=η;go_wp2;go_roundw;exact⟨2,η,rfl,z,A,B,(by have q:=f;simp only[nG,C.l];exact q),m⟩;simp[intOf]
 |2,_=>
  have f:Th wr (w.o.q+3) #[ι ((Tj ⟨o,ts⟩ [a,b,c,d,e] 0:Nat):Int),ι ((Tj ⟨o,ts⟩ [a,b,c,d,e] 1:Nat):Int),ι 0] 165:=D;obtain⟨ac,ad,ab⟩:=f.e;by_cases x:2<ts.j
  .obtain⟨g,K,H,T,h1,Q⟩:=h.cell 2 x;subst K;have M:=zi m H T;have P:=zi m H h1;have G:=zi m H Q;simp only[Nat.reduceMul,Nat.reduceAdd] at M P G;have ae:g<wr.o.q:=η;have C:X (Tj ⟨o,ts⟩ [a,b,c,d,e] 2=U0 ts[2] [a,b,c,d,e]):=by simp[X,Tj,x,List.getD_eq_getElem?_getD]
   have y:X (∀W,Calls prog 188 #[.agg #[.i ts[2].var,ι (ts[2].z:Nat),ι (ts[2].w:Nat)],.agg #[ι a,ι b,ι c,ι d,ι e]] W λr w'=>r=ε (ι ((Tj ⟨o,ts⟩ [a,b,c,d,e] 2:Nat):Int))/\μ W w'):=λW=>by rw[C.l];exact B3 W ts[2] a b c d e
   clear T h1 Q C;generalize ts[2]=t at *;obtain⟨s,u⟩:∃s,s=Tj ⟨o,ts⟩ [a,b,c,d,e] 2:=⟨_,rfl⟩;rw[←u] at y;have L:=Tg u.symm;clear u;go_wp2;go_region_with (go_at_call 188;refine(y.l _).y ?_;rintro r w2 ⟨rfl,N⟩;have l:μ wr w2:=(zQ γ N (zg _));have j:=f.u l;obtain⟨S,R,aa⟩:=j.e)
   all_goals
    have n:=j.set 2 (ι s);simp at n;have I:=(z.u l).set_ne (show w.o.q≠w.o.q+3 from by omega) 2 (ι s);have E:=(A.u l).set_ne (show w.o.q+1≠w.o.q+3 from by omega) 2 (ι s);have J:=(B.u l).set_ne (show w.o.q+2≠w.o.q+3 from by omega) 2 (ι s);have F:=(Tk m l).x (p:=(ω (w.o.q+3) 2)) ζ (ι s);go_wp2;go_roundw;exact⟨3,η,rfl,I,E,J,(by simp only[nG,L.l];exact n),F⟩;simp[intOf]
  have C:X (Tj ⟨o,ts⟩ [a,b,c,d,e] 2=0):=by simp[X,Tj,x]
  have V:ts.j<=2:=η;go_wp2;go_roundw;exact⟨3,η,rfl,z,A,B,(by have q:=f;simp only[nG,C.l];exact q),m⟩;simp[intOf]
 |3,_=>
  simp only[nG] at D;obtain⟨ac,ad,ab⟩:=D.e;obtain⟨ag,al,aq⟩:=B.e;go_wp2;exact zO (v:=.agg #[ι ((Tj ⟨o,ts⟩ [a,b,c,d,e] 0:Nat):Int),ι ((Tj ⟨o,ts⟩ [a,b,c,d,e] 1:Nat):Int),ι ((Tj ⟨o,ts⟩ [a,b,c,d,e] 2:Nat):Int)]) (by simp[results,results161,go_sem,ag]) rfl ⟨rfl,((m.x (p:=(δ (w.o.q+2))) ζ _).x (p:=(ω (w.o.q+2) 1)) ζ _).x (p:=(ω (w.o.q+2) 2)) ζ _⟩
def vD(l:zw)(row:zk):Nat->zk
 |0=>[0,0,0]
 |k+1=>jv l row (vD l row k) k
def Kv{l:zw}{row f:zk}(a:uL l row=f):xZ l row=if (xU l row f 0&&xU l row f 1&&xU l row f 2)=true then Z f else none:=by unfold xZ;rw[a]
def O8(l:zw)(row:zk):uL l row=vD l row 3:=rfl
def NF(w:U)(v:O)(B:Nat)(ts:List yi)(j f r2:Nat)(h:yu lo w v ts):
  Calls prog 213 #[.agg #[ι B,v],UP j f r2] w λr E=>(∃x y z:Nat,r=ε (.B #[UP x y z,.i (xZ ⟨B,ts⟩ [j,f,r2]).I])/\[x,y,z]=(xZ ⟨B,ts⟩ [j,f,r2]).g [0,0,0])/\μ w E:=by
 obtain⟨ao,ai,rfl⟩:=h.qy;have hl:=h.len;have aE:=SC (ι j) (ι f) (ι r2);have aG:=SS (ι j) (ι f) (ι r2);have aD:=S1 (ι j) (ι f) (ι r2);unfold UP;go_enter func213,ntmps213;go_wp2;go_loopw [12] (λaA wr=>∃k x y z:Nat,k<=3/\aA=ι k/\Th wr w.o.q #[ι B,.k ao ts.j ai] 204/\Th wr (w.o.q+1) #[ι j,ι f,ι r2] 165/\Th wr (w.o.q+2) #[ι 0,ι 0,ι 0] 165/\Th wr (w.o.q+3) #[ι (x:Nat),ι (y:Nat),ι (z:Nat)] 165/\X (vD ⟨B,ts⟩ [j,f,r2] k=[x,y,z])/\μ w wr) (λi _=>3-(intOf i).D);exact⟨0,0,0,0,η,rfl,(((Th.new w _ _).u zP).u zP).u zP,((Th.newAt _ _ _ _ ζ).u zP).u zP,(Th.newAt _ _ _ _ ζ).u zP,Th.newAt _ _ _ _ ζ,rfl,γ⟩;obtain⟨k,x,y,z,hk,rfl,n,s,q,m,T,b⟩:=hrel;obtain⟨az,a6,a1⟩:=n.e;obtain⟨a8,a0,ay⟩:=s.e;obtain⟨ax,a7,a4⟩:=m.e;have an:=b.q;match k,hk with
 |0,_=>
  by_cases C:0<ts.j
  .have o:X (vD ⟨B,ts⟩ [j,f,r2] 1=if leveled ts[0]=true then [x,y,z].set ts[0].w j else [x,y,z]):=by
    rw[X,vD,T.l];simp[jv,C,List.getD_eq_getElem?_getD]
   obtain⟨g,R,Q,h0,h1,h2⟩:=h.cell 0 C;subst R;have N:=zi b Q h0;have L:=zi b Q h1;have F:=zi b Q h2;simp only[Nat.reduceMul,Nat.reduceAdd] at N L F;have D:g<wr.o.q:=η;have ac:X (∀W,Calls prog 218 #[.agg #[.i ts[0].var,ι (ts[0].z:Nat),ι (ts[0].w:Nat)]] W λr E=>r=ε (.i (leveled ts[0]))/\μ W E):=λW=>iz W ts[0];have P:leveled ts[0]=true->ts[0].w<3:=by simp[leveled]
   clear h0 h1 h2;generalize ts[0]=t at *;generalize leveled t=lb at *;cases lb
   .simp only[gR,if_false] at o;go_wp2_with (go_at_call 218;refine(ac.l _).y ?_;rintro r w2 ⟨rfl,c⟩)
    go_roundw;exact⟨1,x,y,z,η,rfl,n.u c,s.u c,q.u c,m.u c,o,Tk b c⟩;simp[intOf]
   simp only[if_true] at o;have a3:=P rfl;clear P;generalize ak:t.w=lv at *;clear ak;go_wp2_with (go_at_call 218;refine(ac.l _).y ?_;rintro r w2 ⟨rfl,c⟩;have a:=c;have A:=n.u c;obtain⟨af,ad,aa⟩:=A.e;have aj:=zi c D F;have u:=m.u c;obtain⟨ah,ae,V⟩:=u.e;have av:=(ym D c.q);obtain rfl|rfl|rfl:lv=0∨lv=1∨lv=2:=η)
   .have K:X (vD ⟨B,ts⟩ [j,f,r2] 1=[j,y,z]):=by rw[X,o.l];rfl
    have d:=(m.u a).set 0 (ι j);simp at d;have G:=(n.u a).set_ne (show w.o.q≠w.o.q+3 from by omega) 0 (ι j);have J:=(s.u a).set_ne (show w.o.q+1≠w.o.q+3 from by omega) 0 (ι j);have H:=(q.u a).set_ne (show w.o.q+2≠w.o.q+3 from by omega) 0 (ι j);have I:=(Tk b a).x (p:=⟨w.o.q+3,0,Y⟩) ζ (ι j);go_wp2;go_roundw;exact⟨1,j,y,z,η,rfl,G,J,H,d,K,I⟩;simp[intOf]
   .have K:X (vD ⟨B,ts⟩ [j,f,r2] 1=[x,j,z]):=by rw[X,o.l];rfl
    have d:=(m.u a).set 1 (ι j);simp at d;have G:=(n.u a).set_ne (show w.o.q≠w.o.q+3 from by omega) 1 (ι j);have J:=(s.u a).set_ne (show w.o.q+1≠w.o.q+3 from by omega) 1 (ι j);have H:=(q.u a).set_ne (show w.o.q+2≠w.o.q+3 from by omega) 1 (ι j);have I:=(Tk b a).x (p:=⟨w.o.q+3,1,Y⟩) ζ (ι j);go_wp2;go_roundw;exact⟨1,x,j,z,η,rfl,G,J,H,d,K,I⟩;simp[intOf]
   have K:X (vD ⟨B,ts⟩ [j,f,r2] 1=[x,y,j]):=by rw[X,o.l];rfl
   have d:=(m.u a).set 2 (ι j);simp at d;have G:=(n.u a).set_ne (show w.o.q≠w.o.q+3 from by omega) 2 (ι j);have J:=(s.u a).set_ne (show w.o.q+1≠w.o.q+3 from by omega) 2 (ι j);have H:=(q.u a).set_ne (show w.o.q+2≠w.o.q+3 from by omega) 2 (ι j);have I:=(Tk b a).x (p:=⟨w.o.q+3,2,Y⟩) ζ (ι j);go_wp2;go_roundw;exact⟨1,x,y,j,η,rfl,G,J,H,d,K,I⟩;simp[intOf]
  have o:X (vD ⟨B,ts⟩ [j,f,r2] 1=[x,y,z]):=by
   rw[X,vD,T.l];simp[jv,C]
  have ap:ts.j<=0:=η;go_wp2;go_roundw;exact⟨1,x,y,z,η,rfl,n,s,q,m,o,b⟩;simp[intOf]
 |1,_=>
  by_cases C:1<ts.j
  .have o:X (vD ⟨B,ts⟩ [j,f,r2] 2=if leveled ts[1]=true then [x,y,z].set ts[1].w f else [x,y,z]):=by
    rw[X,vD,T.l];simp[jv,C,List.getD_eq_getElem?_getD]
   obtain⟨g,R,Q,h0,h1,h2⟩:=h.cell 1 C;subst R;have N:=zi b Q h0;have L:=zi b Q h1;have F:=zi b Q h2;simp only[Nat.reduceMul,Nat.reduceAdd] at N L F;have D:g<wr.o.q:=η;have ac:X (∀W,Calls prog 218 #[.agg #[.i ts[1].var,ι (ts[1].z:Nat),ι (ts[1].w:Nat)]] W λr E=>r=ε (.i (leveled ts[1]))/\μ W E):=λW=>iz W ts[1];have P:leveled ts[1]=true->ts[1].w<3:=by simp[leveled]
   clear h0 h1 h2;generalize ts[1]=t at *;generalize leveled t=lb at *;cases lb
   .simp only[gR,if_false] at o;go_wp2_with (go_at_call 218;refine(ac.l _).y ?_;rintro r w2 ⟨rfl,c⟩)
    go_roundw;exact⟨2,x,y,z,η,rfl,n.u c,s.u c,q.u c,m.u c,o,Tk b c⟩;simp[intOf]
   simp only[if_true] at o;have a3:=P rfl;clear P;generalize ak:t.w=lv at *;clear ak;go_wp2_with (go_at_call 218;refine(ac.l _).y ?_;rintro r w2 ⟨rfl,c⟩;have a:=c;have A:=n.u c;obtain⟨af,ad,aa⟩:=A.e;have aj:=zi c D F;have u:=m.u c;obtain⟨ah,ae,V⟩:=u.e;have av:=(ym D c.q);obtain rfl|rfl|rfl:lv=0∨lv=1∨lv=2:=η)
   .have K:X (vD ⟨B,ts⟩ [j,f,r2] 2=[f,y,z]):=by rw[X,o.l];rfl
    have d:=(m.u a).set 0 (ι f);simp at d;have G:=(n.u a).set_ne (show w.o.q≠w.o.q+3 from by omega) 0 (ι f);have J:=(s.u a).set_ne (show w.o.q+1≠w.o.q+3 from by omega) 0 (ι f);have H:=(q.u a).set_ne (show w.o.q+2≠w.o.q+3 from by omega) 0 (ι f);have I:=(Tk b a).x (p:=⟨w.o.q+3,0,Y⟩) ζ (ι f);go_wp2;go_roundw;exact⟨2,f,y,z,η,rfl,G,J,H,d,K,I⟩;simp[intOf]
   .have K:X (vD ⟨B,ts⟩ [j,f,r2] 2=[x,f,z]):=by rw[X,o.l];rfl
    have d:=(m.u a).set 1 (ι f);simp at d;have G:=(n.u a).set_ne (show w.o.q≠w.o.q+3 from by omega) 1 (ι f);have J:=(s.u a).set_ne (show w.o.q+1≠w.o.q+3 from by omega) 1 (ι f);have H:=(q.u a).set_ne (show w.o.q+2≠w.o.q+3 from by omega) 1 (ι f);have I:=(Tk b a).x (p:=⟨w.o.q+3,1,Y⟩) ζ (ι f);go_wp2;go_roundw;exact⟨2,x,f,z,η,rfl,G,J,H,d,K,I⟩;simp[intOf]
   have K:X (vD ⟨B,ts⟩ [j,f,r2] 2=[x,y,f]):=by rw[X,o.l];rfl
   have d:=(m.u a).set 2 (ι f);simp at d;have G:=(n.u a).set_ne (show w.o.q≠w.o.q+3 from by omega) 2 (ι f);have J:=(s.u a).set_ne (show w.o.q+1≠w.o.q+3 from by omega) 2 (ι f);have H:=(q.u a).set_ne (show w.o.q+2≠w.o.q+3 from by omega) 2 (ι f);have I:=(Tk b a).x (p:=⟨w.o.q+3,2,Y⟩) ζ (ι f);go_wp2;go_roundw;exact⟨2,x,y,f,η,rfl,G,J,H,d,K,I⟩;simp[intOf]
  have o:X (vD ⟨B,ts⟩ [j,f,r2] 2=[x,y,z]):=by
   rw[X,vD,T.l];simp[jv,C]
  have ap:ts.j<=1:=η;go_wp2;go_roundw;exact⟨2,x,y,z,η,rfl,n,s,q,m,o,b⟩;simp[intOf]
 |2,_=>
  by_cases C:2<ts.j
  .have o:X (vD ⟨B,ts⟩ [j,f,r2] 3=if leveled ts[2]=true then [x,y,z].set ts[2].w r2 else [x,y,z]):=by
    rw[X,vD,T.l];simp[jv,C,List.getD_eq_getElem?_getD]
   obtain⟨g,R,Q,h0,h1,h2⟩:=h.cell 2 C;subst R;have N:=zi b Q h0;have L:=zi b Q h1;have F:=zi b Q h2;simp only[Nat.reduceMul,Nat.reduceAdd] at N L F;have D:g<wr.o.q:=η;have ac:X (∀W,Calls prog 218 #[.agg #[.i ts[2].var,ι (ts[2].z:Nat),ι (ts[2].w:Nat)]] W λr E=>r=ε (.i (leveled ts[2]))/\μ W E):=λW=>iz W ts[2];have P:leveled ts[2]=true->ts[2].w<3:=by simp[leveled]
   clear h0 h1 h2;generalize ts[2]=t at *;generalize leveled t=lb at *;cases lb
   .simp only[gR,if_false] at o;go_wp2_with (go_at_call 218;refine(ac.l _).y ?_;rintro r w2 ⟨rfl,c⟩)
    go_roundw;exact⟨3,x,y,z,η,rfl,n.u c,s.u c,q.u c,m.u c,o,Tk b c⟩;simp[intOf]
   simp only[if_true] at o;have a3:=P rfl;clear P;generalize ak:t.w=lv at *;clear ak;go_wp2_with (go_at_call 218;refine(ac.l _).y ?_;rintro r w2 ⟨rfl,c⟩;have a:=c;have A:=n.u c;obtain⟨af,ad,aa⟩:=A.e;have aj:=zi c D F;have u:=m.u c;obtain⟨ah,ae,V⟩:=u.e;have av:=(ym D c.q);obtain rfl|rfl|rfl:lv=0∨lv=1∨lv=2:=η)
   .have K:X (vD ⟨B,ts⟩ [j,f,r2] 3=[r2,y,z]):=by rw[X,o.l];rfl
    have d:=(m.u a).set 0 (ι r2);simp at d;have G:=(n.u a).set_ne (show w.o.q≠w.o.q+3 from by omega) 0 (ι r2);have J:=(s.u a).set_ne (show w.o.q+1≠w.o.q+3 from by omega) 0 (ι r2);have H:=(q.u a).set_ne (show w.o.q+2≠w.o.q+3 from by omega) 0 (ι r2);have I:=(Tk b a).x (p:=⟨w.o.q+3,0,Y⟩) ζ (ι r2);go_wp2;go_roundw;exact⟨3,r2,y,z,η,rfl,G,J,H,d,K,I⟩;simp[intOf]
   .have K:X (vD ⟨B,ts⟩ [j,f,r2] 3=[x,r2,z]):=by rw[X,o.l];rfl
    have d:=(m.u a).set 1 (ι r2);simp at d;have G:=(n.u a).set_ne (show w.o.q≠w.o.q+3 from by omega) 1 (ι r2);have J:=(s.u a).set_ne (show w.o.q+1≠w.o.q+3 from by omega) 1 (ι r2);have H:=(q.u a).set_ne (show w.o.q+2≠w.o.q+3 from by omega) 1 (ι r2);have I:=(Tk b a).x (p:=⟨w.o.q+3,1,Y⟩) ζ (ι r2);go_wp2;go_roundw;exact⟨3,x,r2,z,η,rfl,G,J,H,d,K,I⟩;simp[intOf]
   have K:X (vD ⟨B,ts⟩ [j,f,r2] 3=[x,y,r2]):=by rw[X,o.l];rfl
   have d:=(m.u a).set 2 (ι r2);simp at d;have G:=(n.u a).set_ne (show w.o.q≠w.o.q+3 from by omega) 2 (ι r2);have J:=(s.u a).set_ne (show w.o.q+1≠w.o.q+3 from by omega) 2 (ι r2);have H:=(q.u a).set_ne (show w.o.q+2≠w.o.q+3 from by omega) 2 (ι r2);have I:=(Tk b a).x (p:=⟨w.o.q+3,2,Y⟩) ζ (ι r2);go_wp2;go_roundw;exact⟨3,x,y,r2,η,rfl,G,J,H,d,K,I⟩;simp[intOf]
  have o:X (vD ⟨B,ts⟩ [j,f,r2] 3=[x,y,z]):=by
   rw[X,vD,T.l];simp[jv,C]
  have ap:ts.j<=2:=η;go_wp2;go_roundw;exact⟨3,x,y,z,η,rfl,n,s,q,m,o,b⟩;simp[intOf]
 |3,_=>
  have HM:X (xZ ⟨B,ts⟩ [j,f,r2]=if (xU ⟨B,ts⟩ [j,f,r2] [x,y,z] 0&&xU ⟨B,ts⟩ [j,f,r2] [x,y,z] 1&&xU ⟨B,ts⟩ [j,f,r2] [x,y,z] 2)=true then Z [x,y,z] else Y):=Kv ((O8 _ _).A T.l);clear T;rw[show((3:Nat):Int)=3 from rfl];go_wp2;have o:X (Th wr w.o.q #[ι B,.k ao ts.j ai] 204/\Th wr (w.o.q+1) #[ι j,ι f,ι r2] 165/\Th wr (w.o.q+2) #[ι 0,ι 0,ι 0] 165/\Th wr (w.o.q+3) #[ι x,ι y,ι z] 165/\μ w wr):=⟨n,s,q,m,b⟩;clear az a6 a1 a8 a0 ay ax a7 a4 an n s q m b;go_loopw [39] (λa9 wr=>∃k:Nat,k<=3/\a9=ι k/\Th wr w.o.q #[ι B,.k ao ts.j ai] 204/\Th wr (w.o.q+1) #[ι j,ι f,ι r2] 165/\Th wr (w.o.q+2) #[ι 0,ι 0,ι 0] 165/\Th wr (w.o.q+3) #[ι x,ι y,ι z] 165/\X (∀i,i<k->xU ⟨B,ts⟩ [j,f,r2] [x,y,z] i=true)/\μ w wr) (λi _=>3-(intOf i).D);obtain⟨q1,q2,q3,q4,q5⟩:=o.l;exact⟨0,η,rfl,q1,q2,q3,q4,(λi hi=>η),q5⟩;clear o;obtain⟨k,hk,rfl,n,s,q,m,HA,b⟩:=hrel;obtain⟨az,a6,a1⟩:=n.e;obtain⟨a8,a0,ay⟩:=s.e;obtain⟨ax,a7,a4⟩:=m.e;obtain⟨aB,aF,aC⟩:=q.e;have an:=b.q;match k,hk with
  |0,_=>
   by_cases C:0<ts.j
   .have M:X (xU ⟨B,ts⟩ [j,f,r2] [x,y,z] 0=jM ts[0] j [x,y,z]):=by unfold xU;rw[X,decide_eq_false (show ¬ts.j<=0 by omega)];simp[List.getD_eq_getElem?_getD,C]
    obtain⟨g,R,Q,h0,h1,h2⟩:=h.cell 0 C;subst R;have N:=zi b Q h0;have L:=zi b Q h1;have F:=zi b Q h2;simp only[Nat.reduceMul,Nat.reduceAdd] at N L F;have D:g<wr.o.q:=η;have aw:(0:Int)<(ts.j:Int):=η;have al:X (∀W,Calls prog 219 #[.agg #[.i ts[0].var,ι (ts[0].z:Nat),ι (ts[0].w:Nat)],ι j,.agg #[ι x,ι y,ι z]] W λr E=>r=ε (.i (jM ts[0] j [x,y,z]))/\μ W E):=λW=>AH W ts[0] j x y z;clear h0 h1 h2;generalize ts[0]=t at *;generalize jM t j [x,y,z]=ab at *;go_wp2;go_region_held3 (λE=>E.p ⟨w.o.q,1,Y⟩=Z (.k (Z ⟨g,0,Y⟩) ts.j ai)/\E.p ⟨g,0,Y⟩=Z (.i t.var)/\E.p ⟨g,1,Y⟩=Z (ι t.z)/\E.p ⟨g,2,Y⟩=Z (ι t.w)/\E.p ⟨w.o.q+1+1+1,0,Y⟩=Z (ι x)/\E.p ⟨w.o.q+1+1+1,1,Y⟩=Z (ι y)/\E.p ⟨w.o.q+1+1+1,2,Y⟩=Z (ι z)) (first|go_keep|(go_simp;done)) (first|(go_at_call 219;refine(al.l _).y ?_;rintro r w2 ⟨rfl,c⟩;have l:μ wr w2:=(zQ γ c (zg _));have A:=n.u l;obtain⟨af,ad,aa⟩:=A.e;have u:=m.u l;obtain⟨ah,ae,V⟩:=u.e;have a5:=zi l D N;have a2:=zi l D L;have aj:=(zi l D F)))
    cases ab
    .have T:X (xZ ⟨B,ts⟩ [j,f,r2]=Y):=by rw[X,HM.l,M.l];simp
     have am:=q.u l;obtain⟨ag,ar,au⟩:=am.e;go_wp2;exact zO (v:=.B #[.agg #[ι 0,ι 0,ι 0],.i false]) (by simp[results,results213,go_sem,ag]) rfl ⟨⟨0,0,0,by rw[T.l];rfl,by rw[T.l];rfl⟩,(((Tk b l).x (p:=⟨w.o.q+2,0,Y⟩) ζ _).x (p:=⟨w.o.q+2,1,Y⟩) ζ _).x (p:=⟨w.o.q+2,2,Y⟩) ζ _⟩
    have S:X (∀i,i<1->xU ⟨B,ts⟩ [j,f,r2] [x,y,z] i=true):=λi hi=>by
     by_cases e:i=0;subst e;exact M.l;exact HA.l i η
    go_wp2;go_roundw;exact⟨1,η,rfl,A,s.u l,q.u l,u,S,Tk b l⟩;simp[intOf]
   have M:X (xU ⟨B,ts⟩ [j,f,r2] [x,y,z] 0=true):=by unfold xU;rw[X,decide_eq_true (show ts.j<=0 by omega)];rfl
   have S:X (∀i,i<1->xU ⟨B,ts⟩ [j,f,r2] [x,y,z] i=true):=λi hi=>by
    by_cases e:i=0;subst e;exact M.l;exact HA.l i η
   have aq:decide ((0:Int)<(ts.j:Int))=false:=decide_eq_false η;go_wp2;go_quiet (fail)
   go_wp2;go_roundw;exact⟨1,η,rfl,n.u (zI (zn _ _) _),s.u (zI (zn _ _) _),q.u (zI (zn _ _) _),m.u (zI (zn _ _) _),S,zI b _⟩;simp[intOf]
  |1,_=>
   by_cases C:1<ts.j
   .have M:X (xU ⟨B,ts⟩ [j,f,r2] [x,y,z] 1=jM ts[1] f [x,y,z]):=by unfold xU;rw[X,decide_eq_false (show ¬ts.j<=1 by omega)];simp[List.getD_eq_getElem?_getD,C]
    obtain⟨g,R,Q,h0,h1,h2⟩:=h.cell 1 C;subst R;have N:=zi b Q h0;have L:=zi b Q h1;have F:=zi b Q h2;simp only[Nat.reduceMul,Nat.reduceAdd] at N L F;have D:g<wr.o.q:=η;have aw:(1:Int)<(ts.j:Int):=η;have al:X (∀W,Calls prog 219 #[.agg #[.i ts[1].var,ι (ts[1].z:Nat),ι (ts[1].w:Nat)],ι f,.agg #[ι x,ι y,ι z]] W λr E=>r=ε (.i (jM ts[1] f [x,y,z]))/\μ W E):=λW=>AH W ts[1] f x y z;clear h0 h1 h2;generalize ts[1]=t at *;generalize jM t f [x,y,z]=ab at *;go_wp2;go_region_held3 (λE=>E.p ⟨w.o.q,1,Y⟩=Z (.k (Z ⟨g,0,Y⟩) ts.j ai)/\E.p ⟨g,3,Y⟩=Z (.i t.var)/\E.p ⟨g,4,Y⟩=Z (ι t.z)/\E.p ⟨g,5,Y⟩=Z (ι t.w)/\E.p ⟨w.o.q+1+1+1,0,Y⟩=Z (ι x)/\E.p ⟨w.o.q+1+1+1,1,Y⟩=Z (ι y)/\E.p ⟨w.o.q+1+1+1,2,Y⟩=Z (ι z)) (first|go_keep|(go_simp;done)) (first|(go_at_call 219;refine(al.l _).y ?_;rintro r w2 ⟨rfl,c⟩;have l:μ wr w2:=(zQ γ c (zg _));have A:=n.u l;obtain⟨af,ad,aa⟩:=A.e;have u:=m.u l;obtain⟨ah,ae,V⟩:=u.e;have a5:=zi l D N;have a2:=zi l D L;have aj:=(zi l D F)))
    cases ab
    .have T:X (xZ ⟨B,ts⟩ [j,f,r2]=Y):=by rw[X,HM.l,M.l];simp
     have am:=q.u l;obtain⟨ag,ar,au⟩:=am.e;go_wp2;exact zO (v:=.B #[.agg #[ι 0,ι 0,ι 0],.i false]) (by simp[results,results213,go_sem,ag]) rfl ⟨⟨0,0,0,by rw[T.l];rfl,by rw[T.l];rfl⟩,(((Tk b l).x (p:=⟨w.o.q+2,0,Y⟩) ζ _).x (p:=⟨w.o.q+2,1,Y⟩) ζ _).x (p:=⟨w.o.q+2,2,Y⟩) ζ _⟩
    have S:X (∀i,i<2->xU ⟨B,ts⟩ [j,f,r2] [x,y,z] i=true):=λi hi=>by
     by_cases e:i=1;subst e;exact M.l;exact HA.l i η
    go_wp2;go_roundw;exact⟨2,η,rfl,A,s.u l,q.u l,u,S,Tk b l⟩;simp[intOf]
   have M:X (xU ⟨B,ts⟩ [j,f,r2] [x,y,z] 1=true):=by unfold xU;rw[X,decide_eq_true (show ts.j<=1 by omega)];rfl
   have S:X (∀i,i<2->xU ⟨B,ts⟩ [j,f,r2] [x,y,z] i=true):=λi hi=>by
    by_cases e:i=1;subst e;exact M.l;exact HA.l i η
   have aq:decide ((1:Int)<(ts.j:Int))=false:=decide_eq_false η;go_wp2;go_quiet (fail)
   go_wp2;go_roundw;exact⟨2,η,rfl,n.u (zI (zn _ _) _),s.u (zI (zn _ _) _),q.u (zI (zn _ _) _),m.u (zI (zn _ _) _),S,zI b _⟩;simp[intOf]
  |2,_=>
   by_cases C:2<ts.j
   .have M:X (xU ⟨B,ts⟩ [j,f,r2] [x,y,z] 2=jM ts[2] r2 [x,y,z]):=by unfold xU;rw[X,decide_eq_false (show ¬ts.j<=2 by omega)];simp[List.getD_eq_getElem?_getD,C]
    obtain⟨g,R,Q,h0,h1,h2⟩:=h.cell 2 C;subst R;have N:=zi b Q h0;have L:=zi b Q h1;have F:=zi b Q h2;simp only[Nat.reduceMul,Nat.reduceAdd] at N L F;have D:g<wr.o.q:=η;have aw:(2:Int)<(ts.j:Int):=η;have al:X (∀W,Calls prog 219 #[.agg #[.i ts[2].var,ι (ts[2].z:Nat),ι (ts[2].w:Nat)],ι r2,.agg #[ι x,ι y,ι z]] W λr E=>r=ε (.i (jM ts[2] r2 [x,y,z]))/\μ W E):=λW=>AH W ts[2] r2 x y z;clear h0 h1 h2;generalize ts[2]=t at *;generalize jM t r2 [x,y,z]=ab at *;go_wp2;go_region_held3 (λE=>E.p ⟨w.o.q,1,Y⟩=Z (.k (Z ⟨g,0,Y⟩) ts.j ai)/\E.p ⟨g,6,Y⟩=Z (.i t.var)/\E.p ⟨g,7,Y⟩=Z (ι t.z)/\E.p ⟨g,8,Y⟩=Z (ι t.w)/\E.p ⟨w.o.q+1+1+1,0,Y⟩=Z (ι x)/\E.p ⟨w.o.q+1+1+1,1,Y⟩=Z (ι y)/\E.p ⟨w.o.q+1+1+1,2,Y⟩=Z (ι z)) (first|go_keep|(go_simp;done)) (first|(go_at_call 219;refine(al.l _).y ?_;rintro r w2 ⟨rfl,c⟩;have l:μ wr w2:=(zQ γ c (zg _));have A:=n.u l;obtain⟨af,ad,aa⟩:=A.e;have u:=m.u l;obtain⟨ah,ae,V⟩:=u.e;have a5:=zi l D N;have a2:=zi l D L;have aj:=(zi l D F)))
    cases ab
    .have T:X (xZ ⟨B,ts⟩ [j,f,r2]=Y):=by rw[X,HM.l,M.l];simp
     have am:=q.u l;obtain⟨ag,ar,au⟩:=am.e;go_wp2;exact zO (v:=.B #[.agg #[ι 0,ι 0,ι 0],.i false]) (by simp[results,results213,go_sem,ag]) rfl ⟨⟨0,0,0,by rw[T.l];rfl,by rw[T.l];rfl⟩,(((Tk b l).x (p:=⟨w.o.q+2,0,Y⟩) ζ _).x (p:=⟨w.o.q+2,1,Y⟩) ζ _).x (p:=⟨w.o.q+2,2,Y⟩) ζ _⟩
    have S:X (∀i,i<3->xU ⟨B,ts⟩ [j,f,r2] [x,y,z] i=true):=λi hi=>by
     by_cases e:i=2;subst e;exact M.l;exact HA.l i η
    go_wp2;go_roundw;exact⟨3,η,rfl,A,s.u l,q.u l,u,S,Tk b l⟩;simp[intOf]
   have M:X (xU ⟨B,ts⟩ [j,f,r2] [x,y,z] 2=true):=by unfold xU;rw[X,decide_eq_true (show ts.j<=2 by omega)];rfl
   have S:X (∀i,i<3->xU ⟨B,ts⟩ [j,f,r2] [x,y,z] i=true):=λi hi=>by
    by_cases e:i=2;subst e;exact M.l;exact HA.l i η
   have aq:decide ((2:Int)<(ts.j:Int))=false:=decide_eq_false η;go_wp2;go_quiet (fail)
   go_wp2;go_roundw;exact⟨3,η,rfl,n.u (zI (zn _ _) _),s.u (zI (zn _ _) _),q.u (zI (zn _ _) _),m.u (zI (zn _ _) _),S,zI b _⟩;simp[intOf]
  |3,_=>
   have T:X (xZ ⟨B,ts⟩ [j,f,r2]=Z [x,y,z]):=by rw[X,HM.l,HA.l 0 η,HA.l 1 η,HA.l 2 η];rfl
   go_wp2;exact zO (v:=.B #[.agg #[ι x,ι y,ι z],.i true]) (by simp[results,results213,go_sem,aB]) rfl ⟨⟨x,y,z,by rw[T.l];rfl,by rw[T.l];rfl⟩,((b.x (p:=⟨w.o.q+2,0,Y⟩) ζ _).x (p:=⟨w.o.q+2,1,Y⟩) ζ _).x (p:=⟨w.o.q+2,2,Y⟩) ζ _⟩
def fC(ps:List (Nat×O)):List Value:=ps.flatMap λx=>[ι (x.1:Nat),x.2]
def Hv:∀(ps:List (Nat×O)) (k:Nat) (a:k<ps.j),(fC ps)[k*2]?=Z (ι (ps[k].1:Nat))/\(fC ps)[k*2+1]?=Z ps[k].2
 |[],k,a=>by simp at a
 |p::r,0,_=>by simp[fC]
 |p::r,k+1,a=>by
  have:=Hv r k (by simpa using a);simp only[fC,uU] at this ⊢;rw[show(k+1)*2=k*2+1+1 from by omega,show k*2+1+1+1=k*2+1+1+1 from rfl];simpa using this
def ux(lo:Nat)(w:U)(v:O)(a:List zw):Prop:=∃b:List (Nat×O),w.r lo 204 2 v a.j (fC b)/\b.j=a.j/\a.j<=1000/\∀k (d:k<a.j) (c:k<b.j),b[k].1=a[k].o/\yu lo w b[k].2 a[k].v/\a[k].o<=1000000
def ux.u{w w':U}{v:O}{d:List zw}(h:ux lo w v d)(e:μ w w'):ux lo w' v d:=by
 obtain⟨i,g,f,j,c⟩:=h;exact⟨i,zy g e,f,j,λk a b=>⟨(c k a b).1,(c k a b).2.1.u e,(c k a b).2.2⟩⟩
def ux.qy{w:U}{v:O}{b:List zw}(h:ux lo w v b):∃d a,v=.k d b.j a:=by obtain⟨e,c,_⟩:=h;exact zr c
def ux.len{w:U}{v:O}{a:List zw}(h:ux lo w v a):a.j<=1000:=by obtain⟨c,_,_,b,_⟩:=h;exact b
def ux.cell{w:U}{l:Option Addr}{n cap:Nat}{c:List zw}(h:ux lo w (.k l n cap) c)(k:Nat)(v:k<c.j):∃g b a,l=Z (δ g)/\g<w.o.q/\w.p (ω g (k*2))=Z (ι (c[k].o:Nat))/\w.p (ω g (k*2+1))=Z (.k b c[k].v.j a)/\yu lo w (.k b c[k].v.j a) c[k].v:=by
 obtain⟨s,u,y,z,r⟩:=h;obtain⟨g,i,f,_,q,j⟩:=yr u η;simp only[O.slice.injEq] at f;obtain⟨rfl,_,_⟩:=f;obtain⟨x,p⟩:=Hv s k η;obtain⟨o,d,_⟩:=r k v η;obtain⟨b,a,t⟩:=d.qy;have e:=j _ _ x;have m:=j _ _ p;rw[o] at e;rw[t] at m d;exact⟨g,b,a,rfl,q,e,m,d⟩
structure vG (lo:Nat) (w:U) (tv pv nv:O) (r:zu):Prop where
 g:yu lo w tv r.g.v
 qc:ux lo w pv r.qc
 qx:ux lo w nv r.qx
 small:r.L<=1000000/\r.m<=1000000/\r.g.o<=1000000
def vG.u{w w':U}{tv c b:O}{r:zu}(h:vG lo w tv c b r)(a:μ w w'):vG lo w' tv c b r:=⟨h.g.u a,h.qc.u a,h.qx.u a,h.small⟩
def gi(r:zu)(tv b a:O):Value:=.agg #[ι r.L,ι r.m,ι r.g.o,tv,b,a]
def Ly(w:U)(tv pv nv:O)(r:zu)(a:Int)(h:vG lo w tv pv nv r):
  Calls prog 220 #[gi r tv pv nv,ι a] w λe C=>e=ε (ι (xM r a))/\μ w C:=by
 obtain⟨M,t,rfl⟩:=h.g.qy;obtain⟨aj,Q,rfl⟩:=h.qc.qy;obtain⟨am,I,rfl⟩:=h.qx.qy;have au:=h.qc.len;have ar:=h.qx.len;have ag:X (∀W,μ w W->Calls prog 225 #[.agg #[ι r.g.o,.k M r.g.v.j t],ι a] W λe C=>e=ε (ι (ku r.g a))/\μ W C):=λW N=>DT W _ r.g.o a r.g.v (h.g.u N);have hP:=h.qc;have hN:=h.qx;have HE:X (xM r a=r.qx.H (qa a) (r.qc.H (qa a) (ku r.g a))):=rfl;unfold gi;clear h;have G:=Th.new w #[ι r.L,ι r.m,ι r.g.o,.k M r.g.v.j t,.k aj r.qc.j Q,.k am r.qx.j I] 207;generalize ku r.g a=S at *;generalize r.qc=b at *;generalize r.qx=c at *;go_enter func220,ntmps220;go_wp2_with (go_at_call 225;refine(ag.l _ γ).y ?_;rintro e w1 ⟨rfl,x⟩;have ak:μ w w1:=zQ γ x (zg _);have s:=G.u x;obtain⟨ao,aa,ab⟩:=s.e)
 clear ao aa ab G x;go_loopw [5,19] (λv5 ap wr=>∃k:Nat,k<=b.j/\ap=ι k/\v5=ι ((b.G k).H (qa a) S)/\μ w1 wr) (λ_ i _=>b.j-(intOf i).D);exact⟨0,zs _,rfl,rfl,zn _ _⟩;obtain⟨k,hk,rfl,rfl,p⟩:=hrel;have q:=Tk ak p;have aq:=q.q;by_cases L:k<b.j
 .obtain⟨g,A,j,z,H,J,P,F⟩:=hP.cell k L;subst z;have ah:=zi q H J;have an:=zi q H P;have al:g<wr.o.q:=η;have K:=Tg (tE b (qa a) S k L);have m:X (∀W,μ w W->Calls prog 226 #[.agg #[ι (b[k].o:Nat),.k A b[k].v.j j],ι a] W λe C=>e=ε (ι (qV b[k] a))/\μ W C):=λW N=>Hh W _ b[k].o a b[k].v (F.u N);clear J P F;generalize b[k]=l at *;generalize (b.G k).H (qa a) S=o at *;have f:X (qa a o l=if qV l a>o then qV l a else o):=rfl;generalize qV l a=ti at *;by_cases n:ti>o
  .rw[zb n] at f;go_wp2_with (go_at_call 226;refine(m.l _ γ).y ?_;rintro e E ⟨rfl,B⟩;have y:μ wr E:=(zQ γ B (zg _)))
   go_roundw;exact⟨k+1,η,ξ,by rw[K.l,f.l],Tk p y⟩;simp[intOf];omega
  rw[za n] at f;go_wp2_with (go_at_call 226;refine(m.l _ γ).y ?_;rintro e E ⟨rfl,B⟩;have y:μ wr E:=(zQ γ B (zg _)))
  go_roundw;exact⟨k+1,η,ξ,by rw[K.l,f.l],Tk p y⟩;simp[intOf];omega
 obtain rfl:k=b.j:=η;rw[uW];generalize b.H (qa a) S=pb at *;have R:=s.u p;obtain⟨ad,ai,ae⟩:=R.e;go_wp2;clear ad ai ae;obtain⟨E,T⟩:∃E,E=wr:=⟨wr,rfl⟩;subst T;go_loopw [5,34] (λv5 af wr=>∃k:Nat,k<=c.j/\af=ι k/\v5=ι ((c.G k).H (qa a) pb)/\μ w wr) (λ_ i _=>c.j-(intOf i).D);exact⟨0,zs _,rfl,rfl,q⟩;obtain⟨k,hk,rfl,rfl,d⟩:=hrel;have ac:=d.q;by_cases u:k<c.j
 .obtain⟨g,A,j,z,H,J,P,F⟩:=hN.cell k u;subst z;have ah:=zi d H J;have an:=zi d H P;have al:g<wr.o.q:=η;have K:=Tg (tE c (qa a) pb k u);have m:X (∀W,μ w W->Calls prog 226 #[.agg #[ι (c[k].o:Nat),.k A c[k].v.j j],ι a] W λe C=>e=ε (ι (qV c[k] a))/\μ W C):=λW N=>Hh W _ c[k].o a c[k].v (F.u N);clear J P F;generalize c[k]=l at *;generalize (c.G k).H (qa a) pb=o at *;have f:X (qa a o l=if qV l a>o then qV l a else o):=rfl;generalize qV l a=ti at *;by_cases n:ti>o
  .rw[zb n] at f;go_wp2_with (go_at_call 226;refine(m.l _ γ).y ?_;rintro e V ⟨rfl,D⟩;have v:μ wr V:=(zQ γ D (zg _)))
   go_roundw;exact⟨k+1,η,ξ,by rw[K.l,f.l],Tk d v⟩;simp[intOf];omega
  rw[za n] at f;go_wp2_with (go_at_call 226;refine(m.l _ γ).y ?_;rintro e V ⟨rfl,D⟩;have v:μ wr V:=(zQ γ D (zg _)))
  go_roundw;exact⟨k+1,η,ξ,by rw[K.l,f.l],Tk d v⟩;simp[intOf];omega
 obtain rfl:k=c.j:=η;rw[uW];go_wp2;go_ret;exact⟨by rw[HE.l];rfl,d⟩
end
section
open Go.Proofs.Tryz
variable {lo:Nat}{w:U}{jb:Nat}
def five{α:Type}{l:List α}(h:l.j=5):∃a b c d e,l=[a,b,c,d,e]:=by
 match l,h with
 |[a,b,c,d,e],_=>exact⟨a,b,c,d,e,rfl⟩
abbrev V4:=O×O×O×O
def lh(t:V4):List Value:=[t.1,t.2.1,t.2.2.1,t.2.2.2]
def yE(a:List V4):List Value:=a.flatMap lh
def i6(b:List V4):(yE b).j=b.j*4:=by
 induction b with
 |nil=>rfl
 |cons a l c=>simp[yE,lh] at c ⊢;omega
def tr:∀(a:List V4) (k:Nat) (b:k<a.j),(yE a)[k*4]?=Z a[k].1/\(yE a)[k*4+1]?=Z a[k].2.1/\(yE a)[k*4+2]?=Z a[k].2.2.1/\(yE a)[k*4+3]?=Z a[k].2.2.2
 |[],k,b=>by simp at b
 |y::r,0,_=>by simp[yE,lh]
 |y::r,k+1,b=>by
  have:=tr r k (by simpa using b);simp only[yE,uU,lh] at this ⊢;rw[show(k+1)*4=k*4+1+1+1+1 from by omega,show k*4+1+1+1+1+2=k*4+2+1+1+1+1 from by omega,show k*4+1+1+1+1+3=k*4+3+1+1+1+1 from by omega];simpa using this
def ft(s:xb)(t:Nat×List Nat):V4:=(.u (Z ⟨t.1,0,Y⟩),ι (s.B.g 0 0:Nat),ι (s.B.g 1 0:Nat),ι (s.B.g 2 0:Nat))
def fd(b:wG)(t:O×Nat×List Nat):V4:=(ι b.lit.o,t.1,ι b.je,.u (Z ⟨t.2.1,0,Y⟩))
def kT(hs:List (Nat×Nat)):List Value:=hs.flatMap λh=>[ι (h.1:Nat),ι (h.2:Nat)]
structure xI where
 tv:O
 sv:O
 bv:O
 hvs:List O
 tbs:List (Nat×List Nat)
 bps:List (O×Nat×List Nat)
def uM(J:zE)(P:xI):List Value:=
 [ι J.g.o,P.tv,ι J.m,P.sv,P.bv]++P.hvs++J.ji.map (O.int .i64)++[ι J.last]++J.P.map TN++J.from.map TN++[ι J.ql,ι J.jg]
structure T7 (lo:Nat) (w:U) (jb:Nat) (J:zE) (P:xI):Prop where
 low:lo<=jb
 box:Th w jb (uM J P).F 310
 g:yu lo w P.tv J.g.v
 ja:w.r lo 323 4 P.sv J.ja.j (yE (List.zipWith ft J.ja P.tbs))
 slen:P.tbs.j=J.ja.j
 tries:∀k (_:k<J.ja.j) (_:k<P.tbs.j),yb lo w P.tbs[k].1 J.ja[k].I P.tbs[k].2
 B:∀s∈J.ja,s.B.j=3
 bars:w.r lo 325 4 P.bv J.bars.j (yE (List.zipWith fd J.bars P.bps))
 blen:P.bps.j=J.bars.j
 jk:∀k (_:k<J.bars.j) (_:k<P.bps.j),yu lo w P.bps[k].1 J.bars[k].lit.v/\yb lo w P.bps[k].2.1 J.bars[k].I P.bps[k].2.2
 hlen:P.hvs.j=5/\J.jf.j=5
 jf:∀p (_:p<J.jf.j) (_:p<P.hvs.j),w.r lo 327 2 P.hvs[p] J.jf[p].j (kT J.jf[p])/\J.jf[p].j<=1000/\∀h∈J.jf[p],h.1<=1000000/\h.2<=1000000
 jl:J.ji.j=5/\J.P.j=5/\J.from.j=5
 K:J.ja.j<=1000/\J.bars.j<=1000/\J.m<=1000000
def yb.notin{tb:Nat}{T:zl}{fp:Φ}(h:yb lo w tb T fp){b:Nat}{c:Array O}{t:TypeId}(f:Th w b c t)(l:t≠229)(k:t≠273)(j:t≠3):b∉fp:=by
 obtain⟨m,n,d,rfl⟩:=h;intro a;simp only[Um,zG,ya] at a;rcases a with a|a|a;subst a;have q:=d.box;unfold Th at q f;rw[f] at q;simp at q;exact l q.2;exact vW d.B f (Ne.symm k) (xa a) rfl;obtain⟨i,g,e|e⟩:=AD a;exact vW (d.D i (by rw[←d.len];exact g) g) f (Ne.symm j) (b:=b) (by rw[e];rfl) rfl;exact vW (d.down i (by rw[←d.len];exact g) g) f (Ne.symm j) (b:=b) (by rw[e];rfl) rfl
def yu.save{w':U}{v:O}{ts:List yi}{N:Φ}(h:yu lo w v ts)(hs:zd N w w')(a:∀b,v.m=Z b->b∉N):yu lo w' v ts:=⟨yQ h.own hs a,h.len,h.z⟩
def T7.u{w w':U}{jb:Nat}{J:zE}{P:xI}(h:T7 lo w jb J P)(c:μ w w'):T7 lo w' jb J P:=
 ⟨h.low,h.box.u c,h.g.u c,zy h.ja c,h.slen,λk a b=>(h.tries k a b).u c,h.B,zy h.bars c,h.blen,λk a b=>⟨(h.jk k a b).1.u c,(h.jk k a b).2.u c⟩,h.hlen,λp a b=>⟨zy (h.jf p a b).1 c,(h.jf p a b).2⟩,h.jl,h.K⟩
def T7.rebox{w':U}{J c:zE}{P:xI}(h:T7 lo w jb J P)(hs:zd [jb] w w')(l:Th w' jb (uM c P).F 310)(t:c.g=J.g)(f:c.ja=J.ja)(i:c.bars=J.bars)(m:c.jf=J.jf)(A:c.m=J.m)(y:c.ji.j=5/\c.P.j=5/\c.from.j=5):T7 lo w' jb c P:=by
 have g:∀{u:Nat} {e:TypeId} {B:Nat} {v:O} {x:Nat} {C:Γ},w.r u e B v x C->e≠310->∀b,v.m=Z b->b∉[jb]:=λD z b n j=>vW D h.box z n (by simpa using j);have o:∀{q:Nat} {T:zl} {s:Φ},yb lo w q T s->yb lo w' q T s:=λr=>r.save hs (λb E j=>by simp at j;subst j;exact r.notin h.box θ θ θ E);refine⟨h.low,l,by rw[t];exact h.g.save hs (g h.g.own θ),by rw[f];exact yQ h.ja hs (g h.ja θ),by rw[f];exact h.slen,λk a b=>?_,by rw[f];exact h.B,by rw[i];exact yQ h.bars hs (g h.bars θ),by rw[i];exact h.blen,λk a b=>?_,by rw[m];exact h.hlen,λp a b=>?_,y,by rw[f,i,A];exact h.K⟩;have d:k<J.ja.j:=by rw[←f];exact a
 simp only[f];exact o (h.tries k d b);have d:k<J.bars.j:=by rw[←i];exact a
 simp only[i];exact⟨(h.jk k d b).1.save hs (g (h.jk k d b).1.own θ),o (h.jk k d b).2⟩;have d:p<J.jf.j:=by rw[←m];exact a
 simp only[m];exact⟨yQ (h.jf p d b).1 hs (g (h.jf p d b).1 θ),(h.jf p d b).2⟩
def T7.at{J:zE}{P:xI}(h:T7 lo w jb J P):jb<w.o.q/\(∀o,w.frozen? (ω jb o)=false)/\w.p (δ jb)=Z (ι J.g.o)/\w.p (ω jb 1)=Z P.tv/\w.p (ω jb 2)=Z (ι J.m)/\w.p (ω jb 3)=Z P.sv/\w.p (ω jb 4)=Z P.bv/\w.p (ω jb 15)=Z (ι J.last)/\w.p (ω jb 26)=Z (ι J.ql)/\w.p (ω jb 27)=Z (ι J.jg):=by
 obtain⟨g,c⟩:=h.box.H;obtain⟨j,a,d⟩:=h.jl;obtain⟨C,z,D,y,k,b⟩:=five h.hlen.1;obtain⟨l,v,A,s,p,i⟩:=five j;obtain⟨q,r,x,t,F,f⟩:=five a;obtain⟨m,u,n,E,B,e⟩:=five d;refine⟨h.box.lt,c,?_,?_,?_,?_,?_,?_,?_,?_⟩<;>rw[g]<;>simp[uM,b,i,f,e]
def T7.setMoves{J:zE}{P:xI}(h:T7 lo w jb J P)(m:Int):T7 lo (w.x (ω jb 27) (ι m)) jb {J with jg:=m} P:=by
 obtain⟨i,a,c⟩:=h.jl;refine h.rebox (zd.set _ _ _ _) ?_ rfl rfl rfl rfl rfl h.jl;obtain⟨B,y,C,x,j,b⟩:=five h.hlen.1;obtain⟨k,u,z,r,o,g⟩:=five i;obtain⟨p,q,v,s,E,e⟩:=five a;obtain⟨l,t,n,D,A,d⟩:=five c;have f:=h.box.set 27 (ι m);simpa [uM,b,g,e,d] using f
def FN(w:U)(jb:Nat)(J:zE)(P:xI)(s l:Nat)(h:T7 lo w jb J P):
  Calls prog 231 #[(π jb),.agg #[ι s,ι l]] w λe m=>e=ε (.i (vY J (s,l)))/\μ w m:=by
 obtain⟨o,k,_,_,_,i,_⟩:=h.at;obtain⟨p,g,j⟩:=zr h.ja;have d:X (vY J (s,l)=(decide (s<J.ja.j)&&decide (l<3))):=rfl;generalize J.ja.j=n at *;by_cases c:s<n
 .by_cases f:l<3
  .have a:(s:Int)<(n:Int):=η;have b:(l:Int)<3:=η;go_enter func231,ntmps231;go_wp2;go_quiet (fail)
   go_wp2;go_ret;exact⟨by rw[d.l];simp[c,f],zI γ _⟩
  have a:(s:Int)<(n:Int):=η;have b:decide ((l:Int)<3)=false:=decide_eq_false η;go_enter func231,ntmps231;go_wp2;go_quiet (fail)
  go_wp2;go_ret;exact⟨by rw[d.l];simp[c,f],zI γ _⟩
 have a:decide ((s:Int)<(n:Int))=false:=decide_eq_false η;go_enter func231,ntmps231;go_wp2;go_quiet (fail)
 go_wp2;go_ret;exact⟨by rw[d.l];simp[c],zI γ _⟩
end
section
open Go.Proofs.Tryz
variable {lo:Nat}
def T7.side{w:U}{i:Nat}{J:zE}{P:xI}(h:T7 lo w i J P)(s l:Nat)(hs:s<J.ja.j)(r:l<3):
  ∃a b j q,P.sv=.k (Z (δ a)) J.ja.j b/\a<w.o.q/\a≠i/\w.p (ω a (s*4))=Z ((π j))/\w.p (ω a (s*4+1+l))=Z (ι ((J.ja[s].B.g l 0:Nat):Int))/\yb lo w j J.ja[s].I q/\(∀o,w.frozen? (ω a o)=false):=by
 obtain⟨a,b,f,_,g,d⟩:=yr h.ja η;have e:s<P.tbs.j:=by rw[h.slen];exact hs
 obtain⟨p,k,m,n⟩:=tr (List.zipWith ft J.ja P.tbs) s υ;simp only[List.getElem_zipWith,ft] at p k m n;have c:=h.ja;rw[f] at c;refine⟨a,b,P.tbs[s].1,P.tbs[s].2,f,g,vW h.ja h.box θ (by rw[f];rfl),d _ _ p,?_,h.tries s hs e,vg c⟩;obtain rfl|rfl|rfl:l=0∨l=1∨l=2:=η
 exact d _ _ k;exact d _ _ m;exact d _ _ n
def R8(w:U)(a:Nat)(J:zE)(P:xI)(s l f:Nat)(h:T7 lo w a J P):
  Calls prog 229 #[(π a),.agg #[ι s,ι l],ι f] w λe t=>e=ε (jJ (qe J (s,l) f).2)/\T7 lo t a (qe J (s,l) f).1 P/\zd [a] w t:=by
 have q:=Tg λW hW=>FN W a J P s l (h.u hW);have Q:=Tg h;cases d:vY J (s,l)
 .have j:X (qe J (s,l) f=(J,Y)):=by simp[X,qe,d]
  go_enter func229,ntmps229;go_wp2_with (go_at_call 231;refine(q.l _ γ).y ?_;rintro e i ⟨rfl,c⟩;have b:μ w i:=zQ γ c (zg _))
  go_ret2
  exact⟨by rw[j.l];rfl,by rw[j.l];exact Q.l.u b,zd.of b⟩
 have z:s<J.ja.j/\l<3:=by simpa [vY] using d
 obtain⟨N,hl⟩:=z;have j:X (qe J (s,l) f=({J with jg:=IntKind.i64.wrap (J.jg+1)},yF J.ja[s].I (J.ja[s].B.g l 0) f)):=by simp[X,qe,d,List.getD_eq_getElem?_getD,N]
 obtain⟨ab,_⟩:=h.at;go_enter func229,ntmps229;go_wp2_with (go_at_call 231;refine(q.l _ γ).y ?_;rintro e i ⟨rfl,c⟩;have b:μ w i:=zQ γ c (zg _);have g:=Q.l.u b;obtain⟨L,K,_,_,_,ac,_,_,_,S⟩:=g.at;have o:=(Th.new w #[ι s,ι l] 327).u c;obtain⟨y,C,V⟩:=o.e;have v:=Tg g;clear g)
 have u:IntKind.i64.wrap (J.jg+1)=wrap64 (J.jg+1):=by rw[IntKind.wrap_i64];unfold wrap64;rfl
 rw[u] at j;have m:X (T7 lo (i.x (ω a 27) (ι (wrap64 (J.jg+1)))) a {J with jg:=wrap64 (J.jg+1)} P):=v.l.setMoves _;have x:w.o.q≠a:=η;have r:=o.set_ne x 27 (ι (wrap64 (J.jg+1)));have A:zd [a] w (i.x (ω a 27) (ι (wrap64 (J.jg+1)))):=(zd.of b).A (zd.set _ _ _ _);generalize i.x (ω a 27) (ι (wrap64 (J.jg+1)))=T at *;have p:=m.l;obtain⟨I,R,_,_,_,aa,_⟩:=p.at;obtain⟨af,F,k,D,H,G,_,ae,ad,B,_⟩:=p.side s l N hl;obtain⟨y,C⟩:=r.H;have E:X (∀n,Calls prog 167 #[(π k),ι ((J.ja[s].B.g l 0:Nat):Int),ι f] (T.drewN n) λe t=>e=ε (.B #[ι (((yF J.ja[s].I (J.ja[s].B.g l 0) f).g 0:Nat):Int),.i (yF J.ja[s].I (J.ja[s].B.g l 0) f).I])/\t=T.drewN n):=λn=>tD _ k _ D _ f (B.u (zI (zn _ _) n));generalize J.ja[s].B.g l 0=nd at *;go_quiet ((go_at_call 167;exact Calls.quiet_of_same (E.l _)))
 go_wp2;go_ret2
 exact⟨by rw[j.l];rfl,by rw[j.l];exact m.l.u (zI (zn _ _) _),A.newer (zd.of (M:=[]) (zI (zn _ _) _)) ζ⟩
def Ab:∀(hs:List (Nat×Nat)) (k:Nat) (a:k<hs.j),(kT hs)[k*2]?=Z (ι (hs[k].1:Nat))/\(kT hs)[k*2+1]?=Z (ι (hs[k].2:Nat))
 |[],k,a=>by simp at a
 |p::r,0,_=>by simp[kT]
 |p::r,k+1,a=>by
  have:=Ab r k (by simpa using a);simp only[kT,uU] at this ⊢;rw[show(k+1)*2=k*2+1+1 from by omega,show k*2+1+1+1=k*2+1+1+1 from rfl];simpa using this
def T7.hold{w:U}{j:Nat}{J:zE}{P:xI}(h:T7 lo w j J P)(p:Nat)(r:p<5):∃g a,w.p (ω j (5+p))=Z (.k g (J.jf.g p []).j a)/\(J.jf.g p []).j<=1000/\∀k (q:k<(J.jf.g p []).j),∃b,g=Z (δ b)/\b<w.o.q/\b≠j/\w.p (ω b (k*2))=Z (ι ((J.jf.g p [])[k].1:Nat))/\w.p (ω b (k*2+1))=Z (ι ((J.jf.g p [])[k].2:Nat)):=by
 have o:p<J.jf.j:=by rw[h.hlen.2];exact r
 have t:p<P.hvs.j:=by rw[h.hlen.1];exact r
 have e:J.jf.g p []=J.jf[p]:=by simp[List.getD_eq_getElem?_getD,o]
 rw[e];obtain⟨l,v,_⟩:=h.jf p o t;obtain⟨g,a,m⟩:=zr l;obtain⟨x,_⟩:=h.box.H;refine⟨g,a,?_,v,λk q=>?_⟩
 .rw[←m,x];obtain⟨C,B,D,A,z,s⟩:=five h.hlen.1;obtain rfl|rfl|rfl|rfl|rfl:p=0∨p=1∨p=2∨p=3∨p=4:=η
  all_goals simp[uM,s]
 obtain⟨b,n,c,_,i,f⟩:=yr l η;have d:=m.symm.A c;simp only[O.slice.injEq] at d;obtain⟨y,u⟩:=Ab J.jf[p] k q;exact⟨b,d.1,i,vW l h.box θ (by rw[c];rfl),f _ _ y,f _ _ u⟩
def Iy(J:zE)(h:Nat×Nat)(f:Nat):(qe J h f).1.jf=J.jf:=by unfold qe;split<;>rfl
def QW(w:U)(x:Nat)(J:zE)(P:xI)(p f n:Nat)(Q:zE)(r:Option Nat)(h:T7 lo w x J P)(C:l6 n J p f=Z (Q,r)):
  Calls prog 227 #[(π x),ι p,ι f] w λe w'=>e=ε (jJ r)/\T7 lo w' x Q P/\zd [x] w w':=by
 have HJ:=Tg h;unfold l6 at C;by_cases h5:p≥5
 .rw[zb (zh h5)] at C;simp only[zt,ye] at C;obtain⟨rfl,rfl⟩:=C;clear h;go_enter func227,ntmps227;go_wp2;go_ret2
  exact⟨rfl,HJ.l,zd.refl _ _⟩
 obtain⟨ao,am,D,ac,ad⟩:=h.hold p η;clear ad;obtain⟨al,ak,_⟩:=h.at;by_cases h0:(J.jf.g p []).j=0
 .rw[zb (ze h0)] at C;simp only[zt,ye] at C;obtain⟨rfl,rfl⟩:=C;clear h;generalize (J.jf.g p []).j=hn at *;subst h0;go_enter func227,ntmps227;go_wp2;go_ret2
  exact⟨rfl,HJ.l,zd.refl _ _⟩
 rw[za η] at C;have HR:=Tg C;clear C h;have F:(J.jf.g p []).j>0:=η;obtain⟨d,K⟩:∃d,d=J.jf.g p []:=⟨_,rfl⟩;rw[←K] at HR D ac F;have V:=Tg K;clear K;have ap:((d.j:Int) == 0)=false:=beq_eq_false_iff_ne.2 η;go_enter func227,ntmps227;go_wp2;go_loopg [8,9,10] n (λk v8 v9 af wr=>∃(B:zE) (at' c a:Nat),v8=ι at'/\v9=ι c/\af=ι a/\X (gE k B d at' c a=Z (Q,r))/\X (T7 lo wr x B P)/\X (B.jf=J.jf)/\zd [x] w wr/\c<=d.j/\a<d.j)
 case atStart=>exact⟨J,f,0,0,rfl,rfl,rfl,HR,HJ,rfl,zd.refl _ _,η,F⟩
 clear D;obtain⟨B,at',c,a,rfl,rfl,rfl,HQ,L,aa,u,an,ab⟩:=hrel;have I:=L.l;obtain⟨ai,aj,_⟩:=I.at;obtain⟨av,ah,D,_,s⟩:=I.hold p η;rw[aa.l,←V.l] at D s;obtain⟨hb,ae,au,aq,ar,aw⟩:=s a ab;subst ae;clear s I;rcases gk with _|m;have q:=HQ.l;simp[gE] at q;have q:=HQ.l;unfold gE at q;by_cases S:c<d.j
 .rw[zb S] at q;have eg:d.g a (0,0)=d[a]:=by simp[List.getD_eq_getElem?_getD,ab]
  rw[eg] at q;have o:X (Calls prog 229 #[(π x),.agg #[ι (d[a].1:Nat),ι (d[a].2:Nat)],ι at'] wr λe w'=>e=ε (.B #[ι (((qe B d[a] at').2.g 0:Nat):Int),.i (qe B d[a] at').2.I])/\T7 lo w' x (qe B d[a] at').1 P/\zd [x] wr w'):=R8 wr x B P d[a].1 d[a].2 at' L.l;have N:=Iy B d[a] at';generalize ag:qe B d[a] at'=lj at *;clear ag;obtain⟨H,r2⟩:=lj;generalize d[a]=hd at *;simp only at q o N;rcases r2 with _|v
  .simp only[zt,ye] at q;obtain⟨R,e2⟩:=q;simp only[kG,kN] at o;have HE:X (Q=H/\r=Y):=⟨R.symm,e2.symm⟩;clear R e2;go_wp2_with (go_at_call 229;refine o.l.y ?_;rintro e G ⟨rfl,b,l⟩;have j:=Tg b;clear b)
   go_ret2
   exact⟨by rw[HE.l.2];rfl,by rw[HE.l.1];exact j.l,u.A l⟩
  simp only[uD,j8] at o;have i:X (gE m H d (if v>at' then v else at') ((if v>at' then 0 else c)+1) (if a+1≥d.j then 0 else a+1)=Z (Q,r)):=q;have y:=Tg (N.A aa.l);have E:X (∀W,T7 lo W x H P->∃t g,W.p (ω x (5+p))=Z (.k t d.j g)):=λW hW=>by
   obtain⟨t,g,q1,_⟩:=hW.hold p η;rw[y.l,←V.l] at q1;exact⟨t,g,q1⟩
  clear q N;by_cases hv:v>at'
  .rw[zb hv,zb hv] at i;by_cases T:a+1≥d.j
   .rw[zb T] at i;go_wp2_with (go_at_call 229;refine o.l.y ?_;rintro e G ⟨rfl,b,l⟩;have j:=Tg b;obtain⟨t,g,M⟩:=E.l G b;obtain⟨z,A,_⟩:=b.at;clear b)
    go_roundg m
    case measure=>omega
    exact⟨H,v,1,0,rfl,rfl,rfl,i,j,y,u.A l,η,η⟩
   rw[za T] at i;go_wp2_with (go_at_call 229;refine o.l.y ?_;rintro e G ⟨rfl,b,l⟩;have j:=Tg b;obtain⟨t,g,M⟩:=E.l G b;obtain⟨z,A,_⟩:=b.at;clear b)
   go_roundg m
   case measure=>omega
   exact⟨H,v,1,a+1,rfl,rfl,ξ,i,j,y,u.A l,η,η⟩
  rw[za hv,za hv] at i;by_cases T:a+1≥d.j
  .rw[zb T] at i;go_wp2_with (go_at_call 229;refine o.l.y ?_;rintro e G ⟨rfl,b,l⟩;have j:=Tg b;obtain⟨t,g,M⟩:=E.l G b;obtain⟨z,A,_⟩:=b.at;clear b)
   go_roundg m
   case measure=>omega
   exact⟨H,at',c+1,0,rfl,ξ,rfl,i,j,y,u.A l,η,η⟩
  rw[za T] at i;go_wp2_with (go_at_call 229;refine o.l.y ?_;rintro e G ⟨rfl,b,l⟩;have j:=Tg b;obtain⟨t,g,M⟩:=E.l G b;obtain⟨z,A,_⟩:=b.at;clear b)
  go_roundg m
  case measure=>omega
  exact⟨H,at',c+1,a+1,rfl,ξ,ξ,i,j,y,u.A l,η,η⟩
 rw[za S] at q;simp only[zt,ye] at q;obtain⟨R,e2⟩:=q;have HE:X (Q=B/\r=Z at'):=⟨R.symm,e2.symm⟩;clear R e2;go_wp2;go_ret2
 exact⟨by rw[HE.l.2];rfl,by rw[HE.l.1];exact L.l,u⟩
def Ic:∀(a:List V4) (k:Nat) (_:k<a.j) (u:O),(yE a).set (k*4+2) u=yE (a.modify k λy=>(y.1,y.2.1,u,y.2.2.2))
 |[],k,b,_=>by simp at b
 |y::r,0,_,u=>by simp[yE,lh]
 |y::r,k+1,b,u=>by
  have:=Ic r k (by simpa using b) u;simp only[yE,uU,lh,List.modify_succ_cons] at this ⊢;rw[show(k+1)*4+2=k*4+2+1+1+1+1 from by omega];simpa using this
def F6:∀(a:List V4) (k:Nat) (_:k<a.j) (u:O),(yE a).set (k*4+3) u=yE (a.modify k λy=>(y.1,y.2.1,y.2.2.1,u))
 |[],k,b,_=>by simp at b
 |y::r,0,_,u=>by simp[yE,lh]
 |y::r,k+1,b,u=>by
  have:=F6 r k (by simpa using b) u;simp only[yE,uU,lh,List.modify_succ_cons] at this ⊢;rw[show(k+1)*4+3=k*4+3+1+1+1+1 from by omega];simpa using this
def T7.setNode{w:U}{C:Nat}{J:zE}{P:xI}(h:T7 lo w C J P)(s i n:Nat)(hs:s<J.ja.j)(M:i=1∨i=2){g cap:Nat}(z:P.sv=.k (Z (δ g)) J.ja.j cap):
  T7 lo (w.x (ω g (s*4+1+i)) (ι n)) C {J with ja:=J.ja.set s {J.ja[s] with B:=J.ja[s].B.set i n}} P:=by
 have c:=zd.set w g (s*4+1+i) (ι n);have d:=h.ja;rw[z] at d;have F:s<P.tbs.j:=by rw[h.slen];exact hs
 have f:=h.B _ (zq hs);have m:∀{G:Nat} {e:TypeId} {L:Nat} {v:O} {I:Nat} {N:Γ},w.r G e L v I N->e≠323->∀b,v.m=Z b->b∉[g]:=λR K b u l=>nO R d K u (by simp at l;rw[l];rfl);obtain⟨t,o⟩:=Hb d;have r:∀{A:Nat} {T:zl} {D:Φ},yb lo w A T D->yb lo (w.x (ω g (s*4+1+i)) (ι n)) A T D:=λB=>B.save c (λb V l=>by simp at l;subst l;exact B.notin (show Th w _ t 323 from o) θ θ θ V);refine⟨h.low,h.box.save c (by have:=vW d h.box θ rfl;simpa using Ne.symm this),h.g.save c (m h.g.own θ),?_,by simpa using h.slen,λk a b=>?_,λx S=>?_,yQ h.bars c (m h.bars θ),h.blen,λk a b=>⟨(h.jk k a b).1.save c (m (h.jk k a b).1.own θ),r (h.jk k a b).2⟩,h.hlen,λp a b=>⟨yQ (h.jf p a b).1 c (m (h.jf p a b).1 θ),(h.jf p a b).2⟩,h.jl,by simpa using h.K⟩;have E:(yE (List.zipWith ft J.ja P.tbs)).j=J.ja.j*4:=by rw[i6];simp[h.slen]
 have q:=uB d (s*4+1+i) η (ι n);rw[z];have e:(yE (List.zipWith ft J.ja P.tbs)).set (s*4+1+i) (ι n)=yE (List.zipWith ft (J.ja.set s {J.ja[s] with B:=J.ja[s].B.set i n}) P.tbs):=by
  have y:s<(List.zipWith ft J.ja P.tbs).j:=by simp;omega
  rcases M with rfl|rfl;rw[show s*4+1+1=s*4+2 from by omega,Ic _ s y];congr 1;apply jy;simp;intro j Q H;by_cases e:s=j;subst e;simp[ft,List.getD_eq_getElem?_getD,f];simp[e];rw[show s*4+1+2=s*4+3 from by omega,F6 _ s y];congr 1;apply jy;simp;intro j Q H;by_cases e:s=j;subst e;simp[ft,List.getD_eq_getElem?_getD,f];simp[e]
 rw[e] at q;simpa using q;simp only[fo] at a;simp only[lV];split;rename_i e;subst e;exact r (h.tries s hs b);exact r (h.tries k a b);rcases lK S with q|q;exact h.B x q;subst q;simp[f]
def Iv(w:U)(C:Nat)(J:zE)(P:xI)(s l v:Nat)(h:T7 lo w C J P)(aq:l<=1000000):
  Calls prog 230 #[(π C),.agg #[ι s,ι l],ι v] w λe w'=>e=ε (.B #[])/\T7 lo w' C (vw v J (s,l)) P/\zd P.sv.m.toList w w':=by
 have j:=Tg λW hW=>FN W C J P s l (h.u hW);have HJ:=Tg h;cases b:vY J (s,l)
 .have V:X (vw v J (s,l)=J):=by simp[X,vw,b]
  rw[b] at j;clear b h;go_enter func230,ntmps230;go_wp2_with (go_at_call 231;refine(j.l _ γ).y ?_;rintro e f ⟨rfl,g⟩;have d:μ w f:=zQ γ g (zg _))
  (try simp only[Exit.inBlock,Exit.then]);refine zO (results_none rfl _ _ _) rfl ?_
  exact⟨rfl,by rw[V.l];exact HJ.l.u d,zd.of d⟩
 have ac:s<J.ja.j/\l<3:=by simpa [vY] using b
 obtain⟨F,hl⟩:=ac;by_cases H:l+1≥3
 .have V:X (vw v J (s,l)=J):=by simp[X,vw,H]
  rw[b] at j;clear b h;go_enter func230,ntmps230;go_wp2_with (go_at_call 231;refine(j.l _ γ).y ?_;rintro e f ⟨rfl,g⟩;have d:μ w f:=zQ γ g (zg _);have k:=(Th.new w #[ι s,ι l] 327).u g;obtain⟨z,B,t⟩:=k.e)
  (try simp only[Exit.inBlock,Exit.then]);refine zO (results_none rfl _ _ _) rfl ?_
  exact⟨rfl,by rw[V.l];exact HJ.l.u d,zd.of d⟩
 have V:X (vw v J (s,l)={J with ja:=J.ja.set s {J.ja[s] with B:=J.ja[s].B.set (l+1) ((zJ J.ja[s].I (J.ja[s].B.g l 0) v).g 0)}}):=by simp[X,vw,b,H,List.getD_eq_getElem?_getD,F]
 rw[b] at j;have ar:(s:Int)<(J.ja.j:Int):=η;have aw:(l:Int)<3:=η;have ao:(l:Int)+1<3:=η;obtain⟨an,_⟩:=h.at;clear b h;go_enter func230,ntmps230;go_wp2_with (go_at_call 231;refine(j.l _ γ).y ?_;rintro e f ⟨rfl,g⟩;have d:μ w f:=zQ γ g (zg _);have k:=(Th.new w #[ι s,ι l] 327).u g;obtain⟨z,B,t⟩:=k.e)
 have i:=Tg (HJ.l.u d);have A:=i.l;obtain⟨r,N,_,_,_,y,_⟩:=A.at;obtain⟨D,au,tb,fp,m,E,av,ad,ae,Q,aa⟩:=A.side s l F hl;rw[m] at y;have S:X (∀n,Calls prog 130 #[(π tb),ι ((J.ja[s].B.g l 0:Nat):Int),ι v] (f.drewN n) λe w'=>e=ε (.B #[ι (((zJ J.ja[s].I (J.ja[s].B.g l 0) v).g 0:Nat):Int),.i (zJ J.ja[s].I (J.ja[s].B.g l 0) v).I])/\w'=f.drewN n):=λn=>pM _ tb _ fp _ v (Q.u (zI (zn _ _) n));have G:X (∀W n,μ f W->T7 lo (W.x ⟨D,s*4+1+(l+1),Y⟩ (ι ((n:Nat):Int))) C {J with ja:=J.ja.set s {J.ja[s] with B:=J.ja[s].B.set (l+1) n}} P):=λW n hW=>(i.l.u hW).setNode s (l+1) n F η m;have ag:X (P.sv.m.toList=[D]):=by rw[X,m];rfl
 have x:∃u,f.p ⟨D,s*4+1+(l+1),Y⟩=Z u:=by
  obtain⟨aj,L,ai,ab,a,_,_,_,q,_⟩:=i.l.side s (l+1) F η;rw[m] at a;simp only[O.slice.injEq,zt,Addr.mk.injEq] at a;obtain⟨⟨rfl,_⟩,_⟩:=a;exact⟨_,q⟩
 obtain⟨u,I⟩:=x;clear Q A;generalize (zJ J.ja[s].I (J.ja[s].B.g l 0) v).g 0=dn at *;generalize (zJ J.ja[s].I (J.ja[s].B.g l 0) v).I=ds at *;generalize J.ja[s].B.g l 0=nd at *;go_quiet ((go_at_call 130;exact Calls.quiet_of_same (S.l _)))
 have c:μ f (f.drewN nq):=zI (zn _ _) _;clear z B t r N aa S;have al:=(c.cell (p:=(ω C 3)) (i.l.box.lt)).A y;have am:=zi c E I;have T:=k.u c;have K:=G.l _ dn c;have ap:∀o,(f.drewN nq).frozen? (ω D o)=false:=by
  obtain⟨aj,L,ai,ab,a,_,_,_,_,_,q⟩:=(i.l.u c).side s l F hl;rw[m] at a;simp only[O.slice.injEq,zt,Addr.mk.injEq] at a;obtain⟨⟨rfl,_⟩,_⟩:=a;exact q
 have ah:zd [D] w (f.drewN nq):=zd.of (Tk d c);have ak:=ym E c.q;have r:=ym i.l.box.lt c.q;have ax:D≠w.o.q:=λe=>by
  have R:=i.l.ja;rw[m] at R;exact vW R k θ rfl e
 generalize f.drewN nq=w2 at *;have af:=Tg K;clear K G y I ad ae k HJ j;obtain⟨z,B,t⟩:=T.e;go_wp2;go_region
 all_goals
  go_wp2;go_end0
  exact⟨rfl,by rw[V.l];exact af.l.u (zn _ _).drew,by rw[ag.l];exact(ah.A (zd.set _ _ _ _)).newer (zd.of (M:=[]) (zn _ _).drew) ζ⟩
end
section
open Go.Proofs.Tryz
variable {lo:Nat}{w:U}{jb:Nat}{J:zE}{P:xI}
def T7.hold2(h:T7 lo w jb J P)(p:Nat)(r:p<5):∃f a,P.hvs[p]?=Z (.k f (J.jf.g p []).j a)/\w.p (ω jb (5+p))=Z (.k f (J.jf.g p []).j a)/\(J.jf.g p []).j<=1000/\(∀k (m:k<(J.jf.g p []).j),∃b,f=Z (δ b)/\b<w.o.q/\w.p (ω b (k*2))=Z (ι ((J.jf.g p [])[k].1:Nat))/\w.p (ω b (k*2+1))=Z (ι ((J.jf.g p [])[k].2:Nat))/\(J.jf.g p [])[k].2<=1000000):=by
 have q:p<J.jf.j:=by rw[h.hlen.2];exact r
 have n:p<P.hvs.j:=by rw[h.hlen.1];exact r
 have e:J.jf.g p []=J.jf[p]:=by simp[List.getD_eq_getElem?_getD,q]
 rw[e];obtain⟨s,v,l⟩:=h.jf p q n;obtain⟨f,a,i⟩:=zr s;obtain⟨x,_⟩:=h.box.H;refine⟨f,a,by rw[yn n,i],?_,v,λk m=>?_⟩
 .rw[←i,x];obtain⟨C,B,D,A,z,t⟩:=five h.hlen.1;obtain rfl|rfl|rfl|rfl|rfl:p=0∨p=1∨p=2∨p=3∨p=4:=η
  all_goals simp[uM,t]
 obtain⟨b,o,g,_,j,d⟩:=yr s η;have c:=i.symm.A g;simp only[O.slice.injEq] at c;obtain⟨y,u⟩:=Ab J.jf[p] k m;exact⟨b,c.1,j,d _ _ y,d _ _ u,(l _ (zq m)).2⟩
def fa(J:zE)(p v:Nat):zE:={J with P:=J.P.set p v,«from»:=(if p+1<5 then(J.from.set p (v+1)).set (p+1) 0 else J.from.set p (v+1))}
def KF(J:zE)(p v:Nat)(a:p<5):uE J p v=(J.jf.g p []).H (vw v) (fa J p v):=by unfold uE;rw[za η];rfl
def T7.setVal(h:T7 lo w jb J P)(p v:Nat)(i:p+1<5):T7 lo (((w.x (ω jb (16+p)) (ι v)).x (ω jb (21+p)) (ι ((v:Int)+1))).x ⟨jb,21+(p+1),Y⟩ (ι 0)) jb (fa J p v) P:=by
 obtain⟨c,a,b⟩:=h.jl;refine h.rebox (((zd.set _ _ _ _).A (zd.set _ _ _ _)).A (zd.set _ _ _ _)) ?_ rfl rfl rfl rfl rfl (by simp[fa,i,c,a,b]);obtain⟨D,A,E,z,k,d⟩:=five h.hlen.1;obtain⟨l,x,B,s,o,j⟩:=five c;obtain⟨q,r,y,t,G,f⟩:=five a;obtain⟨m,u,n,F,C,e⟩:=five b;have g:=((h.box.set (16+p) (ι v)).set (21+p) (ι ((v:Int)+1))).set (21+(p+1)) (ι 0);obtain rfl|rfl|rfl|rfl:p=0∨p=1∨p=2∨p=3:=η
 all_goals simpa [uM,fa,d,j,f,e,TN] using g
def T7.setVal4(h:T7 lo w jb J P)(p v:Nat)(D:p<5)(r:¬p+1<5):T7 lo ((w.x (ω jb (16+p)) (ι v)).x (ω jb (21+p)) (ι ((v:Int)+1))) jb (fa J p v) P:=by
 obtain rfl:p=4:=η;obtain⟨c,a,b⟩:=h.jl;refine h.rebox ((zd.set _ _ _ _).A (zd.set _ _ _ _)) ?_ rfl rfl rfl rfl rfl (by simp[fa,c,a,b]);obtain⟨E,A,F,z,j,d⟩:=five h.hlen.1;obtain⟨k,x,B,s,n,i⟩:=five c;obtain⟨o,q,y,t,H,f⟩:=five a;obtain⟨l,u,m,G,C,e⟩:=five b;have g:=(h.box.set (16+4) (ι v)).set (21+4) (ι ((v:Int)+1));simpa [uM,fa,d,i,f,e,TN] using g
def Qv(v:Nat)(J:zE)(h:Nat×Nat):(vw v J h).jf=J.jf:=by unfold vw;split<;>rfl
def FS(v:Nat):∀(hs:List (Nat×Nat)) (J:zE),(hs.H (vw v) J).jf=J.jf
 |[],J=>rfl
 |h::r,J=>by rw[uG,FS v r,Qv]
def T7.vals(h:T7 lo w jb J P)(p:Nat)(B:p<5):w.p (ω jb (16+p))=Z (ι (J.P.g p 0:Nat))/\w.p (ω jb (21+p))=Z (ι (J.from.g p 0:Nat))/\w.p (ω jb (10+p))=Z (ι (J.ji.g p 0)):=by
 obtain⟨a,_⟩:=h.box.H;obtain⟨i,b,d⟩:=h.jl;obtain⟨C,y,D,x,j,c⟩:=five h.hlen.1;obtain⟨k,u,z,r,n,g⟩:=five i;obtain⟨o,q,v,s,F,f⟩:=five b;obtain⟨l,t,m,E,A,e⟩:=five d;rw[a,a,a];obtain rfl|rfl|rfl|rfl|rfl:p=0∨p=1∨p=2∨p=3∨p=4:=η
 all_goals simp[uM,c,g,f,e,TN]
def Oo(w:U)(jb:Nat)(J:zE)(P:xI)(p v:Nat)(h:T7 lo w jb J P)(hv:v<=1000000):
  Calls prog 228 #[(π jb),ι p,ι v] w λe u=>e=ε (.B #[])/\T7 lo u jb (uE J p v) P/\zd (jb::P.sv.m.toList) w u:=by
 have HJ:=Tg h;by_cases F:p<5
 .have A:=Tg (KF J p v F);obtain⟨E,B,_⟩:=h.at;obtain⟨y,o,_⟩:=h.vals p F;by_cases N:p+1<5;obtain⟨_,L,_⟩:=h.vals (p+1) N;have C:(p:Int)<5:=η;have G:(p:Int)+1<5:=η;have f:=h.setVal p v N;have s:zd [jb] w (((w.x (ω jb (16+p)) (ι v)).x (ω jb (21+p)) (ι ((v:Int)+1))).x ⟨jb,21+(p+1),Y⟩ (ι 0)):=((zd.set _ _ _ _).A (zd.set _ _ _ _)).A (zd.set _ _ _ _);clear h;go_enter func228,ntmps228;go_upto_region 5 with fail
  clear y o L;generalize (((w.x (ω jb (16+p)) (ι v)).x (ω jb (21+p)) (ι ((v:Int)+1))).x ⟨jb,21+(p+1),Y⟩ (ι 0))=w1 at *;rotate_left
  have C:(p:Int)<5:=η;have G:¬(p:Int)+1<5:=η;have f:=h.setVal4 p v F N;have s:zd [jb] w ((w.x (ω jb (16+p)) (ι v)).x (ω jb (21+p)) (ι ((v:Int)+1))):=(zd.set _ _ _ _).A (zd.set _ _ _ _);clear h;go_enter func228,ntmps228;go_upto_region 5 with fail
  clear y o;generalize ((w.x (ω jb (16+p)) (ι v)).x (ω jb (21+p)) (ι ((v:Int)+1)))=w1 at *
  all_goals
   have j:=Tg f;clear f E B;obtain⟨ao,ac,c,g,d,_⟩:=j.l.hold2 p η;obtain⟨n,m,_⟩:=j.l.at;rw[show(fa J p v).jf=J.jf from rfl] at c g d;obtain⟨a,l⟩:∃a,a=J.jf.g p []:=⟨_,rfl⟩;rw[←l] at c g d A;have Q:=Tg l;have S:=Tg c;clear l c;go_wp2;clear g n m;generalize decide ((p:Int)<0)=ab;generalize decide ((5:Int)<=(p:Int))=af;go_loopw [43] (λT wr=>∃k:Nat,k<=a.j/\T=ι k/\X (T7 lo wr jb ((a.G k).H (vw v) (fa J p v)) P)/\zd (jb::P.sv.m.toList) w wr) (λi _=>a.j-(intOf i).D);exact⟨0,zs _,rfl,j,s.more ζ⟩;obtain⟨k,hk,rfl,b,t⟩:=hrel;by_cases r:k<a.j
   .obtain⟨aa,V,z,_,_,R⟩:=b.l.hold2 p η;rw[FS,show(fa J p v).jf=J.jf from rfl,←Q.l] at z R;rw[S.l] at z;simp only[zt,O.slice.injEq] at z;obtain⟨rfl,_,rfl⟩:=z;obtain⟨hb,rfl,ae,ad,ag,I⟩:=R k r;have HS:=Tg (tE a (vw v) (fa J p v) k r);have HD:X (∀W,μ wr W->Calls prog 230 #[(π jb),.agg #[ι (a[k].1:Nat),ι (a[k].2:Nat)],ι v] W λe u=>e=ε (.B #[])/\T7 lo u jb (vw v ((a.G k).H (vw v) (fa J p v)) a[k]) P/\zd P.sv.m.toList W u):=λW hW=>Iv W jb _ P a[k].1 a[k].2 v (b.l.u hW) I;clear R;generalize (a.G k).H (vw v) (fa J p v)=Jk at *;generalize a[k]=hd at *;go_wp2_with (go_at_call 230;refine(HD.l _ γ).y ?_;rintro e w2 ⟨rfl,q,K⟩;have D:=Tg q;clear q;have H:=(zd.of (M:=P.sv.m.toList) (show μ wr _ from γ)).A K)
    go_roundw;exact⟨k+1,η,ξ,by rw[HS.l];exact D.l,t.A (H.more (λx hx=>nX _ hx))⟩;simp[intOf];omega
   obtain rfl:k=a.j:=η;rw[uW] at b;go_wp2;go_end0
   exact⟨rfl,by rw[A.l];exact b.l,t⟩
 have A:X (uE J p v=J):=by unfold uE;rw[X,zb η]
 clear h;go_enter func228,ntmps228;go_wp2
 (try simp only[Exit.inBlock,Exit.then]);refine zO (results_none rfl _ _ _) rfl ?_
 exact⟨rfl,by rw[A.l];exact HJ.l,zd.refl _ _⟩
end
section
open Go.Proofs.Tryz
variable {lo:Nat}
def T7.bar{w:U}{r:Nat}{J:zE}{P:xI}(h:T7 lo w r J P)(k:Nat)(q:k<J.bars.j):
  ∃c d b a n u,P.bv=.k (Z (δ c)) J.bars.j d/\c<w.o.q/\w.p (ω c (k*4))=Z (ι (J.bars[k].lit.o:Nat))/\w.p (ω c (k*4+1))=Z (.k b J.bars[k].lit.v.j a)/\w.p (ω c (k*4+2))=Z (ι (J.bars[k].je:Nat))/\w.p (ω c (k*4+3))=Z ((π n))/\yu lo w (.k b J.bars[k].lit.v.j a) J.bars[k].lit.v/\yb lo w n J.bars[k].I u:=by
 obtain⟨c,d,s,_,j,f⟩:=yr h.bars η;have g:k<P.bps.j:=by rw[h.blen];exact q
 obtain⟨m,i,o,p⟩:=tr (List.zipWith fd J.bars P.bps) k υ;simp only[List.getElem_zipWith,fd] at m i o p;obtain⟨l,t⟩:=h.jk k q g;obtain⟨b,a,e⟩:=l.qy;rw[e] at i l;exact⟨c,d,b,a,_,_,s,j,f _ _ m,f _ _ i,f _ _ o,f _ _ p,l,t⟩
def P9(l:zw)(vals:Φ):zH l vals=[Tj l vals 0,Tj l vals 1,Tj l vals 2]:=rfl
def GG(w:U)(m:Nat)(J:zE)(P:xI)(l:Nat)(h:T7 lo w m J P):
  Calls prog 223 #[(π m),ι l] w λe n=>e=ε (.i (vi J l))/\μ w n:=by
 have HJ:=Tg h;obtain⟨C,F,_,_,_,_,N,_⟩:=h.at;obtain⟨aK,aA,aa⟩:=zr h.bars;rw[aa] at N;obtain⟨a,b,c,d,e,o⟩:=five h.jl.2.1;have a7:=h.K.2.1;have HV:X (∀W,T7 lo W m J P->W.p ⟨m,16,Y⟩=Z (ι a)/\W.p ⟨m,17,Y⟩=Z (ι b)/\W.p ⟨m,18,Y⟩=Z (ι c)/\W.p ⟨m,19,Y⟩=Z (ι d)/\W.p ⟨m,20,Y⟩=Z (ι e)):=λW p=>by
  have q0:=(p.vals 0 η).1;have q1:=(p.vals 1 η).1;have q2:=(p.vals 2 η).1;have q3:=(p.vals 3 η).1;have q4:=(p.vals 4 η).1;rw[o] at q0 q1 q2 q3 q4;exact⟨q0,q1,q2,q3,q4⟩
 have HE:X (vi J l=J.bars.any (λx=>x.je == l&&(ua x.I [Tj x.lit [a,b,c,d,e] 0,Tj x.lit [a,b,c,d,e] 1,Tj x.lit [a,b,c,d,e] 2]).I)):=by
  rw[X];unfold vi;rw[o];rfl
 clear h;go_enter func223,ntmps223;go_wp2;clear N C F;go_loopw [15] (λal wr=>∃k:Nat,k<=J.bars.j/\al=ι k/\X ((J.bars.G k).any (λx=>x.je == l&&(ua x.I [Tj x.lit [a,b,c,d,e] 0,Tj x.lit [a,b,c,d,e] 1,Tj x.lit [a,b,c,d,e] 2]).I)=false)/\μ w wr) (λi _=>J.bars.j-(intOf i).D);exact⟨0,zs _,rfl,rfl,zn _ _⟩;obtain⟨k,hk,rfl,HA,j⟩:=hrel;have M:=j.q;by_cases D:k<J.bars.j
 .have u:=HJ.l.u j;obtain⟨C,F,_⟩:=u.at;obtain⟨ah,am,aq,ai,an⟩:=HV.l wr u;obtain⟨gb,aE,t,g,L,fp,s,aJ,a0,ag,ac,av,hT,S⟩:=u.bar k D;rw[aa] at s;simp only[O.slice.injEq] at s;obtain⟨rfl,_,rfl⟩:=s;have HS:X ((J.bars.G (k+1)).any (λx=>x.je == l&&(ua x.I [Tj x.lit [a,b,c,d,e] 0,Tj x.lit [a,b,c,d,e] 1,Tj x.lit [a,b,c,d,e] 2]).I)=((J.bars.G k).any (λx=>x.je == l&&(ua x.I [Tj x.lit [a,b,c,d,e] 0,Tj x.lit [a,b,c,d,e] 1,Tj x.lit [a,b,c,d,e] 2]).I)||(J.bars[k].je == l&&(ua J.bars[k].I [Tj J.bars[k].lit [a,b,c,d,e] 0,Tj J.bars[k].lit [a,b,c,d,e] 1,Tj J.bars[k].lit [a,b,c,d,e] 2]).I))):=Ua J.bars _ k D;have ao:X ((J.bars[k].je == l&&(ua J.bars[k].I [Tj J.bars[k].lit [a,b,c,d,e] 0,Tj J.bars[k].lit [a,b,c,d,e] 1,Tj J.bars[k].lit [a,b,c,d,e] 2]).I)=true->vi J l=true):=λq=>by rw[HE.l];exact G0 J.bars _ k D q
  have ap:X (∀W,μ wr W->Calls prog 161 #[.agg #[ι (J.bars[k].lit.o:Nat),.k t J.bars[k].lit.v.j g],.agg #[ι a,ι b,ι c,ι d,ι e]] W λr n=>r=ε (.agg #[ι ((Tj J.bars[k].lit [a,b,c,d,e] 0:Nat):Int),ι ((Tj J.bars[k].lit [a,b,c,d,e] 1:Nat):Int),ι ((Tj J.bars[k].lit [a,b,c,d,e] 2:Nat):Int)])/\μ W n):=λW p=>oV W _ J.bars[k].lit.o J.bars[k].lit.v a b c d e (hT.u p);have R:X (∀W x y z,μ wr W->Calls prog 83 #[(π L),.agg #[ι ((x:Nat):Int),ι ((y:Nat):Int),ι ((z:Nat):Int)]] W λr n=>r=ε (.B #[ι (((ua J.bars[k].I [x,y,z]).g 0:Nat):Int),.i (ua J.bars[k].I [x,y,z]).I])/\μ W n):=λW x y z p=>Cg W L _ fp x y z (S.u p);clear hT S u;generalize J.bars[k]=f at *;generalize Tj f.lit [a,b,c,d,e] 0=r0 at *;generalize Tj f.lit [a,b,c,d,e] 1=r1 at *;generalize Tj f.lit [a,b,c,d,e] 2=r2 at *;by_cases V:f.je=l
  .subst V;have I:=Tg λW p=>R.l W r0 r1 r2 p;clear R;generalize (ua f.I [r0,r1,r2]).g 0=mg at *;generalize (ua f.I [r0,r1,r2]).I=ms at *;have az:((f.je:Int) == (f.je:Int))=true:=beq_self_eq_true _;have B:=Th.new wr #[ι f.lit.o,.k t f.lit.v.j g,ι f.je,(π L)] 325;have A:μ wr (wr.C (.E #[ι f.lit.o,.k t f.lit.v.j g,ι f.je,(π L)] 325)):=(zn _ _).C (zg _) _;have G:=HJ.l.u (Tk j A);obtain⟨a8,a4,_⟩:=G.at;obtain⟨ay,aw,af,ar,ax⟩:=HV.l _ G;clear G;go_wp2;generalize wr.C (.E #[ι f.lit.o,.k t f.lit.v.j g,ι f.je,(π L)] 325)=wA at *;clear a0 ag ac av ah am aq ai an C F;obtain⟨aL,aH,aI⟩:=B.e;have aG:=A.q;go_region_held3 (λn=>n.p ⟨wr.o.q,0,Y⟩=Z (ι f.lit.o)/\n.p ⟨wr.o.q,1,Y⟩=Z (.k t f.lit.v.j g)/\n.p ⟨m,16,Y⟩=Z (ι a)/\n.p ⟨m,17,Y⟩=Z (ι b)/\n.p ⟨m,18,Y⟩=Z (ι c)/\n.p ⟨m,19,Y⟩=Z (ι d)/\n.p ⟨m,20,Y⟩=Z (ι e)) (first|go_keep|(go_simp;done)) (first|(go_at_call 161;refine(ap.l _ γ).y ?_;rintro r w2 ⟨rfl,T⟩;have v:μ wA w2:=(zQ γ T (zg _));have Q:=B.u v;obtain⟨a3,aC,a5⟩:=Q.e;have aM:=v.q;have K:=HJ.l.u (Tk (Tk j A) v);obtain⟨aB,aD,_⟩:=K.at;obtain⟨au,ae,aj,ad,a1⟩:=HV.l w2 K;try (have ab:=(show Th ((wA.C (.E #[ι 0,ι 0,ι 0] 165)).drew) wA.o.q #[ι 0,ι 0,ι 0] 165 from Th.drew (Th.new _ _ _)).u T;obtain⟨a9,a2,a6⟩:=ab.e)))
   all_goals
    have aF:=Tk A v;clear au ae aj ad a1 ay aw af ar ax;cases ms
    .have HF:X ((J.bars.G (k+1)).any (λx=>x.je == f.je&&(ua x.I [Tj x.lit [a,b,c,d,e] 0,Tj x.lit [a,b,c,d,e] 1,Tj x.lit [a,b,c,d,e] 2]).I)=false):=by rw[X,HS.l,HA.l];simp
     go_wp2_with (go_at_call 83;refine(I.l _ γ).y ?_;rintro r w3 ⟨rfl,H⟩;have E:μ wr w3:=(zQ γ H (zg _)))
     go_roundw;exact⟨k+1,η,ξ,HF,Tk j E⟩;simp[intOf];omega
    have ak:=Tg (ao.l ζ);go_wp2_with (go_at_call 83;refine(I.l _ γ).y ?_;rintro r w3 ⟨rfl,H⟩;have E:μ wr w3:=(zQ γ H (zg _)))
    go_ret;exact⟨by rw[ak.l];rfl,Tk j E⟩
  have HF:X ((f.je == l&&(ua f.I [r0,r1,r2]).I)=false):=by rw[X,beq_eq_false_iff_ne.2 V];rfl
  have az:((f.je:Int) == (l:Int))=false:=beq_eq_false_iff_ne.2 η;go_wp2;go_roundw;exact⟨k+1,η,ξ,by rw[HS.l,HA.l,HF.l];rfl,j.C M _⟩;simp[intOf];omega
 have HF:X (vi J l=false):=by
  rw[X,HE.l];have q:=HA.l;rw[yV η] at q;exact q
 go_wp2;go_ret;exact⟨by rw[HF.l];rfl,j⟩
end
section
open Go.Proofs.Tryz
variable {lo:Nat}{J:zE}
def Up(J:zE):Prop:=∀s∈J.ja,s.I.r<=1000
def T7.narrow{w:U}{c:Nat}{P:xI}(h:T7 lo w c J P):Up J:=by
 intro s b;obtain⟨k,a,rfl⟩:=vd b;obtain⟨e,f,d,_⟩:=h.tries k a (by rw[h.slen];exact a);exact d.wide
def N8(h:Up J)(b:Nat×Nat)(f:Nat):Up (qe J b f).1/\∀v,(qe J b f).2=Z v->v<=1000/\f<=1000:=by
 unfold qe;split;rename_i c;refine⟨h,λv a=>?_⟩;have d:b.1<J.ja.j:=by simp[vY] at c;exact c.1
 have e:J.ja.g b.1 xb.zero=J.ja[b.1]:=by simp[List.getD_eq_getElem?_getD,d]
 simp only[e] at a;have g:=h _ (zq d);have j:=wP a;have i:f<J.ja[b.1].I.r:=by
  unfold yF at a;split at a;rename_i q;exact q.2;cases a
 omega;exact⟨h,λv a=>by cases a⟩
def EB:∀(n:Nat) (J:zE) (hs:List (Nat×Nat)) (a b c:Nat) (e:zE) (v:Nat),Up J->(b<hs.j∨a<=1000)->gE n J hs a b c=Z (e,Z v)->v<=1000
 |0,_,_,_,_,_,_,_,_,_,h=>by simp[gE] at h
 |n+1,J,hs,a,b,c,e,v,f,g,h=>by
  unfold gE at h;by_cases d:b<hs.j
  .rw[zb d] at h;obtain⟨l,k⟩:=N8 f (hs.g c (0,0)) a;generalize qe J (hs.g c (0,0)) a=i at *;obtain⟨m,j⟩:=i;cases j with
   |none=>simp at h
   |some u=>
    obtain⟨p,o⟩:=k u rfl;refine EB n m hs _ _ _ e v l (ze ?_) h;split<;>omega
  .rw[za d] at h;simp only[zt,ye] at h;obtain⟨_,rfl⟩:=h;omega
def I8{n:Nat}{a:zE}{p f v:Nat}(c:Up J)(h:l6 n J p f=Z (a,Z v)):v<=1000:=by
 unfold l6 at h;by_cases b:p≥5∨(J.jf.g p []).j=0;rw[zb b] at h;simp at h;rw[za b] at h;exact EB n J _ f 0 0 a v c (zh η) h
def Ml(w:U)(d:Nat)(J:zE)(P:xI)(n:Nat)(C:zE)(b:Bool)(h:T7 lo w d J P)(V:jE n J J.ql=Z (C,b)):
  Calls prog 224 #[(π d)] w λe A=>e=ε (.i b)/\T7 lo A d C P/\zd (d::P.sv.m.toList) w A:=by
 have HJ:=Tg h;have HR:=Tg V;obtain⟨G,E,_,_,_,_,_,_,K,_⟩:=h.at;clear h V;go_enter func224,ntmps224;go_wp2;clear K G E;go_loopg [3] n (λk v3 wr=>∃(l:zE) (o:Int),v3=ι o/\X (jE k l o=Z (C,b))/\X (T7 lo wr d l P)/\zd (d::P.sv.m.toList) w wr)
 case atStart=>exact⟨J,J.ql,rfl,HR,HJ,zd.refl _ _⟩
 obtain⟨l,o,rfl,HQ,c,i⟩:=hrel;obtain⟨G,E,_,_,ac,_⟩:=c.l.at;have ab:=c.l.K.2.2;rcases gk with _|m;have q:=HQ.l;simp[jE] at q;have q:=HQ.l;unfold jE at q;by_cases f:0<=o/\o<l.m/\o<5
 .rw[zb f] at q;obtain⟨d1,d2,d3⟩:=f;obtain⟨p,rfl⟩:∃p:Nat,o=p:=⟨o.D,η⟩;have F:p<5:=η;simp only[Int.toNat_natCast] at q;obtain⟨_,ae,ad⟩:=c.l.vals p F;rcases B:l6 m l p (l.from.g p 0) with _|ar;rw[B] at q;cases q;obtain⟨g,L⟩:=ar;rw[B] at q;have y:X (Calls prog 227 #[(π d),ι p,ι ((l.from.g p 0:Nat):Int)] wr λe A=>e=ε (.B #[ι ((L.g 0:Nat):Int),.i L.I])/\T7 lo A d g P/\zd [d] wr A):=QW wr d l P p _ m g L c.l B;rcases L with _|v
  .simp only[kG,kN] at y;have j:X (jE m g (g.ji.g p 0)=Z (C,b)):=q;clear q B;generalize l.from.g p 0=fr at *;go_wp2_with (go_at_call 227;refine y.l.y ?_;rintro e w2 ⟨rfl,a,u⟩;have s:=Tg a;obtain⟨S,aa,_⟩:=a.at;obtain⟨_,_,T⟩:=a.vals p F;clear a)
   go_roundg m
   case measure=>omega
   exact⟨g,g.ji.g p 0,rfl,j,s,i.A (u.more ζ)⟩
  have hv:=I8 c.l.narrow B;simp only[uD,j8] at y;have j:X (jE m (uE g p v) (if vi (uE g p v) (p+1)=true then(p:Int) else(p:Int)+1)=Z (C,b)):=q;clear q B;have H:=Tg λW (N:T7 lo W d g P)=>Oo W d g P p v N η;have I:X (∀W,T7 lo W d (uE g p v) P->Calls prog 223 #[(π d),ι ((p:Int)+1)] W λe A=>e=ε (.i (vi (uE g p v) (p+1)))/\μ W A):=λW N=>by
   have q:=GG W d _ P (p+1) N;rw[show((p+1:Nat):Int)=(p:Int)+1 from by omega] at q;exact q
  generalize l.from.g p 0=fr at *;generalize vi (uE g p v) (p+1)=bb at *;generalize uE g p v=R at *;cases bb
  .rw[za ζ] at j;go_wp2_with (first|(go_at_call 227;refine y.l.y ?_;rintro e w2 ⟨rfl,a,u⟩;have s:=Tg a;clear a)|(go_at_call 228;refine(H.l _ s.l).y ?_;rintro e w3 ⟨rfl,t,z⟩;have r:=Tg t;clear t)|(go_at_call 223;refine(I.l _ r.l).y ?_;rintro e w4 ⟨rfl,x⟩))
   go_roundg m
   case measure=>omega
   exact⟨R,(p:Int)+1,rfl,j,r.l.u x,((i.A (u.more ζ)).A z).newer (zd.of (M:=[]) x) ζ⟩
  rw[zb rfl] at j;go_wp2_with (first|(go_at_call 227;refine y.l.y ?_;rintro e w2 ⟨rfl,a,u⟩;have s:=Tg a;clear a)|(go_at_call 228;refine(H.l _ s.l).y ?_;rintro e w3 ⟨rfl,t,z⟩;have r:=Tg t;clear t)|(go_at_call 223;refine(I.l _ r.l).y ?_;rintro e w4 ⟨rfl,x⟩))
  go_roundg m
  case measure=>omega
  exact⟨R,p,rfl,j,r.l.u x,((i.A (u.more ζ)).A z).newer (zd.of (M:=[]) x) ζ⟩
 rw[za f] at q;simp only[zt,ye] at q;obtain⟨Q,e2⟩:=q;have D:X (C=l/\b=decide (o≥l.m)):=⟨Q.symm,e2.symm⟩;clear Q e2;by_cases g1:0<=o
 .by_cases g2:o<(l.m:Int)
  .have g3:¬o<5:=η;go_wp2;go_ret;exact⟨by rw[D.l.2];first|(simp;done)|(simp;omega),by rw[D.l.1];exact c.l,i⟩
  go_wp2;go_ret;exact⟨by rw[D.l.2];first|(simp;done)|(simp;omega),by rw[D.l.1];exact c.l,i⟩
 go_wp2;go_ret;exact⟨by rw[D.l.2];first|(simp;done)|(simp;omega),by rw[D.l.1];exact c.l,i⟩
def T7.setDepth{w:U}{a:Nat}{P:xI}(h:T7 lo w a J P)(m:Int):T7 lo (w.x (ω a 26) (ι m)) a {J with ql:=m} P:=by
 obtain⟨j,b,d⟩:=h.jl;refine h.rebox (zd.set _ _ _ _) ?_ rfl rfl rfl rfl rfl h.jl;obtain⟨C,z,D,y,k,c⟩:=five h.hlen.1;obtain⟨l,v,A,s,p,i⟩:=five j;obtain⟨q,r,x,t,F,f⟩:=five b;obtain⟨n,u,o,E,B,e⟩:=five d;have g:=h.box.set 26 (ι m);simpa [uM,c,i,f,e] using g
def UU(w:U)(g:Nat)(J:zE)(P:xI)(n:Nat)(r:zE)(b:Bool)(h:T7 lo w g J P)(f:lf n J=Z (r,b)):
  Calls prog 215 #[(π g)] w λe s=>e=ε (.i b)/\T7 lo s g r P/\zd (g::P.sv.m.toList) w s:=by
 unfold lf at f;rcases o:jE n J J.ql with _|v;rw[o] at f;cases f;obtain⟨p,q⟩:=v;rw[o] at f;simp only[zt,ye] at f;obtain⟨u,rfl⟩:=f;have j:=Tg (Ml w g J P n p q h o);have t:=Tg u.symm;cases q
 .go_enter func215,ntmps215;go_wp2_with (go_at_call 224;refine j.l.y ?_;rintro e x ⟨rfl,a,d⟩;have c:=Tg a;obtain⟨m,l,_,_,_,_,_,i,k,_⟩:=a.at;clear a)
  go_ret;exact⟨rfl,by rw[t.l];exact c.l.setDepth (-1),d.A ((zd.set _ _ _ _).more ζ)⟩
 go_enter func215,ntmps215;go_wp2_with (go_at_call 224;refine j.l.y ?_;rintro e x ⟨rfl,a,d⟩;have c:=Tg a;obtain⟨m,l,_,_,_,_,_,i,k,_⟩:=a.at;clear a)
 go_ret;exact⟨rfl,by rw[t.l];exact(c.l.setDepth (-1)).setDepth p.last,(d.A ((zd.set _ _ _ _).more ζ)).A ((zd.set _ _ _ _).more ζ)⟩
end
section
open Go.Proofs.Tryz
variable {lo:Nat}
def P3(w:U)(b:Nat)(J:zE)(P:xI)(h:T7 lo w b J P):
  Calls prog 217 #[(π b)] w λe c=>e=ε (ι J.jg)/\c=w:=by
 obtain⟨f,d,_,_,_,_,_,_,_,a⟩:=h.at;clear h;go_enter func217,ntmps217;go_wp2;go_ret;exact⟨rfl,rfl⟩
def Jq(w:U)(q:Nat)(J:zE)(P:xI)(h:T7 lo w q J P):
  Calls prog 216 #[(π q)] w λr L=>r=ε (.agg #[ι ((Tj J.g J.P 0:Nat):Int),ι ((Tj J.g J.P 1:Nat):Int),ι ((Tj J.g J.P 2:Nat):Int)])/\μ w L:=by
 obtain⟨y,u,A,m,_⟩:=h.at;obtain⟨a,b,c,d,e,f⟩:=five h.jl.2.1;have t:=(h.vals 0 η).1;have K:=(h.vals 1 η).1;have F:=(h.vals 2 η).1;have B:=(h.vals 3 η).1;have I:=(h.vals 4 η).1;rw[f] at t K F B I ⊢;obtain⟨D,s,k⟩:=h.g.qy;have o:=h.g;rw[k] at m o;have n:=Tg λW E=>oV W _ J.g.o J.g.v a b c d e (o.u E);generalize Tj J.g [a,b,c,d,e] 0=G at *;generalize Tj J.g [a,b,c,d,e] 1=C at *;generalize Tj J.g [a,b,c,d,e] 2=x at *;go_enter func216,ntmps216;go_wp2;go_region_with (go_at_call 161;refine(n.l _ γ).y ?_;rintro r M ⟨rfl,g⟩;have j:μ w M:=(zQ γ g (zg _));have i:=(Th.drew (Th.new w #[ι 0,ι 0,ι 0] 165)).u g;obtain⟨l,z,H⟩:=i.e)
 all_goals
  go_wp2;exact zO (v:=.agg #[ι G,ι C,ι x]) (by simp[results,results216,go_sem,l]) rfl ⟨rfl,((j.x (p:=(δ w.o.q)) ζ _).x (p:=(ω w.o.q 1)) ζ _).x (p:=(ω w.o.q 2)) ζ _⟩
def S9:(prog.info? 327).map (λi=>(i.zero,i.q,i.bytes))=Z (Z (.agg #[ι 0,ι 0]),2,16):=χ
def fO(a:Nat)(x:zw×Nat):Option (Nat×Nat):=(xh x.1 a).map λb=>(x.2,b)
def C6(r:zu)(a:Nat):xy r a=r.qc.zipIdx.filterMap (fO a):=rfl
def RQ(a:List zw)(b k:Nat)(d:k<a.j):(a.G (k+1)).zipIdx.filterMap (fO b)=(a.G k).zipIdx.filterMap (fO b)++((xh a[k] b).map λc=>(k,c)).toList:=by
 rw[yM d,List.zipIdx_append,eR];congr 1;simp only[List.zipIdx_singleton,vc,vx,th,List.filterMap_nil,fO];rw[gV η];cases xh a[k] b<;>rfl
def QQ(hs:List (Nat×Nat))(x:Nat×Nat):kT (hs++[x])=kT hs++[ι (x.1:Nat),ι (x.2:Nat)]:=by simp[kT]
def RM(w:U)(tv S M:O)(r:zu)(b:Nat)(h:vG lo w tv S M r)(hp:b<=1000000):
  Calls prog 221 #[gi r tv S M,ι b] w λe t=>∃I,e=.returned I/\t.r w.o.q 327 2 I (xy r b).j (kT (xy r b))/\μ w t:=by
 obtain⟨i0,hi,F,v,z⟩:=info_parts S9;obtain⟨ab,Q,rfl⟩:=h.qc.qy;have T:=h.qc.len;have hP:=h.qc;have HE:X (xy r b=r.qc.zipIdx.filterMap (fO b)):=rfl;unfold gi;clear h;generalize r.qc=c at *;go_enter func221,ntmps221;go_wp2;go_loopw [5,13] (λV E wr=>∃k:Nat,k<=c.j/\E=ι k/\wr.r w.o.q 327 2 V ((c.G k).zipIdx.filterMap (fO b)).j (kT ((c.G k).zipIdx.filterMap (fO b)))/\μ w wr) (λ_ i _=>c.j-(intOf i).D);exact⟨0,zs _,rfl,xp _ _ _ _,γ⟩;obtain⟨k,hk,rfl,a,f⟩:=hrel;have L:=f.q;have R:((c.G k).zipIdx.filterMap (fO b)).j<=k:=by
  have:=tz (fO b) (c.G k).zipIdx;simp at this;omega
 by_cases p:k<c.j
 .obtain⟨g,G,o,D,K,N,P,J⟩:=hP.cell k p;subst D;have aa:=zi f K N;have ae:=zi f K P;have ac:g<wr.o.q:=η;have s:=Tg (RQ c b k p);have m:X (∀W,μ w W->Calls prog 187 #[.agg #[ι (c[k].o:Nat),.k G c[k].v.j o],ι b] W λe t=>e=ε (.B #[ι (((xh c[k] b).g 0:Nat):Int),.i (xh c[k] b).I])/\μ W t):=λW hW=>Dk W _ c[k].o b c[k].v (J.u hW) hp;clear N P J;generalize c[k]=l at *;generalize (c.G k).zipIdx.filterMap (fO b)=A at *;generalize xh l b=ol at *;rcases ol with _|lv
  .simp only[Option.map_none,Option.toList_none,qb] at s;simp only[kG,kN] at m;go_wp2_with (go_at_call 187;refine(m.l _ γ).y ?_;rintro e u ⟨rfl,n⟩;have d:μ wr u:=(zQ γ n (zg _)))
   go_roundw;exact⟨k+1,η,ξ,by rw[s.l];exact zy a d,Tk f d⟩;simp[intOf];omega
  simp only[jZ,Option.toList_some] at s;simp only[uD,j8] at m;obtain⟨y,q,rfl⟩:=zr a;go_wp2_with (first|(go_at_call 187;refine(m.l _ γ).y ?_;rintro e u ⟨rfl,n⟩;have d:μ wr u:=(zQ γ n (zg _));have j:=zy a d;have ad:=d.q)|(at_builtin;refine kc u _ [ι k,ι lv] _ rfl (.tmp 25) (.tmp 29) 307 rfl w.o.q 327 i0 _ 2 16 underlying307 hi F v z rfl θ (.k y A.j q) A.j (kT A) rfl j (zn _ _) _ _ rfl ζ rfl a_ η η η ?_;intro v' w3 C B H))
  go_roundw;exact⟨k+1,η,ξ,by rw[s.l,QQ,yN];exact C,(Tk f d).A (B.u (λx hx=>yU j (xa hx)) η)⟩;simp[intOf];omega
 rw[yV η] at a;go_wp2;go_ret;exact⟨_,rfl,by rw[HE.l];exact a,f⟩
end
section
variable {lo:Nat}{w w':U}{base tb b0:Nat}{v:O}{xs:List O}{c:Array O}{T:zl}{fp:List Nat}
abbrev zo:=Nat×Nat×Nat
def Uh(t:TypeId):Prop:=t≠229/\t≠273/\t≠3
instance (t:TypeId):Decidable (Uh t):=by unfold Uh;infer_instance
def Ir(w:U)(b:Nat):Prop:=∃c t,Th w b c t/\¬Uh t
def wV{t:TypeId}(h:t=229∨t=273∨t=3):¬Uh t:=by
 rintro⟨a,b,c⟩;rcases h with h|h|h;exact a h;exact b h;exact c h
def jO{e:TypeId}{a n:Nat}(h:w.r base e a v n xs){b:Nat}(f:v.m=Z b):∃c,Th w b c e:=by
 obtain⟨_,⟨d,_⟩|⟨g,i,k,d,_,j,_⟩⟩:=h;subst d;cases f;subst d;simp only[O.ownBlock,zt] at f;subst f;exact⟨_,j⟩
def Th.type{b:Nat}{e:Array O}{t d:TypeId}(h:Th w b c t)(a:Th w b e d):t=d:=by
 unfold Th at h a;rw[h] at a;simp at a;exact a.2
def yb.typed(h:yb lo w tb T fp):∀b∈fp,Ir w b:=by
 obtain⟨j,k,d,rfl⟩:=h;intro b a;simp only[Um,zG,ya] at a;rcases a with a|a|a;subst a;exact⟨_,_,d.box,wV (zh rfl)⟩;obtain⟨c,f⟩:=jO d.B (xa a);exact⟨_,_,f,wV (ze (zh rfl))⟩;obtain⟨i,g,e|e⟩:=AD a;obtain⟨c,f⟩:=jO (d.D i (by rw[←d.len];exact g) g) (b:=b) (by rw[e];rfl);exact⟨_,_,f,wV (ze (ze rfl))⟩;obtain⟨c,f⟩:=jO (d.down i (by rw[←d.len];exact g) g) (b:=b) (by rw[e];rfl);exact⟨_,_,f,wV (ze (ze rfl))⟩
def xg(lo:Nat)(w:U)(own:Nat->zo)(ρ:zo)(tb:Nat)(T:zl):Prop:=∃fp,yb lo w tb T fp/\∀b∈fp,own b=ρ
structure Tp (lo:Nat) (ok:TypeId->zo->Prop) (w:U) (own:Nat->zo) (w':U) (own':Nat->zo):Prop where
 old:∀b,b<w.o.q->own' b=own b
 save:∃M,zd M w w'/\∀b∈M,lo<=b/\b<w.o.q/\∃c t,Th w b c t/\ok t (own b)
def onT(rs:zo->Prop):TypeId->zo->Prop:=λt ρ=>¬Uh t/\rs ρ
def gU(l:List TypeId):TypeId->zo->Prop:=λt _=>t∈l
def orK(a b:TypeId->zo->Prop):TypeId->zo->Prop:=λt ρ=>a t ρ∨b t ρ
def Tp.of{ok:TypeId->zo->Prop}{w w':U}(own:Nat->zo)(a:μ w w'):Tp lo ok w own w' own:=⟨λ_ _=>rfl,[],zd.of a,ζ⟩
def Tp.refl{ok:TypeId->zo->Prop}(w:U)(own:Nat->zo):Tp lo ok w own w own:=Tp.of own (zn _ _)
def Tp.more{ok ok':TypeId->zo->Prop}{own own':Nat->zo}(h:Tp lo ok w own w' own')(hs:∀t ρ,ok t ρ->ok' t ρ):Tp lo ok' w own w' own':=by
 obtain⟨g,M,f,i⟩:=h;refine⟨g,M,f,λb j=>?_⟩;obtain⟨d,e,c,t,a,k⟩:=i b j;exact⟨d,e,c,t,a,hs _ _ k⟩
def Tp.q{ok:TypeId->zo->Prop}{w w':U}{own own':Nat->zo}(h:Tp lo ok w own w' own'):w.o.q<=w'.o.q:=by
 obtain⟨_,M,a,_⟩:=h;exact a.q
def Tp.A{ok:TypeId->zo->Prop}{a b c:U}{l n p:Nat->zo}(h:Tp lo ok a l b n)(k:Tp lo ok b n c p):Tp lo ok a l c p:=by
 obtain⟨o,M,f,q⟩:=h;obtain⟨z,N,g,u⟩:=k;have s:=f.q;refine⟨λx d=>(z x η).A (o x d),M++N.filter (·<a.o.q),⟨g.os.A f.os,g.tape.A f.tape,g.output.A f.output,zY s g.q,λx d j=>?_⟩,λx d=>?_⟩;simp only[ya,xz,not_or,not_and,decide_eq_true_eq] at j;exact(g.block x η λi=>j.2 i d).A (f.block x d j.1);simp only[ya,xz,decide_eq_true_eq] at d;rcases d with d|⟨d,e⟩;exact q x d;obtain⟨y,A,c,t,r,m⟩:=u x d;rw[o x e] at m;by_cases i:x∈M;exact q x i;exact⟨y,e,c,t,by unfold Th at r ⊢;rw[←f.block x e i];exact r,m⟩
def Tp.ofSave{ok:TypeId->zo->Prop}(own:Nat->zo){M:Φ}(hs:zd M w w')(a:∀b∈M,lo<=b/\b<w.o.q/\∃c t,Th w b c t/\ok t (own b)):Tp lo ok w own w' own:=⟨λ_ _=>rfl,M,hs,a⟩
def Tp.set{ok:TypeId->zo->Prop}{w:U}(own:Nat->zo){b:Nat}{c:Array O}{t:TypeId}(a:Th w b c t)(e:lo<=b)(f:ok t (own b))(o:Nat)(u:O):Tp lo ok w own (w.x (ω b o) u) own:=
 Tp.ofSave own (zd.set _ _ _ _) (λx d=>by simp at d;subst d;exact⟨e,a.lt,_,_,a,f⟩)
def Th.mod{ok:TypeId->zo->Prop}{own own':Nat->zo}{b:Nat}{t:TypeId}(h:Th w b c t)(p:Tp lo ok w own w' own')(a:¬ok t (own b)):Th w' b c t:=by
 obtain⟨_,M,f,g⟩:=p;refine h.save f λd=>?_;obtain⟨_,_,j,i,q,e⟩:=g b d;rw[h.type q] at a;exact a e
def sP{ok:TypeId->zo->Prop}{own own':Nat->zo}{e:TypeId}{a n:Nat}(h:w.r base e a v n xs)(p:Tp lo ok w own w' own')(l:∀b,v.m=Z b->¬ok e (own b)):w'.r base e a v n xs:=by
 obtain⟨_,M,j,k⟩:=p;refine yQ h j λb d f=>?_;obtain⟨c,g⟩:=jO h d;obtain⟨_,_,o,m,q,i⟩:=k b f;have:=l b d;rw[g.type q] at this;exact this i
def vT{ok:TypeId->zo->Prop}{own own':Nat->zo}{e:TypeId}{a n:Nat}(h:w.r base e a v n xs)(p:Tp lo ok w own w' own')(b:∀ρ,¬ok e ρ):w'.r base e a v n xs:=sP h p λ_ _=>b _
def yb.mod{ok:TypeId->zo->Prop}{own own':Nat->zo}(h:yb b0 w tb T fp)(p:Tp lo ok w own w' own')(k:∀b∈fp,∀t,¬Uh t->¬ok t (own b)):yb b0 w' tb T fp:=by
 obtain⟨_,M,i,f⟩:=p;refine h.save i λb d e=>?_;obtain⟨_,_,c,t,q,g⟩:=f b e;obtain⟨m,l,j,a⟩:=h.typed b d;rw[j.type q] at a;exact k b d t a g
def xg.mod{ok:TypeId->zo->Prop}{w w':U}{own own':Nat->zo}{ρ:zo}{tb:Nat}{T:zl}(h:xg lo w own ρ tb T)(p:Tp lo ok w own w' own')(f:∀t,¬Uh t->¬ok t ρ):xg lo w' own' ρ tb T:=by
 obtain⟨fp,e,d⟩:=h;exact⟨fp,e.mod p λb a t g=>by rw[d b a];exact f t g,λb a=>(p.old b (e.lt b a).2).A (d b a)⟩
def jB{rs:zo->Prop}{t:TypeId}(h:Uh t):∀ρ,¬onT rs t ρ:=λ_ q=>q.1 h
def xg.onT{rs:zo->Prop}{w w':U}{own own':Nat->zo}{ρ:zo}{tb:Nat}{T:zl}(h:xg lo w own ρ tb T)(p:Tp lo (onT rs) w own w' own')(a:¬rs ρ):xg lo w' own' ρ tb T:=h.mod p λ_ _ q=>a q.2
def yu.mod{ok:TypeId->zo->Prop}{own own':Nat->zo}{ts:List yi}(h:yu b0 w v ts)(p:Tp lo ok w own w' own')(a:∀ρ,¬ok 284 ρ):yu b0 w' v ts:=⟨vT h.own p a,h.len,h.z⟩
def ux.mod{b0:Nat}{ok:TypeId->zo->Prop}{w w':U}{own own':Nat->zo}{v:O}{f:List zw}(h:ux b0 w v f)(p:Tp lo ok w own w' own')(m:∀ρ,¬ok 284 ρ)(d:∀ρ,¬ok 204 ρ):ux b0 w' v f:=by
 obtain⟨i,j,g,l,e⟩:=h;exact⟨i,vT j p d,g,l,λk a b=>⟨(e k a b).1,(e k a b).2.1.mod p m,(e k a b).2.2⟩⟩
def vG.mod{b0:Nat}{ok:TypeId->zo->Prop}{w w':U}{own own':Nat->zo}{tv e d:O}{r:zu}(h:vG b0 w tv e d r)(p:Tp lo ok w own w' own')(b:∀ρ,¬ok 284 ρ)(a:∀ρ,¬ok 204 ρ):vG b0 w' tv e d r:=⟨h.g.mod p b,h.qc.mod p b a,h.qx.mod p b a,h.small⟩
def Tw.mod{ok:TypeId->zo->Prop}{own own':Nat->zo}{a:List zk}(h:Tw b0 w v a)(p:Tp lo ok w own w' own')(b:∀ρ,¬ok 165 ρ):Tw b0 w' v a:=⟨vT h.1 p b,h.2⟩
def ext(own:Nat->zo)(n:Nat)(ρ:zo):Nat->zo:=λb=>if b<n then own b else ρ
def fM(own:Nat->zo)(n:Nat)(ρ:zo)(b:Nat)(h:b<n):ext own n ρ b=own b:=by simp[ext,h]
def T9.mod{own:Nat->zo}{ρ:zo}{f:zl}{d:Φ}(h:yb lo w tb T fp)(e:∀b∈fp,own b=ρ)(k:T9 lo w w' tb f fp d):
  xg lo w' (ext own w.o.q ρ) ρ tb f/\Tp lo (onT (·=ρ)) w own w' (ext own w.o.q ρ):=by
 refine⟨⟨d,k.trie,λb a=>?_⟩,λb a=>by simp[ext,a],fp,k.save,λb a=>⟨(h.lt b a).1,(h.lt b a).2,?_⟩⟩;unfold ext;split;rcases k.qw b a with q|q;exact e b q;omega;rfl;obtain⟨c,t,g,i⟩:=h.typed b a;exact⟨c,t,g,i,e b a⟩
def Tp.extNew{ok:TypeId->zo->Prop}(own:Nat->zo)(ρ:zo)(a:μ w w'):Tp lo ok w own w' (ext own w.o.q ρ):=⟨λb h=>by simp[ext,h],[],zd.of a,ζ⟩
def yb.low{a b:Nat}{w:U}{tb:Nat}{T:zl}{fp:Φ}(h:yb b w tb T fp)(e:a<=b):yb a w tb T fp:=by
 obtain⟨f,g,d,rfl⟩:=h;exact⟨f,g,⟨zY e d.low,d.box,yo d.B e,d.len,λi a b=>yo (d.D i a b) e,λi a b=>yo (d.down i a b) e,d.apart,d.wide,d.many,d.deep,d.K⟩,rfl⟩
def yb.new(own:Nat->zo)(ρ:zo)(h:yb w.o.q w' tb T fp)(a:lo<=w.o.q):xg lo w' (ext own w.o.q ρ) ρ tb T:=
 ⟨fp,h.low a,λb d=>by have:=(h.lt b d).1;simp[ext,Nat.not_lt.2 this]⟩
def xg.u{own:Nat->zo}{ρ:zo}(h:xg lo w own ρ tb T)(a:μ w w'):xg lo w' own ρ tb T:=h.mod (Tp.of (ok:=λ_ _=>False) own a) (λ_ _=>id)
def xg.set{w:U}{own:Nat->zo}{ρ:zo}{tb:Nat}{T:zl}(h:xg lo w own ρ tb T){b:Nat}{c:Array O}{t:TypeId}(i:Th w b c t)(j:Uh t)(o:Nat)(u:O):xg lo (w.x (ω b o) u) own ρ tb T:=by
 obtain⟨fp,e,f⟩:=h;refine⟨fp,e.save (zd.set _ _ _ _) λx g a=>?_,f⟩;simp at a;subst a;obtain⟨l,k,q,d⟩:=e.typed x g;rw[q.type i] at d;exact d j
end
section
variable {lo:Nat}{w w':U}{v:O}{xs:List O}{b:Nat}{c:Array O}{M:List Nat}
def T2(w:U)(T:TypeId)(M:List Nat):Prop:=∀b∈M,∃c,Th w b c T
def T2.own{a:Nat}{e:TypeId}{d n:Nat}(h:w.r a e d v n xs):T2 w e v.m.toList:=λ_ f=>jO h (xa f)
def T2.box{T:TypeId}(h:Th w b c T):T2 w T [b]:=λx a=>by simp at a;subst a;exact⟨c,h⟩
def yJ{d:Nat}{e T:TypeId}{a n:Nat}(h:w.r d e a v n xs)(hs:zd M w w')(k:T2 w T M)(i:e≠T):w'.r d e a v n xs:=
 yQ h hs λb l g=>by
  obtain⟨c,j⟩:=k b g;obtain⟨m,f⟩:=jO h l;exact i (f.type j)
def Th.saveT{e T:TypeId}(h:Th w b c e)(hs:zd M w w')(g:T2 w T M)(f:e≠T):Th w' b c e:=
 h.save hs λd=>by
  obtain⟨i,a⟩:=g b d;exact f (h.type a)
def yu.saveT{a:Nat}{ts:List yi}{T:TypeId}(h:yu a w v ts)(hs:zd M w w')(d:T2 w T M)(e:284≠T):yu a w' v ts:=⟨yJ h.own hs d e,h.len,h.z⟩
def ux.saveT{e:Nat}{w w':U}{v:O}{f:List zw}{T:TypeId}{M:Φ}(h:ux e w v f)(hs:zd M w w')(j:T2 w T M)(g:284≠T)(i:∀b,v.m=Z b->b∉M):ux e w' v f:=by
 obtain⟨m,n,l,o,d⟩:=h;exact⟨m,yQ n hs i,l,o,λk a b=>⟨(d k a b).1,(d k a b).2.1.saveT hs j g,(d k a b).2.2⟩⟩
def ux.saveTT{f:Nat}{i:List zw}{T:TypeId}(h:ux f w v i)(hs:zd M w w')(g:T2 w T M)(j:284≠T)(d:204≠T):ux f w' v i:=by
 obtain⟨n,m,l,o,e⟩:=h;exact⟨n,yJ m hs g d,l,o,λk a b=>⟨(e k a b).1,(e k a b).2.1.saveT hs g j,(e k a b).2.2⟩⟩
def vG.saveT{g:Nat}{w w':U}{tv i f:O}{r:zu}{T:TypeId}{M:Φ}(h:vG g w tv i f r)(hs:zd M w w')(e:T2 w T M)(d:284≠T)(a:204≠T):vG g w' tv i f r:=⟨h.g.saveT hs e d,h.qc.saveTT hs e d a,h.qx.saveTT hs e d a,h.small⟩
def yu.low{a:Nat}{ts:List yi}(h:yu b w v ts)(d:a<=b):yu a w v ts:=⟨yo h.own d,h.len,h.z⟩
def ux.low{a b:Nat}{w:U}{v:O}{f:List zw}(h:ux b w v f)(e:a<=b):ux a w v f:=by
 obtain⟨j,i,g,l,d⟩:=h;exact⟨j,yo i e,g,l,λk a b=>⟨(d k a b).1,(d k a b).2.1.low e,(d k a b).2.2⟩⟩
def vG.low{a b:Nat}{w:U}{tv f e:O}{r:zu}(h:vG b w tv f e r)(d:a<=b):vG a w tv f e r:=⟨h.g.low d,h.qc.low d,h.qx.low d,h.small⟩
def Th.up{T:TypeId}(h:Th w b c T)(o:Obj):Th (w.C o) b c T:=h.u ((zn _ _).C (zg _) o)
def Th.at'{b':Nat}{T:TypeId}(h:Th w b c T)(e:b=b'):Th w b' c T:=e ▸ h
def Th.carry{W a:U}{T:TypeId}{G:Prop}(h:Th W b c T)(d:μ W a)(k:Th a b c T->G):G:=k (h.u d)
end
section
open Go.Proofs.Tryz
variable {lo:Nat}
def xg.saveT{w w':U}{own:Nat->zo}{ρ:zo}{tb:Nat}{T:zl}{t:TypeId}{M:Φ}(h:xg lo w own ρ tb T)(hs:zd M w w')(f:T2 w t M)(k:Uh t):xg lo w' own ρ tb T:=by
 obtain⟨j,b,g⟩:=h;refine⟨j,b.save hs λx i d=>?_,g⟩;obtain⟨c,e⟩:=f x d;obtain⟨m,l,q,a⟩:=b.typed x i;rw[q.type e] at a;exact a k
def wZ(w:U)(own:Nat->zo)(ρ:zo)(tb:Nat)(T:zl)(x y z m:Nat)(h:xg lo w own ρ tb T)(a:okT T=true):
  Calls prog 163 #[(π tb),.agg #[ι x,ι y,ι z],ι m] w λe b=>e=ε (.i (yC T [x,y,z] m).2)/\xg lo b (ext own w.o.q ρ) ρ tb (yC T [x,y,z] m).1/\Tp lo (onT (·=ρ)) w own b (ext own w.o.q ρ):=by
 obtain⟨i,c,f⟩:=h;simp only[okT,uK,decide_eq_true_eq] at a;refine(Nx w tb T i x y z m c a.1 a.2).y ?_;rintro e b ⟨rfl,g,d⟩;exact⟨rfl,d.mod c f⟩
def GY(w:U)(own:Nat->zo)(ρ:zo)(tb:Nat)(T:zl)(n:Nat)(rs:List zk)(h:xg lo w own ρ tb T)(a:rowsG n T=Z rs):
  Calls prog 78 #[(π tb)] w λe d=>∃v,e=.returned v/\Tw w.o.q d v rs/\μ w d:=by
 obtain⟨g,f,_⟩:=h;unfold rowsG at a;rcases b:my n T with _|c;rw[b] at a;cases a;rw[b] at a;simp only at a;split at a;simp only[zt] at a;subst a;exact Ee w tb T g f n c b (by assumption);cases a
def Tw.cell{A:Nat}{w:U}{v:O}{rs:List zk}(h:Tw A w v rs)(k:Nat)(d:k<rs.j):∃g f x y z,v=.k (Z (δ g)) rs.j f/\g<w.o.q/\rs[k]=[x,y,z]/\w.p (ω g (k*3))=Z (ι (x:Nat))/\w.p (ω g (k*3+1))=Z (ι (y:Nat))/\w.p (ω g (k*3+2))=Z (ι (z:Nat)):=by
 obtain⟨E,p⟩:=h;obtain⟨g,f,t,_,u,m⟩:=yr E η;obtain⟨x,y,z,e⟩:∃x y z,rs[k]=[x,y,z]:=by
  have:=p rs[k] (zq d);match o:rs[k],this with
  |[x,y,z],_=>exact⟨x,y,z,rfl⟩
 have j:∀(rs:List zk) (k:Nat) (d:k<rs.j),(∀r∈rs,r.j=3)->rs[k]=[x,y,z]->(jW rs)[k*3]?=Z (ι x)/\(jW rs)[k*3+1]?=Z (ι y)/\(jW rs)[k*3+2]?=Z (ι z):=by
  intro rs;induction rs with
  |nil=>intro k d;simp at d
  |cons r l B=>
   intro k d n i;match k,d,i with
   |0,_,i=>simp only[dZ] at i;subst i;simp[jW,TN]
   |k+1,d,i=>
    have F:=n r ζ;match G:r,F with
    |[a,b,c],_=>
     have:=B k (by simpa using d) (λq o=>n q (by simp[o])) (by simpa using i);simp only[jW,uU] at this ⊢;rw[show(k+1)*3=k*3+1+1+1 from by omega,show k*3+1+1+1+1=k*3+1+1+1+1 from rfl,show k*3+1+1+1+2=k*3+2+1+1+1 from by omega];simpa using this
 obtain⟨s,C,D⟩:=j rs k d p e;exact⟨g,f,x,y,z,t,u,e,m _ _ s,m _ _ C,m _ _ D⟩
structure jN where
 tv:O
 bb:Nat
 fb:Nat
 ab:Nat
def pt(b:Nat):Value:=(π b)
def dR(wd:Nat)(V:yH)(P:jN):List Value:=[ι V.lit.o,P.tv,ι wd,pt P.bb,pt P.fb,pt P.ab]
structure vK (lo:Nat) (w:U) (own:Nat->zo) (k i:Nat) (V:yH) (P:jN):Prop where
 v:yu lo w P.tv V.lit.v
 before:xg lo w own (k+1,i,0) P.bb V.before
 qw:xg lo w own (k+1,i,1) P.fb V.qw
 all:xg lo w own (k+1,i,2) P.ab V.all
def vK.mod{ok:TypeId->zo->Prop}{w w':U}{own own':Nat->zo}{k i:Nat}{V:yH}{P:jN}(h:vK lo w own k i V P)(p:Tp lo ok w own w' own')(a:∀j t,¬Uh t->¬ok t (k+1,i,j))(b:∀ρ,¬ok 284 ρ):vK lo w' own' k i V P:=
 ⟨h.v.mod p b,h.before.mod p (a 0),h.qw.mod p (a 1),h.all.mod p (a 2)⟩
def vK.u{w w':U}{own:Nat->zo}{k i:Nat}{V:yH}{P:jN}(h:vK lo w own k i V P)(a:μ w w'):vK lo w' own k i V P:=h.mod (Tp.of (ok:=λ_ _=>False) own a) (λ_ _ _=>id) (λ_=>id)
def vK.saveT{w w':U}{own:Nat->zo}{k i:Nat}{V:yH}{P:jN}{t:TypeId}{M:Φ}(h:vK lo w own k i V P)(hs:zd M w w')(a:T2 w t M)(b:Uh t)(c:284≠t):vK lo w' own k i V P:=⟨h.v.saveT hs a c,h.before.saveT hs a b,h.qw.saveT hs a b,h.all.saveT hs a b⟩
def Jn(lo:Nat)(w:U)(own:Nat->zo)(k i wd:Nat)(tv:O)(l:zw)(e:Ending)(w':U):Prop:=∃P a,P.tv=tv/\e=ε (.agg (dR wd (gF wd l) P).F)/\vK lo w' a k i (gF wd l) P/\(∀b,b<w.o.q->a b=own b)/\μ w w'
def Gi(l:zw):xi l<=5:=by
 unfold xi;have:=tu (p:=zK l) (l:=List.range 5);simpa using this
def Me(w:U)(own:Nat->zo)(k i:Nat)(l:zw)(tv:O)(wd:Nat)(h:yu lo w tv l.v)(hl:lo<=w.o.q)(a5:wd<=1000):
  Calls prog 204 #[.agg #[ι l.o,tv],ι wd] w λe w'=>Jn lo w own k i wd tv l e w':=by
 obtain⟨y,a,rfl⟩:=h.qy;have HD:X (∀W,μ w W->Calls prog 212 #[.agg #[ι l.o,.k y l.v.j a]] W λe w'=>e=ε (ι (xi l:Nat))/\μ W w'):=λW hW=>CH W _ l.o l.v (h.u hW);have HT:=Tg h;have aq:X (gF wd l=⟨l,xk wd (xi l),xk wd (xi l),xk wd (xi l)⟩):=rfl;have aB:=Gi l;have HN:=Tg λW=>BB W wd (xi l) a5 η;have HL:=Tg hl;clear h hl aB;have I:=Th.new ((w.C (.E #[ι l.o,.k y l.v.j a] 204)).C (.E #[ι 0,ν,ι 0,.u Y,.u Y,.u Y] 301)) #[ι l.o,.k y l.v.j a,ι wd,.u Y,.u Y,.u Y] 301;have c:=(Th.new (w.C (.E #[ι l.o,.k y l.v.j a] 204)) #[ι 0,ν,ι 0,.u Y,.u Y,.u Y] 301).u ((zn _ _).C (zg _) (.E #[ι l.o,.k y l.v.j a,ι wd,.u Y,.u Y,.u Y] 301));simp only[U.size_alloc] at I c;generalize xi l=dl at *;go_enter func204,ntmps204;go_upto_region 3 with (first|(go_at_call 212;refine(HD.l _ γ).y ?_;rintro e w1 ⟨rfl,D⟩;have E:μ w w1:=(zQ γ D (zg _));have Q:=I.u D;have ax:=c.u D))
 clear I c D;have a9:lo<=w1.o.q:=by have:=HL.l;have:=E.q;omega
 obtain⟨r,o,u⟩:=Q.e;have aO:=E.q;have ab:X (yu lo w1 _ l.v):=HT.l.u E;go_upto_region 4 with (first|(go_at_call 119;refine(HN.l _).y ?_;rintro e S ⟨f,aJ,rfl,aw,s⟩;have z:=Q.u s;have a3:=ax.u s;obtain⟨a2,ao,au⟩:=z.e))
 have M:=(yb.new own (k+1,i,0) aw a9).set z θ 3 (pt f);have N:zd [w.o.q+1+1] S (S.x (ω (w.o.q+1+1) 3) (pt f)):=zd.set _ _ _ _;have K:X (yu lo _ _ l.v):=(ab.l.u s).saveT N (T2.box z) θ;have C:Th (S.x (ω (w.o.q+1+1) 3) (pt f)) (w.o.q+1+1) #[ι l.o,.k y l.v.j a,ι wd,(π f),.u Y,.u Y] 301:=by have q:=z.set 3 (pt f);simpa [pt] using q
 have P:=a3.set_ne (show w.o.q+1≠w.o.q+1+1 by omega) 3 (pt f);have V:μ w (S.x (ω (w.o.q+1+1) 3) (pt f)):=(Tk E s).x υ _;have aI:(S.x (ω (w.o.q+1+1) 3) (pt f)).o.q=S.o.q:=by simp[U.setCell]
 have aD:=s.q;generalize x:ext own w1.o.q (k+1,i,0)=n at *;have J:∀b,b<w.o.q->n b=own b:=λb hb=>by rw[←x];exact fM _ _ _ _ η
 have av:pt f=(π f):=rfl;rw[av] at M N K C P V aI;generalize S.x (ω (w.o.q+1+1) 3) ((π f))=w3 at *;clear x aw s z a3 a2 ao au r o u Q ax ab N av;have aC:lo<=w3.o.q:=η;obtain⟨r,o,u⟩:=C.e;go_upto_region 5 with (first|(go_at_call 119;refine(HN.l _).y ?_;rintro e L ⟨m,aN,rfl,am,c⟩;have p:=C.u c;have al:=P.u c;obtain⟨an,ai,ap⟩:=p.e))
 have a1:=(M.mod (Tp.extNew (ok:=λ_ _=>False) n (k+1,i,1) c) (λ_ _=>id)).set p θ 4 ((π m));have a0:=(yb.new n (k+1,i,1) am aC).set p θ 4 ((π m));have ae:zd [w.o.q+1+1] L (L.x (ω (w.o.q+1+1) 4) ((π m))):=zd.set _ _ _ _;have ah:X (yu lo _ _ l.v):=(K.l.u c).saveT ae (T2.box p) θ;have R:Th (L.x (ω (w.o.q+1+1) 4) ((π m))) (w.o.q+1+1) #[ι l.o,.k y l.v.j a,ι wd,(π f),(π m),.u Y] 301:=by have q:=p.set 4 ((π m));simpa using q
 have ay:=al.set_ne (show w.o.q+1≠w.o.q+1+1 by omega) 4 ((π m));have ak:μ w (L.x (ω (w.o.q+1+1) 4) ((π m))):=(Tk V c).x υ _;have aM:(L.x (ω (w.o.q+1+1) 4) ((π m))).o.q=L.o.q:=by simp[U.setCell]
 have aH:=c.q;generalize A:ext n w3.o.q (k+1,i,1)=d at *;have T:∀b,b<w.o.q->d b=own b:=λb hb=>by rw[←A,fM _ _ _ _ η];exact J b hb
 generalize L.x (ω (w.o.q+1+1) 4) ((π m))=w5 at *;clear A am c p al an ai ap r o u C P M K ae V;have a8:lo<=w5.o.q:=η;obtain⟨r,o,u⟩:=R.e;go_upto_region 6 with (first|(go_at_call 119;refine(HN.l _).y ?_;rintro e w6 ⟨t,aK,rfl,ag,g⟩;have j:=R.u g;have af:=ay.u g;obtain⟨az,aj,ac⟩:=j.e))
 have aF:=(a1.mod (Tp.extNew (ok:=λ_ _=>False) d (k+1,i,2) g) (λ_ _=>id)).set j θ 5 ((π t));have a7:=(a0.mod (Tp.extNew (ok:=λ_ _=>False) d (k+1,i,2) g) (λ_ _=>id)).set j θ 5 ((π t));have a6:=(yb.new d (k+1,i,2) ag a8).set j θ 5 ((π t));have ar:zd [w.o.q+1+1] w6 (w6.x (ω (w.o.q+1+1) 5) ((π t))):=zd.set _ _ _ _;have a4:X (yu lo _ _ l.v):=(ah.l.u g).saveT ar (T2.box j) θ;have aA:Th (w6.x (ω (w.o.q+1+1) 5) ((π t))) (w.o.q+1+1) #[ι l.o,.k y l.v.j a,ι wd,(π f),(π m),(π t)] 301:=by have q:=j.set 5 ((π t));simpa using q
 have ad:=af.set_ne (show w.o.q+1≠w.o.q+1+1 by omega) 5 ((π t));have aG:μ w (w6.x (ω (w.o.q+1+1) 5) ((π t))):=(Tk ak g).x υ _;generalize B:ext d w5.o.q (k+1,i,2)=H at *;have aa:∀b,b<w.o.q->H b=own b:=λb hb=>by rw[←B,fM _ _ _ _ η];exact T b hb
 generalize w6.x (ω (w.o.q+1+1) 5) ((π t))=w7 at *;clear B ag g j af az aj ac r o u R ay a1 a0 ah ar ak;obtain⟨r,o,u⟩:=aA.e;obtain⟨aE,aP,aL⟩:=ad.e;go_wp2
 (try simp only[Exit.inBlock,Exit.then])
 have F:zd [w.o.q+1] w7 ((((((w7.x (δ (w.o.q+1)) (ι l.o)).x (ω (w.o.q+1) 1) (.k y l.v.j a)).x (ω (w.o.q+1) 2) (ι wd)).x (ω (w.o.q+1) 3) ((π f))).x (ω (w.o.q+1) 4) ((π m))).x (ω (w.o.q+1) 5) ((π t))):=(((((zd.set _ _ _ _).A (zd.set _ _ _ _)).A (zd.set _ _ _ _)).A (zd.set _ _ _ _)).A (zd.set _ _ _ _)).A (zd.set _ _ _ _);have G:=T2.box ad;refine zO (v:=.agg #[ι l.o,.k y l.v.j a,ι wd,(π f),(π m),(π t)]) (by simp[results,results204,go_sem,aE]) rfl ⟨⟨.k y l.v.j a,f,m,t⟩,H,rfl,by rw[aq.l];rfl,?_,aa,?_⟩;rw[aq.l];exact⟨a4.l.saveT F G θ,aF.saveT F G θ,a7.saveT F G θ,a6.saveT F G θ⟩;exact(((((aG.x ζ _).x ζ _).x ζ _).x ζ _).x ζ _).x ζ _
end
section
open Go.Proofs.Tryz
variable {lo:Nat}{r:zu}{tv sv bv:O}{hvs:List O}{ji:List Int}{d:Int}
def SM:(prog.info? 323).map (λi=>(i.zero,i.q,i.bytes))=Z (Z (.agg #[.u Y,ι 0,ι 0,ι 0]),4,32):=χ
def Te:(prog.info? 325).map (λi=>(i.zero,i.q,i.bytes))=Z (Z (.agg #[ι 0,ν,ι 0,.u Y]),4,48):=χ
def S8:(prog.info? 310).map (·.q)=Z 28:=χ
structure jL (lo:Nat) (w:U) (J:zE) (P:xI):Prop where
 g:yu lo w P.tv J.g.v
 ja:w.r lo 323 4 P.sv J.ja.j (yE (List.zipWith ft J.ja P.tbs))
 slen:P.tbs.j=J.ja.j
 tries:∀k (_:k<J.ja.j) (_:k<P.tbs.j),yb lo w P.tbs[k].1 J.ja[k].I P.tbs[k].2
 B:∀s∈J.ja,s.B.j=3
 bars:w.r lo 325 4 P.bv J.bars.j (yE (List.zipWith fd J.bars P.bps))
 blen:P.bps.j=J.bars.j
 jk:∀k (_:k<J.bars.j) (_:k<P.bps.j),yu lo w P.bps[k].1 J.bars[k].lit.v/\yb lo w P.bps[k].2.1 J.bars[k].I P.bps[k].2.2
 hlen:P.hvs.j=5/\J.jf.j=5
 jf:∀p (_:p<J.jf.j) (_:p<P.hvs.j),w.r lo 327 2 P.hvs[p] J.jf[p].j (kT J.jf[p])/\J.jf[p].j<=1000/\∀h∈J.jf[p],h.1<=1000000/\h.2<=1000000
 jl:J.ji.j=5/\J.P.j=5/\J.from.j=5
 K:J.ja.j<=1000/\J.bars.j<=1000/\J.m<=1000000
def jL.join{w:U}{a:Nat}{J:zE}{P:xI}(h:jL lo w J P)(b:lo<=a)(c:Th w a (uM J P).F 310):T7 lo w a J P:=
 ⟨b,c,h.g,h.ja,h.slen,h.tries,h.B,h.bars,h.blen,h.jk,h.hlen,h.jf,h.jl,h.K⟩
def jL.u{w w':U}{J:zE}{P:xI}(h:jL lo w J P)(c:μ w w'):jL lo w' J P:=
 ⟨h.g.u c,zy h.ja c,h.slen,λk a b=>(h.tries k a b).u c,h.B,zy h.bars c,h.blen,λk a b=>⟨(h.jk k a b).1.u c,(h.jk k a b).2.u c⟩,h.hlen,λp a b=>⟨zy (h.jf p a b).1 c,(h.jf p a b).2⟩,h.jl,h.K⟩
def sC(J:zE)(P:xI)(h:P.hvs.j=5)(a:J.ji.j=5/\J.P.j=5/\J.from.j=5):(uM J P).j=28:=by
 simp[uM,h,a.1,a.2.1,a.2.2]
def jc(r:zu)(tv sv bv:O)(hvs:List O)(ji:List Int)(d:Int):List Value:=
 [ι r.g.o,tv,ι r.m,sv,bv]++hvs++ji.map (O.int .i64)++[ι (xM r r.m)]++([0,0,0,0,0]:List Nat).map TN++([0,0,0,0,0]:List Nat).map TN++[ι d,ι 0]
def Nb(a:hvs.j=5)(k:Nat)(f:k<5)(u:O):(jc r tv sv bv hvs ji d).F.setIfInBounds (5+k) u=(jc r tv sv bv (hvs.set k u) ji d).F:=by
 obtain⟨c,h,e,g,b,rfl⟩:=five a;obtain rfl|rfl|rfl|rfl|rfl:k=0∨k=1∨k=2∨k=3∨k=4:=η
 all_goals simp[jc]
def R9(b:hvs.j=5)(a:ji.j=5)(k:Nat)(i:k<5)(u:Int):(jc r tv sv bv hvs ji d).F.setIfInBounds (10+k) (ι u)=(jc r tv sv bv hvs (ji.set k u) d).F:=by
 obtain⟨f,l,h,j,c,rfl⟩:=five b;obtain⟨e,g,m,o,n,rfl⟩:=five a;obtain rfl|rfl|rfl|rfl|rfl:k=0∨k=1∨k=2∨k=3∨k=4:=η
 all_goals simp[jc]
def J6(b:hvs.j=5)(a:ji.j=5)(u:Int):(jc r tv sv bv hvs ji d).F.setIfInBounds 26 (ι u)=(jc r tv sv bv hvs ji u).F:=by
 obtain⟨g,c,i,k,e,rfl⟩:=five b;obtain⟨f,h,m,l,j,rfl⟩:=five a;simp[jc]
def MI(u:O):(jc r tv sv bv hvs ji d).F.setIfInBounds 4 u=(jc r tv sv u hvs ji d).F:=by simp[jc]
def Om(b:hvs.j=5)(a:ji.j=5):(jc r tv sv bv hvs ji d).F[3]?=Z sv/\(jc r tv sv bv hvs ji d).F[4]?=Z bv/\(jc r tv sv bv hvs ji d).F[26]?=Z (ι d)/\(∀k,k<5->(jc r tv sv bv hvs ji d).F[5+k]?=Z (hvs.g k (.i false)))/\(∀k,k<5->(jc r tv sv bv hvs ji d).F[10+k]?=Z (ι (ji.g k 0))):=by
 obtain⟨i,e,h,m,f,rfl⟩:=five b;obtain⟨g,j,o,n,l,rfl⟩:=five a;refine⟨by simp[jc],by simp[jc],by simp[jc],λk c=>?_,λk c=>?_⟩
 all_goals
  obtain rfl|rfl|rfl|rfl|rfl:k=0∨k=1∨k=2∨k=3∨k=4:=η
  all_goals simp[jc]
def E0:∀(a:List V4) (k:Nat) (_:k<a.j) (u:O),(yE a).set (k*4) u=yE (a.modify k λy=>(u,y.2.1,y.2.2.1,y.2.2.2))
 |[],k,b,_=>by simp at b
 |y::r,0,_,u=>by simp[yE,lh]
 |y::r,k+1,b,u=>by
  have:=E0 r k (by simpa using b) u;simp only[yE,uU,lh,List.modify_succ_cons] at this ⊢;rw[show(k+1)*4=k*4+1+1+1+1 from by omega];simpa using this
def Lk(a:List V4)(y:V4):yE (a++[y])=yE a++[y.1,y.2.1,y.2.2.1,y.2.2.2]:=by simp[yE,lh]
def RX(a b c e:O):∀(n i:Nat),i<n*4->(madeCells #[a,b,c,e] (n*4))[i]?=(yE (List.replicate n (a,b,c,e)))[i]?:=by
 intro n i o;obtain⟨k,j,p,rfl⟩:∃k j,j<4/\i=k*4+j:=⟨i / 4,i%4,Nat.mod_lt _ θ,η⟩;have q:k<n:=η;obtain⟨f,h,g,l⟩:=tr (List.replicate n (a,b,c,e)) k (by simpa using q);simp only[eX] at f h g l;have m:(k*4+j)%4=j:=η;simp only[madeCells,Array.getElem?_map,Array.getElem?_range];rw[zb o];simp only[jZ];have s:(#[a,b,c,e]:Array O).q=4:=rfl;rw[s,m];match j,p with
 |0,_=>rw[vr,f];rfl
 |1,_=>rw[h];rfl
 |2,_=>rw[g];rfl
 |3,_=>rw[l];rfl
def O3{W:U}{g n:Nat}{T:TypeId}{a b c f:O}(h:Th W g (madeCells #[a,b,c,f] (n*4)) T)(j:lo<=g)(k:n<=maxLen):W.r lo T 4 (sl g n) n (yE (List.replicate n (a,b,c,f))):=by
 refine⟨by rw[i6];simp,ze ⟨g,n,madeCells #[a,b,c,f] (n*4),rfl,j,h,zg _,k,by rw[size_madeCells],?_⟩⟩;apply nL;intro i;by_cases e:i<n*4;rw[nc,zb e,Array.getElem?_toList,RX _ _ _ _ n i e];rw[nc,za e,gL (by rw[i6];simp;omega)]
def Vg(b:Nat):Value:=(π b)
def oe:V4:=(.u Y,ι 0,ι 0,ι 0)
def iT:List Value:=[ν,ν,ν,ν,ν]
def iK(w a:U)(r:zu)(tv:O)(n:Nat)(s:O):Prop:=∃b g,s=(π b)/\w.o.q<=b/\w.o.q<=g/\Th a b (jc r tv (sl g n) (ν) iT [0,0,0,0,0] 0).F 310/\Th a g (madeCells #[.u Y,ι 0,ι 0,ι 0] (n*4)) 323/\μ w a
end
section
variable {lo:Nat}{w0 w:U}{b6 jb:Nat}{r:zu}{tv sv bv:O}{hvs:List O}{ji:List Int}{d:Int}
def Kx{l:zw}{p n:Nat}(h:xh l p=Z n):n<=p:=by
 unfold xh at h;split at h;simp only[zt] at h;have:=tu (p:=zK l) (l:=List.range p);simp at this;omega;cases h
def IR(r:zu)(p:Nat)(f:r.qc.j<=1000)(g:p<=1000000):(xy r p).j<=1000/\∀h∈xy r p,h.1<=1000000/\h.2<=1000000:=by
 constructor;have:=tz (fO p) r.qc.zipIdx;rw[C6];simp at this;omega;intro h c;rw[C6,mP] at c;obtain⟨x,e,b⟩:=c;unfold fO at b;rcases a:xh x.1 p with _|i;rw[a] at b;cases b;rw[a] at b;simp only[jZ,zt] at b;subst b;have j:=Kx a;have k:=List.snd_lt_of_mem_zipIdx e;simp only;omega
structure uZ (lo:Nat) (w0 w:U) (b6 jb:Nat) (r:zu) (tv sv bv:O) (hvs:List O) (ji:List Int) (d:Int):Prop where
 box:Th w jb (jc r tv sv bv hvs ji d).F 310
 hlen:hvs.j=5
 blen:ji.j=5
 res:∃c,Th w b6 c 310/\c.q=28
 u:μ w0 w
 ne:w0.o.q<=jb/\w0.o.q<=b6/\jb≠b6
def uZ.next{w':U}(h:uZ lo w0 w b6 jb r tv sv bv hvs ji d)(a:μ w w'):uZ lo w0 w' b6 jb r tv sv bv hvs ji d:=by
 obtain⟨c,e,b⟩:=h.res;exact⟨h.box.u a,h.hlen,h.blen,⟨c,e.u a,b⟩,Tk h.u a,h.ne⟩
def uZ.hold(h:uZ lo w0 w b6 jb r tv sv bv hvs ji d)(k:Nat)(e:k<5)(u:O):uZ lo w0 (w.x (ω jb (5+k)) u) b6 jb r tv sv bv (hvs.set k u) ji d:=by
 obtain⟨c,b,a⟩:=h.res;refine⟨?_,by simpa using h.hlen,h.blen,⟨c,b.set_ne (Ne.symm h.ne.2.2) _ _,a⟩,h.u.x h.ne.1 _,h.ne⟩;have:=h.box.set (5+k) u;rw[Nb h.hlen k e] at this;exact this
def uZ.back(h:uZ lo w0 w b6 jb r tv sv bv hvs ji d)(k:Nat)(e:k<5)(u:Int):uZ lo w0 (w.x (ω jb (10+k)) (ι u)) b6 jb r tv sv bv hvs (ji.set k u) d:=by
 obtain⟨c,b,a⟩:=h.res;refine⟨?_,h.hlen,by simpa using h.blen,⟨c,b.set_ne (Ne.symm h.ne.2.2) _ _,a⟩,h.u.x h.ne.1 _,h.ne⟩;have:=h.box.set (10+k) (ι u);rw[R9 h.hlen h.blen k e] at this;exact this
def uZ.ql(h:uZ lo w0 w b6 jb r tv sv bv hvs ji d)(u:Int):uZ lo w0 (w.x (ω jb 26) (ι u)) b6 jb r tv sv bv hvs ji u:=by
 obtain⟨c,b,a⟩:=h.res;refine⟨?_,h.hlen,h.blen,⟨c,b.set_ne (Ne.symm h.ne.2.2) _ _,a⟩,h.u.x h.ne.1 _,h.ne⟩;have:=h.box.set 26 (ι u);rw[J6 h.hlen h.blen] at this;exact this
def uZ.bars(h:uZ lo w0 w b6 jb r tv sv bv hvs ji d)(u:O):uZ lo w0 (w.x (ω jb 4) u) b6 jb r tv sv u hvs ji d:=by
 obtain⟨c,b,a⟩:=h.res;refine⟨?_,h.hlen,h.blen,⟨c,b.set_ne (Ne.symm h.ne.2.2) _ _,a⟩,h.u.x h.ne.1 _,h.ne⟩;have:=h.box.set 4 u;rw[MI] at this;exact this
def uZ.save{w0 w w':U}{b6 jb:Nat}{r:zu}{tv sv bv:O}{hvs:Γ}{ji:List Int}{d:Int}{M:Φ}(h:uZ lo w0 w b6 jb r tv sv bv hvs ji d)(hs:zd M w w')(e:∀b∈M,w0.o.q<=b)(a:jb∉M/\b6∉M):uZ lo w0 w' b6 jb r tv sv bv hvs ji d:=by
 obtain⟨c,g,f⟩:=h.res;exact⟨h.box.save hs a.1,h.hlen,h.blen,⟨c,g.save hs a.2,f⟩,h.u.A (hs.u e h.u.q),h.ne⟩
def ju(T1:List (Nat×List Nat))(n k:Nat):List V4:=(T1.G k).map (λx=>(Vg x.1,ι 0,ι 0,ι 0))++List.replicate (n-k) oe
structure hX (b0 lo:Nat) (w:U) (v:O) (ts:List zl) (T1:List (Nat×List Nat)):Prop where
 own:w.r b0 162 1 v ts.j (T1.map λx=>Vg x.1)
 len:T1.j=ts.j
 tries:∀k (_:k<ts.j) (_:k<T1.j),yb lo w T1[k].1 ts[k] T1[k].2
 K:ts.j<=1000
def hX.u{c:Nat}{w w':U}{v:O}{ts:List zl}{T1:List (Nat×Φ)}(h:hX c lo w v ts T1)(e:μ w w'):hX c lo w' v ts T1:=⟨zy h.own e,h.len,λk a b=>(h.tries k a b).u e,h.K⟩
def hX.cell{f:Nat}{w:U}{v:O}{ts:List zl}{T1:List (Nat×Φ)}(h:hX f lo w v ts T1)(k:Nat)(j:k<ts.j)(b:k<T1.j):∃g a,v=.k (Z (δ g)) ts.j a/\g<w.o.q/\w.p (ω g k)=Z (.u (Z (δ T1[k].1))):=by
 obtain⟨g,a,e,_,c,i⟩:=yr h.own η;exact⟨g,a,e,c,i k _ (by simp[b,Vg])⟩
def kD(r:zu)(k:Nat):List Int:=(List.range 5).map λp=>if p<k then xM r (p:Nat) else 0
def IX(r:zu)(k:Nat)(a:k<5):(kD r k).set k (xM r (k:Nat))=kD r (k+1):=by
 obtain rfl|rfl|rfl|rfl|rfl:k=0∨k=1∨k=2∨k=3∨k=4:=η
 all_goals rfl
def vA(r:zu)(qc qx:List zl)(d:Int):zE:={g:=r.g,m:=r.m,ja:=qc.map (λT=>⟨T,[0,0,0]⟩),bars:=(r.qx.zip qx).map (λx=>⟨x.1,vj x.1,x.2⟩),jf:=(List.range 5).map (xy r),ji:=(List.range 5).map (λp=>xM r (p:Nat)),last:=xM r r.m,P:=[0,0,0,0,0],«from»:=[0,0,0,0,0],ql:=d,jg:=0}
def kW(qc:List zl):Int:=if qc.any (λT=>T.count == 0) then -1 else 0
def Np(r:zu)(qc qx:List zl):xK r qc qx=if vi (vA r qc qx (kW qc)) 0 then vA r qc qx (-1) else vA r qc qx (kW qc):=rfl
end
end Go.Proofs.YteampbddflhngaaGreat
