import Derived.Laws.Tables
import Derived.Laws.Rows
import Derived.Test.YteampbddflhngaaGreatR02
namespace Go.Proofs.YteampbddflhngaaGreat
open List renaming length→List.j,getD→List.g,take→List.G,toArray→List.F,foldl→List.H
open _root_.Array renaming size→Array.q,getD→Array.g,foldl→Array.H
open _root_.ByteArray renaming size→ByteArray.q
open Go.RowKit.Below renaming size→Go.RowKit.Below.q,setCell→Go.RowKit.Below.x,mono→Go.RowKit.Below.y,trans→Go.RowKit.Below.A,alloc→Go.RowKit.Below.C
open Go.TypeInfo renaming size→Go.TypeInfo.q
open Go.RowKit.Hid renaming out→Go.RowKit.Hid.l
open Go.Shut renaming out→Go.Shut.l
open Go.World renaming heap→Go.World.o,setCell→Go.World.x,cell?→Go.World.p,alloc→Go.World.C,ownsRow→Go.World.r
open Go.Value renaming slice→Go.Value.k,bool→Go.Value.i,cells→Go.Value.E,ownBlock→Go.Value.m,pointer→Go.Value.u,tuple→Go.Value.B
open Go.TypeDesc renaming slice→Go.TypeDesc.k,bool→Go.TypeDesc.i,pointer→Go.TypeDesc.u,tuple→Go.TypeDesc.B
open Option renaming getD→Option.g,isSome→Option.I,some→Z,none→Y
open Go.Calls renaming mono→Go.Calls.y
open Eq renaming trans→Eq.A
open Iff renaming trans→Iff.A
open Go.Obj renaming cells→Go.Obj.E
open Int renaming toNat→Int.D
open UInt8 renaming toNat→UInt8.D
open Go.RowKit renaming Hid→X
open Go renaming World→U,Value→O
set_option linter.all false
set_option maxRecDepth 100000
set_option maxHeartbeats 8000000
open Go.RowKit
section
open Go.Proofs.Tryz
variable {lo:Nat}
def Dq(a b:Nat):((a:Int) == (b:Int))=(a == b):=by
 by_cases h:a=b;subst h;rw[beq_self_eq_true,beq_self_eq_true];rw[beq_eq_false_iff_ne.2 (by omega:(a:Int)≠(b:Int)),beq_eq_false_iff_ne.2 h]
def pG(t:yh):Value:=.agg #[.i t.var,ι t.z,ι t.w]
def UT(x y z:Nat):Value:=.agg #[ι x,ι y,ι z]
def sJ(a b c d e:Nat):Value:=.agg #[ι a,ι b,ι c,ι d,ι e]
def oe(w:U)(t:yh)(a b c d e:Nat):
  Calls prog 188 #[pG t,sJ a b c d e] w λr j=>r=ε (ι (U1 t [a,b,c,d,e]:Nat))/\μ w j:=by
 obtain⟨i,n,g⟩:=t;unfold pG sJ;simp only;cases i
 .have f:X (U1 ⟨false,n,g⟩ [a,b,c,d,e]=n):=rfl;go_enter func188,ntmps188;go_wp2;go_ret;exact⟨by rw[f.l];rfl,γ⟩
 by_cases h:n<5
 .have f:X (U1 ⟨true,n,g⟩ [a,b,c,d,e]=[a,b,c,d,e].g n 0):=by simp[X,U1,h]
  obtain rfl|rfl|rfl|rfl|rfl:n=0∨n=1∨n=2∨n=3∨n=4:=η
  all_goals
   go_enter func188,ntmps188;go_wp2;go_ret;exact⟨by rw[f.l];rfl,γ⟩
 have f:X (U1 ⟨true,n,g⟩ [a,b,c,d,e]=n):=by simp[X,U1,h]
 go_enter func188,ntmps188;go_wp2;go_ret;exact⟨by rw[f.l];rfl,γ⟩
def ib(w:U)(t:yh):
  Calls prog 218 #[pG t] w λr e=>r=ε (.i (leveled t))/\μ w e:=by
 obtain⟨d,n,b⟩:=t;unfold pG;simp only;cases d
 .have a:X (leveled ⟨false,n,b⟩=false):=rfl;go_enter func218,ntmps218;go_wp2;go_ret;exact⟨by rw[a.l];rfl,γ⟩
 by_cases c:b<3
 .have a:X (leveled ⟨true,n,b⟩=true):=by simp[X,leveled,c]
  go_enter func218,ntmps218;go_wp2;go_ret;exact⟨by rw[a.l];simp;omega,γ⟩
 have a:X (leveled ⟨true,n,b⟩=false):=by simp[X,leveled,c]
 go_enter func218,ntmps218;go_wp2;go_ret;exact⟨by rw[a.l];simp;omega,γ⟩
def oK(w:U)(t:yh)(v x y z:Nat):
  Calls prog 219 #[pG t,ι v,UT x y z] w λr A=>r=ε (.i (kh t v [x,y,z]))/\μ w A:=by
 have e:=Th λW=>ib W t;have h:X (kh t v [x,y,z]=if leveled t then [x,y,z].g t.w 0 == v else t.z == v):=rfl;have d:leveled t=true->t.w<3:=by simp[leveled]
 generalize leveled t=o at *;obtain⟨g,n,f⟩:=t;unfold pG at e ⊢;unfold UT;simp only at e d h ⊢;cases o
 .go_enter func219,ntmps219;go_wp2_with (go_at_call 218;refine(e.l _).y ?_;rintro r i ⟨rfl,a⟩;have c:μ w i:=zT γ a (zf _);have b:=((Ti.new w #[.i g,ι n,ι f] 284).u ((zn _ _).C (zf _) (.E #[ι x,ι y,ι z] 165))).u a;obtain⟨p,l,u⟩:=b.e)
  go_ret;exact⟨by rw[h.l];simp[Dq],c⟩
 have s:=d rfl;obtain rfl|rfl|rfl:f=0∨f=1∨f=2:=η
 all_goals
  go_enter func219,ntmps219;go_wp2_with (go_at_call 218;refine(e.l _).y ?_;rintro r i ⟨rfl,a⟩;have c:μ w i:=zT γ a (zf _);have b:=((Ti.new w #[.i g,ι n,ι _] 284).u ((zn _ _).C (zf _) (.E #[ι x,ι y,ι z] 165))).u a;obtain⟨p,l,u⟩:=b.e;have j:=(Ti.newAt (w.C (.E #[.i g,ι n,ι _] 284)) (w.o.q+1) #[ι x,ι y,ι z] 165 ζ).u a;obtain⟨q,m,k⟩:=j.e)
  go_ret;exact⟨by rw[h.l];simp[Dq],c⟩
def nV(l:zw)(vals:List Nat):Nat->Array O
 |0=>#[ι 0,ι 0,ι 0]
 |1=>#[ι ((Tk l vals 0:Nat):Int),ι 0,ι 0]
 |2=>#[ι ((Tk l vals 0:Nat):Int),ι ((Tk l vals 1:Nat):Int),ι 0]
 |_=>#[ι ((Tk l vals 0:Nat):Int),ι ((Tk l vals 1:Nat):Int),ι ((Tk l vals 2:Nat):Int)]
def BD(w:U)(v:O)(o:Nat)(ts:List yh)(a b c d e:Nat)(h:yt lo w v ts):
  Calls prog 161 #[.agg #[ι o,v],sJ a b c d e] w λr w'=>r=ε (.agg #[ι ((Tk ⟨o,ts⟩ [a,b,c,d,e] 0:Nat):Int),ι ((Tk ⟨o,ts⟩ [a,b,c,d,e] 1:Nat):Int),ι ((Tk ⟨o,ts⟩ [a,b,c,d,e] 2:Nat):Int)])/\μ w w':=by
 obtain⟨ao,af,rfl⟩:=h.qy;have hl:=h.len;unfold sJ;go_enter func161,ntmps161;go_wp2;go_loopw [7] (λv7 wr=>∃k:Nat,k<=3/\v7=ι k/\Ti wr w.o.q #[ι o,.k ao ts.j af] 204/\Ti wr (w.o.q+1) #[ι a,ι b,ι c,ι d,ι e] 262/\Ti wr (w.o.q+2) #[ι 0,ι 0,ι 0] 165/\Ti wr (w.o.q+3) (nV ⟨o,ts⟩ [a,b,c,d,e] k) 165/\μ w wr) (λi _=>3-(intOf i).D);exact⟨0,η,rfl,(((Ti.new w _ _).u zO).u zO).u zO,((Ti.newAt _ _ _ _ ζ).u zO).u zO,(Ti.newAt _ _ _ _ ζ).u zO,Ti.newAt _ _ _ _ ζ,γ⟩;obtain⟨k,hk,rfl,B,z,A,F,j⟩:=hrel;obtain⟨ap,al,an⟩:=B.e;obtain⟨am,ah,ak⟩:=z.e;have ag:=j.q;match k,hk with
 |0,_=>
  have l:Ti wr (w.o.q+3) #[ι 0,ι 0,ι 0] 165:=F;obtain⟨ab,ac,aa⟩:=l.e;by_cases x:0<ts.j
  .obtain⟨g,H,N,h0,V,h2⟩:=h.cell 0 x;subst H;have M:=zi j N h0;have E:=zi j N V;have D:=zi j N h2;simp only[Nat.reduceMul,Nat.reduceAdd] at M E D;have ad:g<wr.o.q:=η;have C:X (Tk ⟨o,ts⟩ [a,b,c,d,e] 0=U1 ts[0] [a,b,c,d,e]):=by simp[X,Tk,x,List.getD_eq_getElem?_getD]
   have y:X (∀W,Calls prog 188 #[.agg #[.i ts[0].var,ι (ts[0].z:Nat),ι (ts[0].w:Nat)],.agg #[ι a,ι b,ι c,ι d,ι e]] W λr w'=>r=ε (ι ((Tk ⟨o,ts⟩ [a,b,c,d,e] 0:Nat):Int))/\μ W w'):=λW=>by rw[C.l];exact oe W ts[0] a b c d e
   clear h0 V h2 C;generalize ts[0]=t at *;obtain⟨u,s⟩:∃u,u=Tk ⟨o,ts⟩ [a,b,c,d,e] 0:=⟨_,rfl⟩;rw[←s] at y;have I:=Th s.symm;clear s;go_wp2;go_region_with (go_at_call 188;refine(y.l _).y ?_;rintro r w2 ⟨rfl,P⟩;have f:μ wr w2:=(zT γ P (zf _));have m:=l.u f;obtain⟨Q,S,R⟩:=m.e)
   all_goals
    have n:=m.set 0 (ι u);simp at n;have L:=(B.u f).set_ne (show w.o.q≠w.o.q+3 from by omega) 0 (ι u);have G:=(z.u f).set_ne (show w.o.q+1≠w.o.q+3 from by omega) 0 (ι u);have J:=(A.u f).set_ne (show w.o.q+2≠w.o.q+3 from by omega) 0 (ι u);have K:=(Tl j f).x (p:=(δ (w.o.q+3))) ζ (ι u);go_wp2;go_roundw;exact⟨1,η,rfl,L,G,J,(by simp only[nV,I.l];exact n),K⟩;simp[intOf]
  have C:X (Tk ⟨o,ts⟩ [a,b,c,d,e] 0=0):=by simp[X,Tk,x]
  have T:ts.j<=0:=η;go_wp2;go_roundw;exact⟨1,η,rfl,B,z,A,(by have q:=l;simp only[nV,C.l];exact q),j⟩;simp[intOf]
 |1,_=>
  have l:Ti wr (w.o.q+3) #[ι ((Tk ⟨o,ts⟩ [a,b,c,d,e] 0:Nat):Int),ι 0,ι 0] 165:=F;obtain⟨ab,ac,aa⟩:=l.e;by_cases x:1<ts.j
  .obtain⟨g,H,N,h0,V,h2⟩:=h.cell 1 x;subst H;have M:=zi j N h0;have E:=zi j N V;have D:=zi j N h2;simp only[Nat.reduceMul,Nat.reduceAdd] at M E D;have ad:g<wr.o.q:=η;have C:X (Tk ⟨o,ts⟩ [a,b,c,d,e] 1=U1 ts[1] [a,b,c,d,e]):=by simp[X,Tk,x,List.getD_eq_getElem?_getD]
   have y:X (∀W,Calls prog 188 #[.agg #[.i ts[1].var,ι (ts[1].z:Nat),ι (ts[1].w:Nat)],.agg #[ι a,ι b,ι c,ι d,ι e]] W λr w'=>r=ε (ι ((Tk ⟨o,ts⟩ [a,b,c,d,e] 1:Nat):Int))/\μ W w'):=λW=>by rw[C.l];exact oe W ts[1] a b c d e
   clear h0 V h2 C;generalize ts[1]=t at *;obtain⟨u,s⟩:∃u,u=Tk ⟨o,ts⟩ [a,b,c,d,e] 1:=⟨_,rfl⟩;rw[←s] at y;have I:=Th s.symm;clear s;go_wp2;go_region_with (go_at_call 188;refine(y.l _).y ?_;rintro r w2 ⟨rfl,P⟩;have f:μ wr w2:=(zT γ P (zf _));have m:=l.u f;obtain⟨Q,S,R⟩:=m.e)
   all_goals
    have n:=m.set 1 (ι u);simp at n;have L:=(B.u f).set_ne (show w.o.q≠w.o.q+3 from by omega) 1 (ι u);have G:=(z.u f).set_ne (show w.o.q+1≠w.o.q+3 from by omega) 1 (ι u);have J:=(A.u f).set_ne (show w.o.q+2≠w.o.q+3 from by omega) 1 (ι u);have K:=(Tl j f).x (p:=(ω (w.o.q+3) 1)) ζ (ι u);go_wp2;go_roundw;exact⟨2,η,rfl,L,G,J,(by simp only[nV,I.l];exact n),K⟩;simp[intOf]
  have C:X (Tk ⟨o,ts⟩ [a,b,c,d,e] 1=0):=by simp[X,Tk,x]
  have T:ts.j<=1:=η;go_wp2;go_roundw;exact⟨2,η,rfl,B,z,A,(by have q:=l;simp only[nV,C.l];exact q),j⟩;simp[intOf]
 |2,_=>
  have l:Ti wr (w.o.q+3) #[ι ((Tk ⟨o,ts⟩ [a,b,c,d,e] 0:Nat):Int),ι ((Tk ⟨o,ts⟩ [a,b,c,d,e] 1:Nat):Int),ι 0] 165:=F;obtain⟨ab,ac,aa⟩:=l.e;by_cases x:2<ts.j
  .obtain⟨g,H,N,h0,V,h2⟩:=h.cell 2 x;subst H;have M:=zi j N h0;have E:=zi j N V;have D:=zi j N h2;simp only[Nat.reduceMul,Nat.reduceAdd] at M E D;have ad:g<wr.o.q:=η;have C:X (Tk ⟨o,ts⟩ [a,b,c,d,e] 2=U1 ts[2] [a,b,c,d,e]):=by simp[X,Tk,x,List.getD_eq_getElem?_getD]
   have y:X (∀W,Calls prog 188 #[.agg #[.i ts[2].var,ι (ts[2].z:Nat),ι (ts[2].w:Nat)],.agg #[ι a,ι b,ι c,ι d,ι e]] W λr w'=>r=ε (ι ((Tk ⟨o,ts⟩ [a,b,c,d,e] 2:Nat):Int))/\μ W w'):=λW=>by rw[C.l];exact oe W ts[2] a b c d e
   clear h0 V h2 C;generalize ts[2]=t at *;obtain⟨u,s⟩:∃u,u=Tk ⟨o,ts⟩ [a,b,c,d,e] 2:=⟨_,rfl⟩;rw[←s] at y;have I:=Th s.symm;clear s;go_wp2;go_region_with (go_at_call 188;refine(y.l _).y ?_;rintro r w2 ⟨rfl,P⟩;have f:μ wr w2:=(zT γ P (zf _));have m:=l.u f;obtain⟨Q,S,R⟩:=m.e)
   all_goals
    have n:=m.set 2 (ι u);simp at n;have L:=(B.u f).set_ne (show w.o.q≠w.o.q+3 from by omega) 2 (ι u);have G:=(z.u f).set_ne (show w.o.q+1≠w.o.q+3 from by omega) 2 (ι u);have J:=(A.u f).set_ne (show w.o.q+2≠w.o.q+3 from by omega) 2 (ι u);have K:=(Tl j f).x (p:=(ω (w.o.q+3) 2)) ζ (ι u);go_wp2;go_roundw;exact⟨3,η,rfl,L,G,J,(by simp only[nV,I.l];exact n),K⟩;simp[intOf]
  have C:X (Tk ⟨o,ts⟩ [a,b,c,d,e] 2=0):=by simp[X,Tk,x]
  have T:ts.j<=2:=η;go_wp2;go_roundw;exact⟨3,η,rfl,B,z,A,(by have q:=l;simp only[nV,C.l];exact q),j⟩;simp[intOf]
 |3,_=>
  simp only[nV] at F;obtain⟨ab,ac,aa⟩:=F.e;obtain⟨ae,aj,ai⟩:=A.e;go_wp2;exact zP (v:=.agg #[ι ((Tk ⟨o,ts⟩ [a,b,c,d,e] 0:Nat):Int),ι ((Tk ⟨o,ts⟩ [a,b,c,d,e] 1:Nat):Int),ι ((Tk ⟨o,ts⟩ [a,b,c,d,e] 2:Nat):Int)]) (by simp[results,results161,go_sem,ae]) rfl ⟨rfl,((j.x (p:=(δ (w.o.q+2))) ζ _).x (p:=(ω (w.o.q+2) 1)) ζ _).x (p:=(ω (w.o.q+2) 2)) ζ _⟩
def vC(l:zw)(row:zk):Nat->zk
 |0=>[0,0,0]
 |k+1=>qW l row (vC l row k) k
def O6{l:zw}{row f:zk}(a:uH l row=f):xW l row=if (xU l row f 0&&xU l row f 1&&xU l row f 2)=true then Z f else none:=by unfold xW;rw[a]
def O2(l:zw)(row:zk):uH l row=vC l row 3:=rfl
def J5(w:U)(v:O)(B:Nat)(ts:List yh)(j f r2:Nat)(h:yt lo w v ts):
  Calls prog 213 #[.agg #[ι B,v],UT j f r2] w λr E=>(∃x y z:Nat,r=ε (.B #[UT x y z,.i (xW ⟨B,ts⟩ [j,f,r2]).I])/\[x,y,z]=(xW ⟨B,ts⟩ [j,f,r2]).g [0,0,0])/\μ w E:=by
 obtain⟨ao,ai,rfl⟩:=h.qy;have hl:=h.len;have aE:=Tg (ι j) (ι f) (ι r2);have aF:=Sz (ι j) (ι f) (ι r2);have aD:=SL (ι j) (ι f) (ι r2);unfold UT;go_enter func213,ntmps213;go_wp2;go_loopw [12] (λaA wr=>∃k x y z:Nat,k<=3/\aA=ι k/\Ti wr w.o.q #[ι B,.k ao ts.j ai] 204/\Ti wr (w.o.q+1) #[ι j,ι f,ι r2] 165/\Ti wr (w.o.q+2) #[ι 0,ι 0,ι 0] 165/\Ti wr (w.o.q+3) #[ι (x:Nat),ι (y:Nat),ι (z:Nat)] 165/\X (vC ⟨B,ts⟩ [j,f,r2] k=[x,y,z])/\μ w wr) (λi _=>3-(intOf i).D);exact⟨0,0,0,0,η,rfl,(((Ti.new w _ _).u zO).u zO).u zO,((Ti.newAt _ _ _ _ ζ).u zO).u zO,(Ti.newAt _ _ _ _ ζ).u zO,Ti.newAt _ _ _ _ ζ,rfl,γ⟩;obtain⟨k,x,y,z,hk,rfl,o,s,q,n,T,b⟩:=hrel;obtain⟨a4,a6,a2⟩:=o.e;obtain⟨az,ax,ay⟩:=s.e;obtain⟨a7,a1,a3⟩:=n.e;have av:=b.q;match k,hk with
 |0,_=>
  by_cases D:0<ts.j
  .have m:X (vC ⟨B,ts⟩ [j,f,r2] 1=if leveled ts[0]=true then [x,y,z].set ts[0].w j else [x,y,z]):=by
    rw[X,vC,T.l];simp[qW,D,List.getD_eq_getElem?_getD]
   obtain⟨g,Q,R,h0,h1,h2⟩:=h.cell 0 D;subst Q;have N:=zi b R h0;have L:=zi b R h1;have F:=zi b R h2;simp only[Nat.reduceMul,Nat.reduceAdd] at N L F;have C:g<wr.o.q:=η;have ah:X (∀W,Calls prog 218 #[.agg #[.i ts[0].var,ι (ts[0].z:Nat),ι (ts[0].w:Nat)]] W λr E=>r=ε (.i (leveled ts[0]))/\μ W E):=λW=>ib W ts[0];have P:leveled ts[0]=true->ts[0].w<3:=by simp[leveled]
   clear h0 h1 h2;generalize ts[0]=t at *;generalize leveled t=lb at *;cases lb
   .simp only[dU,if_false] at m;go_wp2_with (go_at_call 218;refine(ah.l _).y ?_;rintro r w2 ⟨rfl,c⟩)
    go_roundw;exact⟨1,x,y,z,η,rfl,o.u c,s.u c,q.u c,n.u c,m,Tl b c⟩;simp[intOf]
   simp only[if_true] at m;have a0:=P rfl;clear P;generalize al:t.w=lv at *;clear al;go_wp2_with (go_at_call 218;refine(ah.l _).y ?_;rintro r w2 ⟨rfl,c⟩;have a:=c;have A:=o.u c;obtain⟨ag,ad,V⟩:=A.e;have aj:=zi c C F;have u:=n.u c;obtain⟨af,ae,ac⟩:=u.e;have aq:=(ym C c.q);obtain rfl|rfl|rfl:lv=0∨lv=1∨lv=2:=η)
   .have I:X (vC ⟨B,ts⟩ [j,f,r2] 1=[j,y,z]):=by rw[X,m.l];rfl
    have d:=(n.u a).set 0 (ι j);simp at d;have H:=(o.u a).set_ne (show w.o.q≠w.o.q+3 from by omega) 0 (ι j);have J:=(s.u a).set_ne (show w.o.q+1≠w.o.q+3 from by omega) 0 (ι j);have K:=(q.u a).set_ne (show w.o.q+2≠w.o.q+3 from by omega) 0 (ι j);have G:=(Tl b a).x (p:=⟨w.o.q+3,0,Y⟩) ζ (ι j);go_wp2;go_roundw;exact⟨1,j,y,z,η,rfl,H,J,K,d,I,G⟩;simp[intOf]
   .have I:X (vC ⟨B,ts⟩ [j,f,r2] 1=[x,j,z]):=by rw[X,m.l];rfl
    have d:=(n.u a).set 1 (ι j);simp at d;have H:=(o.u a).set_ne (show w.o.q≠w.o.q+3 from by omega) 1 (ι j);have J:=(s.u a).set_ne (show w.o.q+1≠w.o.q+3 from by omega) 1 (ι j);have K:=(q.u a).set_ne (show w.o.q+2≠w.o.q+3 from by omega) 1 (ι j);have G:=(Tl b a).x (p:=⟨w.o.q+3,1,Y⟩) ζ (ι j);go_wp2;go_roundw;exact⟨1,x,j,z,η,rfl,H,J,K,d,I,G⟩;simp[intOf]
   have I:X (vC ⟨B,ts⟩ [j,f,r2] 1=[x,y,j]):=by rw[X,m.l];rfl
   have d:=(n.u a).set 2 (ι j);simp at d;have H:=(o.u a).set_ne (show w.o.q≠w.o.q+3 from by omega) 2 (ι j);have J:=(s.u a).set_ne (show w.o.q+1≠w.o.q+3 from by omega) 2 (ι j);have K:=(q.u a).set_ne (show w.o.q+2≠w.o.q+3 from by omega) 2 (ι j);have G:=(Tl b a).x (p:=⟨w.o.q+3,2,Y⟩) ζ (ι j);go_wp2;go_roundw;exact⟨1,x,y,j,η,rfl,H,J,K,d,I,G⟩;simp[intOf]
  have m:X (vC ⟨B,ts⟩ [j,f,r2] 1=[x,y,z]):=by
   rw[X,vC,T.l];simp[qW,D]
  have au:ts.j<=0:=η;go_wp2;go_roundw;exact⟨1,x,y,z,η,rfl,o,s,q,n,m,b⟩;simp[intOf]
 |1,_=>
  by_cases D:1<ts.j
  .have m:X (vC ⟨B,ts⟩ [j,f,r2] 2=if leveled ts[1]=true then [x,y,z].set ts[1].w f else [x,y,z]):=by
    rw[X,vC,T.l];simp[qW,D,List.getD_eq_getElem?_getD]
   obtain⟨g,Q,R,h0,h1,h2⟩:=h.cell 1 D;subst Q;have N:=zi b R h0;have L:=zi b R h1;have F:=zi b R h2;simp only[Nat.reduceMul,Nat.reduceAdd] at N L F;have C:g<wr.o.q:=η;have ah:X (∀W,Calls prog 218 #[.agg #[.i ts[1].var,ι (ts[1].z:Nat),ι (ts[1].w:Nat)]] W λr E=>r=ε (.i (leveled ts[1]))/\μ W E):=λW=>ib W ts[1];have P:leveled ts[1]=true->ts[1].w<3:=by simp[leveled]
   clear h0 h1 h2;generalize ts[1]=t at *;generalize leveled t=lb at *;cases lb
   .simp only[dU,if_false] at m;go_wp2_with (go_at_call 218;refine(ah.l _).y ?_;rintro r w2 ⟨rfl,c⟩)
    go_roundw;exact⟨2,x,y,z,η,rfl,o.u c,s.u c,q.u c,n.u c,m,Tl b c⟩;simp[intOf]
   simp only[if_true] at m;have a0:=P rfl;clear P;generalize al:t.w=lv at *;clear al;go_wp2_with (go_at_call 218;refine(ah.l _).y ?_;rintro r w2 ⟨rfl,c⟩;have a:=c;have A:=o.u c;obtain⟨ag,ad,V⟩:=A.e;have aj:=zi c C F;have u:=n.u c;obtain⟨af,ae,ac⟩:=u.e;have aq:=(ym C c.q);obtain rfl|rfl|rfl:lv=0∨lv=1∨lv=2:=η)
   .have I:X (vC ⟨B,ts⟩ [j,f,r2] 2=[f,y,z]):=by rw[X,m.l];rfl
    have d:=(n.u a).set 0 (ι f);simp at d;have H:=(o.u a).set_ne (show w.o.q≠w.o.q+3 from by omega) 0 (ι f);have J:=(s.u a).set_ne (show w.o.q+1≠w.o.q+3 from by omega) 0 (ι f);have K:=(q.u a).set_ne (show w.o.q+2≠w.o.q+3 from by omega) 0 (ι f);have G:=(Tl b a).x (p:=⟨w.o.q+3,0,Y⟩) ζ (ι f);go_wp2;go_roundw;exact⟨2,f,y,z,η,rfl,H,J,K,d,I,G⟩;simp[intOf]
   .have I:X (vC ⟨B,ts⟩ [j,f,r2] 2=[x,f,z]):=by rw[X,m.l];rfl
    have d:=(n.u a).set 1 (ι f);simp at d;have H:=(o.u a).set_ne (show w.o.q≠w.o.q+3 from by omega) 1 (ι f);have J:=(s.u a).set_ne (show w.o.q+1≠w.o.q+3 from by omega) 1 (ι f);have K:=(q.u a).set_ne (show w.o.q+2≠w.o.q+3 from by omega) 1 (ι f);have G:=(Tl b a).x (p:=⟨w.o.q+3,1,Y⟩) ζ (ι f);go_wp2;go_roundw;exact⟨2,x,f,z,η,rfl,H,J,K,d,I,G⟩;simp[intOf]
   have I:X (vC ⟨B,ts⟩ [j,f,r2] 2=[x,y,f]):=by rw[X,m.l];rfl
   have d:=(n.u a).set 2 (ι f);simp at d;have H:=(o.u a).set_ne (show w.o.q≠w.o.q+3 from by omega) 2 (ι f);have J:=(s.u a).set_ne (show w.o.q+1≠w.o.q+3 from by omega) 2 (ι f);have K:=(q.u a).set_ne (show w.o.q+2≠w.o.q+3 from by omega) 2 (ι f);have G:=(Tl b a).x (p:=⟨w.o.q+3,2,Y⟩) ζ (ι f);go_wp2;go_roundw;exact⟨2,x,y,f,η,rfl,H,J,K,d,I,G⟩;simp[intOf]
  have m:X (vC ⟨B,ts⟩ [j,f,r2] 2=[x,y,z]):=by
   rw[X,vC,T.l];simp[qW,D]
  have au:ts.j<=1:=η;go_wp2;go_roundw;exact⟨2,x,y,z,η,rfl,o,s,q,n,m,b⟩;simp[intOf]
 |2,_=>
  by_cases D:2<ts.j
  .have m:X (vC ⟨B,ts⟩ [j,f,r2] 3=if leveled ts[2]=true then [x,y,z].set ts[2].w r2 else [x,y,z]):=by
    rw[X,vC,T.l];simp[qW,D,List.getD_eq_getElem?_getD]
   obtain⟨g,Q,R,h0,h1,h2⟩:=h.cell 2 D;subst Q;have N:=zi b R h0;have L:=zi b R h1;have F:=zi b R h2;simp only[Nat.reduceMul,Nat.reduceAdd] at N L F;have C:g<wr.o.q:=η;have ah:X (∀W,Calls prog 218 #[.agg #[.i ts[2].var,ι (ts[2].z:Nat),ι (ts[2].w:Nat)]] W λr E=>r=ε (.i (leveled ts[2]))/\μ W E):=λW=>ib W ts[2];have P:leveled ts[2]=true->ts[2].w<3:=by simp[leveled]
   clear h0 h1 h2;generalize ts[2]=t at *;generalize leveled t=lb at *;cases lb
   .simp only[dU,if_false] at m;go_wp2_with (go_at_call 218;refine(ah.l _).y ?_;rintro r w2 ⟨rfl,c⟩)
    go_roundw;exact⟨3,x,y,z,η,rfl,o.u c,s.u c,q.u c,n.u c,m,Tl b c⟩;simp[intOf]
   simp only[if_true] at m;have a0:=P rfl;clear P;generalize al:t.w=lv at *;clear al;go_wp2_with (go_at_call 218;refine(ah.l _).y ?_;rintro r w2 ⟨rfl,c⟩;have a:=c;have A:=o.u c;obtain⟨ag,ad,V⟩:=A.e;have aj:=zi c C F;have u:=n.u c;obtain⟨af,ae,ac⟩:=u.e;have aq:=(ym C c.q);obtain rfl|rfl|rfl:lv=0∨lv=1∨lv=2:=η)
   .have I:X (vC ⟨B,ts⟩ [j,f,r2] 3=[r2,y,z]):=by rw[X,m.l];rfl
    have d:=(n.u a).set 0 (ι r2);simp at d;have H:=(o.u a).set_ne (show w.o.q≠w.o.q+3 from by omega) 0 (ι r2);have J:=(s.u a).set_ne (show w.o.q+1≠w.o.q+3 from by omega) 0 (ι r2);have K:=(q.u a).set_ne (show w.o.q+2≠w.o.q+3 from by omega) 0 (ι r2);have G:=(Tl b a).x (p:=⟨w.o.q+3,0,Y⟩) ζ (ι r2);go_wp2;go_roundw;exact⟨3,r2,y,z,η,rfl,H,J,K,d,I,G⟩;simp[intOf]
   .have I:X (vC ⟨B,ts⟩ [j,f,r2] 3=[x,r2,z]):=by rw[X,m.l];rfl
    have d:=(n.u a).set 1 (ι r2);simp at d;have H:=(o.u a).set_ne (show w.o.q≠w.o.q+3 from by omega) 1 (ι r2);have J:=(s.u a).set_ne (show w.o.q+1≠w.o.q+3 from by omega) 1 (ι r2);have K:=(q.u a).set_ne (show w.o.q+2≠w.o.q+3 from by omega) 1 (ι r2);have G:=(Tl b a).x (p:=⟨w.o.q+3,1,Y⟩) ζ (ι r2);go_wp2;go_roundw;exact⟨3,x,r2,z,η,rfl,H,J,K,d,I,G⟩;simp[intOf]
   have I:X (vC ⟨B,ts⟩ [j,f,r2] 3=[x,y,r2]):=by rw[X,m.l];rfl
   have d:=(n.u a).set 2 (ι r2);simp at d;have H:=(o.u a).set_ne (show w.o.q≠w.o.q+3 from by omega) 2 (ι r2);have J:=(s.u a).set_ne (show w.o.q+1≠w.o.q+3 from by omega) 2 (ι r2);have K:=(q.u a).set_ne (show w.o.q+2≠w.o.q+3 from by omega) 2 (ι r2);have G:=(Tl b a).x (p:=⟨w.o.q+3,2,Y⟩) ζ (ι r2);go_wp2;go_roundw;exact⟨3,x,y,r2,η,rfl,H,J,K,d,I,G⟩;simp[intOf]
  have m:X (vC ⟨B,ts⟩ [j,f,r2] 3=[x,y,z]):=by
   rw[X,vC,T.l];simp[qW,D]
  have au:ts.j<=2:=η;go_wp2;go_roundw;exact⟨3,x,y,z,η,rfl,o,s,q,n,m,b⟩;simp[intOf]
 |3,_=>
  have HM:X (xW ⟨B,ts⟩ [j,f,r2]=if (xU ⟨B,ts⟩ [j,f,r2] [x,y,z] 0&&xU ⟨B,ts⟩ [j,f,r2] [x,y,z] 1&&xU ⟨B,ts⟩ [j,f,r2] [x,y,z] 2)=true then Z [x,y,z] else Y):=O6 ((O2 _ _).A T.l);clear T;rw[show((3:Nat):Int)=3 from rfl];go_wp2;have m:X (Ti wr w.o.q #[ι B,.k ao ts.j ai] 204/\Ti wr (w.o.q+1) #[ι j,ι f,ι r2] 165/\Ti wr (w.o.q+2) #[ι 0,ι 0,ι 0] 165/\Ti wr (w.o.q+3) #[ι x,ι y,ι z] 165/\μ w wr):=⟨o,s,q,n,b⟩;clear a4 a6 a2 az ax ay a7 a1 a3 av o s q n b;go_loopw [39] (λaB wr=>∃k:Nat,k<=3/\aB=ι k/\Ti wr w.o.q #[ι B,.k ao ts.j ai] 204/\Ti wr (w.o.q+1) #[ι j,ι f,ι r2] 165/\Ti wr (w.o.q+2) #[ι 0,ι 0,ι 0] 165/\Ti wr (w.o.q+3) #[ι x,ι y,ι z] 165/\X (∀i,i<k->xU ⟨B,ts⟩ [j,f,r2] [x,y,z] i=true)/\μ w wr) (λi _=>3-(intOf i).D);obtain⟨q1,q2,q3,q4,q5⟩:=m.l;exact⟨0,η,rfl,q1,q2,q3,q4,(λi hi=>η),q5⟩;clear m;obtain⟨k,hk,rfl,o,s,q,n,HA,b⟩:=hrel;obtain⟨a4,a6,a2⟩:=o.e;obtain⟨az,ax,ay⟩:=s.e;obtain⟨a7,a1,a3⟩:=n.e;obtain⟨a9,aC,aG⟩:=q.e;have av:=b.q;match k,hk with
  |0,_=>
   by_cases D:0<ts.j
   .have M:X (xU ⟨B,ts⟩ [j,f,r2] [x,y,z] 0=kh ts[0] j [x,y,z]):=by unfold xU;rw[X,decide_eq_false (show ¬ts.j<=0 by omega)];simp[List.getD_eq_getElem?_getD,D]
    obtain⟨g,Q,R,h0,h1,h2⟩:=h.cell 0 D;subst Q;have N:=zi b R h0;have L:=zi b R h1;have F:=zi b R h2;simp only[Nat.reduceMul,Nat.reduceAdd] at N L F;have C:g<wr.o.q:=η;have ap:(0:Int)<(ts.j:Int):=η;have ak:X (∀W,Calls prog 219 #[.agg #[.i ts[0].var,ι (ts[0].z:Nat),ι (ts[0].w:Nat)],ι j,.agg #[ι x,ι y,ι z]] W λr E=>r=ε (.i (kh ts[0] j [x,y,z]))/\μ W E):=λW=>oK W ts[0] j x y z;clear h0 h1 h2;generalize ts[0]=t at *;generalize kh t j [x,y,z]=ab at *;go_wp2;go_region_held3 (λE=>E.p ⟨w.o.q,1,Y⟩=Z (.k (Z ⟨g,0,Y⟩) ts.j ai)/\E.p ⟨g,0,Y⟩=Z (.i t.var)/\E.p ⟨g,1,Y⟩=Z (ι t.z)/\E.p ⟨g,2,Y⟩=Z (ι t.w)/\E.p ⟨w.o.q+1+1+1,0,Y⟩=Z (ι x)/\E.p ⟨w.o.q+1+1+1,1,Y⟩=Z (ι y)/\E.p ⟨w.o.q+1+1+1,2,Y⟩=Z (ι z)) (first|go_keep|(go_simp;done)) (first|(go_at_call 219;refine(ak.l _).y ?_;rintro r w2 ⟨rfl,c⟩;have l:μ wr w2:=(zT γ c (zf _));have A:=o.u l;obtain⟨ag,ad,V⟩:=A.e;have u:=n.u l;obtain⟨af,ae,ac⟩:=u.e;have a5:=zi l C N;have a8:=zi l C L;have aj:=(zi l C F)))
    cases ab
    .have T:X (xW ⟨B,ts⟩ [j,f,r2]=Y):=by rw[X,HM.l,M.l];simp
     have am:=q.u l;obtain⟨aa,aw,ar⟩:=am.e;go_wp2;exact zP (v:=.B #[.agg #[ι 0,ι 0,ι 0],.i false]) (by simp[results,results213,go_sem,aa]) rfl ⟨⟨0,0,0,by rw[T.l];rfl,by rw[T.l];rfl⟩,(((Tl b l).x (p:=⟨w.o.q+2,0,Y⟩) ζ _).x (p:=⟨w.o.q+2,1,Y⟩) ζ _).x (p:=⟨w.o.q+2,2,Y⟩) ζ _⟩
    have S:X (∀i,i<1->xU ⟨B,ts⟩ [j,f,r2] [x,y,z] i=true):=λi hi=>by
     by_cases e:i=0;subst e;exact M.l;exact HA.l i η
    go_wp2;go_roundw;exact⟨1,η,rfl,A,s.u l,q.u l,u,S,Tl b l⟩;simp[intOf]
   have M:X (xU ⟨B,ts⟩ [j,f,r2] [x,y,z] 0=true):=by unfold xU;rw[X,decide_eq_true (show ts.j<=0 by omega)];rfl
   have S:X (∀i,i<1->xU ⟨B,ts⟩ [j,f,r2] [x,y,z] i=true):=λi hi=>by
    by_cases e:i=0;subst e;exact M.l;exact HA.l i η
   have an:decide ((0:Int)<(ts.j:Int))=false:=decide_eq_false η;go_wp2;go_quiet (fail)
   go_wp2;go_roundw;exact⟨1,η,rfl,o.u (zI (zn _ _) _),s.u (zI (zn _ _) _),q.u (zI (zn _ _) _),n.u (zI (zn _ _) _),S,zI b _⟩;simp[intOf]
  |1,_=>
   by_cases D:1<ts.j
   .have M:X (xU ⟨B,ts⟩ [j,f,r2] [x,y,z] 1=kh ts[1] f [x,y,z]):=by unfold xU;rw[X,decide_eq_false (show ¬ts.j<=1 by omega)];simp[List.getD_eq_getElem?_getD,D]
    obtain⟨g,Q,R,h0,h1,h2⟩:=h.cell 1 D;subst Q;have N:=zi b R h0;have L:=zi b R h1;have F:=zi b R h2;simp only[Nat.reduceMul,Nat.reduceAdd] at N L F;have C:g<wr.o.q:=η;have ap:(1:Int)<(ts.j:Int):=η;have ak:X (∀W,Calls prog 219 #[.agg #[.i ts[1].var,ι (ts[1].z:Nat),ι (ts[1].w:Nat)],ι f,.agg #[ι x,ι y,ι z]] W λr E=>r=ε (.i (kh ts[1] f [x,y,z]))/\μ W E):=λW=>oK W ts[1] f x y z;clear h0 h1 h2;generalize ts[1]=t at *;generalize kh t f [x,y,z]=ab at *;go_wp2;go_region_held3 (λE=>E.p ⟨w.o.q,1,Y⟩=Z (.k (Z ⟨g,0,Y⟩) ts.j ai)/\E.p ⟨g,3,Y⟩=Z (.i t.var)/\E.p ⟨g,4,Y⟩=Z (ι t.z)/\E.p ⟨g,5,Y⟩=Z (ι t.w)/\E.p ⟨w.o.q+1+1+1,0,Y⟩=Z (ι x)/\E.p ⟨w.o.q+1+1+1,1,Y⟩=Z (ι y)/\E.p ⟨w.o.q+1+1+1,2,Y⟩=Z (ι z)) (first|go_keep|(go_simp;done)) (first|(go_at_call 219;refine(ak.l _).y ?_;rintro r w2 ⟨rfl,c⟩;have l:μ wr w2:=(zT γ c (zf _));have A:=o.u l;obtain⟨ag,ad,V⟩:=A.e;have u:=n.u l;obtain⟨af,ae,ac⟩:=u.e;have a5:=zi l C N;have a8:=zi l C L;have aj:=(zi l C F)))
    cases ab
    .have T:X (xW ⟨B,ts⟩ [j,f,r2]=Y):=by rw[X,HM.l,M.l];simp
     have am:=q.u l;obtain⟨aa,aw,ar⟩:=am.e;go_wp2;exact zP (v:=.B #[.agg #[ι 0,ι 0,ι 0],.i false]) (by simp[results,results213,go_sem,aa]) rfl ⟨⟨0,0,0,by rw[T.l];rfl,by rw[T.l];rfl⟩,(((Tl b l).x (p:=⟨w.o.q+2,0,Y⟩) ζ _).x (p:=⟨w.o.q+2,1,Y⟩) ζ _).x (p:=⟨w.o.q+2,2,Y⟩) ζ _⟩
    have S:X (∀i,i<2->xU ⟨B,ts⟩ [j,f,r2] [x,y,z] i=true):=λi hi=>by
     by_cases e:i=1;subst e;exact M.l;exact HA.l i η
    go_wp2;go_roundw;exact⟨2,η,rfl,A,s.u l,q.u l,u,S,Tl b l⟩;simp[intOf]
   have M:X (xU ⟨B,ts⟩ [j,f,r2] [x,y,z] 1=true):=by unfold xU;rw[X,decide_eq_true (show ts.j<=1 by omega)];rfl
   have S:X (∀i,i<2->xU ⟨B,ts⟩ [j,f,r2] [x,y,z] i=true):=λi hi=>by
    by_cases e:i=1;subst e;exact M.l;exact HA.l i η
   have an:decide ((1:Int)<(ts.j:Int))=false:=decide_eq_false η;go_wp2;go_quiet (fail)
   go_wp2;go_roundw;exact⟨2,η,rfl,o.u (zI (zn _ _) _),s.u (zI (zn _ _) _),q.u (zI (zn _ _) _),n.u (zI (zn _ _) _),S,zI b _⟩;simp[intOf]
  |2,_=>
   by_cases D:2<ts.j
   .have M:X (xU ⟨B,ts⟩ [j,f,r2] [x,y,z] 2=kh ts[2] r2 [x,y,z]):=by unfold xU;rw[X,decide_eq_false (show ¬ts.j<=2 by omega)];simp[List.getD_eq_getElem?_getD,D]
    obtain⟨g,Q,R,h0,h1,h2⟩:=h.cell 2 D;subst Q;have N:=zi b R h0;have L:=zi b R h1;have F:=zi b R h2;simp only[Nat.reduceMul,Nat.reduceAdd] at N L F;have C:g<wr.o.q:=η;have ap:(2:Int)<(ts.j:Int):=η;have ak:X (∀W,Calls prog 219 #[.agg #[.i ts[2].var,ι (ts[2].z:Nat),ι (ts[2].w:Nat)],ι r2,.agg #[ι x,ι y,ι z]] W λr E=>r=ε (.i (kh ts[2] r2 [x,y,z]))/\μ W E):=λW=>oK W ts[2] r2 x y z;clear h0 h1 h2;generalize ts[2]=t at *;generalize kh t r2 [x,y,z]=ab at *;go_wp2;go_region_held3 (λE=>E.p ⟨w.o.q,1,Y⟩=Z (.k (Z ⟨g,0,Y⟩) ts.j ai)/\E.p ⟨g,6,Y⟩=Z (.i t.var)/\E.p ⟨g,7,Y⟩=Z (ι t.z)/\E.p ⟨g,8,Y⟩=Z (ι t.w)/\E.p ⟨w.o.q+1+1+1,0,Y⟩=Z (ι x)/\E.p ⟨w.o.q+1+1+1,1,Y⟩=Z (ι y)/\E.p ⟨w.o.q+1+1+1,2,Y⟩=Z (ι z)) (first|go_keep|(go_simp;done)) (first|(go_at_call 219;refine(ak.l _).y ?_;rintro r w2 ⟨rfl,c⟩;have l:μ wr w2:=(zT γ c (zf _));have A:=o.u l;obtain⟨ag,ad,V⟩:=A.e;have u:=n.u l;obtain⟨af,ae,ac⟩:=u.e;have a5:=zi l C N;have a8:=zi l C L;have aj:=(zi l C F)))
    cases ab
    .have T:X (xW ⟨B,ts⟩ [j,f,r2]=Y):=by rw[X,HM.l,M.l];simp
     have am:=q.u l;obtain⟨aa,aw,ar⟩:=am.e;go_wp2;exact zP (v:=.B #[.agg #[ι 0,ι 0,ι 0],.i false]) (by simp[results,results213,go_sem,aa]) rfl ⟨⟨0,0,0,by rw[T.l];rfl,by rw[T.l];rfl⟩,(((Tl b l).x (p:=⟨w.o.q+2,0,Y⟩) ζ _).x (p:=⟨w.o.q+2,1,Y⟩) ζ _).x (p:=⟨w.o.q+2,2,Y⟩) ζ _⟩
    have S:X (∀i,i<3->xU ⟨B,ts⟩ [j,f,r2] [x,y,z] i=true):=λi hi=>by
     by_cases e:i=2;subst e;exact M.l;exact HA.l i η
    go_wp2;go_roundw;exact⟨3,η,rfl,A,s.u l,q.u l,u,S,Tl b l⟩;simp[intOf]
   have M:X (xU ⟨B,ts⟩ [j,f,r2] [x,y,z] 2=true):=by unfold xU;rw[X,decide_eq_true (show ts.j<=2 by omega)];rfl
   have S:X (∀i,i<3->xU ⟨B,ts⟩ [j,f,r2] [x,y,z] i=true):=λi hi=>by
    by_cases e:i=2;subst e;exact M.l;exact HA.l i η
   have an:decide ((2:Int)<(ts.j:Int))=false:=decide_eq_false η;go_wp2;go_quiet (fail)
   go_wp2;go_roundw;exact⟨3,η,rfl,o.u (zI (zn _ _) _),s.u (zI (zn _ _) _),q.u (zI (zn _ _) _),n.u (zI (zn _ _) _),S,zI b _⟩;simp[intOf]
  |3,_=>
   have T:X (xW ⟨B,ts⟩ [j,f,r2]=Z [x,y,z]):=by rw[X,HM.l,HA.l 0 η,HA.l 1 η,HA.l 2 η];rfl
   go_wp2;exact zP (v:=.B #[.agg #[ι x,ι y,ι z],.i true]) (by simp[results,results213,go_sem,a9]) rfl ⟨⟨x,y,z,by rw[T.l];rfl,by rw[T.l];rfl⟩,((b.x (p:=⟨w.o.q+2,0,Y⟩) ζ _).x (p:=⟨w.o.q+2,1,Y⟩) ζ _).x (p:=⟨w.o.q+2,2,Y⟩) ζ _⟩
def fq(ps:List (Nat×O)):List Value:=ps.flatMap λx=>[ι (x.1:Nat),x.2]
def Ho:∀(ps:List (Nat×O)) (k:Nat) (a:k<ps.j),(fq ps)[k*2]?=Z (ι (ps[k].1:Nat))/\(fq ps)[k*2+1]?=Z ps[k].2
 |[],k,a=>by simp at a
 |p::r,0,_=>by simp[fq]
 |p::r,k+1,a=>by
  have:=Ho r k (by simpa using a);simp only[fq,uX] at this ⊢;rw[show(k+1)*2=k*2+1+1 from by omega,show k*2+1+1+1=k*2+1+1+1 from rfl];simpa using this
def ux(lo:Nat)(w:U)(v:O)(a:List zw):Prop:=∃b:List (Nat×O),w.r lo 204 2 v a.j (fq b)/\b.j=a.j/\a.j<=1000/\∀k (c:k<a.j) (d:k<b.j),b[k].1=a[k].o/\yt lo w b[k].2 a[k].v/\a[k].o<=1000000
def ux.u{w w':U}{v:O}{d:List zw}(h:ux lo w v d)(e:μ w w'):ux lo w' v d:=by
 obtain⟨g,f,j,i,c⟩:=h;exact⟨g,zy f e,j,i,λk a b=>⟨(c k a b).1,(c k a b).2.1.u e,(c k a b).2.2⟩⟩
def ux.qy{w:U}{v:O}{b:List zw}(h:ux lo w v b):∃d a,v=.k d b.j a:=by obtain⟨e,c,_⟩:=h;exact zr c
def ux.len{w:U}{v:O}{a:List zw}(h:ux lo w v a):a.j<=1000:=by obtain⟨c,_,_,b,_⟩:=h;exact b
def ux.cell{w:U}{l:Option Addr}{n cap:Nat}{c:List zw}(h:ux lo w (.k l n cap) c)(k:Nat)(o:k<c.j):∃g b a,l=Z (δ g)/\g<w.o.q/\w.p (ω g (k*2))=Z (ι (c[k].o:Nat))/\w.p (ω g (k*2+1))=Z (.k b c[k].v.j a)/\yt lo w (.k b c[k].v.j a) c[k].v:=by
 obtain⟨q,v,z,y,x⟩:=h;obtain⟨g,j,f,_,u,i⟩:=yq v η;simp only[O.slice.injEq] at f;obtain⟨rfl,_,_⟩:=f;obtain⟨t,p⟩:=Ho q k η;obtain⟨s,d,_⟩:=x k o η;obtain⟨b,a,r⟩:=d.qy;have m:=i _ _ t;have e:=i _ _ p;rw[s] at m;rw[r] at e d;exact⟨g,b,a,rfl,u,m,e,d⟩
structure vE (lo:Nat) (w:U) (tv pv nv:O) (r:zu):Prop where
 g:yt lo w tv r.g.v
 qc:ux lo w pv r.qc
 qx:ux lo w nv r.qx
 small:r.L<=1000000/\r.m<=1000000/\r.g.o<=1000000
def vE.u{w w':U}{tv b c:O}{r:zu}(h:vE lo w tv b c r)(a:μ w w'):vE lo w' tv b c r:=⟨h.g.u a,h.qc.u a,h.qx.u a,h.small⟩
def gH(r:zu)(tv a b:O):Value:=.agg #[ι r.L,ι r.m,ι r.g.o,tv,a,b]
def Iy(w:U)(tv pv nv:O)(r:zu)(a:Int)(h:vE lo w tv pv nv r):
  Calls prog 220 #[gH r tv pv nv,ι a] w λe D=>e=ε (ι (xO r a))/\μ w D:=by
 obtain⟨H,s,rfl⟩:=h.g.qy;obtain⟨ad,K,rfl⟩:=h.qc.qy;obtain⟨T,J,rfl⟩:=h.qx.qy;have ar:=h.qc.len;have au:=h.qx.len;have ag:X (∀W,μ w W->Calls prog 225 #[.agg #[ι r.g.o,.k H r.g.v.j s],ι a] W λe D=>e=ε (ι (ky r.g a))/\μ W D):=λW R=>DX W _ r.g.o a r.g.v (h.g.u R);have hP:=h.qc;have hN:=h.qx;have HE:X (xO r a=r.qx.H (qr a) (r.qc.H (qr a) (ky r.g a))):=rfl;unfold gH;clear h;have F:=Ti.new w #[ι r.L,ι r.m,ι r.g.o,.k H r.g.v.j s,.k ad r.qc.j K,.k T r.qx.j J] 207;generalize ky r.g a=S at *;generalize r.qc=b at *;generalize r.qx=c at *;go_enter func220,ntmps220;go_wp2_with (go_at_call 225;refine(ag.l _ γ).y ?_;rintro e w1 ⟨rfl,z⟩;have am:μ w w1:=zT γ z (zf _);have u:=F.u z;obtain⟨an,af,ab⟩:=u.e)
 clear an af ab F z;go_loopw [5,19] (λv5 ak wr=>∃k:Nat,k<=b.j/\ak=ι k/\v5=ι ((b.G k).H (qr a) S)/\μ w1 wr) (λ_ i _=>b.j-(intOf i).D);exact⟨0,zs _,rfl,rfl,zn _ _⟩;obtain⟨k,hk,rfl,rfl,q⟩:=hrel;have o:=Tl am q;have aq:=o.q;by_cases P:k<b.j
 .obtain⟨g,x,j,v,L,N,M,I⟩:=hP.cell k P;subst v;have aj:=zi o L N;have aa:=zi o L M;have ao:g<wr.o.q:=η;have G:=Th (wk b (qr a) S k P);have n:X (∀W,μ w W->Calls prog 226 #[.agg #[ι (b[k].o:Nat),.k x b[k].v.j j],ι a] W λe D=>e=ε (ι (qL b[k] a))/\μ W D):=λW R=>C7 W _ b[k].o a b[k].v (I.u R);clear N M I;generalize b[k]=l at *;generalize (b.G k).H (qr a) S=p at *;have f:X (qr a p l=if qL l a>p then qL l a else p):=rfl;generalize qL l a=V at *;by_cases m:V>p
  .rw[zb m] at f;go_wp2_with (go_at_call 226;refine(n.l _ γ).y ?_;rintro e E ⟨rfl,C⟩;have A:μ wr E:=(zT γ C (zf _)))
   go_roundw;exact⟨k+1,η,ξ,by rw[G.l,f.l],Tl q A⟩;simp[intOf];omega
  rw[za m] at f;go_wp2_with (go_at_call 226;refine(n.l _ γ).y ?_;rintro e E ⟨rfl,C⟩;have A:μ wr E:=(zT γ C (zf _)))
  go_roundw;exact⟨k+1,η,ξ,by rw[G.l,f.l],Tl q A⟩;simp[intOf];omega
 obtain rfl:k=b.j:=η;rw[uY];generalize b.H (qr a) S=pb at *;have Q:=u.u q;obtain⟨ai,ap,ah⟩:=Q.e;go_wp2;clear ai ap ah;obtain⟨E,ac⟩:∃E,E=wr:=⟨wr,rfl⟩;subst ac;go_loopw [5,34] (λv5 ae wr=>∃k:Nat,k<=c.j/\ae=ι k/\v5=ι ((c.G k).H (qr a) pb)/\μ w wr) (λ_ i _=>c.j-(intOf i).D);exact⟨0,zs _,rfl,rfl,o⟩;obtain⟨k,hk,rfl,rfl,d⟩:=hrel;have al:=d.q;by_cases t:k<c.j
 .obtain⟨g,x,j,v,L,N,M,I⟩:=hN.cell k t;subst v;have aj:=zi d L N;have aa:=zi d L M;have ao:g<wr.o.q:=η;have G:=Th (wk c (qr a) pb k t);have n:X (∀W,μ w W->Calls prog 226 #[.agg #[ι (c[k].o:Nat),.k x c[k].v.j j],ι a] W λe D=>e=ε (ι (qL c[k] a))/\μ W D):=λW R=>C7 W _ c[k].o a c[k].v (I.u R);clear N M I;generalize c[k]=l at *;generalize (c.G k).H (qr a) pb=p at *;have f:X (qr a p l=if qL l a>p then qL l a else p):=rfl;generalize qL l a=V at *;by_cases m:V>p
  .rw[zb m] at f;go_wp2_with (go_at_call 226;refine(n.l _ γ).y ?_;rintro e w3 ⟨rfl,B⟩;have y:μ wr w3:=(zT γ B (zf _)))
   go_roundw;exact⟨k+1,η,ξ,by rw[G.l,f.l],Tl d y⟩;simp[intOf];omega
  rw[za m] at f;go_wp2_with (go_at_call 226;refine(n.l _ γ).y ?_;rintro e w3 ⟨rfl,B⟩;have y:μ wr w3:=(zT γ B (zf _)))
  go_roundw;exact⟨k+1,η,ξ,by rw[G.l,f.l],Tl d y⟩;simp[intOf];omega
 obtain rfl:k=c.j:=η;rw[uY];go_wp2;go_ret;exact⟨by rw[HE.l];rfl,d⟩
end
section
open Go.Proofs.Tryz
variable {lo:Nat}{w:U}{jb:Nat}
def five{α:Type}{l:List α}(h:l.j=5):∃a b c d e,l=[a,b,c,d,e]:=by
 match l,h with
 |[a,b,c,d,e],_=>exact⟨a,b,c,d,e,rfl⟩
abbrev V4:=O×O×O×O
def li(t:V4):List Value:=[t.1,t.2.1,t.2.2.1,t.2.2.2]
def yE(a:List V4):List Value:=a.flatMap li
def eG(b:List V4):(yE b).j=b.j*4:=by
 induction b with
 |nil=>rfl
 |cons a l c=>simp[yE,li] at c ⊢;omega
def ti:∀(a:List V4) (k:Nat) (b:k<a.j),(yE a)[k*4]?=Z a[k].1/\(yE a)[k*4+1]?=Z a[k].2.1/\(yE a)[k*4+2]?=Z a[k].2.2.1/\(yE a)[k*4+3]?=Z a[k].2.2.2
 |[],k,b=>by simp at b
 |y::r,0,_=>by simp[yE,li]
 |y::r,k+1,b=>by
  have:=ti r k (by simpa using b);simp only[yE,uX,li] at this ⊢;rw[show(k+1)*4=k*4+1+1+1+1 from by omega,show k*4+1+1+1+1+2=k*4+2+1+1+1+1 from by omega,show k*4+1+1+1+1+3=k*4+3+1+1+1+1 from by omega];simpa using this
def fI(s:xa)(t:Nat×List Nat):V4:=(.u (Z ⟨t.1,0,Y⟩),ι (s.B.g 0 0:Nat),ι (s.B.g 1 0:Nat),ι (s.B.g 2 0:Nat))
def fa(b:iC)(t:O×Nat×List Nat):V4:=(ι b.lit.o,t.1,ι b.je,.u (Z ⟨t.2.1,0,Y⟩))
def kM(hs:List (Nat×Nat)):List Value:=hs.flatMap λh=>[ι (h.1:Nat),ι (h.2:Nat)]
structure xI where
 tv:O
 sv:O
 bv:O
 hvs:List O
 tbs:List (Nat×List Nat)
 bps:List (O×Nat×List Nat)
def uM(J:zE)(P:xI):List Value:=
 [ι J.g.o,P.tv,ι J.m,P.sv,P.bv]++P.hvs++J.ji.map (O.int .i64)++[ι J.last]++J.P.map TO++J.from.map TO++[ι J.ql,ι J.jg]
structure T8 (lo:Nat) (w:U) (jb:Nat) (J:zE) (P:xI):Prop where
 low:lo<=jb
 box:Ti w jb (uM J P).F 310
 g:yt lo w P.tv J.g.v
 ja:w.r lo 323 4 P.sv J.ja.j (yE (List.zipWith fI J.ja P.tbs))
 slen:P.tbs.j=J.ja.j
 tries:∀k (_:k<J.ja.j) (_:k<P.tbs.j),yb lo w P.tbs[k].1 J.ja[k].I P.tbs[k].2
 B:∀s∈J.ja,s.B.j=3
 bars:w.r lo 325 4 P.bv J.bars.j (yE (List.zipWith fa J.bars P.bps))
 blen:P.bps.j=J.bars.j
 jk:∀k (_:k<J.bars.j) (_:k<P.bps.j),yt lo w P.bps[k].1 J.bars[k].lit.v/\yb lo w P.bps[k].2.1 J.bars[k].I P.bps[k].2.2
 hlen:P.hvs.j=5/\J.jf.j=5
 jf:∀p (_:p<J.jf.j) (_:p<P.hvs.j),w.r lo 327 2 P.hvs[p] J.jf[p].j (kM J.jf[p])/\J.jf[p].j<=1000/\∀h∈J.jf[p],h.1<=1000000/\h.2<=1000000
 jl:J.ji.j=5/\J.P.j=5/\J.from.j=5
 K:J.ja.j<=1000/\J.bars.j<=1000/\J.m<=1000000
def yb.notin{tb:Nat}{T:zl}{fp:Φ}(h:yb lo w tb T fp){b:Nat}{c:Array O}{t:TypeId}(f:Ti w b c t)(k:t≠229)(l:t≠273)(j:t≠3):b∉fp:=by
 obtain⟨n,m,d,rfl⟩:=h;intro a;simp only[Un,zG,ya] at a;rcases a with a|a|a;subst a;have q:=d.box;unfold Ti at q f;rw[f] at q;simp at q;exact k q.2;exact vN d.B f (Ne.symm l) (xb a) rfl;obtain⟨i,g,e|e⟩:=Ag a;exact vN (d.D i (by rw[←d.len];exact g) g) f (Ne.symm j) (b:=b) (by rw[e];rfl) rfl;exact vN (d.down i (by rw[←d.len];exact g) g) f (Ne.symm j) (b:=b) (by rw[e];rfl) rfl
def yt.save{w':U}{v:O}{ts:List yh}{N:Φ}(h:yt lo w v ts)(hs:zd N w w')(a:∀b,v.m=Z b->b∉N):yt lo w' v ts:=⟨yT h.own hs a,h.len,h.z⟩
def T8.u{w w':U}{jb:Nat}{J:zE}{P:xI}(h:T8 lo w jb J P)(c:μ w w'):T8 lo w' jb J P:=
 ⟨h.low,h.box.u c,h.g.u c,zy h.ja c,h.slen,λk a b=>(h.tries k a b).u c,h.B,zy h.bars c,h.blen,λk a b=>⟨(h.jk k a b).1.u c,(h.jk k a b).2.u c⟩,h.hlen,λp a b=>⟨zy (h.jf p a b).1 c,(h.jf p a b).2⟩,h.jl,h.K⟩
def T8.rebox{w':U}{J c:zE}{P:xI}(h:T8 lo w jb J P)(hs:zd [jb] w w')(l:Ti w' jb (uM c P).F 310)(D:c.g=J.g)(f:c.ja=J.ja)(i:c.bars=J.bars)(n:c.jf=J.jf)(u:c.m=J.m)(t:c.ji.j=5/\c.P.j=5/\c.from.j=5):T8 lo w' jb c P:=by
 have g:∀{z:Nat} {e:TypeId} {x:Nat} {v:O} {y:Nat} {A:Γ},w.r z e x v y A->e≠310->∀b,v.m=Z b->b∉[jb]:=λB E b m j=>vN B h.box E m (by simpa using j);have q:∀{r:Nat} {T:zl} {s:Φ},yb lo w r T s->yb lo w' r T s:=λo=>o.save hs (λb C j=>by simp at j;subst j;exact o.notin h.box θ θ θ C);refine⟨h.low,l,by rw[D];exact h.g.save hs (g h.g.own θ),by rw[f];exact yT h.ja hs (g h.ja θ),by rw[f];exact h.slen,λk a b=>?_,by rw[f];exact h.B,by rw[i];exact yT h.bars hs (g h.bars θ),by rw[i];exact h.blen,λk a b=>?_,by rw[n];exact h.hlen,λp a b=>?_,t,by rw[f,i,u];exact h.K⟩;have d:k<J.ja.j:=by rw[←f];exact a
 simp only[f];exact q (h.tries k d b);have d:k<J.bars.j:=by rw[←i];exact a
 simp only[i];exact⟨(h.jk k d b).1.save hs (g (h.jk k d b).1.own θ),q (h.jk k d b).2⟩;have d:p<J.jf.j:=by rw[←n];exact a
 simp only[n];exact⟨yT (h.jf p d b).1 hs (g (h.jf p d b).1 θ),(h.jf p d b).2⟩
def T8.at{J:zE}{P:xI}(h:T8 lo w jb J P):jb<w.o.q/\(∀o,w.frozen? (ω jb o)=false)/\w.p (δ jb)=Z (ι J.g.o)/\w.p (ω jb 1)=Z P.tv/\w.p (ω jb 2)=Z (ι J.m)/\w.p (ω jb 3)=Z P.sv/\w.p (ω jb 4)=Z P.bv/\w.p (ω jb 15)=Z (ι J.last)/\w.p (ω jb 26)=Z (ι J.ql)/\w.p (ω jb 27)=Z (ι J.jg):=by
 obtain⟨f,c⟩:=h.box.H;obtain⟨d,a,b⟩:=h.jl;obtain⟨E,C,D,m,x,g⟩:=five h.hlen.1;obtain⟨r,y,B,z,v,j⟩:=five d;obtain⟨p,k,A,u,n,e⟩:=five a;obtain⟨q,s,F,t,l,i⟩:=five b;refine⟨h.box.lt,c,?_,?_,?_,?_,?_,?_,?_,?_⟩<;>rw[f]<;>simp[uM,g,j,e,i]
def T8.setMoves{J:zE}{P:xI}(h:T8 lo w jb J P)(m:Int):T8 lo (w.x (ω jb 27) (ι m)) jb {J with jg:=m} P:=by
 obtain⟨d,a,c⟩:=h.jl;refine h.rebox (zd.set _ _ _ _) ?_ rfl rfl rfl rfl rfl h.jl;obtain⟨D,B,C,l,v,f⟩:=five h.hlen.1;obtain⟨q,x,A,y,u,i⟩:=five d;obtain⟨o,j,z,t,n,e⟩:=five a;obtain⟨p,r,E,s,k,g⟩:=five c;have b:=h.box.set 27 (ι m);simpa [uM,f,i,e,g] using b
def DN(w:U)(jb:Nat)(J:zE)(P:xI)(s l:Nat)(h:T8 lo w jb J P):
  Calls prog 231 #[(π jb),.agg #[ι s,ι l]] w λe o=>e=ε (.i (vL J (s,l)))/\μ w o:=by
 obtain⟨j,k,_,_,_,m,_⟩:=h.at;obtain⟨p,i,g⟩:=zr h.ja;have d:X (vL J (s,l)=(decide (s<J.ja.j)&&decide (l<3))):=rfl;generalize J.ja.j=n at *;by_cases b:s<n
 .by_cases f:l<3
  .have a:(s:Int)<(n:Int):=η;have c:(l:Int)<3:=η;go_enter func231,ntmps231;go_wp2;go_quiet (fail)
   go_wp2;go_ret;exact⟨by rw[d.l];simp[b,f],zI γ _⟩
  have a:(s:Int)<(n:Int):=η;have c:decide ((l:Int)<3)=false:=decide_eq_false η;go_enter func231,ntmps231;go_wp2;go_quiet (fail)
  go_wp2;go_ret;exact⟨by rw[d.l];simp[b,f],zI γ _⟩
 have a:decide ((s:Int)<(n:Int))=false:=decide_eq_false η;go_enter func231,ntmps231;go_wp2;go_quiet (fail)
 go_wp2;go_ret;exact⟨by rw[d.l];simp[b],zI γ _⟩
end
section
open Go.Proofs.Tryz
variable {lo:Nat}
def T8.side{w:U}{k:Nat}{J:zE}{P:xI}(h:T8 lo w k J P)(s l:Nat)(hs:s<J.ja.j)(r:l<3):
  ∃a b i q,P.sv=.k (Z (δ a)) J.ja.j b/\a<w.o.q/\a≠k/\w.p (ω a (s*4))=Z ((π i))/\w.p (ω a (s*4+1+l))=Z (ι ((J.ja[s].B.g l 0:Nat):Int))/\yb lo w i J.ja[s].I q/\(∀o,w.frozen? (ω a o)=false):=by
 obtain⟨a,b,f,_,g,d⟩:=yq h.ja η;have e:s<P.tbs.j:=by rw[h.slen];exact hs
 obtain⟨m,p,j,n⟩:=ti (List.zipWith fI J.ja P.tbs) s υ;simp only[List.getElem_zipWith,fI] at m p j n;have c:=h.ja;rw[f] at c;refine⟨a,b,P.tbs[s].1,P.tbs[s].2,f,g,vN h.ja h.box θ (by rw[f];rfl),d _ _ m,?_,h.tries s hs e,vl c⟩;obtain rfl|rfl|rfl:l=0∨l=1∨l=2:=η
 exact d _ _ p;exact d _ _ j;exact d _ _ n
def KW(w:U)(a:Nat)(J:zE)(P:xI)(s l f:Nat)(h:T8 lo w a J P):
  Calls prog 229 #[(π a),.agg #[ι s,ι l],ι f] w λe t=>e=ε (j8 (qd J (s,l) f).2)/\T8 lo t a (qd J (s,l) f).1 P/\zd [a] w t:=by
 have p:=Th λW hW=>DN W a J P s l (h.u hW);have R:=Th h;cases d:vL J (s,l)
 .have j:X (qd J (s,l) f=(J,Y)):=by simp[X,qd,d]
  go_enter func229,ntmps229;go_wp2_with (go_at_call 231;refine(p.l _ γ).y ?_;rintro e i ⟨rfl,c⟩;have b:μ w i:=zT γ c (zf _))
  go_ret2
  exact⟨by rw[j.l];rfl,by rw[j.l];exact R.l.u b,zd.of b⟩
 have C:s<J.ja.j/\l<3:=by simpa [vL] using d
 obtain⟨I,hl⟩:=C;have j:X (qd J (s,l) f=({J with jg:=IntKind.i64.wrap (J.jg+1)},yG J.ja[s].I (J.ja[s].B.g l 0) f)):=by simp[X,qd,d,List.getD_eq_getElem?_getD,I]
 obtain⟨ad,_⟩:=h.at;go_enter func229,ntmps229;go_wp2_with (go_at_call 231;refine(p.l _ γ).y ?_;rintro e i ⟨rfl,c⟩;have b:μ w i:=zT γ c (zf _);have g:=R.l.u b;obtain⟨K,S,_,_,_,aa,_,_,_,H⟩:=g.at;have m:=(Ti.new w #[ι s,ι l] 327).u c;obtain⟨E,D,ab⟩:=m.e;have u:=Th g;clear g)
 have y:IntKind.i64.wrap (J.jg+1)=wrap64 (J.jg+1):=by rw[IntKind.wrap_i64];unfold wrap64;rfl
 rw[y] at j;have o:X (T8 lo (i.x (ω a 27) (ι (wrap64 (J.jg+1)))) a {J with jg:=wrap64 (J.jg+1)} P):=u.l.setMoves _;have x:w.o.q≠a:=η;have r:=m.set_ne x 27 (ι (wrap64 (J.jg+1)));have v:zd [a] w (i.x (ω a 27) (ι (wrap64 (J.jg+1)))):=(zd.of b).A (zd.set _ _ _ _);generalize i.x (ω a 27) (ι (wrap64 (J.jg+1)))=N at *;have q:=o.l;obtain⟨G,L,_,_,_,V,_⟩:=q.at;obtain⟨ae,F,k,B,Q,T,_,ac,af,A,_⟩:=q.side s l I hl;obtain⟨E,D⟩:=r.H;have z:X (∀n,Calls prog 167 #[(π k),ι ((J.ja[s].B.g l 0:Nat):Int),ι f] (N.drewN n) λe t=>e=ε (.B #[ι (((yG J.ja[s].I (J.ja[s].B.g l 0) f).g 0:Nat):Int),.i (yG J.ja[s].I (J.ja[s].B.g l 0) f).I])/\t=N.drewN n):=λn=>wm _ k _ B _ f (A.u (zI (zn _ _) n));generalize J.ja[s].B.g l 0=nd at *;go_quiet ((go_at_call 167;exact Calls.quiet_of_same (z.l _)))
 go_wp2;go_ret2
 exact⟨by rw[j.l];rfl,by rw[j.l];exact o.l.u (zI (zn _ _) _),v.newer (zd.of (M:=[]) (zI (zn _ _) _)) ζ⟩
def At:∀(hs:List (Nat×Nat)) (k:Nat) (a:k<hs.j),(kM hs)[k*2]?=Z (ι (hs[k].1:Nat))/\(kM hs)[k*2+1]?=Z (ι (hs[k].2:Nat))
 |[],k,a=>by simp at a
 |p::r,0,_=>by simp[kM]
 |p::r,k+1,a=>by
  have:=At r k (by simpa using a);simp only[kM,uX] at this ⊢;rw[show(k+1)*2=k*2+1+1 from by omega,show k*2+1+1+1=k*2+1+1+1 from rfl];simpa using this
def T8.hold{w:U}{i:Nat}{J:zE}{P:xI}(h:T8 lo w i J P)(p:Nat)(q:p<5):∃g b,w.p (ω i (5+p))=Z (.k g (J.jf.g p []).j b)/\(J.jf.g p []).j<=1000/\∀k (n:k<(J.jf.g p []).j),∃a,g=Z (δ a)/\a<w.o.q/\a≠i/\w.p (ω a (k*2))=Z (ι ((J.jf.g p [])[k].1:Nat))/\w.p (ω a (k*2+1))=Z (ι ((J.jf.g p [])[k].2:Nat)):=by
 have r:p<J.jf.j:=by rw[h.hlen.2];exact q
 have y:p<P.hvs.j:=by rw[h.hlen.1];exact q
 have e:J.jf.g p []=J.jf[p]:=by simp[List.getD_eq_getElem?_getD,r]
 rw[e];obtain⟨j,x,_⟩:=h.jf p r y;obtain⟨g,b,m⟩:=zr j;obtain⟨t,_⟩:=h.box.H;refine⟨g,b,?_,x,λk n=>?_⟩
 .rw[←m,t];obtain⟨D,B,C,z,A,u⟩:=five h.hlen.1;obtain rfl|rfl|rfl|rfl|rfl:p=0∨p=1∨p=2∨p=3∨p=4:=η
  all_goals simp[uM,u]
 obtain⟨a,o,d,_,l,c⟩:=yq j η;have f:=m.symm.A d;simp only[O.slice.injEq] at f;obtain⟨v,s⟩:=At J.jf[p] k n;exact⟨a,f.1,l,vN j h.box θ (by rw[d];rfl),c _ _ v,c _ _ s⟩
def Rl(J:zE)(h:Nat×Nat)(f:Nat):(qd J h f).1.jf=J.jf:=by unfold qd;split<;>rfl
def Ja(w:U)(x:Nat)(J:zE)(P:xI)(p f n:Nat)(Q:zE)(r:Option Nat)(h:T8 lo w x J P)(C:lc n J p f=Z (Q,r)):
  Calls prog 227 #[(π x),ι p,ι f] w λe w'=>e=ε (j8 r)/\T8 lo w' x Q P/\zd [x] w w':=by
 have HJ:=Th h;unfold lc at C;by_cases h5:p≥5
 .rw[zb (zh h5)] at C;simp only[zt,ye] at C;obtain⟨rfl,rfl⟩:=C;clear h;go_enter func227,ntmps227;go_wp2;go_ret2
  exact⟨rfl,HJ.l,zd.refl _ _⟩
 obtain⟨ao,au,E,V,ah⟩:=h.hold p η;clear ah;obtain⟨aq,aw,_⟩:=h.at;by_cases h0:(J.jf.g p []).j=0
 .rw[zb (ze h0)] at C;simp only[zt,ye] at C;obtain⟨rfl,rfl⟩:=C;clear h;generalize (J.jf.g p []).j=hn at *;subst h0;go_enter func227,ntmps227;go_wp2;go_ret2
  exact⟨rfl,HJ.l,zd.refl _ _⟩
 rw[za η] at C;have HR:=Th C;clear C h;have F:(J.jf.g p []).j>0:=η;obtain⟨d,M⟩:∃d,d=J.jf.g p []:=⟨_,rfl⟩;rw[←M] at HR E V F;have ab:=Th M;clear M;have al:((d.j:Int) == 0)=false:=beq_eq_false_iff_ne.2 η;go_enter func227,ntmps227;go_wp2;go_loopg [8,9,10] n (λk v8 v9 ag wr=>∃(z:zE) (at' c a:Nat),v8=ι at'/\v9=ι c/\ag=ι a/\X (gC k z d at' c a=Z (Q,r))/\X (T8 lo wr x z P)/\X (z.jf=J.jf)/\zd [x] w wr/\c<=d.j/\a<d.j)
 case atStart=>exact⟨J,f,0,0,rfl,rfl,rfl,HR,HJ,rfl,zd.refl _ _,η,F⟩
 clear E;obtain⟨z,at',c,a,rfl,rfl,rfl,HQ,K,ad,u,ar,ac⟩:=hrel;have N:=K.l;obtain⟨aj,ak,_⟩:=N.at;obtain⟨ap,ai,E,_,t⟩:=N.hold p η;rw[ad.l,←ab.l] at E t;obtain⟨hb,ae,an,ax,av,am⟩:=t a ac;subst ae;clear t N;rcases gk with _|m;have q:=HQ.l;simp[gC] at q;have q:=HQ.l;unfold gC at q;by_cases aa:c<d.j
 .rw[zb aa] at q;have eg:d.g a (0,0)=d[a]:=by simp[List.getD_eq_getElem?_getD,ac]
  rw[eg] at q;have o:X (Calls prog 229 #[(π x),.agg #[ι (d[a].1:Nat),ι (d[a].2:Nat)],ι at'] wr λe w'=>e=ε (.B #[ι (((qd z d[a] at').2.g 0:Nat):Int),.i (qd z d[a] at').2.I])/\T8 lo w' x (qd z d[a] at').1 P/\zd [x] wr w'):=KW wr x z P d[a].1 d[a].2 at' K.l;have I:=Rl z d[a] at';generalize af:qd z d[a] at'=lj at *;clear af;obtain⟨L,r2⟩:=lj;generalize d[a]=hd at *;simp only at q o I;rcases r2 with _|v
  .simp only[zt,ye] at q;obtain⟨T,e2⟩:=q;simp only[kF,kK] at o;have S:X (Q=L/\r=Y):=⟨T.symm,e2.symm⟩;clear T e2;go_wp2_with (go_at_call 229;refine o.l.y ?_;rintro e G ⟨rfl,b,j⟩;have l:=Th b;clear b)
   go_ret2
   exact⟨by rw[S.l.2];rfl,by rw[S.l.1];exact l.l,u.A j⟩
  simp only[uE,j6] at o;have i:X (gC m L d (if v>at' then v else at') ((if v>at' then 0 else c)+1) (if a+1≥d.j then 0 else a+1)=Z (Q,r)):=q;have y:=Th (I.A ad.l);have D:X (∀W,T8 lo W x L P->∃s g,W.p (ω x (5+p))=Z (.k s d.j g)):=λW hW=>by
   obtain⟨s,g,q1,_⟩:=hW.hold p η;rw[y.l,←ab.l] at q1;exact⟨s,g,q1⟩
  clear q I;by_cases hv:v>at'
  .rw[zb hv,zb hv] at i;by_cases R:a+1≥d.j
   .rw[zb R] at i;go_wp2_with (go_at_call 229;refine o.l.y ?_;rintro e G ⟨rfl,b,j⟩;have l:=Th b;obtain⟨s,g,H⟩:=D.l G b;obtain⟨B,A,_⟩:=b.at;clear b)
    go_roundg m
    case measure=>omega
    exact⟨L,v,1,0,rfl,rfl,rfl,i,l,y,u.A j,η,η⟩
   rw[za R] at i;go_wp2_with (go_at_call 229;refine o.l.y ?_;rintro e G ⟨rfl,b,j⟩;have l:=Th b;obtain⟨s,g,H⟩:=D.l G b;obtain⟨B,A,_⟩:=b.at;clear b)
   go_roundg m
   case measure=>omega
   exact⟨L,v,1,a+1,rfl,rfl,ξ,i,l,y,u.A j,η,η⟩
  rw[za hv,za hv] at i;by_cases R:a+1≥d.j
  .rw[zb R] at i;go_wp2_with (go_at_call 229;refine o.l.y ?_;rintro e G ⟨rfl,b,j⟩;have l:=Th b;obtain⟨s,g,H⟩:=D.l G b;obtain⟨B,A,_⟩:=b.at;clear b)
   go_roundg m
   case measure=>omega
   exact⟨L,at',c+1,0,rfl,ξ,rfl,i,l,y,u.A j,η,η⟩
  rw[za R] at i;go_wp2_with (go_at_call 229;refine o.l.y ?_;rintro e G ⟨rfl,b,j⟩;have l:=Th b;obtain⟨s,g,H⟩:=D.l G b;obtain⟨B,A,_⟩:=b.at;clear b)
  go_roundg m
  case measure=>omega
  exact⟨L,at',c+1,a+1,rfl,ξ,ξ,i,l,y,u.A j,η,η⟩
 rw[za aa] at q;simp only[zt,ye] at q;obtain⟨T,e2⟩:=q;have S:X (Q=z/\r=Z at'):=⟨T.symm,e2.symm⟩;clear T e2;go_wp2;go_ret2
 exact⟨by rw[S.l.2];rfl,by rw[S.l.1];exact K.l,u⟩
def FO:∀(b:List V4) (k:Nat) (_:k<b.j) (u:O),(yE b).set (k*4+2) u=yE (b.modify k λy=>(y.1,y.2.1,u,y.2.2.2))
 |[],k,a,_=>by simp at a
 |y::r,0,_,u=>by simp[yE,li]
 |y::r,k+1,a,u=>by
  have:=FO r k (by simpa using a) u;simp only[yE,uX,li,List.modify_succ_cons] at this ⊢;rw[show(k+1)*4+2=k*4+2+1+1+1+1 from by omega];simpa using this
def Hj:∀(b:List V4) (k:Nat) (_:k<b.j) (u:O),(yE b).set (k*4+3) u=yE (b.modify k λy=>(y.1,y.2.1,y.2.2.1,u))
 |[],k,a,_=>by simp at a
 |y::r,0,_,u=>by simp[yE,li]
 |y::r,k+1,a,u=>by
  have:=Hj r k (by simpa using a) u;simp only[yE,uX,li,List.modify_succ_cons] at this ⊢;rw[show(k+1)*4+3=k*4+3+1+1+1+1 from by omega];simpa using this
def T8.setNode{w:U}{z:Nat}{J:zE}{P:xI}(h:T8 lo w z J P)(s i n:Nat)(hs:s<J.ja.j)(Q:i=1∨i=2){g cap:Nat}(A:P.sv=.k (Z (δ g)) J.ja.j cap):
  T8 lo (w.x (ω g (s*4+1+i)) (ι n)) z {J with ja:=J.ja.set s {J.ja[s] with B:=J.ja[s].B.set i n}} P:=by
 have c:=zd.set w g (s*4+1+i) (ι n);have d:=h.ja;rw[A] at d;have M:s<P.tbs.j:=by rw[h.slen];exact hs
 have f:=h.B _ (zq hs);have m:∀{H:Nat} {e:TypeId} {F:Nat} {v:O} {G:Nat} {I:Γ},w.r H e F v G I->e≠323->∀b,v.m=Z b->b∉[g]:=λK N b r l=>n9 K d N r (by simp at l;rw[l];rfl);obtain⟨u,o⟩:=Gc d;have t:∀{D:Nat} {T:zl} {E:Φ},yb lo w D T E->yb lo (w.x (ω g (s*4+1+i)) (ι n)) D T E:=λy=>y.save c (λb L l=>by simp at l;subst l;exact y.notin (show Ti w _ u 323 from o) θ θ θ L);refine⟨h.low,h.box.save c (by have:=vN d h.box θ rfl;simpa using Ne.symm this),h.g.save c (m h.g.own θ),?_,by simpa using h.slen,λk a b=>?_,λx S=>?_,yT h.bars c (m h.bars θ),h.blen,λk a b=>⟨(h.jk k a b).1.save c (m (h.jk k a b).1.own θ),t (h.jk k a b).2⟩,h.hlen,λp a b=>⟨yT (h.jf p a b).1 c (m (h.jf p a b).1 θ),(h.jf p a b).2⟩,h.jl,by simpa using h.K⟩;have C:(yE (List.zipWith fI J.ja P.tbs)).j=J.ja.j*4:=by rw[eG];simp[h.slen]
 have q:=uD d (s*4+1+i) η (ι n);rw[A];have e:(yE (List.zipWith fI J.ja P.tbs)).set (s*4+1+i) (ι n)=yE (List.zipWith fI (J.ja.set s {J.ja[s] with B:=J.ja[s].B.set i n}) P.tbs):=by
  have B:s<(List.zipWith fI J.ja P.tbs).j:=by simp;omega
  rcases Q with rfl|rfl;rw[show s*4+1+1=s*4+2 from by omega,FO _ s B];congr 1;apply jv;simp;intro j R V;by_cases e:s=j;subst e;simp[fI,List.getD_eq_getElem?_getD,f];simp[e];rw[show s*4+1+2=s*4+3 from by omega,Hj _ s B];congr 1;apply jv;simp;intro j R V;by_cases e:s=j;subst e;simp[fI,List.getD_eq_getElem?_getD,f];simp[e]
 rw[e] at q;simpa using q;simp only[fz] at a;simp only[lT];split;rename_i e;subst e;exact t (h.tries s hs b);exact t (h.tries k a b);rcases mn S with q|q;exact h.B x q;subst q;simp[f]
def Lh(w:U)(C:Nat)(J:zE)(P:xI)(s l v:Nat)(h:T8 lo w C J P)(ax:l<=1000000):
  Calls prog 230 #[(π C),.agg #[ι s,ι l],ι v] w λe w'=>e=ε (.B #[])/\T8 lo w' C (vF v J (s,l)) P/\zd P.sv.m.toList w w':=by
 have j:=Th λW hW=>DN W C J P s l (h.u hW);have HJ:=Th h;cases b:vL J (s,l)
 .have I:X (vF v J (s,l)=J):=by simp[X,vF,b]
  rw[b] at j;clear b h;go_enter func230,ntmps230;go_wp2_with (go_at_call 231;refine(j.l _ γ).y ?_;rintro e f ⟨rfl,i⟩;have d:μ w f:=zT γ i (zf _))
  (try simp only[Exit.inBlock,Exit.then]);refine zP (results_none rfl _ _ _) rfl ?_
  exact⟨rfl,by rw[I.l];exact HJ.l.u d,zd.of d⟩
 have ai:s<J.ja.j/\l<3:=by simpa [vL] using b
 obtain⟨G,hl⟩:=ai;by_cases K:l+1≥3
 .have I:X (vF v J (s,l)=J):=by simp[X,vF,K]
  rw[b] at j;clear b h;go_enter func230,ntmps230;go_wp2_with (go_at_call 231;refine(j.l _ γ).y ?_;rintro e f ⟨rfl,i⟩;have d:μ w f:=zT γ i (zf _);have m:=(Ti.new w #[ι s,ι l] 327).u i;obtain⟨B,z,x⟩:=m.e)
  (try simp only[Exit.inBlock,Exit.then]);refine zP (results_none rfl _ _ _) rfl ?_
  exact⟨rfl,by rw[I.l];exact HJ.l.u d,zd.of d⟩
 have I:X (vF v J (s,l)={J with ja:=J.ja.set s {J.ja[s] with B:=J.ja[s].B.set (l+1) ((zJ J.ja[s].I (J.ja[s].B.g l 0) v).g 0)}}):=by simp[X,vF,b,K,List.getD_eq_getElem?_getD,G]
 rw[b] at j;have aq:(s:Int)<(J.ja.j:Int):=η;have au:(l:Int)<3:=η;have ap:(l:Int)+1<3:=η;obtain⟨an,_⟩:=h.at;clear b h;go_enter func230,ntmps230;go_wp2_with (go_at_call 231;refine(j.l _ γ).y ?_;rintro e f ⟨rfl,i⟩;have d:μ w f:=zT γ i (zf _);have m:=(Ti.new w #[ι s,ι l] 327).u i;obtain⟨B,z,x⟩:=m.e)
 have g:=Th (HJ.l.u d);have A:=g.l;obtain⟨r,Q,_,_,_,t,_⟩:=A.at;obtain⟨D,av,tb,fp,k,V,aw,ac,af,R,aj⟩:=A.side s l G hl;rw[k] at t;have H:X (∀n,Calls prog 130 #[(π tb),ι ((J.ja[s].B.g l 0:Nat):Int),ι v] (f.drewN n) λe w'=>e=ε (.B #[ι (((zJ J.ja[s].I (J.ja[s].B.g l 0) v).g 0:Nat):Int),.i (zJ J.ja[s].I (J.ja[s].B.g l 0) v).I])/\w'=f.drewN n):=λn=>pR _ tb _ fp _ v (R.u (zI (zn _ _) n));have L:X (∀W n,μ f W->T8 lo (W.x ⟨D,s*4+1+(l+1),Y⟩ (ι ((n:Nat):Int))) C {J with ja:=J.ja.set s {J.ja[s] with B:=J.ja[s].B.set (l+1) n}} P):=λW n hW=>(g.l.u hW).setNode s (l+1) n G η k;have ab:X (P.sv.m.toList=[D]):=by rw[X,k];rfl
 have y:∃u,f.p ⟨D,s*4+1+(l+1),Y⟩=Z u:=by
  obtain⟨ae,N,ad,ag,a,_,_,_,q,_⟩:=g.l.side s (l+1) G η;rw[k] at a;simp only[O.slice.injEq,zt,Addr.mk.injEq] at a;obtain⟨⟨rfl,_⟩,_⟩:=a;exact⟨_,q⟩
 obtain⟨u,F⟩:=y;clear R A;generalize (zJ J.ja[s].I (J.ja[s].B.g l 0) v).g 0=dn at *;generalize (zJ J.ja[s].I (J.ja[s].B.g l 0) v).I=ds at *;generalize J.ja[s].B.g l 0=nd at *;go_quiet ((go_at_call 130;exact Calls.quiet_of_same (H.l _)))
 have c:μ f (f.drewN nq):=zI (zn _ _) _;clear B z x r Q aj H;have al:=(c.cell (p:=(ω C 3)) (g.l.box.lt)).A t;have am:=zi c V F;have T:=m.u c;have E:=L.l _ dn c;have ak:∀o,(f.drewN nq).frozen? (ω D o)=false:=by
  obtain⟨ae,N,ad,ag,a,_,_,_,_,_,q⟩:=(g.l.u c).side s l G hl;rw[k] at a;simp only[O.slice.injEq,zt,Addr.mk.injEq] at a;obtain⟨⟨rfl,_⟩,_⟩:=a;exact q
 have aa:zd [D] w (f.drewN nq):=zd.of (Tl d c);have ao:=ym V c.q;have r:=ym g.l.box.lt c.q;have ar:D≠w.o.q:=λe=>by
  have S:=g.l.ja;rw[k] at S;exact vN S m θ rfl e
 generalize f.drewN nq=w2 at *;have ah:=Th E;clear E L t F ac af m HJ j;obtain⟨B,z,x⟩:=T.e;go_wp2;go_region
 all_goals
  go_wp2;go_end0
  exact⟨rfl,by rw[I.l];exact ah.l.u (zn _ _).drew,by rw[ab.l];exact(aa.A (zd.set _ _ _ _)).newer (zd.of (M:=[]) (zn _ _).drew) ζ⟩
end
section
open Go.Proofs.Tryz
variable {lo:Nat}{w:U}{jb:Nat}{J:zE}{P:xI}
def T8.hold2(h:T8 lo w jb J P)(p:Nat)(q:p<5):∃f a,P.hvs[p]?=Z (.k f (J.jf.g p []).j a)/\w.p (ω jb (5+p))=Z (.k f (J.jf.g p []).j a)/\(J.jf.g p []).j<=1000/\(∀k (j:k<(J.jf.g p []).j),∃b,f=Z (δ b)/\b<w.o.q/\w.p (ω b (k*2))=Z (ι ((J.jf.g p [])[k].1:Nat))/\w.p (ω b (k*2+1))=Z (ι ((J.jf.g p [])[k].2:Nat))/\(J.jf.g p [])[k].2<=1000000):=by
 have r:p<J.jf.j:=by rw[h.hlen.2];exact q
 have s:p<P.hvs.j:=by rw[h.hlen.1];exact q
 have e:J.jf.g p []=J.jf[p]:=by simp[List.getD_eq_getElem?_getD,r]
 rw[e];obtain⟨n,y,l⟩:=h.jf p r s;obtain⟨f,a,i⟩:=zr n;obtain⟨u,_⟩:=h.box.H;refine⟨f,a,by rw[yn s,i],?_,y,λk j=>?_⟩
 .rw[←i,u];obtain⟨D,B,C,z,A,v⟩:=five h.hlen.1;obtain rfl|rfl|rfl|rfl|rfl:p=0∨p=1∨p=2∨p=3∨p=4:=η
  all_goals simp[uM,v]
 obtain⟨b,o,g,_,m,c⟩:=yq n η;have d:=i.symm.A g;simp only[O.slice.injEq] at d;obtain⟨x,t⟩:=At J.jf[p] k j;exact⟨b,d.1,m,c _ _ x,c _ _ t,(l _ (zq j)).2⟩
def gY(J:zE)(p v:Nat):zE:={J with P:=J.P.set p v,«from»:=(if p+1<5 then(J.from.set p (v+1)).set (p+1) 0 else J.from.set p (v+1))}
def Nw(J:zE)(p v:Nat)(a:p<5):uB J p v=(J.jf.g p []).H (vF v) (gY J p v):=by unfold uB;rw[za η];rfl
def T8.setVal(h:T8 lo w jb J P)(p v:Nat)(g:p+1<5):T8 lo (((w.x (ω jb (16+p)) (ι v)).x (ω jb (21+p)) (ι ((v:Int)+1))).x ⟨jb,21+(p+1),Y⟩ (ι 0)) jb (gY J p v) P:=by
 obtain⟨c,a,b⟩:=h.jl;refine h.rebox (((zd.set _ _ _ _).A (zd.set _ _ _ _)).A (zd.set _ _ _ _)) ?_ rfl rfl rfl rfl rfl (by simp[gY,g,c,a,b]);obtain⟨F,D,E,m,y,f⟩:=five h.hlen.1;obtain⟨r,z,C,A,x,j⟩:=five c;obtain⟨o,k,B,u,n,e⟩:=five a;obtain⟨q,s,G,t,l,i⟩:=five b;have d:=((h.box.set (16+p) (ι v)).set (21+p) (ι ((v:Int)+1))).set (21+(p+1)) (ι 0);obtain rfl|rfl|rfl|rfl:p=0∨p=1∨p=2∨p=3:=η
 all_goals simpa [uM,gY,f,j,e,i,TO] using d
def T8.setVal4(h:T8 lo w jb J P)(p v:Nat)(C:p<5)(H:¬p+1<5):T8 lo ((w.x (ω jb (16+p)) (ι v)).x (ω jb (21+p)) (ι ((v:Int)+1))) jb (gY J p v) P:=by
 obtain rfl:p=4:=η;obtain⟨c,a,b⟩:=h.jl;refine h.rebox ((zd.set _ _ _ _).A (zd.set _ _ _ _)) ?_ rfl rfl rfl rfl rfl (by simp[gY,c,a,b]);obtain⟨F,D,E,l,x,f⟩:=five h.hlen.1;obtain⟨q,y,B,z,u,i⟩:=five c;obtain⟨n,j,A,t,m,e⟩:=five a;obtain⟨o,r,G,s,k,g⟩:=five b;have d:=(h.box.set (16+4) (ι v)).set (21+4) (ι ((v:Int)+1));simpa [uM,gY,f,i,e,g,TO] using d
def IZ(v:Nat)(J:zE)(h:Nat×Nat):(vF v J h).jf=J.jf:=by unfold vF;split<;>rfl
def DE(v:Nat):∀(hs:List (Nat×Nat)) (J:zE),(hs.H (vF v) J).jf=J.jf
 |[],J=>rfl
 |h::r,J=>by rw[uJ,DE v r,IZ]
def T8.vals(h:T8 lo w jb J P)(p:Nat)(B:p<5):w.p (ω jb (16+p))=Z (ι (J.P.g p 0:Nat))/\w.p (ω jb (21+p))=Z (ι (J.from.g p 0:Nat))/\w.p (ω jb (10+p))=Z (ι (J.ji.g p 0)):=by
 obtain⟨a,_⟩:=h.box.H;obtain⟨d,b,c⟩:=h.jl;obtain⟨E,C,D,l,v,f⟩:=five h.hlen.1;obtain⟨q,x,A,y,u,i⟩:=five d;obtain⟨n,j,z,t,m,e⟩:=five b;obtain⟨o,r,F,s,k,g⟩:=five c;rw[a,a,a];obtain rfl|rfl|rfl|rfl|rfl:p=0∨p=1∨p=2∨p=3∨p=4:=η
 all_goals simp[uM,f,i,e,g,TO]
def Rn(w:U)(jb:Nat)(J:zE)(P:xI)(p v:Nat)(h:T8 lo w jb J P)(hv:v<=1000000):
  Calls prog 228 #[(π jb),ι p,ι v] w λe y=>e=ε (.B #[])/\T8 lo y jb (uB J p v) P/\zd (jb::P.sv.m.toList) w y:=by
 have HJ:=Th h;by_cases K:p<5
 .have A:=Th (Nw J p v K);obtain⟨H,N,_⟩:=h.at;obtain⟨q,o,_⟩:=h.vals p K;by_cases R:p+1<5;obtain⟨_,F,_⟩:=h.vals (p+1) R;have B:(p:Int)<5:=η;have T:(p:Int)+1<5:=η;have j:=h.setVal p v R;have s:zd [jb] w (((w.x (ω jb (16+p)) (ι v)).x (ω jb (21+p)) (ι ((v:Int)+1))).x ⟨jb,21+(p+1),Y⟩ (ι 0)):=((zd.set _ _ _ _).A (zd.set _ _ _ _)).A (zd.set _ _ _ _);clear h;go_enter func228,ntmps228;go_upto_region 5 with fail
  clear q o F;generalize (((w.x (ω jb (16+p)) (ι v)).x (ω jb (21+p)) (ι ((v:Int)+1))).x ⟨jb,21+(p+1),Y⟩ (ι 0))=w1 at *;rotate_left
  have B:(p:Int)<5:=η;have T:¬(p:Int)+1<5:=η;have j:=h.setVal4 p v K R;have s:zd [jb] w ((w.x (ω jb (16+p)) (ι v)).x (ω jb (21+p)) (ι ((v:Int)+1))):=(zd.set _ _ _ _).A (zd.set _ _ _ _);clear h;go_enter func228,ntmps228;go_upto_region 5 with fail
  clear q o;generalize ((w.x (ω jb (16+p)) (ι v)).x (ω jb (21+p)) (ι ((v:Int)+1)))=w1 at *
  all_goals
   have f:=Th j;clear j H N;obtain⟨ao,ad,c,l,d,_⟩:=f.l.hold2 p η;obtain⟨n,r,_⟩:=f.l.at;rw[show(gY J p v).jf=J.jf from rfl] at c l d;obtain⟨a,g⟩:∃a,a=J.jf.g p []:=⟨_,rfl⟩;rw[←g] at c l d A;have Q:=Th g;have G:=Th c;clear g c;go_wp2;clear l n r;generalize decide ((p:Int)<0)=af;generalize decide ((5:Int)<=(p:Int))=ag;go_loopw [43] (λS wr=>∃k:Nat,k<=a.j/\S=ι k/\X (T8 lo wr jb ((a.G k).H (vF v) (gY J p v)) P)/\zd (jb::P.sv.m.toList) w wr) (λi _=>a.j-(intOf i).D);exact⟨0,zs _,rfl,f,s.more ζ⟩;obtain⟨k,hk,rfl,b,m⟩:=hrel;by_cases t:k<a.j
   .obtain⟨ac,V,z,_,_,L⟩:=b.l.hold2 p η;rw[DE,show(gY J p v).jf=J.jf from rfl,←Q.l] at z L;rw[G.l] at z;simp only[zt,O.slice.injEq] at z;obtain⟨rfl,_,rfl⟩:=z;obtain⟨hb,rfl,ab,ae,aa,D⟩:=L k t;have HS:=Th (wk a (vF v) (gY J p v) k t);have HD:X (∀W,μ wr W->Calls prog 230 #[(π jb),.agg #[ι (a[k].1:Nat),ι (a[k].2:Nat)],ι v] W λe y=>e=ε (.B #[])/\T8 lo y jb (vF v ((a.G k).H (vF v) (gY J p v)) a[k]) P/\zd P.sv.m.toList W y):=λW hW=>Lh W jb _ P a[k].1 a[k].2 v (b.l.u hW) D;clear L;generalize (a.G k).H (vF v) (gY J p v)=Jk at *;generalize a[k]=hd at *;go_wp2_with (go_at_call 230;refine(HD.l _ γ).y ?_;rintro e w2 ⟨rfl,u,C⟩;have I:=Th u;clear u;have E:=(zd.of (M:=P.sv.m.toList) (show μ wr _ from γ)).A C)
    go_roundw;exact⟨k+1,η,ξ,by rw[HS.l];exact I.l,m.A (E.more (λx hx=>nP _ hx))⟩;simp[intOf];omega
   obtain rfl:k=a.j:=η;rw[uY] at b;go_wp2;go_end0
   exact⟨rfl,by rw[A.l];exact b.l,m⟩
 have A:X (uB J p v=J):=by unfold uB;rw[X,zb η]
 clear h;go_enter func228,ntmps228;go_wp2
 (try simp only[Exit.inBlock,Exit.then]);refine zP (results_none rfl _ _ _) rfl ?_
 exact⟨rfl,by rw[A.l];exact HJ.l,zd.refl _ _⟩
end
section
open Go.Proofs.Tryz
variable {lo:Nat}
def T8.bar{w:U}{r:Nat}{J:zE}{P:xI}(h:T8 lo w r J P)(k:Nat)(o:k<J.bars.j):
  ∃c d b a m u,P.bv=.k (Z (δ c)) J.bars.j d/\c<w.o.q/\w.p (ω c (k*4))=Z (ι (J.bars[k].lit.o:Nat))/\w.p (ω c (k*4+1))=Z (.k b J.bars[k].lit.v.j a)/\w.p (ω c (k*4+2))=Z (ι (J.bars[k].je:Nat))/\w.p (ω c (k*4+3))=Z ((π m))/\yt lo w (.k b J.bars[k].lit.v.j a) J.bars[k].lit.v/\yb lo w m J.bars[k].I u:=by
 obtain⟨c,d,t,_,j,f⟩:=yq h.bars η;have i:k<P.bps.j:=by rw[h.blen];exact o
 obtain⟨p,l,n,q⟩:=ti (List.zipWith fa J.bars P.bps) k υ;simp only[List.getElem_zipWith,fa] at p l n q;obtain⟨g,s⟩:=h.jk k o i;obtain⟨b,a,e⟩:=g.qy;rw[e] at l g;exact⟨c,d,b,a,_,_,t,j,f _ _ p,f _ _ l,f _ _ n,f _ _ q,g,s⟩
def RU(l:zw)(vals:Φ):zH l vals=[Tk l vals 0,Tk l vals 1,Tk l vals 2]:=rfl
def FQ(w:U)(m:Nat)(J:zE)(P:xI)(l:Nat)(h:T8 lo w m J P):
  Calls prog 223 #[(π m),ι l] w λe n=>e=ε (.i (vi J l))/\μ w n:=by
 have HJ:=Th h;obtain⟨C,H,_,_,_,_,aa,_⟩:=h.at;obtain⟨aK,aA,R⟩:=zr h.bars;rw[R] at aa;obtain⟨a,b,c,d,e,p⟩:=five h.jl.2.1;have a6:=h.K.2.1;have HV:X (∀W,T8 lo W m J P->W.p ⟨m,16,Y⟩=Z (ι a)/\W.p ⟨m,17,Y⟩=Z (ι b)/\W.p ⟨m,18,Y⟩=Z (ι c)/\W.p ⟨m,19,Y⟩=Z (ι d)/\W.p ⟨m,20,Y⟩=Z (ι e)):=λW t=>by
  have q0:=(t.vals 0 η).1;have q1:=(t.vals 1 η).1;have q2:=(t.vals 2 η).1;have q3:=(t.vals 3 η).1;have q4:=(t.vals 4 η).1;rw[p] at q0 q1 q2 q3 q4;exact⟨q0,q1,q2,q3,q4⟩
 have HE:X (vi J l=J.bars.any (λx=>x.je == l&&(uf x.I [Tk x.lit [a,b,c,d,e] 0,Tk x.lit [a,b,c,d,e] 1,Tk x.lit [a,b,c,d,e] 2]).I)):=by
  rw[X];unfold vi;rw[p];rfl
 clear h;go_enter func223,ntmps223;go_wp2;clear aa C H;go_loopw [15] (λaj wr=>∃k:Nat,k<=J.bars.j/\aj=ι k/\X ((J.bars.G k).any (λx=>x.je == l&&(uf x.I [Tk x.lit [a,b,c,d,e] 0,Tk x.lit [a,b,c,d,e] 1,Tk x.lit [a,b,c,d,e] 2]).I)=false)/\μ w wr) (λi _=>J.bars.j-(intOf i).D);exact⟨0,zs _,rfl,rfl,zn _ _⟩;obtain⟨k,hk,rfl,HA,j⟩:=hrel;have ab:=j.q;by_cases F:k<J.bars.j
 .have v:=HJ.l.u j;obtain⟨C,H,_⟩:=v.at;obtain⟨af,a2,av,ay,ah⟩:=HV.l wr v;obtain⟨gb,aJ,s,g,Q,fp,o,aM,ap,ad,ag,aq,hT,K⟩:=v.bar k F;rw[R] at o;simp only[O.slice.injEq] at o;obtain⟨rfl,_,rfl⟩:=o;have HS:X ((J.bars.G (k+1)).any (λx=>x.je == l&&(uf x.I [Tk x.lit [a,b,c,d,e] 0,Tk x.lit [a,b,c,d,e] 1,Tk x.lit [a,b,c,d,e] 2]).I)=((J.bars.G k).any (λx=>x.je == l&&(uf x.I [Tk x.lit [a,b,c,d,e] 0,Tk x.lit [a,b,c,d,e] 1,Tk x.lit [a,b,c,d,e] 2]).I)||(J.bars[k].je == l&&(uf J.bars[k].I [Tk J.bars[k].lit [a,b,c,d,e] 0,Tk J.bars[k].lit [a,b,c,d,e] 1,Tk J.bars[k].lit [a,b,c,d,e] 2]).I))):=Ub J.bars _ k F;have a1:X ((J.bars[k].je == l&&(uf J.bars[k].I [Tk J.bars[k].lit [a,b,c,d,e] 0,Tk J.bars[k].lit [a,b,c,d,e] 1,Tk J.bars[k].lit [a,b,c,d,e] 2]).I)=true->vi J l=true):=λq=>by rw[HE.l];exact Di J.bars _ k F q
  have ao:X (∀W,μ wr W->Calls prog 161 #[.agg #[ι (J.bars[k].lit.o:Nat),.k s J.bars[k].lit.v.j g],.agg #[ι a,ι b,ι c,ι d,ι e]] W λr n=>r=ε (.agg #[ι ((Tk J.bars[k].lit [a,b,c,d,e] 0:Nat):Int),ι ((Tk J.bars[k].lit [a,b,c,d,e] 1:Nat):Int),ι ((Tk J.bars[k].lit [a,b,c,d,e] 2:Nat):Int)])/\μ W n):=λW t=>BD W _ J.bars[k].lit.o J.bars[k].lit.v a b c d e (hT.u t);have N:X (∀W x y z,μ wr W->Calls prog 83 #[(π Q),.agg #[ι ((x:Nat):Int),ι ((y:Nat):Int),ι ((z:Nat):Int)]] W λr n=>r=ε (.B #[ι (((uf J.bars[k].I [x,y,z]).g 0:Nat):Int),.i (uf J.bars[k].I [x,y,z]).I])/\μ W n):=λW x y z t=>Fu W Q _ fp x y z (K.u t);clear hT K v;generalize J.bars[k]=f at *;generalize Tk f.lit [a,b,c,d,e] 0=r0 at *;generalize Tk f.lit [a,b,c,d,e] 1=r1 at *;generalize Tk f.lit [a,b,c,d,e] 2=r2 at *;by_cases L:f.je=l
  .subst L;have T:=Th λW t=>N.l W r0 r1 r2 t;clear N;generalize (uf f.I [r0,r1,r2]).g 0=mg at *;generalize (uf f.I [r0,r1,r2]).I=ms at *;have az:((f.je:Int) == (f.je:Int))=true:=beq_self_eq_true _;have B:=Ti.new wr #[ι f.lit.o,.k s f.lit.v.j g,ι f.je,(π Q)] 325;have u:μ wr (wr.C (.E #[ι f.lit.o,.k s f.lit.v.j g,ι f.je,(π Q)] 325)):=(zn _ _).C (zf _) _;have G:=HJ.l.u (Tl j u);obtain⟨a9,aE,_⟩:=G.at;obtain⟨au,al,am,ax,an⟩:=HV.l _ G;clear G;go_wp2;generalize wr.C (.E #[ι f.lit.o,.k s f.lit.v.j g,ι f.je,(π Q)] 325)=wA at *;clear ap ad ag aq af a2 av ay ah C H;obtain⟨aI,aN,aG⟩:=B.e;have aF:=u.q;go_region_held3 (λn=>n.p ⟨wr.o.q,0,Y⟩=Z (ι f.lit.o)/\n.p ⟨wr.o.q,1,Y⟩=Z (.k s f.lit.v.j g)/\n.p ⟨m,16,Y⟩=Z (ι a)/\n.p ⟨m,17,Y⟩=Z (ι b)/\n.p ⟨m,18,Y⟩=Z (ι c)/\n.p ⟨m,19,Y⟩=Z (ι d)/\n.p ⟨m,20,Y⟩=Z (ι e)) (first|go_keep|(go_simp;done)) (first|(go_at_call 161;refine(ao.l _ γ).y ?_;rintro r w2 ⟨rfl,M⟩;have A:μ wA w2:=(zT γ M (zf _));have S:=B.u A;obtain⟨a7,a5,a4⟩:=S.e;have aL:=A.q;have I:=HJ.l.u (Tl (Tl j u) A);obtain⟨a3,aB,_⟩:=I.at;obtain⟨aw,a0,ai,ak,ar⟩:=HV.l w2 I;try (have ac:=(show Ti ((wA.C (.E #[ι 0,ι 0,ι 0] 165)).drew) wA.o.q #[ι 0,ι 0,ι 0] 165 from Ti.drew (Ti.new _ _ _)).u M;obtain⟨a8,aD,aC⟩:=ac.e)))
   all_goals
    have aH:=Tl u A;clear aw a0 ai ak ar au al am ax an;cases ms
    .have V:X ((J.bars.G (k+1)).any (λx=>x.je == f.je&&(uf x.I [Tk x.lit [a,b,c,d,e] 0,Tk x.lit [a,b,c,d,e] 1,Tk x.lit [a,b,c,d,e] 2]).I)=false):=by rw[X,HS.l,HA.l];simp
     go_wp2_with (go_at_call 83;refine(T.l _ γ).y ?_;rintro r w3 ⟨rfl,D⟩;have E:μ wr w3:=(zT γ D (zf _)))
     go_roundw;exact⟨k+1,η,ξ,V,Tl j E⟩;simp[intOf];omega
    have ae:=Th (a1.l ζ);go_wp2_with (go_at_call 83;refine(T.l _ γ).y ?_;rintro r w3 ⟨rfl,D⟩;have E:μ wr w3:=(zT γ D (zf _)))
    go_ret;exact⟨by rw[ae.l];rfl,Tl j E⟩
  have V:X ((f.je == l&&(uf f.I [r0,r1,r2]).I)=false):=by rw[X,beq_eq_false_iff_ne.2 L];rfl
  have az:((f.je:Int) == (l:Int))=false:=beq_eq_false_iff_ne.2 η;go_wp2;go_roundw;exact⟨k+1,η,ξ,by rw[HS.l,HA.l,V.l];rfl,j.C ab _⟩;simp[intOf];omega
 have V:X (vi J l=false):=by
  rw[X,HE.l];have q:=HA.l;rw[yV η] at q;exact q
 go_wp2;go_ret;exact⟨by rw[V.l];rfl,j⟩
end
section
open Go.Proofs.Tryz
variable {lo:Nat}{J:zE}
def Us(J:zE):Prop:=∀s∈J.ja,s.I.r<=1000
def T8.narrow{w:U}{d:Nat}{P:xI}(h:T8 lo w d J P):Us J:=by
 intro s b;obtain⟨k,a,rfl⟩:=vh b;obtain⟨f,e,c,_⟩:=h.tries k a (by rw[h.slen];exact a);exact c.wide
def Sa(h:Us J)(b:Nat×Nat)(f:Nat):Us (qd J b f).1/\∀v,(qd J b f).2=Z v->v<=1000/\f<=1000:=by
 unfold qd;split;rename_i c;refine⟨h,λv a=>?_⟩;have d:b.1<J.ja.j:=by simp[vL] at c;exact c.1
 have e:J.ja.g b.1 xa.zero=J.ja[b.1]:=by simp[List.getD_eq_getElem?_getD,d]
 simp only[e] at a;have i:=h _ (zq d);have g:=ew a;have j:f<J.ja[b.1].I.r:=by
  unfold yG at a;split at a;rename_i q;exact q.2;cases a
 omega;exact⟨h,λv a=>by cases a⟩
def GR:∀(n:Nat) (J:zE) (hs:List (Nat×Nat)) (a b c:Nat) (e:zE) (v:Nat),Us J->(b<hs.j∨a<=1000)->gC n J hs a b c=Z (e,Z v)->v<=1000
 |0,_,_,_,_,_,_,_,_,_,h=>by simp[gC] at h
 |n+1,J,hs,a,b,c,e,v,g,i,h=>by
  unfold gC at h;by_cases d:b<hs.j
  .rw[zb d] at h;obtain⟨f,l⟩:=Sa g (hs.g c (0,0)) a;generalize qd J (hs.g c (0,0)) a=m at *;obtain⟨k,j⟩:=m;cases j with
   |none=>simp at h
   |some u=>
    obtain⟨o,p⟩:=l u rfl;refine GR n k hs _ _ _ e v f (ze ?_) h;split<;>omega
  .rw[za d] at h;simp only[zt,ye] at h;obtain⟨_,rfl⟩:=h;omega
def Mr{n:Nat}{a:zE}{p f v:Nat}(c:Us J)(h:lc n J p f=Z (a,Z v)):v<=1000:=by
 unfold lc at h;by_cases b:p≥5∨(J.jf.g p []).j=0;rw[zb b] at h;simp at h;rw[za b] at h;exact GR n J _ f 0 0 a v c (zh η) h
def Nm(w:U)(d:Nat)(J:zE)(P:xI)(n:Nat)(B:zE)(b:Bool)(h:T8 lo w d J P)(hr:jF n J J.ql=Z (B,b)):
  Calls prog 224 #[(π d)] w λe A=>e=ε (.i b)/\T8 lo A d B P/\zd (d::P.sv.m.toList) w A:=by
 have HJ:=Th h;have HR:=Th hr;obtain⟨H,I,_,_,_,_,_,_,K,_⟩:=h.at;clear h hr;go_enter func224,ntmps224;go_wp2;clear K H I;go_loopg [3] n (λk v3 wr=>∃(j:zE) (o:Int),v3=ι o/\X (jF k j o=Z (B,b))/\X (T8 lo wr d j P)/\zd (d::P.sv.m.toList) w wr)
 case atStart=>exact⟨J,J.ql,rfl,HR,HJ,zd.refl _ _⟩
 obtain⟨j,o,rfl,V,c,i⟩:=hrel;obtain⟨H,I,_,_,ac,_⟩:=c.l.at;have ae:=c.l.K.2.2;rcases gk with _|m;have q:=V.l;simp[jF] at q;have q:=V.l;unfold jF at q;by_cases f:0<=o/\o<j.m/\o<5
 .rw[zb f] at q;obtain⟨d1,d2,d3⟩:=f;obtain⟨p,rfl⟩:∃p:Nat,o=p:=⟨o.D,η⟩;have F:p<5:=η;simp only[Int.toNat_natCast] at q;obtain⟨_,ad,ab⟩:=c.l.vals p F;rcases C:lc m j p (j.from.g p 0) with _|ar;rw[C] at q;cases q;obtain⟨g,L⟩:=ar;rw[C] at q;have t:X (Calls prog 227 #[(π d),ι p,ι ((j.from.g p 0:Nat):Int)] wr λe A=>e=ε (.B #[ι ((L.g 0:Nat):Int),.i L.I])/\T8 lo A d g P/\zd [d] wr A):=Ja wr d j P p _ m g L c.l C;rcases L with _|v
  .simp only[kF,kK] at t;have l:X (jF m g (g.ji.g p 0)=Z (B,b)):=q;clear q C;generalize j.from.g p 0=fr at *;go_wp2_with (go_at_call 227;refine t.l.y ?_;rintro e w2 ⟨rfl,a,r⟩;have s:=Th a;obtain⟨Q,aa,_⟩:=a.at;obtain⟨_,_,R⟩:=a.vals p F;clear a)
   go_roundg m
   case measure=>omega
   exact⟨g,g.ji.g p 0,rfl,l,s,i.A (r.more ζ)⟩
  have hv:=Mr c.l.narrow C;simp only[uE,j6] at t;have l:X (jF m (uB g p v) (if vi (uB g p v) (p+1)=true then(p:Int) else(p:Int)+1)=Z (B,b)):=q;clear q C;have E:=Th λW (N:T8 lo W d g P)=>Rn W d g P p v N η;have G:X (∀W,T8 lo W d (uB g p v) P->Calls prog 223 #[(π d),ι ((p:Int)+1)] W λe A=>e=ε (.i (vi (uB g p v) (p+1)))/\μ W A):=λW N=>by
   have q:=FQ W d _ P (p+1) N;rw[show((p+1:Nat):Int)=(p:Int)+1 from by omega] at q;exact q
  generalize j.from.g p 0=fr at *;generalize vi (uB g p v) (p+1)=bb at *;generalize uB g p v=S at *;cases bb
  .rw[za ζ] at l;go_wp2_with (first|(go_at_call 227;refine t.l.y ?_;rintro e w2 ⟨rfl,a,r⟩;have s:=Th a;clear a)|(go_at_call 228;refine(E.l _ s.l).y ?_;rintro e w3 ⟨rfl,x,z⟩;have u:=Th x;clear x)|(go_at_call 223;refine(G.l _ u.l).y ?_;rintro e w4 ⟨rfl,y⟩))
   go_roundg m
   case measure=>omega
   exact⟨S,(p:Int)+1,rfl,l,u.l.u y,((i.A (r.more ζ)).A z).newer (zd.of (M:=[]) y) ζ⟩
  rw[zb rfl] at l;go_wp2_with (first|(go_at_call 227;refine t.l.y ?_;rintro e w2 ⟨rfl,a,r⟩;have s:=Th a;clear a)|(go_at_call 228;refine(E.l _ s.l).y ?_;rintro e w3 ⟨rfl,x,z⟩;have u:=Th x;clear x)|(go_at_call 223;refine(G.l _ u.l).y ?_;rintro e w4 ⟨rfl,y⟩))
  go_roundg m
  case measure=>omega
  exact⟨S,p,rfl,l,u.l.u y,((i.A (r.more ζ)).A z).newer (zd.of (M:=[]) y) ζ⟩
 rw[za f] at q;simp only[zt,ye] at q;obtain⟨T,e2⟩:=q;have D:X (B=j/\b=decide (o≥j.m)):=⟨T.symm,e2.symm⟩;clear T e2;by_cases g1:0<=o
 .by_cases g2:o<(j.m:Int)
  .have g3:¬o<5:=η;go_wp2;go_ret;exact⟨by rw[D.l.2];first|(simp;done)|(simp;omega),by rw[D.l.1];exact c.l,i⟩
  go_wp2;go_ret;exact⟨by rw[D.l.2];first|(simp;done)|(simp;omega),by rw[D.l.1];exact c.l,i⟩
 go_wp2;go_ret;exact⟨by rw[D.l.2];first|(simp;done)|(simp;omega),by rw[D.l.1];exact c.l,i⟩
def T8.setDepth{w:U}{a:Nat}{P:xI}(h:T8 lo w a J P)(m:Int):T8 lo (w.x (ω a 26) (ι m)) a {J with ql:=m} P:=by
 obtain⟨e,b,d⟩:=h.jl;refine h.rebox (zd.set _ _ _ _) ?_ rfl rfl rfl rfl rfl h.jl;obtain⟨E,C,D,n,x,g⟩:=five h.hlen.1;obtain⟨r,y,B,z,v,j⟩:=five e;obtain⟨p,k,A,u,o,f⟩:=five b;obtain⟨q,s,F,t,l,i⟩:=five d;have c:=h.box.set 26 (ι m);simpa [uM,g,j,f,i] using c
def UP(w:U)(g:Nat)(J:zE)(P:xI)(n:Nat)(q:zE)(b:Bool)(h:T8 lo w g J P)(f:ly n J=Z (q,b)):
  Calls prog 215 #[(π g)] w λe t=>e=ε (.i b)/\T8 lo t g q P/\zd (g::P.sv.m.toList) w t:=by
 unfold ly at f;rcases l:jF n J J.ql with _|x;rw[l] at f;cases f;obtain⟨p,s⟩:=x;rw[l] at f;simp only[zt,ye] at f;obtain⟨u,rfl⟩:=f;have j:=Th (Nm w g J P n p s h l);have r:=Th u.symm;cases s
 .go_enter func215,ntmps215;go_wp2_with (go_at_call 224;refine j.l.y ?_;rintro e v ⟨rfl,a,c⟩;have d:=Th a;obtain⟨m,o,_,_,_,_,_,i,k,_⟩:=a.at;clear a)
  go_ret;exact⟨rfl,by rw[r.l];exact d.l.setDepth (-1),c.A ((zd.set _ _ _ _).more ζ)⟩
 go_enter func215,ntmps215;go_wp2_with (go_at_call 224;refine j.l.y ?_;rintro e v ⟨rfl,a,c⟩;have d:=Th a;obtain⟨m,o,_,_,_,_,_,i,k,_⟩:=a.at;clear a)
 go_ret;exact⟨rfl,by rw[r.l];exact(d.l.setDepth (-1)).setDepth p.last,(c.A ((zd.set _ _ _ _).more ζ)).A ((zd.set _ _ _ _).more ζ)⟩
end
section
open Go.Proofs.Tryz
variable {lo:Nat}
def RI(w:U)(a:Nat)(J:zE)(P:xI)(h:T8 lo w a J P):
  Calls prog 217 #[(π a)] w λe f=>e=ε (ι J.jg)/\f=w:=by
 obtain⟨c,d,_,_,_,_,_,_,_,b⟩:=h.at;clear h;go_enter func217,ntmps217;go_wp2;go_ret;exact⟨rfl,rfl⟩
def LP(w:U)(q:Nat)(J:zE)(P:xI)(h:T8 lo w q J P):
  Calls prog 216 #[(π q)] w λr L=>r=ε (.agg #[ι ((Tk J.g J.P 0:Nat):Int),ι ((Tk J.g J.P 1:Nat):Int),ι ((Tk J.g J.P 2:Nat):Int)])/\μ w L:=by
 obtain⟨C,H,t,n,_⟩:=h.at;obtain⟨a,b,c,d,e,f⟩:=five h.jl.2.1;have K:=(h.vals 0 η).1;have u:=(h.vals 1 η).1;have F:=(h.vals 2 η).1;have y:=(h.vals 3 η).1;have B:=(h.vals 4 η).1;rw[f] at K u F y B ⊢;obtain⟨D,o,j⟩:=h.g.qy;have s:=h.g;rw[j] at n s;have l:=Th λW I=>BD W _ J.g.o J.g.v a b c d e (s.u I);generalize Tk J.g [a,b,c,d,e] 0=M at *;generalize Tk J.g [a,b,c,d,e] 1=G at *;generalize Tk J.g [a,b,c,d,e] 2=A at *;go_enter func216,ntmps216;go_wp2;go_region_with (go_at_call 161;refine(l.l _ γ).y ?_;rintro r E ⟨rfl,g⟩;have k:μ w E:=(zT γ g (zf _));have i:=(Ti.drew (Ti.new w #[ι 0,ι 0,ι 0] 165)).u g;obtain⟨m,z,x⟩:=i.e)
 all_goals
  go_wp2;exact zP (v:=.agg #[ι M,ι G,ι A]) (by simp[results,results216,go_sem,m]) rfl ⟨rfl,((k.x (p:=(δ w.o.q)) ζ _).x (p:=(ω w.o.q 1)) ζ _).x (p:=(ω w.o.q 2)) ζ _⟩
def S8:(prog.info? 327).map (λi=>(i.zero,i.q,i.bytes))=Z (Z (.agg #[ι 0,ι 0]),2,16):=χ
def fG(b:Nat)(x:zw×Nat):Option (Nat×Nat):=(xd x.1 b).map λa=>(x.2,a)
def Hx(r:zu)(a:Nat):xz r a=r.qc.zipIdx.filterMap (fG a):=rfl
def Kx(a:List zw)(b k:Nat)(c:k<a.j):(a.G (k+1)).zipIdx.filterMap (fG b)=(a.G k).zipIdx.filterMap (fG b)++((xd a[k] b).map λd=>(k,d)).toList:=by
 rw[yN c,List.zipIdx_append,ig];congr 1;simp only[List.zipIdx_singleton,vd,vJ,tG,List.filterMap_nil,fG];rw[dX η];cases xd a[k] b<;>rfl
def Rv(hs:List (Nat×Nat))(x:Nat×Nat):kM (hs++[x])=kM hs++[ι (x.1:Nat),ι (x.2:Nat)]:=by simp[kM]
def NR(w:U)(tv H K:O)(r:zu)(a:Nat)(h:vE lo w tv H K r)(hp:a<=1000000):
  Calls prog 221 #[gH r tv H K,ι a] w λe u=>∃I,e=.returned I/\u.r w.o.q 327 2 I (xz r a).j (kM (xz r a))/\μ w u:=by
 obtain⟨i0,hi,y,B,G⟩:=info_parts S8;obtain⟨V,N,rfl⟩:=h.qc.qy;have aa:=h.qc.len;have hP:=h.qc;have HE:X (xz r a=r.qc.zipIdx.filterMap (fG a)):=rfl;unfold gH;clear h;generalize r.qc=c at *;go_enter func221,ntmps221;go_wp2;go_loopw [5,13] (λv5 E wr=>∃k:Nat,k<=c.j/\E=ι k/\wr.r w.o.q 327 2 v5 ((c.G k).zipIdx.filterMap (fG a)).j (kM ((c.G k).zipIdx.filterMap (fG a)))/\μ w wr) (λ_ i _=>c.j-(intOf i).D);exact⟨0,zs _,rfl,xo _ _ _ _,γ⟩;obtain⟨k,hk,rfl,b,f⟩:=hrel;have S:=f.q;have J:((c.G k).zipIdx.filterMap (fG a)).j<=k:=by
  have:=tq (fG a) (c.G k).zipIdx;simp at this;omega
 by_cases q:k<c.j
 .obtain⟨g,C,o,z,P,R,Q,M⟩:=hP.cell k q;subst z;have ab:=zi f P R;have T:=zi f P Q;have ac:g<wr.o.q:=η;have s:=Th (Kx c a k q);have m:X (∀W,μ w W->Calls prog 187 #[.agg #[ι (c[k].o:Nat),.k C c[k].v.j o],ι a] W λe u=>e=ε (.B #[ι (((xd c[k] a).g 0:Nat):Int),.i (xd c[k] a).I])/\μ W u):=λW hW=>D9 W _ c[k].o a c[k].v (M.u hW) hp;clear R Q M;generalize c[k]=l at *;generalize (c.G k).zipIdx.filterMap (fG a)=D at *;generalize xd l a=ol at *;rcases ol with _|lv
  .simp only[Option.map_none,Option.toList_none,qn] at s;simp only[kF,kK] at m;go_wp2_with (go_at_call 187;refine(m.l _ γ).y ?_;rintro e t ⟨rfl,n⟩;have d:μ wr t:=(zT γ n (zf _)))
   go_roundw;exact⟨k+1,η,ξ,by rw[s.l];exact zy b d,Tl f d⟩;simp[intOf];omega
  simp only[jL,Option.toList_some] at s;simp only[uE,j6] at m;obtain⟨F,p,rfl⟩:=zr b;go_wp2_with (first|(go_at_call 187;refine(m.l _ γ).y ?_;rintro e t ⟨rfl,n⟩;have d:μ wr t:=(zT γ n (zf _));have j:=zy b d;have ad:=d.q)|(at_builtin;refine kd t _ [ι k,ι lv] _ rfl (.tmp 25) (.tmp 29) 307 rfl w.o.q 327 i0 _ 2 16 underlying307 hi y B G rfl θ (.k F D.j p) D.j (kM D) rfl j (zn _ _) _ _ rfl ζ rfl a_ η η η ?_;intro v' w3 v A L))
  go_roundw;exact⟨k+1,η,ξ,by rw[s.l,Rv,yK];exact v,(Tl f d).A (A.u (λx hx=>yW j (xb hx)) η)⟩;simp[intOf];omega
 rw[yV η] at b;go_wp2;go_ret;exact⟨_,rfl,by rw[HE.l];exact b,f⟩
end
section
variable {lo:Nat}{w w':U}{base tb b0:Nat}{v:O}{xs:List O}{c:Array O}{T:zl}{fp:List Nat}
abbrev zo:=Nat×Nat×Nat
def Ue(t:TypeId):Prop:=t≠229/\t≠273/\t≠3
instance (t:TypeId):Decidable (Ue t):=by unfold Ue;infer_instance
def Lc(w:U)(b:Nat):Prop:=∃c t,Ti w b c t/\¬Ue t
def wO{t:TypeId}(h:t=229∨t=273∨t=3):¬Ue t:=by
 rintro⟨a,b,c⟩;rcases h with h|h|h;exact a h;exact b h;exact c h
def jM{e:TypeId}{a n:Nat}(h:w.r base e a v n xs){b:Nat}(f:v.m=Z b):∃c,Ti w b c e:=by
 obtain⟨_,⟨d,_⟩|⟨g,i,k,d,_,j,_⟩⟩:=h;subst d;cases f;subst d;simp only[O.ownBlock,zt] at f;subst f;exact⟨_,j⟩
def Ti.type{b:Nat}{e:Array O}{t d:TypeId}(h:Ti w b c t)(a:Ti w b e d):t=d:=by
 unfold Ti at h a;rw[h] at a;simp at a;exact a.2
def yb.typed(h:yb lo w tb T fp):∀b∈fp,Lc w b:=by
 obtain⟨k,j,d,rfl⟩:=h;intro b a;simp only[Un,zG,ya] at a;rcases a with a|a|a;subst a;exact⟨_,_,d.box,wO (zh rfl)⟩;obtain⟨c,f⟩:=jM d.B (xb a);exact⟨_,_,f,wO (ze (zh rfl))⟩;obtain⟨i,g,e|e⟩:=Ag a;obtain⟨c,f⟩:=jM (d.D i (by rw[←d.len];exact g) g) (b:=b) (by rw[e];rfl);exact⟨_,_,f,wO (ze (ze rfl))⟩;obtain⟨c,f⟩:=jM (d.down i (by rw[←d.len];exact g) g) (b:=b) (by rw[e];rfl);exact⟨_,_,f,wO (ze (ze rfl))⟩
def xh(lo:Nat)(w:U)(own:Nat->zo)(ρ:zo)(tb:Nat)(T:zl):Prop:=∃fp,yb lo w tb T fp/\∀b∈fp,own b=ρ
structure Tq (lo:Nat) (ok:TypeId->zo->Prop) (w:U) (own:Nat->zo) (w':U) (own':Nat->zo):Prop where
 old:∀b,b<w.o.q->own' b=own b
 save:∃M,zd M w w'/\∀b∈M,lo<=b/\b<w.o.q/\∃c t,Ti w b c t/\ok t (own b)
def onT(rs:zo->Prop):TypeId->zo->Prop:=λt ρ=>¬Ue t/\rs ρ
def dT(l:List TypeId):TypeId->zo->Prop:=λt _=>t∈l
def orK(a b:TypeId->zo->Prop):TypeId->zo->Prop:=λt ρ=>a t ρ∨b t ρ
def Tq.of{ok:TypeId->zo->Prop}{w w':U}(own:Nat->zo)(a:μ w w'):Tq lo ok w own w' own:=⟨λ_ _=>rfl,[],zd.of a,ζ⟩
def Tq.refl{ok:TypeId->zo->Prop}(w:U)(own:Nat->zo):Tq lo ok w own w own:=Tq.of own (zn _ _)
def Tq.more{ok ok':TypeId->zo->Prop}{own own':Nat->zo}(h:Tq lo ok w own w' own')(hs:∀t ρ,ok t ρ->ok' t ρ):Tq lo ok' w own w' own':=by
 obtain⟨a,M,j,i⟩:=h;refine⟨a,M,j,λb k=>?_⟩;obtain⟨d,f,c,t,g,e⟩:=i b k;exact⟨d,f,c,t,g,hs _ _ e⟩
def Tq.q{ok:TypeId->zo->Prop}{w w':U}{own own':Nat->zo}(h:Tq lo ok w own w' own'):w.o.q<=w'.o.q:=by
 obtain⟨_,M,a,_⟩:=h;exact a.q
def Tq.A{ok:TypeId->zo->Prop}{a b c:U}{r m o:Nat->zo}(h:Tq lo ok a r b m)(k:Tq lo ok b m c o):Tq lo ok a r c o:=by
 obtain⟨l,M,f,q⟩:=h;obtain⟨s,N,g,u⟩:=k;have z:=f.q;refine⟨λx d=>(s x η).A (l x d),M++N.filter (·<a.o.q),⟨g.os.A f.os,g.tape.A f.tape,g.output.A f.output,zY z g.q,λx d j=>?_⟩,λx d=>?_⟩;simp only[ya,xy,not_or,not_and,decide_eq_true_eq] at j;exact(g.block x η λi=>j.2 i d).A (f.block x d j.1);simp only[ya,xy,decide_eq_true_eq] at d;rcases d with d|⟨d,e⟩;exact q x d;obtain⟨y,A,c,t,p,n⟩:=u x d;rw[l x e] at n;by_cases i:x∈M;exact q x i;exact⟨y,e,c,t,by unfold Ti at p ⊢;rw[←f.block x e i];exact p,n⟩
def Tq.ofSave{ok:TypeId->zo->Prop}(own:Nat->zo){M:Φ}(hs:zd M w w')(a:∀b∈M,lo<=b/\b<w.o.q/\∃c t,Ti w b c t/\ok t (own b)):Tq lo ok w own w' own:=⟨λ_ _=>rfl,M,hs,a⟩
def Tq.set{ok:TypeId->zo->Prop}{w:U}(own:Nat->zo){b:Nat}{c:Array O}{t:TypeId}(a:Ti w b c t)(e:lo<=b)(f:ok t (own b))(o:Nat)(u:O):Tq lo ok w own (w.x (ω b o) u) own:=
 Tq.ofSave own (zd.set _ _ _ _) (λx d=>by simp at d;subst d;exact⟨e,a.lt,_,_,a,f⟩)
def Ti.mod{ok:TypeId->zo->Prop}{own own':Nat->zo}{b:Nat}{t:TypeId}(h:Ti w b c t)(p:Tq lo ok w own w' own')(a:¬ok t (own b)):Ti w' b c t:=by
 obtain⟨_,M,g,f⟩:=p;refine h.save g λd=>?_;obtain⟨_,_,j,i,q,e⟩:=f b d;rw[h.type q] at a;exact a e
def tC{ok:TypeId->zo->Prop}{own own':Nat->zo}{e:TypeId}{a n:Nat}(h:w.r base e a v n xs)(p:Tq lo ok w own w' own')(g:∀b,v.m=Z b->¬ok e (own b)):w'.r base e a v n xs:=by
 obtain⟨_,M,l,j⟩:=p;refine yT h l λb d f=>?_;obtain⟨c,k⟩:=jM h d;obtain⟨_,_,o,m,q,i⟩:=j b f;have:=g b d;rw[k.type q] at this;exact this i
def vR{ok:TypeId->zo->Prop}{own own':Nat->zo}{e:TypeId}{a n:Nat}(h:w.r base e a v n xs)(p:Tq lo ok w own w' own')(b:∀ρ,¬ok e ρ):w'.r base e a v n xs:=tC h p λ_ _=>b _
def yb.mod{ok:TypeId->zo->Prop}{own own':Nat->zo}(h:yb b0 w tb T fp)(p:Tq lo ok w own w' own')(k:∀b∈fp,∀t,¬Ue t->¬ok t (own b)):yb b0 w' tb T fp:=by
 obtain⟨_,M,i,j⟩:=p;refine h.save i λb d e=>?_;obtain⟨_,_,c,t,q,g⟩:=j b e;obtain⟨m,l,f,a⟩:=h.typed b d;rw[f.type q] at a;exact k b d t a g
def xh.mod{ok:TypeId->zo->Prop}{w w':U}{own own':Nat->zo}{ρ:zo}{tb:Nat}{T:zl}(h:xh lo w own ρ tb T)(p:Tq lo ok w own w' own')(g:∀t,¬Ue t->¬ok t ρ):xh lo w' own' ρ tb T:=by
 obtain⟨fp,d,e⟩:=h;exact⟨fp,d.mod p λb a t f=>by rw[e b a];exact g t f,λb a=>(p.old b (d.lt b a).2).A (e b a)⟩
def jK{rs:zo->Prop}{t:TypeId}(h:Ue t):∀ρ,¬onT rs t ρ:=λ_ q=>q.1 h
def xh.onT{rs:zo->Prop}{w w':U}{own own':Nat->zo}{ρ:zo}{tb:Nat}{T:zl}(h:xh lo w own ρ tb T)(p:Tq lo (onT rs) w own w' own')(a:¬rs ρ):xh lo w' own' ρ tb T:=h.mod p λ_ _ q=>a q.2
def yt.mod{ok:TypeId->zo->Prop}{own own':Nat->zo}{ts:List yh}(h:yt b0 w v ts)(p:Tq lo ok w own w' own')(a:∀ρ,¬ok 284 ρ):yt b0 w' v ts:=⟨vR h.own p a,h.len,h.z⟩
def ux.mod{b0:Nat}{ok:TypeId->zo->Prop}{w w':U}{own own':Nat->zo}{v:O}{f:List zw}(h:ux b0 w v f)(p:Tq lo ok w own w' own')(i:∀ρ,¬ok 284 ρ)(d:∀ρ,¬ok 204 ρ):ux b0 w' v f:=by
 obtain⟨j,g,m,l,e⟩:=h;exact⟨j,vR g p d,m,l,λk a b=>⟨(e k a b).1,(e k a b).2.1.mod p i,(e k a b).2.2⟩⟩
def vE.mod{b0:Nat}{ok:TypeId->zo->Prop}{w w':U}{own own':Nat->zo}{tv d e:O}{r:zu}(h:vE b0 w tv d e r)(p:Tq lo ok w own w' own')(b:∀ρ,¬ok 284 ρ)(a:∀ρ,¬ok 204 ρ):vE b0 w' tv d e r:=⟨h.g.mod p b,h.qc.mod p b a,h.qx.mod p b a,h.small⟩
def Tx.mod{ok:TypeId->zo->Prop}{own own':Nat->zo}{a:List zk}(h:Tx b0 w v a)(p:Tq lo ok w own w' own')(b:∀ρ,¬ok 165 ρ):Tx b0 w' v a:=⟨vR h.1 p b,h.2⟩
def ext(own:Nat->zo)(n:Nat)(ρ:zo):Nat->zo:=λb=>if b<n then own b else ρ
def fC(own:Nat->zo)(n:Nat)(ρ:zo)(b:Nat)(h:b<n):ext own n ρ b=own b:=by simp[ext,h]
def TB.mod{own:Nat->zo}{ρ:zo}{e:zl}{d:Φ}(h:yb lo w tb T fp)(f:∀b∈fp,own b=ρ)(k:TB lo w w' tb e fp d):
  xh lo w' (ext own w.o.q ρ) ρ tb e/\Tq lo (onT (·=ρ)) w own w' (ext own w.o.q ρ):=by
 refine⟨⟨d,k.trie,λb a=>?_⟩,λb a=>by simp[ext,a],fp,k.save,λb a=>⟨(h.lt b a).1,(h.lt b a).2,?_⟩⟩;unfold ext;split;rcases k.qw b a with q|q;exact f b q;omega;rfl;obtain⟨c,t,g,i⟩:=h.typed b a;exact⟨c,t,g,i,f b a⟩
def Tq.extNew{ok:TypeId->zo->Prop}(own:Nat->zo)(ρ:zo)(a:μ w w'):Tq lo ok w own w' (ext own w.o.q ρ):=⟨λb h=>by simp[ext,h],[],zd.of a,ζ⟩
def yb.low{a b:Nat}{w:U}{tb:Nat}{T:zl}{fp:Φ}(h:yb b w tb T fp)(e:a<=b):yb a w tb T fp:=by
 obtain⟨f,g,d,rfl⟩:=h;exact⟨f,g,⟨zY e d.low,d.box,yo d.B e,d.len,λi a b=>yo (d.D i a b) e,λi a b=>yo (d.down i a b) e,d.apart,d.wide,d.many,d.deep,d.K⟩,rfl⟩
def yb.new(own:Nat->zo)(ρ:zo)(h:yb w.o.q w' tb T fp)(a:lo<=w.o.q):xh lo w' (ext own w.o.q ρ) ρ tb T:=
 ⟨fp,h.low a,λb d=>by have:=(h.lt b d).1;simp[ext,Nat.not_lt.2 this]⟩
def xh.u{own:Nat->zo}{ρ:zo}(h:xh lo w own ρ tb T)(a:μ w w'):xh lo w' own ρ tb T:=h.mod (Tq.of (ok:=λ_ _=>False) own a) (λ_ _=>id)
def xh.set{w:U}{own:Nat->zo}{ρ:zo}{tb:Nat}{T:zl}(h:xh lo w own ρ tb T){b:Nat}{c:Array O}{t:TypeId}(j:Ti w b c t)(f:Ue t)(o:Nat)(u:O):xh lo (w.x (ω b o) u) own ρ tb T:=by
 obtain⟨fp,a,i⟩:=h;refine⟨fp,a.save (zd.set _ _ _ _) λx g d=>?_,i⟩;simp at d;subst d;obtain⟨l,k,q,e⟩:=a.typed x g;rw[q.type j] at e;exact e f
end
section
variable {lo:Nat}{w w':U}{v:O}{xs:List O}{b:Nat}{c:Array O}{M:List Nat}
def T3(w:U)(T:TypeId)(M:List Nat):Prop:=∀b∈M,∃c,Ti w b c T
def T3.own{a:Nat}{e:TypeId}{d n:Nat}(h:w.r a e d v n xs):T3 w e v.m.toList:=λ_ f=>jM h (xb f)
def T3.box{T:TypeId}(h:Ti w b c T):T3 w T [b]:=λx a=>by simp at a;subst a;exact⟨c,h⟩
def yL{a:Nat}{e T:TypeId}{d n:Nat}(h:w.r a e d v n xs)(hs:zd M w w')(l:T3 w T M)(i:e≠T):w'.r a e d v n xs:=
 yT h hs λb k g=>by
  obtain⟨c,j⟩:=l b g;obtain⟨m,f⟩:=jM h k;exact i (f.type j)
def Ti.saveT{e T:TypeId}(h:Ti w b c e)(hs:zd M w w')(g:T3 w T M)(f:e≠T):Ti w' b c e:=
 h.save hs λd=>by
  obtain⟨i,a⟩:=g b d;exact f (h.type a)
def yt.saveT{a:Nat}{ts:List yh}{T:TypeId}(h:yt a w v ts)(hs:zd M w w')(d:T3 w T M)(e:284≠T):yt a w' v ts:=⟨yL h.own hs d e,h.len,h.z⟩
def ux.saveT{e:Nat}{w w':U}{v:O}{f:List zw}{T:TypeId}{M:Φ}(h:ux e w v f)(hs:zd M w w')(o:T3 w T M)(l:284≠T)(j:∀b,v.m=Z b->b∉M):ux e w' v f:=by
 obtain⟨i,g,n,m,d⟩:=h;exact⟨i,yT g hs j,n,m,λk a b=>⟨(d k a b).1,(d k a b).2.1.saveT hs o l,(d k a b).2.2⟩⟩
def ux.saveTT{f:Nat}{g:List zw}{T:TypeId}(h:ux f w v g)(hs:zd M w w')(i:T3 w T M)(m:284≠T)(e:204≠T):ux f w' v g:=by
 obtain⟨l,j,o,n,d⟩:=h;exact⟨l,yL j hs i e,o,n,λk a b=>⟨(d k a b).1,(d k a b).2.1.saveT hs i m,(d k a b).2.2⟩⟩
def vE.saveT{g:Nat}{w w':U}{tv f i:O}{r:zu}{T:TypeId}{M:Φ}(h:vE g w tv f i r)(hs:zd M w w')(e:T3 w T M)(d:284≠T)(a:204≠T):vE g w' tv f i r:=⟨h.g.saveT hs e d,h.qc.saveTT hs e d a,h.qx.saveTT hs e d a,h.small⟩
def yt.low{a:Nat}{ts:List yh}(h:yt b w v ts)(d:a<=b):yt a w v ts:=⟨yo h.own d,h.len,h.z⟩
def ux.low{a b:Nat}{w:U}{v:O}{f:List zw}(h:ux b w v f)(e:a<=b):ux a w v f:=by
 obtain⟨i,g,l,j,d⟩:=h;exact⟨i,yo g e,l,j,λk a b=>⟨(d k a b).1,(d k a b).2.1.low e,(d k a b).2.2⟩⟩
def vE.low{a b:Nat}{w:U}{tv e f:O}{r:zu}(h:vE b w tv e f r)(d:a<=b):vE a w tv e f r:=⟨h.g.low d,h.qc.low d,h.qx.low d,h.small⟩
def Ti.up{T:TypeId}(h:Ti w b c T)(o:Obj):Ti (w.C o) b c T:=h.u ((zn _ _).C (zf _) o)
def Ti.at'{b':Nat}{T:TypeId}(h:Ti w b c T)(e:b=b'):Ti w b' c T:=e ▸ h
def Ti.carry{W a:U}{T:TypeId}{G:Prop}(h:Ti W b c T)(d:μ W a)(k:Ti a b c T->G):G:=k (h.u d)
end
section
open Go.Proofs.Tryz
variable {lo:Nat}
def xh.saveT{w w':U}{own:Nat->zo}{ρ:zo}{tb:Nat}{T:zl}{t:TypeId}{M:Φ}(h:xh lo w own ρ tb T)(hs:zd M w w')(k:T3 w t M)(e:Ue t):xh lo w' own ρ tb T:=by
 obtain⟨g,a,j⟩:=h;refine⟨g,a.save hs λx f d=>?_,j⟩;obtain⟨c,i⟩:=k x d;obtain⟨m,l,q,b⟩:=a.typed x f;rw[q.type i] at b;exact b e
def wy(w:U)(own:Nat->zo)(ρ:zo)(tb:Nat)(T:zl)(x y z m:Nat)(h:xh lo w own ρ tb T)(a:okT T=true):
  Calls prog 163 #[(π tb),.agg #[ι x,ι y,ι z],ι m] w λe b=>e=ε (.i (yC T [x,y,z] m).2)/\xh lo b (ext own w.o.q ρ) ρ tb (yC T [x,y,z] m).1/\Tq lo (onT (·=ρ)) w own b (ext own w.o.q ρ):=by
 obtain⟨f,c,i⟩:=h;simp only[okT,uI,decide_eq_true_eq] at a;refine(J2 w tb T f x y z m c a.1 a.2).y ?_;rintro e b ⟨rfl,d,g⟩;exact⟨rfl,g.mod c i⟩
def Fq(w:U)(own:Nat->zo)(ρ:zo)(tb:Nat)(T:zl)(n:Nat)(rs:List zk)(h:xh lo w own ρ tb T)(a:rowsG n T=Z rs):
  Calls prog 78 #[(π tb)] w λe d=>∃v,e=.returned v/\Tx w.o.q d v rs/\μ w d:=by
 obtain⟨g,f,_⟩:=h;unfold rowsG at a;rcases c:mY n T with _|b;rw[c] at a;cases a;rw[c] at a;simp only at a;split at a;simp only[zt] at a;subst a;exact CF w tb T g f n b c (by assumption);cases a
def Tx.cell{u:Nat}{w:U}{v:O}{rs:List zk}(h:Tx u w v rs)(k:Nat)(d:k<rs.j):∃g f x y z,v=.k (Z (δ g)) rs.j f/\g<w.o.q/\rs[k]=[x,y,z]/\w.p (ω g (k*3))=Z (ι (x:Nat))/\w.p (ω g (k*3+1))=Z (ι (y:Nat))/\w.p (ω g (k*3+2))=Z (ι (z:Nat)):=by
 obtain⟨s,p⟩:=h;obtain⟨g,f,A,_,E,m⟩:=yq s η;obtain⟨x,y,z,e⟩:∃x y z,rs[k]=[x,y,z]:=by
  have:=p rs[k] (zq d);match n:rs[k],this with
  |[x,y,z],_=>exact⟨x,y,z,rfl⟩
 have j:∀(rs:List zk) (k:Nat) (d:k<rs.j),(∀r∈rs,r.j=3)->rs[k]=[x,y,z]->(jT rs)[k*3]?=Z (ι x)/\(jT rs)[k*3+1]?=Z (ι y)/\(jT rs)[k*3+2]?=Z (ι z):=by
  intro rs;induction rs with
  |nil=>intro k d;simp at d
  |cons r l F=>
   intro k d o i;match k,d,i with
   |0,_,i=>simp only[gQ] at i;subst i;simp[jT,TO]
   |k+1,d,i=>
    have C:=o r ζ;match G:r,C with
    |[a,b,c],_=>
     have:=F k (by simpa using d) (λq n=>o q (by simp[n])) (by simpa using i);simp only[jT,uX] at this ⊢;rw[show(k+1)*3=k*3+1+1+1 from by omega,show k*3+1+1+1+1=k*3+1+1+1+1 from rfl,show k*3+1+1+1+2=k*3+2+1+1+1 from by omega];simpa using this
 obtain⟨D,t,B⟩:=j rs k d p e;exact⟨g,f,x,y,z,A,E,e,m _ _ D,m _ _ t,m _ _ B⟩
structure jX where
 tv:O
 bb:Nat
 fb:Nat
 ab:Nat
def pt(b:Nat):Value:=(π b)
def gS(wd:Nat)(V:yO)(P:jX):List Value:=[ι V.lit.o,P.tv,ι wd,pt P.bb,pt P.fb,pt P.ab]
structure vY (lo:Nat) (w:U) (own:Nat->zo) (k i:Nat) (V:yO) (P:jX):Prop where
 v:yt lo w P.tv V.lit.v
 before:xh lo w own (k+1,i,0) P.bb V.before
 qw:xh lo w own (k+1,i,1) P.fb V.qw
 all:xh lo w own (k+1,i,2) P.ab V.all
def vY.mod{ok:TypeId->zo->Prop}{w w':U}{own own':Nat->zo}{k i:Nat}{V:yO}{P:jX}(h:vY lo w own k i V P)(p:Tq lo ok w own w' own')(a:∀j t,¬Ue t->¬ok t (k+1,i,j))(b:∀ρ,¬ok 284 ρ):vY lo w' own' k i V P:=
 ⟨h.v.mod p b,h.before.mod p (a 0),h.qw.mod p (a 1),h.all.mod p (a 2)⟩
def vY.u{w w':U}{own:Nat->zo}{k i:Nat}{V:yO}{P:jX}(h:vY lo w own k i V P)(a:μ w w'):vY lo w' own k i V P:=h.mod (Tq.of (ok:=λ_ _=>False) own a) (λ_ _ _=>id) (λ_=>id)
def vY.saveT{w w':U}{own:Nat->zo}{k i:Nat}{V:yO}{P:jX}{t:TypeId}{M:Φ}(h:vY lo w own k i V P)(hs:zd M w w')(a:T3 w t M)(b:Ue t)(c:284≠t):vY lo w' own k i V P:=⟨h.v.saveT hs a c,h.before.saveT hs a b,h.qw.saveT hs a b,h.all.saveT hs a b⟩
def Pa(lo:Nat)(w:U)(own:Nat->zo)(k i wd:Nat)(tv:O)(l:zw)(e:Ending)(w':U):Prop:=∃P a,P.tv=tv/\e=ε (.agg (gS wd (gF wd l) P).F)/\vY lo w' a k i (gF wd l) P/\(∀b,b<w.o.q->a b=own b)/\μ w w'
def Fk(l:zw):xe l<=5:=by
 unfold xe;have:=tV (p:=zK l) (l:=List.range 5);simpa using this
def Nv(w:U)(own:Nat->zo)(k i:Nat)(l:zw)(tv:O)(wd:Nat)(h:yt lo w tv l.v)(hl:lo<=w.o.q)(aD:wd<=1000):
  Calls prog 204 #[.agg #[ι l.o,tv],ι wd] w λe w'=>Pa lo w own k i wd tv l e w':=by
 obtain⟨B,c,rfl⟩:=h.qy;have HD:X (∀W,μ w W->Calls prog 212 #[.agg #[ι l.o,.k B l.v.j c]] W λe w'=>e=ε (ι (xe l:Nat))/\μ W w'):=λW hW=>Gb W _ l.o l.v (h.u hW);have HT:=Th h;have a3:X (gF wd l=⟨l,xk wd (xe l),xk wd (xe l),xk wd (xe l)⟩):=rfl;have a9:=Fk l;have HN:=Th λW=>AM W wd (xe l) aD η;have HL:=Th hl;clear h hl a9;have V:=Ti.new ((w.C (.E #[ι l.o,.k B l.v.j c] 204)).C (.E #[ι 0,ν,ι 0,.u Y,.u Y,.u Y] 301)) #[ι l.o,.k B l.v.j c,ι wd,.u Y,.u Y,.u Y] 301;have a:=(Ti.new (w.C (.E #[ι l.o,.k B l.v.j c] 204)) #[ι 0,ν,ι 0,.u Y,.u Y,.u Y] 301).u ((zn _ _).C (zf _) (.E #[ι l.o,.k B l.v.j c,ι wd,.u Y,.u Y,.u Y] 301));simp only[U.size_alloc] at V a;generalize xe l=dl at *;go_enter func204,ntmps204;go_upto_region 3 with (first|(go_at_call 212;refine(HD.l _ γ).y ?_;rintro e w1 ⟨rfl,F⟩;have E:μ w w1:=(zT γ F (zf _));have aa:=V.u F;have ay:=a.u F))
 clear V a F;have a7:lo<=w1.o.q:=by have:=HL.l;have:=E.q;omega
 obtain⟨r,p,s⟩:=aa.e;have aP:=E.q;have av:X (yt lo w1 _ l.v):=HT.l.u E;go_upto_region 4 with (first|(go_at_call 119;refine(HN.l _).y ?_;rintro e N ⟨f,aM,rfl,ai,t⟩;have y:=aa.u t;have ag:=ay.u t;obtain⟨ax,ae,al⟩:=y.e))
 have T:=(yb.new own (k+1,i,0) ai a7).set y θ 3 (pt f);have S:zd [w.o.q+1+1] N (N.x (ω (w.o.q+1+1) 3) (pt f)):=zd.set _ _ _ _;have Q:X (yt lo _ _ l.v):=(av.l.u t).saveT S (T3.box y) θ;have D:Ti (N.x (ω (w.o.q+1+1) 3) (pt f)) (w.o.q+1+1) #[ι l.o,.k B l.v.j c,ι wd,(π f),.u Y,.u Y] 301:=by have q:=y.set 3 (pt f);simpa [pt] using q
 have I:=ag.set_ne (show w.o.q+1≠w.o.q+1+1 by omega) 3 (pt f);have M:μ w (N.x (ω (w.o.q+1+1) 3) (pt f)):=(Tl E t).x υ _;have aE:(N.x (ω (w.o.q+1+1) 3) (pt f)).o.q=N.o.q:=by simp[U.setCell]
 have a8:=t.q;generalize z:ext own w1.o.q (k+1,i,0)=m at *;have K:∀b,b<w.o.q->m b=own b:=λb hb=>by rw[←z];exact fC _ _ _ _ η
 have a0:pt f=(π f):=rfl;rw[a0] at T S Q D I M aE;generalize N.x (ω (w.o.q+1+1) 3) ((π f))=w3 at *;clear z ai t y ag ax ae al r p s aa ay av S a0;have a4:lo<=w3.o.q:=η;obtain⟨r,p,s⟩:=D.e;go_upto_region 5 with (first|(go_at_call 119;refine(HN.l _).y ?_;rintro e P ⟨n,aJ,rfl,ah,a⟩;have u:=D.u a;have ao:=I.u a;obtain⟨am,an,au⟩:=u.e))
 have aq:=(T.mod (Tq.extNew (ok:=λ_ _=>False) m (k+1,i,1) a) (λ_ _=>id)).set u θ 4 ((π n));have ac:=(yb.new m (k+1,i,1) ah a4).set u θ 4 ((π n));have ab:zd [w.o.q+1+1] P (P.x (ω (w.o.q+1+1) 4) ((π n))):=zd.set _ _ _ _;have ad:X (yt lo _ _ l.v):=(Q.l.u a).saveT ab (T3.box u) θ;have J:Ti (P.x (ω (w.o.q+1+1) 4) ((π n))) (w.o.q+1+1) #[ι l.o,.k B l.v.j c,ι wd,(π f),(π n),.u Y] 301:=by have q:=u.set 4 ((π n));simpa using q
 have ar:=ao.set_ne (show w.o.q+1≠w.o.q+1+1 by omega) 4 ((π n));have ap:μ w (P.x (ω (w.o.q+1+1) 4) ((π n))):=(Tl M a).x υ _;have aN:(P.x (ω (w.o.q+1+1) 4) ((π n))).o.q=P.o.q:=by simp[U.setCell]
 have aH:=a.q;generalize A:ext m w3.o.q (k+1,i,1)=d at *;have L:∀b,b<w.o.q->d b=own b:=λb hb=>by rw[←A,fC _ _ _ _ η];exact K b hb
 generalize P.x (ω (w.o.q+1+1) 4) ((π n))=w5 at *;clear A ah a u ao am an au r p s D I T Q ab M;have aI:lo<=w5.o.q:=η;obtain⟨r,p,s⟩:=J.e;go_upto_region 6 with (first|(go_at_call 119;refine(HN.l _).y ?_;rintro e w6 ⟨o,aK,rfl,ak,j⟩;have g:=J.u j;have aj:=ar.u j;obtain⟨af,aw,a2⟩:=g.e))
 have a6:=(aq.mod (Tq.extNew (ok:=λ_ _=>False) d (k+1,i,2) j) (λ_ _=>id)).set g θ 5 ((π o));have aG:=(ac.mod (Tq.extNew (ok:=λ_ _=>False) d (k+1,i,2) j) (λ_ _=>id)).set g θ 5 ((π o));have aA:=(yb.new d (k+1,i,2) ak aI).set g θ 5 ((π o));have az:zd [w.o.q+1+1] w6 (w6.x (ω (w.o.q+1+1) 5) ((π o))):=zd.set _ _ _ _;have a5:X (yt lo _ _ l.v):=(ad.l.u j).saveT az (T3.box g) θ;have aB:Ti (w6.x (ω (w.o.q+1+1) 5) ((π o))) (w.o.q+1+1) #[ι l.o,.k B l.v.j c,ι wd,(π f),(π n),(π o)] 301:=by have q:=g.set 5 ((π o));simpa using q
 have a1:=aj.set_ne (show w.o.q+1≠w.o.q+1+1 by omega) 5 ((π o));have aF:μ w (w6.x (ω (w.o.q+1+1) 5) ((π o))):=(Tl ap j).x υ _;generalize x:ext d w5.o.q (k+1,i,2)=H at *;have R:∀b,b<w.o.q->H b=own b:=λb hb=>by rw[←x,fC _ _ _ _ η];exact L b hb
 generalize w6.x (ω (w.o.q+1+1) 5) ((π o))=w7 at *;clear x ak j g aj af aw a2 r p s J ar aq ac ad az ap;obtain⟨r,p,s⟩:=aB.e;obtain⟨aC,aO,aL⟩:=a1.e;go_wp2
 (try simp only[Exit.inBlock,Exit.then])
 have C:zd [w.o.q+1] w7 ((((((w7.x (δ (w.o.q+1)) (ι l.o)).x (ω (w.o.q+1) 1) (.k B l.v.j c)).x (ω (w.o.q+1) 2) (ι wd)).x (ω (w.o.q+1) 3) ((π f))).x (ω (w.o.q+1) 4) ((π n))).x (ω (w.o.q+1) 5) ((π o))):=(((((zd.set _ _ _ _).A (zd.set _ _ _ _)).A (zd.set _ _ _ _)).A (zd.set _ _ _ _)).A (zd.set _ _ _ _)).A (zd.set _ _ _ _);have G:=T3.box a1;refine zP (v:=.agg #[ι l.o,.k B l.v.j c,ι wd,(π f),(π n),(π o)]) (by simp[results,results204,go_sem,aC]) rfl ⟨⟨.k B l.v.j c,f,n,o⟩,H,rfl,by rw[a3.l];rfl,?_,R,?_⟩;rw[a3.l];exact⟨a5.l.saveT C G θ,a6.saveT C G θ,aG.saveT C G θ,aA.saveT C G θ⟩;exact(((((aF.x ζ _).x ζ _).x ζ _).x ζ _).x ζ _).x ζ _
end
section
open Go.Proofs.Tryz
variable {lo:Nat}{r:zu}{tv sv bv:O}{hvs:List O}{ji:List Int}{d:Int}
def SW:(prog.info? 323).map (λi=>(i.zero,i.q,i.bytes))=Z (Z (.agg #[.u Y,ι 0,ι 0,ι 0]),4,32):=χ
def SB:(prog.info? 325).map (λi=>(i.zero,i.q,i.bytes))=Z (Z (.agg #[ι 0,ν,ι 0,.u Y]),4,48):=χ
def SP:(prog.info? 310).map (·.q)=Z 28:=χ
structure kc (lo:Nat) (w:U) (J:zE) (P:xI):Prop where
 g:yt lo w P.tv J.g.v
 ja:w.r lo 323 4 P.sv J.ja.j (yE (List.zipWith fI J.ja P.tbs))
 slen:P.tbs.j=J.ja.j
 tries:∀k (_:k<J.ja.j) (_:k<P.tbs.j),yb lo w P.tbs[k].1 J.ja[k].I P.tbs[k].2
 B:∀s∈J.ja,s.B.j=3
 bars:w.r lo 325 4 P.bv J.bars.j (yE (List.zipWith fa J.bars P.bps))
 blen:P.bps.j=J.bars.j
 jk:∀k (_:k<J.bars.j) (_:k<P.bps.j),yt lo w P.bps[k].1 J.bars[k].lit.v/\yb lo w P.bps[k].2.1 J.bars[k].I P.bps[k].2.2
 hlen:P.hvs.j=5/\J.jf.j=5
 jf:∀p (_:p<J.jf.j) (_:p<P.hvs.j),w.r lo 327 2 P.hvs[p] J.jf[p].j (kM J.jf[p])/\J.jf[p].j<=1000/\∀h∈J.jf[p],h.1<=1000000/\h.2<=1000000
 jl:J.ji.j=5/\J.P.j=5/\J.from.j=5
 K:J.ja.j<=1000/\J.bars.j<=1000/\J.m<=1000000
def kc.join{w:U}{a:Nat}{J:zE}{P:xI}(h:kc lo w J P)(b:lo<=a)(c:Ti w a (uM J P).F 310):T8 lo w a J P:=
 ⟨b,c,h.g,h.ja,h.slen,h.tries,h.B,h.bars,h.blen,h.jk,h.hlen,h.jf,h.jl,h.K⟩
def kc.u{w w':U}{J:zE}{P:xI}(h:kc lo w J P)(c:μ w w'):kc lo w' J P:=
 ⟨h.g.u c,zy h.ja c,h.slen,λk a b=>(h.tries k a b).u c,h.B,zy h.bars c,h.blen,λk a b=>⟨(h.jk k a b).1.u c,(h.jk k a b).2.u c⟩,h.hlen,λp a b=>⟨zy (h.jf p a b).1 c,(h.jf p a b).2⟩,h.jl,h.K⟩
def rZ(J:zE)(P:xI)(h:P.hvs.j=5)(a:J.ji.j=5/\J.P.j=5/\J.from.j=5):(uM J P).j=28:=by
 simp[uM,h,a.1,a.2.1,a.2.2]
def jc(r:zu)(tv sv bv:O)(hvs:List O)(ji:List Int)(d:Int):List Value:=
 [ι r.g.o,tv,ι r.m,sv,bv]++hvs++ji.map (O.int .i64)++[ι (xO r r.m)]++([0,0,0,0,0]:List Nat).map TO++([0,0,0,0,0]:List Nat).map TO++[ι d,ι 0]
def Kn(a:hvs.j=5)(k:Nat)(h:k<5)(u:O):(jc r tv sv bv hvs ji d).F.setIfInBounds (5+k) u=(jc r tv sv bv (hvs.set k u) ji d).F:=by
 obtain⟨e,b,c,g,f,rfl⟩:=five a;obtain rfl|rfl|rfl|rfl|rfl:k=0∨k=1∨k=2∨k=3∨k=4:=η
 all_goals simp[jc]
def Ju(a:hvs.j=5)(b:ji.j=5)(k:Nat)(m:k<5)(u:Int):(jc r tv sv bv hvs ji d).F.setIfInBounds (10+k) (ι u)=(jc r tv sv bv hvs (ji.set k u) d).F:=by
 obtain⟨i,c,e,l,h,rfl⟩:=five a;obtain⟨j,g,o,n,f,rfl⟩:=five b;obtain rfl|rfl|rfl|rfl|rfl:k=0∨k=1∨k=2∨k=3∨k=4:=η
 all_goals simp[jc]
def Lt(a:hvs.j=5)(b:ji.j=5)(u:Int):(jc r tv sv bv hvs ji d).F.setIfInBounds 26 (ι u)=(jc r tv sv bv hvs ji u).F:=by
 obtain⟨f,c,e,k,g,rfl⟩:=five a;obtain⟨i,h,m,l,j,rfl⟩:=five b;simp[jc]
def R8(u:O):(jc r tv sv bv hvs ji d).F.setIfInBounds 4 u=(jc r tv sv u hvs ji d).F:=by simp[jc]
def KA(a:hvs.j=5)(c:ji.j=5):(jc r tv sv bv hvs ji d).F[3]?=Z sv/\(jc r tv sv bv hvs ji d).F[4]?=Z bv/\(jc r tv sv bv hvs ji d).F[26]?=Z (ι d)/\(∀k,k<5->(jc r tv sv bv hvs ji d).F[5+k]?=Z (hvs.g k (.i false)))/\(∀k,k<5->(jc r tv sv bv hvs ji d).F[10+k]?=Z (ι (ji.g k 0))):=by
 obtain⟨g,e,f,m,h,rfl⟩:=five a;obtain⟨j,i,o,n,l,rfl⟩:=five c;refine⟨by simp[jc],by simp[jc],by simp[jc],λk b=>?_,λk b=>?_⟩
 all_goals
  obtain rfl|rfl|rfl|rfl|rfl:k=0∨k=1∨k=2∨k=3∨k=4:=η
  all_goals simp[jc]
def EK:∀(b:List V4) (k:Nat) (_:k<b.j) (u:O),(yE b).set (k*4) u=yE (b.modify k λy=>(u,y.2.1,y.2.2.1,y.2.2.2))
 |[],k,a,_=>by simp at a
 |y::r,0,_,u=>by simp[yE,li]
 |y::r,k+1,a,u=>by
  have:=EK r k (by simpa using a) u;simp only[yE,uX,li,List.modify_succ_cons] at this ⊢;rw[show(k+1)*4=k*4+1+1+1+1 from by omega];simpa using this
def PC(a:List V4)(y:V4):yE (a++[y])=yE a++[y.1,y.2.1,y.2.2.1,y.2.2.2]:=by simp[yE,li]
def Kp(e b a c:O):∀(n i:Nat),i<n*4->(madeCells #[e,b,a,c] (n*4))[i]?=(yE (List.replicate n (e,b,a,c)))[i]?:=by
 intro n i o;obtain⟨k,j,s,rfl⟩:∃k j,j<4/\i=k*4+j:=⟨i / 4,i%4,Nat.mod_lt _ θ,η⟩;have p:k<n:=η;obtain⟨g,f,l,h⟩:=ti (List.replicate n (e,b,a,c)) k (by simpa using p);simp only[eP] at g f l h;have m:(k*4+j)%4=j:=η;simp only[madeCells,Array.getElem?_map,Array.getElem?_range];rw[zb o];simp only[jL];have q:(#[e,b,a,c]:Array O).q=4:=rfl;rw[q,m];match j,s with
 |0,_=>rw[vu,g];rfl
 |1,_=>rw[f];rfl
 |2,_=>rw[l];rfl
 |3,_=>rw[h];rfl
def OY{W:U}{g n:Nat}{T:TypeId}{f c a e:O}(h:Ti W g (madeCells #[f,c,a,e] (n*4)) T)(k:lo<=g)(j:n<=maxLen):W.r lo T 4 (sl g n) n (yE (List.replicate n (f,c,a,e))):=by
 refine⟨by rw[eG];simp,ze ⟨g,n,madeCells #[f,c,a,e] (n*4),rfl,k,h,zf _,j,by rw[size_madeCells],?_⟩⟩;apply nI;intro i;by_cases b:i<n*4;rw[nf,zb b,Array.getElem?_toList,Kp _ _ _ _ n i b];rw[nf,za b,gi (by rw[eG];simp;omega)]
def Vi(b:Nat):Value:=(π b)
def Bt:V4:=(.u Y,ι 0,ι 0,ι 0)
def eT:List Value:=[ν,ν,ν,ν,ν]
def ek(w a:U)(r:zu)(tv:O)(n:Nat)(s:O):Prop:=∃b g,s=(π b)/\w.o.q<=b/\w.o.q<=g/\Ti a b (jc r tv (sl g n) (ν) eT [0,0,0,0,0] 0).F 310/\Ti a g (madeCells #[.u Y,ι 0,ι 0,ι 0] (n*4)) 323/\μ w a
end
section
variable {lo:Nat}{w0 w:U}{b6 jb:Nat}{r:zu}{tv sv bv:O}{hvs:List O}{ji:List Int}{d:Int}
def QD{l:zw}{p n:Nat}(h:xd l p=Z n):n<=p:=by
 unfold xd at h;split at h;simp only[zt] at h;have:=tV (p:=zK l) (l:=List.range p);simp at this;omega;cases h
def Qd(r:zu)(p:Nat)(g:r.qc.j<=1000)(k:p<=1000000):(xz r p).j<=1000/\∀h∈xz r p,h.1<=1000000/\h.2<=1000000:=by
 constructor;have:=tq (fG p) r.qc.zipIdx;rw[Hx];simp at this;omega;intro h c;rw[Hx,mM] at c;obtain⟨x,e,b⟩:=c;unfold fG at b;rcases a:xd x.1 p with _|j;rw[a] at b;cases b;rw[a] at b;simp only[jL,zt] at b;subst b;have f:=QD a;have i:=List.snd_lt_of_mem_zipIdx e;simp only;omega
structure ve (lo:Nat) (w0 w:U) (b6 jb:Nat) (r:zu) (tv sv bv:O) (hvs:List O) (ji:List Int) (d:Int):Prop where
 box:Ti w jb (jc r tv sv bv hvs ji d).F 310
 hlen:hvs.j=5
 blen:ji.j=5
 res:∃c,Ti w b6 c 310/\c.q=28
 u:μ w0 w
 ne:w0.o.q<=jb/\w0.o.q<=b6/\jb≠b6
def ve.next{w':U}(h:ve lo w0 w b6 jb r tv sv bv hvs ji d)(a:μ w w'):ve lo w0 w' b6 jb r tv sv bv hvs ji d:=by
 obtain⟨c,b,e⟩:=h.res;exact⟨h.box.u a,h.hlen,h.blen,⟨c,b.u a,e⟩,Tl h.u a,h.ne⟩
def ve.hold(h:ve lo w0 w b6 jb r tv sv bv hvs ji d)(k:Nat)(a:k<5)(u:O):ve lo w0 (w.x (ω jb (5+k)) u) b6 jb r tv sv bv (hvs.set k u) ji d:=by
 obtain⟨c,b,e⟩:=h.res;refine⟨?_,by simpa using h.hlen,h.blen,⟨c,b.set_ne (Ne.symm h.ne.2.2) _ _,e⟩,h.u.x h.ne.1 _,h.ne⟩;have:=h.box.set (5+k) u;rw[Kn h.hlen k a] at this;exact this
def ve.back(h:ve lo w0 w b6 jb r tv sv bv hvs ji d)(k:Nat)(a:k<5)(u:Int):ve lo w0 (w.x (ω jb (10+k)) (ι u)) b6 jb r tv sv bv hvs (ji.set k u) d:=by
 obtain⟨c,b,e⟩:=h.res;refine⟨?_,h.hlen,by simpa using h.blen,⟨c,b.set_ne (Ne.symm h.ne.2.2) _ _,e⟩,h.u.x h.ne.1 _,h.ne⟩;have:=h.box.set (10+k) (ι u);rw[Ju h.hlen h.blen k a] at this;exact this
def ve.ql(h:ve lo w0 w b6 jb r tv sv bv hvs ji d)(u:Int):ve lo w0 (w.x (ω jb 26) (ι u)) b6 jb r tv sv bv hvs ji u:=by
 obtain⟨c,a,b⟩:=h.res;refine⟨?_,h.hlen,h.blen,⟨c,a.set_ne (Ne.symm h.ne.2.2) _ _,b⟩,h.u.x h.ne.1 _,h.ne⟩;have:=h.box.set 26 (ι u);rw[Lt h.hlen h.blen] at this;exact this
def ve.bars(h:ve lo w0 w b6 jb r tv sv bv hvs ji d)(u:O):ve lo w0 (w.x (ω jb 4) u) b6 jb r tv sv u hvs ji d:=by
 obtain⟨c,a,b⟩:=h.res;refine⟨?_,h.hlen,h.blen,⟨c,a.set_ne (Ne.symm h.ne.2.2) _ _,b⟩,h.u.x h.ne.1 _,h.ne⟩;have:=h.box.set 4 u;rw[R8] at this;exact this
def ve.save{w0 w w':U}{b6 jb:Nat}{r:zu}{tv sv bv:O}{hvs:Γ}{ji:List Int}{d:Int}{M:Φ}(h:ve lo w0 w b6 jb r tv sv bv hvs ji d)(hs:zd M w w')(f:∀b∈M,w0.o.q<=b)(a:jb∉M/\b6∉M):ve lo w0 w' b6 jb r tv sv bv hvs ji d:=by
 obtain⟨c,e,g⟩:=h.res;exact⟨h.box.save hs a.1,h.hlen,h.blen,⟨c,e.save hs a.2,g⟩,h.u.A (hs.u f h.u.q),h.ne⟩
def jj(T2:List (Nat×List Nat))(n k:Nat):List V4:=(T2.G k).map (λx=>(Vi x.1,ι 0,ι 0,ι 0))++List.replicate (n-k) Bt
structure lB (b0 lo:Nat) (w:U) (v:O) (ts:List zl) (T2:List (Nat×List Nat)):Prop where
 own:w.r b0 162 1 v ts.j (T2.map λx=>Vi x.1)
 len:T2.j=ts.j
 tries:∀k (_:k<ts.j) (_:k<T2.j),yb lo w T2[k].1 ts[k] T2[k].2
 K:ts.j<=1000
def lB.u{e:Nat}{w w':U}{v:O}{ts:List zl}{T2:List (Nat×Φ)}(h:lB e lo w v ts T2)(c:μ w w'):lB e lo w' v ts T2:=⟨zy h.own c,h.len,λk a b=>(h.tries k a b).u c,h.K⟩
def lB.cell{c:Nat}{w:U}{v:O}{ts:List zl}{T2:List (Nat×Φ)}(h:lB c lo w v ts T2)(k:Nat)(j:k<ts.j)(b:k<T2.j):∃g a,v=.k (Z (δ g)) ts.j a/\g<w.o.q/\w.p (ω g k)=Z (.u (Z (δ T2[k].1))):=by
 obtain⟨g,a,e,_,i,f⟩:=yq h.own η;exact⟨g,a,e,i,f k _ (by simp[b,Vi])⟩
def ku(r:zu)(k:Nat):List Int:=(List.range 5).map λp=>if p<k then xO r (p:Nat) else 0
def Qu(r:zu)(k:Nat)(a:k<5):(ku r k).set k (xO r (k:Nat))=ku r (k+1):=by
 obtain rfl|rfl|rfl|rfl|rfl:k=0∨k=1∨k=2∨k=3∨k=4:=η
 all_goals rfl
def vI(r:zu)(qc qx:List zl)(d:Int):zE:={g:=r.g,m:=r.m,ja:=qc.map (λT=>⟨T,[0,0,0]⟩),bars:=(r.qx.zip qx).map (λx=>⟨x.1,vm x.1,x.2⟩),jf:=(List.range 5).map (xz r),ji:=(List.range 5).map (λp=>xO r (p:Nat)),last:=xO r r.m,P:=[0,0,0,0,0],«from»:=[0,0,0,0,0],ql:=d,jg:=0}
def kZ(qc:List zl):Int:=if qc.any (λT=>T.count == 0) then -1 else 0
def NY(r:zu)(qc qx:List zl):xK r qc qx=if vi (vI r qc qx (kZ qc)) 0 then vI r qc qx (-1) else vI r qc qx (kZ qc):=rfl
end
end Go.Proofs.YteampbddflhngaaGreat
