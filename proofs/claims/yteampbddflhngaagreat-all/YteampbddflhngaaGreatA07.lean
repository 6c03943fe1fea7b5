import Derived.Laws.Tables
import Derived.Laws.Rows
import Derived.Test.YteampbddflhngaaGreatA02
namespace Go.Proofs.YteampbddflhngaaGreat
open List renaming length→List.j,getD→List.d,take→List.G,toArray→List.F,foldl→List.H,getD_eq_getElem?_getD→g_,zipWith→h_,replicate→i_,modify_succ_cons→l_,range→o_,getElem_zipWith→q_
open _root_.Array renaming size→Array.q,getD→Array.d,foldl→Array.H
open _root_.ByteArray renaming size→ByteArray.q,empty→m_
open Go.RowKit.Below renaming size→Go.RowKit.Below.q,setCell→Go.RowKit.Below.x,mono→Go.RowKit.Below.y,trans→Go.RowKit.Below.A,alloc→Go.RowKit.Below.C
open Go.TypeInfo renaming size→Go.TypeInfo.q
open Go.RowKit.Hid renaming out→Go.RowKit.Hid.l
open Go.Shut renaming out→Go.Shut.l
open Go.World renaming heap→Go.World.o,setCell→Go.World.x,cell?→Go.World.p,alloc→Go.World.C,ownsRow→Go.World.r,size_alloc→k_
open Go.Value renaming slice→Go.Value.k,string→Go.Value.g,bool→Go.Value.i,cells→Go.Value.E,ownBlock→Go.Value.m,pointer→Go.Value.u,tuple→Go.Value.B
open Go.TypeDesc renaming slice→Go.TypeDesc.k,string→Go.TypeDesc.g,bool→Go.TypeDesc.i,pointer→Go.TypeDesc.u,tuple→Go.TypeDesc.B
open Option renaming getD→Option.d,isSome→Option.I,some→Z,none→Y
open Go.Calls renaming mono→Go.Calls.y
open Eq renaming trans→Eq.A
open Iff renaming trans→Iff.A
open Go.Obj renaming cells→Go.Obj.E
open Int renaming toNat→Int.D
open UInt8 renaming toNat→UInt8.D
open Go.Value.slice renaming injEq→j_
open Ne renaming symm→n_
open Go.Exit renaming inBlock→p_
open Go.RowKit renaming Hid→X,intOf→d_
open Go renaming World→U,Value→O,Calls→c_,TypeId→f_
open Go.Proofs.Tryz renaming prog→e_
set_option linter.all false
set_option maxRecDepth 100000
set_option maxHeartbeats 8000000
open Go.RowKit
section
open Go.Proofs.Tryz
variable {lo:Nat}
def Eh(a b:Nat):((a:Int) == (b:Int))=(a == b):=by
 by_cases h:a=b;subst h;rw[beq_self_eq_true,beq_self_eq_true];rw[beq_eq_false_iff_ne.2 (by omega:(a:Int)≠(b:Int)),beq_eq_false_iff_ne.2 h]
def pV(t:yo):Value:=.agg #[.i t.var,ι t.D,ι t.w]
def Wu(x y z:Nat):Value:=.agg #[ι x,ι y,ι z]
def tW(a b c d e:Nat):Value:=.agg #[ι a,ι b,ι c,ι d,ι e]
def BO(w:U)(t:yo)(a b c d e:Nat):
  c_ e_ 188 #[pV t,tW a b c d e] w λr j=>r=ε (ι (VQ t [a,b,c,d,e]:Nat))/\μ w j:=by
 obtain⟨i,n,g⟩:=t;unfold pV tW;simp only;cases i
 .have f:X (VQ ⟨false,n,g⟩ [a,b,c,d,e]=n):=rfl;go_enter func188,ntmps188;go_wp2;go_ret;exact⟨by rw[f.l];rfl,γ⟩
 by_cases h:n<5
 .have f:X (VQ ⟨true,n,g⟩ [a,b,c,d,e]=[a,b,c,d,e].d n 0):=by simp[X,VQ,h]
  obtain rfl|rfl|rfl|rfl|rfl:n=0∨n=1∨n=2∨n=3∨n=4:=η
  all_goals
   go_enter func188,ntmps188;go_wp2;go_ret;exact⟨by rw[f.l];rfl,γ⟩
 have f:X (VQ ⟨true,n,g⟩ [a,b,c,d,e]=n):=by simp[X,VQ,h]
 go_enter func188,ntmps188;go_wp2;go_ret;exact⟨by rw[f.l];rfl,γ⟩
def iY(w:U)(t:yo):
  c_ e_ 218 #[pV t] w λr e=>r=ε (.i (leveled t))/\μ w e:=by
 obtain⟨d,n,b⟩:=t;unfold pV;simp only;cases d
 .have a:X (leveled ⟨false,n,b⟩=false):=rfl;go_enter func218,ntmps218;go_wp2;go_ret;exact⟨by rw[a.l];rfl,γ⟩
 by_cases c:b<3
 .have a:X (leveled ⟨true,n,b⟩=true):=by simp[X,leveled,c]
  go_enter func218,ntmps218;go_wp2;go_ret;exact⟨by rw[a.l];simp;omega,γ⟩
 have a:X (leveled ⟨true,n,b⟩=false):=by simp[X,leveled,c]
 go_enter func218,ntmps218;go_wp2;go_ret;exact⟨by rw[a.l];simp;omega,γ⟩
def BA(w:U)(t:yo)(v x y z:Nat):
  c_ e_ 219 #[pV t,ι v,Wu x y z] w λr s=>r=ε (.i (kf t v [x,y,z]))/\μ w s:=by
 have f:=U2 λW=>iY W t;have i:X (kf t v [x,y,z]=if leveled t then [x,y,z].d t.w 0 == v else t.D == v):=rfl;have d:leveled t=true->t.w<3:=by simp[leveled]
 generalize leveled t=m at *;obtain⟨h,n,e⟩:=t;unfold pV at f ⊢;unfold Wu;simp only at f d i ⊢;cases m
 .go_enter func219,ntmps219;go_wp2_with (go_at_call 218;refine(f.l _).y ?_;rintro r g ⟨rfl,a⟩;have b:μ w g:=zJ γ a (ze _);have c:=((U3.new w #[.i h,ι n,ι e] 284).u ((zn _ _).C (ze _) (.E #[ι x,ι y,ι z] 165))).u a;obtain⟨o,l,q⟩:=c.I)
  go_ret;exact⟨by rw[i.l];simp[Eh],b⟩
 have p:=d rfl;obtain rfl|rfl|rfl:e=0∨e=1∨e=2:=η
 all_goals
  go_enter func219,ntmps219;go_wp2_with (go_at_call 218;refine(f.l _).y ?_;rintro r g ⟨rfl,a⟩;have b:μ w g:=zJ γ a (ze _);have c:=((U3.new w #[.i h,ι n,ι _] 284).u ((zn _ _).C (ze _) (.E #[ι x,ι y,ι z] 165))).u a;obtain⟨o,l,q⟩:=c.I;have j:=(U3.newAt (w.C (.E #[.i h,ι n,ι _] 284)) (w.o.q+1) #[ι x,ι y,ι z] 165 ζ).u a;obtain⟨u,A,k⟩:=j.I)
  go_ret;exact⟨by rw[i.l];simp[Eh],b⟩
def nV(l:zx)(vals:List Nat):Nat->Array O
 |0=>#[ι 0,ι 0,ι 0]
 |1=>#[ι ((U5 l vals 0:Nat):Int),ι 0,ι 0]
 |2=>#[ι ((U5 l vals 0:Nat):Int),ι ((U5 l vals 1:Nat):Int),ι 0]
 |_=>#[ι ((U5 l vals 0:Nat):Int),ι ((U5 l vals 1:Nat):Int),ι ((U5 l vals 2:Nat):Int)]
def Bb(w:U)(v:O)(o:Nat)(ts:List yo)(a b c d e:Nat)(h:yx lo w v ts):
  c_ e_ 161 #[.agg #[ι o,v],tW a b c d e] w λr w'=>r=ε (.agg #[ι ((U5 ⟨o,ts⟩ [a,b,c,d,e] 0:Nat):Int),ι ((U5 ⟨o,ts⟩ [a,b,c,d,e] 1:Nat):Int),ι ((U5 ⟨o,ts⟩ [a,b,c,d,e] 2:Nat):Int)])/\μ w w':=by
 obtain⟨ao,ag,rfl⟩:=h.qm;have hl:=h.len;unfold tW;go_enter func161,ntmps161;go_wp2;go_loopw [7] (λv7 wr=>∃k:Nat,k<=3/\v7=ι k/\U3 wr w.o.q #[ι o,.k ao ts.j ag] 204/\U3 wr (w.o.q+1) #[ι a,ι b,ι c,ι d,ι e] 262/\U3 wr (w.o.q+2) #[ι 0,ι 0,ι 0] 165/\U3 wr (w.o.q+3) (nV ⟨o,ts⟩ [a,b,c,d,e] k) 165/\μ w wr) (λi _=>3-(d_ i).toNat);exact⟨0,η,rfl,(((U3.new w _ _).u zQ).u zQ).u zQ,((U3.newAt _ _ _ _ ζ).u zQ).u zQ,(U3.newAt _ _ _ _ ζ).u zQ,U3.newAt _ _ _ _ ζ,γ⟩;obtain⟨k,hk,rfl,z,B,A,F,m⟩:=hrel;obtain⟨aq,am,an⟩:=z.I;obtain⟨al,ap,aj⟩:=B.I;have ah:=m.q;match k,hk with
 |0,_=>
  have f:U3 wr (w.o.q+3) #[ι 0,ι 0,ι 0] 165:=F;obtain⟨ad,ab,ac⟩:=f.I;by_cases s:0<ts.j
  .obtain⟨g,E,L,S,Q,h2⟩:=h.cell 0 s;subst E;have M:=zi m L S;have H:=zi m L Q;have P:=zi m L h2;simp only[Nat.reduceMul,Nat.reduceAdd] at M H P;have ae:g<wr.o.q:=η;have C:X (U5 ⟨o,ts⟩ [a,b,c,d,e] 0=VQ ts[0] [a,b,c,d,e]):=by simp[X,U5,s,g_]
   have y:X (∀W,c_ e_ 188 #[.agg #[.i ts[0].var,ι (ts[0].D:Nat),ι (ts[0].w:Nat)],.agg #[ι a,ι b,ι c,ι d,ι e]] W λr w'=>r=ε (ι ((U5 ⟨o,ts⟩ [a,b,c,d,e] 0:Nat):Int))/\μ W w'):=λW=>by rw[C.l];exact BO W ts[0] a b c d e
   clear S Q h2 C;generalize ts[0]=t at *;obtain⟨x,u⟩:∃x,x=U5 ⟨o,ts⟩ [a,b,c,d,e] 0:=⟨_,rfl⟩;rw[←u] at y;have K:=U2 u.symm;clear u;go_wp2;go_region_with (go_at_call 188;refine(y.l _).y ?_;rintro r w2 ⟨rfl,G⟩;have l:μ wr w2:=(zJ γ G (ze _));have j:=f.u l;obtain⟨T,R,aa⟩:=j.I)
   all_goals
    have n:=j.set 0 (ι x);simp at n;have J:=(z.u l).set_ne (show w.o.q≠w.o.q+3 from by omega) 0 (ι x);have N:=(B.u l).set_ne (show w.o.q+1≠w.o.q+3 from by omega) 0 (ι x);have I:=(A.u l).set_ne (show w.o.q+2≠w.o.q+3 from by omega) 0 (ι x);have D:=(U6 m l).x (p:=(δ (w.o.q+3))) ζ (ι x);go_wp2;go_roundw;exact⟨1,η,rfl,J,N,I,(by simp only[nV,K.l];exact n),D⟩;simp[d_]
  have C:X (U5 ⟨o,ts⟩ [a,b,c,d,e] 0=0):=by simp[X,U5,s]
  have V:ts.j<=0:=η;go_wp2;go_roundw;exact⟨1,η,rfl,z,B,A,(by have q:=f;simp only[nV,C.l];exact q),m⟩;simp[d_]
 |1,_=>
  have f:U3 wr (w.o.q+3) #[ι ((U5 ⟨o,ts⟩ [a,b,c,d,e] 0:Nat):Int),ι 0,ι 0] 165:=F;obtain⟨ad,ab,ac⟩:=f.I;by_cases s:1<ts.j
  .obtain⟨g,E,L,S,Q,h2⟩:=h.cell 1 s;subst E;have M:=zi m L S;have H:=zi m L Q;have P:=zi m L h2;simp only[Nat.reduceMul,Nat.reduceAdd] at M H P;have ae:g<wr.o.q:=η;have C:X (U5 ⟨o,ts⟩ [a,b,c,d,e] 1=VQ ts[1] [a,b,c,d,e]):=by simp[X,U5,s,g_]
   have y:X (∀W,c_ e_ 188 #[.agg #[.i ts[1].var,ι (ts[1].D:Nat),ι (ts[1].w:Nat)],.agg #[ι a,ι b,ι c,ι d,ι e]] W λr w'=>r=ε (ι ((U5 ⟨o,ts⟩ [a,b,c,d,e] 1:Nat):Int))/\μ W w'):=λW=>by rw[C.l];exact BO W ts[1] a b c d e
   clear S Q h2 C;generalize ts[1]=t at *;obtain⟨x,u⟩:∃x,x=U5 ⟨o,ts⟩ [a,b,c,d,e] 1:=⟨_,rfl⟩;rw[←u] at y;have K:=U2 u.symm;clear u;go_wp2;go_region_with (go_at_call 188;refine(y.l _).y ?_;rintro r w2 ⟨rfl,G⟩;have l:μ wr w2:=(zJ γ G (ze _));have j:=f.u l;obtain⟨T,R,aa⟩:=j.I)
   all_goals
    have n:=j.set 1 (ι x);simp at n;have J:=(z.u l).set_ne (show w.o.q≠w.o.q+3 from by omega) 1 (ι x);have N:=(B.u l).set_ne (show w.o.q+1≠w.o.q+3 from by omega) 1 (ι x);have I:=(A.u l).set_ne (show w.o.q+2≠w.o.q+3 from by omega) 1 (ι x);have D:=(U6 m l).x (p:=(ω (w.o.q+3) 1)) ζ (ι x);go_wp2;go_roundw;exact⟨2,η,rfl,J,N,I,(by simp only[nV,K.l];exact n),D⟩;simp[d_]
  have C:X (U5 ⟨o,ts⟩ [a,b,c,d,e] 1=0):=by simp[X,U5,s]
  have V:ts.j<=1:=η;go_wp2;go_roundw;exact⟨2,η,rfl,z,B,A,(by have q:=f;simp only[nV,C.l];exact q),m⟩;simp[d_]
 |2,_=>
  have f:U3 wr (w.o.q+3) #[ι ((U5 ⟨o,ts⟩ [a,b,c,d,e] 0:Nat):Int),ι ((U5 ⟨o,ts⟩ [a,b,c,d,e] 1:Nat):Int),ι 0] 165:=F;obtain⟨ad,ab,ac⟩:=f.I;by_cases s:2<ts.j
  .obtain⟨g,E,L,S,Q,h2⟩:=h.cell 2 s;subst E;have M:=zi m L S;have H:=zi m L Q;have P:=zi m L h2;simp only[Nat.reduceMul,Nat.reduceAdd] at M H P;have ae:g<wr.o.q:=η;have C:X (U5 ⟨o,ts⟩ [a,b,c,d,e] 2=VQ ts[2] [a,b,c,d,e]):=by simp[X,U5,s,g_]
   have y:X (∀W,c_ e_ 188 #[.agg #[.i ts[2].var,ι (ts[2].D:Nat),ι (ts[2].w:Nat)],.agg #[ι a,ι b,ι c,ι d,ι e]] W λr w'=>r=ε (ι ((U5 ⟨o,ts⟩ [a,b,c,d,e] 2:Nat):Int))/\μ W w'):=λW=>by rw[C.l];exact BO W ts[2] a b c d e
   clear S Q h2 C;generalize ts[2]=t at *;obtain⟨x,u⟩:∃x,x=U5 ⟨o,ts⟩ [a,b,c,d,e] 2:=⟨_,rfl⟩;rw[←u] at y;have K:=U2 u.symm;clear u;go_wp2;go_region_with (go_at_call 188;refine(y.l _).y ?_;rintro r w2 ⟨rfl,G⟩;have l:μ wr w2:=(zJ γ G (ze _));have j:=f.u l;obtain⟨T,R,aa⟩:=j.I)
   all_goals
    have n:=j.set 2 (ι x);simp at n;have J:=(z.u l).set_ne (show w.o.q≠w.o.q+3 from by omega) 2 (ι x);have N:=(B.u l).set_ne (show w.o.q+1≠w.o.q+3 from by omega) 2 (ι x);have I:=(A.u l).set_ne (show w.o.q+2≠w.o.q+3 from by omega) 2 (ι x);have D:=(U6 m l).x (p:=(ω (w.o.q+3) 2)) ζ (ι x);go_wp2;go_roundw;exact⟨3,η,rfl,J,N,I,(by simp only[nV,K.l];exact n),D⟩;simp[d_]
  have C:X (U5 ⟨o,ts⟩ [a,b,c,d,e] 2=0):=by simp[X,U5,s]
  have V:ts.j<=2:=η;go_wp2;go_roundw;exact⟨3,η,rfl,z,B,A,(by have q:=f;simp only[nV,C.l];exact q),m⟩;simp[d_]
 |3,_=>
  simp only[nV] at F;obtain⟨ad,ab,ac⟩:=F.I;obtain⟨af,ak,ai⟩:=A.I;go_wp2;exact zP (v:=.agg #[ι ((U5 ⟨o,ts⟩ [a,b,c,d,e] 0:Nat):Int),ι ((U5 ⟨o,ts⟩ [a,b,c,d,e] 1:Nat):Int),ι ((U5 ⟨o,ts⟩ [a,b,c,d,e] 2:Nat):Int)]) (by simp[results,results161,go_sem,af]) rfl ⟨rfl,((m.x (p:=(δ (w.o.q+2))) ζ _).x (p:=(ω (w.o.q+2) 1)) ζ _).x (p:=(ω (w.o.q+2) 2)) ζ _⟩
def vT(l:zx)(row:zl):Nat->zl
 |0=>[0,0,0]
 |k+1=>j7 l row (vT l row k) k
def Sl{l:zx}{row f:zl}(a:uP l row=f):ua l row=if (xI l row f 0&&xI l row f 1&&xI l row f 2)=true then Z f else none:=by unfold ua;rw[a]
def M5(l:zx)(row:zl):uP l row=vT l row 3:=rfl
def St(w:U)(v:O)(B:Nat)(ts:List yo)(f j r2:Nat)(h:yx lo w v ts):
  c_ e_ 213 #[.agg #[ι B,v],Wu f j r2] w λr E=>(∃x y z:Nat,r=ε (.B #[Wu x y z,.i (ua ⟨B,ts⟩ [f,j,r2]).I])/\[x,y,z]=(ua ⟨B,ts⟩ [f,j,r2]).d [0,0,0])/\μ w E:=by
 obtain⟨ao,aj,rfl⟩:=h.qm;have hl:=h.len;have aH:=TU (ι f) (ι j) (ι r2);have aE:=Ub (ι f) (ι j) (ι r2);have aF:=Uj (ι f) (ι j) (ι r2);unfold Wu;go_enter func213,ntmps213;go_wp2;go_loopw [12] (λaA wr=>∃k x y z:Nat,k<=3/\aA=ι k/\U3 wr w.o.q #[ι B,.k ao ts.j aj] 204/\U3 wr (w.o.q+1) #[ι f,ι j,ι r2] 165/\U3 wr (w.o.q+2) #[ι 0,ι 0,ι 0] 165/\U3 wr (w.o.q+3) #[ι (x:Nat),ι (y:Nat),ι (z:Nat)] 165/\X (vT ⟨B,ts⟩ [f,j,r2] k=[x,y,z])/\μ w wr) (λi _=>3-(d_ i).D);exact⟨0,0,0,0,η,rfl,(((U3.new w _ _).u zQ).u zQ).u zQ,((U3.newAt _ _ _ _ ζ).u zQ).u zQ,(U3.newAt _ _ _ _ ζ).u zQ,U3.newAt _ _ _ _ ζ,rfl,γ⟩;obtain⟨k,x,y,z,hk,rfl,m,s,q,o,T,b⟩:=hrel;obtain⟨a0,a7,ay⟩:=m.I;obtain⟨a5,a9,a8⟩:=s.I;obtain⟨a4,a3,a1⟩:=o.I;have ar:=b.q;match k,hk with
 |0,_=>
  by_cases C:0<ts.j
  .have n:X (vT ⟨B,ts⟩ [f,j,r2] 1=if leveled ts[0]=true then [x,y,z].set ts[0].w f else [x,y,z]):=by
    rw[X,vT,T.l];simp[j7,C,g_]
   obtain⟨g,R,Q,h0,V,h2⟩:=h.cell 0 C;subst R;have L:=zi b Q h0;have N:=zi b Q V;have G:=zi b Q h2;simp only[Nat.reduceMul,Nat.reduceAdd] at L N G;have D:g<wr.o.q:=η;have ai:X (∀W,c_ e_ 218 #[.agg #[.i ts[0].var,ι (ts[0].D:Nat),ι (ts[0].w:Nat)]] W λr E=>r=ε (.i (leveled ts[0]))/\μ W E):=λW=>iY W ts[0];have P:leveled ts[0]=true->ts[0].w<3:=by simp[leveled]
   clear h0 V h2;generalize ts[0]=t at *;generalize leveled t=lb at *;cases lb
   .simp only[fh,if_false] at n;go_wp2_with (go_at_call 218;refine(ai.l _).y ?_;rintro r w2 ⟨rfl,c⟩)
    go_roundw;exact⟨1,x,y,z,η,rfl,m.u c,s.u c,q.u c,o.u c,n,U6 b c⟩;simp[d_]
   simp only[if_true] at n;have a6:=P rfl;clear P;generalize ak:t.w=lv at *;clear ak;go_wp2_with (go_at_call 218;refine(ai.l _).y ?_;rintro r w2 ⟨rfl,c⟩;have a:=c;have A:=m.u c;obtain⟨aa,ag,ae⟩:=A.I;have al:=zi c D G;have u:=o.u c;obtain⟨ah,ad,ac⟩:=u.I;have aq:=(yh D c.q);obtain rfl|rfl|rfl:lv=0∨lv=1∨lv=2:=η)
   .have I:X (vT ⟨B,ts⟩ [f,j,r2] 1=[f,y,z]):=by rw[X,n.l];rfl
    have d:=(o.u a).set 0 (ι f);simp at d;have J:=(m.u a).set_ne (show w.o.q≠w.o.q+3 from by omega) 0 (ι f);have K:=(s.u a).set_ne (show w.o.q+1≠w.o.q+3 from by omega) 0 (ι f);have F:=(q.u a).set_ne (show w.o.q+2≠w.o.q+3 from by omega) 0 (ι f);have H:=(U6 b a).x (p:=⟨w.o.q+3,0,Y⟩) ζ (ι f);go_wp2;go_roundw;exact⟨1,f,y,z,η,rfl,J,K,F,d,I,H⟩;simp[d_]
   .have I:X (vT ⟨B,ts⟩ [f,j,r2] 1=[x,f,z]):=by rw[X,n.l];rfl
    have d:=(o.u a).set 1 (ι f);simp at d;have J:=(m.u a).set_ne (show w.o.q≠w.o.q+3 from by omega) 1 (ι f);have K:=(s.u a).set_ne (show w.o.q+1≠w.o.q+3 from by omega) 1 (ι f);have F:=(q.u a).set_ne (show w.o.q+2≠w.o.q+3 from by omega) 1 (ι f);have H:=(U6 b a).x (p:=⟨w.o.q+3,1,Y⟩) ζ (ι f);go_wp2;go_roundw;exact⟨1,x,f,z,η,rfl,J,K,F,d,I,H⟩;simp[d_]
   have I:X (vT ⟨B,ts⟩ [f,j,r2] 1=[x,y,f]):=by rw[X,n.l];rfl
   have d:=(o.u a).set 2 (ι f);simp at d;have J:=(m.u a).set_ne (show w.o.q≠w.o.q+3 from by omega) 2 (ι f);have K:=(s.u a).set_ne (show w.o.q+1≠w.o.q+3 from by omega) 2 (ι f);have F:=(q.u a).set_ne (show w.o.q+2≠w.o.q+3 from by omega) 2 (ι f);have H:=(U6 b a).x (p:=⟨w.o.q+3,2,Y⟩) ζ (ι f);go_wp2;go_roundw;exact⟨1,x,y,f,η,rfl,J,K,F,d,I,H⟩;simp[d_]
  have n:X (vT ⟨B,ts⟩ [f,j,r2] 1=[x,y,z]):=by
   rw[X,vT,T.l];simp[j7,C]
  have av:ts.j<=0:=η;go_wp2;go_roundw;exact⟨1,x,y,z,η,rfl,m,s,q,o,n,b⟩;simp[d_]
 |1,_=>
  by_cases C:1<ts.j
  .have n:X (vT ⟨B,ts⟩ [f,j,r2] 2=if leveled ts[1]=true then [x,y,z].set ts[1].w j else [x,y,z]):=by
    rw[X,vT,T.l];simp[j7,C,g_]
   obtain⟨g,R,Q,h0,V,h2⟩:=h.cell 1 C;subst R;have L:=zi b Q h0;have N:=zi b Q V;have G:=zi b Q h2;simp only[Nat.reduceMul,Nat.reduceAdd] at L N G;have D:g<wr.o.q:=η;have ai:X (∀W,c_ e_ 218 #[.agg #[.i ts[1].var,ι (ts[1].D:Nat),ι (ts[1].w:Nat)]] W λr E=>r=ε (.i (leveled ts[1]))/\μ W E):=λW=>iY W ts[1];have P:leveled ts[1]=true->ts[1].w<3:=by simp[leveled]
   clear h0 V h2;generalize ts[1]=t at *;generalize leveled t=lb at *;cases lb
   .simp only[fh,if_false] at n;go_wp2_with (go_at_call 218;refine(ai.l _).y ?_;rintro r w2 ⟨rfl,c⟩)
    go_roundw;exact⟨2,x,y,z,η,rfl,m.u c,s.u c,q.u c,o.u c,n,U6 b c⟩;simp[d_]
   simp only[if_true] at n;have a6:=P rfl;clear P;generalize ak:t.w=lv at *;clear ak;go_wp2_with (go_at_call 218;refine(ai.l _).y ?_;rintro r w2 ⟨rfl,c⟩;have a:=c;have A:=m.u c;obtain⟨aa,ag,ae⟩:=A.I;have al:=zi c D G;have u:=o.u c;obtain⟨ah,ad,ac⟩:=u.I;have aq:=(yh D c.q);obtain rfl|rfl|rfl:lv=0∨lv=1∨lv=2:=η)
   .have I:X (vT ⟨B,ts⟩ [f,j,r2] 2=[j,y,z]):=by rw[X,n.l];rfl
    have d:=(o.u a).set 0 (ι j);simp at d;have J:=(m.u a).set_ne (show w.o.q≠w.o.q+3 from by omega) 0 (ι j);have K:=(s.u a).set_ne (show w.o.q+1≠w.o.q+3 from by omega) 0 (ι j);have F:=(q.u a).set_ne (show w.o.q+2≠w.o.q+3 from by omega) 0 (ι j);have H:=(U6 b a).x (p:=⟨w.o.q+3,0,Y⟩) ζ (ι j);go_wp2;go_roundw;exact⟨2,j,y,z,η,rfl,J,K,F,d,I,H⟩;simp[d_]
   .have I:X (vT ⟨B,ts⟩ [f,j,r2] 2=[x,j,z]):=by rw[X,n.l];rfl
    have d:=(o.u a).set 1 (ι j);simp at d;have J:=(m.u a).set_ne (show w.o.q≠w.o.q+3 from by omega) 1 (ι j);have K:=(s.u a).set_ne (show w.o.q+1≠w.o.q+3 from by omega) 1 (ι j);have F:=(q.u a).set_ne (show w.o.q+2≠w.o.q+3 from by omega) 1 (ι j);have H:=(U6 b a).x (p:=⟨w.o.q+3,1,Y⟩) ζ (ι j);go_wp2;go_roundw;exact⟨2,x,j,z,η,rfl,J,K,F,d,I,H⟩;simp[d_]
   have I:X (vT ⟨B,ts⟩ [f,j,r2] 2=[x,y,j]):=by rw[X,n.l];rfl
   have d:=(o.u a).set 2 (ι j);simp at d;have J:=(m.u a).set_ne (show w.o.q≠w.o.q+3 from by omega) 2 (ι j);have K:=(s.u a).set_ne (show w.o.q+1≠w.o.q+3 from by omega) 2 (ι j);have F:=(q.u a).set_ne (show w.o.q+2≠w.o.q+3 from by omega) 2 (ι j);have H:=(U6 b a).x (p:=⟨w.o.q+3,2,Y⟩) ζ (ι j);go_wp2;go_roundw;exact⟨2,x,y,j,η,rfl,J,K,F,d,I,H⟩;simp[d_]
  have n:X (vT ⟨B,ts⟩ [f,j,r2] 2=[x,y,z]):=by
   rw[X,vT,T.l];simp[j7,C]
  have av:ts.j<=1:=η;go_wp2;go_roundw;exact⟨2,x,y,z,η,rfl,m,s,q,o,n,b⟩;simp[d_]
 |2,_=>
  by_cases C:2<ts.j
  .have n:X (vT ⟨B,ts⟩ [f,j,r2] 3=if leveled ts[2]=true then [x,y,z].set ts[2].w r2 else [x,y,z]):=by
    rw[X,vT,T.l];simp[j7,C,g_]
   obtain⟨g,R,Q,h0,V,h2⟩:=h.cell 2 C;subst R;have L:=zi b Q h0;have N:=zi b Q V;have G:=zi b Q h2;simp only[Nat.reduceMul,Nat.reduceAdd] at L N G;have D:g<wr.o.q:=η;have ai:X (∀W,c_ e_ 218 #[.agg #[.i ts[2].var,ι (ts[2].D:Nat),ι (ts[2].w:Nat)]] W λr E=>r=ε (.i (leveled ts[2]))/\μ W E):=λW=>iY W ts[2];have P:leveled ts[2]=true->ts[2].w<3:=by simp[leveled]
   clear h0 V h2;generalize ts[2]=t at *;generalize leveled t=lb at *;cases lb
   .simp only[fh,if_false] at n;go_wp2_with (go_at_call 218;refine(ai.l _).y ?_;rintro r w2 ⟨rfl,c⟩)
    go_roundw;exact⟨3,x,y,z,η,rfl,m.u c,s.u c,q.u c,o.u c,n,U6 b c⟩;simp[d_]
   simp only[if_true] at n;have a6:=P rfl;clear P;generalize ak:t.w=lv at *;clear ak;go_wp2_with (go_at_call 218;refine(ai.l _).y ?_;rintro r w2 ⟨rfl,c⟩;have a:=c;have A:=m.u c;obtain⟨aa,ag,ae⟩:=A.I;have al:=zi c D G;have u:=o.u c;obtain⟨ah,ad,ac⟩:=u.I;have aq:=(yh D c.q);obtain rfl|rfl|rfl:lv=0∨lv=1∨lv=2:=η)
   .have I:X (vT ⟨B,ts⟩ [f,j,r2] 3=[r2,y,z]):=by rw[X,n.l];rfl
    have d:=(o.u a).set 0 (ι r2);simp at d;have J:=(m.u a).set_ne (show w.o.q≠w.o.q+3 from by omega) 0 (ι r2);have K:=(s.u a).set_ne (show w.o.q+1≠w.o.q+3 from by omega) 0 (ι r2);have F:=(q.u a).set_ne (show w.o.q+2≠w.o.q+3 from by omega) 0 (ι r2);have H:=(U6 b a).x (p:=⟨w.o.q+3,0,Y⟩) ζ (ι r2);go_wp2;go_roundw;exact⟨3,r2,y,z,η,rfl,J,K,F,d,I,H⟩;simp[d_]
   .have I:X (vT ⟨B,ts⟩ [f,j,r2] 3=[x,r2,z]):=by rw[X,n.l];rfl
    have d:=(o.u a).set 1 (ι r2);simp at d;have J:=(m.u a).set_ne (show w.o.q≠w.o.q+3 from by omega) 1 (ι r2);have K:=(s.u a).set_ne (show w.o.q+1≠w.o.q+3 from by omega) 1 (ι r2);have F:=(q.u a).set_ne (show w.o.q+2≠w.o.q+3 from by omega) 1 (ι r2);have H:=(U6 b a).x (p:=⟨w.o.q+3,1,Y⟩) ζ (ι r2);go_wp2;go_roundw;exact⟨3,x,r2,z,η,rfl,J,K,F,d,I,H⟩;simp[d_]
   have I:X (vT ⟨B,ts⟩ [f,j,r2] 3=[x,y,r2]):=by rw[X,n.l];rfl
   have d:=(o.u a).set 2 (ι r2);simp at d;have J:=(m.u a).set_ne (show w.o.q≠w.o.q+3 from by omega) 2 (ι r2);have K:=(s.u a).set_ne (show w.o.q+1≠w.o.q+3 from by omega) 2 (ι r2);have F:=(q.u a).set_ne (show w.o.q+2≠w.o.q+3 from by omega) 2 (ι r2);have H:=(U6 b a).x (p:=⟨w.o.q+3,2,Y⟩) ζ (ι r2);go_wp2;go_roundw;exact⟨3,x,y,r2,η,rfl,J,K,F,d,I,H⟩;simp[d_]
  have n:X (vT ⟨B,ts⟩ [f,j,r2] 3=[x,y,z]):=by
   rw[X,vT,T.l];simp[j7,C]
  have av:ts.j<=2:=η;go_wp2;go_roundw;exact⟨3,x,y,z,η,rfl,m,s,q,o,n,b⟩;simp[d_]
 |3,_=>
  have HM:X (ua ⟨B,ts⟩ [f,j,r2]=if (xI ⟨B,ts⟩ [f,j,r2] [x,y,z] 0&&xI ⟨B,ts⟩ [f,j,r2] [x,y,z] 1&&xI ⟨B,ts⟩ [f,j,r2] [x,y,z] 2)=true then Z [x,y,z] else Y):=Sl ((M5 _ _).A T.l);clear T;rw[show((3:Nat):Int)=3 from rfl];go_wp2;have n:X (U3 wr w.o.q #[ι B,.k ao ts.j aj] 204/\U3 wr (w.o.q+1) #[ι f,ι j,ι r2] 165/\U3 wr (w.o.q+2) #[ι 0,ι 0,ι 0] 165/\U3 wr (w.o.q+3) #[ι x,ι y,ι z] 165/\μ w wr):=⟨m,s,q,o,b⟩;clear a0 a7 ay a5 a9 a8 a4 a3 a1 ar m s q o b;go_loopw [39] (λaB wr=>∃k:Nat,k<=3/\aB=ι k/\U3 wr w.o.q #[ι B,.k ao ts.j aj] 204/\U3 wr (w.o.q+1) #[ι f,ι j,ι r2] 165/\U3 wr (w.o.q+2) #[ι 0,ι 0,ι 0] 165/\U3 wr (w.o.q+3) #[ι x,ι y,ι z] 165/\X (∀i,i<k->xI ⟨B,ts⟩ [f,j,r2] [x,y,z] i=true)/\μ w wr) (λi _=>3-(d_ i).D);obtain⟨q1,q2,q3,q4,q5⟩:=n.l;exact⟨0,η,rfl,q1,q2,q3,q4,(λi hi=>η),q5⟩;clear n;obtain⟨k,hk,rfl,m,s,q,o,HA,b⟩:=hrel;obtain⟨a0,a7,ay⟩:=m.I;obtain⟨a5,a9,a8⟩:=s.I;obtain⟨a4,a3,a1⟩:=o.I;obtain⟨aC,aD,aG⟩:=q.I;have ar:=b.q;match k,hk with
  |0,_=>
   by_cases C:0<ts.j
   .have M:X (xI ⟨B,ts⟩ [f,j,r2] [x,y,z] 0=kf ts[0] f [x,y,z]):=by unfold xI;rw[X,decide_eq_false (show ¬ts.j<=0 by omega)];simp[g_,C]
    obtain⟨g,R,Q,h0,V,h2⟩:=h.cell 0 C;subst R;have L:=zi b Q h0;have N:=zi b Q V;have G:=zi b Q h2;simp only[Nat.reduceMul,Nat.reduceAdd] at L N G;have D:g<wr.o.q:=η;have au:(0:Int)<(ts.j:Int):=η;have am:X (∀W,c_ e_ 219 #[.agg #[.i ts[0].var,ι (ts[0].D:Nat),ι (ts[0].w:Nat)],ι f,.agg #[ι x,ι y,ι z]] W λr E=>r=ε (.i (kf ts[0] f [x,y,z]))/\μ W E):=λW=>BA W ts[0] f x y z;clear h0 V h2;generalize ts[0]=t at *;generalize kf t f [x,y,z]=ab at *;go_wp2;go_region_held3 (λE=>E.p ⟨w.o.q,1,Y⟩=Z (.k (Z ⟨g,0,Y⟩) ts.j aj)/\E.p ⟨g,0,Y⟩=Z (.i t.var)/\E.p ⟨g,1,Y⟩=Z (ι t.D)/\E.p ⟨g,2,Y⟩=Z (ι t.w)/\E.p ⟨w.o.q+1+1+1,0,Y⟩=Z (ι x)/\E.p ⟨w.o.q+1+1+1,1,Y⟩=Z (ι y)/\E.p ⟨w.o.q+1+1+1,2,Y⟩=Z (ι z)) (first|go_keep|(go_simp;done)) (first|(go_at_call 219;refine(am.l _).y ?_;rintro r w2 ⟨rfl,c⟩;have l:μ wr w2:=(zJ γ c (ze _));have A:=m.u l;obtain⟨aa,ag,ae⟩:=A.I;have u:=o.u l;obtain⟨ah,ad,ac⟩:=u.I;have az:=zi l D L;have a2:=zi l D N;have al:=(zi l D G)))
    cases ab
    .have T:X (ua ⟨B,ts⟩ [f,j,r2]=Y):=by rw[X,HM.l,M.l];simp
     have an:=q.u l;obtain⟨af,ap,ax⟩:=an.I;go_wp2;exact zP (v:=.B #[.agg #[ι 0,ι 0,ι 0],.i false]) (by simp[results,results213,go_sem,af]) rfl ⟨⟨0,0,0,by rw[T.l];rfl,by rw[T.l];rfl⟩,(((U6 b l).x (p:=⟨w.o.q+2,0,Y⟩) ζ _).x (p:=⟨w.o.q+2,1,Y⟩) ζ _).x (p:=⟨w.o.q+2,2,Y⟩) ζ _⟩
    have S:X (∀i,i<1->xI ⟨B,ts⟩ [f,j,r2] [x,y,z] i=true):=λi hi=>by
     by_cases e:i=0;subst e;exact M.l;exact HA.l i η
    go_wp2;go_roundw;exact⟨1,η,rfl,A,s.u l,q.u l,u,S,U6 b l⟩;simp[d_]
   have M:X (xI ⟨B,ts⟩ [f,j,r2] [x,y,z] 0=true):=by unfold xI;rw[X,decide_eq_true (show ts.j<=0 by omega)];rfl
   have S:X (∀i,i<1->xI ⟨B,ts⟩ [f,j,r2] [x,y,z] i=true):=λi hi=>by
    by_cases e:i=0;subst e;exact M.l;exact HA.l i η
   have aw:decide ((0:Int)<(ts.j:Int))=false:=decide_eq_false η;go_wp2;go_quiet (fail)
   go_wp2;go_roundw;exact⟨1,η,rfl,m.u (zG (zn _ _) _),s.u (zG (zn _ _) _),q.u (zG (zn _ _) _),o.u (zG (zn _ _) _),S,zG b _⟩;simp[d_]
  |1,_=>
   by_cases C:1<ts.j
   .have M:X (xI ⟨B,ts⟩ [f,j,r2] [x,y,z] 1=kf ts[1] j [x,y,z]):=by unfold xI;rw[X,decide_eq_false (show ¬ts.j<=1 by omega)];simp[g_,C]
    obtain⟨g,R,Q,h0,V,h2⟩:=h.cell 1 C;subst R;have L:=zi b Q h0;have N:=zi b Q V;have G:=zi b Q h2;simp only[Nat.reduceMul,Nat.reduceAdd] at L N G;have D:g<wr.o.q:=η;have au:(1:Int)<(ts.j:Int):=η;have am:X (∀W,c_ e_ 219 #[.agg #[.i ts[1].var,ι (ts[1].D:Nat),ι (ts[1].w:Nat)],ι j,.agg #[ι x,ι y,ι z]] W λr E=>r=ε (.i (kf ts[1] j [x,y,z]))/\μ W E):=λW=>BA W ts[1] j x y z;clear h0 V h2;generalize ts[1]=t at *;generalize kf t j [x,y,z]=ab at *;go_wp2;go_region_held3 (λE=>E.p ⟨w.o.q,1,Y⟩=Z (.k (Z ⟨g,0,Y⟩) ts.j aj)/\E.p ⟨g,3,Y⟩=Z (.i t.var)/\E.p ⟨g,4,Y⟩=Z (ι t.D)/\E.p ⟨g,5,Y⟩=Z (ι t.w)/\E.p ⟨w.o.q+1+1+1,0,Y⟩=Z (ι x)/\E.p ⟨w.o.q+1+1+1,1,Y⟩=Z (ι y)/\E.p ⟨w.o.q+1+1+1,2,Y⟩=Z (ι z)) (first|go_keep|(go_simp;done)) (first|(go_at_call 219;refine(am.l _).y ?_;rintro r w2 ⟨rfl,c⟩;have l:μ wr w2:=(zJ γ c (ze _));have A:=m.u l;obtain⟨aa,ag,ae⟩:=A.I;have u:=o.u l;obtain⟨ah,ad,ac⟩:=u.I;have az:=zi l D L;have a2:=zi l D N;have al:=(zi l D G)))
    cases ab
    .have T:X (ua ⟨B,ts⟩ [f,j,r2]=Y):=by rw[X,HM.l,M.l];simp
     have an:=q.u l;obtain⟨af,ap,ax⟩:=an.I;go_wp2;exact zP (v:=.B #[.agg #[ι 0,ι 0,ι 0],.i false]) (by simp[results,results213,go_sem,af]) rfl ⟨⟨0,0,0,by rw[T.l];rfl,by rw[T.l];rfl⟩,(((U6 b l).x (p:=⟨w.o.q+2,0,Y⟩) ζ _).x (p:=⟨w.o.q+2,1,Y⟩) ζ _).x (p:=⟨w.o.q+2,2,Y⟩) ζ _⟩
    have S:X (∀i,i<2->xI ⟨B,ts⟩ [f,j,r2] [x,y,z] i=true):=λi hi=>by
     by_cases e:i=1;subst e;exact M.l;exact HA.l i η
    go_wp2;go_roundw;exact⟨2,η,rfl,A,s.u l,q.u l,u,S,U6 b l⟩;simp[d_]
   have M:X (xI ⟨B,ts⟩ [f,j,r2] [x,y,z] 1=true):=by unfold xI;rw[X,decide_eq_true (show ts.j<=1 by omega)];rfl
   have S:X (∀i,i<2->xI ⟨B,ts⟩ [f,j,r2] [x,y,z] i=true):=λi hi=>by
    by_cases e:i=1;subst e;exact M.l;exact HA.l i η
   have aw:decide ((1:Int)<(ts.j:Int))=false:=decide_eq_false η;go_wp2;go_quiet (fail)
   go_wp2;go_roundw;exact⟨2,η,rfl,m.u (zG (zn _ _) _),s.u (zG (zn _ _) _),q.u (zG (zn _ _) _),o.u (zG (zn _ _) _),S,zG b _⟩;simp[d_]
  |2,_=>
   by_cases C:2<ts.j
   .have M:X (xI ⟨B,ts⟩ [f,j,r2] [x,y,z] 2=kf ts[2] r2 [x,y,z]):=by unfold xI;rw[X,decide_eq_false (show ¬ts.j<=2 by omega)];simp[g_,C]
    obtain⟨g,R,Q,h0,V,h2⟩:=h.cell 2 C;subst R;have L:=zi b Q h0;have N:=zi b Q V;have G:=zi b Q h2;simp only[Nat.reduceMul,Nat.reduceAdd] at L N G;have D:g<wr.o.q:=η;have au:(2:Int)<(ts.j:Int):=η;have am:X (∀W,c_ e_ 219 #[.agg #[.i ts[2].var,ι (ts[2].D:Nat),ι (ts[2].w:Nat)],ι r2,.agg #[ι x,ι y,ι z]] W λr E=>r=ε (.i (kf ts[2] r2 [x,y,z]))/\μ W E):=λW=>BA W ts[2] r2 x y z;clear h0 V h2;generalize ts[2]=t at *;generalize kf t r2 [x,y,z]=ab at *;go_wp2;go_region_held3 (λE=>E.p ⟨w.o.q,1,Y⟩=Z (.k (Z ⟨g,0,Y⟩) ts.j aj)/\E.p ⟨g,6,Y⟩=Z (.i t.var)/\E.p ⟨g,7,Y⟩=Z (ι t.D)/\E.p ⟨g,8,Y⟩=Z (ι t.w)/\E.p ⟨w.o.q+1+1+1,0,Y⟩=Z (ι x)/\E.p ⟨w.o.q+1+1+1,1,Y⟩=Z (ι y)/\E.p ⟨w.o.q+1+1+1,2,Y⟩=Z (ι z)) (first|go_keep|(go_simp;done)) (first|(go_at_call 219;refine(am.l _).y ?_;rintro r w2 ⟨rfl,c⟩;have l:μ wr w2:=(zJ γ c (ze _));have A:=m.u l;obtain⟨aa,ag,ae⟩:=A.I;have u:=o.u l;obtain⟨ah,ad,ac⟩:=u.I;have az:=zi l D L;have a2:=zi l D N;have al:=(zi l D G)))
    cases ab
    .have T:X (ua ⟨B,ts⟩ [f,j,r2]=Y):=by rw[X,HM.l,M.l];simp
     have an:=q.u l;obtain⟨af,ap,ax⟩:=an.I;go_wp2;exact zP (v:=.B #[.agg #[ι 0,ι 0,ι 0],.i false]) (by simp[results,results213,go_sem,af]) rfl ⟨⟨0,0,0,by rw[T.l];rfl,by rw[T.l];rfl⟩,(((U6 b l).x (p:=⟨w.o.q+2,0,Y⟩) ζ _).x (p:=⟨w.o.q+2,1,Y⟩) ζ _).x (p:=⟨w.o.q+2,2,Y⟩) ζ _⟩
    have S:X (∀i,i<3->xI ⟨B,ts⟩ [f,j,r2] [x,y,z] i=true):=λi hi=>by
     by_cases e:i=2;subst e;exact M.l;exact HA.l i η
    go_wp2;go_roundw;exact⟨3,η,rfl,A,s.u l,q.u l,u,S,U6 b l⟩;simp[d_]
   have M:X (xI ⟨B,ts⟩ [f,j,r2] [x,y,z] 2=true):=by unfold xI;rw[X,decide_eq_true (show ts.j<=2 by omega)];rfl
   have S:X (∀i,i<3->xI ⟨B,ts⟩ [f,j,r2] [x,y,z] i=true):=λi hi=>by
    by_cases e:i=2;subst e;exact M.l;exact HA.l i η
   have aw:decide ((2:Int)<(ts.j:Int))=false:=decide_eq_false η;go_wp2;go_quiet (fail)
   go_wp2;go_roundw;exact⟨3,η,rfl,m.u (zG (zn _ _) _),s.u (zG (zn _ _) _),q.u (zG (zn _ _) _),o.u (zG (zn _ _) _),S,zG b _⟩;simp[d_]
  |3,_=>
   have T:X (ua ⟨B,ts⟩ [f,j,r2]=Z [x,y,z]):=by rw[X,HM.l,HA.l 0 η,HA.l 1 η,HA.l 2 η];rfl
   go_wp2;exact zP (v:=.B #[.agg #[ι x,ι y,ι z],.i true]) (by simp[results,results213,go_sem,aC]) rfl ⟨⟨x,y,z,by rw[T.l];rfl,by rw[T.l];rfl⟩,((b.x (p:=⟨w.o.q+2,0,Y⟩) ζ _).x (p:=⟨w.o.q+2,1,Y⟩) ζ _).x (p:=⟨w.o.q+2,2,Y⟩) ζ _⟩
def fm(ps:List (Nat×O)):List Value:=ps.flatMap λx=>[ι (x.1:Nat),x.2]
def Fd:∀(ps:List (Nat×O)) (k:Nat) (a:k<ps.j),(fm ps)[k*2]?=Z (ι (ps[k].1:Nat))/\(fm ps)[k*2+1]?=Z ps[k].2
 |[],k,a=>by simp at a
 |p::r,0,_=>by simp[fm]
 |p::r,k+1,a=>by
  have:=Fd r k (by simpa using a);simp only[fm,uZ] at this ⊢;rw[show(k+1)*2=k*2+1+1 from by omega,show k*2+1+1+1=k*2+1+1+1 from rfl];simpa using this
def uy(lo:Nat)(w:U)(v:O)(ls:List zx):Prop:=∃a:List (Nat×O),w.r lo 204 2 v ls.j (fm a)/\a.j=ls.j/\ls.j<=1000/\∀k (b:k<ls.j) (c:k<a.j),a[k].1=ls[k].o/\yx lo w a[k].2 ls[k].v/\ls[k].o<=1000000
def uy.u{w w':U}{v:O}{ls:List zx}(h:uy lo w v ls)(d:μ w w'):uy lo w' v ls:=by
 obtain⟨i,e,g,f,c⟩:=h;exact⟨i,zy e d,g,f,λk a b=>⟨(c k a b).1,(c k a b).2.1.u d,(c k a b).2.2⟩⟩
def uy.qm{w:U}{v:O}{ls:List zx}(h:uy lo w v ls):∃b a,v=.k b ls.j a:=by obtain⟨d,c,_⟩:=h;exact zq c
def uy.len{w:U}{v:O}{ls:List zx}(h:uy lo w v ls):ls.j<=1000:=by obtain⟨b,_,_,a,_⟩:=h;exact a
def uy.cell{w:U}{f:Option Addr}{n cap:Nat}{ls:List zx}(h:uy lo w (.k f n cap) ls)(k:Nat)(m:k<ls.j):∃g b a,f=Z (δ g)/\g<w.o.q/\w.p (ω g (k*2))=Z (ι (ls[k].o:Nat))/\w.p (ω g (k*2+1))=Z (.k b ls[k].v.j a)/\yx lo w (.k b ls[k].v.j a) ls[k].v:=by
 obtain⟨u,p,y,x,q⟩:=h;obtain⟨g,l,j,_,r,e⟩:=yt p η;simp only[j_] at j;obtain⟨rfl,_,_⟩:=j;obtain⟨o,v⟩:=Fd u k η;obtain⟨t,c,_⟩:=q k m η;obtain⟨b,a,s⟩:=c.qm;have d:=e _ _ o;have i:=e _ _ v;rw[t] at d;rw[s] at i c;exact⟨g,b,a,rfl,r,d,i,c⟩
structure vQ (lo:Nat) (w:U) (tv pv nv:O) (r:zv):Prop where
 g:yx lo w tv r.g.v
 qc:uy lo w pv r.qc
 qx:uy lo w nv r.qx
 small:r.L<=1000000/\r.m<=1000000/\r.g.o<=1000000
def vQ.u{w w':U}{tv b c:O}{r:zv}(h:vQ lo w tv b c r)(a:μ w w'):vQ lo w' tv b c r:=⟨h.g.u a,h.qc.u a,h.qx.u a,h.small⟩
def gH(r:zv)(tv a b:O):Value:=.agg #[ι r.L,ι r.m,ι r.g.o,tv,a,b]
def Lt(w:U)(tv pv nv:O)(r:zv)(a:Int)(h:vQ lo w tv pv nv r):
  c_ e_ 220 #[gH r tv pv nv,ι a] w λe C=>e=ε (ι (xQ r a))/\μ w C:=by
 obtain⟨N,t,rfl⟩:=h.g.qm;obtain⟨ak,R,rfl⟩:=h.qc.qm;obtain⟨V,K,rfl⟩:=h.qx.qm;have ar:=h.qc.len;have aq:=h.qx.len;have am:X (∀W,μ w W->c_ e_ 225 #[.agg #[ι r.g.o,.k N r.g.v.j t],ι a] W λe C=>e=ε (ι (kH r.g a))/\μ W C):=λW Q=>FV W _ r.g.o a r.g.v (h.g.u Q);have hP:=h.qc;have hN:=h.qx;have HE:X (xQ r a=r.qx.H (qC a) (r.qc.H (qC a) (kH r.g a))):=rfl;unfold gH;clear h;have P:=U3.new w #[ι r.L,ι r.m,ι r.g.o,.k N r.g.v.j t,.k ak r.qc.j R,.k V r.qx.j K] 207;generalize kH r.g a=S at *;generalize r.qc=b at *;generalize r.qx=c at *;go_enter func220,ntmps220;go_wp2_with (go_at_call 225;refine(am.l _ γ).y ?_;rintro e w1 ⟨rfl,A⟩;have ag:μ w w1:=zJ γ A (ze _);have s:=P.u A;obtain⟨ah,ac,ad⟩:=s.I)
 clear ah ac ad P A;go_loopw [5,19] (λv5 ao wr=>∃k:Nat,k<=b.j/\ao=ι k/\v5=ι ((b.G k).H (qC a) S)/\μ w1 wr) (λ_ i _=>b.j-(d_ i).D);exact⟨0,zs _,rfl,rfl,zn _ _⟩;obtain⟨k,hk,rfl,rfl,q⟩:=hrel;have o:=U6 ag q;have ap:=o.q;by_cases I:k<b.j
 .obtain⟨g,D,n,y,L,J,F,H⟩:=hP.cell k I;subst y;have ai:=zi o L J;have aa:=zi o L F;have af:g<wr.o.q:=η;have G:=U2 (tx b (qC a) S k I);have j:X (∀W,μ w W->c_ e_ 226 #[.agg #[ι (b[k].o:Nat),.k D b[k].v.j n],ι a] W λe C=>e=ε (ι (jw b[k] a))/\μ W C):=λW Q=>Eu W _ b[k].o a b[k].v (H.u Q);clear J F H;generalize b[k]=l at *;generalize (b.G k).H (qC a) S=p at *;have f:X (qC a p l=if jw l a>p then jw l a else p):=rfl;generalize jw l a=ti at *;by_cases m:ti>p
  .rw[zb m] at f;go_wp2_with (go_at_call 226;refine(j.l _ γ).y ?_;rintro e E ⟨rfl,z⟩;have B:μ wr E:=(zJ γ z (ze _)))
   go_roundw;exact⟨k+1,η,ξ,by rw[G.l,f.l],U6 q B⟩;simp[d_];omega
  rw[za m] at f;go_wp2_with (go_at_call 226;refine(j.l _ γ).y ?_;rintro e E ⟨rfl,z⟩;have B:μ wr E:=(zJ γ z (ze _)))
  go_roundw;exact⟨k+1,η,ξ,by rw[G.l,f.l],U6 q B⟩;simp[d_];omega
 obtain rfl:k=b.j:=η;rw[ve];generalize b.H (qC a) S=pb at *;have M:=s.u q;obtain⟨al,ab,ae⟩:=M.I;go_wp2;clear al ab ae;obtain⟨E,T⟩:∃E,E=wr:=⟨wr,rfl⟩;subst T;go_loopw [5,34] (λv5 aj wr=>∃k:Nat,k<=c.j/\aj=ι k/\v5=ι ((c.G k).H (qC a) pb)/\μ w wr) (λ_ i _=>c.j-(d_ i).D);exact⟨0,zs _,rfl,rfl,o⟩;obtain⟨k,hk,rfl,rfl,d⟩:=hrel;have an:=d.q;by_cases u:k<c.j
 .obtain⟨g,D,n,y,L,J,F,H⟩:=hN.cell k u;subst y;have ai:=zi d L J;have aa:=zi d L F;have af:g<wr.o.q:=η;have G:=U2 (tx c (qC a) pb k u);have j:X (∀W,μ w W->c_ e_ 226 #[.agg #[ι (c[k].o:Nat),.k D c[k].v.j n],ι a] W λe C=>e=ε (ι (jw c[k] a))/\μ W C):=λW Q=>Eu W _ c[k].o a c[k].v (H.u Q);clear J F H;generalize c[k]=l at *;generalize (c.G k).H (qC a) pb=p at *;have f:X (qC a p l=if jw l a>p then jw l a else p):=rfl;generalize jw l a=ti at *;by_cases m:ti>p
  .rw[zb m] at f;go_wp2_with (go_at_call 226;refine(j.l _ γ).y ?_;rintro e w3 ⟨rfl,v⟩;have x:μ wr w3:=(zJ γ v (ze _)))
   go_roundw;exact⟨k+1,η,ξ,by rw[G.l,f.l],U6 d x⟩;simp[d_];omega
  rw[za m] at f;go_wp2_with (go_at_call 226;refine(j.l _ γ).y ?_;rintro e w3 ⟨rfl,v⟩;have x:μ wr w3:=(zJ γ v (ze _)))
  go_roundw;exact⟨k+1,η,ξ,by rw[G.l,f.l],U6 d x⟩;simp[d_];omega
 obtain rfl:k=c.j:=η;rw[ve];go_wp2;go_ret;exact⟨by rw[HE.l];rfl,d⟩
end
section
open Go.Proofs.Tryz
variable {lo:Nat}{w:U}{jb:Nat}
def five{α:Type}{l:List α}(h:l.j=5):∃a b c d e,l=[a,b,c,d,e]:=by
 match l,h with
 |[a,b,c,d,e],_=>exact⟨a,b,c,d,e,rfl⟩
abbrev V4:=O×O×O×O
def lD(t:V4):List Value:=[t.1,t.2.1,t.2.2.1,t.2.2.2]
def yH(a:List V4):List Value:=a.flatMap lD
def eL(b:List V4):(yH b).j=b.j*4:=by
 induction b with
 |nil=>rfl
 |cons a l c=>simp[yH,lD] at c ⊢;omega
def tF:∀(a:List V4) (k:Nat) (b:k<a.j),(yH a)[k*4]?=Z a[k].1/\(yH a)[k*4+1]?=Z a[k].2.1/\(yH a)[k*4+2]?=Z a[k].2.2.1/\(yH a)[k*4+3]?=Z a[k].2.2.2
 |[],k,b=>by simp at b
 |y::r,0,_=>by simp[yH,lD]
 |y::r,k+1,b=>by
  have:=tF r k (by simpa using b);simp only[yH,uZ,lD] at this ⊢;rw[show(k+1)*4=k*4+1+1+1+1 from by omega,show k*4+1+1+1+1+2=k*4+2+1+1+1+1 from by omega,show k*4+1+1+1+1+3=k*4+3+1+1+1+1 from by omega];simpa using this
def f8(s:xa)(t:Nat×List Nat):V4:=(.u (Z ⟨t.1,0,Y⟩),ι (s.B.d 0 0:Nat),ι (s.B.d 1 0:Nat),ι (s.B.d 2 0:Nat))
def dA(b:iG)(t:O×Nat×List Nat):V4:=(ι b.lit.o,t.1,ι b.je,.u (Z ⟨t.2.1,0,Y⟩))
def g5(hs:List (Nat×Nat)):List Value:=hs.flatMap λh=>[ι (h.1:Nat),ι (h.2:Nat)]
structure xP where
 tv:O
 sv:O
 bv:O
 hvs:List O
 tbs:List (Nat×List Nat)
 bps:List (O×Nat×List Nat)
def uL(J:zF)(P:xP):List Value:=
 [ι J.g.o,P.tv,ι J.m,P.sv,P.bv]++P.hvs++J.ji.map (O.int .i64)++[ι J.last]++J.P.map Vg++J.from.map Vg++[ι J.ql,ι J.jg]
structure UT (lo:Nat) (w:U) (jb:Nat) (J:zF) (P:xP):Prop where
 low:lo<=jb
 box:U3 w jb (uL J P).F 310
 g:yx lo w P.tv J.g.v
 ja:w.r lo 323 4 P.sv J.ja.j (yH (h_ f8 J.ja P.tbs))
 slen:P.tbs.j=J.ja.j
 tries:∀k (_:k<J.ja.j) (_:k<P.tbs.j),yc lo w P.tbs[k].1 J.ja[k].rows P.tbs[k].2
 B:∀s∈J.ja,s.B.j=3
 bars:w.r lo 325 4 P.bv J.bars.j (yH (h_ dA J.bars P.bps))
 blen:P.bps.j=J.bars.j
 jk:∀k (_:k<J.bars.j) (_:k<P.bps.j),yx lo w P.bps[k].1 J.bars[k].lit.v/\yc lo w P.bps[k].2.1 J.bars[k].rows P.bps[k].2.2
 hlen:P.hvs.j=5/\J.jf.j=5
 jf:∀p (_:p<J.jf.j) (_:p<P.hvs.j),w.r lo 327 2 P.hvs[p] J.jf[p].j (g5 J.jf[p])/\J.jf[p].j<=1000/\∀h∈J.jf[p],h.1<=1000000/\h.2<=1000000
 jl:J.ji.j=5/\J.P.j=5/\J.from.j=5
 M:J.ja.j<=1000/\J.bars.j<=1000/\J.m<=1000000
def yc.notin{tb:Nat}{T:zm}{fp:Φ}(h:yc lo w tb T fp){b:Nat}{c:Array O}{t:f_}(f:U3 w b c t)(k:t≠229)(l:t≠273)(j:t≠3):b∉fp:=by
 obtain⟨m,n,d,rfl⟩:=h;intro a;simp only[VB,z7,zW] at a;rcases a with a|a|a;subst a;have q:=d.box;unfold U3 at q f;rw[f] at q;simp at q;exact k q.2;exact uj d.B f (n_ l) (yA a) rfl;obtain⟨i,g,e|e⟩:=Ao a;exact uj (d.K i (by rw[←d.len];exact g) g) f (n_ j) (b:=b) (by rw[e];rfl) rfl;exact uj (d.down i (by rw[←d.len];exact g) g) f (n_ j) (b:=b) (by rw[e];rfl) rfl
def yx.save{w':U}{v:O}{ts:List yo}{N:Φ}(h:yx lo w v ts)(hs:zc N w w')(a:∀b,v.m=Z b->b∉N):yx lo w' v ts:=⟨yd h.own hs a,h.len,h.D⟩
def UT.u{w w':U}{jb:Nat}{J:zF}{P:xP}(h:UT lo w jb J P)(c:μ w w'):UT lo w' jb J P:=
 ⟨h.low,h.box.u c,h.g.u c,zy h.ja c,h.slen,λk a b=>(h.tries k a b).u c,h.B,zy h.bars c,h.blen,λk a b=>⟨(h.jk k a b).1.u c,(h.jk k a b).2.u c⟩,h.hlen,λp a b=>⟨zy (h.jf p a b).1 c,(h.jf p a b).2⟩,h.jl,h.M⟩
def UT.rebox{w':U}{J c:zF}{P:xP}(h:UT lo w jb J P)(hs:zc [jb] w w')(l:U3 w' jb (uL c P).F 310)(D:c.g=J.g)(f:c.ja=J.ja)(i:c.bars=J.bars)(n:c.jf=J.jf)(E:c.m=J.m)(u:c.ji.j=5/\c.P.j=5/\c.from.j=5):UT lo w' jb c P:=by
 have g:∀{x:Nat} {e:f_} {B:Nat} {v:O} {y:Nat} {A:Γ},w.r x e B v y A->e≠310->∀b,v.m=Z b->b∉[jb]:=λC z b m j=>uj C h.box z m (by simpa using j);have s:∀{r:Nat} {T:zm} {q:Φ},yc lo w r T q->yc lo w' r T q:=λo=>o.save hs (λb t j=>by simp at j;subst j;exact o.notin h.box θ θ θ t);refine⟨h.low,l,by rw[D];exact h.g.save hs (g h.g.own θ),by rw[f];exact yd h.ja hs (g h.ja θ),by rw[f];exact h.slen,λk a b=>?_,by rw[f];exact h.B,by rw[i];exact yd h.bars hs (g h.bars θ),by rw[i];exact h.blen,λk a b=>?_,by rw[n];exact h.hlen,λp a b=>?_,u,by rw[f,i,E];exact h.M⟩;have d:k<J.ja.j:=by rw[←f];exact a
 simp only[f];exact s (h.tries k d b);have d:k<J.bars.j:=by rw[←i];exact a
 simp only[i];exact⟨(h.jk k d b).1.save hs (g (h.jk k d b).1.own θ),s (h.jk k d b).2⟩;have d:p<J.jf.j:=by rw[←n];exact a
 simp only[n];exact⟨yd (h.jf p d b).1 hs (g (h.jf p d b).1 θ),(h.jf p d b).2⟩
def UT.at{J:zF}{P:xP}(h:UT lo w jb J P):jb<w.o.q/\(∀o,w.frozen? (ω jb o)=false)/\w.p (δ jb)=Z (ι J.g.o)/\w.p (ω jb 1)=Z P.tv/\w.p (ω jb 2)=Z (ι J.m)/\w.p (ω jb 3)=Z P.sv/\w.p (ω jb 4)=Z P.bv/\w.p (ω jb 15)=Z (ι J.last)/\w.p (ω jb 26)=Z (ι J.ql)/\w.p (ω jb 27)=Z (ι J.jg):=by
 obtain⟨c,b⟩:=h.box.H;obtain⟨a,g,j⟩:=h.jl;obtain⟨m,s,v,t,u,f⟩:=five h.hlen.1;obtain⟨p,C,q,r,l,e⟩:=five a;obtain⟨F,D,n,E,z,d⟩:=five g;obtain⟨A,y,B,k,x,i⟩:=five j;refine⟨h.box.lt,b,?_,?_,?_,?_,?_,?_,?_,?_⟩<;>rw[c]<;>simp[uL,f,e,d,i]
def UT.setMoves{J:zF}{P:xP}(h:UT lo w jb J P)(m:Int):UT lo (w.x (ω jb 27) (ι m)) jb {J with jg:=m} P:=by
 obtain⟨a,f,i⟩:=h.jl;refine h.rebox (zc.set _ _ _ _) ?_ rfl rfl rfl rfl rfl h.jl;obtain⟨l,r,u,s,t,e⟩:=five h.hlen.1;obtain⟨o,B,p,q,k,d⟩:=five a;obtain⟨E,C,n,D,y,c⟩:=five f;obtain⟨z,x,A,j,v,g⟩:=five i;have b:=h.box.set 27 (ι m);simpa [uL,e,d,c,g] using b
def GR(w:U)(jb:Nat)(J:zF)(P:xP)(s l:Nat)(h:UT lo w jb J P):
  c_ e_ 231 #[(π jb),.agg #[ι s,ι l]] w λe o=>e=ε (.i (qk J (s,l)))/\μ w o:=by
 obtain⟨i,m,_,_,_,g,_⟩:=h.at;obtain⟨p,k,j⟩:=zq h.ja;have b:X (qk J (s,l)=(decide (s<J.ja.j)&&decide (l<3))):=rfl;generalize J.ja.j=n at *;by_cases c:s<n
 .by_cases f:l<3
  .have a:(s:Int)<(n:Int):=η;have d:(l:Int)<3:=η;go_enter func231,ntmps231;go_wp2;go_quiet (fail)
   go_wp2;go_ret;exact⟨by rw[b.l];simp[c,f],zG γ _⟩
  have a:(s:Int)<(n:Int):=η;have d:decide ((l:Int)<3)=false:=decide_eq_false η;go_enter func231,ntmps231;go_wp2;go_quiet (fail)
  go_wp2;go_ret;exact⟨by rw[b.l];simp[c,f],zG γ _⟩
 have a:decide ((s:Int)<(n:Int))=false:=decide_eq_false η;go_enter func231,ntmps231;go_wp2;go_quiet (fail)
 go_wp2;go_ret;exact⟨by rw[b.l];simp[c],zG γ _⟩
end
section
open Go.Proofs.Tryz
variable {lo:Nat}
def UT.side{w:U}{p:Nat}{J:zF}{P:xP}(h:UT lo w p J P)(s l:Nat)(hs:s<J.ja.j)(r:l<3):
  ∃a b j q,P.sv=.k (Z (δ a)) J.ja.j b/\a<w.o.q/\a≠p/\w.p (ω a (s*4))=Z ((π j))/\w.p (ω a (s*4+1+l))=Z (ι ((J.ja[s].B.d l 0:Nat):Int))/\yc lo w j J.ja[s].rows q/\(∀o,w.frozen? (ω a o)=false):=by
 obtain⟨a,b,f,_,g,d⟩:=yt h.ja η;have e:s<P.tbs.j:=by rw[h.slen];exact hs
 obtain⟨i,n,k,m⟩:=tF (h_ f8 J.ja P.tbs) s υ;simp only[q_,f8] at i n k m;have c:=h.ja;rw[f] at c;refine⟨a,b,P.tbs[s].1,P.tbs[s].2,f,g,uj h.ja h.box θ (by rw[f];rfl),d _ _ i,?_,h.tries s hs e,uv c⟩;obtain rfl|rfl|rfl:l=0∨l=1∨l=2:=η
 exact d _ _ n;exact d _ _ k;exact d _ _ m
def Oi(w:U)(b:Nat)(J:zF)(P:xP)(s l f:Nat)(h:UT lo w b J P):
  c_ e_ 229 #[(π b),.agg #[ι s,ι l],ι f] w λe t=>e=ε (jJ (qv J (s,l) f).2)/\UT lo t b (qv J (s,l) f).1 P/\zc [b] w t:=by
 have r:=U2 λW hW=>GR W b J P s l (h.u hW);have S:=U2 h;cases d:qk J (s,l)
 .have j:X (qv J (s,l) f=(J,Y)):=by simp[X,qv,d]
  go_enter func229,ntmps229;go_wp2_with (go_at_call 231;refine(r.l _ γ).y ?_;rintro e i ⟨rfl,c⟩;have a:μ w i:=zJ γ c (ze _))
  go_ret2
  exact⟨by rw[j.l];rfl,by rw[j.l];exact S.l.u a,zc.of a⟩
 have A:s<J.ja.j/\l<3:=by simpa [qk] using d
 obtain⟨H,hl⟩:=A;have j:X (qv J (s,l) f=({J with jg:=IntKind.i64.wrap (J.jg+1)},yJ J.ja[s].rows (J.ja[s].B.d l 0) f)):=by simp[X,qv,d,g_,H]
 obtain⟨ab,_⟩:=h.at;go_enter func229,ntmps229;go_wp2_with (go_at_call 231;refine(r.l _ γ).y ?_;rintro e i ⟨rfl,c⟩;have a:μ w i:=zJ γ c (ze _);have g:=S.l.u a;obtain⟨F,T,_,_,_,aa,_,_,_,Q⟩:=g.at;have q:=(U3.new w #[ι s,ι l] 327).u c;obtain⟨v,E,V⟩:=q.I;have y:=U2 g;clear g)
 have B:IntKind.i64.wrap (J.jg+1)=wrap64 (J.jg+1):=by rw[IntKind.wrap_i64];unfold wrap64;rfl
 rw[B] at j;have k:X (UT lo (i.x (ω b 27) (ι (wrap64 (J.jg+1)))) b {J with jg:=wrap64 (J.jg+1)} P):=y.l.setMoves _;have x:w.o.q≠b:=η;have p:=q.set_ne x 27 (ι (wrap64 (J.jg+1)));have u:zc [b] w (i.x (ω b 27) (ι (wrap64 (J.jg+1)))):=(zc.of a).A (zc.set _ _ _ _);generalize i.x (ω b 27) (ι (wrap64 (J.jg+1)))=R at *;have o:=k.l;obtain⟨K,N,_,_,_,ac,_⟩:=o.at;obtain⟨af,L,m,z,I,G,_,ad,ae,C,_⟩:=o.side s l H hl;obtain⟨v,E⟩:=p.H;have D:X (∀n,c_ e_ 167 #[(π m),ι ((J.ja[s].B.d l 0:Nat):Int),ι f] (R.drewN n) λe t=>e=ε (.B #[ι (((yJ J.ja[s].rows (J.ja[s].B.d l 0) f).d 0:Nat):Int),.i (yJ J.ja[s].rows (J.ja[s].B.d l 0) f).I])/\t=R.drewN n):=λn=>tO _ m _ z _ f (C.u (zG (zn _ _) n));generalize J.ja[s].B.d l 0=nd at *;go_quiet ((go_at_call 167;exact c_.quiet_of_same (D.l _)))
 go_wp2;go_ret2
 exact⟨by rw[j.l];rfl,by rw[j.l];exact k.l.u (zG (zn _ _) _),u.newer (zc.of (M:=[]) (zG (zn _ _) _)) ζ⟩
def BL:∀(hs:List (Nat×Nat)) (k:Nat) (a:k<hs.j),(g5 hs)[k*2]?=Z (ι (hs[k].1:Nat))/\(g5 hs)[k*2+1]?=Z (ι (hs[k].2:Nat))
 |[],k,a=>by simp at a
 |p::r,0,_=>by simp[g5]
 |p::r,k+1,a=>by
  have:=BL r k (by simpa using a);simp only[g5,uZ] at this ⊢;rw[show(k+1)*2=k*2+1+1 from by omega,show k*2+1+1+1=k*2+1+1+1 from rfl];simpa using this
def UT.hold{w:U}{j:Nat}{J:zF}{P:xP}(h:UT lo w j J P)(p:Nat)(o:p<5):∃g b,w.p (ω j (5+p))=Z (.k g (J.jf.d p []).j b)/\(J.jf.d p []).j<=1000/\∀k (m:k<(J.jf.d p []).j),∃a,g=Z (δ a)/\a<w.o.q/\a≠j/\w.p (ω a (k*2))=Z (ι ((J.jf.d p [])[k].1:Nat))/\w.p (ω a (k*2+1))=Z (ι ((J.jf.d p [])[k].2:Nat)):=by
 have n:p<J.jf.j:=by rw[h.hlen.2];exact o
 have x:p<P.hvs.j:=by rw[h.hlen.1];exact o
 have e:J.jf.d p []=J.jf[p]:=by simp[g_,n]
 rw[e];obtain⟨i,u,_⟩:=h.jf p n x;obtain⟨g,b,q⟩:=zq i;obtain⟨t,_⟩:=h.box.H;refine⟨g,b,?_,u,λk m=>?_⟩
 .rw[←q,t];obtain⟨z,A,D,B,C,v⟩:=five h.hlen.1;obtain rfl|rfl|rfl|rfl|rfl:p=0∨p=1∨p=2∨p=3∨p=4:=η
  all_goals simp[uL,v]
 obtain⟨a,r,d,_,l,c⟩:=yt i η;have f:=q.symm.A d;simp only[j_] at f;obtain⟨s,y⟩:=BL J.jf[p] k m;exact⟨a,f.1,l,uj i h.box θ (by rw[d];rfl),c _ _ s,c _ _ y⟩
def Le(J:zF)(h:Nat×Nat)(f:Nat):(qv J h f).1.jf=J.jf:=by unfold qv;split<;>rfl
def Rc(w:U)(x:Nat)(J:zF)(P:xP)(p f n:Nat)(Q:zF)(r:Option Nat)(h:UT lo w x J P)(C:lc n J p f=Z (Q,r)):
  c_ e_ 227 #[(π x),ι p,ι f] w λe w'=>e=ε (jJ r)/\UT lo w' x Q P/\zc [x] w w':=by
 have HJ:=U2 h;unfold lc at C;by_cases h5:p≥5
 .rw[zb (zh h5)] at C;simp only[zt,yk] at C;obtain⟨rfl,rfl⟩:=C;clear h;go_enter func227,ntmps227;go_wp2;go_ret2
  exact⟨rfl,HJ.l,zc.refl _ _⟩
 obtain⟨ao,au,D,S,ae⟩:=h.hold p η;clear ae;obtain⟨ap,aj,_⟩:=h.at;by_cases h0:(J.jf.d p []).j=0
 .rw[zb (zg h0)] at C;simp only[zt,yk] at C;obtain⟨rfl,rfl⟩:=C;clear h;generalize (J.jf.d p []).j=hn at *;subst h0;go_enter func227,ntmps227;go_wp2;go_ret2
  exact⟨rfl,HJ.l,zc.refl _ _⟩
 rw[za η] at C;have HR:=U2 C;clear C h;have G:(J.jf.d p []).j>0:=η;obtain⟨d,L⟩:∃d,d=J.jf.d p []:=⟨_,rfl⟩;rw[←L] at HR D S G;have ab:=U2 L;clear L;have al:((d.j:Int) == 0)=false:=beq_eq_false_iff_ne.2 η;go_enter func227,ntmps227;go_wp2;go_loopg [8,9,10] n (λk v8 v9 ad wr=>∃(y:zF) (at' c a:Nat),v8=ι at'/\v9=ι c/\ad=ι a/\X (gU k y d at' c a=Z (Q,r))/\X (UT lo wr x y P)/\X (y.jf=J.jf)/\zc [x] w wr/\c<=d.j/\a<d.j)
 case atStart=>exact⟨J,f,0,0,rfl,rfl,rfl,HR,HJ,rfl,zc.refl _ _,η,G⟩
 clear D;obtain⟨y,at',c,a,rfl,rfl,rfl,HQ,H,aa,u,an,T⟩:=hrel;have N:=H.l;obtain⟨ag,ai,_⟩:=N.at;obtain⟨av,ah,D,_,s⟩:=N.hold p η;rw[aa.l,←ab.l] at D s;obtain⟨hb,ac,am,ar,aq,ak⟩:=s a T;subst ac;clear s N;rcases gk with _|m;have q:=HQ.l;simp[gU] at q;have q:=HQ.l;unfold gU at q;by_cases V:c<d.j
 .rw[zb V] at q;have eg:d.d a (0,0)=d[a]:=by simp[g_,T]
  rw[eg] at q;have o:X (c_ e_ 229 #[(π x),.agg #[ι (d[a].1:Nat),ι (d[a].2:Nat)],ι at'] wr λe w'=>e=ε (.B #[ι (((qv y d[a] at').2.d 0:Nat):Int),.i (qv y d[a] at').2.I])/\UT lo w' x (qv y d[a] at').1 P/\zc [x] wr w'):=Oi wr x y P d[a].1 d[a].2 at' H.l;have I:=Le y d[a] at';generalize af:qv y d[a] at'=lj at *;clear af;obtain⟨M,r2⟩:=lj;generalize d[a]=hd at *;simp only at q o I;rcases r2 with _|v
  .simp only[zt,yk] at q;obtain⟨e1,e2⟩:=q;simp only[kV,kX] at o;have HE:X (Q=M/\r=Y):=⟨e1.symm,e2.symm⟩;clear e1 e2;go_wp2_with (go_at_call 229;refine o.l.y ?_;rintro e F ⟨rfl,b,l⟩;have j:=U2 b;clear b)
   go_ret2
   exact⟨by rw[HE.l.2];rfl,by rw[HE.l.1];exact j.l,u.A l⟩
  simp only[uF,jH] at o;have i:X (gU m M d (if v>at' then v else at') ((if v>at' then 0 else c)+1) (if a+1≥d.j then 0 else a+1)=Z (Q,r)):=q;have A:=U2 (I.A aa.l);have E:X (∀W,UT lo W x M P->∃t g,W.p (ω x (5+p))=Z (.k t d.j g)):=λW hW=>by
   obtain⟨t,g,q1,_⟩:=hW.hold p η;rw[A.l,←ab.l] at q1;exact⟨t,g,q1⟩
  clear q I;by_cases hv:v>at'
  .rw[zb hv,zb hv] at i;by_cases R:a+1≥d.j
   .rw[zb R] at i;go_wp2_with (go_at_call 229;refine o.l.y ?_;rintro e F ⟨rfl,b,l⟩;have j:=U2 b;obtain⟨t,g,K⟩:=E.l F b;obtain⟨B,z,_⟩:=b.at;clear b)
    go_roundg m
    case measure=>omega
    exact⟨M,v,1,0,rfl,rfl,rfl,i,j,A,u.A l,η,η⟩
   rw[za R] at i;go_wp2_with (go_at_call 229;refine o.l.y ?_;rintro e F ⟨rfl,b,l⟩;have j:=U2 b;obtain⟨t,g,K⟩:=E.l F b;obtain⟨B,z,_⟩:=b.at;clear b)
   go_roundg m
   case measure=>omega
   exact⟨M,v,1,a+1,rfl,rfl,ξ,i,j,A,u.A l,η,η⟩
  rw[za hv,za hv] at i;by_cases R:a+1≥d.j
  .rw[zb R] at i;go_wp2_with (go_at_call 229;refine o.l.y ?_;rintro e F ⟨rfl,b,l⟩;have j:=U2 b;obtain⟨t,g,K⟩:=E.l F b;obtain⟨B,z,_⟩:=b.at;clear b)
   go_roundg m
   case measure=>omega
   exact⟨M,at',c+1,0,rfl,ξ,rfl,i,j,A,u.A l,η,η⟩
  rw[za R] at i;go_wp2_with (go_at_call 229;refine o.l.y ?_;rintro e F ⟨rfl,b,l⟩;have j:=U2 b;obtain⟨t,g,K⟩:=E.l F b;obtain⟨B,z,_⟩:=b.at;clear b)
  go_roundg m
  case measure=>omega
  exact⟨M,at',c+1,a+1,rfl,ξ,ξ,i,j,A,u.A l,η,η⟩
 rw[za V] at q;simp only[zt,yk] at q;obtain⟨e1,e2⟩:=q;have HE:X (Q=y/\r=Z at'):=⟨e1.symm,e2.symm⟩;clear e1 e2;go_wp2;go_ret2
 exact⟨by rw[HE.l.2];rfl,by rw[HE.l.1];exact H.l,u⟩
def F3:∀(b:List V4) (k:Nat) (_:k<b.j) (u:O),(yH b).set (k*4+2) u=yH (b.modify k λy=>(y.1,y.2.1,u,y.2.2.2))
 |[],k,a,_=>by simp at a
 |y::r,0,_,u=>by simp[yH,lD]
 |y::r,k+1,a,u=>by
  have:=F3 r k (by simpa using a) u;simp only[yH,uZ,lD,l_] at this ⊢;rw[show(k+1)*4+2=k*4+2+1+1+1+1 from by omega];simpa using this
def Dj:∀(b:List V4) (k:Nat) (_:k<b.j) (u:O),(yH b).set (k*4+3) u=yH (b.modify k λy=>(y.1,y.2.1,y.2.2.1,u))
 |[],k,a,_=>by simp at a
 |y::r,0,_,u=>by simp[yH,lD]
 |y::r,k+1,a,u=>by
  have:=Dj r k (by simpa using a) u;simp only[yH,uZ,lD,l_] at this ⊢;rw[show(k+1)*4+3=k*4+3+1+1+1+1 from by omega];simpa using this
def UT.setNode{w:U}{B:Nat}{J:zF}{P:xP}(h:UT lo w B J P)(s i n:Nat)(hs:s<J.ja.j)(V:i=1∨i=2){l cap:Nat}(E:P.sv=.k (Z (δ l)) J.ja.j cap):
  UT lo (w.x (ω l (s*4+1+i)) (ι n)) B {J with ja:=J.ja.set s {J.ja[s] with B:=J.ja[s].B.set i n}} P:=by
 have c:=zc.set w l (s*4+1+i) (ι n);have d:=h.ja;rw[E] at d;have Q:s<P.tbs.j:=by rw[h.slen];exact hs
 have f:=h.B _ (zr hs);have m:∀{H:Nat} {e:f_} {M:Nat} {v:O} {I:Nat} {L:Γ},w.r H e M v I L->e≠323->∀b,v.m=Z b->b∉[l]:=λN K b t g=>mG N d K t (by simp at g;rw[g];rfl);obtain⟨r,o⟩:=sD d;have u:∀{D:Nat} {T:zm} {z:Φ},yc lo w D T z->yc lo (w.x (ω l (s*4+1+i)) (ι n)) D T z:=λy=>y.save c (λb F g=>by simp at g;subst g;exact y.notin (show U3 w _ r 323 from o) θ θ θ F);refine⟨h.low,h.box.save c (by have:=uj d h.box θ rfl;simpa using n_ this),h.g.save c (m h.g.own θ),?_,by simpa using h.slen,λk a b=>?_,λx R=>?_,yd h.bars c (m h.bars θ),h.blen,λk a b=>⟨(h.jk k a b).1.save c (m (h.jk k a b).1.own θ),u (h.jk k a b).2⟩,h.hlen,λp a b=>⟨yd (h.jf p a b).1 c (m (h.jf p a b).1 θ),(h.jf p a b).2⟩,h.jl,by simpa using h.M⟩;have A:(yH (h_ f8 J.ja P.tbs)).j=J.ja.j*4:=by rw[eL];simp[h.slen]
 have q:=um d (s*4+1+i) η (ι n);rw[E];have e:(yH (h_ f8 J.ja P.tbs)).set (s*4+1+i) (ι n)=yH (h_ f8 (J.ja.set s {J.ja[s] with B:=J.ja[s].B.set i n}) P.tbs):=by
  have C:s<(h_ f8 J.ja P.tbs).j:=by simp;omega
  rcases V with rfl|rfl;rw[show s*4+1+1=s*4+2 from by omega,F3 _ s C];congr 1;apply qR;simp;intro j G S;by_cases e:s=j;subst e;simp[f8,g_,f];simp[e];rw[show s*4+1+2=s*4+3 from by omega,Dj _ s C];congr 1;apply qR;simp;intro j G S;by_cases e:s=j;subst e;simp[f8,g_,f];simp[e]
 rw[e] at q;simpa using q;simp only[dG] at a;simp only[fG];split;rename_i e;subst e;exact u (h.tries s hs b);exact u (h.tries k a b);rcases mA R with q|q;exact h.B x q;subst q;simp[f]
def S4(w:U)(C:Nat)(J:zF)(P:xP)(s l v:Nat)(h:UT lo w C J P)(aq:l<=1000000):
  c_ e_ 230 #[(π C),.agg #[ι s,ι l],ι v] w λe w'=>e=ε (.B #[])/\UT lo w' C (vR v J (s,l)) P/\zc P.sv.m.toList w w':=by
 have j:=U2 λW hW=>GR W C J P s l (h.u hW);have HJ:=U2 h;cases b:qk J (s,l)
 .have S:X (vR v J (s,l)=J):=by simp[X,vR,b]
  rw[b] at j;clear b h;go_enter func230,ntmps230;go_wp2_with (go_at_call 231;refine(j.l _ γ).y ?_;rintro e f ⟨rfl,g⟩;have c:μ w f:=zJ γ g (ze _))
  (try simp only[p_,Exit.then]);refine zP (results_none rfl _ _ _) rfl ?_
  exact⟨rfl,by rw[S.l];exact HJ.l.u c,zc.of c⟩
 have ae:s<J.ja.j/\l<3:=by simpa [qk] using b
 obtain⟨E,hl⟩:=ae;by_cases H:l+1≥3
 .have S:X (vR v J (s,l)=J):=by simp[X,vR,H]
  rw[b] at j;clear b h;go_enter func230,ntmps230;go_wp2_with (go_at_call 231;refine(j.l _ γ).y ?_;rintro e f ⟨rfl,g⟩;have c:μ w f:=zJ γ g (ze _);have m:=(U3.new w #[ι s,ι l] 327).u g;obtain⟨t,A,x⟩:=m.I)
  (try simp only[p_,Exit.then]);refine zP (results_none rfl _ _ _) rfl ?_
  exact⟨rfl,by rw[S.l];exact HJ.l.u c,zc.of c⟩
 have S:X (vR v J (s,l)={J with ja:=J.ja.set s {J.ja[s] with B:=J.ja[s].B.set (l+1) ((zK J.ja[s].rows (J.ja[s].B.d l 0) v).d 0)}}):=by simp[X,vR,b,H,g_,E]
 rw[b] at j;have ar:(s:Int)<(J.ja.j:Int):=η;have au:(l:Int)<3:=η;have ao:(l:Int)+1<3:=η;obtain⟨ap,_⟩:=h.at;clear b h;go_enter func230,ntmps230;go_wp2_with (go_at_call 231;refine(j.l _ γ).y ?_;rintro e f ⟨rfl,g⟩;have c:μ w f:=zJ γ g (ze _);have m:=(U3.new w #[ι s,ι l] 327).u g;obtain⟨t,A,x⟩:=m.I)
 have i:=U2 (HJ.l.u c);have B:=i.l;obtain⟨r,L,_,_,_,z,_⟩:=B.at;obtain⟨D,ax,tb,fp,k,G,aw,ag,ah,N,af⟩:=B.side s l E hl;rw[k] at z;have R:X (∀n,c_ e_ 130 #[(π tb),ι ((J.ja[s].B.d l 0:Nat):Int),ι v] (f.drewN n) λe w'=>e=ε (.B #[ι (((zK J.ja[s].rows (J.ja[s].B.d l 0) v).d 0:Nat):Int),.i (zK J.ja[s].rows (J.ja[s].B.d l 0) v).I])/\w'=f.drewN n):=λn=>pH _ tb _ fp _ v (N.u (zG (zn _ _) n));have I:X (∀W n,μ f W->UT lo (W.x ⟨D,s*4+1+(l+1),Y⟩ (ι ((n:Nat):Int))) C {J with ja:=J.ja.set s {J.ja[s] with B:=J.ja[s].B.set (l+1) n}} P):=λW n hW=>(i.l.u hW).setNode s (l+1) n E η k;have ab:X (P.sv.m.toList=[D]):=by rw[X,k];rfl
 have y:∃u,f.p ⟨D,s*4+1+(l+1),Y⟩=Z u:=by
  obtain⟨ac,V,ad,ai,a,_,_,_,q,_⟩:=i.l.side s (l+1) E η;rw[k] at a;simp only[j_,zt,Addr.mk.injEq] at a;obtain⟨⟨rfl,_⟩,_⟩:=a;exact⟨_,q⟩
 obtain⟨u,T⟩:=y;clear N B;generalize (zK J.ja[s].rows (J.ja[s].B.d l 0) v).d 0=dn at *;generalize (zK J.ja[s].rows (J.ja[s].B.d l 0) v).I=ds at *;generalize J.ja[s].B.d l 0=nd at *;go_quiet ((go_at_call 130;exact c_.quiet_of_same (R.l _)))
 have d:μ f (f.drewN nq):=zG (zn _ _) _;clear t A x r L af R;have an:=(d.cell (p:=(ω C 3)) (i.l.box.lt)).A z;have am:=zi d G T;have K:=m.u d;have F:=I.l _ dn d;have al:∀o,(f.drewN nq).frozen? (ω D o)=false:=by
  obtain⟨ac,V,ad,ai,a,_,_,_,_,_,q⟩:=(i.l.u d).side s l E hl;rw[k] at a;simp only[j_,zt,Addr.mk.injEq] at a;obtain⟨⟨rfl,_⟩,_⟩:=a;exact q
 have aa:zc [D] w (f.drewN nq):=zc.of (U6 c d);have ak:=yh G d.q;have r:=yh i.l.box.lt d.q;have av:D≠w.o.q:=λe=>by
  have Q:=i.l.ja;rw[k] at Q;exact uj Q m θ rfl e
 generalize f.drewN nq=w2 at *;have aj:=U2 F;clear F I z T ag ah m HJ j;obtain⟨t,A,x⟩:=K.I;go_wp2;go_region
 all_goals
  go_wp2;go_end0
  exact⟨rfl,by rw[S.l];exact aj.l.u (zn _ _).drew,by rw[ab.l];exact(aa.A (zc.set _ _ _ _)).newer (zc.of (M:=[]) (zn _ _).drew) ζ⟩
end
section
open Go.Proofs.Tryz
variable {lo:Nat}{w:U}{jb:Nat}{J:zF}{P:xP}
def UT.hold2(h:UT lo w jb J P)(p:Nat)(q:p<5):∃c a,P.hvs[p]?=Z (.k c (J.jf.d p []).j a)/\w.p (ω jb (5+p))=Z (.k c (J.jf.d p []).j a)/\(J.jf.d p []).j<=1000/\(∀k (g:k<(J.jf.d p []).j),∃b,c=Z (δ b)/\b<w.o.q/\w.p (ω b (k*2))=Z (ι ((J.jf.d p [])[k].1:Nat))/\w.p (ω b (k*2+1))=Z (ι ((J.jf.d p [])[k].2:Nat))/\(J.jf.d p [])[k].2<=1000000):=by
 have n:p<J.jf.j:=by rw[h.hlen.2];exact q
 have r:p<P.hvs.j:=by rw[h.hlen.1];exact q
 have e:J.jf.d p []=J.jf[p]:=by simp[g_,n]
 rw[e];obtain⟨o,v,i⟩:=h.jf p n r;obtain⟨c,a,l⟩:=zq o;obtain⟨u,_⟩:=h.box.H;refine⟨c,a,by rw[yn r,l],?_,v,λk g=>?_⟩
 .rw[←l,u];obtain⟨z,A,D,B,C,x⟩:=five h.hlen.1;obtain rfl|rfl|rfl|rfl|rfl:p=0∨p=1∨p=2∨p=3∨p=4:=η
  all_goals simp[uL,x]
 obtain⟨b,s,j,_,m,d⟩:=yt o η;have f:=l.symm.A j;simp only[j_] at f;obtain⟨t,y⟩:=BL J.jf[p] k g;exact⟨b,f.1,m,d _ _ t,d _ _ y,(i _ (zr g)).2⟩
def fd(J:zF)(p v:Nat):zF:={J with P:=J.P.set p v,«from»:=(if p+1<5 then(J.from.set p (v+1)).set (p+1) 0 else J.from.set p (v+1))}
def OT(J:zF)(p v:Nat)(a:p<5):uG J p v=(J.jf.d p []).H (vR v) (fd J p v):=by unfold uG;rw[za η];rfl
def UT.setVal(h:UT lo w jb J P)(p v:Nat)(e:p+1<5):UT lo (((w.x (ω jb (16+p)) (ι v)).x (ω jb (21+p)) (ι ((v:Int)+1))).x ⟨jb,21+(p+1),Y⟩ (ι 0)) jb (fd J p v) P:=by
 obtain⟨a,b,c⟩:=h.jl;refine h.rebox (((zc.set _ _ _ _).A (zc.set _ _ _ _)).A (zc.set _ _ _ _)) ?_ rfl rfl rfl rfl rfl (by simp[fd,e,a,b,c]);obtain⟨m,s,x,t,u,i⟩:=five h.hlen.1;obtain⟨o,D,q,r,l,g⟩:=five a;obtain⟨G,E,n,F,A,f⟩:=five b;obtain⟨B,z,C,k,y,j⟩:=five c;have d:=((h.box.set (16+p) (ι v)).set (21+p) (ι ((v:Int)+1))).set (21+(p+1)) (ι 0);obtain rfl|rfl|rfl|rfl:p=0∨p=1∨p=2∨p=3:=η
 all_goals simpa [uL,fd,i,g,f,j,Vg] using d
def UT.setVal4(h:UT lo w jb J P)(p v:Nat)(x:p<5)(u:¬p+1<5):UT lo ((w.x (ω jb (16+p)) (ι v)).x (ω jb (21+p)) (ι ((v:Int)+1))) jb (fd J p v) P:=by
 obtain rfl:p=4:=η;obtain⟨a,b,c⟩:=h.jl;refine h.rebox ((zc.set _ _ _ _).A (zc.set _ _ _ _)) ?_ rfl rfl rfl rfl rfl (by simp[fd,a,b,c]);obtain⟨l,r,y,s,t,g⟩:=five h.hlen.1;obtain⟨n,E,o,q,k,f⟩:=five a;obtain⟨H,F,m,G,B,e⟩:=five b;obtain⟨C,A,D,j,z,i⟩:=five c;have d:=(h.box.set (16+4) (ι v)).set (21+4) (ι ((v:Int)+1));simpa [uL,fd,g,f,e,i,Vg] using d
def JU(v:Nat)(J:zF)(h:Nat×Nat):(vR v J h).jf=J.jf:=by unfold vR;split<;>rfl
def Hg(v:Nat):∀(hs:List (Nat×Nat)) (J:zF),(hs.H (vR v) J).jf=J.jf
 |[],J=>rfl
 |h::r,J=>by rw[uQ,Hg v r,JU]
def UT.vals(h:UT lo w jb J P)(p:Nat)(u:p<5):w.p (ω jb (16+p))=Z (ι (J.P.d p 0:Nat))/\w.p (ω jb (21+p))=Z (ι (J.from.d p 0:Nat))/\w.p (ω jb (10+p))=Z (ι (J.ji.d p 0)):=by
 obtain⟨a,_⟩:=h.box.H;obtain⟨b,f,i⟩:=h.jl;obtain⟨l,r,v,s,t,e⟩:=five h.hlen.1;obtain⟨n,C,o,q,k,d⟩:=five b;obtain⟨F,D,m,E,z,c⟩:=five f;obtain⟨A,y,B,j,x,g⟩:=five i;rw[a,a,a];obtain rfl|rfl|rfl|rfl|rfl:p=0∨p=1∨p=2∨p=3∨p=4:=η
 all_goals simp[uL,e,d,c,g,Vg]
def Ly(w:U)(jb:Nat)(J:zF)(P:xP)(p v:Nat)(h:UT lo w jb J P)(hv:v<=1000000):
  c_ e_ 228 #[(π jb),ι p,ι v] w λe t=>e=ε (.B #[])/\UT lo t jb (uG J p v) P/\zc (jb::P.sv.m.toList) w t:=by
 have HJ:=U2 h;by_cases N:p<5
 .have z:=U2 (OT J p v N);obtain⟨K,D,_⟩:=h.at;obtain⟨s,u,_⟩:=h.vals p N;by_cases G:p+1<5;obtain⟨_,I,_⟩:=h.vals (p+1) G;have L:(p:Int)<5:=η;have F:(p:Int)+1<5:=η;have j:=h.setVal p v G;have m:zc [jb] w (((w.x (ω jb (16+p)) (ι v)).x (ω jb (21+p)) (ι ((v:Int)+1))).x ⟨jb,21+(p+1),Y⟩ (ι 0)):=((zc.set _ _ _ _).A (zc.set _ _ _ _)).A (zc.set _ _ _ _);clear h;go_enter func228,ntmps228;go_upto_region 5 with fail
  clear s u I;generalize (((w.x (ω jb (16+p)) (ι v)).x (ω jb (21+p)) (ι ((v:Int)+1))).x ⟨jb,21+(p+1),Y⟩ (ι 0))=w1 at *;rotate_left
  have L:(p:Int)<5:=η;have F:¬(p:Int)+1<5:=η;have j:=h.setVal4 p v N G;have m:zc [jb] w ((w.x (ω jb (16+p)) (ι v)).x (ω jb (21+p)) (ι ((v:Int)+1))):=(zc.set _ _ _ _).A (zc.set _ _ _ _);clear h;go_enter func228,ntmps228;go_upto_region 5 with fail
  clear s u;generalize ((w.x (ω jb (16+p)) (ι v)).x (ω jb (21+p)) (ι ((v:Int)+1)))=w1 at *
  all_goals
   have g:=U2 j;clear j K D;obtain⟨ao,af,c,f,d,_⟩:=g.l.hold2 p η;obtain⟨n,y,_⟩:=g.l.at;rw[show(fd J p v).jf=J.jf from rfl] at c f d;obtain⟨a,l⟩:∃a,a=J.jf.d p []:=⟨_,rfl⟩;rw[←l] at c f d z;have Q:=U2 l;have B:=U2 c;clear l c;go_wp2;clear f n y;generalize decide ((p:Int)<0)=ad;generalize decide ((5:Int)<=(p:Int))=ac;go_loopw [43] (λS wr=>∃k:Nat,k<=a.j/\S=ι k/\X (UT lo wr jb ((a.G k).H (vR v) (fd J p v)) P)/\zc (jb::P.sv.m.toList) w wr) (λi _=>a.j-(d_ i).D);exact⟨0,zs _,rfl,g,m.more ζ⟩;obtain⟨k,hk,rfl,b,r⟩:=hrel;by_cases q:k<a.j
   .obtain⟨ag,V,A,_,_,H⟩:=b.l.hold2 p η;rw[Hg,show(fd J p v).jf=J.jf from rfl,←Q.l] at A H;rw[B.l] at A;simp only[zt,j_] at A;obtain⟨rfl,_,rfl⟩:=A;obtain⟨hb,rfl,ab,ae,aa,R⟩:=H k q;have HS:=U2 (tx a (vR v) (fd J p v) k q);have HD:X (∀W,μ wr W->c_ e_ 230 #[(π jb),.agg #[ι (a[k].1:Nat),ι (a[k].2:Nat)],ι v] W λe t=>e=ε (.B #[])/\UT lo t jb (vR v ((a.G k).H (vR v) (fd J p v)) a[k]) P/\zc P.sv.m.toList W t):=λW hW=>S4 W jb _ P a[k].1 a[k].2 v (b.l.u hW) R;clear H;generalize (a.G k).H (vR v) (fd J p v)=Jk at *;generalize a[k]=hd at *;go_wp2_with (go_at_call 230;refine(HD.l _ γ).y ?_;rintro e w2 ⟨rfl,o,T⟩;have C:=U2 o;clear o;have E:=(zc.of (M:=P.sv.m.toList) (show μ wr _ from γ)).A T)
    go_roundw;exact⟨k+1,η,ξ,by rw[HS.l];exact C.l,r.A (E.more (λx hx=>pf _ hx))⟩;simp[d_];omega
   obtain rfl:k=a.j:=η;rw[ve] at b;go_wp2;go_end0
   exact⟨rfl,by rw[z.l];exact b.l,r⟩
 have z:X (uG J p v=J):=by unfold uG;rw[X,zb η]
 clear h;go_enter func228,ntmps228;go_wp2
 (try simp only[p_,Exit.then]);refine zP (results_none rfl _ _ _) rfl ?_
 exact⟨rfl,by rw[z.l];exact HJ.l,zc.refl _ _⟩
end
section
open Go.Proofs.Tryz
variable {lo:Nat}
def UT.bar{w:U}{t:Nat}{J:zF}{P:xP}(h:UT lo w t J P)(k:Nat)(m:k<J.bars.j):
  ∃c d b a o r,P.bv=.k (Z (δ c)) J.bars.j d/\c<w.o.q/\w.p (ω c (k*4))=Z (ι (J.bars[k].lit.o:Nat))/\w.p (ω c (k*4+1))=Z (.k b J.bars[k].lit.v.j a)/\w.p (ω c (k*4+2))=Z (ι (J.bars[k].je:Nat))/\w.p (ω c (k*4+3))=Z ((π o))/\yx lo w (.k b J.bars[k].lit.v.j a) J.bars[k].lit.v/\yc lo w o J.bars[k].rows r:=by
 obtain⟨c,d,s,_,i,f⟩:=yt h.bars η;have j:k<P.bps.j:=by rw[h.blen];exact m
 obtain⟨n,l,p,q⟩:=tF (h_ dA J.bars P.bps) k υ;simp only[q_,dA] at n l p q;obtain⟨g,u⟩:=h.jk k m j;obtain⟨b,a,e⟩:=g.qm;rw[e] at l g;exact⟨c,d,b,a,_,_,s,i,f _ _ n,f _ _ l,f _ _ p,f _ _ q,g,u⟩
def Rw(l:zx)(vals:Φ):zI l vals=[U5 l vals 0,U5 l vals 1,U5 l vals 2]:=rfl
def Ge(w:U)(n:Nat)(J:zF)(P:xP)(l:Nat)(h:UT lo w n J P):
  c_ e_ 223 #[(π n),ι l] w λe m=>e=ε (.i (vx J l))/\μ w m:=by
 have HJ:=U2 h;obtain⟨E,H,_,_,_,_,R,_⟩:=h.at;obtain⟨aG,a8,K⟩:=zq h.bars;rw[K] at R;obtain⟨a,b,c,d,e,s⟩:=five h.jl.2.1;have a9:=h.M.2.1;have HV:X (∀W,UT lo W n J P->W.p ⟨n,16,Y⟩=Z (ι a)/\W.p ⟨n,17,Y⟩=Z (ι b)/\W.p ⟨n,18,Y⟩=Z (ι c)/\W.p ⟨n,19,Y⟩=Z (ι d)/\W.p ⟨n,20,Y⟩=Z (ι e)):=λW o=>by
  have q0:=(o.vals 0 η).1;have q1:=(o.vals 1 η).1;have q2:=(o.vals 2 η).1;have q3:=(o.vals 3 η).1;have q4:=(o.vals 4 η).1;rw[s] at q0 q1 q2 q3 q4;exact⟨q0,q1,q2,q3,q4⟩
 have HE:X (vx J l=J.bars.any (λx=>x.je == l&&(ud x.rows [U5 x.lit [a,b,c,d,e] 0,U5 x.lit [a,b,c,d,e] 1,U5 x.lit [a,b,c,d,e] 2]).I)):=by
  rw[X];unfold vx;rw[s];rfl
 clear h;go_enter func223,ntmps223;go_wp2;clear R E H;go_loopw [15] (λay wr=>∃k:Nat,k<=J.bars.j/\ay=ι k/\X ((J.bars.G k).any (λx=>x.je == l&&(ud x.rows [U5 x.lit [a,b,c,d,e] 0,U5 x.lit [a,b,c,d,e] 1,U5 x.lit [a,b,c,d,e] 2]).I)=false)/\μ w wr) (λi _=>J.bars.j-(d_ i).D);exact⟨0,zs _,rfl,rfl,zn _ _⟩;obtain⟨k,hk,rfl,HA,j⟩:=hrel;have N:=j.q;by_cases G:k<J.bars.j
 .have u:=HJ.l.u j;obtain⟨E,H,_⟩:=u.at;obtain⟨ap,ac,ar,au,aq⟩:=HV.l wr u;obtain⟨gb,aK,t,g,tb,fp,p,aI,af,ak,ah,al,hT,I⟩:=u.bar k G;rw[K] at p;simp only[j_] at p;obtain⟨rfl,_,rfl⟩:=p;have HS:X ((J.bars.G (k+1)).any (λx=>x.je == l&&(ud x.rows [U5 x.lit [a,b,c,d,e] 0,U5 x.lit [a,b,c,d,e] 1,U5 x.lit [a,b,c,d,e] 2]).I)=((J.bars.G k).any (λx=>x.je == l&&(ud x.rows [U5 x.lit [a,b,c,d,e] 0,U5 x.lit [a,b,c,d,e] 1,U5 x.lit [a,b,c,d,e] 2]).I)||(J.bars[k].je == l&&(ud J.bars[k].rows [U5 J.bars[k].lit [a,b,c,d,e] 0,U5 J.bars[k].lit [a,b,c,d,e] 1,U5 J.bars[k].lit [a,b,c,d,e] 2]).I))):=Vv J.bars _ k G;have a1:X ((J.bars[k].je == l&&(ud J.bars[k].rows [U5 J.bars[k].lit [a,b,c,d,e] 0,U5 J.bars[k].lit [a,b,c,d,e] 1,U5 J.bars[k].lit [a,b,c,d,e] 2]).I)=true->vx J l=true):=λq=>by rw[HE.l];exact DG J.bars _ k G q
  have am:X (∀W,μ wr W->c_ e_ 161 #[.agg #[ι (J.bars[k].lit.o:Nat),.k t J.bars[k].lit.v.j g],.agg #[ι a,ι b,ι c,ι d,ι e]] W λr m=>r=ε (.agg #[ι ((U5 J.bars[k].lit [a,b,c,d,e] 0:Nat):Int),ι ((U5 J.bars[k].lit [a,b,c,d,e] 1:Nat):Int),ι ((U5 J.bars[k].lit [a,b,c,d,e] 2:Nat):Int)])/\μ W m):=λW o=>Bb W _ J.bars[k].lit.o J.bars[k].lit.v a b c d e (hT.u o);have M:X (∀W x y z,μ wr W->c_ e_ 83 #[(π tb),.agg #[ι ((x:Nat):Int),ι ((y:Nat):Int),ι ((z:Nat):Int)]] W λr m=>r=ε (.B #[ι (((ud J.bars[k].rows [x,y,z]).d 0:Nat):Int),.i (ud J.bars[k].rows [x,y,z]).I])/\μ W m):=λW x y z o=>Hz W tb _ fp x y z (I.u o);clear hT I u;generalize J.bars[k]=f at *;generalize U5 f.lit [a,b,c,d,e] 0=r0 at *;generalize U5 f.lit [a,b,c,d,e] 1=r1 at *;generalize U5 f.lit [a,b,c,d,e] 2=r2 at *;by_cases Q:f.je=l
  .subst Q;have aa:=U2 λW o=>M.l W r0 r1 r2 o;clear M;generalize (ud f.rows [r0,r1,r2]).d 0=mg at *;generalize (ud f.rows [r0,r1,r2]).I=ms at *;have a0:((f.je:Int) == (f.je:Int))=true:=beq_self_eq_true _;have B:=U3.new wr #[ι f.lit.o,.k t f.lit.v.j g,ι f.je,(π tb)] 325;have A:μ wr (wr.C (.E #[ι f.lit.o,.k t f.lit.v.j g,ι f.je,(π tb)] 325)):=(zn _ _).C (ze _) _;have D:=HJ.l.u (U6 j A);obtain⟨aB,aC,_⟩:=D.at;obtain⟨av,ax,ai,ao,az⟩:=HV.l _ D;clear D;go_wp2;generalize wr.C (.E #[ι f.lit.o,.k t f.lit.v.j g,ι f.je,(π tb)] 325)=wA at *;clear af ak ah al ap ac ar au aq E H;obtain⟨aE,aH,aL⟩:=B.I;have aJ:=A.q;go_region_held3 (λm=>m.p ⟨wr.o.q,0,Y⟩=Z (ι f.lit.o)/\m.p ⟨wr.o.q,1,Y⟩=Z (.k t f.lit.v.j g)/\m.p ⟨n,16,Y⟩=Z (ι a)/\m.p ⟨n,17,Y⟩=Z (ι b)/\m.p ⟨n,18,Y⟩=Z (ι c)/\m.p ⟨n,19,Y⟩=Z (ι d)/\m.p ⟨n,20,Y⟩=Z (ι e)) (first|go_keep|(go_simp;done)) (first|(go_at_call 161;refine(am.l _ γ).y ?_;rintro r w2 ⟨rfl,S⟩;have v:μ wA w2:=(zJ γ S (ze _));have L:=B.u v;obtain⟨aD,a5,a6⟩:=L.I;have aM:=v.q;have V:=HJ.l.u (U6 (U6 j A) v);obtain⟨a2,aA,_⟩:=V.at;obtain⟨aw,ag,ae,aj,an⟩:=HV.l w2 V;try (have ab:=(show U3 ((wA.C (.E #[ι 0,ι 0,ι 0] 165)).drew) wA.o.q #[ι 0,ι 0,ι 0] 165 from U3.drew (U3.new _ _ _)).u S;obtain⟨a3,a4,a7⟩:=ab.I)))
   all_goals
    have aF:=U6 A v;clear aw ag ae aj an av ax ai ao az;cases ms
    .have T:X ((J.bars.G (k+1)).any (λx=>x.je == f.je&&(ud x.rows [U5 x.lit [a,b,c,d,e] 0,U5 x.lit [a,b,c,d,e] 1,U5 x.lit [a,b,c,d,e] 2]).I)=false):=by rw[X,HS.l,HA.l];simp
     go_wp2_with (go_at_call 83;refine(aa.l _ γ).y ?_;rintro r w3 ⟨rfl,C⟩;have F:μ wr w3:=(zJ γ C (ze _)))
     go_roundw;exact⟨k+1,η,ξ,T,U6 j F⟩;simp[d_];omega
    have ad:=U2 (a1.l ζ);go_wp2_with (go_at_call 83;refine(aa.l _ γ).y ?_;rintro r w3 ⟨rfl,C⟩;have F:μ wr w3:=(zJ γ C (ze _)))
    go_ret;exact⟨by rw[ad.l];rfl,U6 j F⟩
  have T:X ((f.je == l&&(ud f.rows [r0,r1,r2]).I)=false):=by rw[X,beq_eq_false_iff_ne.2 Q];rfl
  have a0:((f.je:Int) == (l:Int))=false:=beq_eq_false_iff_ne.2 η;go_wp2;go_roundw;exact⟨k+1,η,ξ,by rw[HS.l,HA.l,T.l];rfl,j.C N _⟩;simp[d_];omega
 have T:X (vx J l=false):=by
  rw[X,HE.l];have q:=HA.l;rw[yO η] at q;exact q
 go_wp2;go_ret;exact⟨by rw[T.l];rfl,j⟩
end
section
open Go.Proofs.Tryz
variable {lo:Nat}{J:zF}
def VG(J:zF):Prop:=∀s∈J.ja,s.rows.r<=1000
def UT.narrow{w:U}{d:Nat}{P:xP}(h:UT lo w d J P):VG J:=by
 intro s b;obtain⟨k,a,rfl⟩:=uT b;obtain⟨e,f,c,_⟩:=h.tries k a (by rw[h.slen];exact a);exact c.wide
def JB(h:VG J)(b:Nat×Nat)(f:Nat):VG (qv J b f).1/\∀v,(qv J b f).2=Z v->v<=1000/\f<=1000:=by
 unfold qv;split;rename_i d;refine⟨h,λv a=>?_⟩;have c:b.1<J.ja.j:=by simp[qk] at d;exact d.1
 have e:J.ja.d b.1 xa.zero=J.ja[b.1]:=by simp[g_,c]
 simp only[e] at a;have i:=h _ (zr c);have g:=eC a;have j:f<J.ja[b.1].rows.r:=by
  unfold yJ at a;split at a;rename_i q;exact q.2;cases a
 omega;exact⟨h,λv a=>by cases a⟩
def C8:∀(n:Nat) (J:zF) (hs:List (Nat×Nat)) (a b c:Nat) (e:zF) (v:Nat),VG J->(b<hs.j∨a<=1000)->gU n J hs a b c=Z (e,Z v)->v<=1000
 |0,_,_,_,_,_,_,_,_,_,h=>by simp[gU] at h
 |n+1,J,hs,a,b,c,e,v,g,m,h=>by
  unfold gU at h;by_cases d:b<hs.j
  .rw[zb d] at h;obtain⟨i,k⟩:=JB g (hs.d c (0,0)) a;generalize qv J (hs.d c (0,0)) a=j at *;obtain⟨f,l⟩:=j;cases l with
   |none=>simp at h
   |some u=>
    obtain⟨p,o⟩:=k u rfl;refine C8 n f hs _ _ _ e v i (zg ?_) h;split<;>omega
  .rw[za d] at h;simp only[zt,yk] at h;obtain⟨_,rfl⟩:=h;omega
def Se{n:Nat}{a:zF}{p f v:Nat}(c:VG J)(h:lc n J p f=Z (a,Z v)):v<=1000:=by
 unfold lc at h;by_cases b:p≥5∨(J.jf.d p []).j=0;rw[zb b] at h;simp at h;rw[za b] at h;exact C8 n J _ f 0 0 a v c (zh η) h
def KM(w:U)(d:Nat)(J:zF)(P:xP)(n:Nat)(B:zF)(b:Bool)(h:UT lo w d J P)(Q:jR n J J.ql=Z (B,b)):
  c_ e_ 224 #[(π d)] w λe z=>e=ε (.i b)/\UT lo z d B P/\zc (d::P.sv.m.toList) w z:=by
 have HJ:=U2 h;have HR:=U2 Q;obtain⟨H,F,_,_,_,_,_,_,K,_⟩:=h.at;clear h Q;go_enter func224,ntmps224;go_wp2;clear K H F;go_loopg [3] n (λk v3 wr=>∃(i:zF) (o:Int),v3=ι o/\X (jR k i o=Z (B,b))/\X (UT lo wr d i P)/\zc (d::P.sv.m.toList) w wr)
 case atStart=>exact⟨J,J.ql,rfl,HR,HJ,zc.refl _ _⟩
 obtain⟨i,o,rfl,HQ,c,j⟩:=hrel;obtain⟨H,F,_,_,ac,_⟩:=c.l.at;have aa:=c.l.M.2.2;rcases gk with _|m;have q:=HQ.l;simp[jR] at q;have q:=HQ.l;unfold jR at q;by_cases f:0<=o/\o<i.m/\o<5
 .rw[zb f] at q;obtain⟨d1,d2,d3⟩:=f;obtain⟨p,rfl⟩:∃p:Nat,o=p:=⟨o.D,η⟩;have I:p<5:=η;simp only[Int.toNat_natCast] at q;obtain⟨_,ad,ab⟩:=c.l.vals p I;rcases D:lc m i p (i.from.d p 0) with _|ar;rw[D] at q;cases q;obtain⟨g,L⟩:=ar;rw[D] at q;have x:X (c_ e_ 227 #[(π d),ι p,ι ((i.from.d p 0:Nat):Int)] wr λe z=>e=ε (.B #[ι ((L.d 0:Nat):Int),.i L.I])/\UT lo z d g P/\zc [d] wr z):=Rc wr d i P p _ m g L c.l D;rcases L with _|v
  .simp only[kV,kX] at x;have l:X (jR m g (g.ji.d p 0)=Z (B,b)):=q;clear q D;generalize i.from.d p 0=fr at *;go_wp2_with (go_at_call 227;refine x.l.y ?_;rintro e w2 ⟨rfl,a,y⟩;have r:=U2 a;obtain⟨R,V,_⟩:=a.at;obtain⟨_,_,T⟩:=a.vals p I;clear a)
   go_roundg m
   case measure=>omega
   exact⟨g,g.ji.d p 0,rfl,l,r,j.A (y.more ζ)⟩
  have hv:=Se c.l.narrow D;simp only[uF,jH] at x;have l:X (jR m (uG g p v) (if vx (uG g p v) (p+1)=true then(p:Int) else(p:Int)+1)=Z (B,b)):=q;clear q D;have E:=U2 λW (N:UT lo W d g P)=>Ly W d g P p v N η;have G:X (∀W,UT lo W d (uG g p v) P->c_ e_ 223 #[(π d),ι ((p:Int)+1)] W λe z=>e=ε (.i (vx (uG g p v) (p+1)))/\μ W z):=λW N=>by
   have q:=Ge W d _ P (p+1) N;rw[show((p+1:Nat):Int)=(p:Int)+1 from by omega] at q;exact q
  generalize i.from.d p 0=fr at *;generalize vx (uG g p v) (p+1)=bb at *;generalize uG g p v=S at *;cases bb
  .rw[za ζ] at l;go_wp2_with (first|(go_at_call 227;refine x.l.y ?_;rintro e w2 ⟨rfl,a,y⟩;have r:=U2 a;clear a)|(go_at_call 228;refine(E.l _ r.l).y ?_;rintro e w3 ⟨rfl,s,A⟩;have u:=U2 s;clear s)|(go_at_call 223;refine(G.l _ u.l).y ?_;rintro e w4 ⟨rfl,t⟩))
   go_roundg m
   case measure=>omega
   exact⟨S,(p:Int)+1,rfl,l,u.l.u t,((j.A (y.more ζ)).A A).newer (zc.of (M:=[]) t) ζ⟩
  rw[zb rfl] at l;go_wp2_with (first|(go_at_call 227;refine x.l.y ?_;rintro e w2 ⟨rfl,a,y⟩;have r:=U2 a;clear a)|(go_at_call 228;refine(E.l _ r.l).y ?_;rintro e w3 ⟨rfl,s,A⟩;have u:=U2 s;clear s)|(go_at_call 223;refine(G.l _ u.l).y ?_;rintro e w4 ⟨rfl,t⟩))
  go_roundg m
  case measure=>omega
  exact⟨S,p,rfl,l,u.l.u t,((j.A (y.more ζ)).A A).newer (zc.of (M:=[]) t) ζ⟩
 rw[za f] at q;simp only[zt,yk] at q;obtain⟨e1,e2⟩:=q;have C:X (B=i/\b=decide (o≥i.m)):=⟨e1.symm,e2.symm⟩;clear e1 e2;by_cases g1:0<=o
 .by_cases g2:o<(i.m:Int)
  .have g3:¬o<5:=η;go_wp2;go_ret;exact⟨by rw[C.l.2];first|(simp;done)|(simp;omega),by rw[C.l.1];exact c.l,j⟩
  go_wp2;go_ret;exact⟨by rw[C.l.2];first|(simp;done)|(simp;omega),by rw[C.l.1];exact c.l,j⟩
 go_wp2;go_ret;exact⟨by rw[C.l.2];first|(simp;done)|(simp;omega),by rw[C.l.1];exact c.l,j⟩
def UT.setDepth{w:U}{a:Nat}{P:xP}(h:UT lo w a J P)(m:Int):UT lo (w.x (ω a 26) (ι m)) a {J with ql:=m} P:=by
 obtain⟨b,g,j⟩:=h.jl;refine h.rebox (zc.set _ _ _ _) ?_ rfl rfl rfl rfl rfl h.jl;obtain⟨n,s,v,t,u,f⟩:=five h.hlen.1;obtain⟨p,C,q,r,l,e⟩:=five b;obtain⟨F,D,o,E,z,d⟩:=five g;obtain⟨A,y,B,k,x,i⟩:=five j;have c:=h.box.set 26 (ι m);simpa [uL,f,e,d,i] using c
def Wx(w:U)(g:Nat)(J:zF)(P:xP)(n:Nat)(p:zF)(b:Bool)(h:UT lo w g J P)(f:hX n J=Z (p,b)):
  c_ e_ 215 #[(π g)] w λe q=>e=ε (.i b)/\UT lo q g p P/\zc (g::P.sv.m.toList) w q:=by
 unfold hX at f;rcases l:jR n J J.ql with _|v;rw[l] at f;cases f;obtain⟨t,r⟩:=v;rw[l] at f;simp only[zt,yk] at f;obtain⟨x,rfl⟩:=f;have j:=U2 (KM w g J P n t r h l);have s:=U2 x.symm;cases r
 .go_enter func215,ntmps215;go_wp2_with (go_at_call 224;refine j.l.y ?_;rintro e u ⟨rfl,a,d⟩;have c:=U2 a;obtain⟨o,m,_,_,_,_,_,i,k,_⟩:=a.at;clear a)
  go_ret;exact⟨rfl,by rw[s.l];exact c.l.setDepth (-1),d.A ((zc.set _ _ _ _).more ζ)⟩
 go_enter func215,ntmps215;go_wp2_with (go_at_call 224;refine j.l.y ?_;rintro e u ⟨rfl,a,d⟩;have c:=U2 a;obtain⟨o,m,_,_,_,_,_,i,k,_⟩:=a.at;clear a)
 go_ret;exact⟨rfl,by rw[s.l];exact(c.l.setDepth (-1)).setDepth t.last,(d.A ((zc.set _ _ _ _).more ζ)).A ((zc.set _ _ _ _).more ζ)⟩
end
section
open Go.Proofs.Tryz
variable {lo:Nat}
def KJ(w:U)(b:Nat)(J:zF)(P:xP)(h:UT lo w b J P):
  c_ e_ 217 #[(π b)] w λe f=>e=ε (ι J.jg)/\f=w:=by
 obtain⟨c,d,_,_,_,_,_,_,_,a⟩:=h.at;clear h;go_enter func217,ntmps217;go_wp2;go_ret;exact⟨rfl,rfl⟩
def Ju(w:U)(q:Nat)(J:zF)(P:xP)(h:UT lo w q J P):
  c_ e_ 216 #[(π q)] w λr H=>r=ε (.agg #[ι ((U5 J.g J.P 0:Nat):Int),ι ((U5 J.g J.P 1:Nat):Int),ι ((U5 J.g J.P 2:Nat):Int)])/\μ w H:=by
 obtain⟨F,A,u,j,_⟩:=h.at;obtain⟨a,b,c,d,e,f⟩:=five h.jl.2.1;have y:=(h.vals 0 η).1;have K:=(h.vals 1 η).1;have D:=(h.vals 2 η).1;have B:=(h.vals 3 η).1;have z:=(h.vals 4 η).1;rw[f] at y K D B z ⊢;obtain⟨E,s,n⟩:=h.g.qm;have o:=h.g;rw[n] at j o;have l:=U2 λW L=>Bb W _ J.g.o J.g.v a b c d e (o.u L);generalize U5 J.g [a,b,c,d,e] 0=t at *;generalize U5 J.g [a,b,c,d,e] 1=I at *;generalize U5 J.g [a,b,c,d,e] 2=C at *;go_enter func216,ntmps216;go_wp2;go_region_with (go_at_call 161;refine(l.l _ γ).y ?_;rintro r G ⟨rfl,g⟩;have k:μ w G:=(zJ γ g (ze _));have i:=(U3.drew (U3.new w #[ι 0,ι 0,ι 0] 165)).u g;obtain⟨m,M,x⟩:=i.I)
 all_goals
  go_wp2;exact zP (v:=.agg #[ι t,ι I,ι C]) (by simp[results,results216,go_sem,m]) rfl ⟨rfl,((k.x (p:=(δ w.o.q)) ζ _).x (p:=(ω w.o.q 1)) ζ _).x (p:=(ω w.o.q 2)) ζ _⟩
def TY:(e_.info? 327).map (λi=>(i.zero,i.q,i.bytes))=Z (Z (.agg #[ι 0,ι 0]),2,16):=χ
def fQ(b:Nat)(x:zx×Nat):Option (Nat×Nat):=(xd x.1 b).map λa=>(x.2,a)
def D6(r:zv)(a:Nat):xx r a=r.qc.zipIdx.filterMap (fQ a):=rfl
def IR(ls:List zx)(a k:Nat)(b:k<ls.j):(ls.G (k+1)).zipIdx.filterMap (fQ a)=(ls.G k).zipIdx.filterMap (fQ a)++((xd ls[k] a).map λc=>(k,c)).toList:=by
 rw[yF b,List.zipIdx_append,iJ];congr 1;simp only[List.zipIdx_singleton,vi,uM,wI,List.filterMap_nil,fQ];rw[dC η];cases xd ls[k] a<;>rfl
def S7(hs:List (Nat×Nat))(x:Nat×Nat):g5 (hs++[x])=g5 hs++[ι (x.1:Nat),ι (x.2:Nat)]:=by simp[g5]
def SS(w:U)(tv J Q:O)(r:zv)(a:Nat)(h:vQ lo w tv J Q r)(hp:a<=1000000):
  c_ e_ 221 #[gH r tv J Q,ι a] w λe u=>∃R,e=.returned R/\u.r w.o.q 327 2 R (xx r a).j (g5 (xx r a))/\μ w u:=by
 obtain⟨i0,hi,C,D,E⟩:=info_parts TY;obtain⟨ad,S,rfl⟩:=h.qc.qm;have ae:=h.qc.len;have hP:=h.qc;have HE:X (xx r a=r.qc.zipIdx.filterMap (fQ a)):=rfl;unfold gH;clear h;generalize r.qc=c at *;go_enter func221,ntmps221;go_wp2;go_loopw [5,13] (λV F wr=>∃k:Nat,k<=c.j/\F=ι k/\wr.r w.o.q 327 2 V ((c.G k).zipIdx.filterMap (fQ a)).j (g5 ((c.G k).zipIdx.filterMap (fQ a)))/\μ w wr) (λ_ i _=>c.j-(d_ i).D);exact⟨0,zs _,rfl,xj _ _ _ _,γ⟩;obtain⟨k,hk,rfl,b,f⟩:=hrel;have P:=f.q;have H:((c.G k).zipIdx.filterMap (fQ a)).j<=k:=by
  have:=sY (fQ a) (c.G k).zipIdx;simp at this;omega
 by_cases o:k<c.j
 .obtain⟨g,G,q,y,N,M,I,L⟩:=hP.cell k o;subst y;have ac:=zi f N M;have aa:=zi f N I;have ab:g<wr.o.q:=η;have s:=U2 (IR c a k o);have m:X (∀W,μ w W->c_ e_ 187 #[.agg #[ι (c[k].o:Nat),.k G c[k].v.j q],ι a] W λe u=>e=ε (.B #[ι (((xd c[k] a).d 0:Nat):Int),.i (xd c[k] a).I])/\μ W u):=λW hW=>F8 W _ c[k].o a c[k].v (L.u hW) hp;clear M I L;generalize c[k]=l at *;generalize (c.G k).zipIdx.filterMap (fQ a)=v at *;generalize xd l a=ol at *;rcases ol with _|lv
  .simp only[Option.map_none,Option.toList_none,vD] at s;simp only[kV,kX] at m;go_wp2_with (go_at_call 187;refine(m.l _ γ).y ?_;rintro e t ⟨rfl,n⟩;have d:μ wr t:=(zJ γ n (ze _)))
   go_roundw;exact⟨k+1,η,ξ,by rw[s.l];exact zy b d,U6 f d⟩;simp[d_];omega
  simp only[jY,Option.toList_some] at s;simp only[uF,jH] at m;obtain⟨z,p,rfl⟩:=zq b;go_wp2_with (first|(go_at_call 187;refine(m.l _ γ).y ?_;rintro e t ⟨rfl,n⟩;have d:μ wr t:=(zJ γ n (ze _));have j:=zy b d;have T:=d.q)|(at_builtin;refine jx t _ [ι k,ι lv] _ rfl (.tmp 25) (.tmp 29) 307 rfl w.o.q 327 i0 _ 2 16 underlying307 hi C D E rfl θ (.k z v.j p) v.j (g5 v) rfl j (zn _ _) _ _ rfl ζ rfl a_ η η η ?_;intro v' w3 A B K))
  go_roundw;exact⟨k+1,η,ξ,by rw[s.l,S7,yB];exact A,(U6 f d).A (B.u (λx hx=>yZ j (yA hx)) η)⟩;simp[d_];omega
 rw[yO η] at b;go_wp2;go_ret;exact⟨_,rfl,by rw[HE.l];exact b,f⟩
end
section
variable {lo:Nat}{w w':U}{base tb b0:Nat}{v:O}{xs:List O}{c:Array O}{T:zm}{fp:List Nat}
abbrev zo:=Nat×Nat×Nat
def V2(t:f_):Prop:=t≠229/\t≠273/\t≠3
instance (t:f_):Decidable (V2 t):=by unfold V2;infer_instance
def MK(w:U)(b:Nat):Prop:=∃c t,U3 w b c t/\¬V2 t
def i5{t:f_}(h:t=229∨t=273∨t=3):¬V2 t:=by
 rintro⟨a,b,c⟩;rcases h with h|h|h;exact a h;exact b h;exact c h
def kx{e:f_}{a n:Nat}(h:w.r base e a v n xs){b:Nat}(d:v.m=Z b):∃c,U3 w b c e:=by
 obtain⟨_,⟨f,_⟩|⟨g,k,j,f,_,i,_⟩⟩:=h;subst f;cases d;subst f;simp only[O.ownBlock,zt] at d;subst d;exact⟨_,i⟩
def U3.type{b:Nat}{e:Array O}{t d:f_}(h:U3 w b c t)(a:U3 w b e d):t=d:=by
 unfold U3 at h a;rw[h] at a;simp at a;exact a.2
def yc.typed(h:yc lo w tb T fp):∀b∈fp,MK w b:=by
 obtain⟨j,k,d,rfl⟩:=h;intro b a;simp only[VB,z7,zW] at a;rcases a with a|a|a;subst a;exact⟨_,_,d.box,i5 (zh rfl)⟩;obtain⟨c,f⟩:=kx d.B (yA a);exact⟨_,_,f,i5 (zg (zh rfl))⟩;obtain⟨i,g,e|e⟩:=Ao a;obtain⟨c,f⟩:=kx (d.K i (by rw[←d.len];exact g) g) (b:=b) (by rw[e];rfl);exact⟨_,_,f,i5 (zg (zg rfl))⟩;obtain⟨c,f⟩:=kx (d.down i (by rw[←d.len];exact g) g) (b:=b) (by rw[e];rfl);exact⟨_,_,f,i5 (zg (zg rfl))⟩
def xe(lo:Nat)(w:U)(own:Nat->zo)(ρ:zo)(tb:Nat)(T:zm):Prop:=∃fp,yc lo w tb T fp/\∀b∈fp,own b=ρ
structure UB (lo:Nat) (ok:f_->zo->Prop) (w:U) (own:Nat->zo) (w':U) (own':Nat->zo):Prop where
 old:∀b,b<w.o.q->own' b=own b
 save:∃M,zc M w w'/\∀b∈M,lo<=b/\b<w.o.q/\∃c t,U3 w b c t/\ok t (own b)
def onT(rs:zo->Prop):f_->zo->Prop:=λt ρ=>¬V2 t/\rs ρ
def dF(l:List f_):f_->zo->Prop:=λt _=>t∈l
def orK(a b:f_->zo->Prop):f_->zo->Prop:=λt ρ=>a t ρ∨b t ρ
def UB.of{ok:f_->zo->Prop}{w w':U}(own:Nat->zo)(a:μ w w'):UB lo ok w own w' own:=⟨λ_ _=>rfl,[],zc.of a,ζ⟩
def UB.refl{ok:f_->zo->Prop}(w:U)(own:Nat->zo):UB lo ok w own w own:=UB.of own (zn _ _)
def UB.more{ok ok':f_->zo->Prop}{own own':Nat->zo}(h:UB lo ok w own w' own')(hs:∀t ρ,ok t ρ->ok' t ρ):UB lo ok' w own w' own':=by
 obtain⟨e,M,k,f⟩:=h;refine⟨e,M,k,λb d=>?_⟩;obtain⟨g,a,c,t,i,j⟩:=f b d;exact⟨g,a,c,t,i,hs _ _ j⟩
def UB.q{ok:f_->zo->Prop}{w w':U}{own own':Nat->zo}(h:UB lo ok w own w' own'):w.o.q<=w'.o.q:=by
 obtain⟨_,M,a,_⟩:=h;exact a.q
def UB.A{ok:f_->zo->Prop}{a b c:U}{n l o:Nat->zo}(h:UB lo ok a n b l)(k:UB lo ok b l c o):UB lo ok a n c o:=by
 obtain⟨m,M,f,q⟩:=h;obtain⟨y,N,g,z⟩:=k;have s:=f.q;refine⟨λx d=>(y x η).A (m x d),M++N.filter (·<a.o.q),⟨g.os.A f.os,g.tape.A f.tape,g.output.A f.output,zX s g.q,λx d j=>?_⟩,λx d=>?_⟩;simp only[zW,xw,not_or,not_and,decide_eq_true_eq] at j;exact(g.block x η λi=>j.2 i d).A (f.block x d j.1);simp only[zW,xw,decide_eq_true_eq] at d;rcases d with d|⟨d,e⟩;exact q x d;obtain⟨u,A,c,t,r,p⟩:=z x d;rw[m x e] at p;by_cases i:x∈M;exact q x i;exact⟨u,e,c,t,by unfold U3 at r ⊢;rw[←f.block x e i];exact r,p⟩
def UB.ofSave{ok:f_->zo->Prop}(own:Nat->zo){M:Φ}(hs:zc M w w')(a:∀b∈M,lo<=b/\b<w.o.q/\∃c t,U3 w b c t/\ok t (own b)):UB lo ok w own w' own:=⟨λ_ _=>rfl,M,hs,a⟩
def UB.set{ok:f_->zo->Prop}{w:U}(own:Nat->zo){b:Nat}{c:Array O}{t:f_}(a:U3 w b c t)(f:lo<=b)(e:ok t (own b))(o:Nat)(u:O):UB lo ok w own (w.x (ω b o) u) own:=
 UB.ofSave own (zc.set _ _ _ _) (λx d=>by simp at d;subst d;exact⟨f,a.lt,_,_,a,e⟩)
def U3.mod{ok:f_->zo->Prop}{own own':Nat->zo}{b:Nat}{t:f_}(h:U3 w b c t)(p:UB lo ok w own w' own')(a:¬ok t (own b)):U3 w' b c t:=by
 obtain⟨_,M,f,d⟩:=p;refine h.save f λe=>?_;obtain⟨_,_,i,j,q,g⟩:=d b e;rw[h.type q] at a;exact a g
def tC{ok:f_->zo->Prop}{own own':Nat->zo}{e:f_}{a n:Nat}(h:w.r base e a v n xs)(p:UB lo ok w own w' own')(f:∀b,v.m=Z b->¬ok e (own b)):w'.r base e a v n xs:=by
 obtain⟨_,M,j,g⟩:=p;refine yd h j λb d i=>?_;obtain⟨c,l⟩:=kx h d;obtain⟨_,_,m,o,q,k⟩:=g b i;have:=f b d;rw[l.type q] at this;exact this k
def qs{ok:f_->zo->Prop}{own own':Nat->zo}{e:f_}{a n:Nat}(h:w.r base e a v n xs)(p:UB lo ok w own w' own')(b:∀ρ,¬ok e ρ):w'.r base e a v n xs:=tC h p λ_ _=>b _
def yc.mod{ok:f_->zo->Prop}{own own':Nat->zo}(h:yc b0 w tb T fp)(p:UB lo ok w own w' own')(f:∀b∈fp,∀t,¬V2 t->¬ok t (own b)):yc b0 w' tb T fp:=by
 obtain⟨_,M,g,j⟩:=p;refine h.save g λb d i=>?_;obtain⟨_,_,c,t,q,k⟩:=j b i;obtain⟨l,m,e,a⟩:=h.typed b d;rw[e.type q] at a;exact f b d t a k
def xe.mod{ok:f_->zo->Prop}{w w':U}{own own':Nat->zo}{ρ:zo}{tb:Nat}{T:zm}(h:xe lo w own ρ tb T)(p:UB lo ok w own w' own')(g:∀t,¬V2 t->¬ok t ρ):xe lo w' own' ρ tb T:=by
 obtain⟨fp,d,e⟩:=h;exact⟨fp,d.mod p λb a t f=>by rw[e b a];exact g t f,λb a=>(p.old b (d.lt b a).2).A (e b a)⟩
def jG{rs:zo->Prop}{t:f_}(h:V2 t):∀ρ,¬onT rs t ρ:=λ_ q=>q.1 h
def xe.onT{rs:zo->Prop}{w w':U}{own own':Nat->zo}{ρ:zo}{tb:Nat}{T:zm}(h:xe lo w own ρ tb T)(p:UB lo (onT rs) w own w' own')(a:¬rs ρ):xe lo w' own' ρ tb T:=h.mod p λ_ _ q=>a q.2
def yx.mod{ok:f_->zo->Prop}{own own':Nat->zo}{ts:List yo}(h:yx b0 w v ts)(p:UB lo ok w own w' own')(a:∀ρ,¬ok 284 ρ):yx b0 w' v ts:=⟨qs h.own p a,h.len,h.D⟩
def uy.mod{b0:Nat}{ok:f_->zo->Prop}{w w':U}{own own':Nat->zo}{v:O}{ls:List zx}(h:uy b0 w v ls)(p:UB lo ok w own w' own')(f:∀ρ,¬ok 284 ρ)(d:∀ρ,¬ok 204 ρ):uy b0 w' v ls:=by
 obtain⟨l,g,j,i,e⟩:=h;exact⟨l,qs g p d,j,i,λk a b=>⟨(e k a b).1,(e k a b).2.1.mod p f,(e k a b).2.2⟩⟩
def vQ.mod{b0:Nat}{ok:f_->zo->Prop}{w w':U}{own own':Nat->zo}{tv d e:O}{r:zv}(h:vQ b0 w tv d e r)(p:UB lo ok w own w' own')(b:∀ρ,¬ok 284 ρ)(a:∀ρ,¬ok 204 ρ):vQ b0 w' tv d e r:=⟨h.g.mod p b,h.qc.mod p b a,h.qx.mod p b a,h.small⟩
def UI.mod{ok:f_->zo->Prop}{own own':Nat->zo}{a:List zl}(h:UI b0 w v a)(p:UB lo ok w own w' own')(b:∀ρ,¬ok 165 ρ):UI b0 w' v a:=⟨qs h.1 p b,h.2⟩
def ext(own:Nat->zo)(n:Nat)(ρ:zo):Nat->zo:=λb=>if b<n then own b else ρ
def fj(own:Nat->zo)(n:Nat)(ρ:zo)(b:Nat)(h:b<n):ext own n ρ b=own b:=by simp[ext,h]
def UV.mod{own:Nat->zo}{ρ:zo}{e:zm}{d:Φ}(h:yc lo w tb T fp)(f:∀b∈fp,own b=ρ)(k:UV lo w w' tb e fp d):
  xe lo w' (ext own w.o.q ρ) ρ tb e/\UB lo (onT (·=ρ)) w own w' (ext own w.o.q ρ):=by
 refine⟨⟨d,k.trie,λb a=>?_⟩,λb a=>by simp[ext,a],fp,k.save,λb a=>⟨(h.lt b a).1,(h.lt b a).2,?_⟩⟩;unfold ext;split;rcases k.qw b a with q|q;exact f b q;omega;rfl;obtain⟨c,t,i,g⟩:=h.typed b a;exact⟨c,t,i,g,f b a⟩
def UB.extNew{ok:f_->zo->Prop}(own:Nat->zo)(ρ:zo)(a:μ w w'):UB lo ok w own w' (ext own w.o.q ρ):=⟨λb h=>by simp[ext,h],[],zc.of a,ζ⟩
def yc.low{a b:Nat}{w:U}{tb:Nat}{T:zm}{fp:Φ}(h:yc b w tb T fp)(e:a<=b):yc a w tb T fp:=by
 obtain⟨g,f,d,rfl⟩:=h;exact⟨g,f,⟨zX e d.low,d.box,yq d.B e,d.len,λi a b=>yq (d.K i a b) e,λi a b=>yq (d.down i a b) e,d.apart,d.wide,d.many,d.deep,d.M⟩,rfl⟩
def yc.new(own:Nat->zo)(ρ:zo)(h:yc w.o.q w' tb T fp)(a:lo<=w.o.q):xe lo w' (ext own w.o.q ρ) ρ tb T:=
 ⟨fp,h.low a,λb d=>by have:=(h.lt b d).1;simp[ext,Nat.not_lt.2 this]⟩
def xe.u{own:Nat->zo}{ρ:zo}(h:xe lo w own ρ tb T)(a:μ w w'):xe lo w' own ρ tb T:=h.mod (UB.of (ok:=λ_ _=>False) own a) (λ_ _=>id)
def xe.set{w:U}{own:Nat->zo}{ρ:zo}{tb:Nat}{T:zm}(h:xe lo w own ρ tb T){b:Nat}{c:Array O}{t:f_}(i:U3 w b c t)(g:V2 t)(o:Nat)(u:O):xe lo (w.x (ω b o) u) own ρ tb T:=by
 obtain⟨fp,a,j⟩:=h;refine⟨fp,a.save (zc.set _ _ _ _) λx f d=>?_,j⟩;simp at d;subst d;obtain⟨k,l,q,e⟩:=a.typed x f;rw[q.type i] at e;exact e g
end
section
variable {lo:Nat}{w w':U}{v:O}{xs:List O}{b:Nat}{c:Array O}{M:List Nat}
def UP(w:U)(T:f_)(M:List Nat):Prop:=∀b∈M,∃c,U3 w b c T
def UP.own{a:Nat}{e:f_}{d n:Nat}(h:w.r a e d v n xs):UP w e v.m.toList:=λ_ f=>kx h (yA f)
def UP.box{T:f_}(h:U3 w b c T):UP w T [b]:=λx a=>by simp at a;subst a;exact⟨c,h⟩
def yR{a:Nat}{e T:f_}{d n:Nat}(h:w.r a e d v n xs)(hs:zc M w w')(i:UP w T M)(l:e≠T):w'.r a e d v n xs:=
 yd h hs λb g j=>by
  obtain⟨c,k⟩:=i b j;obtain⟨m,f⟩:=kx h g;exact l (f.type k)
def U3.saveT{e T:f_}(h:U3 w b c e)(hs:zc M w w')(d:UP w T M)(g:e≠T):U3 w' b c e:=
 h.save hs λf=>by
  obtain⟨i,a⟩:=d b f;exact g (h.type a)
def yx.saveT{a:Nat}{ts:List yo}{T:f_}(h:yx a w v ts)(hs:zc M w w')(d:UP w T M)(e:284≠T):yx a w' v ts:=⟨yR h.own hs d e,h.len,h.D⟩
def uy.saveT{e:Nat}{w w':U}{v:O}{ls:List zx}{T:f_}{M:Φ}(h:uy e w v ls)(hs:zc M w w')(j:UP w T M)(f:284≠T)(m:∀b,v.m=Z b->b∉M):uy e w' v ls:=by
 obtain⟨n,g,l,i,d⟩:=h;exact⟨n,yd g hs m,l,i,λk a b=>⟨(d k a b).1,(d k a b).2.1.saveT hs j f,(d k a b).2.2⟩⟩
def uy.saveTT{g:Nat}{ls:List zx}{T:f_}(h:uy g w v ls)(hs:zc M w w')(f:UP w T M)(i:284≠T)(e:204≠T):uy g w' v ls:=by
 obtain⟨n,j,m,l,d⟩:=h;exact⟨n,yR j hs f e,m,l,λk a b=>⟨(d k a b).1,(d k a b).2.1.saveT hs f i,(d k a b).2.2⟩⟩
def vQ.saveT{i:Nat}{w w':U}{tv f g:O}{r:zv}{T:f_}{M:Φ}(h:vQ i w tv f g r)(hs:zc M w w')(d:UP w T M)(e:284≠T)(a:204≠T):vQ i w' tv f g r:=⟨h.g.saveT hs d e,h.qc.saveTT hs d e a,h.qx.saveTT hs d e a,h.small⟩
def yx.low{a:Nat}{ts:List yo}(h:yx b w v ts)(d:a<=b):yx a w v ts:=⟨yq h.own d,h.len,h.D⟩
def uy.low{a b:Nat}{w:U}{v:O}{ls:List zx}(h:uy b w v ls)(e:a<=b):uy a w v ls:=by
 obtain⟨j,f,i,g,d⟩:=h;exact⟨j,yq f e,i,g,λk a b=>⟨(d k a b).1,(d k a b).2.1.low e,(d k a b).2.2⟩⟩
def vQ.low{a b:Nat}{w:U}{tv f e:O}{r:zv}(h:vQ b w tv f e r)(d:a<=b):vQ a w tv f e r:=⟨h.g.low d,h.qc.low d,h.qx.low d,h.small⟩
def U3.up{T:f_}(h:U3 w b c T)(o:Obj):U3 (w.C o) b c T:=h.u ((zn _ _).C (ze _) o)
def U3.at'{b':Nat}{T:f_}(h:U3 w b c T)(e:b=b'):U3 w b' c T:=e ▸ h
def U3.carry{W a:U}{T:f_}{G:Prop}(h:U3 W b c T)(d:μ W a)(k:U3 a b c T->G):G:=k (h.u d)
end
section
open Go.Proofs.Tryz
variable {lo:Nat}
def xe.saveT{w w':U}{own:Nat->zo}{ρ:zo}{tb:Nat}{T:zm}{t:f_}{M:Φ}(h:xe lo w own ρ tb T)(hs:zc M w w')(f:UP w t M)(e:V2 t):xe lo w' own ρ tb T:=by
 obtain⟨g,a,j⟩:=h;refine⟨g,a.save hs λx d i=>?_,j⟩;obtain⟨c,k⟩:=f x i;obtain⟨l,m,q,b⟩:=a.typed x d;rw[q.type k] at b;exact b e
def em(w:U)(own:Nat->zo)(ρ:zo)(tb:Nat)(T:zm)(x y z m:Nat)(h:xe lo w own ρ tb T)(a:okT T=true):
  c_ e_ 163 #[(π tb),.agg #[ι x,ι y,ι z],ι m] w λe b=>e=ε (.i (yE T [x,y,z] m).2)/\xe lo b (ext own w.o.q ρ) ρ tb (yE T [x,y,z] m).1/\UB lo (onT (·=ρ)) w own b (ext own w.o.q ρ):=by
 obtain⟨g,c,i⟩:=h;simp only[okT,uK,decide_eq_true_eq] at a;refine(KP w tb T g x y z m c a.1 a.2).y ?_;rintro e b ⟨rfl,d,f⟩;exact⟨rfl,f.mod c i⟩
def Cy(w:U)(own:Nat->zo)(ρ:zo)(tb:Nat)(T:zm)(n:Nat)(rs:List zl)(h:xe lo w own ρ tb T)(a:rowsG n T=Z rs):
  c_ e_ 78 #[(π tb)] w λe d=>∃v,e=.returned v/\UI w.o.q d v rs/\μ w d:=by
 obtain⟨g,f,_⟩:=h;unfold rowsG at a;rcases b:mI n T with _|c;rw[b] at a;cases a;rw[b] at a;simp only at a;split at a;simp only[zt] at a;subst a;exact Dn w tb T g f n c b (by assumption);cases a
def UI.cell{F:Nat}{w:U}{v:O}{rs:List zl}(h:UI F w v rs)(k:Nat)(d:k<rs.j):∃g f x y z,v=.k (Z (δ g)) rs.j f/\g<w.o.q/\rs[k]=[x,y,z]/\w.p (ω g (k*3))=Z (ι (x:Nat))/\w.p (ω g (k*3+1))=Z (ι (y:Nat))/\w.p (ω g (k*3+2))=Z (ι (z:Nat)):=by
 obtain⟨t,o⟩:=h;obtain⟨g,f,C,_,E,m⟩:=yt t η;obtain⟨x,y,z,e⟩:∃x y z,rs[k]=[x,y,z]:=by
  have:=o rs[k] (zr d);match n:rs[k],this with
  |[x,y,z],_=>exact⟨x,y,z,rfl⟩
 have j:∀(rs:List zl) (k:Nat) (d:k<rs.j),(∀r∈rs,r.j=3)->rs[k]=[x,y,z]->(jZ rs)[k*3]?=Z (ι x)/\(jZ rs)[k*3+1]?=Z (ι y)/\(jZ rs)[k*3+2]?=Z (ι z):=by
  intro rs;induction rs with
  |nil=>intro k d;simp at d
  |cons r l D=>
   intro k d p i;match k,d,i with
   |0,_,i=>simp only[dB] at i;subst i;simp[jZ,Vg]
   |k+1,d,i=>
    have A:=p r ζ;match G:r,A with
    |[a,b,c],_=>
     have:=D k (by simpa using d) (λq n=>p q (by simp[n])) (by simpa using i);simp only[jZ,uZ] at this ⊢;rw[show(k+1)*3=k*3+1+1+1 from by omega,show k*3+1+1+1+1=k*3+1+1+1+1 from rfl,show k*3+1+1+1+2=k*3+2+1+1+1 from by omega];simpa using this
 obtain⟨u,B,s⟩:=j rs k d o e;exact⟨g,f,x,y,z,C,E,e,m _ _ u,m _ _ B,m _ _ s⟩
structure ke where
 tv:O
 bb:Nat
 fb:Nat
 ab:Nat
def pt(b:Nat):Value:=(π b)
def dV(wd:Nat)(V:yQ)(P:ke):List Value:=[ι V.lit.o,P.tv,ι wd,pt P.bb,pt P.fb,pt P.ab]
structure qn (lo:Nat) (w:U) (own:Nat->zo) (k i:Nat) (V:yQ) (P:ke):Prop where
 v:yx lo w P.tv V.lit.v
 before:xe lo w own (k+1,i,0) P.bb V.before
 qw:xe lo w own (k+1,i,1) P.fb V.qw
 all:xe lo w own (k+1,i,2) P.ab V.all
def qn.mod{ok:f_->zo->Prop}{w w':U}{own own':Nat->zo}{k i:Nat}{V:yQ}{P:ke}(h:qn lo w own k i V P)(p:UB lo ok w own w' own')(a:∀j t,¬V2 t->¬ok t (k+1,i,j))(b:∀ρ,¬ok 284 ρ):qn lo w' own' k i V P:=
 ⟨h.v.mod p b,h.before.mod p (a 0),h.qw.mod p (a 1),h.all.mod p (a 2)⟩
def qn.u{w w':U}{own:Nat->zo}{k i:Nat}{V:yQ}{P:ke}(h:qn lo w own k i V P)(a:μ w w'):qn lo w' own k i V P:=h.mod (UB.of (ok:=λ_ _=>False) own a) (λ_ _ _=>id) (λ_=>id)
def qn.saveT{w w':U}{own:Nat->zo}{k i:Nat}{V:yQ}{P:ke}{t:f_}{M:Φ}(h:qn lo w own k i V P)(hs:zc M w w')(a:UP w t M)(b:V2 t)(c:284≠t):qn lo w' own k i V P:=⟨h.v.saveT hs a c,h.before.saveT hs a b,h.qw.saveT hs a b,h.all.saveT hs a b⟩
def QO(lo:Nat)(w:U)(own:Nat->zo)(k i wd:Nat)(tv:O)(l:zx)(e:Ending)(w':U):Prop:=∃P a,P.tv=tv/\e=ε (.agg (dV wd (gD wd l) P).F)/\qn lo w' a k i (gD wd l) P/\(∀b,b<w.o.q->a b=own b)/\μ w w'
def G7(l:zx):xi l<=5:=by
 unfold xi;have:=sT (p:=zL l) (l:=o_ 5);simpa using this
def Nj(w:U)(own:Nat->zo)(k i:Nat)(l:zx)(tv:O)(wd:Nat)(h:yx lo w tv l.v)(hl:lo<=w.o.q)(a3:wd<=1000):
  c_ e_ 204 #[.agg #[ι l.o,tv],ι wd] w λe w'=>QO lo w own k i wd tv l e w':=by
 obtain⟨z,c,rfl⟩:=h.qm;have HD:X (∀W,μ w W->c_ e_ 212 #[.agg #[ι l.o,.k z l.v.j c]] W λe w'=>e=ε (ι (xi l:Nat))/\μ W w'):=λW hW=>Dv W _ l.o l.v (h.u hW);have HT:=U2 h;have a1:X (gD wd l=⟨l,xk wd (xi l),xk wd (xi l),xk wd (xi l)⟩):=rfl;have a4:=G7 l;have HN:=U2 λW=>AQ W wd (xi l) a3 η;have HL:=U2 hl;clear h hl a4;have N:=U3.new ((w.C (.E #[ι l.o,.k z l.v.j c] 204)).C (.E #[ι 0,ν,ι 0,.u Y,.u Y,.u Y] 301)) #[ι l.o,.k z l.v.j c,ι wd,.u Y,.u Y,.u Y] 301;have a:=(U3.new (w.C (.E #[ι l.o,.k z l.v.j c] 204)) #[ι 0,ν,ι 0,.u Y,.u Y,.u Y] 301).u ((zn _ _).C (ze _) (.E #[ι l.o,.k z l.v.j c,ι wd,.u Y,.u Y,.u Y] 301));simp only[k_] at N a;generalize xi l=dl at *;go_enter func204,ntmps204;go_upto_region 3 with (first|(go_at_call 212;refine(HD.l _ γ).y ?_;rintro e w1 ⟨rfl,D⟩;have F:μ w w1:=(zJ γ D (ze _));have I:=N.u D;have af:=a.u D))
 clear N a D;have a8:lo<=w1.o.q:=by have:=HL.l;have:=F.q;omega
 obtain⟨o,p,t⟩:=I.I;have aN:=F.q;have an:X (yx lo w1 _ l.v):=HT.l.u F;go_upto_region 4 with (first|(go_at_call 119;refine(HN.l _).y ?_;rintro e R ⟨f,aO,rfl,au,r⟩;have x:=I.u r;have aq:=af.u r;obtain⟨ak,ac,aj⟩:=x.I))
 have M:=(yc.new own (k+1,i,0) au a8).set x θ 3 (pt f);have S:zc [w.o.q+1+1] R (R.x (ω (w.o.q+1+1) 3) (pt f)):=zc.set _ _ _ _;have J:X (yx lo _ _ l.v):=(an.l.u r).saveT S (UP.box x) θ;have E:U3 (R.x (ω (w.o.q+1+1) 3) (pt f)) (w.o.q+1+1) #[ι l.o,.k z l.v.j c,ι wd,(π f),.u Y,.u Y] 301:=by have q:=x.set 3 (pt f);simpa [pt] using q
 have K:=aq.set_ne (show w.o.q+1≠w.o.q+1+1 by omega) 3 (pt f);have L:μ w (R.x (ω (w.o.q+1+1) 3) (pt f)):=(U6 F r).x υ _;have aD:(R.x (ω (w.o.q+1+1) 3) (pt f)).o.q=R.o.q:=by simp[U.setCell]
 have a9:=r.q;generalize B:ext own w1.o.q (k+1,i,0)=n at *;have Q:∀b,b<w.o.q->n b=own b:=λb hb=>by rw[←B];exact fj _ _ _ _ η
 have ad:pt f=(π f):=rfl;rw[ad] at M S J E K L aD;generalize R.x (ω (w.o.q+1+1) 3) ((π f))=w3 at *;clear B au r x aq ak ac aj o p t I af an S ad;have aA:lo<=w3.o.q:=η;obtain⟨o,p,t⟩:=E.I;go_upto_region 5 with (first|(go_at_call 119;refine(HN.l _).y ?_;rintro e w4 ⟨m,aM,rfl,ai,a⟩;have u:=E.u a;have aa:=K.u a;obtain⟨al,ab,aw⟩:=u.I))
 have ay:=(M.mod (UB.extNew (ok:=λ_ _=>False) n (k+1,i,1) a) (λ_ _=>id)).set u θ 4 ((π m));have a2:=(yc.new n (k+1,i,1) ai aA).set u θ 4 ((π m));have ap:zc [w.o.q+1+1] w4 (w4.x (ω (w.o.q+1+1) 4) ((π m))):=zc.set _ _ _ _;have ag:X (yx lo _ _ l.v):=(J.l.u a).saveT ap (UP.box u) θ;have T:U3 (w4.x (ω (w.o.q+1+1) 4) ((π m))) (w.o.q+1+1) #[ι l.o,.k z l.v.j c,ι wd,(π f),(π m),.u Y] 301:=by have q:=u.set 4 ((π m));simpa using q
 have ao:=aa.set_ne (show w.o.q+1≠w.o.q+1+1 by omega) 4 ((π m));have ae:μ w (w4.x (ω (w.o.q+1+1) 4) ((π m))):=(U6 L a).x υ _;have aI:(w4.x (ω (w.o.q+1+1) 4) ((π m))).o.q=w4.o.q:=by simp[U.setCell]
 have a7:=a.q;generalize y:ext n w3.o.q (k+1,i,1)=d at *;have V:∀b,b<w.o.q->d b=own b:=λb hb=>by rw[←y,fj _ _ _ _ η];exact Q b hb
 generalize w4.x (ω (w.o.q+1+1) 4) ((π m))=w5 at *;clear y ai a u aa al ab aw o p t E K M J ap L;have aE:lo<=w5.o.q:=η;obtain⟨o,p,t⟩:=T.I;go_upto_region 6 with (first|(go_at_call 119;refine(HN.l _).y ?_;rintro e w6 ⟨s,aK,rfl,ah,g⟩;have j:=T.u g;have ar:=ao.u g;obtain⟨am,av,ax⟩:=j.I))
 have aC:=(ay.mod (UB.extNew (ok:=λ_ _=>False) d (k+1,i,2) g) (λ_ _=>id)).set j θ 5 ((π s));have a5:=(a2.mod (UB.extNew (ok:=λ_ _=>False) d (k+1,i,2) g) (λ_ _=>id)).set j θ 5 ((π s));have aB:=(yc.new d (k+1,i,2) ah aE).set j θ 5 ((π s));have az:zc [w.o.q+1+1] w6 (w6.x (ω (w.o.q+1+1) 5) ((π s))):=zc.set _ _ _ _;have aF:X (yx lo _ _ l.v):=(ag.l.u g).saveT az (UP.box j) θ;have aG:U3 (w6.x (ω (w.o.q+1+1) 5) ((π s))) (w.o.q+1+1) #[ι l.o,.k z l.v.j c,ι wd,(π f),(π m),(π s)] 301:=by have q:=j.set 5 ((π s));simpa using q
 have a0:=ar.set_ne (show w.o.q+1≠w.o.q+1+1 by omega) 5 ((π s));have a6:μ w (w6.x (ω (w.o.q+1+1) 5) ((π s))):=(U6 ae g).x υ _;generalize A:ext d w5.o.q (k+1,i,2)=H at *;have P:∀b,b<w.o.q->H b=own b:=λb hb=>by rw[←A,fj _ _ _ _ η];exact V b hb
 generalize w6.x (ω (w.o.q+1+1) 5) ((π s))=w7 at *;clear A ah g j ar am av ax o p t T ao ay a2 ag az ae;obtain⟨o,p,t⟩:=aG.I;obtain⟨aH,aJ,aL⟩:=a0.I;go_wp2
 (try simp only[p_,Exit.then])
 have G:zc [w.o.q+1] w7 ((((((w7.x (δ (w.o.q+1)) (ι l.o)).x (ω (w.o.q+1) 1) (.k z l.v.j c)).x (ω (w.o.q+1) 2) (ι wd)).x (ω (w.o.q+1) 3) ((π f))).x (ω (w.o.q+1) 4) ((π m))).x (ω (w.o.q+1) 5) ((π s))):=(((((zc.set _ _ _ _).A (zc.set _ _ _ _)).A (zc.set _ _ _ _)).A (zc.set _ _ _ _)).A (zc.set _ _ _ _)).A (zc.set _ _ _ _);have C:=UP.box a0;refine zP (v:=.agg #[ι l.o,.k z l.v.j c,ι wd,(π f),(π m),(π s)]) (by simp[results,results204,go_sem,aH]) rfl ⟨⟨.k z l.v.j c,f,m,s⟩,H,rfl,by rw[a1.l];rfl,?_,P,?_⟩;rw[a1.l];exact⟨aF.l.saveT G C θ,aC.saveT G C θ,a5.saveT G C θ,aB.saveT G C θ⟩;exact(((((a6.x ζ _).x ζ _).x ζ _).x ζ _).x ζ _).x ζ _
end
section
open Go.Proofs.Tryz
variable {lo:Nat}{r:zv}{tv sv bv:O}{hvs:List O}{ji:List Int}{d:Int}
def TQ:(e_.info? 323).map (λi=>(i.zero,i.q,i.bytes))=Z (Z (.agg #[.u Y,ι 0,ι 0,ι 0]),4,32):=χ
def Ux:(e_.info? 325).map (λi=>(i.zero,i.q,i.bytes))=Z (Z (.agg #[ι 0,ν,ι 0,.u Y]),4,48):=χ
def Ug:(e_.info? 310).map (·.q)=Z 28:=χ
structure kd (lo:Nat) (w:U) (J:zF) (P:xP):Prop where
 g:yx lo w P.tv J.g.v
 ja:w.r lo 323 4 P.sv J.ja.j (yH (h_ f8 J.ja P.tbs))
 slen:P.tbs.j=J.ja.j
 tries:∀k (_:k<J.ja.j) (_:k<P.tbs.j),yc lo w P.tbs[k].1 J.ja[k].rows P.tbs[k].2
 B:∀s∈J.ja,s.B.j=3
 bars:w.r lo 325 4 P.bv J.bars.j (yH (h_ dA J.bars P.bps))
 blen:P.bps.j=J.bars.j
 jk:∀k (_:k<J.bars.j) (_:k<P.bps.j),yx lo w P.bps[k].1 J.bars[k].lit.v/\yc lo w P.bps[k].2.1 J.bars[k].rows P.bps[k].2.2
 hlen:P.hvs.j=5/\J.jf.j=5
 jf:∀p (_:p<J.jf.j) (_:p<P.hvs.j),w.r lo 327 2 P.hvs[p] J.jf[p].j (g5 J.jf[p])/\J.jf[p].j<=1000/\∀h∈J.jf[p],h.1<=1000000/\h.2<=1000000
 jl:J.ji.j=5/\J.P.j=5/\J.from.j=5
 M:J.ja.j<=1000/\J.bars.j<=1000/\J.m<=1000000
def kd.join{w:U}{a:Nat}{J:zF}{P:xP}(h:kd lo w J P)(b:lo<=a)(c:U3 w a (uL J P).F 310):UT lo w a J P:=
 ⟨b,c,h.g,h.ja,h.slen,h.tries,h.B,h.bars,h.blen,h.jk,h.hlen,h.jf,h.jl,h.M⟩
def kd.u{w w':U}{J:zF}{P:xP}(h:kd lo w J P)(c:μ w w'):kd lo w' J P:=
 ⟨h.g.u c,zy h.ja c,h.slen,λk a b=>(h.tries k a b).u c,h.B,zy h.bars c,h.blen,λk a b=>⟨(h.jk k a b).1.u c,(h.jk k a b).2.u c⟩,h.hlen,λp a b=>⟨zy (h.jf p a b).1 c,(h.jf p a b).2⟩,h.jl,h.M⟩
def rT(J:zF)(P:xP)(h:P.hvs.j=5)(a:J.ji.j=5/\J.P.j=5/\J.from.j=5):(uL J P).j=28:=by
 simp[uL,h,a.1,a.2.1,a.2.2]
def jc(r:zv)(tv sv bv:O)(hvs:List O)(ji:List Int)(d:Int):List Value:=
 [ι r.g.o,tv,ι r.m,sv,bv]++hvs++ji.map (O.int .i64)++[ι (xQ r r.m)]++([0,0,0,0,0]:List Nat).map Vg++([0,0,0,0,0]:List Nat).map Vg++[ι d,ι 0]
def Tx(a:hvs.j=5)(k:Nat)(e:k<5)(u:O):(jc r tv sv bv hvs ji d).F.setIfInBounds (5+k) u=(jc r tv sv bv (hvs.set k u) ji d).F:=by
 obtain⟨f,h,b,c,g,rfl⟩:=five a;obtain rfl|rfl|rfl|rfl|rfl:k=0∨k=1∨k=2∨k=3∨k=4:=η
 all_goals simp[jc]
def Oj(a:hvs.j=5)(b:ji.j=5)(k:Nat)(g:k<5)(u:Int):(jc r tv sv bv hvs ji d).F.setIfInBounds (10+k) (ι u)=(jc r tv sv bv hvs (ji.set k u) d).F:=by
 obtain⟨h,o,e,c,j,rfl⟩:=five a;obtain⟨l,f,m,n,i,rfl⟩:=five b;obtain rfl|rfl|rfl|rfl|rfl:k=0∨k=1∨k=2∨k=3∨k=4:=η
 all_goals simp[jc]
def KL(a:hvs.j=5)(b:ji.j=5)(u:Int):(jc r tv sv bv hvs ji d).F.setIfInBounds 26 (ι u)=(jc r tv sv bv hvs ji u).F:=by
 obtain⟨g,m,c,e,i,rfl⟩:=five a;obtain⟨j,f,k,l,h,rfl⟩:=five b;simp[jc]
def SX(u:O):(jc r tv sv bv hvs ji d).F.setIfInBounds 4 u=(jc r tv sv u hvs ji d).F:=by simp[jc]
def KH(b:hvs.j=5)(c:ji.j=5):(jc r tv sv bv hvs ji d).F[3]?=Z sv/\(jc r tv sv bv hvs ji d).F[4]?=Z bv/\(jc r tv sv bv hvs ji d).F[26]?=Z (ι d)/\(∀k,k<5->(jc r tv sv bv hvs ji d).F[5+k]?=Z (hvs.d k (.i false)))/\(∀k,k<5->(jc r tv sv bv hvs ji d).F[10+k]?=Z (ι (ji.d k 0))):=by
 obtain⟨h,o,e,f,j,rfl⟩:=five b;obtain⟨l,g,m,n,i,rfl⟩:=five c;refine⟨by simp[jc],by simp[jc],by simp[jc],λk a=>?_,λk a=>?_⟩
 all_goals
  obtain rfl|rfl|rfl|rfl|rfl:k=0∨k=1∨k=2∨k=3∨k=4:=η
  all_goals simp[jc]
def F2:∀(b:List V4) (k:Nat) (_:k<b.j) (u:O),(yH b).set (k*4) u=yH (b.modify k λy=>(u,y.2.1,y.2.2.1,y.2.2.2))
 |[],k,a,_=>by simp at a
 |y::r,0,_,u=>by simp[yH,lD]
 |y::r,k+1,a,u=>by
  have:=F2 r k (by simpa using a) u;simp only[yH,uZ,lD,l_] at this ⊢;rw[show(k+1)*4=k*4+1+1+1+1 from by omega];simpa using this
def Ry(a:List V4)(y:V4):yH (a++[y])=yH a++[y.1,y.2.1,y.2.2.1,y.2.2.2]:=by simp[yH,lD]
def N4(e a c b:O):∀(n i:Nat),i<n*4->(madeCells #[e,a,c,b] (n*4))[i]?=(yH (i_ n (e,a,c,b)))[i]?:=by
 intro n i s;obtain⟨k,j,m,rfl⟩:∃k j,j<4/\i=k*4+j:=⟨i / 4,i%4,Nat.mod_lt _ θ,η⟩;have o:k<n:=η;obtain⟨g,f,l,h⟩:=tF (i_ n (e,a,c,b)) k (by simpa using o);simp only[ij] at g f l h;have q:(k*4+j)%4=j:=η;simp only[madeCells,Array.getElem?_map,Array.getElem?_range];rw[zb s];simp only[jY];have p:(#[e,a,c,b]:Array O).q=4:=rfl;rw[p,q];match j,m with
 |0,_=>rw[vB,g];rfl
 |1,_=>rw[f];rfl
 |2,_=>rw[l];rfl
 |3,_=>rw[h];rfl
def Ss{W:U}{g n:Nat}{T:f_}{c a e b:O}(h:U3 W g (madeCells #[c,a,e,b] (n*4)) T)(k:lo<=g)(j:n<=maxLen):W.r lo T 4 (sl g n) n (yH (i_ n (c,a,e,b))):=by
 refine⟨by rw[eL];simp,zg ⟨g,n,madeCells #[c,a,e,b] (n*4),rfl,k,h,ze _,j,by rw[size_madeCells],?_⟩⟩;apply ni;intro i;by_cases f:i<n*4;rw[mH,zb f,Array.getElem?_toList,N4 _ _ _ _ n i f];rw[mH,za f,d8 (by rw[eL];simp;omega)]
def WK(b:Nat):Value:=(π b)
def oJ:V4:=(.u Y,ι 0,ι 0,ι 0)
def oa:List Value:=[ν,ν,ν,ν,ν]
def eD(w b:U)(r:zv)(tv:O)(n:Nat)(s:O):Prop:=∃a g,s=(π a)/\w.o.q<=a/\w.o.q<=g/\U3 b a (jc r tv (sl g n) (ν) oa [0,0,0,0,0] 0).F 310/\U3 b g (madeCells #[.u Y,ι 0,ι 0,ι 0] (n*4)) 323/\μ w b
end
section
variable {lo:Nat}{w0 w:U}{b6 jb:Nat}{r:zv}{tv sv bv:O}{hvs:List O}{ji:List Int}{d:Int}
def Lu{l:zx}{p n:Nat}(h:xd l p=Z n):n<=p:=by
 unfold xd at h;split at h;simp only[zt] at h;have:=sT (p:=zL l) (l:=o_ p);simp at this;omega;cases h
def KR(r:zv)(p:Nat)(i:r.qc.j<=1000)(j:p<=1000000):(xx r p).j<=1000/\∀h∈xx r p,h.1<=1000000/\h.2<=1000000:=by
 constructor;have:=sY (fQ p) r.qc.zipIdx;rw[D6];simp at this;omega;intro h c;rw[D6,nC] at c;obtain⟨x,e,b⟩:=c;unfold fQ at b;rcases a:xd x.1 p with _|f;rw[a] at b;cases b;rw[a] at b;simp only[jY,zt] at b;subst b;have g:=Lu a;have k:=List.snd_lt_of_mem_zipIdx e;simp only;omega
structure vr (lo:Nat) (w0 w:U) (b6 jb:Nat) (r:zv) (tv sv bv:O) (hvs:List O) (ji:List Int) (d:Int):Prop where
 box:U3 w jb (jc r tv sv bv hvs ji d).F 310
 hlen:hvs.j=5
 blen:ji.j=5
 res:∃c,U3 w b6 c 310/\c.q=28
 u:μ w0 w
 ne:w0.o.q<=jb/\w0.o.q<=b6/\jb≠b6
def vr.next{w':U}(h:vr lo w0 w b6 jb r tv sv bv hvs ji d)(a:μ w w'):vr lo w0 w' b6 jb r tv sv bv hvs ji d:=by
 obtain⟨c,b,e⟩:=h.res;exact⟨h.box.u a,h.hlen,h.blen,⟨c,b.u a,e⟩,U6 h.u a,h.ne⟩
def vr.hold(h:vr lo w0 w b6 jb r tv sv bv hvs ji d)(k:Nat)(a:k<5)(u:O):vr lo w0 (w.x (ω jb (5+k)) u) b6 jb r tv sv bv (hvs.set k u) ji d:=by
 obtain⟨c,b,e⟩:=h.res;refine⟨?_,by simpa using h.hlen,h.blen,⟨c,b.set_ne (n_ h.ne.2.2) _ _,e⟩,h.u.x h.ne.1 _,h.ne⟩;have:=h.box.set (5+k) u;rw[Tx h.hlen k a] at this;exact this
def vr.back(h:vr lo w0 w b6 jb r tv sv bv hvs ji d)(k:Nat)(a:k<5)(u:Int):vr lo w0 (w.x (ω jb (10+k)) (ι u)) b6 jb r tv sv bv hvs (ji.set k u) d:=by
 obtain⟨c,b,e⟩:=h.res;refine⟨?_,h.hlen,by simpa using h.blen,⟨c,b.set_ne (n_ h.ne.2.2) _ _,e⟩,h.u.x h.ne.1 _,h.ne⟩;have:=h.box.set (10+k) (ι u);rw[Oj h.hlen h.blen k a] at this;exact this
def vr.ql(h:vr lo w0 w b6 jb r tv sv bv hvs ji d)(u:Int):vr lo w0 (w.x (ω jb 26) (ι u)) b6 jb r tv sv bv hvs ji u:=by
 obtain⟨c,a,b⟩:=h.res;refine⟨?_,h.hlen,h.blen,⟨c,a.set_ne (n_ h.ne.2.2) _ _,b⟩,h.u.x h.ne.1 _,h.ne⟩;have:=h.box.set 26 (ι u);rw[KL h.hlen h.blen] at this;exact this
def vr.bars(h:vr lo w0 w b6 jb r tv sv bv hvs ji d)(u:O):vr lo w0 (w.x (ω jb 4) u) b6 jb r tv sv u hvs ji d:=by
 obtain⟨c,a,b⟩:=h.res;refine⟨?_,h.hlen,h.blen,⟨c,a.set_ne (n_ h.ne.2.2) _ _,b⟩,h.u.x h.ne.1 _,h.ne⟩;have:=h.box.set 4 u;rw[SX] at this;exact this
def vr.save{w0 w w':U}{b6 jb:Nat}{r:zv}{tv sv bv:O}{hvs:Γ}{ji:List Int}{d:Int}{M:Φ}(h:vr lo w0 w b6 jb r tv sv bv hvs ji d)(hs:zc M w w')(e:∀b∈M,w0.o.q<=b)(a:jb∉M/\b6∉M):vr lo w0 w' b6 jb r tv sv bv hvs ji d:=by
 obtain⟨c,f,g⟩:=h.res;exact⟨h.box.save hs a.1,h.hlen,h.blen,⟨c,f.save hs a.2,g⟩,h.u.A (hs.u e h.u.q),h.ne⟩
def j6(UO:List (Nat×List Nat))(n k:Nat):List V4:=(UO.G k).map (λx=>(WK x.1,ι 0,ι 0,ι 0))++i_ (n-k) oJ
structure lH (b0 lo:Nat) (w:U) (v:O) (ts:List zm) (UO:List (Nat×List Nat)):Prop where
 own:w.r b0 162 1 v ts.j (UO.map λx=>WK x.1)
 len:UO.j=ts.j
 tries:∀k (_:k<ts.j) (_:k<UO.j),yc lo w UO[k].1 ts[k] UO[k].2
 M:ts.j<=1000
def lH.u{c:Nat}{w w':U}{v:O}{ts:List zm}{UO:List (Nat×Φ)}(h:lH c lo w v ts UO)(e:μ w w'):lH c lo w' v ts UO:=⟨zy h.own e,h.len,λk a b=>(h.tries k a b).u e,h.M⟩
def lH.cell{i:Nat}{w:U}{v:O}{ts:List zm}{UO:List (Nat×Φ)}(h:lH i lo w v ts UO)(k:Nat)(j:k<ts.j)(b:k<UO.j):∃g a,v=.k (Z (δ g)) ts.j a/\g<w.o.q/\w.p (ω g k)=Z (.u (Z (δ UO[k].1))):=by
 obtain⟨g,a,c,_,f,e⟩:=yt h.own η;exact⟨g,a,c,f,e k _ (by simp[b,WK])⟩
def kO(r:zv)(k:Nat):List Int:=(o_ 5).map λp=>if p<k then xQ r (p:Nat) else 0
def S8(r:zv)(k:Nat)(a:k<5):(kO r k).set k (xQ r (k:Nat))=kO r (k+1):=by
 obtain rfl|rfl|rfl|rfl|rfl:k=0∨k=1∨k=2∨k=3∨k=4:=η
 all_goals rfl
def vG(r:zv)(qc qx:List zm)(d:Int):zF:={g:=r.g,m:=r.m,ja:=qc.map (λT=>⟨T,[0,0,0]⟩),bars:=(r.qx.zip qx).map (λx=>⟨x.1,vo x.1,x.2⟩),jf:=(o_ 5).map (xx r),ji:=(o_ 5).map (λp=>xQ r (p:Nat)),last:=xQ r r.m,P:=[0,0,0,0,0],«from»:=[0,0,0,0,0],ql:=d,jg:=0}
def gQ(qc:List zm):Int:=if qc.any (λT=>T.count == 0) then -1 else 0
def QP(r:zv)(qc qx:List zm):xL r qc qx=if vx (vG r qc qx (gQ qc)) 0 then vG r qc qx (-1) else vG r qc qx (gQ qc):=rfl
end
section
open Go.Proofs.Tryz
variable {lo:Nat}
def VI:O×O×Value:=(.i false,.g m_,ν)
def FS(c:zd)(w:U)(e:Ending)(w':U):Prop:=∃g a,w.o.q<=g/\e=ε (.k (Z ⟨g,0,Y⟩) (1+c.d.j) (1+c.d.j))/\w'.r w.o.q 90 3 (.k (Z ⟨g,0,Y⟩) (1+c.d.j) (1+c.d.j)) (1+c.d.j) (UM (h_ vO (zj c) a))/\UN w.o.q w' (zj c) a/\μ w w'
def Pv(w:U)(c:zd)(va vb:O)(hs:U7 lo w va c.g.k)(hb:Vd lo w vb c.d)(hf:mJ c):
  c_ e_ 88 #[.agg #[.i c.g.i,.g c.g.o,va,vb]] w λe H=>FS c w e H:=by
 obtain⟨i0,hi,ax,av,az⟩:=info_parts Uo;obtain⟨ao,K,rfl⟩:=hs.qm;obtain⟨S,C,rfl⟩:=hb.qm;obtain⟨I,aA⟩:=hf;have ah:=λW:U=>run_make (P:=e_) (w:=W) 91 90 i0 _ underlying91 hi ax .i64 .i64 (1+(c.d.j:Int)) (1+(c.d.j:Int)) η (Int.le_refl _) (by rw[az];omega) η;rw[av] at ah;have HH:X (∀W,μ w W->c_ e_ 133 #[.agg #[.i c.g.i,.g c.g.o,.k ao c.g.k.j K]] W λe H=>∃g,W.o.q<=g/\e=ε (.agg #[.i c.g.i,.g c.g.o,.k (Z (δ g)) c.g.k.j c.g.k.j])/\U7 W.o.q H (.k (Z (δ g)) c.g.k.j c.g.k.j) c.g.k/\μ W H):=λW hW=>I7 W c.g _ (hs.u hW) (I c.g (by simp[zj])).2.2.1;go_enter func88,ntmps88;go_wp2_with (go_at_call 133;refine(HH.l _ γ).y ?_;rintro e w1 ⟨g,hg,rfl,ab,t⟩;have b:=zy (EK (w.C (.E #[.i c.g.i,.g c.g.o,.k ao c.g.k.j K,.k S c.d.j C] 171)) (1+c.d.j) 90 (.i false) (.g m_) (ν) b_) t;simp only[k_] at b;obtain⟨J,L,G,F⟩:=pq b 0 υ;simp only[Nat.zero_mul,uM] at L G F;have ag:=uv b;have s:=((U3.new w #[.i c.g.i,.g c.g.o,.k ao c.g.k.j K,.k S c.d.j C] 171).u ((zn _ _).C (ze _) (.E (madeCells #[.i false,.g m_,ν] ((1+c.d.j)*3)) 90))).u t;obtain⟨al,ak⟩:=s.H;have a3:=s.lt)
 have T:μ w w1:=zJ γ t (ze _);have aB:=T.q;have ar:w.o.q<=g:=by simp only[k_] at hg;omega
 have y:=ab.low (show w.o.q<=_ by simp only[k_];omega);have o:=t7 (yq b (show w.o.q<=w.o.q+1 by omega)) 0 υ (.i c.g.i) (.g c.g.o) (.k (Z (δ g)) c.g.k.j c.g.k.j);have ac:=y.sets b 0 1 2 (.i c.g.i) (.g c.g.o) (.k (Z (δ g)) c.g.k.j c.g.k.j);have aw:μ w (((w1.x (δ (w.o.q+1)) (.i c.g.i)).x (ω (w.o.q+1) 1) (.g c.g.o)).x (ω (w.o.q+1) 2) (.k (Z (δ g)) c.g.k.j c.g.k.j)):=(((T.x ζ _).x ζ _).x ζ _);simp only[Nat.zero_mul,uM] at o;generalize ((w1.x (δ (w.o.q+1)) (.i c.g.i)).x (ω (w.o.q+1) 1) (.g c.g.o)).x (ω (w.o.q+1) 2) (.k (Z (δ g)) c.g.k.j c.g.k.j)=w2 at *;clear L G F ag al ak ah b s ab y t hg;have HF:X (∀l∈zj c,mW l):=I;clear I;go_loopw [19] (λi wr=>∃(k:Nat) (r:Φ),k<=c.d.j/\i=ι k/\μ w wr/\wr.r w.o.q 90 3 (.k (Z (δ (w.o.q+1))) (1+c.d.j) (1+c.d.j)) (1+c.d.j) (UM (h_ vO (c.g::c.d.G k) r++i_ (c.d.j-k) VI))/\UN w.o.q wr (c.g::c.d.G k) r) (λi _=>c.d.j-(d_ i).D);refine⟨0,[g],zs _,rfl,aw,?_,?_⟩;have e:(i_ (1+c.d.j) (O.bool false,O.string m_,O.slice Y 0 0)).set 0 (.i c.g.i,.g c.g.o,.k (Z (δ g)) c.g.k.j c.g.k.j)=h_ vO (c.g::c.d.G 0) [g]++i_ (c.d.j-0) VI:=by
  rw[Nat.add_comm 1,p8];rfl
 rw[←e];exact o;exact(UN.nil _).snoc (ls:=[]) (gs:=[]) ζ ar ac;clear o ac;obtain⟨k,r,hk,rfl,h,j,f⟩:=hrel;have a2:=h.q;by_cases ae:k<c.d.j
 .obtain⟨gl,V,A,rfl,M,aj,J,af,am⟩:=hb.cell k ae;have a9:=(h.cell (p:=(ω gl (k*3))) M).A aj;have a5:=(h.cell (p:=(ω gl (k*3+1))) M).A J;have a6:=(h.cell (p:=(ω gl (k*3+2))) M).A af;have a8:gl<wr.o.q:=η;have aa:=HF.l c.d[k] (by simp[zj]);have z:=am.u h;have HT:X (c.g::c.d.G (k+1)=(c.g::c.d.G k)++[c.d[k]]):=by rw[X,yF ae];rfl
  have ad:(c.g::c.d.G k).j=1+k:=by rw[xp,vi];omega
  clear aj J af am;generalize c.d[k]=a at *;have HL:X (∀W,μ wr W->c_ e_ 133 #[.agg #[.i a.i,.g a.o,.k V a.k.j A]] W λe H=>∃g,W.o.q<=g/\e=ε (.agg #[.i a.i,.g a.o,.k (Z (δ g)) a.k.j a.k.j])/\U7 W.o.q H (.k (Z (δ g)) a.k.j a.k.j) a.k/\μ W H):=λW hW=>I7 W a _ (z.u hW) aa.2.2.1;clear z aa;have HG:X (r.j=(c.g::c.d.G k).j):=f.1;obtain⟨m,hm⟩:∃m,c.d.j-k=m+1:=⟨c.d.j-k-1,η⟩;have N:c.d.j-(k+1)=m:=η;rw[hm] at j;have ay:X (c.d.j-(k+1)=m):=N;clear hm N;generalize c.g::c.d.G k=u at *;have Q:1+k<(h_ vO u r++i_ (m+1) VI).j:=by rw[yB,List.length_zipWith,HG.l,iQ];omega
  generalize R:h_ vO u r++i_ (m+1) VI=ys at *;have au:X (h_ vO u r++i_ (m+1) VI=ys):=R;clear R;go_wp2_with (go_at_call 133;refine(HL.l _ γ).y ?_;rintro e w3 ⟨v,aq,rfl,a0,an⟩;have n:=zJ ((zn wr.o.q wr).C (ze _) (.E #[.i a.i,.g a.o,.k V a.k.j A] 90)) an (ze _);have d:=zy j n;have E:=f.y (λ_ _ q=>q.u n);obtain⟨a7,L,G,F⟩:=pq d (1+k) Q;have a4:=uv d)
  have B:=t7 d (1+k) Q (.i a.i) (.g a.o) (.k (Z (δ v)) a.k.j a.k.j);have ai:ys.set (1+k) (.i a.i,.g a.o,.k (Z (δ v)) a.k.j a.k.j)=h_ vO (u++[a]) (r++[v])++i_ m VI:=by rw[←au.l,←ad];exact Tt HG.l a v m VI
  rw[ai] at B;have a1:wr.o.q<=v:=by simp only[k_] at aq;omega
  have D:=(E.snoc (l:=a) (g:=v) (λx hx=>by have:=f.lt x hx;omega) η (a0.low (by simp only[k_];omega))).y (λ_ _ q=>q.sets d ((1+k)*3) ((1+k)*3+1) ((1+k)*3+2) (.i a.i) (.g a.o) (.k (Z (δ v)) a.k.j a.k.j));have ap:=zJ h n (ze _);go_roundw;exact⟨k+1,r++[v],η,ξ,(((ap.x ζ _).x ζ _).x ζ _),by rw[HT.l,ay.l];exact B,by rw[HT.l];exact D⟩;simp[d_];omega
 have e1:c.d.j-k=0:=η;have e2:c.d.G k=c.d:=yO η;rw[e1,e2,List.replicate_zero,vD] at j;rw[e2] at f;go_wp2;go_ret;exact⟨w.o.q+1,r,η,rfl,j,f,h⟩
def MG(w:U)(pb:Nat)(cs:Ξ)(t:Ψ)(i:Int)(h:uE lo w pb cs t)(n:cs.j<=1000)(a:i<0∨(cs.j:Int)<=i):
  c_ e_ 50 #[(π pb),ι i] w λe j=>e=ε (.B #[ν,ι 11])/\μ w j:=by
 obtain⟨_,v,l,b,g,_⟩:=h;obtain⟨k,f,rfl⟩:=g.qm;obtain⟨o,m⟩:=b.H;have d:=b.lt;rcases a with a|a
 .go_enter func50,ntmps50;go_wp2;go_ret2
  exact⟨rfl,γ⟩
 have c:¬i<0:=η;go_enter func50,ntmps50;go_wp2;go_ret2
 exact⟨rfl,γ⟩
def M2(w:U)(pb:Nat)(cs:Ξ)(t:Ψ)(k:Nat)(h:uE lo w pb cs t)(C:cs.j<=1000)(x:k<cs.j)(y:mJ cs[k]):
  c_ e_ 50 #[(π pb),ι k] w λe d=>∃g f,w.o.q<=g/\e=ε (.B #[.k (Z (δ g)) (1+cs[k].d.j) (1+cs[k].d.j),ι 0])/\d.r w.o.q 90 3 (.k (Z (δ g)) (1+cs[k].d.j) (1+cs[k].d.j)) (1+cs[k].d.j) (UM (h_ vO (zj cs[k]) f))/\UN w.o.q d (zj cs[k]) f/\μ w d:=by
 obtain⟨_,v,J,r,s,_⟩:=h;obtain⟨M,F,rfl⟩:=s.qm;obtain⟨K,I⟩:=r.H;have z:=r.lt;obtain⟨g,p,b,q,a,rfl,N,E,G,D,B,i,o⟩:=s.cell k x;generalize cs[k]=c at *;have A:X (∀W,μ w W->c_ e_ 88 #[.agg #[.i c.g.i,.g c.g.o,.k p c.g.k.j b,.k q c.d.j a]] W λe d=>FS c W e d):=λW u=>Pv W c _ _ (i.u u) (o.u u) y;go_enter func50,ntmps50;go_wp2_with (go_at_call 88;refine(A.l _ γ).y ?_;rintro e L ⟨H,f,l,rfl,j,n,m⟩)
 go_ret2
 exact⟨H,f,l,rfl,j,n,m⟩
end
end Go.Proofs.YteampbddflhngaaGreat
