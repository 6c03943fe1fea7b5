import Derived.Test.YteampbddflhngaaGreatV24
namespace Go.Proofs.YteampbddflhngaaGreat
set_option linter.all false
set_option maxRecDepth 100000
set_option maxHeartbeats 8000000
open Go.Proofs.Tryz Go.RowKit
section
variable {lo:Nat}
def uU(l:zt)(row:zk):Nat->zk
 |0=>[0,0,0]
 |k+1=>qC l row (uU l row k) k
theorem GN{l:zt}{row f:zk}(a:ul l row=f):xx l row=if (xu l row f 0&&xu l row f 1&&xu l row f 2)=true then some f else none:=by unfold xx;rw[a]
theorem Mp(l:zt)(row:zk):ul l row=uU l row 3:=rfl
theorem L8(w:World)(v:Value)(B:Nat)(ts:List zZ)(j f r2:Nat)(h:yh lo w v ts):
  Calls prog 213 #[.agg #[.int .i64 B,v],QC j f r2] w fun r E=>(∃x y z:Nat,r=.returned (.tuple #[QC x y z,.bool (xx ⟨B,ts⟩ [j,f,r2]).isSome])/\[x,y,z]=(xx ⟨B,ts⟩ [j,f,r2]).getD [0,0,0])/\Below w.heap.size w E:=by
 obtain⟨ao,af,rfl⟩:=h.qw;have hl:=h.len;have aB:=O0 (.int .i64 j) (.int .i64 f) (.int .i64 r2);have aA:=OF (.int .i64 j) (.int .i64 f) (.int .i64 r2);have aC:=Ox (.int .i64 j) (.int .i64 f) (.int .i64 r2);unfold QC;go_enter func213,ntmps213;go_wp2;go_loopw [12] (fun a6 wr=>∃k x y z:Nat,k<=3/\a6=.int .i64 k/\OZ wr w.heap.size #[.int .i64 B,.slice ao ts.length af] 204/\OZ wr (w.heap.size+1) #[.int .i64 j,.int .i64 f,.int .i64 r2] 165/\OZ wr (w.heap.size+2) #[.int .i64 0,.int .i64 0,.int .i64 0] 165/\OZ wr (w.heap.size+3) #[.int .i64 x,.int .i64 y,.int .i64 z] 165/\Hid (uU ⟨B,ts⟩ [j,f,r2] k=[x,y,z])/\Below w.heap.size w wr) (fun i _=>3-(intOf i).toNat)
 case atStart=>exact⟨0,0,0,0,by omega,rfl,(((OZ.new w _ _).below zO).below zO).below zO,((OZ.newAt _ _ _ _ (by simp)).below zO).below zO,(OZ.newAt _ _ _ _ (by simp)).below zO,OZ.newAt _ _ _ _ (by simp),rfl,(by go_grown)⟩
 case round=>
  obtain⟨k,x,y,z,hk,rfl,n,s,q,m,S,b⟩:=hrel;obtain⟨ay,az,av⟩:=n.boxed;obtain⟨a4,au,a5⟩:=s.boxed;obtain⟨a2,a1,a0⟩:=m.boxed;have al:=b.size;match k,hk with
  |0,_=>
   by_cases D:0<ts.length
   ·have o:Hid (uU ⟨B,ts⟩ [j,f,r2] 1=if leveled ts[0]=true then [x,y,z].set ts[0].level j else [x,y,z]):=by
     rw[Hid,uU,S.out];simp[qC,D,List.getD_eq_getElem?_getD]
    obtain⟨g,R,Q,V,h1,U⟩:=h.cell 0 D;subst R;have L:=zl b Q V;have N:=zl b Q h1;have I:=zl b Q U;simp only[Nat.reduceMul,Nat.reduceAdd] at L N I;have C:g<wr.heap.size:=by omega
    have ad:Hid (∀W,Calls prog 218 #[.agg #[.bool ts[0].var,.int .i64 (ts[0].num:Nat),.int .i64 (ts[0].level:Nat)]] W fun r E=>r=.returned (.bool (leveled ts[0]))/\Below W.heap.size W E):=fun W=>sL W ts[0];have O:leveled ts[0]=true->ts[0].level<3:=by simp[leveled]
    clear V h1 U;generalize ts[0]=t at *;generalize leveled t=lb at *;cases lb with
    |false=>
     simp only[kL,if_false] at o;go_wp2_with (first|(go_at_call 218;refine(ad.out _).mono ?_;rintro r w2 ⟨rfl,c⟩))
     go_roundw
     case rel=>exact⟨1,x,y,z,by omega,rfl,n.below c,s.below c,q.below c,m.below c,o,Pc b c⟩
     case measure=>simp[intOf]
    |true=>
     simp only[if_true] at o;have ax:=O rfl;clear O;generalize ag:t.level=lv at *;clear ag;go_wp2_with (first|(go_at_call 218;refine(ad.out _).mono ?_;rintro r w2 ⟨rfl,c⟩;have a:=c;have A:=n.below c;obtain⟨X,ae,aa⟩:=A.boxed;have ai:=zl c C I;have u:=m.below c;obtain⟨Z,T,Y⟩:=u.boxed;have ar:=(xo C c.size);obtain rfl|rfl|rfl:lv=0∨lv=1∨lv=2:=(by omega)))
     ·have J:Hid (uU ⟨B,ts⟩ [j,f,r2] 1=[j,y,z]):=by rw[Hid,o.out];rfl
      have d:=(m.below a).set 0 (.int .i64 j);simp at d;have F:=(n.below a).set_ne (show w.heap.size≠w.heap.size+3 from by omega) 0 (.int .i64 j);have K:=(s.below a).set_ne (show w.heap.size+1≠w.heap.size+3 from by omega) 0 (.int .i64 j);have H:=(q.below a).set_ne (show w.heap.size+2≠w.heap.size+3 from by omega) 0 (.int .i64 j);have G:=(Pc b a).setCell (p:=⟨w.heap.size+3,0,none⟩) (by simp) (.int .i64 j);go_wp2;go_roundw
      case rel=>exact⟨1,j,y,z,by omega,rfl,F,K,H,d,J,G⟩
      case measure=>simp[intOf]
     ·have J:Hid (uU ⟨B,ts⟩ [j,f,r2] 1=[x,j,z]):=by rw[Hid,o.out];rfl
      have d:=(m.below a).set 1 (.int .i64 j);simp at d;have F:=(n.below a).set_ne (show w.heap.size≠w.heap.size+3 from by omega) 1 (.int .i64 j);have K:=(s.below a).set_ne (show w.heap.size+1≠w.heap.size+3 from by omega) 1 (.int .i64 j);have H:=(q.below a).set_ne (show w.heap.size+2≠w.heap.size+3 from by omega) 1 (.int .i64 j);have G:=(Pc b a).setCell (p:=⟨w.heap.size+3,1,none⟩) (by simp) (.int .i64 j);go_wp2;go_roundw
      case rel=>exact⟨1,x,j,z,by omega,rfl,F,K,H,d,J,G⟩
      case measure=>simp[intOf]
     ·have J:Hid (uU ⟨B,ts⟩ [j,f,r2] 1=[x,y,j]):=by rw[Hid,o.out];rfl
      have d:=(m.below a).set 2 (.int .i64 j);simp at d;have F:=(n.below a).set_ne (show w.heap.size≠w.heap.size+3 from by omega) 2 (.int .i64 j);have K:=(s.below a).set_ne (show w.heap.size+1≠w.heap.size+3 from by omega) 2 (.int .i64 j);have H:=(q.below a).set_ne (show w.heap.size+2≠w.heap.size+3 from by omega) 2 (.int .i64 j);have G:=(Pc b a).setCell (p:=⟨w.heap.size+3,2,none⟩) (by simp) (.int .i64 j);go_wp2;go_roundw
      case rel=>exact⟨1,x,y,j,by omega,rfl,F,K,H,d,J,G⟩
      case measure=>simp[intOf]
   ·have o:Hid (uU ⟨B,ts⟩ [j,f,r2] 1=[x,y,z]):=by
     rw[Hid,uU,S.out];simp[qC,D]
    have ap:ts.length<=0:=by omega
    go_wp2;go_roundw
    case rel=>exact⟨1,x,y,z,by omega,rfl,n,s,q,m,o,b⟩
    case measure=>simp[intOf]
  |1,_=>
   by_cases D:1<ts.length
   ·have o:Hid (uU ⟨B,ts⟩ [j,f,r2] 2=if leveled ts[1]=true then [x,y,z].set ts[1].level f else [x,y,z]):=by
     rw[Hid,uU,S.out];simp[qC,D,List.getD_eq_getElem?_getD]
    obtain⟨g,R,Q,V,h1,U⟩:=h.cell 1 D;subst R;have L:=zl b Q V;have N:=zl b Q h1;have I:=zl b Q U;simp only[Nat.reduceMul,Nat.reduceAdd] at L N I;have C:g<wr.heap.size:=by omega
    have ad:Hid (∀W,Calls prog 218 #[.agg #[.bool ts[1].var,.int .i64 (ts[1].num:Nat),.int .i64 (ts[1].level:Nat)]] W fun r E=>r=.returned (.bool (leveled ts[1]))/\Below W.heap.size W E):=fun W=>sL W ts[1];have O:leveled ts[1]=true->ts[1].level<3:=by simp[leveled]
    clear V h1 U;generalize ts[1]=t at *;generalize leveled t=lb at *;cases lb with
    |false=>
     simp only[kL,if_false] at o;go_wp2_with (first|(go_at_call 218;refine(ad.out _).mono ?_;rintro r w2 ⟨rfl,c⟩))
     go_roundw
     case rel=>exact⟨2,x,y,z,by omega,rfl,n.below c,s.below c,q.below c,m.below c,o,Pc b c⟩
     case measure=>simp[intOf]
    |true=>
     simp only[if_true] at o;have ax:=O rfl;clear O;generalize ag:t.level=lv at *;clear ag;go_wp2_with (first|(go_at_call 218;refine(ad.out _).mono ?_;rintro r w2 ⟨rfl,c⟩;have a:=c;have A:=n.below c;obtain⟨X,ae,aa⟩:=A.boxed;have ai:=zl c C I;have u:=m.below c;obtain⟨Z,T,Y⟩:=u.boxed;have ar:=(xo C c.size);obtain rfl|rfl|rfl:lv=0∨lv=1∨lv=2:=(by omega)))
     ·have J:Hid (uU ⟨B,ts⟩ [j,f,r2] 2=[f,y,z]):=by rw[Hid,o.out];rfl
      have d:=(m.below a).set 0 (.int .i64 f);simp at d;have F:=(n.below a).set_ne (show w.heap.size≠w.heap.size+3 from by omega) 0 (.int .i64 f);have K:=(s.below a).set_ne (show w.heap.size+1≠w.heap.size+3 from by omega) 0 (.int .i64 f);have H:=(q.below a).set_ne (show w.heap.size+2≠w.heap.size+3 from by omega) 0 (.int .i64 f);have G:=(Pc b a).setCell (p:=⟨w.heap.size+3,0,none⟩) (by simp) (.int .i64 f);go_wp2;go_roundw
      case rel=>exact⟨2,f,y,z,by omega,rfl,F,K,H,d,J,G⟩
      case measure=>simp[intOf]
     ·have J:Hid (uU ⟨B,ts⟩ [j,f,r2] 2=[x,f,z]):=by rw[Hid,o.out];rfl
      have d:=(m.below a).set 1 (.int .i64 f);simp at d;have F:=(n.below a).set_ne (show w.heap.size≠w.heap.size+3 from by omega) 1 (.int .i64 f);have K:=(s.below a).set_ne (show w.heap.size+1≠w.heap.size+3 from by omega) 1 (.int .i64 f);have H:=(q.below a).set_ne (show w.heap.size+2≠w.heap.size+3 from by omega) 1 (.int .i64 f);have G:=(Pc b a).setCell (p:=⟨w.heap.size+3,1,none⟩) (by simp) (.int .i64 f);go_wp2;go_roundw
      case rel=>exact⟨2,x,f,z,by omega,rfl,F,K,H,d,J,G⟩
      case measure=>simp[intOf]
     ·have J:Hid (uU ⟨B,ts⟩ [j,f,r2] 2=[x,y,f]):=by rw[Hid,o.out];rfl
      have d:=(m.below a).set 2 (.int .i64 f);simp at d;have F:=(n.below a).set_ne (show w.heap.size≠w.heap.size+3 from by omega) 2 (.int .i64 f);have K:=(s.below a).set_ne (show w.heap.size+1≠w.heap.size+3 from by omega) 2 (.int .i64 f);have H:=(q.below a).set_ne (show w.heap.size+2≠w.heap.size+3 from by omega) 2 (.int .i64 f);have G:=(Pc b a).setCell (p:=⟨w.heap.size+3,2,none⟩) (by simp) (.int .i64 f);go_wp2;go_roundw
      case rel=>exact⟨2,x,y,f,by omega,rfl,F,K,H,d,J,G⟩
      case measure=>simp[intOf]
   ·have o:Hid (uU ⟨B,ts⟩ [j,f,r2] 2=[x,y,z]):=by
     rw[Hid,uU,S.out];simp[qC,D]
    have ap:ts.length<=1:=by omega
    go_wp2;go_roundw
    case rel=>exact⟨2,x,y,z,by omega,rfl,n,s,q,m,o,b⟩
    case measure=>simp[intOf]
  |2,_=>
   by_cases D:2<ts.length
   ·have o:Hid (uU ⟨B,ts⟩ [j,f,r2] 3=if leveled ts[2]=true then [x,y,z].set ts[2].level r2 else [x,y,z]):=by
     rw[Hid,uU,S.out];simp[qC,D,List.getD_eq_getElem?_getD]
    obtain⟨g,R,Q,V,h1,U⟩:=h.cell 2 D;subst R;have L:=zl b Q V;have N:=zl b Q h1;have I:=zl b Q U;simp only[Nat.reduceMul,Nat.reduceAdd] at L N I;have C:g<wr.heap.size:=by omega
    have ad:Hid (∀W,Calls prog 218 #[.agg #[.bool ts[2].var,.int .i64 (ts[2].num:Nat),.int .i64 (ts[2].level:Nat)]] W fun r E=>r=.returned (.bool (leveled ts[2]))/\Below W.heap.size W E):=fun W=>sL W ts[2];have O:leveled ts[2]=true->ts[2].level<3:=by simp[leveled]
    clear V h1 U;generalize ts[2]=t at *;generalize leveled t=lb at *;cases lb with
    |false=>
     simp only[kL,if_false] at o;go_wp2_with (first|(go_at_call 218;refine(ad.out _).mono ?_;rintro r w2 ⟨rfl,c⟩))
     go_roundw
     case rel=>exact⟨3,x,y,z,by omega,rfl,n.below c,s.below c,q.below c,m.below c,o,Pc b c⟩
     case measure=>simp[intOf]
    |true=>
     simp only[if_true] at o;have ax:=O rfl;clear O;generalize ag:t.level=lv at *;clear ag;go_wp2_with (first|(go_at_call 218;refine(ad.out _).mono ?_;rintro r w2 ⟨rfl,c⟩;have a:=c;have A:=n.below c;obtain⟨X,ae,aa⟩:=A.boxed;have ai:=zl c C I;have u:=m.below c;obtain⟨Z,T,Y⟩:=u.boxed;have ar:=(xo C c.size);obtain rfl|rfl|rfl:lv=0∨lv=1∨lv=2:=(by omega)))
     ·have J:Hid (uU ⟨B,ts⟩ [j,f,r2] 3=[r2,y,z]):=by rw[Hid,o.out];rfl
      have d:=(m.below a).set 0 (.int .i64 r2);simp at d;have F:=(n.below a).set_ne (show w.heap.size≠w.heap.size+3 from by omega) 0 (.int .i64 r2);have K:=(s.below a).set_ne (show w.heap.size+1≠w.heap.size+3 from by omega) 0 (.int .i64 r2);have H:=(q.below a).set_ne (show w.heap.size+2≠w.heap.size+3 from by omega) 0 (.int .i64 r2);have G:=(Pc b a).setCell (p:=⟨w.heap.size+3,0,none⟩) (by simp) (.int .i64 r2);go_wp2;go_roundw
      case rel=>exact⟨3,r2,y,z,by omega,rfl,F,K,H,d,J,G⟩
      case measure=>simp[intOf]
     ·have J:Hid (uU ⟨B,ts⟩ [j,f,r2] 3=[x,r2,z]):=by rw[Hid,o.out];rfl
      have d:=(m.below a).set 1 (.int .i64 r2);simp at d;have F:=(n.below a).set_ne (show w.heap.size≠w.heap.size+3 from by omega) 1 (.int .i64 r2);have K:=(s.below a).set_ne (show w.heap.size+1≠w.heap.size+3 from by omega) 1 (.int .i64 r2);have H:=(q.below a).set_ne (show w.heap.size+2≠w.heap.size+3 from by omega) 1 (.int .i64 r2);have G:=(Pc b a).setCell (p:=⟨w.heap.size+3,1,none⟩) (by simp) (.int .i64 r2);go_wp2;go_roundw
      case rel=>exact⟨3,x,r2,z,by omega,rfl,F,K,H,d,J,G⟩
      case measure=>simp[intOf]
     ·have J:Hid (uU ⟨B,ts⟩ [j,f,r2] 3=[x,y,r2]):=by rw[Hid,o.out];rfl
      have d:=(m.below a).set 2 (.int .i64 r2);simp at d;have F:=(n.below a).set_ne (show w.heap.size≠w.heap.size+3 from by omega) 2 (.int .i64 r2);have K:=(s.below a).set_ne (show w.heap.size+1≠w.heap.size+3 from by omega) 2 (.int .i64 r2);have H:=(q.below a).set_ne (show w.heap.size+2≠w.heap.size+3 from by omega) 2 (.int .i64 r2);have G:=(Pc b a).setCell (p:=⟨w.heap.size+3,2,none⟩) (by simp) (.int .i64 r2);go_wp2;go_roundw
      case rel=>exact⟨3,x,y,r2,by omega,rfl,F,K,H,d,J,G⟩
      case measure=>simp[intOf]
   ·have o:Hid (uU ⟨B,ts⟩ [j,f,r2] 3=[x,y,z]):=by
     rw[Hid,uU,S.out];simp[qC,D]
    have ap:ts.length<=2:=by omega
    go_wp2;go_roundw
    case rel=>exact⟨3,x,y,z,by omega,rfl,n,s,q,m,o,b⟩
    case measure=>simp[intOf]
  |3,_=>
   have HM:Hid (xx ⟨B,ts⟩ [j,f,r2]=if (xu ⟨B,ts⟩ [j,f,r2] [x,y,z] 0&&xu ⟨B,ts⟩ [j,f,r2] [x,y,z] 1&&xu ⟨B,ts⟩ [j,f,r2] [x,y,z] 2)=true then some [x,y,z] else none):=GN ((Mp _ _).trans S.out);clear S;rw[show((3:Nat):Int)=3 from rfl];go_wp2;have o:Hid (OZ wr w.heap.size #[.int .i64 B,.slice ao ts.length af] 204/\OZ wr (w.heap.size+1) #[.int .i64 j,.int .i64 f,.int .i64 r2] 165/\OZ wr (w.heap.size+2) #[.int .i64 0,.int .i64 0,.int .i64 0] 165/\OZ wr (w.heap.size+3) #[.int .i64 x,.int .i64 y,.int .i64 z] 165/\Below w.heap.size w wr):=⟨n,s,q,m,b⟩;clear ay az av a4 au a5 a2 a1 a0 al n s q m b;go_loopw [39] (fun a7 wr=>∃k:Nat,k<=3/\a7=.int .i64 k/\OZ wr w.heap.size #[.int .i64 B,.slice ao ts.length af] 204/\OZ wr (w.heap.size+1) #[.int .i64 j,.int .i64 f,.int .i64 r2] 165/\OZ wr (w.heap.size+2) #[.int .i64 0,.int .i64 0,.int .i64 0] 165/\OZ wr (w.heap.size+3) #[.int .i64 x,.int .i64 y,.int .i64 z] 165/\Hid (∀i,i<k->xu ⟨B,ts⟩ [j,f,r2] [x,y,z] i=true)/\Below w.heap.size w wr) (fun i _=>3-(intOf i).toNat)
   case atStart=>
    obtain⟨q1,q2,q3,q4,q5⟩:=o.out;exact⟨0,by omega,rfl,q1,q2,q3,q4,(fun i hi=>by omega),q5⟩
   case round=>
    clear o;obtain⟨k,hk,rfl,n,s,q,m,HA,b⟩:=hrel;obtain⟨ay,az,av⟩:=n.boxed;obtain⟨a4,au,a5⟩:=s.boxed;obtain⟨a2,a1,a0⟩:=m.boxed;obtain⟨a8,aD,a9⟩:=q.boxed;have al:=b.size;match k,hk with
    |0,_=>
     by_cases D:0<ts.length
     ·have M:Hid (xu ⟨B,ts⟩ [j,f,r2] [x,y,z] 0=jn ts[0] j [x,y,z]):=by unfold xu;rw[Hid,decide_eq_false (show ¬ts.length<=0 by omega)];simp[List.getD_eq_getElem?_getD,D]
      obtain⟨g,R,Q,V,h1,U⟩:=h.cell 0 D;subst R;have L:=zl b Q V;have N:=zl b Q h1;have I:=zl b Q U;simp only[Nat.reduceMul,Nat.reduceAdd] at L N I;have C:g<wr.heap.size:=by omega
      have ak:(0:Int)<(ts.length:Int):=by omega
      have ah:Hid (∀W,Calls prog 219 #[.agg #[.bool ts[0].var,.int .i64 (ts[0].num:Nat),.int .i64 (ts[0].level:Nat)],.int .i64 j,.agg #[.int .i64 x,.int .i64 y,.int .i64 z]] W fun r E=>r=.returned (.bool (jn ts[0] j [x,y,z]))/\Below W.heap.size W E):=fun W=>i5 W ts[0] j x y z;clear V h1 U;generalize ts[0]=t at *;generalize jn t j [x,y,z]=ab at *;go_wp2;go_region_held3 (fun E=>E.cell? ⟨w.heap.size,1,none⟩=some (.slice (some ⟨g,0,none⟩) ts.length af)/\E.cell? ⟨g,0,none⟩=some (.bool t.var)/\E.cell? ⟨g,1,none⟩=some (.int .i64 t.num)/\E.cell? ⟨g,2,none⟩=some (.int .i64 t.level)/\E.cell? ⟨w.heap.size+1+1+1,0,none⟩=some (.int .i64 x)/\E.cell? ⟨w.heap.size+1+1+1,1,none⟩=some (.int .i64 y)/\E.cell? ⟨w.heap.size+1+1+1,2,none⟩=some (.int .i64 z)) (first|go_keep|(go_simp;done)) (first|(go_at_call 219;refine(ah.out _).mono ?_;rintro r w2 ⟨rfl,c⟩;have l:Below wr.heap.size wr w2:=(zM (by go_grown) c (zh _));have A:=n.below l;obtain⟨X,ae,aa⟩:=A.boxed;have u:=m.below l;obtain⟨Z,T,Y⟩:=u.boxed;have a3:=zl l C L;have aw:=zl l C N;have ai:=(zl l C I)))
      cases ab with
      |true=>
       have P:Hid (∀i,i<1->xu ⟨B,ts⟩ [j,f,r2] [x,y,z] i=true):=fun i hi=>by
        by_cases e:i=0
        ·subst e;exact M.out
        ·exact HA.out i (by omega)
       go_wp2;go_roundw
       case rel=>exact⟨1,by omega,rfl,A,s.below l,q.below l,u,P,Pc b l⟩
       case measure=>simp[intOf]
      |false=>
       have S:Hid (xx ⟨B,ts⟩ [j,f,r2]=none):=by rw[Hid,HM.out,M.out];simp
       have aj:=q.below l;obtain⟨ac,an,aq⟩:=aj.boxed;go_wp2;exact zJ (v:=.tuple #[.agg #[.int .i64 0,.int .i64 0,.int .i64 0],.bool false]) (by simp[results,results213,go_sem,ac]) rfl ⟨⟨0,0,0,by rw[S.out];rfl,by rw[S.out];rfl⟩,(((Pc b l).setCell (p:=⟨w.heap.size+2,0,none⟩) (by simp) _).setCell (p:=⟨w.heap.size+2,1,none⟩) (by simp) _).setCell (p:=⟨w.heap.size+2,2,none⟩) (by simp) _⟩
     ·have M:Hid (xu ⟨B,ts⟩ [j,f,r2] [x,y,z] 0=true):=by unfold xu;rw[Hid,decide_eq_true (show ts.length<=0 by omega)];rfl
      have P:Hid (∀i,i<1->xu ⟨B,ts⟩ [j,f,r2] [x,y,z] i=true):=fun i hi=>by
       by_cases e:i=0
       ·subst e;exact M.out
       ·exact HA.out i (by omega)
      have am:decide ((0:Int)<(ts.length:Int))=false:=decide_eq_false (by omega);go_wp2;go_quiet (fail)
      go_wp2;go_roundw
      case rel=>exact⟨1,by omega,rfl,n.below (zI (zo _ _) _),s.below (zI (zo _ _) _),q.below (zI (zo _ _) _),m.below (zI (zo _ _) _),P,zI b _⟩
      case measure=>simp[intOf]
    |1,_=>
     by_cases D:1<ts.length
     ·have M:Hid (xu ⟨B,ts⟩ [j,f,r2] [x,y,z] 1=jn ts[1] f [x,y,z]):=by unfold xu;rw[Hid,decide_eq_false (show ¬ts.length<=1 by omega)];simp[List.getD_eq_getElem?_getD,D]
      obtain⟨g,R,Q,V,h1,U⟩:=h.cell 1 D;subst R;have L:=zl b Q V;have N:=zl b Q h1;have I:=zl b Q U;simp only[Nat.reduceMul,Nat.reduceAdd] at L N I;have C:g<wr.heap.size:=by omega
      have ak:(1:Int)<(ts.length:Int):=by omega
      have ah:Hid (∀W,Calls prog 219 #[.agg #[.bool ts[1].var,.int .i64 (ts[1].num:Nat),.int .i64 (ts[1].level:Nat)],.int .i64 f,.agg #[.int .i64 x,.int .i64 y,.int .i64 z]] W fun r E=>r=.returned (.bool (jn ts[1] f [x,y,z]))/\Below W.heap.size W E):=fun W=>i5 W ts[1] f x y z;clear V h1 U;generalize ts[1]=t at *;generalize jn t f [x,y,z]=ab at *;go_wp2;go_region_held3 (fun E=>E.cell? ⟨w.heap.size,1,none⟩=some (.slice (some ⟨g,0,none⟩) ts.length af)/\E.cell? ⟨g,3,none⟩=some (.bool t.var)/\E.cell? ⟨g,4,none⟩=some (.int .i64 t.num)/\E.cell? ⟨g,5,none⟩=some (.int .i64 t.level)/\E.cell? ⟨w.heap.size+1+1+1,0,none⟩=some (.int .i64 x)/\E.cell? ⟨w.heap.size+1+1+1,1,none⟩=some (.int .i64 y)/\E.cell? ⟨w.heap.size+1+1+1,2,none⟩=some (.int .i64 z)) (first|go_keep|(go_simp;done)) (first|(go_at_call 219;refine(ah.out _).mono ?_;rintro r w2 ⟨rfl,c⟩;have l:Below wr.heap.size wr w2:=(zM (by go_grown) c (zh _));have A:=n.below l;obtain⟨X,ae,aa⟩:=A.boxed;have u:=m.below l;obtain⟨Z,T,Y⟩:=u.boxed;have a3:=zl l C L;have aw:=zl l C N;have ai:=(zl l C I)))
      cases ab with
      |true=>
       have P:Hid (∀i,i<2->xu ⟨B,ts⟩ [j,f,r2] [x,y,z] i=true):=fun i hi=>by
        by_cases e:i=1
        ·subst e;exact M.out
        ·exact HA.out i (by omega)
       go_wp2;go_roundw
       case rel=>exact⟨2,by omega,rfl,A,s.below l,q.below l,u,P,Pc b l⟩
       case measure=>simp[intOf]
      |false=>
       have S:Hid (xx ⟨B,ts⟩ [j,f,r2]=none):=by rw[Hid,HM.out,M.out];simp
       have aj:=q.below l;obtain⟨ac,an,aq⟩:=aj.boxed;go_wp2;exact zJ (v:=.tuple #[.agg #[.int .i64 0,.int .i64 0,.int .i64 0],.bool false]) (by simp[results,results213,go_sem,ac]) rfl ⟨⟨0,0,0,by rw[S.out];rfl,by rw[S.out];rfl⟩,(((Pc b l).setCell (p:=⟨w.heap.size+2,0,none⟩) (by simp) _).setCell (p:=⟨w.heap.size+2,1,none⟩) (by simp) _).setCell (p:=⟨w.heap.size+2,2,none⟩) (by simp) _⟩
     ·have M:Hid (xu ⟨B,ts⟩ [j,f,r2] [x,y,z] 1=true):=by unfold xu;rw[Hid,decide_eq_true (show ts.length<=1 by omega)];rfl
      have P:Hid (∀i,i<2->xu ⟨B,ts⟩ [j,f,r2] [x,y,z] i=true):=fun i hi=>by
       by_cases e:i=1
       ·subst e;exact M.out
       ·exact HA.out i (by omega)
      have am:decide ((1:Int)<(ts.length:Int))=false:=decide_eq_false (by omega);go_wp2;go_quiet (fail)
      go_wp2;go_roundw
      case rel=>exact⟨2,by omega,rfl,n.below (zI (zo _ _) _),s.below (zI (zo _ _) _),q.below (zI (zo _ _) _),m.below (zI (zo _ _) _),P,zI b _⟩
      case measure=>simp[intOf]
    |2,_=>
     by_cases D:2<ts.length
     ·have M:Hid (xu ⟨B,ts⟩ [j,f,r2] [x,y,z] 2=jn ts[2] r2 [x,y,z]):=by unfold xu;rw[Hid,decide_eq_false (show ¬ts.length<=2 by omega)];simp[List.getD_eq_getElem?_getD,D]
      obtain⟨g,R,Q,V,h1,U⟩:=h.cell 2 D;subst R;have L:=zl b Q V;have N:=zl b Q h1;have I:=zl b Q U;simp only[Nat.reduceMul,Nat.reduceAdd] at L N I;have C:g<wr.heap.size:=by omega
      have ak:(2:Int)<(ts.length:Int):=by omega
      have ah:Hid (∀W,Calls prog 219 #[.agg #[.bool ts[2].var,.int .i64 (ts[2].num:Nat),.int .i64 (ts[2].level:Nat)],.int .i64 r2,.agg #[.int .i64 x,.int .i64 y,.int .i64 z]] W fun r E=>r=.returned (.bool (jn ts[2] r2 [x,y,z]))/\Below W.heap.size W E):=fun W=>i5 W ts[2] r2 x y z;clear V h1 U;generalize ts[2]=t at *;generalize jn t r2 [x,y,z]=ab at *;go_wp2;go_region_held3 (fun E=>E.cell? ⟨w.heap.size,1,none⟩=some (.slice (some ⟨g,0,none⟩) ts.length af)/\E.cell? ⟨g,6,none⟩=some (.bool t.var)/\E.cell? ⟨g,7,none⟩=some (.int .i64 t.num)/\E.cell? ⟨g,8,none⟩=some (.int .i64 t.level)/\E.cell? ⟨w.heap.size+1+1+1,0,none⟩=some (.int .i64 x)/\E.cell? ⟨w.heap.size+1+1+1,1,none⟩=some (.int .i64 y)/\E.cell? ⟨w.heap.size+1+1+1,2,none⟩=some (.int .i64 z)) (first|go_keep|(go_simp;done)) (first|(go_at_call 219;refine(ah.out _).mono ?_;rintro r w2 ⟨rfl,c⟩;have l:Below wr.heap.size wr w2:=(zM (by go_grown) c (zh _));have A:=n.below l;obtain⟨X,ae,aa⟩:=A.boxed;have u:=m.below l;obtain⟨Z,T,Y⟩:=u.boxed;have a3:=zl l C L;have aw:=zl l C N;have ai:=(zl l C I)))
      cases ab with
      |true=>
       have P:Hid (∀i,i<3->xu ⟨B,ts⟩ [j,f,r2] [x,y,z] i=true):=fun i hi=>by
        by_cases e:i=2
        ·subst e;exact M.out
        ·exact HA.out i (by omega)
       go_wp2;go_roundw
       case rel=>exact⟨3,by omega,rfl,A,s.below l,q.below l,u,P,Pc b l⟩
       case measure=>simp[intOf]
      |false=>
       have S:Hid (xx ⟨B,ts⟩ [j,f,r2]=none):=by rw[Hid,HM.out,M.out];simp
       have aj:=q.below l;obtain⟨ac,an,aq⟩:=aj.boxed;go_wp2;exact zJ (v:=.tuple #[.agg #[.int .i64 0,.int .i64 0,.int .i64 0],.bool false]) (by simp[results,results213,go_sem,ac]) rfl ⟨⟨0,0,0,by rw[S.out];rfl,by rw[S.out];rfl⟩,(((Pc b l).setCell (p:=⟨w.heap.size+2,0,none⟩) (by simp) _).setCell (p:=⟨w.heap.size+2,1,none⟩) (by simp) _).setCell (p:=⟨w.heap.size+2,2,none⟩) (by simp) _⟩
     ·have M:Hid (xu ⟨B,ts⟩ [j,f,r2] [x,y,z] 2=true):=by unfold xu;rw[Hid,decide_eq_true (show ts.length<=2 by omega)];rfl
      have P:Hid (∀i,i<3->xu ⟨B,ts⟩ [j,f,r2] [x,y,z] i=true):=fun i hi=>by
       by_cases e:i=2
       ·subst e;exact M.out
       ·exact HA.out i (by omega)
      have am:decide ((2:Int)<(ts.length:Int))=false:=decide_eq_false (by omega);go_wp2;go_quiet (fail)
      go_wp2;go_roundw
      case rel=>exact⟨3,by omega,rfl,n.below (zI (zo _ _) _),s.below (zI (zo _ _) _),q.below (zI (zo _ _) _),m.below (zI (zo _ _) _),P,zI b _⟩
      case measure=>simp[intOf]
    |3,_=>
     have S:Hid (xx ⟨B,ts⟩ [j,f,r2]=some [x,y,z]):=by rw[Hid,HM.out,HA.out 0 (by omega),HA.out 1 (by omega),HA.out 2 (by omega)];rfl
     go_wp2;exact zJ (v:=.tuple #[.agg #[.int .i64 x,.int .i64 y,.int .i64 z],.bool true]) (by simp[results,results213,go_sem,a8]) rfl ⟨⟨x,y,z,by rw[S.out];rfl,by rw[S.out];rfl⟩,((b.setCell (p:=⟨w.heap.size+2,0,none⟩) (by simp) _).setCell (p:=⟨w.heap.size+2,1,none⟩) (by simp) _).setCell (p:=⟨w.heap.size+2,2,none⟩) (by simp) _⟩
def gE(ps:List (Nat×Value)):List Value:=ps.flatMap fun x=>[.int .i64 (x.1:Nat),x.2]
theorem AM:∀(ps:List (Nat×Value)) (k:Nat) (a:k<ps.length),(gE ps)[k*2]?=some (.int .i64 (ps[k].1:Nat))/\(gE ps)[k*2+1]?=some ps[k].2
 |[],k,a=>by simp at a
 |p::r,0,_=>by simp[gE]
 |p::r,k+1,a=>by
  have:=AM r k (by simpa using a);simp only[gE,us] at this ⊢;rw[show(k+1)*2=k*2+1+1 from by omega,show k*2+1+1+1=k*2+1+1+1 from rfl];simpa using this
def ub(lo:Nat)(w:World)(v:Value)(a:List zt):Prop:=∃b:List (Nat×Value),w.ownsRow lo 204 2 v a.length (gE b)/\b.length=a.length/\a.length<=1000/\∀k (c:k<a.length) (d:k<b.length),b[k].1=a[k].pred/\yh lo w b[k].2 a[k].qg/\a[k].pred<=1000000
theorem ub.below{w f:World}{v:Value}{d:List zt}(h:ub lo w v d)(e:Below w.heap.size w f):ub lo f v d:=by
 obtain⟨g,j,i,l,c⟩:=h;exact⟨g,zE j e,i,l,fun k a b=>⟨(c k a b).1,(c k a b).2.1.below e,(c k a b).2.2⟩⟩
theorem ub.qw{w:World}{v:Value}{b:List zt}(h:ub lo w v b):∃c a,v=.slice c b.length a:=by obtain⟨e,d,_⟩:=h;exact zq d
theorem ub.len{w:World}{v:Value}{a:List zt}(h:ub lo w v a):a.length<=1000:=by obtain⟨c,_,_,b,_⟩:=h;exact b
theorem ub.cell{w:World}{f:Option Addr}{n cap:Nat}{c:List zt}(h:ub lo w (.slice f n cap) c)(k:Nat)(q:k<c.length):∃g b a,f=some ⟨g,0,none⟩/\g<w.heap.size/\w.cell? ⟨g,k*2,none⟩=some (.int .i64 (c[k].pred:Nat))/\w.cell? ⟨g,k*2+1,none⟩=some (.slice b c[k].qg.length a)/\yh lo w (.slice b c[k].qg.length a) c[k].qg:=by
 obtain⟨o,t,y,z,p⟩:=h;obtain⟨g,l,j,_,x,i⟩:=y7 t (by omega);simp only[Value.slice.injEq] at j;obtain⟨rfl,_,_⟩:=j;obtain⟨s,r⟩:=AM o k (by omega);obtain⟨u,d,_⟩:=p k q (by omega);obtain⟨b,a,v⟩:=d.qw;have e:=i _ _ s;have m:=i _ _ r;rw[u] at e;rw[v] at m d;exact⟨g,b,a,rfl,x,e,m,d⟩
structure uP (lo:Nat) (w:World) (tv pv nv:Value) (r:zr):Prop where
 head:yh lo w tv r.head.qg
 qc:ub lo w pv r.qc
 qp:ub lo w nv r.qp
 small:r.qh<=1000000/\r.vars<=1000000/\r.head.pred<=1000000
theorem uP.below{w d:World}{tv c b:Value}{r:zr}(h:uP lo w tv c b r)(a:Below w.heap.size w d):uP lo d tv c b r:=⟨h.head.below a,h.qc.below a,h.qp.below a,h.small⟩
def kj(r:zr)(tv b a:Value):Value:=.agg #[.int .i64 r.qh,.int .i64 r.vars,.int .i64 r.head.pred,tv,b,a]
theorem JG(w:World)(tv pv nv:Value)(r:zr)(a:Int)(h:uP lo w tv pv nv r):
  Calls prog 220 #[kj r tv pv nv,.int .i64 a] w fun e v=>e=.returned (.int .i64 (xE r a))/\Below w.heap.size w v:=by
 obtain⟨N,s,rfl⟩:=h.head.qw;obtain⟨ah,L,rfl⟩:=h.qc.qw;obtain⟨S,M,rfl⟩:=h.qp.qw;have an:=h.qc.len;have ao:=h.qp.len;have ae:Hid (∀W,Below w.heap.size w W->Calls prog 225 #[.agg #[.int .i64 r.head.pred,.slice N r.head.qg.length s],.int .i64 a] W fun e v=>e=.returned (.int .i64 (j4 r.head a))/\Below W.heap.size W v):=fun W J=>CB W _ r.head.pred a r.head.qg (h.head.below J);have hP:=h.qc;have hN:=h.qp;have HE:Hid (xE r a=r.qp.foldl (vz a) (r.qc.foldl (vz a) (j4 r.head a))):=rfl;unfold kj;clear h;have I:=OZ.new w #[.int .i64 r.qh,.int .i64 r.vars,.int .i64 r.head.pred,.slice N r.head.qg.length s,.slice ah r.qc.length L,.slice S r.qp.length M] 207;generalize j4 r.head a=R at *;generalize r.qc=b at *;generalize r.qp=c at *;go_enter func220,ntmps220;go_wp2_with (first|(go_at_call 225;refine(ae.out _ (by exact(by go_grown))).mono ?_;rintro e w1 ⟨rfl,z⟩;have al:Below w.heap.size w w1:=zM (by go_grown) z (zh _);have t:=I.below z;obtain⟨ab,T,aj⟩:=t.boxed))
 clear ab T aj I z;go_loopw [5,19] (fun U ai wr=>∃k:Nat,k<=b.length/\ai=.int .i64 k/\U=.int .i64 ((b.take k).foldl (vz a) R)/\Below w1.heap.size w1 wr) (fun _ i _=>b.length-(intOf i).toNat)
 case atStart=>exact⟨0,zv _,rfl,rfl,zo _ _⟩
 case round=>
  obtain⟨k,hk,rfl,rfl,q⟩:=hrel;have p:=Pc al q;have am:=p.size;by_cases G:k<b.length
  ·obtain⟨g,y,m,A,P,F,K,Q⟩:=hP.cell k G;subst A;have ac:=zl p P F;have Y:=zl p P K;have af:g<wr.heap.size:=by omega
   have H:=OY (p7 b (vz a) R k G);have n:Hid (∀W,Below w.heap.size w W->Calls prog 226 #[.agg #[.int .i64 (b[k].pred:Nat),.slice y b[k].qg.length m],.int .i64 a] W fun e v=>e=.returned (.int .i64 (vX b[k] a))/\Below W.heap.size W v):=fun W J=>AU W _ b[k].pred a b[k].qg (Q.below J);clear F K Q;generalize b[k]=l at *;generalize (b.take k).foldl (vz a) R=o at *;have f:Hid (vz a o l=if vX l a>o then vX l a else o):=rfl;generalize vX l a=ti at *;by_cases j:ti>o
   ·rw[zb j] at f;go_wp2_with (first|(go_at_call 226;refine(n.out _ (by exact(by go_grown))).mono ?_;rintro e E ⟨rfl,D⟩;have B:Below wr.heap.size wr E:=(zM (by go_grown) D (zh _))))
    go_roundw
    case rel=>exact⟨k+1,by omega,by go_num,by rw[H.out,f.out],Pc q B⟩
    case measure=>simp[intOf];omega
   ·rw[za j] at f;go_wp2_with (first|(go_at_call 226;refine(n.out _ (by exact(by go_grown))).mono ?_;rintro e E ⟨rfl,D⟩;have B:Below wr.heap.size wr E:=(zM (by go_grown) D (zh _))))
    go_roundw
    case rel=>exact⟨k+1,by omega,by go_num,by rw[H.out,f.out],Pc q B⟩
    case measure=>simp[intOf];omega
  ·obtain rfl:k=b.length:=by omega
   rw[uO];generalize b.foldl (vz a) R=Z at *;have O:=t.below q;obtain⟨ak,ag,aa⟩:=O.boxed;go_wp2;clear ak ag aa;obtain⟨E,X⟩:∃E,E=wr:=⟨wr,rfl⟩;subst X;go_loopw [5,34] (fun U ad wr=>∃k:Nat,k<=c.length/\ad=.int .i64 k/\U=.int .i64 ((c.take k).foldl (vz a) Z)/\Below w.heap.size w wr) (fun _ i _=>c.length-(intOf i).toNat)
   case atStart=>exact⟨0,zv _,rfl,rfl,p⟩
   case round=>
    obtain⟨k,hk,rfl,rfl,d⟩:=hrel;have V:=d.size;by_cases u:k<c.length
    ·obtain⟨g,y,m,A,P,F,K,Q⟩:=hN.cell k u;subst A;have ac:=zl d P F;have Y:=zl d P K;have af:g<wr.heap.size:=by omega
     have H:=OY (p7 c (vz a) Z k u);have n:Hid (∀W,Below w.heap.size w W->Calls prog 226 #[.agg #[.int .i64 (c[k].pred:Nat),.slice y c[k].qg.length m],.int .i64 a] W fun e v=>e=.returned (.int .i64 (vX c[k] a))/\Below W.heap.size W v):=fun W J=>AU W _ c[k].pred a c[k].qg (Q.below J);clear F K Q;generalize c[k]=l at *;generalize (c.take k).foldl (vz a) Z=o at *;have f:Hid (vz a o l=if vX l a>o then vX l a else o):=rfl;generalize vX l a=ti at *;by_cases j:ti>o
     ·rw[zb j] at f;go_wp2_with (first|(go_at_call 226;refine(n.out _ (by exact(by go_grown))).mono ?_;rintro e w3 ⟨rfl,C⟩;have x:Below wr.heap.size wr w3:=(zM (by go_grown) C (zh _))))
      go_roundw
      case rel=>exact⟨k+1,by omega,by go_num,by rw[H.out,f.out],Pc d x⟩
      case measure=>simp[intOf];omega
     ·rw[za j] at f;go_wp2_with (first|(go_at_call 226;refine(n.out _ (by exact(by go_grown))).mono ?_;rintro e w3 ⟨rfl,C⟩;have x:Below wr.heap.size wr w3:=(zM (by go_grown) C (zh _))))
      go_roundw
      case rel=>exact⟨k+1,by omega,by go_num,by rw[H.out,f.out],Pc d x⟩
      case measure=>simp[intOf];omega
    ·obtain rfl:k=c.length:=by omega
     rw[uO];go_wp2;go_ret;exact⟨by rw[HE.out];rfl,d⟩
end
section
variable {lo:Nat}{w:World}{jb:Nat}
theorem five{α:Type}{l:List α}(h:l.length=5):∃a b c d e,l=[a,b,c,d,e]:=by
 match l,h with
 |[a,b,c,d,e],_=>exact⟨a,b,c,d,e,rfl⟩
abbrev V4:=Value×Value×Value×Value
def d9(t:V4):List Value:=[t.1,t.2.1,t.2.2.1,t.2.2.2]
def yw(a:List V4):List Value:=a.flatMap d9
theorem wa(b:List V4):(yw b).length=b.length*4:=by
 induction b with
 |nil=>rfl
 |cons a l c=>simp[yw,d9] at c ⊢;omega
theorem pZ:∀(a:List V4) (k:Nat) (b:k<a.length),(yw a)[k*4]?=some a[k].1/\(yw a)[k*4+1]?=some a[k].2.1/\(yw a)[k*4+2]?=some a[k].2.2.1/\(yw a)[k*4+3]?=some a[k].2.2.2
 |[],k,b=>by simp at b
 |y::r,0,_=>by simp[yw,d9]
 |y::r,k+1,b=>by
  have:=pZ r k (by simpa using b);simp only[yw,us,d9] at this ⊢;rw[show(k+1)*4=k*4+1+1+1+1 from by omega,show k*4+1+1+1+1+2=k*4+2+1+1+1+1 from by omega,show k*4+1+1+1+1+3=k*4+3+1+1+1+1 from by omega];simpa using this
def gD(s:xC)(t:Nat×List Nat):V4:=(.pointer (some ⟨t.1,0,none⟩),.int .i64 (s.qi.getD 0 0:Nat),.int .i64 (s.qi.getD 1 0:Nat),.int .i64 (s.qi.getD 2 0:Nat))
def gi(b:sT)(t:Value×Nat×List Nat):V4:=(.int .i64 b.lit.pred,t.1,.int .i64 b.jd,.pointer (some ⟨t.2.1,0,none⟩))
def jP(a:List (Nat×Nat)):List Value:=a.flatMap fun h=>[.int .i64 (h.1:Nat),.int .i64 (h.2:Nat)]
structure xr where
 tv:Value
 sv:Value
 bv:Value
 hvs:List Value
 tbs:List (Nat×List Nat)
 bps:List (Value×Nat×List Nat)
def um(J:z9)(P:xr):List Value:=
 [.int .i64 J.head.pred,P.tv,.int .i64 J.vars,P.sv,P.bv]++P.hvs++J.jg.map (Value.int .i64)++[.int .i64 J.last]++J.qy.map PF++J.from.map PF++[.int .i64 J.ql,.int .i64 J.jh]
structure P2 (lo:Nat) (w:World) (jb:Nat) (J:z9) (P:xr):Prop where
 low:lo<=jb
 box:OZ w jb (um J P).toArray 310
 head:yh lo w P.tv J.head.qg
 ja:w.ownsRow lo 323 4 P.sv J.ja.length (yw (List.zipWith gD J.ja P.tbs))
 slen:P.tbs.length=J.ja.length
 tries:∀k (_:k<J.ja.length) (_:k<P.tbs.length),zX lo w P.tbs[k].1 J.ja[k].rows P.tbs[k].2
 qi:∀s∈J.ja,s.qi.length=3
 bars:w.ownsRow lo 325 4 P.bv J.bars.length (yw (List.zipWith gi J.bars P.bps))
 blen:P.bps.length=J.bars.length
 ji:∀k (_:k<J.bars.length) (_:k<P.bps.length),yh lo w P.bps[k].1 J.bars[k].lit.qg/\zX lo w P.bps[k].2.1 J.bars[k].rows P.bps[k].2.2
 hlen:P.hvs.length=5/\J.je.length=5
 je:∀p (_:p<J.je.length) (_:p<P.hvs.length),w.ownsRow lo 327 2 P.hvs[p] J.je[p].length (jP J.je[p])/\J.je[p].length<=1000/\∀h∈J.je[p],h.1<=1000000/\h.2<=1000000
 jk:J.jg.length=5/\J.qy.length=5/\J.from.length=5
 few:J.ja.length<=1000/\J.bars.length<=1000/\J.vars<=1000000
theorem zX.notin{tb:Nat}{T:zi}{fp:List Nat}(h:zX lo w tb T fp){b:Nat}{c:Array Value}{t:TypeId}(f:OZ w b c t)(l:t≠229)(k:t≠273)(j:t≠3):b∉fp:=by
 obtain⟨n,m,d,rfl⟩:=h;intro a;simp only[PX,zw,zW] at a;rcases a with a|a|a
 ·subst a;have q:=d.box;unfold OZ at q f;rw[f] at q;simp at q;exact l q.2
 ·exact xL d.qi f (Ne.symm k) (yv a) rfl
 ·obtain⟨i,g,e|e⟩:=wR a
  ·exact xL (d.leap i (by rw[←d.len];exact g) g) f (Ne.symm j) (b:=b) (by rw[e];rfl) rfl
  ·exact xL (d.down i (by rw[←d.len];exact g) g) f (Ne.symm j) (b:=b) (by rw[e];rfl) rfl
theorem yh.save{a:World}{v:Value}{ts:List zZ}{N:List Nat}(h:yh lo w v ts)(c:zd N w a)(d:∀b,v.ownBlock=some b->b∉N):yh lo a v ts:=⟨yI h.own c d,h.len,h.num⟩
theorem P2.below{w d:World}{jb:Nat}{J:z9}{P:xr}(h:P2 lo w jb J P)(c:Below w.heap.size w d):P2 lo d jb J P:=
 ⟨h.low,h.box.below c,h.head.below c,zE h.ja c,h.slen,fun k a b=>(h.tries k a b).below c,h.qi,zE h.bars c,h.blen,fun k a b=>⟨(h.ji k a b).1.below c,(h.ji k a b).2.below c⟩,h.hlen,fun p a b=>⟨zE (h.je p a b).1 c,(h.je p a b).2⟩,h.jk,h.few⟩
theorem P2.rebox{l:World}{J c:z9}{P:xr}(h:P2 lo w jb J P)(f:zd [jb] w l)(o:OZ l jb (um c P).toArray 310)(B:c.head=J.head)(g:c.ja=J.ja)(i:c.bars=J.bars)(q:c.je=J.je)(D:c.vars=J.vars)(z:c.jg.length=5/\c.qy.length=5/\c.from.length=5):P2 lo l jb c P:=by
 have j:∀{A:Nat} {e:TypeId} {G:Nat} {v:Value} {C:Nat} {y:List Value},w.ownsRow A e G v C y->e≠310->∀b,v.ownBlock=some b->b∉[jb]:=fun x F b n m=>xL x h.box F n (by simpa using m);have r:∀{s:Nat} {T:zi} {u:List Nat},zX lo w s T u->zX lo l s T u:=fun t=>t.save f (fun b E m=>by simp at m;subst m;exact t.notin h.box (by decide) (by decide) (by decide) E);refine⟨h.low,o,by rw[B];exact h.head.save f (j h.head.own (by decide)),by rw[g];exact yI h.ja f (j h.ja (by decide)),by rw[g];exact h.slen,fun k a b=>?_,by rw[g];exact h.qi,by rw[i];exact yI h.bars f (j h.bars (by decide)),by rw[i];exact h.blen,fun k a b=>?_,by rw[q];exact h.hlen,fun p a b=>?_,z,by rw[g,i,D];exact h.few⟩
 ·have d:k<J.ja.length:=by rw[←g];exact a
  simp only[g];exact r (h.tries k d b)
 ·have d:k<J.bars.length:=by rw[←i];exact a
  simp only[i];exact⟨(h.ji k d b).1.save f (j (h.ji k d b).1.own (by decide)),r (h.ji k d b).2⟩
 ·have d:p<J.je.length:=by rw[←q];exact a
  simp only[q];exact⟨yI (h.je p d b).1 f (j (h.je p d b).1 (by decide)),(h.je p d b).2⟩
theorem P2.at{J:z9}{P:xr}(h:P2 lo w jb J P):jb<w.heap.size/\(∀o,w.frozen? ⟨jb,o,none⟩=false)/\w.cell? ⟨jb,0,none⟩=some (.int .i64 J.head.pred)/\w.cell? ⟨jb,1,none⟩=some P.tv/\w.cell? ⟨jb,2,none⟩=some (.int .i64 J.vars)/\w.cell? ⟨jb,3,none⟩=some P.sv/\w.cell? ⟨jb,4,none⟩=some P.bv/\w.cell? ⟨jb,15,none⟩=some (.int .i64 J.last)/\w.cell? ⟨jb,26,none⟩=some (.int .i64 J.ql)/\w.cell? ⟨jb,27,none⟩=some (.int .i64 J.jh):=by
 obtain⟨b,e⟩:=h.box.rules;obtain⟨c,a,d⟩:=h.jk;obtain⟨F,l,v,n,C,g⟩:=five h.hlen.1;obtain⟨z,m,t,k,s,j⟩:=five c;obtain⟨y,D,x,q,p,i⟩:=five a;obtain⟨r,u,E,B,A,f⟩:=five d;refine⟨h.box.lt,e,?_,?_,?_,?_,?_,?_,?_,?_⟩<;>rw[b]<;>simp[um,g,j,i,f]
theorem P2.setMoves{J:z9}{P:xr}(h:P2 lo w jb J P)(m:Int):P2 lo (w.setCell ⟨jb,27,none⟩ (.int .i64 m)) jb {J with jh:=m} P:=by
 obtain⟨b,a,c⟩:=h.jk;refine h.rebox (zd.set _ _ _ _) ?_ rfl rfl rfl rfl rfl h.jk;obtain⟨E,k,u,n,B,f⟩:=five h.hlen.1;obtain⟨y,l,s,j,r,i⟩:=five b;obtain⟨x,C,v,p,o,g⟩:=five a;obtain⟨q,t,D,A,z,e⟩:=five c;have d:=h.box.set 27 (.int .i64 m);simpa [um,f,i,g,e] using d
theorem Dv(w:World)(jb:Nat)(J:z9)(P:xr)(s l:Nat)(h:P2 lo w jb J P):
  Calls prog 231 #[.pointer (some ⟨jb,0,none⟩),.agg #[.int .i64 s,.int .i64 l]] w fun e o=>e=.returned (.bool (vu J (s,l)))/\Below w.heap.size w o:=by
 obtain⟨j,m,_,_,_,i,_⟩:=h.at;obtain⟨p,k,g⟩:=zq h.ja;have b:Hid (vu J (s,l)=(decide (s<J.ja.length)&&decide (l<3))):=rfl;generalize J.ja.length=n at *;by_cases c:s<n
 ·by_cases f:l<3
  ·have a:(s:Int)<(n:Int):=by omega
   have d:(l:Int)<3:=by omega
   go_enter func231,ntmps231;go_wp2;go_quiet (fail)
   go_wp2;go_ret;exact⟨by rw[b.out];simp[c,f],zI (by go_grown) _⟩
  ·have a:(s:Int)<(n:Int):=by omega
   have d:decide ((l:Int)<3)=false:=decide_eq_false (by omega);go_enter func231,ntmps231;go_wp2;go_quiet (fail)
   go_wp2;go_ret;exact⟨by rw[b.out];simp[c,f],zI (by go_grown) _⟩
 ·have a:decide ((s:Int)<(n:Int))=false:=decide_eq_false (by omega);go_enter func231,ntmps231;go_wp2;go_quiet (fail)
  go_wp2;go_ret;exact⟨by rw[b.out];simp[c],zI (by go_grown) _⟩
end
section
variable {lo:Nat}
theorem P2.side{w:World}{n:Nat}{J:z9}{P:xr}(h:P2 lo w n J P)(s l:Nat)(q:s<J.ja.length)(t:l<3):
  ∃a b p r,P.sv=.slice (some ⟨a,0,none⟩) J.ja.length b/\a<w.heap.size/\a≠n/\w.cell? ⟨a,s*4,none⟩=some (.pointer (some ⟨p,0,none⟩))/\w.cell? ⟨a,s*4+1+l,none⟩=some (.int .i64 ((J.ja[s].qi.getD l 0:Nat):Int))/\zX lo w p J.ja[s].rows r/\(∀o,w.frozen? ⟨a,o,none⟩=false):=by
 obtain⟨a,b,e,_,g,d⟩:=y7 h.ja (by omega);have f:s<P.tbs.length:=by rw[h.slen];exact q
 obtain⟨m,k,j,i⟩:=pZ (List.zipWith gD J.ja P.tbs) s (by simp;omega);simp only[List.getElem_zipWith,gD] at m k j i;have c:=h.ja;rw[e] at c;refine⟨a,b,P.tbs[s].1,P.tbs[s].2,e,g,xL h.ja h.box (by decide) (by rw[e];rfl),d _ _ m,?_,h.tries s q f,qt c⟩;obtain rfl|rfl|rfl:l=0∨l=1∨l=2:=by omega
 ·exact d _ _ k
 ·exact d _ _ j
 ·exact d _ _ i
theorem L9(w:World)(a:Nat)(J:z9)(P:xr)(s l f:Nat)(h:P2 lo w a J P):
  Calls prog 229 #[.pointer (some ⟨a,0,none⟩),.agg #[.int .i64 s,.int .i64 l],.int .i64 f] w fun e t=>e=.returned (qK (vJ J (s,l) f).2)/\P2 lo t a (vJ J (s,l) f).1 P/\zd [a] w t:=by
 have p:=OY fun W X=>Dv W a J P s l (h.below X);have O:=OY h;cases g:vu J (s,l) with
 |false=>
  have i:Hid (vJ J (s,l) f=(J,none)):=by simp[Hid,vJ,g]
  go_enter func229,ntmps229;go_wp2_with (first|(go_at_call 231;refine(p.out _ (by exact(by go_grown))).mono ?_;rintro e j ⟨rfl,c⟩;have b:Below w.heap.size w j:=zM (by go_grown) c (zh _)))
  go_ret2
  exact⟨by rw[i.out];rfl,by rw[i.out];exact O.out.below b,zd.of b⟩
 |true=>
  have B:s<J.ja.length/\l<3:=by simpa [vu] using g
  obtain⟨N,V⟩:=B;have i:Hid (vJ J (s,l) f=({J with jh:=IntKind.i64.wrap (J.jh+1)},yF J.ja[s].rows (J.ja[s].qi.getD l 0) f)):=by simp[Hid,vJ,g,List.getD_eq_getElem?_getD,N]
  obtain⟨U,_⟩:=h.at;go_enter func229,ntmps229;go_wp2_with (first|(go_at_call 231;refine(p.out _ (by exact(by go_grown))).mono ?_;rintro e j ⟨rfl,c⟩;have b:Below w.heap.size w j:=zM (by go_grown) c (zh _);have d:=O.out.below b;obtain⟨K,F,_,_,_,aa,_,_,_,G⟩:=d.at;have m:=(OZ.new w #[.int .i64 s,.int .i64 l] 327).below c;obtain⟨z,v,T⟩:=m.boxed;have x:=OY d;clear d))
  have y:IntKind.i64.wrap (J.jh+1)=wrap64 (J.jh+1):=by rw[IntKind.wrap_i64];unfold wrap64;rfl
  rw[y] at i;have q:Hid (P2 lo (j.setCell ⟨a,27,none⟩ (.int .i64 (wrap64 (J.jh+1)))) a {J with jh:=wrap64 (J.jh+1)} P):=x.out.setMoves _;have A:w.heap.size≠a:=by omega
  have r:=m.set_ne A 27 (.int .i64 (wrap64 (J.jh+1)));have C:zd [a] w (j.setCell ⟨a,27,none⟩ (.int .i64 (wrap64 (J.jh+1)))):=(zd.of b).trans (zd.set _ _ _ _);generalize j.setCell ⟨a,27,none⟩ (.int .i64 (wrap64 (J.jh+1)))=I at *;have o:=q.out;obtain⟨S,L,_,_,_,Z,_⟩:=o.at;obtain⟨ac,Q,k,E,H,R,_,ab,Y,u,_⟩:=o.side s l N V;obtain⟨z,v⟩:=r.rules;have D:Hid (∀n,Calls prog 167 #[.pointer (some ⟨k,0,none⟩),.int .i64 ((J.ja[s].qi.getD l 0:Nat):Int),.int .i64 f] (I.drewN n) fun e t=>e=.returned (.tuple #[.int .i64 (((yF J.ja[s].rows (J.ja[s].qi.getD l 0) f).getD 0:Nat):Int),.bool (yF J.ja[s].rows (J.ja[s].qi.getD l 0) f).isSome])/\t=I.drewN n):=fun n=>rn _ k _ E _ f (u.below (zI (zo _ _) n));generalize J.ja[s].qi.getD l 0=nd at *;go_quiet ((go_at_call 167;exact Calls.quiet_of_same (D.out _)))
  go_wp2;go_ret2
  exact⟨by rw[i.out];rfl,by rw[i.out];exact q.out.below (zI (zo _ _) _),C.newer (zd.of (M:=[]) (zI (zo _ _) _)) (by simp)⟩
end
end Go.Proofs.YteampbddflhngaaGreat
