import Derived.Test.YteampbddflhngabGreatJ41
import Derived.Test.YteampbddflhngabGreatJCPz4

namespace Go.Proofs.YteampbddflhngabGreat
def tXw:zbh:=⟨true,0,0⟩
def lFw:zai:=⟨0,[tXw]⟩
def lGw:zai:=⟨1,[tXw]⟩
def rLw:zaf:=⟨0,1,⟨2,[tXw]⟩,[lFw,lGw],[]⟩
def JLw(Tf Tg:zad)(a b:Nat)(vals fr:List Nat)(d m:Int):zat:={ head:=⟨2,[tXw]⟩,vars:=1,sides:=[⟨Tf,[0,a,0]⟩,⟨Tg,[0,b,0]⟩],bars:=[],holds:=[[(0,0),(1,0)],[],[],[],[]],backs:=[-1,0,0,0,0],last:=0,values:=vals,«from»:=fr,depth:=d,moves:=m }
theorem yax{Tf Tg:zad}(hf:Tf.count≠0)(hg:Tg.count≠0):za0 rLw [Tf,Tg] []=JLw Tf Tg 0 0 [0,0,0,0,0] [0,0,0,0,0] 0 0:=by
 have h:([Tf,Tg].any fun T=>T.count == 0)=false:=by simp[hf,hg]
 unfold za0
 simp only[h]
 rfl
theorem yct(Tf Tg:zad)(a b:Nat)(vals fr:List Nat)(d m:Int)(v:Nat):zhb (JLw Tf Tg a b vals fr d m) (0,0) v=(JLw Tf Tg a b vals fr d (IntKind.i64.wrap (m+1)),zcj Tf 0 v):=rfl
theorem yc8(Tf Tg:zad)(a b:Nat)(vals fr:List Nat)(d m:Int)(v:Nat):zhb (JLw Tf Tg a b vals fr d m) (1,0) v=(JLw Tf Tg a b vals fr d (IntKind.i64.wrap (m+1)),zcj Tg 0 v):=rfl
theorem ycl{Tf Tg:zad}{n k:Nat}(hk:k < n)(hF:∀ v,zcj Tf 0 v=if v < n then some v else none)(hG:∀ v,zcj Tg 0 v=if v<=k then some k else none){a b:Nat}{vals fr:List Nat}{d:Int}{F:Nat}{J':zat}{o:Option Nat}(h:zh4 F (JLw Tf Tg a b vals fr d 0) [(0,0),(1,0)] 0 0 0=some (J',o)):o=some k/\∃ m:Int,(m=2∨m=3)/\J'=JLw Tf Tg a b vals fr d m:=by
 have w1:IntKind.i64.wrap (0+1)=1:=by decide
 have w2:IntKind.i64.wrap (1+1)=2:=by decide
 have w3:IntKind.i64.wrap (2+1)=3:=by decide
 have g0:([(0,0),(1,0)]:List (Nat × Nat)).getD 0 (0,0)=(0,0):=rfl
 have g1:([(0,0),(1,0)]:List (Nat × Nat)).getD 1 (0,0)=(1,0):=rfl
 have f0:zcj Tf 0 0=some 0:=by rw[hF,if_pos (by omega)]
 have fk:zcj Tf 0 k=some k:=by rw[hF,if_pos hk]
 have gg:zcj Tg 0 0=some k:=by rw[hG,if_pos (by omega)]
 cases F with
 |zero=>cases h
 |succ F =>
  unfold zh4 at h
  rw[if_pos (by decide),g0,yct,f0,w1] at h
  simp only[List.length_cons,List.length_nil] at h
  cases F with
  |zero=>cases h
  |succ F =>
   unfold zh4 at h
   simp only[gt_iff_lt,Nat.lt_irrefl,if_false,Nat.zero_add,ge_iff_le] at h
   rw[if_pos (by decide),if_neg (by decide),g1,yc8,gg,w2] at h
   simp only at h
   by_cases h0:0 < k
   ·simp only[h0,if_true] at h
    cases F with
    |zero=>cases h
    |succ F =>
     unfold zh4 at h
     simp only[List.length_cons,List.length_nil,Nat.zero_add,Nat.reduceAdd,Nat.reduceLT,Nat.reduceLeDiff,if_true] at h
     rw[g0,yct,fk,w3] at h
     simp only[Nat.lt_irrefl,if_false] at h
     cases F with
     |zero=>cases h
     |succ F =>
      unfold zh4 at h
      simp only[List.length_cons,List.length_nil,Nat.zero_add,Nat.reduceAdd,Nat.lt_irrefl,if_false,Option.some.injEq,Prod.mk.injEq] at h
      exact⟨h.2.symm,3,Or.inr rfl,h.1.symm⟩
   ·obtain rfl:k=0:=by omega
    simp only[Nat.lt_irrefl,if_false] at h
    cases F with
    |zero=>cases h
    |succ F =>
     unfold zh4 at h
     simp only[List.length_cons,List.length_nil,Nat.zero_add,Nat.reduceAdd,Nat.lt_irrefl,if_false,Option.some.injEq,Prod.mk.injEq] at h
     exact⟨h.2.symm,2,Or.inl rfl,h.1.symm⟩
theorem ycm{Tf Tg:zad}{n k:Nat}(hF:∀ v,zcj Tf 0 v=if v < n then some v else none)(hG:∀ v,zcj Tg 0 v=if v<=k then some k else none){a b:Nat}{vals fr:List Nat}{d m:Int}(hm:m=2∨m=3){F:Nat}{J':zat}{o:Option Nat}(h:zh4 F (JLw Tf Tg a b vals fr d m) [(0,0),(1,0)] (k+1) 0 0=some (J',o)):o=none/\∃ m':Int,3<=m'/\m'<=5/\J'=JLw Tf Tg a b vals fr d m':=by
 have g0:([(0,0),(1,0)]:List (Nat × Nat)).getD 0 (0,0)=(0,0):=rfl
 have g1:([(0,0),(1,0)]:List (Nat × Nat)).getD 1 (0,0)=(1,0):=rfl
 have w1:IntKind.i64.wrap (m+1)=m+1:=by rcases hm with rfl|rfl <;> decide
 have w2:IntKind.i64.wrap (m+1+1)=m+1+1:=by rcases hm with rfl|rfl <;> decide
 have gn:zcj Tg 0 (k+1)=none:=by rw[hG,if_neg (by omega)]
 cases F with
 |zero=>cases h
 |succ F =>
  unfold zh4 at h
  rw[if_pos (by decide),g0,yct,hF,w1] at h
  by_cases hn:k+1 < n
  ·rw[if_pos hn] at h
   simp only[List.length_cons,List.length_nil] at h
   cases F with
   |zero=>cases h
   |succ F =>
    unfold zh4 at h
    simp only[gt_iff_lt,Nat.lt_irrefl,if_false,Nat.zero_add,ge_iff_le] at h
    rw[if_pos (by decide),if_neg (by decide),g1,yc8,gn,w2] at h
    simp only[Option.some.injEq,Prod.mk.injEq] at h
    exact⟨h.2.symm,m+1+1,by omega,by omega,h.1.symm⟩
  ·rw[if_neg hn] at h
   simp only[Option.some.injEq,Prod.mk.injEq] at h
   exact⟨h.2.symm,m+1,by omega,by omega,h.1.symm⟩
theorem ydc{Tf Tg:zad}{n k:Nat}(hk:k < n)(hF:∀ v,zcj Tf 0 v=if v < n then some v else none)(hG:∀ v,zcj Tg 0 v=if v<=k then some k else none){F:Nat}{J':zat}{o:Bool}(h:zs9 F (JLw Tf Tg 0 0 [0,0,0,0,0] [0,0,0,0,0] 0 0)=some (J',o)):o=true/\∃(m:Int) (a b:Nat),(m=2∨m=3)/\J'=JLw Tf Tg a b [k,0,0,0,0] [k+1,0,0,0,0] 0 m:=by
 unfold zs9 at h
 cases hs:ze0 F (JLw Tf Tg 0 0 [0,0,0,0,0] [0,0,0,0,0] 0 0) (JLw Tf Tg 0 0 [0,0,0,0,0] [0,0,0,0,0] 0 0).depth with
 |none=>rw[hs] at h;cases h
 |some z =>
  obtain⟨J2,fo⟩:=z
  rw[hs] at h
  simp only[Option.some.injEq,Prod.mk.injEq] at h
  cases F with
  |zero=>cases hs
  |succ F =>
   unfold ze0 at hs
   rw[if_pos (show 0<=(JLw Tf Tg 0 0 [0,0,0,0,0] [0,0,0,0,0] 0 0).depth/\(JLw Tf Tg 0 0 [0,0,0,0,0] [0,0,0,0,0] 0 0).depth < (((JLw Tf Tg 0 0 [0,0,0,0,0] [0,0,0,0,0] 0 0).vars:Nat):Int)/\(JLw Tf Tg 0 0 [0,0,0,0,0] [0,0,0,0,0] 0 0).depth < 5 from(by decide:(0:Int)<=0/\(0:Int) < ((1:Nat):Int)/\(0:Int) < 5))] at hs
   have hag:zlu F (JLw Tf Tg 0 0 [0,0,0,0,0] [0,0,0,0,0] 0 0) 0 0=zh4 F (JLw Tf Tg 0 0 [0,0,0,0,0] [0,0,0,0,0] 0 0) [(0,0),(1,0)] 0 0 0:=rfl
   change (match zlu F (JLw Tf Tg 0 0 [0,0,0,0,0] [0,0,0,0,0] 0 0) 0 0 with|none=>none|some (J,none)=>ze0 F J (J.backs.getD 0 0)|some (J,some v)=>ze0 F (zft J 0 v) (if zbx (zft J 0 v) (0+1) then 0 else 0+1))=_ at hs
   rw[hag] at hs
   cases hq:zh4 F (JLw Tf Tg 0 0 [0,0,0,0,0] [0,0,0,0,0] 0 0) [(0,0),(1,0)] 0 0 0 with
   |none=>rw[hq] at hs;cases hs
   |some z =>
    obtain⟨J3,o3⟩:=z
    obtain⟨rfl,m,hm,rfl⟩:=ycl hk hF hG hq
    rw[hq] at hs
    simp only at hs
    have htk:∃ a b,zft (JLw Tf Tg 0 0 [0,0,0,0,0] [0,0,0,0,0] 0 m) 0 k=JLw Tf Tg a b [k,0,0,0,0] [k+1,0,0,0,0] 0 m:=⟨_,_,rfl⟩
    obtain⟨a,b,htk⟩:=htk
    rw[htk] at hs
    have hba:zbx (JLw Tf Tg a b [k,0,0,0,0] [k+1,0,0,0,0] 0 m) (0+1)=false:=rfl
    rw[hba] at hs
    simp only[Bool.false_eq_true,if_false] at hs
    cases F with
    |zero=>cases hs
    |succ F =>
     unfold ze0 at hs
     rw[if_neg (show ¬ ((0:Int)<=0+1/\(0+1:Int) < (((JLw Tf Tg a b [k,0,0,0,0] [k+1,0,0,0,0] 0 m).vars:Nat):Int)/\(0+1:Int) < 5) from(by decide:¬ ((0:Int)<=0+1/\(0+1:Int) < ((1:Nat):Int)/\(0+1:Int) < 5)))] at hs
     simp only[Option.some.injEq,Prod.mk.injEq] at hs
     obtain⟨rfl,rfl⟩:=hs
     have hde:decide ((0+1:Int) ≥ (((JLw Tf Tg a b [k,0,0,0,0] [k+1,0,0,0,0] 0 m).vars:Nat):Int))=true:=(by decide:decide ((0+1:Int) ≥ ((1:Nat):Int))=true)
     rw[hde] at h
     exact⟨h.2.symm,m,a,b,hm,h.1.symm⟩
theorem ydd{Tf Tg:zad}{n k:Nat}(hF:∀ v,zcj Tf 0 v=if v < n then some v else none)(hG:∀ v,zcj Tg 0 v=if v<=k then some k else none){F:Nat}{a b:Nat}{m:Int}(hm:m=2∨m=3){J':zat}{o:Bool}(h:zs9 F (JLw Tf Tg a b [k,0,0,0,0] [k+1,0,0,0,0] 0 m)=some (J',o)):o=false/\3<=J'.moves/\J'.moves<=5:=by
 unfold zs9 at h
 cases hs:ze0 F (JLw Tf Tg a b [k,0,0,0,0] [k+1,0,0,0,0] 0 m) (JLw Tf Tg a b [k,0,0,0,0] [k+1,0,0,0,0] 0 m).depth with
 |none=>rw[hs] at h;cases h
 |some z =>
  obtain⟨J2,fo⟩:=z
  rw[hs] at h
  simp only[Option.some.injEq,Prod.mk.injEq] at h
  cases F with
  |zero=>cases hs
  |succ F =>
   unfold ze0 at hs
   rw[if_pos (show 0<=(JLw Tf Tg a b [k,0,0,0,0] [k+1,0,0,0,0] 0 m).depth/\(JLw Tf Tg a b [k,0,0,0,0] [k+1,0,0,0,0] 0 m).depth < (((JLw Tf Tg a b [k,0,0,0,0] [k+1,0,0,0,0] 0 m).vars:Nat):Int)/\(JLw Tf Tg a b [k,0,0,0,0] [k+1,0,0,0,0] 0 m).depth < 5 from(by decide:(0:Int)<=0/\(0:Int) < ((1:Nat):Int)/\(0:Int) < 5))] at hs
   have hag:zlu F (JLw Tf Tg a b [k,0,0,0,0] [k+1,0,0,0,0] 0 m) 0 (k+1)=zh4 F (JLw Tf Tg a b [k,0,0,0,0] [k+1,0,0,0,0] 0 m) [(0,0),(1,0)] (k+1) 0 0:=rfl
   change (match zlu F (JLw Tf Tg a b [k,0,0,0,0] [k+1,0,0,0,0] 0 m) 0 (k+1) with|none=>none|some (J,none)=>ze0 F J (J.backs.getD 0 0)|some (J,some v)=>ze0 F (zft J 0 v) (if zbx (zft J 0 v) (0+1) then 0 else 0+1))=_ at hs
   rw[hag] at hs
   cases hq:zh4 F (JLw Tf Tg a b [k,0,0,0,0] [k+1,0,0,0,0] 0 m) [(0,0),(1,0)] (k+1) 0 0 with
   |none=>rw[hq] at hs;cases hs
   |some z =>
    obtain⟨J3,o3⟩:=z
    obtain⟨rfl,m',hm1,hm2,rfl⟩:=ycm hF hG hm hq
    rw[hq] at hs
    simp only at hs
    cases F with
    |zero=>cases hs
    |succ F =>
     unfold ze0 at hs
     have hbk:(JLw Tf Tg a b [k,0,0,0,0] [k+1,0,0,0,0] 0 m').backs.getD 0 0=-1:=rfl
     rw[hbk,if_neg (show ¬ ((0:Int)<=-1/\(-1:Int) < (((JLw Tf Tg a b [k,0,0,0,0] [k+1,0,0,0,0] 0 m').vars:Nat):Int)/\(-1:Int) < 5) from(by decide:¬ ((0:Int)<=-1/\(-1:Int) < ((1:Nat):Int)/\(-1:Int) < 5)))] at hs
     simp only[Option.some.injEq,Prod.mk.injEq] at hs
     obtain⟨rfl,rfl⟩:=hs
     have hde:decide ((-1:Int) ≥ (((JLw Tf Tg a b [k,0,0,0,0] [k+1,0,0,0,0] 0 m').vars:Nat):Int))=false:=(by decide:decide ((-1:Int) ≥ ((1:Nat):Int))=false)
     rw[hde] at h
     refine⟨h.2.symm,?_⟩
     rw[← h.1]
     exact⟨hm1,hm2⟩
theorem z8z{mr:Nat}{R R':zbt}{p:Nat}{x:zaq}{ok:Bool}(h:zxg mr R p x=some (R',ok)):R'.moves=R.moves:=by
 unfold zxg at h
 split at h
 ·split at h
  ·simp only[Option.some.injEq,Prod.mk.injEq] at h
   rw[← h.1]
  ·simp only[Option.some.injEq,Prod.mk.injEq] at h
   rw[← h.1]
 ·cases h
theorem ybl{Tf Tg:zad}{n k:Nat}(hk:k < n)(hF:∀ v,zcj Tf 0 v=if v < n then some v else none)(hG:∀ v,zcj Tg 0 v=if v<=k then some k else none)(hf:Tf.count≠0)(hg:Tg.count≠0){mr F:Nat}{R R2:zbt}(h0:R.moves=0)(h:zde mr 2 F R (za0 rLw [Tf,Tg] [])=some (R2,true)):3<=R2.moves/\R2.moves<=5:=by
 rw[yax hf hg] at h
 cases F with
 |zero=>cases h
 |succ F =>
  unfold zde at h
  cases hn:zs9 F (JLw Tf Tg 0 0 [0,0,0,0,0] [0,0,0,0,0] 0 0) with
  |none=>rw[hn] at h;cases h
  |some z =>
   obtain⟨J1,o1⟩:=z
   obtain⟨rfl,m,a,b,hm,rfl⟩:=ydc hk hF hG hn
   rw[hn] at h
   simp only at h
   split at h
   ·cases h
   ·cases h
   ·rename_i R3 hadd
    have hmv:=z8z hadd
    cases F with
    |zero=>cases h
    |succ F =>
     unfold zde at h
     cases hn2:zs9 F (JLw Tf Tg a b [k,0,0,0,0] [k+1,0,0,0,0] 0 m) with
     |none=>rw[hn2] at h;cases h
     |some z =>
      obtain⟨J2,o2⟩:=z
      obtain⟨rfl,m1,m2⟩:=ydd hF hG hm hn2
      rw[hn2] at h
      simp only[Option.some.injEq,Prod.mk.injEq,and_true] at h
      rw[← h]
      simp only
      rw[hmv,h0,Int.zero_add]
      have:J2.moves=3∨J2.moves=4∨J2.moves=5:=by omega
      rcases this with e|e|e <;> rw[e] <;> decide
end Go.Proofs.YteampbddflhngabGreat
namespace Go.Proofs.YteampbddflhngabGreat
open Classical
theorem yb2(p a:Nat):zbr ⟨p,[tXw]⟩ [a,0,0]=some [a,0,0]:=by
 simp[zbr,zc3,zbq,zaz,zd2,leveled,tXw]
theorem yar{T:zad}{p W:Nat}{P:zaq->Prop}(h:zdp T ⟨p,[tXw]⟩ W P)(hP:∀ x,P x->∃ a,x=[a,0,0])(v:Nat):(zaw T 0 v).isSome=true↔P [v,0,0]:=by
 have hd:T.depth=1:=by rw[h.depth];rfl
 have:=h.sem [v] (by rw[hd];rfl)
 have e:(zjg T [v]).isSome=(zaw T 0 v).isSome:=by
  unfold zjg goT
  cases zaw T 0 v <;> rfl
 rw[e] at this
 rw[this]
 constructor
 ·rintro⟨row,f,q1,q2,q3⟩
  obtain⟨a,rfl⟩:=hP row q1
  rw[yb2] at q2
  simp only[Option.some.injEq] at q2
  rw[← q2,hd] at q3
  simp only[List.take_succ_cons,List.take_zero,List.cons.injEq,and_true] at q3
  rw[← q3]
  exact q1
 ·intro q
  exact⟨_,_,q,yb2 p v,by rw[hd];rfl⟩
theorem yas{T:zad}{l:zai}{W:Nat}{P:zaq->Prop}(h:zdp T l W P)(hP:∀ x,¬ P x):T.count=0:=by
 rw[← h.ok.cnt]
 have:keysT T=[]:=by
  rw[List.eq_nil_iff_forall_not_mem]
  intro k hk
  obtain⟨k1,k2⟩:=(zb0 T k).1 hk
  obtain⟨row,f,q,_⟩:=(h.sem k k1).1 k2
  exact hP row q
 rw[this]
 rfl
theorem yat{T:zad}{p W:Nat}{P:zaq->Prop}(h:zdp T ⟨p,[tXw]⟩ W P){a:Nat}(ha:P [a,0,0]):T.count≠0:=by
 have hd:T.depth=1:=by rw[h.depth];rfl
 intro e
 rw[← h.ok.cnt] at e
 have:[a]∈keysT T:=(zb0 T [a]).2 ⟨by rw[hd];rfl,(h.sem [a] (by rw[hd];rfl)).2 ⟨_,_,ha,yb2 p a,by rw[hd];rfl⟩⟩
 rw[List.length_eq_zero_iff.1 e] at this
 cases this
theorem z97{T:zad}(h:zd0 T){Q:Nat->Prop}(hQ:∀ v,(zaw T 0 v).isSome=true↔Q v)(f:Nat):(∀ v,f<=v->Q v->(∀ u,f<=u->u < v->¬ Q u)->zcj T 0 f=some v)/\((∀ v,f<=v->¬ Q v)->zcj T 0 f=none):=by
 obtain⟨pth,hi⟩:=h.inv
 have hno:∀ v,zaw T 0 v=none↔¬ Q v:=fun v=>by
  rw[← hQ]
  cases zaw T 0 v <;> simp
 constructor
 ·intro v h1 h2 h3
  cases hl:zcj T 0 f with
  |none =>
   have:=zsu hi.node hl v h1
   exact absurd h2 ((hno v).1 this)
  |some u =>
   obtain⟨u1,u2,u3,u4⟩:=zsv hi.node hl
   have hu:=(hQ u).1 u3
   rcases Nat.lt_trichotomy u v with q|q|q
   ·exact absurd hu (h3 u u1 q)
   ·rw[q]
   ·exact absurd h2 ((hno v).1 (u4 v h1 q))
 ·intro h1
  cases hl:zcj T 0 f with
  |none=>rfl
  |some u =>
   obtain⟨u1,u2,u3,u4⟩:=zsv hi.node hl
   exact absurd ((hQ u).1 u3) (h1 u u1)
theorem z9j{mr:Nat}:∀(fs:List zib) {R R':zbt} {ok:Bool},zjf mr fs R=some (R',ok)->R'.moves=R.moves
 |[],R,R',ok,h=>by
  simp only[zjf,Option.some.injEq,Prod.mk.injEq] at h
  rw[← h.1]
 |f::fs,R,R',ok,h=>by
  unfold zjf at h
  split at h
  ·cases h
  ·rename_i R1 hq
   simp only[Option.some.injEq,Prod.mk.injEq] at h
   rw[← h.1]
   exact z8z hq
  ·rename_i R1 hq
   rw[z9j fs h]
   exact z8z hq
theorem yau{ar:List Nat}{W:Nat}{D0 D:DB}{c:List Nat}{ws:List zbe}(h:zda ar W D0 D c ws [rLw]):∃ V0 V1,ws=[⟨rLw,[V0,V1]⟩]/\zjm V0 lFw W (InD D0 0) (InD D 0) (fun x=>InD D 0 x/\¬ InD D0 0 x) (c.getD 0 0)/\zjm V1 lGw W (InD D0 1) (InD D 1) (fun x=>InD D 1 x/\¬ InD D0 1 x) (c.getD 1 0):=by
 cases h with
 |cons h1 h2 =>
  cases h2
  rename_i w
  obtain⟨r,vs⟩:=w
  obtain⟨a1,a2,a3⟩:=h1
  simp only at a1 a2
  subst a1
  match vs,a2 with
  |[V0,V1],_=>exact⟨V0,V1,rfl,a3 0 lFw V0 rfl rfl,a3 1 lGw V1 rfl rfl⟩
theorem ya1{ar:List Nat}{W wd:Nat}{D0:DB}{mr n:Nat}{ws:List zbe}{R R1:zbt}{ws1:List zbe}{ok:Bool}(hw:zda ar W D0 (zdb ar R) (R.rows.map (·.count)) ws [rLw])(hsame:∀ p,p≠2->∀ x,InD (zdb ar R) p x->InD D0 p x)(h:zpz n wd mr false ws R=some (R1,ws1,ok)):R1.moves=R.moves:=by
 obtain⟨V0,V1,rfl,v0,v1⟩:=yau hw
 have c0:V0.fresh.count=0:=yas v0.fresh fun x q=>q.2 (hsame 0 (by omega) x q.1)
 have c1:V1.fresh.count=0:=yas v1.fresh fun x q=>q.2 (hsame 1 (by omega) x q.1)
 have hap:zfw n wd mr false [⟨rLw,[V0,V1]⟩] (ze2 { R with rounds:=R.rounds+1 })=some (ze2 { R with rounds:=R.rounds+1 },true):=by
  simp[zfw,zih,zgn,c0,c1]
 unfold zpz at h
 rw[hap] at h
 simp only at h
 obtain⟨z,_,e⟩:=Option.map_eq_some_iff.1 h
 simp only[Prod.mk.injEq] at e
 rw[← e.1]
 rfl
theorem yan{ar:List Nat}{W wd:Nat}(hWd:W=za1 wd)(h3:∀ a∈ar,a<=3){mr mx:Nat}(hmr:mr<=1048576)(hs:zmv [rLw] ar W)(B:Nat)(hB:zfy W rLw<=B/\3 * (W+1)<=B):∀(n:Nat) (ws:List zbe) (R R':zbt) (D0:DB),ze1 ar W R->R.count<=mr->(∀ p x,InD D0 p x->InD (zdb ar R) p x)->zda ar W D0 (zdb ar R) (R.rows.map (·.count)) ws [rLw]->(∀ p x,zue [rLw] D0 p x->InD (zdb ar R) p x)->(∀ p,p≠2->∀ x,InD (zdb ar R) p x->InD D0 p x)->B+(mx - R.rounds) < n->zgv wd mr mx n false ws R=some (R',true)->R'.moves=R.moves:=by
 intro n
 induction n with
 |zero=>intro ws R R' D0 _ _ _ _ _ _ hn;omega
 |succ n ih =>
  intro ws R R' D0 hi hc hD0 hw hcl hsame hn h
  unfold zgv at h
  by_cases hge:R.rounds ≥ mx
  ·rw[if_pos hge] at h
   cases h
  ·rw[if_neg hge] at h
   obtain⟨R1,ws1,ok,a1,a2,a3,a4,a5,a6⟩:=zyz hWd h3 hmr n hs ⟨fun r hr=>by rw[List.mem_singleton.1 hr];omega,by omega⟩ false hi hc hD0 hw (fun _=>hcl)
   have hmv:=ya1 hw hsame a1
   rw[a1] at h
   cases ok with
   |false=>cases h
   |true =>
    obtain⟨b1,b2,b3⟩:=a6 rfl
    simp only at h
    split at h
    ·rw[ih ws1 R1 R' (zdb ar R) a2 b1 (by rw[b2];exact zyy _ _ _) b3 (fun p x hx=>by rw[b2];exact zvl p x hx) (fun p hp x hx=>?_) (by omega) h,hmv]
     rw[b2] at hx
     unfold InD zgu at hx
     unfold InD
     cases hq:zdb ar R p x with
     |some m=>rfl
     |none =>
      rw[hq] at hx
      have:¬ zue [rLw] (zdb ar R) p x:=by
       rintro⟨r,hr,e,_⟩
       rw[List.mem_singleton.1 hr] at e
       exact hp e
      simp[this] at hx
    ·simp only[Option.some.injEq,Prod.mk.injEq,and_true] at h
     rw[← h,hmv]
theorem ya0{ar:List Nat}{W wd:Nat}{mr F n k:Nat}{ws:List zbe}{R R1:zbt}{ws1:List zbe}(hk:k < n)(hw:zda ar W z1i (zdb ar R) (R.rows.map (·.count)) ws [rLw])(hf:∀ x,InD (zdb ar R) 0 x↔∃ i,i < n/\x=[i,0,0])(hg:∀ x,InD (zdb ar R) 1 x↔x=[k,0,0])(h0:R.moves=0)(h:zpz F wd mr true ws R=some (R1,ws1,true)):3<=R1.moves/\R1.moves<=5:=by
 obtain⟨V0,V1,rfl,v0,v1⟩:=yau hw
 have d0:∀ v,(zaw V0.all 0 v).isSome=true↔v < n:=fun v=>by
  rw[yar v0.all (fun x q=>by obtain⟨i,_,e⟩:=(hf x).1 q;exact⟨i,e⟩),hf]
  constructor
  ·rintro⟨i,hi,e⟩
   simp only[List.cons.injEq,and_true] at e
   omega
  ·exact fun q=>⟨v,q,rfl⟩
 have d1:∀ v,(zaw V1.all 0 v).isSome=true↔v=k:=fun v=>by
  rw[yar v1.all (fun x q=>⟨k,(hg x).1 q⟩),hg]
  simp
 have l0:∀ v,zcj V0.all 0 v=if v < n then some v else none:=fun v=>by
  split
  ·rename_i hv
   exact(z97 v0.all.ok d0 v).1 v (Nat.le_refl _) hv (fun u a b=>by omega)
  ·rename_i hv
   exact(z97 v0.all.ok d0 v).2 (fun u a b=>by omega)
 have l1:∀ v,zcj V1.all 0 v=if v<=k then some k else none:=fun v=>by
  split
  ·rename_i hv
   exact(z97 v1.all.ok d1 v).1 k hv rfl (fun u a b e=>by omega)
  ·rename_i hv
   exact(z97 v1.all.ok d1 v).2 (fun u a e=>by omega)
 have c0:V0.all.count≠0:=yat v0.all (a:=k) ((hf _).2 ⟨k,hk,rfl⟩)
 have c1:V1.all.count≠0:=yat v1.all (a:=k) ((hg _).2 rfl)
 unfold zpz at h
 cases hq:zfw F wd mr true [⟨rLw,[V0,V1]⟩] (ze2 { R with rounds:=R.rounds+1 }) with
 |none=>rw[hq] at h;cases h
 |some z =>
  obtain⟨R2,ok⟩:=z
  rw[hq] at h
  cases ok with
  |false =>
   simp only[Option.some.injEq,Prod.mk.injEq] at h
   cases h.2.2
  |true =>
   simp only at h
   obtain⟨z,_,e⟩:=Option.map_eq_some_iff.1 h
   simp only[Prod.mk.injEq] at e
   rw[← e.1]
   have hap:zfw F wd mr true [⟨rLw,[V0,V1]⟩] (ze2 { R with rounds:=R.rounds+1 })=(match zde mr 2 F (ze2 { R with rounds:=R.rounds+1 }) (za0 rLw [V0.all,V1.all] []) with|none=>none|some (R,false)=>some (R,false)|some (R,true)=>some (R,true)):=rfl
   rw[hap] at hq
   split at hq
   ·cases hq
   ·cases hq
   ·rename_i R3 hadd
    simp only[Option.some.injEq,Prod.mk.injEq,and_true] at hq
    rw[← hq]
    exact ybl hk l0 l1 c0 c1 (by exact h0) hadd
theorem ybv{S:zre}(hS:z3b S)(hr:S.rules=[rLw])(ha:S.arities=[1,1,1]){n k:Nat}(hk:k < n)(hf:∀ x,(∃ f∈S.facts,f.pred=0/\f.row=x)↔∃ i,i < n/\x=[i,0,0])(hg:∀ x,(∃ f∈S.facts,f.pred=1/\f.row=x)↔x=[k,0,0]){A:DB × Nat}(hA:zkb S 4096 4096=some A):∃ fuel R,z6s fuel S 4096 4096=some (some R)/\ze1 S.arities (za1 S.width) R/\R.count<=4096/\zkb S 4096 4096=some (zdb S.arities R,R.rounds)/\3<=R.moves/\R.moves<=5:=by
 obtain⟨N,hN⟩:=z7m hS (mr:=4096) (mx:=4096) (by omega)
 obtain⟨B,hB⟩:∃ B,B=zfy (za1 S.width) rLw+3 * (za1 S.width+1):=⟨_,rfl⟩
 obtain⟨fuel,hfu⟩:∃ fuel,fuel=N+B+4096+2:=⟨_,rfl⟩
 obtain⟨res,r1,r2,r3⟩:=hN fuel (by omega)
 cases res with
 |none=>rw[r2 rfl] at hA;cases hA
 |some R =>
  obtain⟨q1,q2,q3⟩:=r3 R rfl
  refine⟨fuel,R,r1,q1,q2,q3,?_⟩
  have hmid:=Mid.clear (z2a S)
  have hst:ze2 ⟨S.arities.map (zfp S.width),0,0,0,[]⟩=zff S:=rfl
  rw[hst] at hmid
  obtain⟨R0,ok,a1,a2,a3,a4,a5,a6⟩:=zo6 hS.small (show 4096<=1048576 by omega) S.facts (zff S) hS.facts hmid (Nat.zero_le _)
  unfold z6s at r1
  rw[a1] at r1
  cases ok with
  |false=>simp at r1
  |true =>
   obtain⟨b1,b2⟩:=a5 rfl
   have hmv:=z9j _ a1
   have hmv0:R0.moves=0:=hmv
   have hrd:R0.rounds=0:=a2.rounds
   have hfr:∀ q x,x∉(zff S).fresh.getD q []:=fun q x hx=>by
    have hx':x∈(List.replicate (S.arities.map (zfp S.width)).length ([]:List zaq)).getD q []:=hx
    have:∀ n,(List.replicate n ([]:List zaq)).getD q []=[]:=fun n=>by by_cases hp:q < n <;> simp[List.getD,hp]
    rw[this] at hx'
    cases hx'
   have hin:∀ p x,InD (zdb S.arities R0) p x↔∃ f∈S.facts,f.pred=p/\f.row=x:=by
    intro p x
    constructor
    ·intro hx
     unfold InD at hx
     rw[a2.abs,zts] at hx
     simp only at hx
     by_cases hm:x∈R0.fresh.getD p []
     ·exact(a4 p x hm).resolve_left (hfr p x)
     ·rw[if_neg hm] at hx;cases hx
    ·rintro⟨f,f1,rfl,rfl⟩
     exact b2 f f1
   have hs:zmv [rLw] S.arities (za1 S.width):=by
    have:=hS.rules.strat 0
    rw[hr] at this
    exact this
   simp only[Option.map_eq_some_iff] at r1
   obtain⟨z,hz,ez⟩:=r1
   obtain⟨R9,ok9⟩:=z
   simp only at ez
   have hok:ok9=true/\R9=R:=by
    cases ok9 with
    |false=>simp at ez
    |true=>simp at ez;exact⟨rfl,ez⟩
   obtain⟨rfl,rfl⟩:=hok
   rw[hr,ha] at hz
   change zf9 fuel S.width 4096 4096 [rLw] 3 0 R0=some (R9,true) at hz
   have hne:∀ s R,s≠0->zk6 fuel S.width 4096 4096 [rLw] R s=some (R,true):=by
    intro s R hs
    unfold zk6
    have:worksR fuel S.width R s [rLw]=some []:=by
     unfold worksR
     rw[if_neg (show ¬ rLw.stratum=s from fun e=>hs e.symm)]
     rfl
    rw[this]
    rfl
   obtain⟨ws,w1,w2⟩:=zob rfl hS.small a2.inv (by omega) fuel (by omega) 0 [rLw] (fun r hq l hl=>by rw[← hr] at hq;exact((hS.rules.rules r hq).plain l hl).1)
   have hfil:([rLw].filter fun r=>decide (r.stratum=0))=[rLw]:=rfl
   rw[hfil] at w2
   unfold zf9 at hz
   cases hst0:zk6 fuel S.width 4096 4096 [rLw] R0 0 with
   |none=>rw[hst0] at hz;cases hz
   |some z =>
    obtain⟨R1,ok1⟩:=z
    rw[hst0] at hz
    cases ok1 with
    |false=>cases hz
    |true =>
     simp only at hz
     unfold zf9 at hz
     rw[hne (0+1) R1 (by omega)] at hz
     simp only at hz
     unfold zf9 at hz
     rw[hne (0+1+1) R1 (by omega)] at hz
     simp only[zf9,Option.some.injEq,Prod.mk.injEq,and_true] at hz
     subst hz
     unfold zk6 at hst0
     rw[w1] at hst0
     simp only at hst0
     have hlen:ws.length > 0:=by rw[w2.length];simp
     rw[if_pos hlen] at hst0
     obtain⟨F,rfl⟩:∃ F,fuel=F+1:=⟨fuel - 1,by omega⟩
     unfold zgv at hst0
     rw[if_neg (by omega)] at hst0
     obtain⟨R2,ws2,ok2,c1,c2,c3,c4,c5,c6⟩:=zyz rfl hS.small (show 4096<=1048576 by omega) F hs ⟨fun r hr=>by rw[List.mem_singleton.1 hr];omega,by omega⟩ true a2.inv b1 (D0:=z1i) (fun p x q=>by cases q) w2 (fun q=>by cases q)
     rw[c1] at hst0
     cases ok2 with
     |false=>cases hst0
     |true =>
      obtain⟨e1,e2,e3⟩:=c6 rfl
      have hm1:=ya0 hk w2 (fun x=>by rw[hin,hf]) (fun x=>by rw[hin,hg]) hmv0 c1
      simp only at hst0
      split at hst0
      ·have:=yan rfl hS.small (show 4096<=1048576 by omega) hs B (by omega) F ws2 R2 R1 (zdb S.arities R0) c2 e1 (by rw[e2];exact zyy _ _ _) e3 (fun p x hx=>by rw[e2];exact zvl p x hx) (fun p hp x hx=>?_) (by omega) hst0
       ·rw[this];exact hm1
       ·rw[e2] at hx
        unfold InD zgu at hx
        unfold InD
        cases hq:zdb S.arities R0 p x with
        |some m=>rfl
        |none =>
         rw[hq] at hx
         have:¬ zue [rLw] (zdb S.arities R0) p x:=by
          rintro⟨r,hr,e,_⟩
          rw[List.mem_singleton.1 hr] at e
          exact hp e
         simp[this] at hx
      ·simp only[Option.some.injEq,Prod.mk.injEq,and_true] at hst0
       rw[← hst0]
       exact hm1
def bFf:ByteArray:=⟨#[102]⟩
def bGg:ByteArray:=⟨#[103]⟩
def lfT:Nat->ByteArray
 |0=>ByteArray.empty
 |n+1=>lfT n++⟨#[102,40]⟩++z8j n++⟨#[41,46]⟩
def yc3:ByteArray:=⟨#[41,46,112,40,88,41,58,45,102,40,88,41,44,103,40,88,41,46]⟩
def lpT(n k:Nat):ByteArray:=lfT n++⟨#[103,40]⟩++z8j k++yc3
def aC(p:ByteArray)(i:Nat):zac:=⟨⟨false,p,[z8j i]⟩,[]⟩
def fCs(n:Nat):List zac:=(List.range n).map (aC bFf)
def pCl:zac:=⟨⟨false,bPp,[vX]⟩,[⟨false,bFf,[vX]⟩,⟨false,bGg,[vX]⟩]⟩
def lpC(n k:Nat):List zac:=fCs n++[aC bGg k,pCl]
def z7z:List zav:=[⟨bFf,1,0⟩,⟨bGg,1,0⟩,⟨bPp,1,0⟩]
theorem ycb(n:Nat):fCs (n+1)=fCs n++[aC bFf n]:=by unfold fCs;rw[List.range_succ,List.map_append];rfl
theorem z88:∀ n,n < 70->(bl (z8j n)≠[]/\(bl (z8j n)).length<=6/\zun (hdB (bl (z8j n)))=true/\∀ b∈bl (z8j n),zun (byt b)=true)/\zba (z8j n)=false:=by decide +kernel
theorem yai{n:Nat}(h:n < 70):z9q (bl (z8j n)):=by
 obtain⟨⟨h1,h2,h3,h4⟩,_⟩:=z88 n h
 exact⟨h1,h2,Or.inr ⟨h3,h4⟩⟩
theorem ybs{p:ByteArray}(h:p=bFf∨p=bGg):z9q (bl p)/\zru (hdB (bl p))=true:=by
 rcases h with rfl|rfl
 ·exact⟨⟨by decide,by decide,Or.inl ⟨Or.inl (by decide),by decide⟩⟩,by decide⟩
 ·exact⟨⟨by decide,by decide,Or.inl ⟨Or.inl (by decide),by decide⟩⟩,by decide⟩
theorem ya5{p:ByteArray}(hp:p=bFf∨p=bGg){i:Nat}(h:i < 70):z8n (aC p i):=⟨rfl,⟨ybs hp,fun x hx=>by
 simp only[aC,List.mem_singleton] at hx
 subst hx
 exact yai h⟩,fun l hl=>by cases hl⟩
theorem yb4{p:ByteArray}(hp:p=bFf∨p=bGg){i:Nat}(h:i < 70):RdF (bl p++(bl z7v++(bl (z8j i)++(bl z7w++bl z7x)))) (clK signs (aC p i)):=by
 have h1:=yc2 (yai h)
 have he:RdN (bl p) [(1,p)]:=yc0 (l:=⟨false,p,[]⟩) ⟨ybs hp,fun x hx=>by cases hx⟩
 have hc:RdA (bl z7w++bl z7x) ([(5,signs.shut)]++[(7,signs.dot)]):=yc1.app ydf
 have h3:=h1.app (by decide) (by decide) hc
 have h6:=ycz.app h3
 have h7:=he.app (l':=bl z7v++(bl (z8j i)++(bl z7w++bl z7x))) (by simp[bl,z7v]) (by rfl) h6
 exact h7.rdf
theorem ybf:∀ n,n<=70->RdF (bl (lfT n)) (z8b signs (fCs n))
 |0,_=>RdF.nil
 |n+1,h=>by
  have ih:=ybf n (by omega)
  have h2:=ih.app (yb4 (Or.inl rfl) (show n < 70 by omega))
  have e1:bl (lfT (n+1))=bl (lfT n)++(bl bFf++(bl z7v++(bl (z8j n)++(bl z7w++bl z7x)))):=by
   rw[show lfT (n+1)=lfT n++⟨#[102,40]⟩++z8j n++⟨#[41,46]⟩ from rfl]
   simp only[ycj]
   have a1:bl (⟨#[102,40]⟩:ByteArray)=bl bFf++bl z7v:=rfl
   have a3:bl (⟨#[41,46]⟩:ByteArray)=bl z7w++bl z7x:=rfl
   rw[a1,a3]
   simp only[List.append_assoc]
  rw[e1,ycb]
  have e2:z8b signs (fCs n++[aC bFf n])=z8b signs (fCs n)++clK signs (aC bFf n):=by simp[z8b]
  rw[e2]
  exact h2
theorem z98:∀ n,(lfT n).size=6 * n
 |0=>rfl
 |n+1=>by
  unfold lfT
  simp only[ByteArray.size_append,z98 n,yah]
  have e1:(⟨#[102,40]⟩:ByteArray).size=2:=rfl
  have e3:(⟨#[41,46]⟩:ByteArray).size=2:=rfl
  omega
theorem yba(n k:Nat):(lpT n k).size=6 * n+22:=by
 unfold lpT
 simp only[ByteArray.size_append,z98,yah]
 have e1:(⟨#[103,40]⟩:ByteArray).size=2:=rfl
 have e3:yc3.size=18:=rfl
 omega
theorem z92:∀ i,i < 70->zed (aC bFf i)=false/\ze7 (aC bFf i)=true/\zed (aC bGg i)=false/\ze7 (aC bGg i)=true:=by decide +kernel
def pT:ByteArray:=⟨#[112,40,88,41,58,45,102,40,88,41,44,103,40,88,41,46]⟩
theorem ybc:z3q (lpT 1 0)=.ok (lpC 1 0,z7z):=by kernel_rfl
theorem ycx:z7y (bl pT)=some (z8b signs [pCl]):=by kernel_rfl
theorem yby{n k:Nat}(hn:1<=n)(hn2:n<=70)(hk:k < n):z3q (lpT n k)=.ok (lpC n k,z7z)/\∃ t0,Parts (lpC n k) t0 z7z:=by
 obtain⟨a1,a2,a3⟩:=ybj ybc
 obtain⟨t0,hp⟩:=z6u ybc
 have hpw:z8n pCl:=a2 pCl (by simp[lpC])
 have hw:∀ c∈lpC n k,z8n c:=by
  intro c hc
  rcases List.mem_append.1 hc with hc|hc
  ·obtain⟨i,hi,rfl⟩:=List.mem_map.1 hc
   exact ya5 (Or.inl rfl) (by have:=List.mem_range.1 hi;omega)
  ·simp only[List.mem_cons,List.not_mem_nil,or_false] at hc
   rcases hc with rfl|rfl
   ·exact ya5 (Or.inr rfl) (by omega)
   ·exact hpw
 have hr:=z99 (bl pT) [] [pCl] (by simp) (by simpa using ycx) (fun c hc=>by rw[List.mem_singleton.1 hc];exact hpw)
 rw[List.nil_append] at hr
 have hsp:z7y (bl (lpT n k))=some (z8b signs (lpC n k)):=by
  have h2:=((ybf n hn2).app (yb4 (p:=bGg) (Or.inr rfl) (show k < 70 by omega))).app hr
  have e1:bl (lpT n k)=(bl (lfT n)++(bl bGg++(bl z7v++(bl (z8j k)++(bl z7w++bl z7x)))))++bl pT:=by
   unfold lpT
   simp only[ycj]
   have a1:bl (⟨#[103,40]⟩:ByteArray)=bl bGg++bl z7v:=rfl
   have a3:bl yc3=(bl z7w++bl z7x)++bl pT:=rfl
   rw[a1,a3]
   simp only[List.append_assoc]
  rw[e1]
  have:=yaa h2
  rw[this]
  simp[z8b,lpC]
 have h5:(lpT n k).size<=500:=by rw[yba];omega
 have few:=yc6 h5 hsp hw
 have hp2:Parts (lpC n k) t0 z7z:=by
  refine hp.alike few (fun c hc=>?_) (fun c hc=>?_) (fun m j=>?_) (fun f=>?_)
  ·rcases List.mem_append.1 hc with hc|hc
   ·obtain⟨i,hi,rfl⟩:=List.mem_map.1 hc
    exact(z92 i (by have:=List.mem_range.1 hi;omega)).1
   ·simp only[List.mem_cons,List.not_mem_nil,or_false] at hc
    rcases hc with rfl|rfl
    ·exact(z92 k (by omega)).2.2.1
    ·exact hp.many pCl (by simp[lpC])
  ·rcases List.mem_append.1 hc with hc|hc
   ·obtain⟨i,hi,rfl⟩:=List.mem_map.1 hc
    exact(z92 i (by have:=List.mem_range.1 hi;omega)).2.1
   ·simp only[List.mem_cons,List.not_mem_nil,or_false] at hc
    rcases hc with rfl|rfl
    ·exact(z92 k (by omega)).2.2.2
    ·exact hp.safe pCl (by simp[lpC])
  ·have hE:∀ N K,1<=N->((∃ l∈(lpC N K).flatMap za5,l.pred=m/\l.args.length=j)↔(bFf=m/\1=j)∨(bGg=m/\1=j)∨∃ l∈za5 pCl,l.pred=m/\l.args.length=j):=by
    intro N K hN
    unfold lpC
    rw[List.flatMap_append]
    constructor
    ·rintro⟨l,hl,q⟩
     rcases List.mem_append.1 hl with hl|hl
     ·obtain⟨c,hc,hlc⟩:=List.mem_flatMap.1 hl
      obtain⟨i,hi,rfl⟩:=List.mem_map.1 hc
      simp only[za5,aC,List.mem_singleton] at hlc
      subst hlc
      exact Or.inl q
     ·obtain⟨c,hc,hlc⟩:=List.mem_flatMap.1 hl
      simp only[List.mem_cons,List.not_mem_nil,or_false] at hc
      rcases hc with rfl|rfl
      ·simp only[za5,aC,List.mem_singleton] at hlc
       subst hlc
       exact Or.inr (Or.inl q)
      ·exact Or.inr (Or.inr ⟨l,hlc,q⟩)
    ·rintro(q|q|⟨l,hl,q⟩)
     ·exact⟨(aC bFf 0).head,List.mem_append.2 (Or.inl (List.mem_flatMap.2 ⟨aC bFf 0,List.mem_map.2 ⟨0,by simp;omega,rfl⟩,by simp[za5]⟩)),q⟩
     ·exact⟨(aC bGg K).head,List.mem_append.2 (Or.inr (List.mem_flatMap.2 ⟨aC bGg K,by simp,by simp[za5]⟩)),q⟩
     ·exact⟨l,List.mem_append.2 (Or.inr (List.mem_flatMap.2 ⟨pCl,by simp,hl⟩)),q⟩
   rw[hE n k hn,hE 1 0 (Nat.le_refl _)]
  ·have hS:∀ N K,Sol (lpC N K) f↔Sol [pCl] f:=by
    intro N K
    unfold Sol lpC
    constructor
    ·intro q c hc
     rw[List.mem_singleton.1 hc]
     exact q pCl (by simp)
    ·intro q c hc l hl
     rcases List.mem_append.1 hc with hc|hc
     ·obtain⟨i,hi,rfl⟩:=List.mem_map.1 hc
      cases hl
     ·simp only[List.mem_cons,List.not_mem_nil,or_false] at hc
      rcases hc with rfl|rfl
      ·cases hl
      ·exact q pCl (by simp) l hl
   rw[hS n k,hS 1 0]
 exact⟨ycp h5 hsp hw hp2.many hp2.coll hp2.safe hp2.strat,t0,hp2⟩
theorem ycq:∀ i,i < 70->∀ j,j < 70->i < j->ltB (z8j i) (z8j j)=true:=by decide +kernel
theorem z9t{n:Nat}(hn:1<=n)(h:n<=70):zcc (z9g (n - 1)):=by
 unfold zcc z9g
 rw[List.pairwise_map,show n - 1+1=n by omega]
 refine(List.pairwise_lt_range (n:=n)).imp_of_mem ?_
 intro a b ha hb q
 have:=List.mem_range.1 ha
 have:=List.mem_range.1 hb
 exact ycq a (by omega) b (by omega) q
theorem ybm{n k:Nat}(hn:1<=n)(hn2:n<=70)(hk:k < n):zau (lpC n k)=z9g (n - 1):=by
 refine zq4 (zkf _).1 (z9t hn hn2) fun y=>?_
 rw[(zkf _).2]
 have hd:∀ i,i < n->z8j i∈z9g (n - 1):=fun i hi=>List.mem_map.2 ⟨i,by simp;omega,rfl⟩
 constructor
 ·rintro⟨c,hc,l,hl,hy,hq⟩
  rcases List.mem_append.1 hc with hc|hc
  ·obtain⟨i,hi,rfl⟩:=List.mem_map.1 hc
   have:=List.mem_range.1 hi
   simp only[za5,aC,List.mem_singleton] at hl
   subst hl
   simp only[List.mem_singleton] at hy
   subst hy
   exact hd i this
  ·simp only[List.mem_cons,List.not_mem_nil,or_false] at hc
   rcases hc with rfl|rfl
   ·simp only[za5,aC,List.mem_singleton] at hl
    subst hl
    simp only[List.mem_singleton] at hy
    subst hy
    exact hd k hk
   ·exfalso
    have:∀ l∈za5 pCl,∀ y∈l.args,zba y=true:=by decide
    rw[this l hl y hy] at hq
    cases hq
 ·intro hy
  obtain⟨i,hi,rfl⟩:=List.mem_map.1 hy
  have hi2:=List.mem_range.1 hi
  exact⟨aC bFf i,List.mem_append.2 (Or.inl (List.mem_map.2 ⟨i,by simp;omega,rfl⟩)),(aC bFf i).head,by simp[za5],by simp[aC],(z88 i (by omega)).2⟩
theorem ybn{n i:Nat}(hn:1<=n)(hn2:n<=70)(hi:i < n):(ze6 (z9g (n - 1)) (z8j i)).getD 0=i:=by
 have:=z2k (z9t hn hn2) (v:=i) (by simp[z9g];omega)
 rw[ybr (show i<=n - 1 by omega)] at this
 rw[this]
 rfl
theorem ybz:zcf z7z bFf=0/\zcf z7z bGg=1/\zcf z7z bPp=2/\zdx z7z bPp=0:=by decide +kernel
theorem yb0(ns:List ByteArray)(n k:Nat):zfe z7z ns none (lpC n k)=[rLw]:=by
 have h1:zn2 z7z ns pCl none=rLw:=by kernel_rfl
 have hf:∀(m j:Nat),((((List.range m).map (aC bFf)).zipIdx j).filterMap fun x=>if x.1.body.length > 0 then some (zn2 z7z ns x.1 (zei none x.2)) else none)=[]:=by
  intro m j
  rw[List.filterMap_eq_nil_iff]
  rintro⟨c,i⟩ hx
  have hm:=(List.mem_zipIdx hx).2.2
  have:c∈(List.range m).map (aC bFf):=by rw[hm];exact List.getElem_mem _
  obtain⟨u,_,rfl⟩:=List.mem_map.1 this
  rfl
 unfold zfe lpC
 rw[List.zipIdx_append,List.filterMap_append]
 unfold fCs
 rw[hf]
 simp only[List.zipIdx_cons,List.zipIdx_nil,List.filterMap_cons,List.filterMap_nil,List.nil_append]
 have e1:¬ (aC bGg k).body.length > 0:=by simp[aC]
 have e2:pCl.body.length > 0:=by decide
 rw[if_neg e1,if_pos e2]
 have e3:∀ i,zei none i=none:=fun i=>rfl
 simp only[e3,h1]
theorem ybb{n k:Nat}(hn:1<=n)(hn2:n<=70)(hk:k < n):(∀ x,(∃ f∈zeh z7z (z9g (n - 1)) (lpC n k),f.pred=0/\f.row=x)↔∃ i,i < n/\x=[i,0,0])/\(∀ x,(∃ f∈zeh z7z (z9g (n - 1)) (lpC n k),f.pred=1/\f.row=x)↔x=[k,0,0])/\∀ f∈zeh z7z (z9g (n - 1)) (lpC n k),f.pred=0∨f.pred=1:=by
 have h5:∀ k,([0,0,0,0,0]:List Nat).getD k 0 < 5:=by
  intro k
  rcases k with _|_|_|_|_|k <;> simp
 have hrow:∀ p i,i < n->zij z7z (z9g (n - 1)) (aC p i)=⟨zcf z7z p,[i,0,0]⟩:=by
  intro p i hi
  unfold zij
  rw[z7l z7z (z9g (n - 1)) [] h5]
  have e1:(aC p i).head.pred=p:=rfl
  rw[e1]
  congr 1
  have v1:=(z88 i (by omega)).2
  show [if zba (z8j i)=true then _ else(ze6 (z9g (n - 1)) (z8j i)).getD 0,0,0]=_
  rw[v1,ybn hn hn2 hi]
  rfl
 obtain⟨f0,f1,f2,s2⟩:=ybz
 have hmem:∀ f,f∈zeh z7z (z9g (n - 1)) (lpC n k)↔(∃ i,i < n/\f=⟨0,[i,0,0]⟩)∨f=⟨1,[k,0,0]⟩:=by
  intro f
  unfold zeh lpC
  simp only[List.mem_map,List.mem_filter,List.mem_append]
  constructor
  ·rintro⟨c,⟨hc|hc,hb⟩,rfl⟩
   ·obtain⟨i,hi,rfl⟩:=List.mem_map.1 hc
    have hi:=List.mem_range.1 hi
    rw[hrow bFf i hi,f0]
    exact Or.inl ⟨i,hi,rfl⟩
   ·simp only[List.mem_cons,List.not_mem_nil,or_false] at hc
    rcases hc with rfl|rfl
    ·rw[hrow bGg k hk,f1]
     exact Or.inr rfl
    ·simp[pCl] at hb
  ·rintro(⟨i,hi,rfl⟩|rfl)
   ·exact⟨aC bFf i,⟨Or.inl (List.mem_map.2 ⟨i,by simpa using hi,rfl⟩),by simp[aC]⟩,by rw[hrow bFf i hi,f0]⟩
   ·exact⟨aC bGg k,⟨Or.inr (by simp),by simp[aC]⟩,by rw[hrow bGg k hk,f1]⟩
 refine⟨fun x=>?_,fun x=>?_,fun f hf=>?_⟩
 ·constructor
  ·rintro⟨f,hf,q1,q2⟩
   rcases(hmem f).1 hf with ⟨i,hi,rfl⟩|rfl
   ·exact⟨i,hi,q2.symm⟩
   ·cases q1
  ·rintro⟨i,hi,rfl⟩
   exact⟨_,(hmem _).2 (Or.inl ⟨i,hi,rfl⟩),rfl,rfl⟩
 ·constructor
  ·rintro⟨f,hf,q1,q2⟩
   rcases(hmem f).1 hf with ⟨i,hi,rfl⟩|rfl
   ·cases q1
   ·exact q2.symm
  ·rintro rfl
   exact⟨_,(hmem _).2 (Or.inr rfl),rfl,rfl⟩
 ·rcases(hmem f).1 hf with ⟨i,hi,rfl⟩|rfl
  ·exact Or.inl rfl
  ·exact Or.inr rfl
def lpU(n k:Nat):List (Nat × zaq):=((List.range n).map fun i=>(0,[i,0,0]))++[(1,[k,0,0]),(2,[k,0,0])]
theorem ydb{n k:Nat}(hn:1<=n)(hn2:n<=70)(hk:k < n):∃ E e,zkb (zjx z7z (z9g (n - 1)) none (lpC n k)) 4096 4096=some (E,e)/\∀ x,InD E 2 x↔x=[k,0,0]:=by
 obtain⟨fa,fb,fc⟩:=ybb hn hn2 hk
 have hrl:=yb0 (z9g (n - 1)) n k
 have hder:∀(D:DB) p x,zue [rLw] D p x↔p=2/\∃ a,x=[a,0,0]/\InD D 0 [a,0,0]/\InD D 1 [a,0,0]:=by
  intro D p x
  constructor
  ·rintro⟨r,hr,e,y,y1,_,y3⟩
   rw[List.mem_singleton.1 hr] at e y1 y3
   exact⟨e,y.getD 0 0,y3,y1 lFw (by simp[rLw]),y1 lGw (by simp[rLw])⟩
  ·rintro⟨rfl,a,rfl,q1,q2⟩
   refine⟨rLw,by simp,rfl,[a],fun l hl=>?_,fun l hl=>(by cases hl),rfl⟩
   simp only[rLw,List.mem_cons,List.not_mem_nil,or_false] at hl
   rcases hl with rfl|rfl
   ·exact q1
   ·exact q2
 have hF:∀ p x,InD (zje (zeh z7z (z9g (n - 1)) (lpC n k))) p x↔∃ f∈zeh z7z (z9g (n - 1)) (lpC n k),f.pred=p/\f.row=x:=by
  intro p x
  unfold InD zje
  exact yc7
 have hmem:∀ p x,(p,x)∈lpU n k↔(p=0/\∃ i,i < n/\x=[i,0,0])∨(p=1/\x=[k,0,0])∨(p=2/\x=[k,0,0]):=by
  intro p x
  unfold lpU
  rw[List.mem_append,List.mem_map]
  simp only[List.mem_range,List.mem_cons,List.not_mem_nil,or_false,Prod.mk.injEq]
  constructor
  ·rintro(⟨i,hi,rfl,rfl⟩|q)
   ·exact Or.inl ⟨rfl,i,hi,rfl⟩
   ·exact Or.inr q
  ·rintro(⟨rfl,i,hi,rfl⟩|q)
   ·exact Or.inl ⟨i,hi,rfl,rfl⟩
   ·exact Or.inr q
 have hF2:∀ p x,InD (zje (zeh z7z (z9g (n - 1)) (lpC n k))) p x->(p,x)∈lpU n k:=by
  intro p x q
  have q:=(hF p x).1 q
  rw[hmem]
  by_cases h0:p=0
  ·subst h0
   exact Or.inl ⟨rfl,(fa x).1 q⟩
  ·by_cases h1:p=1
   ·subst h1
    exact Or.inr (Or.inl ⟨rfl,(fb x).1 q⟩)
   ·obtain⟨f,hf,e1,e2⟩:=q
    exfalso
    rcases fc f hf with z|z <;> omega
 have hcl:∀ D:DB,(∀ p x,InD D p x->(p,x)∈lpU n k)->∀ p x,zue [rLw] D p x->(p,x)∈lpU n k:=by
  intro D hD p x q
  obtain⟨rfl,a,rfl,q1,q2⟩:=(hder D p x).1 q
  have:=(hmem _ _).1 (hD 1 _ q2)
  rw[hmem]
  rcases this with ⟨e,_⟩|⟨_,e⟩|⟨e,_⟩
  ·cases e
  ·exact Or.inr (Or.inr ⟨rfl,e⟩)
  ·cases e
 have hlen:(lpU n k).length<=72:=by simp[lpU];omega
 obtain⟨E,e,e1,e2,e3,e4⟩:=z9d (rs:=[rLw]) (mr:=4096) (by omega) hcl (4096 - 0) 0 _ hF2 (by
  have:=List.length_filter_le (fun u:Nat × zaq=>decide (¬ InD (zje (zeh z7z (z9g (n - 1)) (lpC n k))) u.1 u.2)) (lpU n k)
  omega)
 refine⟨E,e,?_,fun x=>⟨fun q=>?_,?_⟩⟩
 ·unfold zkb
  show(if zqg (zje (zeh z7z (z9g (n - 1)) (lpC n k))) 4096 then zeq (zfe z7z (z9g (n - 1)) none (lpC n k)) 4096 4096 3 0 0 (zje (zeh z7z (z9g (n - 1)) (lpC n k))) else none)=_
  rw[if_pos (z9m hF2 (by omega)),hrl]
  have hfil:([rLw].filter fun r=>decide (r.stratum=0))=[rLw]:=rfl
  unfold zeq
  rw[hfil,if_neg (by simp),e1]
  simp only
  exact z9n _ _ _ _ _ _ _ fun s' hs=>by
   rw[List.filter_eq_nil_iff]
   intro r hr
   rw[List.mem_singleton.1 hr]
   have:¬ rLw.stratum=s':=fun q=>by have:(0:Nat)=s':=q;omega
   simp[this]
 ·rcases(hmem 2 x).1 (e3 2 x q) with ⟨q,_⟩|⟨q,_⟩|⟨_,q⟩
  ·cases q
  ·cases q
  ·exact q
 ·rintro rfl
  exact e4 2 _ ((hder E 2 _).2 ⟨rfl,k,rfl,e2 0 _ ((hF 0 _).2 ((fa _).2 ⟨k,hk,rfl⟩)),e2 1 _ ((hF 1 _).2 ((fb _).2 rfl))⟩)
end Go.Proofs.YteampbddflhngabGreat
