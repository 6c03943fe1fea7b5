import Derived.Test.YteampbddflhngaaGreatV19
import Derived.Test.YteampbddflhngaaGreatV21
namespace Go.Proofs.YteampbddflhngaaGreat
set_option linter.all false
set_option maxRecDepth 100000
set_option maxHeartbeats 4000000
open Go.Proofs.Tryz Go.RowKit
section
variable {lo:Nat}
def j6(t:zZ):Value×Value×Value:=(.bool t.var,.int .i64 t.num,.int .i64 t.level)
structure yh (lo:Nat) (w:World) (v:Value) (ts:List zZ):Prop where
 own:w.ownsRow lo 284 3 v ts.length (Pz (ts.map j6))
 len:ts.length<=1000
 num:∀t∈ts,t.num<=1000000/\t.level<=1000000
theorem yh.below{w a:World}{v:Value}{ts:List zZ}(h:yh lo w v ts)(b:Below w.heap.size w a):yh lo a v ts:=⟨zE h.own b,h.len,h.num⟩
theorem yh.qw{w:World}{v:Value}{ts:List zZ}(h:yh lo w v ts):∃b a,v=.slice b ts.length a:=zq h.own
theorem yh.cell{w:World}{e:Option Addr}{n cap:Nat}{ts:List zZ}(h:yh lo w (.slice e n cap) ts)(k:Nat)(j:k<ts.length):∃g,e=some ⟨g,0,none⟩/\g<w.heap.size/\w.cell? ⟨g,k*3,none⟩=some (.bool ts[k].var)/\w.cell? ⟨g,k*3+1,none⟩=some (.int .i64 (ts[k].num:Nat))/\w.cell? ⟨g,k*3+2,none⟩=some (.int .i64 (ts[k].level:Nat)):=by
 obtain⟨g,d,a,_,i,_⟩:=y7 h.own (by omega);simp only[Value.slice.injEq] at a;obtain⟨rfl,_,_⟩:=a;obtain⟨_,c,f,b⟩:=iZ h.own k (by simpa using j);simp only[vO,j6] at c f b;exact⟨g,rfl,i,c,f,b⟩
theorem PQ{α:Type}(l:List α)(p:α->Bool)(k:Nat)(a:k<l.length):(l.take (k+1)).any p=((l.take k).any p||p l[k]):=by
 rw[yM a,List.any_append];simp
theorem Cj{α:Type}(l:List α)(p:α->Bool)(k:Nat)(a:k<l.length)(h:p l[k]=true):l.any p=true:=kY.2 ⟨_,zu a,h⟩
theorem Av(w:World)(v:Value)(f c:Nat)(ts:List zZ)(h:yh lo w v ts):
  Calls prog 202 #[.agg #[.int .i64 f,v],.int .i64 c] w fun e B=>e=.returned (.bool (zL ⟨f,ts⟩ c))/\Below w.heap.size w B:=by
 obtain⟨G,D,rfl⟩:=h.qw;have H:=h.len;go_enter func202,ntmps202;go_wp2;go_loopw [10] (fun m wr=>∃k:Nat,k<=ts.length/\m=.int .i64 k/\Hid ((ts.take k).any (fun t=>t.var&&t.num == c)=false)/\Below w.heap.size w wr) (fun i _=>ts.length-(intOf i).toNat)
 case atStart=>exact⟨0,zv _,rfl,rfl,(by go_grown)⟩
 case round=>
  obtain⟨k,I,rfl,r,a⟩:=hrel;have b:=a.size;by_cases d:k<ts.length
  ·obtain⟨g,rfl,s,x,F,E⟩:=h.cell k d;have o:=zl a s x;have z:=zl a s F;have y:=zl a s E;have n:=OY (PQ ts (fun t=>t.var&&t.num == c) k d);have A:=OY (Cj ts (fun t=>t.var&&t.num == c) k d);generalize ts[k]=t at *;cases u:t.var with
   |false=>
    rw[u] at o n;go_wp2;go_roundw
    case rel=>exact⟨k+1,by omega,by go_num,(by rw[n.out,r.out];rfl),a.alloc b _⟩
    case measure=>simp[intOf];omega
   |true=>
    by_cases l:t.num=c
    ·have j:Hid (zL ⟨f,ts⟩ c=true):=A.out (by simp[u,l]);subst l;go_wp2;go_ret;exact⟨by rw[j.out];rfl,a.alloc b _⟩
    ·have q:Hid ((t.var&&t.num == c)=false):=by simp[Hid,l]
     have p:Hid ((ts.take (k+1)).any (fun t=>t.var&&t.num == c)=false):=by rw[Hid,n.out,r.out,q.out];rfl
     go_wp2;go_roundw
     case rel=>exact⟨k+1,by omega,by go_num,p,a.alloc b _⟩
     case measure=>simp[intOf];omega
  ·have C:Hid (zL ⟨f,ts⟩ c=false):=by
    have:=r.out;rw[xk (by omega)] at this;exact this
   go_wp2;go_ret;exact⟨by rw[C.out];rfl,a⟩
theorem DP(p:Nat->Bool)(k:Nat):(List.range (k+1)).countP p=(List.range k).countP p+(if p k then 1 else 0):=by
 rw[AF,List.countP_append];simp[List.countP_cons]
theorem Et(w:World)(v:Value)(a b:Nat)(ts:List zZ)(h:yh lo w v ts)(J:b<=1000000):
  Calls prog 187 #[.agg #[.int .i64 a,v],.int .i64 b] w fun e E=>e=.returned (qK (yX ⟨a,ts⟩ b))/\Below w.heap.size w E:=by
 have A:=OY fun W p n=>Av W v a p ts (h.below n);cases f:zL ⟨a,ts⟩ b with
 |false=>
  have x:Hid (yX ⟨a,ts⟩ b=none):=by simp[Hid,yX,f]
  have z:=OY fun W n=>by have q:=A.out W b n;rw[f] at q;exact q
  go_enter func187,ntmps187;go_wp2_with (first|(go_at_call 202;refine(z.out _ (by exact(by go_grown))).mono ?_;rintro e r ⟨rfl,c⟩;have i:Below w.heap.size w r:=zM (by go_grown) c (zh _)))
  go_ret2
  exact⟨by rw[x.out];rfl,i⟩
 |true=>
  have x:Hid (yX ⟨a,ts⟩ b=some ((List.range b).countP (zL ⟨a,ts⟩))):=by simp[Hid,yX,f]
  have z:=OY fun W n=>by have q:=A.out W b n;rw[f] at q;exact q
  go_enter func187,ntmps187;go_wp2_with (first|(go_at_call 202;refine(z.out _ (by exact(by go_grown))).mono ?_;rintro e r ⟨rfl,c⟩;have i:Below w.heap.size w r:=zM (by go_grown) c (zh _);have y:=(OZ.new w #[.int .i64 a,v] 204).below c))
  go_loopw [6,7] (fun C u wr=>∃k:Nat,k<=b/\u=.int .i64 k/\C=.int .i64 ((List.range k).countP (zL ⟨a,ts⟩):Nat)/\Below r.heap.size r wr) (fun _ u _=>b-(intOf u).toNat)
  case atStart=>exact⟨0,zv _,rfl,rfl,zo _ _⟩
  case round=>
   obtain⟨k,H,rfl,rfl,d⟩:=hrel;have o:=Pc i d;have m:=y.below d;obtain⟨G,I⟩:=m.rules;have D:(List.range k).countP (zL ⟨a,ts⟩)<=k:=by have:=ri (p:=zL ⟨a,ts⟩) (l:=List.range k);simpa using this
   by_cases B:k<b
   ·have t:=DP (zL ⟨a,ts⟩) k;have s:=OY (A.out wr k o);cases f:zL ⟨a,ts⟩ k with
    |false=>
     rw[f] at t s;have g:Hid ((List.range (k+1)).countP (zL ⟨a,ts⟩)=(List.range k).countP (zL ⟨a,ts⟩)):=by rw[Hid,t];simp
     go_wp2_with (first|(go_at_call 202;refine s.out.mono ?_;rintro e F ⟨rfl,j⟩))
     go_roundw
     case rel=>exact⟨k+1,by omega,by go_num,by rw[g.out],Pc d j⟩
     case measure=>simp[intOf];omega
    |true=>
     rw[f] at t s;have g:Hid ((List.range (k+1)).countP (zL ⟨a,ts⟩)=(List.range k).countP (zL ⟨a,ts⟩)+1):=by rw[Hid,t];simp
     go_wp2_with (first|(go_at_call 202;refine s.out.mono ?_;rintro e F ⟨rfl,j⟩))
     go_roundw
     case rel=>exact⟨k+1,by omega,by go_num,by rw[g.out];go_num,Pc d j⟩
     case measure=>simp[intOf];omega
   ·obtain rfl:k=b:=by omega
    go_wp2;go_ret2
    exact⟨by rw[x.out];rfl,o⟩
theorem BB(w:World)(v:Value)(a:Nat)(ts:List zZ)(h:yh lo w v ts):
  Calls prog 212 #[.agg #[.int .i64 a,v]] w fun e u=>e=.returned (.int .i64 (yR ⟨a,ts⟩:Nat))/\Below w.heap.size w u:=by
 have z:=OY fun W p A=>Av W v a p ts (h.below A);have n:=OZ.new w #[.int .i64 a,v] 204;have y:Hid (yR ⟨a,ts⟩=(List.range 5).countP (zL ⟨a,ts⟩)):=rfl;go_enter func212,ntmps212;go_wp2;go_loopw [3,4] (fun r o wr=>∃k:Nat,k<=5/\o=.int .i64 k/\r=.int .i64 ((List.range k).countP (zL ⟨a,ts⟩):Nat)/\Below (w.heap.size+1) (w.alloc (.cells #[.int .i64 a,v] 204)) wr) (fun _ o _=>5-(intOf o).toNat)
 case atStart=>exact⟨0,zv _,rfl,rfl,zo _ _⟩
 case round=>
  obtain⟨k,C,rfl,rfl,b⟩:=hrel;have i:Below (w.alloc (.cells #[.int .i64 a,v] 204)).heap.size (w.alloc (.cells #[.int .i64 a,v] 204)) wr:=by simpa using b
  have g:Below w.heap.size w wr:=zM (by go_grown) i (zh _);have f:=n.below i;obtain⟨B,D⟩:=f.rules;have t:(List.range k).countP (zL ⟨a,ts⟩)<=k:=by have:=ri (p:=zL ⟨a,ts⟩) (l:=List.range k);simpa using this
  by_cases s:k<5
  ·have m:=DP (zL ⟨a,ts⟩) k;have j:=OY (z.out wr k g);cases q:zL ⟨a,ts⟩ k with
   |false=>
    rw[q] at m j;have c:Hid ((List.range (k+1)).countP (zL ⟨a,ts⟩)=(List.range k).countP (zL ⟨a,ts⟩)):=by rw[Hid,m];simp
    go_wp2_with (first|(go_at_call 202;refine j.out.mono ?_;rintro e x ⟨rfl,d⟩))
    go_roundw
    case rel=>exact⟨k+1,by omega,by go_num,by rw[c.out],zM b d (by simp)⟩
    case measure=>simp[intOf];omega
   |true=>
    rw[q] at m j;have c:Hid ((List.range (k+1)).countP (zL ⟨a,ts⟩)=(List.range k).countP (zL ⟨a,ts⟩)+1):=by rw[Hid,m];simp
    go_wp2_with (first|(go_at_call 202;refine j.out.mono ?_;rintro e x ⟨rfl,d⟩))
    go_roundw
    case rel=>exact⟨k+1,by omega,by go_num,by rw[c.out];go_num,zM b d (by simp)⟩
    case measure=>simp[intOf];omega
  ·obtain rfl:k=5:=by omega
   go_wp2;go_ret;exact⟨by rw[y.out];rfl,g⟩
theorem p7{α β:Type}(l:List α)(f:β->α->β)(b:β)(k:Nat)(a:k<l.length):(l.take (k+1)).foldl f b=f ((l.take k).foldl f b) l[k]:=by
 rw[yM a,ju];rfl
def gX(k:Nat)(t:zZ):Nat:=if t.var&&decide (t.num≥k) then t.num+1 else k
theorem Gf(l:zt):uC l=l.qg.foldl gX 0:=rfl
theorem Dr(w:World)(v:Value)(j:Nat)(ts:List zZ)(h:yh lo w v ts):
  Calls prog 222 #[.agg #[.int .i64 j,v]] w fun e y=>e=.returned (.int .i64 (uC ⟨j,ts⟩:Nat))/\Below w.heap.size w y:=by
 obtain⟨E,B,rfl⟩:=h.qw;have F:=h.len;have z:Hid (uC ⟨j,ts⟩=ts.foldl gX 0):=Gf _;go_enter func222,ntmps222;go_wp2;go_loopw [3,9] (fun q p wr=>∃k:Nat,k<=ts.length/\p=.int .i64 k/\q=.int .i64 ((ts.take k).foldl gX 0:Nat)/\Below w.heap.size w wr) (fun _ i _=>ts.length-(intOf i).toNat)
 case atStart=>exact⟨0,zv _,rfl,rfl,(by go_grown)⟩
 case round=>
  obtain⟨k,G,rfl,rfl,a⟩:=hrel;have c:=a.size;by_cases d:k<ts.length
  ·obtain⟨g,rfl,m,r,D,C⟩:=h.cell k d;have A:=zl a m r;have u:=zl a m D;have s:=zl a m C;have x:=(h.num _ (zu d)).1;have f:=OY (p7 ts gX 0 k d);generalize ts[k]=t at *;generalize (ts.take k).foldl gX 0=l at *;cases o:t.var with
   |false=>
    have b:Hid ((ts.take (k+1)).foldl gX 0=l):=by rw[Hid,f.out];simp[gX,o]
    go_wp2;go_roundw
    case rel=>exact⟨k+1,by omega,by go_num,by rw[b.out],a.alloc c _⟩
    case measure=>simp[intOf];omega
   |true=>
    by_cases n:t.num≥l
    ·have b:Hid ((ts.take (k+1)).foldl gX 0=t.num+1):=by rw[Hid,f.out];simp[gX,o,n]
     go_wp2;go_roundw
     case rel=>exact⟨k+1,by omega,by go_num,by rw[b.out];go_num,a.alloc c _⟩
     case measure=>simp[intOf];omega
    ·have b:Hid ((ts.take (k+1)).foldl gX 0=l):=by rw[Hid,f.out];simp[gX,n]
     go_wp2;go_roundw
     case rel=>exact⟨k+1,by omega,by go_num,by rw[b.out],a.alloc c _⟩
     case measure=>simp[intOf];omega
  ·rw[xk (by omega)];go_wp2;go_ret;exact⟨by rw[z.out];rfl,a⟩
def kS(jd k:Int)(t:zZ):Int:=if t.var&&decide ((t.num:Int)<jd)&&decide ((t.num:Int)>k) then(t.num:Int) else k
theorem Fz(l:zt)(jd:Int):j4 l jd=l.qg.foldl (kS jd) (-1):=rfl
theorem CB(w:World)(v:Value)(n:Nat)(d:Int)(ts:List zZ)(h:yh lo w v ts):
  Calls prog 225 #[.agg #[.int .i64 n,v],.int .i64 d] w fun e z=>e=.returned (.int .i64 (j4 ⟨n,ts⟩ d))/\Below w.heap.size w z:=by
 obtain⟨F,C,rfl⟩:=h.qw;have G:=h.len;have A:Hid (j4 ⟨n,ts⟩ d=ts.foldl (kS d) (-1)):=Fz _ _;go_enter func225,ntmps225;go_wp2;go_loopw [5,11] (fun s m wr=>∃k:Nat,k<=ts.length/\m=.int .i64 k/\s=.int .i64 ((ts.take k).foldl (kS d) (-1))/\Below w.heap.size w wr) (fun _ i _=>ts.length-(intOf i).toNat)
 case atStart=>exact⟨0,zv _,rfl,rfl,(by go_grown)⟩
 case round=>
  obtain⟨k,H,rfl,rfl,a⟩:=hrel;have c:=a.size;by_cases f:k<ts.length
  ·obtain⟨g,rfl,o,u,E,D⟩:=h.cell k f;have B:=zl a o u;have y:=zl a o E;have x:=zl a o D;have j:=OY (p7 ts (kS d) (-1) k f);generalize ts[k]=t at *;generalize (ts.take k).foldl (kS d) (-1)=l at *;cases q:t.var with
   |false=>
    have b:Hid ((ts.take (k+1)).foldl (kS d) (-1)=l):=by rw[Hid,j.out];simp[kS,q]
    go_wp2;go_roundw
    case rel=>exact⟨k+1,by omega,by go_num,by rw[b.out],a.alloc c _⟩
    case measure=>simp[intOf];omega
   |true=>
    by_cases p:(t.num:Int)<d
    ·by_cases r:(t.num:Int)>l
     ·have b:Hid ((ts.take (k+1)).foldl (kS d) (-1)=(t.num:Int)):=by rw[Hid,j.out];simp[kS,q,p,r]
      go_wp2;go_roundw
      case rel=>exact⟨k+1,by omega,by go_num,by rw[b.out],a.alloc c _⟩
      case measure=>simp[intOf];omega
     ·have b:Hid ((ts.take (k+1)).foldl (kS d) (-1)=l):=by rw[Hid,j.out];simp[kS,r]
      go_wp2;go_roundw
      case rel=>exact⟨k+1,by omega,by go_num,by rw[b.out],a.alloc c _⟩
      case measure=>simp[intOf];omega
    ·have b:Hid ((ts.take (k+1)).foldl (kS d) (-1)=l):=by rw[Hid,j.out];simp[kS,p]
     go_wp2;go_roundw
     case rel=>exact⟨k+1,by omega,by go_num,by rw[b.out],a.alloc c _⟩
     case measure=>simp[intOf];omega
  ·rw[xk (by omega)];go_wp2;go_ret;exact⟨by rw[A.out];rfl,a⟩
theorem AU(w:World)(v:Value)(b:Nat)(d:Int)(ts:List zZ)(h:yh lo w v ts):
  Calls prog 226 #[.agg #[.int .i64 b,v],.int .i64 d] w fun e p=>e=.returned (.int .i64 (vX ⟨b,ts⟩ d))/\Below w.heap.size w p:=by
 have m:=OY fun W g=>Dr W v b ts (h.below g);have n:=OY fun W g=>CB W v b d ts (h.below g);have f:Hid (vX ⟨b,ts⟩ d=if (uC ⟨b,ts⟩:Int)<=d then -1 else j4 ⟨b,ts⟩ d):=rfl;generalize uC ⟨b,ts⟩=o at *;by_cases l:(o:Int)<=d
 ·rw[zb l] at f;go_enter func226,ntmps226;go_wp2_with (first|(go_at_call 222;refine(m.out _ (by exact(by go_grown))).mono ?_;rintro e j ⟨rfl,c⟩;have a:Below w.heap.size w j:=zM (by go_grown) c (zh _)))
  go_ret;exact⟨by rw[f.out];rfl,a⟩
 ·rw[za l] at f;go_enter func226,ntmps226;go_wp2_with (first|(go_at_call 222;refine(m.out _ (by exact(by go_grown))).mono ?_;rintro e j ⟨rfl,c⟩;have a:Below w.heap.size w j:=zM (by go_grown) c (zh _);have i:=(OZ.new w #[.int .i64 b,v] 204).below c;obtain⟨s,t,r⟩:=i.boxed)|(go_at_call 225;refine(n.out _ a).mono ?_;rintro e q ⟨rfl,k⟩))
  go_ret;exact⟨by rw[f.out];rfl,Pc a k⟩
theorem Bn(a b:Nat):((a:Int) == (b:Int))=(a == b):=by
 by_cases h:a=b
 ·subst h;rw[beq_self_eq_true,beq_self_eq_true]
 ·rw[beq_eq_false_iff_ne.2 (by omega:(a:Int)≠(b:Int)),beq_eq_false_iff_ne.2 h]
def mY(t:zZ):Value:=.agg #[.bool t.var,.int .i64 t.num,.int .i64 t.level]
def QC(x y z:Nat):Value:=.agg #[.int .i64 x,.int .i64 y,.int .i64 z]
def pO(a b c d e:Nat):Value:=.agg #[.int .i64 a,.int .i64 b,.int .i64 c,.int .i64 d,.int .i64 e]
theorem wu(w:World)(t:zZ)(a b c d e:Nat):
  Calls prog 188 #[mY t,pO a b c d e] w fun r j=>r=.returned (.int .i64 (Qj t [a,b,c,d,e]:Nat))/\Below w.heap.size w j:=by
 obtain⟨i,n,g⟩:=t;unfold mY pO;simp only;cases i with
 |false=>
  have f:Hid (Qj ⟨false,n,g⟩ [a,b,c,d,e]=n):=rfl;go_enter func188,ntmps188;go_wp2;go_ret;exact⟨by rw[f.out];rfl,(by go_grown)⟩
 |true=>
  by_cases h:n<5
  ·have f:Hid (Qj ⟨true,n,g⟩ [a,b,c,d,e]=[a,b,c,d,e].getD n 0):=by simp[Hid,Qj,h]
   obtain rfl|rfl|rfl|rfl|rfl:n=0∨n=1∨n=2∨n=3∨n=4:=by omega
   all_goals
    go_enter func188,ntmps188;go_wp2;go_ret;exact⟨by rw[f.out];rfl,(by go_grown)⟩
  ·have f:Hid (Qj ⟨true,n,g⟩ [a,b,c,d,e]=n):=by simp[Hid,Qj,h]
   go_enter func188,ntmps188;go_wp2;go_ret;exact⟨by rw[f.out];rfl,(by go_grown)⟩
theorem sL(w:World)(t:zZ):
  Calls prog 218 #[mY t] w fun r e=>r=.returned (.bool (leveled t))/\Below w.heap.size w e:=by
 obtain⟨d,n,b⟩:=t;unfold mY;simp only;cases d with
 |false=>
  have a:Hid (leveled ⟨false,n,b⟩=false):=rfl;go_enter func218,ntmps218;go_wp2;go_ret;exact⟨by rw[a.out];rfl,(by go_grown)⟩
 |true=>
  by_cases c:b<3
  ·have a:Hid (leveled ⟨true,n,b⟩=true):=by simp[Hid,leveled,c]
   go_enter func218,ntmps218;go_wp2;go_ret;exact⟨by rw[a.out];simp;omega,(by go_grown)⟩
  ·have a:Hid (leveled ⟨true,n,b⟩=false):=by simp[Hid,leveled,c]
   go_enter func218,ntmps218;go_wp2;go_ret;exact⟨by rw[a.out];simp;omega,(by go_grown)⟩
theorem i5(w:World)(t:zZ)(v x y z:Nat):
  Calls prog 219 #[mY t,.int .i64 v,QC x y z] w fun r o=>r=.returned (.bool (jn t v [x,y,z]))/\Below w.heap.size w o:=by
 have e:=OY fun W=>sL W t;have h:Hid (jn t v [x,y,z]=if leveled t then [x,y,z].getD t.level 0 == v else t.num == v):=rfl;have d:leveled t=true->t.level<3:=by simp[leveled]
 generalize leveled t=s at *;obtain⟨j,n,f⟩:=t;unfold mY at e ⊢;unfold QC;simp only at e d h ⊢;cases s with
 |false=>
  go_enter func219,ntmps219;go_wp2_with (first|(go_at_call 218;refine(e.out _).mono ?_;rintro r i ⟨rfl,a⟩;have c:Below w.heap.size w i:=zM (by go_grown) a (zh _);have b:=((OZ.new w #[.bool j,.int .i64 n,.int .i64 f] 284).below ((zo _ _).alloc (zh _) (.cells #[.int .i64 x,.int .i64 y,.int .i64 z] 165))).below a;obtain⟨m,q,p⟩:=b.boxed))
  go_ret;exact⟨by rw[h.out];simp[Bn],c⟩
 |true=>
  have A:=d rfl;obtain rfl|rfl|rfl:f=0∨f=1∨f=2:=by omega
  all_goals
   go_enter func219,ntmps219;go_wp2_with (first|(go_at_call 218;refine(e.out _).mono ?_;rintro r i ⟨rfl,a⟩;have c:Below w.heap.size w i:=zM (by go_grown) a (zh _);have b:=((OZ.new w #[.bool j,.int .i64 n,.int .i64 _] 284).below ((zo _ _).alloc (zh _) (.cells #[.int .i64 x,.int .i64 y,.int .i64 z] 165))).below a;obtain⟨m,q,p⟩:=b.boxed;have g:=(OZ.newAt (w.alloc (.cells #[.bool j,.int .i64 n,.int .i64 _] 284)) (w.heap.size+1) #[.int .i64 x,.int .i64 y,.int .i64 z] 165 (by simp)).below a;obtain⟨u,k,l⟩:=g.boxed))
   go_ret;exact⟨by rw[h.out];simp[Bn],c⟩
def lP(l:zt)(vals:List Nat):Nat->Array Value
 |0=>#[.int .i64 0,.int .i64 0,.int .i64 0]
 |1=>#[.int .i64 ((Pa l vals 0:Nat):Int),.int .i64 0,.int .i64 0]
 |2=>#[.int .i64 ((Pa l vals 0:Nat):Int),.int .i64 ((Pa l vals 1:Nat):Int),.int .i64 0]
 |_=>#[.int .i64 ((Pa l vals 0:Nat):Int),.int .i64 ((Pa l vals 1:Nat):Int),.int .i64 ((Pa l vals 2:Nat):Int)]
theorem wD(w:World)(v:Value)(o:Nat)(ts:List zZ)(a b c d e:Nat)(h:yh lo w v ts):
  Calls prog 161 #[.agg #[.int .i64 o,v],pO a b c d e] w fun r Z=>r=.returned (.agg #[.int .i64 ((Pa ⟨o,ts⟩ [a,b,c,d,e] 0:Nat):Int),.int .i64 ((Pa ⟨o,ts⟩ [a,b,c,d,e] 1:Nat):Int),.int .i64 ((Pa ⟨o,ts⟩ [a,b,c,d,e] 2:Nat):Int)])/\Below w.heap.size w Z:=by
 obtain⟨ao,ac,rfl⟩:=h.qw;have hl:=h.len;unfold pO;go_enter func161,ntmps161;go_wp2;go_loopw [7] (fun v7 wr=>∃k:Nat,k<=3/\v7=.int .i64 k/\OZ wr w.heap.size #[.int .i64 o,.slice ao ts.length ac] 204/\OZ wr (w.heap.size+1) #[.int .i64 a,.int .i64 b,.int .i64 c,.int .i64 d,.int .i64 e] 262/\OZ wr (w.heap.size+2) #[.int .i64 0,.int .i64 0,.int .i64 0] 165/\OZ wr (w.heap.size+3) (lP ⟨o,ts⟩ [a,b,c,d,e] k) 165/\Below w.heap.size w wr) (fun i _=>3-(intOf i).toNat)
 case atStart=>exact⟨0,by omega,rfl,(((OZ.new w _ _).below zO).below zO).below zO,((OZ.newAt _ _ _ _ (by simp)).below zO).below zO,(OZ.newAt _ _ _ _ (by simp)).below zO,OZ.newAt _ _ _ _ (by simp),(by go_grown)⟩
 case round=>
  obtain⟨k,hk,rfl,B,z,A,J,l⟩:=hrel;obtain⟨am,af,ah⟩:=B.boxed;obtain⟨ak,ag,ai⟩:=z.boxed;have ae:=l.size;match k,hk with
  |0,_=>
   have m:OZ wr (w.heap.size+3) #[.int .i64 0,.int .i64 0,.int .i64 0] 165:=J;obtain⟨X,aa,Y⟩:=m.boxed;by_cases s:0<ts.length
   ·obtain⟨g,I,N,P,U,T⟩:=h.cell 0 s;subst I;have H:=zl l N P;have E:=zl l N U;have D:=zl l N T;simp only[Nat.reduceMul,Nat.reduceAdd] at H E D;have ab:g<wr.heap.size:=by omega
    have C:Hid (Pa ⟨o,ts⟩ [a,b,c,d,e] 0=Qj ts[0] [a,b,c,d,e]):=by simp[Hid,Pa,s,List.getD_eq_getElem?_getD]
    have y:Hid (∀W,Calls prog 188 #[.agg #[.bool ts[0].var,.int .i64 (ts[0].num:Nat),.int .i64 (ts[0].level:Nat)],.agg #[.int .i64 a,.int .i64 b,.int .i64 c,.int .i64 d,.int .i64 e]] W fun r Z=>r=.returned (.int .i64 ((Pa ⟨o,ts⟩ [a,b,c,d,e] 0:Nat):Int))/\Below W.heap.size W Z):=fun W=>by rw[C.out];exact wu W ts[0] a b c d e
    clear P U T C;generalize ts[0]=t at *;obtain⟨u,x⟩:∃u,u=Pa ⟨o,ts⟩ [a,b,c,d,e] 0:=⟨_,rfl⟩;rw[←x] at y;have K:=OY x.symm;clear x;go_wp2;go_region_with (go_at_call 188;refine(y.out _).mono ?_;rintro r w2 ⟨rfl,O⟩;have f:Below wr.heap.size wr w2:=(zM (by go_grown) O (zh _));have j:=m.below f;obtain⟨Q,R,S⟩:=j.boxed)
    all_goals
     have n:=j.set 0 (.int .i64 u);simp at n;have F:=(B.below f).set_ne (show w.heap.size≠w.heap.size+3 from by omega) 0 (.int .i64 u);have L:=(z.below f).set_ne (show w.heap.size+1≠w.heap.size+3 from by omega) 0 (.int .i64 u);have M:=(A.below f).set_ne (show w.heap.size+2≠w.heap.size+3 from by omega) 0 (.int .i64 u);have G:=(Pc l f).setCell (p:=⟨w.heap.size+3,0,none⟩) (by simp) (.int .i64 u);go_wp2;go_roundw
     case rel=>exact⟨1,by omega,rfl,F,L,M,(by simp only[lP,K.out];exact n),G⟩
     case measure=>simp[intOf]
   ·have C:Hid (Pa ⟨o,ts⟩ [a,b,c,d,e] 0=0):=by simp[Hid,Pa,s]
    have V:ts.length<=0:=by omega
    go_wp2;go_roundw
    case rel=>exact⟨1,by omega,rfl,B,z,A,(by have q:=m;simp only[lP,C.out];exact q),l⟩
    case measure=>simp[intOf]
  |1,_=>
   have m:OZ wr (w.heap.size+3) #[.int .i64 ((Pa ⟨o,ts⟩ [a,b,c,d,e] 0:Nat):Int),.int .i64 0,.int .i64 0] 165:=J;obtain⟨X,aa,Y⟩:=m.boxed;by_cases s:1<ts.length
   ·obtain⟨g,I,N,P,U,T⟩:=h.cell 1 s;subst I;have H:=zl l N P;have E:=zl l N U;have D:=zl l N T;simp only[Nat.reduceMul,Nat.reduceAdd] at H E D;have ab:g<wr.heap.size:=by omega
    have C:Hid (Pa ⟨o,ts⟩ [a,b,c,d,e] 1=Qj ts[1] [a,b,c,d,e]):=by simp[Hid,Pa,s,List.getD_eq_getElem?_getD]
    have y:Hid (∀W,Calls prog 188 #[.agg #[.bool ts[1].var,.int .i64 (ts[1].num:Nat),.int .i64 (ts[1].level:Nat)],.agg #[.int .i64 a,.int .i64 b,.int .i64 c,.int .i64 d,.int .i64 e]] W fun r Z=>r=.returned (.int .i64 ((Pa ⟨o,ts⟩ [a,b,c,d,e] 1:Nat):Int))/\Below W.heap.size W Z):=fun W=>by rw[C.out];exact wu W ts[1] a b c d e
    clear P U T C;generalize ts[1]=t at *;obtain⟨u,x⟩:∃u,u=Pa ⟨o,ts⟩ [a,b,c,d,e] 1:=⟨_,rfl⟩;rw[←x] at y;have K:=OY x.symm;clear x;go_wp2;go_region_with (go_at_call 188;refine(y.out _).mono ?_;rintro r w2 ⟨rfl,O⟩;have f:Below wr.heap.size wr w2:=(zM (by go_grown) O (zh _));have j:=m.below f;obtain⟨Q,R,S⟩:=j.boxed)
    all_goals
     have n:=j.set 1 (.int .i64 u);simp at n;have F:=(B.below f).set_ne (show w.heap.size≠w.heap.size+3 from by omega) 1 (.int .i64 u);have L:=(z.below f).set_ne (show w.heap.size+1≠w.heap.size+3 from by omega) 1 (.int .i64 u);have M:=(A.below f).set_ne (show w.heap.size+2≠w.heap.size+3 from by omega) 1 (.int .i64 u);have G:=(Pc l f).setCell (p:=⟨w.heap.size+3,1,none⟩) (by simp) (.int .i64 u);go_wp2;go_roundw
     case rel=>exact⟨2,by omega,rfl,F,L,M,(by simp only[lP,K.out];exact n),G⟩
     case measure=>simp[intOf]
   ·have C:Hid (Pa ⟨o,ts⟩ [a,b,c,d,e] 1=0):=by simp[Hid,Pa,s]
    have V:ts.length<=1:=by omega
    go_wp2;go_roundw
    case rel=>exact⟨2,by omega,rfl,B,z,A,(by have q:=m;simp only[lP,C.out];exact q),l⟩
    case measure=>simp[intOf]
  |2,_=>
   have m:OZ wr (w.heap.size+3) #[.int .i64 ((Pa ⟨o,ts⟩ [a,b,c,d,e] 0:Nat):Int),.int .i64 ((Pa ⟨o,ts⟩ [a,b,c,d,e] 1:Nat):Int),.int .i64 0] 165:=J;obtain⟨X,aa,Y⟩:=m.boxed;by_cases s:2<ts.length
   ·obtain⟨g,I,N,P,U,T⟩:=h.cell 2 s;subst I;have H:=zl l N P;have E:=zl l N U;have D:=zl l N T;simp only[Nat.reduceMul,Nat.reduceAdd] at H E D;have ab:g<wr.heap.size:=by omega
    have C:Hid (Pa ⟨o,ts⟩ [a,b,c,d,e] 2=Qj ts[2] [a,b,c,d,e]):=by simp[Hid,Pa,s,List.getD_eq_getElem?_getD]
    have y:Hid (∀W,Calls prog 188 #[.agg #[.bool ts[2].var,.int .i64 (ts[2].num:Nat),.int .i64 (ts[2].level:Nat)],.agg #[.int .i64 a,.int .i64 b,.int .i64 c,.int .i64 d,.int .i64 e]] W fun r Z=>r=.returned (.int .i64 ((Pa ⟨o,ts⟩ [a,b,c,d,e] 2:Nat):Int))/\Below W.heap.size W Z):=fun W=>by rw[C.out];exact wu W ts[2] a b c d e
    clear P U T C;generalize ts[2]=t at *;obtain⟨u,x⟩:∃u,u=Pa ⟨o,ts⟩ [a,b,c,d,e] 2:=⟨_,rfl⟩;rw[←x] at y;have K:=OY x.symm;clear x;go_wp2;go_region_with (go_at_call 188;refine(y.out _).mono ?_;rintro r w2 ⟨rfl,O⟩;have f:Below wr.heap.size wr w2:=(zM (by go_grown) O (zh _));have j:=m.below f;obtain⟨Q,R,S⟩:=j.boxed)
    all_goals
     have n:=j.set 2 (.int .i64 u);simp at n;have F:=(B.below f).set_ne (show w.heap.size≠w.heap.size+3 from by omega) 2 (.int .i64 u);have L:=(z.below f).set_ne (show w.heap.size+1≠w.heap.size+3 from by omega) 2 (.int .i64 u);have M:=(A.below f).set_ne (show w.heap.size+2≠w.heap.size+3 from by omega) 2 (.int .i64 u);have G:=(Pc l f).setCell (p:=⟨w.heap.size+3,2,none⟩) (by simp) (.int .i64 u);go_wp2;go_roundw
     case rel=>exact⟨3,by omega,rfl,F,L,M,(by simp only[lP,K.out];exact n),G⟩
     case measure=>simp[intOf]
   ·have C:Hid (Pa ⟨o,ts⟩ [a,b,c,d,e] 2=0):=by simp[Hid,Pa,s]
    have V:ts.length<=2:=by omega
    go_wp2;go_roundw
    case rel=>exact⟨3,by omega,rfl,B,z,A,(by have q:=m;simp only[lP,C.out];exact q),l⟩
    case measure=>simp[intOf]
  |3,_=>
   simp only[lP] at J;obtain⟨X,aa,Y⟩:=J.boxed;obtain⟨ad,aj,al⟩:=A.boxed;go_wp2;exact zJ (v:=.agg #[.int .i64 ((Pa ⟨o,ts⟩ [a,b,c,d,e] 0:Nat):Int),.int .i64 ((Pa ⟨o,ts⟩ [a,b,c,d,e] 1:Nat):Int),.int .i64 ((Pa ⟨o,ts⟩ [a,b,c,d,e] 2:Nat):Int)]) (by simp[results,results161,go_sem,ad]) rfl ⟨rfl,((l.setCell (p:=⟨w.heap.size+2,0,none⟩) (by simp) _).setCell (p:=⟨w.heap.size+2,1,none⟩) (by simp) _).setCell (p:=⟨w.heap.size+2,2,none⟩) (by simp) _⟩
def kQ(lo:Nat)(w:World)(g:Nat)(vs:List ByteArray)(h:List Nat):Prop:=∃b d c e a f,h=[d,c,e,a,f]/\OZ w g #[b,.int .i64 d,.int .i64 c,.int .i64 e,.int .i64 a,.int .i64 f] 257/\Pg lo w b vs
theorem kQ.below{w a:World}{c:Nat}{vs:List ByteArray}{d:List Nat}(h:kQ lo w c vs d)(b:Below w.heap.size w a):kQ lo a c vs d:=by
 obtain⟨g,k,i,l,f,n,j,e,m⟩:=h;exact⟨g,k,i,l,f,n,j,e.below b,m.below b⟩
def ut(vs:List ByteArray)(a:List Nat)(n:ByteArray):Nat:=match yu vs n with
 |none=>0
 |some k=>if k≥5 then 0 else a.getD k 0
theorem Nn(w:World)(m:Nat)(vs:List ByteArray)(t:List Nat)(n:ByteArray)(h:kQ lo w m vs t)(y:vs.length<=1000):
  Calls prog 201 #[.pointer (some ⟨m,0,none⟩),.string n] w fun e o=>e=.returned (.int .i64 (ut vs t n:Nat))/\o=w:=by
 obtain⟨v,d,c,j,i,f,rfl,q,x⟩:=h;obtain⟨p,B⟩:=q.rules;have l:=OY (Ha w m v vs n (by rw[p];rfl) x y);have b:Hid (ut vs [d,c,j,i,f] n=match yu vs n with|none=>0|some k=>if k≥5 then 0 else [d,c,j,i,f].getD k 0):=rfl;cases s:yu vs n with
 |none=>
  rw[s] at l b;go_enter func201,ntmps201;go_wp2_with (first|(go_at_call 200;refine l.out.mono ?_;rintro e o ⟨rfl,a⟩;obtain rfl:=a.symm))
  go_ret;exact⟨by rw[b.out];rfl,rfl⟩
 |some k=>
  rw[s] at l b;simp only[uo,qJ] at l b;by_cases A:k<5
  ·have r:(k:Int)<5:=by omega
   have g:Hid (ut vs [d,c,j,i,f] n=[d,c,j,i,f].getD k 0):=by rw[Hid,b.out,za (by omega)]
   have u:w.cell? ⟨m,1+k,none⟩=some (.int .i64 (([d,c,j,i,f].getD k 0:Nat):Int)):=by
    rw[p];obtain rfl|rfl|rfl|rfl|rfl:k=0∨k=1∨k=2∨k=3∨k=4:=by omega
    all_goals rfl
   generalize [d,c,j,i,f].getD k 0=z at *;clear p b;go_enter func201,ntmps201;go_wp2_with (first|(go_at_call 200;refine l.out.mono ?_;rintro e o ⟨rfl,a⟩;obtain rfl:=a.symm))
   go_ret;exact⟨by rw[g.out];rfl,rfl⟩
  ·have r:¬(k:Int)<5:=by omega
   have g:Hid (ut vs [d,c,j,i,f] n=0):=by rw[Hid,b.out,zb (by omega)]
   go_enter func201,ntmps201;go_wp2_with (first|(go_at_call 200;refine l.out.mono ?_;rintro e o ⟨rfl,a⟩;obtain rfl:=a.symm))
   go_ret;exact⟨by rw[g.out];rfl,rfl⟩
def mh(lo:Nat)(w:World)(b tb o a:Nat)(t:List zg)(ns:List ByteArray):Prop:=OZ w b #[.pointer (some ⟨tb,o,none⟩),.pointer (some ⟨a,0,none⟩)] 200/\TG lo w tb o t/\lA lo w a ns/\t.length<=1000/\ns.length<=1000
theorem mh.below{w d:World}{c tb o b:Nat}{t:List zg}{ns:List ByteArray}(h:mh lo w c tb o b t ns)(a:Below w.heap.size w d):mh lo d c tb o b t ns:=⟨h.1.below a,h.2.1.below a,h.2.2.1.below a,h.2.2.2⟩
def uD(ns vs:List ByteArray)(a:List Nat)(t:ByteArray):zZ:=if zV t then⟨true,ut vs a t,0⟩ else⟨false,(yT ns t).getD 0,0⟩
theorem NH{u:Nat}(w:World)(B tb o C j:Nat)(t:List zg)(ns vs:List ByteArray)(c:List Nat)(x:ByteArray)(h:mh lo w B tb o C t ns)(J:kQ u w j vs c)(K:vs.length<=1000):
  Calls prog 186 #[.pointer (some ⟨B,0,none⟩),.string x,.pointer (some ⟨j,0,none⟩)] w fun e b=>e=.returned (mY (uD ns vs c x))/\Below w.heap.size w b:=by
 obtain⟨p,_,n,_,A⟩:=h;obtain⟨L,M,E⟩:=p.boxed;have I:=OY fun W q=>Nn W j vs c x (J.below q) K;have H:=OY fun W q=>Id W C ns x (n.below q) A;have s:=OZ.new w #[.bool false,.int .i64 0,.int .i64 0] 284;cases g:zV x with
 |true=>
  have i:Hid (∀W,Calls prog 156 #[.string x] W fun e b=>e=.returned (.bool true)/\b=W):=fun W=>by rw[←g];exact fO x W
  have k:Hid (uD ns vs c x=⟨true,ut vs c x,0⟩):=by rw[Hid,uD,g];rfl
  generalize ut vs c x=l at *;go_enter func186,ntmps186;go_wp2_with (first|(go_at_call 156;refine(i.out _).mono ?_;rintro e b ⟨rfl,a⟩;obtain rfl:=a.symm)|(go_at_call 201;refine(I.out _ (by exact(by go_grown))).mono ?_;rintro e b ⟨rfl,a⟩;obtain rfl:=a.symm))
  (try simp only[Exit.inBlock,Exit.then])
  exact zJ (v:=.agg #[.bool true,.int .i64 l,.int .i64 0]) (by simp[results,results186,go_sem]) rfl ⟨by rw[k.out];rfl,(by go_grown)⟩
 |false=>
  have i:Hid (∀W,Calls prog 156 #[.string x] W fun e b=>e=.returned (.bool false)/\b=W):=fun W=>by rw[←g];exact fO x W
  have k:Hid (uD ns vs c x=⟨false,(yT ns x).getD 0,0⟩):=by rw[Hid,uD,g];rfl
  generalize (yT ns x).getD 0=l at *;go_enter func186,ntmps186;go_wp2_with (first|(go_at_call 156;refine(i.out _).mono ?_;rintro e b ⟨rfl,a⟩;obtain rfl:=a.symm)|(go_at_call 129;refine(H.out _ (by exact(by go_grown))).mono ?_;rintro e D ⟨rfl,m,f⟩;have d:Below (w.alloc (.cells #[.bool false,.int .i64 0,.int .i64 0] 284)).heap.size (w.alloc (.cells #[.bool false,.int .i64 0,.int .i64 0] 284)) D:=(by rw[f];exact zI (zo _ _) m);have r:=s.below d;obtain⟨y,F,G⟩:=r.boxed;have z:Below w.heap.size w D:=(zM (by go_grown) d (zh _));clear f))
  (try simp only[Exit.inBlock,Exit.then])
  exact zJ (v:=.agg #[.bool false,.int .i64 l,.int .i64 0]) (by simp[results,results186,go_sem,y]) rfl ⟨by rw[k.out];rfl,((z.setCell (by simp) _).setCell (by simp) _).setCell (by simp) _⟩
end
end Go.Proofs.YteampbddflhngaaGreat
