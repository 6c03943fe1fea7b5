import Derived.Deep.OwnRows
import Derived.Deep.RegionWith
import Derived.Laws.CopyOwn
import Derived.Maps.AppendAt
import Derived.Deep.CutRange
import Derived.Test.YteampbddflhngaaGreatZ06
import Derived.Test.YteampbddflhngaaGreatZ07
import Derived.Test.YteampbddflhngaaGreatZ08
namespace Go.Proofs.YteampbddflhngaaGreat
set_option linter.all false
set_option maxRecDepth 100000
set_option maxHeartbeats 4000000
section
open Go.Proofs.Tryz Go.RowKit
variable {lo:Nat}{r r2:List QA}
def kA(l:zj):Nat:=l.args.length+1
def RZ(a:List zj):Nat:=a.foldr (fun l n=>kA l+n) 0
def Sq(c:zd):Nat:=kA c.head+RZ c.body
def RY(cs:List zd):Nat:=cs.foldr (fun c n=>Sq c+n) 0
theorem DP:∀(r:List QA) {ts:κ} {r2:List QA},yk r=some (ts,r2)->ts.length+r2.length<=r.length
 |[],_,_,h=>by simp[yk] at h
 |[x],ts,r2,h=>by
  simp only[yk] at h;split at h<;>simp at h
  obtain⟨rfl,rfl⟩:=h;simp
 |x::y::r,ts,r2,h=>by
  simp only[yk] at h;split at h
  ·split at h
   ·cases a:yk r with
    |none=>rw[a] at h;simp at h
    |some z=>
     obtain⟨b,c⟩:=z;rw[a] at h;simp at h;have:=DP r a;obtain⟨rfl,rfl⟩:=h;simp;omega
   ·simp at h;obtain⟨rfl,rfl⟩:=h;simp;omega
  ·simp at h
theorem i8{a:zj}(h:yZ r=some (a,r2)):kA a+r2.length<=r.length:=by
 cases r with
 |nil=>simp[yZ,QR] at h
 |cons x r=>
  unfold yZ at h;split at h
  ·split at h
   ·split at h
    ·simp at h
    ·rename_i c d b;have:=DP _ b;split at h<;>simp at h
     obtain⟨rfl,rfl⟩:=h;simp[kA] at this ⊢;omega
   ·simp at h;obtain⟨rfl,rfl⟩:=h;simp[kA];omega
  ·simp at h
theorem Np{a:zj}(h:uC r=some (a,r2)):kA a+r2.length<=r.length:=by
 unfold uC at h;split at h
 ·cases b:yZ r.tail with
  |none=>rw[b] at h;simp at h
  |some z=>
   obtain⟨c,d⟩:=z;rw[b] at h;simp at h;have:=i8 b;obtain⟨rfl,rfl⟩:=h;simp[kA] at this ⊢;omega
 ·exact i8 h
theorem GC{n:Nat}:∀{r r2:List QA} {b:List zj},xJ n r=some (b,r2)->RZ b+r2.length<=r.length:=by
 induction n with
 |zero=>intro r r2 b h;simp[xJ] at h
 |succ n g=>
  intro r r2 b h;cases c:uC r with
  |none=>rw[rY c] at h;cases h
  |some z=>
   obtain⟨a,f⟩:=z;have:=Np c;by_cases e:QR f=6
   ·rw[pD c e] at h;cases d:xJ n f.tail with
    |none=>rw[d] at h;simp at h
    |some z=>
     rw[d] at h;simp at h;have:=g d;obtain⟨rfl,rfl⟩:=h;simp[RZ] at this ⊢;omega
   ·rw[pG c e] at h;simp at h;obtain⟨rfl,rfl⟩:=h;simp[RZ];omega
theorem Hu{n:Nat}{c:zd}(h:vh n r=some (c,r2)):Sq c+r2.length<=r.length:=by
 unfold vh at h;split at h
 ·cases h
 ·rename_i a g e;have:=i8 e;split at h
  ·split at h
   ·cases h
   ·rename_i b f d;have:=GC d;split at h<;>simp at h
    obtain⟨rfl,rfl⟩:=h;simp[Sq] at this ⊢;omega
  ·split at h<;>simp at h
   obtain⟨rfl,rfl⟩:=h;simp[Sq,RZ];omega
theorem sC{d:Nat}:∀{m:Nat} {r:List QA} {cs:List zd},yI d m r=some cs->RY cs<=r.length
 |_,[],cs,h=>by simp[yI] at h;subst h;simp[RY]
 |0,_::_,cs,h=>by simp[yI] at h
 |m+1,x::r,cs,h=>by
  cases a:vh d (x::r) with
  |none=>rw[wm (by simp) a] at h;cases h
  |some z=>
   obtain⟨c,r2⟩:=z;rw[rU (by simp) a] at h;cases b:yI d m r2 with
   |none=>rw[b] at h;simp at h
   |some f=>
    rw[b] at h;simp at h;subst h;have e:=Hu a;have g:=sC b;simp only[RY,List.foldr_cons,xd] at e g ⊢;omega
theorem rj(b:List zj):yU b+b.length=RZ b:=by
 induction b with
 |nil=>rfl
 |cons a b c=>simp[yU,RZ,kA] at c ⊢;omega
theorem eb{cs:List zd}{c:zd}(h:c∈cs):Sq c<=RY cs:=by
 induction cs with
 |nil=>cases h
 |cons a cs b=>
  rcases zx.1 h with rfl|h
  ·simp[RY]
  ·have:=b h;simp[RY] at this ⊢;omega
theorem iY(cs:List zd):(cs.flatMap zk).length<=RY cs:=by
 induction cs with
 |nil=>simp
 |cons a cs b=>have:=rj a.body;simp[RY,Sq,zk,kA] at b ⊢;omega
theorem i6(cs:List zd):cs.length<=RY cs:=by
 induction cs with
 |nil=>simp
 |cons a cs b=>simp[RY,Sq,kA] at b ⊢;omega
theorem i3{cs:List zd}(h:RY cs<=1000):∀c∈cs,vR c:=fun c a=>by
 have b:=eb a;have d:=rj c.body;unfold Sq kA at b;exact⟨by omega,by omega⟩
theorem ic:∀(n:Nat) (s:ByteArray) (i:Nat) (l:List (Int×ByteArray)),QI n s i=some l->l.length<=s.size-i
 |0,_,_,l,h=>by simp[QI] at h;subst h;simp
 |n+1,s,i,l,h=>by
  unfold QI at h;split at h
  ·rename_i d;split at h
   ·have:=ic n s (i+1) l h;omega
   ·split at h
    ·cases h
    ·rename_i b;split at h
     ·cases h
     ·cases a:QI n s (yi s i (xa (QE s i) (QE s (i+1)))) with
      |none=>rw[a] at h;simp at h
      |some c=>
       rw[a] at h;simp at h;subst h;have:=ic n s _ c a;have:=rP s i _ d rfl b;simp;omega
  ·simp at h;subst h;simp
theorem sY{s:ByteArray}{l:List QA}(h:QG s=some l):l.length<=s.size:=by have:=ic _ s 0 l h;omega
def xQ(s:ByteArray):Except Int (List zd×List zh):=
 if 500<s.size then .error 1 else
 match QG s with
 |none=>.error 2
 |some l=>
  match yI l.length l.length l with
  |none=>.error 3
  |some a=>
   if a.any yE then .error 4 else
   match ui a with
   |none=>.error 5
   |some t=>
    if a.all xo then
     if (xH (t.length+1) t a).2 then .ok (a,(xH (t.length+1) t a).1) else .error 7
    else .error 6
def lN(o:Except Int (List zd×List zh))(w:World)(e:Ending)(w':World):Prop:=
 μ w w'/\match o with
  |.error n=>e=ε (.tuple #[.pointer none,ι n])
  |.ok (c,t)=>∃a v b,e=ε (.tuple #[(π a),ι 0])/\Q6 w' a #[v,b] 131/\Rh w.heap.size 171 w' v c/\w'.ownsRow w.heap.size 221 3 b t.length (xW t)/\w.heap.size<=a
theorem M3(s:ByteArray)(w:World)(hs:s.size<=500)(h:QG s=none):Calls prog 59 #[.string s] w fun e a=>e=ε (.tuple #[ν,.bool false])/\μ w a:=by
 refine(C6 s w hs).mono ?_;rintro e a ⟨c,b⟩;rw[h] at b;exact⟨b,c⟩
theorem pP(s:ByteArray)(w:World)(l:List QA)(hs:s.size<=500)(h:QG s=some l):Calls prog 59 #[.string s] w fun e d=>∃v,e=ε (.tuple #[v,.bool true])/\d.ownsRow w.heap.size 182 2 v l.length (jP l)/\l.length<=500/\μ w d:=by
 refine(C6 s w hs).mono ?_;rintro e d ⟨g,f⟩;rw[h] at f;obtain⟨v,a,b,c⟩:=f;exact⟨v,a,b,by omega,g⟩
theorem OK(w:World)(b:Value)(l:List QA)(a:Nat)(f:w.ownsRow a 182 2 b l.length (jP l))(g:l.length<=500)(h:yI l.length l.length l=none):
  Calls prog 60 #[b] w fun e c=>e=ε (.tuple #[ν,.bool false])/\μ w c:=by
 refine(RF w b l a f g).mono ?_;rintro e c ⟨i,d⟩;rw[h] at d;exact⟨d,i⟩
theorem rp(w:World)(f:Value)(l:List QA)(c:Nat)(cs:List zd)(i:w.ownsRow c 182 2 f l.length (jP l))(j:l.length<=500)(h:yI l.length l.length l=some cs):
  Calls prog 60 #[f] w fun e d=>∃v,e=ε (.tuple #[v,.bool true])/\Rh w.heap.size 171 d v cs/\μ w d:=by
 refine(RF w f l c i j).mono ?_;rintro e d ⟨k,g⟩;rw[h] at g;obtain⟨v,a,b⟩:=g;exact⟨v,a,b,k⟩
theorem J5(w:World)(v:Value)(cs:List zd)(a:Rh lo 171 w v cs)(d:(cs.flatMap zk).length<=1000)(h:ui cs=none):
  Calls prog 62 #[v] w fun e b=>e=ε (.tuple #[.agg #[ν],.bool false])/\μ w b:=by
 refine(Av w v cs a d).mono ?_;rintro e b ⟨f,c⟩;rw[h] at c;exact⟨c,f⟩
theorem eN(w:World)(v:Value)(cs:List zd)(t:List zh)(d:Rh lo 171 w v cs)(i:(cs.flatMap zk).length<=1000)(h:ui cs=some t):
  Calls prog 62 #[v] w fun e c=>∃g,e=ε (.tuple #[.agg #[g],.bool true])/\c.ownsRow w.heap.size 221 3 g t.length (xW t)/\μ w c:=by
 refine(Av w v cs d i).mono ?_;rintro e c ⟨j,f⟩;rw[h] at f;obtain⟨v,a,b⟩:=f;exact⟨v,a,b,j⟩
theorem Ki(s:ByteArray)(w:World)(hs:500<s.size)(b:s.size<=9223372036854775807):
  Calls prog 32 #[.string s] w fun e a=>lN (.error 1) w e a:=by
 go_enter func32,ntmps32;go_wp2;go_ret2
 exact⟨zo _ _,rfl⟩
theorem Jn(s:ByteArray)(w:World)(hs:s.size<=500)(b:QG s=none):
  Calls prog 32 #[.string s] w fun e d=>lN (.error 2) w e d:=by
 have c:=Q5 b;clear b;go_enter func32,ntmps32;go_wp2_with (go_at_call 59;refine(M3 s _ hs c).mono ?_;rintro e f ⟨rfl,a⟩)
 go_ret2
 exact⟨a,rfl⟩
theorem LS(s:ByteArray)(w:World)(hs:s.size<=500)(l:List QA)(g:QG s=some l)(h:yI l.length l.length l=none):
  Calls prog 32 #[.string s] w fun e m=>lN (.error 3) w e m:=by
 have k:=Q5 g;have n:=Q5 h;clear g h;go_enter func32,ntmps32;go_wp2_with (first|(go_at_call 59;refine(pP s _ l hs k).mono ?_;rintro e o ⟨p,rfl,a,f,c⟩;obtain⟨j,i,rfl⟩:=zp a)|(go_at_call 60;refine(OK _ _ l _ a f n).mono ?_;rintro e q ⟨rfl,b⟩;have d:=Q9 c b))
 go_ret2
 exact⟨d,rfl⟩
theorem Po(s:ByteArray)(w:World)(hs:s.size<=500)(l:List QA)(cs:List zd)(E:cs.any yE=true)(u:QG s=some l)(x:yI l.length l.length l=some cs)(m:∀c∈cs,vR c)(f:cs.length<=1000):
  Calls prog 32 #[.string s] w fun e A=>lN (.error 4) w e A:=by
 have v:=Q5 u;have z:=Q5 x;have n:=Q5 m;have g:=Q5 f;go_enter func32,ntmps32;go_wp2_with (first|(go_at_call 59;refine(pP s _ l hs v).mono ?_;rintro e G ⟨C,rfl,b,i,k⟩;obtain⟨y,q,rfl⟩:=zp b)|(go_at_call 60;refine(rp _ _ l _ cs b i z).mono ?_;rintro e F ⟨D,rfl,a,j⟩;obtain⟨B,t,rfl⟩:=a.qx;have o:=Q9 k j)|(go_at_call 61;refine(rn _ _ cs a n.out g.out).mono ?_;rintro e H ⟨rfl,d⟩;have h:=Q9 o d;have p:=a.below d))
 go_ret2
 exact⟨h,rfl⟩
theorem LK(s:ByteArray)(w:World)(hs:s.size<=500)(l:List QA)(cs:List zd)(K:cs.any yE=false)(A:QG s=some l)(C:yI l.length l.length l=some cs)(t:∀c∈cs,vR c)(i:cs.length<=1000)(f:(cs.flatMap zk).length<=1000)(D:ui cs=none):
  Calls prog 32 #[.string s] w fun e H=>lN (.error 5) w e H:=by
 have B:=Q5 A;have F:=Q5 C;have u:=Q5 t;have j:=Q5 i;have d:=Q5 f;have z:=Q5 D;go_enter func32,ntmps32;go_wp2_with (first|(go_at_call 59;refine(pP s _ l hs B).mono ?_;rintro e N ⟨J,rfl,b,n,p⟩;obtain⟨E,x,rfl⟩:=zp b)|(go_at_call 60;refine(rp _ _ l _ cs b n F).mono ?_;rintro e M ⟨L,rfl,a,o⟩;obtain⟨I,y,rfl⟩:=a.qx;have v:=Q9 p o)|(go_at_call 61;refine(rn _ _ cs a u.out j.out).mono ?_;rintro e P ⟨rfl,h⟩;have k:=Q9 v h;have g:=a.below h)|(go_at_call 62;refine(J5 _ _ cs g d.out z).mono ?_;rintro e O ⟨rfl,m⟩;have q:=Q9 k m;have G:=q.size))
 go_ret2
 exact⟨(by go_grown),rfl⟩
theorem PA(s:ByteArray)(w:World)(hs:s.size<=500)(l:List QA)(cs:List zd)(t:List zh)(V:cs.any yE=false)(Q:cs.all xo=false)(K:QG s=some l)(M:yI l.length l.length l=some cs)(A:∀c∈cs,vR c)(o:cs.length<=1000)(i:(cs.flatMap zk).length<=1000)(N:ui cs=some t):
  Calls prog 32 #[.string s] w fun e S=>lN (.error 6) w e S:=by
 have L:=Q5 K;have P:=Q5 M;have q:=Q5 A;have f:=Q5 o;have h:=Q5 i;have J:=Q5 N;go_enter func32,ntmps32;go_wp2_with (first|(go_at_call 59;refine(pP s _ l hs L).mono ?_;rintro e w1 ⟨U,rfl,d,v,z⟩;obtain⟨O,G,rfl⟩:=zp d)|(go_at_call 60;refine(rp _ _ l _ cs d v P).mono ?_;rintro e Y ⟨W,rfl,a,x⟩;obtain⟨T,H,rfl⟩:=a.qx;have E:=Q9 z x)|(go_at_call 61;refine(rn _ _ cs a q.out f.out).mono ?_;rintro e w3 ⟨rfl,k⟩;have u:=Q9 E k;have b:=a.below k)|(go_at_call 62;refine(eN _ _ cs t b h.out J).mono ?_;rintro e I ⟨Z,rfl,B,m⟩;obtain⟨C,j,rfl⟩:=zp B;have p:=Q9 u m;have R:=p.size;have g:=b.below m)|(go_at_call 63;refine(eU _ _ cs (by exact g.below (by go_grown)) q.out f.out).mono ?_;rintro e X ⟨rfl,D⟩;have y:=(zo I.heap.size I).alloc (zg _) (.cells #[.slice C t.length j] 127);have n:=Q9 y D;have F:=Q9 p n))
 go_ret2
 exact⟨F,rfl⟩
theorem Pt(s:ByteArray)(w:World)(hs:s.size<=500)(l:List QA)(cs:List zd)(t:List zh)(hm:cs.any yE=false)(ab:cs.all xo=true)(ad:(xH (t.length+1) t cs).2=false)(V:QG s=some l)(Y:yI l.length l.length l=some cs)(K:∀c∈cs,vR c)(u:cs.length<=1000)(m:(cs.flatMap zk).length<=1000)(Z:ui cs=some t)(L:t.length<=1000)(D:∀e∈t,e.qh<=0):
  Calls prog 32 #[.string s] w fun e w'=>lN (.error 7) w e w':=by
 have X:=Q5 V;have HP:=Q5 Y;have n:=Q5 K;have f:=Q5 u;have j:=Q5 m;have U:=Q5 Z;have J:=Q5 L;have O:=Q5 D;go_enter func32,ntmps32;go_wp2_with (first|(go_at_call 59;refine(pP s _ l hs X).mono ?_;rintro e w1 ⟨fv,rfl,h,F,I⟩;obtain⟨aa,R,rfl⟩:=zp h)|(go_at_call 60;refine(rp _ _ l _ cs h F HP).mono ?_;rintro e w2 ⟨cv,rfl,d,G⟩;obtain⟨ag,S,rfl⟩:=d.qx;have N:=Q9 I G)|(go_at_call 61;refine(rn _ _ cs d n.out f.out).mono ?_;rintro e T ⟨rfl,p⟩;have q:=Q9 N p;have a:=d.below p)|(go_at_call 62;refine(eN _ _ cs t a j.out U).mono ?_;rintro e A ⟨pv,rfl,x,k⟩;obtain⟨M,o,rfl⟩:=zp x;have v:=Q9 q k;have ac:=v.size;have i:=a.below k)|(go_at_call 63;refine(eU _ _ cs (by exact i.below (by go_grown)) n.out f.out).mono ?_;rintro e w5 ⟨rfl,z⟩;have H:=(zo A.heap.size A).alloc (zg _) (.cells #[.slice M t.length o] 127);have b:=Q9 H z;have P:=Q9 v b)|(go_at_call 64;refine(A4 T.heap.size _ A.heap.size t _ cs T rfl (Q9 k b) a n.out f.out ⟨_,(Q6.new A _ _).below z,zB x b⟩ J.out O.out).mono ?_;rintro e w6 ⟨rfl,y,E⟩;obtain⟨ae,Q,g,B⟩:=y.view;obtain⟨af,W⟩:=g.rules;have C:=P.trans (E.mono (yc q.size (zg _)));have ah:=g.lt))
 go_ret2
 exact⟨C,rfl⟩
theorem GT(s:ByteArray)(w:World)(hs:s.size<=500)(l:List QA)(cs:List zd)(t:List zh)(hm:cs.any yE=false)(ab:cs.all xo=true)(ad:(xH (t.length+1) t cs).2=true)(X:QG s=some l)(hP:yI l.length l.length l=some cs)(M:∀c∈cs,vR c)(y:cs.length<=1000)(o:(cs.flatMap zk).length<=1000)(hC:ui cs=some t)(N:t.length<=1000)(H:∀e∈t,e.qh<=0):
  Calls prog 32 #[.string s] w fun e w'=>lN (.ok (cs,(xH (t.length+1) t cs).1)) w e w':=by
 have Z:=Q5 X;have HP:=Q5 hP;have q:=Q5 M;have f:=Q5 y;have m:=Q5 o;have W:=Q5 hC;have L:=Q5 N;have Q:=Q5 H;go_enter func32,ntmps32;go_wp2_with (first|(go_at_call 59;refine(pP s _ l hs Z).mono ?_;rintro e w1 ⟨fv,rfl,i,I,z⟩;obtain⟨aa,T,rfl⟩:=zp i)|(go_at_call 60;refine(rp _ _ l _ cs i I HP).mono ?_;rintro e w2 ⟨cv,rfl,d,J⟩;obtain⟨ag,U,rfl⟩:=d.qx;have P:=Q9 z J)|(go_at_call 61;refine(rn _ _ cs d q.out f.out).mono ?_;rintro e V ⟨rfl,v⟩;have n:=Q9 P v;have a:=d.below v)|(go_at_call 62;refine(eN _ _ cs t a m.out W).mono ?_;rintro e F ⟨pv,rfl,B,g⟩;obtain⟨O,u,rfl⟩:=zp B;have A:=Q9 n g;have ac:=A.size;have j:=a.below g)|(go_at_call 63;refine(eU _ _ cs (by exact j.below (by go_grown)) q.out f.out).mono ?_;rintro e w5 ⟨rfl,D⟩;have K:=(zo F.heap.size F).alloc (zg _) (.cells #[.slice O t.length u] 127);have b:=Q9 K D;have R:=Q9 A b)|(go_at_call 64;refine(A4 V.heap.size _ F.heap.size t _ cs V rfl (Q9 g b) a q.out f.out ⟨_,(Q6.new F _ _).below D,zB B b⟩ L.out Q.out).mono ?_;rintro e w6 ⟨rfl,C,x⟩;obtain⟨ae,S,h,k⟩:=C.view;obtain⟨af,Y⟩:=h.rules;have G:=R.trans (x.mono (yc n.size (zg _)));have ah:=h.lt))
 have E:=G.size;have p:=a.below ((Q9 g b).trans x);go_ret2
 exact⟨(by go_grown),w6.heap.size,_,_,rfl,Q6.new _ _ _,(p.low z.size).below zT,yr (zB k zT) n.size,E⟩
theorem BD(s:ByteArray)(w:World)(q:s.size<=9223372036854775807):
  Calls prog 32 #[.string s] w fun e v=>lN (xQ s) w e v:=by
 unfold xQ;split
 ·rename_i u;exact Ki s w u q
 ·rename_i u;have c:s.size<=500:=by omega
  split
  ·rename_i g;exact Jn s w c g
  ·rename_i l g;split
   ·rename_i j;exact LS s w c l g j
   ·rename_i d j;have x:l.length<=500:=by
     have:=sY g;omega
    have y:=sC j;have f:=i3 (cs:=d) (by omega);have b:d.length<=1000:=by have:=i6 d;omega
    have a:(d.flatMap zk).length<=1000:=by have:=iY d;omega
    split
    ·rename_i p;exact Po s w c l d p g j f b
    ·rename_i p;have i:d.any yE=false:=by simpa using p
     split
     ·rename_i k;exact LK s w c l d i g j f b a k
     ·rename_i t k;have o:t.length<=1000:=by have:=sw _ _ _ k;simp only[dD] at this;omega
      have n:=wn _ [] (by simp) t k;split
      ·rename_i h;split
       ·rename_i m;exact GT s w c l d t i h m g j f b a k o n
       ·rename_i m;exact Pt s w c l d t i h (by simpa using m) g j f b a k o n
      ·rename_i h;exact PA s w c l d t i (by simpa using h) g j f b a k
end
section
open Go.RowKit
variable {lo:Nat}
def km(lo:Nat)(w:World)(pb:Nat)(cs:List zd)(t:List zh):Prop:=lo<=pb/\∃v a,Q6 w pb #[v,a] 131/\Rh lo 171 w v cs/\w.ownsRow lo 221 3 a t.length (xW t)
theorem km.below{w w':World}{pb:Nat}{cs:List zd}{t:List zh}(h:km lo w pb cs t)(a:μ w w'):km lo w' pb cs t:=by
 obtain⟨d,v,f,b,e,c⟩:=h;exact⟨d,v,f,b.below a,e.below a,zB c a⟩
end
section
open Go.RowKit
variable {lo:Nat}{w:World}{base cap:Nat}{ys:List (Value×Value×Value)}
def pM(t:Value×Value×Value):List Value:=[t.1,t.2.1,t.2.2]
def QT(ys:List (Value×Value×Value)):List Value:=ys.flatMap pM
theorem rg(ys:List (Value×Value×Value)):(QT ys).length=ys.length*3:=by
 induction ys with
 |nil=>rfl
 |cons a l b=>simp[QT,pM] at b ⊢;omega
theorem iy:∀(ys:List (Value×Value×Value)) (k:Nat) (_:k<ys.length) (a b c:Value),(((QT ys).set (k*3) a).set (k*3+1) b).set (k*3+2) c=QT (ys.set k (a,b,c))
 |[],k,d,_,_,_=>by simp at d
 |y::r,0,_,a,b,c=>by simp[QT,pM]
 |y::r,k+1,d,a,b,c=>by
  have:=iy r k (by simpa using d) a b c;simp only[QT,uw,mL,pM] at this ⊢;rw[show(k+1)*3=k*3+1+1+1 from by omega,show k*3+1+1+1+1=k*3+1+1+1+1 from rfl,show k*3+1+1+1+2=k*3+2+1+1+1 from by omega];simpa using this
theorem sM:∀(ys:List (Value×Value×Value)) (k:Nat) (a:k<ys.length),(QT ys)[k*3]?=some ys[k].1/\(QT ys)[k*3+1]?=some ys[k].2.1/\(QT ys)[k*3+2]?=some ys[k].2.2
 |[],k,a=>by simp at a
 |y::r,0,_=>by simp[QT,pM]
 |y::r,k+1,a=>by
  have:=sM r k (by simpa using a);simp only[QT,uw,pM] at this ⊢;rw[show(k+1)*3=k*3+1+1+1 from by omega,show k*3+1+1+1+1=k*3+1+1+1+1 from rfl,show k*3+1+1+1+2=k*3+2+1+1+1 from by omega];simpa using this
theorem Ht(c b a:Value):∀(n i:Nat),i<n*3->(madeCells #[c,b,a] (n*3))[i]?=(QT (List.replicate n (c,b,a)))[i]?:=by
 intro n i h;obtain⟨k,j,g,rfl⟩:∃k j,j<3/\i=k*3+j:=⟨i / 3,i%3,Nat.mod_lt _ (by decide),by omega⟩;have o:k<n:=by omega
 obtain⟨e,d,f⟩:=sM (List.replicate n (c,b,a)) k (by simpa using o);simp only[tU] at e d f;have l:(k*3+j)%3=j:=by omega
 simp only[madeCells,Array.getElem?_map,Array.getElem?_range];rw[zc h];simp only[jy];have m:(#[c,b,a]:Array Value).size=3:=rfl;rw[m,l];match j,g with
 |0,_=>rw[uV,e];rfl
 |1,_=>rw[d];rfl
 |2,_=>rw[f];rfl
theorem Ms(w:World)(n:Nat)(T:TypeId)(d c a:Value)(e:n<=maxLen):(w.alloc (.cells (madeCells #[d,c,a] (n*3)) T)).ownsRow w.heap.size T 3 (.slice (some ⟨w.heap.size,0,none⟩) n n) n (QT (List.replicate n (d,c,a))):=by
 refine⟨by rw[rg];simp,zb ⟨w.heap.size,n,madeCells #[d,c,a] (n*3),rfl,zg _,?_,zg _,e,by rw[size_madeCells],?_⟩⟩
 ·show(w.heap.push _)[w.heap.size]?=_;simp
 ·apply mG;intro i;by_cases b:i<n*3
  ·rw[lJ,zc b,Array.getElem?_toList,Ht _ _ _ n i b]
  ·rw[lJ,za b,kF (by rw[rg];simp;omega)]
theorem J1{e:TypeId}{g n m:Nat}(h:w.ownsRow base e 3 (.slice (some ⟨g,0,none⟩) n cap) m (QT ys))(k:Nat)(j:k<ys.length)(a b c:Value):
  (((w.setCell ⟨g,k*3,none⟩ a).setCell ⟨g,k*3+1,none⟩ b).setCell ⟨g,k*3+2,none⟩ c).ownsRow base e 3 (.slice (some ⟨g,0,none⟩) n cap) m (QT (ys.set k (a,b,c))):=by
 have l:=rg ys;have f:=uZ h (k*3) (by omega) a;have i:=uZ f (k*3+1) (by simp;omega) b;have d:=uZ i (k*3+2) (by simp;omega) c;rw[iy ys k j] at d;exact d
theorem oY{e:TypeId}{g n m:Nat}(h:w.ownsRow base e 3 (.slice (some ⟨g,0,none⟩) n cap) m (QT ys))(k:Nat)(l:k<ys.length):
  g<w.heap.size/\w.cell? ⟨g,k*3,none⟩=some ys[k].1/\w.cell? ⟨g,k*3+1,none⟩=some ys[k].2.1/\w.cell? ⟨g,k*3+2,none⟩=some ys[k].2.2:=by
 have d:0<m:=by have:=h.1;rw[rg] at this;omega
 obtain⟨p,c,b,_,f,a⟩:=yv h d;simp at b;obtain⟨rfl,_⟩:=b;obtain⟨j,i,o⟩:=sM ys k l;exact⟨f,a _ _ j,a _ _ i,a _ _ o⟩
theorem OD{e:TypeId}{b g n m:Nat}{xs:List Value}(h:w.ownsRow base e b (.slice (some ⟨g,0,none⟩) n cap) m xs):∃a,w.heap[g]?=some (.cells a e (0,0)):=by
 obtain⟨_,⟨c,_⟩|⟨i,d,a,c,_,f,_⟩⟩:=h
 ·cases c
 ·simp at c;obtain⟨rfl,_⟩:=c;exact⟨a,f⟩
end
section
open Go.Proofs.Tryz Go.RowKit
variable {lo:Nat}{M:List Nat}{w w':World}{b base n:Nat}{c:Array Value}{v:Value}{xs xs1:List Value}
structure ze (M:List Nat) (w w':World):Prop where
 os:w'.os=w.os
 tape:w'.tape=w.tape
 output:w'.output=w.output
 size:w.heap.size<=w'.heap.size
 block:∀k,k<w.heap.size->k∉M->w'.heap[k]?=w.heap[k]?
theorem ze.refl(M:List Nat)(w:World):ze M w w:=⟨rfl,rfl,rfl,zg _,fun _ _ _=>rfl⟩
theorem ze.of(h:μ w w'):ze M w w':=⟨h.os,h.tape,h.output,h.size,fun k a _=>h.block k a⟩
theorem ze.trans{M:List Nat}{a b c:World}(h:ze M a b)(k:ze M b c):ze M a c:=
 ⟨k.os.trans h.os,k.tape.trans h.tape,k.output.trans h.output,yc h.size k.size,fun x e d=>(k.block x (xP e h.size) d).trans (h.block x e d)⟩
theorem ze.more{N:List Nat}(h:ze M w w')(hs:∀x∈M,x∈N):ze N w w':=⟨h.os,h.tape,h.output,h.size,fun k e a=>h.block k e fun d=>a (hs k d)⟩
theorem ze.newer{N:List Nat}{a b c:World}(h:ze M a b)(k:ze N b c)(g:∀x∈N,x∈M∨a.heap.size<=x):ze M a c:=
 ⟨k.os.trans h.os,k.tape.trans h.tape,k.output.trans h.output,yc h.size k.size,fun x f e=>(k.block x (xP f h.size) fun d=>(g x d).elim e fun i=>by omega).trans (h.block x f e)⟩
theorem ze.below{B:Nat}(h:ze M w w')(d:∀x∈M,B<=x)(f:B<=w.heap.size):Below B w w':=
 ⟨h.os,h.tape,h.output,h.size,fun k e=>h.block k (by omega) fun a=>by have:=d k a;omega⟩
theorem yT{e:TypeId}{a:Nat}(h:w.ownsRow base e a v n xs)(hs:ze M w w')(p:∀b,v.ownBlock=some b->b∉M):w'.ownsRow base e a v n xs:=by
 obtain⟨o,f⟩:=h;refine⟨o,?_⟩;rcases f with f|⟨g,d,i,j,m,k,l⟩
 ·exact zf f
 ·refine zb ⟨g,d,i,j,m,?_,l⟩;rw[hs.block g (kQ.1 k).1 (p g (by rw[j];rfl))];exact k
theorem Q6.save{T:TypeId}(h:Q6 w b c T)(hs:ze M w w')(a:b∉M):Q6 w' b c T:=by
 have:=h.lt;unfold Q6 at *;rw[hs.block b this a];exact h
section
variable {P:Program} {ops:Array Oper} {rest:List Oper} {o:Oper} {a:Act} {Q:Exit->Act->World->Prop}
theorem kV(A C:World)(l:List Value)(K:TypeId)(T:o.guard=none)(s x:Operand)(t:TypeId)
  (N:o.op=.call {callee:=.builtin .append,args:=#[s,x],argTypes:=#[t,t]})
  (base:Nat) (e:TypeId) (i:TypeInfo) (z:Value) (d f:Nat) (Z:P.underlying t=some (.slice e)) (S:P.info? e=some i) (hz:i.zero=some z)
  (r:i.size=d) (I:i.bytes=f) (G:z.cells.size=d) (E:0<d)
  (v:Value) (n:Nat) (xs:List Value) (U:a.eval s=v) (D:A.ownsRow base e d v n xs) (m:μ A C)
  (b c:Nat) (hx:a.eval x=.slice (some ⟨b,0,none⟩) 1 c) (X:b=C.heap.size) (hl:l.length=d) (V:∀u∈l,u.oneCell'=true)
  (hn:n<=10000000000) (q:f<=1000) (J:base<=A.heap.size)
  (h:∀B w',w'.ownsRow base e d B (n+1) (xs++l)->ze v.ownBlock.toList A w'->(B.ownBlock=v.ownBlock∨∃g,B.ownBlock=some g/\A.heap.size<=g)->wpList P ops Q rest (a.put o.dst B) w'):
  wpList P ops Q (o::rest) a (C.alloc (.cells l.toArray K)):=by
 have y:=zB D m;have L:=m.size;subst X;refine wpList_append_own_at _ T s x t N base e i z d f Z S hz r I G E v n xs U (y.alloc _) ⟨C.heap.size,0,none⟩ 1 c l hx (by omega) ?_ V ?_ ?_ ?_ ?_
 ·intro j u W;rw[Addr.add_lit,vz,World.cell?_alloc_mark];simpa using W
 ·unfold maxLen;omega
 ·have:(n+1)*f<=10000000001*1000:=Nat.mul_le_mul (by omega) q;omega
 ·simp;omega
 ·intro B w' O p _ H;refine h B w' O ⟨p.os.trans m.os,p.tape.trans m.tape,p.output.trans m.output,?_,fun k R Y=>?_⟩ ?_
  ·have:=p.size;simp at this;omega
  ·rw[p.block k (by simp;omega) (fun e=>Y (by rw[←e];simp))];rw[show(C.alloc (.cells l.toArray K)).heap[k]?=C.heap[k]? from Below.heap_alloc _ _ _ (by omega)];exact m.block k R
  ·rcases H with F|F
   ·exact zf F
   ·exact zb ⟨_,F,by simp;omega⟩
end
theorem xK{e:TypeId}{d:Nat}(h:w.ownsRow base e d v n xs)(f:v.ownBlock=some b):b<w.heap.size:=by
 obtain⟨_,⟨i,_⟩|⟨g,j,l,i,_,k,_⟩⟩:=h
 ·subst i;cases f
 ·subst i;simp only[Value.ownBlock,zt] at f;subst f;exact(kQ.1 k).1
theorem ze.set(w:World)(b o:Nat)(u:Value):ze [b] w (w.setCell ⟨b,o,none⟩ u):=
 ⟨rfl,rfl,rfl,by simp[World.setCell],fun k _ d=>Below.heap_setCell _ _ _ _ (by simp at d;exact d)⟩
theorem yt(h:b∈v.ownBlock.toList):v.ownBlock=some b:=by simpa using h
theorem qB{e T:TypeId}{d:Nat}(h:w.ownsRow base e d v n xs)(g:Q6 w b c T)(i:e≠T):b∉v.ownBlock.toList:=by
 intro f;have:=fF h g i;exact this (by simpa [eq_comm] using f)
def sl(g n:Nat):Value:=.slice (some ⟨g,0,none⟩) n n
theorem sT{x q:Nat}{p l:TypeId}{u z:Nat}{v1 v2:Value}{A r:Nat}{i:List Value}(t:w.ownsRow x p u v1 A xs1)(s:w.ownsRow q l z v2 r i)(B:p≠l)(h:v1.ownBlock=some b):v2.ownBlock≠some b:=by
 intro d;obtain⟨_,⟨j,_⟩|⟨g,C,y,j,_,D,_⟩⟩:=t
 ·subst j;cases h
 ·obtain⟨_,⟨f,_⟩|⟨E,k,m,f,_,e,_⟩⟩:=s
  ·subst f;cases d
  ·subst j;subst f;simp only[Value.ownBlock,zt] at h d;subst h;subst d;rw[D] at e;simp at e;exact B e.2
theorem uy{k:Nat}{e T:TypeId}{j:Nat}{v1:Value}{f:Nat}(g:w.ownsRow k e j v1 f xs1){wb:Nat}(i:Q6 w wb c T)(h:e≠T)(d:v1.ownBlock=some b):b≠wb:=by
 rintro rfl;exact fF g i h d.symm
theorem yW{e:TypeId}{d:Nat}(h:w.ownsRow base e d v n xs)(i:v.ownBlock=some b):base<=b:=by
 obtain⟨_,⟨f,_⟩|⟨g,j,k,f,l,_,_⟩⟩:=h
 ·subst f;cases i
 ·subst f;simp only[Value.ownBlock,zt] at i;omega
theorem Iv{α:Type}{f:α->Nat}{l:List α}(h:(l.map f).Nodup){i j:Nat}(k:i<l.length)(g:j<l.length)(d:i≠j):f l[i]≠f l[j]:=by
 intro e;have:=(List.getElem_inj (h₀:=by simpa using k) (h₁:=by simpa using g) h).1 (by simpa using e);exact d this
theorem Qv:(prog.info? 3).map (fun i=>(i.zero,i.size,i.bytes))=some (some (ι 0),1,8):=by kernel_rfl
def Rj(s:Nat):Value:=ι (s:Int)
theorem DC(w:World)(n:Nat)(T:TypeId)(e:n<=maxLen):(w.alloc (.cells (madeCells #[ι 0] n) T)).ownsRow w.heap.size T 1 (.slice (some ⟨w.heap.size,0,none⟩) n n) n ((List.replicate n 0).map Rj):=by
 refine⟨by simp,zb ⟨w.heap.size,n,madeCells #[ι 0] n,rfl,zg _,?_,zg _,e,by rw[size_madeCells];omega,?_⟩⟩
 ·show(w.heap.push _)[w.heap.size]?=_;simp
 ·apply mG;intro i;by_cases d:i<n
  ·simp[d,madeCells,Rj,Nat.mod_one]
  ·simp[List.getElem?_take,d]
end
section
open Go.Proofs.Tryz Go.RowKit
variable {lo:Nat}
def Rm(ns:κ)(x:ByteArray):Nat->Nat->Nat->Nat
 |0,l,_=>l
 |n+1,l,h=>if l<h then(if QY (ns.getD (l+(h-l) / 2) ByteArray.empty) x then Rm ns x n (l+(h-l) / 2+1) h else Rm ns x n l (l+(h-l) / 2)) else l
def uN(ns:κ)(x:ByteArray):Nat:=Rm ns x (ns.length+1) 0 ns.length
def lR(lo:Nat)(w:World)(a:Nat)(ns:κ):Prop:=lo<=a/\∃v,Q6 w a #[v] 141/\QD lo w v ns
theorem lR.below{w w':World}{b:Nat}{ns:κ}(h:lR lo w b ns)(a:μ w w'):lR lo w' b ns:=by
 obtain⟨c,v,e,d⟩:=h;exact⟨c,v,e.below a,d.below a⟩
theorem Bb(w:World)(z:Nat)(ns:κ)(x:ByteArray)(h:lR lo w z ns)(M:ns.length<=1000):
  Calls prog 168 #[(π z),.string x] w fun e H=>e=ε (ι (uN ns x:Nat))/\∃m,H=w.drewN m:=by
 obtain⟨_,v,b,t⟩:=h;obtain⟨O,K,rfl⟩:=t.qx;obtain⟨A,C⟩:=b.rules;go_enter func168,ntmps168;go_wp2;go_quiet (fail)
 have y:μ w (w.drewN nq):=zJ (zo _ _) _;have d:=b.below y;have s:=t.below y;have r:Hid (∃m,w.drewN nq=w.drewN m):=⟨nq,rfl⟩;generalize w.drewN nq=J at *;obtain⟨A,C⟩:=d.rules;go_wp2;go_loopg [5,6] (ns.length+1) (fun k E B wr=>∃l h:Nat,E=ι l/\B=ι h/\h<=ns.length/\l<=ns.length/\h-l<k/\Hid (uN ns x=Rm ns x k l h)/\wr=J)
 case atStart=>exact⟨0,ns.length,rfl,rfl,by omega,by omega,by omega,rfl,rfl⟩
 case round=>
  obtain⟨l,h,rfl,rfl,L,o,I,u,rfl⟩:=hrel;cases gk with
  |zero=>omega
  |succ m=>
   by_cases i:l<h
   ·obtain⟨a,j⟩:∃a,a=l+(h-l) / 2:=⟨_,rfl⟩;have G:l<=a:=by omega
    have F:a<h:=by omega
    have D:(l:Int)+((h:Int)-(l:Int)).tdiv 2=(a:Int):=by
     rw[Int.tdiv_eq_ediv_of_nonneg (by omega)];omega
    have f:a<ns.length:=by omega
    have q:=u.out;unfold Rm at q;rw[zc i,←j,show ns.getD a ByteArray.empty=ns[a] from by simp[List.getD_eq_getElem?_getD,f]] at q;obtain⟨g,rfl,N,p⟩:=s.cell a f;clear j;cases n:QY ns[a] x with
    |true=>
     rw[n,zc rfl] at q;have c:=Q5 q;unfold QY at n;go_wp2;go_roundg m
     case measure=>omega
     case rel=>exact⟨a+1,h,by go_num,rfl,L,by omega,by omega,c,rfl⟩
    |false=>
     rw[n,za (by simp)] at q;have c:=Q5 q;unfold QY at n;go_wp2;go_roundg m
     case measure=>omega
     case rel=>exact⟨l,a,rfl,rfl,by omega,o,by omega,c,rfl⟩
   ·have q:=u.out;unfold Rm at q;rw[za i] at q;have c:=Q5 q;go_wp2;go_ret;exact⟨by rw[c.out];rfl,r.out⟩
def um(ns:κ)(x:ByteArray):Option Nat:=if uN ns x<ns.length/\ns.getD (uN ns x) ByteArray.empty=x then some (uN ns x) else none
theorem OR(w:World)(t:Nat)(ns:κ)(x:ByteArray)(h:lR lo w t ns)(A:ns.length<=1000):
  Calls prog 129 #[(π t),.string x] w fun e l=>e=ε (.tuple #[ι (((um ns x).getD 0:Nat):Int),.bool (um ns x).isSome])/\∃m,l=w.drewN m:=by
 have s:=Q5 (Bb w t ns x h A);obtain⟨_,v,d,o⟩:=h;obtain⟨F,E,rfl⟩:=o.qx;have f:Hid (um ns x=if uN ns x<ns.length/\ns.getD (uN ns x) ByteArray.empty=x then some (uN ns x) else none):=rfl;generalize uN ns x=c at *;by_cases j:c<ns.length
 ·have D:ns.getD c ByteArray.empty=ns[c]:=by simp[List.getD_eq_getElem?_getD,j]
  rw[D] at f;by_cases n:ns[c]=x
  ·rw[zc ⟨j,n⟩] at f;obtain⟨g,rfl,i,b⟩:=o.cell c j;go_enter func129,ntmps129;go_wp2_with (go_at_call 168;refine s.out.mono ?_;rintro r l ⟨rfl,m,rfl⟩;have a:=d.below (zJ (zo _ _) m);obtain⟨y,z,k⟩:=a.boxed;have B:=((zJ (zo w.heap.size w) m).cell (p:=⟨g,c,none⟩) i).trans b;have u:g<(w.drewN m).heap.size:=i)
   go_ret2
   exact⟨by rw[f.out];rfl,m,rfl⟩
  ·rw[za (fun q=>n q.2)] at f;obtain⟨g,rfl,i,b⟩:=o.cell c j;have C:=jz n;go_enter func129,ntmps129;go_wp2_with (go_at_call 168;refine s.out.mono ?_;rintro r l ⟨rfl,m,rfl⟩;have a:=d.below (zJ (zo _ _) m);obtain⟨y,z,k⟩:=a.boxed;have B:=((zJ (zo w.heap.size w) m).cell (p:=⟨g,c,none⟩) i).trans b;have u:g<(w.drewN m).heap.size:=i)
   go_ret2
   exact⟨by rw[f.out];rfl,m,rfl⟩
 ·rw[za (fun q=>j q.1)] at f;go_enter func129,ntmps129;go_wp2_with (go_at_call 168;refine s.out.mono ?_;rintro r l ⟨rfl,m,rfl⟩;have a:=d.below (zJ (zo _ _) m);obtain⟨y,z,k⟩:=a.boxed)
  go_ret2
  exact⟨by rw[f.out];rfl,m,rfl⟩
theorem Nl(w:World)(c:Nat)(ns:κ)(h:lR lo w c ns):
  Calls prog 114 #[(π c)] w fun e f=>e=ε (ι ns.length)/\f=w:=by
 obtain⟨_,v,a,b⟩:=h;obtain⟨k,d,rfl⟩:=b.qx;obtain⟨i,j,g⟩:=a.boxed;clear b;go_enter func114,ntmps114;go_wp2;go_ret;exact⟨rfl,rfl⟩
end
section
open Go.Proofs.Tryz Go.RowKit
variable {lo:Nat}{w:World}{tb:Nat}{T:zi}{nv:Value}{ns:List (Nat×Nat)}
def fH(wd:Nat)(ns:List (Nat×Nat)):List Value:=ns.flatMap fun x=>[sl x.1 wd,sl x.2 wd]
theorem iZ(wd:Nat):∀(ns:List (Nat×Nat)) (k:Nat) (a:k<ns.length),(fH wd ns)[k*2]?=some (sl ns[k].1 wd)/\(fH wd ns)[k*2+1]?=some (sl ns[k].2 wd)
 |[],k,a=>by simp at a
 |p::r,0,_=>by simp[fH]
 |p::r,k+1,a=>by
  have:=iZ wd r k (by simpa using a);simp only[fH,uw] at this ⊢;rw[show(k+1)*2=k*2+1+1 from by omega,show k*2+1+1+1=k*2+1+1+1 from rfl];simpa using this
def QW(ns:List (Nat×Nat)):List Nat:=ns.flatMap fun x=>[x.1,x.2]
structure vd (lo:Nat) (w:World) (tb:Nat) (T:zi) (nv:Value) (ns:List (Nat×Nat)):Prop where
 low:lo<=tb
 box:Q6 w tb #[ι T.qf,ι T.ql,nv,ι T.count] 229
 qi:w.ownsRow lo 273 2 nv T.qi.length (fH T.qf ns)
 len:ns.length=T.qi.length
 leap:∀i (h:i<T.qi.length) (h2:i<ns.length),w.ownsRow lo 3 1 (sl ns[i].1 T.qf) T.qf (T.qi[i].leap.map Rj)
 down:∀i (h:i<T.qi.length) (h2:i<ns.length),w.ownsRow lo 3 1 (sl ns[i].2 T.qf) T.qf (T.qi[i].down.map Rj)
 apart:(QW ns).Nodup
 wide:T.qf<=1000
 many:T.qi.length<=100000000
 deep:T.ql<=3
 few:T.count<=1000000000
def R6(tb:Nat)(nv:Value)(ns:List (Nat×Nat)):List Nat:=tb::(nv.ownBlock.toList++QW ns)
def zY(lo:Nat)(w:World)(tb:Nat)(T:zi)(fp:List Nat):Prop:=∃nv ns,vd lo w tb T nv ns/\fp=R6 tb nv ns
theorem vd.leapLen(h:vd lo w tb T nv ns)(i:Nat)(a:i<T.qi.length):T.qi[i].leap.length=T.qf:=by
 have:=(h.leap i a (by rw[h.len];exact a)).1;simpa using this
theorem vd.downLen(h:vd lo w tb T nv ns)(i:Nat)(a:i<T.qi.length):T.qi[i].down.length=T.qf:=by
 have:=(h.down i a (by rw[h.len];exact a)).1;simpa using this
theorem eT{b:Nat}(h:b∈QW ns):∃i,∃h:i<ns.length,b=ns[i].1∨b=ns[i].2:=by
 simp only[QW,uJ,zx,ff,or_false] at h;obtain⟨x,c,a⟩:=h;obtain⟨i,d,rfl⟩:=qa c;exact⟨i,d,a⟩
theorem sG{i:Nat}(h:i<ns.length):ns[i].1∈QW ns/\ns[i].2∈QW ns:=by
 simp only[QW,uJ,zx,ff,or_false];exact⟨⟨_,zs h,zf rfl⟩,⟨_,zs h,zb rfl⟩⟩
theorem vd.lt{w:World}{tb:Nat}{T:zi}{nv:Value}{ns:List (Nat×Nat)}(h:vd lo w tb T nv ns):∀b∈R6 tb nv ns,lo<=b/\b<w.heap.size:=by
 intro b c;simp only[R6,zx,zI] at c;rcases c with rfl|c|c
 ·exact⟨h.low,h.box.lt⟩
 ·exact⟨yW h.qi (yt c),xK h.qi (yt c)⟩
 ·obtain⟨i,a,rfl|rfl⟩:=eT c
  ·exact⟨yW (h.leap i (by rw[←h.len];exact a) a) rfl,xK (h.leap i (by rw[←h.len];exact a) a) rfl⟩
  ·exact⟨yW (h.down i (by rw[←h.len];exact a) a) rfl,xK (h.down i (by rw[←h.len];exact a) a) rfl⟩
theorem zY.lt{w:World}{tb:Nat}{T:zi}{fp:List Nat}(h:zY lo w tb T fp):∀b∈fp,lo<=b/\b<w.heap.size:=by
 obtain⟨nv,ns,a,rfl⟩:=h;exact a.lt
theorem zY.save{w w':World}{tb:Nat}{T:zi}{fp N:List Nat}(h:zY lo w tb T fp)(hs:ze N w w')(g:∀b∈fp,b∉N):zY lo w' tb T fp:=by
 obtain⟨nv,ns,c,rfl⟩:=h;have e:=g;refine⟨nv,ns,⟨c.low,c.box.save hs (e tb (by simp[R6])),yT c.qi hs fun b d=>e b ?_,c.len,fun i f a=>yT (c.leap i f a) hs fun b d=>e b ?_,fun i f a=>yT (c.down i f a) hs fun b d=>e b ?_,c.apart,c.wide,c.many,c.deep,c.few⟩,rfl⟩
 ·simp[R6,d]
 ·simp only[sl,Value.ownBlock,zt] at d;subst d;simp only[R6,zx,zI];exact zb (zb (sG a).1)
 ·simp only[sl,Value.ownBlock,zt] at d;subst d;simp only[R6,zx,zI];exact zb (zb (sG a).2)
theorem zY.below{w':World}{fp:List Nat}(h:zY lo w tb T fp)(a:μ w w'):zY lo w' tb T fp:=h.save (ze.of (M:=[]) a) (by simp)
def qW(o:Option Nat):Value:=.tuple #[ι ((o.getD 0:Nat):Int),.bool o.isSome]
theorem vd.leapAt(h:vd lo w tb T nv ns)(a f:Nat)(m:a<T.qi.length)(r:f<T.qf):
  ∃c n d,nv=.slice (some ⟨c,0,none⟩) T.qi.length n/\c<w.heap.size/\d<w.heap.size/\(∃s:a<ns.length,d=ns[a].1)/\w.cell? ⟨c,a*2,none⟩=some (.slice (some ⟨d,0,none⟩) T.qf T.qf)/\w.cell? ⟨d,f,none⟩=some (ι ((T.qi[a].leap.getD f 0:Nat):Int)):=by
 have b:a<ns.length:=by rw[h.len];exact m
 obtain⟨c,e,p,_,g,o⟩:=yv h.qi (by omega);obtain⟨d,i,j,_,k,l⟩:=yv (h.leap a m b) (by omega);obtain⟨⟨rfl,_⟩,_,_⟩:=j;have q:=h.leapLen a m;refine⟨c,e,_,p,g,k,⟨b,rfl⟩,o _ _ (iZ T.qf ns a b).1,l f _ ?_⟩;rw[lH,yq (by omega),gs,yq (by omega)];rfl
theorem vd.downAt(h:vd lo w tb T nv ns)(a f:Nat)(m:a<T.qi.length)(r:f<T.qf):
  ∃c n d,nv=.slice (some ⟨c,0,none⟩) T.qi.length n/\c<w.heap.size/\d<w.heap.size/\(∃s:a<ns.length,d=ns[a].2)/\w.cell? ⟨c,a*2+1,none⟩=some (.slice (some ⟨d,0,none⟩) T.qf T.qf)/\w.cell? ⟨d,f,none⟩=some (ι ((T.qi[a].down.getD f 0:Nat):Int)):=by
 have b:a<ns.length:=by rw[h.len];exact m
 obtain⟨c,e,p,_,g,o⟩:=yv h.qi (by omega);obtain⟨d,i,j,_,k,l⟩:=yv (h.down a m b) (by omega);obtain⟨⟨rfl,_⟩,_,_⟩:=j;have q:=h.downLen a m;refine⟨c,e,_,p,g,k,⟨b,rfl⟩,o _ _ (iZ T.qf ns a b).2,l f _ ?_⟩;rw[lH,yq (by omega),gs,yq (by omega)];rfl
theorem r9(w:World)(tb:Nat)(T:zi)(fp:List Nat)(a f:Nat)(h:zY lo w tb T fp):
  Calls prog 167 #[(π tb),ι a,ι f] w fun e p=>e=ε (qW (yz T a f))/\p=w:=by
 obtain⟨nv,ns,d,rfl⟩:=h;obtain⟨s,n⟩:=d.box.rules;by_cases i:a<T.qi.length
 ·by_cases j:f<T.qf
  ·obtain⟨t,c,u,rfl,m,o,_,l,r⟩:=d.leapAt a f i j;have g:yz T a f=if T.qi[a].leap.getD f 0≥T.qf then none else some (T.qi[a].leap.getD f 0):=by
    unfold yz;rw[zc ⟨i,j⟩];simp[List.getD_eq_getElem?_getD,i]
   generalize T.qi[a].leap.getD f 0=v at *;by_cases k:v≥T.qf
   ·rw[zc k] at g;have b:=Q5 g;go_enter func167,ntmps167;go_wp2;go_ret2
    exact⟨by rw[b.out];rfl,rfl⟩
   ·rw[za k] at g;have b:=Q5 g;go_enter func167,ntmps167;go_wp2;go_ret2
    exact⟨by rw[b.out];rfl,rfl⟩
  ·have b:Hid (yz T a f=none):=by unfold yz;rw[Hid,za (by omega)]
   obtain⟨q,c,rfl⟩:=zp d.qi;go_enter func167,ntmps167;go_wp2;go_ret2
   exact⟨by rw[b.out];rfl,rfl⟩
 ·have b:Hid (yz T a f=none):=by unfold yz;rw[Hid,za (by omega)]
  obtain⟨q,c,rfl⟩:=zp d.qi;go_enter func167,ntmps167;go_wp2;go_ret2
  exact⟨by rw[b.out];rfl,rfl⟩
theorem n9(w:World)(tb:Nat)(T:zi)(fp:List Nat)(a f:Nat)(h:zY lo w tb T fp):
  Calls prog 130 #[(π tb),ι a,ι f] w fun e j=>e=ε (qW (zG T a f))/\j=w:=by
 have d:=Q5 (r9 w tb T fp a f h);obtain⟨nv,ns,l,rfl⟩:=h;obtain⟨t,p⟩:=l.box.rules;cases c:yz T a f with
 |none=>
  have i:Hid (zG T a f=none):=by unfold zG;rw[Hid,c]
  rw[c] at d;simp only[qW,gE,gD] at d;go_enter func130,ntmps130;go_wp2_with (go_at_call 167;refine d.out.mono ?_;rintro e j ⟨rfl,b⟩;obtain rfl:=b.symm)
  go_ret2
  exact⟨by rw[i.out];rfl,rfl⟩
 |some u=>
  have g:a<T.qi.length/\f<T.qf:=by
   unfold yz at c;split at c
   ·assumption
   ·cases c
  obtain⟨v,r,x,rfl,o,q,_,n,s⟩:=l.downAt a f g.1 g.2;have k:zG T a f=if u=f then some (T.qi[a].down.getD f 0) else none:=by
   unfold zG;rw[c];simp[List.getD_eq_getElem?_getD,g.1]
  rw[c] at d;simp only[qW,ur,jV] at d;by_cases m:u=f
  ·subst m;have i:=Q5 k;go_enter func130,ntmps130;go_wp2_with (go_at_call 167;refine d.out.mono ?_;rintro e j ⟨rfl,b⟩;obtain rfl:=b.symm)
   go_ret2
   exact⟨by rw[i.out];rfl,rfl⟩
  ·rw[za m] at k;have i:=Q5 k;go_enter func130,ntmps130;go_wp2_with (go_at_call 167;refine d.out.mono ?_;rintro e j ⟨rfl,b⟩;obtain rfl:=b.symm)
   go_ret2
   exact⟨by rw[i.out];rfl,rfl⟩
theorem CP(w:World)(tb:Nat)(T:zi)(fp:List Nat)(h:zY lo w tb T fp):
  Calls prog 209 #[(π tb)] w fun e c=>e=ε (ι T.count)/\c=w:=by
 obtain⟨nv,ns,a,rfl⟩:=h;obtain⟨f,b,d⟩:=a.box.boxed;clear a;go_enter func209,ntmps209;go_wp2;go_ret;exact⟨rfl,rfl⟩
end
section
open Go.Proofs.Tryz Go.RowKit
variable {lo:Nat}{ns:List (Nat×Nat)}
theorem Ro:∀(ns:List (Nat×Nat)) (k:Nat) (a:k<ns.length),(QW ns)[k*2]?=some ns[k].1/\(QW ns)[k*2+1]?=some ns[k].2
 |[],k,a=>by simp at a
 |p::r,0,_=>by simp[QW]
 |p::r,k+1,a=>by
  have:=Ro r k (by simpa using a);simp only[QW,uw] at this ⊢;rw[show(k+1)*2=k*2+1+1 from by omega,show k*2+1+1+1=k*2+1+1+1 from rfl];simpa using this
theorem oG{l:List Nat}(h:l.Nodup){i j x y:Nat}(c:l[i]?=some x)(b:l[j]?=some y)(a:i≠j):x≠y:=by
 obtain⟨d,rfl⟩:=jM.1 c;obtain⟨e,rfl⟩:=jM.1 b;exact Iv (f:=id) (by simpa using h) d e a
theorem ty(h:(QW ns).Nodup){i j:Nat}(b:i<ns.length)(a:j<ns.length):(i≠j->ns[i].1≠ns[j].1/\ns[i].2≠ns[j].2)/\ns[i].1≠ns[j].2:=
 ⟨fun c=>⟨oG h (Ro ns i b).1 (Ro ns j a).1 (by omega),oG h (Ro ns i b).2 (Ro ns j a).2 (by omega)⟩,oG h (Ro ns i b).1 (Ro ns j a).2 (by omega)⟩
def setNode(T:zi)(a:Nat)(n:qk):zi:={T with qi:=T.qi.set a n}
theorem vd.setLeap{w:World}{tb:Nat}{T:zi}{o:Value}(h:vd lo w tb T o ns)(a u x:Nat)(n:a<T.qi.length)(m:a<ns.length)(r:u<T.qf):
  vd lo (w.setCell ⟨ns[a].1,u,none⟩ (ι x)) tb (setNode T a ⟨T.qi[a].leap.set u x,T.qi[a].down⟩) o ns:=by
 have p:=h.leapLen a n;have j:=ze.set w ns[a].1 u (ι x);have l:=h.leap a n m;refine⟨h.low,h.box.save j (by have:=uy l h.box (by decide) rfl;simpa using Ne.symm this),?_,by simpa [setNode] using h.len,fun i k c=>?_,fun i k c=>?_,h.apart,h.wide,by simpa [setNode] using h.many,h.deep,h.few⟩
 ·have:=yT h.qi j (fun b f d=>sT l h.qi (by decide) rfl (by simp at d;rw[←d];exact f));simpa [setNode] using this
 ·have g:i<T.qi.length:=by simpa [setNode] using k
  by_cases e:i=a
  ·subst e;have q:=uZ l u (by simp;omega) (ι x);simp only[setNode,nA];rw[dU];exact q
  ·simp only[setNode,nm (Ne.symm e)];exact yT (h.leap i g c) j (fun b f d=>by simp[sl,Value.ownBlock] at f d;exact((ty h.apart c m).1 e).1 (f.trans d))
 ·have g:i<T.qi.length:=by simpa [setNode] using k
  have q:=yT (h.down i g c) j (fun b f d=>by simp[sl,Value.ownBlock] at f d;exact(ty h.apart m c).2 (d.symm.trans f.symm));by_cases e:i=a
  ·subst e;simp only[setNode,nA];exact q
  ·simp only[setNode,nm (Ne.symm e)];exact q
theorem vd.setDown{w:World}{tb:Nat}{T:zi}{o:Value}(h:vd lo w tb T o ns)(a u x:Nat)(n:a<T.qi.length)(m:a<ns.length)(r:u<T.qf):
  vd lo (w.setCell ⟨ns[a].2,u,none⟩ (ι x)) tb (setNode T a ⟨T.qi[a].leap,T.qi[a].down.set u x⟩) o ns:=by
 have p:=h.downLen a n;have j:=ze.set w ns[a].2 u (ι x);have l:=h.down a n m;refine⟨h.low,h.box.save j (by have:=uy l h.box (by decide) rfl;simpa using Ne.symm this),?_,by simpa [setNode] using h.len,fun i k c=>?_,fun i k c=>?_,h.apart,h.wide,by simpa [setNode] using h.many,h.deep,h.few⟩
 ·have:=yT h.qi j (fun b f d=>sT l h.qi (by decide) rfl (by simp at d;rw[←d];exact f));simpa [setNode] using this
 ·have g:i<T.qi.length:=by simpa [setNode] using k
  have q:=yT (h.leap i g c) j (fun b f d=>by simp[sl,Value.ownBlock] at f d;exact(ty h.apart c m).2 (f.trans d));by_cases e:i=a
  ·subst e;simp only[setNode,nA];exact q
  ·simp only[setNode,nm (Ne.symm e)];exact q
 ·have g:i<T.qi.length:=by simpa [setNode] using k
  by_cases e:i=a
  ·subst e;have q:=uZ l u (by simp;omega) (ι x);simp only[setNode,nA];rw[dU];exact q
  ·simp only[setNode,nm (Ne.symm e)];exact yT (h.down i g c) j (fun b f d=>by simp[sl,Value.ownBlock] at f d;exact((ty h.apart c m).1 e).2 (f.trans d))
structure QV (lo:Nat) (w w':World) (tb:Nat) (T:zi) (fp:List Nat) (fp':List Nat):Prop where
 trie:zY lo w' tb T fp'
 save:ze fp w w'
 qo:∀b∈fp',b∈fp∨w.heap.size<=b
theorem KZ(T:zi)(a:Nat)(n m:qk):setNode (setNode T a n) a m=setNode T a m:=by simp[setNode]
theorem Hr{T:zi}{a v d:Nat}(b:a<T.qi.length)(c:v<T.qf):yb T a v d=setNode T a ⟨jU v (v+1) T.qi[a].leap,T.qi[a].down.set v d⟩:=by
 unfold yb;rw[zc ⟨b,c⟩];simp[setNode,fM,List.getD_eq_getElem?_getD,b]
theorem Sf(w:World)(tb:Nat)(T:zi)(fp:List Nat)(a v d:Nat)(h:zY lo w tb T fp):
  Calls prog 203 #[(π tb),ι a,ι v,ι d] w fun e w'=>e=ε (.tuple #[])/\QV lo w w' tb (yb T a v d) fp fp:=by
 have V:=h;obtain⟨nv,ns,f,rfl⟩:=h;have ab:=f.wide;have aa:=f.many;by_cases z:a<T.qi.length
 ·by_cases S:v<T.qf
  ·have i:a<ns.length:=by rw[f.len];exact z
   have G:Hid (yb T a v d=setNode T a ⟨jU v (v+1) T.qi[a].leap,T.qi[a].down.set v d⟩):=Hr z S;obtain⟨I,j,gl,rfl,F,E,⟨_,rfl⟩,A,q⟩:=f.downAt a v z S;obtain⟨L,r,s⟩:=f.box.boxed;have U:=qT (f.down a z i);have J:=qT (f.leap a z i);have t:=f.setDown a v d z i S;have H1:=Q5 f;clear f V;have Q:T.qi[a].down.set v d=T.qi[a].down.set v d:=rfl;generalize P:T.qi[a].down.set v d=C at *;generalize N:T.qi[a].leap=Y at *;clear Q P N;go_enter func203,ntmps203;go_wp2;clear A q L r s U J E F;go_loopw [8] (fun R wr=>∃(n:Nat) (l:List Nat),n<=v+1/\R=ι ((n:Int)-1)/\vd lo wr tb (setNode T a ⟨l,C⟩) (.slice (some ⟨I,0,none⟩) T.qi.length j) ns/\Hid (jU v (v+1) Y=jU v n l)/\ze (R6 tb (.slice (some ⟨I,0,none⟩) T.qi.length j) ns) w wr) (fun R _=>(intOf R+1).toNat)
   case atStart=>
    refine⟨v+1,Y,zg _,by go_num,t,rfl,(ze.set _ _ _ _).more fun x u=>?_⟩;simp only[xF] at u;subst u;simp only[R6,zx,zI];exact zb (zb (sG i).2)
   case round=>
    clear t;obtain⟨n,l,hn,rfl,c,y,K⟩:=hrel;have p:a<(setNode T a ⟨l,C⟩).qi.length:=by simpa [setNode] using z
    have g:(setNode T a ⟨l,C⟩).qi[a]=⟨l,C⟩:=by simp[setNode]
    have k:(setNode T a ⟨l,C⟩).qf=T.qf:=rfl;obtain⟨L,r,s⟩:=c.box.boxed;have J:=qT (c.leap a p i);have o:Hid (jU v n l=l->QV lo w wr tb (yb T a v d) (R6 tb (.slice (some ⟨I,0,none⟩) T.qi.length j) ns) (R6 tb (.slice (some ⟨I,0,none⟩) T.qi.length j) ns)):=fun e=>⟨⟨_,ns,by rw[G.out,y.out,e];exact c,rfl⟩,K,fun b H=>zf H⟩;cases n with
    |zero=>
     clear c;go_wp2;go_end0
     exact⟨rfl,o.out rfl⟩
    |succ m=>
     have e:((m+1:Nat):Int)-1=(m:Int):=by omega
     rw[e];have W:m<T.qf:=by omega
     obtain⟨Z,X,gl,D,F,E,⟨_,rfl⟩,A,q⟩:=c.leapAt a m p (by rw[k];exact W);simp only[Value.slice.injEq,zt,Addr.mk.injEq] at D;obtain⟨⟨rfl,_⟩,_,rfl⟩:=D;rw[g] at q;rw[k] at A;have B:=c.setLeap a m v p i (by rw[k];exact W);rw[g,KZ] at B;have M:Hid (jU v (m+1) l=if l.getD m 0>v then jU v m (l.set m v) else l):=by rw[Hid,jU]
     have ac:=Q5 c;clear c p g e;have O:Hid (vd lo (wr.setCell ⟨ns[a].1,m,none⟩ (ι v)) tb (setNode T a ⟨l.set m v,C⟩) (.slice (some ⟨I,0,none⟩) T.qi.length j) ns):=B;clear B;simp only at q;generalize l.getD m 0=x at *;by_cases u:x>v
     ·rw[zc u] at M;go_wp2;go_roundw
      case rel=>
       refine⟨m,l.set m v,by omega,by go_num,O.out,y.trans M,K.trans ((ze.set _ _ _ _).more fun x u=>?_)⟩;simp only[xF] at u;subst u;simp only[R6,zx,zI];exact zb (zb (sG i).1)
      case measure=>simp[intOf]
     ·rw[za u] at M;go_wp2;go_end0
      exact⟨rfl,o.out M.out⟩
  ·have G:Hid (yb T a v d=T):=by unfold yb;rw[Hid,za (by omega)]
   obtain⟨ao,j,rfl⟩:=zp f.qi;obtain⟨L,r,s⟩:=f.box.boxed;clear f;go_enter func203,ntmps203;go_wp2
   (try simp only[Exit.inBlock,Exit.then]);refine zL (results_none rfl _ _ _) rfl ?_
   exact⟨rfl,by rw[G.out];exact⟨V,ze.refl _ _,fun b H=>zf H⟩⟩
 ·have G:Hid (yb T a v d=T):=by unfold yb;rw[Hid,za (by omega)]
  obtain⟨ao,j,rfl⟩:=zp f.qi;obtain⟨L,r,s⟩:=f.box.boxed;clear f;go_enter func203,ntmps203;go_wp2
  (try simp only[Exit.inBlock,Exit.then]);refine zL (results_none rfl _ _ _) rfl ?_
  exact⟨rfl,by rw[G.out];exact⟨V,ze.refl _ _,fun b H=>zf H⟩⟩
end
section
open Go.Proofs.Tryz Go.RowKit
variable {lo:Nat}
theorem Qk:(prog.info? 273).map (fun i=>(i.zero,i.size,i.bytes))=some (some (.agg #[ν,ν]),2,48):=by kernel_rfl
section
variable {P:Program} {ops:Array Oper} {o:Oper} {a:Act} {K:Act->World->Prop} {Q:Exit->Act->World->Prop}
theorem dF{E:Prop}(C y:World)(l:List Value)(V:TypeId)(Y:o.guard=none)(s x:Operand)(t:TypeId)
  (T:o.op=.call {callee:=.builtin .append,args:=#[s,x],argTypes:=#[t,t]})
  (p:Nat) (e:TypeId) (i:TypeInfo) (z:Value) (d f:Nat) (ht:P.underlying t=some (.slice e)) (X:P.info? e=some i) (hz:i.zero=some z)
  (w:i.size=d) (O:i.bytes=f) (M:z.cells.size=d) (I:0<d)
  (v:Value) (n:Nat) (G:List Value) (Z:a.eval s=v) (F:C.ownsRow p e d v n G) (q:μ C y)
  (b c:Nat) (hx:a.eval x=.slice (some ⟨b,0,none⟩) 1 c) (hb:Q6 y b l.toArray V) (hl:l.length=d) (h1:∀u∈l,u.oneCell'=true)
  (hn:n<=10000000000) (r:f<=1000) (R:p<=C.heap.size)
  (h:∀D B,B.ownsRow p e d D (n+1) (G++l)->ze v.ownBlock.toList C B->(D.ownBlock=v.ownBlock∨∃g,D.ownBlock=some g/\C.heap.size<=g)->(∀k,k<y.heap.size->some k≠v.ownBlock->B.heap[k]?=y.heap[k]?)->y.heap.size<=B.heap.size->K (a.put o.dst D) B):
  if Region.wanted o (yielded ops a.tmps)=true then Oper.wp P o a y K Q else E:=by
 have hw:Region.wanted o (yielded ops a.tmps)=true:=by simp[Region.wanted,Y]
 rw[zc hw];have A:=zB F q;have S:=q.size;obtain⟨D,B,W,U,m,_,N⟩:=run_append_own_at (P:=P) y p t o.type e i z d f ht X hz w O M I v n G A ⟨b,0,none⟩ 1 c l (by omega) (by
  intro j u hj;rw[Addr.add_lit,vz,hb.rules.1];simpa using hj) h1 (by unfold maxLen;omega) (by
  have:(n+1)*f<=10000000001*1000:=Nat.mul_le_mul (by omega) r;omega) (by omega)
 unfold Oper.wp execOp;simp only[T,resolve,invoke,builtin,Sem.run_bind,Sem.run_pure,Result.andThen_ok,List.map_toArray,xI,List.map_nil,Z,hx,W];refine h D B U ⟨m.os.trans q.os,m.tape.trans q.tape,m.output.trans q.output,by have:=m.size;omega,fun k H hm=>?_⟩ ?_ (fun k H J=>m.block k H J) m.size
 ·rw[m.block k (by omega) (fun e=>hm (by rw[←e];simp))];exact q.block k H
 ·rcases N with L|L
  ·exact zf L
  ·exact zb ⟨_,L,by omega⟩
end
theorem D7{W:World}{g n:Nat}{T:TypeId}(h:W.heap[g]?=some (.cells (madeCells #[ι 0] n) T (0,0)))(d:lo<=g)(c:n<=maxLen):W.ownsRow lo T 1 (sl g n) n ((List.replicate n 0).map Rj):=by
 refine⟨by simp,zb ⟨g,n,madeCells #[ι 0] n,rfl,d,h,zg _,c,by rw[size_madeCells];omega,?_⟩⟩;apply mG;intro i;by_cases b:i<n
 ·simp[b,madeCells,Rj,Nat.mod_one]
 ·simp[List.getElem?_take,b]
theorem lO(w:World)(a b c:Obj):((((w.alloc a).alloc b).alloc c).drew).heap[w.heap.size]?=some a/\((((w.alloc a).alloc b).alloc c).drew).heap[w.heap.size+1]?=some b/\((((w.alloc a).alloc b).alloc c).drew).heap[w.heap.size+1+1]?=some c:=by
 refine⟨?_,?_,?_⟩
 ·show(((w.heap.push a).push b).push c)[w.heap.size]?=_;simp[Array.getElem?_push];omega
 ·show(((w.heap.push a).push b).push c)[w.heap.size+1]?=_;rw[Array.getElem?_push,za (by simp),Array.getElem?_push,zc (by simp)]
 ·show(((w.heap.push a).push b).push c)[w.heap.size+1+1]?=_;rw[Array.getElem?_push,zc (by simp)]
theorem M6(wd:Nat)(ns:List (Nat×Nat))(x:Nat×Nat):fH wd (ns++[x])=fH wd ns++[sl x.1 wd,sl x.2 wd]:=by simp[fH]
theorem AP(ns:List (Nat×Nat))(x:Nat×Nat):QW (ns++[x])=QW ns++[x.1,x.2]:=by simp[QW]
theorem vd.grow{w wr r:World}{tb:Nat}{T:zi}{u c:Value}{ns:List (Nat×Nat)}{n l:Nat}(h:vd lo w tb T u ns)(t:μ w wr)(V:w.heap.size<=n)(W:w.heap.size<=l)(I:n≠l)
  (Y:wr.ownsRow w.heap.size 3 1 (sl n T.qf) T.qf ((List.replicate T.qf T.qf).map Rj)) (X:wr.ownsRow w.heap.size 3 1 (sl l T.qf) T.qf ((List.replicate T.qf 0).map Rj))
  (hs:ze u.ownBlock.toList wr r) (B:r.ownsRow lo 273 2 c (T.qi.length+1) (fH T.qf ns++[sl n T.qf,sl l T.qf])) (O:c.ownBlock=u.ownBlock∨∃g,c.ownBlock=some g/\wr.heap.size<=g) (E:T.qi.length<100000000):
  ∃N,QV lo w (r.setCell ⟨tb,2,none⟩ c) tb (yx T) (R6 tb u ns) N:=by
 have A:lo<=w.heap.size:=by have:=h.low;have:=h.box.lt;omega
 have y:=h.box.below t;have z:=zB h.qi t;have p:=y.save hs (qB z y (by decide));have f:=ze.set r tb 2 c;have R:∀{D:Nat} {e:TypeId} {Z:Nat} {v:Value} {G:Nat} {C:List Value},r.ownsRow D e Z v G C->e≠229->∀b,v.ownBlock=some b->b∉[tb]:=fun B hT b s E=>uy B p hT s (by simpa using E);have m:∀{D:Nat} {v:Value} {G:Nat} {C:List Value},wr.ownsRow D 3 1 v G C->(r.setCell ⟨tb,2,none⟩ c).ownsRow D 3 1 v G C:=fun q=>by
  have S:=yT q hs (fun b s E=>sT q z (by decide) s (yt E));exact yT S f (R S (by decide))
 have L:ze (R6 tb u ns) w (r.setCell ⟨tb,2,none⟩ c):=((ze.of (M:=R6 tb u ns) t).newer hs (fun x F=>zf (by simp only[R6,zx,zI];exact zb (zf F)))).newer f (fun x F=>zf (by simp at F;simp[R6,F]));refine⟨_,⟨c,ns++[(n,l)],⟨h.low,?_,?_,by simp[yx,h.len],fun i H J=>?_,fun i H J=>?_,?_,h.wide,by simp[yx];omega,h.deep,h.few⟩,rfl⟩,L,fun b k=>?_⟩
 ·have U:=p.set 2 c;simpa [yx] using U
 ·rw[M6];have:=yT B f (R B (by decide));simpa [yx] using this
 ·simp[yx] at H;by_cases d:i<T.qi.length
  ·have j:i<ns.length:=by rw[h.len];exact d
   simp only[yx,vq d,vq j];exact m (zB (h.leap i d j) t)
  ·obtain rfl:i=T.qi.length:=by omega
   have e:(ns++[(n,l)])[T.qi.length]=(n,l):=by simp[←h.len]
   rw[e];simp only[yx,rM];exact m (yr Y A)
 ·simp[yx] at H;by_cases d:i<T.qi.length
  ·have j:i<ns.length:=by rw[h.len];exact d
   simp only[yx,vq d,vq j];exact m (zB (h.down i d j) t)
  ·obtain rfl:i=T.qi.length:=by omega
   have e:(ns++[(n,l)])[T.qi.length]=(n,l):=by simp[←h.len]
   rw[e];simp only[yx,rM];exact m (yr X A)
 ·rw[AP,qq];refine⟨h.apart,by simp[I],fun a ha b k e=>?_⟩;have:=(h.lt a (by simp only[R6,zx,zI];exact zb (zb ha))).2;simp at k;omega
 ·simp only[R6,zx,zI,AP] at k ⊢;rcases k with q|q|q|q
  ·simp[q]
  ·rcases O with e|⟨g,e,hg⟩
   ·rw[e] at q;simp[q]
   ·rw[e] at q;simp at q;have:=t.size;right;omega
  ·simp[q]
  ·simp at q;right;omega
theorem P9(k n x:Nat)(c:k<n):((List.replicate k x++List.replicate (n-k) 0).map Rj)[k]?=some (ι (0:Int)):=by
 obtain⟨m,b⟩:∃m,n-k=m+1:=⟨n-k-1,by omega⟩;rw[b,lH,gX (by simp),List.length_replicate,jX];rfl
theorem M4(k n x:Nat)(c:k<n):((List.replicate k x++List.replicate (n-k) 0).map Rj).set k (ι x)=(List.replicate (k+1) x++List.replicate (n-(k+1)) 0).map Rj:=by
 obtain⟨m,b⟩:∃m,n-k=m+1:=⟨n-k-1,by omega⟩;rw[show n-(k+1)=m from by omega,b,show Value.int .i64 x=Rj x from rfl,←dU,fW _ _ (by simp),List.length_replicate,jX,List.replicate_succ' (n:=k),kH];rfl
def sP(w b:World)(wd:Nat)(s:Value):Prop:=∃d c e,s=(π d)/\c≠e/\w.heap.size<=d/\Q6 b d #[.slice (some ⟨c,0,none⟩) wd wd,.slice (some ⟨e,0,none⟩) wd wd] 273/\b.ownsRow w.heap.size 3 1 (sl c wd) wd ((List.replicate wd 0).map Rj)/\b.ownsRow w.heap.size 3 1 (sl e wd) wd ((List.replicate wd 0).map Rj)/\μ w b
theorem sP.mk'{w d:World}{wd nb c b:Nat}(f:Q6 d nb #[.slice (some ⟨c,0,none⟩) wd wd,.slice (some ⟨b,0,none⟩) wd wd] 273)(i:d.heap[c]?=some (.cells (madeCells #[ι 0] wd) 3 (0,0)))(l:d.heap[b]?=some (.cells (madeCells #[ι 0] wd) 3 (0,0)))(g:c≠b)(e:w.heap.size<=nb)(j:w.heap.size<=c)(k:w.heap.size<=b)(m:wd<=1000)(h:μ w d):sP w d wd ((π nb)):=
 ⟨nb,c,b,rfl,g,e,f,D7 i j (by unfold maxLen;omega),D7 l k (by unfold maxLen;omega),h⟩
theorem Eh(w:World)(tb:Nat)(T:zi)(fp:List Nat)(h:zY lo w tb T fp)(Z:T.qi.length<100000000):
  Calls prog 162 #[(π tb)] w fun e w'=>e=ε (ι T.qi.length)/\∃s,QV lo w w' tb (yx T) fp s:=by
 obtain⟨nv,ns,A,rfl⟩:=h;have ae:=A.wide;have ar:=A.many;have Y:=fun W:World=>run_make_row' (P:=prog) (w:=W) 24 3 (ι 0) 8 underlying24 Qv rfl .i64 .i64 T.qf (by omega) (by omega);obtain⟨u,m,l⟩:=A.box.boxed;have t:=Q5 A;clear A;have L:w.cell? ⟨tb,0,none⟩=some (ι T.qf):=by simp[u]
 go_enter func162,ntmps162;go_upto_region 1 with fail
 go_cut [3] from 5 to 15 (fun s3 wx=>sP w wx T.qf s3)
 case first=>
  go_region_held3 (fun w'=>w'.cell? ⟨tb,0,none⟩=some (ι T.qf)) (exact(Below.cell (w:=w) (p:=⟨tb,0,none⟩) (show μ w _ from(by go_grown)) l).trans L) (fail)
  all_goals
   go_wp2_with fail
   go_meet
   case rel=>
    apply sP.mk'
    ·first|exact(lO w _ _ _).1|exact(lO w _ _ _).2.1|exact(lO w _ _ _).2.2
    ·first|exact(lO w _ _ _).1|exact(lO w _ _ _).2.1|exact(lO w _ _ _).2.2
    ·first|exact(lO w _ _ _).1|exact(lO w _ _ _).2.1|exact(lO w _ _ _).2.2
    ·omega
    ·omega
    ·omega
    ·omega
    ·exact ae
    ·exact(by go_grown)
 case rest=>
  obtain⟨nb,r,X,rfl,V,ai,g,c,j,f⟩:=hcut;clear Y L u m l;obtain⟨D,E,J⟩:=g.boxed;have d:=t.out.box.below f;obtain⟨u,m,l⟩:=d.boxed;go_wp2;clear D E J u m l;go_loopw [19] (fun M wr=>∃k:Nat,k<=T.qf/\M=ι k/\Q6 wr nb #[.slice (some ⟨r,0,none⟩) T.qf T.qf,.slice (some ⟨X,0,none⟩) T.qf T.qf] 273/\Q6 wr tb #[ι T.qf,ι T.ql,nv,ι T.count] 229/\wr.ownsRow w.heap.size 3 1 (sl r T.qf) T.qf ((List.replicate k T.qf++List.replicate (T.qf-k) 0).map Rj)/\wr.ownsRow w.heap.size 3 1 (sl X T.qf) T.qf ((List.replicate T.qf 0).map Rj)/\μ w wr) (fun i _=>T.qf-(intOf i).toNat)
  case atStart=>exact⟨0,zv _,rfl,g,d,by simpa using c,j,f⟩
  case round=>
   clear g c j f d;obtain⟨k,hk,rfl,g,d,c,j,f⟩:=hrel;obtain⟨D,E,J⟩:=g.boxed;obtain⟨u,m,l⟩:=d.boxed;by_cases y:k<T.qf
   ·have aj:=xK c rfl;have F:=yW c rfl;have av:=qT c;obtain⟨aq,ag,hv,_,_,I⟩:=yv c (by omega);simp only[sl,Value.slice.injEq,zt,Addr.mk.injEq] at hv;obtain⟨⟨rfl,_⟩,_,G⟩:=hv;clear G;have U:=I k _ (P9 k T.qf T.qf y);have n:=uZ c k (by simp;omega) (ι T.qf);rw[M4 k T.qf T.qf y] at n;have N:r≠nb:=uy c g (by decide) rfl;have aa:r≠tb:=uy c d (by decide) rfl;have x:=yT j (ze.set wr r k (ι T.qf)) (fun b hb Z=>by simp[sl,Value.ownBlock] at hb Z;omega);have B:=g.set_ne (Ne.symm N) k (ι T.qf);have C:=d.set_ne (Ne.symm aa) k (ι T.qf);have ab:=f.setCell (p:=⟨r,k,none⟩) F (ι T.qf);clear I;go_wp2;go_region
    all_goals
     go_wp2;go_roundw
     case rel=>exact⟨k+1,by omega,by go_num,Q6.drew B,Q6.drew C,zB n (zo _ _).drew,zB x (zo _ _).drew,ab.drew⟩
     case measure=>simp[intOf];omega
   ·obtain rfl:k=T.qf:=by omega
    rw[jX,List.replicate_zero,qQ] at c;obtain⟨i0,hi,O,ac,R⟩:=info_parts Qk;obtain⟨ao,ad,rfl⟩:=zp t.out.qi;have q:=zB t.out.qi f;have ak:lo<=w.heap.size:=by have:=t.out.low;have:=t.out.box.lt;omega
    have ap:=f.size;go_wp2;go_region_law (refine dF wr _ [.slice (some ⟨r,0,none⟩) T.qf T.qf,.slice (some ⟨X,0,none⟩) T.qf T.qf] 273 rfl (.tmp 35) (.tmp 37) 227 rfl lo 273 i0 _ 2 48 underlying227 hi O ac R rfl (by decide) (.slice ao T.qi.length ad) T.qi.length (fH T.qf ns) (by simp[Act.eval]) q (by exact(by go_grown)) wr.heap.size 1 (by simp[Act.eval]) (by exact Q6.drew (Q6.new _ _ _)) rfl (by simp[Value.oneCell']) (by omega) (by omega) (by omega) ?_;intro v' w2 v z H an af;obtain⟨am,ah,rfl⟩:=zp v;have S:=d.save z (qB q d (by decide));obtain⟨al,aw,au⟩:=S.boxed)
    all_goals
     obtain⟨s,hW⟩:=t.out.grow f (yW c rfl) (yW j rfl) V c j z v H Z;have HW:=Q5 hW;clear hW;go_wp2;go_ret;exact⟨by simp,s,HW.out⟩
theorem Jb(d:Nat):yY d<=3:=by unfold yY;(repeat' split)<;>omega
theorem e7(w:World)(wd c:Nat)(z:wd<=1000)(v:c<=100000000):
  Calls prog 119 #[ι wd,ι c] w fun e m=>∃s g,e=ε ((π s))/\zY w.heap.size m s (yS wd c) g/\μ w m:=by
 have n:∀a b:Nat,a=zM wd->b=yY c->vd w.heap.size (w.alloc (.cells #[ι (a:Nat),ι (b:Nat),ν,ι 0] 229)) w.heap.size ⟨zM wd,yY c,[],0⟩ (ν) []:=by
  rintro a b rfl rfl;refine⟨zg _,Q6.new _ _ _,yC _ _ _ _,rfl,fun i h=>by simp at h,fun i h=>by simp at h,by simp[QW],?_,by simp,?_,by simp⟩
  ·simp only[zM];split<;>omega
  ·exact Jb c
 have k:Hid (∀a b:Nat,a=zM wd->b=yY c->Calls prog 162 #[.pointer (some ⟨w.heap.size,0,none⟩)] (w.alloc (.cells #[ι (a:Nat),ι (b:Nat),ν,ι 0] 229)) fun e m=>∃g,e=ε (ι 0)/\zY w.heap.size m w.heap.size (yS wd c) g/\μ w m):=fun a b y j=>by
  refine(Eh _ _ _ _ ⟨_,_,n a b y j,rfl⟩ (by simp)).mono fun e m ⟨t,q,r⟩=>⟨q,t,r.trie,?_⟩;exact((zo w.heap.size w).alloc (zg _) _).trans (r.save.below (by simp[R6,QW,Value.ownBlock]) (by simp))
 clear n;by_cases A:wd<1
 ·by_cases u:c<1
  ·have f:1=zM wd:=by unfold zM;split<;>omega
   have d:1=yY c:=by unfold yY;(repeat' split)<;>omega
   have H:=Q5 (k.out _ _ f d);clear f d k;go_enter func119,ntmps119;go_wp2_with (go_at_call 162;refine H.out.mono ?_;rintro e p ⟨g,rfl,l,j⟩)
   go_ret;exact⟨_,g,rfl,l,j⟩
  ·by_cases x:c>3
   ·have f:1=zM wd:=by unfold zM;split<;>omega
    have d:3=yY c:=by unfold yY;(repeat' split)<;>omega
    have H:=Q5 (k.out _ _ f d);clear f d k;go_enter func119,ntmps119;go_wp2_with (go_at_call 162;refine H.out.mono ?_;rintro e p ⟨g,rfl,l,j⟩)
    go_ret;exact⟨_,g,rfl,l,j⟩
   ·have f:1=zM wd:=by unfold zM;split<;>omega
    have d:c=yY c:=by unfold yY;(repeat' split)<;>omega
    have H:=Q5 (k.out _ _ f d);clear f d k;go_enter func119,ntmps119;go_wp2_with (go_at_call 162;refine H.out.mono ?_;rintro e p ⟨g,rfl,l,j⟩)
    go_ret;exact⟨_,g,rfl,l,j⟩
 ·by_cases u:c<1
  ·have f:wd=zM wd:=by unfold zM;split<;>omega
   have d:1=yY c:=by unfold yY;(repeat' split)<;>omega
   have H:=Q5 (k.out _ _ f d);clear f d k;go_enter func119,ntmps119;go_wp2_with (go_at_call 162;refine H.out.mono ?_;rintro e p ⟨g,rfl,l,j⟩)
   go_ret;exact⟨_,g,rfl,l,j⟩
  ·by_cases x:c>3
   ·have f:wd=zM wd:=by unfold zM;split<;>omega
    have d:3=yY c:=by unfold yY;(repeat' split)<;>omega
    have H:=Q5 (k.out _ _ f d);clear f d k;go_enter func119,ntmps119;go_wp2_with (go_at_call 162;refine H.out.mono ?_;rintro e p ⟨g,rfl,l,j⟩)
    go_ret;exact⟨_,g,rfl,l,j⟩
   ·have f:wd=zM wd:=by unfold zM;split<;>omega
    have d:c=yY c:=by unfold yY;(repeat' split)<;>omega
    have H:=Q5 (k.out _ _ f d);clear f d k;go_enter func119,ntmps119;go_wp2_with (go_at_call 162;refine H.out.mono ?_;rintro e p ⟨g,rfl,l,j⟩)
    go_ret;exact⟨_,g,rfl,l,j⟩
theorem PZ(x y z:Value)(w:World):(Instr.index 165 (.agg #[x,y,z]) (ι 0)).run prog w=.ok x w:=by kernel_rfl
theorem Qc(x y z:Value)(w:World):(Instr.index 165 (.agg #[x,y,z]) (ι 1)).run prog w=.ok y w:=by kernel_rfl
theorem PY(x y z:Value)(w:World):(Instr.index 165 (.agg #[x,y,z]) (ι 2)).run prog w=.ok z w:=by kernel_rfl
theorem QV.trans{w d e:World}{tb:Nat}{i f:zi}{fp a c:List Nat}(h:QV lo w d tb i fp a)(k:QV lo d e tb f a c):QV lo w e tb f fp c:=
 ⟨k.trie,h.save.newer k.save h.qo,fun b g=>(k.qo b g).elim (h.qo b) fun q=>zb (yc h.save.size q)⟩
theorem QV.refl{w:World}{tb:Nat}{T:zi}{fp:List Nat}(h:zY lo w tb T fp):QV lo w w tb T fp fp:=⟨h,ze.refl _ _,fun _ a=>zf a⟩
theorem QV.below{w b:World}{tb:Nat}{T:zi}{fp:List Nat}(h:zY lo w tb T fp)(a:μ w b):QV lo w b tb T fp fp:=⟨h.below a,ze.of a,fun _ a=>zf a⟩
theorem DX(T:zi)(a v d:Nat):(yb T a v d).qi.length=T.qi.length/\(yb T a v d).count=T.count/\(yb T a v d).ql=T.ql/\(yb T a v d).qf=T.qf:=by
 unfold yb;split<;>simp
theorem Fc(T:zi)(a v:Nat):(qb T a v).1.qi.length<=T.qi.length+1/\(qb T a v).1.count=T.count/\(qb T a v).1.ql=T.ql/\(qb T a v).1.qf=T.qf:=by
 unfold qb;split
 ·simp
 ·obtain⟨c,b,d,e⟩:=DX (yx T) a v T.qi.length;simp only[c,b,d,e];simp[yx]
theorem Fi(w:World)(tb:Nat)(T:zi)(fp:List Nat)(a v:Nat)(h:zY lo w tb T fp)(s:T.qi.length<100000000):
  Calls prog 191 #[(π tb),ι a,ι v] w fun e o=>e=ε (ι ((qb T a v).2:Nat))/\∃n,QV lo w o tb (qb T a v).1 fp n:=by
 have d:=Q5 (n9 w tb T fp a v h);cases l:zG T a v with
 |some b=>
  have g:Hid (qb T a v=(T,b)):=by unfold qb;rw[Hid,l]
  rw[l] at d;simp only[qW,ur,jV] at d;have r:=Q5 h;go_enter func191,ntmps191;go_wp2_with (go_at_call 130;refine d.out.mono ?_;rintro e o ⟨rfl,c⟩;obtain rfl:=c.symm)
  go_ret;exact⟨by rw[g.out];rfl,fp,by rw[g.out];exact QV.refl r.out⟩
 |none=>
  have g:Hid (qb T a v=(yb (yx T) a v T.qi.length,T.qi.length)):=by unfold qb;rw[Hid,l]
  rw[l] at d;simp only[qW,gE,gD] at d;have p:=Q5 (Eh w tb T fp h s);go_enter func191,ntmps191;go_wp2_with (first|(go_at_call 130;refine d.out.mono ?_;rintro e o ⟨rfl,c⟩;obtain rfl:=c.symm)|(go_at_call 162;refine p.out.mono ?_;rintro e q ⟨rfl,f,i⟩;have k:=Q5 i;clear i)|(go_at_call 203;refine(Sf q tb (yx T) f a v T.qi.length k.out.trie).mono ?_;rintro e t ⟨rfl,j⟩;have m:=Q5 j;clear j))
  go_ret;exact⟨by rw[g.out];rfl,f,by rw[g.out];exact k.out.trans m.out⟩
theorem vd.setCount{w:World}{tb:Nat}{T:zi}{f:Value}{ns:List (Nat×Nat)}(h:vd lo w tb T f ns)(n:Nat)(s:n<=1000000000):QV lo w (w.setCell ⟨tb,3,none⟩ (ι n)) tb {T with count:=n} (R6 tb f ns) (R6 tb f ns):=by
 have a:=ze.set w tb 3 (ι n);have g:∀{u:Nat} {e:TypeId} {t:Nat} {v:Value} {p:Nat} {o:List Value},w.ownsRow u e t v p o->e≠229->∀b,v.ownBlock=some b->b∉[tb]:=fun k r b j q=>uy k h.box r j (by simpa using q);refine⟨⟨f,ns,⟨h.low,?_,yT h.qi a (g h.qi (by decide)),h.len,fun i d c=>yT (h.leap i d c) a (g (h.leap i d c) (by decide)),fun i d c=>yT (h.down i d c) a (g (h.down i d c) (by decide)),h.apart,h.wide,h.many,h.deep,s⟩,rfl⟩,a.more (by simp[R6]),fun b l=>zf l⟩;have m:=h.box.set 3 (ι n);simpa using m
theorem eK(w:World)(tb:Nat)(T:zi)(fp:List Nat)(a v m:Nat)(h:zY lo w tb T fp)(t:T.count<1000000000):
  Calls prog 190 #[(π tb),ι a,ι v,ι m] w fun e q=>e=ε (.bool (gK T a v m).2)/\∃r,QV lo w q tb (gK T a v m).1 fp r:=by
 have g:=Q5 (n9 w tb T fp a v h);cases l:zG T a v with
 |some b=>
  have j:Hid (gK T a v m=(T,false)):=by unfold gK;rw[Hid,l]
  rw[l] at g;simp only[qW,ur,jV] at g;have u:=Q5 h;go_enter func190,ntmps190;go_wp2_with (go_at_call 130;refine g.out.mono ?_;rintro e q ⟨rfl,c⟩;obtain rfl:=c.symm)
  go_ret;exact⟨by rw[j.out];rfl,fp,by rw[j.out];exact QV.refl u.out⟩
 |none=>
  have j:Hid (gK T a v m=({yb T a v m with count:=(yb T a v m).count+1},true)):=by unfold gK;rw[Hid,l]
  rw[l] at g;simp only[qW,gE,gD] at g;have z:=Q5 (Sf w tb T fp a v m h);have i:=(DX T a v m).2.1;generalize yb T a v m=k at *;rw[←i] at t;clear h i;go_enter func190,ntmps190;go_wp2_with (first|(go_at_call 130;refine g.out.mono ?_;rintro e q ⟨rfl,c⟩;obtain rfl:=c.symm)|(go_at_call 203;refine z.out.mono ?_;rintro e s ⟨rfl,d⟩;obtain⟨D,C,f,p⟩:=d.trie;have o:=Q5 d;have x:Hid (QV lo s (s.setCell ⟨tb,3,none⟩ (ι ((k.count+1:Nat)))) tb {k with count:=k.count+1} fp fp):=(by rw[p];exact f.setCount (k.count+1) (by omega));have n:=f.box;clear d f;obtain⟨A,y,B⟩:=n.boxed))
  go_ret;exact⟨by rw[j.out];rfl,fp,by rw[j.out];exact o.out.trans x.out⟩
theorem Sp(w:World)(tb:Nat)(T:zi)(fp:List Nat)(x y z:Nat)(h:zY lo w tb T fp):
  Calls prog 189 #[(π tb),.agg #[ι x,ι y,ι z]] w fun e q=>e=ε (.bool (ld T [x,y,z]))/\μ w q:=by
 obtain⟨B,A,d,rfl⟩:=h;have l:=d.box;have n:=PZ (ι x) (ι y) (ι z);have t:=Qc (ι x) (ι y) (ι z);have p:=PY (ι x) (ι y) (ι z);have g:Hid (ld T [x,y,z]=(decide (x<T.qf)&&(decide (y<T.qf)&&decide (z<T.qf)))):=by simp[Hid,ld]
 go_enter func189,ntmps189;go_wp2;go_loopw [8] (fun u wr=>∃k:Nat,k<=3/\u=ι k/\(1<=k->x<T.qf)/\(2<=k->y<T.qf)/\(3<=k->z<T.qf)/\μ w wr) (fun i _=>3-(intOf i).toNat)
 case atStart=>exact⟨0,by omega,rfl,by omega,by omega,by omega,(by go_grown)⟩
 case round=>
  obtain⟨k,o,rfl,d,m,s,a⟩:=hrel;have f:=l.below a;obtain⟨v,r⟩:=f.rules;match k,o with
  |0,_=>
   by_cases b:x<T.qf
   ·go_wp2;go_roundw
    case rel=>exact⟨1,by omega,rfl,fun _=>b,by omega,by omega,a⟩
    case measure=>simp[intOf]
   ·go_wp2;go_ret;exact⟨by rw[g.out];simp[b],a⟩
  |1,_=>
   have b:=d (by omega);by_cases c:y<T.qf
   ·go_wp2;go_roundw
    case rel=>exact⟨2,by omega,rfl,fun _=>b,fun _=>c,by omega,a⟩
    case measure=>simp[intOf]
   ·go_wp2;go_ret;exact⟨by rw[g.out];simp[c],a⟩
  |2,_=>
   have b:=d (by omega);have c:=m (by omega);by_cases j:z<T.qf
   ·go_wp2;go_roundw
    case rel=>exact⟨3,by omega,rfl,fun _=>b,fun _=>c,fun _=>j,a⟩
    case measure=>simp[intOf]
   ·go_wp2;go_ret;exact⟨by rw[g.out];simp[j],a⟩
  |3,_=>
   have b:=d (by omega);have c:=m (by omega);have j:=s (by omega);go_wp2;go_ret;exact⟨by rw[g.out];simp[b,c,j],a⟩
theorem PC(w:World)(tb:Nat)(T:zi)(fp:List Nat)(x y z m:Nat)(h:zY lo w tb T fp)(hn:T.qi.length<=90000000)(hc:T.count<1000000000):
  Calls prog 163 #[(π tb),.agg #[ι x,ι y,ι z],ι m] w fun e Y=>e=ε (.bool (addP T [x,y,z] m).2)/\∃K,QV lo w Y tb (addP T [x,y,z] m).1 fp K:=by
 have P:=PZ (ι x) (ι y) (ι z);have ad:=Qc (ι x) (ι y) (ι z);have V:=PY (ι x) (ι y) (ι z);have H:T.ql<=3:=by obtain⟨B,ns,F,_⟩:=h;exact F.deep
 have v:=Q5 fun W N=>Sp W tb T fp x y z (h.below N);have M:=Q5 h;clear h;cases t:ld T [x,y,z] with
 |false=>
  have n:Hid (addP T [x,y,z] m=(T,false)):=by simp[Hid,addP,t]
  rw[t] at v;clear t;go_enter func163,ntmps163;go_wp2_with (go_at_call 189;refine(v.out _ (by exact(by go_grown))).mono ?_;rintro e J ⟨rfl,l⟩;have r:μ w J:=zQ (by go_grown) l (zg _))
  go_ret;exact⟨by rw[n.out];rfl,fp,by rw[n.out];exact QV.below M.out r⟩
 |true=>
  have n:Hid (addP T [x,y,z] m=vn m T 0 0 [x,y,z]):=by simp[Hid,addP,t]
  rw[t] at v;clear t;go_enter func163,ntmps163;go_wp2_with (go_at_call 189;refine(v.out _ (by exact(by go_grown))).mono ?_;rintro e J ⟨rfl,l⟩;have r:μ w J:=zQ (by go_grown) l (zg _);have A:=(Q6.new w #[ι x,ι y,ι z] 165).below l;obtain⟨E,D,G⟩:=A.boxed)
  clear E D G A l v;go_loopw [7,15] (fun X s wr=>∃(k a:Nat) (b:zi) (g:List Nat),k<=3/\s=ι k/\X=ι a/\Hid (QV lo w wr tb b fp g)/\Hid (vn m T 0 0 [x,y,z]=vn m b a k ([x,y,z].drop k))/\b.qi.length<=T.qi.length+k/\b.count=T.count/\b.ql=T.ql) (fun _ s _=>3-(intOf s).toNat)
  case atStart=>exact⟨0,0,T,fp,by omega,rfl,rfl,QV.below M.out r,rfl,by omega,rfl,rfl⟩
  case round=>
   obtain⟨k,a,b,g,Q,rfl,rfl,j,o,S,ac,I⟩:=hrel;have p:∃B,Q6 wr tb #[ι b.qf,ι b.ql,B,ι b.count] 229:=by obtain⟨B,ns,F,_⟩:=j.out.trie;exact⟨B,F.box⟩
   obtain⟨B,p⟩:=p;rw[I] at p;obtain⟨aa,O,ab⟩:=p.boxed;match k,Q with
   |0,_=>
    by_cases L:T.ql<=1
    ·have i:Hid (vn m b a 0 [x,y,z]=gK b a x m):=by rw[Hid];simp only[vn];rw[zc (by omega)]
     have q:=Q5 (eK wr tb b g a x m j.out.trie (by omega));go_wp2_with (go_at_call 190;refine q.out.mono ?_;rintro e C ⟨rfl,d,c⟩;have f:=Q5 c;clear c)
     go_ret;exact⟨by rw[n.out,o.out];simp only[List.drop];rw[i.out];rfl,d,by rw[n.out,o.out];simp only[List.drop];rw[i.out];exact j.out.trans f.out⟩
    ·have i:Hid (vn m b a 0 [x,y,z]=vn m (qb b a x).1 (qb b a x).2 1 [y,z]):=by rw[Hid];simp only[vn];rw[za (by omega)]
     obtain⟨R,Z,U,q4⟩:=Fc b a x;have q:=Q5 (Fi wr tb b g a x j.out.trie (by omega));generalize qb b a x=u at *;go_wp2_with (go_at_call 191;refine q.out.mono ?_;rintro e C ⟨rfl,d,c⟩;have f:=Q5 c;clear c)
     go_roundw
     case rel=>exact⟨1,u.2,u.1,d,by omega,rfl,rfl,j.out.trans f.out,(by rw[o.out];exact i.out),by omega,by omega,by omega⟩
     case measure=>simp[intOf]
   |1,_=>
    by_cases L:T.ql<=2
    ·have i:Hid (vn m b a 1 [y,z]=gK b a y m):=by rw[Hid];simp only[vn];rw[zc (by omega)]
     have q:=Q5 (eK wr tb b g a y m j.out.trie (by omega));go_wp2_with (go_at_call 190;refine q.out.mono ?_;rintro e C ⟨rfl,d,c⟩;have f:=Q5 c;clear c)
     go_ret;exact⟨by rw[n.out,o.out];simp only[List.drop];rw[i.out];rfl,d,by rw[n.out,o.out];simp only[List.drop];rw[i.out];exact j.out.trans f.out⟩
    ·have i:Hid (vn m b a 1 [y,z]=vn m (qb b a y).1 (qb b a y).2 2 [z]):=by rw[Hid];simp only[vn];rw[za (by omega)]
     obtain⟨R,Z,U,q4⟩:=Fc b a y;have q:=Q5 (Fi wr tb b g a y j.out.trie (by omega));generalize qb b a y=u at *;go_wp2_with (go_at_call 191;refine q.out.mono ?_;rintro e C ⟨rfl,d,c⟩;have f:=Q5 c;clear c)
     go_roundw
     case rel=>exact⟨2,u.2,u.1,d,by omega,rfl,rfl,j.out.trans f.out,(by rw[o.out];exact i.out),by omega,by omega,by omega⟩
     case measure=>simp[intOf]
   |2,_=>
    by_cases L:T.ql<=3
    ·have i:Hid (vn m b a 2 [z]=gK b a z m):=by rw[Hid];simp only[vn];rw[zc (by omega)]
     have q:=Q5 (eK wr tb b g a z m j.out.trie (by omega));go_wp2_with (go_at_call 190;refine q.out.mono ?_;rintro e C ⟨rfl,d,c⟩;have f:=Q5 c;clear c)
     go_ret;exact⟨by rw[n.out,o.out];simp only[List.drop];rw[i.out];rfl,d,by rw[n.out,o.out];simp only[List.drop];rw[i.out];exact j.out.trans f.out⟩
    ·exact zC H L
   |3,_=>
    have i:Hid (vn m b a 3 []=(b,false)):=by rw[Hid];simp only[vn]
    go_wp2;go_ret;exact⟨by rw[n.out,o.out];simp only[List.drop];rw[i.out];rfl,g,by rw[n.out,o.out];simp only[List.drop];rw[i.out];exact j.out⟩
theorem IF(w:World)(tb:Nat)(T:zi)(fp:List Nat)(x y z:Nat)(h:zY lo w tb T fp):
  Calls prog 83 #[(π tb),.agg #[ι x,ι y,ι z]] w fun e m=>e=ε (qW (uo T [x,y,z]))/\μ w m:=by
 have D:=PZ (ι x) (ι y) (ι z);have J:=Qc (ι x) (ι y) (ι z);have G:=PY (ι x) (ι y) (ι z);have n:∃t,Q6 w tb #[ι T.qf,ι T.ql,t,ι T.count] 229/\T.ql<=3:=by obtain⟨t,K,A,_⟩:=h;exact⟨t,A.box,A.deep⟩
 obtain⟨t,n,u⟩:=n;have r:=Q5 fun W a v B=>n9 W tb T fp a v (h.below B);clear h;have o:Hid (uo T [x,y,z]=uE T 0 0 [x,y,z]):=rfl;go_enter func83,ntmps83;go_wp2;go_loopw [6,12] (fun F q wr=>∃k a:Nat,k<=3/\q=ι k/\F=ι a/\Hid (uE T 0 0 [x,y,z]=uE T a k ([x,y,z].drop k))/\μ w wr) (fun _ q _=>3-(intOf q).toNat)
 case atStart=>exact⟨0,0,by omega,rfl,rfl,rfl,(by go_grown)⟩
 case round=>
  obtain⟨k,a,E,rfl,rfl,l,c⟩:=hrel;have s:=n.below c;obtain⟨H,C,I⟩:=s.boxed;match k,E with
  |0,_=>
   cases g:zG T a x with
   |none=>
    have i:Hid (uE T a 0 [x,y,z]=none):=by rw[Hid];simp only[uE];rw[g]
    have f:=r.out wr a x c;rw[g] at f;simp only[qW,gE,gD] at f;have j:=Q5 f;clear f g;go_wp2_with (go_at_call 130;refine j.out.mono ?_;rintro e m ⟨rfl,d⟩;obtain rfl:=d.symm)
    go_ret2
    exact⟨by rw[o.out,l.out];simp only[List.drop];rw[i.out];rfl,c⟩
   |some b=>
    have f:=r.out wr a x c;rw[g] at f;simp only[qW,ur,jV] at f;have j:=Q5 f;clear f;by_cases p:T.ql<=1
    ·have i:Hid (uE T a 0 [x,y,z]=some b):=by rw[Hid];simp only[uE];rw[g];simp only;rw[zc (by omega)]
     clear g;go_wp2_with (go_at_call 130;refine j.out.mono ?_;rintro e m ⟨rfl,d⟩;obtain rfl:=d.symm)
     go_ret2
     exact⟨by rw[o.out,l.out];simp only[List.drop];rw[i.out];rfl,c⟩
    ·have i:Hid (uE T a 0 [x,y,z]=uE T b 1 [y,z]):=by rw[Hid];simp only[uE];rw[g];simp only;rw[za (by omega)]
     clear g;go_wp2_with (go_at_call 130;refine j.out.mono ?_;rintro e m ⟨rfl,d⟩;obtain rfl:=d.symm)
     go_roundw
     case rel=>exact⟨1,b,by omega,rfl,rfl,(by rw[l.out];exact i.out),c⟩
     case measure=>simp[intOf]
  |1,_=>
   cases g:zG T a y with
   |none=>
    have i:Hid (uE T a 1 [y,z]=none):=by rw[Hid];simp only[uE];rw[g]
    have f:=r.out wr a y c;rw[g] at f;simp only[qW,gE,gD] at f;have j:=Q5 f;clear f g;go_wp2_with (go_at_call 130;refine j.out.mono ?_;rintro e m ⟨rfl,d⟩;obtain rfl:=d.symm)
    go_ret2
    exact⟨by rw[o.out,l.out];simp only[List.drop];rw[i.out];rfl,c⟩
   |some b=>
    have f:=r.out wr a y c;rw[g] at f;simp only[qW,ur,jV] at f;have j:=Q5 f;clear f;by_cases p:T.ql<=2
    ·have i:Hid (uE T a 1 [y,z]=some b):=by rw[Hid];simp only[uE];rw[g];simp only;rw[zc (by omega)]
     clear g;go_wp2_with (go_at_call 130;refine j.out.mono ?_;rintro e m ⟨rfl,d⟩;obtain rfl:=d.symm)
     go_ret2
     exact⟨by rw[o.out,l.out];simp only[List.drop];rw[i.out];rfl,c⟩
    ·have i:Hid (uE T a 1 [y,z]=uE T b 2 [z]):=by rw[Hid];simp only[uE];rw[g];simp only;rw[za (by omega)]
     clear g;go_wp2_with (go_at_call 130;refine j.out.mono ?_;rintro e m ⟨rfl,d⟩;obtain rfl:=d.symm)
     go_roundw
     case rel=>exact⟨2,b,by omega,rfl,rfl,(by rw[l.out];exact i.out),c⟩
     case measure=>simp[intOf]
  |2,_=>
   cases g:zG T a z with
   |none=>
    have i:Hid (uE T a 2 [z]=none):=by rw[Hid];simp only[uE];rw[g]
    have f:=r.out wr a z c;rw[g] at f;simp only[qW,gE,gD] at f;have j:=Q5 f;clear f g;go_wp2_with (go_at_call 130;refine j.out.mono ?_;rintro e m ⟨rfl,d⟩;obtain rfl:=d.symm)
    go_ret2
    exact⟨by rw[o.out,l.out];simp only[List.drop];rw[i.out];rfl,c⟩
   |some b=>
    have f:=r.out wr a z c;rw[g] at f;simp only[qW,ur,jV] at f;have j:=Q5 f;clear f;by_cases p:T.ql<=3
    ·have i:Hid (uE T a 2 [z]=some b):=by rw[Hid];simp only[uE];rw[g];simp only;rw[zc (by omega)]
     clear g;go_wp2_with (go_at_call 130;refine j.out.mono ?_;rintro e m ⟨rfl,d⟩;obtain rfl:=d.symm)
     go_ret2
     exact⟨by rw[o.out,l.out];simp only[List.drop];rw[i.out];rfl,c⟩
    ·exact zC u p
  |3,_=>
   have i:Hid (uE T a 3 []=none):=by rw[Hid];simp only[uE]
   go_wp2;go_ret2
   exact⟨by rw[o.out,l.out];simp only[List.drop];rw[i.out];rfl,c⟩
end
section
open Go.Proofs.Tryz Go.RowKit
theorem ID(w:World)(wb:Nat)(a b c:Int)(s:ByteArray):
  Calls prog 94 #[(π wb),.agg #[ι 1,ι a,ι b,ι c,.string s]] w fun e d=>e=ε (.bool false)/\μ w d:=by
 go_enter func94,ntmps94;go_wp2;go_ret;exact⟨rfl,(by go_grown)⟩
theorem Ga(w:World)(wb:Nat)(a b c:Int)(s:ByteArray)(c0 n i h k j q r t m f d g:Value)(l:Q6 w wb #[c0,n,i,h,k,j,q,r,t,m,ν,f,d,g] 35):
  Calls prog 94 #[(π wb),.agg #[ι 17,ι a,ι b,ι c,.string s]] w fun e o=>e=ε (.bool true)/\μ w o:=by
 obtain⟨u,v,p⟩:=l.boxed;go_enter func94,ntmps94;go_wp2;go_ret;exact⟨rfl,(by go_grown)⟩
end
def bl(x:ByteArray):List UInt8:=x.data.toList
def mP(l:zj):Prop:=(nh (bl l.pred)/\yR (RU (bl l.pred))=true)/\∀x∈l.args,nh (bl x)
def nO(c:zd):Prop:=c.head.neg=false/\mP c.head/\∀l∈c.body,mP l
end Go.Proofs.YteampbddflhngaaGreat
