import Derived.Deep.OwnRows
import Derived.Deep.RegionWith
import Derived.Laws.CopyOwn
import Derived.Maps.AppendAt
import Derived.Deep.CutRange
import Derived.Test.YteampbddflhngaaGreatZ06
import Derived.Test.YteampbddflhngaaGreatZ07
import Derived.Test.YteampbddflhngaaGreatZ08
namespace Go.Proofs.YteampbddflhngaaGreat
set_option linter.all false
set_option maxRecDepth 100000
set_option maxHeartbeats 4000000
section
open Go.Proofs.Tryz Go.RowKit
variable {lo:Nat}{r r2:List QC}
def kF(l:zj):Nat:=l.args.length+1
def Se(a:List zj):Nat:=a.foldr (fun l n=>kF l+n) 0
def Sr(c:zd):Nat:=kF c.head+Se c.body
def RZ(cs:List zd):Nat:=cs.foldr (fun c n=>Sr c+n) 0
theorem EO:∀(r:List QC) {ts:κ} {r2:List QC},yk r=some (ts,r2)->ts.length+r2.length<=r.length
 |[],_,_,h=>by simp[yk] at h
 |[x],ts,r2,h=>by
  simp only[yk] at h;split at h<;>simp at h
  obtain⟨rfl,rfl⟩:=h;simp
 |x::y::r,ts,r2,h=>by
  simp only[yk] at h;split at h
  ·split at h
   ·cases a:yk r with
    |none=>rw[a] at h;simp at h
    |some z=>
     obtain⟨b,c⟩:=z;rw[a] at h;simp at h;have:=EO r a;obtain⟨rfl,rfl⟩:=h;simp;omega
   ·simp at h;obtain⟨rfl,rfl⟩:=h;simp;omega
  ·simp at h
theorem iA{a:zj}(h:yZ r=some (a,r2)):kF a+r2.length<=r.length:=by
 cases r with
 |nil=>simp[yZ,QT] at h
 |cons x r=>
  unfold yZ at h;split at h
  ·split at h
   ·split at h
    ·simp at h
    ·rename_i c d b;have:=EO _ b;split at h<;>simp at h
     obtain⟨rfl,rfl⟩:=h;simp[kF] at this ⊢;omega
   ·simp at h;obtain⟨rfl,rfl⟩:=h;simp[kF];omega
  ·simp at h
theorem Gv{a:zj}(h:uD r=some (a,r2)):kF a+r2.length<=r.length:=by
 unfold uD at h;split at h
 ·cases b:yZ r.tail with
  |none=>rw[b] at h;simp at h
  |some z=>
   obtain⟨d,c⟩:=z;rw[b] at h;simp at h;have:=iA b;obtain⟨rfl,rfl⟩:=h;simp[kF] at this ⊢;omega
 ·exact iA h
theorem Nc{n:Nat}:∀{r r2:List QC} {b:List zj},xK n r=some (b,r2)->Se b+r2.length<=r.length:=by
 induction n with
 |zero=>intro r r2 b h;simp[xK] at h
 |succ n g=>
  intro r r2 b h;cases c:uD r with
  |none=>rw[rh c] at h;cases h
  |some z=>
   obtain⟨a,f⟩:=z;have:=Gv c;by_cases e:QT f=6
   ·rw[pT c e] at h;cases d:xK n f.tail with
    |none=>rw[d] at h;simp at h
    |some z=>
     rw[d] at h;simp at h;have:=g d;obtain⟨rfl,rfl⟩:=h;simp[Se] at this ⊢;omega
   ·rw[pJ c e] at h;simp at h;obtain⟨rfl,rfl⟩:=h;simp[Se];omega
theorem Gm{n:Nat}{c:zd}(h:vo n r=some (c,r2)):Sr c+r2.length<=r.length:=by
 unfold vo at h;split at h
 ·cases h
 ·rename_i a f e;have:=iA e;split at h
  ·split at h
   ·cases h
   ·rename_i b g d;have:=Nc d;split at h<;>simp at h
    obtain⟨rfl,rfl⟩:=h;simp[Sr] at this ⊢;omega
  ·split at h<;>simp at h
   obtain⟨rfl,rfl⟩:=h;simp[Sr,Se];omega
theorem tF{d:Nat}:∀{m:Nat} {r:List QC} {cs:List zd},yI d m r=some cs->RZ cs<=r.length
 |_,[],cs,h=>by simp[yI] at h;subst h;simp[RZ]
 |0,_::_,cs,h=>by simp[yI] at h
 |m+1,x::r,cs,h=>by
  cases a:vo d (x::r) with
  |none=>rw[sJ (by simp) a] at h;cases h
  |some z=>
   obtain⟨c,r2⟩:=z;rw[sg (by simp) a] at h;cases b:yI d m r2 with
   |none=>rw[b] at h;simp at h
   |some e=>
    rw[b] at h;simp at h;subst h;have g:=Gm a;have f:=tF b;simp only[RZ,List.foldr_cons,xi] at g f ⊢;omega
theorem re(b:List zj):yS b+b.length=Se b:=by
 induction b with
 |nil=>rfl
 |cons a b c=>simp[yS,Se,kF] at c ⊢;omega
theorem oL{cs:List zd}{c:zd}(h:c∈cs):Sr c<=RZ cs:=by
 induction cs with
 |nil=>cases h
 |cons a cs b=>
  rcases zx.1 h with rfl|h
  ·simp[RZ]
  ·have:=b h;simp[RZ] at this ⊢;omega
theorem i8(cs:List zd):(cs.flatMap zk).length<=RZ cs:=by
 induction cs with
 |nil=>simp
 |cons a cs b=>have:=re a.body;simp[RZ,Sr,zk,kF] at b ⊢;omega
theorem oX(cs:List zd):cs.length<=RZ cs:=by
 induction cs with
 |nil=>simp
 |cons a cs b=>simp[RZ,Sr,kF] at b ⊢;omega
theorem eF{cs:List zd}(h:RZ cs<=1000):∀c∈cs,vP c:=fun c b=>by
 have a:=oL b;have d:=re c.body;unfold Sr kF at a;exact⟨by omega,by omega⟩
theorem e6:∀(n:Nat) (s:ByteArray) (i:Nat) (l:List (Int×ByteArray)),QK n s i=some l->l.length<=s.size-i
 |0,_,_,l,h=>by simp[QK] at h;subst h;simp
 |n+1,s,i,l,h=>by
  unfold QK at h;split at h
  ·rename_i d;split at h
   ·have:=e6 n s (i+1) l h;omega
   ·split at h
    ·cases h
    ·rename_i c;split at h
     ·cases h
     ·cases a:QK n s (yi s i (xb (QG s i) (QG s (i+1)))) with
      |none=>rw[a] at h;simp at h
      |some b=>
       rw[a] at h;simp at h;subst h;have:=e6 n s _ b a;have:=ri s i _ d rfl c;simp;omega
  ·simp at h;subst h;simp
theorem sA{s:ByteArray}{l:List QC}(h:QI s=some l):l.length<=s.size:=by have:=e6 _ s 0 l h;omega
def xL(s:ByteArray):Except Int (List zd×List zh):=
 if 500<s.size then .error 1 else
 match QI s with
 |none=>.error 2
 |some l=>
  match yI l.length l.length l with
  |none=>.error 3
  |some a=>
   if a.any yE then .error 4 else
   match ui a with
   |none=>.error 5
   |some t=>
    if a.all xo then
     if (xJ (t.length+1) t a).2 then .ok (a,(xJ (t.length+1) t a).1) else .error 7
    else .error 6
def lT(o:Except Int (List zd×List zh))(w:World)(e:Ending)(w':World):Prop:=
 μ w w'/\match o with
  |.error n=>e=ε (.tuple #[.pointer none,ι n])
  |.ok (c,t)=>∃a v b,e=ε (.tuple #[(π a),ι 0])/\Q8 w' a #[v,b] 131/\Rl w.heap.size 171 w' v c/\w'.ownsRow w.heap.size 221 3 b t.length (xZ t)/\w.heap.size<=a
theorem Ok(s:ByteArray)(w:World)(hs:s.size<=500)(h:QI s=none):Calls prog 59 #[.string s] w fun e a=>e=ε (.tuple #[ν,.bool false])/\μ w a:=by
 refine(F7 s w hs).mono ?_;rintro e a ⟨c,b⟩;rw[h] at b;exact⟨b,c⟩
theorem pe(s:ByteArray)(w:World)(l:List QC)(hs:s.size<=500)(h:QI s=some l):Calls prog 59 #[.string s] w fun e d=>∃v,e=ε (.tuple #[v,.bool true])/\d.ownsRow w.heap.size 182 2 v l.length (jU l)/\l.length<=500/\μ w d:=by
 refine(F7 s w hs).mono ?_;rintro e d ⟨g,f⟩;rw[h] at f;obtain⟨v,a,b,c⟩:=f;exact⟨v,a,b,by omega,g⟩
theorem M4(w:World)(b:Value)(l:List QC)(a:Nat)(g:w.ownsRow a 182 2 b l.length (jU l))(f:l.length<=500)(h:yI l.length l.length l=none):
  Calls prog 60 #[b] w fun e d=>e=ε (.tuple #[ν,.bool false])/\μ w d:=by
 refine(RI w b l a g f).mono ?_;rintro e d ⟨i,c⟩;rw[h] at c;exact⟨c,i⟩
theorem rT(w:World)(d:Value)(l:List QC)(c:Nat)(cs:List zd)(j:w.ownsRow c 182 2 d l.length (jU l))(i:l.length<=500)(h:yI l.length l.length l=some cs):
  Calls prog 60 #[d] w fun e f=>∃v,e=ε (.tuple #[v,.bool true])/\Rl w.heap.size 171 f v cs/\μ w f:=by
 refine(RI w d l c j i).mono ?_;rintro e f ⟨k,g⟩;rw[h] at g;obtain⟨v,a,b⟩:=g;exact⟨v,a,b,k⟩
theorem Kh(w:World)(v:Value)(cs:List zd)(a:Rl lo 171 w v cs)(d:(cs.flatMap zk).length<=1000)(h:ui cs=none):
  Calls prog 62 #[v] w fun e c=>e=ε (.tuple #[.agg #[ν],.bool false])/\μ w c:=by
 refine(AP w v cs a d).mono ?_;rintro e c ⟨f,b⟩;rw[h] at b;exact⟨b,f⟩
theorem iv(w:World)(v:Value)(cs:List zd)(t:List zh)(c:Rl lo 171 w v cs)(i:(cs.flatMap zk).length<=1000)(h:ui cs=some t):
  Calls prog 62 #[v] w fun e d=>∃f,e=ε (.tuple #[.agg #[f],.bool true])/\d.ownsRow w.heap.size 221 3 f t.length (xZ t)/\μ w d:=by
 refine(AP w v cs c i).mono ?_;rintro e d ⟨j,g⟩;rw[h] at g;obtain⟨v,a,b⟩:=g;exact⟨v,a,b,j⟩
theorem Nv(s:ByteArray)(w:World)(hs:500<s.size)(a:s.size<=9223372036854775807):
  Calls prog 32 #[.string s] w fun e b=>lT (.error 1) w e b:=by
 go_enter func32,ntmps32;go_wp2;go_ret2
 exact⟨zo _ _,rfl⟩
theorem Ly(s:ByteArray)(w:World)(hs:s.size<=500)(b:QI s=none):
  Calls prog 32 #[.string s] w fun e c=>lT (.error 2) w e c:=by
 have d:=Q7 b;clear b;go_enter func32,ntmps32;go_wp2_with (go_at_call 59;refine(Ok s _ hs d).mono ?_;rintro e f ⟨rfl,a⟩)
 go_ret2
 exact⟨a,rfl⟩
theorem J9(s:ByteArray)(w:World)(hs:s.size<=500)(l:List QC)(g:QI s=some l)(h:yI l.length l.length l=none):
  Calls prog 32 #[.string s] w fun e m=>lT (.error 3) w e m:=by
 have j:=Q7 g;have n:=Q7 h;clear g h;go_enter func32,ntmps32;go_wp2_with (first|(go_at_call 59;refine(pe s _ l hs j).mono ?_;rintro e o ⟨p,rfl,a,b,f⟩;obtain⟨k,i,rfl⟩:=zp a)|(go_at_call 60;refine(M4 _ _ l _ a b n).mono ?_;rintro e q ⟨rfl,c⟩;have d:=QB f c))
 go_ret2
 exact⟨d,rfl⟩
theorem Iv(s:ByteArray)(w:World)(hs:s.size<=500)(l:List QC)(cs:List zd)(H:cs.any yE=true)(x:QI s=some l)(u:yI l.length l.length l=some cs)(k:∀c∈cs,vP c)(d:cs.length<=1000):
  Calls prog 32 #[.string s] w fun e y=>lT (.error 4) w e y:=by
 have B:=Q7 x;have z:=Q7 u;have i:=Q7 k;have f:=Q7 d;go_enter func32,ntmps32;go_wp2_with (first|(go_at_call 59;refine(pe s _ l hs B).mono ?_;rintro e G ⟨C,rfl,b,h,o⟩;obtain⟨v,q,rfl⟩:=zp b)|(go_at_call 60;refine(rT _ _ l _ cs b h z).mono ?_;rintro e F ⟨E,rfl,a,j⟩;obtain⟨A,t,rfl⟩:=a.qx;have m:=QB o j)|(go_at_call 61;refine(rt _ _ cs a i.out f.out).mono ?_;rintro e D ⟨rfl,g⟩;have p:=QB m g;have n:=a.below g))
 go_ret2
 exact⟨p,rfl⟩
theorem It(s:ByteArray)(w:World)(hs:s.size<=500)(l:List QC)(cs:List zd)(P:cs.any yE=false)(B:QI s=some l)(z:yI l.length l.length l=some cs)(p:∀c∈cs,vP c)(h:cs.length<=1000)(g:(cs.flatMap zk).length<=1000)(G:ui cs=none):
  Calls prog 32 #[.string s] w fun e D=>lT (.error 5) w e D:=by
 have I:=Q7 B;have E:=Q7 z;have n:=Q7 p;have i:=Q7 h;have d:=Q7 g;have C:=Q7 G;go_enter func32,ntmps32;go_wp2_with (first|(go_at_call 59;refine(pe s _ l hs I).mono ?_;rintro e N ⟨J,rfl,b,k,u⟩;obtain⟨A,x,rfl⟩:=zp b)|(go_at_call 60;refine(rT _ _ l _ cs b k E).mono ?_;rintro e M ⟨L,rfl,a,o⟩;obtain⟨F,y,rfl⟩:=a.qx;have q:=QB u o)|(go_at_call 61;refine(rt _ _ cs a n.out i.out).mono ?_;rintro e K ⟨rfl,j⟩;have v:=QB q j;have f:=a.below j)|(go_at_call 62;refine(Kh _ _ cs f d.out C).mono ?_;rintro e O ⟨rfl,m⟩;have t:=QB v m;have H:=t.size))
 go_ret2
 exact⟨(by go_grown),rfl⟩
theorem GC(s:ByteArray)(w:World)(hs:s.size<=500)(l:List QC)(cs:List zd)(t:List zh)(hm:cs.any yE=false)(N:cs.all xo=false)(L:QI s=some l)(J:yI l.length l.length l=some cs)(x:∀c∈cs,vP c)(n:cs.length<=1000)(h:(cs.flatMap zk).length<=1000)(R:ui cs=some t):
  Calls prog 32 #[.string s] w fun e O=>lT (.error 6) w e O:=by
 have T:=Q7 L;have P:=Q7 J;have k:=Q7 x;have d:=Q7 n;have g:=Q7 h;have M:=Q7 R;go_enter func32,ntmps32;go_wp2_with (first|(go_at_call 59;refine(pe s _ l hs T).mono ?_;rintro e Y ⟨U,rfl,f,u,D⟩;obtain⟨K,G,rfl⟩:=zp f)|(go_at_call 60;refine(rT _ _ l _ cs f u P).mono ?_;rintro e X ⟨W,rfl,a,v⟩;obtain⟨Q,I,rfl⟩:=a.qx;have z:=QB D v)|(go_at_call 61;refine(rt _ _ cs a k.out d.out).mono ?_;rintro e V ⟨rfl,p⟩;have F:=QB z p;have b:=a.below p)|(go_at_call 62;refine(iv _ _ cs t b g.out M).mono ?_;rintro e H ⟨pv,rfl,C,j⟩;obtain⟨E,m,rfl⟩:=zp C;have o:=QB F j;have S:=o.size;have i:=b.below j)|(go_at_call 63;refine(eT _ _ cs (by exact i.below (by go_grown)) k.out d.out).mono ?_;rintro e Z ⟨rfl,A⟩;have B:=(zo H.heap.size H).alloc (zg _) (.cells #[.slice E t.length m] 127);have q:=QB B A;have y:=QB o q))
 go_ret2
 exact⟨y,rfl⟩
theorem MU(s:ByteArray)(w:World)(hs:s.size<=500)(l:List QC)(cs:List zd)(t:List zh)(hm:cs.any yE=false)(aa:cs.all xo=true)(ab:(xJ (t.length+1) t cs).2=false)(hS:QI s=some l)(W:yI l.length l.length l=some cs)(E:∀c∈cs,vP c)(p:cs.length<=1000)(m:(cs.flatMap zk).length<=1000)(hC:ui cs=some t)(J:t.length<=1000)(C:∀e∈t,e.qh<=0):
  Calls prog 32 #[.string s] w fun e w'=>lT (.error 7) w e w':=by
 have HS:=Q7 hS;have HP:=Q7 W;have k:=Q7 E;have d:=Q7 p;have j:=Q7 m;have Z:=Q7 hC;have O:=Q7 J;have N:=Q7 C;go_enter func32,ntmps32;go_wp2_with (first|(go_at_call 59;refine(pe s _ l hs HS).mono ?_;rintro e w1 ⟨fv,rfl,h,B,M⟩;obtain⟨X,S,rfl⟩:=zp h)|(go_at_call 60;refine(rT _ _ l _ cs h B HP).mono ?_;rintro e w2 ⟨cv,rfl,b,D⟩;obtain⟨ac,T,rfl⟩:=b.qx;have F:=QB M D)|(go_at_call 61;refine(rt _ _ cs b k.out d.out).mono ?_;rintro e Q ⟨rfl,x⟩;have z:=QB F x;have a:=b.below x)|(go_at_call 62;refine(iv _ _ cs t a j.out Z).mono ?_;rintro e A ⟨pv,rfl,y,i⟩;obtain⟨P,o,rfl⟩:=zp y;have u:=QB z i;have ad:=u.size;have n:=a.below i)|(go_at_call 63;refine(eT _ _ cs (by exact n.below (by go_grown)) k.out d.out).mono ?_;rintro e w5 ⟨rfl,q⟩;have K:=(zo A.heap.size A).alloc (zg _) (.cells #[.slice P t.length o] 127);have f:=QB K q;have G:=QB u f)|(go_at_call 64;refine(Eu Q.heap.size _ A.heap.size t _ cs Q rfl (QB i f) a k.out d.out ⟨_,(Q8.new A _ _).below q,zB y f⟩ O.out N.out).mono ?_;rintro e w6 ⟨rfl,v,H⟩;obtain⟨U,R,g,I⟩:=v.view;obtain⟨Y,V⟩:=g.rules;have L:=G.trans (H.mono (yc z.size (zg _)));have ae:=g.lt))
 go_ret2
 exact⟨L,rfl⟩
theorem Lq(s:ByteArray)(w:World)(hs:s.size<=500)(l:List QC)(cs:List zd)(t:List zh)(hm:cs.any yE=false)(ab:cs.all xo=true)(ac:(xJ (t.length+1) t cs).2=true)(hS:QI s=some l)(Y:yI l.length l.length l=some cs)(J:∀c∈cs,vP c)(v:cs.length<=1000)(n:(cs.flatMap zk).length<=1000)(hC:ui cs=some t)(M:t.length<=1000)(H:∀e∈t,e.qh<=0):
  Calls prog 32 #[.string s] w fun e w'=>lT (.ok (cs,(xJ (t.length+1) t cs).1)) w e w':=by
 have HS:=Q7 hS;have HP:=Q7 Y;have k:=Q7 J;have f:=Q7 v;have j:=Q7 n;have HC:=Q7 hC;have Q:=Q7 M;have P:=Q7 H;go_enter func32,ntmps32;go_wp2_with (first|(go_at_call 59;refine(pe s _ l hs HS).mono ?_;rintro e w1 ⟨fv,rfl,i,G,E⟩;obtain⟨Z,U,rfl⟩:=zp i)|(go_at_call 60;refine(rT _ _ l _ cs i G HP).mono ?_;rintro e w2 ⟨cv,rfl,d,I⟩;obtain⟨ad,V,rfl⟩:=d.qx;have K:=QB E I)|(go_at_call 61;refine(rt _ _ cs d k.out f.out).mono ?_;rintro e S ⟨rfl,B⟩;have p:=QB K B;have a:=d.below B)|(go_at_call 62;refine(iv _ _ cs t a j.out HC).mono ?_;rintro e F ⟨pv,rfl,D,g⟩;obtain⟨R,u,rfl⟩:=zp D;have z:=QB p g;have ae:=z.size;have q:=a.below g)|(go_at_call 63;refine(eT _ _ cs (by exact q.below (by go_grown)) k.out f.out).mono ?_;rintro e w5 ⟨rfl,y⟩;have N:=(zo F.heap.size F).alloc (zg _) (.cells #[.slice R t.length u] 127);have b:=QB N y;have L:=QB z b)|(go_at_call 64;refine(Eu S.heap.size _ F.heap.size t _ cs S rfl (QB g b) a k.out f.out ⟨_,(Q8.new F _ _).below y,zB D b⟩ Q.out P.out).mono ?_;rintro e w6 ⟨rfl,A,x⟩;obtain⟨W,T,h,m⟩:=A.view;obtain⟨aa,X⟩:=h.rules;have O:=L.trans (x.mono (yc p.size (zg _)));have af:=h.lt))
 have C:=O.size;have o:=a.below ((QB g b).trans x);go_ret2
 exact⟨(by go_grown),w6.heap.size,_,_,rfl,Q8.new _ _ _,(o.low E.size).below zT,yt (zB m zT) p.size,C⟩
theorem Aw(s:ByteArray)(w:World)(p:s.size<=9223372036854775807):
  Calls prog 32 #[.string s] w fun e v=>lT (xL s) w e v:=by
 unfold xL;split
 ·rename_i u;exact Nv s w u p
 ·rename_i u;have c:s.size<=500:=by omega
  split
  ·rename_i h;exact Ly s w c h
  ·rename_i l h;split
   ·rename_i j;exact J9 s w c l h j
   ·rename_i d j;have x:l.length<=500:=by
     have:=sA h;omega
    have y:=tF j;have f:=eF (cs:=d) (by omega);have b:d.length<=1000:=by have:=oX d;omega
    have a:(d.flatMap zk).length<=1000:=by have:=i8 d;omega
    split
    ·rename_i q;exact Iv s w c l d q h j f b
    ·rename_i q;have g:d.any yE=false:=by simpa using q
     split
     ·rename_i m;exact It s w c l d g h j f b a m
     ·rename_i t m;have o:t.length<=1000:=by have:=sM _ _ _ m;simp only[dK] at this;omega
      have n:=wn _ [] (by simp) t m;split
      ·rename_i i;split
       ·rename_i k;exact Lq s w c l d t g i k h j f b a m o n
       ·rename_i k;exact MU s w c l d t g i (by simpa using k) h j f b a m o n
      ·rename_i i;exact GC s w c l d t g (by simpa using i) h j f b a m
end
section
open Go.RowKit
variable {lo:Nat}
def ks(lo:Nat)(w:World)(pb:Nat)(cs:List zd)(t:List zh):Prop:=lo<=pb/\∃v a,Q8 w pb #[v,a] 131/\Rl lo 171 w v cs/\w.ownsRow lo 221 3 a t.length (xZ t)
theorem ks.below{w w':World}{pb:Nat}{cs:List zd}{t:List zh}(h:ks lo w pb cs t)(a:μ w w'):ks lo w' pb cs t:=by
 obtain⟨b,v,c,f,d,e⟩:=h;exact⟨b,v,c,f.below a,d.below a,zB e a⟩
end
section
open Go.RowKit
variable {lo:Nat}{w:World}{base cap:Nat}{ys:List (Value×Value×Value)}
def pP(t:Value×Value×Value):List Value:=[t.1,t.2.1,t.2.2]
def QV(ys:List (Value×Value×Value)):List Value:=ys.flatMap pP
theorem rV(ys:List (Value×Value×Value)):(QV ys).length=ys.length*3:=by
 induction ys with
 |nil=>rfl
 |cons a l b=>simp[QV,pP] at b ⊢;omega
theorem o4:∀(ys:List (Value×Value×Value)) (k:Nat) (_:k<ys.length) (a b c:Value),(((QV ys).set (k*3) a).set (k*3+1) b).set (k*3+2) c=QV (ys.set k (a,b,c))
 |[],k,d,_,_,_=>by simp at d
 |y::r,0,_,a,b,c=>by simp[QV,pP]
 |y::r,k+1,d,a,b,c=>by
  have:=o4 r k (by simpa using d) a b c;simp only[QV,us,ml,pP] at this ⊢;rw[show(k+1)*3=k*3+1+1+1 from by omega,show k*3+1+1+1+1=k*3+1+1+1+1 from rfl,show k*3+1+1+1+2=k*3+2+1+1+1 from by omega];simpa using this
theorem tR:∀(ys:List (Value×Value×Value)) (k:Nat) (a:k<ys.length),(QV ys)[k*3]?=some ys[k].1/\(QV ys)[k*3+1]?=some ys[k].2.1/\(QV ys)[k*3+2]?=some ys[k].2.2
 |[],k,a=>by simp at a
 |y::r,0,_=>by simp[QV,pP]
 |y::r,k+1,a=>by
  have:=tR r k (by simpa using a);simp only[QV,us,pP] at this ⊢;rw[show(k+1)*3=k*3+1+1+1 from by omega,show k*3+1+1+1+1=k*3+1+1+1+1 from rfl,show k*3+1+1+1+2=k*3+2+1+1+1 from by omega];simpa using this
theorem JW(b a c:Value):∀(n i:Nat),i<n*3->(madeCells #[b,a,c] (n*3))[i]?=(QV (List.replicate n (b,a,c)))[i]?:=by
 intro n i l;obtain⟨k,j,h,rfl⟩:∃k j,j<3/\i=k*3+j:=⟨i / 3,i%3,Nat.mod_lt _ (by decide),by omega⟩;have o:k<n:=by omega
 obtain⟨d,f,e⟩:=tR (List.replicate n (b,a,c)) k (by simpa using o);simp only[wO] at d f e;have g:(k*3+j)%3=j:=by omega
 simp only[madeCells,Array.getElem?_map,Array.getElem?_range];rw[zc l];simp only[jA];have m:(#[b,a,c]:Array Value).size=3:=rfl;rw[m,g];match j,h with
 |0,_=>rw[vc,d];rfl
 |1,_=>rw[f];rfl
 |2,_=>rw[e];rfl
theorem I0(w:World)(n:Nat)(T:TypeId)(b a c:Value)(e:n<=maxLen):(w.alloc (.cells (madeCells #[b,a,c] (n*3)) T)).ownsRow w.heap.size T 3 (.slice (some ⟨w.heap.size,0,none⟩) n n) n (QV (List.replicate n (b,a,c))):=by
 refine⟨by rw[rV];simp,zb ⟨w.heap.size,n,madeCells #[b,a,c] (n*3),rfl,zg _,?_,zg _,e,by rw[size_madeCells],?_⟩⟩
 ·show(w.heap.push _)[w.heap.size]?=_;simp
 ·apply m7;intro i;by_cases d:i<n*3
  ·rw[lF,zc d,Array.getElem?_toList,JW _ _ _ n i d]
  ·rw[lF,za d,kV (by rw[rV];simp;omega)]
theorem OK{e:TypeId}{g n m:Nat}(h:w.ownsRow base e 3 (.slice (some ⟨g,0,none⟩) n cap) m (QV ys))(k:Nat)(j:k<ys.length)(a b c:Value):
  (((w.setCell ⟨g,k*3,none⟩ a).setCell ⟨g,k*3+1,none⟩ b).setCell ⟨g,k*3+2,none⟩ c).ownsRow base e 3 (.slice (some ⟨g,0,none⟩) n cap) m (QV (ys.set k (a,b,c))):=by
 have l:=rV ys;have f:=uW h (k*3) (by omega) a;have i:=uW f (k*3+1) (by simp;omega) b;have d:=uW i (k*3+2) (by simp;omega) c;rw[o4 ys k j] at d;exact d
theorem en{e:TypeId}{g n m:Nat}(h:w.ownsRow base e 3 (.slice (some ⟨g,0,none⟩) n cap) m (QV ys))(k:Nat)(l:k<ys.length):
  g<w.heap.size/\w.cell? ⟨g,k*3,none⟩=some ys[k].1/\w.cell? ⟨g,k*3+1,none⟩=some ys[k].2.1/\w.cell? ⟨g,k*3+2,none⟩=some ys[k].2.2:=by
 have d:0<m:=by have:=h.1;rw[rV] at this;omega
 obtain⟨p,c,b,_,i,a⟩:=yx h d;simp at b;obtain⟨rfl,_⟩:=b;obtain⟨f,o,j⟩:=tR ys k l;exact⟨i,a _ _ f,a _ _ o,a _ _ j⟩
theorem LV{e:TypeId}{b g n m:Nat}{xs:List Value}(h:w.ownsRow base e b (.slice (some ⟨g,0,none⟩) n cap) m xs):∃a,w.heap[g]?=some (.cells a e (0,0)):=by
 obtain⟨_,⟨c,_⟩|⟨i,d,a,c,_,f,_⟩⟩:=h
 ·cases c
 ·simp at c;obtain⟨rfl,_⟩:=c;exact⟨a,f⟩
end
section
open Go.Proofs.Tryz Go.RowKit
variable {lo:Nat}{M:List Nat}{w w':World}{b base n:Nat}{c:Array Value}{v:Value}{xs xs1:List Value}
structure ze (M:List Nat) (w w':World):Prop where
 os:w'.os=w.os
 tape:w'.tape=w.tape
 output:w'.output=w.output
 size:w.heap.size<=w'.heap.size
 block:∀k,k<w.heap.size->k∉M->w'.heap[k]?=w.heap[k]?
theorem ze.refl(M:List Nat)(w:World):ze M w w:=⟨rfl,rfl,rfl,zg _,fun _ _ _=>rfl⟩
theorem ze.of(h:μ w w'):ze M w w':=⟨h.os,h.tape,h.output,h.size,fun k a _=>h.block k a⟩
theorem ze.trans{M:List Nat}{a b c:World}(h:ze M a b)(k:ze M b c):ze M a c:=
 ⟨k.os.trans h.os,k.tape.trans h.tape,k.output.trans h.output,yc h.size k.size,fun x e d=>(k.block x (xP e h.size) d).trans (h.block x e d)⟩
theorem ze.more{N:List Nat}(h:ze M w w')(hs:∀x∈M,x∈N):ze N w w':=⟨h.os,h.tape,h.output,h.size,fun k e d=>h.block k e fun a=>d (hs k a)⟩
theorem ze.newer{N:List Nat}{a b c:World}(h:ze M a b)(k:ze N b c)(g:∀x∈N,x∈M∨a.heap.size<=x):ze M a c:=
 ⟨k.os.trans h.os,k.tape.trans h.tape,k.output.trans h.output,yc h.size k.size,fun x f e=>(k.block x (xP f h.size) fun d=>(g x d).elim e fun i=>by omega).trans (h.block x f e)⟩
theorem ze.below{B:Nat}(h:ze M w w')(d:∀x∈M,B<=x)(e:B<=w.heap.size):Below B w w':=
 ⟨h.os,h.tape,h.output,h.size,fun k f=>h.block k (by omega) fun a=>by have:=d k a;omega⟩
theorem yT{e:TypeId}{a:Nat}(h:w.ownsRow base e a v n xs)(hs:ze M w w')(o:∀b,v.ownBlock=some b->b∉M):w'.ownsRow base e a v n xs:=by
 obtain⟨p,i⟩:=h;refine⟨p,?_⟩;rcases i with i|⟨g,f,d,j,l,k,m⟩
 ·exact zf i
 ·refine zb ⟨g,f,d,j,l,?_,m⟩;rw[hs.block g (kz.1 k).1 (o g (by rw[j];rfl))];exact k
theorem Q8.save{T:TypeId}(h:Q8 w b c T)(hs:ze M w w')(a:b∉M):Q8 w' b c T:=by
 have:=h.lt;unfold Q8 at *;rw[hs.block b this a];exact h
section
variable {P:Program} {ops:Array Oper} {rest:List Oper} {o:Oper} {a:Act} {Q:Exit->Act->World->Prop}
theorem kH(C A:World)(l:List Value)(K:TypeId)(X:o.guard=none)(s x:Operand)(t:TypeId)
  (ho:o.op=.call {callee:=.builtin .append,args:=#[s,x],argTypes:=#[t,t]})
  (base:Nat) (e:TypeId) (i:TypeInfo) (z:Value) (d f:Nat) (W:P.underlying t=some (.slice e)) (Y:P.info? e=some i) (T:i.zero=some z)
  (r:i.size=d) (I:i.bytes=f) (G:z.cells.size=d) (E:0<d)
  (v:Value) (n:Nat) (xs:List Value) (N:a.eval s=v) (D:C.ownsRow base e d v n xs) (m:μ C A)
  (b c:Nat) (S:a.eval x=.slice (some ⟨b,0,none⟩) 1 c) (O:b=A.heap.size) (hl:l.length=d) (h1:∀u∈l,u.oneCell'=true)
  (hn:n<=10000000000) (q:f<=1000) (H:base<=C.heap.size)
  (h:∀B w',w'.ownsRow base e d B (n+1) (xs++l)->ze v.ownBlock.toList C w'->(B.ownBlock=v.ownBlock∨∃g,B.ownBlock=some g/\C.heap.size<=g)->wpList P ops Q rest (a.put o.dst B) w'):
  wpList P ops Q (o::rest) a (A.alloc (.cells l.toArray K)):=by
 have y:=zB D m;have L:=m.size;subst O;refine wpList_append_own_at _ X s x t ho base e i z d f W Y T r I G E v n xs N (y.alloc _) ⟨A.heap.size,0,none⟩ 1 c l S (by omega) ?_ h1 ?_ ?_ ?_ ?_
 ·intro j u R;rw[Addr.add_lit,vB,World.cell?_alloc_mark];simpa using R
 ·unfold maxLen;omega
 ·have:(n+1)*f<=10000000001*1000:=Nat.mul_le_mul (by omega) q;omega
 ·simp;omega
 ·intro B w' U p _ F;refine h B w' U ⟨p.os.trans m.os,p.tape.trans m.tape,p.output.trans m.output,?_,fun k V Z=>?_⟩ ?_
  ·have:=p.size;simp at this;omega
  ·rw[p.block k (by simp;omega) (fun e=>Z (by rw[←e];simp))];rw[show(A.alloc (.cells l.toArray K)).heap[k]?=A.heap[k]? from Below.heap_alloc _ _ _ (by omega)];exact m.block k V
  ·rcases F with J|J
   ·exact zf J
   ·exact zb ⟨_,J,by simp;omega⟩
end
theorem xI{e:TypeId}{d:Nat}(h:w.ownsRow base e d v n xs)(i:v.ownBlock=some b):b<w.heap.size:=by
 obtain⟨_,⟨f,_⟩|⟨g,j,k,f,_,l,_⟩⟩:=h
 ·subst f;cases i
 ·subst f;simp only[Value.ownBlock,zt] at i;subst i;exact(kz.1 l).1
theorem ze.set(w:World)(b o:Nat)(u:Value):ze [b] w (w.setCell ⟨b,o,none⟩ u):=
 ⟨rfl,rfl,rfl,by simp[World.setCell],fun k _ d=>Below.heap_setCell _ _ _ _ (by simp at d;exact d)⟩
theorem yr(h:b∈v.ownBlock.toList):v.ownBlock=some b:=by simpa using h
theorem qv{e T:TypeId}{d:Nat}(h:w.ownsRow base e d v n xs)(f:Q8 w b c T)(i:e≠T):b∉v.ownBlock.toList:=by
 intro g;have:=ly h f i;exact this (by simpa [eq_comm] using g)
def sl(g n:Nat):Value:=.slice (some ⟨g,0,none⟩) n n
theorem sW{s B:Nat}{l m:TypeId}{x t:Nat}{v1 v2:Value}{r C:Nat}{j:List Value}(D:w.ownsRow s l x v1 r xs1)(u:w.ownsRow B m t v2 C j)(y:l≠m)(h:v1.ownBlock=some b):v2.ownBlock≠some b:=by
 intro d;obtain⟨_,⟨i,_⟩|⟨g,z,q,i,_,A,_⟩⟩:=D
 ·subst i;cases h
 ·obtain⟨_,⟨f,_⟩|⟨E,k,p,f,_,e,_⟩⟩:=u
  ·subst f;cases d
  ·subst i;subst f;simp only[Value.ownBlock,zt] at h d;subst h;subst d;rw[A] at e;simp at e;exact y e.2
theorem uB{f:Nat}{e T:TypeId}{i:Nat}{v1:Value}{d:Nat}(j:w.ownsRow f e i v1 d xs1){wb:Nat}(h:Q8 w wb c T)(k:e≠T)(g:v1.ownBlock=some b):b≠wb:=by
 rintro rfl;exact ly j h k g.symm
theorem yV{e:TypeId}{d:Nat}(h:w.ownsRow base e d v n xs)(i:v.ownBlock=some b):base<=b:=by
 obtain⟨_,⟨f,_⟩|⟨g,j,k,f,l,_,_⟩⟩:=h
 ·subst f;cases i
 ·subst f;simp only[Value.ownBlock,zt] at i;omega
theorem M3{α:Type}{f:α->Nat}{l:List α}(h:(l.map f).Nodup){i j:Nat}(k:i<l.length)(g:j<l.length)(d:i≠j):f l[i]≠f l[j]:=by
 intro e;have:=(List.getElem_inj (h₀:=by simpa using k) (h₁:=by simpa using g) h).1 (by simpa using e);exact d this
theorem Q2:(prog.info? 3).map (fun i=>(i.zero,i.size,i.bytes))=some (some (ι 0),1,8):=by kernel_rfl
def Rm(s:Nat):Value:=ι (s:Int)
theorem E6(w:World)(n:Nat)(T:TypeId)(e:n<=maxLen):(w.alloc (.cells (madeCells #[ι 0] n) T)).ownsRow w.heap.size T 1 (.slice (some ⟨w.heap.size,0,none⟩) n n) n ((List.replicate n 0).map Rm):=by
 refine⟨by simp,zb ⟨w.heap.size,n,madeCells #[ι 0] n,rfl,zg _,?_,zg _,e,by rw[size_madeCells];omega,?_⟩⟩
 ·show(w.heap.push _)[w.heap.size]?=_;simp
 ·apply m7;intro i;by_cases d:i<n
  ·simp[d,madeCells,Rm,Nat.mod_one]
  ·simp[List.getElem?_take,d]
end
section
open Go.Proofs.Tryz Go.RowKit
variable {lo:Nat}
def Ro(ns:κ)(x:ByteArray):Nat->Nat->Nat->Nat
 |0,l,_=>l
 |n+1,l,h=>if l<h then(if Ra (ns.getD (l+(h-l) / 2) ByteArray.empty) x then Ro ns x n (l+(h-l) / 2+1) h else Ro ns x n l (l+(h-l) / 2)) else l
def uN(ns:κ)(x:ByteArray):Nat:=Ro ns x (ns.length+1) 0 ns.length
def lD(lo:Nat)(w:World)(a:Nat)(ns:κ):Prop:=lo<=a/\∃v,Q8 w a #[v] 141/\QF lo w v ns
theorem lD.below{w w':World}{a:Nat}{ns:κ}(h:lD lo w a ns)(b:μ w w'):lD lo w' a ns:=by
 obtain⟨e,v,c,d⟩:=h;exact⟨e,v,c.below b,d.below b⟩
theorem AO(w:World)(y:Nat)(ns:κ)(x:ByteArray)(h:lD lo w y ns)(M:ns.length<=1000):
  Calls prog 168 #[(π y),.string x] w fun e F=>e=ε (ι (uN ns x:Nat))/\∃m,F=w.drewN m:=by
 obtain⟨_,v,i,t⟩:=h;obtain⟨N,I,rfl⟩:=t.qx;obtain⟨K,C⟩:=i.rules;go_enter func168,ntmps168;go_wp2;go_quiet (fail)
 have z:μ w (w.drewN nq):=zJ (zo _ _) _;have b:=i.below z;have s:=t.below z;have r:Hid (∃m,w.drewN nq=w.drewN m):=⟨nq,rfl⟩;generalize w.drewN nq=G at *;obtain⟨K,C⟩:=b.rules;go_wp2;go_loopg [5,6] (ns.length+1) (fun k A D wr=>∃l h:Nat,A=ι l/\D=ι h/\h<=ns.length/\l<=ns.length/\h-l<k/\Hid (uN ns x=Ro ns x k l h)/\wr=G)
 case atStart=>exact⟨0,ns.length,rfl,rfl,by omega,by omega,by omega,rfl,rfl⟩
 case round=>
  obtain⟨l,h,rfl,rfl,L,o,E,u,rfl⟩:=hrel;cases gk with
  |zero=>omega
  |succ m=>
   by_cases d:l<h
   ·obtain⟨a,c⟩:∃a,a=l+(h-l) / 2:=⟨_,rfl⟩;have H:l<=a:=by omega
    have B:a<h:=by omega
    have J:(l:Int)+((h:Int)-(l:Int)).tdiv 2=(a:Int):=by
     rw[Int.tdiv_eq_ediv_of_nonneg (by omega)];omega
    have j:a<ns.length:=by omega
    have q:=u.out;unfold Ro at q;rw[zc d,←c,show ns.getD a ByteArray.empty=ns[a] from by simp[List.getD_eq_getElem?_getD,j]] at q;obtain⟨g,rfl,O,p⟩:=s.cell a j;clear c;cases n:Ra ns[a] x with
    |true=>
     rw[n,zc rfl] at q;have f:=Q7 q;unfold Ra at n;go_wp2;go_roundg m
     case measure=>omega
     case rel=>exact⟨a+1,h,by go_num,rfl,L,by omega,by omega,f,rfl⟩
    |false=>
     rw[n,za (by simp)] at q;have f:=Q7 q;unfold Ra at n;go_wp2;go_roundg m
     case measure=>omega
     case rel=>exact⟨l,a,rfl,rfl,by omega,o,by omega,f,rfl⟩
   ·have q:=u.out;unfold Ro at q;rw[za d] at q;have f:=Q7 q;go_wp2;go_ret;exact⟨by rw[f.out];rfl,r.out⟩
def ur(ns:κ)(x:ByteArray):Option Nat:=if uN ns x<ns.length/\ns.getD (uN ns x) ByteArray.empty=x then some (uN ns x) else none
theorem LP(w:World)(u:Nat)(ns:κ)(x:ByteArray)(h:lD lo w u ns)(C:ns.length<=1000):
  Calls prog 129 #[(π u),.string x] w fun e l=>e=ε (.tuple #[ι (((ur ns x).getD 0:Nat):Int),.bool (ur ns x).isSome])/\∃m,l=w.drewN m:=by
 have t:=Q7 (AO w u ns x h C);obtain⟨_,v,d,n⟩:=h;obtain⟨F,E,rfl⟩:=n.qx;have f:Hid (ur ns x=if uN ns x<ns.length/\ns.getD (uN ns x) ByteArray.empty=x then some (uN ns x) else none):=rfl;generalize uN ns x=c at *;by_cases k:c<ns.length
 ·have D:ns.getD c ByteArray.empty=ns[c]:=by simp[List.getD_eq_getElem?_getD,k]
  rw[D] at f;by_cases s:ns[c]=x
  ·rw[zc ⟨k,s⟩] at f;obtain⟨g,rfl,i,b⟩:=n.cell c k;go_enter func129,ntmps129;go_wp2_with (go_at_call 168;refine t.out.mono ?_;rintro r l ⟨rfl,m,rfl⟩;have a:=d.below (zJ (zo _ _) m);obtain⟨z,y,j⟩:=a.boxed;have A:=((zJ (zo w.heap.size w) m).cell (p:=⟨g,c,none⟩) i).trans b;have o:g<(w.drewN m).heap.size:=i)
   go_ret2
   exact⟨by rw[f.out];rfl,m,rfl⟩
  ·rw[za (fun q=>s q.2)] at f;obtain⟨g,rfl,i,b⟩:=n.cell c k;have B:=j5 s;go_enter func129,ntmps129;go_wp2_with (go_at_call 168;refine t.out.mono ?_;rintro r l ⟨rfl,m,rfl⟩;have a:=d.below (zJ (zo _ _) m);obtain⟨z,y,j⟩:=a.boxed;have A:=((zJ (zo w.heap.size w) m).cell (p:=⟨g,c,none⟩) i).trans b;have o:g<(w.drewN m).heap.size:=i)
   go_ret2
   exact⟨by rw[f.out];rfl,m,rfl⟩
 ·rw[za (fun q=>k q.1)] at f;go_enter func129,ntmps129;go_wp2_with (go_at_call 168;refine t.out.mono ?_;rintro r l ⟨rfl,m,rfl⟩;have a:=d.below (zJ (zo _ _) m);obtain⟨z,y,j⟩:=a.boxed)
  go_ret2
  exact⟨by rw[f.out];rfl,m,rfl⟩
theorem Mg(w:World)(b:Nat)(ns:κ)(h:lD lo w b ns):
  Calls prog 114 #[(π b)] w fun e g=>e=ε (ι ns.length)/\g=w:=by
 obtain⟨_,v,a,c⟩:=h;obtain⟨k,d,rfl⟩:=c.qx;obtain⟨i,j,f⟩:=a.boxed;clear c;go_enter func114,ntmps114;go_wp2;go_ret;exact⟨rfl,rfl⟩
end
section
open Go.Proofs.Tryz Go.RowKit
variable {lo:Nat}{w:World}{tb:Nat}{T:zi}{nv:Value}{ns:List (Nat×Nat)}
def fJ(wd:Nat)(ns:List (Nat×Nat)):List Value:=ns.flatMap fun x=>[sl x.1 wd,sl x.2 wd]
theorem oS(wd:Nat):∀(ns:List (Nat×Nat)) (k:Nat) (a:k<ns.length),(fJ wd ns)[k*2]?=some (sl ns[k].1 wd)/\(fJ wd ns)[k*2+1]?=some (sl ns[k].2 wd)
 |[],k,a=>by simp at a
 |p::r,0,_=>by simp[fJ]
 |p::r,k+1,a=>by
  have:=oS wd r k (by simpa using a);simp only[fJ,us] at this ⊢;rw[show(k+1)*2=k*2+1+1 from by omega,show k*2+1+1+1=k*2+1+1+1 from rfl];simpa using this
def QY(ns:List (Nat×Nat)):List Nat:=ns.flatMap fun x=>[x.1,x.2]
structure vx (lo:Nat) (w:World) (tb:Nat) (T:zi) (nv:Value) (ns:List (Nat×Nat)):Prop where
 low:lo<=tb
 box:Q8 w tb #[ι T.qf,ι T.ql,nv,ι T.count] 229
 qi:w.ownsRow lo 273 2 nv T.qi.length (fJ T.qf ns)
 len:ns.length=T.qi.length
 leap:∀i (h:i<T.qi.length) (h2:i<ns.length),w.ownsRow lo 3 1 (sl ns[i].1 T.qf) T.qf (T.qi[i].leap.map Rm)
 down:∀i (h:i<T.qi.length) (h2:i<ns.length),w.ownsRow lo 3 1 (sl ns[i].2 T.qf) T.qf (T.qi[i].down.map Rm)
 apart:(QY ns).Nodup
 wide:T.qf<=1000
 many:T.qi.length<=100000000
 deep:T.ql<=3
 few:T.count<=1000000000
def R8(tb:Nat)(nv:Value)(ns:List (Nat×Nat)):List Nat:=tb::(nv.ownBlock.toList++QY ns)
def zY(lo:Nat)(w:World)(tb:Nat)(T:zi)(fp:List Nat):Prop:=∃nv ns,vx lo w tb T nv ns/\fp=R8 tb nv ns
theorem vx.leapLen(h:vx lo w tb T nv ns)(i:Nat)(a:i<T.qi.length):T.qi[i].leap.length=T.qf:=by
 have:=(h.leap i a (by rw[h.len];exact a)).1;simpa using this
theorem vx.downLen(h:vx lo w tb T nv ns)(i:Nat)(a:i<T.qi.length):T.qi[i].down.length=T.qf:=by
 have:=(h.down i a (by rw[h.len];exact a)).1;simpa using this
theorem oj{b:Nat}(h:b∈QY ns):∃i,∃h:i<ns.length,b=ns[i].1∨b=ns[i].2:=by
 simp only[QY,uS,zx,fG,or_false] at h;obtain⟨x,d,a⟩:=h;obtain⟨i,c,rfl⟩:=qk d;exact⟨i,c,a⟩
theorem so{i:Nat}(h:i<ns.length):ns[i].1∈QY ns/\ns[i].2∈QY ns:=by
 simp only[QY,uS,zx,fG,or_false];exact⟨⟨_,zs h,zf rfl⟩,⟨_,zs h,zb rfl⟩⟩
theorem vx.lt{w:World}{tb:Nat}{T:zi}{nv:Value}{ns:List (Nat×Nat)}(h:vx lo w tb T nv ns):∀b∈R8 tb nv ns,lo<=b/\b<w.heap.size:=by
 intro b c;simp only[R8,zx,zI] at c;rcases c with rfl|c|c
 ·exact⟨h.low,h.box.lt⟩
 ·exact⟨yV h.qi (yr c),xI h.qi (yr c)⟩
 ·obtain⟨i,a,rfl|rfl⟩:=oj c
  ·exact⟨yV (h.leap i (by rw[←h.len];exact a) a) rfl,xI (h.leap i (by rw[←h.len];exact a) a) rfl⟩
  ·exact⟨yV (h.down i (by rw[←h.len];exact a) a) rfl,xI (h.down i (by rw[←h.len];exact a) a) rfl⟩
theorem zY.lt{w:World}{tb:Nat}{T:zi}{fp:List Nat}(h:zY lo w tb T fp):∀b∈fp,lo<=b/\b<w.heap.size:=by
 obtain⟨nv,ns,a,rfl⟩:=h;exact a.lt
theorem zY.save{w w':World}{tb:Nat}{T:zi}{fp N:List Nat}(h:zY lo w tb T fp)(hs:ze N w w')(g:∀b∈fp,b∉N):zY lo w' tb T fp:=by
 obtain⟨nv,ns,c,rfl⟩:=h;have e:=g;refine⟨nv,ns,⟨c.low,c.box.save hs (e tb (by simp[R8])),yT c.qi hs fun b d=>e b ?_,c.len,fun i f a=>yT (c.leap i f a) hs fun b d=>e b ?_,fun i f a=>yT (c.down i f a) hs fun b d=>e b ?_,c.apart,c.wide,c.many,c.deep,c.few⟩,rfl⟩
 ·simp[R8,d]
 ·simp only[sl,Value.ownBlock,zt] at d;subst d;simp only[R8,zx,zI];exact zb (zb (so a).1)
 ·simp only[sl,Value.ownBlock,zt] at d;subst d;simp only[R8,zx,zI];exact zb (zb (so a).2)
theorem zY.below{w':World}{fp:List Nat}(h:zY lo w tb T fp)(a:μ w w'):zY lo w' tb T fp:=h.save (ze.of (M:=[]) a) (by simp)
def qU(o:Option Nat):Value:=.tuple #[ι ((o.getD 0:Nat):Int),.bool o.isSome]
theorem vx.leapAt(h:vx lo w tb T nv ns)(a f:Nat)(m:a<T.qi.length)(s:f<T.qf):
  ∃c i d,nv=.slice (some ⟨c,0,none⟩) T.qi.length i/\c<w.heap.size/\d<w.heap.size/\(∃r:a<ns.length,d=ns[a].1)/\w.cell? ⟨c,a*2,none⟩=some (.slice (some ⟨d,0,none⟩) T.qf T.qf)/\w.cell? ⟨d,f,none⟩=some (ι ((T.qi[a].leap.getD f 0:Nat):Int)):=by
 have b:a<ns.length:=by rw[h.len];exact m
 obtain⟨c,e,p,_,l,k⟩:=yx h.qi (by omega);obtain⟨d,j,n,_,o,g⟩:=yx (h.leap a m b) (by omega);obtain⟨⟨rfl,_⟩,_,_⟩:=n;have q:=h.leapLen a m;refine⟨c,e,_,p,l,o,⟨b,rfl⟩,k _ _ (oS T.qf ns a b).1,g f _ ?_⟩;rw[lK,yp (by omega),gL,yp (by omega)];rfl
theorem vx.downAt(h:vx lo w tb T nv ns)(a f:Nat)(m:a<T.qi.length)(s:f<T.qf):
  ∃c i d,nv=.slice (some ⟨c,0,none⟩) T.qi.length i/\c<w.heap.size/\d<w.heap.size/\(∃r:a<ns.length,d=ns[a].2)/\w.cell? ⟨c,a*2+1,none⟩=some (.slice (some ⟨d,0,none⟩) T.qf T.qf)/\w.cell? ⟨d,f,none⟩=some (ι ((T.qi[a].down.getD f 0:Nat):Int)):=by
 have b:a<ns.length:=by rw[h.len];exact m
 obtain⟨c,e,p,_,l,k⟩:=yx h.qi (by omega);obtain⟨d,j,n,_,o,g⟩:=yx (h.down a m b) (by omega);obtain⟨⟨rfl,_⟩,_,_⟩:=n;have q:=h.downLen a m;refine⟨c,e,_,p,l,o,⟨b,rfl⟩,k _ _ (oS T.qf ns a b).2,g f _ ?_⟩;rw[lK,yp (by omega),gL,yp (by omega)];rfl
theorem rF(w:World)(tb:Nat)(T:zi)(fp:List Nat)(a f:Nat)(h:zY lo w tb T fp):
  Calls prog 167 #[(π tb),ι a,ι f] w fun e m=>e=ε (qU (y5 T a f))/\m=w:=by
 obtain⟨nv,ns,d,rfl⟩:=h;obtain⟨t,o⟩:=d.box.rules;by_cases i:a<T.qi.length
 ·by_cases k:f<T.qf
  ·obtain⟨s,c,u,rfl,n,p,_,r,q⟩:=d.leapAt a f i k;have g:y5 T a f=if T.qi[a].leap.getD f 0≥T.qf then none else some (T.qi[a].leap.getD f 0):=by
    unfold y5;rw[zc ⟨i,k⟩];simp[List.getD_eq_getElem?_getD,i]
   generalize T.qi[a].leap.getD f 0=v at *;by_cases j:v≥T.qf
   ·rw[zc j] at g;have b:=Q7 g;go_enter func167,ntmps167;go_wp2;go_ret2
    exact⟨by rw[b.out];rfl,rfl⟩
   ·rw[za j] at g;have b:=Q7 g;go_enter func167,ntmps167;go_wp2;go_ret2
    exact⟨by rw[b.out];rfl,rfl⟩
  ·have b:Hid (y5 T a f=none):=by unfold y5;rw[Hid,za (by omega)]
   obtain⟨l,c,rfl⟩:=zp d.qi;go_enter func167,ntmps167;go_wp2;go_ret2
   exact⟨by rw[b.out];rfl,rfl⟩
 ·have b:Hid (y5 T a f=none):=by unfold y5;rw[Hid,za (by omega)]
  obtain⟨l,c,rfl⟩:=zp d.qi;go_enter func167,ntmps167;go_wp2;go_ret2
  exact⟨by rw[b.out];rfl,rfl⟩
theorem nt(w:World)(tb:Nat)(T:zi)(fp:List Nat)(a f:Nat)(h:zY lo w tb T fp):
  Calls prog 130 #[(π tb),ι a,ι f] w fun e j=>e=ε (qU (zG T a f))/\j=w:=by
 have c:=Q7 (rF w tb T fp a f h);obtain⟨nv,ns,m,rfl⟩:=h;obtain⟨v,p⟩:=m.box.rules;cases d:y5 T a f with
 |none=>
  have i:Hid (zG T a f=none):=by unfold zG;rw[Hid,d]
  rw[d] at c;simp only[qU,gC,g6] at c;go_enter func130,ntmps130;go_wp2_with (go_at_call 167;refine c.out.mono ?_;rintro e j ⟨rfl,b⟩;obtain rfl:=b.symm)
  go_ret2
  exact⟨by rw[i.out];rfl,rfl⟩
 |some u=>
  have g:a<T.qi.length/\f<T.qf:=by
   unfold y5 at d;split at d
   ·assumption
   ·cases d
  obtain⟨t,n,x,rfl,o,q,_,s,r⟩:=m.downAt a f g.1 g.2;have k:zG T a f=if u=f then some (T.qi[a].down.getD f 0) else none:=by
   unfold zG;rw[d];simp[List.getD_eq_getElem?_getD,g.1]
  rw[d] at c;simp only[qU,ux,kc] at c;by_cases l:u=f
  ·subst l;have i:=Q7 k;go_enter func130,ntmps130;go_wp2_with (go_at_call 167;refine c.out.mono ?_;rintro e j ⟨rfl,b⟩;obtain rfl:=b.symm)
   go_ret2
   exact⟨by rw[i.out];rfl,rfl⟩
  ·rw[za l] at k;have i:=Q7 k;go_enter func130,ntmps130;go_wp2_with (go_at_call 167;refine c.out.mono ?_;rintro e j ⟨rfl,b⟩;obtain rfl:=b.symm)
   go_ret2
   exact⟨by rw[i.out];rfl,rfl⟩
theorem Bw(w:World)(tb:Nat)(T:zi)(fp:List Nat)(h:zY lo w tb T fp):
  Calls prog 209 #[(π tb)] w fun e c=>e=ε (ι T.count)/\c=w:=by
 obtain⟨nv,ns,a,rfl⟩:=h;obtain⟨f,b,d⟩:=a.box.boxed;clear a;go_enter func209,ntmps209;go_wp2;go_ret;exact⟨rfl,rfl⟩
end
section
open Go.Proofs.Tryz Go.RowKit
variable {lo:Nat}{ns:List (Nat×Nat)}
theorem Rq:∀(ns:List (Nat×Nat)) (k:Nat) (a:k<ns.length),(QY ns)[k*2]?=some ns[k].1/\(QY ns)[k*2+1]?=some ns[k].2
 |[],k,a=>by simp at a
 |p::r,0,_=>by simp[QY]
 |p::r,k+1,a=>by
  have:=Rq r k (by simpa using a);simp only[QY,us] at this ⊢;rw[show(k+1)*2=k*2+1+1 from by omega,show k*2+1+1+1=k*2+1+1+1 from rfl];simpa using this
theorem ep{l:List Nat}(h:l.Nodup){i j x y:Nat}(e:l[i]?=some x)(c:l[j]?=some y)(a:i≠j):x≠y:=by
 obtain⟨b,rfl⟩:=jX.1 e;obtain⟨d,rfl⟩:=jX.1 c;exact M3 (f:=id) (by simpa using h) b d a
theorem sB(h:(QY ns).Nodup){i j:Nat}(b:i<ns.length)(a:j<ns.length):(i≠j->ns[i].1≠ns[j].1/\ns[i].2≠ns[j].2)/\ns[i].1≠ns[j].2:=
 ⟨fun c=>⟨ep h (Rq ns i b).1 (Rq ns j a).1 (by omega),ep h (Rq ns i b).2 (Rq ns j a).2 (by omega)⟩,ep h (Rq ns i b).1 (Rq ns j a).2 (by omega)⟩
def setNode(T:zi)(a:Nat)(n:qb):zi:={T with qi:=T.qi.set a n}
theorem vx.setLeap{w:World}{tb:Nat}{T:zi}{n:Value}(h:vx lo w tb T n ns)(a u x:Nat)(o:a<T.qi.length)(l:a<ns.length)(r:u<T.qf):
  vx lo (w.setCell ⟨ns[a].1,u,none⟩ (ι x)) tb (setNode T a ⟨T.qi[a].leap.set u x,T.qi[a].down⟩) n ns:=by
 have p:=h.leapLen a o;have j:=ze.set w ns[a].1 u (ι x);have k:=h.leap a o l;refine⟨h.low,h.box.save j (by have:=uB k h.box (by decide) rfl;simpa using Ne.symm this),?_,by simpa [setNode] using h.len,fun i m c=>?_,fun i m c=>?_,h.apart,h.wide,by simpa [setNode] using h.many,h.deep,h.few⟩
 ·have:=yT h.qi j (fun b g d=>sW k h.qi (by decide) rfl (by simp at d;rw[←d];exact g));simpa [setNode] using this
 ·have f:i<T.qi.length:=by simpa [setNode] using m
  by_cases e:i=a
  ·subst e;have q:=uW k u (by simp;omega) (ι x);simp only[setNode,nD];rw[fu];exact q
  ·simp only[setNode,nO (Ne.symm e)];exact yT (h.leap i f c) j (fun b g d=>by simp[sl,Value.ownBlock] at g d;exact((sB h.apart c l).1 e).1 (g.trans d))
 ·have f:i<T.qi.length:=by simpa [setNode] using m
  have q:=yT (h.down i f c) j (fun b g d=>by simp[sl,Value.ownBlock] at g d;exact(sB h.apart l c).2 (d.symm.trans g.symm));by_cases e:i=a
  ·subst e;simp only[setNode,nD];exact q
  ·simp only[setNode,nO (Ne.symm e)];exact q
theorem vx.setDown{w:World}{tb:Nat}{T:zi}{n:Value}(h:vx lo w tb T n ns)(a u x:Nat)(o:a<T.qi.length)(l:a<ns.length)(r:u<T.qf):
  vx lo (w.setCell ⟨ns[a].2,u,none⟩ (ι x)) tb (setNode T a ⟨T.qi[a].leap,T.qi[a].down.set u x⟩) n ns:=by
 have p:=h.downLen a o;have j:=ze.set w ns[a].2 u (ι x);have k:=h.down a o l;refine⟨h.low,h.box.save j (by have:=uB k h.box (by decide) rfl;simpa using Ne.symm this),?_,by simpa [setNode] using h.len,fun i m c=>?_,fun i m c=>?_,h.apart,h.wide,by simpa [setNode] using h.many,h.deep,h.few⟩
 ·have:=yT h.qi j (fun b g d=>sW k h.qi (by decide) rfl (by simp at d;rw[←d];exact g));simpa [setNode] using this
 ·have f:i<T.qi.length:=by simpa [setNode] using m
  have q:=yT (h.leap i f c) j (fun b g d=>by simp[sl,Value.ownBlock] at g d;exact(sB h.apart c l).2 (g.trans d));by_cases e:i=a
  ·subst e;simp only[setNode,nD];exact q
  ·simp only[setNode,nO (Ne.symm e)];exact q
 ·have f:i<T.qi.length:=by simpa [setNode] using m
  by_cases e:i=a
  ·subst e;have q:=uW k u (by simp;omega) (ι x);simp only[setNode,nD];rw[fu];exact q
  ·simp only[setNode,nO (Ne.symm e)];exact yT (h.down i f c) j (fun b g d=>by simp[sl,Value.ownBlock] at g d;exact((sB h.apart c l).1 e).2 (g.trans d))
structure QX (lo:Nat) (w w':World) (tb:Nat) (T:zi) (fp:List Nat) (fp':List Nat):Prop where
 trie:zY lo w' tb T fp'
 save:ze fp w w'
 qo:∀b∈fp',b∈fp∨w.heap.size<=b
theorem LB(T:zi)(a:Nat)(n m:qb):setNode (setNode T a n) a m=setNode T a m:=by simp[setNode]
theorem P7{T:zi}{a v d:Nat}(b:a<T.qi.length)(c:v<T.qf):yb T a v d=setNode T a ⟨jW v (v+1) T.qi[a].leap,T.qi[a].down.set v d⟩:=by
 unfold yb;rw[zc ⟨b,c⟩];simp[setNode,fQ,List.getD_eq_getElem?_getD,b]
theorem Sf(w:World)(tb:Nat)(T:zi)(fp:List Nat)(a v d:Nat)(h:zY lo w tb T fp):
  Calls prog 203 #[(π tb),ι a,ι v,ι d] w fun e w'=>e=ε (.tuple #[])/\QX lo w w' tb (yb T a v d) fp fp:=by
 have U:=h;obtain⟨nv,ns,f,rfl⟩:=h;have ad:=f.wide;have ab:=f.many;by_cases A:a<T.qi.length
 ·by_cases O:v<T.qf
  ·have g:a<ns.length:=by rw[f.len];exact A
   have H:Hid (yb T a v d=setNode T a ⟨jW v (v+1) T.qi[a].leap,T.qi[a].down.set v d⟩):=P7 A O;obtain⟨F,j,Z,rfl,G,E,⟨_,rfl⟩,z,s⟩:=f.downAt a v A O;obtain⟨M,q,r⟩:=f.box.boxed;have P:=qO (f.down a A g);have K:=qO (f.leap a A g);have y:=f.setDown a v d A g O;have H1:=Q7 f;clear f U;have S:T.qi[a].down.set v d=T.qi[a].down.set v d:=rfl;generalize R:T.qi[a].down.set v d=C at *;generalize N:T.qi[a].leap=X at *;clear S R N;go_enter func203,ntmps203;go_wp2;clear z s M q r P K E G;go_loopw [8] (fun V wr=>∃(n:Nat) (l:List Nat),n<=v+1/\V=ι ((n:Int)-1)/\vx lo wr tb (setNode T a ⟨l,C⟩) (.slice (some ⟨F,0,none⟩) T.qi.length j) ns/\Hid (jW v (v+1) X=jW v n l)/\ze (R8 tb (.slice (some ⟨F,0,none⟩) T.qi.length j) ns) w wr) (fun V _=>(intOf V+1).toNat)
   case atStart=>
    refine⟨v+1,X,zg _,by go_num,y,rfl,(ze.set _ _ _ _).more fun x u=>?_⟩;simp only[xG] at u;subst u;simp only[R8,zx,zI];exact zb (zb (so g).2)
   case round=>
    clear y;obtain⟨n,l,hn,rfl,c,t,J⟩:=hrel;have p:a<(setNode T a ⟨l,C⟩).qi.length:=by simpa [setNode] using A
    have i:(setNode T a ⟨l,C⟩).qi[a]=⟨l,C⟩:=by simp[setNode]
    have k:(setNode T a ⟨l,C⟩).qf=T.qf:=rfl;obtain⟨M,q,r⟩:=c.box.boxed;have K:=qO (c.leap a p g);have o:Hid (jW v n l=l->QX lo w wr tb (yb T a v d) (R8 tb (.slice (some ⟨F,0,none⟩) T.qi.length j) ns) (R8 tb (.slice (some ⟨F,0,none⟩) T.qi.length j) ns)):=fun e=>⟨⟨_,ns,by rw[H.out,t.out,e];exact c,rfl⟩,J,fun b D=>zf D⟩;cases n with
    |zero=>
     clear c;go_wp2;go_end0
     exact⟨rfl,o.out rfl⟩
    |succ m=>
     have e:((m+1:Nat):Int)-1=(m:Int):=by omega
     rw[e];have Y:m<T.qf:=by omega
     obtain⟨ac,W,Z,I,G,E,⟨_,rfl⟩,z,s⟩:=c.leapAt a m p (by rw[k];exact Y);simp only[Value.slice.injEq,zt,Addr.mk.injEq] at I;obtain⟨⟨rfl,_⟩,_,rfl⟩:=I;rw[i] at s;rw[k] at z;have B:=c.setLeap a m v p g (by rw[k];exact Y);rw[i,LB] at B;have L:Hid (jW v (m+1) l=if l.getD m 0>v then jW v m (l.set m v) else l):=by rw[Hid,jW]
     have aa:=Q7 c;clear c p i e;have Q:Hid (vx lo (wr.setCell ⟨ns[a].1,m,none⟩ (ι v)) tb (setNode T a ⟨l.set m v,C⟩) (.slice (some ⟨F,0,none⟩) T.qi.length j) ns):=B;clear B;simp only at s;generalize l.getD m 0=x at *;by_cases u:x>v
     ·rw[zc u] at L;go_wp2;go_roundw
      case rel=>
       refine⟨m,l.set m v,by omega,by go_num,Q.out,t.trans L,J.trans ((ze.set _ _ _ _).more fun x u=>?_)⟩;simp only[xG] at u;subst u;simp only[R8,zx,zI];exact zb (zb (so g).1)
      case measure=>simp[intOf]
     ·rw[za u] at L;go_wp2;go_end0
      exact⟨rfl,o.out L.out⟩
  ·have H:Hid (yb T a v d=T):=by unfold yb;rw[Hid,za (by omega)]
   obtain⟨ao,j,rfl⟩:=zp f.qi;obtain⟨M,q,r⟩:=f.box.boxed;clear f;go_enter func203,ntmps203;go_wp2
   (try simp only[Exit.inBlock,Exit.then]);refine zK (results_none rfl _ _ _) rfl ?_
   exact⟨rfl,by rw[H.out];exact⟨U,ze.refl _ _,fun b D=>zf D⟩⟩
 ·have H:Hid (yb T a v d=T):=by unfold yb;rw[Hid,za (by omega)]
  obtain⟨ao,j,rfl⟩:=zp f.qi;obtain⟨M,q,r⟩:=f.box.boxed;clear f;go_enter func203,ntmps203;go_wp2
  (try simp only[Exit.inBlock,Exit.then]);refine zK (results_none rfl _ _ _) rfl ?_
  exact⟨rfl,by rw[H.out];exact⟨U,ze.refl _ _,fun b D=>zf D⟩⟩
end
section
open Go.Proofs.Tryz Go.RowKit
variable {lo:Nat}
theorem Qk:(prog.info? 273).map (fun i=>(i.zero,i.size,i.bytes))=some (some (.agg #[ν,ν]),2,48):=by kernel_rfl
section
variable {P:Program} {ops:Array Oper} {o:Oper} {a:Act} {K:Act->World->Prop} {Q:Exit->Act->World->Prop}
theorem dE{E:Prop}(D w:World)(l:List Value)(Z:TypeId)(hg:o.guard=none)(s x:Operand)(t:TypeId)
  (ho:o.op=.call {callee:=.builtin .append,args:=#[s,x],argTypes:=#[t,t]})
  (p:Nat) (e:TypeId) (i:TypeInfo) (z:Value) (d f:Nat) (ht:P.underlying t=some (.slice e)) (hi:P.info? e=some i) (X:i.zero=some z)
  (A:i.size=d) (N:i.bytes=f) (J:z.cells.size=d) (G:0<d)
  (v:Value) (n:Nat) (L:List Value) (T:a.eval s=v) (F:D.ownsRow p e d v n L) (q:μ D w)
  (b c:Nat) (W:a.eval x=.slice (some ⟨b,0,none⟩) 1 c) (U:Q8 w b l.toArray Z) (hl:l.length=d) (h1:∀u∈l,u.oneCell'=true)
  (hn:n<=10000000000) (r:f<=1000) (M:p<=D.heap.size)
  (h:∀C y,y.ownsRow p e d C (n+1) (L++l)->ze v.ownBlock.toList D y->(C.ownBlock=v.ownBlock∨∃g,C.ownBlock=some g/\D.heap.size<=g)->(∀k,k<w.heap.size->some k≠v.ownBlock->y.heap[k]?=w.heap[k]?)->w.heap.size<=y.heap.size->K (a.put o.dst C) y):
  if Region.wanted o (yielded ops a.tmps)=true then Oper.wp P o a w K Q else E:=by
 have hw:Region.wanted o (yielded ops a.tmps)=true:=by simp[Region.wanted,hg]
 rw[zc hw];have B:=zB F q;have S:=q.size;obtain⟨C,y,hr,Y,m,_,I⟩:=run_append_own_at (P:=P) w p t o.type e i z d f ht hi X A N J G v n L B ⟨b,0,none⟩ 1 c l (by omega) (by
  intro j u V;rw[Addr.add_lit,vB,U.rules.1];simpa using V) h1 (by unfold maxLen;omega) (by
  have:(n+1)*f<=10000000001*1000:=Nat.mul_le_mul (by omega) r;omega) (by omega)
 unfold Oper.wp execOp;simp only[ho,resolve,invoke,builtin,Sem.run_bind,Sem.run_pure,Result.andThen_ok,List.map_toArray,xH,List.map_nil,T,W,hr];refine h C y Y ⟨m.os.trans q.os,m.tape.trans q.tape,m.output.trans q.output,by have:=m.size;omega,fun k O hm=>?_⟩ ?_ (fun k O H=>m.block k O H) m.size
 ·rw[m.block k (by omega) (fun e=>hm (by rw[←e];simp))];exact q.block k O
 ·rcases I with R|R
  ·exact zf R
  ·exact zb ⟨_,R,by omega⟩
end
theorem E9{W:World}{g n:Nat}{T:TypeId}(h:W.heap[g]?=some (.cells (madeCells #[ι 0] n) T (0,0)))(d:lo<=g)(c:n<=maxLen):W.ownsRow lo T 1 (sl g n) n ((List.replicate n 0).map Rm):=by
 refine⟨by simp,zb ⟨g,n,madeCells #[ι 0] n,rfl,d,h,zg _,c,by rw[size_madeCells];omega,?_⟩⟩;apply m7;intro i;by_cases b:i<n
 ·simp[b,madeCells,Rm,Nat.mod_one]
 ·simp[List.getElem?_take,b]
theorem mi(w:World)(a b c:Obj):((((w.alloc a).alloc b).alloc c).drew).heap[w.heap.size]?=some a/\((((w.alloc a).alloc b).alloc c).drew).heap[w.heap.size+1]?=some b/\((((w.alloc a).alloc b).alloc c).drew).heap[w.heap.size+1+1]?=some c:=by
 refine⟨?_,?_,?_⟩
 ·show(((w.heap.push a).push b).push c)[w.heap.size]?=_;simp[Array.getElem?_push];omega
 ·show(((w.heap.push a).push b).push c)[w.heap.size+1]?=_;rw[Array.getElem?_push,za (by simp),Array.getElem?_push,zc (by simp)]
 ·show(((w.heap.push a).push b).push c)[w.heap.size+1+1]?=_;rw[Array.getElem?_push,zc (by simp)]
theorem Ib(wd:Nat)(ns:List (Nat×Nat))(x:Nat×Nat):fJ wd (ns++[x])=fJ wd ns++[sl x.1 wd,sl x.2 wd]:=by simp[fJ]
theorem DQ(ns:List (Nat×Nat))(x:Nat×Nat):QY (ns++[x])=QY ns++[x.1,x.2]:=by simp[QY]
theorem vx.grow{w wr r:World}{tb:Nat}{T:zi}{t c:Value}{ns:List (Nat×Nat)}{m n:Nat}(h:vx lo w tb T t ns)(u:μ w wr)(W:w.heap.size<=m)(aa:w.heap.size<=n)(H:m≠n)
  (h1:wr.ownsRow w.heap.size 3 1 (sl m T.qf) T.qf ((List.replicate T.qf T.qf).map Rm)) (X:wr.ownsRow w.heap.size 3 1 (sl n T.qf) T.qf ((List.replicate T.qf 0).map Rm))
  (hs:ze t.ownBlock.toList wr r) (G:r.ownsRow lo 273 2 c (T.qi.length+1) (fJ T.qf ns++[sl m T.qf,sl n T.qf])) (I:c.ownBlock=t.ownBlock∨∃g,c.ownBlock=some g/\wr.heap.size<=g) (F:T.qi.length<100000000):
  ∃L,QX lo w (r.setCell ⟨tb,2,none⟩ c) tb (yv T) (R8 tb t ns) L:=by
 have A:lo<=w.heap.size:=by have:=h.low;have:=h.box.lt;omega
 have z:=h.box.below u;have y:=zB h.qi u;have p:=z.save hs (qv y z (by decide));have f:=ze.set r tb 2 c;have R:∀{D:Nat} {e:TypeId} {Y:Nat} {v:Value} {B:Nat} {E:List Value},r.ownsRow D e Y v B E->e≠229->∀b,v.ownBlock=some b->b∉[tb]:=fun G Z b s F=>uB G p Z s (by simpa using F);have l:∀{D:Nat} {v:Value} {B:Nat} {E:List Value},wr.ownsRow D 3 1 v B E->(r.setCell ⟨tb,2,none⟩ c).ownsRow D 3 1 v B E:=fun q=>by
  have S:=yT q hs (fun b s F=>sW q y (by decide) s (yr F));exact yT S f (R S (by decide))
 have J:ze (R8 tb t ns) w (r.setCell ⟨tb,2,none⟩ c):=((ze.of (M:=R8 tb t ns) u).newer hs (fun x C=>zf (by simp only[R8,zx,zI];exact zb (zf C)))).newer f (fun x C=>zf (by simp at C;simp[R8,C]));refine⟨_,⟨c,ns++[(m,n)],⟨h.low,?_,?_,by simp[yv,h.len],fun i O N=>?_,fun i O N=>?_,?_,h.wide,by simp[yv];omega,h.deep,h.few⟩,rfl⟩,J,fun b k=>?_⟩
 ·have U:=p.set 2 c;simpa [yv] using U
 ·rw[Ib];have:=yT G f (R G (by decide));simpa [yv] using this
 ·simp[yv] at O;by_cases d:i<T.qi.length
  ·have j:i<ns.length:=by rw[h.len];exact d
   simp only[yv,vu d,vu j];exact l (zB (h.leap i d j) u)
  ·obtain rfl:i=T.qi.length:=by omega
   have e:(ns++[(m,n)])[T.qi.length]=(m,n):=by simp[←h.len]
   rw[e];simp only[yv,rP];exact l (yt h1 A)
 ·simp[yv] at O;by_cases d:i<T.qi.length
  ·have j:i<ns.length:=by rw[h.len];exact d
   simp only[yv,vu d,vu j];exact l (zB (h.down i d j) u)
  ·obtain rfl:i=T.qi.length:=by omega
   have e:(ns++[(m,n)])[T.qi.length]=(m,n):=by simp[←h.len]
   rw[e];simp only[yv,rP];exact l (yt X A)
 ·rw[DQ,qa];refine⟨h.apart,by simp[H],fun a V b k e=>?_⟩;have:=(h.lt a (by simp only[R8,zx,zI];exact zb (zb V))).2;simp at k;omega
 ·simp only[R8,zx,zI,DQ] at k ⊢;rcases k with q|q|q|q
  ·simp[q]
  ·rcases I with e|⟨g,e,hg⟩
   ·rw[e] at q;simp[q]
   ·rw[e] at q;simp at q;have:=u.size;right;omega
  ·simp[q]
  ·simp at q;right;omega
theorem OE(k n x:Nat)(c:k<n):((List.replicate k x++List.replicate (n-k) 0).map Rm)[k]?=some (ι (0:Int)):=by
 obtain⟨m,b⟩:∃m,n-k=m+1:=⟨n-k-1,by omega⟩;rw[b,lK,d9 (by simp),List.length_replicate,kf];rfl
theorem NO(k n x:Nat)(c:k<n):((List.replicate k x++List.replicate (n-k) 0).map Rm).set k (.int .i64 x)=(List.replicate (k+1) x++List.replicate (n-(k+1)) 0).map Rm:=by
 obtain⟨m,b⟩:∃m,n-k=m+1:=⟨n-k-1,by omega⟩;rw[show n-(k+1)=m from by omega,b,show Value.int .i64 x=Rm x from rfl,←fu,fM _ _ (by simp),List.length_replicate,kf,List.replicate_succ' (n:=k),ky];rfl
def wL(w b:World)(wd:Nat)(s:Value):Prop:=∃e c d,s=(π e)/\c≠d/\w.heap.size<=e/\Q8 b e #[.slice (some ⟨c,0,none⟩) wd wd,.slice (some ⟨d,0,none⟩) wd wd] 273/\b.ownsRow w.heap.size 3 1 (sl c wd) wd ((List.replicate wd 0).map Rm)/\b.ownsRow w.heap.size 3 1 (sl d wd) wd ((List.replicate wd 0).map Rm)/\μ w b
theorem wL.mk'{w d:World}{wd nb b c:Nat}(g:Q8 d nb #[.slice (some ⟨b,0,none⟩) wd wd,.slice (some ⟨c,0,none⟩) wd wd] 273)(h:d.heap[b]?=some (.cells (madeCells #[ι 0] wd) 3 (0,0)))(k:d.heap[c]?=some (.cells (madeCells #[ι 0] wd) 3 (0,0)))(e:b≠c)(f:w.heap.size<=nb)(l:w.heap.size<=b)(j:w.heap.size<=c)(m:wd<=1000)(i:μ w d):wL w d wd ((π nb)):=
 ⟨nb,b,c,rfl,e,f,g,E9 h l (by unfold maxLen;omega),E9 k j (by unfold maxLen;omega),i⟩
theorem DI(w:World)(tb:Nat)(T:zi)(fp:List Nat)(h:zY lo w tb T fp)(hm:T.qi.length<100000000):
  Calls prog 162 #[(π tb)] w fun e Z=>e=ε (ι T.qi.length)/\∃s,QX lo w Z tb (yv T) fp s:=by
 obtain⟨nv,ns,L,rfl⟩:=h;have ad:=L.wide;have aq:=L.many;have ac:=fun W:World=>run_make_row' (P:=prog) (w:=W) 24 3 (ι 0) 8 underlying24 Q2 rfl .i64 .i64 T.qf (by omega) (by omega);obtain⟨J,m,l⟩:=L.box.boxed;have t:=Q7 L;clear L;have I:w.cell? ⟨tb,0,none⟩=some (ι T.qf):=by simp[J]
 go_enter func162,ntmps162;go_upto_region 1 with fail
 go_cut [3] from 5 to 15 (fun s3 wx=>wL w wx T.qf s3)
 case first=>
  go_region_held3 (fun Z=>Z.cell? ⟨tb,0,none⟩=some (ι T.qf)) (exact(Below.cell (w:=w) (p:=⟨tb,0,none⟩) (show μ w _ from(by go_grown)) l).trans I) (fail)
  all_goals
   go_wp2_with fail
   go_meet
   case rel=>
    apply wL.mk'
    ·first|exact(mi w _ _ _).1|exact(mi w _ _ _).2.1|exact(mi w _ _ _).2.2
    ·first|exact(mi w _ _ _).1|exact(mi w _ _ _).2.1|exact(mi w _ _ _).2.2
    ·first|exact(mi w _ _ _).1|exact(mi w _ _ _).2.1|exact(mi w _ _ _).2.2
    ·omega
    ·omega
    ·omega
    ·omega
    ·exact ad
    ·exact(by go_grown)
 case rest=>
  obtain⟨nb,r,gd,rfl,N,am,g,c,j,f⟩:=hcut;clear ac I J m l;obtain⟨v,y,H⟩:=g.boxed;have d:=t.out.box.below f;obtain⟨J,m,l⟩:=d.boxed;go_wp2;clear v y H J m l;go_loopw [19] (fun aa wr=>∃k:Nat,k<=T.qf/\aa=ι k/\Q8 wr nb #[.slice (some ⟨r,0,none⟩) T.qf T.qf,.slice (some ⟨gd,0,none⟩) T.qf T.qf] 273/\Q8 wr tb #[ι T.qf,ι T.ql,nv,ι T.count] 229/\wr.ownsRow w.heap.size 3 1 (sl r T.qf) T.qf ((List.replicate k T.qf++List.replicate (T.qf-k) 0).map Rm)/\wr.ownsRow w.heap.size 3 1 (sl gd T.qf) T.qf ((List.replicate T.qf 0).map Rm)/\μ w wr) (fun i _=>T.qf-(intOf i).toNat)
  case atStart=>exact⟨0,zv _,rfl,g,d,by simpa using c,j,f⟩
  case round=>
   clear g c j f d;obtain⟨k,hk,rfl,g,d,c,j,f⟩:=hrel;obtain⟨v,y,H⟩:=g.boxed;obtain⟨J,m,l⟩:=d.boxed;by_cases C:k<T.qf
   ·have aj:=xI c rfl;have E:=yV c rfl;have av:=qO c;obtain⟨ar,ae,hv,_,_,u⟩:=yx c (by omega);simp only[sl,Value.slice.injEq,zt,Addr.mk.injEq] at hv;obtain⟨⟨rfl,_⟩,_,B⟩:=hv;clear B;have O:=u k _ (OE k T.qf T.qf C);have q:=uW c k (by simp;omega) (ι T.qf);rw[NO k T.qf T.qf C] at q;have X:r≠nb:=uB c g (by decide) rfl;have S:r≠tb:=uB c d (by decide) rfl;have D:=yT j (ze.set wr r k (ι T.qf)) (fun b hb hm=>by simp[sl,Value.ownBlock] at hb hm;omega);have x:=g.set_ne (Ne.symm X) k (ι T.qf);have F:=d.set_ne (Ne.symm S) k (ι T.qf);have V:=f.setCell (p:=⟨r,k,none⟩) E (ι T.qf);clear u;go_wp2;go_region
    all_goals
     go_wp2;go_roundw
     ·exact⟨k+1,by omega,by go_num,Q8.drew x,Q8.drew F,zB q (zo _ _).drew,zB D (zo _ _).drew,V.drew⟩
     ·simp[intOf];omega
   ·obtain rfl:k=T.qf:=by omega
    rw[kf,List.replicate_zero,qM] at c;obtain⟨i0,hi,Y,U,M⟩:=info_parts Qk;obtain⟨ao,ab,rfl⟩:=zp t.out.qi;have n:=zB t.out.qi f;have au:lo<=w.heap.size:=by have:=t.out.low;have:=t.out.box.lt;omega
    have an:=f.size;go_wp2;go_region_law (first|(refine dE wr _ [.slice (some ⟨r,0,none⟩) T.qf T.qf,.slice (some ⟨gd,0,none⟩) T.qf T.qf] 273 rfl (.tmp 35) (.tmp 37) 227 rfl lo 273 i0 _ 2 48 underlying227 hi Y U M rfl (by decide) (.slice ao T.qi.length ab) T.qi.length (fJ T.qf ns) (by simp[Act.eval]) n (by exact(by go_grown)) wr.heap.size 1 (by simp[Act.eval]) (by exact Q8.drew (Q8.new _ _ _)) rfl (by simp[Value.oneCell']) (by omega) (by omega) (by omega) ?_;intro v' w2 z G A al ag;obtain⟨ai,af,rfl⟩:=zp z;have R:=d.save G (qv n d (by decide));obtain⟨ap,ak,ah⟩:=R.boxed))
    all_goals
     obtain⟨s,hW⟩:=t.out.grow f (yV c rfl) (yV j rfl) N c j G z A hm;have HW:=Q7 hW;clear hW;go_wp2;go_ret;exact⟨by simp,s,HW.out⟩
theorem Il(d:Nat):yY d<=3:=by unfold yY;(repeat' split)<;>omega
theorem eZ(w:World)(wd c:Nat)(y:wd<=1000)(u:c<=100000000):
  Calls prog 119 #[ι wd,ι c] w fun e m=>∃s g,e=ε ((π s))/\zY w.heap.size m s (yU wd c) g/\μ w m:=by
 have n:∀a b:Nat,a=zM wd->b=yY c->vx w.heap.size (w.alloc (.cells #[ι (a:Nat),ι (b:Nat),ν,ι 0] 229)) w.heap.size ⟨zM wd,yY c,[],0⟩ (ν) []:=by
  rintro a b rfl rfl;refine⟨zg _,Q8.new _ _ _,yD _ _ _ _,rfl,fun i h=>by simp at h,fun i h=>by simp at h,by simp[QY],?_,by simp,?_,by simp⟩
  ·simp only[zM];split<;>omega
  ·exact Il c
 have k:Hid (∀a b:Nat,a=zM wd->b=yY c->Calls prog 162 #[.pointer (some ⟨w.heap.size,0,none⟩)] (w.alloc (.cells #[ι (a:Nat),ι (b:Nat),ν,ι 0] 229)) fun e m=>∃g,e=ε (ι 0)/\zY w.heap.size m w.heap.size (yU wd c) g/\μ w m):=fun a b t j=>by
  refine(DI _ _ _ _ ⟨_,_,n a b t j,rfl⟩ (by simp)).mono fun e m ⟨x,q,r⟩=>⟨q,x,r.trie,?_⟩;exact((zo w.heap.size w).alloc (zg _) _).trans (r.save.below (by simp[R8,QY,Value.ownBlock]) (by simp))
 clear n;by_cases A:wd<1
 ·by_cases v:c<1
  ·have d:1=zM wd:=by unfold zM;split<;>omega
   have f:1=yY c:=by unfold yY;(repeat' split)<;>omega
   have H:=Q7 (k.out _ _ d f);clear d f k;go_enter func119,ntmps119;go_wp2_with (go_at_call 162;refine H.out.mono ?_;rintro e p ⟨g,rfl,l,j⟩)
   go_ret;exact⟨_,g,rfl,l,j⟩
  ·by_cases z:c>3
   ·have d:1=zM wd:=by unfold zM;split<;>omega
    have f:3=yY c:=by unfold yY;(repeat' split)<;>omega
    have H:=Q7 (k.out _ _ d f);clear d f k;go_enter func119,ntmps119;go_wp2_with (go_at_call 162;refine H.out.mono ?_;rintro e p ⟨g,rfl,l,j⟩)
    go_ret;exact⟨_,g,rfl,l,j⟩
   ·have d:1=zM wd:=by unfold zM;split<;>omega
    have f:c=yY c:=by unfold yY;(repeat' split)<;>omega
    have H:=Q7 (k.out _ _ d f);clear d f k;go_enter func119,ntmps119;go_wp2_with (go_at_call 162;refine H.out.mono ?_;rintro e p ⟨g,rfl,l,j⟩)
    go_ret;exact⟨_,g,rfl,l,j⟩
 ·by_cases v:c<1
  ·have d:wd=zM wd:=by unfold zM;split<;>omega
   have f:1=yY c:=by unfold yY;(repeat' split)<;>omega
   have H:=Q7 (k.out _ _ d f);clear d f k;go_enter func119,ntmps119;go_wp2_with (go_at_call 162;refine H.out.mono ?_;rintro e p ⟨g,rfl,l,j⟩)
   go_ret;exact⟨_,g,rfl,l,j⟩
  ·by_cases z:c>3
   ·have d:wd=zM wd:=by unfold zM;split<;>omega
    have f:3=yY c:=by unfold yY;(repeat' split)<;>omega
    have H:=Q7 (k.out _ _ d f);clear d f k;go_enter func119,ntmps119;go_wp2_with (go_at_call 162;refine H.out.mono ?_;rintro e p ⟨g,rfl,l,j⟩)
    go_ret;exact⟨_,g,rfl,l,j⟩
   ·have d:wd=zM wd:=by unfold zM;split<;>omega
    have f:c=yY c:=by unfold yY;(repeat' split)<;>omega
    have H:=Q7 (k.out _ _ d f);clear d f k;go_enter func119,ntmps119;go_wp2_with (go_at_call 162;refine H.out.mono ?_;rintro e p ⟨g,rfl,l,j⟩)
    go_ret;exact⟨_,g,rfl,l,j⟩
theorem PV(x y z:Value)(w:World):(Instr.index 165 (.agg #[x,y,z]) (ι 0)).run prog w=.ok x w:=by kernel_rfl
theorem Qm(x y z:Value)(w:World):(Instr.index 165 (.agg #[x,y,z]) (ι 1)).run prog w=.ok y w:=by kernel_rfl
theorem Qe(x y z:Value)(w:World):(Instr.index 165 (.agg #[x,y,z]) (ι 2)).run prog w=.ok z w:=by kernel_rfl
theorem QX.trans{w f d:World}{tb:Nat}{g e:zi}{fp a c:List Nat}(h:QX lo w f tb g fp a)(k:QX lo f d tb e a c):QX lo w d tb e fp c:=
 ⟨k.trie,h.save.newer k.save h.qo,fun b i=>(k.qo b i).elim (h.qo b) fun q=>zb (yc h.save.size q)⟩
theorem QX.refl{w:World}{tb:Nat}{T:zi}{fp:List Nat}(h:zY lo w tb T fp):QX lo w w tb T fp fp:=⟨h,ze.refl _ _,fun _ a=>zf a⟩
theorem QX.below{w b:World}{tb:Nat}{T:zi}{fp:List Nat}(h:zY lo w tb T fp)(a:μ w b):QX lo w b tb T fp fp:=⟨h.below a,ze.of a,fun _ a=>zf a⟩
theorem CW(T:zi)(a v d:Nat):(yb T a v d).qi.length=T.qi.length/\(yb T a v d).count=T.count/\(yb T a v d).ql=T.ql/\(yb T a v d).qf=T.qf:=by
 unfold yb;split<;>simp
theorem CV(T:zi)(a v:Nat):(vX T a v).1.qi.length<=T.qi.length+1/\(vX T a v).1.count=T.count/\(vX T a v).1.ql=T.ql/\(vX T a v).1.qf=T.qf:=by
 unfold vX;split
 ·simp
 ·obtain⟨d,e,b,c⟩:=CW (yv T) a v T.qi.length;simp only[d,e,b,c];simp[yv]
theorem Bs(w:World)(tb:Nat)(T:zi)(fp:List Nat)(a v:Nat)(h:zY lo w tb T fp)(p:T.qi.length<100000000):
  Calls prog 191 #[(π tb),ι a,ι v] w fun e o=>e=ε (ι ((vX T a v).2:Nat))/\∃n,QX lo w o tb (vX T a v).1 fp n:=by
 have d:=Q7 (nt w tb T fp a v h);cases l:zG T a v with
 |some b=>
  have f:Hid (vX T a v=(T,b)):=by unfold vX;rw[Hid,l]
  rw[l] at d;simp only[qU,ux,kc] at d;have q:=Q7 h;go_enter func191,ntmps191;go_wp2_with (go_at_call 130;refine d.out.mono ?_;rintro e o ⟨rfl,c⟩;obtain rfl:=c.symm)
  go_ret;exact⟨by rw[f.out];rfl,fp,by rw[f.out];exact QX.refl q.out⟩
 |none=>
  have f:Hid (vX T a v=(yb (yv T) a v T.qi.length,T.qi.length)):=by unfold vX;rw[Hid,l]
  rw[l] at d;simp only[qU,gC,g6] at d;have r:=Q7 (DI w tb T fp h p);go_enter func191,ntmps191;go_wp2_with (first|(go_at_call 130;refine d.out.mono ?_;rintro e o ⟨rfl,c⟩;obtain rfl:=c.symm)|(go_at_call 162;refine r.out.mono ?_;rintro e s ⟨rfl,g,i⟩;have j:=Q7 i;clear i)|(go_at_call 203;refine(Sf s tb (yv T) g a v T.qi.length j.out.trie).mono ?_;rintro e t ⟨rfl,k⟩;have m:=Q7 k;clear k))
  go_ret;exact⟨by rw[f.out];rfl,g,by rw[f.out];exact j.out.trans m.out⟩
theorem vx.setCount{w:World}{tb:Nat}{T:zi}{f:Value}{ns:List (Nat×Nat)}(h:vx lo w tb T f ns)(n:Nat)(r:n<=1000000000):QX lo w (w.setCell ⟨tb,3,none⟩ (ι n)) tb {T with count:=n} (R8 tb f ns) (R8 tb f ns):=by
 have a:=ze.set w tb 3 (ι n);have j:∀{o:Nat} {e:TypeId} {s:Nat} {v:Value} {l:Nat} {p:List Value},w.ownsRow o e s v l p->e≠229->∀b,v.ownBlock=some b->b∉[tb]:=fun t u b g m=>uB t h.box u g (by simpa using m);refine⟨⟨f,ns,⟨h.low,?_,yT h.qi a (j h.qi (by decide)),h.len,fun i d c=>yT (h.leap i d c) a (j (h.leap i d c) (by decide)),fun i d c=>yT (h.down i d c) a (j (h.down i d c) (by decide)),h.apart,h.wide,h.many,h.deep,r⟩,rfl⟩,a.more (by simp[R8]),fun b q=>zf q⟩;have k:=h.box.set 3 (ι n);simpa using k
theorem oG(w:World)(tb:Nat)(T:zi)(fp:List Nat)(a v m:Nat)(h:zY lo w tb T fp)(A:T.count<1000000000):
  Calls prog 190 #[(π tb),ι a,ι v,ι m] w fun e o=>e=ε (.bool (gs T a v m).2)/\∃n,QX lo w o tb (gs T a v m).1 fp n:=by
 have g:=Q7 (nt w tb T fp a v h);cases l:zG T a v with
 |some b=>
  have j:Hid (gs T a v m=(T,false)):=by unfold gs;rw[Hid,l]
  rw[l] at g;simp only[qU,ux,kc] at g;have B:=Q7 h;go_enter func190,ntmps190;go_wp2_with (go_at_call 130;refine g.out.mono ?_;rintro e o ⟨rfl,c⟩;obtain rfl:=c.symm)
  go_ret;exact⟨by rw[j.out];rfl,fp,by rw[j.out];exact QX.refl B.out⟩
 |none=>
  have j:Hid (gs T a v m=({yb T a v m with count:=(yb T a v m).count+1},true)):=by unfold gs;rw[Hid,l]
  rw[l] at g;simp only[qU,gC,g6] at g;have x:=Q7 (Sf w tb T fp a v m h);have i:=(CW T a v m).2.1;generalize yb T a v m=k at *;rw[←i] at A;clear h i;go_enter func190,ntmps190;go_wp2_with (first|(go_at_call 130;refine g.out.mono ?_;rintro e o ⟨rfl,c⟩;obtain rfl:=c.symm)|(go_at_call 203;refine x.out.mono ?_;rintro e s ⟨rfl,f⟩;obtain⟨C,D,d,p⟩:=f.trie;have q:=Q7 f;have z:Hid (QX lo s (s.setCell ⟨tb,3,none⟩ (ι ((k.count+1:Nat)))) tb {k with count:=k.count+1} fp fp):=(by rw[p];exact d.setCount (k.count+1) (by omega));have r:=d.box;clear f d;obtain⟨y,t,u⟩:=r.boxed))
  go_ret;exact⟨by rw[j.out];rfl,fp,by rw[j.out];exact q.out.trans z.out⟩
theorem Sp(w:World)(tb:Nat)(T:zi)(fp:List Nat)(x y z:Nat)(h:zY lo w tb T fp):
  Calls prog 189 #[(π tb),.agg #[ι x,ι y,ι z]] w fun e o=>e=ε (.bool (fW T [x,y,z]))/\μ w o:=by
 obtain⟨v,B,f,rfl⟩:=h;have l:=f.box;have n:=PV (ι x) (ι y) (ι z);have s:=Qm (ι x) (ι y) (ι z);have q:=Qe (ι x) (ι y) (ι z);have g:Hid (fW T [x,y,z]=(decide (x<T.qf)&&(decide (y<T.qf)&&decide (z<T.qf)))):=by simp[Hid,fW]
 go_enter func189,ntmps189;go_wp2;go_loopw [8] (fun t wr=>∃k:Nat,k<=3/\t=ι k/\(1<=k->x<T.qf)/\(2<=k->y<T.qf)/\(3<=k->z<T.qf)/\μ w wr) (fun i _=>3-(intOf i).toNat)
 case atStart=>exact⟨0,by omega,rfl,by omega,by omega,by omega,(by go_grown)⟩
 case round=>
  obtain⟨k,p,rfl,f,m,u,a⟩:=hrel;have d:=l.below a;obtain⟨A,r⟩:=d.rules;match k,p with
  |0,_=>
   by_cases b:x<T.qf
   ·go_wp2;go_roundw
    case rel=>exact⟨1,by omega,rfl,fun _=>b,by omega,by omega,a⟩
    case measure=>simp[intOf]
   ·go_wp2;go_ret;exact⟨by rw[g.out];simp[b],a⟩
  |1,_=>
   have b:=f (by omega);by_cases c:y<T.qf
   ·go_wp2;go_roundw
    case rel=>exact⟨2,by omega,rfl,fun _=>b,fun _=>c,by omega,a⟩
    case measure=>simp[intOf]
   ·go_wp2;go_ret;exact⟨by rw[g.out];simp[c],a⟩
  |2,_=>
   have b:=f (by omega);have c:=m (by omega);by_cases j:z<T.qf
   ·go_wp2;go_roundw
    case rel=>exact⟨3,by omega,rfl,fun _=>b,fun _=>c,fun _=>j,a⟩
    case measure=>simp[intOf]
   ·go_wp2;go_ret;exact⟨by rw[g.out];simp[j],a⟩
  |3,_=>
   have b:=f (by omega);have c:=m (by omega);have j:=u (by omega);go_wp2;go_ret;exact⟨by rw[g.out];simp[b,c,j],a⟩
theorem GB(w:World)(tb:Nat)(T:zi)(fp:List Nat)(x y z m:Nat)(h:zY lo w tb T fp)(hn:T.qi.length<=90000000)(hc:T.count<1000000000):
  Calls prog 163 #[(π tb),.agg #[ι x,ι y,ι z],ι m] w fun e U=>e=ε (.bool (addP T [x,y,z] m).2)/\∃G,QX lo w U tb (addP T [x,y,z] m).1 fp G:=by
 have P:=PV (ι x) (ι y) (ι z);have Z:=Qm (ι x) (ι y) (ι z);have V:=Qe (ι x) (ι y) (ι z);have F:T.ql<=3:=by obtain⟨u,ns,L,_⟩:=h;exact L.deep
 have A:=Q7 fun W Q=>Sp W tb T fp x y z (h.below Q);have M:=Q7 h;clear h;cases t:fW T [x,y,z] with
 |false=>
  have l:Hid (addP T [x,y,z] m=(T,false)):=by simp[Hid,addP,t]
  rw[t] at A;clear t;go_enter func163,ntmps163;go_wp2_with (go_at_call 189;refine(A.out _ (by exact(by go_grown))).mono ?_;rintro e I ⟨rfl,n⟩;have r:μ w I:=zQ (by go_grown) n (zg _))
  go_ret;exact⟨by rw[l.out];rfl,fp,by rw[l.out];exact QX.below M.out r⟩
 |true=>
  have l:Hid (addP T [x,y,z] m=ve m T 0 0 [x,y,z]):=by simp[Hid,addP,t]
  rw[t] at A;clear t;go_enter func163,ntmps163;go_wp2_with (go_at_call 189;refine(A.out _ (by exact(by go_grown))).mono ?_;rintro e I ⟨rfl,n⟩;have r:μ w I:=zQ (by go_grown) n (zg _);have B:=(Q8.new w #[ι x,ι y,ι z] 165).below n;obtain⟨H,J,K⟩:=B.boxed)
  clear H J K B n A;go_loopw [7,15] (fun Y s wr=>∃(k a:Nat) (b:zi) (g:List Nat),k<=3/\s=ι k/\Y=ι a/\Hid (QX lo w wr tb b fp g)/\Hid (ve m T 0 0 [x,y,z]=ve m b a k ([x,y,z].drop k))/\b.qi.length<=T.qi.length+k/\b.count=T.count/\b.ql=T.ql) (fun _ s _=>3-(intOf s).toNat)
  case atStart=>exact⟨0,0,T,fp,by omega,rfl,rfl,QX.below M.out r,rfl,by omega,rfl,rfl⟩
  case round=>
   obtain⟨k,a,b,g,X,rfl,rfl,j,o,aa,R,D⟩:=hrel;have q:∃u,Q8 wr tb #[ι b.qf,ι b.ql,u,ι b.count] 229:=by obtain⟨u,ns,L,_⟩:=j.out.trie;exact⟨u,L.box⟩
   obtain⟨u,q⟩:=q;rw[D] at q;obtain⟨ab,O,S⟩:=q.boxed;match k,X with
   |0,_=>
    by_cases E:T.ql<=1
    ·have i:Hid (ve m b a 0 [x,y,z]=gs b a x m):=by rw[Hid];simp only[ve];rw[zc (by omega)]
     have p:=Q7 (oG wr tb b g a x m j.out.trie (by omega));go_wp2_with (go_at_call 190;refine p.out.mono ?_;rintro e C ⟨rfl,d,c⟩;have f:=Q7 c;clear c)
     go_ret;exact⟨by rw[l.out,o.out];simp only[List.drop];rw[i.out];rfl,d,by rw[l.out,o.out];simp only[List.drop];rw[i.out];exact j.out.trans f.out⟩
    ·have i:Hid (ve m b a 0 [x,y,z]=ve m (vX b a x).1 (vX b a x).2 1 [y,z]):=by rw[Hid];simp only[ve];rw[za (by omega)]
     obtain⟨N,q2,q3,q4⟩:=CV b a x;have p:=Q7 (Bs wr tb b g a x j.out.trie (by omega));generalize vX b a x=v at *;go_wp2_with (go_at_call 191;refine p.out.mono ?_;rintro e C ⟨rfl,d,c⟩;have f:=Q7 c;clear c)
     go_roundw
     case rel=>exact⟨1,v.2,v.1,d,by omega,rfl,rfl,j.out.trans f.out,(by rw[o.out];exact i.out),by omega,by omega,by omega⟩
     case measure=>simp[intOf]
   |1,_=>
    by_cases E:T.ql<=2
    ·have i:Hid (ve m b a 1 [y,z]=gs b a y m):=by rw[Hid];simp only[ve];rw[zc (by omega)]
     have p:=Q7 (oG wr tb b g a y m j.out.trie (by omega));go_wp2_with (go_at_call 190;refine p.out.mono ?_;rintro e C ⟨rfl,d,c⟩;have f:=Q7 c;clear c)
     go_ret;exact⟨by rw[l.out,o.out];simp only[List.drop];rw[i.out];rfl,d,by rw[l.out,o.out];simp only[List.drop];rw[i.out];exact j.out.trans f.out⟩
    ·have i:Hid (ve m b a 1 [y,z]=ve m (vX b a y).1 (vX b a y).2 2 [z]):=by rw[Hid];simp only[ve];rw[za (by omega)]
     obtain⟨N,q2,q3,q4⟩:=CV b a y;have p:=Q7 (Bs wr tb b g a y j.out.trie (by omega));generalize vX b a y=v at *;go_wp2_with (go_at_call 191;refine p.out.mono ?_;rintro e C ⟨rfl,d,c⟩;have f:=Q7 c;clear c)
     go_roundw
     case rel=>exact⟨2,v.2,v.1,d,by omega,rfl,rfl,j.out.trans f.out,(by rw[o.out];exact i.out),by omega,by omega,by omega⟩
     case measure=>simp[intOf]
   |2,_=>
    by_cases E:T.ql<=3
    ·have i:Hid (ve m b a 2 [z]=gs b a z m):=by rw[Hid];simp only[ve];rw[zc (by omega)]
     have p:=Q7 (oG wr tb b g a z m j.out.trie (by omega));go_wp2_with (go_at_call 190;refine p.out.mono ?_;rintro e C ⟨rfl,d,c⟩;have f:=Q7 c;clear c)
     go_ret;exact⟨by rw[l.out,o.out];simp only[List.drop];rw[i.out];rfl,d,by rw[l.out,o.out];simp only[List.drop];rw[i.out];exact j.out.trans f.out⟩
    ·exact zC F E
   |3,_=>
    have i:Hid (ve m b a 3 []=(b,false)):=by rw[Hid];simp only[ve]
    go_wp2;go_ret;exact⟨by rw[l.out,o.out];simp only[List.drop];rw[i.out];rfl,g,by rw[l.out,o.out];simp only[List.drop];rw[i.out];exact j.out⟩
theorem NV(w:World)(tb:Nat)(T:zi)(fp:List Nat)(x y z:Nat)(h:zY lo w tb T fp):
  Calls prog 83 #[(π tb),.agg #[ι x,ι y,ι z]] w fun e l=>e=ε (qU (uq T [x,y,z]))/\μ w l:=by
 have C:=PV (ι x) (ι y) (ι z);have I:=Qm (ι x) (ι y) (ι z);have H:=Qe (ι x) (ι y) (ι z);have o:∃t,Q8 w tb #[ι T.qf,ι T.ql,t,ι T.count] 229/\T.ql<=3:=by obtain⟨t,K,A,_⟩:=h;exact⟨t,A.box,A.deep⟩
 obtain⟨t,o,u⟩:=o;have r:=Q7 fun W a v E=>nt W tb T fp a v (h.below E);clear h;have p:Hid (uq T [x,y,z]=uz T 0 0 [x,y,z]):=rfl;go_enter func83,ntmps83;go_wp2;go_loopw [6,12] (fun D n wr=>∃k a:Nat,k<=3/\n=ι k/\D=ι a/\Hid (uz T 0 0 [x,y,z]=uz T a k ([x,y,z].drop k))/\μ w wr) (fun _ n _=>3-(intOf n).toNat)
 case atStart=>exact⟨0,0,by omega,rfl,rfl,rfl,(by go_grown)⟩
 case round=>
  obtain⟨k,a,G,rfl,rfl,m,c⟩:=hrel;have s:=o.below c;obtain⟨J,B,F⟩:=s.boxed;match k,G with
  |0,_=>
   cases g:zG T a x with
   |none=>
    have i:Hid (uz T a 0 [x,y,z]=none):=by rw[Hid];simp only[uz];rw[g]
    have f:=r.out wr a x c;rw[g] at f;simp only[qU,gC,g6] at f;have j:=Q7 f;clear f g;go_wp2_with (go_at_call 130;refine j.out.mono ?_;rintro e l ⟨rfl,d⟩;obtain rfl:=d.symm)
    go_ret2
    exact⟨by rw[p.out,m.out];simp only[List.drop];rw[i.out];rfl,c⟩
   |some b=>
    have f:=r.out wr a x c;rw[g] at f;simp only[qU,ux,kc] at f;have j:=Q7 f;clear f;by_cases q:T.ql<=1
    ·have i:Hid (uz T a 0 [x,y,z]=some b):=by rw[Hid];simp only[uz];rw[g];simp only;rw[zc (by omega)]
     clear g;go_wp2_with (go_at_call 130;refine j.out.mono ?_;rintro e l ⟨rfl,d⟩;obtain rfl:=d.symm)
     go_ret2
     exact⟨by rw[p.out,m.out];simp only[List.drop];rw[i.out];rfl,c⟩
    ·have i:Hid (uz T a 0 [x,y,z]=uz T b 1 [y,z]):=by rw[Hid];simp only[uz];rw[g];simp only;rw[za (by omega)]
     clear g;go_wp2_with (go_at_call 130;refine j.out.mono ?_;rintro e l ⟨rfl,d⟩;obtain rfl:=d.symm)
     go_roundw
     case rel=>exact⟨1,b,by omega,rfl,rfl,(by rw[m.out];exact i.out),c⟩
     case measure=>simp[intOf]
  |1,_=>
   cases g:zG T a y with
   |none=>
    have i:Hid (uz T a 1 [y,z]=none):=by rw[Hid];simp only[uz];rw[g]
    have f:=r.out wr a y c;rw[g] at f;simp only[qU,gC,g6] at f;have j:=Q7 f;clear f g;go_wp2_with (go_at_call 130;refine j.out.mono ?_;rintro e l ⟨rfl,d⟩;obtain rfl:=d.symm)
    go_ret2
    exact⟨by rw[p.out,m.out];simp only[List.drop];rw[i.out];rfl,c⟩
   |some b=>
    have f:=r.out wr a y c;rw[g] at f;simp only[qU,ux,kc] at f;have j:=Q7 f;clear f;by_cases q:T.ql<=2
    ·have i:Hid (uz T a 1 [y,z]=some b):=by rw[Hid];simp only[uz];rw[g];simp only;rw[zc (by omega)]
     clear g;go_wp2_with (go_at_call 130;refine j.out.mono ?_;rintro e l ⟨rfl,d⟩;obtain rfl:=d.symm)
     go_ret2
     exact⟨by rw[p.out,m.out];simp only[List.drop];rw[i.out];rfl,c⟩
    ·have i:Hid (uz T a 1 [y,z]=uz T b 2 [z]):=by rw[Hid];simp only[uz];rw[g];simp only;rw[za (by omega)]
     clear g;go_wp2_with (go_at_call 130;refine j.out.mono ?_;rintro e l ⟨rfl,d⟩;obtain rfl:=d.symm)
     go_roundw
     case rel=>exact⟨2,b,by omega,rfl,rfl,(by rw[m.out];exact i.out),c⟩
     case measure=>simp[intOf]
  |2,_=>
   cases g:zG T a z with
   |none=>
    have i:Hid (uz T a 2 [z]=none):=by rw[Hid];simp only[uz];rw[g]
    have f:=r.out wr a z c;rw[g] at f;simp only[qU,gC,g6] at f;have j:=Q7 f;clear f g;go_wp2_with (go_at_call 130;refine j.out.mono ?_;rintro e l ⟨rfl,d⟩;obtain rfl:=d.symm)
    go_ret2
    exact⟨by rw[p.out,m.out];simp only[List.drop];rw[i.out];rfl,c⟩
   |some b=>
    have f:=r.out wr a z c;rw[g] at f;simp only[qU,ux,kc] at f;have j:=Q7 f;clear f;by_cases q:T.ql<=3
    ·have i:Hid (uz T a 2 [z]=some b):=by rw[Hid];simp only[uz];rw[g];simp only;rw[zc (by omega)]
     clear g;go_wp2_with (go_at_call 130;refine j.out.mono ?_;rintro e l ⟨rfl,d⟩;obtain rfl:=d.symm)
     go_ret2
     exact⟨by rw[p.out,m.out];simp only[List.drop];rw[i.out];rfl,c⟩
    ·exact zC u q
  |3,_=>
   have i:Hid (uz T a 3 []=none):=by rw[Hid];simp only[uz]
   go_wp2;go_ret2
   exact⟨by rw[p.out,m.out];simp only[List.drop];rw[i.out];rfl,c⟩
end
section
open Go.Proofs.Tryz Go.RowKit
theorem OY(w:World)(wb:Nat)(a b c:Int)(s:ByteArray):
  Calls prog 94 #[(π wb),.agg #[ι 1,ι a,ι b,ι c,.string s]] w fun e d=>e=ε (.bool false)/\μ w d:=by
 go_enter func94,ntmps94;go_wp2;go_ret;exact⟨rfl,(by go_grown)⟩
theorem Jj(w:World)(wb:Nat)(a b c:Int)(s:ByteArray)(c0 i p h k q j m n l d g f:Value)(o:Q8 w wb #[c0,i,p,h,k,q,j,m,n,l,ν,d,g,f] 35):
  Calls prog 94 #[(π wb),.agg #[ι 17,ι a,ι b,ι c,.string s]] w fun e r=>e=ε (.bool true)/\μ w r:=by
 obtain⟨u,v,t⟩:=o.boxed;go_enter func94,ntmps94;go_wp2;go_ret;exact⟨rfl,(by go_grown)⟩
end
def bl(x:ByteArray):List UInt8:=x.data.toList
def mw(l:zj):Prop:=(nR (bl l.pred)/\yN (RR (bl l.pred))=true)/\∀x∈l.args,nR (bl x)
def n7(c:zd):Prop:=c.head.neg=false/\mw c.head/\∀l∈c.body,mw l
end Go.Proofs.YteampbddflhngaaGreat
