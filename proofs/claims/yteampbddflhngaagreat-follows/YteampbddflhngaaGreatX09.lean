import Derived.Deep.OwnRows
import Derived.Deep.RegionWith
import Derived.Laws.CopyOwn
import Derived.Maps.AppendAt
import Derived.Deep.CutRange
import Derived.Test.YteampbddflhngaaGreatX06
import Derived.Test.YteampbddflhngaaGreatX07
import Derived.Test.YteampbddflhngaaGreatX08
namespace Go.Proofs.YteampbddflhngaaGreat
set_option linter.all false
set_option maxRecDepth 100000
set_option maxHeartbeats 4000000
section
open Go.Proofs.Tryz Go.RowKit
variable {lo:Nat}{r r2:List P4}
def kg(l:zj):Nat:=l.args.length+1
def QO(a:List zj):Nat:=a.foldr (fun l n=>kg l+n) 0
def Re(c:zc):Nat:=kg c.head+QO c.body
def QQ(cs:List zc):Nat:=cs.foldr (fun c n=>Re c+n) 0
theorem Bj:∀(r:List P4) {ts:List ByteArray} {r2:List P4},yi r=some (ts,r2)->ts.length+r2.length<=r.length
 |[],_,_,h=>by simp[yi] at h
 |[x],ts,r2,h=>by
  simp only[yi] at h;split at h<;>simp at h
  obtain⟨rfl,rfl⟩:=h;simp
 |x::y::r,ts,r2,h=>by
  simp only[yi] at h;split at h
  ·split at h
   ·cases a:yi r with
    |none=>rw[a] at h;simp at h
    |some z=>
     obtain⟨b,c⟩:=z;rw[a] at h;simp at h;have:=Bj r a;obtain⟨rfl,rfl⟩:=h;simp;omega
   ·simp at h;obtain⟨rfl,rfl⟩:=h;simp;omega
  ·simp at h
theorem ie{a:zj}(h:yY r=some (a,r2)):kg a+r2.length<=r.length:=by
 cases r with
 |nil=>simp[yY,PM] at h
 |cons x r=>
  unfold yY at h;split at h
  ·split at h
   ·split at h
    ·simp at h
    ·rename_i c d b;have:=Bj _ b;split at h<;>simp at h
     obtain⟨rfl,rfl⟩:=h;simp[kg] at this ⊢;omega
   ·simp at h;obtain⟨rfl,rfl⟩:=h;simp[kg];omega
  ·simp at h
theorem NQ{a:zj}(h:us r=some (a,r2)):kg a+r2.length<=r.length:=by
 unfold us at h;split at h
 ·cases b:yY r.tail with
  |none=>rw[b] at h;simp at h
  |some z=>
   obtain⟨c,d⟩:=z;rw[b] at h;simp at h;have:=ie b;obtain⟨rfl,rfl⟩:=h;simp[kg] at this ⊢;omega
 ·exact ie h
theorem I8{n:Nat}:∀{r r2:List P4} {b:List zj},xE n r=some (b,r2)->QO b+r2.length<=r.length:=by
 induction n with
 |zero=>intro r r2 b h;simp[xE] at h
 |succ n g=>
  intro r r2 b h;cases c:us r with
  |none=>rw[pI c] at h;cases h
  |some z=>
   obtain⟨a,f⟩:=z;have:=NQ c;by_cases e:PM f=6
   ·rw[pj c e] at h;cases d:xE n f.tail with
    |none=>rw[d] at h;simp at h
    |some z=>
     rw[d] at h;simp at h;have:=g d;obtain⟨rfl,rfl⟩:=h;simp[QO] at this ⊢;omega
   ·rw[nU c e] at h;simp at h;obtain⟨rfl,rfl⟩:=h;simp[QO];omega
theorem Ki{n:Nat}{c:zc}(h:vc n r=some (c,r2)):Re c+r2.length<=r.length:=by
 unfold vc at h;split at h
 ·cases h
 ·rename_i a g d;have:=ie d;split at h
  ·split at h
   ·cases h
   ·rename_i b f e;have:=I8 e;split at h<;>simp at h
    obtain⟨rfl,rfl⟩:=h;simp[Re] at this ⊢;omega
  ·split at h<;>simp at h
   obtain⟨rfl,rfl⟩:=h;simp[Re,QO];omega
theorem sM{a:Nat}:∀{m:Nat} {r:List P4} {cs:List zc},yF a m r=some cs->QQ cs<=r.length
 |_,[],cs,h=>by simp[yF] at h;subst h;simp[QQ]
 |0,_::_,cs,h=>by simp[yF] at h
 |m+1,x::r,cs,h=>by
  cases d:vc a (x::r) with
  |none=>rw[sK (by simp) d] at h;cases h
  |some z=>
   obtain⟨c,r2⟩:=z;rw[pP (by simp) d] at h;cases b:yF a m r2 with
   |none=>rw[b] at h;simp at h
   |some g=>
    rw[b] at h;simp at h;subst h;have f:=Ki d;have e:=sM b;simp only[QQ,List.foldr_cons,xd] at f e ⊢;omega
theorem ri(b:List zj):xf b+b.length=QO b:=by
 induction b with
 |nil=>rfl
 |cons a b c=>simp[xf,QO,kg] at c ⊢;omega
theorem ex{cs:List zc}{c:zc}(h:c∈cs):Re c<=QQ cs:=by
 induction cs with
 |nil=>cases h
 |cons a cs b=>
  rcases zu.1 h with rfl|h
  ·simp[QQ]
  ·have:=b h;simp[QQ] at this ⊢;omega
theorem e9(cs:List zc):(cs.flatMap zl).length<=QQ cs:=by
 induction cs with
 |nil=>simp
 |cons a cs b=>have:=ri a.body;simp[QQ,Re,zl,kg] at b ⊢;omega
theorem wE(cs:List zc):cs.length<=QQ cs:=by
 induction cs with
 |nil=>simp
 |cons a cs b=>simp[QQ,Re,kg] at b ⊢;omega
theorem i4{cs:List zc}(h:QQ cs<=1000):∀c∈cs,vH c:=fun c b=>by
 have a:=ex b;have d:=ri c.body;unfold Re kg at a;exact⟨by omega,by omega⟩
theorem wI:∀(n:Nat) (s:ByteArray) (i:Nat) (l:List (Int×ByteArray)),PC n s i=some l->l.length<=s.size-i
 |0,_,_,l,h=>by simp[PC] at h;subst h;simp
 |n+1,s,i,l,h=>by
  unfold PC at h;split at h
  ·rename_i d;split at h
   ·have:=wI n s (i+1) l h;omega
   ·split at h
    ·cases h
    ·rename_i c;split at h
     ·cases h
     ·cases a:PC n s (ym s i (yX (P8 s i) (P8 s (i+1)))) with
      |none=>rw[a] at h;simp at h
      |some b=>
       rw[a] at h;simp at h;subst h;have:=wI n s _ b a;have:=pC s i _ d rfl c;simp;omega
  ·simp at h;subst h;simp
theorem rO{s:ByteArray}{l:List P4}(h:PA s=some l):l.length<=s.size:=by have:=wI _ s 0 l h;omega
def uc(s:ByteArray):Except Int (List zc×List zh):=
 if 500<s.size then .error 1 else
 match PA s with
 |none=>.error 2
 |some l=>
  match yF l.length l.length l with
  |none=>.error 3
  |some a=>
   if a.any yE then .error 4 else
   match ud a with
   |none=>.error 5
   |some t=>
    if a.all xo then
     if (xF (t.length+1) t a).2 then .ok (a,(xF (t.length+1) t a).1) else .error 7
    else .error 6
def l7(o:Except Int (List zc×List zh))(w:World)(e:Ending)(a:World):Prop:=
 Below w.heap.size w a/\match o with
  |.error n=>e=.returned (.tuple #[.pointer none,.int .i64 n])
  |.ok (d,t)=>∃b v c,e=.returned (.tuple #[.pointer (some ⟨b,0,none⟩),.int .i64 0])/\Py a b #[v,c] 131/\Qa w.heap.size 171 a v d/\a.ownsRow w.heap.size 221 3 c t.length (xW t)/\w.heap.size<=b
theorem NA(s:ByteArray)(w:World)(hs:s.size<=500)(h:PA s=none):Calls prog 59 #[.string s] w fun e b=>e=.returned (.tuple #[.slice none 0 0,.bool false])/\Below w.heap.size w b:=by
 refine(Dn s w hs).mono ?_;rintro e b ⟨c,a⟩;rw[h] at a;exact⟨a,c⟩
theorem pc(s:ByteArray)(w:World)(l:List P4)(hs:s.size<=500)(h:PA s=some l):Calls prog 59 #[.string s] w fun e d=>∃v,e=.returned (.tuple #[v,.bool true])/\d.ownsRow w.heap.size 182 2 v l.length (jD l)/\l.length<=500/\Below w.heap.size w d:=by
 refine(Dn s w hs).mono ?_;rintro e d ⟨g,f⟩;rw[h] at f;obtain⟨v,a,b,c⟩:=f;exact⟨v,a,b,by omega,g⟩
theorem Mb(w:World)(b:Value)(l:List P4)(a:Nat)(f:w.ownsRow a 182 2 b l.length (jD l))(i:l.length<=500)(h:yF l.length l.length l=none):
  Calls prog 60 #[b] w fun e d=>e=.returned (.tuple #[.slice none 0 0,.bool false])/\Below w.heap.size w d:=by
 refine(Q3 w b l a f i).mono ?_;rintro e d ⟨g,c⟩;rw[h] at c;exact⟨c,g⟩
theorem rg(w:World)(d:Value)(l:List P4)(c:Nat)(cs:List zc)(i:w.ownsRow c 182 2 d l.length (jD l))(k:l.length<=500)(h:yF l.length l.length l=some cs):
  Calls prog 60 #[d] w fun e f=>∃v,e=.returned (.tuple #[v,.bool true])/\Qa w.heap.size 171 f v cs/\Below w.heap.size w f:=by
 refine(Q3 w d l c i k).mono ?_;rintro e f ⟨j,g⟩;rw[h] at g;obtain⟨v,a,b⟩:=g;exact⟨v,a,b,j⟩
theorem EW(w:World)(v:Value)(cs:List zc)(a:Qa lo 171 w v cs)(d:(cs.flatMap zl).length<=1000)(h:ud cs=none):
  Calls prog 62 #[v] w fun e c=>e=.returned (.tuple #[.agg #[.slice none 0 0],.bool false])/\Below w.heap.size w c:=by
 refine(Bg w v cs a d).mono ?_;rintro e c ⟨f,b⟩;rw[h] at b;exact⟨b,f⟩
theorem eI(w:World)(v:Value)(cs:List zc)(t:List zh)(c:Qa lo 171 w v cs)(i:(cs.flatMap zl).length<=1000)(h:ud cs=some t):
  Calls prog 62 #[v] w fun e d=>∃g,e=.returned (.tuple #[.agg #[g],.bool true])/\d.ownsRow w.heap.size 221 3 g t.length (xW t)/\Below w.heap.size w d:=by
 refine(Bg w v cs c i).mono ?_;rintro e d ⟨j,f⟩;rw[h] at f;obtain⟨v,a,b⟩:=f;exact⟨v,a,b,j⟩
theorem GR(s:ByteArray)(w:World)(hs:500<s.size)(a:s.size<=9223372036854775807):
  Calls prog 32 #[.string s] w fun e b=>l7 (.error 1) w e b:=by
 go_enter func32,ntmps32;go_wp2;go_ret2
 exact⟨zo _ _,rfl⟩
theorem O2(s:ByteArray)(w:World)(hs:s.size<=500)(b:PA s=none):
  Calls prog 32 #[.string s] w fun e d=>l7 (.error 2) w e d:=by
 have c:=Px b;clear b;go_enter func32,ntmps32;go_wp2_with (first|(go_at_call 59;refine(NA s _ hs c).mono ?_;rintro e f ⟨rfl,a⟩))
 go_ret2
 exact⟨a,rfl⟩
theorem Mi(s:ByteArray)(w:World)(hs:s.size<=500)(l:List P4)(i:PA s=some l)(h:yF l.length l.length l=none):
  Calls prog 32 #[.string s] w fun e m=>l7 (.error 3) w e m:=by
 have k:=Px i;have n:=Px h;clear i h;go_enter func32,ntmps32;go_wp2_with (first|(go_at_call 59;refine(pc s _ l hs k).mono ?_;rintro e q ⟨o,rfl,a,d,b⟩;obtain⟨j,g,rfl⟩:=zs a)|(go_at_call 60;refine(Mb _ _ l _ a d n).mono ?_;rintro e p ⟨rfl,c⟩;have f:=P3 b c))
 go_ret2
 exact⟨f,rfl⟩
theorem IM(s:ByteArray)(w:World)(hs:s.size<=500)(l:List P4)(cs:List zc)(C:cs.any yE=true)(y:PA s=some l)(x:yF l.length l.length l=some cs)(m:∀c∈cs,vH c)(d:cs.length<=1000):
  Calls prog 32 #[.string s] w fun e u=>l7 (.error 4) w e u:=by
 have B:=Px y;have z:=Px x;have k:=Px m;have f:=Px d;go_enter func32,ntmps32;go_wp2_with (first|(go_at_call 59;refine(pc s _ l hs B).mono ?_;rintro e H ⟨D,rfl,b,h,i⟩;obtain⟨A,q,rfl⟩:=zs b)|(go_at_call 60;refine(rg _ _ l _ cs b h z).mono ?_;rintro e E ⟨F,rfl,a,j⟩;obtain⟨v,t,rfl⟩:=a.qx;have n:=P3 i j)|(go_at_call 61;refine(rx _ _ cs a k.out f.out).mono ?_;rintro e G ⟨rfl,g⟩;have p:=P3 n g;have o:=a.below g))
 go_ret2
 exact⟨p,rfl⟩
theorem I6(s:ByteArray)(w:World)(hs:s.size<=500)(l:List P4)(cs:List zc)(J:cs.any yE=false)(D:PA s=some l)(C:yF l.length l.length l=some cs)(q:∀c∈cs,vH c)(h:cs.length<=1000)(g:(cs.flatMap zl).length<=1000)(z:ud cs=none):
  Calls prog 32 #[.string s] w fun e A=>l7 (.error 5) w e A:=by
 have I:=Px D;have F:=Px C;have p:=Px q;have i:=Px h;have d:=Px g;have E:=Px z;go_enter func32,ntmps32;go_wp2_with (first|(go_at_call 59;refine(pc s _ l hs I).mono ?_;rintro e P ⟨L,rfl,b,k,n⟩;obtain⟨H,x,rfl⟩:=zs b)|(go_at_call 60;refine(rg _ _ l _ cs b k F).mono ?_;rintro e M ⟨N,rfl,a,o⟩;obtain⟨B,y,rfl⟩:=a.qx;have t:=P3 n o)|(go_at_call 61;refine(rx _ _ cs a p.out i.out).mono ?_;rintro e O ⟨rfl,j⟩;have v:=P3 t j;have f:=a.below j)|(go_at_call 62;refine(EW _ _ cs f d.out E).mono ?_;rintro e K ⟨rfl,m⟩;have u:=P3 v m;have G:=u.size))
 go_ret2
 exact⟨(by go_grown),rfl⟩
theorem Gs(s:ByteArray)(w:World)(hs:s.size<=500)(l:List P4)(cs:List zc)(t:List zh)(U:cs.any yE=false)(L:cs.all xo=false)(O:PA s=some l)(N:yF l.length l.length l=some cs)(A:∀c∈cs,vH c)(j:cs.length<=1000)(i:(cs.flatMap zl).length<=1000)(J:ud cs=some t):
  Calls prog 32 #[.string s] w fun e K=>l7 (.error 6) w e K:=by
 have T:=Px O;have Q:=Px N;have n:=Px A;have f:=Px j;have g:=Px i;have P:=Px J;go_enter func32,ntmps32;go_wp2_with (first|(go_at_call 59;refine(pc s _ l hs T).mono ?_;rintro e w1 ⟨V,rfl,d,u,x⟩;obtain⟨S,H,rfl⟩:=zs d)|(go_at_call 60;refine(rg _ _ l _ cs d u Q).mono ?_;rintro e W ⟨X,rfl,a,y⟩;obtain⟨M,I,rfl⟩:=a.qx;have B:=P3 x y)|(go_at_call 61;refine(rx _ _ cs a n.out f.out).mono ?_;rintro e Y ⟨rfl,o⟩;have F:=P3 B o;have b:=a.below o)|(go_at_call 62;refine(eI _ _ cs t b g.out P).mono ?_;rintro e G ⟨pv,rfl,C,m⟩;obtain⟨z,k,rfl⟩:=zs C;have q:=P3 F m;have R:=q.size;have h:=b.below m)|(go_at_call 63;refine(iZ _ _ cs (by exact h.below (by go_grown)) n.out f.out).mono ?_;rintro e Z ⟨rfl,D⟩;have E:=(zo G.heap.size G).alloc (zf _) (.cells #[.slice z t.length k] 127);have p:=P3 E D;have v:=P3 q p))
 go_ret2
 exact⟨v,rfl⟩
theorem JZ(s:ByteArray)(w:World)(hs:s.size<=500)(l:List P4)(cs:List zc)(t:List zh)(hm:cs.any yE=false)(Y:cs.all xo=true)(U:(xF (t.length+1) t cs).2=false)(hS:PA s=some l)(hP:yF l.length l.length l=some cs)(N:∀c∈cs,vH c)(o:cs.length<=1000)(n:(cs.flatMap zl).length<=1000)(W:ud cs=some t)(J:t.length<=1000)(G:∀e∈t,e.qh<=0):
  Calls prog 32 #[.string s] w fun e X=>l7 (.error 7) w e X:=by
 have HS:=Px hS;have HP:=Px hP;have k:=Px N;have b:=Px o;have i:=Px n;have HC:=Px W;have B:=Px J;have F:=Px G;go_enter func32,ntmps32;go_wp2_with (first|(go_at_call 59;refine(pc s _ l hs HS).mono ?_;rintro e w1 ⟨fv,rfl,h,D,H⟩;obtain⟨ae,Q,rfl⟩:=zs h)|(go_at_call 60;refine(rg _ _ l _ cs h D HP).mono ?_;rintro e w2 ⟨cv,rfl,d,I⟩;obtain⟨Z,R,rfl⟩:=d.qx;have O:=P3 H I)|(go_at_call 61;refine(rx _ _ cs d k.out b.out).mono ?_;rintro e S ⟨rfl,q⟩;have z:=P3 O q;have a:=d.below q)|(go_at_call 62;refine(eI _ _ cs t a i.out HC).mono ?_;rintro e A ⟨pv,rfl,v,j⟩;obtain⟨L,p,rfl⟩:=zs v;have y:=P3 z j;have ac:=y.size;have m:=a.below j)|(go_at_call 63;refine(iZ _ _ cs (by exact m.below (by go_grown)) k.out b.out).mono ?_;rintro e w5 ⟨rfl,x⟩;have P:=(zo A.heap.size A).alloc (zf _) (.cells #[.slice L t.length p] 127);have f:=P3 P x;have E:=P3 y f)|(go_at_call 64;refine(CX S.heap.size _ A.heap.size t _ cs S rfl (P3 j f) a k.out b.out ⟨_,(Py.new A _ _).below x,zC v f⟩ B.out F.out).mono ?_;rintro e w6 ⟨rfl,u,K⟩;obtain⟨ad,T,g,M⟩:=u.view;obtain⟨V,aa⟩:=g.rules;have C:=E.trans (K.mono (zT z.size (zf _)));have ab:=g.lt))
 go_ret2
 exact⟨C,rfl⟩
theorem JP(s:ByteArray)(w:World)(hs:s.size<=500)(l:List P4)(cs:List zc)(t:List zh)(hm:cs.any yE=false)(aa:cs.all xo=true)(W:(xF (t.length+1) t cs).2=true)(hS:PA s=some l)(hP:yF l.length l.length l=some cs)(P:∀c∈cs,vH c)(u:cs.length<=1000)(p:(cs.flatMap zl).length<=1000)(Y:ud cs=some t)(N:t.length<=1000)(L:∀e∈t,e.qh<=0):
  Calls prog 32 #[.string s] w fun e Z=>l7 (.ok (cs,(xF (t.length+1) t cs).1)) w e Z:=by
 have HS:=Px hS;have HP:=Px hP;have m:=Px P;have d:=Px u;have k:=Px p;have HC:=Px Y;have G:=Px N;have K:=Px L;go_enter func32,ntmps32;go_wp2_with (first|(go_at_call 59;refine(pc s _ l hs HS).mono ?_;rintro e w1 ⟨fv,rfl,i,I,y⟩;obtain⟨ag,S,rfl⟩:=zs i)|(go_at_call 60;refine(rg _ _ l _ cs i I HP).mono ?_;rintro e w2 ⟨cv,rfl,f,M⟩;obtain⟨ab,T,rfl⟩:=f.qx;have Q:=P3 y M)|(go_at_call 61;refine(rx _ _ cs f m.out d.out).mono ?_;rintro e U ⟨rfl,A⟩;have q:=P3 Q A;have a:=f.below A)|(go_at_call 62;refine(eI _ _ cs t a k.out HC).mono ?_;rintro e F ⟨pv,rfl,C,g⟩;obtain⟨O,v,rfl⟩:=zs C;have E:=P3 q g;have ae:=E.size;have o:=a.below g)|(go_at_call 63;refine(iZ _ _ cs (by exact o.below (by go_grown)) m.out d.out).mono ?_;rintro e w5 ⟨rfl,D⟩;have R:=(zo F.heap.size F).alloc (zf _) (.cells #[.slice O t.length v] 127);have b:=P3 R D;have J:=P3 E b)|(go_at_call 64;refine(CX U.heap.size _ F.heap.size t _ cs U rfl (P3 g b) a m.out d.out ⟨_,(Py.new F _ _).below D,zC C b⟩ G.out K.out).mono ?_;rintro e w6 ⟨rfl,B,z⟩;obtain⟨af,V,h,n⟩:=B.view;obtain⟨X,ac⟩:=h.rules;have H:=J.trans (z.mono (zT q.size (zf _)));have ad:=h.lt))
 have x:=H.size;have j:=a.below ((P3 g b).trans z);go_ret2
 exact⟨(by go_grown),w6.heap.size,_,_,rfl,Py.new _ _ _,(j.low y.size).below zQ,yq (zC n zQ) q.size,x⟩
theorem B1(s:ByteArray)(w:World)(p:s.size<=9223372036854775807):
  Calls prog 32 #[.string s] w fun e v=>l7 (uc s) w e v:=by
 unfold uc;split
 ·rename_i u;exact GR s w u p
 ·rename_i u;have c:s.size<=500:=by omega
  split
  ·rename_i h;exact O2 s w c h
  ·rename_i l h;split
   ·rename_i j;exact Mi s w c l h j
   ·rename_i d j;have y:l.length<=500:=by
     have:=rO h;omega
    have x:=sM j;have f:=i4 (cs:=d) (by omega);have b:d.length<=1000:=by have:=wE d;omega
    have a:(d.flatMap zl).length<=1000:=by have:=e9 d;omega
    split
    ·rename_i q;exact IM s w c l d q h j f b
    ·rename_i q;have i:d.any yE=false:=by simpa using q
     split
     ·rename_i m;exact I6 s w c l d i h j f b a m
     ·rename_i t m;have o:t.length<=1000:=by have:=sj _ _ _ m;simp only[kE] at this;omega
      have n:=sT _ [] (by simp) t m;split
      ·rename_i g;split
       ·rename_i k;exact JP s w c l d t i g k h j f b a m o n
       ·rename_i k;exact JZ s w c l d t i g (by simpa using k) h j f b a m o n
      ·rename_i g;exact Gs s w c l d t i (by simpa using g) h j f b a m
end
section
open Go.RowKit
variable {lo:Nat}
def ki(lo:Nat)(w:World)(pb:Nat)(cs:List zc)(t:List zh):Prop:=lo<=pb/\∃v a,Py w pb #[v,a] 131/\Qa lo 171 w v cs/\w.ownsRow lo 221 3 a t.length (xW t)
theorem ki.below{w b:World}{pb:Nat}{cs:List zc}{t:List zh}(h:ki lo w pb cs t)(a:Below w.heap.size w b):ki lo b pb cs t:=by
 obtain⟨d,v,e,f,c,g⟩:=h;exact⟨d,v,e,f.below a,c.below a,zC g a⟩
end
section
open Go.RowKit
variable {lo:Nat}{w:World}{base cap:Nat}{ys:List (Value×Value×Value)}
def n9(t:Value×Value×Value):List Value:=[t.1,t.2.1,t.2.2]
def PO(ys:List (Value×Value×Value)):List Value:=ys.flatMap n9
theorem pU(ys:List (Value×Value×Value)):(PO ys).length=ys.length*3:=by
 induction ys with
 |nil=>rfl
 |cons a l b=>simp[PO,n9] at b ⊢;omega
theorem iT:∀(ys:List (Value×Value×Value)) (k:Nat) (_:k<ys.length) (a b c:Value),(((PO ys).set (k*3) a).set (k*3+1) b).set (k*3+2) c=PO (ys.set k (a,b,c))
 |[],k,d,_,_,_=>by simp at d
 |y::r,0,_,a,b,c=>by simp[PO,n9]
 |y::r,k+1,d,a,b,c=>by
  have:=iT r k (by simpa using d) a b c;simp only[PO,uo,mO,n9] at this ⊢;rw[show(k+1)*3=k*3+1+1+1 from by omega,show k*3+1+1+1+1=k*3+1+1+1+1 from rfl,show k*3+1+1+1+2=k*3+2+1+1+1 from by omega];simpa using this
theorem sZ:∀(ys:List (Value×Value×Value)) (k:Nat) (a:k<ys.length),(PO ys)[k*3]?=some ys[k].1/\(PO ys)[k*3+1]?=some ys[k].2.1/\(PO ys)[k*3+2]?=some ys[k].2.2
 |[],k,a=>by simp at a
 |y::r,0,_=>by simp[PO,n9]
 |y::r,k+1,a=>by
  have:=sZ r k (by simpa using a);simp only[PO,uo,n9] at this ⊢;rw[show(k+1)*3=k*3+1+1+1 from by omega,show k*3+1+1+1+1=k*3+1+1+1+1 from rfl,show k*3+1+1+1+2=k*3+2+1+1+1 from by omega];simpa using this
theorem KG(b c a:Value):∀(n i:Nat),i<n*3->(madeCells #[b,c,a] (n*3))[i]?=(PO (List.replicate n (b,c,a)))[i]?:=by
 intro n i m;obtain⟨k,j,g,rfl⟩:∃k j,j<3/\i=k*3+j:=⟨i / 3,i%3,Nat.mod_lt _ (by decide),by omega⟩;have o:k<n:=by omega
 obtain⟨e,f,d⟩:=sZ (List.replicate n (b,c,a)) k (by simpa using o);simp only[tO] at e f d;have h:(k*3+j)%3=j:=by omega
 simp only[madeCells,Array.getElem?_map,Array.getElem?_range];rw[zb m];simp only[jj];have l:(#[b,c,a]:Array Value).size=3:=rfl;rw[l,h];match j,g with
 |0,_=>rw[uK,e];rfl
 |1,_=>rw[f];rfl
 |2,_=>rw[d];rfl
theorem K6(w:World)(n:Nat)(T:TypeId)(a c b:Value)(e:n<=maxLen):(w.alloc (.cells (madeCells #[a,c,b] (n*3)) T)).ownsRow w.heap.size T 3 (.slice (some ⟨w.heap.size,0,none⟩) n n) n (PO (List.replicate n (a,c,b))):=by
 refine⟨by rw[pU];simp,ze ⟨w.heap.size,n,madeCells #[a,c,b] (n*3),rfl,zf _,?_,zf _,e,by rw[size_madeCells],?_⟩⟩
 ·show(w.heap.push _)[w.heap.size]?=_;simp
 ·apply mp;intro i;by_cases d:i<n*3
  ·rw[l9,zb d,Array.getElem?_toList,KG _ _ _ n i d]
  ·rw[l9,za d,kp (by rw[pU];simp;omega)]
theorem J2{e:TypeId}{g n m:Nat}(h:w.ownsRow base e 3 (.slice (some ⟨g,0,none⟩) n cap) m (PO ys))(k:Nat)(j:k<ys.length)(a b c:Value):
  (((w.setCell ⟨g,k*3,none⟩ a).setCell ⟨g,k*3+1,none⟩ b).setCell ⟨g,k*3+2,none⟩ c).ownsRow base e 3 (.slice (some ⟨g,0,none⟩) n cap) m (PO (ys.set k (a,b,c))):=by
 have l:=pU ys;have i:=uI h (k*3) (by omega) a;have f:=uI i (k*3+1) (by simp;omega) b;have d:=uI f (k*3+2) (by simp;omega) c;rw[iT ys k j] at d;exact d
theorem wF{e:TypeId}{g n m:Nat}(h:w.ownsRow base e 3 (.slice (some ⟨g,0,none⟩) n cap) m (PO ys))(k:Nat)(o:k<ys.length):
  g<w.heap.size/\w.cell? ⟨g,k*3,none⟩=some ys[k].1/\w.cell? ⟨g,k*3+1,none⟩=some ys[k].2.1/\w.cell? ⟨g,k*3+2,none⟩=some ys[k].2.2:=by
 have j:0<m:=by have:=h.1;rw[pU] at this;omega
 obtain⟨p,c,b,_,f,a⟩:=yC h j;simp at b;obtain⟨rfl,_⟩:=b;obtain⟨i,l,d⟩:=sZ ys k o;exact⟨f,a _ _ i,a _ _ l,a _ _ d⟩
theorem Nv{e:TypeId}{b g n m:Nat}{f:List Value}(h:w.ownsRow base e b (.slice (some ⟨g,0,none⟩) n cap) m f):∃a,w.heap[g]?=some (.cells a e (0,0)):=by
 obtain⟨_,⟨c,_⟩|⟨j,d,a,c,_,i,_⟩⟩:=h
 ·cases c
 ·simp at c;obtain⟨rfl,_⟩:=c;exact⟨a,i⟩
end
section
open Go.Proofs.Tryz Go.RowKit
variable {lo:Nat}{M:List Nat}{w w':World}{b base n:Nat}{c:Array Value}{v:Value}{xs xs1:List Value}
structure zd (M:List Nat) (w w':World):Prop where
 os:w'.os=w.os
 tape:w'.tape=w.tape
 output:w'.output=w.output
 size:w.heap.size<=w'.heap.size
 block:∀k,k<w.heap.size->k∉M->w'.heap[k]?=w.heap[k]?
theorem zd.refl(M:List Nat)(w:World):zd M w w:=⟨rfl,rfl,rfl,zf _,fun _ _ _=>rfl⟩
theorem zd.of(h:Below w.heap.size w w'):zd M w w':=⟨h.os,h.tape,h.output,h.size,fun k a _=>h.block k a⟩
theorem zd.trans{M:List Nat}{a b c:World}(h:zd M a b)(k:zd M b c):zd M a c:=
 ⟨k.os.trans h.os,k.tape.trans h.tape,k.output.trans h.output,zT h.size k.size,fun x e d=>(k.block x (xG e h.size) d).trans (h.block x e d)⟩
theorem zd.more{N:List Nat}(h:zd M w w')(hs:∀x∈M,x∈N):zd N w w':=⟨h.os,h.tape,h.output,h.size,fun k e a=>h.block k e fun d=>a (hs k d)⟩
theorem zd.newer{N:List Nat}{a b c:World}(h:zd M a b)(k:zd N b c)(g:∀x∈N,x∈M∨a.heap.size<=x):zd M a c:=
 ⟨k.os.trans h.os,k.tape.trans h.tape,k.output.trans h.output,zT h.size k.size,fun x e f=>(k.block x (xG e h.size) fun d=>(g x d).elim f fun i=>by omega).trans (h.block x e f)⟩
theorem zd.below{B:Nat}(h:zd M w w')(a:∀x∈M,B<=x)(f:B<=w.heap.size):Below B w w':=
 ⟨h.os,h.tape,h.output,h.size,fun k e=>h.block k (by omega) fun d=>by have:=a k d;omega⟩
theorem yH{e:TypeId}{a:Nat}(h:w.ownsRow base e a v n xs)(hs:zd M w w')(l:∀b,v.ownBlock=some b->b∉M):w'.ownsRow base e a v n xs:=by
 obtain⟨p,d⟩:=h;refine⟨p,?_⟩;rcases d with d|⟨g,i,f,k,m,j,o⟩
 ·exact zg d
 ·refine ze ⟨g,i,f,k,m,?_,o⟩;rw[hs.block g (kw.1 j).1 (l g (by rw[k];rfl))];exact j
theorem Py.save{T:TypeId}(h:Py w b c T)(hs:zd M w w')(a:b∉M):Py w' b c T:=by
 have:=h.lt;unfold Py at *;rw[hs.block b this a];exact h
section
variable {P:Program} {ops:Array Oper} {rest:List Oper} {o:Oper} {a:Act} {Q:Exit->Act->World->Prop}
theorem dO(C A:World)(l:List Value)(L:TypeId)(Y:o.guard=none)(s x:Operand)(t:TypeId)
  (ho:o.op=.call {callee:=.builtin .append,args:=#[s,x],argTypes:=#[t,t]})
  (base:Nat) (e:TypeId) (i:TypeInfo) (z:Value) (d f:Nat) (V:P.underlying t=some (.slice e)) (T:P.info? e=some i) (U:i.zero=some z)
  (r:i.size=d) (H:i.bytes=f) (J:z.cells.size=d) (F:0<d)
  (v:Value) (n:Nat) (xs:List Value) (hs:a.eval s=v) (D:C.ownsRow base e d v n xs) (m:Below C.heap.size C A)
  (b c:Nat) (R:a.eval x=.slice (some ⟨b,0,none⟩) 1 c) (S:b=A.heap.size) (hl:l.length=d) (Z:∀u∈l,u.oneCell'=true)
  (hn:n<=10000000000) (q:f<=1000) (E:base<=C.heap.size)
  (h:∀B w',w'.ownsRow base e d B (n+1) (xs++l)->zd v.ownBlock.toList C w'->(B.ownBlock=v.ownBlock∨∃g,B.ownBlock=some g/\C.heap.size<=g)->wpList P ops Q rest (a.put o.dst B) w'):
  wpList P ops Q (o::rest) a (A.alloc (.cells l.toArray L)):=by
 have y:=zC D m;have K:=m.size;subst S;refine wpList_append_own_at _ Y s x t ho base e i z d f V T U r H J F v n xs hs (y.alloc _) ⟨A.heap.size,0,none⟩ 1 c l R (by omega) ?_ Z ?_ ?_ ?_ ?_
 ·intro j u N;rw[Addr.add_lit,vF,World.cell?_alloc_mark];simpa using N
 ·unfold maxLen;omega
 ·have:(n+1)*f<=10000000001*1000:=Nat.mul_le_mul (by omega) q;omega
 ·simp;omega
 ·intro B w' W p _ I;refine h B w' W ⟨p.os.trans m.os,p.tape.trans m.tape,p.output.trans m.output,?_,fun k X O=>?_⟩ ?_
  ·have:=p.size;simp at this;omega
  ·rw[p.block k (by simp;omega) (fun e=>O (by rw[←e];simp))];rw[show(A.alloc (.cells l.toArray L)).heap[k]?=A.heap[k]? from Below.heap_alloc _ _ _ (by omega)];exact m.block k X
  ·rcases I with G|G
   ·exact zg G
   ·exact ze ⟨_,G,by simp;omega⟩
end
theorem yU{e:TypeId}{d:Nat}(h:w.ownsRow base e d v n xs)(i:v.ownBlock=some b):b<w.heap.size:=by
 obtain⟨_,⟨f,_⟩|⟨g,l,j,f,_,k,_⟩⟩:=h
 ·subst f;cases i
 ·subst f;simp only[Value.ownBlock,zr] at i;subst i;exact(kw.1 k).1
theorem zd.set(w:World)(b o:Nat)(u:Value):zd [b] w (w.setCell ⟨b,o,none⟩ u):=
 ⟨rfl,rfl,rfl,by simp[World.setCell],fun k _ d=>Below.heap_setCell _ _ _ _ (by simp at d;exact d)⟩
theorem yw(h:b∈v.ownBlock.toList):v.ownBlock=some b:=by simpa using h
theorem qH{e T:TypeId}{d:Nat}(h:w.ownsRow base e d v n xs)(i:Py w b c T)(f:e≠T):b∉v.ownBlock.toList:=by
 intro g;have:=fV h i f;exact this (by simpa [eq_comm] using g)
def sl(g n:Nat):Value:=.slice (some ⟨g,0,none⟩) n n
theorem f8{B x:Nat}{q k:TypeId}{F E:Nat}{r l:Value}{A u:Nat}{i:List Value}(C:w.ownsRow B q F r A xs1)(z:w.ownsRow x k E l u i)(y:q≠k)(j:r.ownBlock=some b):l.ownBlock≠some b:=by
 intro e;obtain⟨_,⟨h,_⟩|⟨g,D,s,h,_,t,_⟩⟩:=C
 ·subst h;cases j
 ·obtain⟨_,⟨f,_⟩|⟨G,p,m,f,_,d,_⟩⟩:=z
  ·subst f;cases e
  ·subst h;subst f;simp only[Value.ownBlock,zr] at j e;subst j;subst e;rw[t] at d;simp at d;exact y d.2
theorem xM{i:Nat}{e T:TypeId}{m:Nat}{f:Value}{l:Nat}(j:w.ownsRow i e m f l xs1){d:Nat}(g:Py w d c T)(h:e≠T)(k:f.ownBlock=some b):b≠d:=by
 rintro rfl;exact fV j g h k.symm
theorem xb{e:TypeId}{d:Nat}(h:w.ownsRow base e d v n xs)(i:v.ownBlock=some b):base<=b:=by
 obtain⟨_,⟨f,_⟩|⟨g,k,j,f,l,_,_⟩⟩:=h
 ·subst f;cases i
 ·subst f;simp only[Value.ownBlock,zr] at i;omega
theorem OD{α:Type}{f:α->Nat}{l:List α}(h:(l.map f).Nodup){i j:Nat}(k:i<l.length)(g:j<l.length)(d:i≠j):f l[i]≠f l[j]:=by
 intro e;have:=(List.getElem_inj (h₀:=by simpa using k) (h₁:=by simpa using g) h).1 (by simpa using e);exact d this
theorem Pa:(prog.info? 3).map (fun i=>(i.zero,i.size,i.bytes))=some (some (.int .i64 0),1,8):=by kernel_rfl
def Qb(s:Nat):Value:=.int .i64 (s:Int)
theorem E6(w:World)(n:Nat)(T:TypeId)(e:n<=maxLen):(w.alloc (.cells (madeCells #[.int .i64 0] n) T)).ownsRow w.heap.size T 1 (.slice (some ⟨w.heap.size,0,none⟩) n n) n ((List.replicate n 0).map Qb):=by
 refine⟨by simp,ze ⟨w.heap.size,n,madeCells #[.int .i64 0] n,rfl,zf _,?_,zf _,e,by rw[size_madeCells];omega,?_⟩⟩
 ·show(w.heap.push _)[w.heap.size]?=_;simp
 ·apply mp;intro i;by_cases d:i<n
  ·simp[d,madeCells,Qb,Nat.mod_one]
  ·simp[List.getElem?_take,d]
end
section
open Go.Proofs.Tryz Go.RowKit
variable {lo:Nat}
def Qd(ns:List ByteArray)(x:ByteArray):Nat->Nat->Nat->Nat
 |0,l,_=>l
 |n+1,l,h=>if l<h then(if PS (ns.getD (l+(h-l) / 2) ByteArray.empty) x then Qd ns x n (l+(h-l) / 2+1) h else Qd ns x n l (l+(h-l) / 2)) else l
def uz(ns:List ByteArray)(x:ByteArray):Nat:=Qd ns x (ns.length+1) 0 ns.length
def lB(lo:Nat)(w:World)(a:Nat)(ns:List ByteArray):Prop:=lo<=a/\∃v,Py w a #[v] 141/\P7 lo w v ns
theorem lB.below{w c:World}{a:Nat}{ns:List ByteArray}(h:lB lo w a ns)(b:Below w.heap.size w c):lB lo c a ns:=by
 obtain⟨e,v,d,f⟩:=h;exact⟨e,v,d.below b,f.below b⟩
theorem Du(w:World)(y:Nat)(ns:List ByteArray)(x:ByteArray)(h:lB lo w y ns)(O:ns.length<=1000):
  Calls prog 168 #[.pointer (some ⟨y,0,none⟩),.string x] w fun e B=>e=.returned (.int .i64 (uz ns x:Nat))/\∃m,B=w.drewN m:=by
 obtain⟨_,v,f,z⟩:=h;obtain⟨M,K,rfl⟩:=z.qx;obtain⟨E,I⟩:=f.rules;go_enter func168,ntmps168;go_wp2;go_quiet (fail)
 have t:Below w.heap.size w (w.drewN nq):=zL (zo _ _) _;have c:=f.below t;have o:=z.below t;have s:Hid (∃m,w.drewN nq=w.drewN m):=⟨nq,rfl⟩;generalize w.drewN nq=C at *;obtain⟨E,I⟩:=c.rules;go_wp2;go_loopg [5,6] (ns.length+1) (fun k D L wr=>∃l h:Nat,D=.int .i64 l/\L=.int .i64 h/\h<=ns.length/\l<=ns.length/\h-l<k/\Hid (uz ns x=Qd ns x k l h)/\wr=C)
 case atStart=>exact⟨0,ns.length,rfl,rfl,by omega,by omega,by omega,rfl,rfl⟩
 case round=>
  obtain⟨l,h,rfl,rfl,A,r,J,u,rfl⟩:=hrel;cases gk with
  |zero=>omega
  |succ m=>
   by_cases j:l<h
   ·obtain⟨a,d⟩:∃a,a=l+(h-l) / 2:=⟨_,rfl⟩;have F:l<=a:=by omega
    have H:a<h:=by omega
    have G:(l:Int)+((h:Int)-(l:Int)).tdiv 2=(a:Int):=by
     rw[Int.tdiv_eq_ediv_of_nonneg (by omega)];omega
    have i:a<ns.length:=by omega
    have q:=u.out;unfold Qd at q;rw[zb j,←d,show ns.getD a ByteArray.empty=ns[a] from by simp[List.getD_eq_getElem?_getD,i]] at q;obtain⟨g,rfl,N,p⟩:=o.cell a i;clear d;cases n:PS ns[a] x with
    |true=>
     rw[n,zb rfl] at q;have b:=Px q;unfold PS at n;go_wp2;go_roundg m
     case measure=>omega
     case rel=>exact⟨a+1,h,by go_num,rfl,A,by omega,by omega,b,rfl⟩
    |false=>
     rw[n,za (by simp)] at q;have b:=Px q;unfold PS at n;go_wp2;go_roundg m
     case measure=>omega
     case rel=>exact⟨l,a,rfl,rfl,by omega,r,by omega,b,rfl⟩
   ·have q:=u.out;unfold Qd at q;rw[za j] at q;have b:=Px q;go_wp2;go_ret;exact⟨by rw[b.out];rfl,s.out⟩
def uj(ns:List ByteArray)(x:ByteArray):Option Nat:=if uz ns x<ns.length/\ns.getD (uz ns x) ByteArray.empty=x then some (uz ns x) else none
theorem MI(w:World)(t:Nat)(ns:List ByteArray)(x:ByteArray)(h:lB lo w t ns)(E:ns.length<=1000):
  Calls prog 129 #[.pointer (some ⟨t,0,none⟩),.string x] w fun e l=>e=.returned (.tuple #[.int .i64 (((uj ns x).getD 0:Nat):Int),.bool (uj ns x).isSome])/\∃m,l=w.drewN m:=by
 have o:=Px (Du w t ns x h E);obtain⟨_,v,d,u⟩:=h;obtain⟨F,D,rfl⟩:=u.qx;have f:Hid (uj ns x=if uz ns x<ns.length/\ns.getD (uz ns x) ByteArray.empty=x then some (uz ns x) else none):=rfl;generalize uz ns x=c at *;by_cases k:c<ns.length
 ·have A:ns.getD c ByteArray.empty=ns[c]:=by simp[List.getD_eq_getElem?_getD,k]
  rw[A] at f;by_cases s:ns[c]=x
  ·rw[zb ⟨k,s⟩] at f;obtain⟨g,rfl,j,b⟩:=u.cell c k;go_enter func129,ntmps129;go_wp2_with (first|(go_at_call 168;refine o.out.mono ?_;rintro r l ⟨rfl,m,rfl⟩;have a:=d.below (zL (zo _ _) m);obtain⟨y,z,i⟩:=a.boxed;have B:=((zL (zo w.heap.size w) m).cell (p:=⟨g,c,none⟩) j).trans b;have n:g<(w.drewN m).heap.size:=j))
   go_ret2
   exact⟨by rw[f.out];rfl,m,rfl⟩
  ·rw[za (fun q=>s q.2)] at f;obtain⟨g,rfl,j,b⟩:=u.cell c k;have C:=jp s;go_enter func129,ntmps129;go_wp2_with (first|(go_at_call 168;refine o.out.mono ?_;rintro r l ⟨rfl,m,rfl⟩;have a:=d.below (zL (zo _ _) m);obtain⟨y,z,i⟩:=a.boxed;have B:=((zL (zo w.heap.size w) m).cell (p:=⟨g,c,none⟩) j).trans b;have n:g<(w.drewN m).heap.size:=j))
   go_ret2
   exact⟨by rw[f.out];rfl,m,rfl⟩
 ·rw[za (fun q=>k q.1)] at f;go_enter func129,ntmps129;go_wp2_with (first|(go_at_call 168;refine o.out.mono ?_;rintro r l ⟨rfl,m,rfl⟩;have a:=d.below (zL (zo _ _) m);obtain⟨y,z,i⟩:=a.boxed))
  go_ret2
  exact⟨by rw[f.out];rfl,m,rfl⟩
theorem Fc(w:World)(c:Nat)(ns:List ByteArray)(h:lB lo w c ns):
  Calls prog 114 #[.pointer (some ⟨c,0,none⟩)] w fun e g=>e=.returned (.int .i64 ns.length)/\g=w:=by
 obtain⟨_,v,a,b⟩:=h;obtain⟨k,d,rfl⟩:=b.qx;obtain⟨j,i,f⟩:=a.boxed;clear b;go_enter func114,ntmps114;go_wp2;go_ret;exact⟨rfl,rfl⟩
end
section
open Go.Proofs.Tryz Go.RowKit
variable {lo:Nat}{w:World}{tb:Nat}{T:zi}{nv:Value}{ns:List (Nat×Nat)}
def fy(wd:Nat)(ns:List (Nat×Nat)):List Value:=ns.flatMap fun x=>[sl x.1 wd,sl x.2 wd]
theorem iQ(wd:Nat):∀(ns:List (Nat×Nat)) (k:Nat) (a:k<ns.length),(fy wd ns)[k*2]?=some (sl ns[k].1 wd)/\(fy wd ns)[k*2+1]?=some (sl ns[k].2 wd)
 |[],k,a=>by simp at a
 |p::r,0,_=>by simp[fy]
 |p::r,k+1,a=>by
  have:=iQ wd r k (by simpa using a);simp only[fy,uo] at this ⊢;rw[show(k+1)*2=k*2+1+1 from by omega,show k*2+1+1+1=k*2+1+1+1 from rfl];simpa using this
def PR(ns:List (Nat×Nat)):List Nat:=ns.flatMap fun x=>[x.1,x.2]
structure uW (lo:Nat) (w:World) (tb:Nat) (T:zi) (nv:Value) (ns:List (Nat×Nat)):Prop where
 low:lo<=tb
 box:Py w tb #[.int .i64 T.qf,.int .i64 T.ql,nv,.int .i64 T.count] 229
 qi:w.ownsRow lo 273 2 nv T.qi.length (fy T.qf ns)
 len:ns.length=T.qi.length
 leap:∀i (h:i<T.qi.length) (h2:i<ns.length),w.ownsRow lo 3 1 (sl ns[i].1 T.qf) T.qf (T.qi[i].leap.map Qb)
 down:∀i (h:i<T.qi.length) (h2:i<ns.length),w.ownsRow lo 3 1 (sl ns[i].2 T.qf) T.qf (T.qi[i].down.map Qb)
 apart:(PR ns).Nodup
 wide:T.qf<=1000
 many:T.qi.length<=100000000
 deep:T.ql<=3
 few:T.count<=1000000000
def Qv(tb:Nat)(nv:Value)(ns:List (Nat×Nat)):List Nat:=tb::(nv.ownBlock.toList++PR ns)
def zY(lo:Nat)(w:World)(tb:Nat)(T:zi)(fp:List Nat):Prop:=∃nv ns,uW lo w tb T nv ns/\fp=Qv tb nv ns
theorem uW.leapLen(h:uW lo w tb T nv ns)(i:Nat)(a:i<T.qi.length):T.qi[i].leap.length=T.qf:=by
 have:=(h.leap i a (by rw[h.len];exact a)).1;simpa using this
theorem uW.downLen(h:uW lo w tb T nv ns)(i:Nat)(a:i<T.qi.length):T.qi[i].down.length=T.qf:=by
 have:=(h.down i a (by rw[h.len];exact a)).1;simpa using this
theorem ef{b:Nat}(h:b∈PR ns):∃i,∃h:i<ns.length,b=ns[i].1∨b=ns[i].2:=by
 simp only[PR,uF,zu,lE,or_false] at h;obtain⟨x,c,d⟩:=h;obtain⟨i,a,rfl⟩:=vG c;exact⟨i,a,d⟩
theorem tz{i:Nat}(h:i<ns.length):ns[i].1∈PR ns/\ns[i].2∈PR ns:=by
 simp only[PR,uF,zu,lE,or_false];exact⟨⟨_,zv h,zg rfl⟩,⟨_,zv h,ze rfl⟩⟩
theorem uW.lt{w:World}{tb:Nat}{T:zi}{nv:Value}{ns:List (Nat×Nat)}(h:uW lo w tb T nv ns):∀b∈Qv tb nv ns,lo<=b/\b<w.heap.size:=by
 intro b c;simp only[Qv,zu,zX] at c;rcases c with rfl|c|c
 ·exact⟨h.low,h.box.lt⟩
 ·exact⟨xb h.qi (yw c),yU h.qi (yw c)⟩
 ·obtain⟨i,a,rfl|rfl⟩:=ef c
  ·exact⟨xb (h.leap i (by rw[←h.len];exact a) a) rfl,yU (h.leap i (by rw[←h.len];exact a) a) rfl⟩
  ·exact⟨xb (h.down i (by rw[←h.len];exact a) a) rfl,yU (h.down i (by rw[←h.len];exact a) a) rfl⟩
theorem zY.lt{w:World}{tb:Nat}{T:zi}{fp:List Nat}(h:zY lo w tb T fp):∀b∈fp,lo<=b/\b<w.heap.size:=by
 obtain⟨nv,ns,a,rfl⟩:=h;exact a.lt
theorem zY.save{w g:World}{tb:Nat}{T:zi}{fp N:List Nat}(h:zY lo w tb T fp)(hs:zd N w g)(j:∀b∈fp,b∉N):zY lo g tb T fp:=by
 obtain⟨nv,ns,c,rfl⟩:=h;have e:=j;refine⟨nv,ns,⟨c.low,c.box.save hs (e tb (by simp[Qv])),yH c.qi hs fun b d=>e b ?_,c.len,fun i f a=>yH (c.leap i f a) hs fun b d=>e b ?_,fun i f a=>yH (c.down i f a) hs fun b d=>e b ?_,c.apart,c.wide,c.many,c.deep,c.few⟩,rfl⟩
 ·simp[Qv,d]
 ·simp only[sl,Value.ownBlock,zr] at d;subst d;simp only[Qv,zu,zX];exact ze (ze (tz a).1)
 ·simp only[sl,Value.ownBlock,zr] at d;subst d;simp only[Qv,zu,zX];exact ze (ze (tz a).2)
theorem zY.below{a:World}{fp:List Nat}(h:zY lo w tb T fp)(b:Below w.heap.size w a):zY lo a tb T fp:=h.save (zd.of (M:=[]) b) (by simp)
def qW(o:Option Nat):Value:=.tuple #[.int .i64 ((o.getD 0:Nat):Int),.bool o.isSome]
theorem uW.leapAt(h:uW lo w tb T nv ns)(a f:Nat)(j:a<T.qi.length)(s:f<T.qf):
  ∃e k d,nv=.slice (some ⟨e,0,none⟩) T.qi.length k/\e<w.heap.size/\d<w.heap.size/\(∃r:a<ns.length,d=ns[a].1)/\w.cell? ⟨e,a*2,none⟩=some (.slice (some ⟨d,0,none⟩) T.qf T.qf)/\w.cell? ⟨d,f,none⟩=some (.int .i64 ((T.qi[a].leap.getD f 0:Nat):Int)):=by
 have b:a<ns.length:=by rw[h.len];exact j
 obtain⟨e,c,p,_,o,m⟩:=yC h.qi (by omega);obtain⟨d,l,g,_,i,n⟩:=yC (h.leap a j b) (by omega);obtain⟨⟨rfl,_⟩,_,_⟩:=g;have q:=h.leapLen a j;refine⟨e,c,_,p,o,i,⟨b,rfl⟩,m _ _ (iQ T.qf ns a b).1,n f _ ?_⟩;rw[li,yr (by omega),gu,yr (by omega)];rfl
theorem uW.downAt(h:uW lo w tb T nv ns)(a f:Nat)(j:a<T.qi.length)(s:f<T.qf):
  ∃e k d,nv=.slice (some ⟨e,0,none⟩) T.qi.length k/\e<w.heap.size/\d<w.heap.size/\(∃r:a<ns.length,d=ns[a].2)/\w.cell? ⟨e,a*2+1,none⟩=some (.slice (some ⟨d,0,none⟩) T.qf T.qf)/\w.cell? ⟨d,f,none⟩=some (.int .i64 ((T.qi[a].down.getD f 0:Nat):Int)):=by
 have b:a<ns.length:=by rw[h.len];exact j
 obtain⟨e,c,p,_,o,m⟩:=yC h.qi (by omega);obtain⟨d,l,g,_,i,n⟩:=yC (h.down a j b) (by omega);obtain⟨⟨rfl,_⟩,_,_⟩:=g;have q:=h.downLen a j;refine⟨e,c,_,p,o,i,⟨b,rfl⟩,m _ _ (iQ T.qf ns a b).2,n f _ ?_⟩;rw[li,yr (by omega),gu,yr (by omega)];rfl
theorem ro(w:World)(tb:Nat)(T:zi)(fp:List Nat)(a f:Nat)(h:zY lo w tb T fp):
  Calls prog 167 #[.pointer (some ⟨tb,0,none⟩),.int .i64 a,.int .i64 f] w fun e q=>e=.returned (qW (yz T a f))/\q=w:=by
 obtain⟨nv,ns,g,rfl⟩:=h;obtain⟨u,n⟩:=g.box.rules;by_cases i:a<T.qi.length
 ·by_cases k:f<T.qf
  ·obtain⟨s,c,t,rfl,p,m,_,o,l⟩:=g.leapAt a f i k;have d:yz T a f=if T.qi[a].leap.getD f 0≥T.qf then none else some (T.qi[a].leap.getD f 0):=by
    unfold yz;rw[zb ⟨i,k⟩];simp[List.getD_eq_getElem?_getD,i]
   generalize T.qi[a].leap.getD f 0=v at *;by_cases j:v≥T.qf
   ·rw[zb j] at d;have b:=Px d;go_enter func167,ntmps167;go_wp2;go_ret2
    exact⟨by rw[b.out];rfl,rfl⟩
   ·rw[za j] at d;have b:=Px d;go_enter func167,ntmps167;go_wp2;go_ret2
    exact⟨by rw[b.out];rfl,rfl⟩
  ·have b:Hid (yz T a f=none):=by unfold yz;rw[Hid,za (by omega)]
   obtain⟨r,c,rfl⟩:=zs g.qi;go_enter func167,ntmps167;go_wp2;go_ret2
   exact⟨by rw[b.out];rfl,rfl⟩
 ·have b:Hid (yz T a f=none):=by unfold yz;rw[Hid,za (by omega)]
  obtain⟨r,c,rfl⟩:=zs g.qi;go_enter func167,ntmps167;go_wp2;go_ret2
  exact⟨by rw[b.out];rfl,rfl⟩
theorem mG(w:World)(tb:Nat)(T:zi)(fp:List Nat)(a f:Nat)(h:zY lo w tb T fp):
  Calls prog 130 #[.pointer (some ⟨tb,0,none⟩),.int .i64 a,.int .i64 f] w fun e j=>e=.returned (qW (zG T a f))/\j=w:=by
 have c:=Px (ro w tb T fp a f h);obtain⟨nv,ns,m,rfl⟩:=h;obtain⟨x,p⟩:=m.box.rules;cases d:yz T a f with
 |none=>
  have i:Hid (zG T a f=none):=by unfold zG;rw[Hid,d]
  rw[d] at c;simp only[qW,kZ,gd] at c;go_enter func130,ntmps130;go_wp2_with (first|(go_at_call 167;refine c.out.mono ?_;rintro e j ⟨rfl,b⟩;obtain rfl:=b.symm))
  go_ret2
  exact⟨by rw[i.out];rfl,rfl⟩
 |some u=>
  have g:a<T.qi.length/\f<T.qf:=by
   unfold yz at d;split at d
   ·assumption
   ·cases d
  obtain⟨t,q,v,rfl,s,o,_,r,n⟩:=m.downAt a f g.1 g.2;have k:zG T a f=if u=f then some (T.qi[a].down.getD f 0) else none:=by
   unfold zG;rw[d];simp[List.getD_eq_getElem?_getD,g.1]
  rw[d] at c;simp only[qW,ux,jG] at c;by_cases l:u=f
  ·subst l;have i:=Px k;go_enter func130,ntmps130;go_wp2_with (first|(go_at_call 167;refine c.out.mono ?_;rintro e j ⟨rfl,b⟩;obtain rfl:=b.symm))
   go_ret2
   exact⟨by rw[i.out];rfl,rfl⟩
  ·rw[za l] at k;have i:=Px k;go_enter func130,ntmps130;go_wp2_with (first|(go_at_call 167;refine c.out.mono ?_;rintro e j ⟨rfl,b⟩;obtain rfl:=b.symm))
   go_ret2
   exact⟨by rw[i.out];rfl,rfl⟩
theorem Ec(w:World)(tb:Nat)(T:zi)(fp:List Nat)(h:zY lo w tb T fp):
  Calls prog 209 #[.pointer (some ⟨tb,0,none⟩)] w fun e d=>e=.returned (.int .i64 T.count)/\d=w:=by
 obtain⟨nv,ns,a,rfl⟩:=h;obtain⟨f,c,b⟩:=a.box.boxed;clear a;go_enter func209,ntmps209;go_wp2;go_ret;exact⟨rfl,rfl⟩
end
section
open Go.Proofs.Tryz Go.RowKit
variable {lo:Nat}{ns:List (Nat×Nat)}
theorem Qf:∀(ns:List (Nat×Nat)) (k:Nat) (a:k<ns.length),(PR ns)[k*2]?=some ns[k].1/\(PR ns)[k*2+1]?=some ns[k].2
 |[],k,a=>by simp at a
 |p::r,0,_=>by simp[PR]
 |p::r,k+1,a=>by
  have:=Qf r k (by simpa using a);simp only[PR,uo] at this ⊢;rw[show(k+1)*2=k*2+1+1 from by omega,show k*2+1+1+1=k*2+1+1+1 from rfl];simpa using this
theorem eB{l:List Nat}(h:l.Nodup){i j x y:Nat}(e:l[i]?=some x)(c:l[j]?=some y)(a:i≠j):x≠y:=by
 obtain⟨d,rfl⟩:=jA.1 e;obtain⟨b,rfl⟩:=jA.1 c;exact OD (f:=id) (by simpa using h) d b a
theorem rI(h:(PR ns).Nodup){i j:Nat}(b:i<ns.length)(a:j<ns.length):(i≠j->ns[i].1≠ns[j].1/\ns[i].2≠ns[j].2)/\ns[i].1≠ns[j].2:=
 ⟨fun c=>⟨eB h (Qf ns i b).1 (Qf ns j a).1 (by omega),eB h (Qf ns i b).2 (Qf ns j a).2 (by omega)⟩,eB h (Qf ns i b).1 (Qf ns j a).2 (by omega)⟩
def setNode(T:zi)(a:Nat)(n:vO):zi:={T with qi:=T.qi.set a n}
theorem uW.setLeap{w:World}{tb:Nat}{T:zi}{n:Value}(h:uW lo w tb T n ns)(a u x:Nat)(o:a<T.qi.length)(k:a<ns.length)(r:u<T.qf):
  uW lo (w.setCell ⟨ns[a].1,u,none⟩ (.int .i64 x)) tb (setNode T a ⟨T.qi[a].leap.set u x,T.qi[a].down⟩) n ns:=by
 have p:=h.leapLen a o;have j:=zd.set w ns[a].1 u (.int .i64 x);have m:=h.leap a o k;refine⟨h.low,h.box.save j (by have:=xM m h.box (by decide) rfl;simpa using Ne.symm this),?_,by simpa [setNode] using h.len,fun i l c=>?_,fun i l c=>?_,h.apart,h.wide,by simpa [setNode] using h.many,h.deep,h.few⟩
 ·have:=yH h.qi j (fun b g d=>f8 m h.qi (by decide) rfl (by simp at d;rw[←d];exact g));simpa [setNode] using this
 ·have f:i<T.qi.length:=by simpa [setNode] using l
  by_cases e:i=a
  ·subst e;have q:=uI m u (by simp;omega) (.int .i64 x);simp only[setNode,mW];rw[fA];exact q
  ·simp only[setNode,mA (Ne.symm e)];exact yH (h.leap i f c) j (fun b g d=>by simp[sl,Value.ownBlock] at g d;exact((rI h.apart c k).1 e).1 (g.trans d))
 ·have f:i<T.qi.length:=by simpa [setNode] using l
  have q:=yH (h.down i f c) j (fun b g d=>by simp[sl,Value.ownBlock] at g d;exact(rI h.apart k c).2 (d.symm.trans g.symm));by_cases e:i=a
  ·subst e;simp only[setNode,mW];exact q
  ·simp only[setNode,mA (Ne.symm e)];exact q
theorem uW.setDown{w:World}{tb:Nat}{T:zi}{n:Value}(h:uW lo w tb T n ns)(a u x:Nat)(o:a<T.qi.length)(k:a<ns.length)(r:u<T.qf):
  uW lo (w.setCell ⟨ns[a].2,u,none⟩ (.int .i64 x)) tb (setNode T a ⟨T.qi[a].leap,T.qi[a].down.set u x⟩) n ns:=by
 have p:=h.downLen a o;have j:=zd.set w ns[a].2 u (.int .i64 x);have m:=h.down a o k;refine⟨h.low,h.box.save j (by have:=xM m h.box (by decide) rfl;simpa using Ne.symm this),?_,by simpa [setNode] using h.len,fun i l c=>?_,fun i l c=>?_,h.apart,h.wide,by simpa [setNode] using h.many,h.deep,h.few⟩
 ·have:=yH h.qi j (fun b g d=>f8 m h.qi (by decide) rfl (by simp at d;rw[←d];exact g));simpa [setNode] using this
 ·have f:i<T.qi.length:=by simpa [setNode] using l
  have q:=yH (h.leap i f c) j (fun b g d=>by simp[sl,Value.ownBlock] at g d;exact(rI h.apart c k).2 (g.trans d));by_cases e:i=a
  ·subst e;simp only[setNode,mW];exact q
  ·simp only[setNode,mA (Ne.symm e)];exact q
 ·have f:i<T.qi.length:=by simpa [setNode] using l
  by_cases e:i=a
  ·subst e;have q:=uI m u (by simp;omega) (.int .i64 x);simp only[setNode,mW];rw[fA];exact q
  ·simp only[setNode,mA (Ne.symm e)];exact yH (h.down i f c) j (fun b g d=>by simp[sl,Value.ownBlock] at g d;exact((rI h.apart c k).1 e).2 (g.trans d))
structure PQ (lo:Nat) (w w':World) (tb:Nat) (T:zi) (fp:List Nat) (fp':List Nat):Prop where
 trie:zY lo w' tb T fp'
 save:zd fp w w'
 qo:∀b∈fp',b∈fp∨w.heap.size<=b
theorem L6(T:zi)(a:Nat)(n m:vO):setNode (setNode T a n) a m=setNode T a m:=by simp[setNode]
theorem JO{T:zi}{a v d:Nat}(b:a<T.qi.length)(c:v<T.qf):yb T a v d=setNode T a ⟨jC v (v+1) T.qi[a].leap,T.qi[a].down.set v d⟩:=by
 unfold yb;rw[zb ⟨b,c⟩];simp[setNode,fD,List.getD_eq_getElem?_getD,b]
theorem QS(w:World)(tb:Nat)(T:zi)(fp:List Nat)(a v d:Nat)(h:zY lo w tb T fp):
  Calls prog 203 #[.pointer (some ⟨tb,0,none⟩),.int .i64 a,.int .i64 v,.int .i64 d] w fun e Z=>e=.returned (.tuple #[])/\PQ lo w Z tb (yb T a v d) fp fp:=by
 have N:=h;obtain⟨nv,ns,f,rfl⟩:=h;have ad:=f.wide;have ab:=f.many;by_cases A:a<T.qi.length
 ·by_cases O:v<T.qf
  ·have i:a<ns.length:=by rw[f.len];exact A
   have J:Hid (yb T a v d=setNode T a ⟨jC v (v+1) T.qi[a].leap,T.qi[a].down.set v d⟩):=JO A O;obtain⟨K,j,gl,rfl,I,D,⟨_,rfl⟩,B,s⟩:=f.downAt a v A O;obtain⟨M,q,r⟩:=f.box.boxed;have Q:=qF (f.down a A i);have G:=qF (f.leap a A i);have u:=f.setDown a v d A i O;have H1:=Px f;clear f N;have P:T.qi[a].down.set v d=T.qi[a].down.set v d:=rfl;generalize U:T.qi[a].down.set v d=C at *;generalize S:T.qi[a].leap=Y at *;clear P U S;go_enter func203,ntmps203;go_wp2;clear B s M q r Q G D I;go_loopw [8] (fun R wr=>∃(n:Nat) (l:List Nat),n<=v+1/\R=.int .i64 ((n:Int)-1)/\uW lo wr tb (setNode T a ⟨l,C⟩) (.slice (some ⟨K,0,none⟩) T.qi.length j) ns/\Hid (jC v (v+1) Y=jC v n l)/\zd (Qv tb (.slice (some ⟨K,0,none⟩) T.qi.length j) ns) w wr) (fun R _=>(intOf R+1).toNat)
   case atStart=>
    refine⟨v+1,Y,zf _,by go_num,u,rfl,(zd.set _ _ _ _).more fun x t=>?_⟩;simp only[xO] at t;subst t;simp only[Qv,zu,zX];exact ze (ze (tz i).2)
   case round=>
    clear u;obtain⟨n,l,hn,rfl,c,y,F⟩:=hrel;have p:a<(setNode T a ⟨l,C⟩).qi.length:=by simpa [setNode] using A
    have g:(setNode T a ⟨l,C⟩).qi[a]=⟨l,C⟩:=by simp[setNode]
    have o:(setNode T a ⟨l,C⟩).qf=T.qf:=rfl;obtain⟨M,q,r⟩:=c.box.boxed;have G:=qF (c.leap a p i);have k:Hid (jC v n l=l->PQ lo w wr tb (yb T a v d) (Qv tb (.slice (some ⟨K,0,none⟩) T.qi.length j) ns) (Qv tb (.slice (some ⟨K,0,none⟩) T.qi.length j) ns)):=fun e=>⟨⟨_,ns,by rw[J.out,y.out,e];exact c,rfl⟩,F,fun b H=>zg H⟩;cases n with
    |zero=>
     clear c;go_wp2;go_end0
     exact⟨rfl,k.out rfl⟩
    |succ m=>
     have e:((m+1:Nat):Int)-1=(m:Int):=by omega
     rw[e];have W:m<T.qf:=by omega
     obtain⟨ac,X,gl,E,I,D,⟨_,rfl⟩,B,s⟩:=c.leapAt a m p (by rw[o];exact W);simp only[Value.slice.injEq,zr,Addr.mk.injEq] at E;obtain⟨⟨rfl,_⟩,_,rfl⟩:=E;rw[g] at s;rw[o] at B;have z:=c.setLeap a m v p i (by rw[o];exact W);rw[g,L6] at z;have L:Hid (jC v (m+1) l=if l.getD m 0>v then jC v m (l.set m v) else l):=by rw[Hid,jC]
     have aa:=Px c;clear c p g e;have V:Hid (uW lo (wr.setCell ⟨ns[a].1,m,none⟩ (.int .i64 v)) tb (setNode T a ⟨l.set m v,C⟩) (.slice (some ⟨K,0,none⟩) T.qi.length j) ns):=z;clear z;simp only at s;generalize l.getD m 0=x at *;by_cases t:x>v
     ·rw[zb t] at L;go_wp2;go_roundw
      case rel=>
       refine⟨m,l.set m v,by omega,by go_num,V.out,y.trans L,F.trans ((zd.set _ _ _ _).more fun x t=>?_)⟩;simp only[xO] at t;subst t;simp only[Qv,zu,zX];exact ze (ze (tz i).1)
      case measure=>simp[intOf]
     ·rw[za t] at L;go_wp2;go_end0
      exact⟨rfl,k.out L.out⟩
  ·have J:Hid (yb T a v d=T):=by unfold yb;rw[Hid,za (by omega)]
   obtain⟨ao,j,rfl⟩:=zs f.qi;obtain⟨M,q,r⟩:=f.box.boxed;clear f;go_enter func203,ntmps203;go_wp2
   (try simp only[Exit.inBlock,Exit.then]);refine zK (results_none rfl _ _ _) rfl ?_
   exact⟨rfl,by rw[J.out];exact⟨N,zd.refl _ _,fun b H=>zg H⟩⟩
 ·have J:Hid (yb T a v d=T):=by unfold yb;rw[Hid,za (by omega)]
  obtain⟨ao,j,rfl⟩:=zs f.qi;obtain⟨M,q,r⟩:=f.box.boxed;clear f;go_enter func203,ntmps203;go_wp2
  (try simp only[Exit.inBlock,Exit.then]);refine zK (results_none rfl _ _ _) rfl ?_
  exact⟨rfl,by rw[J.out];exact⟨N,zd.refl _ _,fun b H=>zg H⟩⟩
end
section
open Go.Proofs.Tryz Go.RowKit
variable {lo:Nat}
theorem OJ:(prog.info? 273).map (fun i=>(i.zero,i.size,i.bytes))=some (some (.agg #[.slice none 0 0,.slice none 0 0]),2,48):=by kernel_rfl
section
variable {P:Program} {ops:Array Oper} {o:Oper} {a:Act} {K:Act->World->Prop} {Q:Exit->Act->World->Prop}
theorem dU{E:Prop}(D A:World)(l:List Value)(te:TypeId)(hg:o.guard=none)(s x:Operand)(t:TypeId)
  (ho:o.op=.call {callee:=.builtin .append,args:=#[s,x],argTypes:=#[t,t]})
  (p:Nat) (e:TypeId) (i:TypeInfo) (z:Value) (d f:Nat) (ht:P.underlying t=some (.slice e)) (Y:P.info? e=some i) (Z:i.zero=some z)
  (w:i.size=d) (M:i.bytes=f) (O:z.cells.size=d) (I:0<d)
  (v:Value) (n:Nat) (G:List Value) (hs:a.eval s=v) (F:D.ownsRow p e d v n G) (q:Below D.heap.size D A)
  (b c:Nat) (W:a.eval x=.slice (some ⟨b,0,none⟩) 1 c) (X:Py A b l.toArray te) (hl:l.length=d) (h1:∀u∈l,u.oneCell'=true)
  (hn:n<=10000000000) (r:f<=1000) (H:p<=D.heap.size)
  (h:∀C y,y.ownsRow p e d C (n+1) (G++l)->zd v.ownBlock.toList D y->(C.ownBlock=v.ownBlock∨∃g,C.ownBlock=some g/\D.heap.size<=g)->(∀k,k<A.heap.size->some k≠v.ownBlock->y.heap[k]?=A.heap[k]?)->A.heap.size<=y.heap.size->K (a.put o.dst C) y):
  if Region.wanted o (yielded ops a.tmps)=true then Oper.wp P o a A K Q else E:=by
 have hw:Region.wanted o (yielded ops a.tmps)=true:=by simp[Region.wanted,hg]
 rw[zb hw];have B:=zC F q;have S:=q.size;obtain⟨C,y,U,h2,m,_,N⟩:=run_append_own_at (P:=P) A p t o.type e i z d f ht Y Z w M O I v n G B ⟨b,0,none⟩ 1 c l (by omega) (by
  intro j u T;rw[Addr.add_lit,vF,X.rules.1];simpa using T) h1 (by unfold maxLen;omega) (by
  have:(n+1)*f<=10000000001*1000:=Nat.mul_le_mul (by omega) r;omega) (by omega)
 unfold Oper.wp execOp;simp only[ho,resolve,invoke,builtin,Sem.run_bind,Sem.run_pure,Result.andThen_ok,List.map_toArray,xQ,List.map_nil,hs,W,U];refine h C y h2 ⟨m.os.trans q.os,m.tape.trans q.tape,m.output.trans q.output,by have:=m.size;omega,fun k R V=>?_⟩ ?_ (fun k R L=>m.block k R L) m.size
 ·rw[m.block k (by omega) (fun e=>V (by rw[←e];simp))];exact q.block k R
 ·rcases N with J|J
  ·exact zg J
  ·exact ze ⟨_,J,by omega⟩
end
theorem EE{W:World}{g n:Nat}{T:TypeId}(h:W.heap[g]?=some (.cells (madeCells #[.int .i64 0] n) T (0,0)))(d:lo<=g)(c:n<=maxLen):W.ownsRow lo T 1 (sl g n) n ((List.replicate n 0).map Qb):=by
 refine⟨by simp,ze ⟨g,n,madeCells #[.int .i64 0] n,rfl,d,h,zf _,c,by rw[size_madeCells];omega,?_⟩⟩;apply mp;intro i;by_cases b:i<n
 ·simp[b,madeCells,Qb,Nat.mod_one]
 ·simp[List.getElem?_take,b]
theorem hO(w:World)(a b c:Obj):((((w.alloc a).alloc b).alloc c).drew).heap[w.heap.size]?=some a/\((((w.alloc a).alloc b).alloc c).drew).heap[w.heap.size+1]?=some b/\((((w.alloc a).alloc b).alloc c).drew).heap[w.heap.size+1+1]?=some c:=by
 refine⟨?_,?_,?_⟩
 ·show(((w.heap.push a).push b).push c)[w.heap.size]?=_;simp[Array.getElem?_push];omega
 ·show(((w.heap.push a).push b).push c)[w.heap.size+1]?=_;rw[Array.getElem?_push,za (by simp),Array.getElem?_push,zb (by simp)]
 ·show(((w.heap.push a).push b).push c)[w.heap.size+1+1]?=_;rw[Array.getElem?_push,zb (by simp)]
theorem K2(wd:Nat)(ns:List (Nat×Nat))(x:Nat×Nat):fy wd (ns++[x])=fy wd ns++[sl x.1 wd,sl x.2 wd]:=by simp[fy]
theorem ED(ns:List (Nat×Nat))(x:Nat×Nat):PR (ns++[x])=PR ns++[x.1,x.2]:=by simp[PR]
theorem uW.grow{w wr r:World}{tb:Nat}{T:zi}{t c:Value}{ns:List (Nat×Nat)}{n l:Nat}(h:uW lo w tb T t ns)(u:Below w.heap.size w wr)(V:w.heap.size<=n)(U:w.heap.size<=l)(H:n≠l)
  (h1:wr.ownsRow w.heap.size 3 1 (sl n T.qf) T.qf ((List.replicate T.qf T.qf).map Qb)) (X:wr.ownsRow w.heap.size 3 1 (sl l T.qf) T.qf ((List.replicate T.qf 0).map Qb))
  (hs:zd t.ownBlock.toList wr r) (G:r.ownsRow lo 273 2 c (T.qi.length+1) (fy T.qf ns++[sl n T.qf,sl l T.qf])) (L:c.ownBlock=t.ownBlock∨∃g,c.ownBlock=some g/\wr.heap.size<=g) (C:T.qi.length<100000000):
  ∃N,PQ lo w (r.setCell ⟨tb,2,none⟩ c) tb (yt T) (Qv tb t ns) N:=by
 have z:lo<=w.heap.size:=by have:=h.low;have:=h.box.lt;omega
 have y:=h.box.below u;have A:=zC h.qi u;have p:=y.save hs (qH A y (by decide));have j:=zd.set r tb 2 c;have R:∀{F:Nat} {e:TypeId} {s1:Nat} {v:Value} {E:Nat} {B:List Value},r.ownsRow F e s1 v E B->e≠229->∀b,v.ownBlock=some b->b∉[tb]:=fun G W b s C=>xM G p W s (by simpa using C);have m:∀{F:Nat} {v:Value} {E:Nat} {B:List Value},wr.ownsRow F 3 1 v E B->(r.setCell ⟨tb,2,none⟩ c).ownsRow F 3 1 v E B:=fun q=>by
  have S:=yH q hs (fun b s C=>f8 q A (by decide) s (yw C));exact yH S j (R S (by decide))
 have O:zd (Qv tb t ns) w (r.setCell ⟨tb,2,none⟩ c):=((zd.of (M:=Qv tb t ns) u).newer hs (fun x D=>zg (by simp only[Qv,zu,zX];exact ze (zg D)))).newer j (fun x D=>zg (by simp at D;simp[Qv,D]));refine⟨_,⟨c,ns++[(n,l)],⟨h.low,?_,?_,by simp[yt,h.len],fun i J I=>?_,fun i J I=>?_,?_,h.wide,by simp[yt];omega,h.deep,h.few⟩,rfl⟩,O,fun b k=>?_⟩
 ·have Z:=p.set 2 c;simpa [yt] using Z
 ·rw[K2];have:=yH G j (R G (by decide));simpa [yt] using this
 ·simp[yt] at J;by_cases d:i<T.qi.length
  ·have f:i<ns.length:=by rw[h.len];exact d
   simp only[yt,uQ d,uQ f];exact m (zC (h.leap i d f) u)
  ·obtain rfl:i=T.qi.length:=by omega
   have e:(ns++[(n,l)])[T.qi.length]=(n,l):=by simp[←h.len]
   rw[e];simp only[yt,p6];exact m (yq h1 z)
 ·simp[yt] at J;by_cases d:i<T.qi.length
  ·have f:i<ns.length:=by rw[h.len];exact d
   simp only[yt,uQ d,uQ f];exact m (zC (h.down i d f) u)
  ·obtain rfl:i=T.qi.length:=by omega
   have e:(ns++[(n,l)])[T.qi.length]=(n,l):=by simp[←h.len]
   rw[e];simp only[yt,p6];exact m (yq X z)
 ·rw[ED,n8];refine⟨h.apart,by simp[H],fun a Y b k e=>?_⟩;have:=(h.lt a (by simp only[Qv,zu,zX];exact ze (ze Y))).2;simp at k;omega
 ·simp only[Qv,zu,zX,ED] at k ⊢;rcases k with q|q|q|q
  ·simp[q]
  ·rcases L with e|⟨g,e,hg⟩
   ·rw[e] at q;simp[q]
   ·rw[e] at q;simp at q;have:=u.size;right;omega
  ·simp[q]
  ·simp at q;right;omega
theorem Hu(k n x:Nat)(c:k<n):((List.replicate k x++List.replicate (n-k) 0).map Qb)[k]?=some (.int .i64 (0:Int)):=by
 obtain⟨m,b⟩:∃m,n-k=m+1:=⟨n-k-1,by omega⟩;rw[b,li,gU (by simp),List.length_replicate,jH];rfl
theorem Jh(k n x:Nat)(c:k<n):((List.replicate k x++List.replicate (n-k) 0).map Qb).set k (.int .i64 x)=(List.replicate (k+1) x++List.replicate (n-(k+1)) 0).map Qb:=by
 obtain⟨m,b⟩:∃m,n-k=m+1:=⟨n-k-1,by omega⟩;rw[show n-(k+1)=m from by omega,b,show Value.int .i64 x=Qb x from rfl,←fA,fG _ _ (by simp),List.length_replicate,jH,List.replicate_succ' (n:=k),kB];rfl
def tc(w b:World)(wd:Nat)(s:Value):Prop:=∃e c d,s=.pointer (some ⟨e,0,none⟩)/\c≠d/\w.heap.size<=e/\Py b e #[.slice (some ⟨c,0,none⟩) wd wd,.slice (some ⟨d,0,none⟩) wd wd] 273/\b.ownsRow w.heap.size 3 1 (sl c wd) wd ((List.replicate wd 0).map Qb)/\b.ownsRow w.heap.size 3 1 (sl d wd) wd ((List.replicate wd 0).map Qb)/\Below w.heap.size w b
theorem tc.mk'{w b:World}{wd e d c:Nat}(f:Py b e #[.slice (some ⟨d,0,none⟩) wd wd,.slice (some ⟨c,0,none⟩) wd wd] 273)(l:b.heap[d]?=some (.cells (madeCells #[.int .i64 0] wd) 3 (0,0)))(m:b.heap[c]?=some (.cells (madeCells #[.int .i64 0] wd) 3 (0,0)))(h:d≠c)(g:w.heap.size<=e)(j:w.heap.size<=d)(i:w.heap.size<=c)(n:wd<=1000)(k:Below w.heap.size w b):tc w b wd (.pointer (some ⟨e,0,none⟩)):=
 ⟨e,d,c,rfl,h,g,f,EE l j (by unfold maxLen;omega),EE m i (by unfold maxLen;omega),k⟩
theorem Cs(w:World)(tb:Nat)(T:zi)(fp:List Nat)(h:zY lo w tb T fp)(O:T.qi.length<100000000):
  Calls prog 162 #[.pointer (some ⟨tb,0,none⟩)] w fun e U=>e=.returned (.int .i64 T.qi.length)/\∃r,PQ lo w U tb (yt T) fp r:=by
 obtain⟨nv,ns,J,rfl⟩:=h;have ac:=J.wide;have am:=J.many;have X:=fun W:World=>run_make_row' (P:=prog) (w:=W) 24 3 (.int .i64 0) 8 underlying24 Pa rfl .i64 .i64 T.qf (by omega) (by omega);obtain⟨C,m,l⟩:=J.box.boxed;have t:=Px J;clear J;have E:w.cell? ⟨tb,0,none⟩=some (.int .i64 T.qf):=by simp[C]
 go_enter func162,ntmps162;go_upto_region 1 with fail
 go_cut [3] from 5 to 15 (fun s3 wx=>tc w wx T.qf s3)
 case first=>
  go_region_held3 (fun U=>U.cell? ⟨tb,0,none⟩=some (.int .i64 T.qf)) (exact(Below.cell (w:=w) (p:=⟨tb,0,none⟩) (show Below w.heap.size w _ from(by go_grown)) l).trans E) (fail)
  all_goals
   go_wp2_with fail
   go_meet
   case rel=>
    apply tc.mk'
    ·first|exact(hO w _ _ _).1|exact(hO w _ _ _).2.1|exact(hO w _ _ _).2.2
    ·first|exact(hO w _ _ _).1|exact(hO w _ _ _).2.1|exact(hO w _ _ _).2.2
    ·first|exact(hO w _ _ _).1|exact(hO w _ _ _).2.1|exact(hO w _ _ _).2.2
    ·omega
    ·omega
    ·omega
    ·omega
    ·exact ac
    ·exact(by go_grown)
 case rest=>
  obtain⟨nb,s,Z,rfl,R,av,g,c,j,f⟩:=hcut;clear X E C m l;obtain⟨L,x,D⟩:=g.boxed;have d:=t.out.box.below f;obtain⟨C,m,l⟩:=d.boxed;go_wp2;clear L x D C m l;go_loopw [19] (fun Y wr=>∃k:Nat,k<=T.qf/\Y=.int .i64 k/\Py wr nb #[.slice (some ⟨s,0,none⟩) T.qf T.qf,.slice (some ⟨Z,0,none⟩) T.qf T.qf] 273/\Py wr tb #[.int .i64 T.qf,.int .i64 T.ql,nv,.int .i64 T.count] 229/\wr.ownsRow w.heap.size 3 1 (sl s T.qf) T.qf ((List.replicate k T.qf++List.replicate (T.qf-k) 0).map Qb)/\wr.ownsRow w.heap.size 3 1 (sl Z T.qf) T.qf ((List.replicate T.qf 0).map Qb)/\Below w.heap.size w wr) (fun i _=>T.qf-(intOf i).toNat)
  case atStart=>exact⟨0,zx _,rfl,g,d,by simpa using c,j,f⟩
  case round=>
   clear g c j f d;obtain⟨k,hk,rfl,g,d,c,j,f⟩:=hrel;obtain⟨L,x,D⟩:=g.boxed;obtain⟨C,m,l⟩:=d.boxed;by_cases G:k<T.qf
   ·have ak:=yU c rfl;have I:=xb c rfl;have al:=qF c;obtain⟨an,ag,hv,_,_,A⟩:=yC c (by omega);simp only[sl,Value.slice.injEq,zr,Addr.mk.injEq] at hv;obtain⟨⟨rfl,_⟩,_,F⟩:=hv;clear F;have M:=A k _ (Hu k T.qf T.qf G);have n:=uI c k (by simp;omega) (.int .i64 T.qf);rw[Jh k T.qf T.qf G] at n;have ab:s≠nb:=xM c g (by decide) rfl;have S:s≠tb:=xM c d (by decide) rfl;have v:=yH j (zd.set wr s k (.int .i64 T.qf)) (fun b hb O=>by simp[sl,Value.ownBlock] at hb O;omega);have z:=g.set_ne (Ne.symm ab) k (.int .i64 T.qf);have H:=d.set_ne (Ne.symm S) k (.int .i64 T.qf);have ad:=f.setCell (p:=⟨s,k,none⟩) I (.int .i64 T.qf);clear A;go_wp2;go_region
    all_goals
     go_wp2;go_roundw
     case rel=>exact⟨k+1,by omega,by go_num,Py.drew z,Py.drew H,zC n (zo _ _).drew,zC v (zo _ _).drew,ad.drew⟩
     case measure=>simp[intOf];omega
   ·obtain rfl:k=T.qf:=by omega
    rw[jH,List.replicate_zero,qE] at c;obtain⟨i0,hi,N,aa,af⟩:=info_parts OJ;obtain⟨ao,ae,rfl⟩:=zs t.out.qi;have q:=zC t.out.qi f;have ar:lo<=w.heap.size:=by have:=t.out.low;have:=t.out.box.lt;omega
    have aj:=f.size;go_wp2;go_region_law (first|(refine dU wr _ [.slice (some ⟨s,0,none⟩) T.qf T.qf,.slice (some ⟨Z,0,none⟩) T.qf T.qf] 273 rfl (.tmp 35) (.tmp 37) 227 rfl lo 273 i0 _ 2 48 underlying227 hi N aa af rfl (by decide) (.slice ao T.qi.length ae) T.qi.length (fy T.qf ns) (by simp[Act.eval]) q (by exact(by go_grown)) wr.heap.size 1 (by simp[Act.eval]) (by exact Py.drew (Py.new _ _ _)) rfl (by simp[Value.oneCell']) (by omega) (by omega) (by omega) ?_;intro v' w2 B y u ap ah;obtain⟨ax,ai,rfl⟩:=zs B;have V:=d.save y (qH q d (by decide));obtain⟨aq,aw,au⟩:=V.boxed))
    all_goals
     obtain⟨r,hW⟩:=t.out.grow f (xb c rfl) (xb j rfl) R c j y B u O;have HW:=Px hW;clear hW;go_wp2;go_ret;exact⟨by simp,r,HW.out⟩
theorem IL(d:Nat):yV d<=3:=by unfold yV;(repeat' split)<;>omega
theorem iu(w:World)(wd c:Nat)(x:wd<=1000)(z:c<=100000000):
  Calls prog 119 #[.int .i64 wd,.int .i64 c] w fun e m=>∃r g,e=.returned (.pointer (some ⟨r,0,none⟩))/\zY w.heap.size m r (yR wd c) g/\Below w.heap.size w m:=by
 have n:∀a b:Nat,a=zJ wd->b=yV c->uW w.heap.size (w.alloc (.cells #[.int .i64 (a:Nat),.int .i64 (b:Nat),.slice none 0 0,.int .i64 0] 229)) w.heap.size ⟨zJ wd,yV c,[],0⟩ (.slice none 0 0) []:=by
  rintro a b rfl rfl;refine⟨zf _,Py.new _ _ _,yI _ _ _ _,rfl,fun i h=>by simp at h,fun i h=>by simp at h,by simp[PR],?_,by simp,?_,by simp⟩
  ·simp only[zJ];split<;>omega
  ·exact IL c
 have k:Hid (∀a b:Nat,a=zJ wd->b=yV c->Calls prog 162 #[.pointer (some ⟨w.heap.size,0,none⟩)] (w.alloc (.cells #[.int .i64 (a:Nat),.int .i64 (b:Nat),.slice none 0 0,.int .i64 0] 229)) fun e m=>∃g,e=.returned (.int .i64 0)/\zY w.heap.size m w.heap.size (yR wd c) g/\Below w.heap.size w m):=fun a b y j=>by
  refine(Cs _ _ _ _ ⟨_,_,n a b y j,rfl⟩ (by simp)).mono fun e m ⟨t,q,s⟩=>⟨q,t,s.trie,?_⟩;exact((zo w.heap.size w).alloc (zf _) _).trans (s.save.below (by simp[Qv,PR,Value.ownBlock]) (by simp))
 clear n;by_cases A:wd<1
 ·by_cases v:c<1
  ·have f:1=zJ wd:=by unfold zJ;split<;>omega
   have d:1=yV c:=by unfold yV;(repeat' split)<;>omega
   have H:=Px (k.out _ _ f d);clear f d k;go_enter func119,ntmps119;go_wp2_with (first|(go_at_call 162;refine H.out.mono ?_;rintro e p ⟨g,rfl,l,j⟩))
   go_ret;exact⟨_,g,rfl,l,j⟩
  ·by_cases u:c>3
   ·have f:1=zJ wd:=by unfold zJ;split<;>omega
    have d:3=yV c:=by unfold yV;(repeat' split)<;>omega
    have H:=Px (k.out _ _ f d);clear f d k;go_enter func119,ntmps119;go_wp2_with (first|(go_at_call 162;refine H.out.mono ?_;rintro e p ⟨g,rfl,l,j⟩))
    go_ret;exact⟨_,g,rfl,l,j⟩
   ·have f:1=zJ wd:=by unfold zJ;split<;>omega
    have d:c=yV c:=by unfold yV;(repeat' split)<;>omega
    have H:=Px (k.out _ _ f d);clear f d k;go_enter func119,ntmps119;go_wp2_with (first|(go_at_call 162;refine H.out.mono ?_;rintro e p ⟨g,rfl,l,j⟩))
    go_ret;exact⟨_,g,rfl,l,j⟩
 ·by_cases v:c<1
  ·have f:wd=zJ wd:=by unfold zJ;split<;>omega
   have d:1=yV c:=by unfold yV;(repeat' split)<;>omega
   have H:=Px (k.out _ _ f d);clear f d k;go_enter func119,ntmps119;go_wp2_with (first|(go_at_call 162;refine H.out.mono ?_;rintro e p ⟨g,rfl,l,j⟩))
   go_ret;exact⟨_,g,rfl,l,j⟩
  ·by_cases u:c>3
   ·have f:wd=zJ wd:=by unfold zJ;split<;>omega
    have d:3=yV c:=by unfold yV;(repeat' split)<;>omega
    have H:=Px (k.out _ _ f d);clear f d k;go_enter func119,ntmps119;go_wp2_with (first|(go_at_call 162;refine H.out.mono ?_;rintro e p ⟨g,rfl,l,j⟩))
    go_ret;exact⟨_,g,rfl,l,j⟩
   ·have f:wd=zJ wd:=by unfold zJ;split<;>omega
    have d:c=yV c:=by unfold yV;(repeat' split)<;>omega
    have H:=Px (k.out _ _ f d);clear f d k;go_enter func119,ntmps119;go_wp2_with (first|(go_at_call 162;refine H.out.mono ?_;rintro e p ⟨g,rfl,l,j⟩))
    go_ret;exact⟨_,g,rfl,l,j⟩
theorem OS(x y z:Value)(w:World):(Instr.index 165 (.agg #[x,y,z]) (.int .i64 0)).run prog w=.ok x w:=by kernel_rfl
theorem Pw(x y z:Value)(w:World):(Instr.index 165 (.agg #[x,y,z]) (.int .i64 1)).run prog w=.ok y w:=by kernel_rfl
theorem OT(x y z:Value)(w:World):(Instr.index 165 (.agg #[x,y,z]) (.int .i64 2)).run prog w=.ok z w:=by kernel_rfl
theorem PQ.trans{w f d:World}{tb:Nat}{g e:zi}{fp c a:List Nat}(h:PQ lo w f tb g fp c)(k:PQ lo f d tb e c a):PQ lo w d tb e fp a:=
 ⟨k.trie,h.save.newer k.save h.qo,fun b i=>(k.qo b i).elim (h.qo b) fun q=>ze (zT h.save.size q)⟩
theorem PQ.refl{w:World}{tb:Nat}{T:zi}{fp:List Nat}(h:zY lo w tb T fp):PQ lo w w tb T fp fp:=⟨h,zd.refl _ _,fun _ a=>zg a⟩
theorem PQ.below{w b:World}{tb:Nat}{T:zi}{fp:List Nat}(h:zY lo w tb T fp)(a:Below w.heap.size w b):PQ lo w b tb T fp fp:=⟨h.below a,zd.of a,fun _ a=>zg a⟩
theorem AM(T:zi)(a v d:Nat):(yb T a v d).qi.length=T.qi.length/\(yb T a v d).count=T.count/\(yb T a v d).ql=T.ql/\(yb T a v d).qf=T.qf:=by
 unfold yb;split<;>simp
theorem Dd(T:zi)(a v:Nat):(vQ T a v).1.qi.length<=T.qi.length+1/\(vQ T a v).1.count=T.count/\(vQ T a v).1.ql=T.ql/\(vQ T a v).1.qf=T.qf:=by
 unfold vQ;split
 ·simp
 ·obtain⟨e,b,c,d⟩:=AM (yt T) a v T.qi.length;simp only[e,b,c,d];simp[yt]
theorem Dm(w:World)(tb:Nat)(T:zi)(fp:List Nat)(a v:Nat)(h:zY lo w tb T fp)(p:T.qi.length<100000000):
  Calls prog 191 #[.pointer (some ⟨tb,0,none⟩),.int .i64 a,.int .i64 v] w fun e o=>e=.returned (.int .i64 ((vQ T a v).2:Nat))/\∃n,PQ lo w o tb (vQ T a v).1 fp n:=by
 have d:=Px (mG w tb T fp a v h);cases l:zG T a v with
 |some b=>
  have i:Hid (vQ T a v=(T,b)):=by unfold vQ;rw[Hid,l]
  rw[l] at d;simp only[qW,ux,jG] at d;have s:=Px h;go_enter func191,ntmps191;go_wp2_with (first|(go_at_call 130;refine d.out.mono ?_;rintro e o ⟨rfl,c⟩;obtain rfl:=c.symm))
  go_ret;exact⟨by rw[i.out];rfl,fp,by rw[i.out];exact PQ.refl s.out⟩
 |none=>
  have i:Hid (vQ T a v=(yb (yt T) a v T.qi.length,T.qi.length)):=by unfold vQ;rw[Hid,l]
  rw[l] at d;simp only[qW,kZ,gd] at d;have r:=Px (Cs w tb T fp h p);go_enter func191,ntmps191;go_wp2_with (first|(go_at_call 130;refine d.out.mono ?_;rintro e o ⟨rfl,c⟩;obtain rfl:=c.symm)|(go_at_call 162;refine r.out.mono ?_;rintro e q ⟨rfl,g,k⟩;have f:=Px k;clear k)|(go_at_call 203;refine(QS q tb (yt T) g a v T.qi.length f.out.trie).mono ?_;rintro e t ⟨rfl,j⟩;have m:=Px j;clear j))
  go_ret;exact⟨by rw[i.out];rfl,g,by rw[i.out];exact f.out.trans m.out⟩
theorem uW.setCount{w:World}{tb:Nat}{T:zi}{f:Value}{ns:List (Nat×Nat)}(h:uW lo w tb T f ns)(n:Nat)(k:n<=1000000000):PQ lo w (w.setCell ⟨tb,3,none⟩ (.int .i64 n)) tb {T with count:=n} (Qv tb f ns) (Qv tb f ns):=by
 have a:=zd.set w tb 3 (.int .i64 n);have g:∀{m:Nat} {e:TypeId} {u:Nat} {v:Value} {s:Nat} {o:List Value},w.ownsRow m e u v s o->e≠229->∀b,v.ownBlock=some b->b∉[tb]:=fun r l b j p=>xM r h.box l j (by simpa using p);refine⟨⟨f,ns,⟨h.low,?_,yH h.qi a (g h.qi (by decide)),h.len,fun i d c=>yH (h.leap i d c) a (g (h.leap i d c) (by decide)),fun i d c=>yH (h.down i d c) a (g (h.down i d c) (by decide)),h.apart,h.wide,h.many,h.deep,k⟩,rfl⟩,a.more (by simp[Qv]),fun b q=>zg q⟩;have t:=h.box.set 3 (.int .i64 n);simpa using t
theorem ou(w:World)(tb:Nat)(T:zi)(fp:List Nat)(a v m:Nat)(h:zY lo w tb T fp)(x:T.count<1000000000):
  Calls prog 190 #[.pointer (some ⟨tb,0,none⟩),.int .i64 a,.int .i64 v,.int .i64 m] w fun e n=>e=.returned (.bool (kY T a v m).2)/\∃r,PQ lo w n tb (kY T a v m).1 fp r:=by
 have g:=Px (mG w tb T fp a v h);cases l:zG T a v with
 |some b=>
  have j:Hid (kY T a v m=(T,false)):=by unfold kY;rw[Hid,l]
  rw[l] at g;simp only[qW,ux,jG] at g;have y:=Px h;go_enter func190,ntmps190;go_wp2_with (first|(go_at_call 130;refine g.out.mono ?_;rintro e n ⟨rfl,c⟩;obtain rfl:=c.symm))
  go_ret;exact⟨by rw[j.out];rfl,fp,by rw[j.out];exact PQ.refl y.out⟩
 |none=>
  have j:Hid (kY T a v m=({yb T a v m with count:=(yb T a v m).count+1},true)):=by unfold kY;rw[Hid,l]
  rw[l] at g;simp only[qW,kZ,gd] at g;have u:=Px (QS w tb T fp a v m h);have i:=(AM T a v m).2.1;generalize yb T a v m=k at *;rw[←i] at x;clear h i;go_enter func190,ntmps190;go_wp2_with (first|(go_at_call 130;refine g.out.mono ?_;rintro e n ⟨rfl,c⟩;obtain rfl:=c.symm)|(go_at_call 203;refine u.out.mono ?_;rintro e s ⟨rfl,f⟩;obtain⟨C,D,d,q⟩:=f.trie;have o:=Px f;have A:Hid (PQ lo s (s.setCell ⟨tb,3,none⟩ (.int .i64 ((k.count+1:Nat)))) tb {k with count:=k.count+1} fp fp):=(by rw[q];exact d.setCount (k.count+1) (by omega));have p:=d.box;clear f d;obtain⟨z,B,t⟩:=p.boxed))
  go_ret;exact⟨by rw[j.out];rfl,fp,by rw[j.out];exact o.out.trans A.out⟩
theorem Rb(w:World)(tb:Nat)(T:zi)(fp:List Nat)(x y z:Nat)(h:zY lo w tb T fp):
  Calls prog 189 #[.pointer (some ⟨tb,0,none⟩),.agg #[.int .i64 x,.int .i64 y,.int .i64 z]] w fun e p=>e=.returned (.bool (fK T [x,y,z]))/\Below w.heap.size w p:=by
 obtain⟨v,B,f,rfl⟩:=h;have l:=f.box;have t:=OS (.int .i64 x) (.int .i64 y) (.int .i64 z);have u:=Pw (.int .i64 x) (.int .i64 y) (.int .i64 z);have q:=OT (.int .i64 x) (.int .i64 y) (.int .i64 z);have g:Hid (fK T [x,y,z]=(decide (x<T.qf)&&(decide (y<T.qf)&&decide (z<T.qf)))):=by simp[Hid,fK]
 go_enter func189,ntmps189;go_wp2;go_loopw [8] (fun r wr=>∃k:Nat,k<=3/\r=.int .i64 k/\(1<=k->x<T.qf)/\(2<=k->y<T.qf)/\(3<=k->z<T.qf)/\Below w.heap.size w wr) (fun i _=>3-(intOf i).toNat)
 case atStart=>exact⟨0,by omega,rfl,by omega,by omega,by omega,(by go_grown)⟩
 case round=>
  obtain⟨k,s,rfl,f,m,o,a⟩:=hrel;have d:=l.below a;obtain⟨A,n⟩:=d.rules;match k,s with
  |0,_=>
   by_cases b:x<T.qf
   ·go_wp2;go_roundw
    case rel=>exact⟨1,by omega,rfl,fun _=>b,by omega,by omega,a⟩
    case measure=>simp[intOf]
   ·go_wp2;go_ret;exact⟨by rw[g.out];simp[b],a⟩
  |1,_=>
   have b:=f (by omega);by_cases c:y<T.qf
   ·go_wp2;go_roundw
    case rel=>exact⟨2,by omega,rfl,fun _=>b,fun _=>c,by omega,a⟩
    case measure=>simp[intOf]
   ·go_wp2;go_ret;exact⟨by rw[g.out];simp[c],a⟩
  |2,_=>
   have b:=f (by omega);have c:=m (by omega);by_cases j:z<T.qf
   ·go_wp2;go_roundw
    case rel=>exact⟨3,by omega,rfl,fun _=>b,fun _=>c,fun _=>j,a⟩
    case measure=>simp[intOf]
   ·go_wp2;go_ret;exact⟨by rw[g.out];simp[j],a⟩
  |3,_=>
   have b:=f (by omega);have c:=m (by omega);have j:=o (by omega);go_wp2;go_ret;exact⟨by rw[g.out];simp[b,c,j],a⟩
theorem Gh(w:World)(tb:Nat)(T:zi)(fp:List Nat)(x y z m:Nat)(h:zY lo w tb T fp)(hn:T.qi.length<=90000000)(hc:T.count<1000000000):
  Calls prog 163 #[.pointer (some ⟨tb,0,none⟩),.agg #[.int .i64 x,.int .i64 y,.int .i64 z],.int .i64 m] w fun e P=>e=.returned (.bool (addP T [x,y,z] m).2)/\∃I,PQ lo w P tb (addP T [x,y,z] m).1 fp I:=by
 have aa:=OS (.int .i64 x) (.int .i64 y) (.int .i64 z);have ac:=Pw (.int .i64 x) (.int .i64 y) (.int .i64 z);have S:=OT (.int .i64 x) (.int .i64 y) (.int .i64 z);have K:T.ql<=3:=by obtain⟨v,ns,J,_⟩:=h;exact J.deep
 have u:=Px fun W X=>Rb W tb T fp x y z (h.below X);have M:=Px h;clear h;cases t:fK T [x,y,z] with
 |false=>
  have l:Hid (addP T [x,y,z] m=(T,false)):=by simp[Hid,addP,t]
  rw[t] at u;clear t;go_enter func163,ntmps163;go_wp2_with (first|(go_at_call 189;refine(u.out _ (by exact(by go_grown))).mono ?_;rintro e G ⟨rfl,n⟩;have s:Below w.heap.size w G:=zP (by go_grown) n (zf _)))
  go_ret;exact⟨by rw[l.out];rfl,fp,by rw[l.out];exact PQ.below M.out s⟩
 |true=>
  have l:Hid (addP T [x,y,z] m=uR m T 0 0 [x,y,z]):=by simp[Hid,addP,t]
  rw[t] at u;clear t;go_enter func163,ntmps163;go_wp2_with (first|(go_at_call 189;refine(u.out _ (by exact(by go_grown))).mono ?_;rintro e G ⟨rfl,n⟩;have s:Below w.heap.size w G:=zP (by go_grown) n (zf _);have B:=(Py.new w #[.int .i64 x,.int .i64 y,.int .i64 z] 165).below n;obtain⟨D,F,H⟩:=B.boxed))
  clear D F H B n u;go_loopw [7,15] (fun V r wr=>∃(k a:Nat) (b:zi) (g:List Nat),k<=3/\r=.int .i64 k/\V=.int .i64 a/\Hid (PQ lo w wr tb b fp g)/\Hid (uR m T 0 0 [x,y,z]=uR m b a k ([x,y,z].drop k))/\b.qi.length<=T.qi.length+k/\b.count=T.count/\b.ql=T.ql) (fun _ r _=>3-(intOf r).toNat)
  case atStart=>exact⟨0,0,T,fp,by omega,rfl,rfl,PQ.below M.out s,rfl,by omega,rfl,rfl⟩
  case round=>
   obtain⟨k,a,b,g,Z,rfl,rfl,j,o,Y,O,E⟩:=hrel;have q:∃v,Py wr tb #[.int .i64 b.qf,.int .i64 b.ql,v,.int .i64 b.count] 229:=by obtain⟨v,ns,J,_⟩:=j.out.trie;exact⟨v,J.box⟩
   obtain⟨v,q⟩:=q;rw[E] at q;obtain⟨ab,ad,Q⟩:=q.boxed;match k,Z with
   |0,_=>
    by_cases L:T.ql<=1
    ·have i:Hid (uR m b a 0 [x,y,z]=kY b a x m):=by rw[Hid];simp only[uR];rw[zb (by omega)]
     have p:=Px (ou wr tb b g a x m j.out.trie (by omega));go_wp2_with (first|(go_at_call 190;refine p.out.mono ?_;rintro e C ⟨rfl,f,c⟩;have d:=Px c;clear c))
     go_ret;exact⟨by rw[l.out,o.out];simp only[List.drop];rw[i.out];rfl,f,by rw[l.out,o.out];simp only[List.drop];rw[i.out];exact j.out.trans d.out⟩
    ·have i:Hid (uR m b a 0 [x,y,z]=uR m (vQ b a x).1 (vQ b a x).2 1 [y,z]):=by rw[Hid];simp only[uR];rw[za (by omega)]
     obtain⟨U,q2,N,R⟩:=Dd b a x;have p:=Px (Dm wr tb b g a x j.out.trie (by omega));generalize vQ b a x=A at *;go_wp2_with (first|(go_at_call 191;refine p.out.mono ?_;rintro e C ⟨rfl,f,c⟩;have d:=Px c;clear c))
     go_roundw
     case rel=>exact⟨1,A.2,A.1,f,by omega,rfl,rfl,j.out.trans d.out,(by rw[o.out];exact i.out),by omega,by omega,by omega⟩
     case measure=>simp[intOf]
   |1,_=>
    by_cases L:T.ql<=2
    ·have i:Hid (uR m b a 1 [y,z]=kY b a y m):=by rw[Hid];simp only[uR];rw[zb (by omega)]
     have p:=Px (ou wr tb b g a y m j.out.trie (by omega));go_wp2_with (first|(go_at_call 190;refine p.out.mono ?_;rintro e C ⟨rfl,f,c⟩;have d:=Px c;clear c))
     go_ret;exact⟨by rw[l.out,o.out];simp only[List.drop];rw[i.out];rfl,f,by rw[l.out,o.out];simp only[List.drop];rw[i.out];exact j.out.trans d.out⟩
    ·have i:Hid (uR m b a 1 [y,z]=uR m (vQ b a y).1 (vQ b a y).2 2 [z]):=by rw[Hid];simp only[uR];rw[za (by omega)]
     obtain⟨U,q2,N,R⟩:=Dd b a y;have p:=Px (Dm wr tb b g a y j.out.trie (by omega));generalize vQ b a y=A at *;go_wp2_with (first|(go_at_call 191;refine p.out.mono ?_;rintro e C ⟨rfl,f,c⟩;have d:=Px c;clear c))
     go_roundw
     case rel=>exact⟨2,A.2,A.1,f,by omega,rfl,rfl,j.out.trans d.out,(by rw[o.out];exact i.out),by omega,by omega,by omega⟩
     case measure=>simp[intOf]
   |2,_=>
    by_cases L:T.ql<=3
    ·have i:Hid (uR m b a 2 [z]=kY b a z m):=by rw[Hid];simp only[uR];rw[zb (by omega)]
     have p:=Px (ou wr tb b g a z m j.out.trie (by omega));go_wp2_with (first|(go_at_call 190;refine p.out.mono ?_;rintro e C ⟨rfl,f,c⟩;have d:=Px c;clear c))
     go_ret;exact⟨by rw[l.out,o.out];simp only[List.drop];rw[i.out];rfl,f,by rw[l.out,o.out];simp only[List.drop];rw[i.out];exact j.out.trans d.out⟩
    ·exact zB K L
   |3,_=>
    have i:Hid (uR m b a 3 []=(b,false)):=by rw[Hid];simp only[uR]
    go_wp2;go_ret;exact⟨by rw[l.out,o.out];simp only[List.drop];rw[i.out];rfl,g,by rw[l.out,o.out];simp only[List.drop];rw[i.out];exact j.out⟩
theorem KJ(w:World)(tb:Nat)(T:zi)(fp:List Nat)(x y z:Nat)(h:zY lo w tb T fp):
  Calls prog 83 #[.pointer (some ⟨tb,0,none⟩),.agg #[.int .i64 x,.int .i64 y,.int .i64 z]] w fun e m=>e=.returned (qW (uk T [x,y,z]))/\Below w.heap.size w m:=by
 have F:=OS (.int .i64 x) (.int .i64 y) (.int .i64 z);have H:=Pw (.int .i64 x) (.int .i64 y) (.int .i64 z);have C:=OT (.int .i64 x) (.int .i64 y) (.int .i64 z);have n:∃t,Py w tb #[.int .i64 T.qf,.int .i64 T.ql,t,.int .i64 T.count] 229/\T.ql<=3:=by obtain⟨t,K,A,_⟩:=h;exact⟨t,A.box,A.deep⟩
 obtain⟨t,n,u⟩:=n;have r:=Px fun W a v D=>mG W tb T fp a v (h.below D);clear h;have o:Hid (uk T [x,y,z]=uv T 0 0 [x,y,z]):=rfl;go_enter func83,ntmps83;go_wp2;go_loopw [6,12] (fun I q wr=>∃k a:Nat,k<=3/\q=.int .i64 k/\I=.int .i64 a/\Hid (uv T 0 0 [x,y,z]=uv T a k ([x,y,z].drop k))/\Below w.heap.size w wr) (fun _ q _=>3-(intOf q).toNat)
 case atStart=>exact⟨0,0,by omega,rfl,rfl,rfl,(by go_grown)⟩
 case round=>
  obtain⟨k,a,E,rfl,rfl,l,c⟩:=hrel;have s:=n.below c;obtain⟨G,J,B⟩:=s.boxed;match k,E with
  |0,_=>
   cases g:zG T a x with
   |none=>
    have i:Hid (uv T a 0 [x,y,z]=none):=by rw[Hid];simp only[uv];rw[g]
    have f:=r.out wr a x c;rw[g] at f;simp only[qW,kZ,gd] at f;have j:=Px f;clear f g;go_wp2_with (first|(go_at_call 130;refine j.out.mono ?_;rintro e m ⟨rfl,d⟩;obtain rfl:=d.symm))
    go_ret2
    exact⟨by rw[o.out,l.out];simp only[List.drop];rw[i.out];rfl,c⟩
   |some b=>
    have f:=r.out wr a x c;rw[g] at f;simp only[qW,ux,jG] at f;have j:=Px f;clear f;by_cases p:T.ql<=1
    ·have i:Hid (uv T a 0 [x,y,z]=some b):=by rw[Hid];simp only[uv];rw[g];simp only;rw[zb (by omega)]
     clear g;go_wp2_with (first|(go_at_call 130;refine j.out.mono ?_;rintro e m ⟨rfl,d⟩;obtain rfl:=d.symm))
     go_ret2
     exact⟨by rw[o.out,l.out];simp only[List.drop];rw[i.out];rfl,c⟩
    ·have i:Hid (uv T a 0 [x,y,z]=uv T b 1 [y,z]):=by rw[Hid];simp only[uv];rw[g];simp only;rw[za (by omega)]
     clear g;go_wp2_with (first|(go_at_call 130;refine j.out.mono ?_;rintro e m ⟨rfl,d⟩;obtain rfl:=d.symm))
     go_roundw
     case rel=>exact⟨1,b,by omega,rfl,rfl,(by rw[l.out];exact i.out),c⟩
     case measure=>simp[intOf]
  |1,_=>
   cases g:zG T a y with
   |none=>
    have i:Hid (uv T a 1 [y,z]=none):=by rw[Hid];simp only[uv];rw[g]
    have f:=r.out wr a y c;rw[g] at f;simp only[qW,kZ,gd] at f;have j:=Px f;clear f g;go_wp2_with (first|(go_at_call 130;refine j.out.mono ?_;rintro e m ⟨rfl,d⟩;obtain rfl:=d.symm))
    go_ret2
    exact⟨by rw[o.out,l.out];simp only[List.drop];rw[i.out];rfl,c⟩
   |some b=>
    have f:=r.out wr a y c;rw[g] at f;simp only[qW,ux,jG] at f;have j:=Px f;clear f;by_cases p:T.ql<=2
    ·have i:Hid (uv T a 1 [y,z]=some b):=by rw[Hid];simp only[uv];rw[g];simp only;rw[zb (by omega)]
     clear g;go_wp2_with (first|(go_at_call 130;refine j.out.mono ?_;rintro e m ⟨rfl,d⟩;obtain rfl:=d.symm))
     go_ret2
     exact⟨by rw[o.out,l.out];simp only[List.drop];rw[i.out];rfl,c⟩
    ·have i:Hid (uv T a 1 [y,z]=uv T b 2 [z]):=by rw[Hid];simp only[uv];rw[g];simp only;rw[za (by omega)]
     clear g;go_wp2_with (first|(go_at_call 130;refine j.out.mono ?_;rintro e m ⟨rfl,d⟩;obtain rfl:=d.symm))
     go_roundw
     case rel=>exact⟨2,b,by omega,rfl,rfl,(by rw[l.out];exact i.out),c⟩
     case measure=>simp[intOf]
  |2,_=>
   cases g:zG T a z with
   |none=>
    have i:Hid (uv T a 2 [z]=none):=by rw[Hid];simp only[uv];rw[g]
    have f:=r.out wr a z c;rw[g] at f;simp only[qW,kZ,gd] at f;have j:=Px f;clear f g;go_wp2_with (first|(go_at_call 130;refine j.out.mono ?_;rintro e m ⟨rfl,d⟩;obtain rfl:=d.symm))
    go_ret2
    exact⟨by rw[o.out,l.out];simp only[List.drop];rw[i.out];rfl,c⟩
   |some b=>
    have f:=r.out wr a z c;rw[g] at f;simp only[qW,ux,jG] at f;have j:=Px f;clear f;by_cases p:T.ql<=3
    ·have i:Hid (uv T a 2 [z]=some b):=by rw[Hid];simp only[uv];rw[g];simp only;rw[zb (by omega)]
     clear g;go_wp2_with (first|(go_at_call 130;refine j.out.mono ?_;rintro e m ⟨rfl,d⟩;obtain rfl:=d.symm))
     go_ret2
     exact⟨by rw[o.out,l.out];simp only[List.drop];rw[i.out];rfl,c⟩
    ·exact zB u p
  |3,_=>
   have i:Hid (uv T a 3 []=none):=by rw[Hid];simp only[uv]
   go_wp2;go_ret2
   exact⟨by rw[o.out,l.out];simp only[List.drop];rw[i.out];rfl,c⟩
end
def bl(x:ByteArray):List UInt8:=x.data.toList
def m4(l:zj):Prop:=(m5 (bl l.pred)/\yL (QF (bl l.pred))=true)/\∀x∈l.args,m5 (bl x)
def m9(c:zc):Prop:=c.head.neg=false/\m4 c.head/\∀l∈c.body,m4 l
section
open Go.Proofs.Tryz Go.RowKit
theorem GN(w:World)(d:Nat)(a b c:Int)(s:ByteArray):
  Calls prog 94 #[.pointer (some ⟨d,0,none⟩),.agg #[.int .i64 1,.int .i64 a,.int .i64 b,.int .i64 c,.string s]] w fun e f=>e=.returned (.bool false)/\Below w.heap.size w f:=by
 go_enter func94,ntmps94;go_wp2;go_ret;exact⟨rfl,(by go_grown)⟩
theorem KD(w:World)(h:Nat)(a b c:Int)(s:ByteArray)(c0 j m r i t q l p k f d g:Value)(n:Py w h #[c0,j,m,r,i,t,q,l,p,k,.slice none 0 0,f,d,g] 35):
  Calls prog 94 #[.pointer (some ⟨h,0,none⟩),.agg #[.int .i64 17,.int .i64 a,.int .i64 b,.int .i64 c,.string s]] w fun e u=>e=.returned (.bool true)/\Below w.heap.size w u:=by
 obtain⟨x,v,o⟩:=n.boxed;go_enter func94,ntmps94;go_wp2;go_ret;exact⟨rfl,(by go_grown)⟩
end
end Go.Proofs.YteampbddflhngaaGreat
