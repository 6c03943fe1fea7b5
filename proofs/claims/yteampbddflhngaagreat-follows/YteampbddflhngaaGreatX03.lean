import Derived.Test.YteampbddflhngaaGreatProg
import Derived.Deep.QuietTactic
import Derived.BigQuiet
import Derived.Deep.LoopGhost
import Derived.Test.YteampbddflhngaaGreatX01
import Derived.Test.YteampbddflhngaaGreatX02
namespace Go.Proofs.YteampbddflhngaaGreat
set_option linter.all false
set_option maxRecDepth 100000
set_option maxHeartbeats 1000000
open Go.RowKit
section
open Go.Proofs.Tryz
theorem r9(c:Int)(w:World):
  Calls prog 98 #[.int .u8 c] w fun e a=>e=.returned (.bool (vW c))/\a=w:=by
 go_enter func98,ntmps98;go_wp2
 all_goals go_ret
 all_goals exact⟨by simp[vW, *],rfl⟩
theorem Cw(c:Int)(w:World):
  Calls prog 173 #[.int .u8 c] w fun e a=>e=.returned (.bool (yL c))/\a=w:=by
 go_enter func173,ntmps173;go_wp2
 all_goals go_ret
 all_goals exact⟨by simp[yL, *]<;>omega,rfl⟩
theorem oR(c:Int)(w:World):
  Calls prog 174 #[.int .u8 c] w fun e a=>e=.returned (.bool (vu c))/\a=w:=by
 go_enter func174,ntmps174;go_wp2
 all_goals go_ret
 all_goals exact⟨by simp[vu, *]<;>omega,rfl⟩
theorem re(c:Int)(w:World):
  Calls prog 175 #[.int .u8 c] w fun e a=>e=.returned (.bool (yG c))/\a=w:=by
 go_enter func175,ntmps175;go_wp2
 all_goals go_ret
 all_goals exact⟨by simp[yG, *]<;>omega,rfl⟩
theorem i6(c:Int)(w:World):
  Calls prog 198 #[.int .u8 c] w fun e a=>e=.returned (.bool (PW c))/\a=w:=by
 go_enter func198,ntmps198;go_wp2_with (first|(go_at_call 173;refine(Cw _ _).mono ?_;rintro e a ⟨rfl,rfl⟩)|(go_at_call 174;refine(oR _ _).mono ?_;rintro e a ⟨rfl,rfl⟩)|(go_at_call 175;refine(re _ _).mono ?_;rintro e a ⟨rfl,rfl⟩))
 all_goals go_ret
 all_goals exact⟨by simp[PW, *],rfl⟩
theorem AG(s:ByteArray)(i:Int)(w:World)(b:0<=i)(_:s.size<=500):
  Calls prog 139 #[.string s,.int .i64 i] w fun e a=>e=.returned (.int .u8 (P8 s i.toNat))/\a=w:=by
 obtain⟨i,rfl⟩:=Int.eq_ofNat_of_zero_le b;rw[Int.toNat_natCast];by_cases h:i<s.size
 ·rw[qk h];go_enter func139,ntmps139;go_wp2
  all_goals go_ret
  all_goals exact⟨rfl,rfl⟩
 ·rw[nz h];go_enter func139,ntmps139;go_wp2
  all_goals go_ret
  all_goals exact⟨rfl,rfl⟩
theorem JL(c:Int)(w:World):
  Calls prog 176 #[.int .u8 c] w fun e a=>e=.returned (.int .i64 (gM c))/\a=w:=by
 go_enter func176,ntmps176;go_wp2
 all_goals go_ret
 all_goals go_light
 all_goals exact⟨by simp_all [gM],rfl⟩
theorem AI(a b:Int)(w:World):
  Calls prog 140 #[.int .u8 a,.int .u8 b] w fun e c=>e=.returned (.int .i64 (yX a b))/\c=w:=by
 go_enter func140,ntmps140;go_wp2_with (first|(go_at_call 173;refine(Cw _ _).mono ?_;rintro e c ⟨rfl,rfl⟩)|(go_at_call 174;refine(oR _ _).mono ?_;rintro e c ⟨rfl,rfl⟩)|(go_at_call 175;refine(re _ _).mono ?_;rintro e c ⟨rfl,rfl⟩)|(go_at_call 176;refine(JL _ _).mono ?_;rintro e c ⟨rfl,rfl⟩))
 all_goals go_ret
 all_goals go_light
 all_goals exact⟨by first|(simp_all [yX];done)|(simp_all [yX,yL,vu,yG];done),rfl⟩
theorem JA(s:ByteArray)(i:Nat)(w:World)(hs:s.size<=500)(g:i<=s.size):
  Calls prog 177 #[.string s,.int .i64 i] w fun e c=>e=.returned (.int .i64 (yA PW s i))/\c=w:=by
 go_enter func177,ntmps177;go_wp2;go_loop [5] (fun t=>∃k:Nat,k<=s.size/\t=.int .i64 k/\Hid (yA PW s i=yA PW s k)) (fun t=>s.size-(intOf t).toNat)
 case atStart=>exact⟨i,g,rfl,rfl⟩
 case round=>
  obtain⟨k,h,rfl,H⟩:=hrel;by_cases a:k<s.size
  ·have f:=qk a;cases d:PW (P8 s k) with
   |true=>
    have b:Hid (yA PW s i=yA PW s (k+1)):=by rw[Hid.out H,lh a d];rfl
    rw[f] at d;go_wp2_with (go_at_call 198;refine(i6 _ _).mono ?_;rintro e c ⟨rfl,rfl⟩)
    go_round
    case rel=>exact⟨k+1,by omega,by go_num,b⟩
    case measure=>simp[intOf];omega
   |false=>
    have b:Hid (yA PW s i=k):=by rw[Hid.out H,mv d];rfl
    rw[f] at d;go_wp2_with (go_at_call 198;refine(i6 _ _).mono ?_;rintro e c ⟨rfl,rfl⟩)
    go_ret;exact⟨by rw[Hid.out b];rfl,rfl⟩
  ·have b:Hid (yA PW s i=k):=by rw[Hid.out H,gY a];rfl
   go_wp2_with (go_at_call 198;refine(i6 _ _).mono ?_;rintro e c ⟨rfl,rfl⟩)
   go_ret;exact⟨by rw[Hid.out b];rfl,rfl⟩
theorem GY(s:ByteArray)(i:Nat)(w:World)(hs:s.size<=500)(g:i<=s.size):
  Calls prog 178 #[.string s,.int .i64 i] w fun e c=>e=.returned (.int .i64 (yA yG s i))/\c=w:=by
 go_enter func178,ntmps178;go_wp2;go_loop [5] (fun t=>∃k:Nat,k<=s.size/\t=.int .i64 k/\Hid (yA yG s i=yA yG s k)) (fun t=>s.size-(intOf t).toNat)
 case atStart=>exact⟨i,g,rfl,rfl⟩
 case round=>
  obtain⟨k,h,rfl,H⟩:=hrel;by_cases a:k<s.size
  ·have f:=qk a;cases d:yG (P8 s k) with
   |true=>
    have b:Hid (yA yG s i=yA yG s (k+1)):=by rw[Hid.out H,lh a d];rfl
    rw[f] at d;go_wp2_with (go_at_call 175;refine(re _ _).mono ?_;rintro e c ⟨rfl,rfl⟩)
    go_round
    case rel=>exact⟨k+1,by omega,by go_num,b⟩
    case measure=>simp[intOf];omega
   |false=>
    have b:Hid (yA yG s i=k):=by rw[Hid.out H,mv d];rfl
    rw[f] at d;go_wp2_with (go_at_call 175;refine(re _ _).mono ?_;rintro e c ⟨rfl,rfl⟩)
    go_ret;exact⟨by rw[Hid.out b];rfl,rfl⟩
  ·have b:Hid (yA yG s i=k):=by rw[Hid.out H,gY a];rfl
   go_wp2_with (go_at_call 175;refine(re _ _).mono ?_;rintro e c ⟨rfl,rfl⟩)
   go_ret;exact⟨by rw[Hid.out b];rfl,rfl⟩
theorem BI(s:ByteArray)(i:Nat)(k:Int)(w:World)(hs:s.size<=500)(b:i<=s.size):
  Calls prog 141 #[.string s,.int .i64 i,.int .i64 k] w fun e a=>e=.returned (.int .i64 (ym s i k))/\a=w:=by
 go_enter func141,ntmps141;go_wp2_with (first|(go_at_call 177;refine(JA _ _ _ hs b).mono ?_;rintro e a ⟨rfl,rfl⟩)|(go_at_call 178;refine(GY _ _ _ hs b).mono ?_;rintro e a ⟨rfl,rfl⟩))
 all_goals go_ret
 all_goals go_light
 all_goals exact⟨by simp_all [ym],rfl⟩
theorem KQ(s:ByteArray)(i:Nat)(w:World)(hs:s.size<=500)(f:i<s.size)(b:yX (P8 s i) (P8 s (i+1))=0):
  Calls prog 99 #[.string s,.int .i64 i] w fun e a=>e=.returned (.agg #[.int .i64 0,.string ByteArray.empty])/\Below w.heap.size w a:=by
 have c:ym s i 0=i:=rfl;have d:((i:Int)+1).toNat=i+1:=by omega
 go_enter func99,ntmps99;go_wp2_with (first|(go_at_call 139;refine(AG s _ _ (by omega) hs).mono ?_;rintro e a ⟨rfl,rfl⟩)|(go_at_call 140;refine(AI _ _ _).mono ?_;rintro e a ⟨rfl,rfl⟩)|(go_at_call 141;refine(BI s i _ _ hs (by omega)).mono ?_;rintro e a ⟨rfl,rfl⟩))
 go_returns
 exact⟨rfl,by go_grown⟩
theorem F0(s:ByteArray)(i:Nat)(k:Int)(w:World)(hs:s.size<=500)(p:i<s.size)(q:yX (P8 s i) (P8 s (i+1))=k)
  (l:i<ym s i k) (f:ym s i k<=s.size):
  Calls prog 99 #[.string s,.int .i64 i] w fun e b=>e=.returned (.agg #[.int .i64 k,.string (s.extract i (ym s i k))])/\Below w.heap.size w b:=by
 have o:((i:Int)+1).toNat=i+1:=by omega
 go_enter func99,ntmps99;go_wp2_with (first|(go_at_call 139;refine(AG s _ _ (by omega) hs).mono ?_;rintro e b ⟨rfl,rfl⟩)|(go_at_call 140;refine(AI _ _ _).mono ?_;rintro e b ⟨rfl,rfl⟩)|(go_at_call 141;refine(BI s i _ _ hs (by omega)).mono ?_;rintro e b ⟨rfl,rfl⟩)|(refine In _ rfl (.tmp 41) 9 238 5 rfl underlying9 underlying238 underlying5 _ rfl ?_;intro h m d a;obtain⟨c,g⟩:=Gq a;have j:=a.size;simp only[World.size_alloc] at j)|(refine G7 _ rfl (.tmp 42) 238 9 5 rfl underlying238 underlying5 underlying9 _ _ _ rfl ?_ ?_;(first|exact d|fail)))
 have n:Below w.heap.size w m:=P3 zQ a;exact zK (v:=.agg #[.int .i64 k,.string (s.extract i (ym s i k))]) (by simp[results,results99,go_sem,c]) rfl ⟨rfl,by go_grown⟩
def jD(l:List (Int×ByteArray)):List Value:=l.flatMap fun x=>[.int .i64 x.1,.string x.2]
theorem Ft(l:List (Int×ByteArray))(k:Int)(t:ByteArray):jD (l++[(k,t)])=jD l++[.int .i64 k,.string t]:=by simp[jD]
theorem Pl:(prog.info? 182).map (fun i=>(i.zero,i.size,i.bytes))=some (some (.agg #[.int .i64 0,.string ByteArray.empty]),2,24):=by kernel_rfl
def pB(s:ByteArray)(w:World)(e:Ending)(a:World):Prop:=
 Below w.heap.size w a/\match PA s with
  |none=>e=.returned (.tuple #[.slice none 0 0,.bool false])
  |some l=>∃v,e=.returned (.tuple #[v,.bool true])/\a.ownsRow w.heap.size 182 2 v l.length (jD l)/\l.length<=s.size
theorem E0{s:ByteArray}{w a:World}(h:Hid (PA s=none))(c:Below w.heap.size w a):pB s w (.returned (.tuple #[.slice none 0 0,.bool false])) a:=by
 have b:PA s=none:=h;unfold pB;rw[b];exact⟨c,rfl⟩
theorem LO{s:ByteArray}{w a:World}{v:Value}{l:List (Int×ByteArray)}(h:Hid (PA s=some l))(b:Below w.heap.size w a)(c:a.ownsRow w.heap.size 182 2 v l.length (jD l))(d:l.length<=s.size):
  pB s w (.returned (.tuple #[v,.bool true])) a:=by
 have e:PA s=some l:=h;unfold pB;rw[e];exact⟨b,v,rfl,c,d⟩
theorem Dn(s:ByteArray)(w:World)(hs:s.size<=500):
  Calls prog 59 #[.string s] w fun e u=>pB s w e u:=by
 obtain⟨T,Q,B,G,F⟩:=info_parts Pl;go_enter func59,ntmps59;go_wp2;go_loopw [4,5] (fun v t wr=>∃(k:Nat) (a:List (Int×ByteArray)) (m:Nat),k<=s.size/\t=.int .i64 k/\s.size-k<=m/\Hid (PA s=(PC m s k).map (a++·))/\a.length<=k ∧
   wr.ownsRow w.heap.size 182 2 v a.length (jD a)/\Below w.heap.size w wr) (fun _ t _=>s.size-(intOf t).toNat)
 case atStart=>exact⟨0,[],s.size,zx _,rfl,by omega,(by simp[PA,Hid]),zf _,yI _ _ _ _,zo _ _⟩
 case round=>
  obtain⟨k,a,m,W,rfl,U,H,P,i,c⟩:=hrel;by_cases b:k<s.size
  ·have n:=qk b;obtain⟨m,rfl⟩:∃S,m=S+1:=⟨m-1,by omega⟩;cases o:vW (P8 s k) with
   |true=>
    have l:Hid (PA s=(PC m s (k+1)).map (a++·)):=by rw[←sJ b o];exact H
    rw[n] at o;clear n H;go_wp2_with (go_at_call 98;refine(r9 _ _).mono ?_;rintro e u ⟨rfl,rfl⟩)
    go_roundw
    case rel=>exact⟨k+1,a,m,by omega,by go_num,by omega,l,by omega,i,c⟩
    case measure=>simp[intOf];omega
   |false=>
    by_cases h:yX (P8 s k) (P8 s (k+1))=0
    ·have l:Hid (PA s=none):=by rw[Hid.out H,sA b o h];simp[Hid]
     have q:=KQ s k wr hs b h;rw[n] at o;clear n H h;go_wp2_with (first|(go_at_call 98;refine(r9 _ _).mono ?_;rintro e u ⟨rfl,rfl⟩)|(go_at_call 99;refine q.mono ?_;rintro e C ⟨rfl,g⟩;clear q;have r:=P3 c g;have x:=r.size))
     go_ret2
     exact E0 l (by go_grown)
    ·obtain⟨f,d⟩:∃f,yX (P8 s k) (P8 s (k+1))=f:=⟨_,rfl⟩;have j:f≠0:=by rw[←d];exact h
     obtain⟨M,D⟩:=pC s k f b d j;have q:=F0 s k f wr hs b d M D;by_cases O:6<ym s k f-k
     ·have l:Hid (PA s=none):=by rw[Hid.out H,rC b o d O];simp[Hid]
      rw[n] at o;clear n H h d;generalize ym s k f=p at *;have E:(s.extract k p).size=p-k:=by rw[ByteArray.size_extract];omega
      generalize s.extract k p=N at *;have y:(f == 0)=false:=by simpa using j
      go_wp2_with (first|(go_at_call 98;refine(r9 _ _).mono ?_;rintro e u ⟨rfl,rfl⟩)|(go_at_call 99;refine q.mono ?_;rintro e C ⟨rfl,g⟩;clear q;have r:=P3 c g;have x:=r.size))
      go_ret2
      exact E0 l (by go_grown)
     ·have l:Hid (PA s=(PC m s (ym s k f)).map ((a++[(f,s.extract k (ym s k f))])++·)):=by rw[Hid.out H,tq b o d j O,rm];rfl
      rw[n] at o;clear n H h d;generalize ym s k f=p at *;have E:(s.extract k p).size=p-k:=by rw[ByteArray.size_extract];omega
      generalize s.extract k p=N at *;have y:(f == 0)=false:=by simpa using j
      go_wp2_with (first|(go_at_call 98;refine(r9 _ _).mono ?_;rintro e u ⟨rfl,rfl⟩)|(go_at_call 99;refine q.mono ?_;rintro e C ⟨rfl,g⟩;clear q;have r:=P3 c g;have x:=r.size;have J:=zC i g)|(at_builtin;refine jS C _ _ _ rfl (.tmp 29) (.tmp 31) 118 rfl w.heap.size 182 T _ 2 24 underlying118 Q B G F rfl (by decide) _ _ _ rfl J zQ _ _ rfl (by simp) rfl (by simp[Value.oneCell']) (by omega) (by omega) (by omega) ?_;intro X V A K I L R z;simp only[World.size_alloc] at I L z))
      go_roundw
      case rel=>exact⟨p,a++[(f,N)],m,by omega,by go_num,by omega,l,by simp;omega,by rw[yv,Ft];exact A,r.trans K⟩
      case measure=>simp[intOf];omega
  ·have l:Hid (PA s=some a):=by rw[Hid.out H,pu b];simp[Hid]
   clear H;go_wp2;go_ret2
   exact LO l c i (by omega)
end
section
variable {lo:Nat}{t:ByteArray}{r base n b:Nat}{w w':World}{v wv:Value}{xs:List Value}{c:Array Value}{l:List ByteArray}
abbrev P4:=Int×ByteArray
structure zj where
 neg:Bool
 pred:ByteArray
 args:List ByteArray
structure zc where
 head:zj
 body:List zj
def Qw(k:Int):Bool:=k == 1||k == 3||k == 2
def PM:List P4->Int
 |[]=>0
 |x::_=>x.1
def yi:List P4->Option (List ByteArray×List P4)
 |[]=>none
 |[x]=>if Qw x.1 then some ([x.2],[]) else none
 |x::y::r=>if Qw x.1 then(if y.1=6 then(yi r).map fun z=>(x.2::z.1,z.2) else some ([x.2],y::r)) else none
theorem KA{k:Int}{r:List P4}(h:Qw k=false):yi ((k,t)::r)=none:=by cases r<;>simp[yi,h]
theorem C1{k:Int}{r:List P4}(h:Qw k=true)(a:PM r≠6):yi ((k,t)::r)=some ([t],r):=by
 cases r with
 |nil=>simp[yi,h]
 |cons y r=>simp only[PM] at a;simp[yi,h,a]
theorem G1{k:Int}{r:List P4}(h:Qw k=true)(a:PM r=6):yi ((k,t)::r)=(yi r.tail).map fun z=>(t::z.1,z.2):=by
 cases r with
 |nil=>simp[PM] at a
 |cons y r=>simp only[PM] at a;simp[yi,h,a]
def yY(r:List P4):Option (zj×List P4):=
 if PM r=1 then
  if PM r.tail=4 then
   match yi r.tail.tail with
   |none=>none
   |some (d,a)=>if PM a=5 then some (⟨false,(r.headD (0,ByteArray.empty)).2,d⟩,a.tail) else none
  else some (⟨false,(r.headD (0,ByteArray.empty)).2,[]⟩,r.tail)
 else none
def us(r:List P4):Option (zj×List P4):=
 if PM r=8 then(yY r.tail).map fun z=>({z.1 with neg:=true},z.2) else yY r
structure PB (r:Nat) (w w':World):Prop where
 os:w'.os=w.os
 tape:w'.tape=w.tape
 output:w'.output=w.output
 size:w.heap.size<=w'.heap.size
 block:∀k,k<w.heap.size->k≠r->w'.heap[k]?=w.heap[k]?
theorem PB.refl(r:Nat)(w:World):PB r w w:=⟨rfl,rfl,rfl,zf _,fun _ _ _=>rfl⟩
theorem PB.trans{r:Nat}{a b c:World}(h:PB r a b)(k:PB r b c):PB r a c:=
 ⟨k.os.trans h.os,k.tape.trans h.tape,k.output.trans h.output,zT h.size k.size,fun i e d=>(k.block i (xG e h.size) d).trans (h.block i e d)⟩
theorem PB.of(h:Below w.heap.size w w'):PB r w w':=⟨h.os,h.tape,h.output,h.size,fun k a _=>h.block k a⟩
theorem PB.below{B:Nat}(h:PB r w w')(e:B<=r)(a:B<=w.heap.size):Below B w w':=⟨h.os,h.tape,h.output,h.size,fun k d=>h.block k (by omega) (by omega)⟩
theorem PB.setCell{r:Nat}{a w:World}(h:PB r a w)(o:Nat)(u:Value):PB r a (w.setCell ⟨r,o,none⟩ u):=
 h.trans ⟨rfl,rfl,rfl,by simp[World.setCell],fun _ _ d=>Below.heap_setCell _ _ _ _ d⟩
theorem PB.drew{r:Nat}{a w:World}(h:PB r a w):PB r a w.drew:=⟨h.os,h.tape,h.output,h.size,h.block⟩
theorem PB.drewN{r:Nat}{a w:World}(h:PB r a w)(n:Nat):PB r a (w.drewN n):=h.trans (PB.of (zL (zo _ _) n))
theorem PB.alloc{r:Nat}{a w:World}(h:PB r a w)(o:Obj):PB r a (w.alloc o):=h.trans (PB.of ((zo _ _).alloc (zf _) o))
theorem PB.setNew{r:Nat}{a w:World}(h:PB r a w){p:Addr}(f:a.heap.size<=p.block)(u:Value):PB r a (w.setCell p u):=
 ⟨h.os,h.tape,h.output,by simp[World.setCell];exact h.size,fun k e d=>(Below.heap_setCell _ _ _ _ (by omega)).trans (h.block k e d)⟩
abbrev xR:=@PB.refl
abbrev xN:=@PB.drewN
abbrev xA:=@PB.alloc
abbrev xD:=@PB.drew
abbrev xS:=@PB.setCell
abbrev xT:=@PB.setNew
theorem xK{e:TypeId}{a:Nat}(h:w.ownsRow base e a v n xs)(x:PB r w w')
  {c:Array Value} {T:TypeId} {f:Nat×Nat} (j:w.heap[r]?=some (.cells c T f)) (p:T≠e):w'.ownsRow base e a v n xs:=by
 obtain⟨y,d⟩:=h;refine⟨y,?_⟩;rcases d with d|⟨g,o,i,s,q,k,u⟩
 ·exact zg d
 ·refine ze ⟨g,o,i,s,q,?_,u⟩;rw[x.block g (kw.1 k).1 (fun m=>by subst m;rw[k] at j;simp at j;exact p j.2.1.symm)];exact k
theorem zs{e:TypeId}{d:Nat}(h:w.ownsRow base e d v n xs):∃k a,v=.slice k n a:=by
 obtain⟨_,⟨f,i⟩|⟨g,a,j,f,_⟩⟩:=h
 ·exact⟨none,0,by rw[f,i]⟩
 ·exact⟨_,a,f⟩
theorem yC{e:TypeId}{d:Nat}(h:w.ownsRow base e d v n xs)(y:0<n):
  ∃g a,v=.slice (some ⟨g,0,none⟩) n a/\base<=g/\g<w.heap.size/\∀j u,xs[j]?=some u->w.cell? ⟨g,j,none⟩=some u:=by
 obtain⟨A,⟨k,z⟩|⟨g,a,m,k,p,i,s,q,x,o⟩⟩:=h
 ·omega
 ·refine⟨g,a,k,p,(kw.1 i).1,fun j u f=>?_⟩;unfold World.cell?;rw[i];simp;rw[←o,l9] at f;split at f
  ·simpa using f
  ·simp at f
def Py(w:World)(b:Nat)(c:Array Value)(T:TypeId):Prop:=w.heap[b]?=some (.cells c T (0,0))
theorem Py.lt{T:TypeId}(h:Py w b c T):b<w.heap.size:=(kw.1 h).1
theorem Py.new(w:World)(c:Array Value)(T:TypeId):Py (w.alloc (.cells c T)) w.heap.size c T:=by unfold Py;show(w.heap.push _)[w.heap.size]?=_;simp
theorem Py.below{T:TypeId}(h:Py w b c T)(a:Below w.heap.size w w'):Py w' b c T:=by have:=h.lt;unfold Py at *;rw[a.block b this];exact h
theorem Py.but{T:TypeId}(h:Py w b c T)(d:PB r w w')(a:b≠r):Py w' b c T:=by have:=h.lt;unfold Py at *;rw[d.block b this a];exact h
theorem Py.rules{T:TypeId}(h:Py w b c T):(∀o,w.cell? ⟨b,o,none⟩=c[o]?)/\(∀o,w.frozen? ⟨b,o,none⟩=false):=by
 unfold Py at h;exact⟨fun o=>by unfold World.cell?;rw[h];simp,fun o=>by unfold World.frozen?;rw[h];simp⟩
theorem Py.boxed{T:TypeId}(h:Py w b c T):(∀o,w.cell? ⟨b,o,none⟩=c[o]?)/\(∀o,w.frozen? ⟨b,o,none⟩=false)/\b<w.heap.size:=⟨h.rules.1,h.rules.2,h.lt⟩
def P7(lo:Nat)(w:World)(v:Value)(l:List ByteArray):Prop:=w.ownsRow lo 9 1 v l.length (l.map Value.string)
theorem yq{a:Nat}{e:TypeId}{d:Nat}(h:w.ownsRow b e d v n xs)(p:a<=b):w.ownsRow a e d v n xs:=by
 obtain⟨o,f⟩:=h;refine⟨o,?_⟩;rcases f with f|⟨g,j,i,k,q,m⟩
 ·exact zg f
 ·exact ze ⟨g,j,i,k,by omega,m⟩
theorem P7.low{a:Nat}(h:P7 b w v l)(d:a<=b):P7 a w v l:=yq h d
theorem P7.nil(w:World):P7 lo w (.slice none 0 0) []:=yI _ _ _ _
theorem P7.qx(h:P7 lo w v l):∃d a,v=.slice d l.length a:=zs h
theorem P7.below(h:P7 lo w v l)(a:Below w.heap.size w w'):P7 lo w' v l:=zC h a
theorem P7.but(h:P7 lo w v l)(e:PB r w w'){T:TypeId}{f:Nat×Nat}(d:w.heap[r]?=some (.cells c T f))(a:T≠9):P7 lo w' v l:=by
 exact xK h e d a
structure Rd (w:World) (r:Nat) (wv:Value) (l rest:List P4):Prop where
 box:∃p:Nat,p<=l.length/\rest=l.drop p/\w.heap[r]?=some (.cells #[wv,.int .i64 p] 185 (0,0))
 words:∃base,w.ownsRow base 182 2 wv l.length (jD l)
theorem Rd.cell{l rest:List P4}(h:Rd w r wv l rest):∃c f,w.heap[r]?=some (.cells c 185 f):=by
 obtain⟨p,_,_,a⟩:=h.box;exact⟨_,_,a⟩
theorem Rd.lt{l rest:List P4}(h:Rd w r wv l rest):r<w.heap.size:=by
 obtain⟨p,_,_,a⟩:=h.box;exact(kw.1 a).1
theorem Rd.below{l rest:List P4}(h:Rd w r wv l rest)(d:Below w.heap.size w w'):Rd w' r wv l rest:=by
 have a:=h.lt;obtain⟨⟨p,g,e,i⟩,b,f⟩:=h;exact⟨⟨p,g,e,by rw[d.block r a];exact i⟩,b,zC f d⟩
theorem IK(l:List P4)(p:Nat)(k:Int)(t:ByteArray)(r:List P4)(h:(k,t)::r=l.drop p):(jD l)[p*2]?=some (.int .i64 k)/\(jD l)[p*2+1]?=some (.string t):=by
 induction l generalizing p with
 |nil=>simp at h
 |cons x l a=>
  cases p with
  |zero=>simp at h;obtain⟨rfl,_⟩:=h;simp[jD]
  |succ p=>
   have:=a p (by simpa using h);simp only[jD,uo] at this ⊢;rw[show(p+1)*2=p*2+1+1 from by omega];simpa using this
theorem Rd.view{l rest:List P4}(h:Rd w r wv l rest):∃(p:Nat) (e:Option Addr) (cap:Nat),p<=l.length/\rest=l.drop p/\wv=.slice e l.length cap ∧
  w.heap[r]?=some (.cells #[wv,.int .i64 p] 185 (0,0))/\w.cell? ⟨r,0,none⟩=some wv/\w.cell? ⟨r,1,none⟩=some (.int .i64 p)/\(∀o,w.frozen? ⟨r,o,none⟩=false) ∧
  (∀k t j,rest=(k,t)::j->∃g,e=some ⟨g,0,none⟩/\g<w.heap.size/\p<l.length/\w.cell? ⟨g,p*2,none⟩=some (.int .i64 k)/\w.cell? ⟨g,p*2+1,none⟩=some (.string t)):=by
 obtain⟨⟨p,z,d,f⟩,b,m⟩:=h;obtain⟨e,cap,q⟩:=zs m;refine⟨p,e,cap,z,d,q,f,by unfold World.cell?;rw[f];simp,by unfold World.cell?;rw[f];simp,fun o=>by unfold World.frozen?;rw[f];simp,?_⟩;intro k t j i;have A:p<l.length:=by
  rcases gD p l.length with h|h
  ·exact h
  ·rw[ug h] at d;rw[d] at i;cases i
 obtain⟨g,u,a,_,y,s⟩:=yC m (by omega);rw[q] at a;simp at a;obtain⟨B,x⟩:=IK l p k t j (by rw[←i,d]);exact⟨g,a.1,y,A,s _ _ B,s _ _ x⟩
theorem Rd.keep{z x:World}{l a rest:List P4}(y:Rd w r wv l a)(h:Rd z r wv l rest)(s:Below w.heap.size z x):Rd x r wv l rest:=by
 have i:=y.lt;obtain⟨_,I,_,j⟩:=y;obtain⟨⟨p,F,C,B⟩,b,G,k⟩:=h;refine⟨⟨p,F,C,by rw[s.block r i];exact B⟩,b,G,?_⟩;rcases k with k|⟨g,m,f,e,E,A,D⟩
 ·exact zg k
 ·refine ze ⟨g,m,f,e,E,?_,D⟩;rcases j with⟨d,_⟩|⟨H,q,u,d,_,o,_⟩
  ·rw[d] at e;cases e
  ·rw[d] at e;simp at e;obtain⟨rfl,rfl⟩:=e;rw[s.block H (kw.1 o).1];exact A
theorem PB.onto{a b c:World}(h:PB r a b)(k:Below a.heap.size b c):PB r a c:=
 ⟨k.os.trans h.os,k.tape.trans h.tape,k.output.trans h.output,zT h.size k.size,fun i d e=>(k.block i d).trans (h.block i d e)⟩
theorem Rd.next{l rest:List P4}{p:Nat}(a:w.heap[r]?=some (.cells #[wv,.int .i64 p] 185 (0,0)))(g:p<l.length)(d:rest=l.drop p)
  (e:∃base,w.ownsRow base 182 2 wv l.length (jD l)):Rd (w.setCell ⟨r,1,none⟩ (.int .i64 ((p:Int)+1))) r wv l rest.tail:=by
 refine⟨⟨p+1,g,by rw[d,List.tail_drop],?_⟩,?_⟩
 ·simp[World.setCell,Array.getElem?_modify,a]
 ·obtain⟨b,f⟩:=e;exact⟨b,xK f ((PB.refl r w).setCell 1 _) a (by decide)⟩
end
section
open Go.Proofs.Tryz
theorem ek(k:Int)(w:World):
  Calls prog 199 #[.int .i64 k] w fun e a=>e=.returned (.bool (Qw k))/\a=w:=by
 go_enter func199,ntmps199;go_wp2
 all_goals go_ret
 all_goals go_light
 all_goals exact⟨by simp_all [Qw],rfl⟩
theorem mP(w:World)(r:Nat)(s:Value)(l rest:List P4)(h:Rd w r s l rest)(_:l.length<=500):
  Calls prog 179 #[.pointer (some ⟨r,0,none⟩)] w fun e y=>e=.returned (.agg #[.int .i64 (PM rest),.string (rest.headD (0,ByteArray.empty)).2])/\Below w.heap.size w y:=by
 have m:=h.lt;obtain⟨p,B,q,A,j,rfl,b,f,o,n,d⟩:=h.view;cases rest with
 |nil=>
  have a:p=l.length:=by
   have:=congrArg List.length j;simp at this;omega
  subst a;go_enter func179,ntmps179;go_wp2;go_quiet (fail)
  go_wp2;go_returns
  exact⟨rfl,(by repeat'(first|with_reducible(first|apply zR|assumption|apply zN|apply zA|apply zD|apply zS)|go_size))⟩
 |cons x u=>
  obtain⟨k,t⟩:=x;obtain⟨g,rfl,z,a,i,c⟩:=d k t u rfl;go_enter func179,ntmps179;go_wp2;go_quiet (fail)
  go_wp2;go_region
  all_goals go_wp2
  all_goals exact zK (v:=.agg #[.int .i64 k,.string t]) (by simp[results,results179,go_sem]) rfl ⟨rfl,(by repeat'(first|with_reducible(first|apply zR|assumption|apply zN|apply zA|apply zD|apply zS)|go_size))⟩
theorem Qj(w:World)(r:Nat)(o:Value)(l rest:List P4)(k:Int)(h:Rd w r o l rest)(M:l.length<=500)(K:k≠0):
  Calls prog 143 #[.pointer (some ⟨r,0,none⟩),.int .i64 k] w fun e v=>e=.returned (.bool (PM rest == k))/\Rd v r o l (if PM rest=k then rest.tail else rest)/\PB r w v:=by
 have b:=mP w r o l rest h M;by_cases f:PM rest=k
 ·obtain⟨p,N,L,R,A,B,d,H,n,i,D⟩:=h.view;have s:=h.words;have c:=h.lt;cases rest with
  |nil=>exact zB f.symm K
  |cons x y=>
   obtain⟨z,t⟩:=x;obtain⟨g,_,Q,q,I,G⟩:=D z t y rfl;have J:=Px A;subst f;simp only[if_true,beq_self_eq_true,hX];go_enter func143,ntmps143;go_wp2_with (first|(go_at_call 179;(refine b.mono ?_;rintro e m ⟨rfl,a⟩;clear b;have P:=a.size;have u:r<m.heap.size:=(by omega);have F:=zm a c n;have E:=(a.frozen (p:=⟨r,1,none⟩) c).trans (i 1))))
   go_ret;refine⟨rfl,?_,?_⟩
   ·obtain⟨C,s⟩:=s;exact(Rd.next (w:=m) (rest:=(z,t)::y) ((a.block r c).trans d) q J ⟨C,zC s a⟩).below zQ
   ·have O:=PB.of (r:=r) a;exact(by repeat'(first|with_reducible(first|apply xR|assumption|apply xN|apply xA|apply xD|apply xS|apply xT)|go_size))
 ·rw[za f];have j:(PM rest == k)=false:=by simpa using f
  rw[j];go_enter func143,ntmps143;go_wp2_with (first|(go_at_call 179;refine b.mono ?_;rintro e m ⟨rfl,a⟩;clear b))
  go_ret;exact⟨rfl,h.below (a.alloc a.size _),PB.of (a.alloc a.size _)⟩
theorem jY(w:World)(r:Nat)(a:Value)(l rest:List P4)(k:Int)(h:Rd w r a l rest)(f:l.length<=500)(d:k≠0)(b:PM rest=k):
  Calls prog 143 #[.pointer (some ⟨r,0,none⟩),.int .i64 k] w fun e c=>e=.returned (.bool true)/\Rd c r a l rest.tail/\PB r w c:=by
 have:=Qj w r a l rest k h f d;rw[zb b,b,beq_self_eq_true] at this;exact this
theorem ma(w:World)(r:Nat)(a:Value)(l rest:List P4)(k:Int)(h:Rd w r a l rest)(f:l.length<=500)(d:k≠0)(b:PM rest≠k):
  Calls prog 143 #[.pointer (some ⟨r,0,none⟩),.int .i64 k] w fun e c=>e=.returned (.bool false)/\Rd c r a l rest/\PB r w c:=by
 have:=Qj w r a l rest k h f d;rw[za b,show(PM rest == k)=false by simpa using b] at this;exact this
end
section
open Go.Proofs.Tryz
variable {lo:Nat}
theorem Po:(prog.info? 9).map (fun i=>(i.zero,i.size,i.bytes))=some (some (.string ByteArray.empty),1,16):=by kernel_rfl
def p7(w:World)(r:Nat)(b:Value)(l rest:List P4)(e:Ending)(a:World):Prop:=
 PB r w a/\match yi rest with
  |none=>e=.returned (.tuple #[.slice none 0 0,.bool false])
  |some (d,c)=>∃v,e=.returned (.tuple #[v,.bool true])/\P7 w.heap.size a v d/\Rd a r b l c
theorem Cy{w a:World}{r:Nat}{b:Value}{l rest:List P4}(h:Hid (yi rest=none))(d:PB r w a):p7 w r b l rest (.returned (.tuple #[.slice none 0 0,.bool false])) a:=by
 have c:yi rest=none:=h;unfold p7;rw[c];exact⟨d,rfl⟩
theorem Gz{w a:World}{r:Nat}{b v:Value}{l rest r2:List P4}{ts:List ByteArray}(h:Hid (yi rest=some (ts,r2)))(d:PB r w a)(hs:P7 w.heap.size a v ts)(c:Rd a r b l r2):
  p7 w r b l rest (.returned (.tuple #[v,.bool true])) a:=by
 have e:yi rest=some (ts,r2):=h;unfold p7;rw[e];exact⟨d,v,rfl,hs,c⟩
theorem Ex{α β:Type}(o:Option (List α×β))(a:List α)(x:α):((o.map fun z=>(x::z.1,z.2)).map fun z=>(a++z.1,z.2))=o.map fun z=>((a++[x])++z.1,z.2):=by cases o<;>simp
theorem Aa(w:World)(r:Nat)(I:Value)(l rest:List P4)(h:Rd w r I l rest)(hl:l.length<=500):
  Calls prog 180 #[.pointer (some ⟨r,0,none⟩)] w fun e M=>p7 w r I l rest e M:=by
 obtain⟨i0,hi,R,Z,W⟩:=info_parts Po;have ap:=h.lt;go_enter func180,ntmps180;go_wp2;go_loopg [4,5] (rest.length) (fun n v t wr=>∃(f:List ByteArray) (b:List P4) (more:Bool),t=.bool more/\b.length<=n/\b.length+f.length<=rest.length ∧
   wr.ownsRow w.heap.size 9 1 v f.length (f.map Value.string)/\Rd wr r I l b/\PB r w wr ∧
   Hid (more=true->yi rest=(yi b).map fun z=>(f++z.1,z.2))/\Hid (more=false->yi rest=some (f,b)))
 case atStart=>exact⟨[],rest,true,rfl,zf _,by simp,yI _ _ _ _,h,PB.refl _ _,(fun _=>by simp),(fun h=>by cases h)⟩
 case round=>
  obtain⟨f,b,more,rfl,hn,L,s,q,c,D,O⟩:=hrel;have al:rest.length<=l.length:=by
   obtain⟨p,_,hp,_⟩:=h.box;rw[hp];simp
  have an:=c.size;have j:=q.lt;cases more with
  |false=>
   have H:=Px (O rfl);clear D O;go_wp2;go_ret2
   exact Gz H c s q
  |true=>
   have d:=mP wr r I l b q hl;cases b with
   |nil=>
    have H:Hid (yi rest=none):=by rw[Hid.out D rfl];simp[yi,Hid]
    clear D O;have N:Qw 0=false:=rfl;simp only[PM] at d;go_wp2_with (first|(go_at_call 179;refine d.mono ?_;rintro e y ⟨rfl,a⟩;clear d;have hz:=a.size)|(go_at_call 199;refine(ek _ _).mono ?_;rintro e M ⟨rfl,rfl⟩))
    go_ret2
    have hB:=c.trans (PB.of a);exact Cy H (by repeat'(first|with_reducible(first|apply xR|assumption|apply xN|apply xA|apply xD|apply xS|apply xT)|go_size))
   |cons x i=>
    obtain⟨k,t⟩:=x;simp only[PM,List.headD_cons] at d;cases N:Qw k with
    |false=>
     have H:Hid (yi rest=none):=by rw[Hid.out D rfl,KA N];simp[Hid]
     clear D O;go_wp2_with (first|(go_at_call 179;refine d.mono ?_;rintro e y ⟨rfl,a⟩;clear d;have hz:=a.size)|(go_at_call 199;refine(ek _ _).mono ?_;rintro e M ⟨rfl,rfl⟩))
     go_ret2
     have hB:=c.trans (PB.of a);exact Cy H (by repeat'(first|with_reducible(first|apply xR|assumption|apply xN|apply xA|apply xD|apply xS|apply xT)|go_size))
    |true=>
     obtain⟨p,ao,aq,hp,hr,F,A,X,ac,S,hx⟩:=q.view;obtain⟨g,_,hg,af,Y,V⟩:=hx k t i rfl;have HR:Hid ((k,t)::i=l.drop p):=hr;have HW:=Px F;clear hx hr Y V X F;go_wp2_with (first|(go_at_call 179;refine d.mono ?_;rintro e y ⟨rfl,a⟩;clear d;have hz:=a.size;have ah:r<y.heap.size:=(by omega);have am:=zm a j ac;have ak:=(a.frozen (p:=⟨r,1,none⟩) j).trans (S 1);have ae:=a;have K:=Rd.next (w:=y) (rest:=(k,t)::i) ((a.block r j).trans A) af HR ⟨_,zC q.words.choose_spec a⟩;have P:=xK (zC s a) ((PB.refl r y).setCell 1 (.int .i64 ((p:Int)+1))) ((a.block r j).trans A) (by decide);have ad:=(c.trans (PB.of a)).setCell 1 (.int .i64 ((p:Int)+1));have aj:(y.setCell ⟨r,1,none⟩ (.int .i64 ((p:Int)+1))).heap.size=y.heap.size:=(by simp);clear ae)|(go_at_call 199;refine(ek _ _).mono ?_;rintro e M ⟨rfl,rfl⟩)|(at_builtin;refine jS (y.setCell ⟨r,1,none⟩ (.int .i64 ((p:Int)+1))) _ _ _ rfl (.tmp 21) (.tmp 24) 30 rfl w.heap.size 9 i0 _ 1 16 underlying30 hi R Z W rfl (by decide) _ _ _ rfl P zQ _ _ rfl (by simp) rfl (by simp[Value.oneCell']) (by simp at L;omega) (by omega) (by omega) ?_;intro v' w2 Q J ab ag aa ai;clear ab ag aa;have u:=Rd.keep h K J;have C:=ad.onto J;have E:=Qj w2 r I l i 6 u hl (by decide))|(go_at_call 143;refine E.mono ?_;rintro e w3 ⟨rfl,G,o⟩;clear E))
     obtain⟨c3,f3,B⟩:=u.cell;have U:=xK Q o B (by decide);have hP:=Hid.out D trivial;simp only[xd] at hn L;have T:(if PM i=6 then i.tail else i).length<=i.length:=by split<;>simp
     go_roundg i.length
     case measure=>omega
     case rel=>
      refine⟨f++[t],(if PM i=6 then i.tail else i),(PM i == 6),rfl,T,by simp;omega,by simpa using U,G,C.trans o,?_,?_⟩
      ·intro h6;have m:PM i=6:=by simpa using h6
       rw[zb m,hP,G1 N m,Ex]
      ·intro h6;have m:PM i≠6:=by simpa using h6
       rw[za m,hP,C1 N m];simp
theorem K0(w:World)(r:Nat)(b:Value)(l rest:List P4)(h:Rd w r b l rest)(f:l.length<=500)(g:yi rest=none):
  Calls prog 180 #[.pointer (some ⟨r,0,none⟩)] w fun e c=>e=.returned (.tuple #[.slice none 0 0,.bool false])/\PB r w c:=by
 refine(Aa w r b l rest h f).mono ?_;rintro e c ⟨d,a⟩;rw[g] at a;exact⟨a,d⟩
theorem B9(w:World)(r:Nat)(f:Value)(l rest r2:List P4)(ts:List ByteArray)(h:Rd w r f l rest)(j:l.length<=500)(k:yi rest=some (ts,r2)):
  Calls prog 180 #[.pointer (some ⟨r,0,none⟩)] w fun e d=>∃v,e=.returned (.tuple #[v,.bool true])/\P7 w.heap.size d v ts/\Rd d r f l r2/\PB r w d:=by
 refine(Aa w r f l rest h j).mono ?_;rintro e d ⟨i,g⟩;rw[k] at g;obtain⟨v,a,b,c⟩:=g;exact⟨v,a,b,c,i⟩
def hU(o:Option (zj×List P4))(w:World)(r:Nat)(d:Value)(l:List P4)(e:Ending)(b:World):Prop:=
 PB r w b/\match o with
  |none=>e=.returned (.tuple #[.agg #[.bool false,.string ByteArray.empty,.slice none 0 0],.bool false])
  |some (a,f)=>∃c,e=.returned (.tuple #[.agg #[.bool a.neg,.string a.pred,c],.bool true])/\P7 w.heap.size b c a.args/\Rd b r d l f
theorem Nm(w:World)(r:Nat)(d:Value)(l rest:List P4)(h:Rd w r d l rest)(n:l.length<=500)(x:(PM rest == 1)=false):
  Calls prog 142 #[.pointer (some ⟨r,0,none⟩)] w fun e q=>hU none w r d l e q:=by
 have o:=h.lt;have j:w.heap.size≠r:=by omega
 go_enter func142,ntmps142;go_wp2_with (first|(go_at_call 179;refine(mP _ r d l rest (by exact h.below (by go_grown)) n).mono ?_;rintro e s ⟨rfl,b⟩;have c:=P3 zQ b;have k:=(Py.new w _ _).below b;have g:=h.below c)|(go_at_call 143;refine(Qj _ r d l rest 1 (by exact g.below (by go_grown)) n (by decide)).mono ?_;rintro e t ⟨rfl,m,a⟩;have f:=(k.below zQ).but a j;obtain⟨i,p⟩:=f.rules))
 have u:=(PB.of c).trans (((PB.refl r s).alloc _).trans a);exact zK (v:=.tuple #[.agg #[.bool false,.string ByteArray.empty,.slice none 0 0],.bool false]) (by simp[results,results142,go_sem,i];rfl) rfl ⟨(by repeat'(first|with_reducible(first|apply xR|assumption|apply xN|apply xA|apply xD|apply xS|apply xT)|go_size)),rfl⟩
theorem G6(w:World)(r:Nat)(g:Value)(l rest:List P4)(h:Rd w r g l rest)(G:l.length<=500)(M:PM rest=1)(S:PM rest.tail≠4):
  Calls prog 142 #[.pointer (some ⟨r,0,none⟩)] w fun e x=>hU (some (⟨false,(rest.headD (0,ByteArray.empty)).2,[]⟩,rest.tail)) w r g l e x:=by
 have U:=h.lt;have i:w.heap.size≠r:=by omega
 generalize Q:(rest.headD (0,ByteArray.empty)).2=t;have HT:=Px Q;have H1:=Px M;have z:Hid (∀W,Rd W r g l rest->Calls prog 179 #[.pointer (some ⟨r,0,none⟩)] W fun e x=>e=.returned (.agg #[.int .i64 1,.string t])/\Below W.heap.size W x):=fun W V=>by
  have:=mP W r g l rest V G;rw[M,Hid.out HT] at this;exact this
 have Y:=Px S;go_enter func142,ntmps142;go_wp2_with (first|(go_at_call 179;refine(Hid.out z _ (by exact h.below (by go_grown))).mono ?_;rintro e u ⟨rfl,m⟩;have q:=P3 zQ m;have n:=(Py.new w _ _).below m;have T:=n.lt;have B:=h.below q;have I:r<u.heap.size:=(by omega);have c:u.heap.size≠r:=(by omega))|(go_at_call 143;have o:=s;refine(ma _ r g l rest.tail 4 o G (by decide) Y).mono ?_;rintro e w3 ⟨rfl,p,b⟩;have k:=d.but b i;have j:=f.but b c;clear C F D A;obtain⟨y,O⟩:=k.rules;obtain⟨P,X⟩:=j.rules;have N:=k.lt;have L:=j.lt;have J:=p.lt;have Z:=E.trans b;clear o)|(go_at_call 143;have o:=B;refine(jY _ r g l rest 1 (by exact o.below (by go_grown)) G (by decide) H1).mono ?_;rintro e w2 ⟨rfl,s,a⟩;have d:=(n.below zQ).but a i;have f:=(Py.new u _ _).but a c;obtain⟨C,F⟩:=d.rules;obtain⟨D,A⟩:=f.rules;have R:=d.lt;have K:=f.lt;have H:=s.lt;have E:=(PB.of q).trans (((PB.refl r u).alloc _).trans a);clear o))
 exact zK (v:=.tuple #[.agg #[.bool false,.string t,.slice none 0 0],.bool true]) (by simp[results,results142,go_sem,y]) rfl ⟨(by repeat'(first|with_reducible(first|apply xR|assumption|apply xN|apply xA|apply xD|apply xS|apply xT)|go_size)),_,rfl,P7.nil _,h.keep p (by go_grown)⟩
theorem Ja(w:World)(r:Nat)(m:Value)(l rest:List P4)(h:Rd w r m l rest)(A:l.length<=500)(V:PM rest=1)(h4:PM rest.tail=4)(h5:yi rest.tail.tail=none):
  Calls prog 142 #[.pointer (some ⟨r,0,none⟩)] w fun e C=>hU none w r m l e C:=by
 have ac:=h.lt;have f:w.heap.size≠r:=by omega
 obtain⟨t,HT⟩:∃t,Hid ((rest.headD (0,ByteArray.empty)).2=t):=⟨_,rfl⟩;have H1:=Px V;have E:Hid (∀W,Rd W r m l rest->Calls prog 179 #[.pointer (some ⟨r,0,none⟩)] W fun e C=>e=.returned (.agg #[.int .i64 1,.string t])/\Below W.heap.size W C):=fun W hW=>by
  have:=mP W r m l rest hW A;rw[V,Hid.out HT] at this;exact this
 have H4:=Px h4;have H5:=Px h5;go_enter func142,ntmps142;go_wp2_with (first|(go_at_call 179;refine(Hid.out E _ (by exact h.below (by go_grown))).mono ?_;rintro e z ⟨rfl,n⟩;have x:=P3 zQ n;have q:=(Py.new w _ _).below n;have ab:=q.lt;have G:=h.below x;have Q:r<z.heap.size:=(by omega);have d:z.heap.size≠r:=(by omega))|(go_at_call 180;refine(K0 _ r m l rest.tail.tail u A H5).mono ?_;rintro e w4 ⟨rfl,a⟩;have p:=j.but a f;have o:=g.but a d;clear D B F K;obtain⟨I,Y⟩:=p.rules;obtain⟨ae,Z⟩:=o.rules;have ad:=p.lt;have S:=o.lt;have af:=O.trans a)|(go_at_call 143;have s:=y;refine(jY _ r m l rest.tail 4 s A (by decide) H4).mono ?_;rintro e w3 ⟨rfl,u,c⟩;have j:=i.but c f;have g:=k.but c d;clear J N L H;obtain⟨D,B⟩:=j.rules;obtain⟨F,K⟩:=g.rules;have X:=j.lt;have U:=g.lt;have R:=u.lt;have O:=M.trans c;clear s)|(go_at_call 143;have s:=G;refine(jY _ r m l rest 1 (by exact s.below (by go_grown)) A (by decide) H1).mono ?_;rintro e w2 ⟨rfl,y,b⟩;have i:=(q.below zQ).but b f;have k:=(Py.new z _ _).but b d;obtain⟨J,N⟩:=i.rules;obtain⟨L,H⟩:=k.rules;have aa:=i.lt;have T:=k.lt;have P:=y.lt;have M:=(PB.of x).trans (((PB.refl r z).alloc _).trans b);clear s))
 exact zK (v:=.tuple #[.agg #[.bool false,.string ByteArray.empty,.slice none 0 0],.bool false]) (by simp[results,results142,go_sem,I];rfl) rfl ⟨(by repeat'(first|with_reducible(first|apply xR|assumption|apply xN|apply xA|apply xD|apply xS|apply xT)|go_size)),rfl⟩
theorem FX(w:World)(r:Nat)(j:Value)(l rest r2:List P4)(ts:List ByteArray)(h:Rd w r j l rest)(B:l.length<=500)(h1:PM rest=1)(h4:PM rest.tail=4)(h5:yi rest.tail.tail=some (ts,r2))(h6:PM r2≠5):
  Calls prog 142 #[.pointer (some ⟨r,0,none⟩)] w fun e V=>hU none w r j l e V:=by
 have av:=h.lt;have g:w.heap.size≠r:=by omega
 obtain⟨t,HT⟩:∃t,Hid ((rest.headD (0,ByteArray.empty)).2=t):=⟨_,rfl⟩;have H1:=Px h1;have Y:Hid (∀W,Rd W r j l rest->Calls prog 179 #[.pointer (some ⟨r,0,none⟩)] W fun e V=>e=.returned (.agg #[.int .i64 1,.string t])/\Below W.heap.size W V):=fun W hW=>by
  have:=mP W r j l rest hW B;rw[h1,Hid.out HT] at this;exact this
 have H4:=Px h4;have H5:=Px h5;have H6:=Px h6;go_enter func142,ntmps142;go_wp2_with (first|(go_at_call 179;refine(Hid.out Y _ (by exact h.below (by go_grown))).mono ?_;rintro e F ⟨rfl,s⟩;have D:=P3 zQ s;have A:=(Py.new w _ _).below s;have ar:=A.lt;have K:=h.below D;have ai:r<F.heap.size:=(by omega);have f:F.heap.size≠r:=(by omega))|(go_at_call 180;refine(B9 _ r j l rest.tail.tail r2 ts x B H5).mono ?_;rintro e w4 ⟨va,rfl,C,u,c⟩;obtain⟨ao,cp,rfl⟩:=C.qx;have p:=m.but c g;have o:=k.but c f;clear Q H J M;obtain⟨R,G⟩:=p.rules;obtain⟨T,P⟩:=o.rules;have am:=p.lt;have ac:=o.lt;have ab:=u.lt;have X:=N.trans c)|(go_at_call 143;have i:=u;refine(ma _ r j l r2 5 i B (by decide) H6).mono ?_;rintro e w5 ⟨rfl,O,a⟩;have z:=p.but a g;have E:=o.but a f;clear R G T P;obtain⟨I,aw⟩:=z.rules;obtain⟨au,ak⟩:=E.rules;have ap:=z.lt;have aj:=E.lt;have ah:=O.lt;have aq:=X.trans a;clear i)|(go_at_call 143;have i:=y;refine(jY _ r j l rest.tail 4 i B (by decide) H4).mono ?_;rintro e w3 ⟨rfl,x,d⟩;have m:=n.but d g;have k:=q.but d f;clear Z U aa L;obtain⟨Q,H⟩:=m.rules;obtain⟨J,M⟩:=k.rules;have an:=m.lt;have ag:=k.lt;have af:=x.lt;have N:=S.trans d;clear i)|(go_at_call 143;have i:=K;refine(jY _ r j l rest 1 (by exact i.below (by go_grown)) B (by decide) H1).mono ?_;rintro e w2 ⟨rfl,y,b⟩;have n:=(A.below zQ).but b g;have q:=(Py.new F _ _).but b f;obtain⟨Z,U⟩:=n.rules;obtain⟨aa,L⟩:=q.rules;have al:=n.lt;have ad:=q.lt;have ae:=y.lt;have S:=(PB.of D).trans (((PB.refl r F).alloc _).trans b);clear i))
 exact zK (v:=.tuple #[.agg #[.bool false,.string ByteArray.empty,.slice none 0 0],.bool false]) (by simp[results,results142,go_sem,I];rfl) rfl ⟨(by repeat'(first|with_reducible(first|apply xR|assumption|apply xN|apply xA|apply xD|apply xS|apply xT)|go_size)),rfl⟩
theorem Oi(w:World)(r:Nat)(k:Value)(l rest r2:List P4)(ts:List ByteArray)(h:Rd w r k l rest)(E:l.length<=500)(h1:PM rest=1)(h4:PM rest.tail=4)(h5:yi rest.tail.tail=some (ts,r2))(h6:PM r2=5):
  Calls prog 142 #[.pointer (some ⟨r,0,none⟩)] w fun e X=>hU (some (⟨false,(rest.headD (0,ByteArray.empty)).2,ts⟩,r2.tail)) w r k l e X:=by
 have ax:=h.lt;have g:w.heap.size≠r:=by omega
 generalize ht:(rest.headD (0,ByteArray.empty)).2=t;have HT:=Px ht;have H1:=Px h1;have Z:Hid (∀W,Rd W r k l rest->Calls prog 179 #[.pointer (some ⟨r,0,none⟩)] W fun e X=>e=.returned (.agg #[.int .i64 1,.string t])/\Below W.heap.size W X):=fun W hW=>by
  have:=mP W r k l rest hW E;rw[h1,Hid.out HT] at this;exact this
 have H4:=Px h4;have H5:=Px h5;have H6:=Px h6;go_enter func142,ntmps142;go_wp2_with (first|(go_at_call 179;refine(Hid.out Z _ (by exact h.below (by go_grown))).mono ?_;rintro e H ⟨rfl,y⟩;have F:=P3 zQ y;have D:=(Py.new w _ _).below y;have av:=D.lt;have M:=h.below F;have ak:r<H.heap.size:=(by omega);have f:H.heap.size≠r:=(by omega))|(go_at_call 180;refine(B9 _ r k l rest.tail.tail r2 ts B E H5).mono ?_;rintro e w4 ⟨va,rfl,j,o,c⟩;obtain⟨ao,cp,rfl⟩:=j.qx;have s:=n.but c g;have q:=m.but c f;clear R J L P;obtain⟨S,I⟩:=s.rules;obtain⟨U,Q⟩:=q.rules;have ap:=s.lt;have ae:=q.lt;have ad:=o.lt;have Y:=z.trans c)|(go_at_call 143;have i:=o;refine(jY _ r k l r2 5 i E (by decide) H6).mono ?_;rintro e w5 ⟨rfl,A,a⟩;have u:=s.but a g;have G:=q.but a f;clear S I U Q;obtain⟨K,ay⟩:=u.rules;obtain⟨aw,am⟩:=G.rules;have ar:=u.lt;have al:=G.lt;have aj:=A.lt;have au:=Y.trans a;clear i)|(go_at_call 143;have i:=C;refine(jY _ r k l rest.tail 4 i E (by decide) H4).mono ?_;rintro e w3 ⟨rfl,B,d⟩;have n:=p.but d g;have m:=x.but d f;clear aa V ab N;obtain⟨R,J⟩:=n.rules;obtain⟨L,P⟩:=m.rules;have aq:=n.lt;have ai:=m.lt;have ah:=B.lt;have z:=T.trans d;clear i)|(go_at_call 143;have i:=M;refine(jY _ r k l rest 1 (by exact i.below (by go_grown)) E (by decide) H1).mono ?_;rintro e w2 ⟨rfl,C,b⟩;have p:=(D.below zQ).but b g;have x:=(Py.new H _ _).but b f;obtain⟨aa,V⟩:=p.rules;obtain⟨ab,N⟩:=x.rules;have an:=p.lt;have af:=x.lt;have ag:=C.lt;have T:=(PB.of F).trans (((PB.refl r H).alloc _).trans b);clear i))
 obtain⟨c4,f4,O⟩:=o.cell;have ac:=j.but a O (by decide);exact zK (v:=.tuple #[.agg #[.bool false,.string t,.slice ao ts.length cp],.bool true]) (by simp[results,results142,go_sem,K]) rfl ⟨(by repeat'(first|with_reducible(first|apply xR|assumption|apply xN|apply xA|apply xD|apply xS|apply xT)|go_size)),_,rfl,(ac.low z.size).but (r:=w.heap.size) (by repeat'(first|with_reducible(first|apply xR|assumption|apply xN|apply xA|apply xD|apply xS|apply xT)|go_size)) u (by decide),h.keep A (by go_grown)⟩
theorem D2(w:World)(r:Nat)(a:Value)(l rest:List P4)(h:Rd w r a l rest)(d:l.length<=500):
  Calls prog 142 #[.pointer (some ⟨r,0,none⟩)] w fun e k=>hU (yY rest) w r a l e k:=by
 unfold yY;split
 ·rename_i b;split
  ·rename_i c;split
   ·rename_i f;exact Ja w r a l rest h d b c f
   ·rename_i j i f;split
    ·rename_i g;exact Oi w r a l rest i j h d b c f g
    ·rename_i g;exact FX w r a l rest i j h d b c f g
  ·rename_i c;exact G6 w r a l rest h d b c
 ·rename_i b;exact Nm w r a l rest h d (by simpa using b)
theorem AO(w:World)(r:Nat)(b:Value)(l rest:List P4)(h:Rd w r b l rest)(f:l.length<=500)(g:yY rest=none):
  Calls prog 142 #[.pointer (some ⟨r,0,none⟩)] w fun e c=>e=.returned (.tuple #[.agg #[.bool false,.string ByteArray.empty,.slice none 0 0],.bool false])/\PB r w c:=by
 refine(D2 w r b l rest h f).mono ?_;rintro e c ⟨d,a⟩;rw[g] at a;exact⟨a,d⟩
theorem nV(w:World)(r:Nat)(f:Value)(l rest r2:List P4)(a:zj)(h:Rd w r f l rest)(k:l.length<=500)(m:yY rest=some (a,r2)):
  Calls prog 142 #[.pointer (some ⟨r,0,none⟩)] w fun e d=>∃i,e=.returned (.tuple #[.agg #[.bool a.neg,.string a.pred,i],.bool true])/\P7 w.heap.size d i a.args/\Rd d r f l r2/\PB r w d:=by
 refine(D2 w r f l rest h k).mono ?_;rintro e d ⟨j,g⟩;rw[m] at g;obtain⟨v,a,b,c⟩:=g;exact⟨v,a,b,c,j⟩
theorem o8(b:Bool)(w:World)(r:Nat)(g:Value)(l rest a:List P4)(h:Rd w r g l rest)(C:l.length<=500)
  (i:∀W,Rd W r g l rest->Calls prog 143 #[.pointer (some ⟨r,0,none⟩),.int .i64 8] W fun e f=>e=.returned (.bool b)/\Rd f r g l a/\PB r W f) (u:yY a=none):
  Calls prog 181 #[.pointer (some ⟨r,0,none⟩)] w fun e f=>hU none w r g l e f:=by
 have z:=h.lt;have j:w.heap.size≠r:=by omega
 have n:Hid (∀W,Rd W r g l rest->Calls prog 143 #[.pointer (some ⟨r,0,none⟩),.int .i64 8] W fun e f=>e=.returned (.bool b)/\Rd f r g l a/\PB r W f):=i;clear i;have x:Hid (yY a=none):=u;clear u;go_enter func181,ntmps181;go_wp2_with (first|(go_at_call 143;refine(Hid.out n _ (by exact h.below (by go_grown))).mono ?_;rintro e E ⟨rfl,k,c⟩;have m:=(Py.new w _ _).but c j;have y:=m.lt;have t:=k.lt;have s:=((PB.refl r w).alloc _).trans c)|(go_at_call 142;refine(AO _ r g l a k C x).mono ?_;rintro e D ⟨rfl,d⟩;have o:=m.but d j;obtain⟨q,B,p⟩:=o.boxed;have A:=s.trans d))
 exact zK (v:=.tuple #[.agg #[.bool false,.string ByteArray.empty,.slice none 0 0],.bool false]) (by simp[results,results181,go_sem,q,p];rfl) rfl ⟨(by repeat'(first|with_reducible(first|apply xR|assumption|apply xN|apply xA|apply xD|apply xS|apply xT)|go_size)),rfl⟩
theorem BR(b:Bool)(w:World)(r:Nat)(j:Value)(l rest c r2:List P4)(a:zj)(h:Rd w r j l rest)(H:l.length<=500)
  (k:∀W,Rd W r j l rest->Calls prog 143 #[.pointer (some ⟨r,0,none⟩),.int .i64 8] W fun e i=>e=.returned (.bool b)/\Rd i r j l c/\PB r W i) (z:yY c=some (a,r2)):
  Calls prog 181 #[.pointer (some ⟨r,0,none⟩)] w fun e i=>hU (some ({a with neg:=b},r2)) w r j l e i:=by
 have E:=h.lt;have m:w.heap.size≠r:=by omega
 have s:Hid (∀W,Rd W r j l rest->Calls prog 143 #[.pointer (some ⟨r,0,none⟩),.int .i64 8] W fun e i=>e=.returned (.bool b)/\Rd i r j l c/\PB r W i):=k;clear k;have B:Hid (yY c=some (a,r2)):=z;clear z;go_enter func181,ntmps181;go_wp2_with (first|(go_at_call 143;refine(Hid.out s _ (by exact h.below (by go_grown))).mono ?_;rintro e K ⟨rfl,o,d⟩;have p:=(Py.new w _ _).but d m;have D:=p.lt;have y:=o.lt;have q:=((PB.refl r w).alloc _).trans d)|(go_at_call 142;refine(nV _ r j l c r2 a o H B).mono ?_;rintro e J ⟨I,rfl,g,x,f⟩;obtain⟨A,C,rfl⟩:=g.qx;have n:=p.but f m;obtain⟨u,G,t⟩:=n.boxed;have F:=q.trans f))
 exact zK (v:=.tuple #[.agg #[.bool b,.string a.pred,.slice A a.args.length C],.bool true]) (by simp[results,results181,go_sem,u,t]) rfl ⟨(by repeat'(first|with_reducible(first|apply xR|assumption|apply xN|apply xA|apply xD|apply xS|apply xT)|go_size)),_,rfl,(g.low q.size).but (r:=w.heap.size) (by repeat'(first|with_reducible(first|apply xR|assumption|apply xN|apply xA|apply xD|apply xS|apply xT)|go_size)) n (by decide),h.keep x (by go_grown)⟩
theorem MH{rest r2:List P4}{a:zj}(h:yY rest=some (a,r2)):a.neg=false:=by
 unfold yY at h
 (repeat' split at h)<;>first|(cases h;done)|(simp at h;obtain⟨rfl,_⟩:=h;rfl)
theorem AL(w:World)(r:Nat)(b:Value)(l rest:List P4)(h:Rd w r b l rest)(c:l.length<=500):
  Calls prog 181 #[.pointer (some ⟨r,0,none⟩)] w fun e j=>hU (us rest) w r b l e j:=by
 unfold us;split
 ·rename_i g;cases f:yY rest.tail with
  |none=>exact o8 true w r b l rest rest.tail h c (fun W d=>jY W r b l rest 8 d c (by decide) g) f
  |some z=>obtain⟨a,i⟩:=z;exact BR true w r b l rest rest.tail i a h c (fun W d=>jY W r b l rest 8 d c (by decide) g) f
 ·rename_i g;cases f:yY rest with
  |none=>exact o8 false w r b l rest rest h c (fun W d=>ma W r b l rest 8 d c (by decide) g) f
  |some z=>
   obtain⟨a,i⟩:=z;have:=BR false w r b l rest rest i a h c (fun W d=>ma W r b l rest 8 d c (by decide) g) f;rwa [show({a with neg:=false}:zj)=a by rw[←MH f]] at this
end
section
open Go.Proofs.Tryz
variable {lo:Nat}{v:Value}{n:Nat}{w:World}{r r2:List P4}{a:zj}{o:Option (List zj×List P4)}
theorem gs{f E:World}{b B:Nat}{e i:TypeId}{s F:Nat}{C:Value}{z:Nat}{G d:List Value}(H:f.ownsRow b e s v n G)(p:e≠i)(h:f.ownsRow B i F C z d)
  (J:∀k,k<f.heap.size->some k≠v.ownBlock->E.heap[k]?=f.heap[k]?):E.ownsRow B i F C z d:=by
 obtain⟨L,t⟩:=h;refine⟨L,?_⟩;rcases t with t|⟨g,y,j,q,K,l,I⟩
 ·exact zg t
 ·refine ze ⟨g,y,j,q,K,?_,I⟩;rw[J g (kw.1 l).1 ?_]
  ·exact l
  ·intro m;obtain⟨_,⟨x,_⟩|⟨M,A,D,u,_,c,_⟩⟩:=H
   ·subst x;cases m
   ·subst u;simp only[Value.ownBlock,zr] at m;subst m;rw[l] at c;simp at c;exact p c.2.symm
def uA(lo:Nat)(w:World):List zj->List Value->Prop
 |[],b=>b=[]
 |a::d,b=>∃c r,b=.bool a.neg::.string a.pred::c::r/\P7 lo w c a.args/\uA lo w d r
theorem uA.snoc{w:World}{a:zj}{b:Value}(hs:P7 lo w b a.args):∀{c:List zj} {d:List Value},uA lo w c d->uA lo w (c++[a]) (d++[.bool a.neg,.string a.pred,b])
 |[],_,h=>by simp only[uA] at h;subst h;exact⟨b,[],rfl,hs,rfl⟩
 |_::c,_,h=>by obtain⟨v,r,rfl,f,e⟩:=h;exact⟨v,r++[.bool a.neg,.string a.pred,b],rfl,f,uA.snoc hs e⟩
theorem uA.mono{w f:World}(e:∀d l,P7 lo w d l->P7 lo f d l):∀{b:List zj} {c:List Value},uA lo w b c->uA lo f b c
 |[],_,h=>h
 |_::b,_,h=>by obtain⟨v,r,rfl,i,g⟩:=h;exact⟨v,r,rfl,e _ _ i,uA.mono e g⟩
theorem uA.at{w:World}:∀{e:List zj} {c:List Value} (i:Nat) (a:zj),uA lo w e c->e[i]?=some a->∃d,c[i*3]?=some (.bool a.neg)/\c[i*3+1]?=some (.string a.pred)/\c[i*3+2]?=some d/\P7 lo w d a.args
 |[],_,i,a,_,b=>by simp at b
 |_::e,_,0,a,h,b=>by obtain⟨v,r,rfl,g,f⟩:=h;simp at b;subst b;exact⟨v,rfl,rfl,rfl,g⟩
 |_::e,_,i+1,a,h,b=>by
  obtain⟨v,r,rfl,g,f⟩:=h;obtain⟨d,l,k,m,j⟩:=uA.at i a f (by simpa using b);refine⟨d,?_,?_,?_,j⟩
  ·rw[show(i+1)*3=i*3+1+1+1 from by omega];simpa using l
  ·rw[show(i+1)*3+1=i*3+1+1+1+1 from by omega];simpa using k
  ·rw[show(i+1)*3+2=i*3+2+1+1+1 from by omega];simpa using m
def PX(lo:Nat)(w:World)(v:Value)(c:List zj):Prop:=∃b,w.ownsRow lo 90 3 v c.length b/\uA lo w c b
theorem uA.low{a b:Nat}{w:World}(c:a<=b):∀{d:List zj} {e:List Value},uA b w d e->uA a w d e
 |[],_,h=>h
 |_::d,_,h=>by obtain⟨v,r,rfl,g,f⟩:=h;exact⟨v,r,rfl,g.low c,uA.low c f⟩
theorem PX.low{a b:Nat}{w:World}{v:Value}{l:List zj}(h:PX b w v l)(c:a<=b):PX a w v l:=by obtain⟨d,h,e⟩:=h;exact⟨d,yq h c,e.low c⟩
theorem PX.nil(w:World):PX lo w (.slice none 0 0) []:=⟨[],yI _ _ _ _,rfl⟩
theorem PX.qx{l:List zj}(h:PX lo w v l):∃c b,v=.slice c l.length b:=by obtain⟨d,h,_⟩:=h;exact zs h
theorem PX.below{w b:World}{v:Value}{l:List zj}(h:PX lo w v l)(c:Below w.heap.size w b):PX lo b v l:=by
 obtain⟨e,h,d⟩:=h;exact⟨e,zC h c,d.mono fun _ _ k=>k.below c⟩
theorem PX.but{r:Nat}{w g:World}{v:Value}{l:List zj}(h:PX lo w v l)(e:PB r w g){c:Array Value}{T:TypeId}{f:Nat×Nat}(d:w.heap[r]?=some (.cells c T f))(i:T≠9)(b:T≠90):PX lo g v l:=by
 obtain⟨j,h,m⟩:=h;exact⟨j,xK h e d b,m.mono fun _ _ k=>k.but e d i⟩
def xE:Nat->List P4->Option (List zj×List P4)
 |0,_=>none
 |n+1,r=>match us r with
  |none=>none
  |some (a,r2)=>if PM r2=6 then(xE n r2.tail).map fun z=>(a::z.1,z.2) else some ([a],r2)
theorem pI(h:us r=none):xE (n+1) r=none:=by simp[xE,h]
theorem pj(h:us r=some (a,r2))(b:PM r2=6):xE (n+1) r=(xE n r2.tail).map fun z=>(a::z.1,z.2):=by simp[xE,h,b]
theorem nU(h:us r=some (a,r2))(b:PM r2≠6):xE (n+1) r=some ([a],r2):=by simp[xE,h,b]
theorem Bb:∀(r:List P4) {ts:List ByteArray} {r2:List P4},yi r=some (ts,r2)->r2.length<r.length
 |[],_,_,h=>by simp[yi] at h
 |[x],ts,r2,h=>by
  simp only[yi] at h;split at h<;>simp at h
  obtain⟨_,rfl⟩:=h;simp
 |x::y::r,ts,r2,h=>by
  simp only[yi] at h;split at h
  ·split at h
   ·cases b:yi r with
    |none=>rw[b] at h;simp at h
    |some z=>
     obtain⟨c,d⟩:=z;rw[b] at h;simp at h;have:=Bb r b;obtain⟨_,rfl⟩:=h;simp;omega
   ·simp at h;obtain⟨_,rfl⟩:=h;simp
  ·simp at h
theorem rR(h:yY r=some (a,r2)):r2.length<r.length:=by
 cases r with
 |nil=>simp[yY,PM] at h
 |cons x r=>
  unfold yY at h;split at h
  ·split at h
   ·split at h
    ·simp at h
    ·rename_i c d b;have:=Bb _ b;split at h<;>simp at h
     obtain⟨_,rfl⟩:=h;simp at this ⊢;omega
   ·simp at h;obtain⟨_,rfl⟩:=h;simp
  ·simp at h
theorem B7(h:us r=some (a,r2)):r2.length<r.length:=by
 unfold us at h;split at h
 ·cases b:yY r.tail with
  |none=>rw[b] at h;simp at h
  |some z=>
   obtain⟨c,d⟩:=z;rw[b] at h;simp at h;have:=rR b;obtain⟨_,rfl⟩:=h;simp at this;omega
 ·exact rR h
theorem Is(w:World)(r:Nat)(c:Value)(l rest:List P4)(h:Rd w r c l rest)(g:l.length<=500)(i:us rest=none):
  Calls prog 181 #[.pointer (some ⟨r,0,none⟩)] w fun e d=>e=.returned (.tuple #[.agg #[.bool false,.string ByteArray.empty,.slice none 0 0],.bool false])/\PB r w d:=by
 refine(AL w r c l rest h g).mono ?_;rintro e d ⟨f,b⟩;rw[i] at b;exact⟨b,f⟩
theorem Ml(w:World)(r:Nat)(f:Value)(l rest r2:List P4)(a:zj)(h:Rd w r f l rest)(k:l.length<=500)(m:us rest=some (a,r2)):
  Calls prog 181 #[.pointer (some ⟨r,0,none⟩)] w fun e d=>∃i,e=.returned (.tuple #[.agg #[.bool a.neg,.string a.pred,i],.bool true])/\P7 w.heap.size d i a.args/\Rd d r f l r2/\PB r w d:=by
 refine(AL w r f l rest h k).mono ?_;rintro e d ⟨j,g⟩;rw[m] at g;obtain⟨v,a,b,c⟩:=g;exact⟨v,a,b,c,j⟩
theorem Pe:(prog.info? 90).map (fun i=>(i.zero,i.size,i.bytes))=some (some (.agg #[.bool false,.string ByteArray.empty,.slice none 0 0]),3,48):=by kernel_rfl
def ey(o:Option (List zj×List P4))(w:World)(r:Nat)(c:Value)(l:List P4)(e:Ending)(b:World):Prop:=
 PB r w b/\match o with
  |none=>e=.returned (.tuple #[.slice none 0 0,.bool false])
  |some (d,r2)=>∃v,e=.returned (.tuple #[v,.bool true])/\PX w.heap.size b v d/\Rd b r c l r2
theorem K3{b:World}{r:Nat}{c:Value}{l:List P4}(h:Hid (o=none))(e:PB r w b):ey o w r c l (.returned (.tuple #[.slice none 0 0,.bool false])) b:=by
 have d:o=none:=h;subst d;exact⟨e,rfl⟩
theorem Nh{b:World}{r:Nat}{d:Value}{l:List P4}{c:List zj}(h:Hid (o=some (c,r2)))(f:PB r w b)(hs:PX w.heap.size b v c)(e:Rd b r d l r2):
  ey o w r d l (.returned (.tuple #[v,.bool true])) b:=by
 have g:o=some (c,r2):=h;subst g;exact⟨f,v,rfl,hs,e⟩
theorem EM(w:World)(r:Nat)(H:Value)(l rest:List P4)(h:Rd w r H l rest)(hl:l.length<=500)(G:Nat)(ah:rest.length<G):
  Calls prog 144 #[.pointer (some ⟨r,0,none⟩)] w fun e w'=>ey (xE G rest) w r H l e w':=by
 obtain⟨i0,hi,W,ac,ag⟩:=info_parts Pe;have al:=h.lt;go_enter func144,ntmps144;go_wp2;go_loopg [4,5] (rest.length) (fun n v t wr=>∃(i:List zj) (b:List P4) (more:Bool) (m:Nat) (V:List Value),t=.bool more/\b.length<=n/\b.length<m/\b.length+i.length<=rest.length ∧
   wr.ownsRow w.heap.size 90 3 v i.length V/\uA w.heap.size wr i V/\Rd wr r H l b/\PB r w wr ∧
   Hid (more=true->xE G rest=(xE m b).map fun z=>(i++z.1,z.2))/\Hid (more=false->xE G rest=some (i,b)))
 case atStart=>exact⟨[],rest,true,G,[],rfl,zf _,ah,by simp,yI _ _ _ _,rfl,h,PB.refl _ _,(fun _=>by simp),(fun h=>by cases h)⟩
 case round=>
  obtain⟨i,b,more,m,V,rfl,hn,hm,am,y,P,u,j,Q,S⟩:=hrel;have ak:rest.length<=l.length:=by
   obtain⟨p,_,hp,_⟩:=h.box;rw[hp];simp
  have ab:=j.size;obtain⟨c0,f0,g⟩:=u.cell;cases more with
  |false=>
   have E:=Px (S rfl);clear Q S;go_wp2;go_ret2
   exact Nh E j ⟨_,y,P⟩ u
  |true=>
   obtain⟨m,rfl⟩:∃m',m=m'+1:=⟨m-1,by omega⟩;have HC:=Px g;cases F:us b with
   |none=>
    have E:Hid (xE G rest=none):=by rw[Hid.out Q rfl,pI F];simp[Hid]
    have R:=Px F;clear Q S F;go_wp2_with (first|(go_at_call 181;refine(Is _ r H l b u hl R).mono ?_;rintro e w1 ⟨rfl,c⟩;have s:=j.trans c;have ad:=s.size))
    go_ret2
    exact K3 E (by repeat'(first|with_reducible(first|apply xR|assumption|apply xN|apply xA|apply xD|apply xS|apply xT)|go_size))
   |some z=>
    obtain⟨a,r2⟩:=z;have R:=Px F;have aj:=B7 F;have E:=Px (Q rfl);clear Q S F;go_wp2_with (first|(go_at_call 181;refine(Ml _ r H l b r2 a u hl R).mono ?_;rintro e w1 ⟨va,rfl,B,Z,c⟩;obtain⟨ao,cp,rfl⟩:=B.qx;have s:=j.trans c;have ad:=s.size;have C:=xK y c g (by decide);have K:=P.mono fun _ _ k=>k.but c g (by decide))|(at_builtin;refine jS w1 _ _ _ rfl (.tmp 16) (.tmp 18) 91 rfl w.heap.size 90 i0 _ 3 48 underlying91 hi W ac ag rfl (by decide) _ _ _ rfl C zQ _ _ rfl (by simp) rfl (by simp[Value.oneCell']) (by omega) (by omega) (by omega) ?_;intro v' w2 U O ae af L ai;clear ae af;have A:=Rd.keep h Z O;have D:=s.onto O;have T:P7 w.heap.size w2 (Value.slice ao a.args.length cp) a.args:=yq (gs C (by decide) B L) ab;have N:=K.mono fun _ _ k=>gs C (by decide) k L;have I:=Qj w2 r H l r2 6 A hl (by decide))|(go_at_call 143;refine I.mono ?_;rintro e w3 ⟨rfl,J,d⟩;clear I))
    obtain⟨c3,f3,f⟩:=A.cell;have aa:=xK U d f (by decide);have X:=T.but d f (by decide);have M:=N.mono fun _ _ k=>k.but d f (by decide);have Y:(if PM r2=6 then r2.tail else r2).length<=r2.length:=by split<;>simp
    have x:us b=some (a,r2):=R;go_roundg r2.length
    case measure=>omega
    case rel=>
     refine⟨i++[a],(if PM r2=6 then r2.tail else r2),(PM r2 == 6),m,_,rfl,Y,by omega,by simp;omega,by rw[yv];exact aa,M.snoc X,J,D.trans d,?_,?_⟩
     ·intro h6;have q:PM r2=6:=by simpa using h6
      rw[zb q,Hid.out E,pj x q,Ex]
     ·intro h6;have q:PM r2≠6:=by simpa using h6
      rw[za q,Hid.out E,nU x q];simp
end
section
open Go.Proofs.Tryz
variable {lo:Nat}
def vc(n:Nat)(r:List P4):Option (zc×List P4):=
 match yY r with
 |none=>none
 |some (a,c)=>
  if PM c=9 then
   match xE n c.tail with
   |none=>none
   |some (b,d)=>if PM d=7 then some (⟨a,b⟩,d.tail) else none
  else if PM c=7 then some (⟨a,[]⟩,c.tail) else none
theorem EX(w:World)(r:Nat)(d:Value)(l rest:List P4)(h:Rd w r d l rest)(i:l.length<=500)(a:Nat)(b:rest.length<a)(j:xE a rest=none):
  Calls prog 144 #[.pointer (some ⟨r,0,none⟩)] w fun e f=>e=.returned (.tuple #[.slice none 0 0,.bool false])/\PB r w f:=by
 refine(EM w r d l rest h i a b).mono ?_;rintro e f ⟨g,c⟩;rw[j] at c;exact⟨c,g⟩
theorem oO(w:World)(r:Nat)(g:Value)(l rest r2:List P4)(b:List zj)(h:Rd w r g l rest)(m:l.length<=500)(f:Nat)(i:rest.length<f)(n:xE f rest=some (b,r2)):
  Calls prog 144 #[.pointer (some ⟨r,0,none⟩)] w fun e d=>∃v,e=.returned (.tuple #[v,.bool true])/\PX w.heap.size d v b/\Rd d r g l r2/\PB r w d:=by
 refine(EM w r g l rest h m f i).mono ?_;rintro e d ⟨k,j⟩;rw[n] at j;obtain⟨v,a,b,c⟩:=j;exact⟨v,a,b,c,k⟩
def mF(o:Option (zc×List P4))(w:World)(r:Nat)(g:Value)(l:List P4)(e:Ending)(a:World):Prop:=
 PB r w a/\match o with
  |none=>e=.returned (.tuple #[.agg #[.bool false,.string ByteArray.empty,.slice none 0 0,.slice none 0 0],.bool false])
  |some (c,f)=>∃b d,e=.returned (.tuple #[.agg #[.bool c.head.neg,.string c.head.pred,b,d],.bool true])/\P7 w.heap.size a b c.head.args/\PX w.heap.size a d c.body/\Rd a r g l f
theorem Ii(w:World)(r:Nat)(f:Value)(l rest:List P4)(h:Rd w r f l rest)(n:l.length<=500)(k:yY rest=none):
  Calls prog 100 #[.pointer (some ⟨r,0,none⟩)] w fun e o=>mF none w r f l e o:=by
 have m:=h.lt;have d:w.heap.size≠r:=by omega
 have i:=Px k;go_enter func100,ntmps100;go_wp2_with (first|(go_at_call 142;refine(AO _ r f l rest (by exact h.below (by go_grown)) n i).mono ?_;rintro e q ⟨rfl,a⟩;have g:=(Py.new w _ _).but a d;obtain⟨c,j,b⟩:=g.boxed;have p:=((PB.refl r w).alloc _).trans a))
 exact zK (v:=.tuple #[.agg #[.bool false,.string ByteArray.empty,.slice none 0 0,.slice none 0 0],.bool false]) (by simp[results,results100,go_sem,c,b];rfl) rfl ⟨(by repeat'(first|with_reducible(first|apply xR|assumption|apply xN|apply xA|apply xD|apply xS|apply xT)|go_size)),rfl⟩
theorem Mg(w:World)(r:Nat)(x:Value)(l rest:List P4)(h:Rd w r x l rest)(J:l.length<=500)(q:List P4)(a:zj)(ha:yY rest=some (a,q))(W:PM q≠9)(h7:PM q≠7):
  Calls prog 100 #[.pointer (some ⟨r,0,none⟩)] w fun e T=>mF none w r x l e T:=by
 have ac:=h.lt;have j:w.heap.size≠r:=by omega
 have X:=Px ha;have H9:=Px W;have S:=Px h7;go_enter func100,ntmps100;go_wp2_with (first|(go_at_call 142;refine(nV _ r x l rest q a (by exact h.below (by go_grown)) J X).mono ?_;rintro e K ⟨va,rfl,y,n,g⟩;obtain⟨U,Z,rfl⟩:=y.qx;have u:=(Py.new w _ _).but g j;have ab:=u.lt;have M:=n.lt;have i:K.heap.size≠r:=(by omega);have F:=((PB.refl r w).alloc _).trans g)|(go_at_call 143;have p:=z;refine(ma _ r x l q 7 p J (by decide) S).mono ?_;rintro e w3 ⟨rfl,E,c⟩;obtain⟨c7,f7,f⟩:=p.cell;have V:=A.but c f (by decide);have t:=k.but c j;have s:=m.but c i;clear D I G C;obtain⟨B,R⟩:=t.rules;obtain⟨Y,ad⟩:=s.rules;have Q:=t.lt;have P:=s.lt;have N:=E.lt;have ae:=H.trans c;clear p f)|(go_at_call 143;have p:=n;refine(ma _ r x l q 9 (by exact p.below (by go_grown)) J (by decide) H9).mono ?_;rintro e w2 ⟨rfl,z,b⟩;have o:=(PB.refl r K).alloc (Obj.cells #[.bool a.neg,.string a.pred,.slice U a.args.length Z] 90);obtain⟨c1,f1,d⟩:=n.cell;have A:=y.but (o.trans b) d (by decide);have k:=(u.below zQ).but b j;have m:=(Py.new K _ _).but b i;obtain⟨D,I⟩:=k.rules;obtain⟨G,C⟩:=m.rules;have aa:=k.lt;have O:=m.lt;have L:=z.lt;have H:=F.trans (o.trans b);clear p o d))
 exact zK (v:=.tuple #[.agg #[.bool false,.string ByteArray.empty,.slice none 0 0,.slice none 0 0],.bool false]) (by simp[results,results100,go_sem,B];rfl) rfl ⟨(by repeat'(first|with_reducible(first|apply xR|assumption|apply xN|apply xA|apply xD|apply xS|apply xT)|go_size)),rfl⟩
theorem Kx(w:World)(r:Nat)(y:Value)(l rest:List P4)(h:Rd w r y l rest)(K:l.length<=500)(q:List P4)(a:zj)(ha:yY rest=some (a,q))(X:PM q≠9)(h7:PM q=7):
  Calls prog 100 #[.pointer (some ⟨r,0,none⟩)] w fun e W=>mF (some (⟨a,[]⟩,q.tail)) w r y l e W:=by
 have ac:=h.lt;have j:w.heap.size≠r:=by omega
 have Y:=Px ha;have H9:=Px X;have V:=Px h7;go_enter func100,ntmps100;go_wp2_with (first|(go_at_call 142;refine(nV _ r y l rest q a (by exact h.below (by go_grown)) K Y).mono ?_;rintro e L ⟨va,rfl,z,o,g⟩;obtain⟨P,R,rfl⟩:=z.qx;have u:=(Py.new w _ _).but g j;have ab:=u.lt;have N:=o.lt;have i:L.heap.size≠r:=(by omega);have G:=((PB.refl r w).alloc _).trans g)|(go_at_call 143;have s:=A;refine(jY _ r y l q 7 s K (by decide) V).mono ?_;rintro e w3 ⟨rfl,x,c⟩;obtain⟨c7,f7,f⟩:=s.cell;have D:=B.but c f (by decide);have m:=k.but c j;have t:=n.but c i;clear F J H E;obtain⟨C,U⟩:=m.rules;obtain⟨Z,ad⟩:=t.rules;have T:=m.lt;have S:=t.lt;have O:=x.lt;have ae:=I.trans c;clear s f)|(go_at_call 143;have s:=o;refine(ma _ r y l q 9 (by exact s.below (by go_grown)) K (by decide) H9).mono ?_;rintro e w2 ⟨rfl,A,b⟩;have p:=(PB.refl r L).alloc (Obj.cells #[.bool a.neg,.string a.pred,.slice P a.args.length R] 90);obtain⟨c1,f1,d⟩:=o.cell;have B:=z.but (p.trans b) d (by decide);have k:=(u.below zQ).but b j;have n:=(Py.new L _ _).but b i;obtain⟨F,J⟩:=k.rules;obtain⟨H,E⟩:=n.rules;have aa:=k.lt;have Q:=n.lt;have M:=A.lt;have I:=G.trans (p.trans b);clear s p d))
 exact zK (v:=.tuple #[.agg #[.bool a.neg,.string a.pred,.slice P a.args.length R,.slice none 0 0],.bool true]) (by simp[results,results100,go_sem,C]) rfl ⟨(by repeat'(first|with_reducible(first|apply xR|assumption|apply xN|apply xA|apply xD|apply xS|apply xT)|go_size)),_,_,rfl,(D.low (by first|(simp;done)|omega)).but (r:=w.heap.size) (by repeat'(first|with_reducible(first|apply xR|assumption|apply xN|apply xA|apply xD|apply xS|apply xT)|go_size)) m (by decide),PX.nil _,h.keep x (by go_grown)⟩
theorem Kz(w:World)(r:Nat)(t:Value)(l rest:List P4)(h:Rd w r t l rest)(G:l.length<=500)(o:List P4)(a:zj)(A:Nat)(ha:yY rest=some (a,o))(T:PM o=9)(hn:o.tail.length<A)(W:xE A o.tail=none):
  Calls prog 100 #[.pointer (some ⟨r,0,none⟩)] w fun e R=>mF none w r t l e R:=by
 have aa:=h.lt;have i:w.heap.size≠r:=by omega
 have U:=Px ha;have H9:=Px T;have Q:=Px hn;have HB:=Px W;go_enter func100,ntmps100;go_wp2_with (first|(go_at_call 142;refine(nV _ r t l rest o a (by exact h.below (by go_grown)) G U).mono ?_;rintro e H ⟨va,rfl,u,m,f⟩;obtain⟨S,X,rfl⟩:=u.qx;have s:=(Py.new w _ _).but f i;have Z:=s.lt;have J:=m.lt;have g:H.heap.size≠r:=(by omega);have C:=((PB.refl r w).alloc _).trans f)|(go_at_call 144;refine(EX _ r t l o.tail x G A Q HB).mono ?_;rintro e w3 ⟨rfl,c⟩;have q:=j.but c i;have p:=k.but c g;clear B F D z;obtain⟨y,P⟩:=q.rules;obtain⟨V,ab⟩:=p.rules;have O:=q.lt;have M:=p.lt;have ac:=E.trans c)|(go_at_call 143;have L:=m;refine(jY _ r t l o 9 (by exact L.below (by go_grown)) G (by decide) H9).mono ?_;rintro e w2 ⟨rfl,x,b⟩;have n:=(PB.refl r H).alloc (Obj.cells #[.bool a.neg,.string a.pred,.slice S a.args.length X] 90);obtain⟨c1,f1,d⟩:=m.cell;have N:=u.but (n.trans b) d (by decide);have j:=(s.below zQ).but b i;have k:=(Py.new H _ _).but b g;obtain⟨B,F⟩:=j.rules;obtain⟨D,z⟩:=k.rules;have Y:=j.lt;have K:=k.lt;have I:=x.lt;have E:=C.trans (n.trans b);clear L n d))
 exact zK (v:=.tuple #[.agg #[.bool false,.string ByteArray.empty,.slice none 0 0,.slice none 0 0],.bool false]) (by simp[results,results100,go_sem,y];rfl) rfl ⟨(by repeat'(first|with_reducible(first|apply xR|assumption|apply xN|apply xA|apply xD|apply xS|apply xT)|go_size)),rfl⟩
theorem Ox(w:World)(r:Nat)(A:Value)(l rest:List P4)(h:Rd w r A l rest)(G:l.length<=500)(y r2:List P4)(a:zj)(b:List zj)(U:Nat)(ha:yY rest=some (a,y))(h9:PM y=9)(hn:y.tail.length<U)(hb:xE U y.tail=some (b,r2))(h7:PM r2≠7):
  Calls prog 100 #[.pointer (some ⟨r,0,none⟩)] w fun e w'=>mF none w r A l e w':=by
 have aq:=h.lt;have n:w.heap.size≠r:=by omega
 have HA:=Px ha;have H9:=Px h9;have HN:=Px hn;have HB:=Px hb;have H7:=Px h7;go_enter func100,ntmps100;go_wp2_with (first|(go_at_call 142;refine(nV _ r A l rest y a (by exact h.below (by go_grown)) G HA).mono ?_;rintro e Y ⟨va,rfl,E,q,m⟩;obtain⟨ao,cp,rfl⟩:=E.qx;have F:=(Py.new w _ _).but m n;have ap:=F.lt;have af:=q.lt;have k:Y.heap.size≠r:=(by omega);have W:=((PB.refl r w).alloc _).trans m)|(go_at_call 144;refine(oO _ r A l y.tail r2 b u G U HN HB).mono ?_;rintro e w3 ⟨vb,rfl,R,D,f⟩;obtain⟨al,au,rfl⟩:=R.qx;obtain⟨c3,f3,j⟩:=u.cell;have T:=N.but f j (by decide);have p:=s.but f n;have o:=x.but f k;clear V S X J;obtain⟨O,H⟩:=p.rules;obtain⟨I,L⟩:=o.rules;have aj:=p.lt;have ae:=o.lt;have ad:=D.lt;have M:=Q.trans f;clear j)|(go_at_call 143;have z:=D;refine(ma _ r A l r2 7 z G (by decide) H7).mono ?_;rintro e w4 ⟨rfl,K,d⟩;obtain⟨c7,f7,g⟩:=z.cell;have am:=T.but d g (by decide);have C:=p.but d n;have B:=o.but d k;clear O H I L;obtain⟨P,ag⟩:=C.rules;obtain⟨an,ak⟩:=B.rules;have ai:=C.lt;have aa:=B.lt;have Z:=K.lt;have ar:=M.trans d;clear z g)|(go_at_call 143;have z:=q;refine(jY _ r A l y 9 (by exact z.below (by go_grown)) G (by decide) H9).mono ?_;rintro e w2 ⟨rfl,u,c⟩;have t:=(PB.refl r Y).alloc (Obj.cells #[.bool a.neg,.string a.pred,.slice ao a.args.length cp] 90);obtain⟨c1,f1,i⟩:=q.cell;have N:=E.but (t.trans c) i (by decide);have s:=(F.below zQ).but c n;have x:=(Py.new Y _ _).but c k;obtain⟨V,S⟩:=s.rules;obtain⟨X,J⟩:=x.rules;have ah:=s.lt;have ab:=x.lt;have ac:=u.lt;have Q:=W.trans (t.trans c);clear z t i))
 exact zK (v:=.tuple #[.agg #[.bool false,.string ByteArray.empty,.slice none 0 0,.slice none 0 0],.bool false]) (by simp[results,results100,go_sem,P];rfl) rfl ⟨(by repeat'(first|with_reducible(first|apply xR|assumption|apply xN|apply xA|apply xD|apply xS|apply xT)|go_size)),rfl⟩
theorem M3(w:World)(r:Nat)(B:Value)(l rest:List P4)(h:Rd w r B l rest)(I:l.length<=500)(z r2:List P4)(a:zj)(b:List zj)(X:Nat)(ha:yY rest=some (a,z))(h9:PM z=9)(hn:z.tail.length<X)(hb:xE X z.tail=some (b,r2))(h7:PM r2=7):
  Calls prog 100 #[.pointer (some ⟨r,0,none⟩)] w fun e w'=>mF (some (⟨a,b⟩,r2.tail)) w r B l e w':=by
 have ar:=h.lt;have o:w.heap.size≠r:=by omega
 have HA:=Px ha;have H9:=Px h9;have HN:=Px hn;have HB:=Px hb;have H7:=Px h7;go_enter func100,ntmps100;go_wp2_with (first|(go_at_call 142;refine(nV _ r B l rest z a (by exact h.below (by go_grown)) I HA).mono ?_;rintro e w1 ⟨va,rfl,F,s,m⟩;obtain⟨ao,cp,rfl⟩:=F.qx;have H:=(Py.new w _ _).but m o;have aq:=H.lt;have ai:=s.lt;have k:w1.heap.size≠r:=(by omega);have Z:=((PB.refl r w).alloc _).trans m)|(go_at_call 144;refine(oO _ r B l z.tail r2 b x I X HN HB).mono ?_;rintro e w3 ⟨vb,rfl,G,E,g⟩;obtain⟨Q,ab,rfl⟩:=G.qx;obtain⟨c3,f3,j⟩:=x.cell;have W:=O.but g j (by decide);have q:=t.but g o;have p:=y.but g k;clear Y V aa L;obtain⟨P,J⟩:=q.rules;obtain⟨K,M⟩:=p.rules;have am:=q.lt;have ah:=p.lt;have ag:=E.lt;have N:=U.trans g;clear j)|(go_at_call 143;have A:=E;refine(jY _ r B l r2 7 A I (by decide) H7).mono ?_;rintro e w4 ⟨rfl,C,c⟩;obtain⟨c7,f7,d⟩:=A.cell;have R:=W.but c d (by decide);have S:=G.but c d (by decide) (by decide);have n:=q.but c o;have D:=p.but c k;clear P J K M;obtain⟨T,aj⟩:=n.rules;obtain⟨ap,an⟩:=D.rules;have al:=n.lt;have ad:=D.lt;have ac:=C.lt;have au:=N.trans c;clear A d)|(go_at_call 143;have A:=s;refine(jY _ r B l z 9 (by exact A.below (by go_grown)) I (by decide) H9).mono ?_;rintro e w2 ⟨rfl,x,f⟩;have u:=(PB.refl r w1).alloc (Obj.cells #[.bool a.neg,.string a.pred,.slice ao a.args.length cp] 90);obtain⟨c1,f1,i⟩:=s.cell;have O:=F.but (u.trans f) i (by decide);have t:=(H.below zQ).but f o;have y:=(Py.new w1 _ _).but f k;obtain⟨Y,V⟩:=t.rules;obtain⟨aa,L⟩:=y.rules;have ak:=t.lt;have ae:=y.lt;have af:=x.lt;have U:=Z.trans (u.trans f);clear A u i))
 exact zK (v:=.tuple #[.agg #[.bool a.neg,.string a.pred,.slice ao a.args.length cp,.slice Q b.length ab],.bool true]) (by simp[results,results100,go_sem,T]) rfl ⟨(by repeat'(first|with_reducible(first|apply xR|assumption|apply xN|apply xA|apply xD|apply xS|apply xT)|go_size)),_,_,rfl,(R.low (by first|(simp;done)|omega)).but (r:=w.heap.size) (by repeat'(first|with_reducible(first|apply xR|assumption|apply xN|apply xA|apply xD|apply xS|apply xT)|go_size)) n (by decide),(S.low (by first|(simp;done)|omega)).but (r:=w.heap.size) (by repeat'(first|with_reducible(first|apply xR|assumption|apply xN|apply xA|apply xD|apply xS|apply xT)|go_size)) n (by decide) (by decide),h.keep C (by go_grown)⟩
theorem C9(w:World)(r:Nat)(d:Value)(l rest:List P4)(h:Rd w r d l rest)(j:l.length<=500)(i:Nat)(q:rest.length<=i):
  Calls prog 100 #[.pointer (some ⟨r,0,none⟩)] w fun e s=>mF (vc i rest) w r d l e s:=by
 unfold vc;split
 ·rename_i c;exact Ii w r d l rest h j c
 ·rename_i a k c;have p:=rR c;split
  ·rename_i g;have n:k.tail.length<i:=by simp;omega
   split
   ·rename_i m;exact Kz w r d l rest h j k a i c g n m
   ·rename_i b o m;split
    ·rename_i f;exact M3 w r d l rest h j k o a b i c g n m f
    ·rename_i f;exact Ox w r d l rest h j k o a b i c g n m f
  ·rename_i g;split
   ·rename_i f;exact Kx w r d l rest h j k a c g f
   ·rename_i f;exact Mg w r d l rest h j k a c g f
end
section
open Go.Proofs.Tryz
variable {lo:Nat}{w:World}{v:Value}{r:List P4}{o:Option (List zc)}
def vV(lo:Nat)(w:World):List zc->List Value->Prop
 |[],a=>a=[]
 |c::e,a=>∃d b r,a=.bool c.head.neg::.string c.head.pred::d::b::r/\P7 lo w d c.head.args/\PX lo w b c.body/\vV lo w e r
theorem vV.snoc{w:World}{c:zc}{a b:Value}(hs:P7 lo w a c.head.args)(f:PX lo w b c.body):∀{d:List zc} {e:List Value},vV lo w d e->vV lo w (d++[c]) (e++[.bool c.head.neg,.string c.head.pred,a,b])
 |[],_,h=>by simp only[vV] at h;subst h;exact⟨a,b,[],rfl,hs,f,rfl⟩
 |_::d,_,h=>by obtain⟨v,j,r,rfl,i,g,k⟩:=h;exact⟨v,j,r++[.bool c.head.neg,.string c.head.pred,a,b],rfl,i,g,vV.snoc hs f k⟩
theorem vV.mono{w c:World}(f:∀a l,P7 lo w a l->P7 lo c a l)(b:∀a l,PX lo w a l->PX lo c a l):∀{d:List zc} {e:List Value},vV lo w d e->vV lo c d e
 |[],_,h=>h
 |_::d,_,h=>by obtain⟨v,j,r,rfl,i,g,k⟩:=h;exact⟨v,j,r,rfl,f _ _ i,b _ _ g,vV.mono f b k⟩
theorem vV.at{w:World}:∀{g:List zc} {d:List Value} (i:Nat) (c:zc),vV lo w g d->g[i]?=some c →
  ∃e f,d[i*4]?=some (.bool c.head.neg)/\d[i*4+1]?=some (.string c.head.pred)/\d[i*4+2]?=some e/\d[i*4+3]?=some f/\P7 lo w e c.head.args/\PX lo w f c.body
 |[],_,i,a,_,b=>by simp at b
 |_::g,_,0,a,h,b=>by obtain⟨v,m,r,rfl,k,j,l⟩:=h;simp at b;subst b;exact⟨v,m,rfl,rfl,rfl,rfl,k,j⟩
 |_::g,_,i+1,a,h,b=>by
  obtain⟨v,m,r,rfl,k,j,l⟩:=h;obtain⟨e,f,q,p,s,n,t⟩:=vV.at i a l (by simpa using b);refine⟨e,f,?_,?_,?_,?_,t⟩
  ·rw[show(i+1)*4=i*4+1+1+1+1 from by omega];simpa using q
  ·rw[show(i+1)*4+1=i*4+1+1+1+1+1 from by omega];simpa using p
  ·rw[show(i+1)*4+2=i*4+2+1+1+1+1 from by omega];simpa using s
  ·rw[show(i+1)*4+3=i*4+3+1+1+1+1 from by omega];simpa using n
def Qa(lo:Nat)(T:TypeId)(w:World)(v:Value)(b:List zc):Prop:=∃a,w.ownsRow lo T 4 v b.length a/\vV lo w b a
theorem vV.low{a b:Nat}{w:World}(c:a<=b):∀{d:List zc} {e:List Value},vV b w d e->vV a w d e
 |[],_,h=>h
 |_::d,_,h=>by obtain⟨v,i,r,rfl,g,f,j⟩:=h;exact⟨v,i,r,rfl,g.low c,f.low c,vV.low c j⟩
theorem Qa.low{a b:Nat}{T:TypeId}{w:World}{v:Value}{l:List zc}(h:Qa b T w v l)(c:a<=b):Qa a T w v l:=by obtain⟨d,h,e⟩:=h;exact⟨d,yq h c,e.low c⟩
theorem Qa.qx{T:TypeId}{l:List zc}(h:Qa lo T w v l):∃b a,v=.slice b l.length a:=by obtain⟨c,h,_⟩:=h;exact zs h
theorem Qa.below{T:TypeId}{w b:World}{v:Value}{l:List zc}(h:Qa lo T w v l)(a:Below w.heap.size w b):Qa lo T b v l:=by
 obtain⟨d,h,c⟩:=h;exact⟨d,zC h a,c.mono (fun _ _ k=>k.below a) (fun _ _ k=>k.below a)⟩
theorem PX.push{c g:World}{b:Nat}{e:TypeId}{s:Nat}{j:Value}{n:Nat}{q:List Value}{m:List zj}(i:c.ownsRow b e s v n q)(f:e≠90)(a:e≠9)(h:PX lo c j m)
  (l:∀k,k<c.heap.size->some k≠v.ownBlock->g.heap[k]?=c.heap[k]?):PX lo g j m:=by
 obtain⟨d,t,p⟩:=h;exact⟨d,gs i f t l,p.mono fun _ _ k=>gs i a k l⟩
def yF(a:Nat):Nat->List P4->Option (List zc)
 |_,[]=>some []
 |0,_::_=>none
 |m+1,x::r=>match vc a (x::r) with
  |none=>none
  |some (c,b)=>(yF a m b).map (c::·)
theorem sK{a m:Nat}(b:r≠[])(h:vc a r=none):yF a (m+1) r=none:=by
 cases r with
 |nil=>exact zB rfl b
 |cons x r=>simp[yF,h]
theorem pP{a m:Nat}{r2:List P4}{c:zc}(b:r≠[])(h:vc a r=some (c,r2)):yF a (m+1) r=(yF a m r2).map (c::·):=by
 cases r with
 |nil=>exact zB rfl b
 |cons x r=>simp[yF,h]
theorem Fv{n:Nat}:∀{r r2:List P4} {b:List zj},xE n r=some (b,r2)->r2.length<r.length:=by
 induction n with
 |zero=>intro r r2 b h;simp[xE] at h
 |succ n g=>
  intro r r2 b h;cases c:us r with
  |none=>rw[pI c] at h;cases h
  |some z=>
   obtain⟨a,f⟩:=z;have:=B7 c;by_cases e:PM f=6
   ·rw[pj c e] at h;cases d:xE n f.tail with
    |none=>rw[d] at h;simp at h
    |some z=>
     rw[d] at h;simp at h;have:=g d;obtain⟨_,rfl⟩:=h;simp at this;omega
   ·rw[nU c e] at h;simp at h;obtain⟨_,rfl⟩:=h;omega
theorem Jn{n:Nat}{r2:List P4}{c:zc}(h:vc n r=some (c,r2)):r2.length<r.length:=by
 unfold vc at h;split at h
 ·cases h
 ·rename_i a g d;have:=rR d;split at h
  ·split at h
   ·cases h
   ·rename_i b f e;have:=Fv e;split at h<;>simp at h
    obtain⟨_,rfl⟩:=h;simp at this ⊢;omega
  ·split at h<;>simp at h
   obtain⟨_,rfl⟩:=h;simp;omega
theorem JH(w:World)(r:Nat)(d:Value)(l rest:List P4)(h:Rd w r d l rest)(i:l.length<=500)(a:Nat)(b:rest.length<=a)(j:vc a rest=none):
  Calls prog 100 #[.pointer (some ⟨r,0,none⟩)] w fun e f=>e=.returned (.tuple #[.agg #[.bool false,.string ByteArray.empty,.slice none 0 0,.slice none 0 0],.bool false])/\PB r w f:=by
 refine(C9 w r d l rest h i a b).mono ?_;rintro e f ⟨g,c⟩;rw[j] at c;exact⟨c,g⟩
theorem Lo(w:World)(r:Nat)(i:Value)(l rest r2:List P4)(c:zc)(h:Rd w r i l rest)(q:l.length<=500)(g:Nat)(j:rest.length<=g)(t:vc g rest=some (c,r2)):
  Calls prog 100 #[.pointer (some ⟨r,0,none⟩)] w fun e f=>∃m n,e=.returned (.tuple #[.agg #[.bool c.head.neg,.string c.head.pred,m,n],.bool true])/\P7 w.heap.size f m c.head.args/\PX w.heap.size f n c.body/\Rd f r i l r2/\PB r w f:=by
 refine(C9 w r i l rest h q g j).mono ?_;rintro e f ⟨p,k⟩;rw[t] at k;obtain⟨v,s,a,b,c,d⟩:=k;exact⟨v,s,a,b,c,d,p⟩
theorem Pn:(prog.info? 171).map (fun i=>(i.zero,i.size,i.bytes))=some (some (.agg #[.bool false,.string ByteArray.empty,.slice none 0 0,.slice none 0 0]),4,72):=by kernel_rfl
def wa(o:Option (List zc))(w:World)(e:Ending)(a:World):Prop:=
 Below w.heap.size w a/\match o with
  |none=>e=.returned (.tuple #[.slice none 0 0,.bool false])
  |some b=>∃v,e=.returned (.tuple #[v,.bool true])/\Qa w.heap.size 171 a v b
theorem Oa{a:World}(h:Hid (o=none))(c:Below w.heap.size w a):wa o w (.returned (.tuple #[.slice none 0 0,.bool false])) a:=by
 have b:o=none:=h;subst b;exact⟨c,rfl⟩
theorem Ks{a:World}{cs:List zc}(h:Hid (o=some cs))(c:Below w.heap.size w a)(hs:Qa w.heap.size 171 a v cs):wa o w (.returned (.tuple #[v,.bool true])) a:=by
 have b:o=some cs:=h;subst b;exact⟨c,v,rfl,hs⟩
theorem Q3(w:World)(wv:Value)(l:List P4)(y:Nat)(hw:w.ownsRow y 182 2 wv l.length (jD l))(hl:l.length<=500):
  Calls prog 60 #[wv] w fun e w'=>wa (yF l.length l.length l) w e w':=by
 obtain⟨i0,hi,af,ac,aa⟩:=info_parts Pn;obtain⟨T,s,rfl⟩:=zs hw;have h0:Rd (w.alloc (.cells #[.slice T l.length s,.int .i64 0] 185)) w.heap.size (.slice T l.length s) l l:=
  ⟨⟨0,zx _,rfl,Py.new _ _ _⟩,y,zC hw zQ⟩
 clear hw;go_enter func60,ntmps60;go_wp2;go_loopg [5] (l.length) (fun n v wr=>∃(f:List zc) (b:List P4) (m:Nat) (xs:List Value),b.length<=n/\b.length<=m/\b.length+f.length<=l.length ∧
   wr.ownsRow (w.heap.size+1) 171 4 v f.length xs/\vV w.heap.size wr f xs/\Rd wr w.heap.size (.slice T l.length s) l b/\PB w.heap.size (w.alloc (.cells #[.slice T l.length s,.int .i64 0] 185)) wr ∧
   Hid (yF l.length l.length l=(yF l.length m b).map (f++·)))
 case atStart=>exact⟨[],l,l.length,[],zf _,zf _,by simp,yI _ _ _ _,rfl,h0,PB.refl _ _,(by simp[Hid])⟩
 case round=>
  obtain⟨f,b,m,xs,hn,hm,av,A,I,q,g,E⟩:=hrel;have R:w.heap.size<=wr.heap.size:=by have:=g.size;simp at this;omega
  obtain⟨c0,f0,d⟩:=q.cell;have Y:=Px d;obtain⟨p,am,ak,hp,N,V,G,ar,aq,an,hx⟩:=q.view;clear V hx G;cases b with
  |nil=>
   have S:p=l.length:=by
    have:=congrArg List.length N;simp at this;omega
   have F:Hid (yF l.length l.length l=some f):=by rw[Hid.out E];cases m<;>simp[yF,Hid]
   have P:=zQ.trans (g.below (zf _) (by simp));subst S;clear N E d;go_wp2;go_ret2
   exact Ks F P ⟨_,yq A (by omega),I⟩
  |cons x r0=>
   have S:p<l.length:=by
    rcases gD p l.length with h|h
    ·exact h
    ·rw[ug h] at N;cases N
   clear N;have t:x::r0≠[]:=by simp
   obtain⟨m,rfl⟩:∃m',m=m'+1:=⟨m-1,by simp at hm;omega⟩;generalize x::r0=b at *;have HN:Hid (b.length<=l.length):=by unfold Hid;omega
   cases B:vc l.length b with
   |none=>
    have HC:=Px B;have F:Hid (yF l.length l.length l=none):=by rw[Hid.out E,sK t B];simp[Hid]
    clear B t E;go_wp2_with (first|(go_at_call 100;refine(JH _ w.heap.size _ l b q hl l.length HN HC).mono ?_;rintro e w1 ⟨rfl,a⟩;have j:=g.trans a;have Q:=j.size;have C:=zQ.trans (j.below (zf _) (by simp))))
    go_ret2
    have al:=C.size;exact Oa F (by go_grown)
   |some z=>
    obtain⟨c,U⟩:=z;have HC:=Px B;have ao:=Jn B;have F:Hid (yF l.length l.length l=(yF l.length m U).map ((f++[c])++·)):=by rw[Hid.out E,pP t B,rm];rfl
    clear B t E;go_wp2_with (first|(go_at_call 100;refine(Lo _ w.heap.size _ l b U c q hl l.length HN HC).mono ?_;rintro e w1 ⟨va,vb,rfl,K,O,X,a⟩;obtain⟨W,ag,rfl⟩:=K.qx;obtain⟨ap,au,rfl⟩:=O.qx;have j:=g.trans a;have Q:=j.size;have ah:=(by simpa using Q);have i:=xK A a d (by decide);have J:=I.mono (fun _ _ k=>k.but a d (by decide)) (fun _ _ k=>k.but a d (by decide) (by decide)))|(at_builtin;refine jS w1 _ _ _ rfl (.tmp 22) (.tmp 24) 121 rfl (w.heap.size+1) 171 i0 _ 4 72 underlying121 hi af ac aa rfl (by decide) _ _ _ rfl i zQ _ _ rfl (by simp) rfl (by simp[Value.oneCell']) (by omega) (by omega) ah ?_;intro v' w2 ae L ai ad u aj;clear ai ad;have M:=Rd.keep h0 X (by simpa using L);have D:=j.onto (by simpa using L);have ab:P7 w.heap.size w2 (Value.slice W c.head.args.length ag) c.head.args:=yq (gs i (by decide) K u) R;have Z:=(O.push i (by decide) (by decide) u).low R;have H:=J.mono (fun _ _ k=>gs i (by decide) k u) (fun _ _ k=>k.push i (by decide) (by decide) u)))
    go_roundg U.length
    case measure=>omega
    case rel=>exact⟨f++[c],U,m,_,zf _,by omega,by simp;omega,by rw[yv];exact ae,H.snoc ab Z,M,D,F⟩
end
end Go.Proofs.YteampbddflhngaaGreat
