import Derived.Test.YteampbddflhngaaGreatProg
import Derived.Deep.QuietTactic
import Derived.BigQuiet
import Derived.Deep.LoopGhost
import Derived.Test.YteampbddflhngaaGreatV01
import Derived.Test.YteampbddflhngaaGreatV02
namespace Go.Proofs.YteampbddflhngaaGreat
set_option maxRecDepth 100000
set_option maxHeartbeats 1000000
open Go.RowKit
section
open Go.Proofs.Tryz
theorem tU(c:Int)(w:World):
  Calls prog 98 #[.int .u8 c] w fun e a=>e=.returned (.bool (vT c))/\a=w:=by
 go_enter func98,ntmps98;go_wp2
 all_goals go_ret
 all_goals exact⟨by simp[vT, *],rfl⟩
theorem Dq(c:Int)(w:World):
  Calls prog 173 #[.int .u8 c] w fun e a=>e=.returned (.bool (yQ c))/\a=w:=by
 go_enter func173,ntmps173;go_wp2
 all_goals go_ret
 all_goals exact⟨by simp[yQ, *]<;>omega,rfl⟩
theorem BE(c:Int)(w:World):
  Calls prog 174 #[.int .u8 c] w fun e a=>e=.returned (.bool (vE c))/\a=w:=by
 go_enter func174,ntmps174;go_wp2
 all_goals go_ret
 all_goals exact⟨by simp[vE, *]<;>omega,rfl⟩
theorem p9(c:Int)(w:World):
  Calls prog 175 #[.int .u8 c] w fun e a=>e=.returned (.bool (yJ c))/\a=w:=by
 go_enter func175,ntmps175;go_wp2
 all_goals go_ret
 all_goals exact⟨by simp[yJ, *]<;>omega,rfl⟩
theorem e8(c:Int)(w:World):
  Calls prog 198 #[.int .u8 c] w fun e a=>e=.returned (.bool (P9 c))/\a=w:=by
 go_enter func198,ntmps198;go_wp2_with (first|(go_at_call 173;refine(Dq _ _).mono ?_;rintro e a ⟨rfl,rfl⟩)|(go_at_call 174;refine(BE _ _).mono ?_;rintro e a ⟨rfl,rfl⟩)|(go_at_call 175;refine(p9 _ _).mono ?_;rintro e a ⟨rfl,rfl⟩))
 all_goals go_ret
 all_goals exact⟨by simp[P9, *],rfl⟩
theorem Bx(s:ByteArray)(i:Int)(w:World)(a:0<=i)(_:s.size<=500):
  Calls prog 139 #[.string s,.int .i64 i] w fun e b=>e=.returned (.int .u8 (Pi s i.toNat))/\b=w:=by
 obtain⟨i,rfl⟩:=Int.eq_ofNat_of_zero_le a;rw[Int.toNat_natCast];by_cases h:i<s.size
 ·rw[vY h];go_enter func139,ntmps139;go_wp2
  all_goals go_ret
  all_goals exact⟨rfl,rfl⟩
 ·rw[np h];go_enter func139,ntmps139;go_wp2
  all_goals go_ret
  all_goals exact⟨rfl,rfl⟩
theorem NT(c:Int)(w:World):
  Calls prog 176 #[.int .u8 c] w fun e a=>e=.returned (.int .i64 (gL c))/\a=w:=by
 go_enter func176,ntmps176;go_wp2
 all_goals go_ret
 all_goals go_light
 all_goals exact⟨by simp_all [gL],rfl⟩
theorem oR(a b:Int)(w:World):
  Calls prog 140 #[.int .u8 a,.int .u8 b] w fun e c=>e=.returned (.int .i64 (xa a b))/\c=w:=by
 go_enter func140,ntmps140;go_wp2_with (first|(go_at_call 173;refine(Dq _ _).mono ?_;rintro e c ⟨rfl,rfl⟩)|(go_at_call 174;refine(BE _ _).mono ?_;rintro e c ⟨rfl,rfl⟩)|(go_at_call 175;refine(p9 _ _).mono ?_;rintro e c ⟨rfl,rfl⟩)|(go_at_call 176;refine(NT _ _).mono ?_;rintro e c ⟨rfl,rfl⟩))
 all_goals go_ret
 all_goals go_light
 all_goals exact⟨by first|(simp_all [xa];done)|(simp_all [xa,yQ,vE,yJ];done),rfl⟩
theorem M3(s:ByteArray)(i:Nat)(w:World)(h:s.size<=500)(g:i<=s.size):
  Calls prog 177 #[.string s,.int .i64 i] w fun e d=>e=.returned (.int .i64 (yA P9 s i))/\d=w:=by
 go_enter func177,ntmps177;go_wp2;go_loop [5] (fun t=>∃k:Nat,k<=s.size/\t=.int .i64 k/\Hid (yA P9 s i=yA P9 s k)) (fun t=>s.size-(intOf t).toNat)
 case atStart=>exact⟨i,g,rfl,rfl⟩
 case round=>
  obtain⟨k,j,rfl,H⟩:=hrel;by_cases a:k<s.size
  ·have f:=vY a;cases c:P9 (Pi s k) with
   |true=>
    have b:Hid (yA P9 s i=yA P9 s (k+1)):=by rw[Hid.out H,l3 a c];rfl
    rw[f] at c;go_wp2_with (go_at_call 198;refine(e8 _ _).mono ?_;rintro e d ⟨rfl,rfl⟩)
    go_round
    case rel=>exact⟨k+1,by omega,by go_num,b⟩
    case measure=>simp[intOf];omega
   |false=>
    have b:Hid (yA P9 s i=k):=by rw[Hid.out H,lG c];rfl
    rw[f] at c;go_wp2_with (go_at_call 198;refine(e8 _ _).mono ?_;rintro e d ⟨rfl,rfl⟩)
    go_ret;exact⟨by rw[Hid.out b];rfl,rfl⟩
  ·have b:Hid (yA P9 s i=k):=by rw[Hid.out H,gx a];rfl
   go_wp2_with (go_at_call 198;refine(e8 _ _).mono ?_;rintro e d ⟨rfl,rfl⟩)
   go_ret;exact⟨by rw[Hid.out b];rfl,rfl⟩
theorem ER(s:ByteArray)(i:Nat)(w:World)(h:s.size<=500)(g:i<=s.size):
  Calls prog 178 #[.string s,.int .i64 i] w fun e d=>e=.returned (.int .i64 (yA yJ s i))/\d=w:=by
 go_enter func178,ntmps178;go_wp2;go_loop [5] (fun t=>∃k:Nat,k<=s.size/\t=.int .i64 k/\Hid (yA yJ s i=yA yJ s k)) (fun t=>s.size-(intOf t).toNat)
 case atStart=>exact⟨i,g,rfl,rfl⟩
 case round=>
  obtain⟨k,j,rfl,H⟩:=hrel;by_cases a:k<s.size
  ·have f:=vY a;cases c:yJ (Pi s k) with
   |true=>
    have b:Hid (yA yJ s i=yA yJ s (k+1)):=by rw[Hid.out H,l3 a c];rfl
    rw[f] at c;go_wp2_with (go_at_call 175;refine(p9 _ _).mono ?_;rintro e d ⟨rfl,rfl⟩)
    go_round
    case rel=>exact⟨k+1,by omega,by go_num,b⟩
    case measure=>simp[intOf];omega
   |false=>
    have b:Hid (yA yJ s i=k):=by rw[Hid.out H,lG c];rfl
    rw[f] at c;go_wp2_with (go_at_call 175;refine(p9 _ _).mono ?_;rintro e d ⟨rfl,rfl⟩)
    go_ret;exact⟨by rw[Hid.out b];rfl,rfl⟩
  ·have b:Hid (yA yJ s i=k):=by rw[Hid.out H,gx a];rfl
   go_wp2_with (go_at_call 175;refine(p9 _ _).mono ?_;rintro e d ⟨rfl,rfl⟩)
   go_ret;exact⟨by rw[Hid.out b];rfl,rfl⟩
theorem oQ(s:ByteArray)(i:Nat)(k:Int)(w:World)(c:s.size<=500)(b:i<=s.size):
  Calls prog 141 #[.string s,.int .i64 i,.int .i64 k] w fun e a=>e=.returned (.int .i64 (yi s i k))/\a=w:=by
 go_enter func141,ntmps141;go_wp2_with (first|(go_at_call 177;refine(M3 _ _ _ c b).mono ?_;rintro e a ⟨rfl,rfl⟩)|(go_at_call 178;refine(ER _ _ _ c b).mono ?_;rintro e a ⟨rfl,rfl⟩))
 all_goals go_ret
 all_goals go_light
 all_goals exact⟨by simp_all [yi],rfl⟩
theorem LL(s:ByteArray)(i:Nat)(w:World)(b:s.size<=500)(d:i<s.size)(g:xa (Pi s i) (Pi s (i+1))=0):
  Calls prog 99 #[.string s,.int .i64 i] w fun e a=>e=.returned (.agg #[.int .i64 0,.string ByteArray.empty])/\Below w.heap.size w a:=by
 have f:yi s i 0=i:=rfl;have c:((i:Int)+1).toNat=i+1:=by omega
 go_enter func99,ntmps99;go_wp2_with (first|(go_at_call 139;refine(Bx s _ _ (by omega) b).mono ?_;rintro e a ⟨rfl,rfl⟩)|(go_at_call 140;refine(oR _ _ _).mono ?_;rintro e a ⟨rfl,rfl⟩)|(go_at_call 141;refine(oQ s i _ _ b (by omega)).mono ?_;rintro e a ⟨rfl,rfl⟩))
 go_returns
 exact⟨rfl,by go_grown⟩
theorem JZ(s:ByteArray)(i:Nat)(k:Int)(w:World)(f:s.size<=500)(q:i<s.size)(r:xa (Pi s i) (Pi s (i+1))=k)
  (h:i<yi s i k) (j:yi s i k<=s.size):
  Calls prog 99 #[.string s,.int .i64 i] w fun e b=>e=.returned (.agg #[.int .i64 k,.string (s.extract i (yi s i k))])/\Below w.heap.size w b:=by
 have o:((i:Int)+1).toNat=i+1:=by omega
 go_enter func99,ntmps99;go_wp2_with (first|(go_at_call 139;refine(Bx s _ _ (by omega) f).mono ?_;rintro e b ⟨rfl,rfl⟩)|(go_at_call 140;refine(oR _ _ _).mono ?_;rintro e b ⟨rfl,rfl⟩)|(go_at_call 141;refine(oQ s i _ _ f (by omega)).mono ?_;rintro e b ⟨rfl,rfl⟩)|(refine JT _ rfl (.tmp 41) 9 238 5 rfl underlying9 underlying238 underlying5 _ rfl ?_;intro n m d a;obtain⟨c,l⟩:=NZ a;have g:=a.size;simp only[World.size_alloc] at g)|(refine F5 _ rfl (.tmp 42) 238 9 5 rfl underlying238 underlying5 underlying9 _ _ _ rfl ?_ ?_;(first|exact d|fail)))
 have p:Below w.heap.size w m:=Pc zO a;exact zJ (v:=.agg #[.int .i64 k,.string (s.extract i (yi s i k))]) (by simp[results,results99,go_sem,c]) rfl ⟨rfl,by go_grown⟩
def jL(l:List (Int×ByteArray)):List Value:=l.flatMap fun x=>[.int .i64 x.1,.string x.2]
theorem Hw(l:List (Int×ByteArray))(k:Int)(t:ByteArray):jL (l++[(k,t)])=jL l++[.int .i64 k,.string t]:=by simp[jL]
theorem O5:(prog.info? 182).map (fun i=>(i.zero,i.size,i.bytes))=some (some (.agg #[.int .i64 0,.string ByteArray.empty]),2,24):=by kernel_rfl
def p5(s:ByteArray)(w:World)(e:Ending)(a:World):Prop:=
 Below w.heap.size w a/\match Pl s with
  |none=>e=.returned (.tuple #[.slice none 0 0,.bool false])
  |some l=>∃v,e=.returned (.tuple #[v,.bool true])/\a.ownsRow w.heap.size 182 2 v l.length (jL l)/\l.length<=s.size
theorem At{s:ByteArray}{w a:World}(h:Hid (Pl s=none))(c:Below w.heap.size w a):p5 s w (.returned (.tuple #[.slice none 0 0,.bool false])) a:=by
 have b:Pl s=none:=h;unfold p5;rw[b];exact⟨c,rfl⟩
theorem J2{s:ByteArray}{w a:World}{v:Value}{l:List (Int×ByteArray)}(h:Hid (Pl s=some l))(d:Below w.heap.size w a)(b:a.ownsRow w.heap.size 182 2 v l.length (jL l))(e:l.length<=s.size):
  p5 s w (.returned (.tuple #[v,.bool true])) a:=by
 have c:Pl s=some l:=h;unfold p5;rw[c];exact⟨d,v,rfl,b,e⟩
theorem AJ(s:ByteArray)(w:World)(O:s.size<=500):
  Calls prog 59 #[.string s] w fun e x=>p5 s w e x:=by
 obtain⟨R,S,D,C,J⟩:=info_parts O5;go_enter func59,ntmps59;go_wp2;go_loopw [4,5] (fun v t wr=>∃(k:Nat) (a:List (Int×ByteArray)) (m:Nat),k<=s.size/\t=.int .i64 k/\s.size-k<=m/\Hid (Pl s=(Pn m s k).map (a++·))/\a.length<=k ∧
   wr.ownsRow w.heap.size 182 2 v a.length (jL a)/\Below w.heap.size w wr) (fun _ t _=>s.size-(intOf t).toNat)
 case atStart=>exact⟨0,[],s.size,zv _,rfl,by omega,(by simp[Pl,Hid]),zh _,yK _ _ _ _,zo _ _⟩
 case round=>
  obtain⟨k,a,m,W,rfl,X,H,U,i,c⟩:=hrel;by_cases b:k<s.size
  ·have p:=vY b;obtain⟨m,rfl⟩:∃Q,m=Q+1:=⟨m-1,by omega⟩;cases n:vT (Pi s k) with
   |true=>
    have j:Hid (Pl s=(Pn m s (k+1)).map (a++·)):=by rw[←sX b n];exact H
    rw[p] at n;clear p H;go_wp2_with (go_at_call 98;refine(tU _ _).mono ?_;rintro e x ⟨rfl,rfl⟩)
    go_roundw
    case rel=>exact⟨k+1,a,m,by omega,by go_num,by omega,j,by omega,i,c⟩
    case measure=>simp[intOf];omega
   |false=>
    by_cases h:xa (Pi s k) (Pi s (k+1))=0
    ·have j:Hid (Pl s=none):=by rw[Hid.out H,tD b n h];simp[Hid]
     have q:=LL s k wr O b h;rw[p] at n;clear p H h;go_wp2_with (first|(go_at_call 98;refine(tU _ _).mono ?_;rintro e x ⟨rfl,rfl⟩)|(go_at_call 99;refine q.mono ?_;rintro e M ⟨rfl,g⟩;clear q;have r:=Pc c g;have y:=r.size))
     go_ret2
     exact At j (by go_grown)
    ·obtain⟨f,d⟩:∃f,xa (Pi s k) (Pi s (k+1))=f:=⟨_,rfl⟩;have l:f≠0:=by rw[←d];exact h
     obtain⟨L,A⟩:=pP s k f b d l;have q:=JZ s k f wr O b d L A;by_cases P:6<yi s k f-k
     ·have j:Hid (Pl s=none):=by rw[Hid.out H,td b n d P];simp[Hid]
      rw[p] at n;clear p H h d;generalize yi s k f=o at *;have B:(s.extract k o).size=o-k:=by rw[ByteArray.size_extract];omega
      generalize s.extract k o=N at *;have u:(f == 0)=false:=by simpa using l
      go_wp2_with (first|(go_at_call 98;refine(tU _ _).mono ?_;rintro e x ⟨rfl,rfl⟩)|(go_at_call 99;refine q.mono ?_;rintro e M ⟨rfl,g⟩;clear q;have r:=Pc c g;have y:=r.size))
      go_ret2
      exact At j (by go_grown)
     ·have j:Hid (Pl s=(Pn m s (yi s k f)).map ((a++[(f,s.extract k (yi s k f))])++·)):=by rw[Hid.out H,tF b n d l P,rg];rfl
      rw[p] at n;clear p H h d;generalize yi s k f=o at *;have B:(s.extract k o).size=o-k:=by rw[ByteArray.size_extract];omega
      generalize s.extract k o=N at *;have u:(f == 0)=false:=by simpa using l
      go_wp2_with (first|(go_at_call 98;refine(tU _ _).mono ?_;rintro e x ⟨rfl,rfl⟩)|(go_at_call 99;refine q.mono ?_;rintro e M ⟨rfl,g⟩;clear q;have r:=Pc c g;have y:=r.size;have G:=zE i g)|(at_builtin;refine jY M _ _ _ rfl (.tmp 29) (.tmp 31) 118 rfl w.heap.size 182 R _ 2 24 underlying118 S D C J rfl (by decide) _ _ _ rfl G zO _ _ rfl (by simp) rfl (by simp[Value.oneCell']) (by omega) (by omega) (by omega) ?_;intro Y V F I K E T z;simp only[World.size_alloc] at K E z))
      go_roundw
      case rel=>exact⟨o,a++[(f,N)],m,by omega,by go_num,by omega,j,by simp;omega,by rw[yz,Hw];exact F,r.trans I⟩
      case measure=>simp[intOf];omega
  ·have j:Hid (Pl s=some a):=by rw[Hid.out H,nN b];simp[Hid]
   clear H;go_wp2;go_ret2
   exact J2 j c i (by omega)
end
section
variable {lo:Nat}{t:ByteArray}{r base n b:Nat}{w w':World}{v wv:Value}{xs:List Value}{c:Array Value}{l:List ByteArray}
abbrev Pd:=Int×ByteArray
structure zj where
 neg:Bool
 pred:ByteArray
 args:List ByteArray
structure zc where
 head:zj
 body:List zj
def PY(k:Int):Bool:=k == 1||k == 3||k == 2
def Pw:List Pd->Int
 |[]=>0
 |x::_=>x.1
def yd:List Pd->Option (List ByteArray×List Pd)
 |[]=>none
 |[x]=>if PY x.1 then some ([x.2],[]) else none
 |x::y::r=>if PY x.1 then(if y.1=6 then(yd r).map fun z=>(x.2::z.1,z.2) else some ([x.2],y::r)) else none
theorem Nu{k:Int}{r:List Pd}(h:PY k=false):yd ((k,t)::r)=none:=by cases r<;>simp[yd,h]
theorem Cp{k:Int}{r:List Pd}(h:PY k=true)(a:Pw r≠6):yd ((k,t)::r)=some ([t],r):=by
 cases r with
 |nil=>simp[yd,h]
 |cons y r=>simp only[Pw] at a;simp[yd,h,a]
theorem FH{k:Int}{r:List Pd}(h:PY k=true)(a:Pw r=6):yd ((k,t)::r)=(yd r.tail).map fun z=>(t::z.1,z.2):=by
 cases r with
 |nil=>simp[Pw] at a
 |cons y r=>simp only[Pw] at a;simp[yd,h,a]
def yV(r:List Pd):Option (zj×List Pd):=
 if Pw r=1 then
  if Pw r.tail=4 then
   match yd r.tail.tail with
   |none=>none
   |some (d,a)=>if Pw a=5 then some (⟨false,(r.headD (0,ByteArray.empty)).2,d⟩,a.tail) else none
  else some (⟨false,(r.headD (0,ByteArray.empty)).2,[]⟩,r.tail)
 else none
def uy(r:List Pd):Option (zj×List Pd):=
 if Pw r=8 then(yV r.tail).map fun z=>({z.1 with neg:=true},z.2) else yV r
structure Pm (r:Nat) (w w':World):Prop where
 os:w'.os=w.os
 tape:w'.tape=w.tape
 output:w'.output=w.output
 size:w.heap.size<=w'.heap.size
 block:∀k,k<w.heap.size->k≠r->w'.heap[k]?=w.heap[k]?
theorem Pm.refl(r:Nat)(w:World):Pm r w w:=⟨rfl,rfl,rfl,zh _,fun _ _ _=>rfl⟩
theorem Pm.trans{r:Nat}{a b c:World}(h:Pm r a b)(k:Pm r b c):Pm r a c:=
 ⟨k.os.trans h.os,k.tape.trans h.tape,k.output.trans h.output,zT h.size k.size,fun i d e=>(k.block i (xo d h.size) e).trans (h.block i d e)⟩
theorem Pm.of(h:Below w.heap.size w w'):Pm r w w':=⟨h.os,h.tape,h.output,h.size,fun k a _=>h.block k a⟩
theorem Pm.below{B:Nat}(h:Pm r w w')(d:B<=r)(a:B<=w.heap.size):Below B w w':=⟨h.os,h.tape,h.output,h.size,fun k e=>h.block k (by omega) (by omega)⟩
theorem Pm.setCell{r:Nat}{a w:World}(h:Pm r a w)(o:Nat)(u:Value):Pm r a (w.setCell ⟨r,o,none⟩ u):=
 h.trans ⟨rfl,rfl,rfl,by simp[World.setCell],fun _ _ d=>Below.heap_setCell _ _ _ _ d⟩
theorem Pm.drew{r:Nat}{a w:World}(h:Pm r a w):Pm r a w.drew:=⟨h.os,h.tape,h.output,h.size,h.block⟩
theorem Pm.drewN{r:Nat}{a w:World}(h:Pm r a w)(n:Nat):Pm r a (w.drewN n):=h.trans (Pm.of (zI (zo _ _) n))
theorem Pm.alloc{r:Nat}{a w:World}(h:Pm r a w)(o:Obj):Pm r a (w.alloc o):=h.trans (Pm.of ((zo _ _).alloc (zh _) o))
theorem Pm.setNew{r:Nat}{a w:World}(h:Pm r a w){p:Addr}(f:a.heap.size<=p.block)(u:Value):Pm r a (w.setCell p u):=
 ⟨h.os,h.tape,h.output,by simp[World.setCell];exact h.size,fun k e d=>(Below.heap_setCell _ _ _ _ (by omega)).trans (h.block k e d)⟩
abbrev xR:=@Pm.refl
abbrev xN:=@Pm.drewN
abbrev xA:=@Pm.alloc
abbrev xD:=@Pm.drew
abbrev xS:=@Pm.setCell
abbrev xT:=@Pm.setNew
theorem xQ{e:TypeId}{a:Nat}(h:w.ownsRow base e a v n xs)(s:Pm r w w')
  {c:Array Value} {T:TypeId} {f:Nat×Nat} (m:w.heap[r]?=some (.cells c T f)) (x:T≠e):w'.ownsRow base e a v n xs:=by
 obtain⟨u,d⟩:=h;refine⟨u,?_⟩;rcases d with d|⟨g,k,i,q,y,j,p⟩
 ·exact zf d
 ·refine ze ⟨g,k,i,q,y,?_,p⟩;rw[s.block g (kD.1 j).1 (fun o=>by subst o;rw[j] at m;simp at m;exact x m.2.1.symm)];exact j
theorem zq{e:TypeId}{d:Nat}(h:w.ownsRow base e d v n xs):∃k a,v=.slice k n a:=by
 obtain⟨_,⟨f,i⟩|⟨g,a,j,f,_⟩⟩:=h
 ·exact⟨none,0,by rw[f,i]⟩
 ·exact⟨_,a,f⟩
theorem y7{e:TypeId}{d:Nat}(h:w.ownsRow base e d v n xs)(y:0<n):
  ∃g a,v=.slice (some ⟨g,0,none⟩) n a/\base<=g/\g<w.heap.size/\∀j u,xs[j]?=some u->w.cell? ⟨g,j,none⟩=some u:=by
 obtain⟨A,⟨i,z⟩|⟨g,a,p,i,x,k,m,s,q,o⟩⟩:=h
 ·omega
 ·refine⟨g,a,i,x,(kD.1 k).1,fun j u f=>?_⟩;unfold World.cell?;rw[k];simp;rw[←o,l9] at f;split at f
  ·simpa using f
  ·simp at f
def OZ(w:World)(b:Nat)(c:Array Value)(T:TypeId):Prop:=w.heap[b]?=some (.cells c T (0,0))
theorem OZ.lt{T:TypeId}(h:OZ w b c T):b<w.heap.size:=(kD.1 h).1
theorem OZ.new(w:World)(c:Array Value)(T:TypeId):OZ (w.alloc (.cells c T)) w.heap.size c T:=by unfold OZ;show(w.heap.push _)[w.heap.size]?=_;simp
theorem OZ.below{T:TypeId}(h:OZ w b c T)(a:Below w.heap.size w w'):OZ w' b c T:=by have:=h.lt;unfold OZ at *;rw[a.block b this];exact h
theorem OZ.but{T:TypeId}(h:OZ w b c T)(d:Pm r w w')(a:b≠r):OZ w' b c T:=by have:=h.lt;unfold OZ at *;rw[d.block b this a];exact h
theorem OZ.rules{T:TypeId}(h:OZ w b c T):(∀o,w.cell? ⟨b,o,none⟩=c[o]?)/\(∀o,w.frozen? ⟨b,o,none⟩=false):=by
 unfold OZ at h;exact⟨fun o=>by unfold World.cell?;rw[h];simp,fun o=>by unfold World.frozen?;rw[h];simp⟩
theorem OZ.boxed{T:TypeId}(h:OZ w b c T):(∀o,w.cell? ⟨b,o,none⟩=c[o]?)/\(∀o,w.frozen? ⟨b,o,none⟩=false)/\b<w.heap.size:=⟨h.rules.1,h.rules.2,h.lt⟩
def Pg(lo:Nat)(w:World)(v:Value)(l:List ByteArray):Prop:=w.ownsRow lo 9 1 v l.length (l.map Value.string)
theorem yr{a:Nat}{e:TypeId}{d:Nat}(h:w.ownsRow b e d v n xs)(p:a<=b):w.ownsRow a e d v n xs:=by
 obtain⟨o,f⟩:=h;refine⟨o,?_⟩;rcases f with f|⟨g,j,i,m,q,k⟩
 ·exact zf f
 ·exact ze ⟨g,j,i,m,by omega,k⟩
theorem Pg.low{a:Nat}(h:Pg b w v l)(d:a<=b):Pg a w v l:=yr h d
theorem Pg.nil(w:World):Pg lo w (.slice none 0 0) []:=yK _ _ _ _
theorem Pg.qw(h:Pg lo w v l):∃d a,v=.slice d l.length a:=zq h
theorem Pg.below(h:Pg lo w v l)(a:Below w.heap.size w w'):Pg lo w' v l:=zE h a
theorem Pg.but(h:Pg lo w v l)(a:Pm r w w'){T:TypeId}{f:Nat×Nat}(d:w.heap[r]?=some (.cells c T f))(e:T≠9):Pg lo w' v l:=by
 exact xQ h a d e
structure Rd (w:World) (r:Nat) (wv:Value) (l rest:List Pd):Prop where
 box:∃p:Nat,p<=l.length/\rest=l.drop p/\w.heap[r]?=some (.cells #[wv,.int .i64 p] 185 (0,0))
 words:∃base,w.ownsRow base 182 2 wv l.length (jL l)
theorem Rd.cell{l rest:List Pd}(h:Rd w r wv l rest):∃c f,w.heap[r]?=some (.cells c 185 f):=by
 obtain⟨p,_,_,a⟩:=h.box;exact⟨_,_,a⟩
theorem Rd.lt{l rest:List Pd}(h:Rd w r wv l rest):r<w.heap.size:=by
 obtain⟨p,_,_,a⟩:=h.box;exact(kD.1 a).1
theorem Rd.below{l rest:List Pd}(h:Rd w r wv l rest)(d:Below w.heap.size w w'):Rd w' r wv l rest:=by
 have a:=h.lt;obtain⟨⟨p,g,f,i⟩,b,e⟩:=h;exact⟨⟨p,g,f,by rw[d.block r a];exact i⟩,b,zE e d⟩
theorem Hl(l:List Pd)(p:Nat)(k:Int)(t:ByteArray)(r:List Pd)(h:(k,t)::r=l.drop p):(jL l)[p*2]?=some (.int .i64 k)/\(jL l)[p*2+1]?=some (.string t):=by
 induction l generalizing p with
 |nil=>simp at h
 |cons x l a=>
  cases p with
  |zero=>simp at h;obtain⟨rfl,_⟩:=h;simp[jL]
  |succ p=>
   have:=a p (by simpa using h);simp only[jL,us] at this ⊢;rw[show(p+1)*2=p*2+1+1 from by omega];simpa using this
theorem Rd.view{l rest:List Pd}(h:Rd w r wv l rest):∃(p:Nat) (e:Option Addr) (cap:Nat),p<=l.length/\rest=l.drop p/\wv=.slice e l.length cap ∧
  w.heap[r]?=some (.cells #[wv,.int .i64 p] 185 (0,0))/\w.cell? ⟨r,0,none⟩=some wv/\w.cell? ⟨r,1,none⟩=some (.int .i64 p)/\(∀o,w.frozen? ⟨r,o,none⟩=false) ∧
  (∀k t i,rest=(k,t)::i->∃g,e=some ⟨g,0,none⟩/\g<w.heap.size/\p<l.length/\w.cell? ⟨g,p*2,none⟩=some (.int .i64 k)/\w.cell? ⟨g,p*2+1,none⟩=some (.string t)):=by
 obtain⟨⟨p,A,d,f⟩,b,q⟩:=h;obtain⟨e,cap,m⟩:=zq q;refine⟨p,e,cap,A,d,m,f,by unfold World.cell?;rw[f];simp,by unfold World.cell?;rw[f];simp,fun o=>by unfold World.frozen?;rw[f];simp,?_⟩;intro k t i j;have y:p<l.length:=by
  rcases gA p l.length with h|h
  ·exact h
  ·rw[ui h] at d;rw[d] at j;cases j
 obtain⟨g,s,a,_,B,u⟩:=y7 q (by omega);rw[m] at a;simp at a;obtain⟨z,x⟩:=Hl l p k t i (by rw[←j,d]);exact⟨g,a.1,B,y,u _ _ z,u _ _ x⟩
theorem Rd.keep{y s:World}{l d rest:List Pd}(q:Rd w r wv l d)(h:Rd y r wv l rest)(x:Below w.heap.size y s):Rd s r wv l rest:=by
 have f:=q.lt;obtain⟨_,I,_,j⟩:=q;obtain⟨⟨p,E,D,F⟩,b,C,m⟩:=h;refine⟨⟨p,E,D,by rw[x.block r f];exact F⟩,b,C,?_⟩;rcases m with m|⟨g,k,o,e,H,B,G⟩
 ·exact zf m
 ·refine ze ⟨g,k,o,e,H,?_,G⟩;rcases j with⟨a,_⟩|⟨A,z,u,a,_,i,_⟩
  ·rw[a] at e;cases e
  ·rw[a] at e;simp at e;obtain⟨rfl,rfl⟩:=e;rw[x.block A (kD.1 i).1];exact B
theorem Pm.onto{a b c:World}(h:Pm r a b)(k:Below a.heap.size b c):Pm r a c:=
 ⟨k.os.trans h.os,k.tape.trans h.tape,k.output.trans h.output,zT h.size k.size,fun i d e=>(k.block i d).trans (h.block i d e)⟩
theorem Rd.next{l rest:List Pd}{p:Nat}(a:w.heap[r]?=some (.cells #[wv,.int .i64 p] 185 (0,0)))(d:p<l.length)(f:rest=l.drop p)
  (e:∃base,w.ownsRow base 182 2 wv l.length (jL l)):Rd (w.setCell ⟨r,1,none⟩ (.int .i64 ((p:Int)+1))) r wv l rest.tail:=by
 refine⟨⟨p+1,d,by rw[f,List.tail_drop],?_⟩,?_⟩
 ·simp[World.setCell,Array.getElem?_modify,a]
 ·obtain⟨b,g⟩:=e;exact⟨b,xQ g ((Pm.refl r w).setCell 1 _) a (by decide)⟩
end
section
open Go.Proofs.Tryz
theorem eN(k:Int)(w:World):
  Calls prog 199 #[.int .i64 k] w fun e a=>e=.returned (.bool (PY k))/\a=w:=by
 go_enter func199,ntmps199;go_wp2
 all_goals go_ret
 all_goals go_light
 all_goals exact⟨by simp_all [PY],rfl⟩
theorem mO(w:World)(r:Nat)(f:Value)(l rest:List Pd)(h:Rd w r f l rest)(_:l.length<=500):
  Calls prog 179 #[.pointer (some ⟨r,0,none⟩)] w fun e y=>e=.returned (.agg #[.int .i64 (Pw rest),.string (rest.headD (0,ByteArray.empty)).2])/\Below w.heap.size w y:=by
 have n:=h.lt;obtain⟨p,A,q,z,s,rfl,b,u,d,c,i⟩:=h.view;cases rest with
 |nil=>
  have a:p=l.length:=by
   have:=congrArg List.length s;simp at this;omega
  subst a;go_enter func179,ntmps179;go_wp2;go_quiet (fail)
  go_wp2;go_returns
  exact⟨rfl,(by repeat'(first|with_reducible(first|apply zR|assumption|apply zN|apply zA|apply zD|apply zS)|go_size))⟩
 |cons x m=>
  obtain⟨k,t⟩:=x;obtain⟨g,rfl,B,a,j,o⟩:=i k t m rfl;go_enter func179,ntmps179;go_wp2;go_quiet (fail)
  go_wp2;go_region
  all_goals go_wp2
  all_goals exact zJ (v:=.agg #[.int .i64 k,.string t]) (by simp[results,results179,go_sem]) rfl ⟨rfl,(by repeat'(first|with_reducible(first|apply zR|assumption|apply zN|apply zA|apply zD|apply zS)|go_size))⟩
theorem PM(w:World)(r:Nat)(n:Value)(l rest:List Pd)(k:Int)(h:Rd w r n l rest)(E:l.length<=500)(F:k≠0):
  Calls prog 143 #[.pointer (some ⟨r,0,none⟩),.int .i64 k] w fun e z=>e=.returned (.bool (Pw rest == k))/\Rd z r n l (if Pw rest=k then rest.tail else rest)/\Pm r w z:=by
 have b:=mO w r n l rest h E;by_cases f:Pw rest=k
 ·obtain⟨p,N,D,Q,I,J,d,M,m,q,B⟩:=h.view;have o:=h.words;have c:=h.lt;cases rest with
  |nil=>exact zC f.symm F
  |cons x u=>
   obtain⟨y,t⟩:=x;obtain⟨g,_,R,j,H,L⟩:=B y t u rfl;have G:=OY I;subst f;simp only[if_true,beq_self_eq_true,fX];go_enter func143,ntmps143;go_wp2_with (first|(go_at_call 179;(refine b.mono ?_;rintro e s ⟨rfl,a⟩;clear b;have O:=a.size;have v:r<s.heap.size:=(by omega);have K:=zl a c m;have A:=(a.frozen (p:=⟨r,1,none⟩) c).trans (q 1))))
   go_ret;refine⟨rfl,?_,?_⟩
   ·obtain⟨C,o⟩:=o;exact(Rd.next (w:=s) (rest:=(y,t)::u) ((a.block r c).trans d) j G ⟨C,zE o a⟩).below zO
   ·have P:=Pm.of (r:=r) a;exact(by repeat'(first|with_reducible(first|apply xR|assumption|apply xN|apply xA|apply xD|apply xS|apply xT)|go_size))
 ·rw[za f];have i:(Pw rest == k)=false:=by simpa using f
  rw[i];go_enter func143,ntmps143;go_wp2_with (first|(go_at_call 179;refine b.mono ?_;rintro e s ⟨rfl,a⟩;clear b))
  go_ret;exact⟨rfl,h.below (a.alloc a.size _),Pm.of (a.alloc a.size _)⟩
theorem jU(w:World)(r:Nat)(a:Value)(l rest:List Pd)(k:Int)(h:Rd w r a l rest)(d:l.length<=500)(f:k≠0)(b:Pw rest=k):
  Calls prog 143 #[.pointer (some ⟨r,0,none⟩),.int .i64 k] w fun e c=>e=.returned (.bool true)/\Rd c r a l rest.tail/\Pm r w c:=by
 have:=PM w r a l rest k h d f;rw[zb b,b,beq_self_eq_true] at this;exact this
theorem lX(w:World)(r:Nat)(a:Value)(l rest:List Pd)(k:Int)(h:Rd w r a l rest)(d:l.length<=500)(f:k≠0)(b:Pw rest≠k):
  Calls prog 143 #[.pointer (some ⟨r,0,none⟩),.int .i64 k] w fun e c=>e=.returned (.bool false)/\Rd c r a l rest/\Pm r w c:=by
 have:=PM w r a l rest k h d f;rw[za b,show(Pw rest == k)=false by simpa using b] at this;exact this
end
section
open Go.Proofs.Tryz
variable {lo:Nat}
theorem O4:(prog.info? 9).map (fun i=>(i.zero,i.size,i.bytes))=some (some (.string ByteArray.empty),1,16):=by kernel_rfl
def pE(w:World)(r:Nat)(c:Value)(l rest:List Pd)(e:Ending)(a:World):Prop:=
 Pm r w a/\match yd rest with
  |none=>e=.returned (.tuple #[.slice none 0 0,.bool false])
  |some (d,b)=>∃v,e=.returned (.tuple #[v,.bool true])/\Pg w.heap.size a v d/\Rd a r c l b
theorem BC{w a:World}{r:Nat}{c:Value}{l rest:List Pd}(h:Hid (yd rest=none))(d:Pm r w a):pE w r c l rest (.returned (.tuple #[.slice none 0 0,.bool false])) a:=by
 have b:yd rest=none:=h;unfold pE;rw[b];exact⟨d,rfl⟩
theorem N8{w a:World}{r:Nat}{b v:Value}{l rest r2:List Pd}{ts:List ByteArray}(h:Hid (yd rest=some (ts,r2)))(d:Pm r w a)(e:Pg w.heap.size a v ts)(f:Rd a r b l r2):
  pE w r b l rest (.returned (.tuple #[v,.bool true])) a:=by
 have c:yd rest=some (ts,r2):=h;unfold pE;rw[c];exact⟨d,v,rfl,e,f⟩
theorem BI{α β:Type}(o:Option (List α×β))(a:List α)(x:α):((o.map fun z=>(x::z.1,z.2)).map fun z=>(a++z.1,z.2))=o.map fun z=>((a++[x])++z.1,z.2):=by cases o<;>simp
theorem CQ(w:World)(r:Nat)(J:Value)(l rest:List Pd)(h:Rd w r J l rest)(hl:l.length<=500):
  Calls prog 180 #[.pointer (some ⟨r,0,none⟩)] w fun e N=>pE w r J l rest e N:=by
 obtain⟨i0,hi,T,P,Z⟩:=info_parts O4;have ak:=h.lt;go_enter func180,ntmps180;go_wp2;go_loopg [4,5] (rest.length) (fun n v t wr=>∃(i:List ByteArray) (c:List Pd) (more:Bool),t=.bool more/\c.length<=n/\c.length+i.length<=rest.length ∧
   wr.ownsRow w.heap.size 9 1 v i.length (i.map Value.string)/\Rd wr r J l c/\Pm r w wr ∧
   Hid (more=true->yd rest=(yd c).map fun z=>(i++z.1,z.2))/\Hid (more=false->yd rest=some (i,c)))
 case atStart=>exact⟨[],rest,true,rfl,zh _,by simp,yK _ _ _ _,h,Pm.refl _ _,(fun _=>by simp),(fun h=>by cases h)⟩
 case round=>
  obtain⟨i,c,more,rfl,hn,F,A,o,b,D,M⟩:=hrel;have al:rest.length<=l.length:=by
   obtain⟨p,_,hp,_⟩:=h.box;rw[hp];simp
  have an:=b.size;have j:=o.lt;cases more with
  |false=>
   have I:=OY (M rfl);clear D M;go_wp2;go_ret2
   exact N8 I b A o
  |true=>
   have d:=mO wr r J l c o hl;cases c with
   |nil=>
    have I:Hid (yd rest=none):=by rw[Hid.out D rfl];simp[yd,Hid]
    clear D M;have O:PY 0=false:=rfl;simp only[Pw] at d;go_wp2_with (first|(go_at_call 179;refine d.mono ?_;rintro e y ⟨rfl,a⟩;clear d;have hz:=a.size)|(go_at_call 199;refine(eN _ _).mono ?_;rintro e N ⟨rfl,rfl⟩))
    go_ret2
    have hB:=b.trans (Pm.of a);exact BC I (by repeat'(first|with_reducible(first|apply xR|assumption|apply xN|apply xA|apply xD|apply xS|apply xT)|go_size))
   |cons x f=>
    obtain⟨k,t⟩:=x;simp only[Pw,List.headD_cons] at d;cases O:PY k with
    |false=>
     have I:Hid (yd rest=none):=by rw[Hid.out D rfl,Nu O];simp[Hid]
     clear D M;go_wp2_with (first|(go_at_call 179;refine d.mono ?_;rintro e y ⟨rfl,a⟩;clear d;have hz:=a.size)|(go_at_call 199;refine(eN _ _).mono ?_;rintro e N ⟨rfl,rfl⟩))
     go_ret2
     have hB:=b.trans (Pm.of a);exact BC I (by repeat'(first|with_reducible(first|apply xR|assumption|apply xN|apply xA|apply xD|apply xS|apply xT)|go_size))
    |true=>
     obtain⟨p,ao,am,hp,hr,L,u,ag,R,ad,hx⟩:=o.view;obtain⟨g,_,hg,Q,X,af⟩:=hx k t f rfl;have HR:Hid ((k,t)::f=l.drop p):=hr;have HW:=OY L;clear hx hr X af ag L;go_wp2_with (first|(go_at_call 179;refine d.mono ?_;rintro e y ⟨rfl,a⟩;clear d;have hz:=a.size;have ah:r<y.heap.size:=(by omega);have aq:=zl a j R;have aj:=(a.frozen (p:=⟨r,1,none⟩) j).trans (ad 1);have ac:=a;have H:=Rd.next (w:=y) (rest:=(k,t)::f) ((a.block r j).trans u) Q HR ⟨_,zE o.words.choose_spec a⟩;have U:=xQ (zE A a) ((Pm.refl r y).setCell 1 (.int .i64 ((p:Int)+1))) ((a.block r j).trans u) (by decide);have Y:=(b.trans (Pm.of a)).setCell 1 (.int .i64 ((p:Int)+1));have ap:(y.setCell ⟨r,1,none⟩ (.int .i64 ((p:Int)+1))).heap.size=y.heap.size:=(by simp);clear ac)|(go_at_call 199;refine(eN _ _).mono ?_;rintro e N ⟨rfl,rfl⟩)|(at_builtin;refine jY (y.setCell ⟨r,1,none⟩ (.int .i64 ((p:Int)+1))) _ _ _ rfl (.tmp 21) (.tmp 24) 30 rfl w.heap.size 9 i0 _ 1 16 underlying30 hi T P Z rfl (by decide) _ _ _ rfl U zO _ _ rfl (by simp) rfl (by simp[Value.oneCell']) (by simp at F;omega) (by omega) (by omega) ?_;intro v' w2 W K ab V ae ai;clear ab V ae;have s:=Rd.keep h H K;have B:=Y.onto K;have E:=PM w2 r J l f 6 s hl (by decide))|(go_at_call 143;refine E.mono ?_;rintro e w3 ⟨rfl,G,q⟩;clear E))
     obtain⟨c3,f3,C⟩:=s.cell;have S:=xQ W q C (by decide);have hP:=Hid.out D trivial;simp only[yZ] at hn F;have aa:(if Pw f=6 then f.tail else f).length<=f.length:=by split<;>simp
     go_roundg f.length
     case measure=>omega
     case rel=>
      refine⟨i++[t],(if Pw f=6 then f.tail else f),(Pw f == 6),rfl,aa,by simp;omega,by simpa using S,G,B.trans q,?_,?_⟩
      ·intro h6;have m:Pw f=6:=by simpa using h6
       rw[zb m,hP,FH O m,BI]
      ·intro h6;have m:Pw f≠6:=by simpa using h6
       rw[za m,hP,Cp O m];simp
theorem JP(w:World)(r:Nat)(a:Value)(l rest:List Pd)(h:Rd w r a l rest)(g:l.length<=500)(d:yd rest=none):
  Calls prog 180 #[.pointer (some ⟨r,0,none⟩)] w fun e c=>e=.returned (.tuple #[.slice none 0 0,.bool false])/\Pm r w c:=by
 refine(CQ w r a l rest h g).mono ?_;rintro e c ⟨f,b⟩;rw[d] at b;exact⟨b,f⟩
theorem AC(w:World)(r:Nat)(f:Value)(l rest r2:List Pd)(ts:List ByteArray)(h:Rd w r f l rest)(k:l.length<=500)(i:yd rest=some (ts,r2)):
  Calls prog 180 #[.pointer (some ⟨r,0,none⟩)] w fun e d=>∃v,e=.returned (.tuple #[v,.bool true])/\Pg w.heap.size d v ts/\Rd d r f l r2/\Pm r w d:=by
 refine(CQ w r f l rest h k).mono ?_;rintro e d ⟨j,g⟩;rw[i] at g;obtain⟨v,a,b,c⟩:=g;exact⟨v,a,b,c,j⟩
def l8(o:Option (zj×List Pd))(w:World)(r:Nat)(f:Value)(l:List Pd)(e:Ending)(b:World):Prop:=
 Pm r w b/\match o with
  |none=>e=.returned (.tuple #[.agg #[.bool false,.string ByteArray.empty,.slice none 0 0],.bool false])
  |some (a,d)=>∃c,e=.returned (.tuple #[.agg #[.bool a.neg,.string a.pred,c],.bool true])/\Pg w.heap.size b c a.args/\Rd b r f l d
theorem J9(w:World)(r:Nat)(d:Value)(l rest:List Pd)(h:Rd w r d l rest)(n:l.length<=500)(x:(Pw rest == 1)=false):
  Calls prog 142 #[.pointer (some ⟨r,0,none⟩)] w fun e s=>l8 none w r d l e s:=by
 have o:=h.lt;have k:w.heap.size≠r:=by omega
 go_enter func142,ntmps142;go_wp2_with (first|(go_at_call 179;refine(mO _ r d l rest (by exact h.below (by go_grown)) n).mono ?_;rintro e p ⟨rfl,c⟩;have b:=Pc zO c;have i:=(OZ.new w _ _).below c;have f:=h.below b)|(go_at_call 143;refine(PM _ r d l rest 1 (by exact f.below (by go_grown)) n (by decide)).mono ?_;rintro e t ⟨rfl,m,a⟩;have g:=(i.below zO).but a k;obtain⟨j,q⟩:=g.rules))
 have u:=(Pm.of b).trans (((Pm.refl r p).alloc _).trans a);exact zJ (v:=.tuple #[.agg #[.bool false,.string ByteArray.empty,.slice none 0 0],.bool false]) (by simp[results,results142,go_sem,j];rfl) rfl ⟨(by repeat'(first|with_reducible(first|apply xR|assumption|apply xN|apply xA|apply xD|apply xS|apply xT)|go_size)),rfl⟩
theorem EG(w:World)(r:Nat)(g:Value)(l rest:List Pd)(h:Rd w r g l rest)(z:l.length<=500)(K:Pw rest=1)(T:Pw rest.tail≠4):
  Calls prog 142 #[.pointer (some ⟨r,0,none⟩)] w fun e y=>l8 (some (⟨false,(rest.headD (0,ByteArray.empty)).2,[]⟩,rest.tail)) w r g l e y:=by
 have O:=h.lt;have k:w.heap.size≠r:=by omega
 generalize Q:(rest.headD (0,ByteArray.empty)).2=t;have P:=OY Q;have V:=OY K;have G:Hid (∀W,Rd W r g l rest->Calls prog 179 #[.pointer (some ⟨r,0,none⟩)] W fun e y=>e=.returned (.agg #[.int .i64 1,.string t])/\Below W.heap.size W y):=fun W X=>by
  have:=mO W r g l rest X z;rw[K,Hid.out P] at this;exact this
 have S:=OY T;go_enter func142,ntmps142;go_wp2_with (first|(go_at_call 179;refine(Hid.out G _ (by exact h.below (by go_grown))).mono ?_;rintro e u ⟨rfl,o⟩;have q:=Pc zO o;have j:=(OZ.new w _ _).below o;have R:=j.lt;have B:=h.below q;have H:r<u.heap.size:=(by omega);have c:u.heap.size≠r:=(by omega))|(go_at_call 143;have n:=p;refine(lX _ r g l rest.tail 4 n z (by decide) S).mono ?_;rintro e w3 ⟨rfl,m,b⟩;have i:=d.but b k;have s:=f.but b c;clear E A F x;obtain⟨D,ab⟩:=i.rules;obtain⟨Z,N⟩:=s.rules;have aa:=i.lt;have I:=s.lt;have M:=m.lt;have U:=C.trans b;clear n)|(go_at_call 143;have n:=B;refine(jU _ r g l rest 1 (by exact n.below (by go_grown)) z (by decide) V).mono ?_;rintro e w2 ⟨rfl,p,a⟩;have d:=(j.below zO).but a k;have f:=(OZ.new u _ _).but a c;obtain⟨E,A⟩:=d.rules;obtain⟨F,x⟩:=f.rules;have Y:=d.lt;have J:=f.lt;have L:=p.lt;have C:=(Pm.of q).trans (((Pm.refl r u).alloc _).trans a);clear n))
 exact zJ (v:=.tuple #[.agg #[.bool false,.string t,.slice none 0 0],.bool true]) (by simp[results,results142,go_sem,D]) rfl ⟨(by repeat'(first|with_reducible(first|apply xR|assumption|apply xN|apply xA|apply xD|apply xS|apply xT)|go_size)),_,rfl,Pg.nil _,h.keep m (by go_grown)⟩
theorem Lg(w:World)(r:Nat)(k:Value)(l rest:List Pd)(h:Rd w r k l rest)(z:l.length<=500)(T:Pw rest=1)(h4:Pw rest.tail=4)(X:yd rest.tail.tail=none):
  Calls prog 142 #[.pointer (some ⟨r,0,none⟩)] w fun e D=>l8 none w r k l e D:=by
 have Y:=h.lt;have i:w.heap.size≠r:=by omega
 obtain⟨t,HT⟩:∃t,Hid ((rest.headD (0,ByteArray.empty)).2=t):=⟨_,rfl⟩;have H1:=OY T;have N:Hid (∀W,Rd W r k l rest->Calls prog 179 #[.pointer (some ⟨r,0,none⟩)] W fun e D=>e=.returned (.agg #[.int .i64 1,.string t])/\Below W.heap.size W D):=fun W hW=>by
  have:=mO W r k l rest hW z;rw[T,Hid.out HT] at this;exact this
 have H4:=OY h4;have Z:=OY X;go_enter func142,ntmps142;go_wp2_with (first|(go_at_call 179;refine(Hid.out N _ (by exact h.below (by go_grown))).mono ?_;rintro e A ⟨rfl,q⟩;have y:=Pc zO q;have n:=(OZ.new w _ _).below q;have aa:=n.lt;have H:=h.below y;have P:r<A.heap.size:=(by omega);have d:A.heap.size≠r:=(by omega))|(go_at_call 180;refine(JP _ r k l rest.tail.tail o z Z).mono ?_;rintro e w4 ⟨rfl,c⟩;have u:=f.but c i;have x:=m.but c d;clear K O J B;obtain⟨F,ae⟩:=u.rules;obtain⟨ab,ah⟩:=x.rules;have ac:=u.lt;have Q:=x.lt;have ad:=E.trans c)|(go_at_call 143;have p:=s;refine(jU _ r k l rest.tail 4 p z (by decide) H4).mono ?_;rintro e w3 ⟨rfl,o,b⟩;have f:=g.but b i;have m:=j.but b d;clear L G M C;obtain⟨K,O⟩:=f.rules;obtain⟨J,B⟩:=m.rules;have ag:=f.lt;have R:=m.lt;have V:=o.lt;have E:=I.trans b;clear p)|(go_at_call 143;have p:=H;refine(jU _ r k l rest 1 (by exact p.below (by go_grown)) z (by decide) H1).mono ?_;rintro e w2 ⟨rfl,s,a⟩;have g:=(n.below zO).but a i;have j:=(OZ.new A _ _).but a d;obtain⟨L,G⟩:=g.rules;obtain⟨M,C⟩:=j.rules;have af:=g.lt;have S:=j.lt;have U:=s.lt;have I:=(Pm.of y).trans (((Pm.refl r A).alloc _).trans a);clear p))
 exact zJ (v:=.tuple #[.agg #[.bool false,.string ByteArray.empty,.slice none 0 0],.bool false]) (by simp[results,results142,go_sem,F];rfl) rfl ⟨(by repeat'(first|with_reducible(first|apply xR|assumption|apply xN|apply xA|apply xD|apply xS|apply xT)|go_size)),rfl⟩
theorem JL(w:World)(r:Nat)(j:Value)(l rest r2:List Pd)(ts:List ByteArray)(h:Rd w r j l rest)(x:l.length<=500)(h1:Pw rest=1)(h4:Pw rest.tail=4)(h5:yd rest.tail.tail=some (ts,r2))(h6:Pw r2≠5):
  Calls prog 142 #[.pointer (some ⟨r,0,none⟩)] w fun e H=>l8 none w r j l e H:=by
 have ar:=h.lt;have g:w.heap.size≠r:=by omega
 obtain⟨t,HT⟩:∃t,Hid ((rest.headD (0,ByteArray.empty)).2=t):=⟨_,rfl⟩;have H1:=OY h1;have aa:Hid (∀W,Rd W r j l rest->Calls prog 179 #[.pointer (some ⟨r,0,none⟩)] W fun e H=>e=.returned (.agg #[.int .i64 1,.string t])/\Below W.heap.size W H):=fun W hW=>by
  have:=mO W r j l rest hW x;rw[h1,Hid.out HT] at this;exact this
 have H4:=OY h4;have H5:=OY h5;have H6:=OY h6;go_enter func142,ntmps142;go_wp2_with (first|(go_at_call 179;refine(Hid.out aa _ (by exact h.below (by go_grown))).mono ?_;rintro e F ⟨rfl,D⟩;have s:=Pc zO D;have z:=(OZ.new w _ _).below D;have an:=z.lt;have K:=h.below s;have ai:r<F.heap.size:=(by omega);have f:F.heap.size≠r:=(by omega))|(go_at_call 180;refine(AC _ r j l rest.tail.tail r2 ts A x H5).mono ?_;rintro e w4 ⟨va,rfl,y,C,c⟩;obtain⟨ao,cp,rfl⟩:=y.qw;have o:=k.but c g;have p:=n.but c f;clear M R L T;obtain⟨I,J⟩:=o.rules;obtain⟨U,Q⟩:=p.rules;have ak:=o.lt;have aj:=p.lt;have ab:=C.lt;have V:=N.trans c)|(go_at_call 143;have i:=C;refine(lX _ r j l r2 5 i x (by decide) H6).mono ?_;rintro e w5 ⟨rfl,S,a⟩;have B:=o.but a g;have u:=p.but a f;clear I J U Q;obtain⟨X,al⟩:=B.rules;obtain⟨aw,am⟩:=u.rules;have ap:=B.lt;have ah:=u.lt;have ac:=S.lt;have aq:=V.trans a;clear i)|(go_at_call 143;have i:=E;refine(jU _ r j l rest.tail 4 i x (by decide) H4).mono ?_;rintro e w3 ⟨rfl,A,b⟩;have k:=q.but b g;have n:=m.but b f;clear O Y P G;obtain⟨M,R⟩:=k.rules;obtain⟨L,T⟩:=n.rules;have av:=k.lt;have af:=n.lt;have ae:=A.lt;have N:=Z.trans b;clear i)|(go_at_call 143;have i:=K;refine(jU _ r j l rest 1 (by exact i.below (by go_grown)) x (by decide) H1).mono ?_;rintro e w2 ⟨rfl,E,d⟩;have q:=(z.below zO).but d g;have m:=(OZ.new F _ _).but d f;obtain⟨O,Y⟩:=q.rules;obtain⟨P,G⟩:=m.rules;have au:=q.lt;have ad:=m.lt;have ag:=E.lt;have Z:=(Pm.of s).trans (((Pm.refl r F).alloc _).trans d);clear i))
 exact zJ (v:=.tuple #[.agg #[.bool false,.string ByteArray.empty,.slice none 0 0],.bool false]) (by simp[results,results142,go_sem,X];rfl) rfl ⟨(by repeat'(first|with_reducible(first|apply xR|assumption|apply xN|apply xA|apply xD|apply xS|apply xT)|go_size)),rfl⟩
theorem Hm(w:World)(r:Nat)(k:Value)(l rest r2:List Pd)(ts:List ByteArray)(h:Rd w r k l rest)(B:l.length<=500)(h1:Pw rest=1)(h4:Pw rest.tail=4)(h5:yd rest.tail.tail=some (ts,r2))(h6:Pw r2=5):
  Calls prog 142 #[.pointer (some ⟨r,0,none⟩)] w fun e J=>l8 (some (⟨false,(rest.headD (0,ByteArray.empty)).2,ts⟩,r2.tail)) w r k l e J:=by
 have av:=h.lt;have g:w.heap.size≠r:=by omega
 generalize ht:(rest.headD (0,ByteArray.empty)).2=t;have HT:=OY ht;have H1:=OY h1;have ac:Hid (∀W,Rd W r k l rest->Calls prog 179 #[.pointer (some ⟨r,0,none⟩)] W fun e J=>e=.returned (.agg #[.int .i64 1,.string t])/\Below W.heap.size W J):=fun W hW=>by
  have:=mO W r k l rest hW B;rw[h1,Hid.out HT] at this;exact this
 have H4:=OY h4;have H5:=OY h5;have H6:=OY h6;go_enter func142,ntmps142;go_wp2_with (first|(go_at_call 179;refine(Hid.out ac _ (by exact h.below (by go_grown))).mono ?_;rintro e H ⟨rfl,F⟩;have y:=Pc zO F;have C:=(OZ.new w _ _).below F;have aq:=C.lt;have M:=h.below y;have ak:r<H.heap.size:=(by omega);have f:H.heap.size≠r:=(by omega))|(go_at_call 180;refine(AC _ r k l rest.tail.tail r2 ts D B H5).mono ?_;rintro e w4 ⟨va,rfl,j,q,c⟩;obtain⟨ao,cp,rfl⟩:=j.qw;have s:=m.but c g;have u:=o.but c f;clear O U N V;obtain⟨K,L⟩:=s.rules;obtain⟨X,T⟩:=u.rules;have am:=s.lt;have al:=u.lt;have ad:=q.lt;have Y:=A.trans c)|(go_at_call 143;have i:=q;refine(jU _ r k l r2 5 i B (by decide) H6).mono ?_;rintro e w5 ⟨rfl,E,a⟩;have p:=s.but a g;have z:=u.but a f;clear K L X T;obtain⟨Z,an⟩:=p.rules;obtain⟨ay,ap⟩:=z.rules;have ar:=p.lt;have aj:=z.lt;have ae:=E.lt;have au:=Y.trans a;clear i)|(go_at_call 143;have i:=G;refine(jU _ r k l rest.tail 4 i B (by decide) H4).mono ?_;rintro e w3 ⟨rfl,D,b⟩;have m:=x.but b g;have o:=n.but b f;clear P aa R I;obtain⟨O,U⟩:=m.rules;obtain⟨N,V⟩:=o.rules;have ax:=m.lt;have ah:=o.lt;have ag:=D.lt;have A:=ab.trans b;clear i)|(go_at_call 143;have i:=M;refine(jU _ r k l rest 1 (by exact i.below (by go_grown)) B (by decide) H1).mono ?_;rintro e w2 ⟨rfl,G,d⟩;have x:=(C.below zO).but d g;have n:=(OZ.new H _ _).but d f;obtain⟨P,aa⟩:=x.rules;obtain⟨R,I⟩:=n.rules;have aw:=x.lt;have af:=n.lt;have ai:=G.lt;have ab:=(Pm.of y).trans (((Pm.refl r H).alloc _).trans d);clear i))
 obtain⟨c4,f4,Q⟩:=q.cell;have S:=j.but a Q (by decide);exact zJ (v:=.tuple #[.agg #[.bool false,.string t,.slice ao ts.length cp],.bool true]) (by simp[results,results142,go_sem,Z]) rfl ⟨(by repeat'(first|with_reducible(first|apply xR|assumption|apply xN|apply xA|apply xD|apply xS|apply xT)|go_size)),_,rfl,(S.low A.size).but (r:=w.heap.size) (by repeat'(first|with_reducible(first|apply xR|assumption|apply xN|apply xA|apply xD|apply xS|apply xT)|go_size)) p (by decide),h.keep E (by go_grown)⟩
theorem By(w:World)(r:Nat)(a:Value)(l rest:List Pd)(h:Rd w r a l rest)(d:l.length<=500):
  Calls prog 142 #[.pointer (some ⟨r,0,none⟩)] w fun e k=>l8 (yV rest) w r a l e k:=by
 unfold yV;split
 ·rename_i b;split
  ·rename_i c;split
   ·rename_i f;exact Lg w r a l rest h d b c f
   ·rename_i i j f;split
    ·rename_i g;exact Hm w r a l rest j i h d b c f g
    ·rename_i g;exact JL w r a l rest j i h d b c f g
  ·rename_i c;exact EG w r a l rest h d b c
 ·rename_i b;exact J9 w r a l rest h d (by simpa using b)
theorem DA(w:World)(r:Nat)(a:Value)(l rest:List Pd)(h:Rd w r a l rest)(g:l.length<=500)(d:yV rest=none):
  Calls prog 142 #[.pointer (some ⟨r,0,none⟩)] w fun e c=>e=.returned (.tuple #[.agg #[.bool false,.string ByteArray.empty,.slice none 0 0],.bool false])/\Pm r w c:=by
 refine(By w r a l rest h g).mono ?_;rintro e c ⟨f,b⟩;rw[d] at b;exact⟨b,f⟩
theorem nL(w:World)(r:Nat)(f:Value)(l rest r2:List Pd)(a:zj)(h:Rd w r f l rest)(m:l.length<=500)(j:yV rest=some (a,r2)):
  Calls prog 142 #[.pointer (some ⟨r,0,none⟩)] w fun e d=>∃g,e=.returned (.tuple #[.agg #[.bool a.neg,.string a.pred,g],.bool true])/\Pg w.heap.size d g a.args/\Rd d r f l r2/\Pm r w d:=by
 refine(By w r f l rest h m).mono ?_;rintro e d ⟨k,i⟩;rw[j] at i;obtain⟨v,a,b,c⟩:=i;exact⟨v,a,b,c,k⟩
theorem Dx(b:Bool)(w:World)(r:Nat)(g:Value)(l rest a:List Pd)(h:Rd w r g l rest)(z:l.length<=500)
  (i:∀W,Rd W r g l rest->Calls prog 143 #[.pointer (some ⟨r,0,none⟩),.int .i64 8] W fun e f=>e=.returned (.bool b)/\Rd f r g l a/\Pm r W f) (u:yV a=none):
  Calls prog 181 #[.pointer (some ⟨r,0,none⟩)] w fun e f=>l8 none w r g l e f:=by
 have x:=h.lt;have k:w.heap.size≠r:=by omega
 have o:Hid (∀W,Rd W r g l rest->Calls prog 143 #[.pointer (some ⟨r,0,none⟩),.int .i64 8] W fun e f=>e=.returned (.bool b)/\Rd f r g l a/\Pm r W f):=i;clear i;have C:Hid (yV a=none):=u;clear u;go_enter func181,ntmps181;go_wp2_with (first|(go_at_call 143;refine(Hid.out o _ (by exact h.below (by go_grown))).mono ?_;rintro e E ⟨rfl,m,d⟩;have j:=(OZ.new w _ _).but d k;have y:=j.lt;have t:=m.lt;have s:=((Pm.refl r w).alloc _).trans d)|(go_at_call 142;refine(DA _ r g l a m z C).mono ?_;rintro e D ⟨rfl,c⟩;have n:=j.but c k;obtain⟨q,A,p⟩:=n.boxed;have B:=s.trans c))
 exact zJ (v:=.tuple #[.agg #[.bool false,.string ByteArray.empty,.slice none 0 0],.bool false]) (by simp[results,results181,go_sem,q,p];rfl) rfl ⟨(by repeat'(first|with_reducible(first|apply xR|assumption|apply xN|apply xA|apply xD|apply xS|apply xT)|go_size)),rfl⟩
theorem DL(b:Bool)(w:World)(r:Nat)(j:Value)(l rest c r2:List Pd)(a:zj)(h:Rd w r j l rest)(E:l.length<=500)
  (k:∀W,Rd W r j l rest->Calls prog 143 #[.pointer (some ⟨r,0,none⟩),.int .i64 8] W fun e i=>e=.returned (.bool b)/\Rd i r j l c/\Pm r W i) (z:yV c=some (a,r2)):
  Calls prog 181 #[.pointer (some ⟨r,0,none⟩)] w fun e i=>l8 (some ({a with neg:=b},r2)) w r j l e i:=by
 have A:=h.lt;have o:w.heap.size≠r:=by omega
 have t:Hid (∀W,Rd W r j l rest->Calls prog 143 #[.pointer (some ⟨r,0,none⟩),.int .i64 8] W fun e i=>e=.returned (.bool b)/\Rd i r j l c/\Pm r W i):=k;clear k;have H:Hid (yV c=some (a,r2)):=z;clear z;go_enter func181,ntmps181;go_wp2_with (first|(go_at_call 143;refine(Hid.out t _ (by exact h.below (by go_grown))).mono ?_;rintro e K ⟨rfl,p,f⟩;have n:=(OZ.new w _ _).but f o;have C:=n.lt;have y:=p.lt;have q:=((Pm.refl r w).alloc _).trans f)|(go_at_call 142;refine(nL _ r j l c r2 a p E H).mono ?_;rintro e I ⟨J,rfl,g,s,d⟩;obtain⟨B,D,rfl⟩:=g.qw;have m:=n.but d o;obtain⟨x,F,u⟩:=m.boxed;have G:=q.trans d))
 exact zJ (v:=.tuple #[.agg #[.bool b,.string a.pred,.slice B a.args.length D],.bool true]) (by simp[results,results181,go_sem,x,u]) rfl ⟨(by repeat'(first|with_reducible(first|apply xR|assumption|apply xN|apply xA|apply xD|apply xS|apply xT)|go_size)),_,rfl,(g.low q.size).but (r:=w.heap.size) (by repeat'(first|with_reducible(first|apply xR|assumption|apply xN|apply xA|apply xD|apply xS|apply xT)|go_size)) m (by decide),h.keep s (by go_grown)⟩
theorem Mf{rest r2:List Pd}{a:zj}(h:yV rest=some (a,r2)):a.neg=false:=by
 unfold yV at h
 (repeat' split at h)<;>first|(cases h;done)|(simp at h;obtain⟨rfl,_⟩:=h;rfl)
theorem oF(w:World)(r:Nat)(b:Value)(l rest:List Pd)(h:Rd w r b l rest)(c:l.length<=500):
  Calls prog 181 #[.pointer (some ⟨r,0,none⟩)] w fun e j=>l8 (uy rest) w r b l e j:=by
 unfold uy;split
 ·rename_i g;cases f:yV rest.tail with
  |none=>exact Dx true w r b l rest rest.tail h c (fun W d=>jU W r b l rest 8 d c (by decide) g) f
  |some z=>obtain⟨a,i⟩:=z;exact DL true w r b l rest rest.tail i a h c (fun W d=>jU W r b l rest 8 d c (by decide) g) f
 ·rename_i g;cases f:yV rest with
  |none=>exact Dx false w r b l rest rest h c (fun W d=>lX W r b l rest 8 d c (by decide) g) f
  |some z=>
   obtain⟨a,i⟩:=z;have:=DL false w r b l rest rest i a h c (fun W d=>lX W r b l rest 8 d c (by decide) g) f;rwa [show({a with neg:=false}:zj)=a by rw[←Mf f]] at this
end
section
open Go.Proofs.Tryz
variable {lo:Nat}{v:Value}{n:Nat}{w:World}{r r2:List Pd}{a:zj}{o:Option (List zj×List Pd)}
theorem kM{f A:World}{b z:Nat}{e y:TypeId}{s D:Nat}{B:Value}{C:Nat}{G d:List Value}(I:f.ownsRow b e s v n G)(i:e≠y)(h:f.ownsRow z y D B C d)
  (H:∀k,k<f.heap.size->some k≠v.ownBlock->A.heap[k]?=f.heap[k]?):A.ownsRow z y D B C d:=by
 obtain⟨J,q⟩:=h;refine⟨J,?_⟩;rcases q with q|⟨g,m,x,t,L,l,K⟩
 ·exact zf q
 ·refine ze ⟨g,m,x,t,L,?_,K⟩;rw[H g (kD.1 l).1 ?_]
  ·exact l
  ·intro j;obtain⟨_,⟨p,_⟩|⟨M,E,F,u,_,c,_⟩⟩:=I
   ·subst p;cases j
   ·subst u;simp only[Value.ownBlock,zs] at j;subst j;rw[l] at c;simp at c;exact i c.2.symm
def uA(lo:Nat)(w:World):List zj->List Value->Prop
 |[],b=>b=[]
 |a::d,b=>∃c r,b=.bool a.neg::.string a.pred::c::r/\Pg lo w c a.args/\uA lo w d r
theorem uA.snoc{w:World}{a:zj}{b:Value}(e:Pg lo w b a.args):∀{c:List zj} {d:List Value},uA lo w c d->uA lo w (c++[a]) (d++[.bool a.neg,.string a.pred,b])
 |[],_,h=>by simp only[uA] at h;subst h;exact⟨b,[],rfl,e,rfl⟩
 |_::c,_,h=>by obtain⟨v,r,rfl,g,f⟩:=h;exact⟨v,r++[.bool a.neg,.string a.pred,b],rfl,g,uA.snoc e f⟩
theorem uA.mono{w f:World}(e:∀d l,Pg lo w d l->Pg lo f d l):∀{b:List zj} {c:List Value},uA lo w b c->uA lo f b c
 |[],_,h=>h
 |_::b,_,h=>by obtain⟨v,r,rfl,i,g⟩:=h;exact⟨v,r,rfl,e _ _ i,uA.mono e g⟩
theorem uA.at{w:World}:∀{c:List zj} {d:List Value} (i:Nat) (a:zj),uA lo w c d->c[i]?=some a->∃e,d[i*3]?=some (.bool a.neg)/\d[i*3+1]?=some (.string a.pred)/\d[i*3+2]?=some e/\Pg lo w e a.args
 |[],_,i,a,_,b=>by simp at b
 |_::c,_,0,a,h,b=>by obtain⟨v,r,rfl,g,f⟩:=h;simp at b;subst b;exact⟨v,rfl,rfl,rfl,g⟩
 |_::c,_,i+1,a,h,b=>by
  obtain⟨v,r,rfl,g,f⟩:=h;obtain⟨e,m,k,j,l⟩:=uA.at i a f (by simpa using b);refine⟨e,?_,?_,?_,l⟩
  ·rw[show(i+1)*3=i*3+1+1+1 from by omega];simpa using m
  ·rw[show(i+1)*3+1=i*3+1+1+1+1 from by omega];simpa using k
  ·rw[show(i+1)*3+2=i*3+2+1+1+1 from by omega];simpa using j
def PB(lo:Nat)(w:World)(v:Value)(b:List zj):Prop:=∃c,w.ownsRow lo 90 3 v b.length c/\uA lo w b c
theorem uA.low{a b:Nat}{w:World}(c:a<=b):∀{d:List zj} {e:List Value},uA b w d e->uA a w d e
 |[],_,h=>h
 |_::d,_,h=>by obtain⟨v,r,rfl,g,f⟩:=h;exact⟨v,r,rfl,g.low c,uA.low c f⟩
theorem PB.low{a b:Nat}{w:World}{v:Value}{l:List zj}(h:PB b w v l)(c:a<=b):PB a w v l:=by obtain⟨e,h,d⟩:=h;exact⟨e,yr h c,d.low c⟩
theorem PB.nil(w:World):PB lo w (.slice none 0 0) []:=⟨[],yK _ _ _ _,rfl⟩
theorem PB.qw{l:List zj}(h:PB lo w v l):∃c b,v=.slice c l.length b:=by obtain⟨d,h,_⟩:=h;exact zq h
theorem PB.below{w c:World}{v:Value}{l:List zj}(h:PB lo w v l)(b:Below w.heap.size w c):PB lo c v l:=by
 obtain⟨e,h,d⟩:=h;exact⟨e,zE h b,d.mono fun _ _ k=>k.below b⟩
theorem PB.but{r:Nat}{w g:World}{v:Value}{l:List zj}(h:PB lo w v l)(d:Pm r w g){c:Array Value}{T:TypeId}{f:Nat×Nat}(e:w.heap[r]?=some (.cells c T f))(j:T≠9)(b:T≠90):PB lo g v l:=by
 obtain⟨i,h,m⟩:=h;exact⟨i,xQ h d e b,m.mono fun _ _ k=>k.but d e j⟩
def xM:Nat->List Pd->Option (List zj×List Pd)
 |0,_=>none
 |n+1,r=>match uy r with
  |none=>none
  |some (a,r2)=>if Pw r2=6 then(xM n r2.tail).map fun z=>(a::z.1,z.2) else some ([a],r2)
theorem pu(h:uy r=none):xM (n+1) r=none:=by simp[xM,h]
theorem pe(h:uy r=some (a,r2))(b:Pw r2=6):xM (n+1) r=(xM n r2.tail).map fun z=>(a::z.1,z.2):=by simp[xM,h,b]
theorem pf(h:uy r=some (a,r2))(b:Pw r2≠6):xM (n+1) r=some ([a],r2):=by simp[xM,h,b]
theorem DM:∀(r:List Pd) {ts:List ByteArray} {r2:List Pd},yd r=some (ts,r2)->r2.length<r.length
 |[],_,_,h=>by simp[yd] at h
 |[x],ts,r2,h=>by
  simp only[yd] at h;split at h<;>simp at h
  obtain⟨_,rfl⟩:=h;simp
 |x::y::r,ts,r2,h=>by
  simp only[yd] at h;split at h
  ·split at h
   ·cases b:yd r with
    |none=>rw[b] at h;simp at h
    |some z=>
     obtain⟨c,d⟩:=z;rw[b] at h;simp at h;have:=DM r b;obtain⟨_,rfl⟩:=h;simp;omega
   ·simp at h;obtain⟨_,rfl⟩:=h;simp
  ·simp at h
theorem rF(h:yV r=some (a,r2)):r2.length<r.length:=by
 cases r with
 |nil=>simp[yV,Pw] at h
 |cons x r=>
  unfold yV at h;split at h
  ·split at h
   ·split at h
    ·simp at h
    ·rename_i d c b;have:=DM _ b;split at h<;>simp at h
     obtain⟨_,rfl⟩:=h;simp at this ⊢;omega
   ·simp at h;obtain⟨_,rfl⟩:=h;simp
  ·simp at h
theorem Cy(h:uy r=some (a,r2)):r2.length<r.length:=by
 unfold uy at h;split at h
 ·cases b:yV r.tail with
  |none=>rw[b] at h;simp at h
  |some z=>
   obtain⟨d,c⟩:=z;rw[b] at h;simp at h;have:=rF b;obtain⟨_,rfl⟩:=h;simp at this;omega
 ·exact rF h
theorem M2(w:World)(r:Nat)(b:Value)(l rest:List Pd)(h:Rd w r b l rest)(i:l.length<=500)(f:uy rest=none):
  Calls prog 181 #[.pointer (some ⟨r,0,none⟩)] w fun e d=>e=.returned (.tuple #[.agg #[.bool false,.string ByteArray.empty,.slice none 0 0],.bool false])/\Pm r w d:=by
 refine(oF w r b l rest h i).mono ?_;rintro e d ⟨g,c⟩;rw[f] at c;exact⟨c,g⟩
theorem ID(w:World)(r:Nat)(f:Value)(l rest r2:List Pd)(a:zj)(h:Rd w r f l rest)(m:l.length<=500)(j:uy rest=some (a,r2)):
  Calls prog 181 #[.pointer (some ⟨r,0,none⟩)] w fun e d=>∃g,e=.returned (.tuple #[.agg #[.bool a.neg,.string a.pred,g],.bool true])/\Pg w.heap.size d g a.args/\Rd d r f l r2/\Pm r w d:=by
 refine(oF w r f l rest h m).mono ?_;rintro e d ⟨k,i⟩;rw[j] at i;obtain⟨v,a,b,c⟩:=i;exact⟨v,a,b,c,k⟩
theorem OR:(prog.info? 90).map (fun i=>(i.zero,i.size,i.bytes))=some (some (.agg #[.bool false,.string ByteArray.empty,.slice none 0 0]),3,48):=by kernel_rfl
def ei(o:Option (List zj×List Pd))(w:World)(r:Nat)(d:Value)(l:List Pd)(e:Ending)(b:World):Prop:=
 Pm r w b/\match o with
  |none=>e=.returned (.tuple #[.slice none 0 0,.bool false])
  |some (c,r2)=>∃v,e=.returned (.tuple #[v,.bool true])/\PB w.heap.size b v c/\Rd b r d l r2
theorem JY{b:World}{r:Nat}{d:Value}{l:List Pd}(h:Hid (o=none))(e:Pm r w b):ei o w r d l (.returned (.tuple #[.slice none 0 0,.bool false])) b:=by
 have c:o=none:=h;subst c;exact⟨e,rfl⟩
theorem Od{b:World}{r:Nat}{d:Value}{l:List Pd}{c:List zj}(h:Hid (o=some (c,r2)))(f:Pm r w b)(g:PB w.heap.size b v c)(i:Rd b r d l r2):
  ei o w r d l (.returned (.tuple #[v,.bool true])) b:=by
 have e:o=some (c,r2):=h;subst e;exact⟨f,v,rfl,g,i⟩
theorem oN(w:World)(r:Nat)(G:Value)(l rest:List Pd)(h:Rd w r G l rest)(hl:l.length<=500)(H:Nat)(ah:rest.length<H):
  Calls prog 144 #[.pointer (some ⟨r,0,none⟩)] w fun e w'=>ei (xM H rest) w r G l e w':=by
 obtain⟨i0,hi,Z,T,X⟩:=info_parts OR;have aj:=h.lt;go_enter func144,ntmps144;go_wp2;go_loopg [4,5] (rest.length) (fun n v t wr=>∃(i:List zj) (c:List Pd) (more:Bool) (m:Nat) (W:List Value),t=.bool more/\c.length<=n/\c.length<m/\c.length+i.length<=rest.length ∧
   wr.ownsRow w.heap.size 90 3 v i.length W/\uA w.heap.size wr i W/\Rd wr r G l c/\Pm r w wr ∧
   Hid (more=true->xM H rest=(xM m c).map fun z=>(i++z.1,z.2))/\Hid (more=false->xM H rest=some (i,c)))
 case atStart=>exact⟨[],rest,true,H,[],rfl,zh _,ah,by simp,yK _ _ _ _,rfl,h,Pm.refl _ _,(fun _=>by simp),(fun h=>by cases h)⟩
 case round=>
  obtain⟨i,c,more,m,W,rfl,hn,hm,am,B,M,s,j,L,S⟩:=hrel;have ak:rest.length<=l.length:=by
   obtain⟨p,_,hp,_⟩:=h.box;rw[hp];simp
  have ae:=j.size;obtain⟨c0,f0,g⟩:=s.cell;cases more with
  |false=>
   have E:=OY (S rfl);clear L S;go_wp2;go_ret2
   exact Od E j ⟨_,B,M⟩ s
  |true=>
   obtain⟨m,rfl⟩:∃m',m=m'+1:=⟨m-1,by omega⟩;have HC:=OY g;cases F:uy c with
   |none=>
    have E:Hid (xM H rest=none):=by rw[Hid.out L rfl,pu F];simp[Hid]
    have R:=OY F;clear L S F;go_wp2_with (first|(go_at_call 181;refine(M2 _ r G l c s hl R).mono ?_;rintro e w1 ⟨rfl,b⟩;have u:=j.trans b;have U:=u.size))
    go_ret2
    exact JY E (by repeat'(first|with_reducible(first|apply xR|assumption|apply xN|apply xA|apply xD|apply xS|apply xT)|go_size))
   |some z=>
    obtain⟨a,r2⟩:=z;have R:=OY F;have al:=Cy F;have E:=OY (L rfl);clear L S F;go_wp2_with (first|(go_at_call 181;refine(ID _ r G l c r2 a s hl R).mono ?_;rintro e w1 ⟨va,rfl,A,ad,b⟩;obtain⟨ao,cp,rfl⟩:=A.qw;have u:=j.trans b;have U:=u.size;have C:=xQ B b g (by decide);have P:=M.mono fun _ _ k=>k.but b g (by decide))|(at_builtin;refine jY w1 _ _ _ rfl (.tmp 16) (.tmp 18) 91 rfl w.heap.size 90 i0 _ 3 48 underlying91 hi Z T X rfl (by decide) _ _ _ rfl C zO _ _ rfl (by simp) rfl (by simp[Value.oneCell']) (by omega) (by omega) (by omega) ?_;intro v' w2 ac N af ab Q ai;clear af ab;have y:=Rd.keep h ad N;have D:=u.onto N;have aa:Pg w.heap.size w2 (Value.slice ao a.args.length cp) a.args:=yr (kM C (by decide) A Q) ae;have O:=P.mono fun _ _ k=>kM C (by decide) k Q;have I:=PM w2 r G l r2 6 y hl (by decide))|(go_at_call 143;refine I.mono ?_;rintro e w3 ⟨rfl,J,f⟩;clear I))
    obtain⟨c3,f3,d⟩:=y.cell;have Y:=xQ ac f d (by decide);have V:=aa.but f d (by decide);have K:=O.mono fun _ _ k=>k.but f d (by decide);have ag:(if Pw r2=6 then r2.tail else r2).length<=r2.length:=by split<;>simp
    have x:uy c=some (a,r2):=R;go_roundg r2.length
    case measure=>omega
    case rel=>
     refine⟨i++[a],(if Pw r2=6 then r2.tail else r2),(Pw r2 == 6),m,_,rfl,ag,by omega,by simp;omega,by rw[yz];exact Y,K.snoc V,J,D.trans f,?_,?_⟩
     ·intro h6;have q:Pw r2=6:=by simpa using h6
      rw[zb q,Hid.out E,pe x q,BI]
     ·intro h6;have q:Pw r2≠6:=by simpa using h6
      rw[za q,Hid.out E,pf x q];simp
end
section
open Go.Proofs.Tryz
variable {lo:Nat}
def uR(n:Nat)(r:List Pd):Option (zc×List Pd):=
 match yV r with
 |none=>none
 |some (a,c)=>
  if Pw c=9 then
   match xM n c.tail with
   |none=>none
   |some (b,d)=>if Pw d=7 then some (⟨a,b⟩,d.tail) else none
  else if Pw c=7 then some (⟨a,[]⟩,c.tail) else none
theorem Jh(w:World)(r:Nat)(c:Value)(l rest:List Pd)(h:Rd w r c l rest)(j:l.length<=500)(a:Nat)(b:rest.length<a)(g:xM a rest=none):
  Calls prog 144 #[.pointer (some ⟨r,0,none⟩)] w fun e f=>e=.returned (.tuple #[.slice none 0 0,.bool false])/\Pm r w f:=by
 refine(oN w r c l rest h j a b).mono ?_;rintro e f ⟨i,d⟩;rw[g] at d;exact⟨d,i⟩
theorem Bp(w:World)(r:Nat)(f:Value)(l rest r2:List Pd)(b:List zj)(h:Rd w r f l rest)(n:l.length<=500)(g:Nat)(i:rest.length<g)(k:xM g rest=some (b,r2)):
  Calls prog 144 #[.pointer (some ⟨r,0,none⟩)] w fun e d=>∃v,e=.returned (.tuple #[v,.bool true])/\PB w.heap.size d v b/\Rd d r f l r2/\Pm r w d:=by
 refine(oN w r f l rest h n g i).mono ?_;rintro e d ⟨m,j⟩;rw[k] at j;obtain⟨v,a,b,c⟩:=j;exact⟨v,a,b,c,m⟩
def m4(o:Option (zc×List Pd))(w:World)(r:Nat)(f:Value)(l:List Pd)(e:Ending)(a:World):Prop:=
 Pm r w a/\match o with
  |none=>e=.returned (.tuple #[.agg #[.bool false,.string ByteArray.empty,.slice none 0 0,.slice none 0 0],.bool false])
  |some (c,g)=>∃d b,e=.returned (.tuple #[.agg #[.bool c.head.neg,.string c.head.pred,d,b],.bool true])/\Pg w.heap.size a d c.head.args/\PB w.heap.size a b c.body/\Rd a r f l g
theorem Kc(w:World)(r:Nat)(b:Value)(l rest:List Pd)(h:Rd w r b l rest)(p:l.length<=500)(o:yV rest=none):
  Calls prog 100 #[.pointer (some ⟨r,0,none⟩)] w fun e m=>m4 none w r b l e m:=by
 have n:=h.lt;have f:w.heap.size≠r:=by omega
 have j:=OY o;go_enter func100,ntmps100;go_wp2_with (first|(go_at_call 142;refine(DA _ r b l rest (by exact h.below (by go_grown)) p j).mono ?_;rintro e q ⟨rfl,a⟩;have d:=(OZ.new w _ _).but a f;obtain⟨c,k,g⟩:=d.boxed;have i:=((Pm.refl r w).alloc _).trans a))
 exact zJ (v:=.tuple #[.agg #[.bool false,.string ByteArray.empty,.slice none 0 0,.slice none 0 0],.bool false]) (by simp[results,results100,go_sem,c,g];rfl) rfl ⟨(by repeat'(first|with_reducible(first|apply xR|assumption|apply xN|apply xA|apply xD|apply xS|apply xT)|go_size)),rfl⟩
theorem Ka(w:World)(r:Nat)(y:Value)(l rest:List Pd)(h:Rd w r y l rest)(C:l.length<=500)(q:List Pd)(a:zj)(Z:yV rest=some (a,q))(h9:Pw q≠9)(V:Pw q≠7):
  Calls prog 100 #[.pointer (some ⟨r,0,none⟩)] w fun e T=>m4 none w r y l e T:=by
 have R:=h.lt;have k:w.heap.size≠r:=by omega
 have HA:=OY Z;have H9:=OY h9;have U:=OY V;go_enter func100,ntmps100;go_wp2_with (first|(go_at_call 142;refine(nL _ r y l rest q a (by exact h.below (by go_grown)) C HA).mono ?_;rintro e K ⟨va,rfl,x,o,g⟩;obtain⟨S,cp,rfl⟩:=x.qw;have t:=(OZ.new w _ _).but g k;have X:=t.lt;have L:=o.lt;have i:K.heap.size≠r:=(by omega);have J:=((Pm.refl r w).alloc _).trans g)|(go_at_call 143;have p:=u;refine(lX _ r y l q 7 p C (by decide) U).mono ?_;rintro e w3 ⟨rfl,B,c⟩;obtain⟨c7,f7,d⟩:=p.cell;have W:=D.but c d (by decide);have s:=j.but c k;have z:=n.but c i;clear H E I A;obtain⟨G,ad⟩:=s.rules;obtain⟨ab,Q⟩:=z.rules;have ac:=s.lt;have M:=z.lt;have P:=B.lt;have Y:=F.trans c;clear p d)|(go_at_call 143;have p:=o;refine(lX _ r y l q 9 (by exact p.below (by go_grown)) C (by decide) H9).mono ?_;rintro e w2 ⟨rfl,u,b⟩;have m:=(Pm.refl r K).alloc (Obj.cells #[.bool a.neg,.string a.pred,.slice S a.args.length cp] 90);obtain⟨c1,f1,f⟩:=o.cell;have D:=x.but (m.trans b) f (by decide);have j:=(t.below zO).but b k;have n:=(OZ.new K _ _).but b i;obtain⟨H,E⟩:=j.rules;obtain⟨I,A⟩:=n.rules;have aa:=j.lt;have N:=n.lt;have O:=u.lt;have F:=J.trans (m.trans b);clear p m f))
 exact zJ (v:=.tuple #[.agg #[.bool false,.string ByteArray.empty,.slice none 0 0,.slice none 0 0],.bool false]) (by simp[results,results100,go_sem,G];rfl) rfl ⟨(by repeat'(first|with_reducible(first|apply xR|assumption|apply xN|apply xA|apply xD|apply xS|apply xT)|go_size)),rfl⟩
theorem LA(w:World)(r:Nat)(z:Value)(l rest:List Pd)(h:Rd w r z l rest)(D:l.length<=500)(p:List Pd)(a:zj)(ha:yV rest=some (a,p))(h9:Pw p≠9)(X:Pw p=7):
  Calls prog 100 #[.pointer (some ⟨r,0,none⟩)] w fun e V=>m4 (some (⟨a,[]⟩,p.tail)) w r z l e V:=by
 have U:=h.lt;have m:w.heap.size≠r:=by omega
 have HA:=OY ha;have H9:=OY h9;have W:=OY X;go_enter func100,ntmps100;go_wp2_with (first|(go_at_call 142;refine(nL _ r z l rest p a (by exact h.below (by go_grown)) D HA).mono ?_;rintro e L ⟨va,rfl,y,q,g⟩;obtain⟨N,O,rfl⟩:=y.qw;have t:=(OZ.new w _ _).but g m;have Y:=t.lt;have M:=q.lt;have i:L.heap.size≠r:=(by omega);have K:=((Pm.refl r w).alloc _).trans g)|(go_at_call 143;have s:=x;refine(jU _ r z l p 7 s D (by decide) W).mono ?_;rintro e w3 ⟨rfl,u,c⟩;obtain⟨c7,f7,d⟩:=s.cell;have C:=E.but c d (by decide);have j:=k.but c m;have A:=o.but c i;clear I F J B;obtain⟨H,ad⟩:=j.rules;obtain⟨ab,T⟩:=A.rules;have ac:=j.lt;have P:=A.lt;have S:=u.lt;have Z:=G.trans c;clear s d)|(go_at_call 143;have s:=q;refine(lX _ r z l p 9 (by exact s.below (by go_grown)) D (by decide) H9).mono ?_;rintro e w2 ⟨rfl,x,b⟩;have n:=(Pm.refl r L).alloc (Obj.cells #[.bool a.neg,.string a.pred,.slice N a.args.length O] 90);obtain⟨c1,f1,f⟩:=q.cell;have E:=y.but (n.trans b) f (by decide);have k:=(t.below zO).but b m;have o:=(OZ.new L _ _).but b i;obtain⟨I,F⟩:=k.rules;obtain⟨J,B⟩:=o.rules;have aa:=k.lt;have Q:=o.lt;have R:=x.lt;have G:=K.trans (n.trans b);clear s n f))
 exact zJ (v:=.tuple #[.agg #[.bool a.neg,.string a.pred,.slice N a.args.length O,.slice none 0 0],.bool true]) (by simp[results,results100,go_sem,H]) rfl ⟨(by repeat'(first|with_reducible(first|apply xR|assumption|apply xN|apply xA|apply xD|apply xS|apply xT)|go_size)),_,_,rfl,(C.low (by first|(simp;done)|omega)).but (r:=w.heap.size) (by repeat'(first|with_reducible(first|apply xR|assumption|apply xN|apply xA|apply xD|apply xS|apply xT)|go_size)) j (by decide),PB.nil _,h.keep u (by go_grown)⟩
theorem KH(w:World)(r:Nat)(u:Value)(l rest:List Pd)(h:Rd w r u l rest)(z:l.length<=500)(n:List Pd)(a:zj)(C:Nat)(U:yV rest=some (a,n))(h9:Pw n=9)(N:n.tail.length<C)(hb:xM C n.tail=none):
  Calls prog 100 #[.pointer (some ⟨r,0,none⟩)] w fun e R=>m4 none w r u l e R:=by
 have P:=h.lt;have j:w.heap.size≠r:=by omega
 have HA:=OY U;have H9:=OY h9;have Z:=OY N;have HB:=OY hb;go_enter func100,ntmps100;go_wp2_with (first|(go_at_call 142;refine(nL _ r u l rest n a (by exact h.below (by go_grown)) z HA).mono ?_;rintro e H ⟨va,rfl,t,o,f⟩;obtain⟨Q,V,rfl⟩:=t.qw;have q:=(OZ.new w _ _).but f j;have S:=q.lt;have I:=o.lt;have g:H.heap.size≠r:=(by omega);have G:=((Pm.refl r w).alloc _).trans f)|(go_at_call 144;refine(Jh _ r u l n.tail s z C Z HB).mono ?_;rintro e w3 ⟨rfl,c⟩;have p:=i.but c j;have x:=m.but c g;clear E A F y;obtain⟨D,ab⟩:=p.rules;obtain⟨Y,O⟩:=x.rules;have aa:=p.lt;have K:=x.lt;have T:=B.trans c)|(go_at_call 143;have J:=o;refine(jU _ r u l n 9 (by exact J.below (by go_grown)) z (by decide) H9).mono ?_;rintro e w2 ⟨rfl,s,b⟩;have k:=(Pm.refl r H).alloc (Obj.cells #[.bool a.neg,.string a.pred,.slice Q a.args.length V] 90);obtain⟨c1,f1,d⟩:=o.cell;have W:=t.but (k.trans b) d (by decide);have i:=(q.below zO).but b j;have m:=(OZ.new H _ _).but b g;obtain⟨E,A⟩:=i.rules;obtain⟨F,y⟩:=m.rules;have X:=i.lt;have L:=m.lt;have M:=s.lt;have B:=G.trans (k.trans b);clear J k d))
 exact zJ (v:=.tuple #[.agg #[.bool false,.string ByteArray.empty,.slice none 0 0,.slice none 0 0],.bool false]) (by simp[results,results100,go_sem,D];rfl) rfl ⟨(by repeat'(first|with_reducible(first|apply xR|assumption|apply xN|apply xA|apply xD|apply xS|apply xT)|go_size)),rfl⟩
theorem Gy(w:World)(r:Nat)(A:Value)(l rest:List Pd)(h:Rd w r A l rest)(G:l.length<=500)(p r2:List Pd)(a:zj)(b:List zj)(X:Nat)(ha:yV rest=some (a,p))(h9:Pw p=9)(hn:p.tail.length<X)(hb:xM X p.tail=some (b,r2))(h7:Pw r2≠7):
  Calls prog 100 #[.pointer (some ⟨r,0,none⟩)] w fun e w'=>m4 none w r A l e w':=by
 have am:=h.lt;have n:w.heap.size≠r:=by omega
 have HA:=OY ha;have H9:=OY h9;have HN:=OY hn;have HB:=OY hb;have H7:=OY h7;go_enter func100,ntmps100;go_wp2_with (first|(go_at_call 142;refine(nL _ r A l rest p a (by exact h.below (by go_grown)) G HA).mono ?_;rintro e Y ⟨va,rfl,D,q,k⟩;obtain⟨ao,cp,rfl⟩:=D.qw;have B:=(OZ.new w _ _).but k n;have aj:=B.lt;have ae:=q.lt;have m:Y.heap.size≠r:=(by omega);have M:=((Pm.refl r w).alloc _).trans k)|(go_at_call 144;refine(Bp _ r A l p.tail r2 b y G X HN HB).mono ?_;rintro e w3 ⟨vb,rfl,Q,C,c⟩;obtain⟨ai,au,rfl⟩:=Q.qw;obtain⟨c3,f3,g⟩:=y.cell;have I:=O.but c g (by decide);have o:=x.but c n;have t:=s.but c m;clear P V S H;obtain⟨L,T⟩:=o.rules;obtain⟨K,U⟩:=t.rules;have ar:=o.lt;have ac:=t.lt;have ab:=C.lt;have N:=W.trans c;clear g)|(go_at_call 143;have z:=C;refine(lX _ r A l r2 7 z G (by decide) H7).mono ?_;rintro e w4 ⟨rfl,R,d⟩;obtain⟨c7,f7,i⟩:=z.cell;have ak:=I.but d i (by decide);have E:=o.but d n;have F:=t.but d m;clear L T K U;obtain⟨J,ah⟩:=E.rules;obtain⟨an,al⟩:=F.rules;have ag:=E.lt;have af:=F.lt;have Z:=R.lt;have ap:=N.trans d;clear z i)|(go_at_call 143;have z:=q;refine(jU _ r A l p 9 (by exact z.below (by go_grown)) G (by decide) H9).mono ?_;rintro e w2 ⟨rfl,y,f⟩;have u:=(Pm.refl r Y).alloc (Obj.cells #[.bool a.neg,.string a.pred,.slice ao a.args.length cp] 90);obtain⟨c1,f1,j⟩:=q.cell;have O:=D.but (u.trans f) j (by decide);have x:=(B.below zO).but f n;have s:=(OZ.new Y _ _).but f m;obtain⟨P,V⟩:=x.rules;obtain⟨S,H⟩:=s.rules;have aq:=x.lt;have aa:=s.lt;have ad:=y.lt;have W:=M.trans (u.trans f);clear z u j))
 exact zJ (v:=.tuple #[.agg #[.bool false,.string ByteArray.empty,.slice none 0 0,.slice none 0 0],.bool false]) (by simp[results,results100,go_sem,J];rfl) rfl ⟨(by repeat'(first|with_reducible(first|apply xR|assumption|apply xN|apply xA|apply xD|apply xS|apply xT)|go_size)),rfl⟩
theorem GP(w:World)(r:Nat)(B:Value)(l rest:List Pd)(h:Rd w r B l rest)(I:l.length<=500)(q r2:List Pd)(a:zj)(b:List zj)(n0:Nat)(ha:yV rest=some (a,q))(h9:Pw q=9)(hn:q.tail.length<n0)(hb:xM n0 q.tail=some (b,r2))(h7:Pw r2=7):
  Calls prog 100 #[.pointer (some ⟨r,0,none⟩)] w fun e w'=>m4 (some (⟨a,b⟩,r2.tail)) w r B l e w':=by
 have am:=h.lt;have n:w.heap.size≠r:=by omega
 have HA:=OY ha;have H9:=OY h9;have HN:=OY hn;have HB:=OY hb;have H7:=OY h7;go_enter func100,ntmps100;go_wp2_with (first|(go_at_call 142;refine(nL _ r B l rest q a (by exact h.below (by go_grown)) I HA).mono ?_;rintro e w1 ⟨va,rfl,F,s,k⟩;obtain⟨ao,cp,rfl⟩:=F.qw;have D:=(OZ.new w _ _).but k n;have ak:=D.lt;have ag:=s.lt;have m:w1.heap.size≠r:=(by omega);have O:=((Pm.refl r w).alloc _).trans k)|(go_at_call 144;refine(Bp _ r B l q.tail r2 b z I n0 HN HB).mono ?_;rintro e w3 ⟨vb,rfl,C,E,d⟩;obtain⟨P,aa,rfl⟩:=C.qw;obtain⟨c3,f3,i⟩:=z.cell;have K:=T.but d i (by decide);have p:=y.but d n;have u:=t.but d m;clear U Y V J;obtain⟨N,W⟩:=p.rules;obtain⟨M,X⟩:=u.rules;have ar:=p.lt;have ae:=u.lt;have ad:=E.lt;have R:=Z.trans d;clear i)|(go_at_call 143;have A:=E;refine(jU _ r B l r2 7 A I (by decide) H7).mono ?_;rintro e w4 ⟨rfl,G,c⟩;obtain⟨c7,f7,f⟩:=A.cell;have S:=K.but c f (by decide);have Q:=C.but c f (by decide) (by decide);have o:=p.but c n;have H:=u.but c m;clear N W M X;obtain⟨L,aj⟩:=o.rules;obtain⟨an,al⟩:=H.rules;have ai:=o.lt;have ah:=H.lt;have ab:=G.lt;have ap:=R.trans c;clear A f)|(go_at_call 143;have A:=s;refine(jU _ r B l q 9 (by exact A.below (by go_grown)) I (by decide) H9).mono ?_;rintro e w2 ⟨rfl,z,g⟩;have x:=(Pm.refl r w1).alloc (Obj.cells #[.bool a.neg,.string a.pred,.slice ao a.args.length cp] 90);obtain⟨c1,f1,j⟩:=s.cell;have T:=F.but (x.trans g) j (by decide);have y:=(D.below zO).but g n;have t:=(OZ.new w1 _ _).but g m;obtain⟨U,Y⟩:=y.rules;obtain⟨V,J⟩:=t.rules;have aq:=y.lt;have ac:=t.lt;have af:=z.lt;have Z:=O.trans (x.trans g);clear A x j))
 exact zJ (v:=.tuple #[.agg #[.bool a.neg,.string a.pred,.slice ao a.args.length cp,.slice P b.length aa],.bool true]) (by simp[results,results100,go_sem,L]) rfl ⟨(by repeat'(first|with_reducible(first|apply xR|assumption|apply xN|apply xA|apply xD|apply xS|apply xT)|go_size)),_,_,rfl,(S.low (by first|(simp;done)|omega)).but (r:=w.heap.size) (by repeat'(first|with_reducible(first|apply xR|assumption|apply xN|apply xA|apply xD|apply xS|apply xT)|go_size)) o (by decide),(Q.low (by first|(simp;done)|omega)).but (r:=w.heap.size) (by repeat'(first|with_reducible(first|apply xR|assumption|apply xN|apply xA|apply xD|apply xS|apply xT)|go_size)) o (by decide) (by decide),h.keep G (by go_grown)⟩
theorem Dy(w:World)(r:Nat)(c:Value)(l rest:List Pd)(h:Rd w r c l rest)(k:l.length<=500)(i:Nat)(s:rest.length<=i):
  Calls prog 100 #[.pointer (some ⟨r,0,none⟩)] w fun e q=>m4 (uR i rest) w r c l e q:=by
 unfold uR;split
 ·rename_i d;exact Kc w r c l rest h k d
 ·rename_i a g d;have p:=rF d;split
  ·rename_i j;have n:g.tail.length<i:=by simp;omega
   split
   ·rename_i m;exact KH w r c l rest h k g a i d j n m
   ·rename_i b o m;split
    ·rename_i f;exact GP w r c l rest h k g o a b i d j n m f
    ·rename_i f;exact Gy w r c l rest h k g o a b i d j n m f
  ·rename_i j;split
   ·rename_i f;exact LA w r c l rest h k g a d j f
   ·rename_i f;exact Ka w r c l rest h k g a d j f
end
end Go.Proofs.YteampbddflhngaaGreat
