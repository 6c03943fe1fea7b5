import Derived.Test.YteampbddflhngaaGreatProg
import Derived.Deep.QuietTactic
import Derived.BigQuiet
import Derived.Deep.LoopGhost
import Derived.Test.YteampbddflhngaaGreatZ01
import Derived.Test.YteampbddflhngaaGreatZ02
namespace Go.Proofs.YteampbddflhngaaGreat
set_option linter.all false
set_option maxRecDepth 100000
set_option maxHeartbeats 1000000
open Go.RowKit
section
open Go.Proofs.Tryz
theorem wE(c:Int)(w:World):
  Calls prog 98 #[.int .u8 c] w fun e a=>e=ε (.bool (qG c))/\a=w:=by
 go_enter func98,ntmps98;go_wp2
 all_goals go_ret
 all_goals exact⟨by simp[qG, *],rfl⟩
theorem Bs(c:Int)(w:World):
  Calls prog 173 #[.int .u8 c] w fun e a=>e=ε (.bool (yR c))/\a=w:=by
 go_enter func173,ntmps173;go_wp2
 all_goals go_ret
 all_goals exact⟨by simp[yR, *]<;>omega,rfl⟩
theorem F3(c:Int)(w:World):
  Calls prog 174 #[.int .u8 c] w fun e a=>e=ε (.bool (vO c))/\a=w:=by
 go_enter func174,ntmps174;go_wp2
 all_goals go_ret
 all_goals exact⟨by simp[vO, *]<;>omega,rfl⟩
theorem rz(c:Int)(w:World):
  Calls prog 175 #[.int .u8 c] w fun e a=>e=ε (.bool (yH c))/\a=w:=by
 go_enter func175,ntmps175;go_wp2
 all_goals go_ret
 all_goals exact⟨by simp[yH, *]<;>omega,rfl⟩
theorem eE(c:Int)(w:World):
  Calls prog 198 #[.int .u8 c] w fun e a=>e=ε (.bool (Rc c))/\a=w:=by
 go_enter func198,ntmps198;go_wp2_with (first|(go_at_call 173;refine(Bs _ _).mono ?_;rintro e a ⟨rfl,rfl⟩)|(go_at_call 174;refine(F3 _ _).mono ?_;rintro e a ⟨rfl,rfl⟩)|(go_at_call 175;refine(rz _ _).mono ?_;rintro e a ⟨rfl,rfl⟩))
 all_goals go_ret
 all_goals exact⟨by simp[Rc, *],rfl⟩
theorem C3(s:ByteArray)(i:Int)(w:World)(b:0<=i)(_:s.size<=500):
  Calls prog 139 #[.string s,ι i] w fun e a=>e=ε (.int .u8 (QE s i.toNat))/\a=w:=by
 obtain⟨i,rfl⟩:=Int.eq_ofNat_of_zero_le b;rw[Int.toNat_natCast];by_cases h:i<s.size
 ·rw[vX h];go_enter func139,ntmps139;go_wp2
  all_goals go_ret
  all_goals exact⟨rfl,rfl⟩
 ·rw[nw h];go_enter func139,ntmps139;go_wp2
  all_goals go_ret
  all_goals exact⟨rfl,rfl⟩
theorem Ix(c:Int)(w:World):
  Calls prog 176 #[.int .u8 c] w fun e a=>e=ε (ι (gQ c))/\a=w:=by
 go_enter func176,ntmps176;go_wp2
 all_goals go_ret
 all_goals go_light
 all_goals exact⟨by simp_all [gQ],rfl⟩
theorem B9(a b:Int)(w:World):
  Calls prog 140 #[.int .u8 a,.int .u8 b] w fun e c=>e=ε (ι (xa a b))/\c=w:=by
 go_enter func140,ntmps140;go_wp2_with (first|(go_at_call 173;refine(Bs _ _).mono ?_;rintro e c ⟨rfl,rfl⟩)|(go_at_call 174;refine(F3 _ _).mono ?_;rintro e c ⟨rfl,rfl⟩)|(go_at_call 175;refine(rz _ _).mono ?_;rintro e c ⟨rfl,rfl⟩)|(go_at_call 176;refine(Ix _ _).mono ?_;rintro e c ⟨rfl,rfl⟩))
 all_goals go_ret
 all_goals go_light
 all_goals exact⟨by first|(simp_all [xa];done)|(simp_all [xa,yR,vO,yH];done),rfl⟩
theorem Is(s:ByteArray)(i:Nat)(w:World)(hs:s.size<=500)(g:i<=s.size):
  Calls prog 177 #[.string s,ι i] w fun e d=>e=ε (ι (y6 Rc s i))/\d=w:=by
 go_enter func177,ntmps177;go_wp2;go_loop [5] (fun t=>∃k:Nat,k<=s.size/\t=ι k/\Hid (y6 Rc s i=y6 Rc s k)) (fun t=>s.size-(intOf t).toNat)
 case atStart=>exact⟨i,g,rfl,rfl⟩
 case round=>
  obtain⟨k,h,rfl,H⟩:=hrel;by_cases a:k<s.size
  ·have f:=vX a;cases c:Rc (QE s k) with
   |true=>
    have b:Hid (y6 Rc s i=y6 Rc s (k+1)):=by rw[Hid.out H,lF a c];rfl
    rw[f] at c;go_wp2_with (go_at_call 198;refine(eE _ _).mono ?_;rintro e d ⟨rfl,rfl⟩)
    go_round
    case rel=>exact⟨k+1,by omega,by go_num,b⟩
    case measure=>simp[intOf];omega
   |false=>
    have b:Hid (y6 Rc s i=k):=by rw[Hid.out H,m4 c];rfl
    rw[f] at c;go_wp2_with (go_at_call 198;refine(eE _ _).mono ?_;rintro e d ⟨rfl,rfl⟩)
    go_ret;exact⟨by rw[Hid.out b];rfl,rfl⟩
  ·have b:Hid (y6 Rc s i=k):=by rw[Hid.out H,gM a];rfl
   go_wp2_with (go_at_call 198;refine(eE _ _).mono ?_;rintro e d ⟨rfl,rfl⟩)
   go_ret;exact⟨by rw[Hid.out b];rfl,rfl⟩
theorem NH(s:ByteArray)(i:Nat)(w:World)(hs:s.size<=500)(g:i<=s.size):
  Calls prog 178 #[.string s,ι i] w fun e d=>e=ε (ι (y6 yH s i))/\d=w:=by
 go_enter func178,ntmps178;go_wp2;go_loop [5] (fun t=>∃k:Nat,k<=s.size/\t=ι k/\Hid (y6 yH s i=y6 yH s k)) (fun t=>s.size-(intOf t).toNat)
 case atStart=>exact⟨i,g,rfl,rfl⟩
 case round=>
  obtain⟨k,h,rfl,H⟩:=hrel;by_cases a:k<s.size
  ·have f:=vX a;cases c:yH (QE s k) with
   |true=>
    have b:Hid (y6 yH s i=y6 yH s (k+1)):=by rw[Hid.out H,lF a c];rfl
    rw[f] at c;go_wp2_with (go_at_call 175;refine(rz _ _).mono ?_;rintro e d ⟨rfl,rfl⟩)
    go_round
    case rel=>exact⟨k+1,by omega,by go_num,b⟩
    case measure=>simp[intOf];omega
   |false=>
    have b:Hid (y6 yH s i=k):=by rw[Hid.out H,m4 c];rfl
    rw[f] at c;go_wp2_with (go_at_call 175;refine(rz _ _).mono ?_;rintro e d ⟨rfl,rfl⟩)
    go_ret;exact⟨by rw[Hid.out b];rfl,rfl⟩
  ·have b:Hid (y6 yH s i=k):=by rw[Hid.out H,gM a];rfl
   go_wp2_with (go_at_call 175;refine(rz _ _).mono ?_;rintro e d ⟨rfl,rfl⟩)
   go_ret;exact⟨by rw[Hid.out b];rfl,rfl⟩
theorem Fe(s:ByteArray)(i:Nat)(k:Int)(w:World)(hs:s.size<=500)(b:i<=s.size):
  Calls prog 141 #[.string s,ι i,ι k] w fun e a=>e=ε (ι (yi s i k))/\a=w:=by
 go_enter func141,ntmps141;go_wp2_with (first|(go_at_call 177;refine(Is _ _ _ hs b).mono ?_;rintro e a ⟨rfl,rfl⟩)|(go_at_call 178;refine(NH _ _ _ hs b).mono ?_;rintro e a ⟨rfl,rfl⟩))
 all_goals go_ret
 all_goals go_light
 all_goals exact⟨by simp_all [yi],rfl⟩
theorem Id(s:ByteArray)(i:Nat)(w:World)(hs:s.size<=500)(b:i<s.size)(f:xa (QE s i) (QE s (i+1))=0):
  Calls prog 99 #[.string s,ι i] w fun e a=>e=ε (.agg #[ι 0,.string ByteArray.empty])/\μ w a:=by
 have c:yi s i 0=i:=rfl;have d:((i:Int)+1).toNat=i+1:=by omega
 go_enter func99,ntmps99;go_wp2_with (first|(go_at_call 139;refine(C3 s _ _ (by omega) hs).mono ?_;rintro e a ⟨rfl,rfl⟩)|(go_at_call 140;refine(B9 _ _ _).mono ?_;rintro e a ⟨rfl,rfl⟩)|(go_at_call 141;refine(Fe s i _ _ hs (by omega)).mono ?_;rintro e a ⟨rfl,rfl⟩))
 go_returns
 exact⟨rfl,by go_grown⟩
theorem Oz(s:ByteArray)(i:Nat)(k:Int)(w:World)(hs:s.size<=500)(n:i<s.size)(o:xa (QE s i) (QE s (i+1))=k)
  (m:i<yi s i k) (j:yi s i k<=s.size):
  Calls prog 99 #[.string s,ι i] w fun e b=>e=ε (.agg #[ι k,.string (s.extract i (yi s i k))])/\μ w b:=by
 have q:((i:Int)+1).toNat=i+1:=by omega
 go_enter func99,ntmps99;go_wp2_with (first|(go_at_call 139;refine(C3 s _ _ (by omega) hs).mono ?_;rintro e b ⟨rfl,rfl⟩)|(go_at_call 140;refine(B9 _ _ _).mono ?_;rintro e b ⟨rfl,rfl⟩)|(go_at_call 141;refine(Fe s i _ _ hs (by omega)).mono ?_;rintro e b ⟨rfl,rfl⟩)|(refine M7 _ rfl (.tmp 41) 9 238 5 rfl underlying9 underlying238 underlying5 _ rfl ?_;intro h f d a;obtain⟨c,l⟩:=PD a;have g:=a.size;simp only[World.size_alloc] at g)|(refine Gb _ rfl (.tmp 42) 238 9 5 rfl underlying238 underlying5 underlying9 _ _ _ rfl ?_ ?_;(first|exact d|fail)))
 have p:μ w f:=Q9 zT a;exact zL (v:=.agg #[ι k,.string (s.extract i (yi s i k))]) (by simp[results,results99,go_sem,c]) rfl ⟨rfl,by go_grown⟩
def jP(l:List (Int×ByteArray)):List Value:=l.flatMap fun x=>[ι x.1,.string x.2]
theorem Kk(l:List (Int×ByteArray))(k:Int)(t:ByteArray):jP (l++[(k,t)])=jP l++[ι k,.string t]:=by simp[jP]
theorem Qf:(prog.info? 182).map (fun i=>(i.zero,i.size,i.bytes))=some (some (.agg #[ι 0,.string ByteArray.empty]),2,24):=by kernel_rfl
def rQ(s:ByteArray)(w:World)(e:Ending)(w':World):Prop:=
 μ w w'/\match QG s with
  |none=>e=ε (.tuple #[ν,.bool false])
  |some l=>∃v,e=ε (.tuple #[v,.bool true])/\w'.ownsRow w.heap.size 182 2 v l.length (jP l)/\l.length<=s.size
theorem EC{s:ByteArray}{w w':World}(h:Hid (QG s=none))(b:μ w w'):rQ s w (ε (.tuple #[ν,.bool false])) w':=by
 have a:QG s=none:=h;unfold rQ;rw[a];exact⟨b,rfl⟩
theorem Ji{s:ByteArray}{w w':World}{v:Value}{l:List (Int×ByteArray)}(h:Hid (QG s=some l))(c:μ w w')(b:w'.ownsRow w.heap.size 182 2 v l.length (jP l))(a:l.length<=s.size):
  rQ s w (ε (.tuple #[v,.bool true])) w':=by
 have d:QG s=some l:=h;unfold rQ;rw[d];exact⟨c,v,rfl,b,a⟩
theorem C6(s:ByteArray)(w:World)(hs:s.size<=500):
  Calls prog 59 #[.string s] w fun e z=>rQ s w e z:=by
 obtain⟨T,R,C,B,A⟩:=info_parts Qf;go_enter func59,ntmps59;go_wp2;go_loopw [4,5] (fun v t wr=>∃(k:Nat) (a:List (Int×ByteArray)) (m:Nat),k<=s.size/\t=ι k/\s.size-k<=m/\Hid (QG s=(QI m s k).map (a++·))/\a.length<=k ∧
   wr.ownsRow w.heap.size 182 2 v a.length (jP a)/\μ w wr) (fun _ t _=>s.size-(intOf t).toNat)
 case atStart=>exact⟨0,[],s.size,zv _,rfl,by omega,(by simp[QG,Hid]),zg _,yC _ _ _ _,zo _ _⟩
 case round=>
  obtain⟨k,a,m,U,rfl,V,H,P,i,c⟩:=hrel;by_cases b:k<s.size
  ·have o:=vX b;obtain⟨m,rfl⟩:∃S,m=S+1:=⟨m-1,by omega⟩;cases n:qG (QE s k) with
   |true=>
    have j:Hid (QG s=(QI m s (k+1)).map (a++·)):=by rw[←wG b n];exact H
    rw[o] at n;clear o H;go_wp2_with (go_at_call 98;refine(wE _ _).mono ?_;rintro e z ⟨rfl,rfl⟩)
    go_roundw
    case rel=>exact⟨k+1,a,m,by omega,by go_num,by omega,j,by omega,i,c⟩
    case measure=>simp[intOf];omega
   |false=>
    by_cases h:xa (QE s k) (QE s (k+1))=0
    ·have j:Hid (QG s=none):=by rw[Hid.out H,tq b n h];simp[Hid]
     have q:=Id s k wr hs b h;rw[o] at n;clear o H h;go_wp2_with (first|(go_at_call 98;refine(wE _ _).mono ?_;rintro e z ⟨rfl,rfl⟩)|(go_at_call 99;refine q.mono ?_;rintro e J ⟨rfl,g⟩;clear q;have r:=Q9 c g;have y:=r.size))
     go_ret2
     exact EC j (by go_grown)
    ·obtain⟨f,d⟩:∃f,xa (QE s k) (QE s (k+1))=f:=⟨_,rfl⟩;have l:f≠0:=by rw[←d];exact h
     obtain⟨G,F⟩:=rP s k f b d l;have q:=Oz s k f wr hs b d G F;by_cases N:6<yi s k f-k
     ·have j:Hid (QG s=none):=by rw[Hid.out H,wg b n d N];simp[Hid]
      rw[o] at n;clear o H h d;generalize yi s k f=p at *;have I:(s.extract k p).size=p-k:=by rw[ByteArray.size_extract];omega
      generalize s.extract k p=O at *;have x:(f == 0)=false:=by simpa using l
      go_wp2_with (first|(go_at_call 98;refine(wE _ _).mono ?_;rintro e z ⟨rfl,rfl⟩)|(go_at_call 99;refine q.mono ?_;rintro e J ⟨rfl,g⟩;clear q;have r:=Q9 c g;have y:=r.size))
      go_ret2
      exact EC j (by go_grown)
     ·have j:Hid (QG s=(QI m s (yi s k f)).map ((a++[(f,s.extract k (yi s k f))])++·)):=by rw[Hid.out H,sL b n d l N,rI];rfl
      rw[o] at n;clear o H h d;generalize yi s k f=p at *;have I:(s.extract k p).size=p-k:=by rw[ByteArray.size_extract];omega
      generalize s.extract k p=O at *;have x:(f == 0)=false:=by simpa using l
      go_wp2_with (first|(go_at_call 98;refine(wE _ _).mono ?_;rintro e z ⟨rfl,rfl⟩)|(go_at_call 99;refine q.mono ?_;rintro e J ⟨rfl,g⟩;clear q;have r:=Q9 c g;have y:=r.size;have E:=zB i g)|(at_builtin;refine ks J _ _ _ rfl (.tmp 29) (.tmp 31) 118 rfl w.heap.size 182 T _ 2 24 underlying118 R C B A rfl (by decide) _ _ _ rfl E zT _ _ rfl (by simp) rfl (by simp[Value.oneCell']) (by omega) (by omega) (by omega) ?_;intro X W M L D K Q u;simp only[World.size_alloc] at D K u))
      go_roundw
      case rel=>exact⟨p,a++[(f,O)],m,by omega,by go_num,by omega,j,by simp;omega,by rw[yp,Kk];exact M,r.trans L⟩
      case measure=>simp[intOf];omega
  ·have j:Hid (QG s=some a):=by rw[Hid.out H,pj b];simp[Hid]
   clear H;go_wp2;go_ret2
   exact Ji j c i (by omega)
end
section
variable {lo:Nat}{t:ByteArray}{r base n b:Nat}{w w':World}{v wv:Value}{xs:List Value}{c:Array Value}{l:κ}
abbrev QA:=Int×ByteArray
structure zj where
 neg:Bool
 pred:ByteArray
 args:κ
structure zd where
 head:zj
 body:List zj
def R8(k:Int):Bool:=k == 1||k == 3||k == 2
def QR:List QA->Int
 |[]=>0
 |x::_=>x.1
def yk:List QA->Option (κ×List QA)
 |[]=>none
 |[x]=>if R8 x.1 then some ([x.2],[]) else none
 |x::y::r=>if R8 x.1 then(if y.1=6 then(yk r).map fun z=>(x.2::z.1,z.2) else some ([x.2],y::r)) else none
theorem JD{k:Int}{r:List QA}(h:R8 k=false):yk ((k,t)::r)=none:=by cases r<;>simp[yk,h]
theorem Dk{k:Int}{r:List QA}(h:R8 k=true)(a:QR r≠6):yk ((k,t)::r)=some ([t],r):=by
 cases r with
 |nil=>simp[yk,h]
 |cons y r=>simp only[QR] at a;simp[yk,h,a]
theorem Ou{k:Int}{r:List QA}(h:R8 k=true)(a:QR r=6):yk ((k,t)::r)=(yk r.tail).map fun z=>(t::z.1,z.2):=by
 cases r with
 |nil=>simp[QR] at a
 |cons y r=>simp only[QR] at a;simp[yk,h,a]
def yZ(r:List QA):Option (zj×List QA):=
 if QR r=1 then
  if QR r.tail=4 then
   match yk r.tail.tail with
   |none=>none
   |some (d,a)=>if QR a=5 then some (⟨false,(r.headD (0,ByteArray.empty)).2,d⟩,a.tail) else none
  else some (⟨false,(r.headD (0,ByteArray.empty)).2,[]⟩,r.tail)
 else none
def uC(r:List QA):Option (zj×List QA):=
 if QR r=8 then(yZ r.tail).map fun z=>({z.1 with neg:=true},z.2) else yZ r
structure QH (r:Nat) (w w':World):Prop where
 os:w'.os=w.os
 tape:w'.tape=w.tape
 output:w'.output=w.output
 size:w.heap.size<=w'.heap.size
 block:∀k,k<w.heap.size->k≠r->w'.heap[k]?=w.heap[k]?
theorem QH.refl(r:Nat)(w:World):QH r w w:=⟨rfl,rfl,rfl,zg _,fun _ _ _=>rfl⟩
theorem QH.trans{r:Nat}{a b c:World}(h:QH r a b)(k:QH r b c):QH r a c:=
 ⟨k.os.trans h.os,k.tape.trans h.tape,k.output.trans h.output,yc h.size k.size,fun i d e=>(k.block i (xP d h.size) e).trans (h.block i d e)⟩
theorem QH.of(h:μ w w'):QH r w w':=⟨h.os,h.tape,h.output,h.size,fun k a _=>h.block k a⟩
theorem QH.below{B:Nat}(h:QH r w w')(e:B<=r)(a:B<=w.heap.size):Below B w w':=⟨h.os,h.tape,h.output,h.size,fun k d=>h.block k (by omega) (by omega)⟩
theorem QH.setCell{r:Nat}{a w:World}(h:QH r a w)(o:Nat)(u:Value):QH r a (w.setCell ⟨r,o,none⟩ u):=
 h.trans ⟨rfl,rfl,rfl,by simp[World.setCell],fun _ _ d=>Below.heap_setCell _ _ _ _ d⟩
theorem QH.drew{r:Nat}{a w:World}(h:QH r a w):QH r a w.drew:=⟨h.os,h.tape,h.output,h.size,h.block⟩
theorem QH.drewN{r:Nat}{a w:World}(h:QH r a w)(n:Nat):QH r a (w.drewN n):=h.trans (QH.of (zJ (zo _ _) n))
theorem QH.alloc{r:Nat}{a w:World}(h:QH r a w)(o:Obj):QH r a (w.alloc o):=h.trans (QH.of ((zo _ _).alloc (zg _) o))
theorem QH.setNew{r:Nat}{a w:World}(h:QH r a w){p:Addr}(f:a.heap.size<=p.block)(u:Value):QH r a (w.setCell p u):=
 ⟨h.os,h.tape,h.output,by simp[World.setCell];exact h.size,fun k d e=>(Below.heap_setCell _ _ _ _ (by omega)).trans (h.block k d e)⟩
abbrev xR:=@QH.refl
abbrev xN:=@QH.drewN
abbrev xA:=@QH.alloc
abbrev xD:=@QH.drew
abbrev xS:=@QH.setCell
abbrev xT:=@QH.setNew
theorem xO{e:TypeId}{a:Nat}(h:w.ownsRow base e a v n xs)(p:QH r w w')
  {c:Array Value} {T:TypeId} {f:Nat×Nat} (o:w.heap[r]?=some (.cells c T f)) (x:T≠e):w'.ownsRow base e a v n xs:=by
 obtain⟨u,k⟩:=h;refine⟨u,?_⟩;rcases k with k|⟨g,i,m,y,s,j,q⟩
 ·exact zf k
 ·refine zb ⟨g,i,m,y,s,?_,q⟩;rw[p.block g (kQ.1 j).1 (fun d=>by subst d;rw[j] at o;simp at o;exact x o.2.1.symm)];exact j
theorem zp{e:TypeId}{d:Nat}(h:w.ownsRow base e d v n xs):∃j a,v=.slice j n a:=by
 obtain⟨_,⟨f,i⟩|⟨g,a,k,f,_⟩⟩:=h
 ·exact⟨none,0,by rw[f,i]⟩
 ·exact⟨_,a,f⟩
theorem yv{e:TypeId}{d:Nat}(h:w.ownsRow base e d v n xs)(A:0<n):
  ∃g a,v=.slice (some ⟨g,0,none⟩) n a/\base<=g/\g<w.heap.size/\∀j u,xs[j]?=some u->w.cell? ⟨g,j,none⟩=some u:=by
 obtain⟨y,⟨i,z⟩|⟨g,a,o,i,m,k,q,s,x,p⟩⟩:=h
 ·omega
 ·refine⟨g,a,i,m,(kQ.1 k).1,fun j u f=>?_⟩;unfold World.cell?;rw[k];simp;rw[←p,lJ] at f;split at f
  ·simpa using f
  ·simp at f
def Q6(w:World)(b:Nat)(c:Array Value)(T:TypeId):Prop:=w.heap[b]?=some (.cells c T (0,0))
theorem Q6.lt{T:TypeId}(h:Q6 w b c T):b<w.heap.size:=(kQ.1 h).1
theorem Q6.new(w:World)(c:Array Value)(T:TypeId):Q6 (w.alloc (.cells c T)) w.heap.size c T:=by unfold Q6;show(w.heap.push _)[w.heap.size]?=_;simp
theorem Q6.below{T:TypeId}(h:Q6 w b c T)(a:μ w w'):Q6 w' b c T:=by have:=h.lt;unfold Q6 at *;rw[a.block b this];exact h
theorem Q6.but{T:TypeId}(h:Q6 w b c T)(d:QH r w w')(a:b≠r):Q6 w' b c T:=by have:=h.lt;unfold Q6 at *;rw[d.block b this a];exact h
theorem Q6.rules{T:TypeId}(h:Q6 w b c T):(∀o,w.cell? ⟨b,o,none⟩=c[o]?)/\(∀o,w.frozen? ⟨b,o,none⟩=false):=by
 unfold Q6 at h;exact⟨fun o=>by unfold World.cell?;rw[h];simp,fun o=>by unfold World.frozen?;rw[h];simp⟩
theorem Q6.boxed{T:TypeId}(h:Q6 w b c T):(∀o,w.cell? ⟨b,o,none⟩=c[o]?)/\(∀o,w.frozen? ⟨b,o,none⟩=false)/\b<w.heap.size:=⟨h.rules.1,h.rules.2,h.lt⟩
def QD(lo:Nat)(w:World)(v:Value)(l:κ):Prop:=w.ownsRow lo 9 1 v l.length (l.map Value.string)
theorem yr{a:Nat}{e:TypeId}{d:Nat}(h:w.ownsRow b e d v n xs)(p:a<=b):w.ownsRow a e d v n xs:=by
 obtain⟨m,i⟩:=h;refine⟨m,?_⟩;rcases i with i|⟨g,f,j,o,q,k⟩
 ·exact zf i
 ·exact zb ⟨g,f,j,o,by omega,k⟩
theorem QD.low{a:Nat}(h:QD b w v l)(d:a<=b):QD a w v l:=yr h d
theorem QD.nil(w:World):QD lo w (ν) []:=yC _ _ _ _
theorem QD.qx(h:QD lo w v l):∃d a,v=.slice d l.length a:=zp h
theorem QD.below(h:QD lo w v l)(a:μ w w'):QD lo w' v l:=zB h a
theorem QD.but(h:QD lo w v l)(d:QH r w w'){T:TypeId}{f:Nat×Nat}(e:w.heap[r]?=some (.cells c T f))(a:T≠9):QD lo w' v l:=by
 exact xO h d e a
structure Rd (w:World) (r:Nat) (wv:Value) (l rest:List QA):Prop where
 box:∃p:Nat,p<=l.length/\rest=l.drop p/\w.heap[r]?=some (.cells #[wv,ι p] 185 (0,0))
 words:∃base,w.ownsRow base 182 2 wv l.length (jP l)
theorem Rd.cell{l rest:List QA}(h:Rd w r wv l rest):∃c f,w.heap[r]?=some (.cells c 185 f):=by
 obtain⟨p,_,_,a⟩:=h.box;exact⟨_,_,a⟩
theorem Rd.lt{l rest:List QA}(h:Rd w r wv l rest):r<w.heap.size:=by
 obtain⟨p,_,_,a⟩:=h.box;exact(kQ.1 a).1
theorem Rd.below{l rest:List QA}(h:Rd w r wv l rest)(d:μ w w'):Rd w' r wv l rest:=by
 have a:=h.lt;obtain⟨⟨p,e,g,f⟩,b,i⟩:=h;exact⟨⟨p,e,g,by rw[d.block r a];exact f⟩,b,zB i d⟩
theorem Ph(l:List QA)(p:Nat)(k:Int)(t:ByteArray)(r:List QA)(h:(k,t)::r=l.drop p):(jP l)[p*2]?=some (ι k)/\(jP l)[p*2+1]?=some (.string t):=by
 induction l generalizing p with
 |nil=>simp at h
 |cons x l a=>
  cases p with
  |zero=>simp at h;obtain⟨rfl,_⟩:=h;simp[jP]
  |succ p=>
   have:=a p (by simpa using h);simp only[jP,uw] at this ⊢;rw[show(p+1)*2=p*2+1+1 from by omega];simpa using this
theorem Rd.view{l rest:List QA}(h:Rd w r wv l rest):∃(p:Nat) (e:Option Addr) (cap:Nat),p<=l.length/\rest=l.drop p/\wv=.slice e l.length cap ∧
  w.heap[r]?=some (.cells #[wv,ι p] 185 (0,0))/\w.cell? ⟨r,0,none⟩=some wv/\w.cell? ⟨r,1,none⟩=some (ι p)/\(∀o,w.frozen? ⟨r,o,none⟩=false) ∧
  (∀k t j,rest=(k,t)::j->∃g,e=some ⟨g,0,none⟩/\g<w.heap.size/\p<l.length/\w.cell? ⟨g,p*2,none⟩=some (ι k)/\w.cell? ⟨g,p*2+1,none⟩=some (.string t)):=by
 obtain⟨⟨p,A,f,d⟩,b,q⟩:=h;obtain⟨e,cap,s⟩:=zp q;refine⟨p,e,cap,A,f,s,d,by unfold World.cell?;rw[d];simp,by unfold World.cell?;rw[d];simp,fun o=>by unfold World.frozen?;rw[d];simp,?_⟩;intro k t j i;have x:p<l.length:=by
  rcases dI p l.length with h|h
  ·exact h
  ·rw[ue h] at f;rw[f] at i;cases i
 obtain⟨g,u,a,_,z,m⟩:=yv q (by omega);rw[s] at a;simp at a;obtain⟨y,B⟩:=Ph l p k t j (by rw[←i,f]);exact⟨g,a.1,z,x,m _ _ y,m _ _ B⟩
theorem Rd.keep{s y:World}{l a rest:List QA}(q:Rd w r wv l a)(h:Rd s r wv l rest)(x:Below w.heap.size s y):Rd y r wv l rest:=by
 have o:=q.lt;obtain⟨_,I,_,i⟩:=q;obtain⟨⟨p,D,B,F⟩,b,A,k⟩:=h;refine⟨⟨p,D,B,by rw[x.block r o];exact F⟩,b,A,?_⟩;rcases k with k|⟨g,m,f,e,C,H,E⟩
 ·exact zf k
 ·refine zb ⟨g,m,f,e,C,?_,E⟩;rcases i with⟨d,_⟩|⟨G,u,z,d,_,j,_⟩
  ·rw[d] at e;cases e
  ·rw[d] at e;simp at e;obtain⟨rfl,rfl⟩:=e;rw[x.block G (kQ.1 j).1];exact H
theorem QH.onto{a b c:World}(h:QH r a b)(k:Below a.heap.size b c):QH r a c:=
 ⟨k.os.trans h.os,k.tape.trans h.tape,k.output.trans h.output,yc h.size k.size,fun i d e=>(k.block i d).trans (h.block i d e)⟩
theorem Rd.next{l rest:List QA}{p:Nat}(a:w.heap[r]?=some (.cells #[wv,ι p] 185 (0,0)))(d:p<l.length)(g:rest=l.drop p)
  (f:∃base,w.ownsRow base 182 2 wv l.length (jP l)):Rd (w.setCell ⟨r,1,none⟩ (ι ((p:Int)+1))) r wv l rest.tail:=by
 refine⟨⟨p+1,d,by rw[g,List.tail_drop],?_⟩,?_⟩
 ·simp[World.setCell,Array.getElem?_modify,a]
 ·obtain⟨b,e⟩:=f;exact⟨b,xO e ((QH.refl r w).setCell 1 _) a (by decide)⟩
end
section
open Go.Proofs.Tryz
theorem eP(k:Int)(w:World):
  Calls prog 199 #[ι k] w fun e a=>e=ε (.bool (R8 k))/\a=w:=by
 go_enter func199,ntmps199;go_wp2
 all_goals go_ret
 all_goals go_light
 all_goals exact⟨by simp_all [R8],rfl⟩
theorem nk(w:World)(r:Nat)(q:Value)(l rest:List QA)(h:Rd w r q l rest)(_:l.length<=500):
  Calls prog 179 #[(π r)] w fun e i=>e=ε (.agg #[ι (QR rest),.string (rest.headD (0,ByteArray.empty)).2])/\μ w i:=by
 have n:=h.lt;obtain⟨p,B,f,z,y,rfl,b,u,s,c,j⟩:=h.view;cases rest with
 |nil=>
  have a:p=l.length:=by
   have:=congrArg List.length y;simp at this;omega
  subst a;go_enter func179,ntmps179;go_wp2;go_quiet (fail)
  go_wp2;go_returns
  exact⟨rfl,(by repeat'(first|with_reducible(first|apply zR|assumption|apply zN|apply zA|apply zD|apply zS)|go_size))⟩
 |cons x d=>
  obtain⟨k,t⟩:=x;obtain⟨g,rfl,A,a,m,o⟩:=j k t d rfl;go_enter func179,ntmps179;go_wp2;go_quiet (fail)
  go_wp2;go_region
  all_goals go_wp2
  all_goals exact zL (v:=.agg #[ι k,.string t]) (by simp[results,results179,go_sem]) rfl ⟨rfl,(by repeat'(first|with_reducible(first|apply zR|assumption|apply zN|apply zA|apply zD|apply zS)|go_size))⟩
theorem Rr(w:World)(r:Nat)(q:Value)(l rest:List QA)(k:Int)(h:Rd w r q l rest)(B:l.length<=500)(D:k≠0):
  Calls prog 143 #[(π r),ι k] w fun e y=>e=ε (.bool (QR rest == k))/\Rd y r q l (if QR rest=k then rest.tail else rest)/\QH r w y:=by
 have b:=nk w r q l rest h B;by_cases f:QR rest=k
 ·obtain⟨p,P,J,N,F,C,d,M,s,o,H⟩:=h.view;have n:=h.words;have c:=h.lt;cases rest with
  |nil=>exact zC f.symm D
  |cons x v=>
   obtain⟨u,t⟩:=x;obtain⟨g,_,O,j,I,L⟩:=H u t v rfl;have A:=Q5 F;subst f;simp only[if_true,beq_self_eq_true,lW];go_enter func143,ntmps143;go_wp2_with (go_at_call 179;(refine b.mono ?_;rintro e m ⟨rfl,a⟩;clear b;have R:=a.size;have z:r<m.heap.size:=(by omega);have K:=zl a c s;have G:=(a.frozen (p:=⟨r,1,none⟩) c).trans (o 1)))
   go_ret;refine⟨rfl,?_,?_⟩
   ·obtain⟨E,n⟩:=n;exact(Rd.next (w:=m) (rest:=(u,t)::v) ((a.block r c).trans d) j A ⟨E,zB n a⟩).below zT
   ·have Q:=QH.of (r:=r) a;exact(by repeat'(first|with_reducible(first|apply xR|assumption|apply xN|apply xA|apply xD|apply xS|apply xT)|go_size))
 ·rw[za f];have i:(QR rest == k)=false:=by simpa using f
  rw[i];go_enter func143,ntmps143;go_wp2_with (go_at_call 179;refine b.mono ?_;rintro e m ⟨rfl,a⟩;clear b)
  go_ret;exact⟨rfl,h.below (a.alloc a.size _),QH.of (a.alloc a.size _)⟩
theorem kw(w:World)(r:Nat)(a:Value)(l rest:List QA)(k:Int)(h:Rd w r a l rest)(d:l.length<=500)(f:k≠0)(c:QR rest=k):
  Calls prog 143 #[(π r),ι k] w fun e b=>e=ε (.bool true)/\Rd b r a l rest.tail/\QH r w b:=by
 have:=Rr w r a l rest k h d f;rw[zc c,c,beq_self_eq_true] at this;exact this
theorem mq(w:World)(r:Nat)(a:Value)(l rest:List QA)(k:Int)(h:Rd w r a l rest)(d:l.length<=500)(f:k≠0)(c:QR rest≠k):
  Calls prog 143 #[(π r),ι k] w fun e b=>e=ε (.bool false)/\Rd b r a l rest/\QH r w b:=by
 have:=Rr w r a l rest k h d f;rw[za c,show(QR rest == k)=false by simpa using c] at this;exact this
end
section
open Go.Proofs.Tryz
variable {lo:Nat}
theorem Qq:(prog.info? 9).map (fun i=>(i.zero,i.size,i.bytes))=some (some (.string ByteArray.empty),1,16):=by kernel_rfl
def rt(w:World)(r:Nat)(c:Value)(l rest:List QA)(e:Ending)(w':World):Prop:=
 QH r w w'/\match yk rest with
  |none=>e=ε (.tuple #[ν,.bool false])
  |some (a,b)=>∃v,e=ε (.tuple #[v,.bool true])/\QD w.heap.size w' v a/\Rd w' r c l b
theorem Fu{w w':World}{r:Nat}{a:Value}{l rest:List QA}(h:Hid (yk rest=none))(c:QH r w w'):rt w r a l rest (ε (.tuple #[ν,.bool false])) w':=by
 have b:yk rest=none:=h;unfold rt;rw[b];exact⟨c,rfl⟩
theorem Lm{w w':World}{r:Nat}{a v:Value}{l rest r2:List QA}{ts:κ}(h:Hid (yk rest=some (ts,r2)))(c:QH r w w')(hs:QD w.heap.size w' v ts)(d:Rd w' r a l r2):
  rt w r a l rest (ε (.tuple #[v,.bool true])) w':=by
 have b:yk rest=some (ts,r2):=h;unfold rt;rw[b];exact⟨c,v,rfl,hs,d⟩
theorem Fh{α β:Type}(o:Option (List α×β))(a:List α)(x:α):((o.map fun z=>(x::z.1,z.2)).map fun z=>(a++z.1,z.2))=o.map fun z=>((a++[x])++z.1,z.2):=by cases o<;>simp
theorem A8(w:World)(r:Nat)(G:Value)(l rest:List QA)(h:Rd w r G l rest)(hl:l.length<=500):
  Calls prog 180 #[(π r)] w fun e N=>rt w r G l rest e N:=by
 obtain⟨i0,hi,T,S,P⟩:=info_parts Qq;have aq:=h.lt;go_enter func180,ntmps180;go_wp2;go_loopg [4,5] (rest.length) (fun n v t wr=>∃(f:κ) (c:List QA) (more:Bool),t=.bool more/\c.length<=n/\c.length+f.length<=rest.length ∧
   wr.ownsRow w.heap.size 9 1 v f.length (f.map Value.string)/\Rd wr r G l c/\QH r w wr ∧
   Hid (more=true->yk rest=(yk c).map fun z=>(f++z.1,z.2))/\Hid (more=false->yk rest=some (f,c)))
 case atStart=>exact⟨[],rest,true,rfl,zg _,by simp,yC _ _ _ _,h,QH.refl _ _,(fun _=>by simp),(fun h=>by cases h)⟩
 case round=>
  obtain⟨f,c,more,rfl,hn,I,y,q,b,D,M⟩:=hrel;have ak:rest.length<=l.length:=by
   obtain⟨p,_,hp,_⟩:=h.box;rw[hp];simp
  have al:=b.size;have j:=q.lt;cases more with
  |false=>
   have H:=Q5 (M rfl);clear D M;go_wp2;go_ret2
   exact Lm H b y q
  |true=>
   have d:=nk wr r G l c q hl;cases c with
   |nil=>
    have H:Hid (yk rest=none):=by rw[Hid.out D rfl];simp[yk,Hid]
    clear D M;have O:R8 0=false:=rfl;simp only[QR] at d;go_wp2_with (first|(go_at_call 179;refine d.mono ?_;rintro e A ⟨rfl,a⟩;clear d;have hz:=a.size)|(go_at_call 199;refine(eP _ _).mono ?_;rintro e N ⟨rfl,rfl⟩))
    go_ret2
    have hB:=b.trans (QH.of a);exact Fu H (by repeat'(first|with_reducible(first|apply xR|assumption|apply xN|apply xA|apply xD|apply xS|apply xT)|go_size))
   |cons x i=>
    obtain⟨k,t⟩:=x;simp only[QR,List.headD_cons] at d;cases O:R8 k with
    |false=>
     have H:Hid (yk rest=none):=by rw[Hid.out D rfl,JD O];simp[Hid]
     clear D M;go_wp2_with (first|(go_at_call 179;refine d.mono ?_;rintro e A ⟨rfl,a⟩;clear d;have hz:=a.size)|(go_at_call 199;refine(eP _ _).mono ?_;rintro e N ⟨rfl,rfl⟩))
     go_ret2
     have hB:=b.trans (QH.of a);exact Fu H (by repeat'(first|with_reducible(first|apply xR|assumption|apply xN|apply xA|apply xD|apply xS|apply xT)|go_size))
    |true=>
     obtain⟨p,ao,an,hp,hr,F,u,ah,ag,ad,hx⟩:=q.view;obtain⟨g,_,hg,ac,ab,R⟩:=hx k t i rfl;have HR:Hid ((k,t)::i=l.drop p):=hr;have HW:=Q5 F;clear hx hr ab R ah F;go_wp2_with (first|(go_at_call 179;refine d.mono ?_;rintro e A ⟨rfl,a⟩;clear d;have hz:=a.size;have aj:r<A.heap.size:=(by omega);have ap:=zl a j ag;have am:=(a.frozen (p:=⟨r,1,none⟩) j).trans (ad 1);have X:=a;have L:=Rd.next (w:=A) (rest:=(k,t)::i) ((a.block r j).trans u) ac HR ⟨_,zB q.words.choose_spec a⟩;have Y:=xO (zB y a) ((QH.refl r A).setCell 1 (ι ((p:Int)+1))) ((a.block r j).trans u) (by decide);have U:=(b.trans (QH.of a)).setCell 1 (ι ((p:Int)+1));have ar:(A.setCell ⟨r,1,none⟩ (ι ((p:Int)+1))).heap.size=A.heap.size:=(by simp);clear X)|(go_at_call 199;refine(eP _ _).mono ?_;rintro e N ⟨rfl,rfl⟩)|(at_builtin;refine ks (A.setCell ⟨r,1,none⟩ (ι ((p:Int)+1))) _ _ _ rfl (.tmp 21) (.tmp 24) 30 rfl w.heap.size 9 i0 _ 1 16 underlying30 hi T S P rfl (by decide) _ _ _ rfl Y zT _ _ rfl (by simp) rfl (by simp[Value.oneCell']) (by simp at I;omega) (by omega) (by omega) ?_;intro v' w2 af J V ae W ai;clear V ae W;have s:=Rd.keep h L J;have B:=U.onto J;have K:=Rr w2 r G l i 6 s hl (by decide))|(go_at_call 143;refine K.mono ?_;rintro e w3 ⟨rfl,E,m⟩;clear K))
     obtain⟨c3,f3,C⟩:=s.cell;have Q:=xO af m C (by decide);have hP:=Hid.out D trivial;simp only[xd] at hn I;have aa:(if QR i=6 then i.tail else i).length<=i.length:=by split<;>simp
     go_roundg i.length
     case measure=>omega
     case rel=>
      refine⟨f++[t],(if QR i=6 then i.tail else i),(QR i == 6),rfl,aa,by simp;omega,by simpa using Q,E,B.trans m,?_,?_⟩
      ·intro Z;have o:QR i=6:=by simpa using Z
       rw[zc o,hP,Ou O o,Fh]
      ·intro Z;have o:QR i≠6:=by simpa using Z
       rw[za o,hP,Dk O o];simp
theorem MP(w:World)(r:Nat)(c:Value)(l rest:List QA)(h:Rd w r c l rest)(f:l.length<=500)(d:yk rest=none):
  Calls prog 180 #[(π r)] w fun e a=>e=ε (.tuple #[ν,.bool false])/\QH r w a:=by
 refine(A8 w r c l rest h f).mono ?_;rintro e a ⟨g,b⟩;rw[d] at b;exact⟨b,g⟩
theorem CA(w:World)(r:Nat)(f:Value)(l rest r2:List QA)(ts:κ)(h:Rd w r f l rest)(j:l.length<=500)(i:yk rest=some (ts,r2)):
  Calls prog 180 #[(π r)] w fun e d=>∃v,e=ε (.tuple #[v,.bool true])/\QD w.heap.size d v ts/\Rd d r f l r2/\QH r w d:=by
 refine(A8 w r f l rest h j).mono ?_;rintro e d ⟨k,g⟩;rw[i] at g;obtain⟨v,a,b,c⟩:=g;exact⟨v,a,b,c,k⟩
def lS(o:Option (zj×List QA))(w:World)(r:Nat)(c:Value)(l:List QA)(e:Ending)(w':World):Prop:=
 QH r w w'/\match o with
  |none=>e=ε (.tuple #[.agg #[.bool false,.string ByteArray.empty,ν],.bool false])
  |some (a,d)=>∃b,e=ε (.tuple #[.agg #[.bool a.neg,.string a.pred,b],.bool true])/\QD w.heap.size w' b a.args/\Rd w' r c l d
theorem Lz(w:World)(r:Nat)(d:Value)(l rest:List QA)(h:Rd w r d l rest)(m:l.length<=500)(t:(QR rest == 1)=false):
  Calls prog 142 #[(π r)] w fun e q=>lS none w r d l e q:=by
 have s:=h.lt;have i:w.heap.size≠r:=by omega
 go_enter func142,ntmps142;go_wp2_with (first|(go_at_call 179;refine(nk _ r d l rest (by exact h.below (by go_grown)) m).mono ?_;rintro e o ⟨rfl,c⟩;have b:=Q9 zT c;have f:=(Q6.new w _ _).below c;have j:=h.below b)|(go_at_call 143;refine(Rr _ r d l rest 1 (by exact j.below (by go_grown)) m (by decide)).mono ?_;rintro e x ⟨rfl,n,a⟩;have g:=(f.below zT).but a i;obtain⟨k,p⟩:=g.rules))
 have u:=(QH.of b).trans (((QH.refl r o).alloc _).trans a);exact zL (v:=.tuple #[.agg #[.bool false,.string ByteArray.empty,ν],.bool false]) (by simp[results,results142,go_sem,k];rfl) rfl ⟨(by repeat'(first|with_reducible(first|apply xR|assumption|apply xN|apply xA|apply xD|apply xS|apply xT)|go_size)),rfl⟩
theorem Hp(w:World)(r:Nat)(g:Value)(l rest:List QA)(h:Rd w r g l rest)(x:l.length<=500)(H:QR rest=1)(S:QR rest.tail≠4):
  Calls prog 142 #[(π r)] w fun e C=>lS (some (⟨false,(rest.headD (0,ByteArray.empty)).2,[]⟩,rest.tail)) w r g l e C:=by
 have Y:=h.lt;have p:w.heap.size≠r:=by omega
 generalize T:(rest.headD (0,ByteArray.empty)).2=t;have N:=Q5 T;have H1:=Q5 H;have B:Hid (∀W,Rd W r g l rest->Calls prog 179 #[(π r)] W fun e C=>e=ε (.agg #[ι 1,.string t])/\μ W C):=fun W P=>by
  have:=nk W r g l rest P x;rw[H,Hid.out N] at this;exact this
 have U:=Q5 S;go_enter func142,ntmps142;go_wp2_with (first|(go_at_call 179;refine(Hid.out B _ (by exact h.below (by go_grown))).mono ?_;rintro e u ⟨rfl,o⟩;have n:=Q9 zT o;have i:=(Q6.new w _ _).below o;have Q:=i.lt;have D:=h.below n;have M:r<u.heap.size:=(by omega);have c:u.heap.size≠r:=(by omega))|(go_at_call 143;have j:=m;refine(mq _ r g l rest.tail 4 j x (by decide) U).mono ?_;rintro e w3 ⟨rfl,q,a⟩;have s:=d.but a p;have k:=f.but a c;clear y F A z;obtain⟨E,Z⟩:=s.rules;obtain⟨aa,X⟩:=k.rules;have V:=s.lt;have K:=k.lt;have I:=q.lt;have R:=G.trans a;clear j)|(go_at_call 143;have j:=D;refine(kw _ r g l rest 1 (by exact j.below (by go_grown)) x (by decide) H1).mono ?_;rintro e w2 ⟨rfl,m,b⟩;have d:=(i.below zT).but b p;have f:=(Q6.new u _ _).but b c;obtain⟨y,F⟩:=d.rules;obtain⟨A,z⟩:=f.rules;have O:=d.lt;have J:=f.lt;have L:=m.lt;have G:=(QH.of n).trans (((QH.refl r u).alloc _).trans b);clear j))
 exact zL (v:=.tuple #[.agg #[.bool false,.string t,ν],.bool true]) (by simp[results,results142,go_sem,E]) rfl ⟨(by repeat'(first|with_reducible(first|apply xR|assumption|apply xN|apply xA|apply xD|apply xS|apply xT)|go_size)),_,rfl,QD.nil _,h.keep q (by go_grown)⟩
theorem Lw(w:World)(r:Nat)(k:Value)(l rest:List QA)(h:Rd w r k l rest)(z:l.length<=500)(Q:QR rest=1)(h4:QR rest.tail=4)(h5:yk rest.tail.tail=none):
  Calls prog 142 #[(π r)] w fun e G=>lS none w r k l e G:=by
 have ag:=h.lt;have i:w.heap.size≠r:=by omega
 obtain⟨t,X⟩:∃t,Hid ((rest.headD (0,ByteArray.empty)).2=t):=⟨_,rfl⟩;have H1:=Q5 Q;have F:Hid (∀W,Rd W r k l rest->Calls prog 179 #[(π r)] W fun e G=>e=ε (.agg #[ι 1,.string t])/\μ W G):=fun W hW=>by
  have:=nk W r k l rest hW z;rw[Q,Hid.out X] at this;exact this
 have H4:=Q5 h4;have H5:=Q5 h5;go_enter func142,ntmps142;go_wp2_with (first|(go_at_call 179;refine(Hid.out F _ (by exact h.below (by go_grown))).mono ?_;rintro e A ⟨rfl,x⟩;have s:=Q9 zT x;have o:=(Q6.new w _ _).below x;have aa:=o.lt;have H:=h.below s;have V:r<A.heap.size:=(by omega);have d:A.heap.size≠r:=(by omega))|(go_at_call 180;refine(MP _ r k l rest.tail.tail y z H5).mono ?_;rintro e w4 ⟨rfl,c⟩;have u:=m.but c i;have n:=f.but c d;clear I M O J;obtain⟨N,Y⟩:=u.rules;obtain⟨ab,ac⟩:=n.rules;have ae:=u.lt;have P:=n.lt;have ad:=B.trans c)|(go_at_call 143;have p:=q;refine(kw _ r k l rest.tail 4 p z (by decide) H4).mono ?_;rintro e w3 ⟨rfl,y,a⟩;have m:=g.but a i;have f:=j.but a d;clear C K E D;obtain⟨I,M⟩:=m.rules;obtain⟨O,J⟩:=f.rules;have af:=m.lt;have T:=f.lt;have R:=y.lt;have B:=L.trans a;clear p)|(go_at_call 143;have p:=H;refine(kw _ r k l rest 1 (by exact p.below (by go_grown)) z (by decide) H1).mono ?_;rintro e w2 ⟨rfl,q,b⟩;have g:=(o.below zT).but b i;have j:=(Q6.new A _ _).but b d;obtain⟨C,K⟩:=g.rules;obtain⟨E,D⟩:=j.rules;have Z:=g.lt;have S:=j.lt;have U:=q.lt;have L:=(QH.of s).trans (((QH.refl r A).alloc _).trans b);clear p))
 exact zL (v:=.tuple #[.agg #[.bool false,.string ByteArray.empty,ν],.bool false]) (by simp[results,results142,go_sem,N];rfl) rfl ⟨(by repeat'(first|with_reducible(first|apply xR|assumption|apply xN|apply xA|apply xD|apply xS|apply xT)|go_size)),rfl⟩
theorem Lv(w:World)(r:Nat)(i:Value)(l rest r2:List QA)(ts:κ)(h:Rd w r i l rest)(y:l.length<=500)(h1:QR rest=1)(h4:QR rest.tail=4)(h5:yk rest.tail.tail=some (ts,r2))(h6:QR r2≠5):
  Calls prog 142 #[(π r)] w fun e Y=>lS none w r i l e Y:=by
 have aq:=h.lt;have g:w.heap.size≠r:=by omega
 obtain⟨t,HT⟩:∃t,Hid ((rest.headD (0,ByteArray.empty)).2=t):=⟨_,rfl⟩;have H1:=Q5 h1;have X:Hid (∀W,Rd W r i l rest->Calls prog 179 #[(π r)] W fun e Y=>e=ε (.agg #[ι 1,.string t])/\μ W Y):=fun W hW=>by
  have:=nk W r i l rest hW y;rw[h1,Hid.out HT] at this;exact this
 have H4:=Q5 h4;have H5:=Q5 h5;have H6:=Q5 h6;go_enter func142,ntmps142;go_wp2_with (first|(go_at_call 179;refine(Hid.out X _ (by exact h.below (by go_grown))).mono ?_;rintro e F ⟨rfl,E⟩;have z:=Q9 zT E;have D:=(Q6.new w _ _).below E;have ar:=D.lt;have M:=h.below z;have aj:r<F.heap.size:=(by omega);have f:F.heap.size≠r:=(by omega))|(go_at_call 180;refine(CA _ r i l rest.tail.tail r2 ts u y H5).mono ?_;rintro e w4 ⟨va,rfl,C,A,d⟩;obtain⟨ao,cp,rfl⟩:=C.qx;have m:=n.but d g;have k:=o.but d f;clear Z aa T K;obtain⟨O,L⟩:=m.rules;obtain⟨G,Q⟩:=k.rules;have ak:=m.lt;have ab:=k.lt;have ad:=A.lt;have R:=P.trans d)|(go_at_call 143;have j:=A;refine(mq _ r i l r2 5 j y (by decide) H6).mono ?_;rintro e w5 ⟨rfl,U,c⟩;have s:=m.but c g;have x:=k.but c f;clear O L G Q;obtain⟨I,an⟩:=s.rules;obtain⟨au,ap⟩:=x.rules;have al:=s.lt;have ac:=x.lt;have af:=U.lt;have aw:=R.trans c;clear j)|(go_at_call 143;have j:=B;refine(kw _ r i l rest.tail 4 j y (by decide) H4).mono ?_;rintro e w3 ⟨rfl,u,b⟩;have n:=q.but b g;have o:=p.but b f;clear H S J V;obtain⟨Z,aa⟩:=n.rules;obtain⟨T,K⟩:=o.rules;have av:=n.lt;have ah:=o.lt;have ae:=u.lt;have P:=N.trans b;clear j)|(go_at_call 143;have j:=M;refine(kw _ r i l rest 1 (by exact j.below (by go_grown)) y (by decide) H1).mono ?_;rintro e w2 ⟨rfl,B,a⟩;have q:=(D.below zT).but a g;have p:=(Q6.new F _ _).but a f;obtain⟨H,S⟩:=q.rules;obtain⟨J,V⟩:=p.rules;have am:=q.lt;have ag:=p.lt;have ai:=B.lt;have N:=(QH.of z).trans (((QH.refl r F).alloc _).trans a);clear j))
 exact zL (v:=.tuple #[.agg #[.bool false,.string ByteArray.empty,ν],.bool false]) (by simp[results,results142,go_sem,I];rfl) rfl ⟨(by repeat'(first|with_reducible(first|apply xR|assumption|apply xN|apply xA|apply xD|apply xS|apply xT)|go_size)),rfl⟩
theorem Hw(w:World)(r:Nat)(i:Value)(l rest r2:List QA)(ts:κ)(h:Rd w r i l rest)(A:l.length<=500)(h1:QR rest=1)(h4:QR rest.tail=4)(h5:yk rest.tail.tail=some (ts,r2))(h6:QR r2=5):
  Calls prog 142 #[(π r)] w fun e w'=>lS (some (⟨false,(rest.headD (0,ByteArray.empty)).2,ts⟩,r2.tail)) w r i l e w':=by
 have ar:=h.lt;have g:w.heap.size≠r:=by omega
 generalize ht:(rest.headD (0,ByteArray.empty)).2=t;have HT:=Q5 ht;have H1:=Q5 h1;have Z:Hid (∀W,Rd W r i l rest->Calls prog 179 #[(π r)] W fun e w'=>e=ε (.agg #[ι 1,.string t])/\μ W w'):=fun W hW=>by
  have:=nk W r i l rest hW A;rw[h1,Hid.out HT] at this;exact this
 have H4:=Q5 h4;have H5:=Q5 h5;have H6:=Q5 h6;go_enter func142,ntmps142;go_wp2_with (first|(go_at_call 179;refine(Hid.out Z _ (by exact h.below (by go_grown))).mono ?_;rintro e H ⟨rfl,G⟩;have B:=Q9 zT G;have E:=(Q6.new w _ _).below G;have au:=E.lt;have P:=h.below B;have ak:r<H.heap.size:=(by omega);have f:H.heap.size≠r:=(by omega))|(go_at_call 180;refine(CA _ r i l rest.tail.tail r2 ts y A H5).mono ?_;rintro e w4 ⟨va,rfl,j,s,d⟩;obtain⟨ao,cp,rfl⟩:=j.qx;have n:=p.but d g;have m:=q.but d f;clear aa ab X N;obtain⟨R,O⟩:=n.rules;obtain⟨I,S⟩:=m.rules;have al:=n.lt;have ac:=m.lt;have ae:=s.lt;have T:=D.trans d)|(go_at_call 143;have k:=s;refine(kw _ r i l r2 5 k A (by decide) H6).mono ?_;rintro e w5 ⟨rfl,F,a⟩;have o:=n.but a g;have z:=m.but a f;clear R O I S;obtain⟨K,ap⟩:=o.rules;obtain⟨av,aq⟩:=z.rules;have am:=o.lt;have ad:=z.lt;have ag:=F.lt;have ax:=T.trans a;clear k)|(go_at_call 143;have k:=C;refine(kw _ r i l rest.tail 4 k A (by decide) H4).mono ?_;rintro e w3 ⟨rfl,y,c⟩;have p:=x.but c g;have q:=u.but c f;clear J U L Y;obtain⟨aa,ab⟩:=p.rules;obtain⟨X,N⟩:=q.rules;have aw:=p.lt;have ai:=q.lt;have af:=y.lt;have D:=Q.trans c;clear k)|(go_at_call 143;have k:=P;refine(kw _ r i l rest 1 (by exact k.below (by go_grown)) A (by decide) H1).mono ?_;rintro e w2 ⟨rfl,C,b⟩;have x:=(E.below zT).but b g;have u:=(Q6.new H _ _).but b f;obtain⟨J,U⟩:=x.rules;obtain⟨L,Y⟩:=u.rules;have an:=x.lt;have ah:=u.lt;have aj:=C.lt;have Q:=(QH.of B).trans (((QH.refl r H).alloc _).trans b);clear k))
 obtain⟨c4,f4,V⟩:=s.cell;have M:=j.but a V (by decide);exact zL (v:=.tuple #[.agg #[.bool false,.string t,.slice ao ts.length cp],.bool true]) (by simp[results,results142,go_sem,K]) rfl ⟨(by repeat'(first|with_reducible(first|apply xR|assumption|apply xN|apply xA|apply xD|apply xS|apply xT)|go_size)),_,rfl,(M.low D.size).but (r:=w.heap.size) (by repeat'(first|with_reducible(first|apply xR|assumption|apply xN|apply xA|apply xD|apply xS|apply xT)|go_size)) o (by decide),h.keep F (by go_grown)⟩
theorem Dp(w:World)(r:Nat)(a:Value)(l rest:List QA)(h:Rd w r a l rest)(c:l.length<=500):
  Calls prog 142 #[(π r)] w fun e k=>lS (yZ rest) w r a l e k:=by
 unfold yZ;split
 ·rename_i b;split
  ·rename_i d;split
   ·rename_i f;exact Lw w r a l rest h c b d f
   ·rename_i i j f;split
    ·rename_i g;exact Hw w r a l rest j i h c b d f g
    ·rename_i g;exact Lv w r a l rest j i h c b d f g
  ·rename_i d;exact Hp w r a l rest h c b d
 ·rename_i b;exact Lz w r a l rest h c (by simpa using b)
theorem Fl(w:World)(r:Nat)(c:Value)(l rest:List QA)(h:Rd w r c l rest)(f:l.length<=500)(d:yZ rest=none):
  Calls prog 142 #[(π r)] w fun e a=>e=ε (.tuple #[.agg #[.bool false,.string ByteArray.empty,ν],.bool false])/\QH r w a:=by
 refine(Dp w r c l rest h f).mono ?_;rintro e a ⟨g,b⟩;rw[d] at b;exact⟨b,g⟩
theorem pi(w:World)(r:Nat)(f:Value)(l rest r2:List QA)(a:zj)(h:Rd w r f l rest)(k:l.length<=500)(j:yZ rest=some (a,r2)):
  Calls prog 142 #[(π r)] w fun e d=>∃i,e=ε (.tuple #[.agg #[.bool a.neg,.string a.pred,i],.bool true])/\QD w.heap.size d i a.args/\Rd d r f l r2/\QH r w d:=by
 refine(Dp w r f l rest h k).mono ?_;rintro e d ⟨m,g⟩;rw[j] at g;obtain⟨v,a,b,c⟩:=g;exact⟨v,a,b,c,m⟩
theorem Ba(b:Bool)(w:World)(r:Nat)(g:Value)(l rest a:List QA)(h:Rd w r g l rest)(x:l.length<=500)
  (m:∀W,Rd W r g l rest->Calls prog 143 #[(π r),ι 8] W fun e f=>e=ε (.bool b)/\Rd f r g l a/\QH r W f) (t:yZ a=none):
  Calls prog 181 #[(π r)] w fun e f=>lS none w r g l e f:=by
 have C:=h.lt;have j:w.heap.size≠r:=by omega
 have s:Hid (∀W,Rd W r g l rest->Calls prog 143 #[(π r),ι 8] W fun e f=>e=ε (.bool b)/\Rd f r g l a/\QH r W f):=m;clear m;have z:Hid (yZ a=none):=t;clear t;go_enter func181,ntmps181;go_wp2_with (first|(go_at_call 143;refine(Hid.out s _ (by exact h.below (by go_grown))).mono ?_;rintro e E ⟨rfl,k,c⟩;have i:=(Q6.new w _ _).but c j;have y:=i.lt;have u:=k.lt;have q:=((QH.refl r w).alloc _).trans c)|(go_at_call 142;refine(Fl _ r g l a k x z).mono ?_;rintro e D ⟨rfl,d⟩;have o:=i.but d j;obtain⟨p,A,n⟩:=o.boxed;have B:=q.trans d))
 exact zL (v:=.tuple #[.agg #[.bool false,.string ByteArray.empty,ν],.bool false]) (by simp[results,results181,go_sem,p,n];rfl) rfl ⟨(by repeat'(first|with_reducible(first|apply xR|assumption|apply xN|apply xA|apply xD|apply xS|apply xT)|go_size)),rfl⟩
theorem B4(b:Bool)(w:World)(r:Nat)(j:Value)(l rest c r2:List QA)(a:zj)(h:Rd w r j l rest)(A:l.length<=500)
  (q:∀W,Rd W r j l rest->Calls prog 143 #[(π r),ι 8] W fun e i=>e=ε (.bool b)/\Rd i r j l c/\QH r W i) (y:yZ c=some (a,r2)):
  Calls prog 181 #[(π r)] w fun e i=>lS (some ({a with neg:=b},r2)) w r j l e i:=by
 have H:=h.lt;have o:w.heap.size≠r:=by omega
 have x:Hid (∀W,Rd W r j l rest->Calls prog 143 #[(π r),ι 8] W fun e i=>e=ε (.bool b)/\Rd i r j l c/\QH r W i):=q;clear q;have E:Hid (yZ c=some (a,r2)):=y;clear y;go_enter func181,ntmps181;go_wp2_with (first|(go_at_call 143;refine(Hid.out x _ (by exact h.below (by go_grown))).mono ?_;rintro e J ⟨rfl,p,d⟩;have k:=(Q6.new w _ _).but d o;have B:=k.lt;have z:=p.lt;have n:=((QH.refl r w).alloc _).trans d)|(go_at_call 142;refine(pi _ r j l c r2 a p A E).mono ?_;rintro e I ⟨K,rfl,g,t,f⟩;obtain⟨D,C,rfl⟩:=g.qx;have m:=k.but f o;obtain⟨u,F,s⟩:=m.boxed;have G:=n.trans f))
 exact zL (v:=.tuple #[.agg #[.bool b,.string a.pred,.slice D a.args.length C],.bool true]) (by simp[results,results181,go_sem,u,s]) rfl ⟨(by repeat'(first|with_reducible(first|apply xR|assumption|apply xN|apply xA|apply xD|apply xS|apply xT)|go_size)),_,rfl,(g.low n.size).but (r:=w.heap.size) (by repeat'(first|with_reducible(first|apply xR|assumption|apply xN|apply xA|apply xD|apply xS|apply xT)|go_size)) m (by decide),h.keep t (by go_grown)⟩
theorem Ho{rest r2:List QA}{a:zj}(h:yZ rest=some (a,r2)):a.neg=false:=by
 unfold yZ at h
 (repeat' split at h)<;>first|(cases h;done)|(simp at h;obtain⟨rfl,_⟩:=h;rfl)
theorem An(w:World)(r:Nat)(b:Value)(l rest:List QA)(h:Rd w r b l rest)(c:l.length<=500):
  Calls prog 181 #[(π r)] w fun e j=>lS (uC rest) w r b l e j:=by
 unfold uC;split
 ·rename_i g;cases f:yZ rest.tail with
  |none=>exact Ba true w r b l rest rest.tail h c (fun W d=>kw W r b l rest 8 d c (by decide) g) f
  |some z=>obtain⟨a,i⟩:=z;exact B4 true w r b l rest rest.tail i a h c (fun W d=>kw W r b l rest 8 d c (by decide) g) f
 ·rename_i g;cases f:yZ rest with
  |none=>exact Ba false w r b l rest rest h c (fun W d=>mq W r b l rest 8 d c (by decide) g) f
  |some z=>
   obtain⟨a,i⟩:=z;have:=B4 false w r b l rest rest i a h c (fun W d=>mq W r b l rest 8 d c (by decide) g) f;rwa [show({a with neg:=false}:zj)=a by rw[←Ho f]] at this
end
section
open Go.Proofs.Tryz
variable {lo:Nat}{v:Value}{n:Nat}{w:World}{r r2:List QA}{a:zj}{o:Option (List zj×List QA)}
theorem gC{f C:World}{b z:Nat}{e q:TypeId}{s D:Nat}{v2:Value}{A:Nat}{xs d:List Value}(I:f.ownsRow b e s v n xs)(l:e≠q)(h:f.ownsRow z q D v2 A d)
  (F:∀k,k<f.heap.size->some k≠v.ownBlock->C.heap[k]?=f.heap[k]?):C.ownsRow z q D v2 A d:=by
 obtain⟨H,j⟩:=h;refine⟨H,?_⟩;rcases j with j|⟨g,x,m,u,G,y,J⟩
 ·exact zf j
 ·refine zb ⟨g,x,m,u,G,?_,J⟩;rw[F g (kQ.1 y).1 ?_]
  ·exact y
  ·intro i;obtain⟨_,⟨p,_⟩|⟨K,E,B,t,_,c,_⟩⟩:=I
   ·subst p;cases i
   ·subst t;simp only[Value.ownBlock,zt] at i;subst i;rw[y] at c;simp at c;exact l c.2.symm
def uI(lo:Nat)(w:World):List zj->List Value->Prop
 |[],b=>b=[]
 |a::d,b=>∃c r,b=.bool a.neg::.string a.pred::c::r/\QD lo w c a.args/\uI lo w d r
theorem uI.snoc{w:World}{a:zj}{b:Value}(hs:QD lo w b a.args):∀{c:List zj} {xs:List Value},uI lo w c xs->uI lo w (c++[a]) (xs++[.bool a.neg,.string a.pred,b])
 |[],_,h=>by simp only[uI] at h;subst h;exact⟨b,[],rfl,hs,rfl⟩
 |_::c,_,h=>by obtain⟨v,r,rfl,d,e⟩:=h;exact⟨v,r++[.bool a.neg,.string a.pred,b],rfl,d,uI.snoc hs e⟩
theorem uI.mono{w w':World}(c:∀d l,QD lo w d l->QD lo w' d l):∀{b:List zj} {xs:List Value},uI lo w b xs->uI lo w' b xs
 |[],_,h=>h
 |_::b,_,h=>by obtain⟨v,r,rfl,e,f⟩:=h;exact⟨v,r,rfl,c _ _ e,uI.mono c f⟩
theorem uI.at{w:World}:∀{c:List zj} {xs:List Value} (i:Nat) (a:zj),uI lo w c xs->c[i]?=some a->∃d,xs[i*3]?=some (.bool a.neg)/\xs[i*3+1]?=some (.string a.pred)/\xs[i*3+2]?=some d/\QD lo w d a.args
 |[],_,i,a,_,b=>by simp at b
 |_::c,_,0,a,h,b=>by obtain⟨v,r,rfl,e,f⟩:=h;simp at b;subst b;exact⟨v,rfl,rfl,rfl,e⟩
 |_::c,_,i+1,a,h,b=>by
  obtain⟨v,r,rfl,e,f⟩:=h;obtain⟨d,k,l,g,j⟩:=uI.at i a f (by simpa using b);refine⟨d,?_,?_,?_,j⟩
  ·rw[show(i+1)*3=i*3+1+1+1 from by omega];simpa using k
  ·rw[show(i+1)*3+1=i*3+1+1+1+1 from by omega];simpa using l
  ·rw[show(i+1)*3+2=i*3+2+1+1+1 from by omega];simpa using g
def Re(lo:Nat)(w:World)(v:Value)(b:List zj):Prop:=∃c,w.ownsRow lo 90 3 v b.length c/\uI lo w b c
theorem uI.low{a b:Nat}{w:World}(c:a<=b):∀{d:List zj} {xs:List Value},uI b w d xs->uI a w d xs
 |[],_,h=>h
 |_::d,_,h=>by obtain⟨v,r,rfl,e,f⟩:=h;exact⟨v,r,rfl,e.low c,uI.low c f⟩
theorem Re.low{a b:Nat}{w:World}{v:Value}{l:List zj}(h:Re b w v l)(c:a<=b):Re a w v l:=by obtain⟨e,h,d⟩:=h;exact⟨e,yr h c,d.low c⟩
theorem Re.nil(w:World):Re lo w (ν) []:=⟨[],yC _ _ _ _,rfl⟩
theorem Re.qx{l:List zj}(h:Re lo w v l):∃c b,v=.slice c l.length b:=by obtain⟨d,h,_⟩:=h;exact zp h
theorem Re.below{w w':World}{v:Value}{l:List zj}(h:Re lo w v l)(b:μ w w'):Re lo w' v l:=by
 obtain⟨d,h,c⟩:=h;exact⟨d,zB h b,c.mono fun _ _ k=>k.below b⟩
theorem Re.but{r:Nat}{w w':World}{v:Value}{l:List zj}(h:Re lo w v l)(d:QH r w w'){c:Array Value}{T:TypeId}{f:Nat×Nat}(e:w.heap[r]?=some (.cells c T f))(j:T≠9)(b:T≠90):Re lo w' v l:=by
 obtain⟨i,h,g⟩:=h;exact⟨i,xO h d e b,g.mono fun _ _ k=>k.but d e j⟩
def xJ:Nat->List QA->Option (List zj×List QA)
 |0,_=>none
 |n+1,r=>match uC r with
  |none=>none
  |some (a,r2)=>if QR r2=6 then(xJ n r2.tail).map fun z=>(a::z.1,z.2) else some ([a],r2)
theorem rY(h:uC r=none):xJ (n+1) r=none:=by simp[xJ,h]
theorem pD(h:uC r=some (a,r2))(b:QR r2=6):xJ (n+1) r=(xJ n r2.tail).map fun z=>(a::z.1,z.2):=by simp[xJ,h,b]
theorem pG(h:uC r=some (a,r2))(b:QR r2≠6):xJ (n+1) r=some ([a],r2):=by simp[xJ,h,b]
theorem EV:∀(r:List QA) {ts:κ} {r2:List QA},yk r=some (ts,r2)->r2.length<r.length
 |[],_,_,h=>by simp[yk] at h
 |[x],ts,r2,h=>by
  simp only[yk] at h;split at h<;>simp at h
  obtain⟨_,rfl⟩:=h;simp
 |x::y::r,ts,r2,h=>by
  simp only[yk] at h;split at h
  ·split at h
   ·cases b:yk r with
    |none=>rw[b] at h;simp at h
    |some z=>
     obtain⟨c,d⟩:=z;rw[b] at h;simp at h;have:=EV r b;obtain⟨_,rfl⟩:=h;simp;omega
   ·simp at h;obtain⟨_,rfl⟩:=h;simp
  ·simp at h
theorem tQ(h:yZ r=some (a,r2)):r2.length<r.length:=by
 cases r with
 |nil=>simp[yZ,QR] at h
 |cons x r=>
  unfold yZ at h;split at h
  ·split at h
   ·split at h
    ·simp at h
    ·rename_i c d b;have:=EV _ b;split at h<;>simp at h
     obtain⟨_,rfl⟩:=h;simp at this ⊢;omega
   ·simp at h;obtain⟨_,rfl⟩:=h;simp
  ·simp at h
theorem Eb(h:uC r=some (a,r2)):r2.length<r.length:=by
 unfold uC at h;split at h
 ·cases b:yZ r.tail with
  |none=>rw[b] at h;simp at h
  |some z=>
   obtain⟨c,d⟩:=z;rw[b] at h;simp at h;have:=tQ b;obtain⟨_,rfl⟩:=h;simp at this;omega
 ·exact tQ h
theorem Lp(w:World)(r:Nat)(d:Value)(l rest:List QA)(h:Rd w r d l rest)(g:l.length<=500)(f:uC rest=none):
  Calls prog 181 #[(π r)] w fun e b=>e=ε (.tuple #[.agg #[.bool false,.string ByteArray.empty,ν],.bool false])/\QH r w b:=by
 refine(An w r d l rest h g).mono ?_;rintro e b ⟨i,c⟩;rw[f] at c;exact⟨c,i⟩
theorem Ld(w:World)(r:Nat)(f:Value)(l rest r2:List QA)(a:zj)(h:Rd w r f l rest)(k:l.length<=500)(j:uC rest=some (a,r2)):
  Calls prog 181 #[(π r)] w fun e d=>∃i,e=ε (.tuple #[.agg #[.bool a.neg,.string a.pred,i],.bool true])/\QD w.heap.size d i a.args/\Rd d r f l r2/\QH r w d:=by
 refine(An w r f l rest h k).mono ?_;rintro e d ⟨m,g⟩;rw[j] at g;obtain⟨v,a,b,c⟩:=g;exact⟨v,a,b,c,m⟩
theorem Q2:(prog.info? 90).map (fun i=>(i.zero,i.size,i.bytes))=some (some (.agg #[.bool false,.string ByteArray.empty,ν]),3,48):=by kernel_rfl
def oJ(o:Option (List zj×List QA))(w:World)(r:Nat)(b:Value)(l:List QA)(e:Ending)(w':World):Prop:=
 QH r w w'/\match o with
  |none=>e=ε (.tuple #[ν,.bool false])
  |some (c,r2)=>∃v,e=ε (.tuple #[v,.bool true])/\Re w.heap.size w' v c/\Rd w' r b l r2
theorem Nq{w':World}{r:Nat}{b:Value}{l:List QA}(h:Hid (o=none))(d:QH r w w'):oJ o w r b l (ε (.tuple #[ν,.bool false])) w':=by
 have c:o=none:=h;subst c;exact⟨d,rfl⟩
theorem JS{w':World}{r:Nat}{c:Value}{l:List QA}{b:List zj}(h:Hid (o=some (b,r2)))(d:QH r w w')(hs:Re w.heap.size w' v b)(f:Rd w' r c l r2):
  oJ o w r c l (ε (.tuple #[v,.bool true])) w':=by
 have e:o=some (b,r2):=h;subst e;exact⟨d,v,rfl,hs,f⟩
theorem DZ(w:World)(r:Nat)(G:Value)(l rest:List QA)(h:Rd w r G l rest)(T:l.length<=500)(F:Nat)(W:rest.length<F):
  Calls prog 144 #[(π r)] w fun e w'=>oJ (xJ F rest) w r G l e w':=by
 obtain⟨i0,hi,Y,ah,Z⟩:=info_parts Q2;have an:=h.lt;go_enter func144,ntmps144;go_wp2;go_loopg [4,5] (rest.length) (fun n v t wr=>∃(g:List zj) (b:List QA) (more:Bool) (m:Nat) (V:List Value),t=.bool more/\b.length<=n/\b.length<m/\b.length+g.length<=rest.length ∧
   wr.ownsRow w.heap.size 90 3 v g.length V/\uI w.heap.size wr g V/\Rd wr r G l b/\QH r w wr ∧
   Hid (more=true->xJ F rest=(xJ m b).map fun z=>(g++z.1,z.2))/\Hid (more=false->xJ F rest=some (g,b)))
 case atStart=>exact⟨[],rest,true,F,[],rfl,zg _,W,by simp,yC _ _ _ _,rfl,h,QH.refl _ _,(fun _=>by simp),(fun h=>by cases h)⟩
 case round=>
  obtain⟨g,b,more,m,V,rfl,hn,hm,am,A,L,u,j,Q,R⟩:=hrel;have al:rest.length<=l.length:=by
   obtain⟨p,_,hp,_⟩:=h.box;rw[hp];simp
  have ab:=j.size;obtain⟨c0,f0,i⟩:=u.cell;cases more with
  |false=>
   have E:=Q5 (R rfl);clear Q R;go_wp2;go_ret2
   exact JS E j ⟨_,A,L⟩ u
  |true=>
   obtain⟨m,rfl⟩:∃m',m=m'+1:=⟨m-1,by omega⟩;have HC:=Q5 i;cases H:uC b with
   |none=>
    have E:Hid (xJ F rest=none):=by rw[Hid.out Q rfl,rY H];simp[Hid]
    have S:=Q5 H;clear Q R H;go_wp2_with (go_at_call 181;refine(Lp _ r G l b u T S).mono ?_;rintro e w1 ⟨rfl,c⟩;have s:=j.trans c;have X:=s.size)
    go_ret2
    exact Nq E (by repeat'(first|with_reducible(first|apply xR|assumption|apply xN|apply xA|apply xD|apply xS|apply xT)|go_size))
   |some z=>
    obtain⟨a,r2⟩:=z;have S:=Q5 H;have ak:=Eb H;have E:=Q5 (Q rfl);clear Q R H;go_wp2_with (first|(go_at_call 181;refine(Ld _ r G l b r2 a u T S).mono ?_;rintro e w1 ⟨va,rfl,B,ae,c⟩;obtain⟨ao,cp,rfl⟩:=B.qx;have s:=j.trans c;have X:=s.size;have D:=xO A c i (by decide);have M:=L.mono fun _ _ k=>k.but c i (by decide))|(at_builtin;refine ks w1 _ _ _ rfl (.tmp 16) (.tmp 18) 91 rfl w.heap.size 90 i0 _ 3 48 underlying91 hi Y ah Z rfl (by decide) _ _ _ rfl D zT _ _ rfl (by simp) rfl (by simp[Value.oneCell']) (by omega) (by omega) (by omega) ?_;intro v' w2 ag O aa af K aj;clear aa af;have x:=Rd.keep h ae O;have C:=s.onto O;have ai:QD w.heap.size w2 (Value.slice ao a.args.length cp) a.args:=yr (gC D (by decide) B K) ab;have J:=M.mono fun _ _ k=>gC D (by decide) k K;have P:=Rr w2 r G l r2 6 x T (by decide))|(go_at_call 143;refine P.mono ?_;rintro e w3 ⟨rfl,I,d⟩;clear P))
    obtain⟨c3,f3,f⟩:=x.cell;have U:=xO ag d f (by decide);have ac:=ai.but d f (by decide);have N:=J.mono fun _ _ k=>k.but d f (by decide);have ad:(if QR r2=6 then r2.tail else r2).length<=r2.length:=by split<;>simp
    have y:uC b=some (a,r2):=S;go_roundg r2.length
    case measure=>omega
    case rel=>
     refine⟨g++[a],(if QR r2=6 then r2.tail else r2),(QR r2 == 6),m,_,rfl,ad,by omega,by simp;omega,by rw[yp];exact U,N.snoc ac,I,C.trans d,?_,?_⟩
     ·intro h6;have q:QR r2=6:=by simpa using h6
      rw[zc q,Hid.out E,pD y q,Fh]
     ·intro h6;have q:QR r2≠6:=by simpa using h6
      rw[za q,Hid.out E,pG y q];simp
end
section
open Go.Proofs.Tryz
variable {lo:Nat}
def vh(n:Nat)(r:List QA):Option (zd×List QA):=
 match yZ r with
 |none=>none
 |some (a,c)=>
  if QR c=9 then
   match xJ n c.tail with
   |none=>none
   |some (b,d)=>if QR d=7 then some (⟨a,b⟩,d.tail) else none
  else if QR c=7 then some (⟨a,[]⟩,c.tail) else none
theorem MQ(w:World)(r:Nat)(f:Value)(l rest:List QA)(h:Rd w r f l rest)(i:l.length<=500)(b:Nat)(a:rest.length<b)(g:xJ b rest=none):
  Calls prog 144 #[(π r)] w fun e c=>e=ε (.tuple #[ν,.bool false])/\QH r w c:=by
 refine(DZ w r f l rest h i b a).mono ?_;rintro e c ⟨j,d⟩;rw[g] at d;exact⟨d,j⟩
theorem Bh(w:World)(r:Nat)(g:Value)(l rest r2:List QA)(b:List zj)(h:Rd w r g l rest)(m:l.length<=500)(i:Nat)(f:rest.length<i)(k:xJ i rest=some (b,r2)):
  Calls prog 144 #[(π r)] w fun e d=>∃v,e=ε (.tuple #[v,.bool true])/\Re w.heap.size d v b/\Rd d r g l r2/\QH r w d:=by
 refine(DZ w r g l rest h m i f).mono ?_;rintro e d ⟨n,j⟩;rw[k] at j;obtain⟨v,a,b,c⟩:=j;exact⟨v,a,b,c,n⟩
def nr(o:Option (zd×List QA))(w:World)(r:Nat)(f:Value)(l:List QA)(e:Ending)(w':World):Prop:=
 QH r w w'/\match o with
  |none=>e=ε (.tuple #[.agg #[.bool false,.string ByteArray.empty,ν,ν],.bool false])
  |some (c,d)=>∃b a,e=ε (.tuple #[.agg #[.bool c.head.neg,.string c.head.pred,b,a],.bool true])/\QD w.heap.size w' b c.head.args/\Re w.heap.size w' a c.body/\Rd w' r f l d
theorem Ow(w:World)(r:Nat)(f:Value)(l rest:List QA)(h:Rd w r f l rest)(j:l.length<=500)(m:yZ rest=none):
  Calls prog 100 #[(π r)] w fun e o=>nr none w r f l e o:=by
 have p:=h.lt;have c:w.heap.size≠r:=by omega
 have n:=Q5 m;go_enter func100,ntmps100;go_wp2_with (go_at_call 142;refine(Fl _ r f l rest (by exact h.below (by go_grown)) j n).mono ?_;rintro e q ⟨rfl,a⟩;have b:=(Q6.new w _ _).but a c;obtain⟨g,k,d⟩:=b.boxed;have i:=((QH.refl r w).alloc _).trans a)
 exact zL (v:=.tuple #[.agg #[.bool false,.string ByteArray.empty,ν,ν],.bool false]) (by simp[results,results100,go_sem,g,d];rfl) rfl ⟨(by repeat'(first|with_reducible(first|apply xR|assumption|apply xN|apply xA|apply xD|apply xS|apply xT)|go_size)),rfl⟩
theorem MS(w:World)(r:Nat)(y:Value)(l rest:List QA)(h:Rd w r y l rest)(A:l.length<=500)(q:List QA)(a:zj)(ha:yZ rest=some (a,q))(h9:QR q≠9)(V:QR q≠7):
  Calls prog 100 #[(π r)] w fun e X=>nr none w r y l e X:=by
 have ac:=h.lt;have m:w.heap.size≠r:=by omega
 have W:=Q5 ha;have H9:=Q5 h9;have Y:=Q5 V;go_enter func100,ntmps100;go_wp2_with (first|(go_at_call 142;refine(pi _ r y l rest q a (by exact h.below (by go_grown)) A W).mono ?_;rintro e I ⟨va,rfl,x,o,g⟩;obtain⟨U,T,rfl⟩:=x.qx;have s:=(Q6.new w _ _).but g m;have R:=s.lt;have P:=o.lt;have i:I.heap.size≠r:=(by omega);have C:=((QH.refl r w).alloc _).trans g)|(go_at_call 143;have p:=u;refine(mq _ r y l q 7 p A (by decide) Y).mono ?_;rintro e w3 ⟨rfl,G,b⟩;obtain⟨c7,f7,f⟩:=p.cell;have Z:=D.but b f (by decide);have z:=j.but b m;have t:=n.but b i;clear B J F E;obtain⟨H,ad⟩:=z.rules;obtain⟨ae,ab⟩:=t.rules;have aa:=z.lt;have N:=t.lt;have L:=G.lt;have S:=K.trans b;clear p f)|(go_at_call 143;have p:=o;refine(mq _ r y l q 9 (by exact p.below (by go_grown)) A (by decide) H9).mono ?_;rintro e w2 ⟨rfl,u,c⟩;have k:=(QH.refl r I).alloc (Obj.cells #[.bool a.neg,.string a.pred,.slice U a.args.length T] 90);obtain⟨c1,f1,d⟩:=o.cell;have D:=x.but (k.trans c) d (by decide);have j:=(s.below zT).but c m;have n:=(Q6.new I _ _).but c i;obtain⟨B,J⟩:=j.rules;obtain⟨F,E⟩:=n.rules;have Q:=j.lt;have M:=n.lt;have O:=u.lt;have K:=C.trans (k.trans c);clear p k d))
 exact zL (v:=.tuple #[.agg #[.bool false,.string ByteArray.empty,ν,ν],.bool false]) (by simp[results,results100,go_sem,H];rfl) rfl ⟨(by repeat'(first|with_reducible(first|apply xR|assumption|apply xN|apply xA|apply xD|apply xS|apply xT)|go_size)),rfl⟩
theorem G2(w:World)(r:Nat)(A:Value)(l rest:List QA)(h:Rd w r A l rest)(B:l.length<=500)(p:List QA)(a:zj)(ha:yZ rest=some (a,p))(h9:QR p≠9)(W:QR p=7):
  Calls prog 100 #[(π r)] w fun e Y=>nr (some (⟨a,[]⟩,p.tail)) w r A l e Y:=by
 have ac:=h.lt;have m:w.heap.size≠r:=by omega
 have X:=Q5 ha;have H9:=Q5 h9;have Z:=Q5 W;go_enter func100,ntmps100;go_wp2_with (first|(go_at_call 142;refine(pi _ r A l rest p a (by exact h.below (by go_grown)) B X).mono ?_;rintro e J ⟨va,rfl,y,o,g⟩;obtain⟨N,M,rfl⟩:=y.qx;have t:=(Q6.new w _ _).but g m;have U:=t.lt;have S:=o.lt;have i:J.heap.size≠r:=(by omega);have D:=((QH.refl r w).alloc _).trans g)|(go_at_call 143;have s:=x;refine(kw _ r A l p 7 s B (by decide) Z).mono ?_;rintro e w3 ⟨rfl,z,b⟩;obtain⟨c7,f7,f⟩:=s.cell;have H:=E.but b f (by decide);have q:=j.but b m;have u:=n.but b i;clear C K G F;obtain⟨I,ad⟩:=q.rules;obtain⟨ae,ab⟩:=u.rules;have aa:=q.lt;have Q:=u.lt;have O:=z.lt;have V:=L.trans b;clear s f)|(go_at_call 143;have s:=o;refine(mq _ r A l p 9 (by exact s.below (by go_grown)) B (by decide) H9).mono ?_;rintro e w2 ⟨rfl,x,c⟩;have k:=(QH.refl r J).alloc (Obj.cells #[.bool a.neg,.string a.pred,.slice N a.args.length M] 90);obtain⟨c1,f1,d⟩:=o.cell;have E:=y.but (k.trans c) d (by decide);have j:=(t.below zT).but c m;have n:=(Q6.new J _ _).but c i;obtain⟨C,K⟩:=j.rules;obtain⟨G,F⟩:=n.rules;have T:=j.lt;have P:=n.lt;have R:=x.lt;have L:=D.trans (k.trans c);clear s k d))
 exact zL (v:=.tuple #[.agg #[.bool a.neg,.string a.pred,.slice N a.args.length M,ν],.bool true]) (by simp[results,results100,go_sem,I]) rfl ⟨(by repeat'(first|with_reducible(first|apply xR|assumption|apply xN|apply xA|apply xD|apply xS|apply xT)|go_size)),_,_,rfl,(H.low (by first|(simp;done)|omega)).but (r:=w.heap.size) (by repeat'(first|with_reducible(first|apply xR|assumption|apply xN|apply xA|apply xD|apply xS|apply xT)|go_size)) q (by decide),Re.nil _,h.keep z (by go_grown)⟩
theorem Ox(w:World)(r:Nat)(u:Value)(l rest:List QA)(h:Rd w r u l rest)(y:l.length<=500)(o:List QA)(a:zj)(D:Nat)(ha:yZ rest=some (a,o))(Z:QR o=9)(W:o.tail.length<D)(U:xJ D o.tail=none):
  Calls prog 100 #[(π r)] w fun e X=>nr none w r u l e X:=by
 have ab:=h.lt;have k:w.heap.size≠r:=by omega
 have V:=Q5 ha;have H9:=Q5 Z;have Q:=Q5 W;have HB:=Q5 U;go_enter func100,ntmps100;go_wp2_with (first|(go_at_call 142;refine(pi _ r u l rest o a (by exact h.below (by go_grown)) y V).mono ?_;rintro e F ⟨va,rfl,t,n,f⟩;obtain⟨T,R,rfl⟩:=t.qx;have p:=(Q6.new w _ _).but f k;have O:=p.lt;have M:=n.lt;have g:F.heap.size≠r:=(by omega);have A:=((QH.refl r w).alloc _).trans f)|(go_at_call 144;refine(MQ _ r u l o.tail s y D Q HB).mono ?_;rintro e w3 ⟨rfl,c⟩;have x:=i.but c k;have q:=m.but c g;clear z G C B;obtain⟨E,ac⟩:=x.rules;obtain⟨ad,aa⟩:=q.rules;have Y:=x.lt;have K:=q.lt;have P:=H.trans c)|(go_at_call 143;have I:=n;refine(kw _ r u l o 9 (by exact I.below (by go_grown)) y (by decide) H9).mono ?_;rintro e w2 ⟨rfl,s,b⟩;have j:=(QH.refl r F).alloc (Obj.cells #[.bool a.neg,.string a.pred,.slice T a.args.length R] 90);obtain⟨c1,f1,d⟩:=n.cell;have S:=t.but (j.trans b) d (by decide);have i:=(p.below zT).but b k;have m:=(Q6.new F _ _).but b g;obtain⟨z,G⟩:=i.rules;obtain⟨C,B⟩:=m.rules;have N:=i.lt;have J:=m.lt;have L:=s.lt;have H:=A.trans (j.trans b);clear I j d))
 exact zL (v:=.tuple #[.agg #[.bool false,.string ByteArray.empty,ν,ν],.bool false]) (by simp[results,results100,go_sem,E];rfl) rfl ⟨(by repeat'(first|with_reducible(first|apply xR|assumption|apply xN|apply xA|apply xD|apply xS|apply xT)|go_size)),rfl⟩
theorem PN(w:World)(r:Nat)(z:Value)(l rest:List QA)(h:Rd w r z l rest)(G:l.length<=500)(s r2:List QA)(a:zj)(b:List zj)(T:Nat)(ha:yZ rest=some (a,s))(h9:QR s=9)(hn:s.tail.length<T)(hb:xJ T s.tail=some (b,r2))(h7:QR r2≠7):
  Calls prog 100 #[(π r)] w fun e w'=>nr none w r z l e w':=by
 have ak:=h.lt;have n:w.heap.size≠r:=by omega
 have HA:=Q5 ha;have H9:=Q5 h9;have HN:=Q5 hn;have HB:=Q5 hb;have H7:=Q5 h7;go_enter func100,ntmps100;go_wp2_with (first|(go_at_call 142;refine(pi _ r z l rest s a (by exact h.below (by go_grown)) G HA).mono ?_;rintro e O ⟨va,rfl,D,q,m⟩;obtain⟨ao,cp,rfl⟩:=D.qx;have F:=(Q6.new w _ _).but m n;have am:=F.lt;have af:=q.lt;have k:O.heap.size≠r:=(by omega);have K:=((QH.refl r w).alloc _).trans m)|(go_at_call 144;refine(Bh _ r z l s.tail r2 b t G T HN HB).mono ?_;rintro e w3 ⟨vb,rfl,L,E,d⟩;obtain⟨al,aq,rfl⟩:=L.qx;obtain⟨c3,f3,j⟩:=t.cell;have M:=R.but d j (by decide);have o:=y.but d n;have p:=x.but d k;clear H U I W;obtain⟨X,Y⟩:=o.rules;obtain⟨V,J⟩:=p.rules;have ar:=o.lt;have ad:=p.lt;have ab:=E.lt;have S:=P.trans d;clear j)|(go_at_call 143;have A:=E;refine(mq _ r z l r2 7 A G (by decide) H7).mono ?_;rintro e w4 ⟨rfl,N,f⟩;obtain⟨c7,f7,g⟩:=A.cell;have au:=M.but f g (by decide);have C:=o.but f n;have B:=p.but f k;clear X Y V J;obtain⟨Q,aj⟩:=C.rules;obtain⟨ag,an⟩:=B.rules;have ah:=C.lt;have Z:=B.lt;have aa:=N.lt;have ap:=S.trans f;clear A g)|(go_at_call 143;have A:=q;refine(kw _ r z l s 9 (by exact A.below (by go_grown)) G (by decide) H9).mono ?_;rintro e w2 ⟨rfl,t,c⟩;have u:=(QH.refl r O).alloc (Obj.cells #[.bool a.neg,.string a.pred,.slice ao a.args.length cp] 90);obtain⟨c1,f1,i⟩:=q.cell;have R:=D.but (u.trans c) i (by decide);have y:=(F.below zT).but c n;have x:=(Q6.new O _ _).but c k;obtain⟨H,U⟩:=y.rules;obtain⟨I,W⟩:=x.rules;have ai:=y.lt;have ac:=x.lt;have ae:=t.lt;have P:=K.trans (u.trans c);clear A u i))
 exact zL (v:=.tuple #[.agg #[.bool false,.string ByteArray.empty,ν,ν],.bool false]) (by simp[results,results100,go_sem,Q];rfl) rfl ⟨(by repeat'(first|with_reducible(first|apply xR|assumption|apply xN|apply xA|apply xD|apply xS|apply xT)|go_size)),rfl⟩
theorem GI(w:World)(r:Nat)(A:Value)(l rest:List QA)(h:Rd w r A l rest)(I:l.length<=500)(t r2:List QA)(a:zj)(b:List zj)(W:Nat)(ha:yZ rest=some (a,t))(h9:QR t=9)(hn:t.tail.length<W)(hb:xJ W t.tail=some (b,r2))(h7:QR r2=7):
  Calls prog 100 #[(π r)] w fun e w'=>nr (some (⟨a,b⟩,r2.tail)) w r A l e w':=by
 have ap:=h.lt;have o:w.heap.size≠r:=by omega
 have HA:=Q5 ha;have H9:=Q5 h9;have HN:=Q5 hn;have HB:=Q5 hb;have H7:=Q5 h7;go_enter func100,ntmps100;go_wp2_with (first|(go_at_call 142;refine(pi _ r A l rest t a (by exact h.below (by go_grown)) I HA).mono ?_;rintro e P ⟨va,rfl,D,s,m⟩;obtain⟨ao,cp,rfl⟩:=D.qx;have H:=(Q6.new w _ _).but m o;have aq:=H.lt;have aj:=s.lt;have k:P.heap.size≠r:=(by omega);have N:=((QH.refl r w).alloc _).trans m)|(go_at_call 144;refine(Bh _ r A l t.tail r2 b u I W HN HB).mono ?_;rintro e w3 ⟨vb,rfl,F,E,g⟩;obtain⟨T,V,rfl⟩:=F.qx;obtain⟨c3,f3,j⟩:=u.cell;have O:=S.but g j (by decide);have p:=z.but g o;have q:=y.but g k;clear J X K Z;obtain⟨ab,ac⟩:=p.rules;obtain⟨Y,L⟩:=q.rules;have av:=p.lt;have ah:=q.lt;have af:=E.lt;have U:=Q.trans g;clear j)|(go_at_call 143;have B:=E;refine(kw _ r A l r2 7 B I (by decide) H7).mono ?_;rintro e w4 ⟨rfl,G,c⟩;obtain⟨c7,f7,f⟩:=B.cell;have aa:=O.but c f (by decide);have M:=F.but c f (by decide) (by decide);have n:=p.but c o;have C:=q.but c k;clear ab ac Y L;obtain⟨R,an⟩:=n.rules;obtain⟨ak,ar⟩:=C.rules;have al:=n.lt;have ad:=C.lt;have ae:=G.lt;have au:=U.trans c;clear B f)|(go_at_call 143;have B:=s;refine(kw _ r A l t 9 (by exact B.below (by go_grown)) I (by decide) H9).mono ?_;rintro e w2 ⟨rfl,u,d⟩;have x:=(QH.refl r P).alloc (Obj.cells #[.bool a.neg,.string a.pred,.slice ao a.args.length cp] 90);obtain⟨c1,f1,i⟩:=s.cell;have S:=D.but (x.trans d) i (by decide);have z:=(H.below zT).but d o;have y:=(Q6.new P _ _).but d k;obtain⟨J,X⟩:=z.rules;obtain⟨K,Z⟩:=y.rules;have am:=z.lt;have ag:=y.lt;have ai:=u.lt;have Q:=N.trans (x.trans d);clear B x i))
 exact zL (v:=.tuple #[.agg #[.bool a.neg,.string a.pred,.slice ao a.args.length cp,.slice T b.length V],.bool true]) (by simp[results,results100,go_sem,R]) rfl ⟨(by repeat'(first|with_reducible(first|apply xR|assumption|apply xN|apply xA|apply xD|apply xS|apply xT)|go_size)),_,_,rfl,(aa.low (by first|(simp;done)|omega)).but (r:=w.heap.size) (by repeat'(first|with_reducible(first|apply xR|assumption|apply xN|apply xA|apply xD|apply xS|apply xT)|go_size)) n (by decide),(M.low (by first|(simp;done)|omega)).but (r:=w.heap.size) (by repeat'(first|with_reducible(first|apply xR|assumption|apply xN|apply xA|apply xD|apply xS|apply xT)|go_size)) n (by decide) (by decide),h.keep G (by go_grown)⟩
theorem Cl(w:World)(r:Nat)(d:Value)(l rest:List QA)(h:Rd w r d l rest)(i:l.length<=500)(k:Nat)(q:rest.length<=k):
  Calls prog 100 #[(π r)] w fun e s=>nr (vh k rest) w r d l e s:=by
 unfold vh;split
 ·rename_i c;exact Ow w r d l rest h i c
 ·rename_i a j c;have o:=tQ c;split
  ·rename_i g;have n:j.tail.length<k:=by simp;omega
   split
   ·rename_i m;exact Ox w r d l rest h i j a k c g n m
   ·rename_i b p m;split
    ·rename_i f;exact GI w r d l rest h i j p a b k c g n m f
    ·rename_i f;exact PN w r d l rest h i j p a b k c g n m f
  ·rename_i g;split
   ·rename_i f;exact G2 w r d l rest h i j a c g f
   ·rename_i f;exact MS w r d l rest h i j a c g f
end
section
open Go.Proofs.Tryz
variable {lo:Nat}{w:World}{v:Value}{r:List QA}{o:Option (List zd)}
def qD(lo:Nat)(w:World):List zd->List Value->Prop
 |[],a=>a=[]
 |c::e,a=>∃d b r,a=.bool c.head.neg::.string c.head.pred::d::b::r/\QD lo w d c.head.args/\Re lo w b c.body/\qD lo w e r
theorem qD.snoc{w:World}{c:zd}{a b:Value}(hs:QD lo w a c.head.args)(e:Re lo w b c.body):∀{d:List zd} {xs:List Value},qD lo w d xs->qD lo w (d++[c]) (xs++[.bool c.head.neg,.string c.head.pred,a,b])
 |[],_,h=>by simp only[qD] at h;subst h;exact⟨a,b,[],rfl,hs,e,rfl⟩
 |_::d,_,h=>by obtain⟨v,f,r,rfl,g,j,i⟩:=h;exact⟨v,f,r++[.bool c.head.neg,.string c.head.pred,a,b],rfl,g,j,qD.snoc hs e i⟩
theorem qD.mono{w w':World}(d:∀b l,QD lo w b l->QD lo w' b l)(a:∀b l,Re lo w b l->Re lo w' b l):∀{c:List zd} {xs:List Value},qD lo w c xs->qD lo w' c xs
 |[],_,h=>h
 |_::c,_,h=>by obtain⟨v,e,r,rfl,f,i,g⟩:=h;exact⟨v,e,r,rfl,d _ _ f,a _ _ i,qD.mono d a g⟩
theorem qD.at{w:World}:∀{d:List zd} {xs:List Value} (i:Nat) (c:zd),qD lo w d xs->d[i]?=some c →
  ∃e f,xs[i*4]?=some (.bool c.head.neg)/\xs[i*4+1]?=some (.string c.head.pred)/\xs[i*4+2]?=some e/\xs[i*4+3]?=some f/\QD lo w e c.head.args/\Re lo w f c.body
 |[],_,i,a,_,b=>by simp at b
 |_::d,_,0,a,h,b=>by obtain⟨v,g,r,rfl,j,l,k⟩:=h;simp at b;subst b;exact⟨v,g,rfl,rfl,rfl,rfl,j,l⟩
 |_::d,_,i+1,a,h,b=>by
  obtain⟨v,g,r,rfl,j,l,k⟩:=h;obtain⟨e,f,p,q,m,n,s⟩:=qD.at i a k (by simpa using b);refine⟨e,f,?_,?_,?_,?_,s⟩
  ·rw[show(i+1)*4=i*4+1+1+1+1 from by omega];simpa using p
  ·rw[show(i+1)*4+1=i*4+1+1+1+1+1 from by omega];simpa using q
  ·rw[show(i+1)*4+2=i*4+2+1+1+1+1 from by omega];simpa using m
  ·rw[show(i+1)*4+3=i*4+3+1+1+1+1 from by omega];simpa using n
def Rh(lo:Nat)(T:TypeId)(w:World)(v:Value)(a:List zd):Prop:=∃b,w.ownsRow lo T 4 v a.length b/\qD lo w a b
theorem qD.low{a b:Nat}{w:World}(c:a<=b):∀{d:List zd} {xs:List Value},qD b w d xs->qD a w d xs
 |[],_,h=>h
 |_::d,_,h=>by obtain⟨v,e,r,rfl,f,i,g⟩:=h;exact⟨v,e,r,rfl,f.low c,i.low c,qD.low c g⟩
theorem Rh.low{a b:Nat}{T:TypeId}{w:World}{v:Value}{l:List zd}(h:Rh b T w v l)(c:a<=b):Rh a T w v l:=by obtain⟨e,h,d⟩:=h;exact⟨e,yr h c,d.low c⟩
theorem Rh.qx{T:TypeId}{l:List zd}(h:Rh lo T w v l):∃b a,v=.slice b l.length a:=by obtain⟨c,h,_⟩:=h;exact zp h
theorem Rh.below{T:TypeId}{w w':World}{v:Value}{l:List zd}(h:Rh lo T w v l)(a:μ w w'):Rh lo T w' v l:=by
 obtain⟨c,h,b⟩:=h;exact⟨c,zB h a,b.mono (fun _ _ k=>k.below a) (fun _ _ k=>k.below a)⟩
theorem Re.push{c l:World}{b:Nat}{e:TypeId}{s:Nat}{v2:Value}{n:Nat}{xs:List Value}{j:List zj}(g:c.ownsRow b e s v n xs)(f:e≠90)(a:e≠9)(h:Re lo c v2 j)
  (i:∀k,k<c.heap.size->some k≠v.ownBlock->l.heap[k]?=c.heap[k]?):Re lo l v2 j:=by
 obtain⟨d,m,p⟩:=h;exact⟨d,gC g f m i,p.mono fun _ _ k=>gC g a k i⟩
def yI(a:Nat):Nat->List QA->Option (List zd)
 |_,[]=>some []
 |0,_::_=>none
 |m+1,x::r=>match vh a (x::r) with
  |none=>none
  |some (c,b)=>(yI a m b).map (c::·)
theorem wm{a m:Nat}(b:r≠[])(h:vh a r=none):yI a (m+1) r=none:=by
 cases r with
 |nil=>exact zC rfl b
 |cons x r=>simp[yI,h]
theorem rU{a m:Nat}{r2:List QA}{c:zd}(b:r≠[])(h:vh a r=some (c,r2)):yI a (m+1) r=(yI a m r2).map (c::·):=by
 cases r with
 |nil=>exact zC rfl b
 |cons x r=>simp[yI,h]
theorem K5{n:Nat}:∀{r r2:List QA} {b:List zj},xJ n r=some (b,r2)->r2.length<r.length:=by
 induction n with
 |zero=>intro r r2 b h;simp[xJ] at h
 |succ n g=>
  intro r r2 b h;cases c:uC r with
  |none=>rw[rY c] at h;cases h
  |some z=>
   obtain⟨a,f⟩:=z;have:=Eb c;by_cases e:QR f=6
   ·rw[pD c e] at h;cases d:xJ n f.tail with
    |none=>rw[d] at h;simp at h
    |some z=>
     rw[d] at h;simp at h;have:=g d;obtain⟨_,rfl⟩:=h;simp at this;omega
   ·rw[pG c e] at h;simp at h;obtain⟨_,rfl⟩:=h;omega
theorem Ln{n:Nat}{r2:List QA}{c:zd}(h:vh n r=some (c,r2)):r2.length<r.length:=by
 unfold vh at h;split at h
 ·cases h
 ·rename_i a g e;have:=tQ e;split at h
  ·split at h
   ·cases h
   ·rename_i b f d;have:=K5 d;split at h<;>simp at h
    obtain⟨_,rfl⟩:=h;simp at this ⊢;omega
  ·split at h<;>simp at h
   obtain⟨_,rfl⟩:=h;simp;omega
theorem Ni(w:World)(r:Nat)(f:Value)(l rest:List QA)(h:Rd w r f l rest)(i:l.length<=500)(b:Nat)(a:rest.length<=b)(g:vh b rest=none):
  Calls prog 100 #[(π r)] w fun e c=>e=ε (.tuple #[.agg #[.bool false,.string ByteArray.empty,ν,ν],.bool false])/\QH r w c:=by
 refine(Cl w r f l rest h i b a).mono ?_;rintro e c ⟨j,d⟩;rw[g] at d;exact⟨d,j⟩
theorem P8(w:World)(r:Nat)(i:Value)(l rest r2:List QA)(c:zd)(h:Rd w r i l rest)(q:l.length<=500)(j:Nat)(g:rest.length<=j)(p:vh j rest=some (c,r2)):
  Calls prog 100 #[(π r)] w fun e f=>∃m n,e=ε (.tuple #[.agg #[.bool c.head.neg,.string c.head.pred,m,n],.bool true])/\QD w.heap.size f m c.head.args/\Re w.heap.size f n c.body/\Rd f r i l r2/\QH r w f:=by
 refine(Cl w r i l rest h q j g).mono ?_;rintro e f ⟨t,k⟩;rw[p] at k;obtain⟨v,s,a,b,c,d⟩:=k;exact⟨v,s,a,b,c,d,t⟩
theorem Qd:(prog.info? 171).map (fun i=>(i.zero,i.size,i.bytes))=some (some (.agg #[.bool false,.string ByteArray.empty,ν,ν]),4,72):=by kernel_rfl
def iv(o:Option (List zd))(w:World)(e:Ending)(w':World):Prop:=
 μ w w'/\match o with
  |none=>e=ε (.tuple #[ν,.bool false])
  |some a=>∃v,e=ε (.tuple #[v,.bool true])/\Rh w.heap.size 171 w' v a
theorem KP{w':World}(h:Hid (o=none))(b:μ w w'):iv o w (ε (.tuple #[ν,.bool false])) w':=by
 have a:o=none:=h;subst a;exact⟨b,rfl⟩
theorem NB{w':World}{cs:List zd}(h:Hid (o=some cs))(b:μ w w')(hs:Rh w.heap.size 171 w' v cs):iv o w (ε (.tuple #[v,.bool true])) w':=by
 have a:o=some cs:=h;subst a;exact⟨b,v,rfl,hs⟩
theorem RF(w:World)(wv:Value)(l:List QA)(A:Nat)(hw:w.ownsRow A 182 2 wv l.length (jP l))(hl:l.length<=500):
  Calls prog 60 #[wv] w fun e w'=>iv (yI l.length l.length l) w e w':=by
 obtain⟨i0,hi,X,ai,Y⟩:=info_parts Qd;obtain⟨T,u,rfl⟩:=zp hw;have h0:Rd (w.alloc (.cells #[.slice T l.length u,ι 0] 185)) w.heap.size (.slice T l.length u) l l:=
  ⟨⟨0,zv _,rfl,Q6.new _ _ _⟩,A,zB hw zT⟩
 clear hw;go_enter func60,ntmps60;go_wp2;go_loopg [5] (l.length) (fun n v wr=>∃(f:List zd) (b:List QA) (m:Nat) (xs:List Value),b.length<=n/\b.length<=m/\b.length+f.length<=l.length ∧
   wr.ownsRow (w.heap.size+1) 171 4 v f.length xs/\qD w.heap.size wr f xs/\Rd wr w.heap.size (.slice T l.length u) l b/\QH w.heap.size (w.alloc (.cells #[.slice T l.length u,ι 0] 185)) wr ∧
   Hid (yI l.length l.length l=(yI l.length m b).map (f++·)))
 case atStart=>exact⟨[],l,l.length,[],zg _,zg _,by simp,yC _ _ _ _,rfl,h0,QH.refl _ _,(by simp[Hid])⟩
 case round=>
  obtain⟨f,b,m,xs,hn,hm,ap,y,J,t,g,E⟩:=hrel;have Q:w.heap.size<=wr.heap.size:=by have:=g.size;simp at this;omega
  obtain⟨c0,f0,d⟩:=t.cell;have af:=Q5 d;obtain⟨p,am,aj,hp,I,ag,P,av,au,ar,hx⟩:=t.view;clear ag hx P;cases b with
  |nil=>
   have S:p=l.length:=by
    have:=congrArg List.length I;simp at this;omega
   have R:Hid (yI l.length l.length l=some f):=by rw[Hid.out E];cases m<;>simp[yI,Hid]
   have H:=zT.trans (g.below (zg _) (by simp));subst S;clear I E d;go_wp2;go_ret2
   exact NB R H ⟨_,yr y (by omega),J⟩
  |cons x r0=>
   have S:p<l.length:=by
    rcases dI p l.length with h|h
    ·exact h
    ·rw[ue h] at I;cases I
   clear I;have q:x::r0≠[]:=by simp
   obtain⟨m,rfl⟩:∃m',m=m'+1:=⟨m-1,by simp at hm;omega⟩;generalize x::r0=b at *;have HN:Hid (b.length<=l.length):=by unfold Hid;omega
   cases C:vh l.length b with
   |none=>
    have HC:=Q5 C;have R:Hid (yI l.length l.length l=none):=by rw[Hid.out E,wm q C];simp[Hid]
    clear C q E;go_wp2_with (go_at_call 100;refine(Ni _ w.heap.size _ l b t hl l.length HN HC).mono ?_;rintro e w1 ⟨rfl,a⟩;have i:=g.trans a;have O:=i.size;have D:=zT.trans (i.below (zg _) (by simp)))
    go_ret2
    have al:=D.size;exact KP R (by go_grown)
   |some z=>
    obtain⟨c,U⟩:=z;have HC:=Q5 C;have ao:=Ln C;have R:Hid (yI l.length l.length l=(yI l.length m U).map ((f++[c])++·)):=by rw[Hid.out E,rU q C,rI];rfl
    clear C q E;go_wp2_with (first|(go_at_call 100;refine(P8 _ w.heap.size _ l b U c t hl l.length HN HC).mono ?_;rintro e w1 ⟨va,vb,rfl,G,M,Z,a⟩;obtain⟨ah,ad,rfl⟩:=G.qx;obtain⟨an,aq,rfl⟩:=M.qx;have i:=g.trans a;have O:=i.size;have ab:=(by simpa using O);have j:=xO y a d (by decide);have K:=J.mono (fun _ _ k=>k.but a d (by decide)) (fun _ _ k=>k.but a d (by decide) (by decide)))|(at_builtin;refine ks w1 _ _ _ rfl (.tmp 22) (.tmp 24) 121 rfl (w.heap.size+1) 171 i0 _ 4 72 underlying121 hi X ai Y rfl (by decide) _ _ _ rfl j zT _ _ rfl (by simp) rfl (by simp[Value.oneCell']) (by omega) (by omega) ab ?_;intro v' w2 W L V ae s ak;clear V ae;have N:=Rd.keep h0 Z (by simpa using L);have B:=i.onto (by simpa using L);have aa:QD w.heap.size w2 (Value.slice ah c.head.args.length ad) c.head.args:=yr (gC j (by decide) G s) Q;have ac:=(M.push j (by decide) (by decide) s).low Q;have F:=K.mono (fun _ _ k=>gC j (by decide) k s) (fun _ _ k=>k.push j (by decide) (by decide) s)))
    go_roundg U.length
    case measure=>omega
    case rel=>exact⟨f++[c],U,m,_,zg _,by omega,by simp;omega,by rw[yp];exact W,F.snoc aa ac,N,B,R⟩
end
end Go.Proofs.YteampbddflhngaaGreat
