import Derived.Test.YteampbddflhngaaGreatProg
import Derived.Deep.QuietTactic
import Derived.BigQuiet
import Derived.Deep.LoopGhost
import Derived.Test.YteampbddflhngaaGreatZ01
import Derived.Test.YteampbddflhngaaGreatZ02
namespace Go.Proofs.YteampbddflhngaaGreat
set_option linter.all false
set_option maxRecDepth 100000
set_option maxHeartbeats 1000000
open Go.RowKit
section
open Go.Proofs.Tryz
theorem t7(c:Int)(w:World):
  Calls prog 98 #[.int .u8 c] w fun e a=>e=ε (.bool (qu c))/\a=w:=by
 go_enter func98,ntmps98;go_wp2
 all_goals go_ret
 all_goals exact⟨by simp[qu, *],rfl⟩
theorem E1(c:Int)(w:World):
  Calls prog 173 #[.int .u8 c] w fun e a=>e=ε (.bool (yN c))/\a=w:=by
 go_enter func173,ntmps173;go_wp2
 all_goals go_ret
 all_goals exact⟨by simp[yN, *]<;>omega,rfl⟩
theorem Bx(c:Int)(w:World):
  Calls prog 174 #[.int .u8 c] w fun e a=>e=ε (.bool (vR c))/\a=w:=by
 go_enter func174,ntmps174;go_wp2
 all_goals go_ret
 all_goals exact⟨by simp[vR, *]<;>omega,rfl⟩
theorem rW(c:Int)(w:World):
  Calls prog 175 #[.int .u8 c] w fun e a=>e=ε (.bool (yH c))/\a=w:=by
 go_enter func175,ntmps175;go_wp2
 all_goals go_ret
 all_goals exact⟨by simp[yH, *]<;>omega,rfl⟩
theorem ie(c:Int)(w:World):
  Calls prog 198 #[.int .u8 c] w fun e a=>e=ε (.bool (Rf c))/\a=w:=by
 go_enter func198,ntmps198;go_wp2_with (first|(go_at_call 173;refine(E1 _ _).mono ?_;rintro e a ⟨rfl,rfl⟩)|(go_at_call 174;refine(Bx _ _).mono ?_;rintro e a ⟨rfl,rfl⟩)|(go_at_call 175;refine(rW _ _).mono ?_;rintro e a ⟨rfl,rfl⟩))
 all_goals go_ret
 all_goals exact⟨by simp[Rf, *],rfl⟩
theorem Bk(s:ByteArray)(i:Int)(w:World)(b:0<=i)(_:s.size<=500):
  Calls prog 139 #[.string s,ι i] w fun e a=>e=ε (.int .u8 (QG s i.toNat))/\a=w:=by
 obtain⟨i,rfl⟩:=Int.eq_ofNat_of_zero_le b;rw[Int.toNat_natCast];by_cases h:i<s.size
 ·rw[qn h];go_enter func139,ntmps139;go_wp2
  all_goals go_ret
  all_goals exact⟨rfl,rfl⟩
 ·rw[n6 h];go_enter func139,ntmps139;go_wp2
  all_goals go_ret
  all_goals exact⟨rfl,rfl⟩
theorem LD(c:Int)(w:World):
  Calls prog 176 #[.int .u8 c] w fun e a=>e=ε (ι (dC c))/\a=w:=by
 go_enter func176,ntmps176;go_wp2
 all_goals go_ret
 all_goals go_light
 all_goals exact⟨by simp_all [dC],rfl⟩
theorem Cj(a b:Int)(w:World):
  Calls prog 140 #[.int .u8 a,.int .u8 b] w fun e c=>e=ε (ι (xb a b))/\c=w:=by
 go_enter func140,ntmps140;go_wp2_with (first|(go_at_call 173;refine(E1 _ _).mono ?_;rintro e c ⟨rfl,rfl⟩)|(go_at_call 174;refine(Bx _ _).mono ?_;rintro e c ⟨rfl,rfl⟩)|(go_at_call 175;refine(rW _ _).mono ?_;rintro e c ⟨rfl,rfl⟩)|(go_at_call 176;refine(LD _ _).mono ?_;rintro e c ⟨rfl,rfl⟩))
 all_goals go_ret
 all_goals go_light
 all_goals exact⟨by first|(simp_all [xb];done)|(simp_all [xb,yN,vR,yH];done),rfl⟩
theorem GS(s:ByteArray)(i:Nat)(w:World)(hs:s.size<=500)(g:i<=s.size):
  Calls prog 177 #[.string s,ι i] w fun e c=>e=ε (ι (yA Rf s i))/\c=w:=by
 go_enter func177,ntmps177;go_wp2;go_loop [5] (fun t=>∃k:Nat,k<=s.size/\t=ι k/\Hid (yA Rf s i=yA Rf s k)) (fun t=>s.size-(intOf t).toNat)
 case atStart=>exact⟨i,g,rfl,rfl⟩
 case round=>
  obtain⟨k,h,rfl,H⟩:=hrel;by_cases a:k<s.size
  ·have f:=qn a;cases d:Rf (QG s k) with
   |true=>
    have b:Hid (yA Rf s i=yA Rf s (k+1)):=by rw[Hid.out H,lJ a d];rfl
    rw[f] at d;go_wp2_with (go_at_call 198;refine(ie _ _).mono ?_;rintro e c ⟨rfl,rfl⟩)
    go_round
    ·exact⟨k+1,by omega,by go_num,b⟩
    ·simp[intOf];omega
   |false=>
    have b:Hid (yA Rf s i=k):=by rw[Hid.out H,mS d];rfl
    rw[f] at d;go_wp2_with (go_at_call 198;refine(ie _ _).mono ?_;rintro e c ⟨rfl,rfl⟩)
    go_ret;exact⟨by rw[Hid.out b];rfl,rfl⟩
  ·have b:Hid (yA Rf s i=k):=by rw[Hid.out H,gS a];rfl
   go_wp2_with (go_at_call 198;refine(ie _ _).mono ?_;rintro e c ⟨rfl,rfl⟩)
   go_ret;exact⟨by rw[Hid.out b];rfl,rfl⟩
theorem LO(s:ByteArray)(i:Nat)(w:World)(hs:s.size<=500)(g:i<=s.size):
  Calls prog 178 #[.string s,ι i] w fun e c=>e=ε (ι (yA yH s i))/\c=w:=by
 go_enter func178,ntmps178;go_wp2;go_loop [5] (fun t=>∃k:Nat,k<=s.size/\t=ι k/\Hid (yA yH s i=yA yH s k)) (fun t=>s.size-(intOf t).toNat)
 case atStart=>exact⟨i,g,rfl,rfl⟩
 case round=>
  obtain⟨k,h,rfl,H⟩:=hrel;by_cases a:k<s.size
  ·have f:=qn a;cases d:yH (QG s k) with
   |true=>
    have b:Hid (yA yH s i=yA yH s (k+1)):=by rw[Hid.out H,lJ a d];rfl
    rw[f] at d;go_wp2_with (go_at_call 175;refine(rW _ _).mono ?_;rintro e c ⟨rfl,rfl⟩)
    go_round
    ·exact⟨k+1,by omega,by go_num,b⟩
    ·simp[intOf];omega
   |false=>
    have b:Hid (yA yH s i=k):=by rw[Hid.out H,mS d];rfl
    rw[f] at d;go_wp2_with (go_at_call 175;refine(rW _ _).mono ?_;rintro e c ⟨rfl,rfl⟩)
    go_ret;exact⟨by rw[Hid.out b];rfl,rfl⟩
  ·have b:Hid (yA yH s i=k):=by rw[Hid.out H,gS a];rfl
   go_wp2_with (go_at_call 175;refine(rW _ _).mono ?_;rintro e c ⟨rfl,rfl⟩)
   go_ret;exact⟨by rw[Hid.out b];rfl,rfl⟩
theorem D3(s:ByteArray)(i:Nat)(k:Int)(w:World)(hs:s.size<=500)(b:i<=s.size):
  Calls prog 141 #[.string s,ι i,ι k] w fun e a=>e=ε (ι (yi s i k))/\a=w:=by
 go_enter func141,ntmps141;go_wp2_with (first|(go_at_call 177;refine(GS _ _ _ hs b).mono ?_;rintro e a ⟨rfl,rfl⟩)|(go_at_call 178;refine(LO _ _ _ hs b).mono ?_;rintro e a ⟨rfl,rfl⟩))
 all_goals go_ret
 all_goals go_light
 all_goals exact⟨by simp_all [yi],rfl⟩
theorem IU(s:ByteArray)(i:Nat)(w:World)(hs:s.size<=500)(d:i<s.size)(c:xb (QG s i) (QG s (i+1))=0):
  Calls prog 99 #[.string s,ι i] w fun e a=>e=ε (.agg #[ι 0,.string ByteArray.empty])/\μ w a:=by
 have f:yi s i 0=i:=rfl;have b:((i:Int)+1).toNat=i+1:=by omega
 go_enter func99,ntmps99;go_wp2_with (first|(go_at_call 139;refine(Bk s _ _ (by omega) hs).mono ?_;rintro e a ⟨rfl,rfl⟩)|(go_at_call 140;refine(Cj _ _ _).mono ?_;rintro e a ⟨rfl,rfl⟩)|(go_at_call 141;refine(D3 s i _ _ hs (by omega)).mono ?_;rintro e a ⟨rfl,rfl⟩))
 go_returns
 exact⟨rfl,by go_grown⟩
theorem Pg(s:ByteArray)(i:Nat)(k:Int)(w:World)(hs:s.size<=500)(q:i<s.size)(p:xb (QG s i) (QG s (i+1))=k)
  (j:i<yi s i k) (l:yi s i k<=s.size):
  Calls prog 99 #[.string s,ι i] w fun e b=>e=ε (.agg #[ι k,.string (s.extract i (yi s i k))])/\μ w b:=by
 have n:((i:Int)+1).toNat=i+1:=by omega
 go_enter func99,ntmps99;go_wp2_with (first|(go_at_call 139;refine(Bk s _ _ (by omega) hs).mono ?_;rintro e b ⟨rfl,rfl⟩)|(go_at_call 140;refine(Cj _ _ _).mono ?_;rintro e b ⟨rfl,rfl⟩)|(go_at_call 141;refine(D3 s i _ _ hs (by omega)).mono ?_;rintro e b ⟨rfl,rfl⟩)|(refine KW _ rfl (.tmp 41) 9 238 5 rfl underlying9 underlying238 underlying5 _ rfl ?_;intro g m c a;obtain⟨d,h⟩:=Hu a;have f:=a.size;simp only[World.size_alloc] at f)|(refine LU _ rfl (.tmp 42) 238 9 5 rfl underlying238 underlying5 underlying9 _ _ _ rfl ?_ ?_;(first|exact c|fail)))
 have o:μ w m:=QB zT a;exact zK (v:=.agg #[ι k,.string (s.extract i (yi s i k))]) (by simp[results,results99,go_sem,d]) rfl ⟨rfl,by go_grown⟩
def jU(l:List (Int×ByteArray)):List Value:=l.flatMap fun x=>[ι x.1,.string x.2]
theorem KE(l:List (Int×ByteArray))(k:Int)(t:ByteArray):jU (l++[(k,t)])=jU l++[ι k,.string t]:=by simp[jU]
theorem Qv:(prog.info? 182).map (fun i=>(i.zero,i.size,i.bytes))=some (some (.agg #[ι 0,.string ByteArray.empty]),2,24):=by kernel_rfl
def rX(s:ByteArray)(w:World)(e:Ending)(w':World):Prop:=
 μ w w'/\match QI s with
  |none=>e=ε (.tuple #[ν,.bool false])
  |some l=>∃v,e=ε (.tuple #[v,.bool true])/\w'.ownsRow w.heap.size 182 2 v l.length (jU l)/\l.length<=s.size
theorem BH{s:ByteArray}{w w':World}(h:Hid (QI s=none))(a:μ w w'):rX s w (ε (.tuple #[ν,.bool false])) w':=by
 have b:QI s=none:=h;unfold rX;rw[b];exact⟨a,rfl⟩
theorem Io{s:ByteArray}{w w':World}{v:Value}{l:List (Int×ByteArray)}(h:Hid (QI s=some l))(a:μ w w')(d:w'.ownsRow w.heap.size 182 2 v l.length (jU l))(c:l.length<=s.size):
  rX s w (ε (.tuple #[v,.bool true])) w':=by
 have b:QI s=some l:=h;unfold rX;rw[b];exact⟨a,v,rfl,d,c⟩
theorem F7(s:ByteArray)(w:World)(hs:s.size<=500):
  Calls prog 59 #[.string s] w fun e u=>rX s w e u:=by
 obtain⟨P,T,F,A,L⟩:=info_parts Qv;go_enter func59,ntmps59;go_wp2;go_loopw [4,5] (fun v t wr=>∃(k:Nat) (a:List (Int×ByteArray)) (m:Nat),k<=s.size/\t=ι k/\s.size-k<=m/\Hid (QI s=(QK m s k).map (a++·))/\a.length<=k ∧
   wr.ownsRow w.heap.size 182 2 v a.length (jU a)/\μ w wr) (fun _ t _=>s.size-(intOf t).toNat)
 case atStart=>exact⟨0,[],s.size,zv _,rfl,by omega,(by simp[QI,Hid]),zg _,yD _ _ _ _,zo _ _⟩
 case round=>
  obtain⟨k,a,m,V,rfl,X,H,R,i,c⟩:=hrel;by_cases b:k<s.size
  ·have n:=qn b;obtain⟨m,rfl⟩:∃S,m=S+1:=⟨m-1,by omega⟩;cases o:qu (QG s k) with
   |true=>
    have j:Hid (QI s=(QK m s (k+1)).map (a++·)):=by rw[←tV b o];exact H
    rw[n] at o;clear n H;go_wp2_with (go_at_call 98;refine(t7 _ _).mono ?_;rintro e u ⟨rfl,rfl⟩)
    go_roundw
    ·exact⟨k+1,a,m,by omega,by go_num,by omega,j,by omega,i,c⟩
    ·simp[intOf];omega
   |false=>
    by_cases h:xb (QG s k) (QG s (k+1))=0
    ·have j:Hid (QI s=none):=by rw[Hid.out H,tI b o h];simp[Hid]
     have q:=IU s k wr hs b h;rw[n] at o;clear n H h;go_wp2_with (first|(go_at_call 98;refine(t7 _ _).mono ?_;rintro e u ⟨rfl,rfl⟩)|(go_at_call 99;refine q.mono ?_;rintro e I ⟨rfl,g⟩;clear q;have r:=QB c g;have z:=r.size))
     go_ret2
     exact BH j (by go_grown)
    ·obtain⟨f,d⟩:∃f,xb (QG s k) (QG s (k+1))=f:=⟨_,rfl⟩;have l:f≠0:=by rw[←d];exact h
     obtain⟨G,C⟩:=ri s k f b d l;have q:=Pg s k f wr hs b d G C;by_cases O:6<yi s k f-k
     ·have j:Hid (QI s=none):=by rw[Hid.out H,sT b o d O];simp[Hid]
      rw[n] at o;clear n H h d;generalize yi s k f=p at *;have M:(s.extract k p).size=p-k:=by rw[ByteArray.size_extract];omega
      generalize s.extract k p=N at *;have x:(f == 0)=false:=by simpa using l
      go_wp2_with (first|(go_at_call 98;refine(t7 _ _).mono ?_;rintro e u ⟨rfl,rfl⟩)|(go_at_call 99;refine q.mono ?_;rintro e I ⟨rfl,g⟩;clear q;have r:=QB c g;have z:=r.size))
      go_ret2
      exact BH j (by go_grown)
     ·have j:Hid (QI s=(QK m s (yi s k f)).map ((a++[(f,s.extract k (yi s k f))])++·)):=by rw[Hid.out H,wy b o d l O,rN];rfl
      rw[n] at o;clear n H h d;generalize yi s k f=p at *;have M:(s.extract k p).size=p-k:=by rw[ByteArray.size_extract];omega
      generalize s.extract k p=N at *;have x:(f == 0)=false:=by simpa using l
      go_wp2_with (first|(go_at_call 98;refine(t7 _ _).mono ?_;rintro e u ⟨rfl,rfl⟩)|(go_at_call 99;refine q.mono ?_;rintro e I ⟨rfl,g⟩;clear q;have r:=QB c g;have z:=r.size;have J:=zB i g)|(at_builtin;refine ki I _ _ _ rfl (.tmp 29) (.tmp 31) 118 rfl w.heap.size 182 P _ 2 24 underlying118 T F A L rfl (by decide) _ _ _ rfl J zT _ _ rfl (by simp) rfl (by simp[Value.oneCell']) (by omega) (by omega) (by omega) ?_;intro W U B D K E Q y;simp only[World.size_alloc] at K E y))
      go_roundw
      ·exact⟨p,a++[(f,N)],m,by omega,by go_num,by omega,j,by simp;omega,by rw[yq,KE];exact B,r.trans D⟩
      ·simp[intOf];omega
  ·have j:Hid (QI s=some a):=by rw[Hid.out H,p7 b];simp[Hid]
   clear H;go_wp2;go_ret2
   exact Io j c i (by omega)
end
section
variable {lo:Nat}{t:ByteArray}{r base n b:Nat}{w w':World}{v wv:Value}{xs:List Value}{c:Array Value}{l:κ}
abbrev QC:=Int×ByteArray
structure zj where
 neg:Bool
 pred:ByteArray
 args:κ
structure zd where
 head:zj
 body:List zj
def RA(k:Int):Bool:=k == 1||k == 3||k == 2
def QT:List QC->Int
 |[]=>0
 |x::_=>x.1
def yk:List QC->Option (κ×List QC)
 |[]=>none
 |[x]=>if RA x.1 then some ([x.2],[]) else none
 |x::y::r=>if RA x.1 then(if y.1=6 then(yk r).map fun z=>(x.2::z.1,z.2) else some ([x.2],y::r)) else none
theorem KP{k:Int}{r:List QC}(h:RA k=false):yk ((k,t)::r)=none:=by cases r<;>simp[yk,h]
theorem CJ{k:Int}{r:List QC}(h:RA k=true)(a:QT r≠6):yk ((k,t)::r)=some ([t],r):=by
 cases r with
 |nil=>simp[yk,h]
 |cons y r=>simp only[QT] at a;simp[yk,h,a]
theorem IY{k:Int}{r:List QC}(h:RA k=true)(a:QT r=6):yk ((k,t)::r)=(yk r.tail).map fun z=>(t::z.1,z.2):=by
 cases r with
 |nil=>simp[QT] at a
 |cons y r=>simp only[QT] at a;simp[yk,h,a]
def yZ(r:List QC):Option (zj×List QC):=
 if QT r=1 then
  if QT r.tail=4 then
   match yk r.tail.tail with
   |none=>none
   |some (d,a)=>if QT a=5 then some (⟨false,(r.headD (0,ByteArray.empty)).2,d⟩,a.tail) else none
  else some (⟨false,(r.headD (0,ByteArray.empty)).2,[]⟩,r.tail)
 else none
def uD(r:List QC):Option (zj×List QC):=
 if QT r=8 then(yZ r.tail).map fun z=>({z.1 with neg:=true},z.2) else yZ r
structure QJ (r:Nat) (w w':World):Prop where
 os:w'.os=w.os
 tape:w'.tape=w.tape
 output:w'.output=w.output
 size:w.heap.size<=w'.heap.size
 block:∀k,k<w.heap.size->k≠r->w'.heap[k]?=w.heap[k]?
theorem QJ.refl(r:Nat)(w:World):QJ r w w:=⟨rfl,rfl,rfl,zg _,fun _ _ _=>rfl⟩
theorem QJ.trans{r:Nat}{a b c:World}(h:QJ r a b)(k:QJ r b c):QJ r a c:=
 ⟨k.os.trans h.os,k.tape.trans h.tape,k.output.trans h.output,yc h.size k.size,fun i d e=>(k.block i (xP d h.size) e).trans (h.block i d e)⟩
theorem QJ.of(h:μ w w'):QJ r w w':=⟨h.os,h.tape,h.output,h.size,fun k a _=>h.block k a⟩
theorem QJ.below{B:Nat}(h:QJ r w w')(e:B<=r)(d:B<=w.heap.size):Below B w w':=⟨h.os,h.tape,h.output,h.size,fun k a=>h.block k (by omega) (by omega)⟩
theorem QJ.setCell{r:Nat}{a w:World}(h:QJ r a w)(o:Nat)(u:Value):QJ r a (w.setCell ⟨r,o,none⟩ u):=
 h.trans ⟨rfl,rfl,rfl,by simp[World.setCell],fun _ _ d=>Below.heap_setCell _ _ _ _ d⟩
theorem QJ.drew{r:Nat}{a w:World}(h:QJ r a w):QJ r a w.drew:=⟨h.os,h.tape,h.output,h.size,h.block⟩
theorem QJ.drewN{r:Nat}{a w:World}(h:QJ r a w)(n:Nat):QJ r a (w.drewN n):=h.trans (QJ.of (zJ (zo _ _) n))
theorem QJ.alloc{r:Nat}{a w:World}(h:QJ r a w)(o:Obj):QJ r a (w.alloc o):=h.trans (QJ.of ((zo _ _).alloc (zg _) o))
theorem QJ.setNew{r:Nat}{a w:World}(h:QJ r a w){p:Addr}(f:a.heap.size<=p.block)(u:Value):QJ r a (w.setCell p u):=
 ⟨h.os,h.tape,h.output,by simp[World.setCell];exact h.size,fun k d e=>(Below.heap_setCell _ _ _ _ (by omega)).trans (h.block k d e)⟩
abbrev xR:=@QJ.refl
abbrev xN:=@QJ.drewN
abbrev xA:=@QJ.alloc
abbrev xD:=@QJ.drew
abbrev xS:=@QJ.setCell
abbrev xT:=@QJ.setNew
theorem xO{e:TypeId}{a:Nat}(h:w.ownsRow base e a v n xs)(u:QJ r w w')
  {c:Array Value} {T:TypeId} {f:Nat×Nat} (m:w.heap[r]?=some (.cells c T f)) (y:T≠e):w'.ownsRow base e a v n xs:=by
 obtain⟨x,o⟩:=h;refine⟨x,?_⟩;rcases o with o|⟨g,i,d,p,q,k,s⟩
 ·exact zf o
 ·refine zb ⟨g,i,d,p,q,?_,s⟩;rw[u.block g (kz.1 k).1 (fun j=>by subst j;rw[k] at m;simp at m;exact y m.2.1.symm)];exact k
theorem zp{e:TypeId}{d:Nat}(h:w.ownsRow base e d v n xs):∃k a,v=.slice k n a:=by
 obtain⟨_,⟨f,j⟩|⟨g,a,i,f,_⟩⟩:=h
 ·exact⟨none,0,by rw[f,j]⟩
 ·exact⟨_,a,f⟩
theorem yx{e:TypeId}{d:Nat}(h:w.ownsRow base e d v n xs)(A:0<n):
  ∃g a,v=.slice (some ⟨g,0,none⟩) n a/\base<=g/\g<w.heap.size/\∀j u,xs[j]?=some u->w.cell? ⟨g,j,none⟩=some u:=by
 obtain⟨z,⟨i,y⟩|⟨g,a,m,i,q,k,o,x,p,s⟩⟩:=h
 ·omega
 ·refine⟨g,a,i,q,(kz.1 k).1,fun j u f=>?_⟩;unfold World.cell?;rw[k];simp;rw[←s,lF] at f;split at f
  ·simpa using f
  ·simp at f
def Q8(w:World)(b:Nat)(c:Array Value)(T:TypeId):Prop:=w.heap[b]?=some (.cells c T (0,0))
theorem Q8.lt{T:TypeId}(h:Q8 w b c T):b<w.heap.size:=(kz.1 h).1
theorem Q8.new(w:World)(c:Array Value)(T:TypeId):Q8 (w.alloc (.cells c T)) w.heap.size c T:=by unfold Q8;show(w.heap.push _)[w.heap.size]?=_;simp
theorem Q8.below{T:TypeId}(h:Q8 w b c T)(a:μ w w'):Q8 w' b c T:=by have:=h.lt;unfold Q8 at *;rw[a.block b this];exact h
theorem Q8.but{T:TypeId}(h:Q8 w b c T)(d:QJ r w w')(a:b≠r):Q8 w' b c T:=by have:=h.lt;unfold Q8 at *;rw[d.block b this a];exact h
theorem Q8.rules{T:TypeId}(h:Q8 w b c T):(∀o,w.cell? ⟨b,o,none⟩=c[o]?)/\(∀o,w.frozen? ⟨b,o,none⟩=false):=by
 unfold Q8 at h;exact⟨fun o=>by unfold World.cell?;rw[h];simp,fun o=>by unfold World.frozen?;rw[h];simp⟩
theorem Q8.boxed{T:TypeId}(h:Q8 w b c T):(∀o,w.cell? ⟨b,o,none⟩=c[o]?)/\(∀o,w.frozen? ⟨b,o,none⟩=false)/\b<w.heap.size:=⟨h.rules.1,h.rules.2,h.lt⟩
def QF(lo:Nat)(w:World)(v:Value)(l:κ):Prop:=w.ownsRow lo 9 1 v l.length (l.map Value.string)
theorem yt{a:Nat}{e:TypeId}{d:Nat}(h:w.ownsRow b e d v n xs)(o:a<=b):w.ownsRow a e d v n xs:=by
 obtain⟨p,j⟩:=h;refine⟨p,?_⟩;rcases j with j|⟨g,i,f,k,q,m⟩
 ·exact zf j
 ·exact zb ⟨g,i,f,k,by omega,m⟩
theorem QF.low{a:Nat}(h:QF b w v l)(d:a<=b):QF a w v l:=yt h d
theorem QF.nil(w:World):QF lo w (ν) []:=yD _ _ _ _
theorem QF.qx(h:QF lo w v l):∃d a,v=.slice d l.length a:=zp h
theorem QF.below(h:QF lo w v l)(a:μ w w'):QF lo w' v l:=zB h a
theorem QF.but(h:QF lo w v l)(a:QJ r w w'){T:TypeId}{f:Nat×Nat}(d:w.heap[r]?=some (.cells c T f))(e:T≠9):QF lo w' v l:=by
 exact xO h a d e
structure Rd (w:World) (r:Nat) (wv:Value) (l rest:List QC):Prop where
 box:∃p:Nat,p<=l.length/\rest=l.drop p/\w.heap[r]?=some (.cells #[wv,ι p] 185 (0,0))
 words:∃base,w.ownsRow base 182 2 wv l.length (jU l)
theorem Rd.cell{l rest:List QC}(h:Rd w r wv l rest):∃c f,w.heap[r]?=some (.cells c 185 f):=by
 obtain⟨p,_,_,a⟩:=h.box;exact⟨_,_,a⟩
theorem Rd.lt{l rest:List QC}(h:Rd w r wv l rest):r<w.heap.size:=by
 obtain⟨p,_,_,a⟩:=h.box;exact(kz.1 a).1
theorem Rd.below{l rest:List QC}(h:Rd w r wv l rest)(d:μ w w'):Rd w' r wv l rest:=by
 have a:=h.lt;obtain⟨⟨p,i,f,g⟩,b,e⟩:=h;exact⟨⟨p,i,f,by rw[d.block r a];exact g⟩,b,zB e d⟩
theorem LQ(l:List QC)(p:Nat)(k:Int)(t:ByteArray)(r:List QC)(h:(k,t)::r=l.drop p):(jU l)[p*2]?=some (ι k)/\(jU l)[p*2+1]?=some (.string t):=by
 induction l generalizing p with
 |nil=>simp at h
 |cons x l a=>
  cases p with
  |zero=>simp at h;obtain⟨rfl,_⟩:=h;simp[jU]
  |succ p=>
   have:=a p (by simpa using h);simp only[jU,us] at this ⊢;rw[show(p+1)*2=p*2+1+1 from by omega];simpa using this
theorem Rd.view{l rest:List QC}(h:Rd w r wv l rest):∃(p:Nat) (f:Option Addr) (cap:Nat),p<=l.length/\rest=l.drop p/\wv=.slice f l.length cap ∧
  w.heap[r]?=some (.cells #[wv,ι p] 185 (0,0))/\w.cell? ⟨r,0,none⟩=some wv/\w.cell? ⟨r,1,none⟩=some (ι p)/\(∀o,w.frozen? ⟨r,o,none⟩=false) ∧
  (∀k t i,rest=(k,t)::i->∃g,f=some ⟨g,0,none⟩/\g<w.heap.size/\p<l.length/\w.cell? ⟨g,p*2,none⟩=some (ι k)/\w.cell? ⟨g,p*2+1,none⟩=some (.string t)):=by
 obtain⟨⟨p,x,d,e⟩,b,m⟩:=h;obtain⟨f,cap,q⟩:=zp m;refine⟨p,f,cap,x,d,q,e,by unfold World.cell?;rw[e];simp,by unfold World.cell?;rw[e];simp,fun o=>by unfold World.frozen?;rw[e];simp,?_⟩;intro k t i j;have A:p<l.length:=by
  rcases gV p l.length with h|h
  ·exact h
  ·rw[uj h] at d;rw[d] at j;cases j
 obtain⟨g,u,a,_,z,s⟩:=yx m (by omega);rw[q] at a;simp at a;obtain⟨B,y⟩:=LQ l p k t i (by rw[←j,d]);exact⟨g,a.1,z,A,s _ _ B,s _ _ y⟩
theorem Rd.keep{z u:World}{l a rest:List QC}(q:Rd w r wv l a)(h:Rd z r wv l rest)(s:Below w.heap.size z u):Rd u r wv l rest:=by
 have i:=q.lt;obtain⟨_,I,_,k⟩:=q;obtain⟨⟨p,H,C,G⟩,b,B,o⟩:=h;refine⟨⟨p,H,C,by rw[s.block r i];exact G⟩,b,B,?_⟩;rcases o with o|⟨g,j,f,e,D,E,F⟩
 ·exact zf o
 ·refine zb ⟨g,j,f,e,D,?_,F⟩;rcases k with⟨d,_⟩|⟨A,y,x,d,_,m,_⟩
  ·rw[d] at e;cases e
  ·rw[d] at e;simp at e;obtain⟨rfl,rfl⟩:=e;rw[s.block A (kz.1 m).1];exact E
theorem QJ.onto{a b c:World}(h:QJ r a b)(k:Below a.heap.size b c):QJ r a c:=
 ⟨k.os.trans h.os,k.tape.trans h.tape,k.output.trans h.output,yc h.size k.size,fun i d e=>(k.block i d).trans (h.block i d e)⟩
theorem Rd.next{l rest:List QC}{p:Nat}(a:w.heap[r]?=some (.cells #[wv,ι p] 185 (0,0)))(g:p<l.length)(f:rest=l.drop p)
  (e:∃base,w.ownsRow base 182 2 wv l.length (jU l)):Rd (w.setCell ⟨r,1,none⟩ (ι ((p:Int)+1))) r wv l rest.tail:=by
 refine⟨⟨p+1,g,by rw[f,List.tail_drop],?_⟩,?_⟩
 ·simp[World.setCell,Array.getElem?_modify,a]
 ·obtain⟨b,d⟩:=e;exact⟨b,xO d ((QJ.refl r w).setCell 1 _) a (by decide)⟩
end
section
open Go.Proofs.Tryz
theorem eI(k:Int)(w:World):
  Calls prog 199 #[ι k] w fun e a=>e=ε (.bool (RA k))/\a=w:=by
 go_enter func199,ntmps199;go_wp2
 all_goals go_ret
 all_goals go_light
 all_goals exact⟨by simp_all [RA],rfl⟩
theorem nH(w:World)(r:Nat)(f:Value)(l rest:List QC)(h:Rd w r f l rest)(_:l.length<=500):
  Calls prog 179 #[(π r)] w fun e q=>e=ε (.agg #[ι (QT rest),.string (rest.headD (0,ByteArray.empty)).2])/\μ w q:=by
 have d:=h.lt;obtain⟨p,z,c,B,y,rfl,b,i,j,u,o⟩:=h.view;cases rest with
 |nil=>
  have a:p=l.length:=by
   have:=congrArg List.length y;simp at this;omega
  subst a;go_enter func179,ntmps179;go_wp2;go_quiet (fail)
  go_wp2;go_returns
  exact⟨rfl,(by repeat'(first|with_reducible(first|apply zR|assumption|apply zN|apply zA|apply zD|apply zS)|go_size))⟩
 |cons x s=>
  obtain⟨k,t⟩:=x;obtain⟨g,rfl,A,a,m,n⟩:=o k t s rfl;go_enter func179,ntmps179;go_wp2;go_quiet (fail)
  go_wp2;go_region
  all_goals go_wp2
  all_goals exact zK (v:=.agg #[ι k,.string t]) (by simp[results,results179,go_sem]) rfl ⟨rfl,(by repeat'(first|with_reducible(first|apply zR|assumption|apply zN|apply zA|apply zD|apply zS)|go_size))⟩
theorem Ru(w:World)(r:Nat)(i:Value)(l rest:List QC)(k:Int)(h:Rd w r i l rest)(D:l.length<=500)(G:k≠0):
  Calls prog 143 #[(π r),ι k] w fun e y=>e=ε (.bool (QT rest == k))/\Rd y r i l (if QT rest=k then rest.tail else rest)/\QJ r w y:=by
 have b:=nH w r i l rest h D;by_cases f:QT rest=k
 ·obtain⟨p,P,I,O,M,E,d,J,n,j,B⟩:=h.view;have s:=h.words;have c:=h.lt;cases rest with
  |nil=>exact zC f.symm G
  |cons x z=>
   obtain⟨u,t⟩:=x;obtain⟨g,_,Q,o,L,F⟩:=B u t z rfl;have H:=Q7 M;subst f;simp only[if_true,beq_self_eq_true,lW];go_enter func143,ntmps143;go_wp2_with (go_at_call 179;(refine b.mono ?_;rintro e m ⟨rfl,a⟩;clear b;have N:=a.size;have v:r<m.heap.size:=(by omega);have K:=zl a c n;have A:=(a.frozen (p:=⟨r,1,none⟩) c).trans (j 1)))
   go_ret;refine⟨rfl,?_,?_⟩
   ·obtain⟨C,s⟩:=s;exact(Rd.next (w:=m) (rest:=(u,t)::z) ((a.block r c).trans d) o H ⟨C,zB s a⟩).below zT
   ·have R:=QJ.of (r:=r) a;exact(by repeat'(first|with_reducible(first|apply xR|assumption|apply xN|apply xA|apply xD|apply xS|apply xT)|go_size))
 ·rw[za f];have q:(QT rest == k)=false:=by simpa using f
  rw[q];go_enter func143,ntmps143;go_wp2_with (go_at_call 179;refine b.mono ?_;rintro e m ⟨rfl,a⟩;clear b)
  go_ret;exact⟨rfl,h.below (a.alloc a.size _),QJ.of (a.alloc a.size _)⟩
theorem kr(w:World)(r:Nat)(a:Value)(l rest:List QC)(k:Int)(h:Rd w r a l rest)(d:l.length<=500)(f:k≠0)(b:QT rest=k):
  Calls prog 143 #[(π r),ι k] w fun e c=>e=ε (.bool true)/\Rd c r a l rest.tail/\QJ r w c:=by
 have:=Ru w r a l rest k h d f;rw[zc b,b,beq_self_eq_true] at this;exact this
theorem m8(w:World)(r:Nat)(a:Value)(l rest:List QC)(k:Int)(h:Rd w r a l rest)(d:l.length<=500)(f:k≠0)(b:QT rest≠k):
  Calls prog 143 #[(π r),ι k] w fun e c=>e=ε (.bool false)/\Rd c r a l rest/\QJ r w c:=by
 have:=Ru w r a l rest k h d f;rw[za b,show(QT rest == k)=false by simpa using b] at this;exact this
end
section
open Go.Proofs.Tryz
variable {lo:Nat}
theorem Q0:(prog.info? 9).map (fun i=>(i.zero,i.size,i.bytes))=some (some (.string ByteArray.empty),1,16):=by kernel_rfl
def rD(w:World)(r:Nat)(b:Value)(l rest:List QC)(e:Ending)(w':World):Prop:=
 QJ r w w'/\match yk rest with
  |none=>e=ε (.tuple #[ν,.bool false])
  |some (a,c)=>∃v,e=ε (.tuple #[v,.bool true])/\QF w.heap.size w' v a/\Rd w' r b l c
theorem EV{w w':World}{r:Nat}{c:Value}{l rest:List QC}(h:Hid (yk rest=none))(a:QJ r w w'):rD w r c l rest (ε (.tuple #[ν,.bool false])) w':=by
 have b:yk rest=none:=h;unfold rD;rw[b];exact⟨a,rfl⟩
theorem OI{w w':World}{r:Nat}{a v:Value}{l rest r2:List QC}{ts:κ}(h:Hid (yk rest=some (ts,r2)))(b:QJ r w w')(hs:QF w.heap.size w' v ts)(d:Rd w' r a l r2):
  rD w r a l rest (ε (.tuple #[v,.bool true])) w':=by
 have c:yk rest=some (ts,r2):=h;unfold rD;rw[c];exact⟨b,v,rfl,hs,d⟩
theorem CI{α β:Type}(o:Option (List α×β))(a:List α)(x:α):((o.map fun z=>(x::z.1,z.2)).map fun z=>(a++z.1,z.2))=o.map fun z=>((a++[x])++z.1,z.2):=by cases o<;>simp
theorem EF(w:World)(r:Nat)(E:Value)(l rest:List QC)(h:Rd w r E l rest)(hl:l.length<=500):
  Calls prog 180 #[(π r)] w fun e N=>rD w r E l rest e N:=by
 obtain⟨i0,hi,U,P,af⟩:=info_parts Q0;have am:=h.lt;go_enter func180,ntmps180;go_wp2;go_loopg [4,5] (rest.length) (fun n v t wr=>∃(f:κ) (b:List QC) (more:Bool),t=.bool more/\b.length<=n/\b.length+f.length<=rest.length ∧
   wr.ownsRow w.heap.size 9 1 v f.length (f.map Value.string)/\Rd wr r E l b/\QJ r w wr ∧
   Hid (more=true->yk rest=(yk b).map fun z=>(f++z.1,z.2))/\Hid (more=false->yk rest=some (f,b)))
 case atStart=>exact⟨[],rest,true,rfl,zg _,by simp,yD _ _ _ _,h,QJ.refl _ _,(fun _=>by simp),(fun h=>by cases h)⟩
 case round=>
  obtain⟨f,b,more,rfl,hn,L,y,m,c,D,M⟩:=hrel;have ap:rest.length<=l.length:=by
   obtain⟨p,_,hp,_⟩:=h.box;rw[hp];simp
  have ak:=c.size;have j:=m.lt;cases more with
  |false=>
   have H:=Q7 (M rfl);clear D M;go_wp2;go_ret2
   exact OI H c y m
  |true=>
   have d:=nH wr r E l b m hl;cases b with
   |nil=>
    have H:Hid (yk rest=none):=by rw[Hid.out D rfl];simp[yk,Hid]
    clear D M;have O:RA 0=false:=rfl;simp only[QT] at d;go_wp2_with (first|(go_at_call 179;refine d.mono ?_;rintro e u ⟨rfl,a⟩;clear d;have hz:=a.size)|(go_at_call 199;refine(eI _ _).mono ?_;rintro e N ⟨rfl,rfl⟩))
    go_ret2
    have hB:=c.trans (QJ.of a);exact EV H (by repeat'(first|with_reducible(first|apply xR|assumption|apply xN|apply xA|apply xD|apply xS|apply xT)|go_size))
   |cons x i=>
    obtain⟨k,t⟩:=x;simp only[QT,List.headD_cons] at d;cases O:RA k with
    |false=>
     have H:Hid (yk rest=none):=by rw[Hid.out D rfl,KP O];simp[Hid]
     clear D M;go_wp2_with (first|(go_at_call 179;refine d.mono ?_;rintro e u ⟨rfl,a⟩;clear d;have hz:=a.size)|(go_at_call 199;refine(eI _ _).mono ?_;rintro e N ⟨rfl,rfl⟩))
     go_ret2
     have hB:=c.trans (QJ.of a);exact EV H (by repeat'(first|with_reducible(first|apply xR|assumption|apply xN|apply xA|apply xD|apply xS|apply xT)|go_size))
    |true=>
     obtain⟨p,ao,an,hp,hr,I,s,ae,aa,X,hx⟩:=m.view;obtain⟨g,_,hg,ab,ag,V⟩:=hx k t i rfl;have HR:Hid ((k,t)::i=l.drop p):=hr;have HW:=Q7 I;clear hx hr ag V ae I;go_wp2_with (first|(go_at_call 179;refine d.mono ?_;rintro e u ⟨rfl,a⟩;clear d;have hz:=a.size;have ah:r<u.heap.size:=(by omega);have aq:=zl a j aa;have aj:=(a.frozen (p:=⟨r,1,none⟩) j).trans (X 1);have ac:=a;have K:=Rd.next (w:=u) (rest:=(k,t)::i) ((a.block r j).trans s) ab HR ⟨_,zB m.words.choose_spec a⟩;have T:=xO (zB y a) ((QJ.refl r u).setCell 1 (ι ((p:Int)+1))) ((a.block r j).trans s) (by decide);have W:=(c.trans (QJ.of a)).setCell 1 (ι ((p:Int)+1));have al:(u.setCell ⟨r,1,none⟩ (ι ((p:Int)+1))).heap.size=u.heap.size:=(by simp);clear ac)|(go_at_call 199;refine(eI _ _).mono ?_;rintro e N ⟨rfl,rfl⟩)|(at_builtin;refine ki (u.setCell ⟨r,1,none⟩ (ι ((p:Int)+1))) _ _ _ rfl (.tmp 21) (.tmp 24) 30 rfl w.heap.size 9 i0 _ 1 16 underlying30 hi U P af rfl (by decide) _ _ _ rfl T zT _ _ rfl (by simp) rfl (by simp[Value.oneCell']) (by simp at L;omega) (by omega) (by omega) ?_;intro v' w2 Q G ad S Y ai;clear ad S Y;have A:=Rd.keep h K G;have C:=W.onto G;have J:=Ru w2 r E l i 6 A hl (by decide))|(go_at_call 143;refine J.mono ?_;rintro e w3 ⟨rfl,F,q⟩;clear J))
     obtain⟨c3,f3,B⟩:=A.cell;have R:=xO Q q B (by decide);have hP:=Hid.out D trivial;simp only[xi] at hn L;have Z:(if QT i=6 then i.tail else i).length<=i.length:=by split<;>simp
     go_roundg i.length
     case measure=>omega
     case rel=>
      refine⟨f++[t],(if QT i=6 then i.tail else i),(QT i == 6),rfl,Z,by simp;omega,by simpa using R,F,C.trans q,?_,?_⟩
      ·intro h6;have o:QT i=6:=by simpa using h6
       rw[zc o,hP,IY O o,CI]
      ·intro h6;have o:QT i≠6:=by simpa using h6
       rw[za o,hP,CJ O o];simp
theorem Mk(w:World)(r:Nat)(a:Value)(l rest:List QC)(h:Rd w r a l rest)(d:l.length<=500)(f:yk rest=none):
  Calls prog 180 #[(π r)] w fun e c=>e=ε (.tuple #[ν,.bool false])/\QJ r w c:=by
 refine(EF w r a l rest h d).mono ?_;rintro e c ⟨g,b⟩;rw[f] at b;exact⟨b,g⟩
theorem C2(w:World)(r:Nat)(f:Value)(l rest r2:List QC)(ts:κ)(h:Rd w r f l rest)(i:l.length<=500)(j:yk rest=some (ts,r2)):
  Calls prog 180 #[(π r)] w fun e d=>∃v,e=ε (.tuple #[v,.bool true])/\QF w.heap.size d v ts/\Rd d r f l r2/\QJ r w d:=by
 refine(EF w r f l rest h i).mono ?_;rintro e d ⟨k,g⟩;rw[j] at g;obtain⟨v,a,b,c⟩:=g;exact⟨v,a,b,c,k⟩
def lZ(o:Option (zj×List QC))(w:World)(r:Nat)(c:Value)(l:List QC)(e:Ending)(w':World):Prop:=
 QJ r w w'/\match o with
  |none=>e=ε (.tuple #[.agg #[.bool false,.string ByteArray.empty,ν],.bool false])
  |some (a,d)=>∃b,e=ε (.tuple #[.agg #[.bool a.neg,.string a.pred,b],.bool true])/\QF w.heap.size w' b a.args/\Rd w' r c l d
theorem Gg(w:World)(r:Nat)(d:Value)(l rest:List QC)(h:Rd w r d l rest)(n:l.length<=500)(x:(QT rest == 1)=false):
  Calls prog 142 #[(π r)] w fun e p=>lZ none w r d l e p:=by
 have q:=h.lt;have f:w.heap.size≠r:=by omega
 go_enter func142,ntmps142;go_wp2_with (first|(go_at_call 179;refine(nH _ r d l rest (by exact h.below (by go_grown)) n).mono ?_;rintro e s ⟨rfl,b⟩;have c:=QB zT b;have i:=(Q8.new w _ _).below b;have g:=h.below c)|(go_at_call 143;refine(Ru _ r d l rest 1 (by exact g.below (by go_grown)) n (by decide)).mono ?_;rintro e u ⟨rfl,m,a⟩;have k:=(i.below zT).but a f;obtain⟨j,o⟩:=k.rules))
 have t:=(QJ.of c).trans (((QJ.refl r s).alloc _).trans a);exact zK (v:=.tuple #[.agg #[.bool false,.string ByteArray.empty,ν],.bool false]) (by simp[results,results142,go_sem,j];rfl) rfl ⟨(by repeat'(first|with_reducible(first|apply xR|assumption|apply xN|apply xA|apply xD|apply xS|apply xT)|go_size)),rfl⟩
theorem Gc(w:World)(r:Nat)(g:Value)(l rest:List QC)(h:Rd w r g l rest)(B:l.length<=500)(M:QT rest=1)(Y:QT rest.tail≠4):
  Calls prog 142 #[(π r)] w fun e C=>lZ (some (⟨false,(rest.headD (0,ByteArray.empty)).2,[]⟩,rest.tail)) w r g l e C:=by
 have X:=h.lt;have i:w.heap.size≠r:=by omega
 generalize T:(rest.headD (0,ByteArray.empty)).2=t;have HT:=Q7 T;have Q:=Q7 M;have D:Hid (∀W,Rd W r g l rest->Calls prog 179 #[(π r)] W fun e C=>e=ε (.agg #[ι 1,.string t])/\μ W C):=fun W P=>by
  have:=nH W r g l rest P B;rw[M,Hid.out HT] at this;exact this
 have V:=Q7 Y;go_enter func142,ntmps142;go_wp2_with (first|(go_at_call 179;refine(Hid.out D _ (by exact h.below (by go_grown))).mono ?_;rintro e u ⟨rfl,p⟩;have n:=QB zT p;have o:=(Q8.new w _ _).below p;have N:=o.lt;have F:=h.below n;have H:r<u.heap.size:=(by omega);have c:u.heap.size≠r:=(by omega))|(go_at_call 143;have j:=s;refine(m8 _ r g l rest.tail 4 j B (by decide) V).mono ?_;rintro e w3 ⟨rfl,k,b⟩;have m:=f.but b i;have q:=d.but b c;clear E A G y;obtain⟨x,U⟩:=m.rules;obtain⟨S,aa⟩:=q.rules;have R:=m.lt;have L:=q.lt;have I:=k.lt;have O:=z.trans b;clear j)|(go_at_call 143;have j:=F;refine(kr _ r g l rest 1 (by exact j.below (by go_grown)) B (by decide) Q).mono ?_;rintro e w2 ⟨rfl,s,a⟩;have f:=(o.below zT).but a i;have d:=(Q8.new u _ _).but a c;obtain⟨E,A⟩:=f.rules;obtain⟨G,y⟩:=d.rules;have Z:=f.lt;have J:=d.lt;have K:=s.lt;have z:=(QJ.of n).trans (((QJ.refl r u).alloc _).trans a);clear j))
 exact zK (v:=.tuple #[.agg #[.bool false,.string t,ν],.bool true]) (by simp[results,results142,go_sem,x]) rfl ⟨(by repeat'(first|with_reducible(first|apply xR|assumption|apply xN|apply xA|apply xD|apply xS|apply xT)|go_size)),_,rfl,QF.nil _,h.keep k (by go_grown)⟩
theorem MW(w:World)(r:Nat)(f:Value)(l rest:List QC)(h:Rd w r f l rest)(z:l.length<=500)(V:QT rest=1)(h4:QT rest.tail=4)(h5:yk rest.tail.tail=none):
  Calls prog 142 #[(π r)] w fun e H=>lZ none w r f l e H:=by
 have ad:=h.lt;have g:w.heap.size≠r:=by omega
 obtain⟨t,HT⟩:∃t,Hid ((rest.headD (0,ByteArray.empty)).2=t):=⟨_,rfl⟩;have H1:=Q7 V;have I:Hid (∀W,Rd W r f l rest->Calls prog 179 #[(π r)] W fun e H=>e=ε (.agg #[ι 1,.string t])/\μ W H):=fun W hW=>by
  have:=nH W r f l rest hW z;rw[V,Hid.out HT] at this;exact this
 have H4:=Q7 h4;have X:=Q7 h5;go_enter func142,ntmps142;go_wp2_with (first|(go_at_call 179;refine(Hid.out I _ (by exact h.below (by go_grown))).mono ?_;rintro e A ⟨rfl,x⟩;have q:=QB zT x;have u:=(Q8.new w _ _).below x;have Y:=u.lt;have L:=h.below q;have P:r<A.heap.size:=(by omega);have d:A.heap.size≠r:=(by omega))|(go_at_call 180;refine(Mk _ r f l rest.tail.tail o z X).mono ?_;rintro e w4 ⟨rfl,b⟩;have p:=i.but b g;have s:=k.but b d;clear B J G O;obtain⟨M,af⟩:=p.rules;obtain⟨Z,ae⟩:=s.rules;have ac:=p.lt;have S:=s.lt;have ab:=D.trans b)|(go_at_call 143;have n:=y;refine(kr _ r f l rest.tail 4 n z (by decide) H4).mono ?_;rintro e w3 ⟨rfl,o,c⟩;have i:=m.but c g;have k:=j.but c d;clear K F N C;obtain⟨B,J⟩:=i.rules;obtain⟨G,O⟩:=k.rules;have aa:=i.lt;have U:=k.lt;have Q:=o.lt;have D:=E.trans c;clear n)|(go_at_call 143;have n:=L;refine(kr _ r f l rest 1 (by exact n.below (by go_grown)) z (by decide) H1).mono ?_;rintro e w2 ⟨rfl,y,a⟩;have m:=(u.below zT).but a g;have j:=(Q8.new A _ _).but a d;obtain⟨K,F⟩:=m.rules;obtain⟨N,C⟩:=j.rules;have ag:=m.lt;have R:=j.lt;have T:=y.lt;have E:=(QJ.of q).trans (((QJ.refl r A).alloc _).trans a);clear n))
 exact zK (v:=.tuple #[.agg #[.bool false,.string ByteArray.empty,ν],.bool false]) (by simp[results,results142,go_sem,M];rfl) rfl ⟨(by repeat'(first|with_reducible(first|apply xR|assumption|apply xN|apply xA|apply xD|apply xS|apply xT)|go_size)),rfl⟩
theorem JJ(w:World)(r:Nat)(i:Value)(l rest r2:List QC)(ts:κ)(h:Rd w r i l rest)(B:l.length<=500)(h1:QT rest=1)(h4:QT rest.tail=4)(h5:yk rest.tail.tail=some (ts,r2))(h6:QT r2≠5):
  Calls prog 142 #[(π r)] w fun e V=>lZ none w r i l e V:=by
 have aw:=h.lt;have g:w.heap.size≠r:=by omega
 obtain⟨t,HT⟩:∃t,Hid ((rest.headD (0,ByteArray.empty)).2=t):=⟨_,rfl⟩;have H1:=Q7 h1;have O:Hid (∀W,Rd W r i l rest->Calls prog 179 #[(π r)] W fun e V=>e=ε (.agg #[ι 1,.string t])/\μ W V):=fun W hW=>by
  have:=nH W r i l rest hW B;rw[h1,Hid.out HT] at this;exact this
 have H4:=Q7 h4;have H5:=Q7 h5;have H6:=Q7 h6;go_enter func142,ntmps142;go_wp2_with (first|(go_at_call 179;refine(Hid.out O _ (by exact h.below (by go_grown))).mono ?_;rintro e F ⟨rfl,E⟩;have u:=QB zT E;have x:=(Q8.new w _ _).below E;have aq:=x.lt;have Y:=h.below u;have af:r<F.heap.size:=(by omega);have f:F.heap.size≠r:=(by omega))|(go_at_call 180;refine(C2 _ r i l rest.tail.tail r2 ts A B H5).mono ?_;rintro e w4 ⟨va,rfl,s,D,d⟩;obtain⟨ao,cp,rfl⟩:=s.qx;have o:=k.but d g;have m:=p.but d f;clear M T L R;obtain⟨P,Z⟩:=o.rules;obtain⟨G,X⟩:=m.rules;have am:=o.lt;have aj:=m.lt;have ab:=D.lt;have N:=aa.trans d)|(go_at_call 143;have j:=D;refine(m8 _ r i l r2 5 j B (by decide) H6).mono ?_;rintro e w5 ⟨rfl,K,a⟩;have C:=o.but a g;have z:=m.but a f;clear P Z G X;obtain⟨S,ar⟩:=C.rules;obtain⟨an,av⟩:=z.rules;have au:=C.lt;have ah:=z.lt;have ac:=K.lt;have ak:=N.trans a;clear j)|(go_at_call 143;have j:=y;refine(kr _ r i l rest.tail 4 j B (by decide) H4).mono ?_;rintro e w3 ⟨rfl,A,b⟩;have k:=n.but b g;have p:=q.but b f;clear U J Q H;obtain⟨M,T⟩:=k.rules;obtain⟨L,R⟩:=p.rules;have al:=k.lt;have ae:=p.lt;have ai:=A.lt;have aa:=I.trans b;clear j)|(go_at_call 143;have j:=Y;refine(kr _ r i l rest 1 (by exact j.below (by go_grown)) B (by decide) H1).mono ?_;rintro e w2 ⟨rfl,y,c⟩;have n:=(x.below zT).but c g;have q:=(Q8.new F _ _).but c f;obtain⟨U,J⟩:=n.rules;obtain⟨Q,H⟩:=q.rules;have ap:=n.lt;have ag:=q.lt;have ad:=y.lt;have I:=(QJ.of u).trans (((QJ.refl r F).alloc _).trans c);clear j))
 exact zK (v:=.tuple #[.agg #[.bool false,.string ByteArray.empty,ν],.bool false]) (by simp[results,results142,go_sem,S];rfl) rfl ⟨(by repeat'(first|with_reducible(first|apply xR|assumption|apply xN|apply xA|apply xD|apply xS|apply xT)|go_size)),rfl⟩
theorem IN(w:World)(r:Nat)(j:Value)(l rest r2:List QC)(ts:κ)(h:Rd w r j l rest)(E:l.length<=500)(h1:QT rest=1)(h4:QT rest.tail=4)(h5:yk rest.tail.tail=some (ts,r2))(h6:QT r2=5):
  Calls prog 142 #[(π r)] w fun e Z=>lZ (some (⟨false,(rest.headD (0,ByteArray.empty)).2,ts⟩,r2.tail)) w r j l e Z:=by
 have ay:=h.lt;have g:w.heap.size≠r:=by omega
 generalize ht:(rest.headD (0,ByteArray.empty)).2=t;have HT:=Q7 ht;have H1:=Q7 h1;have Q:Hid (∀W,Rd W r j l rest->Calls prog 179 #[(π r)] W fun e Z=>e=ε (.agg #[ι 1,.string t])/\μ W Z):=fun W hW=>by
  have:=nH W r j l rest hW E;rw[h1,Hid.out HT] at this;exact this
 have H4:=Q7 h4;have H5:=Q7 h5;have H6:=Q7 h6;go_enter func142,ntmps142;go_wp2_with (first|(go_at_call 179;refine(Hid.out Q _ (by exact h.below (by go_grown))).mono ?_;rintro e H ⟨rfl,F⟩;have z:=QB zT F;have A:=(Q8.new w _ _).below F;have au:=A.lt;have ab:=h.below z;have ah:r<H.heap.size:=(by omega);have f:H.heap.size≠r:=(by omega))|(go_at_call 180;refine(C2 _ r j l rest.tail.tail r2 ts D E H5).mono ?_;rintro e w4 ⟨va,rfl,i,s,d⟩;obtain⟨ao,cp,rfl⟩:=i.qx;have p:=m.but d g;have n:=u.but d f;clear O X M T;obtain⟨R,ac⟩:=p.rules;obtain⟨I,aa⟩:=n.rules;have ap:=p.lt;have al:=n.lt;have ad:=s.lt;have P:=G.trans d)|(go_at_call 143;have k:=s;refine(kr _ r j l r2 5 k E (by decide) H6).mono ?_;rintro e w5 ⟨rfl,y,a⟩;have q:=p.but a g;have C:=n.but a f;clear R ac I aa;obtain⟨V,av⟩:=q.rules;obtain⟨aq,ax⟩:=C.rules;have aw:=q.lt;have aj:=C.lt;have ae:=y.lt;have am:=P.trans a;clear k)|(go_at_call 143;have k:=B;refine(kr _ r j l rest.tail 4 k E (by decide) H4).mono ?_;rintro e w3 ⟨rfl,D,b⟩;have m:=o.but b g;have u:=x.but b f;clear Y L S J;obtain⟨O,X⟩:=m.rules;obtain⟨M,T⟩:=u.rules;have an:=m.lt;have ag:=u.lt;have ak:=D.lt;have G:=K.trans b;clear k)|(go_at_call 143;have k:=ab;refine(kr _ r j l rest 1 (by exact k.below (by go_grown)) E (by decide) H1).mono ?_;rintro e w2 ⟨rfl,B,c⟩;have o:=(A.below zT).but c g;have x:=(Q8.new H _ _).but c f;obtain⟨Y,L⟩:=o.rules;obtain⟨S,J⟩:=x.rules;have ar:=o.lt;have ai:=x.lt;have af:=B.lt;have K:=(QJ.of z).trans (((QJ.refl r H).alloc _).trans c);clear k))
 obtain⟨c4,f4,U⟩:=s.cell;have N:=i.but a U (by decide);exact zK (v:=.tuple #[.agg #[.bool false,.string t,.slice ao ts.length cp],.bool true]) (by simp[results,results142,go_sem,V]) rfl ⟨(by repeat'(first|with_reducible(first|apply xR|assumption|apply xN|apply xA|apply xD|apply xS|apply xT)|go_size)),_,rfl,(N.low G.size).but (r:=w.heap.size) (by repeat'(first|with_reducible(first|apply xR|assumption|apply xN|apply xA|apply xD|apply xS|apply xT)|go_size)) q (by decide),h.keep y (by go_grown)⟩
theorem Bf(w:World)(r:Nat)(a:Value)(l rest:List QC)(h:Rd w r a l rest)(d:l.length<=500):
  Calls prog 142 #[(π r)] w fun e k=>lZ (yZ rest) w r a l e k:=by
 unfold yZ;split
 ·rename_i b;split
  ·rename_i c;split
   ·rename_i f;exact MW w r a l rest h d b c f
   ·rename_i i j f;split
    ·rename_i g;exact IN w r a l rest j i h d b c f g
    ·rename_i g;exact JJ w r a l rest j i h d b c f g
  ·rename_i c;exact Gc w r a l rest h d b c
 ·rename_i b;exact Gg w r a l rest h d (by simpa using b)
theorem EX(w:World)(r:Nat)(a:Value)(l rest:List QC)(h:Rd w r a l rest)(d:l.length<=500)(f:yZ rest=none):
  Calls prog 142 #[(π r)] w fun e c=>e=ε (.tuple #[.agg #[.bool false,.string ByteArray.empty,ν],.bool false])/\QJ r w c:=by
 refine(Bf w r a l rest h d).mono ?_;rintro e c ⟨g,b⟩;rw[f] at b;exact⟨b,g⟩
theorem p3(w:World)(r:Nat)(f:Value)(l rest r2:List QC)(a:zj)(h:Rd w r f l rest)(j:l.length<=500)(k:yZ rest=some (a,r2)):
  Calls prog 142 #[(π r)] w fun e d=>∃g,e=ε (.tuple #[.agg #[.bool a.neg,.string a.pred,g],.bool true])/\QF w.heap.size d g a.args/\Rd d r f l r2/\QJ r w d:=by
 refine(Bf w r f l rest h j).mono ?_;rintro e d ⟨m,i⟩;rw[k] at i;obtain⟨v,a,b,c⟩:=i;exact⟨v,a,b,c,m⟩
theorem Ev(b:Bool)(w:World)(r:Nat)(f:Value)(l rest a:List QC)(h:Rd w r f l rest)(B:l.length<=500)
  (j:∀W,Rd W r f l rest->Calls prog 143 #[(π r),ι 8] W fun e g=>e=ε (.bool b)/\Rd g r f l a/\QJ r W g) (t:yZ a=none):
  Calls prog 181 #[(π r)] w fun e g=>lZ none w r f l e g:=by
 have C:=h.lt;have i:w.heap.size≠r:=by omega
 have n:Hid (∀W,Rd W r f l rest->Calls prog 143 #[(π r),ι 8] W fun e g=>e=ε (.bool b)/\Rd g r f l a/\QJ r W g):=j;clear j;have A:Hid (yZ a=none):=t;clear t;go_enter func181,ntmps181;go_wp2_with (first|(go_at_call 143;refine(Hid.out n _ (by exact h.below (by go_grown))).mono ?_;rintro e E ⟨rfl,m,d⟩;have k:=(Q8.new w _ _).but d i;have x:=k.lt;have u:=m.lt;have o:=((QJ.refl r w).alloc _).trans d)|(go_at_call 142;refine(EX _ r f l a m B A).mono ?_;rintro e D ⟨rfl,c⟩;have s:=k.but c i;obtain⟨p,z,q⟩:=s.boxed;have y:=o.trans c))
 exact zK (v:=.tuple #[.agg #[.bool false,.string ByteArray.empty,ν],.bool false]) (by simp[results,results181,go_sem,p,q];rfl) rfl ⟨(by repeat'(first|with_reducible(first|apply xR|assumption|apply xN|apply xA|apply xD|apply xS|apply xT)|go_size)),rfl⟩
theorem AQ(b:Bool)(w:World)(r:Nat)(i:Value)(l rest c r2:List QC)(a:zj)(h:Rd w r i l rest)(E:l.length<=500)
  (n:∀W,Rd W r i l rest->Calls prog 143 #[(π r),ι 8] W fun e j=>e=ε (.bool b)/\Rd j r i l c/\QJ r W j) (y:yZ c=some (a,r2)):
  Calls prog 181 #[(π r)] w fun e j=>lZ (some ({a with neg:=b},r2)) w r i l e j:=by
 have H:=h.lt;have k:w.heap.size≠r:=by omega
 have s:Hid (∀W,Rd W r i l rest->Calls prog 143 #[(π r),ι 8] W fun e j=>e=ε (.bool b)/\Rd j r i l c/\QJ r W j):=n;clear n;have D:Hid (yZ c=some (a,r2)):=y;clear y;go_enter func181,ntmps181;go_wp2_with (first|(go_at_call 143;refine(Hid.out s _ (by exact h.below (by go_grown))).mono ?_;rintro e K ⟨rfl,p,f⟩;have o:=(Q8.new w _ _).but f k;have A:=o.lt;have z:=p.lt;have m:=((QJ.refl r w).alloc _).trans f)|(go_at_call 142;refine(p3 _ r i l c r2 a p E D).mono ?_;rintro e J ⟨I,rfl,g,x,d⟩;obtain⟨F,G,rfl⟩:=g.qx;have q:=o.but d k;obtain⟨t,C,u⟩:=q.boxed;have B:=m.trans d))
 exact zK (v:=.tuple #[.agg #[.bool b,.string a.pred,.slice F a.args.length G],.bool true]) (by simp[results,results181,go_sem,t,u]) rfl ⟨(by repeat'(first|with_reducible(first|apply xR|assumption|apply xN|apply xA|apply xD|apply xS|apply xT)|go_size)),_,rfl,(g.low m.size).but (r:=w.heap.size) (by repeat'(first|with_reducible(first|apply xR|assumption|apply xN|apply xA|apply xD|apply xS|apply xT)|go_size)) q (by decide),h.keep x (by go_grown)⟩
theorem Pp{rest r2:List QC}{a:zj}(h:yZ rest=some (a,r2)):a.neg=false:=by
 unfold yZ at h
 (repeat' split at h)<;>first|(cases h;done)|(simp at h;obtain⟨rfl,_⟩:=h;rfl)
theorem Ca(w:World)(r:Nat)(b:Value)(l rest:List QC)(h:Rd w r b l rest)(c:l.length<=500):
  Calls prog 181 #[(π r)] w fun e j=>lZ (uD rest) w r b l e j:=by
 unfold uD;split
 ·rename_i g;cases f:yZ rest.tail with
  |none=>exact Ev true w r b l rest rest.tail h c (fun W d=>kr W r b l rest 8 d c (by decide) g) f
  |some z=>obtain⟨a,i⟩:=z;exact AQ true w r b l rest rest.tail i a h c (fun W d=>kr W r b l rest 8 d c (by decide) g) f
 ·rename_i g;cases f:yZ rest with
  |none=>exact Ev false w r b l rest rest h c (fun W d=>m8 W r b l rest 8 d c (by decide) g) f
  |some z=>
   obtain⟨a,i⟩:=z;have:=AQ false w r b l rest rest i a h c (fun W d=>m8 W r b l rest 8 d c (by decide) g) f;rwa [show({a with neg:=false}:zj)=a by rw[←Pp f]] at this
end
section
open Go.Proofs.Tryz
variable {lo:Nat}{v:Value}{n:Nat}{w:World}{r r2:List QC}{a:zj}{o:Option (List zj×List QC)}
theorem gx{f A:World}{b D:Nat}{e t:TypeId}{s B:Nat}{v2:Value}{E:Nat}{xs d:List Value}(F:f.ownsRow b e s v n xs)(j:e≠t)(h:f.ownsRow D t B v2 E d)
  (G:∀k,k<f.heap.size->some k≠v.ownBlock->A.heap[k]?=f.heap[k]?):A.ownsRow D t B v2 E d:=by
 obtain⟨J,l⟩:=h;refine⟨J,?_⟩;rcases l with l|⟨g,u,i,m,H,y,I⟩
 ·exact zf l
 ·refine zb ⟨g,u,i,m,H,?_,I⟩;rw[G g (kz.1 y).1 ?_]
  ·exact y
  ·intro q;obtain⟨_,⟨x,_⟩|⟨K,z,C,p,_,c,_⟩⟩:=F
   ·subst x;cases q
   ·subst p;simp only[Value.ownBlock,zt] at q;subst q;rw[y] at c;simp at c;exact j c.2.symm
def uL(lo:Nat)(w:World):List zj->List Value->Prop
 |[],b=>b=[]
 |a::d,b=>∃c r,b=.bool a.neg::.string a.pred::c::r/\QF lo w c a.args/\uL lo w d r
theorem uL.snoc{w:World}{a:zj}{b:Value}(hs:QF lo w b a.args):∀{c:List zj} {xs:List Value},uL lo w c xs->uL lo w (c++[a]) (xs++[.bool a.neg,.string a.pred,b])
 |[],_,h=>by simp only[uL] at h;subst h;exact⟨b,[],rfl,hs,rfl⟩
 |_::c,_,h=>by obtain⟨v,r,rfl,d,e⟩:=h;exact⟨v,r++[.bool a.neg,.string a.pred,b],rfl,d,uL.snoc hs e⟩
theorem uL.mono{w w':World}(c:∀d l,QF lo w d l->QF lo w' d l):∀{b:List zj} {xs:List Value},uL lo w b xs->uL lo w' b xs
 |[],_,h=>h
 |_::b,_,h=>by obtain⟨v,r,rfl,f,e⟩:=h;exact⟨v,r,rfl,c _ _ f,uL.mono c e⟩
theorem uL.at{w:World}:∀{c:List zj} {xs:List Value} (i:Nat) (a:zj),uL lo w c xs->c[i]?=some a->∃d,xs[i*3]?=some (.bool a.neg)/\xs[i*3+1]?=some (.string a.pred)/\xs[i*3+2]?=some d/\QF lo w d a.args
 |[],_,i,a,_,b=>by simp at b
 |_::c,_,0,a,h,b=>by obtain⟨v,r,rfl,f,e⟩:=h;simp at b;subst b;exact⟨v,rfl,rfl,rfl,f⟩
 |_::c,_,i+1,a,h,b=>by
  obtain⟨v,r,rfl,f,e⟩:=h;obtain⟨d,j,l,g,k⟩:=uL.at i a e (by simpa using b);refine⟨d,?_,?_,?_,k⟩
  ·rw[show(i+1)*3=i*3+1+1+1 from by omega];simpa using j
  ·rw[show(i+1)*3+1=i*3+1+1+1+1 from by omega];simpa using l
  ·rw[show(i+1)*3+2=i*3+2+1+1+1 from by omega];simpa using g
def Rg(lo:Nat)(w:World)(v:Value)(b:List zj):Prop:=∃c,w.ownsRow lo 90 3 v b.length c/\uL lo w b c
theorem uL.low{a b:Nat}{w:World}(c:a<=b):∀{d:List zj} {xs:List Value},uL b w d xs->uL a w d xs
 |[],_,h=>h
 |_::d,_,h=>by obtain⟨v,r,rfl,e,f⟩:=h;exact⟨v,r,rfl,e.low c,uL.low c f⟩
theorem Rg.low{a b:Nat}{w:World}{v:Value}{l:List zj}(h:Rg b w v l)(c:a<=b):Rg a w v l:=by obtain⟨d,h,e⟩:=h;exact⟨d,yt h c,e.low c⟩
theorem Rg.nil(w:World):Rg lo w (ν) []:=⟨[],yD _ _ _ _,rfl⟩
theorem Rg.qx{l:List zj}(h:Rg lo w v l):∃c b,v=.slice c l.length b:=by obtain⟨d,h,_⟩:=h;exact zp h
theorem Rg.below{w w':World}{v:Value}{l:List zj}(h:Rg lo w v l)(b:μ w w'):Rg lo w' v l:=by
 obtain⟨c,h,d⟩:=h;exact⟨c,zB h b,d.mono fun _ _ k=>k.below b⟩
theorem Rg.but{r:Nat}{w w':World}{v:Value}{l:List zj}(h:Rg lo w v l)(d:QJ r w w'){c:Array Value}{T:TypeId}{f:Nat×Nat}(e:w.heap[r]?=some (.cells c T f))(j:T≠9)(b:T≠90):Rg lo w' v l:=by
 obtain⟨i,h,g⟩:=h;exact⟨i,xO h d e b,g.mono fun _ _ k=>k.but d e j⟩
def xK:Nat->List QC->Option (List zj×List QC)
 |0,_=>none
 |n+1,r=>match uD r with
  |none=>none
  |some (a,r2)=>if QT r2=6 then(xK n r2.tail).map fun z=>(a::z.1,z.2) else some ([a],r2)
theorem rh(h:uD r=none):xK (n+1) r=none:=by simp[xK,h]
theorem pT(h:uD r=some (a,r2))(b:QT r2=6):xK (n+1) r=(xK n r2.tail).map fun z=>(a::z.1,z.2):=by simp[xK,h,b]
theorem pJ(h:uD r=some (a,r2))(b:QT r2≠6):xK (n+1) r=some ([a],r2):=by simp[xK,h,b]
theorem Ap:∀(r:List QC) {ts:κ} {r2:List QC},yk r=some (ts,r2)->r2.length<r.length
 |[],_,_,h=>by simp[yk] at h
 |[x],ts,r2,h=>by
  simp only[yk] at h;split at h<;>simp at h
  obtain⟨_,rfl⟩:=h;simp
 |x::y::r,ts,r2,h=>by
  simp only[yk] at h;split at h
  ·split at h
   ·cases b:yk r with
    |none=>rw[b] at h;simp at h
    |some z=>
     obtain⟨c,d⟩:=z;rw[b] at h;simp at h;have:=Ap r b;obtain⟨_,rfl⟩:=h;simp;omega
   ·simp at h;obtain⟨_,rfl⟩:=h;simp
  ·simp at h
theorem sP(h:yZ r=some (a,r2)):r2.length<r.length:=by
 cases r with
 |nil=>simp[yZ,QT] at h
 |cons x r=>
  unfold yZ at h;split at h
  ·split at h
   ·split at h
    ·simp at h
    ·rename_i c d b;have:=Ap _ b;split at h<;>simp at h
     obtain⟨_,rfl⟩:=h;simp at this ⊢;omega
   ·simp at h;obtain⟨_,rfl⟩:=h;simp
  ·simp at h
theorem Bg(h:uD r=some (a,r2)):r2.length<r.length:=by
 unfold uD at h;split at h
 ·cases b:yZ r.tail with
  |none=>rw[b] at h;simp at h
  |some z=>
   obtain⟨d,c⟩:=z;rw[b] at h;simp at h;have:=sP b;obtain⟨_,rfl⟩:=h;simp at this;omega
 ·exact sP h
theorem Hs(w:World)(r:Nat)(b:Value)(l rest:List QC)(h:Rd w r b l rest)(f:l.length<=500)(g:uD rest=none):
  Calls prog 181 #[(π r)] w fun e d=>e=ε (.tuple #[.agg #[.bool false,.string ByteArray.empty,ν],.bool false])/\QJ r w d:=by
 refine(Ca w r b l rest h f).mono ?_;rintro e d ⟨i,c⟩;rw[g] at c;exact⟨c,i⟩
theorem Ml(w:World)(r:Nat)(f:Value)(l rest r2:List QC)(a:zj)(h:Rd w r f l rest)(j:l.length<=500)(k:uD rest=some (a,r2)):
  Calls prog 181 #[(π r)] w fun e d=>∃g,e=ε (.tuple #[.agg #[.bool a.neg,.string a.pred,g],.bool true])/\QF w.heap.size d g a.args/\Rd d r f l r2/\QJ r w d:=by
 refine(Ca w r f l rest h j).mono ?_;rintro e d ⟨m,i⟩;rw[k] at i;obtain⟨v,a,b,c⟩:=i;exact⟨v,a,b,c,m⟩
theorem PU:(prog.info? 90).map (fun i=>(i.zero,i.size,i.bytes))=some (some (.agg #[.bool false,.string ByteArray.empty,ν]),3,48):=by kernel_rfl
def il(o:Option (List zj×List QC))(w:World)(r:Nat)(c:Value)(l:List QC)(e:Ending)(w':World):Prop:=
 QJ r w w'/\match o with
  |none=>e=ε (.tuple #[ν,.bool false])
  |some (b,r2)=>∃v,e=ε (.tuple #[v,.bool true])/\Rg w.heap.size w' v b/\Rd w' r c l r2
theorem Lw{w':World}{r:Nat}{d:Value}{l:List QC}(h:Hid (o=none))(b:QJ r w w'):il o w r d l (ε (.tuple #[ν,.bool false])) w':=by
 have c:o=none:=h;subst c;exact⟨b,rfl⟩
theorem Nx{w':World}{r:Nat}{c:Value}{l:List QC}{b:List zj}(h:Hid (o=some (b,r2)))(e:QJ r w w')(hs:Rg w.heap.size w' v b)(f:Rd w' r c l r2):
  il o w r c l (ε (.tuple #[v,.bool true])) w':=by
 have d:o=some (b,r2):=h;subst d;exact⟨e,v,rfl,hs,f⟩
theorem Dv(w:World)(r:Nat)(E:Value)(l rest:List QC)(h:Rd w r E l rest)(hl:l.length<=500)(G:Nat)(ad:rest.length<G):
  Calls prog 144 #[(π r)] w fun e w'=>il (xK G rest) w r E l e w':=by
 obtain⟨i0,hi,aa,Y,T⟩:=info_parts PU;have aj:=h.lt;go_enter func144,ntmps144;go_wp2;go_loopg [4,5] (rest.length) (fun n v t wr=>∃(g:List zj) (b:List QC) (more:Bool) (m:Nat) (xs:List Value),t=.bool more/\b.length<=n/\b.length<m/\b.length+g.length<=rest.length ∧
   wr.ownsRow w.heap.size 90 3 v g.length xs/\uL w.heap.size wr g xs/\Rd wr r E l b/\QJ r w wr ∧
   Hid (more=true->xK G rest=(xK m b).map fun z=>(g++z.1,z.2))/\Hid (more=false->xK G rest=some (g,b)))
 case atStart=>exact⟨[],rest,true,G,[],rfl,zg _,ad,by simp,yD _ _ _ _,rfl,h,QJ.refl _ _,(fun _=>by simp),(fun h=>by cases h)⟩
 case round=>
  obtain⟨g,b,more,m,xs,rfl,hn,hm,al,y,O,u,j,L,R⟩:=hrel;have ak:rest.length<=l.length:=by
   obtain⟨p,_,hp,_⟩:=h.box;rw[hp];simp
  have X:=j.size;obtain⟨c0,f0,i⟩:=u.cell;cases more with
  |false=>
   have F:=Q7 (R rfl);clear L R;go_wp2;go_ret2
   exact Nx F j ⟨_,y,O⟩ u
  |true=>
   obtain⟨m,rfl⟩:∃m',m=m'+1:=⟨m-1,by omega⟩;have HC:=Q7 i;cases H:uD b with
   |none=>
    have F:Hid (xK G rest=none):=by rw[Hid.out L rfl,rh H];simp[Hid]
    have S:=Q7 H;clear L R H;go_wp2_with (go_at_call 181;refine(Hs _ r E l b u hl S).mono ?_;rintro e w1 ⟨rfl,c⟩;have s:=j.trans c;have U:=s.size)
    go_ret2
    exact Lw F (by repeat'(first|with_reducible(first|apply xR|assumption|apply xN|apply xA|apply xD|apply xS|apply xT)|go_size))
   |some z=>
    obtain⟨a,r2⟩:=z;have S:=Q7 H;have ai:=Bg H;have F:=Q7 (L rfl);clear L R H;go_wp2_with (first|(go_at_call 181;refine(Ml _ r E l b r2 a u hl S).mono ?_;rintro e w1 ⟨va,rfl,B,ag,c⟩;obtain⟨ao,cp,rfl⟩:=B.qx;have s:=j.trans c;have U:=s.size;have C:=xO y c i (by decide);have P:=O.mono fun _ _ k=>k.but c i (by decide))|(at_builtin;refine ki w1 _ _ _ rfl (.tmp 16) (.tmp 18) 91 rfl w.heap.size 90 i0 _ 3 48 underlying91 hi aa Y T rfl (by decide) _ _ _ rfl C zT _ _ rfl (by simp) rfl (by simp[Value.oneCell']) (by omega) (by omega) (by omega) ?_;intro v' w2 V J ae Z N ah;clear ae Z;have A:=Rd.keep h ag J;have D:=s.onto J;have ab:QF w.heap.size w2 (Value.slice ao a.args.length cp) a.args:=yt (gx C (by decide) B N) X;have K:=P.mono fun _ _ k=>gx C (by decide) k N;have M:=Ru w2 r E l r2 6 A hl (by decide))|(go_at_call 143;refine M.mono ?_;rintro e w3 ⟨rfl,I,f⟩;clear M))
    obtain⟨c3,f3,d⟩:=A.cell;have W:=xO V f d (by decide);have af:=ab.but f d (by decide);have Q:=K.mono fun _ _ k=>k.but f d (by decide);have ac:(if QT r2=6 then r2.tail else r2).length<=r2.length:=by split<;>simp
    have x:uD b=some (a,r2):=S;go_roundg r2.length
    case measure=>omega
    case rel=>
     refine⟨g++[a],(if QT r2=6 then r2.tail else r2),(QT r2 == 6),m,_,rfl,ac,by omega,by simp;omega,by rw[yq];exact W,Q.snoc af,I,D.trans f,?_,?_⟩
     ·intro h6;have q:QT r2=6:=by simpa using h6
      rw[zc q,Hid.out F,pT x q,CI]
     ·intro h6;have q:QT r2≠6:=by simpa using h6
      rw[za q,Hid.out F,pJ x q];simp
end
section
open Go.Proofs.Tryz
variable {lo:Nat}
def vo(n:Nat)(r:List QC):Option (zd×List QC):=
 match yZ r with
 |none=>none
 |some (a,c)=>
  if QT c=9 then
   match xK n c.tail with
   |none=>none
   |some (b,d)=>if QT d=7 then some (⟨a,b⟩,d.tail) else none
  else if QT c=7 then some (⟨a,[]⟩,c.tail) else none
theorem L5(w:World)(r:Nat)(c:Value)(l rest:List QC)(h:Rd w r c l rest)(g:l.length<=500)(b:Nat)(a:rest.length<b)(i:xK b rest=none):
  Calls prog 144 #[(π r)] w fun e f=>e=ε (.tuple #[ν,.bool false])/\QJ r w f:=by
 refine(Dv w r c l rest h g b a).mono ?_;rintro e f ⟨j,d⟩;rw[i] at d;exact⟨d,j⟩
theorem EP(w:World)(r:Nat)(f:Value)(l rest r2:List QC)(b:List zj)(h:Rd w r f l rest)(k:l.length<=500)(i:Nat)(g:rest.length<i)(m:xK i rest=some (b,r2)):
  Calls prog 144 #[(π r)] w fun e d=>∃v,e=ε (.tuple #[v,.bool true])/\Rg w.heap.size d v b/\Rd d r f l r2/\QJ r w d:=by
 refine(Dv w r f l rest h k i g).mono ?_;rintro e d ⟨n,j⟩;rw[m] at j;obtain⟨v,a,b,c⟩:=j;exact⟨v,a,b,c,n⟩
def nz(o:Option (zd×List QC))(w:World)(r:Nat)(d:Value)(l:List QC)(e:Ending)(w':World):Prop:=
 QJ r w w'/\match o with
  |none=>e=ε (.tuple #[.agg #[.bool false,.string ByteArray.empty,ν,ν],.bool false])
  |some (c,f)=>∃a b,e=ε (.tuple #[.agg #[.bool c.head.neg,.string c.head.pred,a,b],.bool true])/\QF w.heap.size w' a c.head.args/\Rg w.heap.size w' b c.body/\Rd w' r d l f
theorem NL(w:World)(r:Nat)(b:Value)(l rest:List QC)(h:Rd w r b l rest)(k:l.length<=500)(n:yZ rest=none):
  Calls prog 100 #[(π r)] w fun e o=>nz none w r b l e o:=by
 have p:=h.lt;have c:w.heap.size≠r:=by omega
 have i:=Q7 n;go_enter func100,ntmps100;go_wp2_with (go_at_call 142;refine(EX _ r b l rest (by exact h.below (by go_grown)) k i).mono ?_;rintro e q ⟨rfl,a⟩;have g:=(Q8.new w _ _).but a c;obtain⟨d,j,f⟩:=g.boxed;have m:=((QJ.refl r w).alloc _).trans a)
 exact zK (v:=.tuple #[.agg #[.bool false,.string ByteArray.empty,ν,ν],.bool false]) (by simp[results,results100,go_sem,d,f];rfl) rfl ⟨(by repeat'(first|with_reducible(first|apply xR|assumption|apply xN|apply xA|apply xD|apply xS|apply xT)|go_size)),rfl⟩
theorem MK(w:World)(r:Nat)(s:Value)(l rest:List QC)(h:Rd w r s l rest)(F:l.length<=500)(q:List QC)(a:zj)(S:yZ rest=some (a,q))(Y:QT q≠9)(h7:QT q≠7):
  Calls prog 100 #[(π r)] w fun e W=>nz none w r s l e W:=by
 have aa:=h.lt;have j:w.heap.size≠r:=by omega
 have T:=Q7 S;have H9:=Q7 Y;have Q:=Q7 h7;go_enter func100,ntmps100;go_wp2_with (first|(go_at_call 142;refine(p3 _ r s l rest q a (by exact h.below (by go_grown)) F T).mono ?_;rintro e I ⟨va,rfl,u,m,g⟩;obtain⟨X,cp,rfl⟩:=u.qx;have x:=(Q8.new w _ _).but g j;have R:=x.lt;have L:=m.lt;have i:I.heap.size≠r:=(by omega);have G:=((QJ.refl r w).alloc _).trans g)|(go_at_call 143;have p:=z;refine(m8 _ r s l q 7 p F (by decide) Q).mono ?_;rintro e w3 ⟨rfl,B,c⟩;obtain⟨c7,f7,d⟩:=p.cell;have ab:=H.but c d (by decide);have t:=o.but c j;have y:=n.but c i;clear J E K C;obtain⟨A,Z⟩:=t.rules;obtain⟨V,ad⟩:=y.rules;have U:=t.lt;have P:=y.lt;have M:=B.lt;have ae:=D.trans c;clear p d)|(go_at_call 143;have p:=m;refine(m8 _ r s l q 9 (by exact p.below (by go_grown)) F (by decide) H9).mono ?_;rintro e w2 ⟨rfl,z,b⟩;have k:=(QJ.refl r I).alloc (Obj.cells #[.bool a.neg,.string a.pred,.slice X a.args.length cp] 90);obtain⟨c1,f1,f⟩:=m.cell;have H:=u.but (k.trans b) f (by decide);have o:=(x.below zT).but b j;have n:=(Q8.new I _ _).but b i;obtain⟨J,E⟩:=o.rules;obtain⟨K,C⟩:=n.rules;have ac:=o.lt;have N:=n.lt;have O:=z.lt;have D:=G.trans (k.trans b);clear p k f))
 exact zK (v:=.tuple #[.agg #[.bool false,.string ByteArray.empty,ν,ν],.bool false]) (by simp[results,results100,go_sem,A];rfl) rfl ⟨(by repeat'(first|with_reducible(first|apply xR|assumption|apply xN|apply xA|apply xD|apply xS|apply xT)|go_size)),rfl⟩
theorem NY(w:World)(r:Nat)(t:Value)(l rest:List QC)(h:Rd w r t l rest)(F:l.length<=500)(o:List QC)(a:zj)(V:yZ rest=some (a,o))(h9:QT o≠9)(h7:QT o=7):
  Calls prog 100 #[(π r)] w fun e Z=>nz (some (⟨a,[]⟩,o.tail)) w r t l e Z:=by
 have ab:=h.lt;have j:w.heap.size≠r:=by omega
 have W:=Q7 V;have H9:=Q7 h9;have T:=Q7 h7;go_enter func100,ntmps100;go_wp2_with (first|(go_at_call 142;refine(p3 _ r t l rest o a (by exact h.below (by go_grown)) F W).mono ?_;rintro e I ⟨va,rfl,x,n,g⟩;obtain⟨P,R,rfl⟩:=x.qx;have y:=(Q8.new w _ _).but g j;have U:=y.lt;have M:=n.lt;have i:I.heap.size≠r:=(by omega);have G:=((QJ.refl r w).alloc _).trans g)|(go_at_call 143;have s:=A;refine(kr _ r t l o 7 s F (by decide) T).mono ?_;rintro e w3 ⟨rfl,u,c⟩;obtain⟨c7,f7,d⟩:=s.cell;have J:=H.but c d (by decide);have k:=q.but c j;have z:=p.but c i;clear K E L C;obtain⟨B,aa⟩:=k.rules;obtain⟨Y,ad⟩:=z.rules;have X:=k.lt;have S:=z.lt;have N:=u.lt;have ae:=D.trans c;clear s d)|(go_at_call 143;have s:=n;refine(m8 _ r t l o 9 (by exact s.below (by go_grown)) F (by decide) H9).mono ?_;rintro e w2 ⟨rfl,A,b⟩;have m:=(QJ.refl r I).alloc (Obj.cells #[.bool a.neg,.string a.pred,.slice P a.args.length R] 90);obtain⟨c1,f1,f⟩:=n.cell;have H:=x.but (m.trans b) f (by decide);have q:=(y.below zT).but b j;have p:=(Q8.new I _ _).but b i;obtain⟨K,E⟩:=q.rules;obtain⟨L,C⟩:=p.rules;have ac:=q.lt;have O:=p.lt;have Q:=A.lt;have D:=G.trans (m.trans b);clear s m f))
 exact zK (v:=.tuple #[.agg #[.bool a.neg,.string a.pred,.slice P a.args.length R,ν],.bool true]) (by simp[results,results100,go_sem,B]) rfl ⟨(by repeat'(first|with_reducible(first|apply xR|assumption|apply xN|apply xA|apply xD|apply xS|apply xT)|go_size)),_,_,rfl,(J.low (by first|(simp;done)|omega)).but (r:=w.heap.size) (by repeat'(first|with_reducible(first|apply xR|assumption|apply xN|apply xA|apply xD|apply xS|apply xT)|go_size)) k (by decide),Rg.nil _,h.keep u (by go_grown)⟩
theorem FW(w:World)(r:Nat)(p:Value)(l rest:List QC)(h:Rd w r p l rest)(C:l.length<=500)(m:List QC)(a:zj)(E:Nat)(Q:yZ rest=some (a,m))(Z:QT m=9)(V:m.tail.length<E)(P:xK E m.tail=none):
  Calls prog 100 #[(π r)] w fun e W=>nz none w r p l e W:=by
 have ab:=h.lt;have i:w.heap.size≠r:=by omega
 have R:=Q7 Q;have H9:=Q7 Z;have S:=Q7 V;have N:=Q7 P;go_enter func100,ntmps100;go_wp2_with (first|(go_at_call 142;refine(p3 _ r p l rest m a (by exact h.below (by go_grown)) C R).mono ?_;rintro e F ⟨va,rfl,s,k,f⟩;obtain⟨X,cp,rfl⟩:=s.qx;have t:=(Q8.new w _ _).but f i;have O:=t.lt;have J:=k.lt;have g:F.heap.size≠r:=(by omega);have D:=((QJ.refl r w).alloc _).trans f)|(go_at_call 144;refine(L5 _ r p l m.tail x C E S N).mono ?_;rintro e w3 ⟨rfl,c⟩;have q:=o.but c i;have u:=n.but c g;clear G B H z;obtain⟨y,aa⟩:=q.rules;obtain⟨U,ad⟩:=u.rules;have T:=q.lt;have M:=u.lt;have ae:=A.trans c)|(go_at_call 143;have I:=k;refine(kr _ r p l m 9 (by exact I.below (by go_grown)) C (by decide) H9).mono ?_;rintro e w2 ⟨rfl,x,b⟩;have j:=(QJ.refl r F).alloc (Obj.cells #[.bool a.neg,.string a.pred,.slice X a.args.length cp] 90);obtain⟨c1,f1,d⟩:=k.cell;have Y:=s.but (j.trans b) d (by decide);have o:=(t.below zT).but b i;have n:=(Q8.new F _ _).but b g;obtain⟨G,B⟩:=o.rules;obtain⟨H,z⟩:=n.rules;have ac:=o.lt;have K:=n.lt;have L:=x.lt;have A:=D.trans (j.trans b);clear I j d))
 exact zK (v:=.tuple #[.agg #[.bool false,.string ByteArray.empty,ν,ν],.bool false]) (by simp[results,results100,go_sem,y];rfl) rfl ⟨(by repeat'(first|with_reducible(first|apply xR|assumption|apply xN|apply xA|apply xD|apply xS|apply xT)|go_size)),rfl⟩
theorem Hi(w:World)(r:Nat)(z:Value)(l rest:List QC)(h:Rd w r z l rest)(G:l.length<=500)(p r2:List QC)(a:zj)(b:List zj)(L:Nat)(ha:yZ rest=some (a,p))(h9:QT p=9)(hn:p.tail.length<L)(hb:xK L p.tail=some (b,r2))(h7:QT r2≠7):
  Calls prog 100 #[(π r)] w fun e w'=>nz none w r z l e w':=by
 have aq:=h.lt;have n:w.heap.size≠r:=by omega
 have HA:=Q7 ha;have H9:=Q7 h9;have HN:=Q7 hn;have HB:=Q7 hb;have H7:=Q7 h7;go_enter func100,ntmps100;go_wp2_with (first|(go_at_call 142;refine(p3 _ r z l rest p a (by exact h.below (by go_grown)) G HA).mono ?_;rintro e P ⟨va,rfl,F,x,m⟩;obtain⟨ao,cp,rfl⟩:=F.qx;have B:=(Q8.new w _ _).but m n;have am:=B.lt;have ac:=x.lt;have k:P.heap.size≠r:=(by omega);have O:=((QJ.refl r w).alloc _).trans m)|(go_at_call 144;refine(EP _ r z l p.tail r2 b s G L HN HB).mono ?_;rintro e w3 ⟨vb,rfl,T,D,c⟩;obtain⟨ah,ap,rfl⟩:=T.qx;obtain⟨c3,f3,j⟩:=s.cell;have M:=U.but c j (by decide);have q:=t.but c n;have u:=y.but c k;clear W J R H;obtain⟨N,V⟩:=q.rules;obtain⟨K,S⟩:=u.rules;have aj:=q.lt;have ab:=u.lt;have ae:=D.lt;have Y:=I.trans c;clear j)|(go_at_call 143;have A:=D;refine(m8 _ r z l r2 7 A G (by decide) H7).mono ?_;rintro e w4 ⟨rfl,X,f⟩;obtain⟨c7,f7,g⟩:=A.cell;have ai:=M.but f g (by decide);have E:=q.but f n;have C:=u.but f k;clear N V K S;obtain⟨Q,au⟩:=E.rules;obtain⟨ag,ar⟩:=C.rules;have ak:=E.lt;have af:=C.lt;have Z:=X.lt;have an:=Y.trans f;clear A g)|(go_at_call 143;have A:=x;refine(kr _ r z l p 9 (by exact A.below (by go_grown)) G (by decide) H9).mono ?_;rintro e w2 ⟨rfl,s,d⟩;have o:=(QJ.refl r P).alloc (Obj.cells #[.bool a.neg,.string a.pred,.slice ao a.args.length cp] 90);obtain⟨c1,f1,i⟩:=x.cell;have U:=F.but (o.trans d) i (by decide);have t:=(B.below zT).but d n;have y:=(Q8.new P _ _).but d k;obtain⟨W,J⟩:=t.rules;obtain⟨R,H⟩:=y.rules;have al:=t.lt;have ad:=y.lt;have aa:=s.lt;have I:=O.trans (o.trans d);clear A o i))
 exact zK (v:=.tuple #[.agg #[.bool false,.string ByteArray.empty,ν,ν],.bool false]) (by simp[results,results100,go_sem,Q];rfl) rfl ⟨(by repeat'(first|with_reducible(first|apply xR|assumption|apply xN|apply xA|apply xD|apply xS|apply xT)|go_size)),rfl⟩
theorem KO(w:World)(r:Nat)(A:Value)(l rest:List QC)(h:Rd w r A l rest)(I:l.length<=500)(q r2:List QC)(a:zj)(b:List zj)(P:Nat)(ha:yZ rest=some (a,q))(h9:QT q=9)(hn:q.tail.length<P)(hb:xK P q.tail=some (b,r2))(h7:QT r2=7):
  Calls prog 100 #[(π r)] w fun e w'=>nz (some (⟨a,b⟩,r2.tail)) w r A l e w':=by
 have ar:=h.lt;have n:w.heap.size≠r:=by omega
 have HA:=Q7 ha;have H9:=Q7 h9;have HN:=Q7 hn;have HB:=Q7 hb;have H7:=Q7 h7;go_enter func100,ntmps100;go_wp2_with (first|(go_at_call 142;refine(p3 _ r A l rest q a (by exact h.below (by go_grown)) I HA).mono ?_;rintro e T ⟨va,rfl,G,y,m⟩;obtain⟨ao,cp,rfl⟩:=G.qx;have C:=(Q8.new w _ _).but m n;have ap:=C.lt;have ag:=y.lt;have k:T.heap.size≠r:=(by omega);have S:=((QJ.refl r w).alloc _).trans m)|(go_at_call 144;refine(EP _ r A l q.tail r2 b t I P HN HB).mono ?_;rintro e w3 ⟨vb,rfl,D,F,f⟩;obtain⟨J,Z,rfl⟩:=D.qx;obtain⟨c3,f3,j⟩:=t.cell;have Q:=Y.but f j (by decide);have s:=u.but f n;have x:=z.but f k;clear ab N V K;obtain⟨R,aa⟩:=s.rules;obtain⟨O,W⟩:=x.rules;have al:=s.lt;have af:=x.lt;have ai:=F.lt;have ac:=M.trans f;clear j)|(go_at_call 143;have B:=F;refine(kr _ r A l r2 7 B I (by decide) H7).mono ?_;rintro e w4 ⟨rfl,H,c⟩;obtain⟨c7,f7,d⟩:=B.cell;have L:=Q.but c d (by decide);have X:=D.but c d (by decide) (by decide);have o:=s.but c n;have E:=x.but c k;clear R aa O W;obtain⟨U,av⟩:=o.rules;obtain⟨ak,au⟩:=E.rules;have am:=o.lt;have aj:=E.lt;have ad:=H.lt;have aq:=ac.trans c;clear B d)|(go_at_call 143;have B:=y;refine(kr _ r A l q 9 (by exact B.below (by go_grown)) I (by decide) H9).mono ?_;rintro e w2 ⟨rfl,t,g⟩;have p:=(QJ.refl r T).alloc (Obj.cells #[.bool a.neg,.string a.pred,.slice ao a.args.length cp] 90);obtain⟨c1,f1,i⟩:=y.cell;have Y:=G.but (p.trans g) i (by decide);have u:=(C.below zT).but g n;have z:=(Q8.new T _ _).but g k;obtain⟨ab,N⟩:=u.rules;obtain⟨V,K⟩:=z.rules;have an:=u.lt;have ah:=z.lt;have ae:=t.lt;have M:=S.trans (p.trans g);clear B p i))
 exact zK (v:=.tuple #[.agg #[.bool a.neg,.string a.pred,.slice ao a.args.length cp,.slice J b.length Z],.bool true]) (by simp[results,results100,go_sem,U]) rfl ⟨(by repeat'(first|with_reducible(first|apply xR|assumption|apply xN|apply xA|apply xD|apply xS|apply xT)|go_size)),_,_,rfl,(L.low (by first|(simp;done)|omega)).but (r:=w.heap.size) (by repeat'(first|with_reducible(first|apply xR|assumption|apply xN|apply xA|apply xD|apply xS|apply xT)|go_size)) o (by decide),(X.low (by first|(simp;done)|omega)).but (r:=w.heap.size) (by repeat'(first|with_reducible(first|apply xR|assumption|apply xN|apply xA|apply xD|apply xS|apply xT)|go_size)) o (by decide) (by decide),h.keep H (by go_grown)⟩
theorem Fc(w:World)(r:Nat)(c:Value)(l rest:List QC)(h:Rd w r c l rest)(i:l.length<=500)(k:Nat)(q:rest.length<=k):
  Calls prog 100 #[(π r)] w fun e s=>nz (vo k rest) w r c l e s:=by
 unfold vo;split
 ·rename_i d;exact NL w r c l rest h i d
 ·rename_i a j d;have p:=sP d;split
  ·rename_i g;have n:j.tail.length<k:=by simp;omega
   split
   ·rename_i m;exact FW w r c l rest h i j a k d g n m
   ·rename_i b o m;split
    ·rename_i f;exact KO w r c l rest h i j o a b k d g n m f
    ·rename_i f;exact Hi w r c l rest h i j o a b k d g n m f
  ·rename_i g;split
   ·rename_i f;exact NY w r c l rest h i j a d g f
   ·rename_i f;exact MK w r c l rest h i j a d g f
end
section
open Go.Proofs.Tryz
variable {lo:Nat}{w:World}{v:Value}{r:List QC}{o:Option (List zd)}
def qA(lo:Nat)(w:World):List zd->List Value->Prop
 |[],a=>a=[]
 |c::e,a=>∃b d r,a=.bool c.head.neg::.string c.head.pred::b::d::r/\QF lo w b c.head.args/\Rg lo w d c.body/\qA lo w e r
theorem qA.snoc{w:World}{c:zd}{a b:Value}(hs:QF lo w a c.head.args)(e:Rg lo w b c.body):∀{d:List zd} {xs:List Value},qA lo w d xs->qA lo w (d++[c]) (xs++[.bool c.head.neg,.string c.head.pred,a,b])
 |[],_,h=>by simp only[qA] at h;subst h;exact⟨a,b,[],rfl,hs,e,rfl⟩
 |_::d,_,h=>by obtain⟨v,f,r,rfl,j,g,i⟩:=h;exact⟨v,f,r++[.bool c.head.neg,.string c.head.pred,a,b],rfl,j,g,qA.snoc hs e i⟩
theorem qA.mono{w w':World}(d:∀a l,QF lo w a l->QF lo w' a l)(b:∀a l,Rg lo w a l->Rg lo w' a l):∀{c:List zd} {xs:List Value},qA lo w c xs->qA lo w' c xs
 |[],_,h=>h
 |_::c,_,h=>by obtain⟨v,e,r,rfl,i,f,g⟩:=h;exact⟨v,e,r,rfl,d _ _ i,b _ _ f,qA.mono d b g⟩
theorem qA.at{w:World}:∀{d:List zd} {xs:List Value} (i:Nat) (c:zd),qA lo w d xs->d[i]?=some c →
  ∃e f,xs[i*4]?=some (.bool c.head.neg)/\xs[i*4+1]?=some (.string c.head.pred)/\xs[i*4+2]?=some e/\xs[i*4+3]?=some f/\QF lo w e c.head.args/\Rg lo w f c.body
 |[],_,i,a,_,b=>by simp at b
 |_::d,_,0,a,h,b=>by obtain⟨v,g,r,rfl,l,j,k⟩:=h;simp at b;subst b;exact⟨v,g,rfl,rfl,rfl,rfl,l,j⟩
 |_::d,_,i+1,a,h,b=>by
  obtain⟨v,g,r,rfl,l,j,k⟩:=h;obtain⟨e,f,n,s,m,p,q⟩:=qA.at i a k (by simpa using b);refine⟨e,f,?_,?_,?_,?_,q⟩
  ·rw[show(i+1)*4=i*4+1+1+1+1 from by omega];simpa using n
  ·rw[show(i+1)*4+1=i*4+1+1+1+1+1 from by omega];simpa using s
  ·rw[show(i+1)*4+2=i*4+2+1+1+1+1 from by omega];simpa using m
  ·rw[show(i+1)*4+3=i*4+3+1+1+1+1 from by omega];simpa using p
def Rl(lo:Nat)(T:TypeId)(w:World)(v:Value)(a:List zd):Prop:=∃b,w.ownsRow lo T 4 v a.length b/\qA lo w a b
theorem qA.low{a b:Nat}{w:World}(c:a<=b):∀{d:List zd} {xs:List Value},qA b w d xs->qA a w d xs
 |[],_,h=>h
 |_::d,_,h=>by obtain⟨v,e,r,rfl,i,f,g⟩:=h;exact⟨v,e,r,rfl,i.low c,f.low c,qA.low c g⟩
theorem Rl.low{a b:Nat}{T:TypeId}{w:World}{v:Value}{l:List zd}(h:Rl b T w v l)(c:a<=b):Rl a T w v l:=by obtain⟨d,h,e⟩:=h;exact⟨d,yt h c,e.low c⟩
theorem Rl.qx{T:TypeId}{l:List zd}(h:Rl lo T w v l):∃b a,v=.slice b l.length a:=by obtain⟨c,h,_⟩:=h;exact zp h
theorem Rl.below{T:TypeId}{w w':World}{v:Value}{l:List zd}(h:Rl lo T w v l)(a:μ w w'):Rl lo T w' v l:=by
 obtain⟨b,h,c⟩:=h;exact⟨b,zB h a,c.mono (fun _ _ k=>k.below a) (fun _ _ k=>k.below a)⟩
theorem Rg.push{c j:World}{b:Nat}{e:TypeId}{s:Nat}{v2:Value}{n:Nat}{xs:List Value}{i:List zj}(g:c.ownsRow b e s v n xs)(d:e≠90)(a:e≠9)(h:Rg lo c v2 i)
  (l:∀k,k<c.heap.size->some k≠v.ownBlock->j.heap[k]?=c.heap[k]?):Rg lo j v2 i:=by
 obtain⟨f,p,m⟩:=h;exact⟨f,gx g d p l,m.mono fun _ _ k=>gx g a k l⟩
def yI(a:Nat):Nat->List QC->Option (List zd)
 |_,[]=>some []
 |0,_::_=>none
 |m+1,x::r=>match vo a (x::r) with
  |none=>none
  |some (c,b)=>(yI a m b).map (c::·)
theorem sJ{a m:Nat}(b:r≠[])(h:vo a r=none):yI a (m+1) r=none:=by
 cases r with
 |nil=>exact zC rfl b
 |cons x r=>simp[yI,h]
theorem sg{a m:Nat}{r2:List QC}{c:zd}(b:r≠[])(h:vo a r=some (c,r2)):yI a (m+1) r=(yI a m r2).map (c::·):=by
 cases r with
 |nil=>exact zC rfl b
 |cons x r=>simp[yI,h]
theorem Mf{n:Nat}:∀{r r2:List QC} {b:List zj},xK n r=some (b,r2)->r2.length<r.length:=by
 induction n with
 |zero=>intro r r2 b h;simp[xK] at h
 |succ n g=>
  intro r r2 b h;cases c:uD r with
  |none=>rw[rh c] at h;cases h
  |some z=>
   obtain⟨a,f⟩:=z;have:=Bg c;by_cases e:QT f=6
   ·rw[pT c e] at h;cases d:xK n f.tail with
    |none=>rw[d] at h;simp at h
    |some z=>
     rw[d] at h;simp at h;have:=g d;obtain⟨_,rfl⟩:=h;simp at this;omega
   ·rw[pJ c e] at h;simp at h;obtain⟨_,rfl⟩:=h;omega
theorem Mc{n:Nat}{r2:List QC}{c:zd}(h:vo n r=some (c,r2)):r2.length<r.length:=by
 unfold vo at h;split at h
 ·cases h
 ·rename_i a f e;have:=sP e;split at h
  ·split at h
   ·cases h
   ·rename_i b g d;have:=Mf d;split at h<;>simp at h
    obtain⟨_,rfl⟩:=h;simp at this ⊢;omega
  ·split at h<;>simp at h
   obtain⟨_,rfl⟩:=h;simp;omega
theorem JX(w:World)(r:Nat)(c:Value)(l rest:List QC)(h:Rd w r c l rest)(g:l.length<=500)(b:Nat)(a:rest.length<=b)(i:vo b rest=none):
  Calls prog 100 #[(π r)] w fun e f=>e=ε (.tuple #[.agg #[.bool false,.string ByteArray.empty,ν,ν],.bool false])/\QJ r w f:=by
 refine(Fc w r c l rest h g b a).mono ?_;rintro e f ⟨j,d⟩;rw[i] at d;exact⟨d,j⟩
theorem Hh(w:World)(r:Nat)(g:Value)(l rest r2:List QC)(c:zd)(h:Rd w r g l rest)(q:l.length<=500)(j:Nat)(i:rest.length<=j)(s:vo j rest=some (c,r2)):
  Calls prog 100 #[(π r)] w fun e f=>∃k m,e=ε (.tuple #[.agg #[.bool c.head.neg,.string c.head.pred,k,m],.bool true])/\QF w.heap.size f k c.head.args/\Rg w.heap.size f m c.body/\Rd f r g l r2/\QJ r w f:=by
 refine(Fc w r g l rest h q j i).mono ?_;rintro e f ⟨t,n⟩;rw[s] at n;obtain⟨v,p,a,b,c,d⟩:=n;exact⟨v,p,a,b,c,d,t⟩
theorem Qr:(prog.info? 171).map (fun i=>(i.zero,i.size,i.bytes))=some (some (.agg #[.bool false,.string ByteArray.empty,ν,ν]),4,72):=by kernel_rfl
def iY(o:Option (List zd))(w:World)(e:Ending)(w':World):Prop:=
 μ w w'/\match o with
  |none=>e=ε (.tuple #[ν,.bool false])
  |some a=>∃v,e=ε (.tuple #[v,.bool true])/\Rl w.heap.size 171 w' v a
theorem Mo{w':World}(h:Hid (o=none))(a:μ w w'):iY o w (ε (.tuple #[ν,.bool false])) w':=by
 have b:o=none:=h;subst b;exact⟨a,rfl⟩
theorem Li{w':World}{cs:List zd}(h:Hid (o=some cs))(a:μ w w')(hs:Rl w.heap.size 171 w' v cs):iY o w (ε (.tuple #[v,.bool true])) w':=by
 have b:o=some cs:=h;subst b;exact⟨a,v,rfl,hs⟩
theorem RI(w:World)(wv:Value)(l:List QC)(y:Nat)(hw:w.ownsRow y 182 2 wv l.length (jU l))(hl:l.length<=500):
  Calls prog 60 #[wv] w fun e w'=>iY (yI l.length l.length l) w e w':=by
 obtain⟨i0,hi,Y,ae,ai⟩:=info_parts Qr;obtain⟨U,t,rfl⟩:=zp hw;have h0:Rd (w.alloc (.cells #[.slice U l.length t,ι 0] 185)) w.heap.size (.slice U l.length t) l l:=
  ⟨⟨0,zv _,rfl,Q8.new _ _ _⟩,y,zB hw zT⟩
 clear hw;go_enter func60,ntmps60;go_wp2;go_loopg [5] (l.length) (fun n v wr=>∃(f:List zd) (b:List QC) (m:Nat) (Z:List Value),b.length<=n/\b.length<=m/\b.length+f.length<=l.length ∧
   wr.ownsRow (w.heap.size+1) 171 4 v f.length Z/\qA w.heap.size wr f Z/\Rd wr w.heap.size (.slice U l.length t) l b/\QJ w.heap.size (w.alloc (.cells #[.slice U l.length t,ι 0] 185)) wr ∧
   Hid (yI l.length l.length l=(yI l.length m b).map (f++·)))
 case atStart=>exact⟨[],l,l.length,[],zg _,zg _,by simp,yD _ _ _ _,rfl,h0,QJ.refl _ _,(by simp[Hid])⟩
 case round=>
  obtain⟨f,b,m,Z,hn,hm,aq,A,M,u,g,E⟩:=hrel;have N:w.heap.size<=wr.heap.size:=by have:=g.size;simp at this;omega
  obtain⟨c0,f0,d⟩:=u.cell;have ab:=Q7 d;obtain⟨p,ar,an,hp,I,aa,F,av,ax,ap,hx⟩:=u.view;clear aa hx F;cases b with
  |nil=>
   have L:p=l.length:=by
    have:=congrArg List.length I;simp at this;omega
   have Q:Hid (yI l.length l.length l=some f):=by rw[Hid.out E];cases m<;>simp[yI,Hid]
   have S:=zT.trans (g.below (zg _) (by simp));subst L;clear I E d;go_wp2;go_ret2
   exact Li Q S ⟨_,yt A (by omega),M⟩
  |cons x r0=>
   have L:p<l.length:=by
    rcases gV p l.length with h|h
    ·exact h
    ·rw[uj h] at I;cases I
   clear I;have q:x::r0≠[]:=by simp
   obtain⟨m,rfl⟩:∃m',m=m'+1:=⟨m-1,by simp at hm;omega⟩;generalize x::r0=b at *;have HN:Hid (b.length<=l.length):=by unfold Hid;omega
   cases B:vo l.length b with
   |none=>
    have W:=Q7 B;have Q:Hid (yI l.length l.length l=none):=by rw[Hid.out E,sJ q B];simp[Hid]
    clear B q E;go_wp2_with (go_at_call 100;refine(JX _ w.heap.size _ l b u hl l.length HN W).mono ?_;rintro e w1 ⟨rfl,a⟩;have i:=g.trans a;have J:=i.size;have C:=zT.trans (i.below (zg _) (by simp)))
    go_ret2
    have al:=C.size;exact Mo Q (by go_grown)
   |some z=>
    obtain⟨c,T⟩:=z;have W:=Q7 B;have aw:=Mc B;have Q:Hid (yI l.length l.length l=(yI l.length m T).map ((f++[c])++·)):=by rw[Hid.out E,sg q B,rN];rfl
    clear B q E;go_wp2_with (first|(go_at_call 100;refine(Hh _ w.heap.size _ l b T c u hl l.length HN W).mono ?_;rintro e w1 ⟨va,vb,rfl,R,K,ak,a⟩;obtain⟨aj,ac,rfl⟩:=R.qx;obtain⟨ao,au,rfl⟩:=K.qx;have i:=g.trans a;have J:=i.size;have ag:=(by simpa using J);have j:=xO A a d (by decide);have O:=M.mono (fun _ _ k=>k.but a d (by decide)) (fun _ _ k=>k.but a d (by decide) (by decide)))|(at_builtin;refine ki w1 _ _ _ rfl (.tmp 22) (.tmp 24) 121 rfl (w.heap.size+1) 171 i0 _ 4 72 underlying121 hi Y ae ai rfl (by decide) _ _ _ rfl j zT _ _ rfl (by simp) rfl (by simp[Value.oneCell']) (by omega) (by omega) ag ?_;intro v' w2 ad G ah X s am;clear ah X;have P:=Rd.keep h0 ak (by simpa using G);have D:=i.onto (by simpa using G);have af:QF w.heap.size w2 (Value.slice aj c.head.args.length ac) c.head.args:=yt (gx j (by decide) R s) N;have V:=(K.push j (by decide) (by decide) s).low N;have H:=O.mono (fun _ _ k=>gx j (by decide) k s) (fun _ _ k=>k.push j (by decide) (by decide) s)))
    go_roundg T.length
    case measure=>omega
    case rel=>exact⟨f++[c],T,m,_,zg _,by omega,by simp;omega,by rw[yq];exact ad,H.snoc af V,P,D,Q⟩
end
end Go.Proofs.YteampbddflhngaaGreat
