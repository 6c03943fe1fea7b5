import Derived.Test.YteampbddflhngaaGreatZ03
namespace Go.Proofs.YteampbddflhngaaGreat
set_option linter.all false
def Rw(b:UInt8):Int:=(b.toNat:Int)
def RU:List UInt8->Int
 |[]=>0
 |b::_=>Rw b
def hZ(l:List UInt8)(k:Int):Nat:=if k=9 then 2 else if k=1∨k=2 then(l.takeWhile fun b=>Rc (Rw b)).length else if k=3 then(l.takeWhile fun b=>yH (Rw b)).length else 1
def mX:Nat->List UInt8->Option (List QA)
 |0,_=>some []
 |_+1,[]=>some []
 |n+1,a::l=>
  if qG (Rw a) then mX n l
  else if xa (Rw a) (RU l)=0 then none
  else if 6<hZ (a::l) (xa (Rw a) (RU l)) then none
  else(mX n ((a::l).drop (hZ (a::l) (xa (Rw a) (RU l))))).map ((xa (Rw a) (RU l),(⟨((a::l).take (hZ (a::l) (xa (Rw a) (RU l)))).toArray⟩:ByteArray))::·)
theorem ei(s:ByteArray)(i:Nat):QE s i=RU (s.data.toList.drop i):=by
 unfold QE;split
 ·rename_i h;have a:i<s.data.toList.length:=by simpa using h
  rw[xp a];simp[RU,Rw,ByteArray.getElem_eq_getElem_data]
 ·rename_i h;rw[ue (by have:s.data.toList.length=s.size:=(by rw[ny];rfl);omega)];rfl
theorem Bg(p:Int->Bool)(s:ByteArray):∀(n i:Nat),s.size-i<=n->y6 p s i=i+((s.data.toList.drop i).takeWhile fun b=>p (Rw b)).length:=by
 have e:s.data.toList.length=s.size:=by rw[ny];rfl
 intro n;induction n with
 |zero=>
  intro i h;rw[gM (by omega),ue (by omega)];simp
 |succ n f=>
  intro i h;by_cases d:i<s.size
  ·have c:=ei s i;rw[xp (by omega)] at c ⊢;simp only[RU] at c;cases a:p (QE s i) with
   |false=>
    rw[m4 a,nM,←c,a];simp
   |true=>
    rw[lF d a,f (i+1) (by omega),nM,←c,a];simp;omega
  ·rw[gM d,ue (by omega)];simp
theorem MD{s:ByteArray}{i:Nat}{k:Int}(a:k≠0):yi s i k=i+hZ (s.data.toList.drop i) k:=by
 unfold yi hZ;rw[za a];split
 ·rfl
 ·split
  ·exact Bg Rc s _ i (zg _)
  ·split
   ·exact Bg yH s _ i (zg _)
   ·rfl
theorem Hz(s:ByteArray)(i m:Nat):s.extract i (i+m)=⟨((s.data.toList.drop i).take m).toArray⟩:=by
 apply ByteArray.ext;rw[ByteArray.data_extract];apply Array.ext';simp[List.take_drop]
theorem NI(s:ByteArray):∀(n i:Nat),QI n s i=mX n (s.data.toList.drop i):=by
 have o:s.data.toList.length=s.size:=by rw[ny];rfl
 intro n;induction n with
 |zero=>intro i;rfl
 |succ n h=>
  intro i;by_cases e:i<s.size
  ·have b:=ei s i;have c:=ei s (i+1);have f:∀k,k≠0->yi s i k=i+hZ (s.data.toList.drop i) k:=fun k d=>MD d;have g:=Hz s i;have a:∀m,s.data.toList.drop (i+m)=(s.data.toList.drop i).drop m:=fun m=>by rw[List.drop_drop]
   have j:=xp (l:=s.data.toList) (i:=i) (by omega);unfold QI;rw[zc e];rw[j] at b f g a ⊢;unfold mX;simp only[RU] at b;rw[b,c,h];split
   ·rfl
   ·split
    ·rfl
    ·rename_i d;generalize xa (Rw s.data.toList[i]) (RU (List.drop (i+1) s.data.toList))=k at *;rw[f k d];generalize hZ (s.data.toList[i]::List.drop (i+1) s.data.toList) k=m at *;rw[ww,g m,h,a m]
  ·rw[pj e,ue (by omega)];rfl
structure nh (x:List UInt8):Prop where
 ne:x≠[]
 six:x.length<=6
 kind:(yR (RU x)=true∨vO (RU x)=true)/\(∀b∈x,Rc (Rw b)=true)∨yH (RU x)=true/\∀b∈x,yH (Rw b)=true
end Go.Proofs.YteampbddflhngaaGreat
