import Derived.Test.YteampbddflhngaaGreatX03
namespace Go.Proofs.YteampbddflhngaaGreat
set_option linter.all false
def Qo(b:UInt8):Int:=(b.toNat:Int)
def QF:List UInt8->Int
 |[]=>0
 |b::_=>Qo b
def fJ(l:List UInt8)(k:Int):Nat:=if k=9 then 2 else if k=1∨k=2 then(l.takeWhile fun b=>PW (Qo b)).length else if k=3 then(l.takeWhile fun b=>yG (Qo b)).length else 1
def mt:Nat->List UInt8->Option (List P4)
 |0,_=>some []
 |_+1,[]=>some []
 |n+1,a::l=>
  if vW (Qo a) then mt n l
  else if yX (Qo a) (QF l)=0 then none
  else if 6<fJ (a::l) (yX (Qo a) (QF l)) then none
  else(mt n ((a::l).drop (fJ (a::l) (yX (Qo a) (QF l))))).map ((yX (Qo a) (QF l),(⟨((a::l).take (fJ (a::l) (yX (Qo a) (QF l)))).toArray⟩:ByteArray))::·)
theorem eY(s:ByteArray)(i:Nat):P8 s i=QF (s.data.toList.drop i):=by
 unfold P8;split
 ·rename_i h;have a:i<s.data.toList.length:=by simpa using h
  rw[xk a];simp[QF,Qo,ByteArray.getElem_eq_getElem_data]
 ·rename_i h;rw[ug (by have:s.data.toList.length=s.size:=(by rw[mM];rfl);omega)];rfl
theorem AU(p:Int->Bool)(s:ByteArray):∀(n i:Nat),s.size-i<=n->yA p s i=i+((s.data.toList.drop i).takeWhile fun b=>p (Qo b)).length:=by
 have e:s.data.toList.length=s.size:=by rw[mM];rfl
 intro n;induction n with
 |zero=>
  intro i h;rw[gY (by omega),ug (by omega)];simp
 |succ n f=>
  intro i h;by_cases d:i<s.size
  ·have a:=eY s i;rw[xk (by omega)] at a ⊢;simp only[QF] at a;cases c:p (P8 s i) with
   |false=>
    rw[mv c,mQ,←a,c];simp
   |true=>
    rw[lh d c,f (i+1) (by omega),mQ,←a,c];simp;omega
  ·rw[gY d,ug (by omega)];simp
theorem Gt{s:ByteArray}{i:Nat}{k:Int}(a:k≠0):ym s i k=i+fJ (s.data.toList.drop i) k:=by
 unfold ym fJ;rw[za a];split
 ·rfl
 ·split
  ·exact AU PW s _ i (zf _)
  ·split
   ·exact AU yG s _ i (zf _)
   ·rfl
theorem OA(s:ByteArray)(i m:Nat):s.extract i (i+m)=⟨((s.data.toList.drop i).take m).toArray⟩:=by
 apply ByteArray.ext;rw[ByteArray.data_extract];apply Array.ext';simp[List.take_drop]
theorem Kj(s:ByteArray):∀(n i:Nat),PC n s i=mt n (s.data.toList.drop i):=by
 have j:s.data.toList.length=s.size:=by rw[mM];rfl
 intro n;induction n with
 |zero=>intro i;rfl
 |succ n g=>
  intro i;by_cases h:i<s.size
  ·have c:=eY s i;have b:=eY s (i+1);have f:∀k,k≠0->ym s i k=i+fJ (s.data.toList.drop i) k:=fun k d=>Gt d;have e:=OA s i;have a:∀m,s.data.toList.drop (i+m)=(s.data.toList.drop i).drop m:=fun m=>by rw[List.drop_drop]
   have o:=xk (l:=s.data.toList) (i:=i) (by omega);unfold PC;rw[zb h];rw[o] at c f e a ⊢;unfold mt;simp only[QF] at c;rw[c,b,g];split
   ·rfl
   ·split
    ·rfl
    ·rename_i d;generalize yX (Qo s.data.toList[i]) (QF (List.drop (i+1) s.data.toList))=k at *;rw[f k d];generalize fJ (s.data.toList[i]::List.drop (i+1) s.data.toList) k=m at *;rw[rU,e m,g,a m]
  ·rw[pu h,ug (by omega)];rfl
structure m5 (x:List UInt8):Prop where
 ne:x≠[]
 six:x.length<=6
 kind:(yL (QF x)=true∨vu (QF x)=true)/\(∀b∈x,PW (Qo b)=true)∨yG (QF x)=true/\∀b∈x,yG (Qo b)=true
end Go.Proofs.YteampbddflhngaaGreat
