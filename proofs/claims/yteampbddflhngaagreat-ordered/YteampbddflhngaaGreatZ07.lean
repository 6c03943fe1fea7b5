import Derived.Test.YteampbddflhngaaGreatZ03
namespace Go.Proofs.YteampbddflhngaaGreat
set_option linter.all false
def Ry(b:UInt8):Int:=(b.toNat:Int)
def RR:List UInt8->Int
 |[]=>0
 |b::_=>Ry b
def fH(l:List UInt8)(k:Int):Nat:=if k=9 then 2 else if k=1∨k=2 then(l.takeWhile fun b=>Rf (Ry b)).length else if k=3 then(l.takeWhile fun b=>yH (Ry b)).length else 1
def m9:Nat->List UInt8->Option (List QC)
 |0,_=>some []
 |_+1,[]=>some []
 |n+1,a::l=>
  if qu (Ry a) then m9 n l
  else if xb (Ry a) (RR l)=0 then none
  else if 6<fH (a::l) (xb (Ry a) (RR l)) then none
  else(m9 n ((a::l).drop (fH (a::l) (xb (Ry a) (RR l))))).map ((xb (Ry a) (RR l),(⟨((a::l).take (fH (a::l) (xb (Ry a) (RR l)))).toArray⟩:ByteArray))::·)
theorem Ad(s:ByteArray)(i:Nat):QG s i=RR (s.data.toList.drop i):=by
 unfold QG;split
 ·rename_i h;have a:i<s.data.toList.length:=by simpa using h
  rw[xn a];simp[RR,Ry,ByteArray.getElem_eq_getElem_data]
 ·rename_i h;rw[uj (by have:s.data.toList.length=s.size:=(by rw[nN];rfl);omega)];rfl
theorem D4(p:Int->Bool)(s:ByteArray):∀(n i:Nat),s.size-i<=n->yA p s i=i+((s.data.toList.drop i).takeWhile fun b=>p (Ry b)).length:=by
 have e:s.data.toList.length=s.size:=by rw[nN];rfl
 intro n;induction n with
 |zero=>
  intro i h;rw[gS (by omega),uj (by omega)];simp
 |succ n f=>
  intro i h;by_cases d:i<s.size
  ·have a:=Ad s i;rw[xn (by omega)] at a ⊢;simp only[RR] at a;cases c:p (QG s i) with
   |false=>
    rw[mS c,n5,←a,c];simp
   |true=>
    rw[lJ d c,f (i+1) (by omega),n5,←a,c];simp;omega
  ·rw[gS d,uj (by omega)];simp
theorem Pr{s:ByteArray}{i:Nat}{k:Int}(a:k≠0):yi s i k=i+fH (s.data.toList.drop i) k:=by
 unfold yi fH;rw[za a];split
 ·rfl
 ·split
  ·exact D4 Rf s _ i (zg _)
  ·split
   ·exact D4 yH s _ i (zg _)
   ·rfl
theorem N1(s:ByteArray)(i m:Nat):s.extract i (i+m)=⟨((s.data.toList.drop i).take m).toArray⟩:=by
 apply ByteArray.ext;rw[ByteArray.data_extract];apply Array.ext';simp[List.take_drop]
theorem JT(s:ByteArray):∀(n i:Nat),QK n s i=m9 n (s.data.toList.drop i):=by
 have j:s.data.toList.length=s.size:=by rw[nN];rfl
 intro n;induction n with
 |zero=>intro i;rfl
 |succ n e=>
  intro i;by_cases g:i<s.size
  ·have b:=Ad s i;have d:=Ad s (i+1);have h:∀k,k≠0->yi s i k=i+fH (s.data.toList.drop i) k:=fun k c=>Pr c;have f:=N1 s i;have a:∀m,s.data.toList.drop (i+m)=(s.data.toList.drop i).drop m:=fun m=>by rw[List.drop_drop]
   have o:=xn (l:=s.data.toList) (i:=i) (by omega);unfold QK;rw[zc g];rw[o] at b h f a ⊢;unfold m9;simp only[RR] at b;rw[b,d,e];split
   ·rfl
   ·split
    ·rfl
    ·rename_i c;generalize xb (Ry s.data.toList[i]) (RR (List.drop (i+1) s.data.toList))=k at *;rw[h k c];generalize fH (s.data.toList[i]::List.drop (i+1) s.data.toList) k=m at *;rw[wa,f m,e,a m]
  ·rw[p7 g,uj (by omega)];rfl
structure nR (x:List UInt8):Prop where
 ne:x≠[]
 six:x.length<=6
 kind:(yN (RR x)=true∨vR (RR x)=true)/\(∀b∈x,Rf (Ry b)=true)∨yH (RR x)=true/\∀b∈x,yH (Ry b)=true
end Go.Proofs.YteampbddflhngaaGreat
