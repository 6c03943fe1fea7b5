import Derived.Test.YteampbddflhngaaGreatV05
namespace Go.Proofs.YteampbddflhngaaGreat
structure NL where
 op:ByteArray
 shut:ByteArray
 comma:ByteArray
 dot:ByteArray
 PK:ByteArray
 arrow:ByteArray
def PR(b:UInt8):Int:=(b.toNat:Int)
def Qt:List UInt8->Int
 |[]=>0
 |b::_=>PR b
def fF(l:List UInt8)(k:Int):Nat:=if k=9 then 2 else if k=1∨k=2 then(l.takeWhile fun b=>P9 (PR b)).length else if k=3 then(l.takeWhile fun b=>yJ (PR b)).length else 1
def me:Nat->List UInt8->Option (List Pd)
 |0,_=>some []
 |_+1,[]=>some []
 |n+1,a::l=>
  if vT (PR a) then me n l
  else if xa (PR a) (Qt l)=0 then none
  else if 6<fF (a::l) (xa (PR a) (Qt l)) then none
  else(me n ((a::l).drop (fF (a::l) (xa (PR a) (Qt l))))).map ((xa (PR a) (Qt l),(⟨((a::l).take (fF (a::l) (xa (PR a) (Qt l)))).toArray⟩:ByteArray))::·)
theorem oo(s:ByteArray)(i:Nat):Pi s i=Qt (s.data.toList.drop i):=by
 unfold Pi;split
 ·rename_i h;have a:i<s.data.toList.length:=by simpa using h
  rw[xg a];simp[Qt,PR,ByteArray.getElem_eq_getElem_data]
 ·rename_i h;rw[ui (by have:s.data.toList.length=s.size:=(by rw[nt];rfl);omega)];rfl
theorem E9(p:Int->Bool)(s:ByteArray):∀(n i:Nat),s.size-i<=n->yA p s i=i+((s.data.toList.drop i).takeWhile fun b=>p (PR b)).length:=by
 have e:s.data.toList.length=s.size:=by rw[nt];rfl
 intro n;induction n with
 |zero=>
  intro i h;rw[gx (by omega),ui (by omega)];simp
 |succ n f=>
  intro i h;by_cases d:i<s.size
  ·have c:=oo s i;rw[xg (by omega)] at c ⊢;simp only[Qt] at c;cases a:p (Pi s i) with
   |false=>
    rw[lG a,my,←c,a];simp
   |true=>
    rw[l3 d a,f (i+1) (by omega),my,←c,a];simp;omega
  ·rw[gx d,ui (by omega)];simp
theorem MP{s:ByteArray}{i:Nat}{k:Int}(a:k≠0):yi s i k=i+fF (s.data.toList.drop i) k:=by
 unfold yi fF;rw[za a];split
 ·rfl
 ·split
  ·exact E9 P9 s _ i (zh _)
  ·split
   ·exact E9 yJ s _ i (zh _)
   ·rfl
theorem Jm(s:ByteArray)(i m:Nat):s.extract i (i+m)=⟨((s.data.toList.drop i).take m).toArray⟩:=by
 apply ByteArray.ext;rw[ByteArray.data_extract];apply Array.ext';simp[List.take_drop]
theorem Iq(s:ByteArray):∀(n i:Nat),Pn n s i=me n (s.data.toList.drop i):=by
 have j:s.data.toList.length=s.size:=by rw[nt];rfl
 intro n;induction n with
 |zero=>intro i;rfl
 |succ n h=>
  intro i;by_cases e:i<s.size
  ·have b:=oo s i;have c:=oo s (i+1);have g:∀k,k≠0->yi s i k=i+fF (s.data.toList.drop i) k:=fun k d=>MP d;have f:=Jm s i;have a:∀m,s.data.toList.drop (i+m)=(s.data.toList.drop i).drop m:=fun m=>by rw[List.drop_drop]
   have o:=xg (l:=s.data.toList) (i:=i) (by omega);unfold Pn;rw[zb e];rw[o] at b g f a ⊢;unfold me;simp only[Qt] at b;rw[b,c,h];split
   ·rfl
   ·split
    ·rfl
    ·rename_i d;generalize xa (PR s.data.toList[i]) (Qt (List.drop (i+1) s.data.toList))=k at *;rw[g k d];generalize fF (s.data.toList[i]::List.drop (i+1) s.data.toList) k=m at *;rw[sK,f m,h,a m]
  ·rw[nN e,ui (by omega)];rfl
structure nm (x:List UInt8):Prop where
 ne:x≠[]
 six:x.length<=6
 kind:(yQ (Qt x)=true∨vE (Qt x)=true)/\(∀b∈x,P9 (PR b)=true)∨yJ (Qt x)=true/\∀b∈x,yJ (PR b)=true
end Go.Proofs.YteampbddflhngaaGreat
