import Derived.Test.YteampbddflhngaaGreatCPx1

namespace Go.Proofs.YteampbddflhngaaGreat
def byt(b:UInt8):Int:=(b.toNat:Int)
def hdB:List UInt8->Int
 |[]=>0
 |b::_=>byt b
def zvp(l:List UInt8)(k:Int):Nat:=if k=9 then 2 else if k=1∨k=2 then(l.takeWhile fun b=>bLD (byt b)).length else if k=3 then(l.takeWhile fun b=>zkj (byt b)).length else 1
def zd8:Nat->List UInt8->Option (List Tok)
 |0,_=>some []
 |_+1,[]=>some []
 |n+1,a::l =>
  if zho (byt a) then zd8 n l
  else if zcl (byt a) (hdB l)=0 then none
  else if 6 < zvp (a::l) (zcl (byt a) (hdB l)) then none
  else(zd8 n ((a::l).drop (zvp (a::l) (zcl (byt a) (hdB l))))).map ((zcl (byt a) (hdB l),(⟨((a::l).take (zvp (a::l) (zcl (byt a) (hdB l)))).toArray⟩:ByteArray))::·)
theorem zj5(s:ByteArray)(i:Nat):bAt s i=hdB (s.data.toList.drop i):=by
 unfold bAt
 split
 ·rename_i h
  have h':i < s.data.toList.length:=by simpa using h
  rw[List.drop_eq_getElem_cons h']
  simp[hdB,byt,ByteArray.getElem_eq_getElem_data]
 ·rename_i h
  rw[List.drop_eq_nil_of_le (by have:s.data.toList.length=s.size:=(by rw[Array.length_toList];rfl);omega)]
  rfl
theorem zqf(p:Int->Bool)(s:ByteArray):∀(n i:Nat),s.size - i<=n->zcu p s i=i+((s.data.toList.drop i).takeWhile fun b=>p (byt b)).length:=by
 have hsz:s.data.toList.length=s.size:=by rw[Array.length_toList];rfl
 intro n
 induction n with
 |zero =>
  intro i h
  rw[zf7 (by omega),List.drop_eq_nil_of_le (by omega)]
  simp
 |succ n ih =>
  intro i h
  by_cases hi:i < s.size
  ·have hb:=zj5 s i
   rw[List.drop_eq_getElem_cons (by omega)] at hb ⊢
   simp only[hdB] at hb
   cases hp:p (bAt s i) with
   |false =>
    rw[zlh hp,List.takeWhile_cons,← hb,hp]
    simp
   |true =>
    rw[zh4 hi hp,ih (i+1) (by omega),List.takeWhile_cons,← hb,hp]
    simp
    omega
  ·rw[zf7 hi,List.drop_eq_nil_of_le (by omega)]
   simp
theorem z9m{s:ByteArray}{i:Nat}{k:Int}(hk:k≠0):zno s i k=i+zvp (s.data.toList.drop i) k:=by
 unfold zno zvp
 rw[if_neg hk]
 split
 ·rfl
 ·split
  ·exact zqf bLD s _ i (Nat.le_refl _)
  ·split
   ·exact zqf zkj s _ i (Nat.le_refl _)
   ·rfl
theorem zur(s:ByteArray)(i m:Nat):s.extract i (i+m)=⟨((s.data.toList.drop i).take m).toArray⟩:=by
 apply ByteArray.ext
 rw[ByteArray.data_extract]
 apply Array.ext'
 simp[List.take_drop]
theorem zse(s:ByteArray):∀(n i:Nat),splitN n s i=zd8 n (s.data.toList.drop i):=by
 have hsz:s.data.toList.length=s.size:=by rw[Array.length_toList];rfl
 intro n
 induction n with
 |zero=>intro i;rfl
 |succ n ih =>
  intro i
  by_cases hi:i < s.size
  ·have hb:=zj5 s i
   have hb1:=zj5 s (i+1)
   have he:∀ k,k≠0->zno s i k=i+zvp (s.data.toList.drop i) k:=fun k hk=>z9m hk
   have hx:∀ m,s.extract i (i+m)=⟨((s.data.toList.drop i).take m).toArray⟩:=zur s i
   have hdr:∀ m,s.data.toList.drop (i+m)=(s.data.toList.drop i).drop m:=fun m=>by rw[List.drop_drop]
   have hc:=List.drop_eq_getElem_cons (l:=s.data.toList) (i:=i) (by omega)
   unfold splitN
   rw[if_pos hi]
   rw[hc] at hb he hx hdr ⊢
   unfold zd8
   simp only[hdB] at hb
   rw[hb,hb1,ih]
   split
   ·rfl
   ·split
    ·rfl
    ·rename_i hk
     generalize zcl (byt s.data.toList[i]) (hdB (List.drop (i+1) s.data.toList))=k at *
     rw[he k hk]
     generalize zvp (s.data.toList[i]::List.drop (i+1) s.data.toList) k=m at *
     rw[Nat.add_sub_cancel_left,hx m,ih,hdr m]
  ·rw[zpo hi,List.drop_eq_nil_of_le (by omega)]
   rfl
end Go.Proofs.YteampbddflhngaaGreat
