import Derived.WideShapes
namespace Go.Proofs.YteampbddflhngaaGreat
set_option linter.all false
section
variable {s a b:ByteArray}{i n:Nat}{p:Int->Bool}
def yN(c:Int):Bool:=decide (97<=c)&&decide (c<=122)
def vR(c:Int):Bool:=decide (65<=c)&&decide (c<=90)
def yH(c:Int):Bool:=decide (48<=c)&&decide (c<=57)
def qu(c:Int):Bool:=c == 32||c == 10
def Rf(c:Int):Bool:=yN c||vR c||yH c
def dC(c:Int):Int:=if c=40 then 4 else if c=41 then 5 else if c=44 then 6 else if c=46 then 7 else if c=33 then 8 else 0
def xb(a b:Int):Int:=if yN a then 1 else if vR a then 2 else if yH a then 3 else if a=58/\b=45 then 9 else dC a
def QG(s:ByteArray)(i:Nat):Int:=if h:i<s.size then(s[i].toNat:Int) else 0
theorem qn(h:i<s.size):QG s i=(s[i].toNat:Int):=by simp[QG,h]
theorem n6(h:¬i<s.size):QG s i=0:=by simp[QG,h]
theorem fg(s:ByteArray)(i:Nat):0<=QG s i/\QG s i<256:=by
 unfold QG;split
 ·rename_i h;have:=s[i].toNat_lt;omega
 ·omega
def yA(p:Int->Bool)(s:ByteArray)(i:Nat):Nat:=if h:i<s.size then(if p (QG s i) then yA p s (i+1) else i) else i
 termination_by s.size-i
theorem gS(h:¬i<s.size):yA p s i=i:=by rw[yA];simp[h]
theorem mS(h:p (QG s i)=false):yA p s i=i:=by rw[yA];simp[h]
theorem lJ(h:i<s.size)(c:p (QG s i)=true):yA p s i=yA p s (i+1):=by
 conv=>lhs;rw[yA]
 simp[h,c]
theorem EI(p:Int->Bool)(s:ByteArray):∀(n i:Nat),s.size-i<=n->i<=yA p s i/\(i<=s.size->yA p s i<=s.size):=by
 intro n;induction n with
 |zero=>intro i h;rw[gS (by omega)];omega
 |succ n e=>
  intro i h;by_cases d:i<s.size
  ·cases c:p (QG s i) with
   |false=>rw[mS c];omega
   |true=>rw[lJ d c];have:=e (i+1) (by omega);omega
  ·rw[gS d];omega
theorem ME(p:Int->Bool)(s:ByteArray)(i:Nat):i<=yA p s i:=(EI p s _ i (Nat.le_refl _)).1
theorem FU(p:Int->Bool)(s:ByteArray)(i:Nat)(h:i<=s.size):yA p s i<=s.size:=(EI p s _ i (Nat.le_refl _)).2 h
def yi(s:ByteArray)(i:Nat)(k:Int):Nat:=if k=0 then i else if k=9 then i+2 else if k=1∨k=2 then yA Rf s i else if k=3 then yA yH s i else i+1
theorem ri(s:ByteArray)(i:Nat)(k:Int)(l:i<s.size)(c:xb (QG s i) (QG s (i+1))=k)(e:k≠0):i<yi s i k/\yi s i k<=s.size:=by
 have d:∀p:Int->Bool,p (QG s i)=true->i<yA p s i/\yA p s i<=s.size:=fun p j=>by
  rw[lJ l j];have:=ME p s (i+1);have:=FU p s (i+1) (by omega);omega
 unfold xb at c;unfold yi;split at c
 ·rename_i h;subst c;simp;exact d Rf (by simp[Rf,h])
 ·split at c
  ·rename_i h;subst c;simp;exact d Rf (by simp[Rf,h])
  ·split at c
   ·rename_i h;subst c;simp;exact d yH h
   ·split at c
    ·rename_i h;subst c;simp;have:i+1<s.size:=by
      false_or_by_contra;rename_i g;rw[n6 g] at h;omega
     omega
    ·have f:k≠9/\k≠1/\k≠2/\k≠3:=by subst c;unfold dC;(repeat' split)<;>simp
     simp[e,f];omega
def QK:Nat->ByteArray->Nat->Option (List (Int×ByteArray))
 |0,_,_=>some []
 |n+1,s,i=>
  if i<s.size then
   if qu (QG s i) then QK n s (i+1)
   else if xb (QG s i) (QG s (i+1))=0 then none
   else if 6<yi s i (xb (QG s i) (QG s (i+1)))-i then none
   else(QK n s (yi s i (xb (QG s i) (QG s (i+1))))).map ((xb (QG s i) (QG s (i+1)),s.extract i (yi s i (xb (QG s i) (QG s (i+1)))))::·)
  else some []
def QI(s:ByteArray):Option (List (Int×ByteArray)):=QK s.size s 0
theorem p7(h:¬i<s.size):QK n s i=some []:=by cases n<;>simp[QK,h]
theorem tV(h:i<s.size)(c:qu (QG s i)=true):QK (n+1) s i=QK n s (i+1):=by simp[QK,h,c]
theorem tI(h:i<s.size)(c:qu (QG s i)=false)(d:xb (QG s i) (QG s (i+1))=0):QK (n+1) s i=none:=by simp[QK,h,c,d]
theorem sT{k:Int}(h:i<s.size)(c:qu (QG s i)=false)(d:xb (QG s i) (QG s (i+1))=k)(e:6<yi s i k-i):QK (n+1) s i=none:=by
 subst d;simp[QK,h,c,e]
theorem wy{k:Int}(h:i<s.size)(d:qu (QG s i)=false)(e:xb (QG s i) (QG s (i+1))=k)(c:k≠0)(f:¬6<yi s i k-i):
  QK (n+1) s i=(QK n s (yi s i k)).map ((k,s.extract i (yi s i k))::·):=by
 subst e;simp[QK,h,d,f,c]
theorem rN{α:Type}(o:Option (List α))(c:List α)(x:α):(o.map (x::·)).map (c++·)=o.map ((c++[x])++·):=by cases o<;>simp
theorem MM(s:ByteArray):∀(n i:Nat) (r:List UInt8),s.size-i<=n->ByteArray.toList.loop s i r=r.reverse++s.data.toList.drop i:=by
 intro n;induction n with
 |zero=>
  intro i r h;rw[ByteArray.toList.loop,if_neg (by omega),List.drop_eq_nil_of_le (by rw[Array.length_toList];show s.size<=i;omega),List.append_nil]
 |succ n e=>
  intro i r h;rw[ByteArray.toList.loop];split
  ·rename_i c;rw[e (i+1) _ (by omega)];have d:i<s.data.toList.length:=by rw[Array.length_toList];exact c
   rw[List.drop_eq_getElem_cons d];simp[ByteArray.get!,c]
  ·rw[List.drop_eq_nil_of_le (by rw[Array.length_toList];show s.size<=i;omega),List.append_nil]
theorem lM(s:ByteArray):s.toList=s.data.toList:=by
 rw[ByteArray.toList,MM s _ 0 [] (Nat.le_refl _)];simp
theorem RB(h:a.toList=b.toList):a=b:=by
 rw[lM,lM] at h;exact Go.WideShapes.bytes_inj h
theorem DV(a b:ByteArray):(a.toList == b.toList)=decide (a=b):=by
 by_cases h:a=b
 ·subst h;simp
 ·rw[decide_eq_false h,beq_eq_false_iff_ne];exact fun k=>h (RB k)
theorem gE(h:a=b):(a.toList == b.toList)=true:=by rw[DV];simpa using h
theorem j5(h:a≠b):(a.toList == b.toList)=false:=by rw[DV];simpa using h
def zP(t:ByteArray):Bool:=vR (QG t 0)
def xf(t:ByteArray):List ByteArray->Bool
 |[]=>false
 |x::r=>decide (x=t)||xf t r
theorem jQ{t:ByteArray}:∀{vs:List ByteArray},xf t vs=true↔t∈vs
 |[]=>by simp[xf]
 |x::r=>by simp only[xf,Bool.or_eq_true,decide_eq_true_eq,List.mem_cons,jQ (vs:=r)];constructor<;>(rintro(h|h)<;>simp[h])
theorem rf{t:ByteArray}{vs:List ByteArray}:xf t vs=false↔t∉vs:=by rw[←jQ];simp
def jD(vs:List ByteArray)(t:ByteArray):List ByteArray:=if zP t&&!xf t vs then vs++[t] else vs
def xk(vs args:List ByteArray):List ByteArray:=args.foldl jD vs
theorem Ia(vs:List ByteArray)(t:ByteArray):(jD vs t).length<=vs.length+1:=by unfold jD;split<;>simp
theorem nB(args:List ByteArray):∀vs:List ByteArray,(xk vs args).length<=vs.length+args.length:=by
 induction args with
 |nil=>intro vs;simp[xk]
 |cons a r c=>intro vs;have:=c (jD vs a);have:=Ia vs a;simp only[xk,List.foldl_cons,List.length_cons] at *;omega
end
end Go.Proofs.YteampbddflhngaaGreat
