import Derived.WideShapes
namespace Go.Proofs.YteampbddflhngaaGreat
set_option linter.all false
section
variable {s a b:ByteArray}{i n:Nat}{p:Int->Bool}
def yR(c:Int):Bool:=decide (97<=c)&&decide (c<=122)
def vO(c:Int):Bool:=decide (65<=c)&&decide (c<=90)
def yH(c:Int):Bool:=decide (48<=c)&&decide (c<=57)
def qG(c:Int):Bool:=c == 32||c == 10
def Rc(c:Int):Bool:=yR c||vO c||yH c
def gQ(c:Int):Int:=if c=40 then 4 else if c=41 then 5 else if c=44 then 6 else if c=46 then 7 else if c=33 then 8 else 0
def xa(a b:Int):Int:=if yR a then 1 else if vO a then 2 else if yH a then 3 else if a=58/\b=45 then 9 else gQ a
def QE(s:ByteArray)(i:Nat):Int:=if h:i<s.size then(s[i].toNat:Int) else 0
theorem vX(h:i<s.size):QE s i=(s[i].toNat:Int):=by simp[QE,h]
theorem nw(h:¬i<s.size):QE s i=0:=by simp[QE,h]
theorem fa(s:ByteArray)(i:Nat):0<=QE s i/\QE s i<256:=by
 unfold QE;split
 ·rename_i h;have:=s[i].toNat_lt;omega
 ·omega
def y6(p:Int->Bool)(s:ByteArray)(i:Nat):Nat:=if h:i<s.size then(if p (QE s i) then y6 p s (i+1) else i) else i
 termination_by s.size-i
theorem gM(h:¬i<s.size):y6 p s i=i:=by rw[y6];simp[h]
theorem m4(h:p (QE s i)=false):y6 p s i=i:=by rw[y6];simp[h]
theorem lF(h:i<s.size)(c:p (QE s i)=true):y6 p s i=y6 p s (i+1):=by
 conv=>lhs;rw[y6]
 simp[h,c]
theorem CQ(p:Int->Bool)(s:ByteArray):∀(n i:Nat),s.size-i<=n->i<=y6 p s i/\(i<=s.size->y6 p s i<=s.size):=by
 intro n;induction n with
 |zero=>intro i h;rw[gM (by omega)];omega
 |succ n e=>
  intro i h;by_cases d:i<s.size
  ·cases c:p (QE s i) with
   |false=>rw[m4 c];omega
   |true=>rw[lF d c];have:=e (i+1) (by omega);omega
  ·rw[gM d];omega
theorem KA(p:Int->Bool)(s:ByteArray)(i:Nat):i<=y6 p s i:=(CQ p s _ i (Nat.le_refl _)).1
theorem Gq(p:Int->Bool)(s:ByteArray)(i:Nat)(h:i<=s.size):y6 p s i<=s.size:=(CQ p s _ i (Nat.le_refl _)).2 h
def yi(s:ByteArray)(i:Nat)(k:Int):Nat:=if k=0 then i else if k=9 then i+2 else if k=1∨k=2 then y6 Rc s i else if k=3 then y6 yH s i else i+1
theorem rP(s:ByteArray)(i:Nat)(k:Int)(j:i<s.size)(c:xa (QE s i) (QE s (i+1))=k)(e:k≠0):i<yi s i k/\yi s i k<=s.size:=by
 have d:∀p:Int->Bool,p (QE s i)=true->i<y6 p s i/\y6 p s i<=s.size:=fun p g=>by
  rw[lF j g];have:=KA p s (i+1);have:=Gq p s (i+1) (by omega);omega
 unfold xa at c;unfold yi;split at c
 ·rename_i h;subst c;simp;exact d Rc (by simp[Rc,h])
 ·split at c
  ·rename_i h;subst c;simp;exact d Rc (by simp[Rc,h])
  ·split at c
   ·rename_i h;subst c;simp;exact d yH h
   ·split at c
    ·rename_i h;subst c;simp;have:i+1<s.size:=by
      false_or_by_contra;rename_i l;rw[nw l] at h;omega
     omega
    ·have f:k≠9/\k≠1/\k≠2/\k≠3:=by subst c;unfold gQ;(repeat' split)<;>simp
     simp[e,f];omega
def QI:Nat->ByteArray->Nat->Option (List (Int×ByteArray))
 |0,_,_=>some []
 |n+1,s,i=>
  if i<s.size then
   if qG (QE s i) then QI n s (i+1)
   else if xa (QE s i) (QE s (i+1))=0 then none
   else if 6<yi s i (xa (QE s i) (QE s (i+1)))-i then none
   else(QI n s (yi s i (xa (QE s i) (QE s (i+1))))).map ((xa (QE s i) (QE s (i+1)),s.extract i (yi s i (xa (QE s i) (QE s (i+1)))))::·)
  else some []
def QG(s:ByteArray):Option (List (Int×ByteArray)):=QI s.size s 0
theorem pj(h:¬i<s.size):QI n s i=some []:=by cases n<;>simp[QI,h]
theorem wG(h:i<s.size)(c:qG (QE s i)=true):QI (n+1) s i=QI n s (i+1):=by simp[QI,h,c]
theorem tq(h:i<s.size)(c:qG (QE s i)=false)(d:xa (QE s i) (QE s (i+1))=0):QI (n+1) s i=none:=by simp[QI,h,c,d]
theorem wg{k:Int}(h:i<s.size)(d:qG (QE s i)=false)(e:xa (QE s i) (QE s (i+1))=k)(c:6<yi s i k-i):QI (n+1) s i=none:=by
 subst e;simp[QI,h,d,c]
theorem sL{k:Int}(h:i<s.size)(e:qG (QE s i)=false)(f:xa (QE s i) (QE s (i+1))=k)(c:k≠0)(d:¬6<yi s i k-i):
  QI (n+1) s i=(QI n s (yi s i k)).map ((k,s.extract i (yi s i k))::·):=by
 subst f;simp[QI,h,e,d,c]
theorem rI{α:Type}(o:Option (List α))(c:List α)(x:α):(o.map (x::·)).map (c++·)=o.map ((c++[x])++·):=by cases o<;>simp
theorem Hq(s:ByteArray):∀(n i:Nat) (r:List UInt8),s.size-i<=n->ByteArray.toList.loop s i r=r.reverse++s.data.toList.drop i:=by
 intro n;induction n with
 |zero=>
  intro i r h;rw[ByteArray.toList.loop,if_neg (by omega),List.drop_eq_nil_of_le (by rw[Array.length_toList];show s.size<=i;omega),List.append_nil]
 |succ n e=>
  intro i r h;rw[ByteArray.toList.loop];split
  ·rename_i c;rw[e (i+1) _ (by omega)];have d:i<s.data.toList.length:=by rw[Array.length_toList];exact c
   rw[List.drop_eq_getElem_cons d];simp[ByteArray.get!,c]
  ·rw[List.drop_eq_nil_of_le (by rw[Array.length_toList];show s.size<=i;omega),List.append_nil]
theorem l7(s:ByteArray):s.toList=s.data.toList:=by
 rw[ByteArray.toList,Hq s _ 0 [] (Nat.le_refl _)];simp
theorem RC(h:a.toList=b.toList):a=b:=by
 rw[l7,l7] at h;exact Go.WideShapes.bytes_inj h
theorem A3(a b:ByteArray):(a.toList == b.toList)=decide (a=b):=by
 by_cases h:a=b
 ·subst h;simp
 ·rw[decide_eq_false h,beq_eq_false_iff_ne];exact fun k=>h (RC k)
theorem gi(h:a=b):(a.toList == b.toList)=true:=by rw[A3];simpa using h
theorem jz(h:a≠b):(a.toList == b.toList)=false:=by rw[A3];simpa using h
def zO(t:ByteArray):Bool:=vO (QE t 0)
def xf(t:ByteArray):List ByteArray->Bool
 |[]=>false
 |x::r=>decide (x=t)||xf t r
theorem ka{t:ByteArray}:∀{vs:List ByteArray},xf t vs=true↔t∈vs
 |[]=>by simp[xf]
 |x::r=>by simp only[xf,Bool.or_eq_true,decide_eq_true_eq,List.mem_cons,ka (vs:=r)];constructor<;>(rintro(h|h)<;>simp[h])
theorem ru{t:ByteArray}{vs:List ByteArray}:xf t vs=false↔t∉vs:=by rw[←ka];simp
def j9(vs:List ByteArray)(t:ByteArray):List ByteArray:=if zO t&&!xf t vs then vs++[t] else vs
def xn(vs args:List ByteArray):List ByteArray:=args.foldl j9 vs
theorem IM(vs:List ByteArray)(t:ByteArray):(j9 vs t).length<=vs.length+1:=by unfold j9;split<;>simp
theorem nF(args:List ByteArray):∀vs:List ByteArray,(xn vs args).length<=vs.length+args.length:=by
 induction args with
 |nil=>intro vs;simp[xn]
 |cons a r c=>intro vs;have:=c (j9 vs a);have:=IM vs a;simp only[xn,List.foldl_cons,List.length_cons] at *;omega
end
end Go.Proofs.YteampbddflhngaaGreat
