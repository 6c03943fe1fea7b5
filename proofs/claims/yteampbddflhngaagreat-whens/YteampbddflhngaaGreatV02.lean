import Derived.WideShapes
namespace Go.Proofs.YteampbddflhngaaGreat
section
variable {s a b:ByteArray}{i n:Nat}{p:Int->Bool}
def yQ(c:Int):Bool:=decide (97<=c)&&decide (c<=122)
def vE(c:Int):Bool:=decide (65<=c)&&decide (c<=90)
def yJ(c:Int):Bool:=decide (48<=c)&&decide (c<=57)
def vT(c:Int):Bool:=c == 32||c == 10
def P9(c:Int):Bool:=yQ c||vE c||yJ c
def gL(c:Int):Int:=if c=40 then 4 else if c=41 then 5 else if c=44 then 6 else if c=46 then 7 else if c=33 then 8 else 0
def xa(a b:Int):Int:=if yQ a then 1 else if vE a then 2 else if yJ a then 3 else if a=58/\b=45 then 9 else gL a
def Pi(s:ByteArray)(i:Nat):Int:=if h:i<s.size then(s[i].toNat:Int) else 0
theorem vY(h:i<s.size):Pi s i=(s[i].toNat:Int):=by simp[Pi,h]
theorem np(h:¬i<s.size):Pi s i=0:=by simp[Pi,h]
theorem fK(s:ByteArray)(i:Nat):0<=Pi s i/\Pi s i<256:=by
 unfold Pi;split
 ·rename_i h;have:=s[i].toNat_lt;omega
 ·omega
def yA(p:Int->Bool)(s:ByteArray)(i:Nat):Nat:=if h:i<s.size then(if p (Pi s i) then yA p s (i+1) else i) else i
 termination_by s.size-i
theorem gx(h:¬i<s.size):yA p s i=i:=by rw[yA];simp[h]
theorem lG(h:p (Pi s i)=false):yA p s i=i:=by rw[yA];simp[h]
theorem l3(h:i<s.size)(c:p (Pi s i)=true):yA p s i=yA p s (i+1):=by
 conv=>lhs;rw[yA]
 simp[h,c]
theorem DY(p:Int->Bool)(s:ByteArray):∀(n i:Nat),s.size-i<=n->i<=yA p s i/\(i<=s.size->yA p s i<=s.size):=by
 intro n;induction n with
 |zero=>intro i h;rw[gx (by omega)];omega
 |succ n e=>
  intro i h;by_cases c:i<s.size
  ·cases d:p (Pi s i) with
   |false=>rw[lG d];omega
   |true=>rw[l3 c d];have:=e (i+1) (by omega);omega
  ·rw[gx c];omega
theorem Gr(p:Int->Bool)(s:ByteArray)(i:Nat):i<=yA p s i:=(DY p s _ i (Nat.le_refl _)).1
theorem GR(p:Int->Bool)(s:ByteArray)(i:Nat)(h:i<=s.size):yA p s i<=s.size:=(DY p s _ i (Nat.le_refl _)).2 h
def yi(s:ByteArray)(i:Nat)(k:Int):Nat:=if k=0 then i else if k=9 then i+2 else if k=1∨k=2 then yA P9 s i else if k=3 then yA yJ s i else i+1
theorem pP(s:ByteArray)(i:Nat)(k:Int)(f:i<s.size)(c:xa (Pi s i) (Pi s (i+1))=k)(e:k≠0):i<yi s i k/\yi s i k<=s.size:=by
 have d:∀p:Int->Bool,p (Pi s i)=true->i<yA p s i/\yA p s i<=s.size:=fun p g=>by
  rw[l3 f g];have:=Gr p s (i+1);have:=GR p s (i+1) (by omega);omega
 unfold xa at c;unfold yi;split at c
 ·rename_i h;subst c;simp;exact d P9 (by simp[P9,h])
 ·split at c
  ·rename_i h;subst c;simp;exact d P9 (by simp[P9,h])
  ·split at c
   ·rename_i h;subst c;simp;exact d yJ h
   ·split at c
    ·rename_i h;subst c;simp;have:i+1<s.size:=by
      false_or_by_contra;rename_i j;rw[np j] at h;omega
     omega
    ·have l:k≠9/\k≠1/\k≠2/\k≠3:=by subst c;unfold gL;(repeat' split)<;>simp
     simp[e,l];omega
def Pn:Nat->ByteArray->Nat->Option (List (Int×ByteArray))
 |0,_,_=>some []
 |n+1,s,i=>
  if i<s.size then
   if vT (Pi s i) then Pn n s (i+1)
   else if xa (Pi s i) (Pi s (i+1))=0 then none
   else if 6<yi s i (xa (Pi s i) (Pi s (i+1)))-i then none
   else(Pn n s (yi s i (xa (Pi s i) (Pi s (i+1))))).map ((xa (Pi s i) (Pi s (i+1)),s.extract i (yi s i (xa (Pi s i) (Pi s (i+1)))))::·)
  else some []
def Pl(s:ByteArray):Option (List (Int×ByteArray)):=Pn s.size s 0
theorem nN(h:¬i<s.size):Pn n s i=some []:=by cases n<;>simp[Pn,h]
theorem sX(h:i<s.size)(c:vT (Pi s i)=true):Pn (n+1) s i=Pn n s (i+1):=by simp[Pn,h,c]
theorem tD(h:i<s.size)(d:vT (Pi s i)=false)(c:xa (Pi s i) (Pi s (i+1))=0):Pn (n+1) s i=none:=by simp[Pn,h,d,c]
theorem td{k:Int}(h:i<s.size)(e:vT (Pi s i)=false)(d:xa (Pi s i) (Pi s (i+1))=k)(c:6<yi s i k-i):Pn (n+1) s i=none:=by
 subst d;simp[Pn,h,e,c]
theorem tF{k:Int}(h:i<s.size)(f:vT (Pi s i)=false)(e:xa (Pi s i) (Pi s (i+1))=k)(c:k≠0)(d:¬6<yi s i k-i):
  Pn (n+1) s i=(Pn n s (yi s i k)).map ((k,s.extract i (yi s i k))::·):=by
 subst e;simp[Pn,h,f,d,c]
theorem rg{α:Type}(o:Option (List α))(c:List α)(x:α):(o.map (x::·)).map (c++·)=o.map ((c++[x])++·):=by cases o<;>simp
theorem Mo(s:ByteArray):∀(n i:Nat) (r:List UInt8),s.size-i<=n->ByteArray.toList.loop s i r=r.reverse++s.data.toList.drop i:=by
 intro n;induction n with
 |zero=>
  intro i r h;rw[ByteArray.toList.loop,if_neg (by omega),List.drop_eq_nil_of_le (by rw[Array.length_toList];show s.size<=i;omega),List.append_nil]
 |succ n e=>
  intro i r h;rw[ByteArray.toList.loop];split
  ·rename_i c;rw[e (i+1) _ (by omega)];have d:i<s.data.toList.length:=by rw[Array.length_toList];exact c
   rw[List.drop_eq_getElem_cons d];simp[ByteArray.get!,c]
  ·rw[List.drop_eq_nil_of_le (by rw[Array.length_toList];show s.size<=i;omega),List.append_nil]
theorem lx(s:ByteArray):s.toList=s.data.toList:=by
 rw[ByteArray.toList,Mo s _ 0 [] (Nat.le_refl _)];simp
theorem Qa(h:a.toList=b.toList):a=b:=by
 rw[lx,lx] at h;exact Go.WideShapes.bytes_inj h
theorem Ew(a b:ByteArray):(a.toList == b.toList)=decide (a=b):=by
 by_cases h:a=b
 ·subst h;simp
 ·rw[decide_eq_false h,beq_eq_false_iff_ne];exact fun k=>h (Qa k)
theorem ka(h:a=b):(a.toList == b.toList)=true:=by rw[Ew];simpa using h
theorem qz(h:a≠b):(a.toList == b.toList)=false:=by rw[Ew];simpa using h
def zV(t:ByteArray):Bool:=vE (Pi t 0)
def yt(t:ByteArray):List ByteArray->Bool
 |[]=>false
 |x::r=>decide (x=t)||yt t r
theorem qS{t:ByteArray}:∀{vs:List ByteArray},yt t vs=true↔t∈vs
 |[]=>by simp[yt]
 |x::r=>by simp only[yt,Bool.or_eq_true,decide_eq_true_eq,List.mem_cons,qS (vs:=r)];constructor<;>(rintro(h|h)<;>simp[h])
theorem rj{t:ByteArray}{vs:List ByteArray}:yt t vs=false↔t∉vs:=by rw[←qS];simp
def jq(vs:List ByteArray)(t:ByteArray):List ByteArray:=if zV t&&!yt t vs then vs++[t] else vs
def xp(vs args:List ByteArray):List ByteArray:=args.foldl jq vs
theorem Ln(vs:List ByteArray)(t:ByteArray):(jq vs t).length<=vs.length+1:=by unfold jq;split<;>simp
theorem mA(args:List ByteArray):∀vs:List ByteArray,(xp vs args).length<=vs.length+args.length:=by
 induction args with
 |nil=>intro vs;simp[xp]
 |cons a r c=>intro vs;have:=c (jq vs a);have:=Ln vs a;simp only[xp,List.foldl_cons,List.length_cons] at *;omega
end
end Go.Proofs.YteampbddflhngaaGreat
