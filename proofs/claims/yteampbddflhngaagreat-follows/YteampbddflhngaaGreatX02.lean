import Derived.WideShapes
namespace Go.Proofs.YteampbddflhngaaGreat
set_option linter.all false
section
variable {s a b:ByteArray}{i n:Nat}{p:Int->Bool}
def yL(c:Int):Bool:=decide (97<=c)&&decide (c<=122)
def vu(c:Int):Bool:=decide (65<=c)&&decide (c<=90)
def yG(c:Int):Bool:=decide (48<=c)&&decide (c<=57)
def vW(c:Int):Bool:=c == 32||c == 10
def PW(c:Int):Bool:=yL c||vu c||yG c
def gM(c:Int):Int:=if c=40 then 4 else if c=41 then 5 else if c=44 then 6 else if c=46 then 7 else if c=33 then 8 else 0
def yX(a b:Int):Int:=if yL a then 1 else if vu a then 2 else if yG a then 3 else if a=58/\b=45 then 9 else gM a
def P8(s:ByteArray)(i:Nat):Int:=if h:i<s.size then(s[i].toNat:Int) else 0
theorem qk(h:i<s.size):P8 s i=(s[i].toNat:Int):=by simp[P8,h]
theorem nz(h:¬i<s.size):P8 s i=0:=by simp[P8,h]
theorem fE(s:ByteArray)(i:Nat):0<=P8 s i/\P8 s i<256:=by
 unfold P8;split
 ·rename_i h;have:=s[i].toNat_lt;omega
 ·omega
def yA(p:Int->Bool)(s:ByteArray)(i:Nat):Nat:=if h:i<s.size then(if p (P8 s i) then yA p s (i+1) else i) else i
 termination_by s.size-i
theorem gY(h:¬i<s.size):yA p s i=i:=by rw[yA];simp[h]
theorem mv(h:p (P8 s i)=false):yA p s i=i:=by rw[yA];simp[h]
theorem lh(h:i<s.size)(c:p (P8 s i)=true):yA p s i=yA p s (i+1):=by
 conv=>lhs;rw[yA]
 simp[h,c]
theorem Cd(p:Int->Bool)(s:ByteArray):∀(n i:Nat),s.size-i<=n->i<=yA p s i/\(i<=s.size->yA p s i<=s.size):=by
 intro n;induction n with
 |zero=>intro i h;rw[gY (by omega)];omega
 |succ n e=>
  intro i h;by_cases c:i<s.size
  ·cases d:p (P8 s i) with
   |false=>rw[mv d];omega
   |true=>rw[lh c d];have:=e (i+1) (by omega);omega
  ·rw[gY c];omega
theorem GK(p:Int->Bool)(s:ByteArray)(i:Nat):i<=yA p s i:=(Cd p s _ i (Nat.le_refl _)).1
theorem JV(p:Int->Bool)(s:ByteArray)(i:Nat)(h:i<=s.size):yA p s i<=s.size:=(Cd p s _ i (Nat.le_refl _)).2 h
def ym(s:ByteArray)(i:Nat)(k:Int):Nat:=if k=0 then i else if k=9 then i+2 else if k=1∨k=2 then yA PW s i else if k=3 then yA yG s i else i+1
theorem pC(s:ByteArray)(i:Nat)(k:Int)(j:i<s.size)(c:yX (P8 s i) (P8 s (i+1))=k)(e:k≠0):i<ym s i k/\ym s i k<=s.size:=by
 have d:∀p:Int->Bool,p (P8 s i)=true->i<yA p s i/\yA p s i<=s.size:=fun p l=>by
  rw[lh j l];have:=GK p s (i+1);have:=JV p s (i+1) (by omega);omega
 unfold yX at c;unfold ym;split at c
 ·rename_i h;subst c;simp;exact d PW (by simp[PW,h])
 ·split at c
  ·rename_i h;subst c;simp;exact d PW (by simp[PW,h])
  ·split at c
   ·rename_i h;subst c;simp;exact d yG h
   ·split at c
    ·rename_i h;subst c;simp;have:i+1<s.size:=by
      false_or_by_contra;rename_i f;rw[nz f] at h;omega
     omega
    ·have g:k≠9/\k≠1/\k≠2/\k≠3:=by subst c;unfold gM;(repeat' split)<;>simp
     simp[e,g];omega
def PC:Nat->ByteArray->Nat->Option (List (Int×ByteArray))
 |0,_,_=>some []
 |n+1,s,i=>
  if i<s.size then
   if vW (P8 s i) then PC n s (i+1)
   else if yX (P8 s i) (P8 s (i+1))=0 then none
   else if 6<ym s i (yX (P8 s i) (P8 s (i+1)))-i then none
   else(PC n s (ym s i (yX (P8 s i) (P8 s (i+1))))).map ((yX (P8 s i) (P8 s (i+1)),s.extract i (ym s i (yX (P8 s i) (P8 s (i+1)))))::·)
  else some []
def PA(s:ByteArray):Option (List (Int×ByteArray)):=PC s.size s 0
theorem pu(h:¬i<s.size):PC n s i=some []:=by cases n<;>simp[PC,h]
theorem sJ(h:i<s.size)(c:vW (P8 s i)=true):PC (n+1) s i=PC n s (i+1):=by simp[PC,h,c]
theorem sA(h:i<s.size)(d:vW (P8 s i)=false)(c:yX (P8 s i) (P8 s (i+1))=0):PC (n+1) s i=none:=by simp[PC,h,d,c]
theorem rC{k:Int}(h:i<s.size)(e:vW (P8 s i)=false)(d:yX (P8 s i) (P8 s (i+1))=k)(c:6<ym s i k-i):PC (n+1) s i=none:=by
 subst d;simp[PC,h,e,c]
theorem tq{k:Int}(h:i<s.size)(f:vW (P8 s i)=false)(e:yX (P8 s i) (P8 s (i+1))=k)(c:k≠0)(d:¬6<ym s i k-i):
  PC (n+1) s i=(PC n s (ym s i k)).map ((k,s.extract i (ym s i k))::·):=by
 subst e;simp[PC,h,f,d,c]
theorem rm{α:Type}(o:Option (List α))(c:List α)(x:α):(o.map (x::·)).map (c++·)=o.map ((c++[x])++·):=by cases o<;>simp
theorem MN(s:ByteArray):∀(n i:Nat) (r:List UInt8),s.size-i<=n->ByteArray.toList.loop s i r=r.reverse++s.data.toList.drop i:=by
 intro n;induction n with
 |zero=>
  intro i r h;rw[ByteArray.toList.loop,if_neg (by omega),List.drop_eq_nil_of_le (by rw[Array.length_toList];show s.size<=i;omega),List.append_nil]
 |succ n e=>
  intro i r h;rw[ByteArray.toList.loop];split
  ·rename_i c;rw[e (i+1) _ (by omega)];have d:i<s.data.toList.length:=by rw[Array.length_toList];exact c
   rw[List.drop_eq_getElem_cons d];simp[ByteArray.get!,c]
  ·rw[List.drop_eq_nil_of_le (by rw[Array.length_toList];show s.size<=i;omega),List.append_nil]
theorem lu(s:ByteArray):s.toList=s.data.toList:=by
 rw[ByteArray.toList,MN s _ 0 [] (Nat.le_refl _)];simp
theorem Qz(h:a.toList=b.toList):a=b:=by
 rw[lu,lu] at h;exact Go.WideShapes.bytes_inj h
theorem De(a b:ByteArray):(a.toList == b.toList)=decide (a=b):=by
 by_cases h:a=b
 ·subst h;simp
 ·rw[decide_eq_false h,beq_eq_false_iff_ne];exact fun k=>h (Qz k)
theorem kL(h:a=b):(a.toList == b.toList)=true:=by rw[De];simpa using h
theorem jp(h:a≠b):(a.toList == b.toList)=false:=by rw[De];simpa using h
def zO(t:ByteArray):Bool:=vu (P8 t 0)
def yZ(t:ByteArray):List ByteArray->Bool
 |[]=>false
 |x::r=>decide (x=t)||yZ t r
theorem j7{t:ByteArray}:∀{vs:List ByteArray},yZ t vs=true↔t∈vs
 |[]=>by simp[yZ]
 |x::r=>by simp only[yZ,Bool.or_eq_true,decide_eq_true_eq,List.mem_cons,j7 (vs:=r)];constructor<;>(rintro(h|h)<;>simp[h])
theorem pM{t:ByteArray}{vs:List ByteArray}:yZ t vs=false↔t∉vs:=by rw[←j7];simp
def jz(vs:List ByteArray)(t:ByteArray):List ByteArray:=if zO t&&!yZ t vs then vs++[t] else vs
def xn(vs args:List ByteArray):List ByteArray:=args.foldl jz vs
theorem O8(vs:List ByteArray)(t:ByteArray):(jz vs t).length<=vs.length+1:=by unfold jz;split<;>simp
theorem m6(args:List ByteArray):∀vs:List ByteArray,(xn vs args).length<=vs.length+args.length:=by
 induction args with
 |nil=>intro vs;simp[xn]
 |cons a r c=>intro vs;have:=c (jz vs a);have:=O8 vs a;simp only[xn,List.foldl_cons,List.length_cons] at *;omega
end
end Go.Proofs.YteampbddflhngaaGreat
