import Derived.Test.YteampbddflhngaaGreatB04

namespace Go.Proofs.YteampbddflhngaaGreat
def zyf(x:ByteArray):Int:=zcl (bAt x 0) (bAt x 1)
def yb4(x:ByteArray):Tok:=(zyf x,x)
structure zjg where
 op:ByteArray
 shut:ByteArray
 comma:ByteArray
 dot:ByteArray
 bang:ByteArray
 arrow:ByteArray
def zwz(S:zjg):List ByteArray->List Tok
 |[]=>[]
 |[x]=>[yb4 x]
 |x::y::r=>yb4 x::(6,S.comma)::zwz S (y::r)
def zku(S:zjg)(l:zbc):List Tok:=(1,l.pred)::(if l.args=[] then [] else(4,S.op)::(zwz S l.args++[(5,S.shut)]))
def z3m(S:zjg)(l:zbc):List Tok:=if l.neg then(8,S.bang)::zku S l else zku S l
def znp(S:zjg):List zbc->List Tok
 |[]=>[]
 |[l]=>z3m S l
 |l::m::r=>z3m S l++(6,S.comma)::znp S (m::r)
def clK(S:zjg)(c:zaa):List Tok:=zku S c.head++((if c.body=[] then [] else(9,S.arrow)::znp S c.body)++[(7,S.dot)])
def zi0(S:zjg)(cs:List zaa):List Tok:=cs.flatMap (clK S)
def z2q(l:zbc):Prop:=∀ x∈l.args,isT (zyf x)=true
def ybl(c:zaa):Prop:=c.head.neg=false/\z2q c.head/\∀ l∈c.body,z2q l
theorem zsa(S:zjg):∀(bs:List ByteArray) (r:List Tok),bs≠[]->(∀ x∈bs,isT (zyf x)=true)->hdK r≠6->za6 (zwz S bs++r)=some (bs,r)
 |[],_,h,_,_=>absurd rfl h
 |[x],r,_,hx,h6=>zof (hx x (by simp)) h6
 |x::y::bs,r,_,hx,h6=>by
  have ih:=zsa S (y::bs) r (by simp) (fun z hz=>hx z (by simp[List.mem_cons.1 hz])) h6
  show za6 ((zyf x,x)::(6,S.comma)::(zwz S (y::bs)++r))=_
  rw[zom (hx x (by simp)) rfl]
  show(za6 (zwz S (y::bs)++r)).map _=_
  rw[ih]
  rfl
theorem zmd(S:zjg)(l:zbc)(r:List Tok)(hw:z2q l)(h4:hdK r≠4):zdq (zku S l++r)=some ({ l with neg:=false },r):=by
 unfold zku zdq
 by_cases ha:l.args=[]
 ·simp only[if_pos ha,List.cons_append,List.nil_append,hdK_cons,List.tail_cons,List.headD_cons,if_true,if_neg h4]
  rw[← ha]
 ·have q:za6 (zwz S l.args++((5,S.shut)::r))=some (l.args,(5,S.shut)::r):=zsa S l.args ((5,S.shut)::r) ha hw (by simp[hdK])
  simp only[if_neg ha,List.cons_append,List.append_assoc,List.nil_append,hdK_cons,List.tail_cons,List.headD_cons,if_true,q]
theorem zz1(S:zjg)(l:zbc)(r:List Tok)(hw:z2q l)(h4:hdK r≠4):zqj (z3m S l++r)=some (l,r):=by
 unfold zqj z3m
 cases hn:l.neg with
 |true =>
  simp only[if_true]
  show(if hdK ((8,S.bang)::(zku S l++r))=8 then(zdq (zku S l++r)).map _ else _)=_
  rw[if_pos (show hdK ((8,S.bang)::(zku S l++r))=8 from rfl),zmd S l r hw h4]
  show some (({ l with neg:=true }:zbc),r)=_
  rw[← hn]
 |false =>
  simp only[Bool.false_eq_true,if_false]
  have h8:¬ hdK (zku S l++r)=8:=by unfold zku;show ¬ (1:Int)=8;decide
  rw[if_neg h8,zmd S l r hw h4,← hn]
theorem zw0(S:zjg):∀(n:Nat) (b:List zbc) (r:List Tok),b≠[]->b.length<=n->(∀ l∈b,z2q l)->hdK r≠4->hdK r≠6->zeo n (znp S b++r)=some (b,r)
 |_,[],_,h,_,_,_,_=>absurd rfl h
 |0,l::b,_,_,hn,_,_,_=>by simp at hn
 |n+1,[l],r,_,_,hw,h4,h6=>zjw (zz1 S l r (hw l (by simp)) h4) h6
 |n+1,l::m::b,r,_,hn,hw,h4,h6=>by
  have ih:=zw0 S n (m::b) r (by simp) (by simp at hn ⊢;omega) (fun z hz=>hw z (by simp[List.mem_cons.1 hz])) h4 h6
  have e:znp S (l::m::b)++r=z3m S l++((6,S.comma)::(znp S (m::b)++r)):=by simp[znp]
  rw[e,zj2 (zz1 S l _ (hw l (by simp)) (by simp[hdK])) rfl]
  show(zeo n (znp S (m::b)++r)).map _=_
  rw[ih]
  rfl
theorem zxu(S:zjg)(n:Nat)(c:zaa)(r:List Tok)(hw:ybl c)(hn:c.body.length<=n):zdy n (clK S c++r)=some (c,r):=by
 unfold zdy clK
 obtain⟨hd,hb⟩:=c
 obtain⟨hg,hp,hs⟩:=hd
 obtain⟨h1,h2,h3⟩:=hw
 simp only at h1 h2 h3 hn
 subst h1
 by_cases hb0:hb=[]
 ·subst hb0
  simp only[if_true,List.append_assoc]
  rw[zmd S _ _ h2 (by simp[hdK])]
  simp[hdK]
 ·simp only[if_neg hb0,List.append_assoc]
  rw[zmd S _ _ h2 (by simp[hdK])]
  simp only[List.cons_append,hdK_cons,List.tail_cons,if_true]
  rw[zw0 S n hb _ hb0 hn h3 (by simp[hdK]) (by simp[hdK])]
  simp[hdK]
theorem zwj(S:zjg)(n:Nat):∀(m:Nat) (cs:List zaa),(∀ c∈cs,ybl c/\c.body.length<=n)->cs.length<=m->zdp n m (zi0 S cs)=some cs
 |_,[],_,_=>by unfold zi0;simp[zdp]
 |0,c::cs,_,h=>by simp at h
 |m+1,c::cs,hw,h=>by
  have ih:=zwj S n m cs (fun z hz=>hw z (by simp[hz])) (by simp at h;omega)
  have e:zi0 S (c::cs)=clK S c++zi0 S cs:=by simp[zi0]
  rw[e,zoy (by unfold clK zku;simp) (zxu S n c _ (hw c (by simp)).1 (hw c (by simp)).2),ih]
  rfl
end Go.Proofs.YteampbddflhngaaGreat
