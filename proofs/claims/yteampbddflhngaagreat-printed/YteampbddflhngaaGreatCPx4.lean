import Derived.Test.YteampbddflhngaaGreatCPx3
import Derived.Test.YteampbddflhngaaGreatB10

namespace Go.Proofs.YteampbddflhngaaGreat
def bl(x:ByteArray):List UInt8:=x.data.toList
theorem zii(a b:ByteArray):bl (a++b)=bl a++bl b:=by simp[bl,ByteArray.data_append]
theorem z8d(x:ByteArray):(⟨(bl x).toArray⟩:ByteArray)=x:=by
 apply ByteArray.ext
 simp[bl]
def signs:zjg:=⟨⟨#[40]⟩,⟨#[41]⟩,⟨#[44]⟩,⟨#[46]⟩,⟨#[33]⟩,⟨#[58,45]⟩⟩
theorem yb1:RdA (bl zl7) [(4,signs.op)]:=zo3 (by decide) (fun _=>by unfold zcl;simp[byt,zfp,zt4,zkj,zqo]) (by decide)
theorem yb3:RdA (bl zqx) [(5,signs.shut)]:=zo3 (by decide) (fun _=>by unfold zcl;simp[byt,zfp,zt4,zkj,zqo]) (by decide)
theorem ybc:RdA (bl znt) [(8,signs.bang)]:=zo3 (by decide) (fun _=>by unfold zcl;simp[byt,zfp,zt4,zkj,zqo]) (by decide)
theorem yb7:RdA (bl z8z) [(7,signs.dot)]:=zo3 (by decide) (fun _=>by unfold zcl;simp[byt,zfp,zt4,zkj,zqo]) (by decide)
theorem z0a:RdA (bl zd1) [(6,signs.comma)]:=(zo3 (b:=44) (k:=6) (by decide) (fun _=>by unfold zcl;simp[byt,zfp,zt4,zkj,zqo]) (by decide)).app (zn7 (b:=32) (by decide))
theorem ybu:RdA (bl zlk) []:=zn7 (by decide)
theorem z9j:RdA (bl zlr) [(9,signs.arrow)]:=by
 have h:RdA [58,45] [(9,signs.arrow)]:=⟨1,by simp,fun n r=>by
  show zd8 (n+1) (58::45::r)=_
  have hk:zcl (byt 58) (hdB (45::r))=9:=rfl
  have hb:zho (byt 58)=false:=by decide
  rw[zd8,hk,hb]
  simp[zvp,signs]⟩
 exact((zn7 (b:=32) (by decide)).app h).app (zn7 (b:=32) (by decide))
def zij(l:zbc):Prop:=(zok (bl l.pred)/\zfp (hdB (bl l.pred))=true)/\∀ x∈l.args,zok (bl x)
def zkl(c:zaa):Prop:=c.head.neg=false/\zij c.head/\∀ l∈c.body,zij l
theorem z9r(x:ByteArray):bAt x 1=hdB (bl x).tail:=by rw[zj5];simp[bl]
theorem z7d{x:ByteArray}(h:zok (bl x)):RdN (bl x) [yb4 x]:=by
 have:=z7g h
 rw[z8d] at this
 have e:yb4 x=(zcl (hdB (bl x)) (hdB (bl x).tail),x):=by
  unfold yb4 zyf
  rw[z9r,zj5]
  rfl
 rw[e]
 exact this
theorem z9u{x:ByteArray}(h:zok (bl x)):isT (zyf x)=true:=by
 unfold zyf
 rw[zj5]
 show isT (zcl (hdB (bl x)) _)=true
 unfold zcl
 rcases h.kind with ⟨hk|hk,_⟩|⟨hk,_⟩
 ·simp[hk,isT]
 ·by_cases hs:zfp (hdB (bl x))=true <;> simp[hk,hs,isT]
 ·by_cases hs:zfp (hdB (bl x))=true
  ·simp[hs,isT]
  ·by_cases hc:zt4 (hdB (bl x))=true <;> simp[hk,hs,hc,isT]
theorem z4z:∀(xs:List ByteArray),xs≠[]->(∀ x∈xs,zok (bl x))->RdN (bl (zdj xs)) (zwz signs xs)
 |[],h,_=>absurd rfl h
 |[x],_,h=>z7d (h x (by simp))
 |x::y::r,_,h=>by
  have ih:=z4z (y::r) (by simp) (fun z hz=>h z (by simp[List.mem_cons.1 hz]))
  show RdN (bl (x++zd1++zdj (y::r))) (yb4 x::(6,signs.comma)::zwz signs (y::r))
  rw[zii,zii,List.append_assoc]
  exact(z7d (h x (by simp))).appN (by simp[bl,zd1]) rfl (z0a.appN ih)
theorem z5z{l:zbc}(h:zij l):RdN (bl l.pred) [(1,l.pred)]:=by
 have:=z7g h.1.1
 rw[z8d] at this
 have e:zcl (hdB (bl l.pred)) (hdB (bl l.pred).tail)=1:=by simp[zcl,h.1.2]
 rw[e] at this
 exact this
theorem ya7{l:zbc}(h:zij l):RdN (bl (if l.args.length=0 then l.pred else l.pred++zl7++zdj l.args++zqx)) (zku signs l):=by
 unfold zku
 by_cases ha:l.args=[]
 ·rw[if_pos (by simp[ha]),if_pos ha]
  exact z5z h
 ·have hl:¬ l.args.length=0:=fun q=>ha (List.length_eq_zero_iff.1 q)
  rw[if_neg hl,if_neg ha,zii,zii,zii,List.append_assoc,List.append_assoc]
  have h1:=(z4z l.args ha h.2).app (by simp[bl,zqx]) rfl yb3
  have h2:=yb1.app h1
  exact((z5z h).app (by simp[bl,zl7]) rfl h2).rdn
theorem z6w{l:zbc}(h:zij l):RdN (bl (zkf l)) (z3m signs l):=by
 have ha:=ya7 h
 unfold zkf ztu z3m
 cases hn:l.neg with
 |false =>
  simp only[Bool.false_eq_true,if_false]
  exact ha
 |true =>
  simp only[if_true]
  have e:(if l.args.length=0 then znt++l.pred else znt++l.pred++zl7++zdj l.args++zqx)=znt++(if l.args.length=0 then l.pred else l.pred++zl7++zdj l.args++zqx):=by
   split
   ·rfl
   ·simp only[ByteArray.append_assoc]
  rw[e,zii]
  exact ybc.appN ha
theorem z5t:∀(b:List zbc),b≠[]->(∀ l∈b,zij l)->RdN (bl (zdj (b.map zkf))) (znp signs b)
 |[],h,_=>absurd rfl h
 |[l],_,h=>z6w (h l (by simp))
 |l::m::r,_,h=>by
  have ih:=z5t (m::r) (by simp) (fun z hz=>h z (by simp[List.mem_cons.1 hz]))
  show RdN (bl (zkf l++zd1++zdj ((m::r).map zkf))) (z3m signs l++(6,signs.comma)::znp signs (m::r))
  rw[zii,zii,List.append_assoc]
  exact(z6w (h l (by simp))).appN (by simp[bl,zd1]) rfl (z0a.appN ih)
theorem z3y{c:zaa}(h:zkl c):RdA (bl (clT c++zlk)) (clK signs c):=by
 have hl:=z6w h.2.1
 have e:z3m signs c.head=zku signs c.head:=by unfold z3m;rw[h.1];rfl
 rw[e] at hl
 unfold clT bodyT clK
 rw[zii,zii,zii,List.append_assoc,List.append_assoc]
 have hd:RdA (bl z8z++bl zlk) [(7,signs.dot)]:=yb7.app ybu
 by_cases hb:c.body=[]
 ·rw[if_pos (by simp[hb]),if_pos hb]
  exact hl.app (by simp[bl,z8z]) rfl hd
 ·have hl0:¬ c.body.length=0:=fun q=>hb (List.length_eq_zero_iff.1 q)
  rw[if_neg hl0,if_neg hb,zii,List.append_assoc]
  have h1:=(z5t c.body hb h.2.2).app (by simp[bl,z8z]) rfl hd
  exact hl.app (by simp[bl,zlr]) rfl (z9j.app h1)
theorem z0q(c:zaa)(cs:List zaa):zd5 (c::cs)=(clT c++zlk)++zd5 cs:=by
 have:∀(cs:List zaa) (a:ByteArray),cs.foldl (fun s c=>s++(clT c++zlk)) a=a++zd5 cs:=by
  intro cs
  induction cs with
  |nil=>intro a;simp[zd5]
  |cons d cs ih =>
   intro a
   unfold zd5
   rw[List.foldl_cons,List.foldl_cons,ih,ih]
   simp only[ByteArray.append_assoc,ByteArray.empty_append]
 unfold zd5
 rw[List.foldl_cons,this,ByteArray.empty_append]
 rfl
theorem z5b:∀(cs:List zaa),(∀ c∈cs,zkl c)->RdA (bl (zd5 cs)) (zi0 signs cs)
 |[],_=>RdA.nil
 |c::cs,h=>by
  rw[z0q,zii]
  have e:zi0 signs (c::cs)=clK signs c++zi0 signs cs:=by simp[zi0]
  rw[e]
  exact(z3y (h c (by simp))).app (z5b cs fun z hz=>h z (by simp[hz]))
theorem z1g{cs:List zaa}(h:∀ c∈cs,zkl c):splitB (zd5 cs)=some (zi0 signs cs):=by
 obtain⟨m,h1,h2⟩:=z5b cs h
 unfold splitB
 rw[zse]
 have hs:(zd5 cs).size=(bl (zd5 cs)).length:=by unfold bl;rw[Array.length_toList];rfl
 have q:=h2 ((bl (zd5 cs)).length - m) []
 rw[show(bl (zd5 cs)).length - m+m=(zd5 cs).size by omega,List.append_nil] at q
 show zd8 (zd5 cs).size (bl (zd5 cs))=_
 rw[q]
 cases (bl (zd5 cs)).length - m <;> simp[zd8]
end Go.Proofs.YteampbddflhngaaGreat
