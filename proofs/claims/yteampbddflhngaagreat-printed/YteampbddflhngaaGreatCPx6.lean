import Derived.Test.YteampbddflhngaaGreatB04
import Derived.Test.YteampbddflhngaaGreatB10


namespace Go.Proofs.YteampbddflhngaaGreat
def zyf(x:ByteArray):Int:=zcl (bAt x 0) (bAt x 1)
def yb4(x:ByteArray):Tok:=(zyf x,x)
structure zjg where
 op:ByteArray
 shut:ByteArray
 comma:ByteArray
 dot:ByteArray
 bang:ByteArray
 arrow:ByteArray
def zwz(S:zjg):List ByteArray->List Tok
 |[]=>[]
 |[x]=>[yb4 x]
 |x::y::r=>yb4 x::(6,S.comma)::zwz S (y::r)
def zku(S:zjg)(l:zbc):List Tok:=(1,l.pred)::(if l.args=[] then [] else(4,S.op)::(zwz S l.args++[(5,S.shut)]))
def z3m(S:zjg)(l:zbc):List Tok:=if l.neg then(8,S.bang)::zku S l else zku S l
def znp(S:zjg):List zbc->List Tok
 |[]=>[]
 |[l]=>z3m S l
 |l::m::r=>z3m S l++(6,S.comma)::znp S (m::r)
def clK(S:zjg)(c:zaa):List Tok:=zku S c.head++((if c.body=[] then [] else(9,S.arrow)::znp S c.body)++[(7,S.dot)])
def zi0(S:zjg)(cs:List zaa):List Tok:=cs.flatMap (clK S)
def z2q(l:zbc):Prop:=∀ x∈l.args,isT (zyf x)=true
def ybl(c:zaa):Prop:=c.head.neg=false/\z2q c.head/\∀ l∈c.body,z2q l
theorem zsa(S:zjg):∀(bs:List ByteArray) (r:List Tok),bs≠[]->(∀ x∈bs,isT (zyf x)=true)->hdK r≠6->za6 (zwz S bs++r)=some (bs,r)
 |[],_,h,_,_=>absurd rfl h
 |[x],r,_,hx,h6=>zof (hx x (by simp)) h6
 |x::y::bs,r,_,hx,h6=>by
  have ih:=zsa S (y::bs) r (by simp) (fun z hz=>hx z (by simp[List.mem_cons.1 hz])) h6
  show za6 ((zyf x,x)::(6,S.comma)::(zwz S (y::bs)++r))=_
  rw[zom (hx x (by simp)) rfl]
  show(za6 (zwz S (y::bs)++r)).map _=_
  rw[ih]
  rfl
theorem zmd(S:zjg)(l:zbc)(r:List Tok)(hw:z2q l)(h4:hdK r≠4):zdq (zku S l++r)=some ({ l with neg:=false },r):=by
 unfold zku zdq
 by_cases ha:l.args=[]
 ·simp only[if_pos ha,List.cons_append,List.nil_append,hdK_cons,List.tail_cons,List.headD_cons,if_true,if_neg h4]
  rw[← ha]
 ·have q:za6 (zwz S l.args++((5,S.shut)::r))=some (l.args,(5,S.shut)::r):=zsa S l.args ((5,S.shut)::r) ha hw (by simp[hdK])
  simp only[if_neg ha,List.cons_append,List.append_assoc,List.nil_append,hdK_cons,List.tail_cons,List.headD_cons,if_true,q]
theorem zz1(S:zjg)(l:zbc)(r:List Tok)(hw:z2q l)(h4:hdK r≠4):zqj (z3m S l++r)=some (l,r):=by
 unfold zqj z3m
 cases hn:l.neg with
 |true =>
  simp only[if_true]
  show(if hdK ((8,S.bang)::(zku S l++r))=8 then(zdq (zku S l++r)).map _ else _)=_
  rw[if_pos (show hdK ((8,S.bang)::(zku S l++r))=8 from rfl),zmd S l r hw h4]
  show some (({ l with neg:=true }:zbc),r)=_
  rw[← hn]
 |false =>
  simp only[Bool.false_eq_true,if_false]
  have h8:¬ hdK (zku S l++r)=8:=by unfold zku;show ¬ (1:Int)=8;decide
  rw[if_neg h8,zmd S l r hw h4,← hn]
theorem zw0(S:zjg):∀(n:Nat) (b:List zbc) (r:List Tok),b≠[]->b.length<=n->(∀ l∈b,z2q l)->hdK r≠4->hdK r≠6->zeo n (znp S b++r)=some (b,r)
 |_,[],_,h,_,_,_,_=>absurd rfl h
 |0,l::b,_,_,hn,_,_,_=>by simp at hn
 |n+1,[l],r,_,_,hw,h4,h6=>zjw (zz1 S l r (hw l (by simp)) h4) h6
 |n+1,l::m::b,r,_,hn,hw,h4,h6=>by
  have ih:=zw0 S n (m::b) r (by simp) (by simp at hn ⊢;omega) (fun z hz=>hw z (by simp[List.mem_cons.1 hz])) h4 h6
  have e:znp S (l::m::b)++r=z3m S l++((6,S.comma)::(znp S (m::b)++r)):=by simp[znp]
  rw[e,zj2 (zz1 S l _ (hw l (by simp)) (by simp[hdK])) rfl]
  show(zeo n (znp S (m::b)++r)).map _=_
  rw[ih]
  rfl
theorem zxu(S:zjg)(n:Nat)(c:zaa)(r:List Tok)(hw:ybl c)(hn:c.body.length<=n):zdy n (clK S c++r)=some (c,r):=by
 unfold zdy clK
 obtain⟨hd,hb⟩:=c
 obtain⟨hg,hp,hs⟩:=hd
 obtain⟨h1,h2,h3⟩:=hw
 simp only at h1 h2 h3 hn
 subst h1
 by_cases hb0:hb=[]
 ·subst hb0
  simp only[if_true,List.append_assoc]
  rw[zmd S _ _ h2 (by simp[hdK])]
  simp[hdK]
 ·simp only[if_neg hb0,List.append_assoc]
  rw[zmd S _ _ h2 (by simp[hdK])]
  simp only[List.cons_append,hdK_cons,List.tail_cons,if_true]
  rw[zw0 S n hb _ hb0 hn h3 (by simp[hdK]) (by simp[hdK])]
  simp[hdK]
theorem zwj(S:zjg)(n:Nat):∀(m:Nat) (cs:List zaa),(∀ c∈cs,ybl c/\c.body.length<=n)->cs.length<=m->zdp n m (zi0 S cs)=some cs
 |_,[],_,_=>by unfold zi0;simp[zdp]
 |0,c::cs,_,h=>by simp at h
 |m+1,c::cs,hw,h=>by
  have ih:=zwj S n m cs (fun z hz=>hw z (by simp[hz])) (by simp at h;omega)
  have e:zi0 S (c::cs)=clK S c++zi0 S cs:=by simp[zi0]
  rw[e,zoy (by unfold clK zku;simp) (zxu S n c _ (hw c (by simp)).1 (hw c (by simp)).2),ih]
  rfl
end Go.Proofs.YteampbddflhngaaGreat


namespace Go.Proofs.YteampbddflhngaaGreat
def byt(b:UInt8):Int:=(b.toNat:Int)
def hdB:List UInt8->Int
 |[]=>0
 |b::_=>byt b
def zvp(l:List UInt8)(k:Int):Nat:=if k=9 then 2 else if k=1∨k=2 then(l.takeWhile fun b=>bLD (byt b)).length else if k=3 then(l.takeWhile fun b=>zkj (byt b)).length else 1
def zd8:Nat->List UInt8->Option (List Tok)
 |0,_=>some []
 |_+1,[]=>some []
 |n+1,a::l =>
  if zho (byt a) then zd8 n l
  else if zcl (byt a) (hdB l)=0 then none
  else if 6 < zvp (a::l) (zcl (byt a) (hdB l)) then none
  else(zd8 n ((a::l).drop (zvp (a::l) (zcl (byt a) (hdB l))))).map ((zcl (byt a) (hdB l),(⟨((a::l).take (zvp (a::l) (zcl (byt a) (hdB l)))).toArray⟩:ByteArray))::·)
theorem zj5(s:ByteArray)(i:Nat):bAt s i=hdB (s.data.toList.drop i):=by
 unfold bAt
 split
 ·rename_i h
  have h':i < s.data.toList.length:=by simpa using h
  rw[List.drop_eq_getElem_cons h']
  simp[hdB,byt,ByteArray.getElem_eq_getElem_data]
 ·rename_i h
  rw[List.drop_eq_nil_of_le (by have:s.data.toList.length=s.size:=(by rw[Array.length_toList];rfl);omega)]
  rfl
theorem zqf(p:Int->Bool)(s:ByteArray):∀(n i:Nat),s.size - i<=n->zcu p s i=i+((s.data.toList.drop i).takeWhile fun b=>p (byt b)).length:=by
 have hsz:s.data.toList.length=s.size:=by rw[Array.length_toList];rfl
 intro n
 induction n with
 |zero =>
  intro i h
  rw[zf7 (by omega),List.drop_eq_nil_of_le (by omega)]
  simp
 |succ n ih =>
  intro i h
  by_cases hi:i < s.size
  ·have hb:=zj5 s i
   rw[List.drop_eq_getElem_cons (by omega)] at hb ⊢
   simp only[hdB] at hb
   cases hp:p (bAt s i) with
   |false =>
    rw[zlh hp,List.takeWhile_cons,← hb,hp]
    simp
   |true =>
    rw[zh4 hi hp,ih (i+1) (by omega),List.takeWhile_cons,← hb,hp]
    simp
    omega
  ·rw[zf7 hi,List.drop_eq_nil_of_le (by omega)]
   simp
theorem z9m{s:ByteArray}{i:Nat}{k:Int}(hk:k≠0):zno s i k=i+zvp (s.data.toList.drop i) k:=by
 unfold zno zvp
 rw[if_neg hk]
 split
 ·rfl
 ·split
  ·exact zqf bLD s _ i (Nat.le_refl _)
  ·split
   ·exact zqf zkj s _ i (Nat.le_refl _)
   ·rfl
theorem zur(s:ByteArray)(i m:Nat):s.extract i (i+m)=⟨((s.data.toList.drop i).take m).toArray⟩:=by
 apply ByteArray.ext
 rw[ByteArray.data_extract]
 apply Array.ext'
 simp[List.take_drop]
theorem zse(s:ByteArray):∀(n i:Nat),splitN n s i=zd8 n (s.data.toList.drop i):=by
 have hsz:s.data.toList.length=s.size:=by rw[Array.length_toList];rfl
 intro n
 induction n with
 |zero=>intro i;rfl
 |succ n ih =>
  intro i
  by_cases hi:i < s.size
  ·have hb:=zj5 s i
   have hb1:=zj5 s (i+1)
   have he:∀ k,k≠0->zno s i k=i+zvp (s.data.toList.drop i) k:=fun k hk=>z9m hk
   have hx:∀ m,s.extract i (i+m)=⟨((s.data.toList.drop i).take m).toArray⟩:=zur s i
   have hdr:∀ m,s.data.toList.drop (i+m)=(s.data.toList.drop i).drop m:=fun m=>by rw[List.drop_drop]
   have hc:=List.drop_eq_getElem_cons (l:=s.data.toList) (i:=i) (by omega)
   unfold splitN
   rw[if_pos hi]
   rw[hc] at hb he hx hdr ⊢
   unfold zd8
   simp only[hdB] at hb
   rw[hb,hb1,ih]
   split
   ·rfl
   ·split
    ·rfl
    ·rename_i hk
     generalize zcl (byt s.data.toList[i]) (hdB (List.drop (i+1) s.data.toList))=k at *
     rw[he k hk]
     generalize zvp (s.data.toList[i]::List.drop (i+1) s.data.toList) k=m at *
     rw[Nat.add_sub_cancel_left,hx m,ih,hdr m]
  ·rw[zpo hi,List.drop_eq_nil_of_le (by omega)]
   rfl
end Go.Proofs.YteampbddflhngaaGreat


namespace Go.Proofs.YteampbddflhngaaGreat
def RdA(l:List UInt8)(ts:List Tok):Prop:=∃ m,m<=l.length/\∀ n r,zd8 (n+m) (l++r)=(zd8 n r).map (ts++·)
def RdN(l:List UInt8)(ts:List Tok):Prop:=∃ m,m<=l.length/\∀ n r,bLD (hdB r)=false->zd8 (n+m) (l++r)=(zd8 n r).map (ts++·)
theorem ztg{a b:List Tok}(o:Option (List Tok)):(o.map (b++·)).map (a++·)=o.map ((a++b)++·):=by cases o <;> simp
theorem RdA.rdn{l:List UInt8}{ts:List Tok}(h:RdA l ts):RdN l ts:=by
 obtain⟨m,h1,h2⟩:=h
 exact⟨m,h1,fun n r _=>h2 n r⟩
theorem RdA.nil:RdA [] []:=⟨0,Nat.le_refl _,fun n r=>by cases h:zd8 n r <;> simp[h]⟩
theorem RdA.app{l l':List UInt8}{ts ts':List Tok}(h:RdA l ts)(k:RdA l' ts'):RdA (l++l') (ts++ts'):=by
 obtain⟨m,h1,h2⟩:=h
 obtain⟨m',k1,k2⟩:=k
 refine⟨m'+m,by simp;omega,fun n r=>?_⟩
 rw[← Nat.add_assoc,List.append_assoc,h2,k2,ztg]
theorem RdA.appN{l l':List UInt8}{ts ts':List Tok}(h:RdA l ts)(k:RdN l' ts'):RdN (l++l') (ts++ts'):=by
 obtain⟨m,h1,h2⟩:=h
 obtain⟨m',k1,k2⟩:=k
 refine⟨m'+m,by simp;omega,fun n r hr=>?_⟩
 rw[← Nat.add_assoc,List.append_assoc,h2,k2 _ _ hr,ztg]
theorem z3t{l r:List UInt8}(h:l≠[]):hdB (l++r)=hdB l:=by
 cases l with
 |nil=>exact absurd rfl h
 |cons a l=>rfl
theorem RdN.app{l l':List UInt8}{ts ts':List Tok}(h:RdN l ts)(hl:l'≠[])(hd:bLD (hdB l')=false)(k:RdA l' ts'):RdA (l++l') (ts++ts'):=by
 obtain⟨m,h1,h2⟩:=h
 obtain⟨m',k1,k2⟩:=k
 refine⟨m'+m,by simp;omega,fun n r=>?_⟩
 rw[← Nat.add_assoc,List.append_assoc,h2 _ _ (by rw[z3t hl];exact hd),k2,ztg]
theorem RdN.appN{l l':List UInt8}{ts ts':List Tok}(h:RdN l ts)(hl:l'≠[])(hd:bLD (hdB l')=false)(k:RdN l' ts'):RdN (l++l') (ts++ts'):=by
 obtain⟨m,h1,h2⟩:=h
 obtain⟨m',k1,k2⟩:=k
 refine⟨m'+m,by simp;omega,fun n r hr=>?_⟩
 rw[← Nat.add_assoc,List.append_assoc,h2 _ _ (by rw[z3t hl];exact hd),k2 _ _ hr,ztg]
theorem zn7{b:UInt8}(h:zho (byt b)=true):RdA [b] []:=⟨1,by simp,fun n r=>by
 show zd8 (n+1) (b::r)=_
 rw[zd8,if_pos h]
 cases zd8 n r <;> simp⟩
theorem zo3{b:UInt8}{k:Int}(hb:zho (byt b)=false)(hk:∀ c,zcl (byt b) c=k)(h0:k≠0/\k≠1/\k≠2/\k≠3/\k≠9):RdA [b] [(k,⟨#[b]⟩)]:=⟨1,by simp,fun n r=>by
 have hl:zvp (b::r) k=1:=by unfold zvp;rw[if_neg h0.2.2.2.2,if_neg (by omega),if_neg h0.2.2.2.1]
 show zd8 (n+1) (b::r)=_
 rw[zd8,hk,hb,hl]
 simp[h0.1]⟩
structure zok (x:List UInt8):Prop where
 ne:x≠[]
 six:x.length<=6
 kind:(zfp (hdB x)=true∨zt4 (hdB x)=true)/\(∀ b∈x,bLD (byt b)=true)∨zkj (hdB x)=true/\∀ b∈x,zkj (byt b)=true
theorem zf8{p:UInt8->Bool}:∀ {x r:List UInt8},(∀ b∈x,p b=true)->(∀ b l,r=b::l->p b=false)->(x++r).takeWhile p=x
 |[],[],_,_=>rfl
 |[],b::r,_,h=>by simp[h b r rfl]
 |a::x,r,hx,h=>by
  rw[List.cons_append,List.takeWhile_cons,if_pos (hx a (by simp)),zf8 (fun b hb=>hx b (by simp[hb])) h]
theorem z7g{x:List UInt8}(h:zok x):RdN x [(zcl (hdB x) (hdB x.tail),⟨x.toArray⟩)]:=⟨1,by have:=h.ne;cases x;exact absurd rfl this;simp,fun n r hr=>by
 obtain⟨hne,h6,hk⟩:=h
 cases x with
 |nil=>exact absurd rfl hne
 |cons a x =>
  have hd:hdB (a::x)=byt a:=rfl
  rw[hd] at hk ⊢
  have hdig:zkj (hdB r)=false:=by
   simp only[bLD,Bool.or_eq_false_iff] at hr
   exact hr.2
  have hstop:∀(p:Int->Bool),p (hdB r)=false->∀ b l,r=b::l->(fun b=>p (byt b)) b=false:=by
   intro p hp b l e
   subst e
   exact hp
  have hkind:∀ c d,zcl (byt a) c=zcl (byt a) d:=by
   intro c d
   unfold zcl
   rcases hk with ⟨hk|hk,_⟩|⟨hk,_⟩
   ·simp[hk]
   ·simp[hk]
   ·simp[hk]
  have hbl:zho (byt a)=false:=by
   have:bLD (byt a)=true:=by
    rcases hk with ⟨_,hk⟩|⟨hk,_⟩
    ·exact hk a (by simp)
    ·simp[bLD,hk]
   simp only[bLD,zfp,zt4,zkj,Bool.or_eq_true,Bool.and_eq_true,decide_eq_true_eq] at this
   simp only[zho,Bool.or_eq_false_iff,beq_eq_false_iff_ne]
   omega
  have hlen:∀ c,zvp (a::x++r) (zcl (byt a) c)=(a::x).length/\zcl (byt a) c≠0:=by
   intro c
   by_cases hs:zfp (byt a)=true
   ·have e:zcl (byt a) c=1:=by simp[zcl,hs]
    have hall:∀ b∈a::x,bLD (byt b)=true:=by
     rcases hk with ⟨_,hk⟩|⟨_,hk⟩
     ·exact hk
     ·intro b hb;simp[bLD,hk b hb]
    rw[e]
    refine⟨?_,by decide⟩
    unfold zvp
    rw[if_neg (by decide),if_pos (Or.inl rfl),zf8 hall (hstop bLD hr)]
   ·by_cases hc:zt4 (byt a)=true
    ·have e:zcl (byt a) c=2:=by simp[zcl,hs,hc]
     have hall:∀ b∈a::x,bLD (byt b)=true:=by
      rcases hk with ⟨_,hk⟩|⟨_,hk⟩
      ·exact hk
      ·intro b hb;simp[bLD,hk b hb]
     rw[e]
     refine⟨?_,by decide⟩
     unfold zvp
     rw[if_neg (by decide),if_pos (Or.inr rfl),zf8 hall (hstop bLD hr)]
    ·rcases hk with ⟨hk|hk,_⟩|⟨hk,hall⟩
     ·exact absurd hk hs
     ·exact absurd hk hc
     ·have e:zcl (byt a) c=3:=by simp[zcl,hs,hc,hk]
      rw[e]
      refine⟨?_,by decide⟩
      unfold zvp
      rw[if_neg (by decide),if_neg (by decide),if_pos rfl,zf8 hall (hstop zkj hdig)]
  show zd8 (n+1) (a::(x++r))=_
  rw[zd8,hbl,hkind (hdB (x++r)) (hdB x)]
  obtain⟨l1,l2⟩:=hlen (hdB x)
  rw[List.cons_append] at l1
  rw[l1]
  have e1:(a::(x++r)).drop (a::x).length=r:=by rw[← List.cons_append];simp
  have e2:(a::(x++r)).take (a::x).length=a::x:=by rw[← List.cons_append];simp
  rw[e1,e2,if_neg (by simp),if_neg l2,if_neg (by omega)]
  rfl⟩
end Go.Proofs.YteampbddflhngaaGreat


namespace Go.Proofs.YteampbddflhngaaGreat
def bl(x:ByteArray):List UInt8:=x.data.toList
theorem zii(a b:ByteArray):bl (a++b)=bl a++bl b:=by simp[bl,ByteArray.data_append]
theorem z8d(x:ByteArray):(⟨(bl x).toArray⟩:ByteArray)=x:=by
 apply ByteArray.ext
 simp[bl]
def signs:zjg:=⟨⟨#[40]⟩,⟨#[41]⟩,⟨#[44]⟩,⟨#[46]⟩,⟨#[33]⟩,⟨#[58,45]⟩⟩
theorem yb1:RdA (bl zl7) [(4,signs.op)]:=zo3 (by decide) (fun _=>by unfold zcl;simp[byt,zfp,zt4,zkj,zqo]) (by decide)
theorem yb3:RdA (bl zqx) [(5,signs.shut)]:=zo3 (by decide) (fun _=>by unfold zcl;simp[byt,zfp,zt4,zkj,zqo]) (by decide)
theorem ybc:RdA (bl znt) [(8,signs.bang)]:=zo3 (by decide) (fun _=>by unfold zcl;simp[byt,zfp,zt4,zkj,zqo]) (by decide)
theorem yb7:RdA (bl z8z) [(7,signs.dot)]:=zo3 (by decide) (fun _=>by unfold zcl;simp[byt,zfp,zt4,zkj,zqo]) (by decide)
theorem z0a:RdA (bl zd1) [(6,signs.comma)]:=(zo3 (b:=44) (k:=6) (by decide) (fun _=>by unfold zcl;simp[byt,zfp,zt4,zkj,zqo]) (by decide)).app (zn7 (b:=32) (by decide))
theorem ybu:RdA (bl zlk) []:=zn7 (by decide)
theorem z9j:RdA (bl zlr) [(9,signs.arrow)]:=by
 have h:RdA [58,45] [(9,signs.arrow)]:=⟨1,by simp,fun n r=>by
  show zd8 (n+1) (58::45::r)=_
  have hk:zcl (byt 58) (hdB (45::r))=9:=rfl
  have hb:zho (byt 58)=false:=by decide
  rw[zd8,hk,hb]
  simp[zvp,signs]⟩
 exact((zn7 (b:=32) (by decide)).app h).app (zn7 (b:=32) (by decide))
def zij(l:zbc):Prop:=(zok (bl l.pred)/\zfp (hdB (bl l.pred))=true)/\∀ x∈l.args,zok (bl x)
def zkl(c:zaa):Prop:=c.head.neg=false/\zij c.head/\∀ l∈c.body,zij l
theorem z9r(x:ByteArray):bAt x 1=hdB (bl x).tail:=by rw[zj5];simp[bl]
theorem z7d{x:ByteArray}(h:zok (bl x)):RdN (bl x) [yb4 x]:=by
 have:=z7g h
 rw[z8d] at this
 have e:yb4 x=(zcl (hdB (bl x)) (hdB (bl x).tail),x):=by
  unfold yb4 zyf
  rw[z9r,zj5]
  rfl
 rw[e]
 exact this
theorem z9u{x:ByteArray}(h:zok (bl x)):isT (zyf x)=true:=by
 unfold zyf
 rw[zj5]
 show isT (zcl (hdB (bl x)) _)=true
 unfold zcl
 rcases h.kind with ⟨hk|hk,_⟩|⟨hk,_⟩
 ·simp[hk,isT]
 ·by_cases hs:zfp (hdB (bl x))=true <;> simp[hk,hs,isT]
 ·by_cases hs:zfp (hdB (bl x))=true
  ·simp[hs,isT]
  ·by_cases hc:zt4 (hdB (bl x))=true <;> simp[hk,hs,hc,isT]
theorem z4z:∀(xs:List ByteArray),xs≠[]->(∀ x∈xs,zok (bl x))->RdN (bl (zdj xs)) (zwz signs xs)
 |[],h,_=>absurd rfl h
 |[x],_,h=>z7d (h x (by simp))
 |x::y::r,_,h=>by
  have ih:=z4z (y::r) (by simp) (fun z hz=>h z (by simp[List.mem_cons.1 hz]))
  show RdN (bl (x++zd1++zdj (y::r))) (yb4 x::(6,signs.comma)::zwz signs (y::r))
  rw[zii,zii,List.append_assoc]
  exact(z7d (h x (by simp))).appN (by simp[bl,zd1]) rfl (z0a.appN ih)
theorem z5z{l:zbc}(h:zij l):RdN (bl l.pred) [(1,l.pred)]:=by
 have:=z7g h.1.1
 rw[z8d] at this
 have e:zcl (hdB (bl l.pred)) (hdB (bl l.pred).tail)=1:=by simp[zcl,h.1.2]
 rw[e] at this
 exact this
theorem ya7{l:zbc}(h:zij l):RdN (bl (if l.args.length=0 then l.pred else l.pred++zl7++zdj l.args++zqx)) (zku signs l):=by
 unfold zku
 by_cases ha:l.args=[]
 ·rw[if_pos (by simp[ha]),if_pos ha]
  exact z5z h
 ·have hl:¬ l.args.length=0:=fun q=>ha (List.length_eq_zero_iff.1 q)
  rw[if_neg hl,if_neg ha,zii,zii,zii,List.append_assoc,List.append_assoc]
  have h1:=(z4z l.args ha h.2).app (by simp[bl,zqx]) rfl yb3
  have h2:=yb1.app h1
  exact((z5z h).app (by simp[bl,zl7]) rfl h2).rdn
theorem z6w{l:zbc}(h:zij l):RdN (bl (zkf l)) (z3m signs l):=by
 have ha:=ya7 h
 unfold zkf ztu z3m
 cases hn:l.neg with
 |false =>
  simp only[Bool.false_eq_true,if_false]
  exact ha
 |true =>
  simp only[if_true]
  have e:(if l.args.length=0 then znt++l.pred else znt++l.pred++zl7++zdj l.args++zqx)=znt++(if l.args.length=0 then l.pred else l.pred++zl7++zdj l.args++zqx):=by
   split
   ·rfl
   ·simp only[ByteArray.append_assoc]
  rw[e,zii]
  exact ybc.appN ha
theorem z5t:∀(b:List zbc),b≠[]->(∀ l∈b,zij l)->RdN (bl (zdj (b.map zkf))) (znp signs b)
 |[],h,_=>absurd rfl h
 |[l],_,h=>z6w (h l (by simp))
 |l::m::r,_,h=>by
  have ih:=z5t (m::r) (by simp) (fun z hz=>h z (by simp[List.mem_cons.1 hz]))
  show RdN (bl (zkf l++zd1++zdj ((m::r).map zkf))) (z3m signs l++(6,signs.comma)::znp signs (m::r))
  rw[zii,zii,List.append_assoc]
  exact(z6w (h l (by simp))).appN (by simp[bl,zd1]) rfl (z0a.appN ih)
theorem z3y{c:zaa}(h:zkl c):RdA (bl (clT c++zlk)) (clK signs c):=by
 have hl:=z6w h.2.1
 have e:z3m signs c.head=zku signs c.head:=by unfold z3m;rw[h.1];rfl
 rw[e] at hl
 unfold clT bodyT clK
 rw[zii,zii,zii,List.append_assoc,List.append_assoc]
 have hd:RdA (bl z8z++bl zlk) [(7,signs.dot)]:=yb7.app ybu
 by_cases hb:c.body=[]
 ·rw[if_pos (by simp[hb]),if_pos hb]
  exact hl.app (by simp[bl,z8z]) rfl hd
 ·have hl0:¬ c.body.length=0:=fun q=>hb (List.length_eq_zero_iff.1 q)
  rw[if_neg hl0,if_neg hb,zii,List.append_assoc]
  have h1:=(z5t c.body hb h.2.2).app (by simp[bl,z8z]) rfl hd
  exact hl.app (by simp[bl,zlr]) rfl (z9j.app h1)
theorem z0q(c:zaa)(cs:List zaa):zd5 (c::cs)=(clT c++zlk)++zd5 cs:=by
 have:∀(cs:List zaa) (a:ByteArray),cs.foldl (fun s c=>s++(clT c++zlk)) a=a++zd5 cs:=by
  intro cs
  induction cs with
  |nil=>intro a;simp[zd5]
  |cons d cs ih =>
   intro a
   unfold zd5
   rw[List.foldl_cons,List.foldl_cons,ih,ih]
   simp only[ByteArray.append_assoc,ByteArray.empty_append]
 unfold zd5
 rw[List.foldl_cons,this,ByteArray.empty_append]
 rfl
theorem z5b:∀(cs:List zaa),(∀ c∈cs,zkl c)->RdA (bl (zd5 cs)) (zi0 signs cs)
 |[],_=>RdA.nil
 |c::cs,h=>by
  rw[z0q,zii]
  have e:zi0 signs (c::cs)=clK signs c++zi0 signs cs:=by simp[zi0]
  rw[e]
  exact(z3y (h c (by simp))).app (z5b cs fun z hz=>h z (by simp[hz]))
theorem z1g{cs:List zaa}(h:∀ c∈cs,zkl c):splitB (zd5 cs)=some (zi0 signs cs):=by
 obtain⟨m,h1,h2⟩:=z5b cs h
 unfold splitB
 rw[zse]
 have hs:(zd5 cs).size=(bl (zd5 cs)).length:=by unfold bl;rw[Array.length_toList];rfl
 have q:=h2 ((bl (zd5 cs)).length - m) []
 rw[show(bl (zd5 cs)).length - m+m=(zd5 cs).size by omega,List.append_nil] at q
 show zd8 (zd5 cs).size (bl (zd5 cs))=_
 rw[q]
 cases (bl (zd5 cs)).length - m <;> simp[zd8]
end Go.Proofs.YteampbddflhngaaGreat


namespace Go.Proofs.YteampbddflhngaaGreat
def yaw(x:Tok):Prop:=isT x.1=true->zok (bl x.2)/\(x.1=1->zfp (hdB (bl x.2))=true)
theorem zmq(p:UInt8->Bool)(l:List UInt8):l.take (l.takeWhile p).length=l.takeWhile p:=by
 induction l with
 |nil=>rfl
 |cons a l ih =>
  rw[List.takeWhile_cons]
  split
  ·simp[ih]
  ·rfl
theorem zlm{p:UInt8->Bool}:∀ {l:List UInt8} {b:UInt8},b∈l.takeWhile p->p b=true
 |[],_,h=>by simp at h
 |a::l,b,h=>by
  rw[List.takeWhile_cons] at h
  split at h
  ·rename_i ha
   rcases List.mem_cons.1 h with rfl|h
   ·exact ha
   ·exact zlm h
  ·cases h
theorem zm8:∀(n:Nat) (l:List UInt8) (ts:List Tok),zd8 n l=some ts->∀ x∈ts,yaw x
 |0,_,ts,h,x,hx=>by simp[zd8] at h;subst h;cases hx
 |_+1,[],ts,h,x,hx=>by simp[zd8] at h;subst h;cases hx
 |n+1,a::l,ts,h,x,hx=>by
  unfold zd8 at h
  split at h
  ·exact zm8 n l ts h x hx
  ·split at h
   ·cases h
   ·rename_i hk
    split at h
    ·cases h
    ·rename_i h6
     obtain⟨us,hu,rfl⟩:=Option.map_eq_some_iff.1 h
     rcases List.mem_cons.1 hx with rfl|hx
     ·intro ht
      simp only at ht ⊢
      have hbl:∀ m,bl (⟨((a::l).take m).toArray⟩:ByteArray)=(a::l).take m:=fun m=>by simp[bl]
      rw[hbl]
      generalize hK:zcl (byt a) (hdB l)=k at *
      unfold zcl at hK
      by_cases hs:zfp (byt a)=true
      ·rw[if_pos hs] at hK
       subst hK
       have e:zvp (a::l) 1=((a::l).takeWhile fun b=>bLD (byt b)).length:=rfl
       rw[e] at h6 ⊢
       rw[zmq]
       have hh:(a::l).takeWhile (fun b=>bLD (byt b))=a::l.takeWhile (fun b=>bLD (byt b)):=by rw[List.takeWhile_cons,if_pos (by simp[bLD,hs])]
       refine⟨⟨by rw[hh];simp,by omega,Or.inl ⟨Or.inl (by rw[hh];exact hs),fun b hb=>zlm (p:=fun b=>bLD (byt b)) hb⟩⟩,fun _=>by rw[hh];exact hs⟩
      ·rw[if_neg hs] at hK
       by_cases hc:zt4 (byt a)=true
       ·rw[if_pos hc] at hK
        subst hK
        have e:zvp (a::l) 2=((a::l).takeWhile fun b=>bLD (byt b)).length:=rfl
        rw[e] at h6 ⊢
        rw[zmq]
        have hh:(a::l).takeWhile (fun b=>bLD (byt b))=a::l.takeWhile (fun b=>bLD (byt b)):=by rw[List.takeWhile_cons,if_pos (by simp[bLD,hc])]
        exact⟨⟨by rw[hh];simp,by omega,Or.inl ⟨Or.inr (by rw[hh];exact hc),fun b hb=>zlm (p:=fun b=>bLD (byt b)) hb⟩⟩,fun q=>by cases q⟩
       ·rw[if_neg hc] at hK
        by_cases hd:zkj (byt a)=true
        ·rw[if_pos hd] at hK
         subst hK
         have e:zvp (a::l) 3=((a::l).takeWhile fun b=>zkj (byt b)).length:=rfl
         rw[e] at h6 ⊢
         rw[zmq]
         have hh:(a::l).takeWhile (fun b=>zkj (byt b))=a::l.takeWhile (fun b=>zkj (byt b)):=by rw[List.takeWhile_cons,if_pos (by simp[hd])]
         exact⟨⟨by rw[hh];simp,by omega,Or.inr ⟨by rw[hh];exact hd,fun b hb=>zlm (p:=fun b=>zkj (byt b)) hb⟩⟩,fun q=>by cases q⟩
        ·exfalso
         rw[if_neg hd] at hK
         split at hK
         ·subst hK;simp[isT] at ht
         ·unfold zqo at hK
          (repeat' split at hK) <;> subst hK <;> simp[isT] at ht
     ·exact zm8 n _ us hu x hx
theorem zoi:∀(r:List Tok) {ts:List ByteArray} {r2:List Tok},za6 r=some (ts,r2)->(∀ x∈r,yaw x)->(∀ y∈ts,zok (bl y))/\∀ x∈r2,x∈r
 |[],_,_,h,_=>by simp[za6] at h
 |[x],ts,r2,h,ht=>by
  simp only[za6] at h
  split at h
  ·rename_i hq
   simp only[Option.some.injEq,Prod.mk.injEq] at h
   obtain⟨rfl,rfl⟩:=h
   exact⟨fun y hy=>by simp at hy;subst hy;exact(ht x (by simp) hq).1,by simp⟩
  ·cases h
 |x::y::r,ts,r2,h,ht=>by
  simp only[za6] at h
  split at h
  ·rename_i hq
   split at h
   ·obtain⟨z,hz,he⟩:=Option.map_eq_some_iff.1 h
    simp only[Prod.mk.injEq] at he
    obtain⟨rfl,rfl⟩:=he
    obtain⟨i1,i2⟩:=zoi r (ts:=z.1) (r2:=z.2) hz (fun u hu=>ht u (by simp[hu]))
    refine⟨fun u hu=>?_,fun u hu=>by simp[i2 u hu]⟩
    rcases List.mem_cons.1 hu with rfl|hu
    ·exact(ht x (by simp) hq).1
    ·exact i1 u hu
   ·simp only[Option.some.injEq,Prod.mk.injEq] at h
    obtain⟨rfl,rfl⟩:=h
    exact⟨fun u hu=>by simp at hu;subst hu;exact(ht x (by simp) hq).1,fun u hu=>by simp[List.mem_cons.1 hu]⟩
  ·cases h
theorem zfq{x:Tok}{r:List Tok}(h:x∈r.tail):x∈r:=by
 cases r with
 |nil=>exact h
 |cons a r=>simp at h;simp[h]
theorem zms{r:List Tok}{l:zbc}{r2:List Tok}(h:zdq r=some (l,r2))(ht:∀ x∈r,yaw x):l.neg=false/\zij l/\∀ x∈r2,x∈r:=by
 unfold zdq at h
 split at h
 ·rename_i h1
  cases r with
  |nil=>simp[hdK] at h1
  |cons a r =>
   have ha:a.1=1:=h1
   have hw:=ht a (by simp) (by rw[ha];rfl)
   have hp:zok (bl a.2)/\zfp (hdB (bl a.2))=true:=⟨hw.1,hw.2 ha⟩
   change (if hdK r=4 then(match za6 r.tail with|none=>none|some (ts,r2)=>if hdK r2=5 then some ((⟨false,a.2,ts⟩:zbc),r2.tail) else none) else some ((⟨false,a.2,[]⟩:zbc),r))=some (l,r2) at h
   by_cases h4:hdK r=4
   ·rw[if_pos h4] at h
    cases hq:za6 r.tail with
    |none=>rw[hq] at h;cases h
    |some z =>
     obtain⟨ts,r3⟩:=z
     rw[hq] at h
     simp only at h
     by_cases h5:hdK r3=5
     ·rw[if_pos h5] at h
      simp only[Option.some.injEq,Prod.mk.injEq] at h
      obtain⟨rfl,rfl⟩:=h
      obtain⟨i1,i2⟩:=zoi _ hq (fun u hu=>ht u (by simp[zfq hu]))
      exact⟨rfl,⟨hp,i1⟩,fun u hu=>by simp[zfq (i2 u (zfq hu))]⟩
     ·rw[if_neg h5] at h;cases h
   ·rw[if_neg h4] at h
    simp only[Option.some.injEq,Prod.mk.injEq] at h
    obtain⟨rfl,rfl⟩:=h
    exact⟨rfl,⟨hp,fun y hy=>by cases hy⟩,fun u hu=>by simp[hu]⟩
 ·cases h
theorem z6e{r:List Tok}{l:zbc}{r2:List Tok}(h:zqj r=some (l,r2))(ht:∀ x∈r,yaw x):zij l/\∀ x∈r2,x∈r:=by
 unfold zqj at h
 split at h
 ·obtain⟨z,hz,he⟩:=Option.map_eq_some_iff.1 h
  simp only[Prod.mk.injEq] at he
  obtain⟨rfl,rfl⟩:=he
  obtain⟨_,i2,i3⟩:=zms (l:=z.1) (r2:=z.2) hz (fun u hu=>ht u (zfq hu))
  exact⟨i2,fun u hu=>zfq (i3 u hu)⟩
 ·exact(zms h ht).2
theorem zsv:∀(n:Nat) {r:List Tok} {b:List zbc} {r2:List Tok},zeo n r=some (b,r2)->(∀ x∈r,yaw x)->(∀ l∈b,zij l)/\∀ x∈r2,x∈r
 |0,_,_,_,h,_=>by cases h
 |n+1,r,b,r2,h,ht=>by
  unfold zeo at h
  split at h
  ·cases h
  ·rename_i a r3 hq
   obtain⟨i1,i2⟩:=z6e hq ht
   split at h
   ·obtain⟨z,hz,he⟩:=Option.map_eq_some_iff.1 h
    simp only[Prod.mk.injEq] at he
    obtain⟨rfl,rfl⟩:=he
    obtain⟨j1,j2⟩:=zsv n (b:=z.1) (r2:=z.2) hz (fun u hu=>ht u (i2 u (zfq hu)))
    refine⟨fun l hl=>?_,fun u hu=>i2 u (zfq (j2 u hu))⟩
    rcases List.mem_cons.1 hl with rfl|hl
    ·exact i1
    ·exact j1 l hl
   ·simp only[Option.some.injEq,Prod.mk.injEq] at h
    obtain⟨rfl,rfl⟩:=h
    exact⟨fun l hl=>by simp at hl;subst hl;exact i1,i2⟩
theorem zvn{n:Nat}{r:List Tok}{c:zaa}{r2:List Tok}(h:zdy n r=some (c,r2))(ht:∀ x∈r,yaw x):zkl c/\∀ x∈r2,x∈r:=by
 unfold zdy at h
 split at h
 ·cases h
 ·rename_i a r3 hq
  obtain⟨i0,i1,i2⟩:=zms hq ht
  split at h
  ·split at h
   ·cases h
   ·rename_i b r4 hb
    split at h
    ·simp only[Option.some.injEq,Prod.mk.injEq] at h
     obtain⟨rfl,rfl⟩:=h
     obtain⟨j1,j2⟩:=zsv n hb (fun u hu=>ht u (i2 u (zfq hu)))
     exact⟨⟨i0,i1,j1⟩,fun u hu=>i2 u (zfq (j2 u (zfq hu)))⟩
    ·cases h
  ·split at h
   ·simp only[Option.some.injEq,Prod.mk.injEq] at h
    obtain⟨rfl,rfl⟩:=h
    exact⟨⟨i0,i1,fun l hl=>by cases hl⟩,fun u hu=>i2 u (zfq hu)⟩
   ·cases h
theorem zmj{n:Nat}:∀(m:Nat) {r:List Tok} {cs:List zaa},zdp n m r=some cs->(∀ x∈r,yaw x)->∀ c∈cs,zkl c
 |m,[],cs,h,_=>by cases m <;> (simp[zdp] at h;subst h;simp)
 |0,_::_,cs,h,_=>by simp[zdp] at h
 |m+1,x::r,cs,h,ht=>by
  unfold zdp at h
  split at h
  ·cases h
  ·rename_i c r2 hq
   obtain⟨i1,i2⟩:=zvn hq ht
   obtain⟨ds,hd,rfl⟩:=Option.map_eq_some_iff.1 h
   intro z hz
   rcases List.mem_cons.1 hz with rfl|hz
   ·exact i1
   ·exact zmj m hd (fun u hu=>ht u (i2 u hu)) z hz
theorem zpf{s:ByteArray}{l:List Tok}(h:splitB s=some l):∀ x∈l,yaw x:=by
 unfold splitB at h
 rw[zse] at h
 exact zm8 _ _ _ h
end Go.Proofs.YteampbddflhngaaGreat


namespace Go.Proofs.YteampbddflhngaaGreat
theorem zij.word{l:zbc}(h:zij l):z2q l:=fun x hx=>z9u (h.2 x hx)
theorem zkl.word{c:zaa}(h:zkl c):ybl c:=⟨h.1,h.2.1.word,fun l hl=>(h.2.2 l hl).word⟩
theorem z0g(S:zjg)(l:zbc):1<=(z3m S l).length:=by
 unfold z3m zku
 split <;> simp
theorem zvl(S:zjg):∀ b:List zbc,b.length<=(znp S b).length
 |[]=>by simp
 |[l]=>by have:=z0g S l;simp[znp];exact this
 |l::m::r=>by
  have ih:=zvl S (m::r)
  have:=z0g S l
  simp only[znp,List.length_append,List.length_cons] at ih ⊢
  omega
theorem ya4(S:zjg)(c:zaa):c.body.length+1<=(clK S c).length:=by
 have:=zvl S c.body
 unfold clK
 by_cases hb:c.body=[]
 ·simp[hb]
 ·simp only[if_neg hb,List.length_append,List.length_cons,List.length_nil]
  omega
theorem zpv(S:zjg):∀ cs:List zaa,cs.length<=(zi0 S cs).length/\∀ c∈cs,c.body.length<=(zi0 S cs).length
 |[]=>⟨by simp,fun c h=>by cases h⟩
 |c::cs=>by
  obtain⟨i1,i2⟩:=zpv S cs
  have hc:=ya4 S c
  have e:(zi0 S (c::cs)).length=(clK S c).length+(zi0 S cs).length:=by simp[zi0]
  refine⟨by rw[e];simp;omega,fun d hd=>?_⟩
  rw[e]
  rcases List.mem_cons.1 hd with rfl|hd
  ·omega
  ·have:=i2 d hd;omega
theorem z5h{s:ByteArray}{cs:List zaa}{t:List zaq}(h:zia s=.ok (cs,t))(hs:(zd5 cs).size<=500):zia (zd5 cs)=.ok (cs,t):=by
 unfold zia at h
 split at h
 ·cases h
 ·split at h
  ·cases h
  ·rename_i l hl
   split at h
   ·cases h
   ·rename_i ds hd
    have hw:=zmj _ hd (zpf hl)
    have hcs:ds=cs:=by
     repeat'(split at h)
     all_goals first|(cases h;done)|(simp only[Except.ok.injEq,Prod.mk.injEq] at h;exact h.1)
    subst hcs
    have hp:zdp (zi0 signs ds).length (zi0 signs ds).length (zi0 signs ds)=some ds:=zwj signs _ _ ds (fun c hc=>⟨(hw c hc).word,(zpv signs ds).2 c hc⟩) (zpv signs ds).1
    unfold zia
    rw[if_neg (by omega),z1g hw]
    simp only[hp]
    exact h
end Go.Proofs.YteampbddflhngaaGreat
