import Derived.Test.YteampbddflhngabGreatJ43
import Derived.Test.YteampbddflhngabGreatJ04
import Derived.Test.YteampbddflhngabGreatJ08

namespace Go.Proofs.YteampbddflhngabGreat
open Classical
theorem ybh{t t':List zav}{l:zbv}(h0:∀ e∈t,e.stratum=0)(h:zou t l=some t'):∀ e∈t',e.stratum=0:=by
 unfold zou at h
 split at h
 ·split at h
  ·simp only[Option.some.injEq] at h;subst h;exact h0
  ·cases h
 ·simp only[Option.some.injEq] at h
  subst h
  intro e he
  rcases zkw.1 he with rfl|he
  ·rfl
  ·exact h0 e he
theorem z9f:∀(ls done:List zbv) (t:List zav),Tab t done->(∀ e∈t,e.stratum=0)->(∀ x∈done++ls,∀ y∈done++ls,x.pred=y.pred->x.args.length=y.args.length)->∃ t',ls.foldl zmg (some t)=some t'/\Tab t' (done++ls)/\∀ e∈t',e.stratum=0
 |[],done,t,h,h0,_=>⟨t,rfl,by simpa using h,h0⟩
 |l::ls,done,t,h,h0,ha=>by
  rw[List.foldl_cons]
  cases hq:zou t l with
  |none =>
   exfalso
   unfold zou at hq
   split at hq
   ·rename_i e he
    obtain⟨hm,hn⟩:=zm8 he
    split at hq
    ·cases hq
    ·rename_i har
     obtain⟨l0,hl0,hp0⟩:=(h.names e.name).1 (List.mem_map.2 ⟨e,hm,rfl⟩)
     apply har
     rw[← h.arity e hm l0 hl0 hp0]
     exact ha l0 (by simp[hl0]) l (by simp) (hp0.trans hn)
   ·cases hq
  |some t2 =>
   rw[show zmg (some t) l=some t2 from hq]
   obtain⟨t',i1,i2,i3⟩:=z9f ls (done++[l]) t2 (h.step hq) (ybh h0 hq) (by simpa [List.append_assoc] using ha)
   exact⟨t',i1,by simpa [List.append_assoc] using i2,i3⟩
theorem ybg{t:List zav}{ls:List zbv}(h:Tab t ls){x y:zbv}(hx:x∈ls)(hy:y∈ls)(e:x.pred=y.pred):x.args.length=y.args.length:=by
 obtain⟨a,hm,hen⟩:=List.mem_map.1 ((h.names x.pred).2 ⟨x,hx,rfl⟩)
 rw[h.arity a hm x hx hen.symm,h.arity a hm y hy (e.symm.trans hen.symm)]
theorem yb6:∀ {t t':List zav},namesT t=namesT t'->zcc (namesT t)->(∀ e∈t,∀ e'∈t',e.name=e'.name->e.arity=e'.arity/\e.stratum=e'.stratum)->t=t'
 |[],[],_,_,_=>rfl
 |[],_::_,h,_,_=>by cases h
 |_::_,[],h,_,_=>by cases h
 |⟨a,b,c⟩::r,⟨a',b',c'⟩::r',h,hr,ha=>by
  simp only[namesT,List.map_cons,List.cons.injEq] at h
  obtain⟨rfl,h⟩:=h
  obtain⟨h1,h2⟩:=ha ⟨a,b,c⟩ (by simp) ⟨a,b',c'⟩ (by simp) rfl
  simp only at h1 h2
  subst h1 h2
  rw[yb6 h (List.pairwise_cons.1 hr).2 fun e he e' he' q=>ha e (by simp[he]) e' (by simp[he']) q]
theorem ybi{cs cs2:List zac}{t0:List zav}(h:zgf cs=some t0)(hs:∀ n k,(∃ l∈cs2.flatMap za5,l.pred=n/\l.args.length=k)↔∃ l∈cs.flatMap za5,l.pred=n/\l.args.length=k):zgf cs2=some t0:=by
 have hT:=zur h
 have h1:∀ x∈cs.flatMap za5,∀ y∈cs.flatMap za5,x.pred=y.pred->x.args.length=y.args.length:=fun x hx y hy e=>ybg hT hx hy e
 have h2:∀ x∈cs2.flatMap za5,∀ y∈cs2.flatMap za5,x.pred=y.pred->x.args.length=y.args.length:=fun x hx y hy e=>by
  obtain⟨a,ha,a1,a2⟩:=(hs x.pred x.args.length).1 ⟨x,hx,rfl,rfl⟩
  obtain⟨b,hb,b1,b2⟩:=(hs y.pred y.args.length).1 ⟨y,hy,rfl,rfl⟩
  rw[← a2,← b2]
  exact h1 a ha b hb (by rw[a1,b1,e])
 obtain⟨u,u1,u2,u3⟩:=z9f (cs.flatMap za5) [] [] z6t (fun e he=>by cases he) (by simpa using h1)
 obtain⟨v,v1,v2,v3⟩:=z9f (cs2.flatMap za5) [] [] z6t (fun e he=>by cases he) (by simpa using h2)
 rw[List.nil_append] at u2 v2
 have hu:u=t0:=by unfold zgf at h;rw[u1] at h;simpa using h
 subst hu
 unfold zgf
 rw[v1]
 congr 1
 have hn:namesT v=namesT u:=zq4 v2.rise u2.rise fun n=>by
  rw[v2.names,u2.names]
  constructor
  ·rintro⟨l,hl,rfl⟩
   obtain⟨m,hm,m1,_⟩:=(hs l.pred l.args.length).1 ⟨l,hl,rfl,rfl⟩
   exact⟨m,hm,m1⟩
  ·rintro⟨l,hl,rfl⟩
   obtain⟨m,hm,m1,_⟩:=(hs l.pred l.args.length).2 ⟨l,hl,rfl,rfl⟩
   exact⟨m,hm,m1⟩
 refine yb6 hn v2.rise fun e he e' he' q=>⟨?_,by rw[v3 e he,u3 e' he']⟩
 obtain⟨l,hl,hle⟩:=(u2.names e'.name).1 (List.mem_map.2 ⟨e',he',rfl⟩)
 obtain⟨m,hm,m1,m2⟩:=(hs l.pred l.args.length).2 ⟨l,hl,rfl,rfl⟩
 rw[← u2.arity e' he' l hl hle,← v2.arity e he m hm (by rw[m1,hle,q]),m2]
theorem yc4{ps:List ByteArray}(h:zcc ps){i j:Nat}(hi:i < ps.length)(hj:j < ps.length)(e:ps[i]=ps[j]):i=j:=by
 unfold zcc at h
 rw[List.pairwise_iff_getElem] at h
 rcases Nat.lt_trichotomy i j with hl|hl|hl
 ·have:=h i j hi hj hl;rw[e,lt_irrefl] at this;cases this
 ·exact hl
 ·have:=h j i hj hi hl;rw[e,lt_irrefl] at this;cases this
theorem yap{t:List zav}(h:zcc (namesT t)){e:zav}(he:e∈t):val t e.name=e.stratum:=by
 obtain⟨k,hk,rfl⟩:=List.mem_iff_getElem.1 he
 unfold val
 cases hq:zbu t t[k].name with
 |none=>exact absurd rfl (zkh h hq t[k] (List.getElem_mem hk))
 |some e =>
  obtain⟨hp,h1,h2⟩:=zcd hq
  have hj:zaj t t[k].name=k:=yc4 h (by simpa [namesT] using hp) (by simpa [namesT] using hk) (by simp[namesT,h1,h2])
  simp only
  rw[← h1]
  congr 1
  congr 1
theorem yab{t:List zav}{cs:List zac}(h:Tab t (cs.flatMap za5)):zk8 t cs:=by
 intro c hc l hl
 cases he:zbu t l.pred with
 |some e=>rfl
 |none =>
  obtain⟨e,hm,hn⟩:=List.mem_map.1 ((h.names l.pred).2 ⟨l,List.mem_flatMap.2 ⟨c,hc,hl⟩,rfl⟩)
  exact absurd hn (zkh h.rise he e hm)
theorem yaq{t:List zav}(h:∀ e∈t,e.stratum=0)(n:ByteArray):val t n=0:=by
 unfold val;split
 ·rename_i e he;exact h e (zm8 he).1
 ·rfl
theorem z9s{cs:List zac}{t0:List zav}(h:zgf cs=some t0):∀ e∈t0,e.stratum=0:=by
 have hT:=zur h
 obtain⟨u,u1,u2,u3⟩:=z9f (cs.flatMap za5) [] [] z6t (fun e he=>by cases he) (fun x hx y hy e=>ybg hT (by simpa using hx) (by simpa using hy) e)
 have hu:u=t0:=by unfold zgf at h;rw[u1] at h;simpa using h
 subst hu
 exact u3
theorem Parts.least{cs:List zac}{t0 t:List zav}(h:Parts cs t0 t):Least cs (val t):=by
 have:=(z2e (yab h.tab) (yaq (z9s h.coll))).2 (by rw[h.strat])
 rwa [h.strat] at this
theorem Parts.nam{cs:List zac}{t0 t:List zav}(h:Parts cs t0 t):namesT t=namesT t0/\arT t=arT t0:=by
 have h1:=zvw (t0.length+1) t0 cs (yab h.tab)
 have h2:=zii (t0.length+1) t0 cs
 rw[h.strat] at h1 h2
 exact⟨h1,h2⟩
theorem ycg{t t':List zav}(hr:zcc (namesT t))(hr':zcc (namesT t'))(ha:arT t=arT t')(hv:∀ n,val t n=val t' n):t=t':=by
 apply List.ext_getElem
 ·have:=congrArg List.length ha;simpa [arT] using this
 ·intro i h1 h2
  have q:(arT t)[i]'(by simpa [arT] using h1)=(arT t')[i]'(by simpa [arT] using h2):=by simp only[ha]
  simp only[arT,List.getElem_map,Prod.mk.injEq] at q
  have q3:=hv t[i].name
  rw[yap hr (List.getElem_mem h1),q.1,yap hr' (List.getElem_mem h2)] at q3
  generalize t[i]=x at *
  generalize t'[i]=y at *
  obtain⟨a,b,c⟩:=x
  obtain⟨a',b',c'⟩:=y
  simp only at q q3
  obtain⟨rfl,rfl⟩:=q
  rw[q3]
theorem ya4{cs cs2:List zac}{t0 t:List zav}(h:Parts cs t0 t)(hc:zgf cs2=some t0)(hs:∀ f,Sol cs2 f↔Sol cs f):zcv (t0.length+1) t0 cs2=(t,true):=by
 have hT:=zur hc
 have hi:=z2e (yab hT) (yaq (z9s hc))
 have ht:(zcv (t0.length+1) t0 cs2).2=true:=hi.1.2 ⟨_,(hs _).2 h.least.1⟩
 have hl:=hi.2 ht
 have hn:=zvw (t0.length+1) t0 cs2 (yab hT)
 have ha:=zii (t0.length+1) t0 cs2
 generalize zcv (t0.length+1) t0 cs2=z at *
 obtain⟨t2,b⟩:=z
 simp only at ht hl hn ha
 subst ht
 congr 1
 refine ycg (by rw[hn];exact hT.rise) (by rw[h.nam.1];exact hT.rise) (ha.trans h.nam.2.symm) fun n=>?_
 exact Nat.le_antisymm (hl.2 _ ((hs _).2 h.least.1) n) (h.least.2 _ ((hs _).1 hl.1) n)
theorem Parts.alike{cs cs2:List zac}{t0 t:List zav}(h:Parts cs t0 t)(few:prW cs2<=500)(many:∀ c∈cs2,zed c=false)(safe:∀ c∈cs2,ze7 c=true)(hs:∀ n k,(∃ l∈cs2.flatMap za5,l.pred=n/\l.args.length=k)↔∃ l∈cs.flatMap za5,l.pred=n/\l.args.length=k)(hf:∀ f,Sol cs2 f↔Sol cs f):Parts cs2 t0 t :=
 have hc:=ybi h.coll hs
 ⟨few,many,hc,zur hc,safe,ya4 h hc hf⟩
end Go.Proofs.YteampbddflhngabGreat
namespace Go.Proofs.YteampbddflhngabGreat
def z9e(x:ByteArray):Int:=zh8 (bAt x 0) (bAt x 1)
def yb7(x:ByteArray):Tok:=(z9e x,x)
structure z8m where
 op:ByteArray
 shut:ByteArray
 comma:ByteArray
 dot:ByteArray
 bang:ByteArray
 arrow:ByteArray
def z9h(S:z8m):List ByteArray->List Tok
 |[]=>[]
 |[x]=>[yb7 x]
 |x::y::r=>yb7 x::(6,S.comma)::z9h S (y::r)
def z8k(S:z8m)(l:zbv):List Tok:=(1,l.pred)::(if l.args=[] then [] else(4,S.op)::(z9h S l.args++[(5,S.shut)]))
def ybo(S:z8m)(l:zbv):List Tok:=if l.neg then(8,S.bang)::z8k S l else z8k S l
def z8v(S:z8m):List zbv->List Tok
 |[]=>[]
 |[l]=>ybo S l
 |l::m::r=>ybo S l++(6,S.comma)::z8v S (m::r)
def clK(S:z8m)(c:zac):List Tok:=z8k S c.head++((if c.body=[] then [] else(9,S.arrow)::z8v S c.body)++[(7,S.dot)])
def z8b(S:z8m)(cs:List zac):List Tok:=cs.flatMap (clK S)
def z90(l:zbv):Prop:=∀ x∈l.args,isT (z9e x)=true
def yb8(c:zac):Prop:=c.head.neg=false/\z90 c.head/\∀ l∈c.body,z90 l
theorem z9z(S:z8m):∀(bs:List ByteArray) (r:List Tok),bs≠[]->(∀ x∈bs,isT (z9e x)=true)->hdK r≠6->zbm (z9h S bs++r)=some (bs,r)
 |[],_,h,_,_=>absurd rfl h
 |[x],r,_,hx,h6=>zvi (hx x (by simp)) h6
 |x::y::bs,r,_,hx,h6=>by
  have ih:=z9z S (y::bs) r (by simp) (fun z hz=>hx z (by simp[List.mem_cons.1 hz])) h6
  show zbm ((z9e x,x)::(6,S.comma)::(z9h S (y::bs)++r))=_
  rw[zvh (hx x (by simp)) rfl]
  show(zbm (z9h S (y::bs)++r)).map _=_
  rw[ih]
  rfl
theorem z96(x:Tok)(r:List Tok):hdK (x::r)=x.1:=rfl
theorem z8y(S:z8m)(l:zbv)(r:List Tok)(hw:z90 l)(h4:hdK r≠4):zd9 (z8k S l++r)=some ({ l with neg:=false },r):=by
 unfold z8k zd9
 by_cases ha:l.args=[]
 ·simp only[if_pos ha,List.cons_append,List.nil_append,z96,List.tail_cons,List.headD_cons,if_true,if_neg h4]
  rw[← ha]
 ·have q:zbm (z9h S l.args++((5,S.shut)::r))=some (l.args,(5,S.shut)::r):=z9z S l.args ((5,S.shut)::r) ha hw (by simp[hdK])
  simp only[if_neg ha,List.cons_append,List.append_assoc,List.nil_append,z96,List.tail_cons,List.headD_cons,if_true,q]
theorem ya9(S:z8m)(l:zbv)(r:List Tok)(hw:z90 l)(h4:hdK r≠4):zri (ybo S l++r)=some (l,r):=by
 unfold zri ybo
 cases hn:l.neg with
 |true =>
  simp only[if_true]
  show(if hdK ((8,S.bang)::(z8k S l++r))=8 then(zd9 (z8k S l++r)).map _ else _)=_
  rw[if_pos (show hdK ((8,S.bang)::(z8k S l++r))=8 from rfl),z8y S l r hw h4]
  show some (({ l with neg:=true }:zbv),r)=_
  rw[← hn]
 |false =>
  simp only[Bool.false_eq_true,if_false]
  have h8:¬ hdK (z8k S l++r)=8:=by unfold z8k;show ¬ (1:Int)=8;decide
  rw[if_neg h8,z8y S l r hw h4,← hn]
theorem yaf(S:z8m):∀(n:Nat) (b:List zbv) (r:List Tok),b≠[]->b.length<=n->(∀ l∈b,z90 l)->hdK r≠4->hdK r≠6->zew n (z8v S b++r)=some (b,r)
 |_,[],_,h,_,_,_,_=>absurd rfl h
 |0,l::b,_,_,hn,_,_,_=>by simp at hn
 |n+1,[l],r,_,_,hw,h4,h6=>zln (ya9 S l r (hw l (by simp)) h4) h6
 |n+1,l::m::b,r,_,hn,hw,h4,h6=>by
  have ih:=yaf S n (m::b) r (by simp) (by simp at hn ⊢;omega) (fun z hz=>hw z (by simp[List.mem_cons.1 hz])) h4 h6
  have e:z8v S (l::m::b)++r=ybo S l++((6,S.comma)::(z8v S (m::b)++r)):=by simp[z8v]
  rw[e,zlm (ya9 S l _ (hw l (by simp)) (by simp[hdK])) rfl]
  show(zew n (z8v S (m::b)++r)).map _=_
  rw[ih]
  rfl
theorem yaw(S:z8m)(n:Nat)(c:zac)(r:List Tok)(hw:yb8 c)(hn:c.body.length<=n):zex n (clK S c++r)=some (c,r):=by
 unfold zex clK
 obtain⟨hd,hb⟩:=c
 obtain⟨hg,hp,hs⟩:=hd
 obtain⟨h1,h2,h3⟩:=hw
 simp only at h1 h2 h3 hn
 subst h1
 by_cases hb0:hb=[]
 ·subst hb0
  simp only[if_true,List.append_assoc]
  rw[z8y S _ _ h2 (by simp[hdK])]
  simp[hdK]
 ·simp only[if_neg hb0,List.append_assoc]
  rw[z8y S _ _ h2 (by simp[hdK])]
  simp only[List.cons_append,z96,List.tail_cons,if_true]
  rw[yaf S n hb _ hb0 hn h3 (by simp[hdK]) (by simp[hdK])]
  simp[hdK]
theorem z9k(S:z8m)(n:Nat):∀(m:Nat) (cs:List zac),(∀ c∈cs,yb8 c/\c.body.length<=n)->cs.length<=m->zeo n m (z8b S cs)=some cs
 |_,[],_,_=>by unfold z8b;simp[zeo]
 |0,c::cs,_,h=>by simp at h
 |m+1,c::cs,hw,h=>by
  have ih:=z9k S n m cs (fun z hz=>hw z (by simp[hz])) (by simp at h;omega)
  have e:z8b S (c::cs)=clK S c++z8b S cs:=by simp[z8b]
  rw[e,zte (by unfold clK z8k;simp) (yaw S n c _ (hw c (by simp)).1 (hw c (by simp)).2),ih]
  rfl
def byt(b:UInt8):Int:=(b.toNat:Int)
def hdB:List UInt8->Int
 |[]=>0
 |b::_=>byt b
def z8f(l:List UInt8)(k:Int):Nat:=if k=9 then 2 else if k=1∨k=2 then(l.takeWhile fun b=>bLD (byt b)).length else if k=3 then(l.takeWhile fun b=>zun (byt b)).length else 1
def z8a:Nat->List UInt8->Option (List Tok)
 |0,_=>some []
 |_+1,[]=>some []
 |n+1,a::l =>
  if zlv (byt a) then z8a n l
  else if zh8 (byt a) (hdB l)=0 then none
  else if 6 < z8f (a::l) (zh8 (byt a) (hdB l)) then none
  else(z8a n ((a::l).drop (z8f (a::l) (zh8 (byt a) (hdB l))))).map ((zh8 (byt a) (hdB l),(⟨((a::l).take (z8f (a::l) (zh8 (byt a) (hdB l)))).toArray⟩:ByteArray))::·)
theorem z8l(s:ByteArray)(i:Nat):bAt s i=hdB (s.data.toList.drop i):=by
 unfold bAt
 split
 ·rename_i h
  have h':i < s.data.toList.length:=by simpa using h
  rw[List.drop_eq_getElem_cons h']
  simp[hdB,byt,ByteArray.getElem_eq_getElem_data]
 ·rename_i h
  rw[List.drop_eq_nil_of_le (by have:s.data.toList.length=s.size:=(by rw[Array.length_toList];rfl);omega)]
  rfl
theorem z9l(p:Int->Bool)(s:ByteArray):∀(n i:Nat),s.size - i<=n->zcy p s i=i+((s.data.toList.drop i).takeWhile fun b=>p (byt b)).length:=by
 have hsz:s.data.toList.length=s.size:=by rw[Array.length_toList];rfl
 intro n
 induction n with
 |zero =>
  intro i h
  rw[zh2 (by omega),List.drop_eq_nil_of_le (by omega)]
  simp
 |succ n ih =>
  intro i h
  by_cases hi:i < s.size
  ·have hb:=z8l s i
   rw[List.drop_eq_getElem_cons (by omega)] at hb ⊢
   simp only[hdB] at hb
   cases hp:p (bAt s i) with
   |false =>
    rw[zn3 hp,List.takeWhile_cons,← hb,hp]
    simp
   |true =>
    rw[zi7 hi hp,ih (i+1) (by omega),List.takeWhile_cons,← hb,hp]
    simp
    omega
  ·rw[zh2 hi,List.drop_eq_nil_of_le (by omega)]
   simp
theorem yca{s:ByteArray}{i:Nat}{k:Int}(hk:k≠0):zm7 s i k=i+z8f (s.data.toList.drop i) k:=by
 unfold zm7 z8f
 rw[if_neg hk]
 split
 ·rfl
 ·split
  ·exact z9l bLD s _ i (Nat.le_refl _)
  ·split
   ·exact z9l zun s _ i (Nat.le_refl _)
   ·rfl
theorem yaj(s:ByteArray)(i m:Nat):s.extract i (i+m)=⟨((s.data.toList.drop i).take m).toArray⟩:=by
 apply ByteArray.ext
 rw[ByteArray.data_extract]
 apply Array.ext'
 simp[List.take_drop]
theorem z9x(s:ByteArray):∀(n i:Nat),splitN n s i=z8a n (s.data.toList.drop i):=by
 have hsz:s.data.toList.length=s.size:=by rw[Array.length_toList];rfl
 intro n
 induction n with
 |zero=>intro i;rfl
 |succ n ih =>
  intro i
  by_cases hi:i < s.size
  ·have hb:=z8l s i
   have hb1:=z8l s (i+1)
   have he:∀ k,k≠0->zm7 s i k=i+z8f (s.data.toList.drop i) k:=fun k hk=>yca hk
   have hx:∀ m,s.extract i (i+m)=⟨((s.data.toList.drop i).take m).toArray⟩:=yaj s i
   have hdr:∀ m,s.data.toList.drop (i+m)=(s.data.toList.drop i).drop m:=fun m=>by rw[List.drop_drop]
   have hc:=List.drop_eq_getElem_cons (l:=s.data.toList) (i:=i) (by omega)
   unfold splitN
   rw[if_pos hi]
   rw[hc] at hb he hx hdr ⊢
   unfold z8a
   simp only[hdB] at hb
   rw[hb,hb1,ih]
   split
   ·rfl
   ·split
    ·rfl
    ·rename_i hk
     generalize zh8 (byt s.data.toList[i]) (hdB (List.drop (i+1) s.data.toList))=k at *
     rw[he k hk]
     generalize z8f (s.data.toList[i]::List.drop (i+1) s.data.toList) k=m at *
     rw[Nat.add_sub_cancel_left,hx m,ih,hdr m]
  ·rw[zvu hi,List.drop_eq_nil_of_le (by omega)]
   rfl
def RdA(l:List UInt8)(ts:List Tok):Prop:=∃ m,m<=l.length/\∀ n r,z8a (n+m) (l++r)=(z8a n r).map (ts++·)
def RdN(l:List UInt8)(ts:List Tok):Prop:=∃ m,m<=l.length/\∀ n r,bLD (hdB r)=false->z8a (n+m) (l++r)=(z8a n r).map (ts++·)
theorem yay{a b:List Tok}(o:Option (List Tok)):(o.map (b++·)).map (a++·)=o.map ((a++b)++·):=by cases o <;> simp
theorem RdA.app{l l':List UInt8}{ts ts':List Tok}(h:RdA l ts)(k:RdA l' ts'):RdA (l++l') (ts++ts'):=by
 obtain⟨m,h1,h2⟩:=h
 obtain⟨m',k1,k2⟩:=k
 refine⟨m'+m,by simp;omega,fun n r=>?_⟩
 rw[← Nat.add_assoc,List.append_assoc,h2,k2,yay]
theorem ycs{l r:List UInt8}(h:l≠[]):hdB (l++r)=hdB l:=by
 cases l with
 |nil=>exact absurd rfl h
 |cons a l=>rfl
theorem RdN.app{l l':List UInt8}{ts ts':List Tok}(h:RdN l ts)(hl:l'≠[])(hd:bLD (hdB l')=false)(k:RdA l' ts'):RdA (l++l') (ts++ts'):=by
 obtain⟨m,h1,h2⟩:=h
 obtain⟨m',k1,k2⟩:=k
 refine⟨m'+m,by simp;omega,fun n r=>?_⟩
 rw[← Nat.add_assoc,List.append_assoc,h2 _ _ (by rw[ycs hl];exact hd),k2,yay]
theorem ycf{b:UInt8}(h:zlv (byt b)=true):RdA [b] []:=⟨1,by simp,fun n r=>by
 show z8a (n+1) (b::r)=_
 rw[z8a,if_pos h]
 cases z8a n r <;> simp⟩
theorem yaz{b:UInt8}{k:Int}(hb:zlv (byt b)=false)(hk:∀ c,zh8 (byt b) c=k)(h0:k≠0/\k≠1/\k≠2/\k≠3/\k≠9):RdA [b] [(k,⟨#[b]⟩)]:=⟨1,by simp,fun n r=>by
 have hl:z8f (b::r) k=1:=by unfold z8f;rw[if_neg h0.2.2.2.2,if_neg (by omega),if_neg h0.2.2.2.1]
 show z8a (n+1) (b::r)=_
 rw[z8a,hk,hb,hl]
 simp[h0.1]⟩
structure z9q (x:List UInt8):Prop where
 ne:x≠[]
 six:x.length<=6
 kind:(zru (hdB x)=true∨z5j (hdB x)=true)/\(∀ b∈x,bLD (byt b)=true)∨zun (hdB x)=true/\∀ b∈x,zun (byt b)=true
theorem z8e{p:UInt8->Bool}:∀ {x r:List UInt8},(∀ b∈x,p b=true)->(∀ b l,r=b::l->p b=false)->(x++r).takeWhile p=x
 |[],[],_,_=>rfl
 |[],b::r,_,h=>by simp[h b r rfl]
 |a::x,r,hx,h=>by
  rw[List.cons_append,List.takeWhile_cons,if_pos (hx a (by simp)),z8e (fun b hb=>hx b (by simp[hb])) h]
theorem yb3{x:List UInt8}(h:z9q x):RdN x [(zh8 (hdB x) (hdB x.tail),⟨x.toArray⟩)]:=⟨1,by have:=h.ne;cases x;exact absurd rfl this;simp,fun n r hr=>by
 obtain⟨hne,h6,hk⟩:=h
 cases x with
 |nil=>exact absurd rfl hne
 |cons a x =>
  have hd:hdB (a::x)=byt a:=rfl
  rw[hd] at hk ⊢
  have hdig:zun (hdB r)=false:=by
   simp only[bLD,Bool.or_eq_false_iff] at hr
   exact hr.2
  have hstop:∀(p:Int->Bool),p (hdB r)=false->∀ b l,r=b::l->(fun b=>p (byt b)) b=false:=by
   intro p hp b l e
   subst e
   exact hp
  have hkind:∀ c d,zh8 (byt a) c=zh8 (byt a) d:=by
   intro c d
   unfold zh8
   rcases hk with ⟨hk|hk,_⟩|⟨hk,_⟩
   ·simp[hk]
   ·simp[hk]
   ·simp[hk]
  have hbl:zlv (byt a)=false:=by
   have:bLD (byt a)=true:=by
    rcases hk with ⟨_,hk⟩|⟨hk,_⟩
    ·exact hk a (by simp)
    ·simp[bLD,hk]
   simp only[bLD,zru,z5j,zun,Bool.or_eq_true,Bool.and_eq_true,decide_eq_true_eq] at this
   simp only[zlv,Bool.or_eq_false_iff,beq_eq_false_iff_ne]
   omega
  have hlen:∀ c,z8f (a::x++r) (zh8 (byt a) c)=(a::x).length/\zh8 (byt a) c≠0:=by
   intro c
   by_cases hs:zru (byt a)=true
   ·have e:zh8 (byt a) c=1:=by simp[zh8,hs]
    have hall:∀ b∈a::x,bLD (byt b)=true:=by
     rcases hk with ⟨_,hk⟩|⟨_,hk⟩
     ·exact hk
     ·intro b hb;simp[bLD,hk b hb]
    rw[e]
    refine⟨?_,by decide⟩
    unfold z8f
    rw[if_neg (by decide),if_pos (Or.inl rfl),z8e hall (hstop bLD hr)]
   ·by_cases hc:z5j (byt a)=true
    ·have e:zh8 (byt a) c=2:=by simp[zh8,hs,hc]
     have hall:∀ b∈a::x,bLD (byt b)=true:=by
      rcases hk with ⟨_,hk⟩|⟨_,hk⟩
      ·exact hk
      ·intro b hb;simp[bLD,hk b hb]
     rw[e]
     refine⟨?_,by decide⟩
     unfold z8f
     rw[if_neg (by decide),if_pos (Or.inr rfl),z8e hall (hstop bLD hr)]
    ·rcases hk with ⟨hk|hk,_⟩|⟨hk,hall⟩
     ·exact absurd hk hs
     ·exact absurd hk hc
     ·have e:zh8 (byt a) c=3:=by simp[zh8,hs,hc,hk]
      rw[e]
      refine⟨?_,by decide⟩
      unfold z8f
      rw[if_neg (by decide),if_neg (by decide),if_pos rfl,z8e hall (hstop zun hdig)]
  show z8a (n+1) (a::(x++r))=_
  rw[z8a,hbl,hkind (hdB (x++r)) (hdB x)]
  obtain⟨l1,l2⟩:=hlen (hdB x)
  rw[List.cons_append] at l1
  rw[l1]
  have e1:(a::(x++r)).drop (a::x).length=r:=by rw[← List.cons_append];simp
  have e2:(a::(x++r)).take (a::x).length=a::x:=by rw[← List.cons_append];simp
  rw[e1,e2,if_neg (by simp),if_neg l2,if_neg (by omega)]
  rfl⟩
def bl(x:ByteArray):List UInt8:=x.data.toList
theorem ycj(a b:ByteArray):bl (a++b)=bl a++bl b:=by simp[bl,ByteArray.data_append]
theorem ybq(x:ByteArray):(⟨(bl x).toArray⟩:ByteArray)=x:=by
 apply ByteArray.ext
 simp[bl]
def signs:z8m:=⟨⟨#[40]⟩,⟨#[41]⟩,⟨#[44]⟩,⟨#[46]⟩,⟨#[33]⟩,⟨#[58,45]⟩⟩
theorem ycz:RdA (bl z7v) [(4,signs.op)]:=yaz (by decide) (fun _=>by unfold zh8;simp[byt,zru,z5j,zun,z3g]) (by decide)
theorem yc1:RdA (bl z7w) [(5,signs.shut)]:=yaz (by decide) (fun _=>by unfold zh8;simp[byt,zru,z5j,zun,z3g]) (by decide)
theorem ydf:RdA (bl z7x) [(7,signs.dot)]:=yaz (by decide) (fun _=>by unfold zh8;simp[byt,zru,z5j,zun,z3g]) (by decide)
def z9c(l:zbv):Prop:=(z9q (bl l.pred)/\zru (hdB (bl l.pred))=true)/\∀ x∈l.args,z9q (bl x)
def z8n(c:zac):Prop:=c.head.neg=false/\z9c c.head/\∀ l∈c.body,z9c l
theorem yb9(x:ByteArray):bAt x 1=hdB (bl x).tail:=by rw[z8l];simp[bl]
theorem yc2{x:ByteArray}(h:z9q (bl x)):RdN (bl x) [yb7 x]:=by
 have:=yb3 h
 rw[ybq] at this
 have e:yb7 x=(zh8 (hdB (bl x)) (hdB (bl x).tail),x):=by
  unfold yb7 z9e
  rw[yb9,z8l]
  rfl
 rw[e]
 exact this
theorem ych{x:ByteArray}(h:z9q (bl x)):isT (z9e x)=true:=by
 unfold z9e
 rw[z8l]
 show isT (zh8 (hdB (bl x)) _)=true
 unfold zh8
 rcases h.kind with ⟨hk|hk,_⟩|⟨hk,_⟩
 ·simp[hk,isT]
 ·by_cases hs:zru (hdB (bl x))=true <;> simp[hk,hs,isT]
 ·by_cases hs:zru (hdB (bl x))=true
  ·simp[hs,isT]
  ·by_cases hc:z5j (hdB (bl x))=true <;> simp[hk,hs,hc,isT]
theorem yc0{l:zbv}(h:z9c l):RdN (bl l.pred) [(1,l.pred)]:=by
 have:=yb3 h.1.1
 rw[ybq] at this
 have e:zh8 (hdB (bl l.pred)) (hdB (bl l.pred).tail)=1:=by simp[zh8,h.1.2]
 rw[e] at this
 exact this
def yci(x:Tok):Prop:=isT x.1=true->z9q (bl x.2)/\(x.1=1->zru (hdB (bl x.2))=true)
theorem z8g(p:UInt8->Bool)(l:List UInt8):l.take (l.takeWhile p).length=l.takeWhile p:=by
 induction l with
 |nil=>rfl
 |cons a l ih =>
  rw[List.takeWhile_cons]
  split
  ·simp[ih]
  ·rfl
theorem z8h{p:UInt8->Bool}:∀ {l:List UInt8} {b:UInt8},b∈l.takeWhile p->p b=true
 |[],_,h=>by simp at h
 |a::l,b,h=>by
  rw[List.takeWhile_cons] at h
  split at h
  ·rename_i ha
   rcases List.mem_cons.1 h with rfl|h
   ·exact ha
   ·exact z8h h
  ·cases h
theorem z9b:∀(n:Nat) (l:List UInt8) (ts:List Tok),z8a n l=some ts->∀ x∈ts,yci x
 |0,_,ts,h,x,hx=>by simp[z8a] at h;subst h;cases hx
 |_+1,[],ts,h,x,hx=>by simp[z8a] at h;subst h;cases hx
 |n+1,a::l,ts,h,x,hx=>by
  unfold z8a at h
  split at h
  ·exact z9b n l ts h x hx
  ·split at h
   ·cases h
   ·rename_i hk
    split at h
    ·cases h
    ·rename_i h6
     obtain⟨us,hu,rfl⟩:=Option.map_eq_some_iff.1 h
     rcases List.mem_cons.1 hx with rfl|hx
     ·intro ht
      simp only at ht ⊢
      have hbl:∀ m,bl (⟨((a::l).take m).toArray⟩:ByteArray)=(a::l).take m:=fun m=>by simp[bl]
      rw[hbl]
      generalize hK:zh8 (byt a) (hdB l)=k at *
      unfold zh8 at hK
      by_cases hs:zru (byt a)=true
      ·rw[if_pos hs] at hK
       subst hK
       have e:z8f (a::l) 1=((a::l).takeWhile fun b=>bLD (byt b)).length:=rfl
       rw[e] at h6 ⊢
       rw[z8g]
       have hh:(a::l).takeWhile (fun b=>bLD (byt b))=a::l.takeWhile (fun b=>bLD (byt b)):=by rw[List.takeWhile_cons,if_pos (by simp[bLD,hs])]
       refine⟨⟨by rw[hh];simp,by omega,Or.inl ⟨Or.inl (by rw[hh];exact hs),fun b hb=>z8h (p:=fun b=>bLD (byt b)) hb⟩⟩,fun _=>by rw[hh];exact hs⟩
      ·rw[if_neg hs] at hK
       by_cases hc:z5j (byt a)=true
       ·rw[if_pos hc] at hK
        subst hK
        have e:z8f (a::l) 2=((a::l).takeWhile fun b=>bLD (byt b)).length:=rfl
        rw[e] at h6 ⊢
        rw[z8g]
        have hh:(a::l).takeWhile (fun b=>bLD (byt b))=a::l.takeWhile (fun b=>bLD (byt b)):=by rw[List.takeWhile_cons,if_pos (by simp[bLD,hc])]
        exact⟨⟨by rw[hh];simp,by omega,Or.inl ⟨Or.inr (by rw[hh];exact hc),fun b hb=>z8h (p:=fun b=>bLD (byt b)) hb⟩⟩,fun q=>by cases q⟩
       ·rw[if_neg hc] at hK
        by_cases hd:zun (byt a)=true
        ·rw[if_pos hd] at hK
         subst hK
         have e:z8f (a::l) 3=((a::l).takeWhile fun b=>zun (byt b)).length:=rfl
         rw[e] at h6 ⊢
         rw[z8g]
         have hh:(a::l).takeWhile (fun b=>zun (byt b))=a::l.takeWhile (fun b=>zun (byt b)):=by rw[List.takeWhile_cons,if_pos (by simp[hd])]
         exact⟨⟨by rw[hh];simp,by omega,Or.inr ⟨by rw[hh];exact hd,fun b hb=>z8h (p:=fun b=>zun (byt b)) hb⟩⟩,fun q=>by cases q⟩
        ·exfalso
         rw[if_neg hd] at hK
         split at hK
         ·subst hK;simp[isT] at ht
         ·unfold z3g at hK
          (repeat' split at hK) <;> subst hK <;> simp[isT] at ht
     ·exact z9b n _ us hu x hx
theorem z9o:∀(r:List Tok) {ts:List ByteArray} {r2:List Tok},zbm r=some (ts,r2)->(∀ x∈r,yci x)->(∀ y∈ts,z9q (bl y))/\∀ x∈r2,x∈r
 |[],_,_,h,_=>by simp[zbm] at h
 |[x],ts,r2,h,ht=>by
  simp only[zbm] at h
  split at h
  ·rename_i hq
   simp only[Option.some.injEq,Prod.mk.injEq] at h
   obtain⟨rfl,rfl⟩:=h
   exact⟨fun y hy=>by simp at hy;subst hy;exact(ht x (by simp) hq).1,by simp⟩
  ·cases h
 |x::y::r,ts,r2,h,ht=>by
  simp only[zbm] at h
  split at h
  ·rename_i hq
   split at h
   ·obtain⟨z,hz,he⟩:=Option.map_eq_some_iff.1 h
    simp only[Prod.mk.injEq] at he
    obtain⟨rfl,rfl⟩:=he
    obtain⟨i1,i2⟩:=z9o r (ts:=z.1) (r2:=z.2) hz (fun u hu=>ht u (by simp[hu]))
    refine⟨fun u hu=>?_,fun u hu=>by simp[i2 u hu]⟩
    rcases List.mem_cons.1 hu with rfl|hu
    ·exact(ht x (by simp) hq).1
    ·exact i1 u hu
   ·simp only[Option.some.injEq,Prod.mk.injEq] at h
    obtain⟨rfl,rfl⟩:=h
    exact⟨fun u hu=>by simp at hu;subst hu;exact(ht x (by simp) hq).1,fun u hu=>by simp[List.mem_cons.1 hu]⟩
  ·cases h
theorem z8c{x:Tok}{r:List Tok}(h:x∈r.tail):x∈r:=by
 cases r with
 |nil=>exact h
 |cons a r=>simp at h;simp[h]
theorem z81{r:List Tok}{l:zbv}{r2:List Tok}(h:zd9 r=some (l,r2))(ht:∀ x∈r,yci x):l.neg=false/\z9c l/\∀ x∈r2,x∈r:=by
 unfold zd9 at h
 split at h
 ·rename_i h1
  cases r with
  |nil=>simp[hdK] at h1
  |cons a r =>
   have ha:a.1=1:=h1
   have hw:=ht a (by simp) (by rw[ha];rfl)
   have hp:z9q (bl a.2)/\zru (hdB (bl a.2))=true:=⟨hw.1,hw.2 ha⟩
   change (if hdK r=4 then(match zbm r.tail with|none=>none|some (ts,r2)=>if hdK r2=5 then some ((⟨false,a.2,ts⟩:zbv),r2.tail) else none) else some ((⟨false,a.2,[]⟩:zbv),r))=some (l,r2) at h
   by_cases h4:hdK r=4
   ·rw[if_pos h4] at h
    cases hq:zbm r.tail with
    |none=>rw[hq] at h;cases h
    |some z =>
     obtain⟨ts,r3⟩:=z
     rw[hq] at h
     simp only at h
     by_cases h5:hdK r3=5
     ·rw[if_pos h5] at h
      simp only[Option.some.injEq,Prod.mk.injEq] at h
      obtain⟨rfl,rfl⟩:=h
      obtain⟨i1,i2⟩:=z9o _ hq (fun u hu=>ht u (by simp[z8c hu]))
      exact⟨rfl,⟨hp,i1⟩,fun u hu=>by simp[z8c (i2 u (z8c hu))]⟩
     ·rw[if_neg h5] at h;cases h
   ·rw[if_neg h4] at h
    simp only[Option.some.injEq,Prod.mk.injEq] at h
    obtain⟨rfl,rfl⟩:=h
    exact⟨rfl,⟨hp,fun y hy=>by cases hy⟩,fun u hu=>by simp[hu]⟩
 ·cases h
theorem ybx{r:List Tok}{l:zbv}{r2:List Tok}(h:zri r=some (l,r2))(ht:∀ x∈r,yci x):z9c l/\∀ x∈r2,x∈r:=by
 unfold zri at h
 split at h
 ·obtain⟨z,hz,he⟩:=Option.map_eq_some_iff.1 h
  simp only[Prod.mk.injEq] at he
  obtain⟨rfl,rfl⟩:=he
  obtain⟨_,i2,i3⟩:=z81 (l:=z.1) (r2:=z.2) hz (fun u hu=>ht u (z8c hu))
  exact⟨i2,fun u hu=>z8c (i3 u hu)⟩
 ·exact(z81 h ht).2
theorem z9r:∀(n:Nat) {r:List Tok} {b:List zbv} {r2:List Tok},zew n r=some (b,r2)->(∀ x∈r,yci x)->(∀ l∈b,z9c l)/\∀ x∈r2,x∈r
 |0,_,_,_,h,_=>by cases h
 |n+1,r,b,r2,h,ht=>by
  unfold zew at h
  split at h
  ·cases h
  ·rename_i a r3 hq
   obtain⟨i1,i2⟩:=ybx hq ht
   split at h
   ·obtain⟨z,hz,he⟩:=Option.map_eq_some_iff.1 h
    simp only[Prod.mk.injEq] at he
    obtain⟨rfl,rfl⟩:=he
    obtain⟨j1,j2⟩:=z9r n (b:=z.1) (r2:=z.2) hz (fun u hu=>ht u (i2 u (z8c hu)))
    refine⟨fun l hl=>?_,fun u hu=>i2 u (z8c (j2 u hu))⟩
    rcases List.mem_cons.1 hl with rfl|hl
    ·exact i1
    ·exact j1 l hl
   ·simp only[Option.some.injEq,Prod.mk.injEq] at h
    obtain⟨rfl,rfl⟩:=h
    exact⟨fun l hl=>by simp at hl;subst hl;exact i1,i2⟩
theorem yag{n:Nat}{r:List Tok}{c:zac}{r2:List Tok}(h:zex n r=some (c,r2))(ht:∀ x∈r,yci x):z8n c/\∀ x∈r2,x∈r:=by
 unfold zex at h
 split at h
 ·cases h
 ·rename_i a r3 hq
  obtain⟨i0,i1,i2⟩:=z81 hq ht
  split at h
  ·split at h
   ·cases h
   ·rename_i b r4 hb
    split at h
    ·simp only[Option.some.injEq,Prod.mk.injEq] at h
     obtain⟨rfl,rfl⟩:=h
     obtain⟨j1,j2⟩:=z9r n hb (fun u hu=>ht u (i2 u (z8c hu)))
     exact⟨⟨i0,i1,j1⟩,fun u hu=>i2 u (z8c (j2 u (z8c hu)))⟩
    ·cases h
  ·split at h
   ·simp only[Option.some.injEq,Prod.mk.injEq] at h
    obtain⟨rfl,rfl⟩:=h
    exact⟨⟨i0,i1,fun l hl=>by cases hl⟩,fun u hu=>i2 u (z8c hu)⟩
   ·cases h
theorem z9v{n:Nat}:∀(m:Nat) {r:List Tok} {cs:List zac},zeo n m r=some cs->(∀ x∈r,yci x)->∀ c∈cs,z8n c
 |m,[],cs,h,_=>by cases m <;> (simp[zeo] at h;subst h;simp)
 |0,_::_,cs,h,_=>by simp[zeo] at h
 |m+1,x::r,cs,h,ht=>by
  unfold zeo at h
  split at h
  ·cases h
  ·rename_i c r2 hq
   obtain⟨i1,i2⟩:=yag hq ht
   obtain⟨ds,hd,rfl⟩:=Option.map_eq_some_iff.1 h
   intro z hz
   rcases List.mem_cons.1 hz with rfl|hz
   ·exact i1
   ·exact z9v m hd (fun u hu=>ht u (i2 u hu)) z hz
theorem ya3{s:ByteArray}{l:List Tok}(h:splitB s=some l):∀ x∈l,yci x:=by
 unfold splitB at h
 rw[z9x] at h
 exact z9b _ _ _ h
end Go.Proofs.YteampbddflhngabGreat
