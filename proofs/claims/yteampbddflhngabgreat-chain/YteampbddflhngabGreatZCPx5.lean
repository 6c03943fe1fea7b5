import Derived.Test.YteampbddflhngabGreatZ43
import Derived.Test.YteampbddflhngabGreatZ04
import Derived.Test.YteampbddflhngabGreatZ08

namespace Go.Proofs.YteampbddflhngabGreat
open Classical
theorem ycu{t t':List zar}{l:zbz}(h0:∀ e∈t,e.stratum=0)(h:zo7 t l=some t'):∀ e∈t',e.stratum=0:=by
 unfold zo7 at h
 split at h
 ·split at h
  ·simp only[Option.some.injEq] at h;subst h;exact h0
  ·cases h
 ·simp only[Option.some.injEq] at h
  subst h
  intro e he
  rcases zk4.1 he with rfl|he
  ·rfl
  ·exact h0 e he
theorem yaq:∀(ls done:List zbz) (t:List zar),Tab t done->(∀ e∈t,e.stratum=0)->(∀ x∈done++ls,∀ y∈done++ls,x.pred=y.pred->x.args.length=y.args.length)->∃ t',ls.foldl zms (some t)=some t'/\Tab t' (done++ls)/\∀ e∈t',e.stratum=0
 |[],done,t,h,h0,_=>⟨t,rfl,by simpa using h,h0⟩
 |l::ls,done,t,h,h0,ha=>by
  rw[List.foldl_cons]
  cases hq:zo7 t l with
  |none =>
   exfalso
   unfold zo7 at hq
   split at hq
   ·rename_i e he
    obtain⟨hm,hn⟩:=znl he
    split at hq
    ·cases hq
    ·rename_i har
     obtain⟨l0,hl0,hp0⟩:=(h.names e.name).1 (List.mem_map.2 ⟨e,hm,rfl⟩)
     apply har
     rw[← h.arity e hm l0 hl0 hp0]
     exact ha l0 (by simp[hl0]) l (by simp) (hp0.trans hn)
   ·cases hq
  |some t2 =>
   rw[show zms (some t) l=some t2 from hq]
   obtain⟨t',i1,i2,i3⟩:=yaq ls (done++[l]) t2 (h.step hq) (ycu h0 hq) (by simpa [List.append_assoc] using ha)
   exact⟨t',i1,by simpa [List.append_assoc] using i2,i3⟩
theorem yct{t:List zar}{ls:List zbz}(h:Tab t ls){x y:zbz}(hx:x∈ls)(hy:y∈ls)(e:x.pred=y.pred):x.args.length=y.args.length:=by
 obtain⟨a,hm,hen⟩:=List.mem_map.1 ((h.names x.pred).2 ⟨x,hx,rfl⟩)
 rw[h.arity a hm x hx hen.symm,h.arity a hm y hy (e.symm.trans hen.symm)]
theorem ydo:∀ {t t':List zar},namesT t=namesT t'->zb9 (namesT t)->(∀ e∈t,∀ e'∈t',e.name=e'.name->e.arity=e'.arity/\e.stratum=e'.stratum)->t=t'
 |[],[],_,_,_=>rfl
 |[],_::_,h,_,_=>by cases h
 |_::_,[],h,_,_=>by cases h
 |⟨a,b,c⟩::r,⟨a',b',c'⟩::r',h,hr,ha=>by
  simp only[namesT,List.map_cons,List.cons.injEq] at h
  obtain⟨rfl,h⟩:=h
  obtain⟨h1,h2⟩:=ha ⟨a,b,c⟩ (by simp) ⟨a,b',c'⟩ (by simp) rfl
  simp only at h1 h2
  subst h1 h2
  rw[ydo h (List.pairwise_cons.1 hr).2 fun e he e' he' q=>ha e (by simp[he]) e' (by simp[he']) q]
theorem ycx{cs cs2:List zab}{t0:List zar}(h:zgh cs=some t0)(hs:∀ n k,(∃ l∈cs2.flatMap za1,l.pred=n/\l.args.length=k)↔∃ l∈cs.flatMap za1,l.pred=n/\l.args.length=k):zgh cs2=some t0:=by
 have hT:=zu7 h
 have h1:∀ x∈cs.flatMap za1,∀ y∈cs.flatMap za1,x.pred=y.pred->x.args.length=y.args.length:=fun x hx y hy e=>yct hT hx hy e
 have h2:∀ x∈cs2.flatMap za1,∀ y∈cs2.flatMap za1,x.pred=y.pred->x.args.length=y.args.length:=fun x hx y hy e=>by
  obtain⟨a,ha,a1,a2⟩:=(hs x.pred x.args.length).1 ⟨x,hx,rfl,rfl⟩
  obtain⟨b,hb,b1,b2⟩:=(hs y.pred y.args.length).1 ⟨y,hy,rfl,rfl⟩
  rw[← a2,← b2]
  exact h1 a ha b hb (by rw[a1,b1,e])
 obtain⟨u,u1,u2,u3⟩:=yaq (cs.flatMap za1) [] [] z7s (fun e he=>by cases he) (by simpa using h1)
 obtain⟨v,v1,v2,v3⟩:=yaq (cs2.flatMap za1) [] [] z7s (fun e he=>by cases he) (by simpa using h2)
 rw[List.nil_append] at u2 v2
 have hu:u=t0:=by unfold zgh at h;rw[u1] at h;simpa using h
 subst hu
 unfold zgh
 rw[v1]
 congr 1
 have hn:namesT v=namesT u:=zrd v2.rise u2.rise fun n=>by
  rw[v2.names,u2.names]
  constructor
  ·rintro⟨l,hl,rfl⟩
   obtain⟨m,hm,m1,_⟩:=(hs l.pred l.args.length).1 ⟨l,hl,rfl,rfl⟩
   exact⟨m,hm,m1⟩
  ·rintro⟨l,hl,rfl⟩
   obtain⟨m,hm,m1,_⟩:=(hs l.pred l.args.length).2 ⟨l,hl,rfl,rfl⟩
   exact⟨m,hm,m1⟩
 refine ydo hn v2.rise fun e he e' he' q=>⟨?_,by rw[v3 e he,u3 e' he']⟩
 obtain⟨l,hl,hle⟩:=(u2.names e'.name).1 (List.mem_map.2 ⟨e',he',rfl⟩)
 obtain⟨m,hm,m1,m2⟩:=(hs l.pred l.args.length).2 ⟨l,hl,rfl,rfl⟩
 rw[← u2.arity e' he' l hl hle,← v2.arity e he m hm (by rw[m1,hle,q]),m2]
theorem yel{ps:List ByteArray}(h:zb9 ps){i j:Nat}(hi:i < ps.length)(hj:j < ps.length)(e:ps[i]=ps[j]):i=j:=by
 unfold zb9 at h
 rw[List.pairwise_iff_getElem] at h
 rcases Nat.lt_trichotomy i j with hl|hl|hl
 ·have:=h i j hi hj hl;rw[e,lt_irrefl] at this;cases this
 ·exact hl
 ·have:=h j i hj hi hl;rw[e,lt_irrefl] at this;cases this
theorem yb6{t:List zar}(h:zb9 (namesT t)){e:zar}(he:e∈t):val t e.name=e.stratum:=by
 obtain⟨k,hk,rfl⟩:=List.mem_iff_getElem.1 he
 unfold val
 cases hq:zbb t t[k].name with
 |none=>exact absurd rfl (zkp h hq t[k] (List.getElem_mem hk))
 |some e =>
  obtain⟨hp,h1,h2⟩:=zby hq
  have hj:zai t t[k].name=k:=yel h (by simpa [namesT] using hp) (by simpa [namesT] using hk) (by simp[namesT,h1,h2])
  simp only
  rw[← h1]
  congr 1
  congr 1
theorem ybp{t:List zar}{cs:List zab}(h:Tab t (cs.flatMap za1)):zlh t cs:=by
 intro c hc l hl
 cases he:zbb t l.pred with
 |some e=>rfl
 |none =>
  obtain⟨e,hm,hn⟩:=List.mem_map.1 ((h.names l.pred).2 ⟨l,List.mem_flatMap.2 ⟨c,hc,hl⟩,rfl⟩)
  exact absurd hn (zkp h.rise he e hm)
theorem yb7{t:List zar}(h:∀ e∈t,e.stratum=0)(n:ByteArray):val t n=0:=by
 unfold val;split
 ·rename_i e he;exact h e (znl he).1
 ·rfl
theorem ya6{cs:List zab}{t0:List zar}(h:zgh cs=some t0):∀ e∈t0,e.stratum=0:=by
 have hT:=zu7 h
 obtain⟨u,u1,u2,u3⟩:=yaq (cs.flatMap za1) [] [] z7s (fun e he=>by cases he) (fun x hx y hy e=>yct hT (by simpa using hx) (by simpa using hy) e)
 have hu:u=t0:=by unfold zgh at h;rw[u1] at h;simpa using h
 subst hu
 exact u3
theorem Parts.least{cs:List zab}{t0 t:List zar}(h:Parts cs t0 t):Least cs (val t):=by
 have:=(z3c (ybp h.tab) (yb7 (ya6 h.coll))).2 (by rw[h.strat])
 rwa [h.strat] at this
theorem Parts.nam{cs:List zab}{t0 t:List zar}(h:Parts cs t0 t):namesT t=namesT t0/\arT t=arT t0:=by
 have h1:=zwa (t0.length+1) t0 cs (ybp h.tab)
 have h2:=zim (t0.length+1) t0 cs
 rw[h.strat] at h1 h2
 exact⟨h1,h2⟩
theorem yd2{t t':List zar}(hr:zb9 (namesT t))(hr':zb9 (namesT t'))(ha:arT t=arT t')(hv:∀ n,val t n=val t' n):t=t':=by
 apply List.ext_getElem
 ·have:=congrArg List.length ha;simpa [arT] using this
 ·intro i h1 h2
  have q:(arT t)[i]'(by simpa [arT] using h1)=(arT t')[i]'(by simpa [arT] using h2):=by simp only[ha]
  simp only[arT,List.getElem_map,Prod.mk.injEq] at q
  have q3:=hv t[i].name
  rw[yb6 hr (List.getElem_mem h1),q.1,yb6 hr' (List.getElem_mem h2)] at q3
  generalize t[i]=x at *
  generalize t'[i]=y at *
  obtain⟨a,b,c⟩:=x
  obtain⟨a',b',c'⟩:=y
  simp only at q q3
  obtain⟨rfl,rfl⟩:=q
  rw[q3]
theorem ych{cs cs2:List zab}{t0 t:List zar}(h:Parts cs t0 t)(hc:zgh cs2=some t0)(hs:∀ f,Sol cs2 f↔Sol cs f):zcx (t0.length+1) t0 cs2=(t,true):=by
 have hT:=zu7 hc
 have hi:=z3c (ybp hT) (yb7 (ya6 hc))
 have ht:(zcx (t0.length+1) t0 cs2).2=true:=hi.1.2 ⟨_,(hs _).2 h.least.1⟩
 have hl:=hi.2 ht
 have hn:=zwa (t0.length+1) t0 cs2 (ybp hT)
 have ha:=zim (t0.length+1) t0 cs2
 generalize zcx (t0.length+1) t0 cs2=z at *
 obtain⟨t2,b⟩:=z
 simp only at ht hl hn ha
 subst ht
 congr 1
 refine yd2 (by rw[hn];exact hT.rise) (by rw[h.nam.1];exact hT.rise) (ha.trans h.nam.2.symm) fun n=>?_
 exact Nat.le_antisymm (hl.2 _ ((hs _).2 h.least.1) n) (h.least.2 _ ((hs _).1 hl.1) n)
theorem Parts.alike{cs cs2:List zab}{t0 t:List zar}(h:Parts cs t0 t)(few:prW cs2<=500)(many:∀ c∈cs2,zeh c=false)(safe:∀ c∈cs2,ze4 c=true)(hs:∀ n k,(∃ l∈cs2.flatMap za1,l.pred=n/\l.args.length=k)↔∃ l∈cs.flatMap za1,l.pred=n/\l.args.length=k)(hf:∀ f,Sol cs2 f↔Sol cs f):Parts cs2 t0 t :=
 have hc:=ycx h.coll hs
 ⟨few,many,hc,zu7 hc,safe,ych h hc hf⟩
end Go.Proofs.YteampbddflhngabGreat
namespace Go.Proofs.YteampbddflhngabGreat
def yap(x:ByteArray):Int:=zib (bAt x 0) (bAt x 1)
def yc0(x:ByteArray):Tok:=(yap x,x)
structure z9r where
 op:ByteArray
 shut:ByteArray
 comma:ByteArray
 dot:ByteArray
 bang:ByteArray
 arrow:ByteArray
def yau(S:z9r):List ByteArray->List Tok
 |[]=>[]
 |[x]=>[yc0 x]
 |x::y::r=>yc0 x::(6,S.comma)::yau S (y::r)
def z9m(S:z9r)(l:zbz):List Tok:=(1,l.pred)::(if l.args=[] then [] else(4,S.op)::(yau S l.args++[(5,S.shut)]))
def yc1(S:z9r)(l:zbz):List Tok:=if l.neg then(8,S.bang)::z9m S l else z9m S l
def z96(S:z9r):List zbz->List Tok
 |[]=>[]
 |[l]=>yc1 S l
 |l::m::r=>yc1 S l++(6,S.comma)::z96 S (m::r)
def clK(S:z9r)(c:zab):List Tok:=z9m S c.head++((if c.body=[] then [] else(9,S.arrow)::z96 S c.body)++[(7,S.dot)])
def z9b(S:z9r)(cs:List zab):List Tok:=cs.flatMap (clK S)
def ybf(l:zbz):Prop:=∀ x∈l.args,isT (yap x)=true
def ydp(c:zab):Prop:=c.head.neg=false/\ybf c.head/\∀ l∈c.body,ybf l
theorem ybe(S:z9r):∀(bs:List ByteArray) (r:List Tok),bs≠[]->(∀ x∈bs,isT (yap x)=true)->hdK r≠6->zbr (yau S bs++r)=some (bs,r)
 |[],_,h,_,_=>absurd rfl h
 |[x],r,_,hx,h6=>zvx (hx x (by simp)) h6
 |x::y::bs,r,_,hx,h6=>by
  have ih:=ybe S (y::bs) r (by simp) (fun z hz=>hx z (by simp[List.mem_cons.1 hz])) h6
  show zbr ((yap x,x)::(6,S.comma)::(yau S (y::bs)++r))=_
  rw[zvw (hx x (by simp)) rfl]
  show(zbr (yau S (y::bs)++r)).map _=_
  rw[ih]
  rfl
theorem ybj(x:Tok)(r:List Tok):hdK (x::r)=x.1:=rfl
theorem yaa(S:z9r)(l:zbz)(r:List Tok)(hw:ybf l)(h4:hdK r≠4):zed (z9m S l++r)=some ({ l with neg:=false },r):=by
 unfold z9m zed
 by_cases ha:l.args=[]
 ·simp only[if_pos ha,List.cons_append,List.nil_append,ybj,List.tail_cons,List.headD_cons,if_true,if_neg h4]
  rw[← ha]
 ·have q:zbr (yau S l.args++((5,S.shut)::r))=some (l.args,(5,S.shut)::r):=ybe S l.args ((5,S.shut)::r) ha hw (by simp[hdK])
  simp only[if_neg ha,List.cons_append,List.append_assoc,List.nil_append,ybj,List.tail_cons,List.headD_cons,if_true,q]
theorem ycq(S:z9r)(l:zbz)(r:List Tok)(hw:ybf l)(h4:hdK r≠4):zrt (yc1 S l++r)=some (l,r):=by
 unfold zrt yc1
 cases hn:l.neg with
 |true =>
  simp only[if_true]
  show(if hdK ((8,S.bang)::(z9m S l++r))=8 then(zed (z9m S l++r)).map _ else _)=_
  rw[if_pos (show hdK ((8,S.bang)::(z9m S l++r))=8 from rfl),yaa S l r hw h4]
  show some (({ l with neg:=true }:zbz),r)=_
  rw[← hn]
 |false =>
  simp only[Bool.false_eq_true,if_false]
  have h8:¬ hdK (z9m S l++r)=8:=by unfold z9m;show ¬ (1:Int)=8;decide
  rw[if_neg h8,yaa S l r hw h4,← hn]
theorem ybu(S:z9r):∀(n:Nat) (b:List zbz) (r:List Tok),b≠[]->b.length<=n->(∀ l∈b,ybf l)->hdK r≠4->hdK r≠6->ze1 n (z96 S b++r)=some (b,r)
 |_,[],_,h,_,_,_,_=>absurd rfl h
 |0,l::b,_,_,hn,_,_,_=>by simp at hn
 |n+1,[l],r,_,_,hw,h4,h6=>zly (ycq S l r (hw l (by simp)) h4) h6
 |n+1,l::m::b,r,_,hn,hw,h4,h6=>by
  have ih:=ybu S n (m::b) r (by simp) (by simp at hn ⊢;omega) (fun z hz=>hw z (by simp[List.mem_cons.1 hz])) h4 h6
  have e:z96 S (l::m::b)++r=yc1 S l++((6,S.comma)::(z96 S (m::b)++r)):=by simp[z96]
  rw[e,zlx (ycq S l _ (hw l (by simp)) (by simp[hdK])) rfl]
  show(ze1 n (z96 S (m::b)++r)).map _=_
  rw[ih]
  rfl
theorem yca(S:z9r)(n:Nat)(c:zab)(r:List Tok)(hw:ydp c)(hn:c.body.length<=n):ze2 n (clK S c++r)=some (c,r):=by
 unfold ze2 clK
 obtain⟨hd,hb⟩:=c
 obtain⟨hg,hp,hs⟩:=hd
 obtain⟨h1,h2,h3⟩:=hw
 simp only at h1 h2 h3 hn
 subst h1
 by_cases hb0:hb=[]
 ·subst hb0
  simp only[if_true,List.append_assoc]
  rw[yaa S _ _ h2 (by simp[hdK])]
  simp[hdK]
 ·simp only[if_neg hb0,List.append_assoc]
  rw[yaa S _ _ h2 (by simp[hdK])]
  simp only[List.cons_append,ybj,List.tail_cons,if_true]
  rw[ybu S n hb _ hb0 hn h3 (by simp[hdK]) (by simp[hdK])]
  simp[hdK]
theorem yay(S:z9r)(n:Nat):∀(m:Nat) (cs:List zab),(∀ c∈cs,ydp c/\c.body.length<=n)->cs.length<=m->zes n m (z9b S cs)=some cs
 |_,[],_,_=>by unfold z9b;simp[zes]
 |0,c::cs,_,h=>by simp at h
 |m+1,c::cs,hw,h=>by
  have ih:=yay S n m cs (fun z hz=>hw z (by simp[hz])) (by simp at h;omega)
  have e:z9b S (c::cs)=clK S c++z9b S cs:=by simp[z9b]
  rw[e,ztr (by unfold clK z9m;simp) (yca S n c _ (hw c (by simp)).1 (hw c (by simp)).2),ih]
  rfl
def byt(b:UInt8):Int:=(b.toNat:Int)
def hdB:List UInt8->Int
 |[]=>0
 |b::_=>byt b
def z9i(l:List UInt8)(k:Int):Nat:=if k=9 then 2 else if k=1∨k=2 then(l.takeWhile fun b=>bLD (byt b)).length else if k=3 then(l.takeWhile fun b=>zu3 (byt b)).length else 1
def z9c:Nat->List UInt8->Option (List Tok)
 |0,_=>some []
 |_+1,[]=>some []
 |n+1,a::l =>
  if zl7 (byt a) then z9c n l
  else if zib (byt a) (hdB l)=0 then none
  else if 6 < z9i (a::l) (zib (byt a) (hdB l)) then none
  else(z9c n ((a::l).drop (z9i (a::l) (zib (byt a) (hdB l))))).map ((zib (byt a) (hdB l),(⟨((a::l).take (z9i (a::l) (zib (byt a) (hdB l)))).toArray⟩:ByteArray))::·)
theorem z9n(s:ByteArray)(i:Nat):bAt s i=hdB (s.data.toList.drop i):=by
 unfold bAt
 split
 ·rename_i h
  have h':i < s.data.toList.length:=by simpa using h
  rw[List.drop_eq_getElem_cons h']
  simp[hdB,byt,ByteArray.getElem_eq_getElem_data]
 ·rename_i h
  rw[List.drop_eq_nil_of_le (by have:s.data.toList.length=s.size:=(by rw[Array.length_toList];rfl);omega)]
  rfl
theorem ya1(p:Int->Bool)(s:ByteArray):∀(n i:Nat),s.size - i<=n->zc2 p s i=i+((s.data.toList.drop i).takeWhile fun b=>p (byt b)).length:=by
 have hsz:s.data.toList.length=s.size:=by rw[Array.length_toList];rfl
 intro n
 induction n with
 |zero =>
  intro i h
  rw[zh5 (by omega),List.drop_eq_nil_of_le (by omega)]
  simp
 |succ n ih =>
  intro i h
  by_cases hi:i < s.size
  ·have hb:=z9n s i
   rw[List.drop_eq_getElem_cons (by omega)] at hb ⊢
   simp only[hdB] at hb
   cases hp:p (bAt s i) with
   |false =>
    rw[zof hp,List.takeWhile_cons,← hb,hp]
    simp
   |true =>
    rw[zjd hi hp,ih (i+1) (by omega),List.takeWhile_cons,← hb,hp]
    simp
    omega
  ·rw[zh5 hi,List.drop_eq_nil_of_le (by omega)]
   simp
theorem ydt{s:ByteArray}{i:Nat}{k:Int}(hk:k≠0):znk s i k=i+z9i (s.data.toList.drop i) k:=by
 unfold znk z9i
 rw[if_neg hk]
 split
 ·rfl
 ·split
  ·exact ya1 bLD s _ i (Nat.le_refl _)
  ·split
   ·exact ya1 zu3 s _ i (Nat.le_refl _)
   ·rfl
theorem yby(s:ByteArray)(i m:Nat):s.extract i (i+m)=⟨((s.data.toList.drop i).take m).toArray⟩:=by
 apply ByteArray.ext
 rw[ByteArray.data_extract]
 apply Array.ext'
 simp[List.take_drop]
theorem ybc(s:ByteArray):∀(n i:Nat),splitN n s i=z9c n (s.data.toList.drop i):=by
 have hsz:s.data.toList.length=s.size:=by rw[Array.length_toList];rfl
 intro n
 induction n with
 |zero=>intro i;rfl
 |succ n ih =>
  intro i
  by_cases hi:i < s.size
  ·have hb:=z9n s i
   have hb1:=z9n s (i+1)
   have he:∀ k,k≠0->znk s i k=i+z9i (s.data.toList.drop i) k:=fun k hk=>ydt hk
   have hx:∀ m,s.extract i (i+m)=⟨((s.data.toList.drop i).take m).toArray⟩:=yby s i
   have hdr:∀ m,s.data.toList.drop (i+m)=(s.data.toList.drop i).drop m:=fun m=>by rw[List.drop_drop]
   have hc:=List.drop_eq_getElem_cons (l:=s.data.toList) (i:=i) (by omega)
   unfold splitN
   rw[if_pos hi]
   rw[hc] at hb he hx hdr ⊢
   unfold z9c
   simp only[hdB] at hb
   rw[hb,hb1,ih]
   split
   ·rfl
   ·split
    ·rfl
    ·rename_i hk
     generalize zib (byt s.data.toList[i]) (hdB (List.drop (i+1) s.data.toList))=k at *
     rw[he k hk]
     generalize z9i (s.data.toList[i]::List.drop (i+1) s.data.toList) k=m at *
     rw[Nat.add_sub_cancel_left,hx m,ih,hdr m]
  ·rw[zv8 hi,List.drop_eq_nil_of_le (by omega)]
   rfl
def RdA(l:List UInt8)(ts:List Tok):Prop:=∃ m,m<=l.length/\∀ n r,z9c (n+m) (l++r)=(z9c n r).map (ts++·)
def RdN(l:List UInt8)(ts:List Tok):Prop:=∃ m,m<=l.length/\∀ n r,bLD (hdB r)=false->z9c (n+m) (l++r)=(z9c n r).map (ts++·)
theorem ycc{a b:List Tok}(o:Option (List Tok)):(o.map (b++·)).map (a++·)=o.map ((a++b)++·):=by cases o <;> simp
theorem RdA.app{l l':List UInt8}{ts ts':List Tok}(h:RdA l ts)(k:RdA l' ts'):RdA (l++l') (ts++ts'):=by
 obtain⟨m,h1,h2⟩:=h
 obtain⟨m',k1,k2⟩:=k
 refine⟨m'+m,by simp;omega,fun n r=>?_⟩
 rw[← Nat.add_assoc,List.append_assoc,h2,k2,ycc]
theorem yee{l r:List UInt8}(h:l≠[]):hdB (l++r)=hdB l:=by
 cases l with
 |nil=>exact absurd rfl h
 |cons a l=>rfl
theorem RdN.app{l l':List UInt8}{ts ts':List Tok}(h:RdN l ts)(hl:l'≠[])(hd:bLD (hdB l')=false)(k:RdA l' ts'):RdA (l++l') (ts++ts'):=by
 obtain⟨m,h1,h2⟩:=h
 obtain⟨m',k1,k2⟩:=k
 refine⟨m'+m,by simp;omega,fun n r=>?_⟩
 rw[← Nat.add_assoc,List.append_assoc,h2 _ _ (by rw[yee hl];exact hd),k2,ycc]
theorem ydx{b:UInt8}(h:zl7 (byt b)=true):RdA [b] []:=⟨1,by simp,fun n r=>by
 show z9c (n+1) (b::r)=_
 rw[z9c,if_pos h]
 cases z9c n r <;> simp⟩
theorem ybm{b:UInt8}{k:Int}(hb:zl7 (byt b)=false)(hk:∀ c,zib (byt b) c=k)(h0:k≠0/\k≠1/\k≠2/\k≠3/\k≠9):RdA [b] [(k,⟨#[b]⟩)]:=⟨1,by simp,fun n r=>by
 have hl:z9i (b::r) k=1:=by unfold z9i;rw[if_neg h0.2.2.2.2,if_neg (by omega),if_neg h0.2.2.2.1]
 show z9c (n+1) (b::r)=_
 rw[z9c,hk,hb,hl]
 simp[h0.1]⟩
structure ya4 (x:List UInt8):Prop where
 ne:x≠[]
 six:x.length<=6
 kind:(zr6 (hdB x)=true∨z6j (hdB x)=true)/\(∀ b∈x,bLD (byt b)=true)∨zu3 (hdB x)=true/\∀ b∈x,zu3 (byt b)=true
theorem z9h{p:UInt8->Bool}:∀ {x r:List UInt8},(∀ b∈x,p b=true)->(∀ b l,r=b::l->p b=false)->(x++r).takeWhile p=x
 |[],[],_,_=>rfl
 |[],b::r,_,h=>by simp[h b r rfl]
 |a::x,r,hx,h=>by
  rw[List.cons_append,List.takeWhile_cons,if_pos (hx a (by simp)),z9h (fun b hb=>hx b (by simp[hb])) h]
theorem ydl{x:List UInt8}(h:ya4 x):RdN x [(zib (hdB x) (hdB x.tail),⟨x.toArray⟩)]:=⟨1,by have:=h.ne;cases x;exact absurd rfl this;simp,fun n r hr=>by
 obtain⟨hne,h6,hk⟩:=h
 cases x with
 |nil=>exact absurd rfl hne
 |cons a x =>
  have hd:hdB (a::x)=byt a:=rfl
  rw[hd] at hk ⊢
  have hdig:zu3 (hdB r)=false:=by
   simp only[bLD,Bool.or_eq_false_iff] at hr
   exact hr.2
  have hstop:∀(p:Int->Bool),p (hdB r)=false->∀ b l,r=b::l->(fun b=>p (byt b)) b=false:=by
   intro p hp b l e
   subst e
   exact hp
  have hkind:∀ c d,zib (byt a) c=zib (byt a) d:=by
   intro c d
   unfold zib
   rcases hk with ⟨hk|hk,_⟩|⟨hk,_⟩
   ·simp[hk]
   ·simp[hk]
   ·simp[hk]
  have hbl:zl7 (byt a)=false:=by
   have:bLD (byt a)=true:=by
    rcases hk with ⟨_,hk⟩|⟨hk,_⟩
    ·exact hk a (by simp)
    ·simp[bLD,hk]
   simp only[bLD,zr6,z6j,zu3,Bool.or_eq_true,Bool.and_eq_true,decide_eq_true_eq] at this
   simp only[zl7,Bool.or_eq_false_iff,beq_eq_false_iff_ne]
   omega
  have hlen:∀ c,z9i (a::x++r) (zib (byt a) c)=(a::x).length/\zib (byt a) c≠0:=by
   intro c
   by_cases hs:zr6 (byt a)=true
   ·have e:zib (byt a) c=1:=by simp[zib,hs]
    have hall:∀ b∈a::x,bLD (byt b)=true:=by
     rcases hk with ⟨_,hk⟩|⟨_,hk⟩
     ·exact hk
     ·intro b hb;simp[bLD,hk b hb]
    rw[e]
    refine⟨?_,by decide⟩
    unfold z9i
    rw[if_neg (by decide),if_pos (Or.inl rfl),z9h hall (hstop bLD hr)]
   ·by_cases hc:z6j (byt a)=true
    ·have e:zib (byt a) c=2:=by simp[zib,hs,hc]
     have hall:∀ b∈a::x,bLD (byt b)=true:=by
      rcases hk with ⟨_,hk⟩|⟨_,hk⟩
      ·exact hk
      ·intro b hb;simp[bLD,hk b hb]
     rw[e]
     refine⟨?_,by decide⟩
     unfold z9i
     rw[if_neg (by decide),if_pos (Or.inr rfl),z9h hall (hstop bLD hr)]
    ·rcases hk with ⟨hk|hk,_⟩|⟨hk,hall⟩
     ·exact absurd hk hs
     ·exact absurd hk hc
     ·have e:zib (byt a) c=3:=by simp[zib,hs,hc,hk]
      rw[e]
      refine⟨?_,by decide⟩
      unfold z9i
      rw[if_neg (by decide),if_neg (by decide),if_pos rfl,z9h hall (hstop zu3 hdig)]
  show z9c (n+1) (a::(x++r))=_
  rw[z9c,hbl,hkind (hdB (x++r)) (hdB x)]
  obtain⟨l1,l2⟩:=hlen (hdB x)
  rw[List.cons_append] at l1
  rw[l1]
  have e1:(a::(x++r)).drop (a::x).length=r:=by rw[← List.cons_append];simp
  have e2:(a::(x++r)).take (a::x).length=a::x:=by rw[← List.cons_append];simp
  rw[e1,e2,if_neg (by simp),if_neg l2,if_neg (by omega)]
  rfl⟩
def bl(x:ByteArray):List UInt8:=x.data.toList
theorem yc6(a b:ByteArray):bl (a++b)=bl a++bl b:=by simp[bl,ByteArray.data_append]
theorem yc7(x:ByteArray):(⟨(bl x).toArray⟩:ByteArray)=x:=by
 apply ByteArray.ext
 simp[bl]
def signs:z9r:=⟨⟨#[40]⟩,⟨#[41]⟩,⟨#[44]⟩,⟨#[46]⟩,⟨#[33]⟩,⟨#[58,45]⟩⟩
theorem yei:RdA (bl z8x) [(4,signs.op)]:=ybm (by decide) (fun _=>by unfold zib;simp[byt,zr6,z6j,zu3,z4c]) (by decide)
theorem yek:RdA (bl z8y) [(5,signs.shut)]:=ybm (by decide) (fun _=>by unfold zib;simp[byt,zr6,z6j,zu3,z4c]) (by decide)
theorem yev:RdA (bl z8z) [(7,signs.dot)]:=ybm (by decide) (fun _=>by unfold zib;simp[byt,zr6,z6j,zu3,z4c]) (by decide)
def yam(l:zbz):Prop:=(ya4 (bl l.pred)/\zr6 (hdB (bl l.pred))=true)/\∀ x∈l.args,ya4 (bl x)
def z9s(c:zab):Prop:=c.head.neg=false/\yam c.head/\∀ l∈c.body,yam l
theorem ydq(x:ByteArray):bAt x 1=hdB (bl x).tail:=by rw[z9n];simp[bl]
theorem ydk{x:ByteArray}(h:ya4 (bl x)):RdN (bl x) [yc0 x]:=by
 have:=ydl h
 rw[yc7] at this
 have e:yc0 x=(zib (hdB (bl x)) (hdB (bl x).tail),x):=by
  unfold yc0 yap
  rw[ydq,z9n]
  rfl
 rw[e]
 exact this
theorem yd4{x:ByteArray}(h:ya4 (bl x)):isT (yap x)=true:=by
 unfold yap
 rw[z9n]
 show isT (zib (hdB (bl x)) _)=true
 unfold zib
 rcases h.kind with ⟨hk|hk,_⟩|⟨hk,_⟩
 ·simp[hk,isT]
 ·by_cases hs:zr6 (hdB (bl x))=true <;> simp[hk,hs,isT]
 ·by_cases hs:zr6 (hdB (bl x))=true
  ·simp[hs,isT]
  ·by_cases hc:z6j (hdB (bl x))=true <;> simp[hk,hs,hc,isT]
theorem yej{l:zbz}(h:yam l):RdN (bl l.pred) [(1,l.pred)]:=by
 have:=ydl h.1.1
 rw[yc7] at this
 have e:zib (hdB (bl l.pred)) (hdB (bl l.pred).tail)=1:=by simp[zib,h.1.2]
 rw[e] at this
 exact this
def yd7(x:Tok):Prop:=isT x.1=true->ya4 (bl x.2)/\(x.1=1->zr6 (hdB (bl x.2))=true)
theorem z9j(p:UInt8->Bool)(l:List UInt8):l.take (l.takeWhile p).length=l.takeWhile p:=by
 induction l with
 |nil=>rfl
 |cons a l ih =>
  rw[List.takeWhile_cons]
  split
  ·simp[ih]
  ·rfl
theorem z9k{p:UInt8->Bool}:∀ {l:List UInt8} {b:UInt8},b∈l.takeWhile p->p b=true
 |[],_,h=>by simp at h
 |a::l,b,h=>by
  rw[List.takeWhile_cons] at h
  split at h
  ·rename_i ha
   rcases List.mem_cons.1 h with rfl|h
   ·exact ha
   ·exact z9k h
  ·cases h
theorem yak:∀(n:Nat) (l:List UInt8) (ts:List Tok),z9c n l=some ts->∀ x∈ts,yd7 x
 |0,_,ts,h,x,hx=>by simp[z9c] at h;subst h;cases hx
 |_+1,[],ts,h,x,hx=>by simp[z9c] at h;subst h;cases hx
 |n+1,a::l,ts,h,x,hx=>by
  unfold z9c at h
  split at h
  ·exact yak n l ts h x hx
  ·split at h
   ·cases h
   ·rename_i hk
    split at h
    ·cases h
    ·rename_i h6
     obtain⟨us,hu,rfl⟩:=Option.map_eq_some_iff.1 h
     rcases List.mem_cons.1 hx with rfl|hx
     ·intro ht
      simp only at ht ⊢
      have hbl:∀ m,bl (⟨((a::l).take m).toArray⟩:ByteArray)=(a::l).take m:=fun m=>by simp[bl]
      rw[hbl]
      generalize hK:zib (byt a) (hdB l)=k at *
      unfold zib at hK
      by_cases hs:zr6 (byt a)=true
      ·rw[if_pos hs] at hK
       subst hK
       have e:z9i (a::l) 1=((a::l).takeWhile fun b=>bLD (byt b)).length:=rfl
       rw[e] at h6 ⊢
       rw[z9j]
       have hh:(a::l).takeWhile (fun b=>bLD (byt b))=a::l.takeWhile (fun b=>bLD (byt b)):=by rw[List.takeWhile_cons,if_pos (by simp[bLD,hs])]
       refine⟨⟨by rw[hh];simp,by omega,Or.inl ⟨Or.inl (by rw[hh];exact hs),fun b hb=>z9k (p:=fun b=>bLD (byt b)) hb⟩⟩,fun _=>by rw[hh];exact hs⟩
      ·rw[if_neg hs] at hK
       by_cases hc:z6j (byt a)=true
       ·rw[if_pos hc] at hK
        subst hK
        have e:z9i (a::l) 2=((a::l).takeWhile fun b=>bLD (byt b)).length:=rfl
        rw[e] at h6 ⊢
        rw[z9j]
        have hh:(a::l).takeWhile (fun b=>bLD (byt b))=a::l.takeWhile (fun b=>bLD (byt b)):=by rw[List.takeWhile_cons,if_pos (by simp[bLD,hc])]
        exact⟨⟨by rw[hh];simp,by omega,Or.inl ⟨Or.inr (by rw[hh];exact hc),fun b hb=>z9k (p:=fun b=>bLD (byt b)) hb⟩⟩,fun q=>by cases q⟩
       ·rw[if_neg hc] at hK
        by_cases hd:zu3 (byt a)=true
        ·rw[if_pos hd] at hK
         subst hK
         have e:z9i (a::l) 3=((a::l).takeWhile fun b=>zu3 (byt b)).length:=rfl
         rw[e] at h6 ⊢
         rw[z9j]
         have hh:(a::l).takeWhile (fun b=>zu3 (byt b))=a::l.takeWhile (fun b=>zu3 (byt b)):=by rw[List.takeWhile_cons,if_pos (by simp[hd])]
         exact⟨⟨by rw[hh];simp,by omega,Or.inr ⟨by rw[hh];exact hd,fun b hb=>z9k (p:=fun b=>zu3 (byt b)) hb⟩⟩,fun q=>by cases q⟩
        ·exfalso
         rw[if_neg hd] at hK
         split at hK
         ·subst hK;simp[isT] at ht
         ·unfold z4c at hK
          (repeat' split at hK) <;> subst hK <;> simp[isT] at ht
     ·exact yak n _ us hu x hx
theorem ya2:∀(r:List Tok) {ts:List ByteArray} {r2:List Tok},zbr r=some (ts,r2)->(∀ x∈r,yd7 x)->(∀ y∈ts,ya4 (bl y))/\∀ x∈r2,x∈r
 |[],_,_,h,_=>by simp[zbr] at h
 |[x],ts,r2,h,ht=>by
  simp only[zbr] at h
  split at h
  ·rename_i hq
   simp only[Option.some.injEq,Prod.mk.injEq] at h
   obtain⟨rfl,rfl⟩:=h
   exact⟨fun y hy=>by simp at hy;subst hy;exact(ht x (by simp) hq).1,by simp⟩
  ·cases h
 |x::y::r,ts,r2,h,ht=>by
  simp only[zbr] at h
  split at h
  ·rename_i hq
   split at h
   ·obtain⟨z,hz,he⟩:=Option.map_eq_some_iff.1 h
    simp only[Prod.mk.injEq] at he
    obtain⟨rfl,rfl⟩:=he
    obtain⟨i1,i2⟩:=ya2 r (ts:=z.1) (r2:=z.2) hz (fun u hu=>ht u (by simp[hu]))
    refine⟨fun u hu=>?_,fun u hu=>by simp[i2 u hu]⟩
    rcases List.mem_cons.1 hu with rfl|hu
    ·exact(ht x (by simp) hq).1
    ·exact i1 u hu
   ·simp only[Option.some.injEq,Prod.mk.injEq] at h
    obtain⟨rfl,rfl⟩:=h
    exact⟨fun u hu=>by simp at hu;subst hu;exact(ht x (by simp) hq).1,fun u hu=>by simp[List.mem_cons.1 hu]⟩
  ·cases h
theorem z9f{x:Tok}{r:List Tok}(h:x∈r.tail):x∈r:=by
 cases r with
 |nil=>exact h
 |cons a r=>simp at h;simp[h]
theorem yag{r:List Tok}{l:zbz}{r2:List Tok}(h:zed r=some (l,r2))(ht:∀ x∈r,yd7 x):l.neg=false/\yam l/\∀ x∈r2,x∈r:=by
 unfold zed at h
 split at h
 ·rename_i h1
  cases r with
  |nil=>simp[hdK] at h1
  |cons a r =>
   have ha:a.1=1:=h1
   have hw:=ht a (by simp) (by rw[ha];rfl)
   have hp:ya4 (bl a.2)/\zr6 (hdB (bl a.2))=true:=⟨hw.1,hw.2 ha⟩
   change (if hdK r=4 then(match zbr r.tail with|none=>none|some (ts,r2)=>if hdK r2=5 then some ((⟨false,a.2,ts⟩:zbz),r2.tail) else none) else some ((⟨false,a.2,[]⟩:zbz),r))=some (l,r2) at h
   by_cases h4:hdK r=4
   ·rw[if_pos h4] at h
    cases hq:zbr r.tail with
    |none=>rw[hq] at h;cases h
    |some z =>
     obtain⟨ts,r3⟩:=z
     rw[hq] at h
     simp only at h
     by_cases h5:hdK r3=5
     ·rw[if_pos h5] at h
      simp only[Option.some.injEq,Prod.mk.injEq] at h
      obtain⟨rfl,rfl⟩:=h
      obtain⟨i1,i2⟩:=ya2 _ hq (fun u hu=>ht u (by simp[z9f hu]))
      exact⟨rfl,⟨hp,i1⟩,fun u hu=>by simp[z9f (i2 u (z9f hu))]⟩
     ·rw[if_neg h5] at h;cases h
   ·rw[if_neg h4] at h
    simp only[Option.some.injEq,Prod.mk.injEq] at h
    obtain⟨rfl,rfl⟩:=h
    exact⟨rfl,⟨hp,fun y hy=>by cases hy⟩,fun u hu=>by simp[hu]⟩
 ·cases h
theorem ydh{r:List Tok}{l:zbz}{r2:List Tok}(h:zrt r=some (l,r2))(ht:∀ x∈r,yd7 x):yam l/\∀ x∈r2,x∈r:=by
 unfold zrt at h
 split at h
 ·obtain⟨z,hz,he⟩:=Option.map_eq_some_iff.1 h
  simp only[Prod.mk.injEq] at he
  obtain⟨rfl,rfl⟩:=he
  obtain⟨_,i2,i3⟩:=yag (l:=z.1) (r2:=z.2) hz (fun u hu=>ht u (z9f hu))
  exact⟨i2,fun u hu=>z9f (i3 u hu)⟩
 ·exact(yag h ht).2
theorem ya5:∀(n:Nat) {r:List Tok} {b:List zbz} {r2:List Tok},ze1 n r=some (b,r2)->(∀ x∈r,yd7 x)->(∀ l∈b,yam l)/\∀ x∈r2,x∈r
 |0,_,_,_,h,_=>by cases h
 |n+1,r,b,r2,h,ht=>by
  unfold ze1 at h
  split at h
  ·cases h
  ·rename_i a r3 hq
   obtain⟨i1,i2⟩:=ydh hq ht
   split at h
   ·obtain⟨z,hz,he⟩:=Option.map_eq_some_iff.1 h
    simp only[Prod.mk.injEq] at he
    obtain⟨rfl,rfl⟩:=he
    obtain⟨j1,j2⟩:=ya5 n (b:=z.1) (r2:=z.2) hz (fun u hu=>ht u (i2 u (z9f hu)))
    refine⟨fun l hl=>?_,fun u hu=>i2 u (z9f (j2 u hu))⟩
    rcases List.mem_cons.1 hl with rfl|hl
    ·exact i1
    ·exact j1 l hl
   ·simp only[Option.some.injEq,Prod.mk.injEq] at h
    obtain⟨rfl,rfl⟩:=h
    exact⟨fun l hl=>by simp at hl;subst hl;exact i1,i2⟩
theorem ybw{n:Nat}{r:List Tok}{c:zab}{r2:List Tok}(h:ze2 n r=some (c,r2))(ht:∀ x∈r,yd7 x):z9s c/\∀ x∈r2,x∈r:=by
 unfold ze2 at h
 split at h
 ·cases h
 ·rename_i a r3 hq
  obtain⟨i0,i1,i2⟩:=yag hq ht
  split at h
  ·split at h
   ·cases h
   ·rename_i b r4 hb
    split at h
    ·simp only[Option.some.injEq,Prod.mk.injEq] at h
     obtain⟨rfl,rfl⟩:=h
     obtain⟨j1,j2⟩:=ya5 n hb (fun u hu=>ht u (i2 u (z9f hu)))
     exact⟨⟨i0,i1,j1⟩,fun u hu=>i2 u (z9f (j2 u (z9f hu)))⟩
    ·cases h
  ·split at h
   ·simp only[Option.some.injEq,Prod.mk.injEq] at h
    obtain⟨rfl,rfl⟩:=h
    exact⟨⟨i0,i1,fun l hl=>by cases hl⟩,fun u hu=>i2 u (z9f hu)⟩
   ·cases h
theorem ya9{n:Nat}:∀(m:Nat) {r:List Tok} {cs:List zab},zes n m r=some cs->(∀ x∈r,yd7 x)->∀ c∈cs,z9s c
 |m,[],cs,h,_=>by cases m <;> (simp[zes] at h;subst h;simp)
 |0,_::_,cs,h,_=>by simp[zes] at h
 |m+1,x::r,cs,h,ht=>by
  unfold zes at h
  split at h
  ·cases h
  ·rename_i c r2 hq
   obtain⟨i1,i2⟩:=ybw hq ht
   obtain⟨ds,hd,rfl⟩:=Option.map_eq_some_iff.1 h
   intro z hz
   rcases List.mem_cons.1 hz with rfl|hz
   ·exact i1
   ·exact ya9 m hd (fun u hu=>ht u (i2 u hu)) z hz
theorem ycg{s:ByteArray}{l:List Tok}(h:splitB s=some l):∀ x∈l,yd7 x:=by
 unfold splitB at h
 rw[ybc] at h
 exact yak _ _ _ h
end Go.Proofs.YteampbddflhngabGreat
