import Derived.Test.YteampbddflhngabGreatR43
import Derived.Test.YteampbddflhngabGreatR04
import Derived.Test.YteampbddflhngabGreatR08

namespace Go.Proofs.YteampbddflhngabGreat
open Classical
theorem z1x{t t':List zam}{l:zbb}(h0:∀ e∈t,e.stratum=0)(h:zou t l=some t'):∀ e∈t',e.stratum=0:=by
 unfold zou at h
 split at h
 ·split at h
  ·simp only[Option.some.injEq] at h;subst h;exact h0
  ·cases h
 ·simp only[Option.some.injEq] at h
  subst h
  intro e he
  rcases zj9.1 he with rfl|he
  ·rfl
  ·exact h0 e he
theorem zow:∀(ls done:List zbb) (t:List zam),Tab t done->(∀ e∈t,e.stratum=0)->(∀ x∈done++ls,∀ y∈done++ls,x.pred=y.pred->x.args.length=y.args.length)->∃ t',ls.foldl zn5 (some t)=some t'/\Tab t' (done++ls)/\∀ e∈t',e.stratum=0
 |[],done,t,h,h0,_=>⟨t,rfl,by simpa using h,h0⟩
 |l::ls,done,t,h,h0,ha=>by
  rw[List.foldl_cons]
  cases hq:zou t l with
  |none =>
   exfalso
   unfold zou at hq
   split at hq
   ·rename_i e he
    obtain⟨hm,hn⟩:=zj3 he
    split at hq
    ·cases hq
    ·rename_i har
     obtain⟨l0,hl0,hp0⟩:=(h.names e.name).1 (List.mem_map.2 ⟨e,hm,rfl⟩)
     apply har
     rw[← h.arity e hm l0 hl0 hp0]
     exact ha l0 (by simp[hl0]) l (by simp) (hp0.trans hn)
   ·cases hq
  |some t2 =>
   rw[show zn5 (some t) l=some t2 from hq]
   obtain⟨t',i1,i2,i3⟩:=zow ls (done++[l]) t2 (h.step hq) (z1x h0 hq) (by simpa [List.append_assoc] using ha)
   exact⟨t',i1,by simpa [List.append_assoc] using i2,i3⟩
theorem z1k{t:List zam}{ls:List zbb}(h:Tab t ls){x y:zbb}(hx:x∈ls)(hy:y∈ls)(e:x.pred=y.pred):x.args.length=y.args.length:=by
 obtain⟨a,hm,hen⟩:=List.mem_map.1 ((h.names x.pred).2 ⟨x,hx,rfl⟩)
 rw[h.arity a hm x hx hen.symm,h.arity a hm y hy (e.symm.trans hen.symm)]
theorem z9o:∀ {t t':List zam},namesT t=namesT t'->zbq (namesT t)->(∀ e∈t,∀ e'∈t',e.name=e'.name->e.arity=e'.arity/\e.stratum=e'.stratum)->t=t'
 |[],[],_,_,_=>rfl
 |[],_::_,h,_,_=>by cases h
 |_::_,[],h,_,_=>by cases h
 |⟨a,b,c⟩::r,⟨a',b',c'⟩::r',h,hr,ha=>by
  simp only[namesT,List.map_cons,List.cons.injEq] at h
  obtain⟨rfl,h⟩:=h
  obtain⟨h1,h2⟩:=ha ⟨a,b,c⟩ (by simp) ⟨a,b',c'⟩ (by simp) rfl
  simp only at h1 h2
  subst h1 h2
  rw[z9o h (List.pairwise_cons.1 hr).2 fun e he e' he' q=>ha e (by simp[he]) e' (by simp[he']) q]
theorem z2j{cs cs2:List zaa}{t0:List zam}(h:zfc cs=some t0)(hs:∀ n k,(∃ l∈cs2.flatMap zax,l.pred=n/\l.args.length=k)↔∃ l∈cs.flatMap zax,l.pred=n/\l.args.length=k):zfc cs2=some t0:=by
 have hT:=zhj h
 have h1:∀ x∈cs.flatMap zax,∀ y∈cs.flatMap zax,x.pred=y.pred->x.args.length=y.args.length:=fun x hx y hy e=>z1k hT hx hy e
 have h2:∀ x∈cs2.flatMap zax,∀ y∈cs2.flatMap zax,x.pred=y.pred->x.args.length=y.args.length:=fun x hx y hy e=>by
  obtain⟨a,ha,a1,a2⟩:=(hs x.pred x.args.length).1 ⟨x,hx,rfl,rfl⟩
  obtain⟨b,hb,b1,b2⟩:=(hs y.pred y.args.length).1 ⟨y,hy,rfl,rfl⟩
  rw[← a2,← b2]
  exact h1 a ha b hb (by rw[a1,b1,e])
 obtain⟨u,u1,u2,u3⟩:=zow (cs.flatMap zax) [] [] zut (fun e he=>by cases he) (by simpa using h1)
 obtain⟨v,v1,v2,v3⟩:=zow (cs2.flatMap zax) [] [] zut (fun e he=>by cases he) (by simpa using h2)
 rw[List.nil_append] at u2 v2
 have hu:u=t0:=by unfold zfc at h;rw[u1] at h;simpa using h
 subst hu
 unfold zfc
 rw[v1]
 congr 1
 have hn:namesT v=namesT u:=zjk v2.rise u2.rise fun n=>by
  rw[v2.names,u2.names]
  constructor
  ·rintro⟨l,hl,rfl⟩
   obtain⟨m,hm,m1,_⟩:=(hs l.pred l.args.length).1 ⟨l,hl,rfl,rfl⟩
   exact⟨m,hm,m1⟩
  ·rintro⟨l,hl,rfl⟩
   obtain⟨m,hm,m1,_⟩:=(hs l.pred l.args.length).2 ⟨l,hl,rfl,rfl⟩
   exact⟨m,hm,m1⟩
 refine z9o hn v2.rise fun e he e' he' q=>⟨?_,by rw[v3 e he,u3 e' he']⟩
 obtain⟨l,hl,hle⟩:=(u2.names e'.name).1 (List.mem_map.2 ⟨e',he',rfl⟩)
 obtain⟨m,hm,m1,m2⟩:=(hs l.pred l.args.length).2 ⟨l,hl,rfl,rfl⟩
 rw[← u2.arity e' he' l hl hle,← v2.arity e he m hm (by rw[m1,hle,q]),m2]
theorem ydn{ps:List ByteArray}(h:zbq ps){i j:Nat}(hi:i < ps.length)(hj:j < ps.length)(e:ps[i]=ps[j]):i=j:=by
 unfold zbq at h
 rw[List.pairwise_iff_getElem] at h
 rcases Nat.lt_trichotomy i j with hl|hl|hl
 ·have:=h i j hi hj hl;rw[e,lt_irrefl] at this;cases this
 ·exact hl
 ·have:=h j i hj hi hl;rw[e,lt_irrefl] at this;cases this
theorem zxo{t:List zam}(h:zbq (namesT t)){e:zam}(he:e∈t):val t e.name=e.stratum:=by
 obtain⟨k,hk,rfl⟩:=List.mem_iff_getElem.1 he
 unfold val
 cases hq:zbk t t[k].name with
 |none=>exact absurd rfl (zir h hq t[k] (List.getElem_mem hk))
 |some e =>
  obtain⟨hp,h1,h2⟩:=zcb hq
  have hj:zaj t t[k].name=k:=ydn h (by simpa [namesT] using hp) (by simpa [namesT] using hk) (by simp[namesT,h1,h2])
  simp only
  rw[← h1]
  congr 1
  congr 1
theorem zus{t:List zam}{cs:List zaa}(h:Tab t (cs.flatMap zax)):zl6 t cs:=by
 intro c hc l hl
 cases he:zbk t l.pred with
 |some e=>rfl
 |none =>
  obtain⟨e,hm,hn⟩:=List.mem_map.1 ((h.names l.pred).2 ⟨l,List.mem_flatMap.2 ⟨c,hc,hl⟩,rfl⟩)
  exact absurd hn (zir h.rise he e hm)
theorem zxp{t:List zam}(h:∀ e∈t,e.stratum=0)(n:ByteArray):val t n=0:=by
 unfold val;split
 ·rename_i e he;exact h e (zj3 he).1
 ·rfl
theorem zr5{cs:List zaa}{t0:List zam}(h:zfc cs=some t0):∀ e∈t0,e.stratum=0:=by
 have hT:=zhj h
 obtain⟨u,u1,u2,u3⟩:=zow (cs.flatMap zax) [] [] zut (fun e he=>by cases he) (fun x hx y hy e=>z1k hT (by simpa using hx) (by simpa using hy) e)
 have hu:u=t0:=by unfold zfc at h;rw[u1] at h;simpa using h
 subst hu
 exact u3
theorem Parts.least{cs:List zaa}{t0 t:List zam}(h:Parts cs t0 t):Least cs (val t):=by
 have:=(zq1 (zus h.tab) (zxp (zr5 h.coll))).2 (by rw[h.strat])
 rwa [h.strat] at this
theorem Parts.nam{cs:List zaa}{t0 t:List zam}(h:Parts cs t0 t):namesT t=namesT t0/\arT t=arT t0:=by
 have h1:=zl3 (t0.length+1) t0 cs (zus h.tab)
 have h2:=zhi (t0.length+1) t0 cs
 rw[h.strat] at h1 h2
 exact⟨h1,h2⟩
theorem yb1{t t':List zam}(hr:zbq (namesT t))(hr':zbq (namesT t'))(ha:arT t=arT t')(hv:∀ n,val t n=val t' n):t=t':=by
 apply List.ext_getElem
 ·have:=congrArg List.length ha;simpa [arT] using this
 ·intro i h1 h2
  have q:(arT t)[i]'(by simpa [arT] using h1)=(arT t')[i]'(by simpa [arT] using h2):=by simp only[ha]
  simp only[arT,List.getElem_map,Prod.mk.injEq] at q
  have q3:=hv t[i].name
  rw[zxo hr (List.getElem_mem h1),q.1,zxo hr' (List.getElem_mem h2)] at q3
  generalize t[i]=x at *
  generalize t'[i]=y at *
  obtain⟨a,b,c⟩:=x
  obtain⟨a',b',c'⟩:=y
  simp only at q q3
  obtain⟨rfl,rfl⟩:=q
  rw[q3]
theorem zzp{cs cs2:List zaa}{t0 t:List zam}(h:Parts cs t0 t)(hc:zfc cs2=some t0)(hs:∀ f,Sol cs2 f↔Sol cs f):zch (t0.length+1) t0 cs2=(t,true):=by
 have hT:=zhj hc
 have hi:=zq1 (zus hT) (zxp (zr5 hc))
 have ht:(zch (t0.length+1) t0 cs2).2=true:=hi.1.2 ⟨_,(hs _).2 h.least.1⟩
 have hl:=hi.2 ht
 have hn:=zl3 (t0.length+1) t0 cs2 (zus hT)
 have ha:=zhi (t0.length+1) t0 cs2
 generalize zch (t0.length+1) t0 cs2=z at *
 obtain⟨t2,b⟩:=z
 simp only at ht hl hn ha
 subst ht
 congr 1
 refine yb1 (by rw[hn];exact hT.rise) (by rw[h.nam.1];exact hT.rise) (ha.trans h.nam.2.symm) fun n=>?_
 exact Nat.le_antisymm (hl.2 _ ((hs _).2 h.least.1) n) (h.least.2 _ ((hs _).1 hl.1) n)
theorem Parts.alike{cs cs2:List zaa}{t0 t:List zam}(h:Parts cs t0 t)(few:prW cs2<=500)(many:∀ c∈cs2,zdz c=false)(safe:∀ c∈cs2,zeh c=true)(hs:∀ n k,(∃ l∈cs2.flatMap zax,l.pred=n/\l.args.length=k)↔∃ l∈cs.flatMap zax,l.pred=n/\l.args.length=k)(hf:∀ f,Sol cs2 f↔Sol cs f):Parts cs2 t0 t :=
 have hc:=z2j h.coll hs
 ⟨few,many,hc,zhj hc,safe,zzp h hc hf⟩
theorem zu7{cs cs2:List zaa}{t0 t t0':List zam}(h:Parts cs t0 t)(h2:Parts cs2 t0' t)(ns:List ByteArray)(hst:∀ s D p x,yad t ns cs s D p x↔yad t ns cs2 s D p x)(hem:∀ s,(∃ c∈cs,0 < c.body.length/\zc9 t c.head.pred=s)↔∃ c∈cs2,0 < c.body.length/\zc9 t c.head.pred=s)(hfa:∀ f,f∈zc1 t ns cs↔f∈zc1 t ns cs2)(mr mx:Nat):zeq (zf2 t ns none cs) mr mx=zeq (zf2 t ns none cs2) mr mx:=by
 have he:∀(cs:List zaa) s,((zed t ns none cs).filter fun r=>decide (r.stratum=s))=[]↔¬ ∃ c∈cs,0 < c.body.length/\zc9 t c.head.pred=s:=by
  intro cs s
  rw[List.filter_eq_nil_iff]
  constructor
  ·rintro q ⟨c,hc,hb,hs⟩
   obtain⟨i,hi,rfl⟩:=List.mem_iff_getElem.1 hc
   have:=q _ (zkr.2 ⟨i,hi,hb,rfl⟩)
   exact this (decide_eq_true hs)
  ·intro q r hr
   obtain⟨i,hi,hb,rfl⟩:=zkr.1 hr
   exact fun e=>q ⟨_,List.getElem_mem hi,hb,of_decide_eq_true e⟩
 have hp:∀ {cs:List zaa} {t0 t:List zam},Parts cs t0 t->∀ i (hi:i < cs.length),zi7 (za9 ((zd1 none i).getD [])) (zaf cs[i]).length:=fun h i hi=>znx (zfn (h.many _ (List.getElem_mem hi)))
 have hF:zgq (zc1 t ns cs)=zgq (zc1 t ns cs2):=by
  funext p x
  unfold zgq
  simp only[hfa]
 unfold zeq
 show(if znf (zgq (zc1 t ns cs)) mr then zcz (zed t ns none cs) mr mx (t.map (·.arity)).length 0 0 (zgq (zc1 t ns cs)) else none)=(if znf (zgq (zc1 t ns cs2)) mr then zcz (zed t ns none cs2) mr mx (t.map (·.arity)).length 0 0 (zgq (zc1 t ns cs2)) else none)
 rw[hF,zld (fun s D p x=>((z1i h ns none (hp h) s D p x).trans (hst s D p x)).trans (z1i h2 ns none (hp h2) s D p x).symm) (fun s=>(he cs s).trans ((not_congr (hem s)).trans (he cs2 s).symm))]
end Go.Proofs.YteampbddflhngabGreat
namespace Go.Proofs.YteampbddflhngabGreat
def zk9(x:ByteArray):Int:=zay (bAt x 0) (bAt x 1)
def zzw(x:ByteArray):Tok:=(zk9 x,x)
structure zjv where
 op:ByteArray
 shut:ByteArray
 comma:ByteArray
 dot:ByteArray
 bang:ByteArray
 arrow:ByteArray
def zlp(S:zjv):List ByteArray->List Tok
 |[]=>[]
 |[x]=>[zzw x]
 |x::y::r=>zzw x::(6,S.comma)::zlp S (y::r)
def zic(S:zjv)(l:zbb):List Tok:=(1,l.pred)::(if l.args=[] then [] else(4,S.op)::(zlp S l.args++[(5,S.shut)]))
def zxz(S:zjv)(l:zbb):List Tok:=if l.neg then(8,S.bang)::zic S l else zic S l
def zi9(S:zjv):List zbb->List Tok
 |[]=>[]
 |[l]=>zxz S l
 |l::m::r=>zxz S l++(6,S.comma)::zi9 S (m::r)
def clK(S:zjv)(c:zaa):List Tok:=zic S c.head++((if c.body=[] then [] else(9,S.arrow)::zi9 S c.body)++[(7,S.dot)])
def zeg(S:zjv)(cs:List zaa):List Tok:=cs.flatMap (clK S)
def zx7(l:zbb):Prop:=∀ x∈l.args,isT (zk9 x)=true
def ycr(c:zaa):Prop:=c.head.neg=false/\zx7 c.head/\∀ l∈c.body,zx7 l
theorem ztn(S:zjv):∀(bs:List ByteArray) (r:List Tok),bs≠[]->(∀ x∈bs,isT (zk9 x)=true)->hdK r≠6->za5 (zlp S bs++r)=some (bs,r)
 |[],_,h,_,_=>absurd rfl h
 |[x],r,_,hx,h6=>zqk (hx x (by simp)) h6
 |x::y::bs,r,_,hx,h6=>by
  have ih:=ztn S (y::bs) r (by simp) (fun z hz=>hx z (by simp[List.mem_cons.1 hz])) h6
  show za5 ((zk9 x,x)::(6,S.comma)::(zlp S (y::bs)++r))=_
  rw[zqj (hx x (by simp)) rfl]
  show(za5 (zlp S (y::bs)++r)).map _=_
  rw[ih]
  rfl
theorem hdK_cons(x:Tok)(r:List Tok):hdK (x::r)=x.1:=rfl
theorem zmc(S:zjv)(l:zbb)(r:List Tok)(hw:zx7 l)(h4:hdK r≠4):zdm (zic S l++r)=some ({ l with neg:=false },r):=by
 unfold zic zdm
 by_cases ha:l.args=[]
 ·simp only[if_pos ha,List.cons_append,List.nil_append,hdK_cons,List.tail_cons,List.headD_cons,if_true,if_neg h4]
  rw[← ha]
 ·have q:za5 (zlp S l.args++((5,S.shut)::r))=some (l.args,(5,S.shut)::r):=ztn S l.args ((5,S.shut)::r) ha hw (by simp[hdK])
  simp only[if_neg ha,List.cons_append,List.append_assoc,List.nil_append,hdK_cons,List.tail_cons,List.headD_cons,if_true,q]
theorem z0u(S:zjv)(l:zbb)(r:List Tok)(hw:zx7 l)(h4:hdK r≠4):zo5 (zxz S l++r)=some (l,r):=by
 unfold zo5 zxz
 cases hn:l.neg with
 |true =>
  simp only[if_true]
  show(if hdK ((8,S.bang)::(zic S l++r))=8 then(zdm (zic S l++r)).map _ else _)=_
  rw[if_pos (show hdK ((8,S.bang)::(zic S l++r))=8 from rfl),zmc S l r hw h4]
  show some (({ l with neg:=true }:zbb),r)=_
  rw[← hn]
 |false =>
  simp only[Bool.false_eq_true,if_false]
  have h8:¬ hdK (zic S l++r)=8:=by unfold zic;show ¬ (1:Int)=8;decide
  rw[if_neg h8,zmc S l r hw h4,← hn]
theorem zvk(S:zjv):∀(n:Nat) (b:List zbb) (r:List Tok),b≠[]->b.length<=n->(∀ l∈b,zx7 l)->hdK r≠4->hdK r≠6->zef n (zi9 S b++r)=some (b,r)
 |_,[],_,h,_,_,_,_=>absurd rfl h
 |0,l::b,_,_,hn,_,_,_=>by simp at hn
 |n+1,[l],r,_,_,hw,h4,h6=>zkv (z0u S l r (hw l (by simp)) h4) h6
 |n+1,l::m::b,r,_,hn,hw,h4,h6=>by
  have ih:=zvk S n (m::b) r (by simp) (by simp at hn ⊢;omega) (fun z hz=>hw z (by simp[List.mem_cons.1 hz])) h4 h6
  have e:zi9 S (l::m::b)++r=zxz S l++((6,S.comma)::(zi9 S (m::b)++r)):=by simp[zi9]
  rw[e,zku (z0u S l _ (hw l (by simp)) (by simp[hdK])) rfl]
  show(zef n (zi9 S (m::b)++r)).map _=_
  rw[ih]
  rfl
theorem zyk(S:zjv)(n:Nat)(c:zaa)(r:List Tok)(hw:ycr c)(hn:c.body.length<=n):zdn n (clK S c++r)=some (c,r):=by
 unfold zdn clK
 obtain⟨hd,hb⟩:=c
 obtain⟨hg,hp,hs⟩:=hd
 obtain⟨h1,h2,h3⟩:=hw
 simp only at h1 h2 h3 hn
 subst h1
 by_cases hb0:hb=[]
 ·subst hb0
  simp only[if_true,List.append_assoc]
  rw[zmc S _ _ h2 (by simp[hdK])]
  simp[hdK]
 ·simp only[if_neg hb0,List.append_assoc]
  rw[zmc S _ _ h2 (by simp[hdK])]
  simp only[List.cons_append,hdK_cons,List.tail_cons,if_true]
  rw[zvk S n hb _ hb0 hn h3 (by simp[hdK]) (by simp[hdK])]
  simp[hdK]
theorem zm2(S:zjv)(n:Nat):∀(m:Nat) (cs:List zaa),(∀ c∈cs,ycr c/\c.body.length<=n)->cs.length<=m->zda n m (zeg S cs)=some cs
 |_,[],_,_=>by unfold zeg;simp[zda]
 |0,c::cs,_,h=>by simp at h
 |m+1,c::cs,hw,h=>by
  have ih:=zm2 S n m cs (fun z hz=>hw z (by simp[hz])) (by simp at h;omega)
  have e:zeg S (c::cs)=clK S c++zeg S cs:=by simp[zeg]
  rw[e,zqi (by unfold clK zic;simp) (zyk S n c _ (hw c (by simp)).1 (hw c (by simp)).2),ih]
  rfl
def byt(b:UInt8):Int:=(b.toNat:Int)
def hdB:List UInt8->Int
 |[]=>0
 |b::_=>byt b
def zgk(l:List UInt8)(k:Int):Nat:=if k=9 then 2 else if k=1∨k=2 then(l.takeWhile fun b=>bLD (byt b)).length else if k=3 then(l.takeWhile fun b=>zi6 (byt b)).length else 1
def zh5:Nat->List UInt8->Option (List Tok)
 |0,_=>some []
 |_+1,[]=>some []
 |n+1,a::l =>
  if zgz (byt a) then zh5 n l
  else if zay (byt a) (hdB l)=0 then none
  else if 6 < zgk (a::l) (zay (byt a) (hdB l)) then none
  else(zh5 n ((a::l).drop (zgk (a::l) (zay (byt a) (hdB l))))).map ((zay (byt a) (hdB l),(⟨((a::l).take (zgk (a::l) (zay (byt a) (hdB l)))).toArray⟩:ByteArray))::·)
theorem zkn(s:ByteArray)(i:Nat):bAt s i=hdB (s.data.toList.drop i):=by
 unfold bAt
 split
 ·rename_i h
  have h':i < s.data.toList.length:=by simpa using h
  rw[List.drop_eq_getElem_cons h']
  simp[hdB,byt,ByteArray.getElem_eq_getElem_data]
 ·rename_i h
  rw[List.drop_eq_nil_of_le (by have:s.data.toList.length=s.size:=(by rw[Array.length_toList];rfl);omega)]
  rfl
theorem zqw(p:Int->Bool)(s:ByteArray):∀(n i:Nat),s.size - i<=n->zc5 p s i=i+((s.data.toList.drop i).takeWhile fun b=>p (byt b)).length:=by
 have hsz:s.data.toList.length=s.size:=by rw[Array.length_toList];rfl
 intro n
 induction n with
 |zero =>
  intro i h
  rw[zge (by omega),List.drop_eq_nil_of_le (by omega)]
  simp
 |succ n ih =>
  intro i h
  by_cases hi:i < s.size
  ·have hb:=zkn s i
   rw[List.drop_eq_getElem_cons (by omega)] at hb ⊢
   simp only[hdB] at hb
   cases hp:p (bAt s i) with
   |false =>
    rw[zm8 hp,List.takeWhile_cons,← hb,hp]
    simp
   |true =>
    rw[ziz hi hp,ih (i+1) (by omega),List.takeWhile_cons,← hb,hp]
    simp
    omega
  ·rw[zge hi,List.drop_eq_nil_of_le (by omega)]
   simp
theorem yau{s:ByteArray}{i:Nat}{k:Int}(hk:k≠0):zn9 s i k=i+zgk (s.data.toList.drop i) k:=by
 unfold zn9 zgk
 rw[if_neg hk]
 split
 ·rfl
 ·split
  ·exact zqw bLD s _ i (Nat.le_refl _)
  ·split
   ·exact zqw zi6 s _ i (Nat.le_refl _)
   ·rfl
theorem zoa(s:ByteArray)(i m:Nat):s.extract i (i+m)=⟨((s.data.toList.drop i).take m).toArray⟩:=by
 apply ByteArray.ext
 rw[ByteArray.data_extract]
 apply Array.ext'
 simp[List.take_drop]
theorem zth(s:ByteArray):∀(n i:Nat),splitN n s i=zh5 n (s.data.toList.drop i):=by
 have hsz:s.data.toList.length=s.size:=by rw[Array.length_toList];rfl
 intro n
 induction n with
 |zero=>intro i;rfl
 |succ n ih =>
  intro i
  by_cases hi:i < s.size
  ·have hb:=zkn s i
   have hb1:=zkn s (i+1)
   have he:∀ k,k≠0->zn9 s i k=i+zgk (s.data.toList.drop i) k:=fun k hk=>yau hk
   have hx:∀ m,s.extract i (i+m)=⟨((s.data.toList.drop i).take m).toArray⟩:=zoa s i
   have hdr:∀ m,s.data.toList.drop (i+m)=(s.data.toList.drop i).drop m:=fun m=>by rw[List.drop_drop]
   have hc:=List.drop_eq_getElem_cons (l:=s.data.toList) (i:=i) (by omega)
   unfold splitN
   rw[if_pos hi]
   rw[hc] at hb he hx hdr ⊢
   unfold zh5
   simp only[hdB] at hb
   rw[hb,hb1,ih]
   split
   ·rfl
   ·split
    ·rfl
    ·rename_i hk
     generalize zay (byt s.data.toList[i]) (hdB (List.drop (i+1) s.data.toList))=k at *
     rw[he k hk]
     generalize zgk (s.data.toList[i]::List.drop (i+1) s.data.toList) k=m at *
     rw[Nat.add_sub_cancel_left,hx m,ih,hdr m]
  ·rw[zq0 hi,List.drop_eq_nil_of_le (by omega)]
   rfl
structure zri (x:List UInt8):Prop where
 ne:x≠[]
 six:x.length<=6
 kind:(zei (hdB x)=true∨zi5 (hdB x)=true)/\(∀ b∈x,bLD (byt b)=true)∨zi6 (hdB x)=true/\∀ b∈x,zi6 (byt b)=true
theorem zij{p:UInt8->Bool}:∀ {x r:List UInt8},(∀ b∈x,p b=true)->(∀ b l,r=b::l->p b=false)->(x++r).takeWhile p=x
 |[],[],_,_=>rfl
 |[],b::r,_,h=>by simp[h b r rfl]
 |a::x,r,hx,h=>by
  rw[List.cons_append,List.takeWhile_cons,if_pos (hx a (by simp)),zij (fun b hb=>hx b (by simp[hb])) h]
def bl(x:ByteArray):List UInt8:=x.data.toList
theorem z5v(a b:ByteArray):bl (a++b)=bl a++bl b:=by simp[bl,ByteArray.data_append]
theorem yc1(x:ByteArray):(⟨(bl x).toArray⟩:ByteArray)=x:=by
 apply ByteArray.ext
 simp[bl]
def signs:zjv:=⟨⟨#[40]⟩,⟨#[41]⟩,⟨#[44]⟩,⟨#[46]⟩,⟨#[33]⟩,⟨#[58,45]⟩⟩
def zjy(l:zbb):Prop:=(zri (bl l.pred)/\zei (hdB (bl l.pred))=true)/\∀ x∈l.args,zri (bl x)
def zlb(c:zaa):Prop:=c.head.neg=false/\zjy c.head/\∀ l∈c.body,zjy l
theorem z1t{x:ByteArray}(h:zri (bl x)):isT (zk9 x)=true:=by
 unfold zk9
 rw[zkn]
 show isT (zay (hdB (bl x)) _)=true
 unfold zay
 rcases h.kind with ⟨hk|hk,_⟩|⟨hk,_⟩
 ·simp[hk,isT]
 ·by_cases hs:zei (hdB (bl x))=true <;> simp[hk,hs,isT]
 ·by_cases hs:zei (hdB (bl x))=true
  ·simp[hs,isT]
  ·by_cases hc:zi5 (hdB (bl x))=true <;> simp[hk,hs,hc,isT]
def ycf(x:Tok):Prop:=isT x.1=true->zri (bl x.2)/\(x.1=1->zei (hdB (bl x.2))=true)
theorem zhd(p:UInt8->Bool)(l:List UInt8):l.take (l.takeWhile p).length=l.takeWhile p:=by
 induction l with
 |nil=>rfl
 |cons a l ih =>
  rw[List.takeWhile_cons]
  split
  ·simp[ih]
  ·rfl
theorem zhq{p:UInt8->Bool}:∀ {l:List UInt8} {b:UInt8},b∈l.takeWhile p->p b=true
 |[],_,h=>by simp at h
 |a::l,b,h=>by
  rw[List.takeWhile_cons] at h
  split at h
  ·rename_i ha
   rcases List.mem_cons.1 h with rfl|h
   ·exact ha
   ·exact zhq h
  ·cases h
theorem zk2:∀(n:Nat) (l:List UInt8) (ts:List Tok),zh5 n l=some ts->∀ x∈ts,ycf x
 |0,_,ts,h,x,hx=>by simp[zh5] at h;subst h;cases hx
 |_+1,[],ts,h,x,hx=>by simp[zh5] at h;subst h;cases hx
 |n+1,a::l,ts,h,x,hx=>by
  unfold zh5 at h
  split at h
  ·exact zk2 n l ts h x hx
  ·split at h
   ·cases h
   ·rename_i hk
    split at h
    ·cases h
    ·rename_i h6
     obtain⟨us,hu,rfl⟩:=Option.map_eq_some_iff.1 h
     rcases List.mem_cons.1 hx with rfl|hx
     ·intro ht
      simp only at ht ⊢
      have hbl:∀ m,bl (⟨((a::l).take m).toArray⟩:ByteArray)=(a::l).take m:=fun m=>by simp[bl]
      rw[hbl]
      generalize hK:zay (byt a) (hdB l)=k at *
      unfold zay at hK
      by_cases hs:zei (byt a)=true
      ·rw[if_pos hs] at hK
       subst hK
       have e:zgk (a::l) 1=((a::l).takeWhile fun b=>bLD (byt b)).length:=rfl
       rw[e] at h6 ⊢
       rw[zhd]
       have hh:(a::l).takeWhile (fun b=>bLD (byt b))=a::l.takeWhile (fun b=>bLD (byt b)):=by rw[List.takeWhile_cons,if_pos (by simp[bLD,hs])]
       refine⟨⟨by rw[hh];simp,by omega,Or.inl ⟨Or.inl (by rw[hh];exact hs),fun b hb=>zhq (p:=fun b=>bLD (byt b)) hb⟩⟩,fun _=>by rw[hh];exact hs⟩
      ·rw[if_neg hs] at hK
       by_cases hc:zi5 (byt a)=true
       ·rw[if_pos hc] at hK
        subst hK
        have e:zgk (a::l) 2=((a::l).takeWhile fun b=>bLD (byt b)).length:=rfl
        rw[e] at h6 ⊢
        rw[zhd]
        have hh:(a::l).takeWhile (fun b=>bLD (byt b))=a::l.takeWhile (fun b=>bLD (byt b)):=by rw[List.takeWhile_cons,if_pos (by simp[bLD,hc])]
        exact⟨⟨by rw[hh];simp,by omega,Or.inl ⟨Or.inr (by rw[hh];exact hc),fun b hb=>zhq (p:=fun b=>bLD (byt b)) hb⟩⟩,fun q=>by cases q⟩
       ·rw[if_neg hc] at hK
        by_cases hd:zi6 (byt a)=true
        ·rw[if_pos hd] at hK
         subst hK
         have e:zgk (a::l) 3=((a::l).takeWhile fun b=>zi6 (byt b)).length:=rfl
         rw[e] at h6 ⊢
         rw[zhd]
         have hh:(a::l).takeWhile (fun b=>zi6 (byt b))=a::l.takeWhile (fun b=>zi6 (byt b)):=by rw[List.takeWhile_cons,if_pos (by simp[hd])]
         exact⟨⟨by rw[hh];simp,by omega,Or.inr ⟨by rw[hh];exact hd,fun b hb=>zhq (p:=fun b=>zi6 (byt b)) hb⟩⟩,fun q=>by cases q⟩
        ·exfalso
         rw[if_neg hd] at hK
         split at hK
         ·subst hK;simp[isT] at ht
         ·unfold zi8 at hK
          (repeat' split at hK) <;> subst hK <;> simp[isT] at ht
     ·exact zk2 n _ us hu x hx
theorem zq3:∀(r:List Tok) {ts:List ByteArray} {r2:List Tok},za5 r=some (ts,r2)->(∀ x∈r,ycf x)->(∀ y∈ts,zri (bl y))/\∀ x∈r2,x∈r
 |[],_,_,h,_=>by simp[za5] at h
 |[x],ts,r2,h,ht=>by
  simp only[za5] at h
  split at h
  ·rename_i hq
   simp only[Option.some.injEq,Prod.mk.injEq] at h
   obtain⟨rfl,rfl⟩:=h
   exact⟨fun y hy=>by simp at hy;subst hy;exact(ht x (by simp) hq).1,by simp⟩
  ·cases h
 |x::y::r,ts,r2,h,ht=>by
  simp only[za5] at h
  split at h
  ·rename_i hq
   split at h
   ·obtain⟨z,hz,he⟩:=Option.map_eq_some_iff.1 h
    simp only[Prod.mk.injEq] at he
    obtain⟨rfl,rfl⟩:=he
    obtain⟨i1,i2⟩:=zq3 r (ts:=z.1) (r2:=z.2) hz (fun u hu=>ht u (by simp[hu]))
    refine⟨fun u hu=>?_,fun u hu=>by simp[i2 u hu]⟩
    rcases List.mem_cons.1 hu with rfl|hu
    ·exact(ht x (by simp) hq).1
    ·exact i1 u hu
   ·simp only[Option.some.injEq,Prod.mk.injEq] at h
    obtain⟨rfl,rfl⟩:=h
    exact⟨fun u hu=>by simp at hu;subst hu;exact(ht x (by simp) hq).1,fun u hu=>by simp[List.mem_cons.1 hu]⟩
  ·cases h
theorem zfu{x:Tok}{r:List Tok}(h:x∈r.tail):x∈r:=by
 cases r with
 |nil=>exact h
 |cons a r=>simp at h;simp[h]
theorem znl{r:List Tok}{l:zbb}{r2:List Tok}(h:zdm r=some (l,r2))(ht:∀ x∈r,ycf x):l.neg=false/\zjy l/\∀ x∈r2,x∈r:=by
 unfold zdm at h
 split at h
 ·rename_i h1
  cases r with
  |nil=>simp[hdK] at h1
  |cons a r =>
   have ha:a.1=1:=h1
   have hw:=ht a (by simp) (by rw[ha];rfl)
   have hp:zri (bl a.2)/\zei (hdB (bl a.2))=true:=⟨hw.1,hw.2 ha⟩
   change (if hdK r=4 then(match za5 r.tail with|none=>none|some (ts,r2)=>if hdK r2=5 then some ((⟨false,a.2,ts⟩:zbb),r2.tail) else none) else some ((⟨false,a.2,[]⟩:zbb),r))=some (l,r2) at h
   by_cases h4:hdK r=4
   ·rw[if_pos h4] at h
    cases hq:za5 r.tail with
    |none=>rw[hq] at h;cases h
    |some z =>
     obtain⟨ts,r3⟩:=z
     rw[hq] at h
     simp only at h
     by_cases h5:hdK r3=5
     ·rw[if_pos h5] at h
      simp only[Option.some.injEq,Prod.mk.injEq] at h
      obtain⟨rfl,rfl⟩:=h
      obtain⟨i1,i2⟩:=zq3 _ hq (fun u hu=>ht u (by simp[zfu hu]))
      exact⟨rfl,⟨hp,i1⟩,fun u hu=>by simp[zfu (i2 u (zfu hu))]⟩
     ·rw[if_neg h5] at h;cases h
   ·rw[if_neg h4] at h
    simp only[Option.some.injEq,Prod.mk.injEq] at h
    obtain⟨rfl,rfl⟩:=h
    exact⟨rfl,⟨hp,fun y hy=>by cases hy⟩,fun u hu=>by simp[hu]⟩
 ·cases h
theorem z7y{r:List Tok}{l:zbb}{r2:List Tok}(h:zo5 r=some (l,r2))(ht:∀ x∈r,ycf x):zjy l/\∀ x∈r2,x∈r:=by
 unfold zo5 at h
 split at h
 ·obtain⟨z,hz,he⟩:=Option.map_eq_some_iff.1 h
  simp only[Prod.mk.injEq] at he
  obtain⟨rfl,rfl⟩:=he
  obtain⟨_,i2,i3⟩:=znl (l:=z.1) (r2:=z.2) hz (fun u hu=>ht u (zfu hu))
  exact⟨i2,fun u hu=>zfu (i3 u hu)⟩
 ·exact(znl h ht).2
theorem zr2:∀(n:Nat) {r:List Tok} {b:List zbb} {r2:List Tok},zef n r=some (b,r2)->(∀ x∈r,ycf x)->(∀ l∈b,zjy l)/\∀ x∈r2,x∈r
 |0,_,_,_,h,_=>by cases h
 |n+1,r,b,r2,h,ht=>by
  unfold zef at h
  split at h
  ·cases h
  ·rename_i a r3 hq
   obtain⟨i1,i2⟩:=z7y hq ht
   split at h
   ·obtain⟨z,hz,he⟩:=Option.map_eq_some_iff.1 h
    simp only[Prod.mk.injEq] at he
    obtain⟨rfl,rfl⟩:=he
    obtain⟨j1,j2⟩:=zr2 n (b:=z.1) (r2:=z.2) hz (fun u hu=>ht u (i2 u (zfu hu)))
    refine⟨fun l hl=>?_,fun u hu=>i2 u (zfu (j2 u hu))⟩
    rcases List.mem_cons.1 hl with rfl|hl
    ·exact i1
    ·exact j1 l hl
   ·simp only[Option.some.injEq,Prod.mk.injEq] at h
    obtain⟨rfl,rfl⟩:=h
    exact⟨fun l hl=>by simp at hl;subst hl;exact i1,i2⟩
theorem zvn{n:Nat}{r:List Tok}{c:zaa}{r2:List Tok}(h:zdn n r=some (c,r2))(ht:∀ x∈r,ycf x):zlb c/\∀ x∈r2,x∈r:=by
 unfold zdn at h
 split at h
 ·cases h
 ·rename_i a r3 hq
  obtain⟨i0,i1,i2⟩:=znl hq ht
  split at h
  ·split at h
   ·cases h
   ·rename_i b r4 hb
    split at h
    ·simp only[Option.some.injEq,Prod.mk.injEq] at h
     obtain⟨rfl,rfl⟩:=h
     obtain⟨j1,j2⟩:=zr2 n hb (fun u hu=>ht u (i2 u (zfu hu)))
     exact⟨⟨i0,i1,j1⟩,fun u hu=>i2 u (zfu (j2 u (zfu hu)))⟩
    ·cases h
  ·split at h
   ·simp only[Option.some.injEq,Prod.mk.injEq] at h
    obtain⟨rfl,rfl⟩:=h
    exact⟨⟨i0,i1,fun l hl=>by cases hl⟩,fun u hu=>i2 u (zfu hu)⟩
   ·cases h
theorem zny{n:Nat}:∀(m:Nat) {r:List Tok} {cs:List zaa},zda n m r=some cs->(∀ x∈r,ycf x)->∀ c∈cs,zlb c
 |m,[],cs,h,_=>by cases m <;> (simp[zda] at h;subst h;simp)
 |0,_::_,cs,h,_=>by simp[zda] at h
 |m+1,x::r,cs,h,ht=>by
  unfold zda at h
  split at h
  ·cases h
  ·rename_i c r2 hq
   obtain⟨i1,i2⟩:=zvn hq ht
   obtain⟨ds,hd,rfl⟩:=Option.map_eq_some_iff.1 h
   intro z hz
   rcases List.mem_cons.1 hz with rfl|hz
   ·exact i1
   ·exact zny m hd (fun u hu=>ht u (i2 u hu)) z hz
theorem zzo{s:ByteArray}{l:List Tok}(h:splitB s=some l):∀ x∈l,ycf x:=by
 unfold splitB at h
 rw[zth] at h
 exact zk2 _ _ _ h
theorem zmp{a:UInt8}{c:Int}{l:List UInt8}(_h:zay (byt a) c≠0):1<=zgk (a::l) (zay (byt a) c):=by
 unfold zgk
 generalize hK:zay (byt a) c=k at *
 unfold zay at hK
 split
 ·omega
 ·split
  ·rename_i h12
   have:bLD (byt a)=true:=by
    split at hK
    ·rename_i q;simp[bLD,q]
    ·split at hK
     ·rename_i q;simp[bLD,q]
     ·split at hK
      ·omega
      ·split at hK
       ·omega
       ·unfold zi8 at hK;split at hK <;> (try split at hK) <;> (try split at hK) <;> (try split at hK) <;> (try split at hK) <;> omega
   rw[List.takeWhile_cons,if_pos this]
   simp
  ·split
   ·rename_i h3
    have:zi6 (byt a)=true:=by
     split at hK
     ·omega
     ·split at hK
      ·omega
      ·split at hK
       ·assumption
       ·split at hK
        ·omega
        ·unfold zi8 at hK;split at hK <;> (try split at hK) <;> (try split at hK) <;> (try split at hK) <;> (try split at hK) <;> omega
    rw[List.takeWhile_cons,if_pos this]
    simp
   ·omega
def zg2(l:List UInt8):Option (List Tok):=zh5 l.length l
theorem splitF_nil:zg2 []=some []:=rfl
theorem zjl:∀(m:Nat) (l:List UInt8),l.length<=m->∀ n,l.length<=n->zh5 n l=zh5 l.length l
 |_,[],_,n,_=>by cases n <;> rfl
 |0,_::_,h,_,_=>by simp at h
 |m+1,a::l,h,n,hn=>by
  cases n with
  |zero=>simp at hn
  |succ n =>
   simp only[List.length_cons] at h hn ⊢
   unfold zh5
   rw[zjl m l (by omega) n (by omega)]
   split
   ·rfl
   ·split
    ·rfl
    ·rename_i hk
     split
     ·rfl
     ·have hp:=zmp (l:=l) hk
      have hd:((a::l).drop (zgk (a::l) (zay (byt a) (hdB l)))).length<=l.length:=by rw[List.length_drop];simp;omega
      rw[zjl m _ (by omega) n (by omega),zjl m ((a::l).drop (zgk (a::l) (zay (byt a) (hdB l)))) (by omega) l.length hd]
theorem zfj(a:UInt8)(l:List UInt8):zg2 (a::l)=if zgz (byt a) then zg2 l else if zay (byt a) (hdB l)=0 then none else if 6 < zgk (a::l) (zay (byt a) (hdB l)) then none else(zg2 ((a::l).drop (zgk (a::l) (zay (byt a) (hdB l))))).map ((zay (byt a) (hdB l),(⟨((a::l).take (zgk (a::l) (zay (byt a) (hdB l)))).toArray⟩:ByteArray))::·):=by
 show zh5 (l.length+1) (a::l)=_
 unfold zh5
 split
 ·rfl
 ·split
  ·rfl
  ·rename_i hk
   split
   ·rfl
   ·have hp:=zmp (l:=l) hk
    have hd:((a::l).drop (zgk (a::l) (zay (byt a) (hdB l)))).length<=l.length:=by rw[List.length_drop];simp;omega
    rw[zjl _ _ (Nat.le_refl _) l.length hd]
    rfl
theorem zur(s:ByteArray):splitB s=zg2 (bl s):=by
 have hsz:s.data.toList.length=s.size:=by rw[Array.length_toList];rfl
 unfold splitB zg2 bl
 rw[zth,List.drop_zero,hsz]
theorem ydx{a:UInt8}{l:List UInt8}:zay (byt a) (hdB l)≠0->zgk (a::l) (zay (byt a) (hdB l))<=(a::l).length:=by
 intro h
 have htw:∀(p:UInt8->Bool) (x:List UInt8),(x.takeWhile p).length<=x.length:=fun p x=>(List.takeWhile_sublist p).length_le
 unfold zgk
 split
 ·rename_i h9
  cases l with
  |nil =>
   exfalso
   unfold zay at h9
   split at h9
   ·omega
   ·split at h9
    ·omega
    ·split at h9
     ·omega
     ·rw[if_neg (by rintro⟨_,q⟩;cases q)] at h9
      unfold zi8 at h9
      split at h9 <;> (try split at h9) <;> (try split at h9) <;> (try split at h9) <;> (try split at h9) <;> omega
  |cons b l=>simp
 ·split
  ·exact htw _ _
  ·split
   ·exact htw _ _
   ·simp
theorem zjy.word{l:zbb}(h:zjy l):zx7 l:=fun x hx=>z1t (h.2 x hx)
theorem zlb.word{c:zaa}(h:zlb c):ycr c:=⟨h.1,h.2.1.word,fun l hl=>(h.2.2 l hl).word⟩
theorem z0s(S:zjv)(l:zbb):1<=(zxz S l).length:=by
 unfold zxz zic
 split <;> simp
theorem zvh(S:zjv):∀ b:List zbb,b.length<=(zi9 S b).length
 |[]=>by simp
 |[l]=>by have:=z0s S l;simp[zi9];exact this
 |l::m::r=>by
  have ih:=zvh S (m::r)
  have:=z0s S l
  simp only[zi9,List.length_append,List.length_cons] at ih ⊢
  omega
theorem yc3(S:zjv)(c:zaa):c.body.length+1<=(clK S c).length:=by
 have:=zvh S c.body
 unfold clK
 by_cases hb:c.body=[]
 ·simp[hb]
 ·simp only[if_neg hb,List.length_append,List.length_cons,List.length_nil]
  omega
theorem zhs(S:zjv):∀ cs:List zaa,cs.length<=(zeg S cs).length/\∀ c∈cs,c.body.length<=(zeg S cs).length
 |[]=>⟨by simp,fun c h=>by cases h⟩
 |c::cs=>by
  obtain⟨i1,i2⟩:=zhs S cs
  have hc:=yc3 S c
  have e:(zeg S (c::cs)).length=(clK S c).length+(zeg S cs).length:=by simp[zeg]
  refine⟨by rw[e];simp;omega,fun d hd=>?_⟩
  rw[e]
  rcases List.mem_cons.1 hd with rfl|hd
  ·omega
  ·have:=i2 d hd;omega
end Go.Proofs.YteampbddflhngabGreat
