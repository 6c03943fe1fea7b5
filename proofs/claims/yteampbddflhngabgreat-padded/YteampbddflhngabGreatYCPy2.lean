import Derived.Test.YteampbddflhngabGreatY43
import Derived.Test.YteampbddflhngabGreatY04
import Derived.Test.YteampbddflhngabGreatY08

namespace Go.Proofs.YteampbddflhngabGreat
open Classical
theorem ydd{t t':List zar}{l:zbp}(h0:∀ e∈t,e.stratum=0)(h:zps t l=some t'):∀ e∈t',e.stratum=0:=by
 unfold zps at h
 split at h
 ·split at h
  ·simp only[Option.some.injEq] at h;subst h;exact h0
  ·cases h
 ·simp only[Option.some.injEq] at h
  subst h
  intro e he
  rcases zlg.1 he with rfl|he
  ·rfl
  ·exact h0 e he
theorem yca:∀(ls done:List zbp) (t:List zar),Tab t done->(∀ e∈t,e.stratum=0)->(∀ x∈done++ls,∀ y∈done++ls,x.pred=y.pred->x.args.length=y.args.length)->∃ t',ls.foldl zm7 (some t)=some t'/\Tab t' (done++ls)/\∀ e∈t',e.stratum=0
 |[],done,t,h,h0,_=>⟨t,rfl,by simpa using h,h0⟩
 |l::ls,done,t,h,h0,ha=>by
  rw[List.foldl_cons]
  cases hq:zps t l with
  |none =>
   exfalso
   unfold zps at hq
   split at hq
   ·rename_i e he
    obtain⟨hm,hn⟩:=zn3 he
    split at hq
    ·cases hq
    ·rename_i har
     obtain⟨l0,hl0,hp0⟩:=(h.names e.name).1 (List.mem_map.2 ⟨e,hm,rfl⟩)
     apply har
     rw[← h.arity e hm l0 hl0 hp0]
     exact ha l0 (by simp[hl0]) l (by simp) (hp0.trans hn)
   ·cases hq
  |some t2 =>
   rw[show zm7 (some t) l=some t2 from hq]
   obtain⟨t',i1,i2,i3⟩:=yca ls (done++[l]) t2 (h.step hq) (ydd h0 hq) (by simpa [List.append_assoc] using ha)
   exact⟨t',i1,by simpa [List.append_assoc] using i2,i3⟩
theorem yci{t:List zar}{ls:List zbp}(h:Tab t ls){x y:zbp}(hx:x∈ls)(hy:y∈ls)(e:x.pred=y.pred):x.args.length=y.args.length:=by
 obtain⟨a,hm,hen⟩:=List.mem_map.1 ((h.names x.pred).2 ⟨x,hx,rfl⟩)
 rw[h.arity a hm x hx hen.symm,h.arity a hm y hy (e.symm.trans hen.symm)]
theorem yev{ps:List ByteArray}(h:zca ps){i j:Nat}(hi:i < ps.length)(hj:j < ps.length)(e:ps[i]=ps[j]):i=j:=by
 unfold zca at h
 rw[List.pairwise_iff_getElem] at h
 rcases Nat.lt_trichotomy i j with hl|hl|hl
 ·have:=h i j hi hj hl;rw[e,lt_irrefl] at this;cases this
 ·exact hl
 ·have:=h j i hj hi hl;rw[e,lt_irrefl] at this;cases this
theorem ych{t:List zar}{cs:List zab}(h:Tab t (cs.flatMap za2)):zlv t cs:=by
 intro c hc l hl
 cases he:zbh t l.pred with
 |some e=>rfl
 |none =>
  obtain⟨e,hm,hn⟩:=List.mem_map.1 ((h.names l.pred).2 ⟨l,List.mem_flatMap.2 ⟨c,hc,hl⟩,rfl⟩)
  exact absurd hn (zk0 h.rise he e hm)
theorem ycy{t:List zar}(h:∀ e∈t,e.stratum=0)(n:ByteArray):val t n=0:=by
 unfold val;split
 ·rename_i e he;exact h e (zn3 he).1
 ·rfl
theorem ydf{cs:List zab}{t0:List zar}(h:zgn cs=some t0):∀ e∈t0,e.stratum=0:=by
 have hT:=zvu h
 obtain⟨u,u1,u2,u3⟩:=yca (cs.flatMap za2) [] [] z81 (fun e he=>by cases he) (fun x hx y hy e=>yci hT (by simpa using hx) (by simpa using hy) e)
 have hu:u=t0:=by unfold zgn at h;rw[u1] at h;simpa using h
 subst hu
 exact u3
theorem Parts.least{cs:List zab}{t0 t:List zar}(h:Parts cs t0 t):Least cs (val t):=by
 have:=(z4g (ych h.tab) (ycy (ydf h.coll))).2 (by rw[h.strat])
 rwa [h.strat] at this
theorem Parts.nam{cs:List zab}{t0 t:List zar}(h:Parts cs t0 t):namesT t=namesT t0/\arT t=arT t0:=by
 have h1:=zw0 (t0.length+1) t0 cs (ych h.tab)
 have h2:=ziu (t0.length+1) t0 cs
 rw[h.strat] at h1 h2
 exact⟨h1,h2⟩
end Go.Proofs.YteampbddflhngabGreat
namespace Go.Proofs.YteampbddflhngabGreat
def ybi(x:ByteArray):Int:=zii (bAt x 0) (bAt x 1)
def ydi(x:ByteArray):Tok:=(ybi x,x)
structure yaz where
 op:ByteArray
 shut:ByteArray
 comma:ByteArray
 dot:ByteArray
 bang:ByteArray
 arrow:ByteArray
def ybd(S:yaz):List ByteArray->List Tok
 |[]=>[]
 |[x]=>[ydi x]
 |x::y::r=>ydi x::(6,S.comma)::ybd S (y::r)
def yau(S:yaz)(l:zbp):List Tok:=(1,l.pred)::(if l.args=[] then [] else(4,S.op)::(ybd S l.args++[(5,S.shut)]))
def ycr(S:yaz)(l:zbp):List Tok:=if l.neg then(8,S.bang)::yau S l else yau S l
def ya1(S:yaz):List zbp->List Tok
 |[]=>[]
 |[l]=>ycr S l
 |l::m::r=>ycr S l++(6,S.comma)::ya1 S (m::r)
def clK(S:yaz)(c:zab):List Tok:=yau S c.head++((if c.body=[] then [] else(9,S.arrow)::ya1 S c.body)++[(7,S.dot)])
def yal(S:yaz)(cs:List zab):List Tok:=cs.flatMap (clK S)
def yb8(l:zbp):Prop:=∀ x∈l.args,isT (ybi x)=true
def yd4(c:zab):Prop:=c.head.neg=false/\yb8 c.head/\∀ l∈c.body,yb8 l
theorem yb7(S:yaz):∀(bs:List ByteArray) (r:List Tok),bs≠[]->(∀ x∈bs,isT (ybi x)=true)->hdK r≠6->zbv (ybd S bs++r)=some (bs,r)
 |[],_,h,_,_=>absurd rfl h
 |[x],r,_,hx,h6=>zwm (hx x (by simp)) h6
 |x::y::bs,r,_,hx,h6=>by
  have ih:=yb7 S (y::bs) r (by simp) (fun z hz=>hx z (by simp[List.mem_cons.1 hz])) h6
  show zbv ((ybi x,x)::(6,S.comma)::(ybd S (y::bs)++r))=_
  rw[zwl (hx x (by simp)) rfl]
  show(zbv (ybd S (y::bs)++r)).map _=_
  rw[ih]
  rfl
theorem ycc(x:Tok)(r:List Tok):hdK (x::r)=x.1:=rfl
theorem ybc(S:yaz)(l:zbp)(r:List Tok)(hw:yb8 l)(h4:hdK r≠4):zeh (yau S l++r)=some ({ l with neg:=false },r):=by
 unfold yau zeh
 by_cases ha:l.args=[]
 ·simp only[if_pos ha,List.cons_append,List.nil_append,ycc,List.tail_cons,List.headD_cons,if_true,if_neg h4]
  rw[← ha]
 ·have q:zbv (ybd S l.args++((5,S.shut)::r))=some (l.args,(5,S.shut)::r):=yb7 S l.args ((5,S.shut)::r) ha hw (by simp[hdK])
  simp only[if_neg ha,List.cons_append,List.append_assoc,List.nil_append,ycc,List.tail_cons,List.headD_cons,if_true,q]
theorem yda(S:yaz)(l:zbp)(r:List Tok)(hw:yb8 l)(h4:hdK r≠4):zsg (ycr S l++r)=some (l,r):=by
 unfold zsg ycr
 cases hn:l.neg with
 |true =>
  simp only[if_true]
  show(if hdK ((8,S.bang)::(yau S l++r))=8 then(zeh (yau S l++r)).map _ else _)=_
  rw[if_pos (show hdK ((8,S.bang)::(yau S l++r))=8 from rfl),ybc S l r hw h4]
  show some (({ l with neg:=true }:zbp),r)=_
  rw[← hn]
 |false =>
  simp only[Bool.false_eq_true,if_false]
  have h8:¬ hdK (yau S l++r)=8:=by unfold yau;show ¬ (1:Int)=8;decide
  rw[if_neg h8,ybc S l r hw h4,← hn]
theorem ycm(S:yaz):∀(n:Nat) (b:List zbp) (r:List Tok),b≠[]->b.length<=n->(∀ l∈b,yb8 l)->hdK r≠4->hdK r≠6->ze4 n (ya1 S b++r)=some (b,r)
 |_,[],_,h,_,_,_,_=>absurd rfl h
 |0,l::b,_,_,hn,_,_,_=>by simp at hn
 |n+1,[l],r,_,_,hw,h4,h6=>zme (yda S l r (hw l (by simp)) h4) h6
 |n+1,l::m::b,r,_,hn,hw,h4,h6=>by
  have ih:=ycm S n (m::b) r (by simp) (by simp at hn ⊢;omega) (fun z hz=>hw z (by simp[List.mem_cons.1 hz])) h4 h6
  have e:ya1 S (l::m::b)++r=ycr S l++((6,S.comma)::(ya1 S (m::b)++r)):=by simp[ya1]
  rw[e,zmd (yda S l _ (hw l (by simp)) (by simp[hdK])) rfl]
  show(ze4 n (ya1 S (m::b)++r)).map _=_
  rw[ih]
  rfl
theorem yc0(S:yaz)(n:Nat)(c:zab)(r:List Tok)(hw:yd4 c)(hn:c.body.length<=n):ze5 n (clK S c++r)=some (c,r):=by
 unfold ze5 clK
 obtain⟨hd,hb⟩:=c
 obtain⟨hg,hp,hs⟩:=hd
 obtain⟨h1,h2,h3⟩:=hw
 simp only at h1 h2 h3 hn
 subst h1
 by_cases hb0:hb=[]
 ·subst hb0
  simp only[if_true,List.append_assoc]
  rw[ybc S _ _ h2 (by simp[hdK])]
  simp[hdK]
 ·simp only[if_neg hb0,List.append_assoc]
  rw[ybc S _ _ h2 (by simp[hdK])]
  simp only[List.cons_append,ycc,List.tail_cons,if_true]
  rw[ycm S n hb _ hb0 hn h3 (by simp[hdK]) (by simp[hdK])]
  simp[hdK]
theorem ybq(S:yaz)(n:Nat):∀(m:Nat) (cs:List zab),(∀ c∈cs,yd4 c/\c.body.length<=n)->cs.length<=m->zew n m (yal S cs)=some cs
 |_,[],_,_=>by unfold yal;simp[zew]
 |0,c::cs,_,h=>by simp at h
 |m+1,c::cs,hw,h=>by
  have ih:=ybq S n m cs (fun z hz=>hw z (by simp[hz])) (by simp at h;omega)
  have e:yal S (c::cs)=clK S c++yal S cs:=by simp[yal]
  rw[e,zuh (by unfold clK yau;simp) (yc0 S n c _ (hw c (by simp)).1 (hw c (by simp)).2),ih]
  rfl
def byt(b:UInt8):Int:=(b.toNat:Int)
def hdB:List UInt8->Int
 |[]=>0
 |b::_=>byt b
def yap(l:List UInt8)(k:Int):Nat:=if k=9 then 2 else if k=1∨k=2 then(l.takeWhile fun b=>bLD (byt b)).length else if k=3 then(l.takeWhile fun b=>zvq (byt b)).length else 1
def yak:Nat->List UInt8->Option (List Tok)
 |0,_=>some []
 |_+1,[]=>some []
 |n+1,a::l =>
  if zmn (byt a) then yak n l
  else if zii (byt a) (hdB l)=0 then none
  else if 6 < yap (a::l) (zii (byt a) (hdB l)) then none
  else(yak n ((a::l).drop (yap (a::l) (zii (byt a) (hdB l))))).map ((zii (byt a) (hdB l),(⟨((a::l).take (yap (a::l) (zii (byt a) (hdB l)))).toArray⟩:ByteArray))::·)
theorem yax(s:ByteArray)(i:Nat):bAt s i=hdB (s.data.toList.drop i):=by
 unfold bAt
 split
 ·rename_i h
  have h':i < s.data.toList.length:=by simpa using h
  rw[List.drop_eq_getElem_cons h']
  simp[hdB,byt,ByteArray.getElem_eq_getElem_data]
 ·rename_i h
  rw[List.drop_eq_nil_of_le (by have:s.data.toList.length=s.size:=(by rw[Array.length_toList];rfl);omega)]
  rfl
theorem ybs(p:Int->Bool)(s:ByteArray):∀(n i:Nat),s.size - i<=n->zc5 p s i=i+((s.data.toList.drop i).takeWhile fun b=>p (byt b)).length:=by
 have hsz:s.data.toList.length=s.size:=by rw[Array.length_toList];rfl
 intro n
 induction n with
 |zero =>
  intro i h
  rw[zib (by omega),List.drop_eq_nil_of_le (by omega)]
  simp
 |succ n ih =>
  intro i h
  by_cases hi:i < s.size
  ·have hb:=yax s i
   rw[List.drop_eq_getElem_cons (by omega)] at hb ⊢
   simp only[hdB] at hb
   cases hp:p (bAt s i) with
   |false =>
    rw[zo0 hp,List.takeWhile_cons,← hb,hp]
    simp
   |true =>
    rw[zjm hi hp,ih (i+1) (by omega),List.takeWhile_cons,← hb,hp]
    simp
    omega
  ·rw[zib hi,List.drop_eq_nil_of_le (by omega)]
   simp
theorem yd6{s:ByteArray}{i:Nat}{k:Int}(hk:k≠0):zn2 s i k=i+yap (s.data.toList.drop i) k:=by
 unfold zn2 yap
 rw[if_neg hk]
 split
 ·rfl
 ·split
  ·exact ybs bLD s _ i (Nat.le_refl _)
  ·split
   ·exact ybs zvq s _ i (Nat.le_refl _)
   ·rfl
theorem ycq(s:ByteArray)(i m:Nat):s.extract i (i+m)=⟨((s.data.toList.drop i).take m).toArray⟩:=by
 apply ByteArray.ext
 rw[ByteArray.data_extract]
 apply Array.ext'
 simp[List.take_drop]
theorem yb5(s:ByteArray):∀(n i:Nat),splitN n s i=yak n (s.data.toList.drop i):=by
 have hsz:s.data.toList.length=s.size:=by rw[Array.length_toList];rfl
 intro n
 induction n with
 |zero=>intro i;rfl
 |succ n ih =>
  intro i
  by_cases hi:i < s.size
  ·have hb:=yax s i
   have hb1:=yax s (i+1)
   have he:∀ k,k≠0->zn2 s i k=i+yap (s.data.toList.drop i) k:=fun k hk=>yd6 hk
   have hx:∀ m,s.extract i (i+m)=⟨((s.data.toList.drop i).take m).toArray⟩:=ycq s i
   have hdr:∀ m,s.data.toList.drop (i+m)=(s.data.toList.drop i).drop m:=fun m=>by rw[List.drop_drop]
   have hc:=List.drop_eq_getElem_cons (l:=s.data.toList) (i:=i) (by omega)
   unfold splitN
   rw[if_pos hi]
   rw[hc] at hb he hx hdr ⊢
   unfold yak
   simp only[hdB] at hb
   rw[hb,hb1,ih]
   split
   ·rfl
   ·split
    ·rfl
    ·rename_i hk
     generalize zii (byt s.data.toList[i]) (hdB (List.drop (i+1) s.data.toList))=k at *
     rw[he k hk]
     generalize yap (s.data.toList[i]::List.drop (i+1) s.data.toList) k=m at *
     rw[Nat.add_sub_cancel_left,hx m,ih,hdr m]
  ·rw[zwy hi,List.drop_eq_nil_of_le (by omega)]
   rfl
def RdA(l:List UInt8)(ts:List Tok):Prop:=∃ m,m<=l.length/\∀ n r,yak (n+m) (l++r)=(yak n r).map (ts++·)
def RdN(l:List UInt8)(ts:List Tok):Prop:=∃ m,m<=l.length/\∀ n r,bLD (hdB r)=false->yak (n+m) (l++r)=(yak n r).map (ts++·)
theorem ybm{a b:List Tok}(o:Option (List Tok)):(o.map (b++·)).map (a++·)=o.map ((a++b)++·):=by cases o <;> simp
theorem RdA.rdn{l:List UInt8}{ts:List Tok}(h:RdA l ts):RdN l ts:=by
 obtain⟨m,h1,h2⟩:=h
 exact⟨m,h1,fun n r _=>h2 n r⟩
theorem RdA.app{l l':List UInt8}{ts ts':List Tok}(h:RdA l ts)(k:RdA l' ts'):RdA (l++l') (ts++ts'):=by
 obtain⟨m,h1,h2⟩:=h
 obtain⟨m',k1,k2⟩:=k
 refine⟨m'+m,by simp;omega,fun n r=>?_⟩
 rw[← Nat.add_assoc,List.append_assoc,h2,k2,ybm]
theorem RdA.appN{l l':List UInt8}{ts ts':List Tok}(h:RdA l ts)(k:RdN l' ts'):RdN (l++l') (ts++ts'):=by
 obtain⟨m,h1,h2⟩:=h
 obtain⟨m',k1,k2⟩:=k
 refine⟨m'+m,by simp;omega,fun n r hr=>?_⟩
 rw[← Nat.add_assoc,List.append_assoc,h2,k2 _ _ hr,ybm]
theorem ydn{l r:List UInt8}(h:l≠[]):hdB (l++r)=hdB l:=by
 cases l with
 |nil=>exact absurd rfl h
 |cons a l=>rfl
theorem RdN.app{l l':List UInt8}{ts ts':List Tok}(h:RdN l ts)(hl:l'≠[])(hd:bLD (hdB l')=false)(k:RdA l' ts'):RdA (l++l') (ts++ts'):=by
 obtain⟨m,h1,h2⟩:=h
 obtain⟨m',k1,k2⟩:=k
 refine⟨m'+m,by simp;omega,fun n r=>?_⟩
 rw[← Nat.add_assoc,List.append_assoc,h2 _ _ (by rw[ydn hl];exact hd),k2,ybm]
theorem RdN.appN{l l':List UInt8}{ts ts':List Tok}(h:RdN l ts)(hl:l'≠[])(hd:bLD (hdB l')=false)(k:RdN l' ts'):RdN (l++l') (ts++ts'):=by
 obtain⟨m,h1,h2⟩:=h
 obtain⟨m',k1,k2⟩:=k
 refine⟨m'+m,by simp;omega,fun n r hr=>?_⟩
 rw[← Nat.add_assoc,List.append_assoc,h2 _ _ (by rw[ydn hl];exact hd),k2 _ _ hr,ybm]
theorem ybk{b:UInt8}(h:zmn (byt b)=true):RdA [b] []:=⟨1,by simp,fun n r=>by
 show yak (n+1) (b::r)=_
 rw[yak,if_pos h]
 cases yak n r <;> simp⟩
theorem ybr{b:UInt8}{k:Int}(hb:zmn (byt b)=false)(hk:∀ c,zii (byt b) c=k)(h0:k≠0/\k≠1/\k≠2/\k≠3/\k≠9):RdA [b] [(k,⟨#[b]⟩)]:=⟨1,by simp,fun n r=>by
 have hl:yap (b::r) k=1:=by unfold yap;rw[if_neg h0.2.2.2.2,if_neg (by omega),if_neg h0.2.2.2.1]
 show yak (n+1) (b::r)=_
 rw[yak,hk,hb,hl]
 simp[h0.1]⟩
structure ya0 (x:List UInt8):Prop where
 ne:x≠[]
 six:x.length<=6
 kind:(zsu (hdB x)=true∨z7m (hdB x)=true)/\(∀ b∈x,bLD (byt b)=true)∨zvq (hdB x)=true/\∀ b∈x,zvq (byt b)=true
theorem yao{p:UInt8->Bool}:∀ {x r:List UInt8},(∀ b∈x,p b=true)->(∀ b l,r=b::l->p b=false)->(x++r).takeWhile p=x
 |[],[],_,_=>rfl
 |[],b::r,_,h=>by simp[h b r rfl]
 |a::x,r,hx,h=>by
  rw[List.cons_append,List.takeWhile_cons,if_pos (hx a (by simp)),yao (fun b hb=>hx b (by simp[hb])) h]
theorem yd0{x:List UInt8}(h:ya0 x):RdN x [(zii (hdB x) (hdB x.tail),⟨x.toArray⟩)]:=⟨1,by have:=h.ne;cases x;exact absurd rfl this;simp,fun n r hr=>by
 obtain⟨hne,h6,hk⟩:=h
 cases x with
 |nil=>exact absurd rfl hne
 |cons a x =>
  have hd:hdB (a::x)=byt a:=rfl
  rw[hd] at hk ⊢
  have hdig:zvq (hdB r)=false:=by
   simp only[bLD,Bool.or_eq_false_iff] at hr
   exact hr.2
  have hstop:∀(p:Int->Bool),p (hdB r)=false->∀ b l,r=b::l->(fun b=>p (byt b)) b=false:=by
   intro p hp b l e
   subst e
   exact hp
  have hkind:∀ c d,zii (byt a) c=zii (byt a) d:=by
   intro c d
   unfold zii
   rcases hk with ⟨hk|hk,_⟩|⟨hk,_⟩
   ·simp[hk]
   ·simp[hk]
   ·simp[hk]
  have hbl:zmn (byt a)=false:=by
   have:bLD (byt a)=true:=by
    rcases hk with ⟨_,hk⟩|⟨hk,_⟩
    ·exact hk a (by simp)
    ·simp[bLD,hk]
   simp only[bLD,zsu,z7m,zvq,Bool.or_eq_true,Bool.and_eq_true,decide_eq_true_eq] at this
   simp only[zmn,Bool.or_eq_false_iff,beq_eq_false_iff_ne]
   omega
  have hlen:∀ c,yap (a::x++r) (zii (byt a) c)=(a::x).length/\zii (byt a) c≠0:=by
   intro c
   by_cases hs:zsu (byt a)=true
   ·have e:zii (byt a) c=1:=by simp[zii,hs]
    have hall:∀ b∈a::x,bLD (byt b)=true:=by
     rcases hk with ⟨_,hk⟩|⟨_,hk⟩
     ·exact hk
     ·intro b hb;simp[bLD,hk b hb]
    rw[e]
    refine⟨?_,by decide⟩
    unfold yap
    rw[if_neg (by decide),if_pos (Or.inl rfl),yao hall (hstop bLD hr)]
   ·by_cases hc:z7m (byt a)=true
    ·have e:zii (byt a) c=2:=by simp[zii,hs,hc]
     have hall:∀ b∈a::x,bLD (byt b)=true:=by
      rcases hk with ⟨_,hk⟩|⟨_,hk⟩
      ·exact hk
      ·intro b hb;simp[bLD,hk b hb]
     rw[e]
     refine⟨?_,by decide⟩
     unfold yap
     rw[if_neg (by decide),if_pos (Or.inr rfl),yao hall (hstop bLD hr)]
    ·rcases hk with ⟨hk|hk,_⟩|⟨hk,hall⟩
     ·exact absurd hk hs
     ·exact absurd hk hc
     ·have e:zii (byt a) c=3:=by simp[zii,hs,hc,hk]
      rw[e]
      refine⟨?_,by decide⟩
      unfold yap
      rw[if_neg (by decide),if_neg (by decide),if_pos rfl,yao hall (hstop zvq hdig)]
  show yak (n+1) (a::(x++r))=_
  rw[yak,hbl,hkind (hdB (x++r)) (hdB x)]
  obtain⟨l1,l2⟩:=hlen (hdB x)
  rw[List.cons_append] at l1
  rw[l1]
  have e1:(a::(x++r)).drop (a::x).length=r:=by rw[← List.cons_append];simp
  have e2:(a::(x++r)).take (a::x).length=a::x:=by rw[← List.cons_append];simp
  rw[e1,e2,if_neg (by simp),if_neg l2,if_neg (by omega)]
  rfl⟩
def bl(x:ByteArray):List UInt8:=x.data.toList
theorem yaw(a b:ByteArray):bl (a++b)=bl a++bl b:=by simp[bl,ByteArray.data_append]
theorem ydl(x:ByteArray):(⟨(bl x).toArray⟩:ByteArray)=x:=by
 apply ByteArray.ext
 simp[bl]
def signs:yaz:=⟨⟨#[40]⟩,⟨#[41]⟩,⟨#[44]⟩,⟨#[46]⟩,⟨#[33]⟩,⟨#[58,45]⟩⟩
theorem yer:RdA (bl z97) [(4,signs.op)]:=ybr (by decide) (fun _=>by unfold zii;simp[byt,zsu,z7m,zvq,z5e]) (by decide)
theorem yeu:RdA (bl z98) [(5,signs.shut)]:=ybr (by decide) (fun _=>by unfold zii;simp[byt,zsu,z7m,zvq,z5e]) (by decide)
theorem yeq:RdA (bl z96) [(8,signs.bang)]:=ybr (by decide) (fun _=>by unfold zii;simp[byt,zsu,z7m,zvq,z5e]) (by decide)
theorem ye0:RdA (bl yai) [(7,signs.dot)]:=ybr (by decide) (fun _=>by unfold zii;simp[byt,zsu,z7m,zvq,z5e]) (by decide)
theorem ydb:RdA (bl z9i) [(6,signs.comma)]:=(ybr (b:=44) (k:=6) (by decide) (fun _=>by unfold zii;simp[byt,zsu,z7m,zvq,z5e]) (by decide)).app (ybk (b:=32) (by decide))
theorem yed:RdA (bl z9h) [(9,signs.arrow)]:=by
 have h:RdA [58,45] [(9,signs.arrow)]:=⟨1,by simp,fun n r=>by
  show yak (n+1) (58::45::r)=_
  have hk:zii (byt 58) (hdB (45::r))=9:=rfl
  have hb:zmn (byt 58)=false:=by decide
  rw[yak,hk,hb]
  simp[yap,signs]⟩
 exact((ybk (b:=32) (by decide)).app h).app (ybk (b:=32) (by decide))
def yav(l:zbp):Prop:=(ya0 (bl l.pred)/\zsu (hdB (bl l.pred))=true)/\∀ x∈l.args,ya0 (bl x)
def yar(c:zab):Prop:=c.head.neg=false/\yav c.head/\∀ l∈c.body,yav l
theorem yd5(x:ByteArray):bAt x 1=hdB (bl x).tail:=by rw[yax];simp[bl]
theorem ydz{x:ByteArray}(h:ya0 (bl x)):RdN (bl x) [ydi x]:=by
 have:=yd0 h
 rw[ydl] at this
 have e:ydi x=(zii (hdB (bl x)) (hdB (bl x).tail),x):=by
  unfold ydi ybi
  rw[yd5,yax]
  rfl
 rw[e]
 exact this
theorem yee{x:ByteArray}(h:ya0 (bl x)):isT (ybi x)=true:=by
 unfold ybi
 rw[yax]
 show isT (zii (hdB (bl x)) _)=true
 unfold zii
 rcases h.kind with ⟨hk|hk,_⟩|⟨hk,_⟩
 ·simp[hk,isT]
 ·by_cases hs:zsu (hdB (bl x))=true <;> simp[hk,hs,isT]
 ·by_cases hs:zsu (hdB (bl x))=true
  ·simp[hs,isT]
  ·by_cases hc:z7m (hdB (bl x))=true <;> simp[hk,hs,hc,isT]
theorem ydu:∀(xs:List ByteArray),xs≠[]->(∀ x∈xs,ya0 (bl x))->RdN (bl (z8p xs)) (ybd signs xs)
 |[],h,_=>absurd rfl h
 |[x],_,h=>ydz (h x (by simp))
 |x::y::r,_,h=>by
  have ih:=ydu (y::r) (by simp) (fun z hz=>h z (by simp[List.mem_cons.1 hz]))
  show RdN (bl (x++z9i++z8p (y::r))) (ydi x::(6,signs.comma)::ybd signs (y::r))
  rw[yaw,yaw,List.append_assoc]
  exact(ydz (h x (by simp))).appN (by simp[bl,z9i]) rfl (ydb.appN ih)
theorem ydy{l:zbp}(h:yav l):RdN (bl l.pred) [(1,l.pred)]:=by
 have:=yd0 h.1.1
 rw[ydl] at this
 have e:zii (hdB (bl l.pred)) (hdB (bl l.pred).tail)=1:=by simp[zii,h.1.2]
 rw[e] at this
 exact this
theorem yep{l:zbp}(h:yav l):RdN (bl (if l.args.length=0 then l.pred else l.pred++z97++z8p l.args++z98)) (yau signs l):=by
 unfold yau
 by_cases ha:l.args=[]
 ·rw[if_pos (by simp[ha]),if_pos ha]
  exact ydy h
 ·have hl:¬ l.args.length=0:=fun q=>ha (List.length_eq_zero_iff.1 q)
  rw[if_neg hl,if_neg ha,yaw,yaw,yaw,List.append_assoc,List.append_assoc]
  have h1:=(ydu l.args ha h.2).app (by simp[bl,z98]) rfl yeu
  have h2:=yer.app h1
  exact((ydy h).app (by simp[bl,z97]) rfl h2).rdn
theorem ydx{l:zbp}(h:yav l):RdN (bl (yag l)) (ycr signs l):=by
 have ha:=yep h
 unfold yag z9r ycr
 cases hn:l.neg with
 |false =>
  simp only[Bool.false_eq_true,if_false]
  exact ha
 |true =>
  simp only[if_true]
  have e:(if l.args.length=0 then z96++l.pred else z96++l.pred++z97++z8p l.args++z98)=z96++(if l.args.length=0 then l.pred else l.pred++z97++z8p l.args++z98):=by
   split
   ·rfl
   ·simp only[ByteArray.append_assoc]
  rw[e,yaw]
  exact yeq.appN ha
theorem ydw:∀(b:List zbp),b≠[]->(∀ l∈b,yav l)->RdN (bl (z8p (b.map yag))) (ya1 signs b)
 |[],h,_=>absurd rfl h
 |[l],_,h=>ydx (h l (by simp))
 |l::m::r,_,h=>by
  have ih:=ydw (m::r) (by simp) (fun z hz=>h z (by simp[List.mem_cons.1 hz]))
  show RdN (bl (yag l++z9i++z8p ((m::r).map yag))) (ycr signs l++(6,signs.comma)::ya1 signs (m::r))
  rw[yaw,yaw,List.append_assoc]
  exact(ydx (h l (by simp))).appN (by simp[bl,z9i]) rfl (ydb.appN ih)
def yef(x:Tok):Prop:=isT x.1=true->ya0 (bl x.2)/\(x.1=1->zsu (hdB (bl x.2))=true)
theorem yaq(p:UInt8->Bool)(l:List UInt8):l.take (l.takeWhile p).length=l.takeWhile p:=by
 induction l with
 |nil=>rfl
 |cons a l ih =>
  rw[List.takeWhile_cons]
  split
  ·simp[ih]
  ·rfl
theorem yas{p:UInt8->Bool}:∀ {l:List UInt8} {b:UInt8},b∈l.takeWhile p->p b=true
 |[],_,h=>by simp at h
 |a::l,b,h=>by
  rw[List.takeWhile_cons] at h
  split at h
  ·rename_i ha
   rcases List.mem_cons.1 h with rfl|h
   ·exact ha
   ·exact yas h
  ·cases h
theorem ybh:∀(n:Nat) (l:List UInt8) (ts:List Tok),yak n l=some ts->∀ x∈ts,yef x
 |0,_,ts,h,x,hx=>by simp[yak] at h;subst h;cases hx
 |_+1,[],ts,h,x,hx=>by simp[yak] at h;subst h;cases hx
 |n+1,a::l,ts,h,x,hx=>by
  unfold yak at h
  split at h
  ·exact ybh n l ts h x hx
  ·split at h
   ·cases h
   ·rename_i hk
    split at h
    ·cases h
    ·rename_i h6
     obtain⟨us,hu,rfl⟩:=Option.map_eq_some_iff.1 h
     rcases List.mem_cons.1 hx with rfl|hx
     ·intro ht
      simp only at ht ⊢
      have hbl:∀ m,bl (⟨((a::l).take m).toArray⟩:ByteArray)=(a::l).take m:=fun m=>by simp[bl]
      rw[hbl]
      generalize hK:zii (byt a) (hdB l)=k at *
      unfold zii at hK
      by_cases hs:zsu (byt a)=true
      ·rw[if_pos hs] at hK
       subst hK
       have e:yap (a::l) 1=((a::l).takeWhile fun b=>bLD (byt b)).length:=rfl
       rw[e] at h6 ⊢
       rw[yaq]
       have hh:(a::l).takeWhile (fun b=>bLD (byt b))=a::l.takeWhile (fun b=>bLD (byt b)):=by rw[List.takeWhile_cons,if_pos (by simp[bLD,hs])]
       refine⟨⟨by rw[hh];simp,by omega,Or.inl ⟨Or.inl (by rw[hh];exact hs),fun b hb=>yas (p:=fun b=>bLD (byt b)) hb⟩⟩,fun _=>by rw[hh];exact hs⟩
      ·rw[if_neg hs] at hK
       by_cases hc:z7m (byt a)=true
       ·rw[if_pos hc] at hK
        subst hK
        have e:yap (a::l) 2=((a::l).takeWhile fun b=>bLD (byt b)).length:=rfl
        rw[e] at h6 ⊢
        rw[yaq]
        have hh:(a::l).takeWhile (fun b=>bLD (byt b))=a::l.takeWhile (fun b=>bLD (byt b)):=by rw[List.takeWhile_cons,if_pos (by simp[bLD,hc])]
        exact⟨⟨by rw[hh];simp,by omega,Or.inl ⟨Or.inr (by rw[hh];exact hc),fun b hb=>yas (p:=fun b=>bLD (byt b)) hb⟩⟩,fun q=>by cases q⟩
       ·rw[if_neg hc] at hK
        by_cases hd:zvq (byt a)=true
        ·rw[if_pos hd] at hK
         subst hK
         have e:yap (a::l) 3=((a::l).takeWhile fun b=>zvq (byt b)).length:=rfl
         rw[e] at h6 ⊢
         rw[yaq]
         have hh:(a::l).takeWhile (fun b=>zvq (byt b))=a::l.takeWhile (fun b=>zvq (byt b)):=by rw[List.takeWhile_cons,if_pos (by simp[hd])]
         exact⟨⟨by rw[hh];simp,by omega,Or.inr ⟨by rw[hh];exact hd,fun b hb=>yas (p:=fun b=>zvq (byt b)) hb⟩⟩,fun q=>by cases q⟩
        ·exfalso
         rw[if_neg hd] at hK
         split at hK
         ·subst hK;simp[isT] at ht
         ·unfold z5e at hK
          (repeat' split at hK) <;> subst hK <;> simp[isT] at ht
     ·exact ybh n _ us hu x hx
theorem ybu:∀(r:List Tok) {ts:List ByteArray} {r2:List Tok},zbv r=some (ts,r2)->(∀ x∈r,yef x)->(∀ y∈ts,ya0 (bl y))/\∀ x∈r2,x∈r
 |[],_,_,h,_=>by simp[zbv] at h
 |[x],ts,r2,h,ht=>by
  simp only[zbv] at h
  split at h
  ·rename_i hq
   simp only[Option.some.injEq,Prod.mk.injEq] at h
   obtain⟨rfl,rfl⟩:=h
   exact⟨fun y hy=>by simp at hy;subst hy;exact(ht x (by simp) hq).1,by simp⟩
  ·cases h
 |x::y::r,ts,r2,h,ht=>by
  simp only[zbv] at h
  split at h
  ·rename_i hq
   split at h
   ·obtain⟨z,hz,he⟩:=Option.map_eq_some_iff.1 h
    simp only[Prod.mk.injEq] at he
    obtain⟨rfl,rfl⟩:=he
    obtain⟨i1,i2⟩:=ybu r (ts:=z.1) (r2:=z.2) hz (fun u hu=>ht u (by simp[hu]))
    refine⟨fun u hu=>?_,fun u hu=>by simp[i2 u hu]⟩
    rcases List.mem_cons.1 hu with rfl|hu
    ·exact(ht x (by simp) hq).1
    ·exact i1 u hu
   ·simp only[Option.some.injEq,Prod.mk.injEq] at h
    obtain⟨rfl,rfl⟩:=h
    exact⟨fun u hu=>by simp at hu;subst hu;exact(ht x (by simp) hq).1,fun u hu=>by simp[List.mem_cons.1 hu]⟩
  ·cases h
theorem yam{x:Tok}{r:List Tok}(h:x∈r.tail):x∈r:=by
 cases r with
 |nil=>exact h
 |cons a r=>simp at h;simp[h]
theorem ybe{r:List Tok}{l:zbp}{r2:List Tok}(h:zeh r=some (l,r2))(ht:∀ x∈r,yef x):l.neg=false/\yav l/\∀ x∈r2,x∈r:=by
 unfold zeh at h
 split at h
 ·rename_i h1
  cases r with
  |nil=>simp[hdK] at h1
  |cons a r =>
   have ha:a.1=1:=h1
   have hw:=ht a (by simp) (by rw[ha];rfl)
   have hp:ya0 (bl a.2)/\zsu (hdB (bl a.2))=true:=⟨hw.1,hw.2 ha⟩
   change (if hdK r=4 then(match zbv r.tail with|none=>none|some (ts,r2)=>if hdK r2=5 then some ((⟨false,a.2,ts⟩:zbp),r2.tail) else none) else some ((⟨false,a.2,[]⟩:zbp),r))=some (l,r2) at h
   by_cases h4:hdK r=4
   ·rw[if_pos h4] at h
    cases hq:zbv r.tail with
    |none=>rw[hq] at h;cases h
    |some z =>
     obtain⟨ts,r3⟩:=z
     rw[hq] at h
     simp only at h
     by_cases h5:hdK r3=5
     ·rw[if_pos h5] at h
      simp only[Option.some.injEq,Prod.mk.injEq] at h
      obtain⟨rfl,rfl⟩:=h
      obtain⟨i1,i2⟩:=ybu _ hq (fun u hu=>ht u (by simp[yam hu]))
      exact⟨rfl,⟨hp,i1⟩,fun u hu=>by simp[yam (i2 u (yam hu))]⟩
     ·rw[if_neg h5] at h;cases h
   ·rw[if_neg h4] at h
    simp only[Option.some.injEq,Prod.mk.injEq] at h
    obtain⟨rfl,rfl⟩:=h
    exact⟨rfl,⟨hp,fun y hy=>by cases hy⟩,fun u hu=>by simp[hu]⟩
 ·cases h
theorem ydr{r:List Tok}{l:zbp}{r2:List Tok}(h:zsg r=some (l,r2))(ht:∀ x∈r,yef x):yav l/\∀ x∈r2,x∈r:=by
 unfold zsg at h
 split at h
 ·obtain⟨z,hz,he⟩:=Option.map_eq_some_iff.1 h
  simp only[Prod.mk.injEq] at he
  obtain⟨rfl,rfl⟩:=he
  obtain⟨_,i2,i3⟩:=ybe (l:=z.1) (r2:=z.2) hz (fun u hu=>ht u (yam hu))
  exact⟨i2,fun u hu=>yam (i3 u hu)⟩
 ·exact(ybe h ht).2
theorem yby:∀(n:Nat) {r:List Tok} {b:List zbp} {r2:List Tok},ze4 n r=some (b,r2)->(∀ x∈r,yef x)->(∀ l∈b,yav l)/\∀ x∈r2,x∈r
 |0,_,_,_,h,_=>by cases h
 |n+1,r,b,r2,h,ht=>by
  unfold ze4 at h
  split at h
  ·cases h
  ·rename_i a r3 hq
   obtain⟨i1,i2⟩:=ydr hq ht
   split at h
   ·obtain⟨z,hz,he⟩:=Option.map_eq_some_iff.1 h
    simp only[Prod.mk.injEq] at he
    obtain⟨rfl,rfl⟩:=he
    obtain⟨j1,j2⟩:=yby n (b:=z.1) (r2:=z.2) hz (fun u hu=>ht u (i2 u (yam hu)))
    refine⟨fun l hl=>?_,fun u hu=>i2 u (yam (j2 u hu))⟩
    rcases List.mem_cons.1 hl with rfl|hl
    ·exact i1
    ·exact j1 l hl
   ·simp only[Option.some.injEq,Prod.mk.injEq] at h
    obtain⟨rfl,rfl⟩:=h
    exact⟨fun l hl=>by simp at hl;subst hl;exact i1,i2⟩
theorem yco{n:Nat}{r:List Tok}{c:zab}{r2:List Tok}(h:ze5 n r=some (c,r2))(ht:∀ x∈r,yef x):yar c/\∀ x∈r2,x∈r:=by
 unfold ze5 at h
 split at h
 ·cases h
 ·rename_i a r3 hq
  obtain⟨i0,i1,i2⟩:=ybe hq ht
  split at h
  ·split at h
   ·cases h
   ·rename_i b r4 hb
    split at h
    ·simp only[Option.some.injEq,Prod.mk.injEq] at h
     obtain⟨rfl,rfl⟩:=h
     obtain⟨j1,j2⟩:=yby n hb (fun u hu=>ht u (i2 u (yam hu)))
     exact⟨⟨i0,i1,j1⟩,fun u hu=>i2 u (yam (j2 u (yam hu)))⟩
    ·cases h
  ·split at h
   ·simp only[Option.some.injEq,Prod.mk.injEq] at h
    obtain⟨rfl,rfl⟩:=h
    exact⟨⟨i0,i1,fun l hl=>by cases hl⟩,fun u hu=>i2 u (yam hu)⟩
   ·cases h
theorem yb1{n:Nat}:∀(m:Nat) {r:List Tok} {cs:List zab},zew n m r=some cs->(∀ x∈r,yef x)->∀ c∈cs,yar c
 |m,[],cs,h,_=>by cases m <;> (simp[zew] at h;subst h;simp)
 |0,_::_,cs,h,_=>by simp[zew] at h
 |m+1,x::r,cs,h,ht=>by
  unfold zew at h
  split at h
  ·cases h
  ·rename_i c r2 hq
   obtain⟨i1,i2⟩:=yco hq ht
   obtain⟨ds,hd,rfl⟩:=Option.map_eq_some_iff.1 h
   intro z hz
   rcases List.mem_cons.1 hz with rfl|hz
   ·exact i1
   ·exact yb1 m hd (fun u hu=>ht u (i2 u hu)) z hz
theorem yc4{s:ByteArray}{l:List Tok}(h:splitB s=some l):∀ x∈l,yef x:=by
 unfold splitB at h
 rw[yb5] at h
 exact ybh _ _ _ h
theorem ya4{a:UInt8}{c:Int}{l:List UInt8}(_h:zii (byt a) c≠0):1<=yap (a::l) (zii (byt a) c):=by
 unfold yap
 generalize hK:zii (byt a) c=k at *
 unfold zii at hK
 split
 ·omega
 ·split
  ·rename_i h12
   have:bLD (byt a)=true:=by
    split at hK
    ·rename_i q;simp[bLD,q]
    ·split at hK
     ·rename_i q;simp[bLD,q]
     ·split at hK
      ·omega
      ·split at hK
       ·omega
       ·unfold z5e at hK;split at hK <;> (try split at hK) <;> (try split at hK) <;> (try split at hK) <;> (try split at hK) <;> omega
   rw[List.takeWhile_cons,if_pos this]
   simp
  ·split
   ·rename_i h3
    have:zvq (byt a)=true:=by
     split at hK
     ·omega
     ·split at hK
      ·omega
      ·split at hK
       ·assumption
       ·split at hK
        ·omega
        ·unfold z5e at hK;split at hK <;> (try split at hK) <;> (try split at hK) <;> (try split at hK) <;> (try split at hK) <;> omega
    rw[List.takeWhile_cons,if_pos this]
    simp
   ·omega
def yaj(l:List UInt8):Option (List Tok):=yak l.length l
theorem yat:∀(m:Nat) (l:List UInt8),l.length<=m->∀ n,l.length<=n->yak n l=yak l.length l
 |_,[],_,n,_=>by cases n <;> rfl
 |0,_::_,h,_,_=>by simp at h
 |m+1,a::l,h,n,hn=>by
  cases n with
  |zero=>simp at hn
  |succ n =>
   simp only[List.length_cons] at h hn ⊢
   unfold yak
   rw[yat m l (by omega) n (by omega)]
   split
   ·rfl
   ·split
    ·rfl
    ·rename_i hk
     split
     ·rfl
     ·have hp:=ya4 (l:=l) hk
      have hd:((a::l).drop (yap (a::l) (zii (byt a) (hdB l)))).length<=l.length:=by rw[List.length_drop];simp;omega
      rw[yat m _ (by omega) n (by omega),yat m ((a::l).drop (yap (a::l) (zii (byt a) (hdB l)))) (by omega) l.length hd]
theorem yan(a:UInt8)(l:List UInt8):yaj (a::l)=if zmn (byt a) then yaj l else if zii (byt a) (hdB l)=0 then none else if 6 < yap (a::l) (zii (byt a) (hdB l)) then none else(yaj ((a::l).drop (yap (a::l) (zii (byt a) (hdB l))))).map ((zii (byt a) (hdB l),(⟨((a::l).take (yap (a::l) (zii (byt a) (hdB l)))).toArray⟩:ByteArray))::·):=by
 show yak (l.length+1) (a::l)=_
 unfold yak
 split
 ·rfl
 ·split
  ·rfl
  ·rename_i hk
   split
   ·rfl
   ·have hp:=ya4 (l:=l) hk
    have hd:((a::l).drop (yap (a::l) (zii (byt a) (hdB l)))).length<=l.length:=by rw[List.length_drop];simp;omega
    rw[yat _ _ (Nat.le_refl _) l.length hd]
    rfl
theorem ya9:yaj []=some []:=rfl
theorem yc3(s:ByteArray):splitB s=yaj (bl s):=by
 have hsz:s.data.toList.length=s.size:=by rw[Array.length_toList];rfl
 unfold splitB yaj bl
 rw[yb5,List.drop_zero,hsz]
theorem ydo{a:UInt8}{l r:List UInt8}(h45:hdB r≠45):zii (byt a) (hdB (l++r))=zii (byt a) (hdB l):=by
 cases l with
 |cons b l=>rfl
 |nil =>
  show zii (byt a) (hdB r)=zii (byt a) 0
  unfold zii
  rw[if_neg (show ¬ (byt a=58/\hdB r=45) from fun q=>h45 q.2),if_neg (show ¬ (byt a=58/\(0:Int)=45) from fun q=>by omega)]
theorem ybv{p:UInt8->Bool}:∀(l r:List UInt8),(∀ b q,r=b::q->p b=false)->((l++r).takeWhile p).length=(l.takeWhile p).length
 |[],[],_=>rfl
 |[],b::r,h=>by simp[h b r rfl]
 |a::l,r,h=>by
  rw[List.cons_append,List.takeWhile_cons,List.takeWhile_cons]
  split
  ·simp only[List.length_cons];rw[ybv l r h]
  ·rfl
theorem yel{a:UInt8}{l r:List UInt8}{k:Int}(hr:bLD (hdB r)=false):yap (a::(l++r)) k=yap (a::l) k:=by
 have hd:zvq (hdB r)=false:=by simp only[bLD,Bool.or_eq_false_iff] at hr;exact hr.2
 unfold yap
 split
 ·rfl
 ·split
  ·rw[← List.cons_append];exact ybv _ r fun b q e=>by subst e;exact hr
  ·split
   ·rw[← List.cons_append];exact ybv _ r fun b q e=>by subst e;exact hd
   ·rfl
theorem yez{a:UInt8}{l:List UInt8}:zii (byt a) (hdB l)≠0->yap (a::l) (zii (byt a) (hdB l))<=(a::l).length:=by
 intro h
 have htw:∀(p:UInt8->Bool) (x:List UInt8),(x.takeWhile p).length<=x.length:=fun p x=>(List.takeWhile_sublist p).length_le
 unfold yap
 split
 ·rename_i h9
  cases l with
  |nil =>
   exfalso
   unfold zii at h9
   split at h9
   ·omega
   ·split at h9
    ·omega
    ·split at h9
     ·omega
     ·rw[if_neg (by rintro⟨_,q⟩;cases q)] at h9
      unfold z5e at h9
      split at h9 <;> (try split at h9) <;> (try split at h9) <;> (try split at h9) <;> (try split at h9) <;> omega
  |cons b l=>simp
 ·split
  ·exact htw _ _
  ·split
   ·exact htw _ _
   ·simp
theorem ya8:∀(m:Nat) (l r:List UInt8),l.length<=m->bLD (hdB r)=false->hdB r≠45->yaj (l++r)=(yaj l).bind fun T=>(yaj r).map (T++·)
 |_,[],r,_,_,_=>by
  simp only[List.nil_append,ya9,Option.bind_some]
  cases yaj r <;> simp
 |0,_::_,_,h,_,_=>by simp at h
 |m+1,a::l,r,h,hr,h45=>by
  simp only[List.length_cons] at h
  rw[List.cons_append,yan,yan,ydo h45,yel hr]
  split
  ·exact ya8 m l r (by omega) hr h45
  ·split
   ·rfl
   ·rename_i hk
    split
    ·rfl
    ·have hp:=ya4 (l:=l) hk
     have hle:=yez hk
     have hd:((a::l).drop (yap (a::l) (zii (byt a) (hdB l)))).length<=m:=by rw[List.length_drop];simp;omega
     rw[← List.cons_append,List.drop_append_of_le_length hle,List.take_append_of_le_length hle,ya8 m _ r hd hr h45]
     cases yaj ((a::l).drop (yap (a::l) (zii (byt a) (hdB l)))) with
     |none=>rfl
     |some T =>
      simp only[Option.bind_some,Option.map_some]
      cases yaj r <;> simp
def RdF(l:List UInt8)(ts:List Tok):Prop:=∀ r,yaj (l++r)=(yaj r).map (ts++·)
theorem RdF.app{l l':List UInt8}{ts ts':List Tok}(h:RdF l ts)(k:RdF l' ts'):RdF (l++l') (ts++ts'):=by
 intro r
 rw[List.append_assoc,h,k,ybm]
theorem RdF.nil:RdF [] []:=fun r=>by cases h:yaj r <;> simp[h]
theorem yb4(r:List UInt8):yaj (46::r)=(yaj r).map ((7,signs.dot)::·):=by
 rw[yan,if_neg (by decide)]
 have hk:zii (byt 46) (hdB r)=7:=by unfold zii;simp[byt,zsu,z7m,zvq,z5e]
 rw[hk]
 have hl:yap (46::r) 7=1:=rfl
 rw[hl]
 rfl
theorem RdF.dot{l:List UInt8}{ts:List Tok}(h:yaj l=some ts):RdF (l++[46]) (ts++[(7,signs.dot)]):=by
 intro r
 have h1:bLD (hdB (46::r))=false:=by simp[hdB,byt,bLD,zsu,z7m,zvq]
 have h2:hdB (46::r)≠45:=by simp[hdB,byt]
 rw[List.append_assoc,List.cons_append,List.nil_append,ya8 _ l (46::r) (Nat.le_refl _) h1 h2,h,Option.bind_some,yb4]
 cases yaj r <;> simp
theorem RdA.rdf{l:List UInt8}{ts:List Tok}(h:RdA l ts):RdF l ts:=by
 obtain⟨m,h1,h2⟩:=h
 intro r
 have:=h2 ((l++r).length - m) r
 rw[show(l++r).length - m+m=(l++r).length by simp;omega] at this
 unfold yaj
 rw[this,yat _ r (Nat.le_refl _) _ (by simp;omega)]
theorem ycb:∀(m:Nat) (l:List UInt8) (ts:List Tok),l.length<=m->yaj l=some ts->((46:UInt8)∈l↔∃ x∈ts,x.1=7)
 |_,[],ts,_,h=>by simp[ya9] at h;subst h;simp
 |0,_::_,_,h,_=>by simp at h
 |m+1,a::l,ts,h,hs=>by
  simp only[List.length_cons] at h
  rw[yan] at hs
  split at hs
  ·rename_i hb
   rw[List.mem_cons,ycb m l ts (by omega) hs]
   refine⟨fun q=>q.resolve_left fun e=>?_,Or.inr⟩
   subst e
   simp[zmn,byt] at hb
  ·split at hs
   ·cases hs
   ·rename_i hk
    split at hs
    ·cases hs
    ·obtain⟨us,hu,rfl⟩:=Option.map_eq_some_iff.1 hs
     have hp:=ya4 (l:=l) hk
     have hd:((a::l).drop (yap (a::l) (zii (byt a) (hdB l)))).length<=m:=by rw[List.length_drop];simp;omega
     have ih:=ycb m _ us hd hu
     have hmem:(46:UInt8)∈a::l↔(46:UInt8)∈(a::l).take (yap (a::l) (zii (byt a) (hdB l)))∨(46:UInt8)∈(a::l).drop (yap (a::l) (zii (byt a) (hdB l))):=by
      rw[← List.mem_append,List.take_append_drop]
     rw[hmem,ih]
     have hone:(46:UInt8)∈(a::l).take (yap (a::l) (zii (byt a) (hdB l)))↔zii (byt a) (hdB l)=7:=by
      generalize hK:zii (byt a) (hdB l)=k at *
      unfold zii at hK
      have hld:∀ b:UInt8,bLD (byt b)=true->b≠46:=by
       rintro b hb rfl
       revert hb
       decide
      have hdg:∀ b:UInt8,zvq (byt b)=true->b≠46:=by
       rintro b hb rfl
       revert hb
       decide
      split at hK
      ·subst hK
       rw[show yap (a::l) 1=((a::l).takeWhile fun b=>bLD (byt b)).length from rfl,yaq]
       exact⟨fun q=>absurd rfl (hld _ (yas (p:=fun b=>bLD (byt b)) q)),fun q=>by cases q⟩
      ·split at hK
       ·subst hK
        rw[show yap (a::l) 2=((a::l).takeWhile fun b=>bLD (byt b)).length from rfl,yaq]
        exact⟨fun q=>absurd rfl (hld _ (yas (p:=fun b=>bLD (byt b)) q)),fun q=>by cases q⟩
       ·split at hK
        ·subst hK
         rw[show yap (a::l) 3=((a::l).takeWhile fun b=>zvq (byt b)).length from rfl,yaq]
         exact⟨fun q=>absurd rfl (hdg _ (yas (p:=fun b=>zvq (byt b)) q)),fun q=>by cases q⟩
        ·split at hK
         ·rename_i h58
          subst hK
          rw[show yap (a::l) 9=2 from rfl]
          cases l with
          |nil=>exact absurd h58.2 (by decide)
          |cons b l =>
           have hb:byt b=45:=h58.2
           refine⟨fun q=>?_,fun q=>by cases q⟩
           simp only[List.take_succ_cons,List.take_zero,List.mem_cons,List.not_mem_nil,or_false] at q
           rcases q with rfl|rfl
           ·exact absurd h58.1 (by decide)
           ·exact absurd hb (by decide)
         ·have h1:yap (a::l) k=1:=by
           unfold yap
           have:k≠9/\k≠1/\k≠2/\k≠3:=by
            unfold z5e at hK
            split at hK <;> (try split at hK) <;> (try split at hK) <;> (try split at hK) <;> (try split at hK) <;> omega
           rw[if_neg this.1,if_neg (by omega),if_neg this.2.2.2]
          rw[h1]
          simp only[List.take_succ_cons,List.take_zero,List.mem_cons,List.not_mem_nil,or_false]
          constructor
          ·rintro rfl
           rw[← hK]
           decide
          ·intro e
           subst e
           unfold z5e at hK
           split at hK
           ·omega
           ·split at hK
            ·omega
            ·split at hK
             ·omega
             ·split at hK
              ·rename_i q
               unfold byt at q
               apply UInt8.toNat_inj.1
               show 46=a.toNat
               omega
              ·split at hK <;> omega
     rw[hone]
     simp
theorem yek{T T' R R':List Tok}(h:∀ x∈T,x.1≠7)(h':∀ x∈T',x.1≠7){d d':Tok}(hd:d.1=7)(hd':d'.1=7)(e:T++d::R=T'++d'::R'):T=T'/\R=R':=by
 induction T generalizing T' with
 |nil =>
  cases T' with
  |nil=>simp at e;exact⟨rfl,e.2⟩
  |cons x T' =>
   simp only[List.nil_append,List.cons_append,List.cons.injEq] at e
   exact absurd (by rw[← e.1];exact hd) (h' x (by simp))
 |cons x T ih =>
  cases T' with
  |nil =>
   simp only[List.nil_append,List.cons_append,List.cons.injEq] at e
   exact absurd (by rw[e.1];exact hd') (h x (by simp))
  |cons y T' =>
   simp only[List.cons_append,List.cons.injEq] at e
   obtain⟨i1,i2⟩:=ih (fun z hz=>h z (by simp[hz])) (fun z hz=>h' z (by simp[hz])) e.2
   exact⟨by rw[e.1,i1],i2⟩
end Go.Proofs.YteampbddflhngabGreat
