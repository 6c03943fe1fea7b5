import Derived.Test.YteampbddflhngaaGreatP43
import Derived.Test.YteampbddflhngaaGreatP41
import Derived.Test.YteampbddflhngaaGreatP04
import Derived.Test.YteampbddflhngaaGreatP08

namespace Go.Proofs.YteampbddflhngaaGreat
set_option maxRecDepth 100000
set_option maxHeartbeats 4000000
open Go.RowKit
def ycc(t:List zas)(ns:List ByteArray)(D:DB)(f:zga):Prop:=∃ p,p < t.length/\∃ r m,D p r=some m/\f=(zik t p,za1 ns r (za0 t p) 3,m)
def ybq(t:List zas)(ns:List ByteArray)(A:Option (DB × Nat))(t2:List zas)(ns2:List ByteArray)(B:Option (DB × Nat)):Prop:=match A,B with
 |none,none=>True
 |some (D,k),some (E,l)=>k=l/\∀ f,ycc t ns D f↔ycc t2 ns2 E f
 |_,_=>False
theorem ya2{t:List zas}{ns:List ByteArray}{R:zbc}(h:Told t ns R):(za5 t ns R t.length).length=R.count:=by
 unfold za5
 rw[List.length_flatMap,h.inv.cnt]
 congr 1
 refine List.ext_getElem (by simp[h.len]) fun i h1 h2=>?_
 have hi:i < R.rows.length:=by simpa using h2
 simp only[List.getElem_map,List.getElem_range,List.length_map,zc1]
 rw[getD_lt _ hi,((h.inv.tries i hi).1).cnt]
theorem yb3{lp:Nat}(w:World)(db pb:Nat)(s0 s:ByteArray){cs:List zab}{t0 t:List zas}(hd:Box w db #[.pointer (some ⟨pb,0,none⟩),.string s0] 98)(hP:zjq lp w pb cs t)(h:Parts cs t0 t)(hlp:lp<=w.heap.size)(hsz:s.size<=9223372036854775807)
  (hs:s.size<=500->∃ cs2 t2,znz s=.ok (cs2,t2)/\ybq t (zaw cs) (zjx (zjw t (zaw cs) none cs) 4096 4096) t2 (zaw cs2) (zjx (zjw t2 (zaw cs2) none cs2) 4096 4096)) :
  Calls Tryz.prog 56 #[.pointer (some ⟨db,0,none⟩),.string s] w fun e w'=>e=.returned (.bool true)/\Below w.heap.size w w':=by
 by_cases hlen:s.size<=500
 ·obtain⟨cs2,t2,hc,hal⟩:=hs hlen
  obtain⟨t20,h2⟩:=z9o hc
  have HCEL:Hid (∀ W,Below w.heap.size w W->W.cell? ⟨db,0,none⟩=some (.pointer (some ⟨pb,0,none⟩))/\db < W.heap.size):=fun W hb=>⟨by rw[(hd.below hb).rules.1];rfl,(hd.below hb).lt⟩
  have hlni:¬ (500:Int) < (s.size:Int):=by omega
  have HCO:Hid (Calls Tryz.prog 32 #[.string s] w fun e w'=>∃ qb,e=.returned (.tuple #[.pointer (some ⟨qb,0,none⟩),.int .i64 0])/\Hid (zjq w.heap.size w' qb cs2 t2)/\Hid (Below w.heap.size w w')/\w'.cell? ⟨db,0,none⟩=some (.pointer (some ⟨pb,0,none⟩))/\db < w'.heap.size):=by
   refine(zke s w hsz).mono ?_
   rintro e w' ⟨hb,q2⟩
   rw[hc] at q2
   obtain⟨qb,v,pv,h3,h4,h5,h6,h7⟩:=q2
   exact⟨qb,h3,⟨h7,v,pv,h4,h5,h6⟩,hb,HCEL.out w' hb⟩
  have HR1:Hid (∀ W,Below w.heap.size w W->Calls Tryz.prog 35 #[.pointer (some ⟨pb,0,none⟩),.slice none 0 0,.int .i64 4096,.int .i64 4096] W fun e w'=>z9r lp t (zaw cs) (zjx (zjw t (zaw cs) none cs) 4096 4096) W e w'):=fun W hb=>z99 W pb (hP.below hb) h (Nat.le_trans hlp hb.size) 4096 4096 (by omega) (by omega)
  have HR2:Hid (∀ W W2 qb,Below w.heap.size w W->zjq w.heap.size W qb cs2 t2->Below W.heap.size W W2->Calls Tryz.prog 35 #[.pointer (some ⟨qb,0,none⟩),.slice none 0 0,.int .i64 4096,.int .i64 4096] W2 fun e w'=>z9r w.heap.size t2 (zaw cs2) (zjx (zjw t2 (zaw cs2) none cs2) 4096 4096) W2 e w'):=fun W W2 qb hb hq hb2=>z99 W2 qb (hq.below hb2) h2 (Nat.le_trans hb.size hb2.size) 4096 4096 (by omega) (by omega)
  obtain⟨c0,hl0⟩:=HCEL.out w (Below.refl _ _)
  cases hA:zjx (zjw t (zaw cs) none cs) 4096 4096 with
  |none =>
   cases hB:zjx (zjw t2 (zaw cs2) none cs2) 4096 4096 with
   |some y=>rw[hA,hB] at hal;exact hal.elim
   |none =>
    have K1:Hid (∀ W,Below w.heap.size w W->Calls Tryz.prog 35 #[.pointer (some ⟨pb,0,none⟩),.slice none 0 0,.int .i64 4096,.int .i64 4096] W fun e w'=>e=.returned (.tuple #[.pointer none,.int .i64 10])/\Hid (Below W.heap.size W w')):=fun W hb=>by
     refine(HR1.out W hb).mono ?_
     intro e w' q
     rw[hA] at q
     exact q
    have K2:Hid (∀ W W2 qb,Below w.heap.size w W->zjq w.heap.size W qb cs2 t2->Below W.heap.size W W2->Calls Tryz.prog 35 #[.pointer (some ⟨qb,0,none⟩),.slice none 0 0,.int .i64 4096,.int .i64 4096] W2 fun e w'=>e=.returned (.tuple #[.pointer none,.int .i64 10])/\Hid (Below w.heap.size w w')):=fun W W2 qb hb hq hb2=>by
     refine(HR2.out W W2 qb hb hq hb2).mono ?_
     intro e w' q
     rw[hB] at q
     exact⟨q.1,zae (zae hb hb2 (Nat.le_refl _)) q.2 (Nat.le_refl _)⟩
    clear hal hA hB HR1 HR2 hd hP h h2 hs hc
    go_enter Tryz.func56,Tryz.ntmps56
    go_wp2_with (first|(go_at_call 32;refine HCO.out.mono ?_;rintro e w1 ⟨qb,rfl,HP1,HB1,c1,hl1⟩)|(go_at_call 35;refine(K2.out _ _ _ HB1.out HP1.out HB2.out).mono ?_;rintro e w3 ⟨rfl,HB3⟩)|(go_at_call 35;refine(K1.out _ HB1.out).mono ?_;rintro e w2 ⟨rfl,HB2⟩))
    go_ret
    exact⟨rfl,HB3.out⟩
  |some x =>
   cases hB:zjx (zjw t2 (zaw cs2) none cs2) 4096 4096 with
   |none=>rw[hA,hB] at hal;exact hal.elim
   |some y =>
    obtain⟨D,kk⟩:=x
    obtain⟨E,ll⟩:=y
    rw[hA,hB] at hal
    have hkl:kk=ll:=hal.1
    have hfs:∀ f,ycc t (zaw cs) D f↔ycc t2 (zaw cs2) E f:=hal.2
    have K1:Hid (∀ W,Below w.heap.size w W->Calls Tryz.prog 35 #[.pointer (some ⟨pb,0,none⟩),.slice none 0 0,.int .i64 4096,.int .i64 4096] W fun e w'=>∃ rb,e=.returned (.tuple #[.pointer (some ⟨rb,0,none⟩),.int .i64 0])/\Hid (∃(R:zbc) (pv nv rv:Value) (tbs:List Nat) (lo:Nat),zsn lo lp w' rb t (zaw cs) R pv nv rv tbs/\Told t (zaw cs) R/\zcz (t.map (·.arity)) R=D/\R.rounds=kk)/\Hid (Below W.heap.size W w')):=fun W hb=>by
     refine(HR1.out W hb).mono ?_
     intro e w' q
     rw[hA] at q
     obtain⟨R,rb,pv,nv,rv,tbs,q1,q2,q3,q4,q5,q6,q7,q8,q9⟩:=q
     exact⟨rb,q2,⟨R,pv,nv,rv,tbs,_,q3,h.told q4 q5 hA q8,q5,q6⟩,q9⟩
    have K2:Hid (∀ W W2 qb,Below w.heap.size w W->zjq w.heap.size W qb cs2 t2->Below W.heap.size W W2->Calls Tryz.prog 35 #[.pointer (some ⟨qb,0,none⟩),.slice none 0 0,.int .i64 4096,.int .i64 4096] W2 fun e w'=>∃ rb,e=.returned (.tuple #[.pointer (some ⟨rb,0,none⟩),.int .i64 0])/\Hid (∃(R:zbc) (pv nv rv:Value) (tbs:List Nat) (lo:Nat),zsn lo w.heap.size w' rb t2 (zaw cs2) R pv nv rv tbs/\Told t2 (zaw cs2) R/\zcz (t2.map (·.arity)) R=E/\R.rounds=ll)/\Hid (Below W2.heap.size W2 w')/\w'.cell? ⟨db,0,none⟩=some (.pointer (some ⟨pb,0,none⟩))/\db < w'.heap.size):=fun W W2 qb hb hq hb2=>by
     refine(HR2.out W W2 qb hb hq hb2).mono ?_
     intro e w' q
     rw[hB] at q
     obtain⟨R,rb,pv,nv,rv,tbs,q1,q2,q3,q4,q5,q6,q7,q8,q9⟩:=q
     exact⟨rb,q2,⟨R,pv,nv,rv,tbs,_,q3,h2.told q4 q5 hB q8,q5,q6⟩,q9,HCEL.out w' (zae (zae hb hb2 (Nat.le_refl _)) q9 (Nat.le_refl _))⟩
    have HAK:Hid (∀ W1 W2 W3 qb rb sb,Below w.heap.size w W1->zjq w.heap.size W1 qb cs2 t2->Below W1.heap.size W1 W2->Below W2.heap.size W2 W3->(∃(R:zbc) (pv nv rv:Value) (tbs:List Nat) (lo:Nat),zsn lo lp W2 rb t (zaw cs) R pv nv rv tbs/\Told t (zaw cs) R/\zcz (t.map (·.arity)) R=D/\R.rounds=kk)->(∃(R:zbc) (pv nv rv:Value) (tbs:List Nat) (lo:Nat),zsn lo w.heap.size W3 sb t2 (zaw cs2) R pv nv rv tbs/\Told t2 (zaw cs2) R/\zcz (t2.map (·.arity)) R=E/\R.rounds=ll)->Calls Tryz.prog 93 #[.pointer (some ⟨pb,0,none⟩),.pointer (some ⟨rb,0,none⟩),.pointer (some ⟨qb,0,none⟩),.pointer (some ⟨sb,0,none⟩)] W3 fun e w'=>e=.returned (.bool true)/\Hid (Below w.heap.size w w')):=fun W1 W2 W3 qb rb sb hb1 hq hb2 hb3 ⟨R,pv,nv,rv,tbs,lo,r1,r2,r3,r4⟩ ⟨R',pv',nv',rv',tbs',lo',s1,s2,s3,s4⟩=>by
     have hb13:=zae hb2 hb3 (Nat.le_refl _)
     have hbw:=zae hb1 hb13 (Nat.le_refl _)
     have hmem:∀ f,f∈za5 t (zaw cs) R t.length↔f∈za5 t2 (zaw cs2) R' t2.length:=fun f=>by
      rw[ztm r2,ztm s2,r3,s3]
      exact hfs f
     have hal:=z98 r2 s2 hmem
     have hcnt:R.count=R'.count:=by rw[← ya2 r2,← ya2 s2];exact hal.1
     refine(z9q W3 pb rb qb sb cs cs2 t t2 (zaw cs) (zaw cs2) R R' pv nv rv pv' nv' rv' tbs tbs' (hP.below hbw) (r1.below hb3) r2 (z9p r2) (hq.below hb13) s1 s2 (z9p s2) hal hcnt (by omega)).mono ?_
     rintro e w' ⟨q1,q2⟩
     exact⟨q1,zae hbw q2 (Nat.le_refl _)⟩
    clear hal hA hB HR1 HR2 hd hP h h2 hs hc hfs hkl
    go_enter Tryz.func56,Tryz.ntmps56
    go_wp2_with (first|(go_at_call 32;refine HCO.out.mono ?_;rintro e w1 ⟨qb,rfl,HP1,HB1,c1,hl1⟩)|(go_at_call 93;refine(HAK.out _ _ _ _ _ _ HB1.out HP1.out HB2.out HB3.out HX2.out HX3.out).mono ?_;rintro e w4 ⟨rfl,HB4⟩)|(go_at_call 35;refine(K2.out _ _ _ HB1.out HP1.out HB2.out).mono ?_;rintro e w3 ⟨sb,rfl,HX3,HB3,c3,hl3⟩)|(go_at_call 35;refine(K1.out _ HB1.out).mono ?_;rintro e w2 ⟨rb,rfl,HX2,HB2⟩))
    go_ret
    exact⟨rfl,HB4.out⟩
 ·have hlni:(500:Int) < (s.size:Int):=by omega
  clear hd hP h hs
  go_enter Tryz.func56,Tryz.ntmps56
  go_wp2
  go_ret
  exact⟨rfl,Below.refl _ _⟩
def ybp(x:ByteArray):Int:=zii (bAt x 0) (bAt x 1)
def ycq(x:ByteArray):Tok:=(ybp x,x)
structure yap where
 op:ByteArray
 shut:ByteArray
 comma:ByteArray
 dot:ByteArray
 bang:ByteArray
 arrow:ByteArray
def ybf(S:yap):List ByteArray->List Tok
 |[]=>[]
 |[x]=>[ycq x]
 |x::y::r=>ycq x::(6,S.comma)::ybf S (y::r)
def yas(S:yap)(l:zbv):List Tok:=(1,l.pred)::(if l.args=[] then [] else(4,S.op)::(ybf S l.args++[(5,S.shut)]))
def yby(S:yap)(l:zbv):List Tok:=if l.neg then(8,S.bang)::yas S l else yas S l
def yaz(S:yap):List zbv->List Tok
 |[]=>[]
 |[l]=>yby S l
 |l::m::r=>yby S l++(6,S.comma)::yaz S (m::r)
def clK(S:yap)(c:zab):List Tok:=yas S c.head++((if c.body=[] then [] else(9,S.arrow)::yaz S c.body)++[(7,S.dot)])
def yao(S:yap)(cs:List zab):List Tok:=cs.flatMap (clK S)
def ybu(l:zbv):Prop:=∀ x∈l.args,isT (ybp x)=true
def ycj(c:zab):Prop:=c.head.neg=false/\ybu c.head/\∀ l∈c.body,ybu l
theorem ybb(S:yap):∀(bs:List ByteArray) (r:List Tok),bs≠[]->(∀ x∈bs,isT (ybp x)=true)->hdK r≠6->zbu (ybf S bs++r)=some (bs,r)
 |[],_,h,_,_=>absurd rfl h
 |[x],r,_,hx,h6=>zw0 (hx x (by simp)) h6
 |x::y::bs,r,_,hx,h6=>by
  have ih:=ybb S (y::bs) r (by simp) (fun z hz=>hx z (by simp[List.mem_cons.1 hz])) h6
  show zbu ((ybp x,x)::(6,S.comma)::(ybf S (y::bs)++r))=_
  rw[zwz (hx x (by simp)) rfl]
  show(zbu (ybf S (y::bs)++r)).map _=_
  rw[ih]
  rfl
theorem ybd(x:Tok)(r:List Tok):hdK (x::r)=x.1:=rfl
theorem yat(S:yap)(l:zbv)(r:List Tok)(hw:ybu l)(h4:hdK r≠4):zef (yas S l++r)=some ({ l with neg:=false },r):=by
 unfold yas zef
 by_cases ha:l.args=[]
 ·simp only[if_pos ha,List.cons_append,List.nil_append,ybd,List.tail_cons,List.headD_cons,if_true,if_neg h4]
  rw[← ha]
 ·have q:zbu (ybf S l.args++((5,S.shut)::r))=some (l.args,(5,S.shut)::r):=ybb S l.args ((5,S.shut)::r) ha hw (by simp[hdK])
  simp only[if_neg ha,List.cons_append,List.append_assoc,List.nil_append,ybd,List.tail_cons,List.headD_cons,if_true,q]
theorem ybs(S:yap)(l:zbv)(r:List Tok)(hw:ybu l)(h4:hdK r≠4):zsr (yby S l++r)=some (l,r):=by
 unfold zsr yby
 cases hn:l.neg with
 |true =>
  simp only[if_true]
  show(if hdK ((8,S.bang)::(yas S l++r))=8 then(zef (yas S l++r)).map _ else _)=_
  rw[if_pos (show hdK ((8,S.bang)::(yas S l++r))=8 from rfl),yat S l r hw h4]
  show some (({ l with neg:=true }:zbv),r)=_
  rw[← hn]
 |false =>
  simp only[Bool.false_eq_true,if_false]
  have h8:¬ hdK (yas S l++r)=8:=by unfold yas;show ¬ (1:Int)=8;decide
  rw[if_neg h8,yat S l r hw h4,← hn]
theorem ybh(S:yap):∀(n:Nat) (b:List zbv) (r:List Tok),b≠[]->b.length<=n->(∀ l∈b,ybu l)->hdK r≠4->hdK r≠6->ze3 n (yaz S b++r)=some (b,r)
 |_,[],_,h,_,_,_,_=>absurd rfl h
 |0,l::b,_,_,hn,_,_,_=>by simp at hn
 |n+1,[l],r,_,_,hw,h4,h6=>zmc (ybs S l r (hw l (by simp)) h4) h6
 |n+1,l::m::b,r,_,hn,hw,h4,h6=>by
  have ih:=ybh S n (m::b) r (by simp) (by simp at hn ⊢;omega) (fun z hz=>hw z (by simp[List.mem_cons.1 hz])) h4 h6
  have e:yaz S (l::m::b)++r=yby S l++((6,S.comma)::(yaz S (m::b)++r)):=by simp[yaz]
  rw[e,zmb (ybs S l _ (hw l (by simp)) (by simp[hdK])) rfl]
  show(ze3 n (yaz S (m::b)++r)).map _=_
  rw[ih]
  rfl
theorem ybo(S:yap)(n:Nat)(c:zab)(r:List Tok)(hw:ycj c)(hn:c.body.length<=n):ze4 n (clK S c++r)=some (c,r):=by
 unfold ze4 clK
 obtain⟨hd,hb⟩:=c
 obtain⟨hg,hp,hs⟩:=hd
 obtain⟨h1,h2,h3⟩:=hw
 simp only at h1 h2 h3 hn
 subst h1
 by_cases hb0:hb=[]
 ·subst hb0
  simp only[if_true,List.append_assoc]
  rw[yat S _ _ h2 (by simp[hdK])]
  simp[hdK]
 ·simp only[if_neg hb0,List.append_assoc]
  rw[yat S _ _ h2 (by simp[hdK])]
  simp only[List.cons_append,ybd,List.tail_cons,if_true]
  rw[ybh S n hb _ hb0 hn h3 (by simp[hdK]) (by simp[hdK])]
  simp[hdK]
theorem ybm(S:yap)(n:Nat):∀(m:Nat) (cs:List zab),(∀ c∈cs,ycj c/\c.body.length<=n)->cs.length<=m->zev n m (yao S cs)=some cs
 |_,[],_,_=>by unfold yao;simp[zev]
 |0,c::cs,_,h=>by simp at h
 |m+1,c::cs,hw,h=>by
  have ih:=ybm S n m cs (fun z hz=>hw z (by simp[hz])) (by simp at h;omega)
  have e:yao S (c::cs)=clK S c++yao S cs:=by simp[yao]
  rw[e,zut (by unfold clK yas;simp) (ybo S n c _ (hw c (by simp)).1 (hw c (by simp)).2),ih]
  rfl
def byt(b:UInt8):Int:=(b.toNat:Int)
def hdB:List UInt8->Int
 |[]=>0
 |b::_=>byt b
def ybl(l:List UInt8)(k:Int):Nat:=if k=9 then 2 else if k=1∨k=2 then(l.takeWhile fun b=>bLD (byt b)).length else if k=3 then(l.takeWhile fun b=>zv3 (byt b)).length else 1
def yaj:Nat->List UInt8->Option (List Tok)
 |0,_=>some []
 |_+1,[]=>some []
 |n+1,a::l =>
  if zml (byt a) then yaj n l
  else if zii (byt a) (hdB l)=0 then none
  else if 6 < ybl (a::l) (zii (byt a) (hdB l)) then none
  else(yaj n ((a::l).drop (ybl (a::l) (zii (byt a) (hdB l))))).map ((zii (byt a) (hdB l),(⟨((a::l).take (ybl (a::l) (zii (byt a) (hdB l)))).toArray⟩:ByteArray))::·)
theorem yaq(s:ByteArray)(i:Nat):bAt s i=hdB (s.data.toList.drop i):=by
 unfold bAt
 split
 ·rename_i h
  have h':i < s.data.toList.length:=by simpa using h
  rw[List.drop_eq_getElem_cons h']
  simp[hdB,byt,ByteArray.getElem_eq_getElem_data]
 ·rename_i h
  rw[List.drop_eq_nil_of_le (by have:s.data.toList.length=s.size:=(by rw[Array.length_toList];rfl);omega)]
  rfl
theorem ya5(p:Int->Bool)(s:ByteArray):∀(n i:Nat),s.size - i<=n->zc2 p s i=i+((s.data.toList.drop i).takeWhile fun b=>p (byt b)).length:=by
 have hsz:s.data.toList.length=s.size:=by rw[Array.length_toList];rfl
 intro n
 induction n with
 |zero =>
  intro i h
  rw[zib (by omega),List.drop_eq_nil_of_le (by omega)]
  simp
 |succ n ih =>
  intro i h
  by_cases hi:i < s.size
  ·have hb:=yaq s i
   rw[List.drop_eq_getElem_cons (by omega)] at hb ⊢
   simp only[hdB] at hb
   cases hp:p (bAt s i) with
   |false =>
    rw[zo3 hp,List.takeWhile_cons,← hb,hp]
    simp
   |true =>
    rw[zjl hi hp,ih (i+1) (by omega),List.takeWhile_cons,← hb,hp]
    simp
    omega
  ·rw[zib hi,List.drop_eq_nil_of_le (by omega)]
   simp
theorem ycf{s:ByteArray}{i:Nat}{k:Int}(hk:k≠0):zn2 s i k=i+ybl (s.data.toList.drop i) k:=by
 unfold zn2 ybl
 rw[if_neg hk]
 split
 ·rfl
 ·split
  ·exact ya5 bLD s _ i (Nat.le_refl _)
  ·split
   ·exact ya5 zv3 s _ i (Nat.le_refl _)
   ·rfl
theorem ybj(s:ByteArray)(i m:Nat):s.extract i (i+m)=⟨((s.data.toList.drop i).take m).toArray⟩:=by
 apply ByteArray.ext
 rw[ByteArray.data_extract]
 apply Array.ext'
 simp[List.take_drop]
theorem yba(s:ByteArray):∀(n i:Nat),splitN n s i=yaj n (s.data.toList.drop i):=by
 have hsz:s.data.toList.length=s.size:=by rw[Array.length_toList];rfl
 intro n
 induction n with
 |zero=>intro i;rfl
 |succ n ih =>
  intro i
  by_cases hi:i < s.size
  ·have hb:=yaq s i
   have hb1:=yaq s (i+1)
   have he:∀ k,k≠0->zn2 s i k=i+ybl (s.data.toList.drop i) k:=fun k hk=>ycf hk
   have hx:∀ m,s.extract i (i+m)=⟨((s.data.toList.drop i).take m).toArray⟩:=ybj s i
   have hdr:∀ m,s.data.toList.drop (i+m)=(s.data.toList.drop i).drop m:=fun m=>by rw[List.drop_drop]
   have hc:=List.drop_eq_getElem_cons (l:=s.data.toList) (i:=i) (by omega)
   unfold splitN
   rw[if_pos hi]
   rw[hc] at hb he hx hdr ⊢
   unfold yaj
   simp only[hdB] at hb
   rw[hb,hb1,ih]
   split
   ·rfl
   ·split
    ·rfl
    ·rename_i hk
     generalize zii (byt s.data.toList[i]) (hdB (List.drop (i+1) s.data.toList))=k at *
     rw[he k hk]
     generalize ybl (s.data.toList[i]::List.drop (i+1) s.data.toList) k=m at *
     rw[Nat.add_sub_cancel_left,hx m,ih,hdr m]
  ·rw[zxb hi,List.drop_eq_nil_of_le (by omega)]
   rfl
def RdA(l:List UInt8)(ts:List Tok):Prop:=∃ m,m<=l.length/\∀ n r,yaj (n+m) (l++r)=(yaj n r).map (ts++·)
def RdN(l:List UInt8)(ts:List Tok):Prop:=∃ m,m<=l.length/\∀ n r,bLD (hdB r)=false->yaj (n+m) (l++r)=(yaj n r).map (ts++·)
theorem ybe{a b:List Tok}(o:Option (List Tok)):(o.map (b++·)).map (a++·)=o.map ((a++b)++·):=by cases o <;> simp
theorem RdA.rdn{l:List UInt8}{ts:List Tok}(h:RdA l ts):RdN l ts:=by
 obtain⟨m,h1,h2⟩:=h
 exact⟨m,h1,fun n r _=>h2 n r⟩
theorem RdA.nil:RdA [] []:=⟨0,Nat.le_refl _,fun n r=>by cases h:yaj n r <;> simp[h]⟩
theorem RdA.app{l l':List UInt8}{ts ts':List Tok}(h:RdA l ts)(k:RdA l' ts'):RdA (l++l') (ts++ts'):=by
 obtain⟨m,h1,h2⟩:=h
 obtain⟨m',k1,k2⟩:=k
 refine⟨m'+m,by simp;omega,fun n r=>?_⟩
 rw[← Nat.add_assoc,List.append_assoc,h2,k2,ybe]
theorem RdA.appN{l l':List UInt8}{ts ts':List Tok}(h:RdA l ts)(k:RdN l' ts'):RdN (l++l') (ts++ts'):=by
 obtain⟨m,h1,h2⟩:=h
 obtain⟨m',k1,k2⟩:=k
 refine⟨m'+m,by simp;omega,fun n r hr=>?_⟩
 rw[← Nat.add_assoc,List.append_assoc,h2,k2 _ _ hr,ybe]
theorem yb1{l r:List UInt8}(h:l≠[]):hdB (l++r)=hdB l:=by
 cases l with
 |nil=>exact absurd rfl h
 |cons a l=>rfl
theorem RdN.app{l l':List UInt8}{ts ts':List Tok}(h:RdN l ts)(hl:l'≠[])(hd:bLD (hdB l')=false)(k:RdA l' ts'):RdA (l++l') (ts++ts'):=by
 obtain⟨m,h1,h2⟩:=h
 obtain⟨m',k1,k2⟩:=k
 refine⟨m'+m,by simp;omega,fun n r=>?_⟩
 rw[← Nat.add_assoc,List.append_assoc,h2 _ _ (by rw[yb1 hl];exact hd),k2,ybe]
theorem RdN.appN{l l':List UInt8}{ts ts':List Tok}(h:RdN l ts)(hl:l'≠[])(hd:bLD (hdB l')=false)(k:RdN l' ts'):RdN (l++l') (ts++ts'):=by
 obtain⟨m,h1,h2⟩:=h
 obtain⟨m',k1,k2⟩:=k
 refine⟨m'+m,by simp;omega,fun n r hr=>?_⟩
 rw[← Nat.add_assoc,List.append_assoc,h2 _ _ (by rw[yb1 hl];exact hd),k2 _ _ hr,ybe]
theorem ya0{b:UInt8}(h:zml (byt b)=true):RdA [b] []:=⟨1,by simp,fun n r=>by
 show yaj (n+1) (b::r)=_
 rw[yaj,if_pos h]
 cases yaj n r <;> simp⟩
theorem ya4{b:UInt8}{k:Int}(hb:zml (byt b)=false)(hk:∀ c,zii (byt b) c=k)(h0:k≠0/\k≠1/\k≠2/\k≠3/\k≠9):RdA [b] [(k,⟨#[b]⟩)]:=⟨1,by simp,fun n r=>by
 have hl:ybl (b::r) k=1:=by unfold ybl;rw[if_neg h0.2.2.2.2,if_neg (by omega),if_neg h0.2.2.2.1]
 show yaj (n+1) (b::r)=_
 rw[yaj,hk,hb,hl]
 simp[h0.1]⟩
structure ya1 (x:List UInt8):Prop where
 ne:x≠[]
 six:x.length<=6
 kind:(zs8 (hdB x)=true∨z8g (hdB x)=true)/\(∀ b∈x,bLD (byt b)=true)∨zv3 (hdB x)=true/\∀ b∈x,zv3 (byt b)=true
theorem yal{p:UInt8->Bool}:∀ {x r:List UInt8},(∀ b∈x,p b=true)->(∀ b l,r=b::l->p b=false)->(x++r).takeWhile p=x
 |[],[],_,_=>rfl
 |[],b::r,_,h=>by simp[h b r rfl]
 |a::x,r,hx,h=>by
  rw[List.cons_append,List.takeWhile_cons,if_pos (hx a (by simp)),yal (fun b hb=>hx b (by simp[hb])) h]
theorem ycb{x:List UInt8}(h:ya1 x):RdN x [(zii (hdB x) (hdB x.tail),⟨x.toArray⟩)]:=⟨1,by have:=h.ne;cases x;exact absurd rfl this;simp,fun n r hr=>by
 obtain⟨hne,h6,hk⟩:=h
 cases x with
 |nil=>exact absurd rfl hne
 |cons a x =>
  have hd:hdB (a::x)=byt a:=rfl
  rw[hd] at hk ⊢
  have hdig:zv3 (hdB r)=false:=by
   simp only[bLD,Bool.or_eq_false_iff] at hr
   exact hr.2
  have hstop:∀(p:Int->Bool),p (hdB r)=false->∀ b l,r=b::l->(fun b=>p (byt b)) b=false:=by
   intro p hp b l e
   subst e
   exact hp
  have hkind:∀ c d,zii (byt a) c=zii (byt a) d:=by
   intro c d
   unfold zii
   rcases hk with ⟨hk|hk,_⟩|⟨hk,_⟩
   ·simp[hk]
   ·simp[hk]
   ·simp[hk]
  have hbl:zml (byt a)=false:=by
   have:bLD (byt a)=true:=by
    rcases hk with ⟨_,hk⟩|⟨hk,_⟩
    ·exact hk a (by simp)
    ·simp[bLD,hk]
   simp only[bLD,zs8,z8g,zv3,Bool.or_eq_true,Bool.and_eq_true,decide_eq_true_eq] at this
   simp only[zml,Bool.or_eq_false_iff,beq_eq_false_iff_ne]
   omega
  have hlen:∀ c,ybl (a::x++r) (zii (byt a) c)=(a::x).length/\zii (byt a) c≠0:=by
   intro c
   by_cases hs:zs8 (byt a)=true
   ·have e:zii (byt a) c=1:=by simp[zii,hs]
    have hall:∀ b∈a::x,bLD (byt b)=true:=by
     rcases hk with ⟨_,hk⟩|⟨_,hk⟩
     ·exact hk
     ·intro b hb;simp[bLD,hk b hb]
    rw[e]
    refine⟨?_,by decide⟩
    unfold ybl
    rw[if_neg (by decide),if_pos (Or.inl rfl),yal hall (hstop bLD hr)]
   ·by_cases hc:z8g (byt a)=true
    ·have e:zii (byt a) c=2:=by simp[zii,hs,hc]
     have hall:∀ b∈a::x,bLD (byt b)=true:=by
      rcases hk with ⟨_,hk⟩|⟨_,hk⟩
      ·exact hk
      ·intro b hb;simp[bLD,hk b hb]
     rw[e]
     refine⟨?_,by decide⟩
     unfold ybl
     rw[if_neg (by decide),if_pos (Or.inr rfl),yal hall (hstop bLD hr)]
    ·rcases hk with ⟨hk|hk,_⟩|⟨hk,hall⟩
     ·exact absurd hk hs
     ·exact absurd hk hc
     ·have e:zii (byt a) c=3:=by simp[zii,hs,hc,hk]
      rw[e]
      refine⟨?_,by decide⟩
      unfold ybl
      rw[if_neg (by decide),if_neg (by decide),if_pos rfl,yal hall (hstop zv3 hdig)]
  show yaj (n+1) (a::(x++r))=_
  rw[yaj,hbl,hkind (hdB (x++r)) (hdB x)]
  obtain⟨l1,l2⟩:=hlen (hdB x)
  rw[List.cons_append] at l1
  rw[l1]
  have e1:(a::(x++r)).drop (a::x).length=r:=by rw[← List.cons_append];simp
  have e2:(a::(x++r)).take (a::x).length=a::x:=by rw[← List.cons_append];simp
  rw[e1,e2,if_neg (by simp),if_neg l2,if_neg (by omega)]
  rfl⟩
def bl(x:ByteArray):List UInt8:=x.data.toList
theorem yan(a b:ByteArray):bl (a++b)=bl a++bl b:=by simp[bl,ByteArray.data_append]
theorem ybz(x:ByteArray):(⟨(bl x).toArray⟩:ByteArray)=x:=by
 apply ByteArray.ext
 simp[bl]
def signs:yap:=⟨⟨#[40]⟩,⟨#[41]⟩,⟨#[44]⟩,⟨#[46]⟩,⟨#[33]⟩,⟨#[58,45]⟩⟩
theorem yco:RdA (bl zrv) [(4,signs.op)]:=ya4 (by decide) (fun _=>by unfold zii;simp[byt,zs8,z8g,zv3,z6a]) (by decide)
theorem ycp:RdA (bl z1x) [(5,signs.shut)]:=ya4 (by decide) (fun _=>by unfold zii;simp[byt,zs8,z8g,zv3,z6a]) (by decide)
theorem ycm:RdA (bl zs7) [(8,signs.bang)]:=ya4 (by decide) (fun _=>by unfold zii;simp[byt,zs8,z8g,zv3,z6a]) (by decide)
theorem ycr:RdA (bl z9w) [(7,signs.dot)]:=ya4 (by decide) (fun _=>by unfold zii;simp[byt,zs8,z8g,zv3,z6a]) (by decide)
theorem ybt:RdA (bl ze8) [(6,signs.comma)]:=(ya4 (b:=44) (k:=6) (by decide) (fun _=>by unfold zii;simp[byt,zs8,z8g,zv3,z6a]) (by decide)).app (ya0 (b:=32) (by decide))
theorem ycn:RdA (bl zzb) []:=ya0 (by decide)
theorem ycg:RdA (bl znu) [(9,signs.arrow)]:=by
 have h:RdA [58,45] [(9,signs.arrow)]:=⟨1,by simp,fun n r=>by
  show yaj (n+1) (58::45::r)=_
  have hk:zii (byt 58) (hdB (45::r))=9:=rfl
  have hb:zml (byt 58)=false:=by decide
  rw[yaj,hk,hb]
  simp[ybl,signs]⟩
 exact((ya0 (b:=32) (by decide)).app h).app (ya0 (b:=32) (by decide))
def yam(l:zbv):Prop:=(ya1 (bl l.pred)/\zs8 (hdB (bl l.pred))=true)/\∀ x∈l.args,ya1 (bl x)
def yar(c:zab):Prop:=c.head.neg=false/\yam c.head/\∀ l∈c.body,yam l
theorem ycd(x:ByteArray):bAt x 1=hdB (bl x).tail:=by rw[yaq];simp[bl]
theorem yca{x:ByteArray}(h:ya1 (bl x)):RdN (bl x) [ycq x]:=by
 have:=ycb h
 rw[ybz] at this
 have e:ycq x=(zii (hdB (bl x)) (hdB (bl x).tail),x):=by
  unfold ycq ybp
  rw[ycd,yaq]
  rfl
 rw[e]
 exact this
theorem ych{x:ByteArray}(h:ya1 (bl x)):isT (ybp x)=true:=by
 unfold ybp
 rw[yaq]
 show isT (zii (hdB (bl x)) _)=true
 unfold zii
 rcases h.kind with ⟨hk|hk,_⟩|⟨hk,_⟩
 ·simp[hk,isT]
 ·by_cases hs:zs8 (hdB (bl x))=true <;> simp[hk,hs,isT]
 ·by_cases hs:zs8 (hdB (bl x))=true
  ·simp[hs,isT]
  ·by_cases hc:z8g (hdB (bl x))=true <;> simp[hk,hs,hc,isT]
theorem yb4:∀(xs:List ByteArray),xs≠[]->(∀ x∈xs,ya1 (bl x))->RdN (bl (zek xs)) (ybf signs xs)
 |[],h,_=>absurd rfl h
 |[x],_,h=>yca (h x (by simp))
 |x::y::r,_,h=>by
  have ih:=yb4 (y::r) (by simp) (fun z hz=>h z (by simp[List.mem_cons.1 hz]))
  show RdN (bl (x++ze8++zek (y::r))) (ycq x::(6,signs.comma)::ybf signs (y::r))
  rw[yan,yan,List.append_assoc]
  exact(yca (h x (by simp))).appN (by simp[bl,ze8]) rfl (ybt.appN ih)
theorem yb8{l:zbv}(h:yam l):RdN (bl l.pred) [(1,l.pred)]:=by
 have:=ycb h.1.1
 rw[ybz] at this
 have e:zii (hdB (bl l.pred)) (hdB (bl l.pred).tail)=1:=by simp[zii,h.1.2]
 rw[e] at this
 exact this
theorem ycl{l:zbv}(h:yam l):RdN (bl (if l.args.length=0 then l.pred else l.pred++zrv++zek l.args++z1x)) (yas signs l):=by
 unfold yas
 by_cases ha:l.args=[]
 ·rw[if_pos (by simp[ha]),if_pos ha]
  exact yb8 h
 ·have hl:¬ l.args.length=0:=fun q=>ha (List.length_eq_zero_iff.1 q)
  rw[if_neg hl,if_neg ha,yan,yan,yan,List.append_assoc,List.append_assoc]
  have h1:=(yb4 l.args ha h.2).app (by simp[bl,z1x]) rfl ycp
  have h2:=yco.app h1
  exact((yb8 h).app (by simp[bl,zrv]) rfl h2).rdn
theorem yb7{l:zbv}(h:yam l):RdN (bl (zl7 l)) (yby signs l):=by
 have ha:=ycl h
 unfold zl7 zuz yby
 cases hn:l.neg with
 |false =>
  simp only[Bool.false_eq_true,if_false]
  exact ha
 |true =>
  simp only[if_true]
  have e:(if l.args.length=0 then zs7++l.pred else zs7++l.pred++zrv++zek l.args++z1x)=zs7++(if l.args.length=0 then l.pred else l.pred++zrv++zek l.args++z1x):=by
   split
   ·rfl
   ·simp only[ByteArray.append_assoc]
  rw[e,yan]
  exact ycm.appN ha
theorem yb5:∀(b:List zbv),b≠[]->(∀ l∈b,yam l)->RdN (bl (zek (b.map zl7))) (yaz signs b)
 |[],h,_=>absurd rfl h
 |[l],_,h=>yb7 (h l (by simp))
 |l::m::r,_,h=>by
  have ih:=yb5 (m::r) (by simp) (fun z hz=>h z (by simp[List.mem_cons.1 hz]))
  show RdN (bl (zl7 l++ze8++zek ((m::r).map zl7))) (yby signs l++(6,signs.comma)::yaz signs (m::r))
  rw[yan,yan,List.append_assoc]
  exact(yb7 (h l (by simp))).appN (by simp[bl,ze8]) rfl (ybt.appN ih)
theorem yb6{c:zab}(h:yar c):RdA (bl (clT c++zzb)) (clK signs c):=by
 have hl:=yb7 h.2.1
 have e:yby signs c.head=yas signs c.head:=by unfold yby;rw[h.1];rfl
 rw[e] at hl
 unfold clT bodyT clK
 rw[yan,yan,yan,List.append_assoc,List.append_assoc]
 have hd:RdA (bl z9w++bl zzb) [(7,signs.dot)]:=ycr.app ycn
 by_cases hb:c.body=[]
 ·rw[if_pos (by simp[hb]),if_pos hb]
  exact hl.app (by simp[bl,z9w]) rfl hd
 ·have hl0:¬ c.body.length=0:=fun q=>hb (List.length_eq_zero_iff.1 q)
  rw[if_neg hl0,if_neg hb,yan,List.append_assoc]
  have h1:=(yb5 c.body hb h.2.2).app (by simp[bl,z9w]) rfl hd
  exact hl.app (by simp[bl,znu]) rfl (ycg.app h1)
theorem ybx(c:zab)(cs:List zab):zxi (c::cs)=(clT c++zzb)++zxi cs:=by
 have:∀(cs:List zab) (a:ByteArray),cs.foldl (fun s c=>s++(clT c++zzb)) a=a++zxi cs:=by
  intro cs
  induction cs with
  |nil=>intro a;simp[zxi]
  |cons d cs ih =>
   intro a
   unfold zxi
   rw[List.foldl_cons,List.foldl_cons,ih,ih]
   simp only[ByteArray.append_assoc,ByteArray.empty_append]
 unfold zxi
 rw[List.foldl_cons,this,ByteArray.empty_append]
 rfl
theorem yb9:∀(cs:List zab),(∀ c∈cs,yar c)->RdA (bl (zxi cs)) (yao signs cs)
 |[],_=>RdA.nil
 |c::cs,h=>by
  rw[ybx,yan]
  have e:yao signs (c::cs)=clK signs c++yao signs cs:=by simp[yao]
  rw[e]
  exact(yb6 (h c (by simp))).app (yb9 cs fun z hz=>h z (by simp[hz]))
theorem ybw{cs:List zab}(h:∀ c∈cs,yar c):splitB (zxi cs)=some (yao signs cs):=by
 obtain⟨m,h1,h2⟩:=yb9 cs h
 unfold splitB
 rw[yba]
 have hs:(zxi cs).size=(bl (zxi cs)).length:=by unfold bl;rw[Array.length_toList];rfl
 have q:=h2 ((bl (zxi cs)).length - m) []
 rw[show(bl (zxi cs)).length - m+m=(zxi cs).size by omega,List.append_nil] at q
 show yaj (zxi cs).size (bl (zxi cs))=_
 rw[q]
 cases (bl (zxi cs)).length - m <;> simp[yaj]
def yci(x:Tok):Prop:=isT x.1=true->ya1 (bl x.2)/\(x.1=1->zs8 (hdB (bl x.2))=true)
theorem yay(p:UInt8->Bool)(l:List UInt8):l.take (l.takeWhile p).length=l.takeWhile p:=by
 induction l with
 |nil=>rfl
 |cons a l ih =>
  rw[List.takeWhile_cons]
  split
  ·simp[ih]
  ·rfl
theorem yau{p:UInt8->Bool}:∀ {l:List UInt8} {b:UInt8},b∈l.takeWhile p->p b=true
 |[],_,h=>by simp at h
 |a::l,b,h=>by
  rw[List.takeWhile_cons] at h
  split at h
  ·rename_i ha
   rcases List.mem_cons.1 h with rfl|h
   ·exact ha
   ·exact yau h
  ·cases h
theorem yax:∀(n:Nat) (l:List UInt8) (ts:List Tok),yaj n l=some ts->∀ x∈ts,yci x
 |0,_,ts,h,x,hx=>by simp[yaj] at h;subst h;cases hx
 |_+1,[],ts,h,x,hx=>by simp[yaj] at h;subst h;cases hx
 |n+1,a::l,ts,h,x,hx=>by
  unfold yaj at h
  split at h
  ·exact yax n l ts h x hx
  ·split at h
   ·cases h
   ·rename_i hk
    split at h
    ·cases h
    ·rename_i h6
     obtain⟨us,hu,rfl⟩:=Option.map_eq_some_iff.1 h
     rcases List.mem_cons.1 hx with rfl|hx
     ·intro ht
      simp only at ht ⊢
      have hbl:∀ m,bl (⟨((a::l).take m).toArray⟩:ByteArray)=(a::l).take m:=fun m=>by simp[bl]
      rw[hbl]
      generalize hK:zii (byt a) (hdB l)=k at *
      unfold zii at hK
      by_cases hs:zs8 (byt a)=true
      ·rw[if_pos hs] at hK
       subst hK
       have e:ybl (a::l) 1=((a::l).takeWhile fun b=>bLD (byt b)).length:=rfl
       rw[e] at h6 ⊢
       rw[yay]
       have hh:(a::l).takeWhile (fun b=>bLD (byt b))=a::l.takeWhile (fun b=>bLD (byt b)):=by rw[List.takeWhile_cons,if_pos (by simp[bLD,hs])]
       refine⟨⟨by rw[hh];simp,by omega,Or.inl ⟨Or.inl (by rw[hh];exact hs),fun b hb=>yau (p:=fun b=>bLD (byt b)) hb⟩⟩,fun _=>by rw[hh];exact hs⟩
      ·rw[if_neg hs] at hK
       by_cases hc:z8g (byt a)=true
       ·rw[if_pos hc] at hK
        subst hK
        have e:ybl (a::l) 2=((a::l).takeWhile fun b=>bLD (byt b)).length:=rfl
        rw[e] at h6 ⊢
        rw[yay]
        have hh:(a::l).takeWhile (fun b=>bLD (byt b))=a::l.takeWhile (fun b=>bLD (byt b)):=by rw[List.takeWhile_cons,if_pos (by simp[bLD,hc])]
        exact⟨⟨by rw[hh];simp,by omega,Or.inl ⟨Or.inr (by rw[hh];exact hc),fun b hb=>yau (p:=fun b=>bLD (byt b)) hb⟩⟩,fun q=>by cases q⟩
       ·rw[if_neg hc] at hK
        by_cases hd:zv3 (byt a)=true
        ·rw[if_pos hd] at hK
         subst hK
         have e:ybl (a::l) 3=((a::l).takeWhile fun b=>zv3 (byt b)).length:=rfl
         rw[e] at h6 ⊢
         rw[yay]
         have hh:(a::l).takeWhile (fun b=>zv3 (byt b))=a::l.takeWhile (fun b=>zv3 (byt b)):=by rw[List.takeWhile_cons,if_pos (by simp[hd])]
         exact⟨⟨by rw[hh];simp,by omega,Or.inr ⟨by rw[hh];exact hd,fun b hb=>yau (p:=fun b=>zv3 (byt b)) hb⟩⟩,fun q=>by cases q⟩
        ·exfalso
         rw[if_neg hd] at hK
         split at hK
         ·subst hK;simp[isT] at ht
         ·unfold z6a at hK
          (repeat' split at hK) <;> subst hK <;> simp[isT] at ht
     ·exact yax n _ us hu x hx
theorem ya7:∀(r:List Tok) {ts:List ByteArray} {r2:List Tok},zbu r=some (ts,r2)->(∀ x∈r,yci x)->(∀ y∈ts,ya1 (bl y))/\∀ x∈r2,x∈r
 |[],_,_,h,_=>by simp[zbu] at h
 |[x],ts,r2,h,ht=>by
  simp only[zbu] at h
  split at h
  ·rename_i hq
   simp only[Option.some.injEq,Prod.mk.injEq] at h
   obtain⟨rfl,rfl⟩:=h
   exact⟨fun y hy=>by simp at hy;subst hy;exact(ht x (by simp) hq).1,by simp⟩
  ·cases h
 |x::y::r,ts,r2,h,ht=>by
  simp only[zbu] at h
  split at h
  ·rename_i hq
   split at h
   ·obtain⟨z,hz,he⟩:=Option.map_eq_some_iff.1 h
    simp only[Prod.mk.injEq] at he
    obtain⟨rfl,rfl⟩:=he
    obtain⟨i1,i2⟩:=ya7 r (ts:=z.1) (r2:=z.2) hz (fun u hu=>ht u (by simp[hu]))
    refine⟨fun u hu=>?_,fun u hu=>by simp[i2 u hu]⟩
    rcases List.mem_cons.1 hu with rfl|hu
    ·exact(ht x (by simp) hq).1
    ·exact i1 u hu
   ·simp only[Option.some.injEq,Prod.mk.injEq] at h
    obtain⟨rfl,rfl⟩:=h
    exact⟨fun u hu=>by simp at hu;subst hu;exact(ht x (by simp) hq).1,fun u hu=>by simp[List.mem_cons.1 hu]⟩
  ·cases h
theorem yak{x:Tok}{r:List Tok}(h:x∈r.tail):x∈r:=by
 cases r with
 |nil=>exact h
 |cons a r=>simp at h;simp[h]
theorem yav{r:List Tok}{l:zbv}{r2:List Tok}(h:zef r=some (l,r2))(ht:∀ x∈r,yci x):l.neg=false/\yam l/\∀ x∈r2,x∈r:=by
 unfold zef at h
 split at h
 ·rename_i h1
  cases r with
  |nil=>simp[hdK] at h1
  |cons a r =>
   have ha:a.1=1:=h1
   have hw:=ht a (by simp) (by rw[ha];rfl)
   have hp:ya1 (bl a.2)/\zs8 (hdB (bl a.2))=true:=⟨hw.1,hw.2 ha⟩
   change (if hdK r=4 then(match zbu r.tail with|none=>none|some (ts,r2)=>if hdK r2=5 then some ((⟨false,a.2,ts⟩:zbv),r2.tail) else none) else some ((⟨false,a.2,[]⟩:zbv),r))=some (l,r2) at h
   by_cases h4:hdK r=4
   ·rw[if_pos h4] at h
    cases hq:zbu r.tail with
    |none=>rw[hq] at h;cases h
    |some z =>
     obtain⟨ts,r3⟩:=z
     rw[hq] at h
     simp only at h
     by_cases h5:hdK r3=5
     ·rw[if_pos h5] at h
      simp only[Option.some.injEq,Prod.mk.injEq] at h
      obtain⟨rfl,rfl⟩:=h
      obtain⟨i1,i2⟩:=ya7 _ hq (fun u hu=>ht u (by simp[yak hu]))
      exact⟨rfl,⟨hp,i1⟩,fun u hu=>by simp[yak (i2 u (yak hu))]⟩
     ·rw[if_neg h5] at h;cases h
   ·rw[if_neg h4] at h
    simp only[Option.some.injEq,Prod.mk.injEq] at h
    obtain⟨rfl,rfl⟩:=h
    exact⟨rfl,⟨hp,fun y hy=>by cases hy⟩,fun u hu=>by simp[hu]⟩
 ·cases h
theorem yb2{r:List Tok}{l:zbv}{r2:List Tok}(h:zsr r=some (l,r2))(ht:∀ x∈r,yci x):yam l/\∀ x∈r2,x∈r:=by
 unfold zsr at h
 split at h
 ·obtain⟨z,hz,he⟩:=Option.map_eq_some_iff.1 h
  simp only[Prod.mk.injEq] at he
  obtain⟨rfl,rfl⟩:=he
  obtain⟨_,i2,i3⟩:=yav (l:=z.1) (r2:=z.2) hz (fun u hu=>ht u (yak hu))
  exact⟨i2,fun u hu=>yak (i3 u hu)⟩
 ·exact(yav h ht).2
theorem ya9:∀(n:Nat) {r:List Tok} {b:List zbv} {r2:List Tok},ze3 n r=some (b,r2)->(∀ x∈r,yci x)->(∀ l∈b,yam l)/\∀ x∈r2,x∈r
 |0,_,_,_,h,_=>by cases h
 |n+1,r,b,r2,h,ht=>by
  unfold ze3 at h
  split at h
  ·cases h
  ·rename_i a r3 hq
   obtain⟨i1,i2⟩:=yb2 hq ht
   split at h
   ·obtain⟨z,hz,he⟩:=Option.map_eq_some_iff.1 h
    simp only[Prod.mk.injEq] at he
    obtain⟨rfl,rfl⟩:=he
    obtain⟨j1,j2⟩:=ya9 n (b:=z.1) (r2:=z.2) hz (fun u hu=>ht u (i2 u (yak hu)))
    refine⟨fun l hl=>?_,fun u hu=>i2 u (yak (j2 u hu))⟩
    rcases List.mem_cons.1 hl with rfl|hl
    ·exact i1
    ·exact j1 l hl
   ·simp only[Option.some.injEq,Prod.mk.injEq] at h
    obtain⟨rfl,rfl⟩:=h
    exact⟨fun l hl=>by simp at hl;subst hl;exact i1,i2⟩
theorem ybi{n:Nat}{r:List Tok}{c:zab}{r2:List Tok}(h:ze4 n r=some (c,r2))(ht:∀ x∈r,yci x):yar c/\∀ x∈r2,x∈r:=by
 unfold ze4 at h
 split at h
 ·cases h
 ·rename_i a r3 hq
  obtain⟨i0,i1,i2⟩:=yav hq ht
  split at h
  ·split at h
   ·cases h
   ·rename_i b r4 hb
    split at h
    ·simp only[Option.some.injEq,Prod.mk.injEq] at h
     obtain⟨rfl,rfl⟩:=h
     obtain⟨j1,j2⟩:=ya9 n hb (fun u hu=>ht u (i2 u (yak hu)))
     exact⟨⟨i0,i1,j1⟩,fun u hu=>i2 u (yak (j2 u (yak hu)))⟩
    ·cases h
  ·split at h
   ·simp only[Option.some.injEq,Prod.mk.injEq] at h
    obtain⟨rfl,rfl⟩:=h
    exact⟨⟨i0,i1,fun l hl=>by cases hl⟩,fun u hu=>i2 u (yak hu)⟩
   ·cases h
theorem yaw{n:Nat}:∀(m:Nat) {r:List Tok} {cs:List zab},zev n m r=some cs->(∀ x∈r,yci x)->∀ c∈cs,yar c
 |m,[],cs,h,_=>by cases m <;> (simp[zev] at h;subst h;simp)
 |0,_::_,cs,h,_=>by simp[zev] at h
 |m+1,x::r,cs,h,ht=>by
  unfold zev at h
  split at h
  ·cases h
  ·rename_i c r2 hq
   obtain⟨i1,i2⟩:=ybi hq ht
   obtain⟨ds,hd,rfl⟩:=Option.map_eq_some_iff.1 h
   intro z hz
   rcases List.mem_cons.1 hz with rfl|hz
   ·exact i1
   ·exact yaw m hd (fun u hu=>ht u (i2 u hu)) z hz
theorem ya6{s:ByteArray}{l:List Tok}(h:splitB s=some l):∀ x∈l,yci x:=by
 unfold splitB at h
 rw[yba] at h
 exact yax _ _ _ h
theorem yam.word{l:zbv}(h:yam l):ybu l:=fun x hx=>ych (h.2 x hx)
theorem yar.word{c:zab}(h:yar c):ycj c:=⟨h.1,h.2.1.word,fun l hl=>(h.2.2 l hl).word⟩
theorem ybr(S:yap)(l:zbv):1<=(yby S l).length:=by
 unfold yby yas
 split <;> simp
theorem ybg(S:yap):∀ b:List zbv,b.length<=(yaz S b).length
 |[]=>by simp
 |[l]=>by have:=ybr S l;simp[yaz];exact this
 |l::m::r=>by
  have ih:=ybg S (m::r)
  have:=ybr S l
  simp only[yaz,List.length_append,List.length_cons] at ih ⊢
  omega
theorem yck(S:yap)(c:zab):c.body.length+1<=(clK S c).length:=by
 have:=ybg S c.body
 unfold clK
 by_cases hb:c.body=[]
 ·simp[hb]
 ·simp only[if_neg hb,List.length_append,List.length_cons,List.length_nil]
  omega
theorem ya3(S:yap):∀ cs:List zab,cs.length<=(yao S cs).length/\∀ c∈cs,c.body.length<=(yao S cs).length
 |[]=>⟨by simp,fun c h=>by cases h⟩
 |c::cs=>by
  obtain⟨i1,i2⟩:=ya3 S cs
  have hc:=yck S c
  have e:(yao S (c::cs)).length=(clK S c).length+(yao S cs).length:=by simp[yao]
  refine⟨by rw[e];simp;omega,fun d hd=>?_⟩
  rw[e]
  rcases List.mem_cons.1 hd with rfl|hd
  ·omega
  ·have:=i2 d hd;omega
theorem yb0{s:ByteArray}{cs:List zab}{t:List zas}(h:znz s=.ok (cs,t))(hs:(zxi cs).size<=500):znz (zxi cs)=.ok (cs,t):=by
 unfold znz at h
 split at h
 ·cases h
 ·split at h
  ·cases h
  ·rename_i l hl
   split at h
   ·cases h
   ·rename_i ds hd
    have hw:=yaw _ hd (ya6 hl)
    have hcs:ds=cs:=by
     repeat'(split at h)
     all_goals first|(cases h;done)|(simp only[Except.ok.injEq,Prod.mk.injEq] at h;exact h.1)
    subst hcs
    have hp:zev (yao signs ds).length (yao signs ds).length (yao signs ds)=some ds:=ybm signs _ _ ds (fun c hc=>⟨(hw c hc).word,(ya3 signs ds).2 c hc⟩) (ya3 signs ds).1
    unfold znz
    rw[if_neg (by omega),ybw hw]
    simp only[hp]
    exact h
end Go.Proofs.YteampbddflhngaaGreat
