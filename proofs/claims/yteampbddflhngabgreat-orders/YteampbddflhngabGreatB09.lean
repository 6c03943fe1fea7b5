import Derived.Test.YteampbddflhngabGreatB08
import Derived.Deep.OwnRows

namespace Go.Proofs.YteampbddflhngabGreat
set_option maxRecDepth 100000
set_option maxHeartbeats 1000000
open Go.RowKit
variable{lo:Nat}
def litW(l:PLit):Nat:=l.args.length+1
def sumW(ls:List PLit):Nat:=ls.foldr(fun l n=>litW l+n) 0
def clW(c:PClause):Nat:=litW c.head+sumW c.body
def prW(cs:List PClause):Nat:=cs.foldr(fun c n=>clW c+n) 0
theorem pTerms_w:∀ (r:List Tok){ts:List ByteArray}{r2:List Tok},pTerms r=some(ts,r2)->ts.length+r2.length<=r.length
 |[],_,_,h=>by simp [pTerms] at h
 |[x],ts,r2,h=>by
  simp only [pTerms] at h
  split at h <;> simp at h
  obtain⟨rfl,rfl⟩:=h;simp
 |x::y::r,ts,r2,h=>by
  simp only [pTerms] at h
  split at h
  ·split at h
   ·cases hq:pTerms r with
    |none=>rw [hq] at h;simp at h
    |some z =>
     obtain⟨ts',r'⟩:=z
     rw [hq] at h;simp at h
     have:=pTerms_w r hq
     obtain⟨rfl,rfl⟩:=h;simp;omega
   ·simp at h;obtain⟨rfl,rfl⟩:=h;simp;omega
  ·simp at h
theorem pAtom_w{r r2:List Tok}{a:PLit}(h:pAtom r=some(a,r2)):litW a+r2.length<=r.length:=by
 cases r with
 |nil=>simp [pAtom,hdK] at h
 |cons x r =>
  unfold pAtom at h
  split at h
  ·split at h
   ·split at h
    ·simp at h
    ·rename_i ts r3 hq
     have:=pTerms_w _ hq
     split at h <;> simp at h
     obtain⟨rfl,rfl⟩:=h;simp [litW] at this ⊢;omega
   ·simp at h;obtain⟨rfl,rfl⟩:=h;simp [litW];omega
  ·simp at h
theorem pLit_w{r r2:List Tok}{a:PLit}(h:pLit r=some(a,r2)):litW a+r2.length<=r.length:=by
 unfold pLit at h
 split at h
 ·cases hq:pAtom r.tail with
  |none=>rw [hq] at h;simp at h
  |some z =>
   obtain⟨a',r'⟩:=z
   rw [hq] at h;simp at h
   have:=pAtom_w hq
   obtain⟨rfl,rfl⟩:=h;simp [litW] at this ⊢;omega
 ·exact pAtom_w h
theorem pBody_w{n:Nat}:∀ {r r2:List Tok}{b:List PLit},pBody n r=some(b,r2)->sumW b+r2.length<=r.length:=by
 induction n with
 |zero=>intro r r2 b h;simp [pBody] at h
 |succ n ih =>
  intro r r2 b h
  cases hl:pLit r with
  |none=>rw [pBody_no hl] at h;cases h
  |some z =>
   obtain⟨a,r3⟩:=z
   have:=pLit_w hl
   by_cases h6:hdK r3=6
   ·rw [pBody_more hl h6] at h
    cases hq:pBody n r3.tail with
    |none=>rw [hq] at h;simp at h
    |some z =>
     obtain⟨b',r'⟩:=z
     rw [hq] at h;simp at h
     have:=ih hq
     obtain⟨rfl,rfl⟩:=h;simp [sumW] at this ⊢;omega
   ·rw [pBody_stop hl h6] at h;simp at h;obtain⟨rfl,rfl⟩:=h;simp [sumW];omega
theorem pClause_w{n:Nat}{r r2:List Tok}{c:PClause}(h:pClause n r=some(c,r2)):clW c+r2.length<=r.length:=by
 unfold pClause at h
 split at h
 ·cases h
 ·rename_i a r1 ha
  have:=pAtom_w ha
  split at h
  ·split at h
   ·cases h
   ·rename_i b r3 hb
    have:=pBody_w hb
    split at h <;> simp at h
    obtain⟨rfl,rfl⟩:=h;simp [clW] at this ⊢;omega
  ·split at h <;> simp at h
   obtain⟨rfl,rfl⟩:=h;simp [clW,sumW];omega
theorem pProg_w{n0:Nat}:∀ {m:Nat}{r:List Tok}{cs:List PClause},pProg n0 m r=some cs->prW cs<=r.length
 |_,[],cs,h=>by simp [pProg] at h;subst h;simp [prW]
 |0,_::_,cs,h=>by simp [pProg] at h
 |m+1,x::r,cs,h=>by
  cases hc:pClause n0(x::r) with
  |none=>rw [pProg_no(by simp) hc] at h;cases h
  |some z =>
   obtain⟨c,r2⟩:=z
   rw [pProg_yes(by simp) hc] at h
   cases hq:pProg n0 m r2 with
   |none=>rw [hq] at h;simp at h
   |some cs' =>
    rw [hq] at h;simp at h;subst h
    have h1:=pClause_w hc
    have h2:=pProg_w hq
    simp only [prW,List.foldr_cons,List.length_cons] at h1 h2 ⊢;omega
theorem sumW_args(ls:List PLit):sumArgs ls+ls.length=sumW ls:=by
 induction ls with
 |nil=>rfl
 |cons a ls ih=>simp [sumArgs,sumW,litW] at ih ⊢;omega
theorem prW_mem{cs:List PClause}{c:PClause}(h:c∈cs):clW c<=prW cs:=by
 induction cs with
 |nil=>cases h
 |cons a cs ih =>
  rcases List.mem_cons.1 h with rfl|h
  ·simp [prW]
  ·have:=ih h;simp [prW] at this ⊢;omega
theorem prW_lits(cs:List PClause):(cs.flatMap litsOf).length<=prW cs:=by
 induction cs with
 |nil=>simp
 |cons a cs ih=>have:=sumW_args a.body;simp [prW,clW,litsOf,litW] at ih ⊢;omega
theorem prW_len(cs:List PClause):cs.length<=prW cs:=by
 induction cs with
 |nil=>simp
 |cons a cs ih=>simp [prW,clW,litW] at ih ⊢;omega
theorem prW_ok{cs:List PClause}(h:prW cs<=1000):∀ c∈cs,ClOK c:=fun c hc=>by
 have h1:=prW_mem hc
 have h2:=sumW_args c.body
 unfold clW litW at h1
 exact⟨by omega,by omega⟩
theorem splitN_len:∀ (n:Nat)(s:ByteArray)(i:Nat)(l:List(Int × ByteArray)),splitN n s i=some l->l.length<=s.size - i
 |0,_,_,l,h=>by simp [splitN] at h;subst h;simp
 |n+1,s,i,l,h=>by
  unfold splitN at h
  split at h
  ·rename_i hi
   split at h
   ·have:=splitN_len n s(i+1) l h;omega
   ·split at h
    ·cases h
    ·rename_i hk
     split at h
     ·cases h
     ·cases hq:splitN n s(endB s i(kindB(bAt s i)(bAt s(i+1)))) with
      |none=>rw [hq] at h;simp at h
      |some l' =>
       rw [hq] at h;simp at h;subst h
       have:=splitN_len n s _ l' hq
       have:=endB_gt s i _ hi rfl hk
       simp;omega
  ·simp at h;subst h;simp
theorem splitB_len{s:ByteArray}{l:List Tok}(h:splitB s=some l):l.length<=s.size:=by have:=splitN_len _ s 0 l h;omega
def compB(s:ByteArray):Except Int(List PClause × List PEnt) :=
 if 500 < s.size then .error 1 else
 match splitB s with
 |none=>.error 2
 |some l =>
  match pProg l.length l.length l with
  |none=>.error 3
  |some cs =>
   if cs.any manyC then .error 4 else
   match collB cs with
   |none=>.error 5
   |some t =>
    if cs.all safeC then
     if(stratN(t.length+1) t cs).2 then .ok(cs,(stratN(t.length+1) t cs).1) else .error 7
    else .error 6
def CompPost(o:Except Int(List PClause × List PEnt))(w:World)(e:Ending)(w':World):Prop :=
 Below w.heap.size w w'/\match o with
  |.error n=>e=.returned(.tuple #[.pointer none,.int .i64 n])
  |.ok(cs,t)=>∃ pb v pv,e=.returned(.tuple #[.pointer(some⟨pb,0,none⟩),.int .i64 0])/\Box w' pb #[v,pv] 88/\CIn w.heap.size 90 w' v cs/\w'.ownsRow w.heap.size 138 3 pv t.length(pcells t)/\w.heap.size<=pb
theorem split_no(s:ByteArray)(w:World)(hs:s.size<=500)(h:splitB s=none):Calls Tryz.prog 37 #[.string s] w fun e w'=>e=.returned(.tuple #[.slice none 0 0,.bool false])/\Below w.heap.size w w':=by
 refine(split_any s w hs).mono ?_
 rintro e w'⟨h1,h2⟩
 rw [h] at h2
 exact⟨h2,h1⟩
theorem split_yes(s:ByteArray)(w:World)(l:List Tok)(hs:s.size<=500)(h:splitB s=some l):Calls Tryz.prog 37 #[.string s] w fun e w'=>∃ v,e=.returned(.tuple #[v,.bool true])/\w'.ownsRow w.heap.size 129 2 v l.length(wcells l)/\l.length<=500/\Below w.heap.size w w':=by
 refine(split_any s w hs).mono ?_
 rintro e w'⟨h1,h2⟩
 rw [h] at h2
 obtain⟨v,a,b,c⟩:=h2
 exact⟨v,a,b,by omega,h1⟩
theorem parse_no(w:World)(wv:Value)(l:List Tok)(base:Nat)(hw:w.ownsRow base 129 2 wv l.length(wcells l))(hl:l.length<=500)(h:pProg l.length l.length l=none) :
  Calls Tryz.prog 38 #[wv] w fun e w'=>e=.returned(.tuple #[.slice none 0 0,.bool false])/\Below w.heap.size w w':=by
 refine(parse_any w wv l base hw hl).mono ?_
 rintro e w'⟨h1,h2⟩
 rw [h] at h2
 exact⟨h2,h1⟩
theorem parse_yes(w:World)(wv:Value)(l:List Tok)(base:Nat)(cs:List PClause)(hw:w.ownsRow base 129 2 wv l.length(wcells l))(hl:l.length<=500)(h:pProg l.length l.length l=some cs) :
  Calls Tryz.prog 38 #[wv] w fun e w'=>∃ v,e=.returned(.tuple #[v,.bool true])/\CIn w.heap.size 90 w' v cs/\Below w.heap.size w w':=by
 refine(parse_any w wv l base hw hl).mono ?_
 rintro e w'⟨h1,h2⟩
 rw [h] at h2
 obtain⟨v,a,b⟩:=h2
 exact⟨v,a,b,h1⟩
theorem collect_no(w:World)(v:Value)(cs:List PClause)(hcs:CIn lo 90 w v cs)(hN:(cs.flatMap litsOf).length<=1000)(h:collB cs=none) :
  Calls Tryz.prog 40 #[v] w fun e w'=>e=.returned(.tuple #[.agg #[.slice none 0 0],.bool false])/\Below w.heap.size w w':=by
 refine(collect_any w v cs hcs hN).mono ?_
 rintro e w'⟨h1,h2⟩
 rw [h] at h2
 exact⟨h2,h1⟩
theorem collect_yes(w:World)(v:Value)(cs:List PClause)(t:List PEnt)(hcs:CIn lo 90 w v cs)(hN:(cs.flatMap litsOf).length<=1000)(h:collB cs=some t) :
  Calls Tryz.prog 40 #[v] w fun e w'=>∃ pv,e=.returned(.tuple #[.agg #[pv],.bool true])/\w'.ownsRow w.heap.size 138 3 pv t.length(pcells t)/\Below w.heap.size w w':=by
 refine(collect_any w v cs hcs hN).mono ?_
 rintro e w'⟨h1,h2⟩
 rw [h] at h2
 obtain⟨v,a,b⟩:=h2
 exact⟨v,a,b,h1⟩
theorem compile_long(s:ByteArray)(w:World)(hs:500 < s.size)(hs2:s.size<=9223372036854775807) :
  Calls Tryz.prog 19 #[.string s] w fun e w'=>CompPost(.error 1) w e w':=by
 go_enter Tryz.func19,Tryz.ntmps19
 go_wp2
 go_ret2
 exact⟨Below.refl _ _,rfl⟩
theorem compile_2(s:ByteArray)(w:World)(hs:s.size<=500)(hS:splitB s=none) :
  Calls Tryz.prog 19 #[.string s] w fun e w'=>CompPost(.error 2) w e w':=by
 have HS:Hid(splitB s=none):=hS
 clear hS
 go_enter Tryz.func19,Tryz.ntmps19
 go_wp2_with(first|(go_at_call 37;refine(split_no s _ hs HS).mono ?_;rintro e w1⟨rfl,hb1⟩))
 go_ret2
 exact⟨hb1,rfl⟩
theorem compile_3(s:ByteArray)(w:World)(hs:s.size<=500)(l:List Tok)(hS:splitB s=some l)(hP:pProg l.length l.length l=none) :
  Calls Tryz.prog 19 #[.string s] w fun e w'=>CompPost(.error 3) w e w':=by
 have HS:Hid(splitB s=some l):=hS
 have HP:Hid(pProg l.length l.length l=none):=hP
 clear hS hP
 go_enter Tryz.func19,Tryz.ntmps19
 go_wp2_with(first|(go_at_call 37;refine(split_yes s _ l hs HS).mono ?_;rintro e w1⟨fv,rfl,hown,hll,hb1⟩;obtain⟨aof,capf,rfl⟩:=own_view hown)|(go_at_call 38;refine(parse_no _ _ l _ hown hll HP).mono ?_;rintro e w2⟨rfl,hb2⟩;have hB2:=bnext hb1 hb2(Nat.le_refl _)))
 go_ret2
 exact⟨hB2,rfl⟩
theorem compile_4(s:ByteArray)(w:World)(hs:s.size<=500)(l:List Tok)(cs:List PClause)(hm:cs.any manyC=true)(hS:splitB s=some l)(hP:pProg l.length l.length l=some cs)(hok:∀ c∈cs,ClOK c)(hlen:cs.length<=1000) :
  Calls Tryz.prog 19 #[.string s] w fun e w'=>CompPost(.error 4) w e w':=by
 have HS:Hid(splitB s=some l):=hS
 have HP:Hid(pProg l.length l.length l=some cs):=hP
 have HOK:Hid(∀ c∈cs,ClOK c):=hok
 have HLEN:Hid(cs.length<=1000):=hlen
 clear hS hP hok hlen
 go_enter Tryz.func19,Tryz.ntmps19
 go_wp2_with(first|(go_at_call 37;refine(split_yes s _ l hs HS).mono ?_;rintro e w1⟨fv,rfl,hown,hll,hb1⟩;obtain⟨aof,capf,rfl⟩:=own_view hown)|(go_at_call 38;refine(parse_yes _ _ l _ cs hown hll HP).mono ?_;rintro e w2⟨cv,rfl,hcin,hb2⟩;obtain⟨aoc,capc,rfl⟩:=hcin.shape;have hB2:=bnext hb1 hb2(Nat.le_refl _))|(go_at_call 39;refine(many_any _ _ cs hcin HOK.out HLEN.out).mono ?_;rintro e w3⟨rfl,hb3⟩;have hB3:=bnext hB2 hb3(Nat.le_refl _);have hcin3:=hcin.below hb3))
 go_ret2
 exact⟨hB3,rfl⟩
theorem compile_5(s:ByteArray)(w:World)(hs:s.size<=500)(l:List Tok)(cs:List PClause)(hm:cs.any manyC=false)(hS:splitB s=some l)(hP:pProg l.length l.length l=some cs)(hok:∀ c∈cs,ClOK c)(hlen:cs.length<=1000)(hlits:(cs.flatMap litsOf).length<=1000)(hC:collB cs=none) :
  Calls Tryz.prog 19 #[.string s] w fun e w'=>CompPost(.error 5) w e w':=by
 have HS:Hid(splitB s=some l):=hS
 have HP:Hid(pProg l.length l.length l=some cs):=hP
 have HOK:Hid(∀ c∈cs,ClOK c):=hok
 have HLEN:Hid(cs.length<=1000):=hlen
 have HLITS:Hid((cs.flatMap litsOf).length<=1000):=hlits
 have HC:Hid(collB cs=none):=hC
 clear hS hP hok hlen hlits hC
 go_enter Tryz.func19,Tryz.ntmps19
 go_wp2_with(first|(go_at_call 37;refine(split_yes s _ l hs HS).mono ?_;rintro e w1⟨fv,rfl,hown,hll,hb1⟩;obtain⟨aof,capf,rfl⟩:=own_view hown)|(go_at_call 38;refine(parse_yes _ _ l _ cs hown hll HP).mono ?_;rintro e w2⟨cv,rfl,hcin,hb2⟩;obtain⟨aoc,capc,rfl⟩:=hcin.shape;have hB2:=bnext hb1 hb2(Nat.le_refl _))|(go_at_call 39;refine(many_any _ _ cs hcin HOK.out HLEN.out).mono ?_;rintro e w3⟨rfl,hb3⟩;have hB3:=bnext hB2 hb3(Nat.le_refl _);have hcin3:=hcin.below hb3)|(go_at_call 40;refine(collect_no _ _ cs hcin3 HLITS.out HC).mono ?_;rintro e w4⟨rfl,hb4⟩;have hB4:=bnext hB3 hb4(Nat.le_refl _);have hz4:=hB4.size))
 go_ret2
 exact⟨(by repeat'(first|with_reducible(first|exact zR _ _|assumption|refine zN ?_ _|refine zA ?_ ?_ _|refine zD ?_|refine zS ?_ ?_ _)|go_size)),rfl⟩
theorem compile_6(s:ByteArray)(w:World)(hs:s.size<=500)(l:List Tok)(cs:List PClause)(t:List PEnt)(hm:cs.any manyC=false)(hsf:cs.all safeC=false)(hS:splitB s=some l)(hP:pProg l.length l.length l=some cs)(hok:∀ c∈cs,ClOK c)(hlen:cs.length<=1000)(hlits:(cs.flatMap litsOf).length<=1000)(hC:collB cs=some t) :
  Calls Tryz.prog 19 #[.string s] w fun e w'=>CompPost(.error 6) w e w':=by
 have HS:Hid(splitB s=some l):=hS
 have HP:Hid(pProg l.length l.length l=some cs):=hP
 have HOK:Hid(∀ c∈cs,ClOK c):=hok
 have HLEN:Hid(cs.length<=1000):=hlen
 have HLITS:Hid((cs.flatMap litsOf).length<=1000):=hlits
 have HC:Hid(collB cs=some t):=hC
 clear hS hP hok hlen hlits hC
 go_enter Tryz.func19,Tryz.ntmps19
 go_wp2_with(first|(go_at_call 37;refine(split_yes s _ l hs HS).mono ?_;rintro e w1⟨fv,rfl,hown,hll,hb1⟩;obtain⟨aof,capf,rfl⟩:=own_view hown)|(go_at_call 38;refine(parse_yes _ _ l _ cs hown hll HP).mono ?_;rintro e w2⟨cv,rfl,hcin,hb2⟩;obtain⟨aoc,capc,rfl⟩:=hcin.shape;have hB2:=bnext hb1 hb2(Nat.le_refl _))|(go_at_call 39;refine(many_any _ _ cs hcin HOK.out HLEN.out).mono ?_;rintro e w3⟨rfl,hb3⟩;have hB3:=bnext hB2 hb3(Nat.le_refl _);have hcin3:=hcin.below hb3)|(go_at_call 40;refine(collect_yes _ _ cs t hcin3 HLITS.out HC).mono ?_;rintro e w4⟨pv,rfl,hpo,hb4⟩;obtain⟨aop,capp,rfl⟩:=own_view hpo;have hB4:=bnext hB3 hb4(Nat.le_refl _);have hz4:=hB4.size;have hcin4:=hcin3.below hb4)|(go_at_call 41;refine(safe_any _ _ cs(by exact hcin4.below(by repeat'(first|with_reducible(first|exact zR _ _|assumption|refine zN ?_ _|refine zA ?_ ?_ _|refine zD ?_|refine zS ?_ ?_ _)|go_size))) HOK.out HLEN.out).mono ?_;rintro e w5⟨rfl,hb5⟩;have hq5:=(Below.refl w4.heap.size w4).alloc(Nat.le_refl _)(.cells #[.slice aop t.length capp] 84);have hbb5:=bnext hq5 hb5(Nat.le_refl _);have hB5:=bnext hB4 hbb5(Nat.le_refl _)))
 go_ret2
 exact⟨hB5,rfl⟩
theorem compile_7(s:ByteArray)(w:World)(hs:s.size<=500)(l:List Tok)(cs:List PClause)(t:List PEnt)(hm:cs.any manyC=false)(hsf:cs.all safeC=true)(hst:(stratN(t.length+1) t cs).2=false)(hS:splitB s=some l)(hP:pProg l.length l.length l=some cs)(hok:∀ c∈cs,ClOK c)(hlen:cs.length<=1000)(hlits:(cs.flatMap litsOf).length<=1000)(hC:collB cs=some t)(htl:t.length<=1000)(htz:∀ e∈t,e.stratum<=0) :
  Calls Tryz.prog 19 #[.string s] w fun e w'=>CompPost(.error 7) w e w':=by
 have HS:Hid(splitB s=some l):=hS
 have HP:Hid(pProg l.length l.length l=some cs):=hP
 have HOK:Hid(∀ c∈cs,ClOK c):=hok
 have HLEN:Hid(cs.length<=1000):=hlen
 have HLITS:Hid((cs.flatMap litsOf).length<=1000):=hlits
 have HC:Hid(collB cs=some t):=hC
 have HTL:Hid(t.length<=1000):=htl
 have HTZ:Hid(∀ e∈t,e.stratum<=0):=htz
 clear hS hP hok hlen hlits hC htl htz
 go_enter Tryz.func19,Tryz.ntmps19
 go_wp2_with(first|(go_at_call 37;refine(split_yes s _ l hs HS).mono ?_;rintro e w1⟨fv,rfl,hown,hll,hb1⟩;obtain⟨aof,capf,rfl⟩:=own_view hown)|(go_at_call 38;refine(parse_yes _ _ l _ cs hown hll HP).mono ?_;rintro e w2⟨cv,rfl,hcin,hb2⟩;obtain⟨aoc,capc,rfl⟩:=hcin.shape;have hB2:=bnext hb1 hb2(Nat.le_refl _))|(go_at_call 39;refine(many_any _ _ cs hcin HOK.out HLEN.out).mono ?_;rintro e w3⟨rfl,hb3⟩;have hB3:=bnext hB2 hb3(Nat.le_refl _);have hcin3:=hcin.below hb3)|(go_at_call 40;refine(collect_yes _ _ cs t hcin3 HLITS.out HC).mono ?_;rintro e w4⟨pv,rfl,hpo,hb4⟩;obtain⟨aop,capp,rfl⟩:=own_view hpo;have hB4:=bnext hB3 hb4(Nat.le_refl _);have hz4:=hB4.size;have hcin4:=hcin3.below hb4)|(go_at_call 41;refine(safe_any _ _ cs(by exact hcin4.below(by repeat'(first|with_reducible(first|exact zR _ _|assumption|refine zN ?_ _|refine zA ?_ ?_ _|refine zD ?_|refine zS ?_ ?_ _)|go_size))) HOK.out HLEN.out).mono ?_;rintro e w5⟨rfl,hb5⟩;have hq5:=(Below.refl w4.heap.size w4).alloc(Nat.le_refl _)(.cells #[.slice aop t.length capp] 84);have hbb5:=bnext hq5 hb5(Nat.le_refl _);have hB5:=bnext hB4 hbb5(Nat.le_refl _))|(go_at_call 42;refine(stratify_any w3.heap.size _ w4.heap.size t _ cs w3 rfl(bnext hb4 hbb5(Nat.le_refl _)) hcin3 HOK.out HLEN.out⟨_,(Box.new w4 _ _).below hb5,owns_below hpo hbb5⟩ HTL.out HTZ.out).mono ?_;rintro e w6⟨rfl,hta6,hb6⟩;obtain⟨ao6,cap6,hbx6,hown6⟩:=hta6.view;obtain⟨hc6,hf6⟩:=hbx6.rules;have hB6:Below w.heap.size w w6:=hB5.trans(hb6.mono(Nat.le_trans hB3.size(Nat.le_refl _)));have hz6:=hbx6.lt))
 go_ret2
 exact⟨hB6,rfl⟩
theorem compile_0(s:ByteArray)(w:World)(hs:s.size<=500)(l:List Tok)(cs:List PClause)(t:List PEnt)(hm:cs.any manyC=false)(hsf:cs.all safeC=true)(hst:(stratN(t.length+1) t cs).2=true)(hS:splitB s=some l)(hP:pProg l.length l.length l=some cs)(hok:∀ c∈cs,ClOK c)(hlen:cs.length<=1000)(hlits:(cs.flatMap litsOf).length<=1000)(hC:collB cs=some t)(htl:t.length<=1000)(htz:∀ e∈t,e.stratum<=0) :
  Calls Tryz.prog 19 #[.string s] w fun e w'=>CompPost(.ok(cs,(stratN(t.length+1) t cs).1)) w e w':=by
 have HS:Hid(splitB s=some l):=hS
 have HP:Hid(pProg l.length l.length l=some cs):=hP
 have HOK:Hid(∀ c∈cs,ClOK c):=hok
 have HLEN:Hid(cs.length<=1000):=hlen
 have HLITS:Hid((cs.flatMap litsOf).length<=1000):=hlits
 have HC:Hid(collB cs=some t):=hC
 have HTL:Hid(t.length<=1000):=htl
 have HTZ:Hid(∀ e∈t,e.stratum<=0):=htz
 clear hS hP hok hlen hlits hC htl htz
 go_enter Tryz.func19,Tryz.ntmps19
 go_wp2_with(first|(go_at_call 37;refine(split_yes s _ l hs HS).mono ?_;rintro e w1⟨fv,rfl,hown,hll,hb1⟩;obtain⟨aof,capf,rfl⟩:=own_view hown)|(go_at_call 38;refine(parse_yes _ _ l _ cs hown hll HP).mono ?_;rintro e w2⟨cv,rfl,hcin,hb2⟩;obtain⟨aoc,capc,rfl⟩:=hcin.shape;have hB2:=bnext hb1 hb2(Nat.le_refl _))|(go_at_call 39;refine(many_any _ _ cs hcin HOK.out HLEN.out).mono ?_;rintro e w3⟨rfl,hb3⟩;have hB3:=bnext hB2 hb3(Nat.le_refl _);have hcin3:=hcin.below hb3)|(go_at_call 40;refine(collect_yes _ _ cs t hcin3 HLITS.out HC).mono ?_;rintro e w4⟨pv,rfl,hpo,hb4⟩;obtain⟨aop,capp,rfl⟩:=own_view hpo;have hB4:=bnext hB3 hb4(Nat.le_refl _);have hz4:=hB4.size;have hcin4:=hcin3.below hb4)|(go_at_call 41;refine(safe_any _ _ cs(by exact hcin4.below(by repeat'(first|with_reducible(first|exact zR _ _|assumption|refine zN ?_ _|refine zA ?_ ?_ _|refine zD ?_|refine zS ?_ ?_ _)|go_size))) HOK.out HLEN.out).mono ?_;rintro e w5⟨rfl,hb5⟩;have hq5:=(Below.refl w4.heap.size w4).alloc(Nat.le_refl _)(.cells #[.slice aop t.length capp] 84);have hbb5:=bnext hq5 hb5(Nat.le_refl _);have hB5:=bnext hB4 hbb5(Nat.le_refl _))|(go_at_call 42;refine(stratify_any w3.heap.size _ w4.heap.size t _ cs w3 rfl(bnext hb4 hbb5(Nat.le_refl _)) hcin3 HOK.out HLEN.out⟨_,(Box.new w4 _ _).below hb5,owns_below hpo hbb5⟩ HTL.out HTZ.out).mono ?_;rintro e w6⟨rfl,hta6,hb6⟩;obtain⟨ao6,cap6,hbx6,hown6⟩:=hta6.view;obtain⟨hc6,hf6⟩:=hbx6.rules;have hB6:Below w.heap.size w w6:=hB5.trans(hb6.mono(Nat.le_trans hB3.size(Nat.le_refl _)));have hz6:=hbx6.lt))
 have hz66:=hB6.size
 have hcin6:=hcin3.below((bnext hb4 hbb5(Nat.le_refl _)).trans hb6)
 go_ret2
 exact⟨(by repeat'(first|with_reducible(first|exact zR _ _|assumption|refine zN ?_ _|refine zA ?_ ?_ _|refine zD ?_|refine zS ?_ ?_ _)|go_size)),w6.heap.size,_,_,rfl,Box.new _ _ _,(hcin6.low hb1.size).below((Below.refl _ _).alloc(Nat.le_refl _) _),own_low(owns_below hown6((Below.refl _ _).alloc(Nat.le_refl _) _)) hB3.size,hz66⟩
theorem compile_any(s:ByteArray)(w:World)(hs2:s.size<=9223372036854775807) :
  Calls Tryz.prog 19 #[.string s] w fun e w'=>CompPost(compB s) w e w':=by
 unfold compB
 split
 ·rename_i hs;exact compile_long s w hs hs2
 ·rename_i hs
  have hs':s.size<=500:=by omega
  split
  ·rename_i hS;exact compile_2 s w hs' hS
  ·rename_i l hS
   split
   ·rename_i hP;exact compile_3 s w hs' l hS hP
   ·rename_i cs hP
    have hl:l.length<=500:=by
     have:=splitB_len hS;omega
    have hw:=pProg_w hP
    have hok:=prW_ok(cs:=cs)(by omega)
    have hlen:cs.length<=1000:=by have:=prW_len cs;omega
    have hlits:(cs.flatMap litsOf).length<=1000:=by have:=prW_lits cs;omega
    split
    ·rename_i hm;exact compile_4 s w hs' l cs hm hS hP hok hlen
    ·rename_i hm
     have hm':cs.any manyC=false:=by simpa using hm
     split
     ·rename_i hC;exact compile_5 s w hs' l cs hm' hS hP hok hlen hlits hC
     ·rename_i t hC
      have htl:t.length<=1000:=by have:=addO_len _ _ _ hC;simp only [List.length_nil] at this;omega
      have htz:∀ e∈t,e.stratum<=0:=addO_zero _ [](by simp) t hC
      split
      ·rename_i hsf
       split
       ·rename_i hst;exact compile_0 s w hs' l cs t hm' hsf hst hS hP hok hlen hlits hC htl htz
       ·rename_i hst;exact compile_7 s w hs' l cs t hm' hsf(by simpa using hst) hS hP hok hlen hlits hC htl htz
      ·rename_i hsf;exact compile_6 s w hs' l cs t hm'(by simpa using hsf) hS hP hok hlen hlits hC
end Go.Proofs.YteampbddflhngabGreat

namespace Go.Proofs.YteampbddflhngabGreat
open Go.RowKit
variable{lo:Nat}
def TP(B:Nat)(w:World)(tb:Nat)(t:List PEnt):Prop:=∃ cv pv,Box w tb #[cv,pv] 88/\w.ownsRow B 138 3 pv t.length(pcells t)
theorem TP.view{B:Nat}{w:World}{tb:Nat}{t:List PEnt}(h:TP B w tb t):∃ cv ao cap,Box w tb #[cv,.slice ao t.length cap] 88/\w.ownsRow B 138 3(.slice ao t.length cap) t.length(pcells t):=by
 obtain⟨cv,nv,h1,h2⟩:=h
 obtain⟨ao,cap,rfl⟩:=own_view h2
 exact⟨cv,ao,cap,h1,h2⟩
end Go.Proofs.YteampbddflhngabGreat

namespace Go.Proofs.YteampbddflhngabGreat
set_option maxRecDepth 100000
set_option maxHeartbeats 2000000
open Go.RowKit
variable{lo:Nat}
theorem own_make(w:World)(n:Nat)(T:TypeId)(z:Value)(hn:n<=maxLen):(w.alloc(.cells(madeCells #[z] n) T)).ownsRow w.heap.size T 1(.slice(some⟨w.heap.size,0,none⟩) n n) n(List.replicate n z):=by
 refine⟨by simp,Or.inr⟨w.heap.size,n,madeCells #[z] n,rfl,Nat.le_refl _,?_,Nat.le_refl _,hn,by rw [size_madeCells];omega,?_⟩⟩
 ·show(w.heap.push _)[w.heap.size]?=_
  simp
 ·apply List.ext_getElem?
  intro i
  by_cases hi:i < n
  ·simp [hi,madeCells,Nat.mod_one]
  ·simp [List.getElem?_take,hi]
def fillS{α:Type}(f:α->Value)(l:List α)(z:Value)(k:Nat):List Value:=(l.take k).map f++List.replicate(l.length - k) z
theorem fill_set{α:Type}(f:α->Value)(l:List α)(z:Value)(k:Nat)(hk:k < l.length):(fillS f l z k).set k(f l[k])=fillS f l z(k+1):=by
 unfold fillS
 have h1:((l.take k).map f).length=k:=by simp;omega
 rw [List.set_append_right _ _(by omega),h1,Nat.sub_self,List.take_succ_eq_append_getElem hk,List.map_append,List.append_assoc]
 congr 1
 rw [show l.length - k=(l.length - (k+1))+1 by omega,List.replicate_succ]
 rfl
theorem fill_len{α:Type}(f:α->Value)(l:List α)(z:Value)(k:Nat)(hk:k<=l.length):(fillS f l z k).length=l.length:=by unfold fillS;simp;omega
theorem fill_zero{α:Type}(f:α->Value)(l:List α)(z:Value):fillS f l z 0=List.replicate l.length z:=by simp [fillS]
theorem fill_all{α:Type}(f:α->Value)(l:List α)(z:Value)(k:Nat)(hk:¬ k < l.length):fillS f l z k=l.map f:=by
 unfold fillS;rw [List.take_of_length_le(by omega),show l.length - k=0 by omega];simp
theorem copyStrings_any(w:World)(v:Value)(l:List ByteArray)(hs:SIn lo w v l)(hl:l.length<=1000) :
  Calls Tryz.prog 84 #[v] w fun e w'=>∃ g,w.heap.size<=g/\e=.returned(.slice(some⟨g,0,none⟩) l.length l.length)/\SIn w.heap.size w'(.slice(some⟨g,0,none⟩) l.length l.length) l/\Below w.heap.size w w':=by
 obtain⟨ao,cap,rfl⟩:=hs.shape
 have hmk:=run_make_row'(P:=Tryz.prog) 38 9(.string ByteArray.empty) 16 Tryz.underlying38 Tryz.infoString rfl .i64 .i64 l.length(by omega)(by omega)
 go_enter Tryz.func84,Tryz.ntmps84
 go_wp2
 clear hmk
 have hom:=own_make w l.length 9(.string ByteArray.empty)(by unfold maxLen;omega)
 rw [← fill_zero Value.string] at hom
 go_loopw [11](fun i wr=>∃ k:Nat,k<=l.length/\i=.int .i64 k/\Below w.heap.size w wr/\wr.ownsRow w.heap.size 9 1(.slice(some⟨w.heap.size,0,none⟩) l.length l.length) l.length(fillS Value.string l(.string ByteArray.empty) k))(fun i _=>l.length - (intOf i).toNat)
 case atStart=>exact⟨0,Nat.zero_le _,rfl,(by repeat'(first|with_reducible(first|exact zR _ _|assumption|refine zN ?_ _|refine zA ?_ ?_ _|refine zD ?_|refine zS ?_ ?_ _)|go_size)),hom⟩
 case round =>
  clear hom
  obtain⟨k,hk,rfl,hbk,hown⟩:=hrel
  have hszk:=hbk.size
  by_cases hlt:k < l.length
  ·obtain⟨g,rfl,hg,hck⟩:=hs.cell k hlt
   have hxk:=(hbk.cell(p:=⟨g,k,none⟩) hg).trans hck
   have hgr:g < wr.heap.size:=by omega
   have hset:=own_set hown k(by rw [fill_len _ _ _ _ hk];exact hlt)(.string l[k])
   rw [fill_set Value.string l _ k hlt] at hset
   have HSET:Hid((wr.setCell⟨w.heap.size,k,none⟩(.string l[k])).ownsRow w.heap.size 9 1(.slice(some⟨w.heap.size,0,none⟩) l.length l.length) l.length(fillS Value.string l(.string ByteArray.empty)(k+1))):=hset
   have hfz:=own_free hown
   obtain⟨g2,cap2,hv2,_,hg2,hcl2⟩:=own_cells hown(by omega)
   simp at hv2
   obtain⟨rfl,_⟩:=hv2
   have hck2:∃ u,wr.cell?⟨w.heap.size,k,none⟩=some u:=⟨_,hcl2 k _(List.getElem?_eq_getElem(by rw [fill_len _ _ _ _ hk];exact hlt))⟩
   obtain⟨u0,hu0⟩:=hck2
   clear hck hset hcl2
   generalize l[k]=x at *
   go_wp2
   go_roundw
   case rel=>exact⟨k+1,by omega,by go_num,(by repeat'(first|with_reducible(first|exact zR _ _|assumption|refine zN ?_ _|refine zA ?_ ?_ _|refine zD ?_|refine zS ?_ ?_ _)|go_size)),HSET⟩
   case measure=>simp [intOf];omega
  ·rw [fill_all _ _ _ _ hlt] at hown
   go_wp2
   go_ret
   exact⟨_,Nat.le_refl _,rfl,hown,hbk⟩
theorem pnames_any(B:Nat)(w:World)(tb:Nat)(t:List PEnt)(h:TP B w tb t)(hl:t.length<=1000) :
  Calls Tryz.prog 43 #[.pointer(some⟨tb,1,none⟩)] w fun e w'=>∃ g,w.heap.size<=g/\e=.returned(.slice(some⟨g,0,none⟩) t.length t.length)/\SIn w.heap.size w'(.slice(some⟨g,0,none⟩) t.length t.length)(t.map PEnt.name)/\Below w.heap.size w w':=by
 obtain⟨cv,ao,cap,hbx,hown⟩:=h.view
 obtain⟨hc,hf⟩:=hbx.rules
 have hlt:=hbx.lt
 have hmk:=run_make_row'(P:=Tryz.prog) 38 9(.string ByteArray.empty) 16 Tryz.underlying38 Tryz.infoString rfl .i64 .i64 t.length(by omega)(by omega)
 go_enter Tryz.func43,Tryz.ntmps43
 go_wp2
 clear hmk
 have hom:=own_make w t.length 9(.string ByteArray.empty)(by unfold maxLen;omega)
 rw [← fill_zero(fun e:PEnt=>Value.string e.name)] at hom
 go_loopw [17](fun i wr=>∃ k:Nat,k<=t.length/\i=.int .i64 k/\Below w.heap.size w wr/\wr.ownsRow w.heap.size 9 1(.slice(some⟨w.heap.size,0,none⟩) t.length t.length) t.length(fillS(fun e:PEnt=>Value.string e.name) t(.string ByteArray.empty) k))(fun i _=>t.length - (intOf i).toNat)
 case atStart=>exact⟨0,Nat.zero_le _,rfl,(by repeat'(first|with_reducible(first|exact zR _ _|assumption|refine zN ?_ _|refine zA ?_ ?_ _|refine zD ?_|refine zS ?_ ?_ _)|go_size)),hom⟩
 case round =>
  clear hom hc hf
  obtain⟨k,hk,rfl,hbk,hownk⟩:=hrel
  have hszk:=hbk.size
  by_cases hkt:k < t.length
  ·obtain⟨g,rfl,hg,_,hd0,hd1,hd2⟩:=ent_cell hown k hkt
   have hx0:=(hbk.cell(p:=⟨g,k * 3,none⟩) hg).trans hd0
   have hx1:=(hbk.cell(p:=⟨g,k * 3+1,none⟩) hg).trans hd1
   have hx2:=(hbk.cell(p:=⟨g,k * 3+2,none⟩) hg).trans hd2
   have hgr:g < wr.heap.size:=by omega
   have hset:=own_set hownk k(by rw [fill_len _ _ _ _ hk];exact hkt)(.string t[k].name)
   rw [fill_set(fun e:PEnt=>Value.string e.name) t _ k hkt] at hset
   have HSET:Hid((wr.setCell⟨w.heap.size,k,none⟩(.string t[k].name)).ownsRow w.heap.size 9 1(.slice(some⟨w.heap.size,0,none⟩) t.length t.length) t.length(fillS(fun e:PEnt=>Value.string e.name) t(.string ByteArray.empty)(k+1))):=hset
   have hfz:=own_free hownk
   obtain⟨g2,cap2,hv2,_,hg2,hcl2⟩:=own_cells hownk(by omega)
   simp at hv2
   obtain⟨rfl,_⟩:=hv2
   have hck2:∃ u,wr.cell?⟨w.heap.size,k,none⟩=some u:=⟨_,hcl2 k _(List.getElem?_eq_getElem(by rw [fill_len _ _ _ _ hk];exact hkt))⟩
   obtain⟨u0,hu0⟩:=hck2
   clear hd0 hd1 hd2 hset hcl2
   generalize t[k]=x at *
   go_wp2
   go_roundw
   case rel=>exact⟨k+1,by omega,by go_num,(by repeat'(first|with_reducible(first|exact zR _ _|assumption|refine zN ?_ _|refine zA ?_ ?_ _|refine zD ?_|refine zS ?_ ?_ _)|go_size)),owns_below HSET.out((Below.refl _ _).alloc(Nat.le_refl _) _)⟩
   case measure=>simp [intOf];omega
  ·rw [fill_all _ _ _ _ hkt] at hownk
   have hs:SIn w.heap.size wr(.slice(some⟨w.heap.size,0,none⟩) t.length t.length)(t.map PEnt.name):=by simpa [SIn,Function.comp_def] using hownk
   go_wp2
   go_ret
   exact⟨_,Nat.le_refl _,rfl,hs,hbk⟩
theorem vnames_any(w:World)(vb:Nat)(nv:Value)(vs:List ByteArray)(hbox:Box w vb #[nv] 124)(hs:SIn lo w nv vs)(hl:vs.length<=1000) :
  Calls Tryz.prog 58 #[.pointer(some⟨vb,0,none⟩)] w fun e w'=>∃ g,w.heap.size<=g/\e=.returned(.slice(some⟨g,0,none⟩) vs.length vs.length)/\SIn w.heap.size w'(.slice(some⟨g,0,none⟩) vs.length vs.length) vs/\Below w.heap.size w w':=by
 obtain⟨hc,hf⟩:=hbox.rules
 obtain⟨ao,cap,rfl⟩:=hs.shape
 have HC:Hid(Calls Tryz.prog 84 #[.slice ao vs.length cap] w fun e w'=>∃ g,w.heap.size<=g/\e=.returned(.slice(some⟨g,0,none⟩) vs.length vs.length)/\SIn w.heap.size w'(.slice(some⟨g,0,none⟩) vs.length vs.length) vs/\Below w.heap.size w w'):=copyStrings_any w _ vs hs hl
 go_enter Tryz.func58,Tryz.ntmps58
 go_wp2_with(first|(go_at_call 84;refine HC.out.mono ?_;rintro e w1⟨g,hg,rfl,hs1,hb1⟩))
 go_ret
 exact⟨g,hg,rfl,hs1,hb1⟩
end Go.Proofs.YteampbddflhngabGreat

namespace Go.Proofs.YteampbddflhngabGreat
set_option maxRecDepth 100000
set_option maxHeartbeats 2000000
open Go.RowKit
variable{lo:Nat}
def PProg(lo:Nat)(w:World)(pb:Nat)(cs:List PClause)(t:List PEnt):Prop:=lo<=pb/\∃ v pv,Box w pb #[v,pv] 88/\CIn lo 90 w v cs/\w.ownsRow lo 138 3 pv t.length(pcells t)
theorem PProg.table{w:World}{pb:Nat}{cs:List PClause}{t:List PEnt}(h:PProg lo w pb cs t):TP lo w pb t:=by
 obtain⟨_,v,pv,h1,_,h3⟩:=h;exact⟨v,pv,h1,h3⟩
theorem PProg.below{w w':World}{pb:Nat}{cs:List PClause}{t:List PEnt}(h:PProg lo w pb cs t)(hb:Below w.heap.size w w'):PProg lo w' pb cs t:=by
 obtain⟨h0,v,pv,h1,h2,h3⟩:=h;exact⟨h0,v,pv,h1.below hb,h2.below hb,owns_below h3 hb⟩
theorem prog_preds(w:World)(pb:Nat)(cs:List PClause)(t:List PEnt)(h:PProg lo w pb cs t)(hl:t.length<=1000) :
  Calls Tryz.prog 21 #[.pointer(some⟨pb,0,none⟩)] w fun e w'=>∃ g,w.heap.size<=g/\e=.returned(.slice(some⟨g,0,none⟩) t.length t.length)/\SIn w.heap.size w'(.slice(some⟨g,0,none⟩) t.length t.length)(t.map PEnt.name)/\Below w.heap.size w w':=by
 have HN:=pnames_any lo w pb t h.table hl
 have hlt:pb < w.heap.size:=by obtain⟨_,v,pv,h1,_⟩:=h;exact h1.lt
 go_enter Tryz.func21,Tryz.ntmps21
 go_wp2_with(first|(go_at_call 43;refine HN.mono ?_;rintro e w1⟨g,hg,rfl,hs1,hb1⟩))
 go_ret
 exact⟨g,hg,rfl,hs1,hb1⟩
theorem prog_clauses(w:World)(pb:Nat)(cs:List PClause)(t:List PEnt)(h:PProg lo w pb cs t) :
  Calls Tryz.prog 22 #[.pointer(some⟨pb,0,none⟩)] w fun e w'=>e=.returned(.int .i64 cs.length)/\w'=w:=by
 obtain⟨_,v,pv,h1,h2,_⟩:=h
 obtain⟨ao,cap,rfl⟩:=h2.shape
 obtain⟨hc,hf⟩:=h1.rules
 have hlt:=h1.lt
 go_enter Tryz.func22,Tryz.ntmps22
 go_wp2
 go_ret
 exact⟨rfl,rfl⟩
theorem prog_vars_yes(w:World)(pb:Nat)(cs:List PClause)(t:List PEnt)(k:Nat)(h:PProg lo w pb cs t)(_hl:cs.length<=1000)(hk:k < cs.length)(hok:ClOK cs[k]) :
  Calls Tryz.prog 33 #[.pointer(some⟨pb,0,none⟩),.int .i64 k] w fun e w'=>∃ g,w.heap.size<=g/\e=.returned(.tuple #[.slice(some⟨g,0,none⟩)(plainVs cs[k]).length(plainVs cs[k]).length,.int .i64 0])/\SIn w.heap.size w'(.slice(some⟨g,0,none⟩)(plainVs cs[k]).length(plainVs cs[k]).length)(plainVs cs[k])/\Below w.heap.size w w':=by
 obtain⟨_,v,pv,h1,h2,_⟩:=h
 obtain⟨ao,cap,rfl⟩:=h2.shape
 obtain⟨hc,hf⟩:=h1.rules
 have hlt:=h1.lt
 obtain⟨g,ao2,cap2,ao3,cap3,rfl,hg,hd0,hd1,hd2,hd3,hsk,hlk⟩:=h2.cell k hk
 obtain⟨hk1,hk2⟩:=hok
 have hpl:(plainVs cs[k]).length<=1000:=by have:=plainV_len cs[k].body [];unfold plainVs;simp at this;omega
 generalize cs[k]=c at *
 have HP:Hid(∀ W,Below w.heap.size w W->Calls Tryz.prog 57 #[.agg #[.bool c.head.neg,.string c.head.pred,.slice ao2 c.head.args.length cap2,.slice ao3 c.body.length cap3]] W fun e w'=>∃ nv,e=.returned(.agg #[nv])/\w'.ownsRow W.heap.size 9 1 nv(plainVs c).length((plainVs c).map Value.string)/\Below W.heap.size W w'):=fun W hW=>plain_any W c _ _(hsk.below hW)(hlk.below hW) hk1 hk2
 go_enter Tryz.func33,Tryz.ntmps33
 go_wp2_with(first|(go_at_call 57;refine(HP.out _(by exact(by repeat'(first|with_reducible(first|exact zR _ _|assumption|refine zN ?_ _|refine zA ?_ ?_ _|refine zD ?_|refine zS ?_ ?_ _)|go_size)))).mono ?_;rintro e w1⟨nv,rfl,hown,hb1⟩;obtain⟨ao4,cap4,rfl⟩:=own_view hown)|(go_at_call 58;refine(vnames_any _ _ _(plainVs c)(by exact Box.new _ _ _)(by exact owns_below hown(by repeat'(first|with_reducible(first|exact zR _ _|assumption|refine zN ?_ _|refine zA ?_ ?_ _|refine zD ?_|refine zS ?_ ?_ _)|go_size))) hpl).mono ?_;rintro e w2⟨g2,hg2,rfl,hs2,hb2⟩))
 have hz1:=hb1.size
 rw [World.size_alloc] at hg2
 go_ret2
 exact⟨g2,by omega,rfl,hs2.low(by rw [World.size_alloc];omega),bnext(hb1.alloc hz1 _) hb2(Nat.le_refl _)⟩
end Go.Proofs.YteampbddflhngabGreat
