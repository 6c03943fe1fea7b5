import Derived.Test.YteampbddflhngabGreatB08
import Derived.Deep.OwnRows

namespace Go.Proofs.YteampbddflhngabGreat
set_option maxRecDepth 100000
set_option maxHeartbeats 1000000
open Go.RowKit
variable {lo:Nat}
def z16(l:zb2):Nat:=l.args.length+1
def sumW(ls:List zb2):Nat:=ls.foldr (fun l n=>z16 l+n) 0
def clW(c:zab):Nat:=z16 c.head+sumW c.body
def prW(cs:List zab):Nat:=cs.foldr (fun c n=>clW c+n) 0
theorem zyp:∀(r:List Tok) {ts:List ByteArray} {r2:List Tok},zbv r=some (ts,r2)->ts.length+r2.length<=r.length
 |[],_,_,h=>by simp[zbv] at h
 |[x],ts,r2,h=>by
  simp only[zbv] at h
  split at h <;> simp at h
  obtain⟨rfl,rfl⟩:=h;simp
 |x::y::r,ts,r2,h=>by
  simp only[zbv] at h
  split at h
  ·split at h
   ·cases hq:zbv r with
    |none=>rw[hq] at h;simp at h
    |some z =>
     obtain⟨ts',r'⟩:=z
     rw[hq] at h;simp at h
     have:=zyp r hq
     obtain⟨rfl,rfl⟩:=h;simp;omega
   ·simp at h;obtain⟨rfl,rfl⟩:=h;simp;omega
  ·simp at h
theorem zwh{r r2:List Tok}{a:zb2}(h:zeh r=some (a,r2)):z16 a+r2.length<=r.length:=by
 cases r with
 |nil=>simp[zeh,hdK] at h
 |cons x r =>
  unfold zeh at h
  split at h
  ·split at h
   ·split at h
    ·simp at h
    ·rename_i ts r3 hq
     have:=zyp _ hq
     split at h <;> simp at h
     obtain⟨rfl,rfl⟩:=h;simp[z16] at this ⊢;omega
   ·simp at h;obtain⟨rfl,rfl⟩:=h;simp[z16];omega
  ·simp at h
theorem yao{r r2:List Tok}{a:zb2}(h:zs4 r=some (a,r2)):z16 a+r2.length<=r.length:=by
 unfold zs4 at h
 split at h
 ·cases hq:zeh r.tail with
  |none=>rw[hq] at h;simp at h
  |some z =>
   obtain⟨a',r'⟩:=z
   rw[hq] at h;simp at h
   have:=zwh hq
   obtain⟨rfl,rfl⟩:=h;simp[z16] at this ⊢;omega
 ·exact zwh h
theorem z99{n:Nat}:∀ {r r2:List Tok} {b:List zb2},ze9 n r=some (b,r2)->sumW b+r2.length<=r.length:=by
 induction n with
 |zero=>intro r r2 b h;simp[ze9] at h
 |succ n ih =>
  intro r r2 b h
  cases hl:zs4 r with
  |none=>rw[zr7 hl] at h;cases h
  |some z =>
   obtain⟨a,r3⟩:=z
   have:=yao hl
   by_cases h6:hdK r3=6
   ·rw[zmk hl h6] at h
    cases hq:ze9 n r3.tail with
    |none=>rw[hq] at h;simp at h
    |some z =>
     obtain⟨b',r'⟩:=z
     rw[hq] at h;simp at h
     have:=ih hq
     obtain⟨rfl,rfl⟩:=h;simp[sumW] at this ⊢;omega
   ·rw[zmd hl h6] at h;simp at h;obtain⟨rfl,rfl⟩:=h;simp[sumW];omega
theorem z2q{n:Nat}{r r2:List Tok}{c:zab}(h:zfb n r=some (c,r2)):clW c+r2.length<=r.length:=by
 unfold zfb at h
 split at h
 ·cases h
 ·rename_i a r1 ha
  have:=zwh ha
  split at h
  ·split at h
   ·cases h
   ·rename_i b r3 hb
    have:=z99 hb
    split at h <;> simp at h
    obtain⟨rfl,rfl⟩:=h;simp[clW] at this ⊢;omega
  ·split at h <;> simp at h
   obtain⟨rfl,rfl⟩:=h;simp[clW,sumW];omega
theorem zwt{n0:Nat}:∀ {m:Nat} {r:List Tok} {cs:List zab},ze0 n0 m r=some cs->prW cs<=r.length
 |_,[],cs,h=>by simp[ze0] at h;subst h;simp[prW]
 |0,_::_,cs,h=>by simp[ze0] at h
 |m+1,x::r,cs,h=>by
  cases hc:zfb n0 (x::r) with
  |none=>rw[zyq (by simp) hc] at h;cases h
  |some z =>
   obtain⟨c,r2⟩:=z
   rw[ztm (by simp) hc] at h
   cases hq:ze0 n0 m r2 with
   |none=>rw[hq] at h;simp at h
   |some cs' =>
    rw[hq] at h;simp at h;subst h
    have h1:=z2q hc
    have h2:=zwt hq
    simp only[prW,List.foldr_cons,List.length_cons] at h1 h2 ⊢;omega
theorem zol(ls:List zb2):zcc ls+ls.length=sumW ls:=by
 induction ls with
 |nil=>rfl
 |cons a ls ih=>simp[zcc,sumW,z16] at ih ⊢;omega
theorem z9y{cs:List zab}{c:zab}(h:c∈cs):clW c<=prW cs:=by
 induction cs with
 |nil=>cases h
 |cons a cs ih =>
  rcases List.mem_cons.1 h with rfl|h
  ·simp[prW]
  ·have:=ih h;simp[prW] at this ⊢;omega
theorem zx2(cs:List zab):(cs.flatMap za5).length<=prW cs:=by
 induction cs with
 |nil=>simp
 |cons a cs ih=>have:=zol a.body;simp[prW,clW,za5,z16] at ih ⊢;omega
theorem z3l(cs:List zab):cs.length<=prW cs:=by
 induction cs with
 |nil=>simp
 |cons a cs ih=>simp[prW,clW,z16] at ih ⊢;omega
theorem z9f{cs:List zab}(h:prW cs<=1000):∀ c∈cs,zn9 c:=fun c hc=>by
 have h1:=z9y hc
 have h2:=zol c.body
 unfold clW z16 at h1
 exact⟨by omega,by omega⟩
theorem zmv:∀(n:Nat) (s:ByteArray) (i:Nat) (l:List (Int × ByteArray)),splitN n s i=some l->l.length<=s.size - i
 |0,_,_,l,h=>by simp[splitN] at h;subst h;simp
 |n+1,s,i,l,h=>by
  unfold splitN at h
  split at h
  ·rename_i hi
   split at h
   ·have:=zmv n s (i+1) l h;omega
   ·split at h
    ·cases h
    ·rename_i hk
     split at h
     ·cases h
     ·cases hq:splitN n s (zn4 s i (zix (bAt s i) (bAt s (i+1)))) with
      |none=>rw[hq] at h;simp at h
      |some l' =>
       rw[hq] at h;simp at h;subst h
       have:=zmv n s _ l' hq
       have:=z5d s i _ hi rfl hk
       simp;omega
  ·simp at h;subst h;simp
theorem zrh{s:ByteArray}{l:List Tok}(h:splitB s=some l):l.length<=s.size:=by have:=zmv _ s 0 l h;omega
def znj(s:ByteArray):Except Int (List zab × List zao) :=
 if 500 < s.size then .error 1 else
 match splitB s with
 |none=>.error 2
 |some l =>
  match ze0 l.length l.length l with
  |none=>.error 3
  |some cs =>
   if cs.any zeq then .error 4 else
   match zgp cs with
   |none=>.error 5
   |some t =>
    if cs.all ze7 then
     if (zdf (t.length+1) t cs).2 then .ok (cs,(zdf (t.length+1) t cs).1) else .error 7
    else .error 6
def zgu(o:Except Int (List zab × List zao))(w:World)(e:Ending)(w':World):Prop :=
 Below w.heap.size w w'/\match o with
  |.error n=>e=.returned (.tuple #[.pointer none,.int .i64 n])
  |.ok (cs,t)=>∃ pb v pv,e=.returned (.tuple #[.pointer (some ⟨pb,0,none⟩),.int .i64 0])/\Box w' pb #[v,pv] 88/\CIn w.heap.size 90 w' v cs/\w'.ownsRow w.heap.size 138 3 pv t.length (zce t)/\w.heap.size<=pb
theorem z8r(s:ByteArray)(w:World)(hs:s.size<=500)(h:splitB s=none):Calls Tryz.prog 37 #[.string s] w fun e w'=>e=.returned (.tuple #[.slice none 0 0,.bool false])/\Below w.heap.size w w':=by
 refine(zuh s w hs).mono ?_
 rintro e w' ⟨h1,h2⟩
 rw[h] at h2
 exact⟨h2,h1⟩
theorem zhz(s:ByteArray)(w:World)(l:List Tok)(hs:s.size<=500)(h:splitB s=some l):Calls Tryz.prog 37 #[.string s] w fun e w'=>∃ v,e=.returned (.tuple #[v,.bool true])/\w'.ownsRow w.heap.size 129 2 v l.length (zgo l)/\l.length<=500/\Below w.heap.size w w':=by
 refine(zuh s w hs).mono ?_
 rintro e w' ⟨h1,h2⟩
 rw[h] at h2
 obtain⟨v,a,b,c⟩:=h2
 exact⟨v,a,b,by omega,h1⟩
theorem z9a(w:World)(wv:Value)(l:List Tok)(base:Nat)(hw:w.ownsRow base 129 2 wv l.length (zgo l))(hl:l.length<=500)(h:ze0 l.length l.length l=none) :
  Calls Tryz.prog 38 #[wv] w fun e w'=>e=.returned (.tuple #[.slice none 0 0,.bool false])/\Below w.heap.size w w':=by
 refine(parse_any w wv l base hw hl).mono ?_
 rintro e w' ⟨h1,h2⟩
 rw[h] at h2
 exact⟨h2,h1⟩
theorem zi6(w:World)(wv:Value)(l:List Tok)(base:Nat)(cs:List zab)(hw:w.ownsRow base 129 2 wv l.length (zgo l))(hl:l.length<=500)(h:ze0 l.length l.length l=some cs) :
  Calls Tryz.prog 38 #[wv] w fun e w'=>∃ v,e=.returned (.tuple #[v,.bool true])/\CIn w.heap.size 90 w' v cs/\Below w.heap.size w w':=by
 refine(parse_any w wv l base hw hl).mono ?_
 rintro e w' ⟨h1,h2⟩
 rw[h] at h2
 obtain⟨v,a,b⟩:=h2
 exact⟨v,a,b,h1⟩
theorem z0k(w:World)(v:Value)(cs:List zab)(hcs:CIn lo 90 w v cs)(hN:(cs.flatMap za5).length<=1000)(h:zgp cs=none) :
  Calls Tryz.prog 40 #[v] w fun e w'=>e=.returned (.tuple #[.agg #[.slice none 0 0],.bool false])/\Below w.heap.size w w':=by
 refine(zn7 w v cs hcs hN).mono ?_
 rintro e w' ⟨h1,h2⟩
 rw[h] at h2
 exact⟨h2,h1⟩
theorem zkr(w:World)(v:Value)(cs:List zab)(t:List zao)(hcs:CIn lo 90 w v cs)(hN:(cs.flatMap za5).length<=1000)(h:zgp cs=some t) :
  Calls Tryz.prog 40 #[v] w fun e w'=>∃ pv,e=.returned (.tuple #[.agg #[pv],.bool true])/\w'.ownsRow w.heap.size 138 3 pv t.length (zce t)/\Below w.heap.size w w':=by
 refine(zn7 w v cs hcs hN).mono ?_
 rintro e w' ⟨h1,h2⟩
 rw[h] at h2
 obtain⟨v,a,b⟩:=h2
 exact⟨v,a,b,h1⟩
theorem zul(s:ByteArray)(w:World)(hs:500 < s.size)(hs2:s.size<=9223372036854775807) :
  Calls Tryz.prog 19 #[.string s] w fun e w'=>zgu (.error 1) w e w':=by
 go_enter Tryz.func19,Tryz.ntmps19
 go_wp2
 go_ret2
 exact⟨Below.refl _ _,rfl⟩
theorem z5n(s:ByteArray)(w:World)(hs:s.size<=500)(hS:splitB s=none) :
  Calls Tryz.prog 19 #[.string s] w fun e w'=>zgu (.error 2) w e w':=by
 have HS:Hid (splitB s=none):=hS
 clear hS
 go_enter Tryz.func19,Tryz.ntmps19
 go_wp2_with (first|(go_at_call 37;refine(z8r s _ hs HS).mono ?_;rintro e w1 ⟨rfl,hb1⟩))
 go_ret2
 exact⟨hb1,rfl⟩
theorem z5h(s:ByteArray)(w:World)(hs:s.size<=500)(l:List Tok)(hS:splitB s=some l)(hP:ze0 l.length l.length l=none) :
  Calls Tryz.prog 19 #[.string s] w fun e w'=>zgu (.error 3) w e w':=by
 have HS:Hid (splitB s=some l):=hS
 have HP:Hid (ze0 l.length l.length l=none):=hP
 clear hS hP
 go_enter Tryz.func19,Tryz.ntmps19
 go_wp2_with (first|(go_at_call 37;refine(zhz s _ l hs HS).mono ?_;rintro e w1 ⟨fv,rfl,hown,hll,hb1⟩;obtain⟨aof,capf,rfl⟩:=zac hown)|(go_at_call 38;refine(z9a _ _ l _ hown hll HP).mono ?_;rintro e w2 ⟨rfl,hb2⟩;have hB2:=zad hb1 hb2 (Nat.le_refl _)))
 go_ret2
 exact⟨hB2,rfl⟩
theorem z4q(s:ByteArray)(w:World)(hs:s.size<=500)(l:List Tok)(cs:List zab)(hm:cs.any zeq=true)(hS:splitB s=some l)(hP:ze0 l.length l.length l=some cs)(hok:∀ c∈cs,zn9 c)(hlen:cs.length<=1000) :
  Calls Tryz.prog 19 #[.string s] w fun e w'=>zgu (.error 4) w e w':=by
 have HS:Hid (splitB s=some l):=hS
 have HP:Hid (ze0 l.length l.length l=some cs):=hP
 have HOK:Hid (∀ c∈cs,zn9 c):=hok
 have HLEN:Hid (cs.length<=1000):=hlen
 clear hS hP hok hlen
 go_enter Tryz.func19,Tryz.ntmps19
 go_wp2_with (first|(go_at_call 37;refine(zhz s _ l hs HS).mono ?_;rintro e w1 ⟨fv,rfl,hown,hll,hb1⟩;obtain⟨aof,capf,rfl⟩:=zac hown)|(go_at_call 38;refine(zi6 _ _ l _ cs hown hll HP).mono ?_;rintro e w2 ⟨cv,rfl,hcin,hb2⟩;obtain⟨aoc,capc,rfl⟩:=hcin.shape;have hB2:=zad hb1 hb2 (Nat.le_refl _))|(go_at_call 39;refine(zls _ _ cs hcin HOK.out HLEN.out).mono ?_;rintro e w3 ⟨rfl,hb3⟩;have hB3:=zad hB2 hb3 (Nat.le_refl _);have hcin3:=hcin.below hb3))
 go_ret2
 exact⟨hB3,rfl⟩
theorem z4d(s:ByteArray)(w:World)(hs:s.size<=500)(l:List Tok)(cs:List zab)(hm:cs.any zeq=false)(hS:splitB s=some l)(hP:ze0 l.length l.length l=some cs)(hok:∀ c∈cs,zn9 c)(hlen:cs.length<=1000)(hlits:(cs.flatMap za5).length<=1000)(hC:zgp cs=none) :
  Calls Tryz.prog 19 #[.string s] w fun e w'=>zgu (.error 5) w e w':=by
 have HS:Hid (splitB s=some l):=hS
 have HP:Hid (ze0 l.length l.length l=some cs):=hP
 have HOK:Hid (∀ c∈cs,zn9 c):=hok
 have HLEN:Hid (cs.length<=1000):=hlen
 have HLITS:Hid ((cs.flatMap za5).length<=1000):=hlits
 have HC:Hid (zgp cs=none):=hC
 clear hS hP hok hlen hlits hC
 go_enter Tryz.func19,Tryz.ntmps19
 go_wp2_with (first|(go_at_call 37;refine(zhz s _ l hs HS).mono ?_;rintro e w1 ⟨fv,rfl,hown,hll,hb1⟩;obtain⟨aof,capf,rfl⟩:=zac hown)|(go_at_call 38;refine(zi6 _ _ l _ cs hown hll HP).mono ?_;rintro e w2 ⟨cv,rfl,hcin,hb2⟩;obtain⟨aoc,capc,rfl⟩:=hcin.shape;have hB2:=zad hb1 hb2 (Nat.le_refl _))|(go_at_call 39;refine(zls _ _ cs hcin HOK.out HLEN.out).mono ?_;rintro e w3 ⟨rfl,hb3⟩;have hB3:=zad hB2 hb3 (Nat.le_refl _);have hcin3:=hcin.below hb3)|(go_at_call 40;refine(z0k _ _ cs hcin3 HLITS.out HC).mono ?_;rintro e w4 ⟨rfl,hb4⟩;have hB4:=zad hB3 hb4 (Nat.le_refl _);have hz4:=hB4.size))
 go_ret2
 exact⟨(by repeat'(first|with_reducible(first|exact zR _ _|assumption|refine zN ?_ _|refine zA ?_ ?_ _|refine zD ?_|refine zS ?_ ?_ _)|go_size)),rfl⟩
theorem z5j(s:ByteArray)(w:World)(hs:s.size<=500)(l:List Tok)(cs:List zab)(t:List zao)(hm:cs.any zeq=false)(hsf:cs.all ze7=false)(hS:splitB s=some l)(hP:ze0 l.length l.length l=some cs)(hok:∀ c∈cs,zn9 c)(hlen:cs.length<=1000)(hlits:(cs.flatMap za5).length<=1000)(hC:zgp cs=some t) :
  Calls Tryz.prog 19 #[.string s] w fun e w'=>zgu (.error 6) w e w':=by
 have HS:Hid (splitB s=some l):=hS
 have HP:Hid (ze0 l.length l.length l=some cs):=hP
 have HOK:Hid (∀ c∈cs,zn9 c):=hok
 have HLEN:Hid (cs.length<=1000):=hlen
 have HLITS:Hid ((cs.flatMap za5).length<=1000):=hlits
 have HC:Hid (zgp cs=some t):=hC
 clear hS hP hok hlen hlits hC
 go_enter Tryz.func19,Tryz.ntmps19
 go_wp2_with (first|(go_at_call 37;refine(zhz s _ l hs HS).mono ?_;rintro e w1 ⟨fv,rfl,hown,hll,hb1⟩;obtain⟨aof,capf,rfl⟩:=zac hown)|(go_at_call 38;refine(zi6 _ _ l _ cs hown hll HP).mono ?_;rintro e w2 ⟨cv,rfl,hcin,hb2⟩;obtain⟨aoc,capc,rfl⟩:=hcin.shape;have hB2:=zad hb1 hb2 (Nat.le_refl _))|(go_at_call 39;refine(zls _ _ cs hcin HOK.out HLEN.out).mono ?_;rintro e w3 ⟨rfl,hb3⟩;have hB3:=zad hB2 hb3 (Nat.le_refl _);have hcin3:=hcin.below hb3)|(go_at_call 40;refine(zkr _ _ cs t hcin3 HLITS.out HC).mono ?_;rintro e w4 ⟨pv,rfl,hpo,hb4⟩;obtain⟨aop,capp,rfl⟩:=zac hpo;have hB4:=zad hB3 hb4 (Nat.le_refl _);have hz4:=hB4.size;have hcin4:=hcin3.below hb4)|(go_at_call 41;refine(zsq _ _ cs (by exact hcin4.below (by repeat'(first|with_reducible(first|exact zR _ _|assumption|refine zN ?_ _|refine zA ?_ ?_ _|refine zD ?_|refine zS ?_ ?_ _)|go_size))) HOK.out HLEN.out).mono ?_;rintro e w5 ⟨rfl,hb5⟩;have hq5:=(Below.refl w4.heap.size w4).alloc (Nat.le_refl _) (.cells #[.slice aop t.length capp] 84);have hbb5:=zad hq5 hb5 (Nat.le_refl _);have hB5:=zad hB4 hbb5 (Nat.le_refl _)))
 go_ret2
 exact⟨hB5,rfl⟩
theorem z2u(s:ByteArray)(w:World)(hs:s.size<=500)(l:List Tok)(cs:List zab)(t:List zao)(hm:cs.any zeq=false)(hsf:cs.all ze7=true)(hst:(zdf (t.length+1) t cs).2=false)(hS:splitB s=some l)(hP:ze0 l.length l.length l=some cs)(hok:∀ c∈cs,zn9 c)(hlen:cs.length<=1000)(hlits:(cs.flatMap za5).length<=1000)(hC:zgp cs=some t)(htl:t.length<=1000)(htz:∀ e∈t,e.stratum<=0) :
  Calls Tryz.prog 19 #[.string s] w fun e w'=>zgu (.error 7) w e w':=by
 have HS:Hid (splitB s=some l):=hS
 have HP:Hid (ze0 l.length l.length l=some cs):=hP
 have HOK:Hid (∀ c∈cs,zn9 c):=hok
 have HLEN:Hid (cs.length<=1000):=hlen
 have HLITS:Hid ((cs.flatMap za5).length<=1000):=hlits
 have HC:Hid (zgp cs=some t):=hC
 have HTL:Hid (t.length<=1000):=htl
 have HTZ:Hid (∀ e∈t,e.stratum<=0):=htz
 clear hS hP hok hlen hlits hC htl htz
 go_enter Tryz.func19,Tryz.ntmps19
 go_wp2_with (first|(go_at_call 37;refine(zhz s _ l hs HS).mono ?_;rintro e w1 ⟨fv,rfl,hown,hll,hb1⟩;obtain⟨aof,capf,rfl⟩:=zac hown)|(go_at_call 38;refine(zi6 _ _ l _ cs hown hll HP).mono ?_;rintro e w2 ⟨cv,rfl,hcin,hb2⟩;obtain⟨aoc,capc,rfl⟩:=hcin.shape;have hB2:=zad hb1 hb2 (Nat.le_refl _))|(go_at_call 39;refine(zls _ _ cs hcin HOK.out HLEN.out).mono ?_;rintro e w3 ⟨rfl,hb3⟩;have hB3:=zad hB2 hb3 (Nat.le_refl _);have hcin3:=hcin.below hb3)|(go_at_call 40;refine(zkr _ _ cs t hcin3 HLITS.out HC).mono ?_;rintro e w4 ⟨pv,rfl,hpo,hb4⟩;obtain⟨aop,capp,rfl⟩:=zac hpo;have hB4:=zad hB3 hb4 (Nat.le_refl _);have hz4:=hB4.size;have hcin4:=hcin3.below hb4)|(go_at_call 41;refine(zsq _ _ cs (by exact hcin4.below (by repeat'(first|with_reducible(first|exact zR _ _|assumption|refine zN ?_ _|refine zA ?_ ?_ _|refine zD ?_|refine zS ?_ ?_ _)|go_size))) HOK.out HLEN.out).mono ?_;rintro e w5 ⟨rfl,hb5⟩;have hq5:=(Below.refl w4.heap.size w4).alloc (Nat.le_refl _) (.cells #[.slice aop t.length capp] 84);have hbb5:=zad hq5 hb5 (Nat.le_refl _);have hB5:=zad hB4 hbb5 (Nat.le_refl _))|(go_at_call 42;refine(zm0 w3.heap.size _ w4.heap.size t _ cs w3 rfl (zad hb4 hbb5 (Nat.le_refl _)) hcin3 HOK.out HLEN.out ⟨_,(Box.new w4 _ _).below hb5,zaa hpo hbb5⟩ HTL.out HTZ.out).mono ?_;rintro e w6 ⟨rfl,hta6,hb6⟩;obtain⟨ao6,cap6,hbx6,hown6⟩:=hta6.view;obtain⟨hc6,hf6⟩:=hbx6.rules;have hB6:Below w.heap.size w w6:=hB5.trans (hb6.mono (Nat.le_trans hB3.size (Nat.le_refl _)));have hz6:=hbx6.lt))
 go_ret2
 exact⟨hB6,rfl⟩
theorem z3r(s:ByteArray)(w:World)(hs:s.size<=500)(l:List Tok)(cs:List zab)(t:List zao)(hm:cs.any zeq=false)(hsf:cs.all ze7=true)(hst:(zdf (t.length+1) t cs).2=true)(hS:splitB s=some l)(hP:ze0 l.length l.length l=some cs)(hok:∀ c∈cs,zn9 c)(hlen:cs.length<=1000)(hlits:(cs.flatMap za5).length<=1000)(hC:zgp cs=some t)(htl:t.length<=1000)(htz:∀ e∈t,e.stratum<=0) :
  Calls Tryz.prog 19 #[.string s] w fun e w'=>zgu (.ok (cs,(zdf (t.length+1) t cs).1)) w e w':=by
 have HS:Hid (splitB s=some l):=hS
 have HP:Hid (ze0 l.length l.length l=some cs):=hP
 have HOK:Hid (∀ c∈cs,zn9 c):=hok
 have HLEN:Hid (cs.length<=1000):=hlen
 have HLITS:Hid ((cs.flatMap za5).length<=1000):=hlits
 have HC:Hid (zgp cs=some t):=hC
 have HTL:Hid (t.length<=1000):=htl
 have HTZ:Hid (∀ e∈t,e.stratum<=0):=htz
 clear hS hP hok hlen hlits hC htl htz
 go_enter Tryz.func19,Tryz.ntmps19
 go_wp2_with (first|(go_at_call 37;refine(zhz s _ l hs HS).mono ?_;rintro e w1 ⟨fv,rfl,hown,hll,hb1⟩;obtain⟨aof,capf,rfl⟩:=zac hown)|(go_at_call 38;refine(zi6 _ _ l _ cs hown hll HP).mono ?_;rintro e w2 ⟨cv,rfl,hcin,hb2⟩;obtain⟨aoc,capc,rfl⟩:=hcin.shape;have hB2:=zad hb1 hb2 (Nat.le_refl _))|(go_at_call 39;refine(zls _ _ cs hcin HOK.out HLEN.out).mono ?_;rintro e w3 ⟨rfl,hb3⟩;have hB3:=zad hB2 hb3 (Nat.le_refl _);have hcin3:=hcin.below hb3)|(go_at_call 40;refine(zkr _ _ cs t hcin3 HLITS.out HC).mono ?_;rintro e w4 ⟨pv,rfl,hpo,hb4⟩;obtain⟨aop,capp,rfl⟩:=zac hpo;have hB4:=zad hB3 hb4 (Nat.le_refl _);have hz4:=hB4.size;have hcin4:=hcin3.below hb4)|(go_at_call 41;refine(zsq _ _ cs (by exact hcin4.below (by repeat'(first|with_reducible(first|exact zR _ _|assumption|refine zN ?_ _|refine zA ?_ ?_ _|refine zD ?_|refine zS ?_ ?_ _)|go_size))) HOK.out HLEN.out).mono ?_;rintro e w5 ⟨rfl,hb5⟩;have hq5:=(Below.refl w4.heap.size w4).alloc (Nat.le_refl _) (.cells #[.slice aop t.length capp] 84);have hbb5:=zad hq5 hb5 (Nat.le_refl _);have hB5:=zad hB4 hbb5 (Nat.le_refl _))|(go_at_call 42;refine(zm0 w3.heap.size _ w4.heap.size t _ cs w3 rfl (zad hb4 hbb5 (Nat.le_refl _)) hcin3 HOK.out HLEN.out ⟨_,(Box.new w4 _ _).below hb5,zaa hpo hbb5⟩ HTL.out HTZ.out).mono ?_;rintro e w6 ⟨rfl,hta6,hb6⟩;obtain⟨ao6,cap6,hbx6,hown6⟩:=hta6.view;obtain⟨hc6,hf6⟩:=hbx6.rules;have hB6:Below w.heap.size w w6:=hB5.trans (hb6.mono (Nat.le_trans hB3.size (Nat.le_refl _)));have hz6:=hbx6.lt))
 have hz66:=hB6.size
 have hcin6:=hcin3.below ((zad hb4 hbb5 (Nat.le_refl _)).trans hb6)
 go_ret2
 exact⟨(by repeat'(first|with_reducible(first|exact zR _ _|assumption|refine zN ?_ _|refine zA ?_ ?_ _|refine zD ?_|refine zS ?_ ?_ _)|go_size)),w6.heap.size,_,_,rfl,Box.new _ _ _,(hcin6.low hb1.size).below ((Below.refl _ _).alloc (Nat.le_refl _) _),zbi (zaa hown6 ((Below.refl _ _).alloc (Nat.le_refl _) _)) hB3.size,hz66⟩
theorem zks(s:ByteArray)(w:World)(hs2:s.size<=9223372036854775807) :
  Calls Tryz.prog 19 #[.string s] w fun e w'=>zgu (znj s) w e w':=by
 unfold znj
 split
 ·rename_i hs;exact zul s w hs hs2
 ·rename_i hs
  have hs':s.size<=500:=by omega
  split
  ·rename_i hS;exact z5n s w hs' hS
  ·rename_i l hS
   split
   ·rename_i hP;exact z5h s w hs' l hS hP
   ·rename_i cs hP
    have hl:l.length<=500:=by
     have:=zrh hS;omega
    have hw:=zwt hP
    have hok:=z9f (cs:=cs) (by omega)
    have hlen:cs.length<=1000:=by have:=z3l cs;omega
    have hlits:(cs.flatMap za5).length<=1000:=by have:=zx2 cs;omega
    split
    ·rename_i hm;exact z4q s w hs' l cs hm hS hP hok hlen
    ·rename_i hm
     have hm':cs.any zeq=false:=by simpa using hm
     split
     ·rename_i hC;exact z4d s w hs' l cs hm' hS hP hok hlen hlits hC
     ·rename_i t hC
      have htl:t.length<=1000:=by have:=zsd _ _ _ hC;simp only[List.length_nil] at this;omega
      have htz:∀ e∈t,e.stratum<=0:=zo4 _ [] (by simp) t hC
      split
      ·rename_i hsf
       split
       ·rename_i hst;exact z3r s w hs' l cs t hm' hsf hst hS hP hok hlen hlits hC htl htz
       ·rename_i hst;exact z2u s w hs' l cs t hm' hsf (by simpa using hst) hS hP hok hlen hlits hC htl htz
      ·rename_i hsf;exact z5j s w hs' l cs t hm' (by simpa using hsf) hS hP hok hlen hlits hC
end Go.Proofs.YteampbddflhngabGreat

namespace Go.Proofs.YteampbddflhngabGreat
open Go.RowKit
variable {lo:Nat}
def TP(B:Nat)(w:World)(tb:Nat)(t:List zao):Prop:=∃ cv pv,Box w tb #[cv,pv] 88/\w.ownsRow B 138 3 pv t.length (zce t)
theorem TP.view{B:Nat}{w:World}{tb:Nat}{t:List zao}(h:TP B w tb t):∃ cv ao cap,Box w tb #[cv,.slice ao t.length cap] 88/\w.ownsRow B 138 3 (.slice ao t.length cap) t.length (zce t):=by
 obtain⟨cv,nv,h1,h2⟩:=h
 obtain⟨ao,cap,rfl⟩:=zac h2
 exact⟨cv,ao,cap,h1,h2⟩
end Go.Proofs.YteampbddflhngabGreat

namespace Go.Proofs.YteampbddflhngabGreat
set_option maxRecDepth 100000
set_option maxHeartbeats 2000000
open Go.RowKit
variable {lo:Nat}
theorem zy5(w:World)(n:Nat)(T:TypeId)(z:Value)(hn:n<=maxLen):(w.alloc (.cells (madeCells #[z] n) T)).ownsRow w.heap.size T 1 (.slice (some ⟨w.heap.size,0,none⟩) n n) n (List.replicate n z):=by
 refine⟨by simp,Or.inr ⟨w.heap.size,n,madeCells #[z] n,rfl,Nat.le_refl _,?_,Nat.le_refl _,hn,by rw[size_madeCells];omega,?_⟩⟩
 ·show(w.heap.push _)[w.heap.size]?=_
  simp
 ·apply List.ext_getElem?
  intro i
  by_cases hi:i < n
  ·simp[hi,madeCells,Nat.mod_one]
  ·simp[List.getElem?_take,hi]
def zmf{α:Type}(f:α->Value)(l:List α)(z:Value)(k:Nat):List Value:=(l.take k).map f++List.replicate (l.length - k) z
theorem zym{α:Type}(f:α->Value)(l:List α)(z:Value)(k:Nat)(hk:k < l.length):(zmf f l z k).set k (f l[k])=zmf f l z (k+1):=by
 unfold zmf
 have h1:((l.take k).map f).length=k:=by simp;omega
 rw[List.set_append_right _ _ (by omega),h1,Nat.sub_self,List.take_succ_eq_append_getElem hk,List.map_append,List.append_assoc]
 congr 1
 rw[show l.length - k=(l.length - (k+1))+1 by omega,List.replicate_succ]
 rfl
theorem zns{α:Type}(f:α->Value)(l:List α)(z:Value)(k:Nat)(hk:k<=l.length):(zmf f l z k).length=l.length:=by unfold zmf;simp;omega
theorem zuz{α:Type}(f:α->Value)(l:List α)(z:Value):zmf f l z 0=List.replicate l.length z:=by simp[zmf]
theorem zzf{α:Type}(f:α->Value)(l:List α)(z:Value)(k:Nat)(hk:¬ k < l.length):zmf f l z k=l.map f:=by
 unfold zmf;rw[List.take_of_length_le (by omega),show l.length - k=0 by omega];simp
theorem zox(w:World)(v:Value)(l:List ByteArray)(hs:SIn lo w v l)(hl:l.length<=1000) :
  Calls Tryz.prog 84 #[v] w fun e w'=>∃ g,w.heap.size<=g/\e=.returned (.slice (some ⟨g,0,none⟩) l.length l.length)/\SIn w.heap.size w' (.slice (some ⟨g,0,none⟩) l.length l.length) l/\Below w.heap.size w w':=by
 obtain⟨ao,cap,rfl⟩:=hs.shape
 have hmk:=run_make_row' (P:=Tryz.prog) 38 9 (.string ByteArray.empty) 16 Tryz.underlying38 Tryz.infoString rfl .i64 .i64 l.length (by omega) (by omega)
 go_enter Tryz.func84,Tryz.ntmps84
 go_wp2
 clear hmk
 have hom:=zy5 w l.length 9 (.string ByteArray.empty) (by unfold maxLen;omega)
 rw[← zuz Value.string] at hom
 go_loopw [11] (fun i wr=>∃ k:Nat,k<=l.length/\i=.int .i64 k/\Below w.heap.size w wr/\wr.ownsRow w.heap.size 9 1 (.slice (some ⟨w.heap.size,0,none⟩) l.length l.length) l.length (zmf Value.string l (.string ByteArray.empty) k)) (fun i _=>l.length - (intOf i).toNat)
 case atStart=>exact⟨0,Nat.zero_le _,rfl,(by repeat'(first|with_reducible(first|exact zR _ _|assumption|refine zN ?_ _|refine zA ?_ ?_ _|refine zD ?_|refine zS ?_ ?_ _)|go_size)),hom⟩
 case round =>
  clear hom
  obtain⟨k,hk,rfl,hbk,hown⟩:=hrel
  have hszk:=hbk.size
  by_cases hlt:k < l.length
  ·obtain⟨g,rfl,hg,hck⟩:=hs.cell k hlt
   have hxk:=(hbk.cell (p:=⟨g,k,none⟩) hg).trans hck
   have hgr:g < wr.heap.size:=by omega
   have hset:=zb5 hown k (by rw[zns _ _ _ _ hk];exact hlt) (.string l[k])
   rw[zym Value.string l _ k hlt] at hset
   have HSET:Hid ((wr.setCell ⟨w.heap.size,k,none⟩ (.string l[k])).ownsRow w.heap.size 9 1 (.slice (some ⟨w.heap.size,0,none⟩) l.length l.length) l.length (zmf Value.string l (.string ByteArray.empty) (k+1))):=hset
   have hfz:=zbu hown
   obtain⟨g2,cap2,hv2,_,hg2,hcl2⟩:=zam hown (by omega)
   simp at hv2
   obtain⟨rfl,_⟩:=hv2
   have hck2:∃ u,wr.cell? ⟨w.heap.size,k,none⟩=some u:=⟨_,hcl2 k _ (List.getElem?_eq_getElem (by rw[zns _ _ _ _ hk];exact hlt))⟩
   obtain⟨u0,hu0⟩:=hck2
   clear hck hset hcl2
   generalize l[k]=x at *
   go_wp2
   go_roundw
   case rel=>exact⟨k+1,by omega,by go_num,(by repeat'(first|with_reducible(first|exact zR _ _|assumption|refine zN ?_ _|refine zA ?_ ?_ _|refine zD ?_|refine zS ?_ ?_ _)|go_size)),HSET⟩
   case measure=>simp[intOf];omega
  ·rw[zzf _ _ _ _ hlt] at hown
   go_wp2
   go_ret
   exact⟨_,Nat.le_refl _,rfl,hown,hbk⟩
theorem z0h(B:Nat)(w:World)(tb:Nat)(t:List zao)(h:TP B w tb t)(hl:t.length<=1000) :
  Calls Tryz.prog 43 #[.pointer (some ⟨tb,1,none⟩)] w fun e w'=>∃ g,w.heap.size<=g/\e=.returned (.slice (some ⟨g,0,none⟩) t.length t.length)/\SIn w.heap.size w' (.slice (some ⟨g,0,none⟩) t.length t.length) (t.map zao.name)/\Below w.heap.size w w':=by
 obtain⟨cv,ao,cap,hbx,hown⟩:=h.view
 obtain⟨hc,hf⟩:=hbx.rules
 have hlt:=hbx.lt
 have hmk:=run_make_row' (P:=Tryz.prog) 38 9 (.string ByteArray.empty) 16 Tryz.underlying38 Tryz.infoString rfl .i64 .i64 t.length (by omega) (by omega)
 go_enter Tryz.func43,Tryz.ntmps43
 go_wp2
 clear hmk
 have hom:=zy5 w t.length 9 (.string ByteArray.empty) (by unfold maxLen;omega)
 rw[← zuz (fun e:zao=>Value.string e.name)] at hom
 go_loopw [17] (fun i wr=>∃ k:Nat,k<=t.length/\i=.int .i64 k/\Below w.heap.size w wr/\wr.ownsRow w.heap.size 9 1 (.slice (some ⟨w.heap.size,0,none⟩) t.length t.length) t.length (zmf (fun e:zao=>Value.string e.name) t (.string ByteArray.empty) k)) (fun i _=>t.length - (intOf i).toNat)
 case atStart=>exact⟨0,Nat.zero_le _,rfl,(by repeat'(first|with_reducible(first|exact zR _ _|assumption|refine zN ?_ _|refine zA ?_ ?_ _|refine zD ?_|refine zS ?_ ?_ _)|go_size)),hom⟩
 case round =>
  clear hom hc hf
  obtain⟨k,hk,rfl,hbk,hownk⟩:=hrel
  have hszk:=hbk.size
  by_cases hkt:k < t.length
  ·obtain⟨g,rfl,hg,_,hd0,hd1,hd2⟩:=zd0 hown k hkt
   have hx0:=(hbk.cell (p:=⟨g,k * 3,none⟩) hg).trans hd0
   have hx1:=(hbk.cell (p:=⟨g,k * 3+1,none⟩) hg).trans hd1
   have hx2:=(hbk.cell (p:=⟨g,k * 3+2,none⟩) hg).trans hd2
   have hgr:g < wr.heap.size:=by omega
   have hset:=zb5 hownk k (by rw[zns _ _ _ _ hk];exact hkt) (.string t[k].name)
   rw[zym (fun e:zao=>Value.string e.name) t _ k hkt] at hset
   have HSET:Hid ((wr.setCell ⟨w.heap.size,k,none⟩ (.string t[k].name)).ownsRow w.heap.size 9 1 (.slice (some ⟨w.heap.size,0,none⟩) t.length t.length) t.length (zmf (fun e:zao=>Value.string e.name) t (.string ByteArray.empty) (k+1))):=hset
   have hfz:=zbu hownk
   obtain⟨g2,cap2,hv2,_,hg2,hcl2⟩:=zam hownk (by omega)
   simp at hv2
   obtain⟨rfl,_⟩:=hv2
   have hck2:∃ u,wr.cell? ⟨w.heap.size,k,none⟩=some u:=⟨_,hcl2 k _ (List.getElem?_eq_getElem (by rw[zns _ _ _ _ hk];exact hkt))⟩
   obtain⟨u0,hu0⟩:=hck2
   clear hd0 hd1 hd2 hset hcl2
   generalize t[k]=x at *
   go_wp2
   go_roundw
   case rel=>exact⟨k+1,by omega,by go_num,(by repeat'(first|with_reducible(first|exact zR _ _|assumption|refine zN ?_ _|refine zA ?_ ?_ _|refine zD ?_|refine zS ?_ ?_ _)|go_size)),zaa HSET.out ((Below.refl _ _).alloc (Nat.le_refl _) _)⟩
   case measure=>simp[intOf];omega
  ·rw[zzf _ _ _ _ hkt] at hownk
   have hs:SIn w.heap.size wr (.slice (some ⟨w.heap.size,0,none⟩) t.length t.length) (t.map zao.name):=by simpa [SIn,Function.comp_def] using hownk
   go_wp2
   go_ret
   exact⟨_,Nat.le_refl _,rfl,hs,hbk⟩
theorem z0l(w:World)(vb:Nat)(nv:Value)(vs:List ByteArray)(hbox:Box w vb #[nv] 124)(hs:SIn lo w nv vs)(hl:vs.length<=1000) :
  Calls Tryz.prog 58 #[.pointer (some ⟨vb,0,none⟩)] w fun e w'=>∃ g,w.heap.size<=g/\e=.returned (.slice (some ⟨g,0,none⟩) vs.length vs.length)/\SIn w.heap.size w' (.slice (some ⟨g,0,none⟩) vs.length vs.length) vs/\Below w.heap.size w w':=by
 obtain⟨hc,hf⟩:=hbox.rules
 obtain⟨ao,cap,rfl⟩:=hs.shape
 have HC:Hid (Calls Tryz.prog 84 #[.slice ao vs.length cap] w fun e w'=>∃ g,w.heap.size<=g/\e=.returned (.slice (some ⟨g,0,none⟩) vs.length vs.length)/\SIn w.heap.size w' (.slice (some ⟨g,0,none⟩) vs.length vs.length) vs/\Below w.heap.size w w'):=zox w _ vs hs hl
 go_enter Tryz.func58,Tryz.ntmps58
 go_wp2_with (first|(go_at_call 84;refine HC.out.mono ?_;rintro e w1 ⟨g,hg,rfl,hs1,hb1⟩))
 go_ret
 exact⟨g,hg,rfl,hs1,hb1⟩
end Go.Proofs.YteampbddflhngabGreat

namespace Go.Proofs.YteampbddflhngabGreat
set_option maxRecDepth 100000
set_option maxHeartbeats 2000000
open Go.RowKit
variable {lo:Nat}
def zhq(lo:Nat)(w:World)(pb:Nat)(cs:List zab)(t:List zao):Prop:=lo<=pb/\∃ v pv,Box w pb #[v,pv] 88/\CIn lo 90 w v cs/\w.ownsRow lo 138 3 pv t.length (zce t)
theorem zhq.table{w:World}{pb:Nat}{cs:List zab}{t:List zao}(h:zhq lo w pb cs t):TP lo w pb t:=by
 obtain⟨_,v,pv,h1,_,h3⟩:=h;exact⟨v,pv,h1,h3⟩
theorem zhq.below{w w':World}{pb:Nat}{cs:List zab}{t:List zao}(h:zhq lo w pb cs t)(hb:Below w.heap.size w w'):zhq lo w' pb cs t:=by
 obtain⟨h0,v,pv,h1,h2,h3⟩:=h;exact⟨h0,v,pv,h1.below hb,h2.below hb,zaa h3 hb⟩
theorem z0s(w:World)(pb:Nat)(cs:List zab)(t:List zao)(h:zhq lo w pb cs t)(hl:t.length<=1000) :
  Calls Tryz.prog 21 #[.pointer (some ⟨pb,0,none⟩)] w fun e w'=>∃ g,w.heap.size<=g/\e=.returned (.slice (some ⟨g,0,none⟩) t.length t.length)/\SIn w.heap.size w' (.slice (some ⟨g,0,none⟩) t.length t.length) (t.map zao.name)/\Below w.heap.size w w':=by
 have HN:=z0h lo w pb t h.table hl
 have hlt:pb < w.heap.size:=by obtain⟨_,v,pv,h1,_⟩:=h;exact h1.lt
 go_enter Tryz.func21,Tryz.ntmps21
 go_wp2_with (first|(go_at_call 43;refine HN.mono ?_;rintro e w1 ⟨g,hg,rfl,hs1,hb1⟩))
 go_ret
 exact⟨g,hg,rfl,hs1,hb1⟩
theorem ztt(w:World)(pb:Nat)(cs:List zab)(t:List zao)(h:zhq lo w pb cs t) :
  Calls Tryz.prog 22 #[.pointer (some ⟨pb,0,none⟩)] w fun e w'=>e=.returned (.int .i64 cs.length)/\w'=w:=by
 obtain⟨_,v,pv,h1,h2,_⟩:=h
 obtain⟨ao,cap,rfl⟩:=h2.shape
 obtain⟨hc,hf⟩:=h1.rules
 have hlt:=h1.lt
 go_enter Tryz.func22,Tryz.ntmps22
 go_wp2
 go_ret
 exact⟨rfl,rfl⟩
theorem zr3(w:World)(pb:Nat)(cs:List zab)(t:List zao)(k:Nat)(h:zhq lo w pb cs t)(_hl:cs.length<=1000)(hk:k < cs.length)(hok:zn9 cs[k]) :
  Calls Tryz.prog 33 #[.pointer (some ⟨pb,0,none⟩),.int .i64 k] w fun e w'=>∃ g,w.heap.size<=g/\e=.returned (.tuple #[.slice (some ⟨g,0,none⟩) (zaf cs[k]).length (zaf cs[k]).length,.int .i64 0])/\SIn w.heap.size w' (.slice (some ⟨g,0,none⟩) (zaf cs[k]).length (zaf cs[k]).length) (zaf cs[k])/\Below w.heap.size w w':=by
 obtain⟨_,v,pv,h1,h2,_⟩:=h
 obtain⟨ao,cap,rfl⟩:=h2.shape
 obtain⟨hc,hf⟩:=h1.rules
 have hlt:=h1.lt
 obtain⟨g,ao2,cap2,ao3,cap3,rfl,hg,hd0,hd1,hd2,hd3,hsk,hlk⟩:=h2.cell k hk
 obtain⟨hk1,hk2⟩:=hok
 have hpl:(zaf cs[k]).length<=1000:=by have:=zh1 cs[k].body [];unfold zaf;simp at this;omega
 generalize cs[k]=c at *
 have HP:Hid (∀ W,Below w.heap.size w W->Calls Tryz.prog 57 #[.agg #[.bool c.head.neg,.string c.head.pred,.slice ao2 c.head.args.length cap2,.slice ao3 c.body.length cap3]] W fun e w'=>∃ nv,e=.returned (.agg #[nv])/\w'.ownsRow W.heap.size 9 1 nv (zaf c).length ((zaf c).map Value.string)/\Below W.heap.size W w'):=fun W hW=>zl1 W c _ _ (hsk.below hW) (hlk.below hW) hk1 hk2
 go_enter Tryz.func33,Tryz.ntmps33
 go_wp2_with (first|(go_at_call 57;refine(HP.out _ (by exact(by repeat'(first|with_reducible(first|exact zR _ _|assumption|refine zN ?_ _|refine zA ?_ ?_ _|refine zD ?_|refine zS ?_ ?_ _)|go_size)))).mono ?_;rintro e w1 ⟨nv,rfl,hown,hb1⟩;obtain⟨ao4,cap4,rfl⟩:=zac hown)|(go_at_call 58;refine(z0l _ _ _ (zaf c) (by exact Box.new _ _ _) (by exact zaa hown (by repeat'(first|with_reducible(first|exact zR _ _|assumption|refine zN ?_ _|refine zA ?_ ?_ _|refine zD ?_|refine zS ?_ ?_ _)|go_size))) hpl).mono ?_;rintro e w2 ⟨g2,hg2,rfl,hs2,hb2⟩))
 have hz1:=hb1.size
 rw[World.size_alloc] at hg2
 go_ret2
 exact⟨g2,by omega,rfl,hs2.low (by rw[World.size_alloc];omega),zad (hb1.alloc hz1 _) hb2 (Nat.le_refl _)⟩
end Go.Proofs.YteampbddflhngabGreat
