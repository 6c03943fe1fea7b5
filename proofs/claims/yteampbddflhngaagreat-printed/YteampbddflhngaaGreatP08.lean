import Derived.Test.YteampbddflhngaaGreatP07
import Derived.Deep.OwnRows
import Derived.Deep.RegionWith

namespace Go.Proofs.YteampbddflhngaaGreat
set_option maxRecDepth 100000
set_option maxHeartbeats 1000000
open Go.RowKit
variable {lo:Nat}
def z1g(l:zbv):Nat:=l.args.length+1
def sumW(ls:List zbv):Nat:=ls.foldr (fun l n=>z1g l+n) 0
def clW(c:zab):Nat:=z1g c.head+sumW c.body
def prW(cs:List zab):Nat:=cs.foldr (fun c n=>clW c+n) 0
theorem zym:∀(r:List Tok) {ts:List ByteArray} {r2:List Tok},zbu r=some (ts,r2)->ts.length+r2.length<=r.length
 |[],_,_,h=>by simp[zbu] at h
 |[x],ts,r2,h=>by
  simp only[zbu] at h
  split at h <;> simp at h
  obtain⟨rfl,rfl⟩:=h;simp
 |x::y::r,ts,r2,h=>by
  simp only[zbu] at h
  split at h
  ·split at h
   ·cases hq:zbu r with
    |none=>rw[hq] at h;simp at h
    |some z =>
     obtain⟨ts',r'⟩:=z
     rw[hq] at h;simp at h
     have:=zym r hq
     obtain⟨rfl,rfl⟩:=h;simp;omega
   ·simp at h;obtain⟨rfl,rfl⟩:=h;simp;omega
  ·simp at h
theorem zww{r r2:List Tok}{a:zbv}(h:zef r=some (a,r2)):z1g a+r2.length<=r.length:=by
 cases r with
 |nil=>simp[zef,hdK] at h
 |cons x r =>
  unfold zef at h
  split at h
  ·split at h
   ·split at h
    ·simp at h
    ·rename_i ts r3 hq
     have:=zym _ hq
     split at h <;> simp at h
     obtain⟨rfl,rfl⟩:=h;simp[z1g] at this ⊢;omega
   ·simp at h;obtain⟨rfl,rfl⟩:=h;simp[z1g];omega
  ·simp at h
theorem z90{r r2:List Tok}{a:zbv}(h:zsr r=some (a,r2)):z1g a+r2.length<=r.length:=by
 unfold zsr at h
 split at h
 ·cases hq:zef r.tail with
  |none=>rw[hq] at h;simp at h
  |some z =>
   obtain⟨a',r'⟩:=z
   rw[hq] at h;simp at h
   have:=zww hq
   obtain⟨rfl,rfl⟩:=h;simp[z1g] at this ⊢;omega
 ·exact zww h
theorem z9h{n:Nat}:∀ {r r2:List Tok} {b:List zbv},ze3 n r=some (b,r2)->sumW b+r2.length<=r.length:=by
 induction n with
 |zero=>intro r r2 b h;simp[ze3] at h
 |succ n ih =>
  intro r r2 b h
  cases hl:zsr r with
  |none=>rw[zr8 hl] at h;cases h
  |some z =>
   obtain⟨a,r3⟩:=z
   have:=z90 hl
   by_cases h6:hdK r3=6
   ·rw[zmb hl h6] at h
    cases hq:ze3 n r3.tail with
    |none=>rw[hq] at h;simp at h
    |some z =>
     obtain⟨b',r'⟩:=z
     rw[hq] at h;simp at h
     have:=ih hq
     obtain⟨rfl,rfl⟩:=h;simp[sumW] at this ⊢;omega
   ·rw[zmc hl h6] at h;simp at h;obtain⟨rfl,rfl⟩:=h;simp[sumW];omega
theorem z4k{n:Nat}{r r2:List Tok}{c:zab}(h:ze4 n r=some (c,r2)):clW c+r2.length<=r.length:=by
 unfold ze4 at h
 split at h
 ·cases h
 ·rename_i a r1 ha
  have:=zww ha
  split at h
  ·split at h
   ·cases h
   ·rename_i b r3 hb
    have:=z9h hb
    split at h <;> simp at h
    obtain⟨rfl,rfl⟩:=h;simp[clW] at this ⊢;omega
  ·split at h <;> simp at h
   obtain⟨rfl,rfl⟩:=h;simp[clW,sumW];omega
theorem zwy{n0:Nat}:∀ {m:Nat} {r:List Tok} {cs:List zab},zev n0 m r=some cs->prW cs<=r.length
 |_,[],cs,h=>by simp[zev] at h;subst h;simp[prW]
 |0,_::_,cs,h=>by simp[zev] at h
 |m+1,x::r,cs,h=>by
  cases hc:ze4 n0 (x::r) with
  |none=>rw[zyl (by simp) hc] at h;cases h
  |some z =>
   obtain⟨c,r2⟩:=z
   rw[zut (by simp) hc] at h
   cases hq:zev n0 m r2 with
   |none=>rw[hq] at h;simp at h
   |some cs' =>
    rw[hq] at h;simp at h;subst h
    have h1:=z4k hc
    have h2:=zwy hq
    simp only[prW,List.foldr_cons,List.length_cons] at h1 h2 ⊢;omega
theorem zo6(ls:List zbv):zce ls+ls.length=sumW ls:=by
 induction ls with
 |nil=>rfl
 |cons a ls ih=>simp[zce,sumW,z1g] at ih ⊢;omega
theorem z9i{cs:List zab}{c:zab}(h:c∈cs):clW c<=prW cs:=by
 induction cs with
 |nil=>cases h
 |cons a cs ih =>
  rcases List.mem_cons.1 h with rfl|h
  ·simp[prW]
  ·have:=ih h;simp[prW] at this ⊢;omega
theorem zyn(cs:List zab):(cs.flatMap za2).length<=prW cs:=by
 induction cs with
 |nil=>simp
 |cons a cs ih=>have:=zo6 a.body;simp[prW,clW,za2,z1g] at ih ⊢;omega
theorem z4o(cs:List zab):cs.length<=prW cs:=by
 induction cs with
 |nil=>simp
 |cons a cs ih=>simp[prW,clW,z1g] at ih ⊢;omega
theorem z8k{cs:List zab}(h:prW cs<=1000):∀ c∈cs,zpe c:=fun c hc=>by
 have h1:=z9i hc
 have h2:=zo6 c.body
 unfold clW z1g at h1
 exact⟨by omega,by omega⟩
theorem zmh:∀(n:Nat) (s:ByteArray) (i:Nat) (l:List (Int × ByteArray)),splitN n s i=some l->l.length<=s.size - i
 |0,_,_,l,h=>by simp[splitN] at h;subst h;simp
 |n+1,s,i,l,h=>by
  unfold splitN at h
  split at h
  ·rename_i hi
   split at h
   ·have:=zmh n s (i+1) l h;omega
   ·split at h
    ·cases h
    ·rename_i hk
     split at h
     ·cases h
     ·cases hq:splitN n s (zn2 s i (zii (bAt s i) (bAt s (i+1)))) with
      |none=>rw[hq] at h;simp at h
      |some l' =>
       rw[hq] at h;simp at h;subst h
       have:=zmh n s _ l' hq
       have:=z2o s i _ hi rfl hk
       simp;omega
  ·simp at h;subst h;simp
theorem zq9{s:ByteArray}{l:List Tok}(h:splitB s=some l):l.length<=s.size:=by have:=zmh _ s 0 l h;omega
def znz(s:ByteArray):Except Int (List zab × List zas) :=
 if 500 < s.size then .error 1 else
 match splitB s with
 |none=>.error 2
 |some l =>
  match zev l.length l.length l with
  |none=>.error 3
  |some cs =>
   if cs.any zel then .error 4 else
   match zgn cs with
   |none=>.error 5
   |some t =>
    if cs.all zfc then
     if (zdb (t.length+1) t cs).2 then .ok (cs,(zdb (t.length+1) t cs).1) else .error 7
    else .error 6
def zgl(o:Except Int (List zab × List zas))(w:World)(e:Ending)(w':World):Prop :=
 Below w.heap.size w w'/\match o with
  |.error n=>e=.returned (.tuple #[.pointer none,.int .i64 n])
  |.ok (cs,t)=>∃ pb v pv,e=.returned (.tuple #[.pointer (some ⟨pb,0,none⟩),.int .i64 0])/\Box w' pb #[v,pv] 131/\CIn w.heap.size 171 w' v cs/\w'.ownsRow w.heap.size 221 3 pv t.length (zcc t)/\w.heap.size<=pb
theorem z7t(s:ByteArray)(w:World)(hs:s.size<=500)(h:splitB s=none):Calls Tryz.prog 59 #[.string s] w fun e w'=>e=.returned (.tuple #[.slice none 0 0,.bool false])/\Below w.heap.size w w':=by
 refine(zu7 s w hs).mono ?_
 rintro e w' ⟨h1,h2⟩
 rw[h] at h2
 exact⟨h2,h1⟩
theorem zhz(s:ByteArray)(w:World)(l:List Tok)(hs:s.size<=500)(h:splitB s=some l):Calls Tryz.prog 59 #[.string s] w fun e w'=>∃ v,e=.returned (.tuple #[v,.bool true])/\w'.ownsRow w.heap.size 182 2 v l.length (zgj l)/\l.length<=500/\Below w.heap.size w w':=by
 refine(zu7 s w hs).mono ?_
 rintro e w' ⟨h1,h2⟩
 rw[h] at h2
 obtain⟨v,a,b,c⟩:=h2
 exact⟨v,a,b,by omega,h1⟩
theorem z7k(w:World)(wv:Value)(l:List Tok)(base:Nat)(hw:w.ownsRow base 182 2 wv l.length (zgj l))(hl:l.length<=500)(h:zev l.length l.length l=none) :
  Calls Tryz.prog 60 #[wv] w fun e w'=>e=.returned (.tuple #[.slice none 0 0,.bool false])/\Below w.heap.size w w':=by
 refine(parse_any w wv l base hw hl).mono ?_
 rintro e w' ⟨h1,h2⟩
 rw[h] at h2
 exact⟨h2,h1⟩
theorem zi1(w:World)(wv:Value)(l:List Tok)(base:Nat)(cs:List zab)(hw:w.ownsRow base 182 2 wv l.length (zgj l))(hl:l.length<=500)(h:zev l.length l.length l=some cs) :
  Calls Tryz.prog 60 #[wv] w fun e w'=>∃ v,e=.returned (.tuple #[v,.bool true])/\CIn w.heap.size 171 w' v cs/\Below w.heap.size w w':=by
 refine(parse_any w wv l base hw hl).mono ?_
 rintro e w' ⟨h1,h2⟩
 rw[h] at h2
 obtain⟨v,a,b⟩:=h2
 exact⟨v,a,b,h1⟩
theorem zzl(w:World)(v:Value)(cs:List zab)(hcs:CIn lo 171 w v cs)(hN:(cs.flatMap za2).length<=1000)(h:zgn cs=none) :
  Calls Tryz.prog 62 #[v] w fun e w'=>e=.returned (.tuple #[.agg #[.slice none 0 0],.bool false])/\Below w.heap.size w w':=by
 refine(zny w v cs hcs hN).mono ?_
 rintro e w' ⟨h1,h2⟩
 rw[h] at h2
 exact⟨h2,h1⟩
theorem zkd(w:World)(v:Value)(cs:List zab)(t:List zas)(hcs:CIn lo 171 w v cs)(hN:(cs.flatMap za2).length<=1000)(h:zgn cs=some t) :
  Calls Tryz.prog 62 #[v] w fun e w'=>∃ pv,e=.returned (.tuple #[.agg #[pv],.bool true])/\w'.ownsRow w.heap.size 221 3 pv t.length (zcc t)/\Below w.heap.size w w':=by
 refine(zny w v cs hcs hN).mono ?_
 rintro e w' ⟨h1,h2⟩
 rw[h] at h2
 obtain⟨v,a,b⟩:=h2
 exact⟨v,a,b,h1⟩
theorem zte(s:ByteArray)(w:World)(hs:500 < s.size)(hs2:s.size<=9223372036854775807) :
  Calls Tryz.prog 32 #[.string s] w fun e w'=>zgl (.error 1) w e w':=by
 go_enter Tryz.func32,Tryz.ntmps32
 go_wp2
 go_ret2
 exact⟨Below.refl _ _,rfl⟩
theorem z2c(s:ByteArray)(w:World)(hs:s.size<=500)(hS:splitB s=none) :
  Calls Tryz.prog 32 #[.string s] w fun e w'=>zgl (.error 2) w e w':=by
 have HS:Hid (splitB s=none):=hS
 clear hS
 go_enter Tryz.func32,Tryz.ntmps32
 go_wp2_with (first|(go_at_call 59;refine(z7t s _ hs HS).mono ?_;rintro e w1 ⟨rfl,hb1⟩))
 go_ret2
 exact⟨hb1,rfl⟩
theorem z2d(s:ByteArray)(w:World)(hs:s.size<=500)(l:List Tok)(hS:splitB s=some l)(hP:zev l.length l.length l=none) :
  Calls Tryz.prog 32 #[.string s] w fun e w'=>zgl (.error 3) w e w':=by
 have HS:Hid (splitB s=some l):=hS
 have HP:Hid (zev l.length l.length l=none):=hP
 clear hS hP
 go_enter Tryz.func32,Tryz.ntmps32
 go_wp2_with (first|(go_at_call 59;refine(zhz s _ l hs HS).mono ?_;rintro e w1 ⟨fv,rfl,hown,hll,hb1⟩;obtain⟨aof,capf,rfl⟩:=zac hown)|(go_at_call 60;refine(z7k _ _ l _ hown hll HP).mono ?_;rintro e w2 ⟨rfl,hb2⟩;have hB2:=zae hb1 hb2 (Nat.le_refl _)))
 go_ret2
 exact⟨hB2,rfl⟩
theorem z2e(s:ByteArray)(w:World)(hs:s.size<=500)(l:List Tok)(cs:List zab)(hm:cs.any zel=true)(hS:splitB s=some l)(hP:zev l.length l.length l=some cs)(hok:∀ c∈cs,zpe c)(hlen:cs.length<=1000) :
  Calls Tryz.prog 32 #[.string s] w fun e w'=>zgl (.error 4) w e w':=by
 have HS:Hid (splitB s=some l):=hS
 have HP:Hid (zev l.length l.length l=some cs):=hP
 have HOK:Hid (∀ c∈cs,zpe c):=hok
 have HLEN:Hid (cs.length<=1000):=hlen
 clear hS hP hok hlen
 go_enter Tryz.func32,Tryz.ntmps32
 go_wp2_with (first|(go_at_call 59;refine(zhz s _ l hs HS).mono ?_;rintro e w1 ⟨fv,rfl,hown,hll,hb1⟩;obtain⟨aof,capf,rfl⟩:=zac hown)|(go_at_call 60;refine(zi1 _ _ l _ cs hown hll HP).mono ?_;rintro e w2 ⟨cv,rfl,hcin,hb2⟩;obtain⟨aoc,capc,rfl⟩:=hcin.shape;have hB2:=zae hb1 hb2 (Nat.le_refl _))|(go_at_call 61;refine(zle _ _ cs hcin HOK.out HLEN.out).mono ?_;rintro e w3 ⟨rfl,hb3⟩;have hB3:=zae hB2 hb3 (Nat.le_refl _);have hcin3:=hcin.below hb3))
 go_ret2
 exact⟨hB3,rfl⟩
theorem z2f(s:ByteArray)(w:World)(hs:s.size<=500)(l:List Tok)(cs:List zab)(hm:cs.any zel=false)(hS:splitB s=some l)(hP:zev l.length l.length l=some cs)(hok:∀ c∈cs,zpe c)(hlen:cs.length<=1000)(hlits:(cs.flatMap za2).length<=1000)(hC:zgn cs=none) :
  Calls Tryz.prog 32 #[.string s] w fun e w'=>zgl (.error 5) w e w':=by
 have HS:Hid (splitB s=some l):=hS
 have HP:Hid (zev l.length l.length l=some cs):=hP
 have HOK:Hid (∀ c∈cs,zpe c):=hok
 have HLEN:Hid (cs.length<=1000):=hlen
 have HLITS:Hid ((cs.flatMap za2).length<=1000):=hlits
 have HC:Hid (zgn cs=none):=hC
 clear hS hP hok hlen hlits hC
 go_enter Tryz.func32,Tryz.ntmps32
 go_wp2_with (first|(go_at_call 59;refine(zhz s _ l hs HS).mono ?_;rintro e w1 ⟨fv,rfl,hown,hll,hb1⟩;obtain⟨aof,capf,rfl⟩:=zac hown)|(go_at_call 60;refine(zi1 _ _ l _ cs hown hll HP).mono ?_;rintro e w2 ⟨cv,rfl,hcin,hb2⟩;obtain⟨aoc,capc,rfl⟩:=hcin.shape;have hB2:=zae hb1 hb2 (Nat.le_refl _))|(go_at_call 61;refine(zle _ _ cs hcin HOK.out HLEN.out).mono ?_;rintro e w3 ⟨rfl,hb3⟩;have hB3:=zae hB2 hb3 (Nat.le_refl _);have hcin3:=hcin.below hb3)|(go_at_call 62;refine(zzl _ _ cs hcin3 HLITS.out HC).mono ?_;rintro e w4 ⟨rfl,hb4⟩;have hB4:=zae hB3 hb4 (Nat.le_refl _);have hz4:=hB4.size))
 go_ret2
 exact⟨(by go_grown),rfl⟩
theorem z2g(s:ByteArray)(w:World)(hs:s.size<=500)(l:List Tok)(cs:List zab)(t:List zas)(hm:cs.any zel=false)(hsf:cs.all zfc=false)(hS:splitB s=some l)(hP:zev l.length l.length l=some cs)(hok:∀ c∈cs,zpe c)(hlen:cs.length<=1000)(hlits:(cs.flatMap za2).length<=1000)(hC:zgn cs=some t) :
  Calls Tryz.prog 32 #[.string s] w fun e w'=>zgl (.error 6) w e w':=by
 have HS:Hid (splitB s=some l):=hS
 have HP:Hid (zev l.length l.length l=some cs):=hP
 have HOK:Hid (∀ c∈cs,zpe c):=hok
 have HLEN:Hid (cs.length<=1000):=hlen
 have HLITS:Hid ((cs.flatMap za2).length<=1000):=hlits
 have HC:Hid (zgn cs=some t):=hC
 clear hS hP hok hlen hlits hC
 go_enter Tryz.func32,Tryz.ntmps32
 go_wp2_with (first|(go_at_call 59;refine(zhz s _ l hs HS).mono ?_;rintro e w1 ⟨fv,rfl,hown,hll,hb1⟩;obtain⟨aof,capf,rfl⟩:=zac hown)|(go_at_call 60;refine(zi1 _ _ l _ cs hown hll HP).mono ?_;rintro e w2 ⟨cv,rfl,hcin,hb2⟩;obtain⟨aoc,capc,rfl⟩:=hcin.shape;have hB2:=zae hb1 hb2 (Nat.le_refl _))|(go_at_call 61;refine(zle _ _ cs hcin HOK.out HLEN.out).mono ?_;rintro e w3 ⟨rfl,hb3⟩;have hB3:=zae hB2 hb3 (Nat.le_refl _);have hcin3:=hcin.below hb3)|(go_at_call 62;refine(zkd _ _ cs t hcin3 HLITS.out HC).mono ?_;rintro e w4 ⟨pv,rfl,hpo,hb4⟩;obtain⟨aop,capp,rfl⟩:=zac hpo;have hB4:=zae hB3 hb4 (Nat.le_refl _);have hz4:=hB4.size;have hcin4:=hcin3.below hb4)|(go_at_call 63;refine(zse _ _ cs (by exact hcin4.below (by go_grown)) HOK.out HLEN.out).mono ?_;rintro e w5 ⟨rfl,hb5⟩;have hq5:=(Below.refl w4.heap.size w4).alloc (Nat.le_refl _) (.cells #[.slice aop t.length capp] 127);have hbb5:=zae hq5 hb5 (Nat.le_refl _);have hB5:=zae hB4 hbb5 (Nat.le_refl _)))
 go_ret2
 exact⟨hB5,rfl⟩
theorem z2h(s:ByteArray)(w:World)(hs:s.size<=500)(l:List Tok)(cs:List zab)(t:List zas)(hm:cs.any zel=false)(hsf:cs.all zfc=true)(hst:(zdb (t.length+1) t cs).2=false)(hS:splitB s=some l)(hP:zev l.length l.length l=some cs)(hok:∀ c∈cs,zpe c)(hlen:cs.length<=1000)(hlits:(cs.flatMap za2).length<=1000)(hC:zgn cs=some t)(htl:t.length<=1000)(htz:∀ e∈t,e.stratum<=0) :
  Calls Tryz.prog 32 #[.string s] w fun e w'=>zgl (.error 7) w e w':=by
 have HS:Hid (splitB s=some l):=hS
 have HP:Hid (zev l.length l.length l=some cs):=hP
 have HOK:Hid (∀ c∈cs,zpe c):=hok
 have HLEN:Hid (cs.length<=1000):=hlen
 have HLITS:Hid ((cs.flatMap za2).length<=1000):=hlits
 have HC:Hid (zgn cs=some t):=hC
 have HTL:Hid (t.length<=1000):=htl
 have HTZ:Hid (∀ e∈t,e.stratum<=0):=htz
 clear hS hP hok hlen hlits hC htl htz
 go_enter Tryz.func32,Tryz.ntmps32
 go_wp2_with (first|(go_at_call 59;refine(zhz s _ l hs HS).mono ?_;rintro e w1 ⟨fv,rfl,hown,hll,hb1⟩;obtain⟨aof,capf,rfl⟩:=zac hown)|(go_at_call 60;refine(zi1 _ _ l _ cs hown hll HP).mono ?_;rintro e w2 ⟨cv,rfl,hcin,hb2⟩;obtain⟨aoc,capc,rfl⟩:=hcin.shape;have hB2:=zae hb1 hb2 (Nat.le_refl _))|(go_at_call 61;refine(zle _ _ cs hcin HOK.out HLEN.out).mono ?_;rintro e w3 ⟨rfl,hb3⟩;have hB3:=zae hB2 hb3 (Nat.le_refl _);have hcin3:=hcin.below hb3)|(go_at_call 62;refine(zkd _ _ cs t hcin3 HLITS.out HC).mono ?_;rintro e w4 ⟨pv,rfl,hpo,hb4⟩;obtain⟨aop,capp,rfl⟩:=zac hpo;have hB4:=zae hB3 hb4 (Nat.le_refl _);have hz4:=hB4.size;have hcin4:=hcin3.below hb4)|(go_at_call 63;refine(zse _ _ cs (by exact hcin4.below (by go_grown)) HOK.out HLEN.out).mono ?_;rintro e w5 ⟨rfl,hb5⟩;have hq5:=(Below.refl w4.heap.size w4).alloc (Nat.le_refl _) (.cells #[.slice aop t.length capp] 127);have hbb5:=zae hq5 hb5 (Nat.le_refl _);have hB5:=zae hB4 hbb5 (Nat.le_refl _))|(go_at_call 64;refine(zmv w3.heap.size _ w4.heap.size t _ cs w3 rfl (zae hb4 hbb5 (Nat.le_refl _)) hcin3 HOK.out HLEN.out ⟨_,(Box.new w4 _ _).below hb5,zaa hpo hbb5⟩ HTL.out HTZ.out).mono ?_;rintro e w6 ⟨rfl,hta6,hb6⟩;obtain⟨ao6,cap6,hbx6,hown6⟩:=hta6.view;obtain⟨hc6,hf6⟩:=hbx6.rules;have hB6:Below w.heap.size w w6:=hB5.trans (hb6.mono (Nat.le_trans hB3.size (Nat.le_refl _)));have hz6:=hbx6.lt))
 go_ret2
 exact⟨hB6,rfl⟩
theorem z2a(s:ByteArray)(w:World)(hs:s.size<=500)(l:List Tok)(cs:List zab)(t:List zas)(hm:cs.any zel=false)(hsf:cs.all zfc=true)(hst:(zdb (t.length+1) t cs).2=true)(hS:splitB s=some l)(hP:zev l.length l.length l=some cs)(hok:∀ c∈cs,zpe c)(hlen:cs.length<=1000)(hlits:(cs.flatMap za2).length<=1000)(hC:zgn cs=some t)(htl:t.length<=1000)(htz:∀ e∈t,e.stratum<=0) :
  Calls Tryz.prog 32 #[.string s] w fun e w'=>zgl (.ok (cs,(zdb (t.length+1) t cs).1)) w e w':=by
 have HS:Hid (splitB s=some l):=hS
 have HP:Hid (zev l.length l.length l=some cs):=hP
 have HOK:Hid (∀ c∈cs,zpe c):=hok
 have HLEN:Hid (cs.length<=1000):=hlen
 have HLITS:Hid ((cs.flatMap za2).length<=1000):=hlits
 have HC:Hid (zgn cs=some t):=hC
 have HTL:Hid (t.length<=1000):=htl
 have HTZ:Hid (∀ e∈t,e.stratum<=0):=htz
 clear hS hP hok hlen hlits hC htl htz
 go_enter Tryz.func32,Tryz.ntmps32
 go_wp2_with (first|(go_at_call 59;refine(zhz s _ l hs HS).mono ?_;rintro e w1 ⟨fv,rfl,hown,hll,hb1⟩;obtain⟨aof,capf,rfl⟩:=zac hown)|(go_at_call 60;refine(zi1 _ _ l _ cs hown hll HP).mono ?_;rintro e w2 ⟨cv,rfl,hcin,hb2⟩;obtain⟨aoc,capc,rfl⟩:=hcin.shape;have hB2:=zae hb1 hb2 (Nat.le_refl _))|(go_at_call 61;refine(zle _ _ cs hcin HOK.out HLEN.out).mono ?_;rintro e w3 ⟨rfl,hb3⟩;have hB3:=zae hB2 hb3 (Nat.le_refl _);have hcin3:=hcin.below hb3)|(go_at_call 62;refine(zkd _ _ cs t hcin3 HLITS.out HC).mono ?_;rintro e w4 ⟨pv,rfl,hpo,hb4⟩;obtain⟨aop,capp,rfl⟩:=zac hpo;have hB4:=zae hB3 hb4 (Nat.le_refl _);have hz4:=hB4.size;have hcin4:=hcin3.below hb4)|(go_at_call 63;refine(zse _ _ cs (by exact hcin4.below (by go_grown)) HOK.out HLEN.out).mono ?_;rintro e w5 ⟨rfl,hb5⟩;have hq5:=(Below.refl w4.heap.size w4).alloc (Nat.le_refl _) (.cells #[.slice aop t.length capp] 127);have hbb5:=zae hq5 hb5 (Nat.le_refl _);have hB5:=zae hB4 hbb5 (Nat.le_refl _))|(go_at_call 64;refine(zmv w3.heap.size _ w4.heap.size t _ cs w3 rfl (zae hb4 hbb5 (Nat.le_refl _)) hcin3 HOK.out HLEN.out ⟨_,(Box.new w4 _ _).below hb5,zaa hpo hbb5⟩ HTL.out HTZ.out).mono ?_;rintro e w6 ⟨rfl,hta6,hb6⟩;obtain⟨ao6,cap6,hbx6,hown6⟩:=hta6.view;obtain⟨hc6,hf6⟩:=hbx6.rules;have hB6:Below w.heap.size w w6:=hB5.trans (hb6.mono (Nat.le_trans hB3.size (Nat.le_refl _)));have hz6:=hbx6.lt))
 have hz66:=hB6.size
 have hcin6:=hcin3.below ((zae hb4 hbb5 (Nat.le_refl _)).trans hb6)
 go_ret2
 exact⟨(by go_grown),w6.heap.size,_,_,rfl,Box.new _ _ _,(hcin6.low hb1.size).below ((Below.refl _ _).alloc (Nat.le_refl _) _),zbd (zaa hown6 ((Below.refl _ _).alloc (Nat.le_refl _) _)) hB3.size,hz66⟩
theorem zke(s:ByteArray)(w:World)(hs2:s.size<=9223372036854775807) :
  Calls Tryz.prog 32 #[.string s] w fun e w'=>zgl (znz s) w e w':=by
 unfold znz
 split
 ·rename_i hs;exact zte s w hs hs2
 ·rename_i hs
  have hs':s.size<=500:=by omega
  split
  ·rename_i hS;exact z2c s w hs' hS
  ·rename_i l hS
   split
   ·rename_i hP;exact z2d s w hs' l hS hP
   ·rename_i cs hP
    have hl:l.length<=500:=by
     have:=zq9 hS;omega
    have hw:=zwy hP
    have hok:=z8k (cs:=cs) (by omega)
    have hlen:cs.length<=1000:=by have:=z4o cs;omega
    have hlits:(cs.flatMap za2).length<=1000:=by have:=zyn cs;omega
    split
    ·rename_i hm;exact z2e s w hs' l cs hm hS hP hok hlen
    ·rename_i hm
     have hm':cs.any zel=false:=by simpa using hm
     split
     ·rename_i hC;exact z2f s w hs' l cs hm' hS hP hok hlen hlits hC
     ·rename_i t hC
      have htl:t.length<=1000:=by have:=zrp _ _ _ hC;simp only[List.length_nil] at this;omega
      have htz:∀ e∈t,e.stratum<=0:=znq _ [] (by simp) t hC
      split
      ·rename_i hsf
       split
       ·rename_i hst;exact z2a s w hs' l cs t hm' hsf hst hS hP hok hlen hlits hC htl htz
       ·rename_i hst;exact z2h s w hs' l cs t hm' hsf (by simpa using hst) hS hP hok hlen hlits hC htl htz
      ·rename_i hsf;exact z2g s w hs' l cs t hm' (by simpa using hsf) hS hP hok hlen hlits hC
def TP(B:Nat)(w:World)(tb:Nat)(t:List zas):Prop:=∃ cv pv,Box w tb #[cv,pv] 131/\w.ownsRow B 221 3 pv t.length (zcc t)
theorem TP.view{B:Nat}{w:World}{tb:Nat}{t:List zas}(h:TP B w tb t):∃ cv ao cap,Box w tb #[cv,.slice ao t.length cap] 131/\w.ownsRow B 221 3 (.slice ao t.length cap) t.length (zcc t):=by
 obtain⟨cv,nv,h1,h2⟩:=h
 obtain⟨ao,cap,rfl⟩:=zac h2
 exact⟨cv,ao,cap,h1,h2⟩
set_option maxHeartbeats 2000000
theorem zyj(w:World)(n:Nat)(T:TypeId)(z:Value)(hn:n<=maxLen):(w.alloc (.cells (madeCells #[z] n) T)).ownsRow w.heap.size T 1 (.slice (some ⟨w.heap.size,0,none⟩) n n) n (List.replicate n z):=by
 refine⟨by simp,Or.inr ⟨w.heap.size,n,madeCells #[z] n,rfl,Nat.le_refl _,?_,Nat.le_refl _,hn,by rw[size_madeCells];omega,?_⟩⟩
 ·show(w.heap.push _)[w.heap.size]?=_
  simp
 ·apply List.ext_getElem?
  intro i
  by_cases hi:i < n
  ·simp[hi,madeCells,Nat.mod_one]
  ·simp[List.getElem?_take,hi]
def zl2{α:Type}(f:α->Value)(l:List α)(z:Value)(k:Nat):List Value:=(l.take k).map f++List.replicate (l.length - k) z
theorem zx2{α:Type}(f:α->Value)(l:List α)(z:Value)(k:Nat)(hk:k < l.length):(zl2 f l z k).set k (f l[k])=zl2 f l z (k+1):=by
 unfold zl2
 have h1:((l.take k).map f).length=k:=by simp;omega
 rw[List.set_append_right _ _ (by omega),h1,Nat.sub_self,List.take_succ_eq_append_getElem hk,List.map_append,List.append_assoc]
 congr 1
 rw[show l.length - k=(l.length - (k+1))+1 by omega,List.replicate_succ]
 rfl
theorem zm7{α:Type}(f:α->Value)(l:List α)(z:Value)(k:Nat)(hk:k<=l.length):(zl2 f l z k).length=l.length:=by unfold zl2;simp;omega
theorem ztn{α:Type}(f:α->Value)(l:List α)(z:Value):zl2 f l z 0=List.replicate l.length z:=by simp[zl2]
theorem zx1{α:Type}(f:α->Value)(l:List α)(z:Value)(k:Nat)(hk:¬ k < l.length):zl2 f l z k=l.map f:=by
 unfold zl2;rw[List.take_of_length_le (by omega),show l.length - k=0 by omega];simp
theorem z2i(w:World)(v:Value)(l:List ByteArray)(hs:SIn lo w v l)(hl:l.length<=1000) :
  Calls Tryz.prog 170 #[v] w fun e w'=>∃ g,w.heap.size<=g/\e=.returned (.slice (some ⟨g,0,none⟩) l.length l.length)/\SIn w.heap.size w' (.slice (some ⟨g,0,none⟩) l.length l.length) l/\Below w.heap.size w w':=by
 obtain⟨ao,cap,rfl⟩:=hs.shape
 have hmk:=run_make_row' (P:=Tryz.prog) 30 9 (.string ByteArray.empty) 16 Tryz.underlying30 Tryz.infoString rfl .i64 .i64 l.length (by omega) (by omega)
 go_enter Tryz.func170,Tryz.ntmps170
 go_wp2
 clear hmk
 have hom:=zyj w l.length 9 (.string ByteArray.empty) (by unfold maxLen;omega)
 rw[← ztn Value.string] at hom
 go_loopw [11] (fun i wr=>∃ k:Nat,k<=l.length/\i=.int .i64 k/\Below w.heap.size w wr/\wr.ownsRow w.heap.size 9 1 (.slice (some ⟨w.heap.size,0,none⟩) l.length l.length) l.length (zl2 Value.string l (.string ByteArray.empty) k)) (fun i _=>l.length - (intOf i).toNat)
 case atStart=>exact⟨0,Nat.zero_le _,rfl,(by go_grown),hom⟩
 case round =>
  clear hom
  obtain⟨k,hk,rfl,hbk,hown⟩:=hrel
  have hszk:=hbk.size
  by_cases hlt:k < l.length
  ·obtain⟨g,rfl,hg,hck⟩:=hs.cell k hlt
   have hxk:=(hbk.cell (p:=⟨g,k,none⟩) hg).trans hck
   have hgr:g < wr.heap.size:=by omega
   have hset:=zb4 hown k (by rw[zm7 _ _ _ _ hk];exact hlt) (.string l[k])
   rw[zx2 Value.string l _ k hlt] at hset
   have HSET:Hid ((wr.setCell ⟨w.heap.size,k,none⟩ (.string l[k])).ownsRow w.heap.size 9 1 (.slice (some ⟨w.heap.size,0,none⟩) l.length l.length) l.length (zl2 Value.string l (.string ByteArray.empty) (k+1))):=hset
   have hfz:=zbt hown
   obtain⟨g2,cap2,hv2,_,hg2,hcl2⟩:=zal hown (by omega)
   simp at hv2
   obtain⟨rfl,_⟩:=hv2
   have hck2:∃ u,wr.cell? ⟨w.heap.size,k,none⟩=some u:=⟨_,hcl2 k _ (List.getElem?_eq_getElem (by rw[zm7 _ _ _ _ hk];exact hlt))⟩
   obtain⟨u0,hu0⟩:=hck2
   clear hck hset hcl2
   generalize l[k]=x at *
   go_wp2
   go_roundw
   case rel=>exact⟨k+1,by omega,by go_num,(by go_grown),HSET⟩
   case measure=>simp[intOf];omega
  ·rw[zx1 _ _ _ _ hlt] at hown
   go_wp2
   go_ret
   exact⟨_,Nat.le_refl _,rfl,hown,hbk⟩
theorem z0n(B:Nat)(w:World)(tb:Nat)(t:List zas)(h:TP B w tb t)(hl:t.length<=1000) :
  Calls Tryz.prog 132 #[.pointer (some ⟨tb,1,none⟩)] w fun e w'=>∃ g,w.heap.size<=g/\e=.returned (.slice (some ⟨g,0,none⟩) t.length t.length)/\SIn w.heap.size w' (.slice (some ⟨g,0,none⟩) t.length t.length) (t.map zas.name)/\Below w.heap.size w w':=by
 obtain⟨cv,ao,cap,hbx,hown⟩:=h.view
 obtain⟨hc,hf⟩:=hbx.rules
 have hlt:=hbx.lt
 have hmk:=run_make_row' (P:=Tryz.prog) 30 9 (.string ByteArray.empty) 16 Tryz.underlying30 Tryz.infoString rfl .i64 .i64 t.length (by omega) (by omega)
 go_enter Tryz.func132,Tryz.ntmps132
 go_wp2
 clear hmk
 have hom:=zyj w t.length 9 (.string ByteArray.empty) (by unfold maxLen;omega)
 rw[← ztn (fun e:zas=>Value.string e.name)] at hom
 go_loopw [17] (fun i wr=>∃ k:Nat,k<=t.length/\i=.int .i64 k/\Below w.heap.size w wr/\wr.ownsRow w.heap.size 9 1 (.slice (some ⟨w.heap.size,0,none⟩) t.length t.length) t.length (zl2 (fun e:zas=>Value.string e.name) t (.string ByteArray.empty) k)) (fun i _=>t.length - (intOf i).toNat)
 case atStart=>exact⟨0,Nat.zero_le _,rfl,(by go_grown),hom⟩
 case round =>
  clear hom hc hf
  obtain⟨k,hk,rfl,hbk,hownk⟩:=hrel
  have hszk:=hbk.size
  by_cases hkt:k < t.length
  ·obtain⟨g,rfl,hg,_,hd0,hd1,hd2⟩:=zdq hown k hkt
   have hx0:=(hbk.cell (p:=⟨g,k * 3,none⟩) hg).trans hd0
   have hx1:=(hbk.cell (p:=⟨g,k * 3+1,none⟩) hg).trans hd1
   have hx2:=(hbk.cell (p:=⟨g,k * 3+2,none⟩) hg).trans hd2
   have hgr:g < wr.heap.size:=by omega
   have hset:=zb4 hownk k (by rw[zm7 _ _ _ _ hk];exact hkt) (.string t[k].name)
   rw[zx2 (fun e:zas=>Value.string e.name) t _ k hkt] at hset
   have HSET:Hid ((wr.setCell ⟨w.heap.size,k,none⟩ (.string t[k].name)).ownsRow w.heap.size 9 1 (.slice (some ⟨w.heap.size,0,none⟩) t.length t.length) t.length (zl2 (fun e:zas=>Value.string e.name) t (.string ByteArray.empty) (k+1))):=hset
   have hfz:=zbt hownk
   obtain⟨g2,cap2,hv2,_,hg2,hcl2⟩:=zal hownk (by omega)
   simp at hv2
   obtain⟨rfl,_⟩:=hv2
   have hck2:∃ u,wr.cell? ⟨w.heap.size,k,none⟩=some u:=⟨_,hcl2 k _ (List.getElem?_eq_getElem (by rw[zm7 _ _ _ _ hk];exact hkt))⟩
   obtain⟨u0,hu0⟩:=hck2
   clear hd0 hd1 hd2 hset hcl2
   generalize t[k]=x at *
   go_wp2
   go_roundw
   case rel=>exact⟨k+1,by omega,by go_num,(by go_grown),zaa HSET.out ((Below.refl _ _).alloc (Nat.le_refl _) _)⟩
   case measure=>simp[intOf];omega
  ·rw[zx1 _ _ _ _ hkt] at hownk
   have hs:SIn w.heap.size wr (.slice (some ⟨w.heap.size,0,none⟩) t.length t.length) (t.map zas.name):=by simpa [SIn,Function.comp_def] using hownk
   go_wp2
   go_ret
   exact⟨_,Nat.le_refl _,rfl,hs,hbk⟩
def zjq(lo:Nat)(w:World)(pb:Nat)(cs:List zab)(t:List zas):Prop:=lo<=pb/\∃ v pv,Box w pb #[v,pv] 131/\CIn lo 171 w v cs/\w.ownsRow lo 221 3 pv t.length (zcc t)
theorem zjq.table{w:World}{pb:Nat}{cs:List zab}{t:List zas}(h:zjq lo w pb cs t):TP lo w pb t:=by
 obtain⟨_,v,pv,h1,_,h3⟩:=h;exact⟨v,pv,h1,h3⟩
theorem zjq.below{w w':World}{pb:Nat}{cs:List zab}{t:List zas}(h:zjq lo w pb cs t)(hb:Below w.heap.size w w'):zjq lo w' pb cs t:=by
 obtain⟨h0,v,pv,h1,h2,h3⟩:=h;exact⟨h0,v,pv,h1.below hb,h2.below hb,zaa h3 hb⟩
theorem z0p(w:World)(pb:Nat)(cs:List zab)(t:List zas)(h:zjq lo w pb cs t)(hl:t.length<=1000) :
  Calls Tryz.prog 86 #[.pointer (some ⟨pb,0,none⟩)] w fun e w'=>∃ g,w.heap.size<=g/\e=.returned (.slice (some ⟨g,0,none⟩) t.length t.length)/\SIn w.heap.size w' (.slice (some ⟨g,0,none⟩) t.length t.length) (t.map zas.name)/\Below w.heap.size w w':=by
 have HN:=z0n lo w pb t h.table hl
 have hlt:pb < w.heap.size:=by obtain⟨_,v,pv,h1,_⟩:=h;exact h1.lt
 go_enter Tryz.func86,Tryz.ntmps86
 go_wp2_with (first|(go_at_call 132;refine HN.mono ?_;rintro e w1 ⟨g,hg,rfl,hs1,hb1⟩))
 go_ret
 exact⟨g,hg,rfl,hs1,hb1⟩
def zxi(cs:List zab):ByteArray:=cs.foldl (fun s c=>s++(clT c++zzb)) ByteArray.empty
theorem z06{cs:List zab}{k:Nat}(hk:k < cs.length):zxi (cs.take (k+1))=zxi (cs.take k)++(clT cs[k]++zzb):=by
 unfold zxi;rw[List.take_succ_eq_append_getElem hk,List.foldl_append];rfl
theorem zqh(M:Nat):∀(l:List ByteArray),(∀ t∈l,t.size<=M)->(zek l).size<=(M+2) * l.length
 |[],_=>by simp[zek]
 |[t],h=>by have:=h t (by simp);simp[zek];omega
 |t::u::r,h=>by
  have h1:=h t (by simp)
  have h2:=zqh M (u::r) fun x hx=>h x (List.mem_cons_of_mem _ hx)
  show(t++ze8++zek (u::r)).size<=_
  rw[ByteArray.size_append,ByteArray.size_append,show ze8.size=2 from rfl]
  simp only[List.length_cons] at h2 ⊢
  rw[Nat.mul_add,Nat.mul_one]
  omega
theorem z6d{c:zab}(h:zxo c):(clT c).size<=10000000:=by
 obtain⟨h1,h2⟩:=h
 have hl:∀ l∈za2 c,(zl7 l).size<=8009:=fun l hl=>by have:=zoh (h1 l hl);have:=(h1 l hl).2.2.1;omega
 have hh:=hl c.head (by simp[za2])
 have hb:(bodyT c.body).size<=4+8011 * c.body.length:=by
  unfold bodyT;split
  ·simp
  ·rw[ByteArray.size_append,show znu.size=4 from rfl]
   have:=zqh 8009 (c.body.map zl7) fun t ht=>by
    obtain⟨l,hm,rfl⟩:=List.mem_map.1 ht
    exact hl l (by simp[za2,hm])
   rw[List.length_map] at this
   omega
 unfold clT
 rw[ByteArray.size_append,ByteArray.size_append,show z9w.size=1 from rfl]
 omega
theorem z92(w:World)(pb:Nat)(cs:List zab)(t:List zas)(h:zjq lo w pb cs t)(hl:cs.length<=1000)(hf:∀ c∈cs,zxo c) :
  Calls Tryz.prog 47 #[.pointer (some ⟨pb,0,none⟩)] w fun e w'=>e=.returned (.string (zxi cs))/\Below w.heap.size w w':=by
 obtain⟨_,v,pv,h1,h2,_⟩:=h
 obtain⟨ao,cap,rfl⟩:=h2.shape
 obtain⟨hc,hfz⟩:=h1.rules
 have hlt:=h1.lt
 have HF:Hid (∀ c∈cs,zxo c):=hf
 clear hf
 go_enter Tryz.func47,Tryz.ntmps47
 go_wp2
 go_loopw [3,11] (fun v3 v11 wr=>∃(k:Nat) (s:ByteArray),k<=cs.length/\v11=.int .i64 k/\v3=.string s/\s.size<=10000001 * k/\Hid (s=zxi (cs.take k))/\Below w.heap.size w wr) (fun _ i _=>cs.length - (intOf i).toNat)
 case atStart=>exact⟨0,_,Nat.zero_le _,rfl,rfl,Nat.le_refl _,rfl,Below.refl _ _⟩
 case round =>
  clear hc hfz
  obtain⟨k,s,hk,rfl,rfl,hsz,H,hbk⟩:=hrel
  have hszk:=hbk.size
  by_cases hkt:k < cs.length
  ·obtain⟨g,ao2,cap2,ao3,cap3,rfl,hg,hd0,hd1,hd2,hd3,hsk,hlk⟩:=h2.cell k hkt
   have he0:=(hbk.cell (p:=⟨g,k * 4,none⟩) hg).trans hd0
   have he1:=(hbk.cell (p:=⟨g,k * 4+1,none⟩) hg).trans hd1
   have he2:=(hbk.cell (p:=⟨g,k * 4+2,none⟩) hg).trans hd2
   have he3:=(hbk.cell (p:=⟨g,k * 4+3,none⟩) hg).trans hd3
   have hgr:g < wr.heap.size:=by omega
   have HJ:=z06 hkt
   have hfc:=HF.out _ (List.getElem_mem hkt)
   have hskr:=hsk.below hbk
   have hlkr:=hlk.below hbk
   clear hd0 hd1 hd2 hd3 hsk hlk
   generalize cs[k]=c at *
   have hcz:=z6d hfc
   have HL:Hid (∀ W,Below wr.heap.size wr W->Calls Tryz.prog 85 #[.agg #[.bool c.head.neg,.string c.head.pred,.slice ao2 c.head.args.length cap2,.slice ao3 c.body.length cap3]] W fun e w'=>e=.returned (.string (clT c))/\Below W.heap.size W w'):=fun W hW=>zzj W c _ _ (hskr.below hW) (hlkr.below hW) hfc
   clear hskr hlkr hfc
   generalize clT c=ta at *
   have hbl:zzb.size=1:=rfl
   have hq:(ta++zzb).size=ta.size+1:=by rw[ByteArray.size_append,hbl]
   have HN:Hid (s++(ta++zzb)=zxi (cs.take (k+1))):=by rw[Hid,HJ,H.out]
   clear HJ H
   go_wp2_with (first|(go_at_call 85;refine(HL.out _ (by exact(by go_grown))).mono ?_;rintro e w2 ⟨rfl,hb2⟩;have hB2:Below w.heap.size w w2:=zae (hbk.alloc hszk _) hb2 (Nat.le_refl _)))
   go_roundw
   case rel=>exact⟨k+1,s++(ta++zzb),by omega,by go_num,rfl,(by rw[ByteArray.size_append];omega),HN,hB2⟩
   case measure=>simp[intOf];omega
  ·have HN:Hid (s=zxi cs):=by rw[Hid,H.out,List.take_of_length_le (by omega)]
   clear H
   go_wp2
   go_ret
   exact⟨by rw[← HN.out];rfl,hbk⟩
def z0b(t:Value × Value × Value):List Value:=[t.1,t.2.1,t.2.2]
def flat3(ys:List (Value × Value × Value)):List Value:=ys.flatMap z0b
theorem ziv(ys:List (Value × Value × Value)):(flat3 ys).length=ys.length * 3:=by
 induction ys with
 |nil=>rfl
 |cons a l ih=>simp[flat3,z0b] at ih ⊢;omega
theorem zn7:∀(ys:List (Value × Value × Value)) (k:Nat) (_:k < ys.length) (a b c:Value),(((flat3 ys).set (k * 3) a).set (k * 3+1) b).set (k * 3+2) c=flat3 (ys.set k (a,b,c))
 |[],k,hk,_,_,_=>by simp at hk
 |y::r,0,_,a,b,c=>by simp[flat3,z0b]
 |y::r,k+1,hk,a,b,c=>by
  have:=zn7 r k (by simpa using hk) a b c
  simp only[flat3,List.flatMap_cons,List.set_cons_succ,z0b] at this ⊢
  rw[show(k+1) * 3=k * 3+1+1+1 from by omega,show k * 3+1+1+1+1=k * 3+1+1+1+1 from rfl,show k * 3+1+1+1+2=k * 3+2+1+1+1 from by omega]
  simpa using this
theorem zm8:∀(ys:List (Value × Value × Value)) (k:Nat) (hk:k < ys.length),(flat3 ys)[k * 3]?=some ys[k].1/\(flat3 ys)[k * 3+1]?=some ys[k].2.1/\(flat3 ys)[k * 3+2]?=some ys[k].2.2
 |[],k,hk=>by simp at hk
 |y::r,0,_=>by simp[flat3,z0b]
 |y::r,k+1,hk=>by
  have:=zm8 r k (by simpa using hk)
  simp only[flat3,List.flatMap_cons,z0b] at this ⊢
  rw[show(k+1) * 3=k * 3+1+1+1 from by omega,show k * 3+1+1+1+1=k * 3+1+1+1+1 from rfl,show k * 3+1+1+1+2=k * 3+2+1+1+1 from by omega]
  simpa using this
theorem z7a(z0 z1 z2:Value):∀(n i:Nat),i < n * 3->(madeCells #[z0,z1,z2] (n * 3))[i]?=(flat3 (List.replicate n (z0,z1,z2)))[i]?:=by
 intro n i hi
 obtain⟨k,j,hj,rfl⟩:∃ k j,j < 3/\i=k * 3+j:=⟨i / 3,i % 3,Nat.mod_lt _ (by decide),by omega⟩
 have hk:k < n:=by omega
 obtain⟨h0,h1,h2⟩:=zm8 (List.replicate n (z0,z1,z2)) k (by simpa using hk)
 simp only[List.getElem_replicate] at h0 h1 h2
 have hm:(k * 3+j) % 3=j:=by omega
 simp only[madeCells,Array.getElem?_map,Array.getElem?_range]
 rw[if_pos hi]
 simp only[Option.map_some]
 have h3:(#[z0,z1,z2]:Array Value).size=3:=rfl
 rw[h3,hm]
 match j,hj with
 |0,_=>rw[Nat.add_zero,h0];rfl
 |1,_=>rw[h1];rfl
 |2,_=>rw[h2];rfl
theorem z4h(w:World)(n:Nat)(T:TypeId)(z0 z1 z2:Value)(hn:n<=maxLen):(w.alloc (.cells (madeCells #[z0,z1,z2] (n * 3)) T)).ownsRow w.heap.size T 3 (.slice (some ⟨w.heap.size,0,none⟩) n n) n (flat3 (List.replicate n (z0,z1,z2))):=by
 refine⟨by rw[ziv];simp,Or.inr ⟨w.heap.size,n,madeCells #[z0,z1,z2] (n * 3),rfl,Nat.le_refl _,?_,Nat.le_refl _,hn,by rw[size_madeCells],?_⟩⟩
 ·show(w.heap.push _)[w.heap.size]?=_
  simp
 ·apply List.ext_getElem?
  intro i
  by_cases hi:i < n * 3
  ·rw[List.getElem?_take,if_pos hi,Array.getElem?_toList,z7a _ _ _ n i hi]
  ·rw[List.getElem?_take,if_neg hi,List.getElem?_eq_none (by rw[ziv];simp;omega)]
theorem z7j{w:World}{base:Nat}{e:TypeId}{g n cap m:Nat}{ys:List (Value × Value × Value)}(h:w.ownsRow base e 3 (.slice (some ⟨g,0,none⟩) n cap) m (flat3 ys))(k:Nat)(hk:k < ys.length)(a b c:Value) :
  (((w.setCell ⟨g,k * 3,none⟩ a).setCell ⟨g,k * 3+1,none⟩ b).setCell ⟨g,k * 3+2,none⟩ c).ownsRow base e 3 (.slice (some ⟨g,0,none⟩) n cap) m (flat3 (ys.set k (a,b,c))):=by
 have hl:=ziv ys
 have h1:=zb4 h (k * 3) (by omega) a
 have h2:=zb4 h1 (k * 3+1) (by simp;omega) b
 have h3:=zb4 h2 (k * 3+2) (by simp;omega) c
 rw[zn7 ys k hk] at h3
 exact h3
theorem zor{w:World}{base:Nat}{e:TypeId}{g n cap m:Nat}{ys:List (Value × Value × Value)}(h:w.ownsRow base e 3 (.slice (some ⟨g,0,none⟩) n cap) m (flat3 ys))(k:Nat)(hk:k < ys.length) :
  g < w.heap.size/\w.cell? ⟨g,k * 3,none⟩=some ys[k].1/\w.cell? ⟨g,k * 3+1,none⟩=some ys[k].2.1/\w.cell? ⟨g,k * 3+2,none⟩=some ys[k].2.2:=by
 have hm:0 < m:=by have:=h.1;rw[ziv] at this;omega
 obtain⟨g',cap',hv,_,hg,hc⟩:=zal h hm
 simp at hv
 obtain⟨rfl,_⟩:=hv
 obtain⟨h0,h1,h2⟩:=zm8 ys k hk
 exact⟨hg,hc _ _ h0,hc _ _ h1,hc _ _ h2⟩
theorem zur{w:World}{base:Nat}{e:TypeId}{size g n cap m:Nat}{xs:List Value}(h:w.ownsRow base e size (.slice (some ⟨g,0,none⟩) n cap) m xs):∃ cur,w.heap[g]?=some (.cells cur e (0,0)):=by
 obtain⟨_,⟨hv,_⟩|⟨g',cap',cur,hv,_,hh,_⟩⟩:=h
 ·cases hv
 ·simp at hv;obtain⟨rfl,_⟩:=hv;exact⟨cur,hh⟩
def Copies(lo:Nat)(w:World)(ls:List zbv)(gs:List Nat):Prop:=gs.length=ls.length/\gs.Pairwise (· < ·)/\∀ k (h1:k < ls.length) (h2:k < gs.length),lo<=gs[k]/\SIn lo w (.slice (some ⟨gs[k],0,none⟩) ls[k].args.length ls[k].args.length) ls[k].args
theorem Copies.nil(w:World):Copies lo w [] []:=⟨rfl,List.Pairwise.nil,fun k h1=>by simp at h1⟩
theorem Copies.mono{w w':World}{ls:List zbv}{gs:List Nat}(h:Copies lo w ls gs)(hm:∀ v l,SIn lo w v l->SIn lo w' v l):Copies lo w' ls gs:=⟨h.1,h.2.1,fun k h1 h2=>⟨(h.2.2 k h1 h2).1,hm _ _ (h.2.2 k h1 h2).2⟩⟩
theorem Copies.lt{w:World}{ls:List zbv}{gs:List Nat}(h:Copies lo w ls gs):∀ g∈gs,g < w.heap.size:=by
 intro g hg
 obtain⟨k,hk,rfl⟩:=List.getElem_of_mem hg
 obtain⟨cur,hh⟩:=zur (h.2.2 k (by have:=h.1;omega) hk).2
 exact(Array.getElem?_eq_some_iff.1 hh).1
theorem Copies.snoc{w:World}{ls:List zbv}{gs:List Nat}{l:zbv}{g:Nat}(h:Copies lo w ls gs)(hlt:∀ x∈gs,x < g)(hg:lo<=g)(hs:SIn lo w (.slice (some ⟨g,0,none⟩) l.args.length l.args.length) l.args):Copies lo w (ls++[l]) (gs++[g]):=by
 obtain⟨h1,h2,h3⟩:=h
 refine⟨by simp[h1],?_,?_⟩
 ·rw[List.pairwise_append]
  exact⟨h2,List.pairwise_singleton _ _,fun a ha b hb=>by simp at hb;subst hb;exact hlt a ha⟩
 ·intro k hk1 hk2
  simp at hk1
  by_cases hk:k < ls.length
  ·have:=h3 k hk (by omega)
   simpa [List.getElem_append,hk,h1] using this
  ·obtain rfl:k=ls.length:=by omega
   have e1:(ls++[l])[ls.length]=l:=by simp
   have e2:(gs++[g])[ls.length]=g:=by simp[← h1]
   rw[e1,e2]
   exact⟨hg,hs⟩
end Go.Proofs.YteampbddflhngaaGreat
