import Derived.Test.YteampbddflhngabGreatJ07
import Derived.Deep.OwnRows
import Derived.Deep.RegionWith
import Derived.Laws.CopyOwn
import Derived.Maps.AppendAt

namespace Go.Proofs.YteampbddflhngabGreat
set_option maxRecDepth 100000
set_option maxHeartbeats 1000000
open Go.RowKit
variable {lo:Nat}
def zzj(l:zbv):Nat:=l.args.length+1
def sumW(ls:List zbv):Nat:=ls.foldr (fun l n=>zzj l+n) 0
def clW(c:zac):Nat:=zzj c.head+sumW c.body
def prW(cs:List zac):Nat:=cs.foldr (fun c n=>clW c+n) 0
theorem zw0:∀(r:List Tok) {ts:List ByteArray} {r2:List Tok},zbm r=some (ts,r2)->ts.length+r2.length<=r.length
 |[],_,_,h=>by simp[zbm] at h
 |[x],ts,r2,h=>by
  simp only[zbm] at h
  split at h <;> simp at h
  obtain⟨rfl,rfl⟩:=h;simp
 |x::y::r,ts,r2,h=>by
  simp only[zbm] at h
  split at h
  ·split at h
   ·cases hq:zbm r with
    |none=>rw[hq] at h;simp at h
    |some z =>
     obtain⟨ts',r'⟩:=z
     rw[hq] at h;simp at h
     have:=zw0 r hq
     obtain⟨rfl,rfl⟩:=h;simp;omega
   ·simp at h;obtain⟨rfl,rfl⟩:=h;simp;omega
  ·simp at h
theorem zve{r r2:List Tok}{a:zbv}(h:zd9 r=some (a,r2)):zzj a+r2.length<=r.length:=by
 cases r with
 |nil=>simp[zd9,hdK] at h
 |cons x r =>
  unfold zd9 at h
  split at h
  ·split at h
   ·split at h
    ·simp at h
    ·rename_i ts r3 hq
     have:=zw0 _ hq
     split at h <;> simp at h
     obtain⟨rfl,rfl⟩:=h;simp[zzj] at this ⊢;omega
   ·simp at h;obtain⟨rfl,rfl⟩:=h;simp[zzj];omega
  ·simp at h
theorem z7d{r r2:List Tok}{a:zbv}(h:zri r=some (a,r2)):zzj a+r2.length<=r.length:=by
 unfold zri at h
 split at h
 ·cases hq:zd9 r.tail with
  |none=>rw[hq] at h;simp at h
  |some z =>
   obtain⟨a',r'⟩:=z
   rw[hq] at h;simp at h
   have:=zve hq
   obtain⟨rfl,rfl⟩:=h;simp[zzj] at this ⊢;omega
 ·exact zve h
theorem z6n{n:Nat}:∀ {r r2:List Tok} {b:List zbv},zew n r=some (b,r2)->sumW b+r2.length<=r.length:=by
 induction n with
 |zero=>intro r r2 b h;simp[zew] at h
 |succ n ih =>
  intro r r2 b h
  cases hl:zri r with
  |none=>rw[zqy hl] at h;cases h
  |some z =>
   obtain⟨a,r3⟩:=z
   have:=z7d hl
   by_cases h6:hdK r3=6
   ·rw[zlm hl h6] at h
    cases hq:zew n r3.tail with
    |none=>rw[hq] at h;simp at h
    |some z =>
     obtain⟨b',r'⟩:=z
     rw[hq] at h;simp at h
     have:=ih hq
     obtain⟨rfl,rfl⟩:=h;simp[sumW] at this ⊢;omega
   ·rw[zln hl h6] at h;simp at h;obtain⟨rfl,rfl⟩:=h;simp[sumW];omega
theorem z1r{n:Nat}{r r2:List Tok}{c:zac}(h:zex n r=some (c,r2)):clW c+r2.length<=r.length:=by
 unfold zex at h
 split at h
 ·cases h
 ·rename_i a r1 ha
  have:=zve ha
  split at h
  ·split at h
   ·cases h
   ·rename_i b r3 hb
    have:=z6n hb
    split at h <;> simp at h
    obtain⟨rfl,rfl⟩:=h;simp[clW] at this ⊢;omega
  ·split at h <;> simp at h
   obtain⟨rfl,rfl⟩:=h;simp[clW,sumW];omega
theorem zvg{n0:Nat}:∀ {m:Nat} {r:List Tok} {cs:List zac},zeo n0 m r=some cs->prW cs<=r.length
 |_,[],cs,h=>by simp[zeo] at h;subst h;simp[prW]
 |0,_::_,cs,h=>by simp[zeo] at h
 |m+1,x::r,cs,h=>by
  cases hc:zex n0 (x::r) with
  |none=>rw[zwz (by simp) hc] at h;cases h
  |some z =>
   obtain⟨c,r2⟩:=z
   rw[zte (by simp) hc] at h
   cases hq:zeo n0 m r2 with
   |none=>rw[hq] at h;simp at h
   |some cs' =>
    rw[hq] at h;simp at h;subst h
    have h1:=z1r hc
    have h2:=zvg hq
    simp only[prW,List.foldr_cons,List.length_cons] at h1 h2 ⊢;omega
theorem zn6(ls:List zbv):zb9 ls+ls.length=sumW ls:=by
 induction ls with
 |nil=>rfl
 |cons a ls ih=>simp[zb9,sumW,zzj] at ih ⊢;omega
theorem z6o{cs:List zac}{c:zac}(h:c∈cs):clW c<=prW cs:=by
 induction cs with
 |nil=>cases h
 |cons a cs ih =>
  rcases List.mem_cons.1 h with rfl|h
  ·simp[prW]
  ·have:=ih h;simp[prW] at this ⊢;omega
theorem zw1(cs:List zac):(cs.flatMap za5).length<=prW cs:=by
 induction cs with
 |nil=>simp
 |cons a cs ih=>have:=zn6 a.body;simp[prW,clW,za5,zzj] at ih ⊢;omega
theorem z1v(cs:List zac):cs.length<=prW cs:=by
 induction cs with
 |nil=>simp
 |cons a cs ih=>simp[prW,clW,zzj] at ih ⊢;omega
theorem z5n{cs:List zac}(h:prW cs<=1000):∀ c∈cs,zoe c:=fun c hc=>by
 have h1:=z6o hc
 have h2:=zn6 c.body
 unfold clW zzj at h1
 exact⟨by omega,by omega⟩
theorem zlr:∀(n:Nat) (s:ByteArray) (i:Nat) (l:List (Int × ByteArray)),splitN n s i=some l->l.length<=s.size - i
 |0,_,_,l,h=>by simp[splitN] at h;subst h;simp
 |n+1,s,i,l,h=>by
  unfold splitN at h
  split at h
  ·rename_i hi
   split at h
   ·have:=zlr n s (i+1) l h;omega
   ·split at h
    ·cases h
    ·rename_i hk
     split at h
     ·cases h
     ·cases hq:splitN n s (zm7 s i (zh8 (bAt s i) (bAt s (i+1)))) with
      |none=>rw[hq] at h;simp at h
      |some l' =>
       rw[hq] at h;simp at h;subst h
       have:=zlr n s _ l' hq
       have:=z0j s i _ hi rfl hk
       simp;omega
  ·simp at h;subst h;simp
theorem zp4{s:ByteArray}{l:List Tok}(h:splitB s=some l):l.length<=s.size:=by have:=zlr _ s 0 l h;omega
def z3q(s:ByteArray):Except Int (List zac × List zav) :=
 if 500 < s.size then .error 1 else
 match splitB s with
 |none=>.error 2
 |some l =>
  match zeo l.length l.length l with
  |none=>.error 3
  |some cs =>
   if cs.any zed then .error 4 else
   match zgf cs with
   |none=>.error 5
   |some t =>
    if cs.all ze7 then
     if (zcv (t.length+1) t cs).2 then .ok (cs,(zcv (t.length+1) t cs).1) else .error 7
    else .error 6
def zgd(o:Except Int (List zac × List zav))(w:World)(e:Ending)(w':World):Prop :=
 Below w.heap.size w w'/\match o with
  |.error n=>e=.returned (.tuple #[.pointer none,.int .i64 n])
  |.ok (cs,t)=>∃ pb v pv,e=.returned (.tuple #[.pointer (some ⟨pb,0,none⟩),.int .i64 0])/\Box w' pb #[v,pv] 88/\CIn w.heap.size 90 w' v cs/\w'.ownsRow w.heap.size 138 3 pv t.length (zck t)/\w.heap.size<=pb
theorem z4x(s:ByteArray)(w:World)(hs:s.size<=500)(h:splitB s=none):Calls Tryz.prog 37 #[.string s] w fun e w'=>e=.returned (.tuple #[.slice none 0 0,.bool false])/\Below w.heap.size w w':=by
 refine(ztr s w hs).mono ?_
 rintro e w' ⟨h1,h2⟩
 rw[h] at h2
 exact⟨h2,h1⟩
theorem zhp(s:ByteArray)(w:World)(l:List Tok)(hs:s.size<=500)(h:splitB s=some l):Calls Tryz.prog 37 #[.string s] w fun e w'=>∃ v,e=.returned (.tuple #[v,.bool true])/\w'.ownsRow w.heap.size 129 2 v l.length (zgb l)/\l.length<=500/\Below w.heap.size w w':=by
 refine(ztr s w hs).mono ?_
 rintro e w' ⟨h1,h2⟩
 rw[h] at h2
 obtain⟨v,a,b,c⟩:=h2
 exact⟨v,a,b,by omega,h1⟩
theorem z4p(w:World)(wv:Value)(l:List Tok)(base:Nat)(hw:w.ownsRow base 129 2 wv l.length (zgb l))(hl:l.length<=500)(h:zeo l.length l.length l=none) :
  Calls Tryz.prog 38 #[wv] w fun e w'=>e=.returned (.tuple #[.slice none 0 0,.bool false])/\Below w.heap.size w w':=by
 refine(parse_any w wv l base hw hl).mono ?_
 rintro e w' ⟨h1,h2⟩
 rw[h] at h2
 exact⟨h2,h1⟩
theorem ziq(w:World)(wv:Value)(l:List Tok)(base:Nat)(cs:List zac)(hw:w.ownsRow base 129 2 wv l.length (zgb l))(hl:l.length<=500)(h:zeo l.length l.length l=some cs) :
  Calls Tryz.prog 38 #[wv] w fun e w'=>∃ v,e=.returned (.tuple #[v,.bool true])/\CIn w.heap.size 90 w' v cs/\Below w.heap.size w w':=by
 refine(parse_any w wv l base hw hl).mono ?_
 rintro e w' ⟨h1,h2⟩
 rw[h] at h2
 obtain⟨v,a,b⟩:=h2
 exact⟨v,a,b,h1⟩
theorem zxu(w:World)(v:Value)(cs:List zac)(hcs:CIn lo 90 w v cs)(hN:(cs.flatMap za5).length<=1000)(h:zgf cs=none) :
  Calls Tryz.prog 40 #[v] w fun e w'=>e=.returned (.tuple #[.agg #[.slice none 0 0],.bool false])/\Below w.heap.size w w':=by
 refine(zm4 w v cs hcs hN).mono ?_
 rintro e w' ⟨h1,h2⟩
 rw[h] at h2
 exact⟨h2,h1⟩
theorem zjt(w:World)(v:Value)(cs:List zac)(t:List zav)(hcs:CIn lo 90 w v cs)(hN:(cs.flatMap za5).length<=1000)(h:zgf cs=some t) :
  Calls Tryz.prog 40 #[v] w fun e w'=>∃ pv,e=.returned (.tuple #[.agg #[pv],.bool true])/\w'.ownsRow w.heap.size 138 3 pv t.length (zck t)/\Below w.heap.size w w':=by
 refine(zm4 w v cs hcs hN).mono ?_
 rintro e w' ⟨h1,h2⟩
 rw[h] at h2
 obtain⟨v,a,b⟩:=h2
 exact⟨v,a,b,h1⟩
theorem zr1(s:ByteArray)(w:World)(hs:500 < s.size)(hs2:s.size<=9223372036854775807) :
  Calls Tryz.prog 19 #[.string s] w fun e w'=>zgd (.error 1) w e w':=by
 go_enter Tryz.func19,Tryz.ntmps19
 go_wp2
 go_ret2
 exact⟨Below.refl _ _,rfl⟩
theorem z0a(s:ByteArray)(w:World)(hs:s.size<=500)(hS:splitB s=none) :
  Calls Tryz.prog 19 #[.string s] w fun e w'=>zgd (.error 2) w e w':=by
 have HS:Hid (splitB s=none):=hS
 clear hS
 go_enter Tryz.func19,Tryz.ntmps19
 go_wp2_with (first|(go_at_call 37;refine(z4x s _ hs HS).mono ?_;rintro e w1 ⟨rfl,hb1⟩))
 go_ret2
 exact⟨hb1,rfl⟩
theorem z0b(s:ByteArray)(w:World)(hs:s.size<=500)(l:List Tok)(hS:splitB s=some l)(hP:zeo l.length l.length l=none) :
  Calls Tryz.prog 19 #[.string s] w fun e w'=>zgd (.error 3) w e w':=by
 have HS:Hid (splitB s=some l):=hS
 have HP:Hid (zeo l.length l.length l=none):=hP
 clear hS hP
 go_enter Tryz.func19,Tryz.ntmps19
 go_wp2_with (first|(go_at_call 37;refine(zhp s _ l hs HS).mono ?_;rintro e w1 ⟨fv,rfl,hown,hll,hb1⟩;obtain⟨aof,capf,rfl⟩:=zab hown)|(go_at_call 38;refine(z4p _ _ l _ hown hll HP).mono ?_;rintro e w2 ⟨rfl,hb2⟩;have hB2:=zae hb1 hb2 (Nat.le_refl _)))
 go_ret2
 exact⟨hB2,rfl⟩
theorem z0c(s:ByteArray)(w:World)(hs:s.size<=500)(l:List Tok)(cs:List zac)(hm:cs.any zed=true)(hS:splitB s=some l)(hP:zeo l.length l.length l=some cs)(hok:∀ c∈cs,zoe c)(hlen:cs.length<=1000) :
  Calls Tryz.prog 19 #[.string s] w fun e w'=>zgd (.error 4) w e w':=by
 have HS:Hid (splitB s=some l):=hS
 have HP:Hid (zeo l.length l.length l=some cs):=hP
 have HOK:Hid (∀ c∈cs,zoe c):=hok
 have HLEN:Hid (cs.length<=1000):=hlen
 clear hS hP hok hlen
 go_enter Tryz.func19,Tryz.ntmps19
 go_wp2_with (first|(go_at_call 37;refine(zhp s _ l hs HS).mono ?_;rintro e w1 ⟨fv,rfl,hown,hll,hb1⟩;obtain⟨aof,capf,rfl⟩:=zab hown)|(go_at_call 38;refine(ziq _ _ l _ cs hown hll HP).mono ?_;rintro e w2 ⟨cv,rfl,hcin,hb2⟩;obtain⟨aoc,capc,rfl⟩:=hcin.shape;have hB2:=zae hb1 hb2 (Nat.le_refl _))|(go_at_call 39;refine(zku _ _ cs hcin HOK.out HLEN.out).mono ?_;rintro e w3 ⟨rfl,hb3⟩;have hB3:=zae hB2 hb3 (Nat.le_refl _);have hcin3:=hcin.below hb3))
 go_ret2
 exact⟨hB3,rfl⟩
theorem z0d(s:ByteArray)(w:World)(hs:s.size<=500)(l:List Tok)(cs:List zac)(hm:cs.any zed=false)(hS:splitB s=some l)(hP:zeo l.length l.length l=some cs)(hok:∀ c∈cs,zoe c)(hlen:cs.length<=1000)(hlits:(cs.flatMap za5).length<=1000)(hC:zgf cs=none) :
  Calls Tryz.prog 19 #[.string s] w fun e w'=>zgd (.error 5) w e w':=by
 have HS:Hid (splitB s=some l):=hS
 have HP:Hid (zeo l.length l.length l=some cs):=hP
 have HOK:Hid (∀ c∈cs,zoe c):=hok
 have HLEN:Hid (cs.length<=1000):=hlen
 have HLITS:Hid ((cs.flatMap za5).length<=1000):=hlits
 have HC:Hid (zgf cs=none):=hC
 clear hS hP hok hlen hlits hC
 go_enter Tryz.func19,Tryz.ntmps19
 go_wp2_with (first|(go_at_call 37;refine(zhp s _ l hs HS).mono ?_;rintro e w1 ⟨fv,rfl,hown,hll,hb1⟩;obtain⟨aof,capf,rfl⟩:=zab hown)|(go_at_call 38;refine(ziq _ _ l _ cs hown hll HP).mono ?_;rintro e w2 ⟨cv,rfl,hcin,hb2⟩;obtain⟨aoc,capc,rfl⟩:=hcin.shape;have hB2:=zae hb1 hb2 (Nat.le_refl _))|(go_at_call 39;refine(zku _ _ cs hcin HOK.out HLEN.out).mono ?_;rintro e w3 ⟨rfl,hb3⟩;have hB3:=zae hB2 hb3 (Nat.le_refl _);have hcin3:=hcin.below hb3)|(go_at_call 40;refine(zxu _ _ cs hcin3 HLITS.out HC).mono ?_;rintro e w4 ⟨rfl,hb4⟩;have hB4:=zae hB3 hb4 (Nat.le_refl _);have hz4:=hB4.size))
 go_ret2
 exact⟨(by go_grown),rfl⟩
theorem z0e(s:ByteArray)(w:World)(hs:s.size<=500)(l:List Tok)(cs:List zac)(t:List zav)(hm:cs.any zed=false)(hsf:cs.all ze7=false)(hS:splitB s=some l)(hP:zeo l.length l.length l=some cs)(hok:∀ c∈cs,zoe c)(hlen:cs.length<=1000)(hlits:(cs.flatMap za5).length<=1000)(hC:zgf cs=some t) :
  Calls Tryz.prog 19 #[.string s] w fun e w'=>zgd (.error 6) w e w':=by
 have HS:Hid (splitB s=some l):=hS
 have HP:Hid (zeo l.length l.length l=some cs):=hP
 have HOK:Hid (∀ c∈cs,zoe c):=hok
 have HLEN:Hid (cs.length<=1000):=hlen
 have HLITS:Hid ((cs.flatMap za5).length<=1000):=hlits
 have HC:Hid (zgf cs=some t):=hC
 clear hS hP hok hlen hlits hC
 go_enter Tryz.func19,Tryz.ntmps19
 go_wp2_with (first|(go_at_call 37;refine(zhp s _ l hs HS).mono ?_;rintro e w1 ⟨fv,rfl,hown,hll,hb1⟩;obtain⟨aof,capf,rfl⟩:=zab hown)|(go_at_call 38;refine(ziq _ _ l _ cs hown hll HP).mono ?_;rintro e w2 ⟨cv,rfl,hcin,hb2⟩;obtain⟨aoc,capc,rfl⟩:=hcin.shape;have hB2:=zae hb1 hb2 (Nat.le_refl _))|(go_at_call 39;refine(zku _ _ cs hcin HOK.out HLEN.out).mono ?_;rintro e w3 ⟨rfl,hb3⟩;have hB3:=zae hB2 hb3 (Nat.le_refl _);have hcin3:=hcin.below hb3)|(go_at_call 40;refine(zjt _ _ cs t hcin3 HLITS.out HC).mono ?_;rintro e w4 ⟨pv,rfl,hpo,hb4⟩;obtain⟨aop,capp,rfl⟩:=zab hpo;have hB4:=zae hB3 hb4 (Nat.le_refl _);have hz4:=hB4.size;have hcin4:=hcin3.below hb4)|(go_at_call 41;refine(zq6 _ _ cs (by exact hcin4.below (by go_grown)) HOK.out HLEN.out).mono ?_;rintro e w5 ⟨rfl,hb5⟩;have hq5:=(Below.refl w4.heap.size w4).alloc (Nat.le_refl _) (.cells #[.slice aop t.length capp] 84);have hbb5:=zae hq5 hb5 (Nat.le_refl _);have hB5:=zae hB4 hbb5 (Nat.le_refl _)))
 go_ret2
 exact⟨hB5,rfl⟩
theorem z0f(s:ByteArray)(w:World)(hs:s.size<=500)(l:List Tok)(cs:List zac)(t:List zav)(hm:cs.any zed=false)(hsf:cs.all ze7=true)(hst:(zcv (t.length+1) t cs).2=false)(hS:splitB s=some l)(hP:zeo l.length l.length l=some cs)(hok:∀ c∈cs,zoe c)(hlen:cs.length<=1000)(hlits:(cs.flatMap za5).length<=1000)(hC:zgf cs=some t)(htl:t.length<=1000)(htz:∀ e∈t,e.stratum<=0) :
  Calls Tryz.prog 19 #[.string s] w fun e w'=>zgd (.error 7) w e w':=by
 have HS:Hid (splitB s=some l):=hS
 have HP:Hid (zeo l.length l.length l=some cs):=hP
 have HOK:Hid (∀ c∈cs,zoe c):=hok
 have HLEN:Hid (cs.length<=1000):=hlen
 have HLITS:Hid ((cs.flatMap za5).length<=1000):=hlits
 have HC:Hid (zgf cs=some t):=hC
 have HTL:Hid (t.length<=1000):=htl
 have HTZ:Hid (∀ e∈t,e.stratum<=0):=htz
 clear hS hP hok hlen hlits hC htl htz
 go_enter Tryz.func19,Tryz.ntmps19
 go_wp2_with (first|(go_at_call 37;refine(zhp s _ l hs HS).mono ?_;rintro e w1 ⟨fv,rfl,hown,hll,hb1⟩;obtain⟨aof,capf,rfl⟩:=zab hown)|(go_at_call 38;refine(ziq _ _ l _ cs hown hll HP).mono ?_;rintro e w2 ⟨cv,rfl,hcin,hb2⟩;obtain⟨aoc,capc,rfl⟩:=hcin.shape;have hB2:=zae hb1 hb2 (Nat.le_refl _))|(go_at_call 39;refine(zku _ _ cs hcin HOK.out HLEN.out).mono ?_;rintro e w3 ⟨rfl,hb3⟩;have hB3:=zae hB2 hb3 (Nat.le_refl _);have hcin3:=hcin.below hb3)|(go_at_call 40;refine(zjt _ _ cs t hcin3 HLITS.out HC).mono ?_;rintro e w4 ⟨pv,rfl,hpo,hb4⟩;obtain⟨aop,capp,rfl⟩:=zab hpo;have hB4:=zae hB3 hb4 (Nat.le_refl _);have hz4:=hB4.size;have hcin4:=hcin3.below hb4)|(go_at_call 41;refine(zq6 _ _ cs (by exact hcin4.below (by go_grown)) HOK.out HLEN.out).mono ?_;rintro e w5 ⟨rfl,hb5⟩;have hq5:=(Below.refl w4.heap.size w4).alloc (Nat.le_refl _) (.cells #[.slice aop t.length capp] 84);have hbb5:=zae hq5 hb5 (Nat.le_refl _);have hB5:=zae hB4 hbb5 (Nat.le_refl _))|(go_at_call 42;refine(zl6 w3.heap.size _ w4.heap.size t _ cs w3 rfl (zae hb4 hbb5 (Nat.le_refl _)) hcin3 HOK.out HLEN.out ⟨_,(Box.new w4 _ _).below hb5,zaa hpo hbb5⟩ HTL.out HTZ.out).mono ?_;rintro e w6 ⟨rfl,hta6,hb6⟩;obtain⟨ao6,cap6,hbx6,hown6⟩:=hta6.view;obtain⟨hc6,hf6⟩:=hbx6.rules;have hB6:Below w.heap.size w w6:=hB5.trans (hb6.mono (Nat.le_trans hB3.size (Nat.le_refl _)));have hz6:=hbx6.lt))
 go_ret2
 exact⟨hB6,rfl⟩
theorem zz9(s:ByteArray)(w:World)(hs:s.size<=500)(l:List Tok)(cs:List zac)(t:List zav)(hm:cs.any zed=false)(hsf:cs.all ze7=true)(hst:(zcv (t.length+1) t cs).2=true)(hS:splitB s=some l)(hP:zeo l.length l.length l=some cs)(hok:∀ c∈cs,zoe c)(hlen:cs.length<=1000)(hlits:(cs.flatMap za5).length<=1000)(hC:zgf cs=some t)(htl:t.length<=1000)(htz:∀ e∈t,e.stratum<=0) :
  Calls Tryz.prog 19 #[.string s] w fun e w'=>zgd (.ok (cs,(zcv (t.length+1) t cs).1)) w e w':=by
 have HS:Hid (splitB s=some l):=hS
 have HP:Hid (zeo l.length l.length l=some cs):=hP
 have HOK:Hid (∀ c∈cs,zoe c):=hok
 have HLEN:Hid (cs.length<=1000):=hlen
 have HLITS:Hid ((cs.flatMap za5).length<=1000):=hlits
 have HC:Hid (zgf cs=some t):=hC
 have HTL:Hid (t.length<=1000):=htl
 have HTZ:Hid (∀ e∈t,e.stratum<=0):=htz
 clear hS hP hok hlen hlits hC htl htz
 go_enter Tryz.func19,Tryz.ntmps19
 go_wp2_with (first|(go_at_call 37;refine(zhp s _ l hs HS).mono ?_;rintro e w1 ⟨fv,rfl,hown,hll,hb1⟩;obtain⟨aof,capf,rfl⟩:=zab hown)|(go_at_call 38;refine(ziq _ _ l _ cs hown hll HP).mono ?_;rintro e w2 ⟨cv,rfl,hcin,hb2⟩;obtain⟨aoc,capc,rfl⟩:=hcin.shape;have hB2:=zae hb1 hb2 (Nat.le_refl _))|(go_at_call 39;refine(zku _ _ cs hcin HOK.out HLEN.out).mono ?_;rintro e w3 ⟨rfl,hb3⟩;have hB3:=zae hB2 hb3 (Nat.le_refl _);have hcin3:=hcin.below hb3)|(go_at_call 40;refine(zjt _ _ cs t hcin3 HLITS.out HC).mono ?_;rintro e w4 ⟨pv,rfl,hpo,hb4⟩;obtain⟨aop,capp,rfl⟩:=zab hpo;have hB4:=zae hB3 hb4 (Nat.le_refl _);have hz4:=hB4.size;have hcin4:=hcin3.below hb4)|(go_at_call 41;refine(zq6 _ _ cs (by exact hcin4.below (by go_grown)) HOK.out HLEN.out).mono ?_;rintro e w5 ⟨rfl,hb5⟩;have hq5:=(Below.refl w4.heap.size w4).alloc (Nat.le_refl _) (.cells #[.slice aop t.length capp] 84);have hbb5:=zae hq5 hb5 (Nat.le_refl _);have hB5:=zae hB4 hbb5 (Nat.le_refl _))|(go_at_call 42;refine(zl6 w3.heap.size _ w4.heap.size t _ cs w3 rfl (zae hb4 hbb5 (Nat.le_refl _)) hcin3 HOK.out HLEN.out ⟨_,(Box.new w4 _ _).below hb5,zaa hpo hbb5⟩ HTL.out HTZ.out).mono ?_;rintro e w6 ⟨rfl,hta6,hb6⟩;obtain⟨ao6,cap6,hbx6,hown6⟩:=hta6.view;obtain⟨hc6,hf6⟩:=hbx6.rules;have hB6:Below w.heap.size w w6:=hB5.trans (hb6.mono (Nat.le_trans hB3.size (Nat.le_refl _)));have hz6:=hbx6.lt))
 have hz66:=hB6.size
 have hcin6:=hcin3.below ((zae hb4 hbb5 (Nat.le_refl _)).trans hb6)
 go_ret2
 exact⟨(by go_grown),w6.heap.size,_,_,rfl,Box.new _ _ _,(hcin6.low hb1.size).below ((Below.refl _ _).alloc (Nat.le_refl _) _),zbb (zaa hown6 ((Below.refl _ _).alloc (Nat.le_refl _) _)) hB3.size,hz66⟩
theorem z6d(s:ByteArray)(w:World)(hs2:s.size<=9223372036854775807) :
  Calls Tryz.prog 19 #[.string s] w fun e w'=>zgd (z3q s) w e w':=by
 unfold z3q
 split
 ·rename_i hs;exact zr1 s w hs hs2
 ·rename_i hs
  have hs':s.size<=500:=by omega
  split
  ·rename_i hS;exact z0a s w hs' hS
  ·rename_i l hS
   split
   ·rename_i hP;exact z0b s w hs' l hS hP
   ·rename_i cs hP
    have hl:l.length<=500:=by
     have:=zp4 hS;omega
    have hw:=zvg hP
    have hok:=z5n (cs:=cs) (by omega)
    have hlen:cs.length<=1000:=by have:=z1v cs;omega
    have hlits:(cs.flatMap za5).length<=1000:=by have:=zw1 cs;omega
    split
    ·rename_i hm;exact z0c s w hs' l cs hm hS hP hok hlen
    ·rename_i hm
     have hm':cs.any zed=false:=by simpa using hm
     split
     ·rename_i hC;exact z0d s w hs' l cs hm' hS hP hok hlen hlits hC
     ·rename_i t hC
      have htl:t.length<=1000:=by have:=zqh _ _ _ hC;simp only[List.length_nil] at this;omega
      have htz:∀ e∈t,e.stratum<=0:=zmx _ [] (by simp) t hC
      split
      ·rename_i hsf
       split
       ·rename_i hst;exact zz9 s w hs' l cs t hm' hsf hst hS hP hok hlen hlits hC htl htz
       ·rename_i hst;exact z0f s w hs' l cs t hm' hsf (by simpa using hst) hS hP hok hlen hlits hC htl htz
      ·rename_i hsf;exact z0e s w hs' l cs t hm' (by simpa using hsf) hS hP hok hlen hlits hC
def z5s(lo:Nat)(w:World)(pb:Nat)(cs:List zac)(t:List zav):Prop:=lo<=pb/\∃ v pv,Box w pb #[v,pv] 88/\CIn lo 90 w v cs/\w.ownsRow lo 138 3 pv t.length (zck t)
def zyi(t:Value × Value × Value):List Value:=[t.1,t.2.1,t.2.2]
def flat3(ys:List (Value × Value × Value)):List Value:=ys.flatMap zyi
theorem zik(ys:List (Value × Value × Value)):(flat3 ys).length=ys.length * 3:=by
 induction ys with
 |nil=>rfl
 |cons a l ih=>simp[flat3,zyi] at ih ⊢;omega
theorem zna:∀(ys:List (Value × Value × Value)) (k:Nat) (_:k < ys.length) (a b c:Value),(((flat3 ys).set (k * 3) a).set (k * 3+1) b).set (k * 3+2) c=flat3 (ys.set k (a,b,c))
 |[],k,hk,_,_,_=>by simp at hk
 |y::r,0,_,a,b,c=>by simp[flat3,zyi]
 |y::r,k+1,hk,a,b,c=>by
  have:=zna r k (by simpa using hk) a b c
  simp only[flat3,List.flatMap_cons,List.set_cons_succ,zyi] at this ⊢
  rw[show(k+1) * 3=k * 3+1+1+1 from by omega,show k * 3+1+1+1+1=k * 3+1+1+1+1 from rfl,show k * 3+1+1+1+2=k * 3+2+1+1+1 from by omega]
  simpa using this
theorem zmh:∀(ys:List (Value × Value × Value)) (k:Nat) (hk:k < ys.length),(flat3 ys)[k * 3]?=some ys[k].1/\(flat3 ys)[k * 3+1]?=some ys[k].2.1/\(flat3 ys)[k * 3+2]?=some ys[k].2.2
 |[],k,hk=>by simp at hk
 |y::r,0,_=>by simp[flat3,zyi]
 |y::r,k+1,hk=>by
  have:=zmh r k (by simpa using hk)
  simp only[flat3,List.flatMap_cons,zyi] at this ⊢
  rw[show(k+1) * 3=k * 3+1+1+1 from by omega,show k * 3+1+1+1+1=k * 3+1+1+1+1 from rfl,show k * 3+1+1+1+2=k * 3+2+1+1+1 from by omega]
  simpa using this
theorem z4f(z0 z1 z2:Value):∀(n i:Nat),i < n * 3->(madeCells #[z0,z1,z2] (n * 3))[i]?=(flat3 (List.replicate n (z0,z1,z2)))[i]?:=by
 intro n i hi
 obtain⟨k,j,hj,rfl⟩:∃ k j,j < 3/\i=k * 3+j:=⟨i / 3,i % 3,Nat.mod_lt _ (by decide),by omega⟩
 have hk:k < n:=by omega
 obtain⟨h0,h1,h2⟩:=zmh (List.replicate n (z0,z1,z2)) k (by simpa using hk)
 simp only[List.getElem_replicate] at h0 h1 h2
 have hm:(k * 3+j) % 3=j:=by omega
 simp only[madeCells,Array.getElem?_map,Array.getElem?_range]
 rw[if_pos hi]
 simp only[Option.map_some]
 have h3:(#[z0,z1,z2]:Array Value).size=3:=rfl
 rw[h3,hm]
 match j,hj with
 |0,_=>rw[Nat.add_zero,h0];rfl
 |1,_=>rw[h1];rfl
 |2,_=>rw[h2];rfl
theorem z1o(w:World)(n:Nat)(T:TypeId)(z0 z1 z2:Value)(hn:n<=maxLen):(w.alloc (.cells (madeCells #[z0,z1,z2] (n * 3)) T)).ownsRow w.heap.size T 3 (.slice (some ⟨w.heap.size,0,none⟩) n n) n (flat3 (List.replicate n (z0,z1,z2))):=by
 refine⟨by rw[zik];simp,Or.inr ⟨w.heap.size,n,madeCells #[z0,z1,z2] (n * 3),rfl,Nat.le_refl _,?_,Nat.le_refl _,hn,by rw[size_madeCells],?_⟩⟩
 ·show(w.heap.push _)[w.heap.size]?=_
  simp
 ·apply List.ext_getElem?
  intro i
  by_cases hi:i < n * 3
  ·rw[List.getElem?_take,if_pos hi,Array.getElem?_toList,z4f _ _ _ n i hi]
  ·rw[List.getElem?_take,if_neg hi,List.getElem?_eq_none (by rw[zik];simp;omega)]
theorem z4o{w:World}{base:Nat}{e:TypeId}{g n cap m:Nat}{ys:List (Value × Value × Value)}(h:w.ownsRow base e 3 (.slice (some ⟨g,0,none⟩) n cap) m (flat3 ys))(k:Nat)(hk:k < ys.length)(a b c:Value) :
  (((w.setCell ⟨g,k * 3,none⟩ a).setCell ⟨g,k * 3+1,none⟩ b).setCell ⟨g,k * 3+2,none⟩ c).ownsRow base e 3 (.slice (some ⟨g,0,none⟩) n cap) m (flat3 (ys.set k (a,b,c))):=by
 have hl:=zik ys
 have h1:=zb7 h (k * 3) (by omega) a
 have h2:=zb7 h1 (k * 3+1) (by simp;omega) b
 have h3:=zb7 h2 (k * 3+2) (by simp;omega) c
 rw[zna ys k hk] at h3
 exact h3
theorem znr{w:World}{base:Nat}{e:TypeId}{g n cap m:Nat}{ys:List (Value × Value × Value)}(h:w.ownsRow base e 3 (.slice (some ⟨g,0,none⟩) n cap) m (flat3 ys))(k:Nat)(hk:k < ys.length) :
  g < w.heap.size/\w.cell? ⟨g,k * 3,none⟩=some ys[k].1/\w.cell? ⟨g,k * 3+1,none⟩=some ys[k].2.1/\w.cell? ⟨g,k * 3+2,none⟩=some ys[k].2.2:=by
 have hm:0 < m:=by have:=h.1;rw[zik] at this;omega
 obtain⟨g',cap',hv,_,hg,hc⟩:=zas h hm
 simp at hv
 obtain⟨rfl,_⟩:=hv
 obtain⟨h0,h1,h2⟩:=zmh ys k hk
 exact⟨hg,hc _ _ h0,hc _ _ h1,hc _ _ h2⟩
theorem ztc{w:World}{base:Nat}{e:TypeId}{size g n cap m:Nat}{xs:List Value}(h:w.ownsRow base e size (.slice (some ⟨g,0,none⟩) n cap) m xs):∃ cur,w.heap[g]?=some (.cells cur e (0,0)):=by
 obtain⟨_,⟨hv,_⟩|⟨g',cap',cur,hv,_,hh,_⟩⟩:=h
 ·cases hv
 ·simp at hv;obtain⟨rfl,_⟩:=hv;exact⟨cur,hh⟩
def Copies(lo:Nat)(w:World)(ls:List zbv)(gs:List Nat):Prop:=gs.length=ls.length/\gs.Pairwise (· < ·)/\∀ k (h1:k < ls.length) (h2:k < gs.length),lo<=gs[k]/\SIn lo w (.slice (some ⟨gs[k],0,none⟩) ls[k].args.length ls[k].args.length) ls[k].args
theorem Copies.nil(w:World):Copies lo w [] []:=⟨rfl,List.Pairwise.nil,fun k h1=>by simp at h1⟩
theorem Copies.mono{w w':World}{ls:List zbv}{gs:List Nat}(h:Copies lo w ls gs)(hm:∀ v l,SIn lo w v l->SIn lo w' v l):Copies lo w' ls gs:=⟨h.1,h.2.1,fun k h1 h2=>⟨(h.2.2 k h1 h2).1,hm _ _ (h.2.2 k h1 h2).2⟩⟩
theorem Copies.lt{w:World}{ls:List zbv}{gs:List Nat}(h:Copies lo w ls gs):∀ g∈gs,g < w.heap.size:=by
 intro g hg
 obtain⟨k,hk,rfl⟩:=List.getElem_of_mem hg
 obtain⟨cur,hh⟩:=ztc (h.2.2 k (by have:=h.1;omega) hk).2
 exact(Array.getElem?_eq_some_iff.1 hh).1
theorem Copies.snoc{w:World}{ls:List zbv}{gs:List Nat}{l:zbv}{g:Nat}(h:Copies lo w ls gs)(hlt:∀ x∈gs,x < g)(hg:lo<=g)(hs:SIn lo w (.slice (some ⟨g,0,none⟩) l.args.length l.args.length) l.args):Copies lo w (ls++[l]) (gs++[g]):=by
 obtain⟨h1,h2,h3⟩:=h
 refine⟨by simp[h1],?_,?_⟩
 ·rw[List.pairwise_append]
  exact⟨h2,List.pairwise_singleton _ _,fun a ha b hb=>by simp at hb;subst hb;exact hlt a ha⟩
 ·intro k hk1 hk2
  simp at hk1
  by_cases hk:k < ls.length
  ·have:=h3 k hk (by omega)
   simpa [List.getElem_append,hk,h1] using this
  ·obtain rfl:k=ls.length:=by omega
   have e1:(ls++[l])[ls.length]=l:=by simp
   have e2:(gs++[g])[ls.length]=g:=by simp[← h1]
   rw[e1,e2]
   exact⟨hg,hs⟩
structure zao (M:List Nat) (w w':World):Prop where
 os:w'.os=w.os
 tape:w'.tape=w.tape
 output:w'.output=w.output
 size:w.heap.size<=w'.heap.size
 block:∀ k,k < w.heap.size->k∉M->w'.heap[k]?=w.heap[k]?
theorem zao.refl(M:List Nat)(w:World):zao M w w:=⟨rfl,rfl,rfl,Nat.le_refl _,fun _ _ _=>rfl⟩
theorem zao.of{M:List Nat}{w w':World}(h:Below w.heap.size w w'):zao M w w':=⟨h.os,h.tape,h.output,h.size,fun k hk _=>h.block k hk⟩
theorem zao.trans{M:List Nat}{a b c:World}(h:zao M a b)(k:zao M b c):zao M a c :=
 ⟨k.os.trans h.os,k.tape.trans h.tape,k.output.trans h.output,Nat.le_trans h.size k.size,fun x hx hn=>(k.block x (Nat.lt_of_lt_of_le hx h.size) hn).trans (h.block x hx hn)⟩
theorem zao.more{M N:List Nat}{w w':World}(h:zao M w w')(hs:∀ x∈M,x∈N):zao N w w':=⟨h.os,h.tape,h.output,h.size,fun k hk hn=>h.block k hk fun hm=>hn (hs k hm)⟩
theorem zao.newer{M N:List Nat}{a b c:World}(h:zao M a b)(k:zao N b c)(hn:∀ x∈N,x∈M∨a.heap.size<=x):zao M a c :=
 ⟨k.os.trans h.os,k.tape.trans h.tape,k.output.trans h.output,Nat.le_trans h.size k.size,fun x hx hm=>(k.block x (Nat.lt_of_lt_of_le hx h.size) fun hxn=>(hn x hxn).elim hm fun h2=>by omega).trans (h.block x hx hm)⟩
theorem zao.below{M:List Nat}{B:Nat}{w w':World}(h:zao M w w')(hM:∀ x∈M,B<=x)(hB:B<=w.heap.size):Below B w w' :=
 ⟨h.os,h.tape,h.output,h.size,fun k hk=>h.block k (by omega) fun hm=>by have:=hM k hm;omega⟩
theorem zbf{M:List Nat}{w w':World}{base:Nat}{e:TypeId}{size:Nat}{v:Value}{n:Nat}{xs:List Value}(h:w.ownsRow base e size v n xs)(hs:zao M w w')(hn:∀ b,v.ownBlock=some b->b∉M):w'.ownsRow base e size v n xs:=by
 obtain⟨h1,h2⟩:=h
 refine⟨h1,?_⟩
 rcases h2 with h2|⟨g,cap,cur,hv,hg,hh,rr⟩
 ·exact Or.inl h2
 ·refine Or.inr ⟨g,cap,cur,hv,hg,?_,rr⟩
  rw[hs.block g (Array.getElem?_eq_some_iff.1 hh).1 (hn g (by rw[hv];rfl))];exact hh
theorem Box.save{M:List Nat}{w w':World}{b:Nat}{c:Array Value}{T:TypeId}(h:Box w b c T)(hs:zao M w w')(hn:b∉M):Box w' b c T:=by
 have:=h.lt;unfold Box at *;rw[hs.block b this hn];exact h
section
variable {P:Program} {ops:Array Oper} {rest:List Oper} {o:Oper} {a:Act} {Q:Exit->Act->World->Prop}
theorem zca(wO w0:World)(l:List Value)(te:TypeId)(hg:o.guard=none)(s x:Operand)(t:TypeId)
  (ho:o.op=.call { callee:=.builtin .append,args:=#[s,x],argTypes:=#[t,t] })
  (base:Nat) (e:TypeId) (i:TypeInfo) (z:Value) (size bytes:Nat) (ht:P.underlying t=some (.slice e)) (hi:P.info? e=some i) (hz:i.zero=some z)
  (hsize:i.size=size) (hby:i.bytes=bytes) (hzs:z.cells.size=size) (hsz:0 < size)
  (v:Value) (n:Nat) (xs:List Value) (hs:a.eval s=v) (hown:wO.ownsRow base e size v n xs) (hbO:Below wO.heap.size wO w0)
  (b c:Nat) (hx:a.eval x=.slice (some ⟨b,0,none⟩) 1 c) (hb:b=w0.heap.size) (hl:l.length=size) (h1:∀ u∈l,u.oneCell'=true)
  (hn:n<=10000000000) (hbytes:bytes<=1000) (hbase:base<=wO.heap.size)
  (h:∀ v' w',w'.ownsRow base e size v' (n+1) (xs++l)->zao v.ownBlock.toList wO w'->(v'.ownBlock=v.ownBlock∨∃ g,v'.ownBlock=some g/\wO.heap.size<=g)->wpList P ops Q rest (a.put o.dst v') w') :
  wpList P ops Q (o::rest) a (w0.alloc (.cells l.toArray te)):=by
 have hown':=zaa hown hbO
 have hsz0:=hbO.size
 subst hb
 refine wpList_append_own_at _ hg s x t ho base e i z size bytes ht hi hz hsize hby hzs hsz v n xs hs (hown'.alloc _) ⟨w0.heap.size,0,none⟩ 1 c l hx (by omega) ?_ h1 ?_ ?_ ?_ ?_
 ·intro j u hj
  rw[Addr.add_lit,Nat.zero_add,World.cell?_alloc_mark]
  simpa using hj
 ·unfold maxLen;omega
 ·have:(n+1) * bytes<=10000000001 * 1000:=Nat.mul_le_mul (by omega) hbytes
  omega
 ·simp;omega
 ·intro v' w' h2 hgr _ hat
  refine h v' w' h2 ⟨hgr.os.trans hbO.os,hgr.tape.trans hbO.tape,hgr.output.trans hbO.output,?_,fun k hk hm=>?_⟩ ?_
  ·have:=hgr.size;simp at this;omega
  ·rw[hgr.block k (by simp;omega) (fun e=>hm (by rw[← e];simp))]
   rw[show(w0.alloc (.cells l.toArray te)).heap[k]?=w0.heap[k]? from Below.heap_alloc _ _ _ (by omega)]
   exact hbO.block k hk
  ·rcases hat with h3|h3
   ·exact Or.inl h3
   ·exact Or.inr ⟨_,h3,by simp;omega⟩
end
theorem zdk{w:World}{base:Nat}{e:TypeId}{size:Nat}{v:Value}{n:Nat}{xs:List Value}(h:w.ownsRow base e size v n xs){b:Nat}(hb:v.ownBlock=some b):b < w.heap.size:=by
 obtain⟨_,⟨hv,_⟩|⟨g,cap,cur,hv,_,hh,_⟩⟩:=h
 ·subst hv;cases hb
 ·subst hv;simp only[Value.ownBlock,Option.some.injEq] at hb;subst hb;exact(Array.getElem?_eq_some_iff.1 hh).1
theorem zao.set(w:World)(b o:Nat)(u:Value):zao [b] w (w.setCell ⟨b,o,none⟩ u) :=
 ⟨rfl,rfl,rfl,by simp[World.setCell],fun k _ hn=>Below.heap_setCell _ _ _ _ (by simp at hn;exact hn)⟩
theorem zc1{v:Value}{b:Nat}(h:b∈v.ownBlock.toList):v.ownBlock=some b:=by simpa using h
theorem zdm{w:World}{base:Nat}{e T:TypeId}{size:Nat}{v:Value}{n:Nat}{xs:List Value}(h:w.ownsRow base e size v n xs){b:Nat}{c:Array Value}(hb:Box w b c T)(hT:e≠T):b∉v.ownBlock.toList:=by
 intro hm
 have:=zfr h hb hT
 exact this (by simpa [eq_comm] using hm)
def sl(g n:Nat):Value:=.slice (some ⟨g,0,none⟩) n n
theorem zi1{w:World}{b1 b2:Nat}{e1 e2:TypeId}{s1 s2:Nat}{v1 v2:Value}{n1 n2:Nat}{xs1 xs2:List Value}(h1:w.ownsRow b1 e1 s1 v1 n1 xs1)(h2:w.ownsRow b2 e2 s2 v2 n2 xs2)(hT:e1≠e2){b:Nat}(hb:v1.ownBlock=some b):v2.ownBlock≠some b:=by
 intro hb2
 obtain⟨_,⟨hv,_⟩|⟨g,cap,cur,hv,_,hh,_⟩⟩:=h1
 ·subst hv;cases hb
 ·obtain⟨_,⟨hv2,_⟩|⟨g2,cap2,cur2,hv2,_,hh2,_⟩⟩:=h2
  ·subst hv2;cases hb2
  ·subst hv;subst hv2
   simp only[Value.ownBlock,Option.some.injEq] at hb hb2
   subst hb;subst hb2
   rw[hh] at hh2
   simp at hh2
   exact hT hh2.2
theorem zbk{w:World}{b1:Nat}{e T:TypeId}{s1:Nat}{v1:Value}{n1:Nat}{xs1:List Value}(h1:w.ownsRow b1 e s1 v1 n1 xs1){wb:Nat}{c:Array Value}(h2:Box w wb c T)(hT:e≠T){b:Nat}(hb:v1.ownBlock=some b):b≠wb:=by
 rintro rfl
 exact zfr h1 h2 hT hb.symm
theorem zej{w:World}{base:Nat}{e:TypeId}{size:Nat}{v:Value}{n:Nat}{xs:List Value}(h:w.ownsRow base e size v n xs){b:Nat}(hb:v.ownBlock=some b):base<=b:=by
 obtain⟨_,⟨hv,_⟩|⟨g,cap,cur,hv,hg,_,_⟩⟩:=h
 ·subst hv;cases hb
 ·subst hv;simp only[Value.ownBlock,Option.some.injEq] at hb;omega
theorem z4k{α:Type}{f:α->Nat}{l:List α}(h:(l.map f).Nodup){i j:Nat}(hi:i < l.length)(hj:j < l.length)(hne:i≠j):f l[i]≠f l[j]:=by
 intro e
 have:=(List.getElem_inj (h₀:=by simpa using hi) (h₁:=by simpa using hj) h).1 (by simpa using e)
 exact hne this
theorem Tryz.infoInt:(Tryz.prog.info? 3).map (fun i=>(i.zero,i.size,i.bytes))=some (some (.int .i64 0),1,8):=by kernel_rfl
def ivN(s:Nat):Value:=.int .i64 (s:Int)
theorem z4n(w:World)(n:Nat)(T:TypeId)(hn:n<=maxLen):(w.alloc (.cells (madeCells #[.int .i64 0] n) T)).ownsRow w.heap.size T 1 (.slice (some ⟨w.heap.size,0,none⟩) n n) n ((List.replicate n 0).map ivN):=by
 refine⟨by simp,Or.inr ⟨w.heap.size,n,madeCells #[.int .i64 0] n,rfl,Nat.le_refl _,?_,Nat.le_refl _,hn,by rw[size_madeCells];omega,?_⟩⟩
 ·show(w.heap.push _)[w.heap.size]?=_
  simp
 ·apply List.ext_getElem?
  intro i
  by_cases hi:i < n
  ·simp[hi,madeCells,ivN,Nat.mod_one]
  ·simp[List.getElem?_take,hi]
end Go.Proofs.YteampbddflhngabGreat
