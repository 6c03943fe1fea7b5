import Derived.Test.YteampbddflhngaaGreatB08
import Derived.Deep.OwnRows
import Derived.Deep.RegionWith
import Derived.Laws.CopyOwn
import Derived.Maps.AppendAt

namespace Go.Proofs.YteampbddflhngaaGreat
set_option maxRecDepth 100000
set_option maxHeartbeats 1000000
open Go.RowKit
variable {lo:Nat}
def litW (l:PLit):Nat:=l.args.length+1
def sumW (ls:List PLit):Nat:=ls.foldr (fun l n=>litW l+n) 0
def clW (c:PClause):Nat:=litW c.head+sumW c.body
def prW (cs:List PClause):Nat:=cs.foldr (fun c n=>clW c+n) 0
theorem pTerms_w:∀ (r:List Tok) {ts:List ByteArray} {r2:List Tok},pTerms r=some (ts,r2)->ts.length+r2.length<=r.length
  | [],_,_,h=>by simp [pTerms] at h
  | [x],ts,r2,h=>by
    simp only [pTerms] at h
    split at h <;> simp at h
    obtain ⟨rfl,rfl⟩:=h;simp
  | x::y::r,ts,r2,h=>by
    simp only [pTerms] at h
    split at h
    · split at h
      · cases hq:pTerms r with
        | none=>rw [hq] at h;simp at h
        | some z =>
          obtain ⟨ts',r'⟩:=z
          rw [hq] at h;simp at h
          have:=pTerms_w r hq
          obtain ⟨rfl,rfl⟩:=h;simp;omega
      · simp at h;obtain ⟨rfl,rfl⟩:=h;simp;omega
    · simp at h
theorem pAtom_w {r r2:List Tok} {a:PLit} (h:pAtom r=some (a,r2)):litW a+r2.length<=r.length:=by
  cases r with
  | nil=>simp [pAtom,hdK] at h
  | cons x r =>
    unfold pAtom at h
    split at h
    · split at h
      · split at h
        · simp at h
        · rename_i ts r3 hq
          have:=pTerms_w _ hq
          split at h <;> simp at h
          obtain ⟨rfl,rfl⟩:=h;simp [litW] at this ⊢;omega
      · simp at h;obtain ⟨rfl,rfl⟩:=h;simp [litW];omega
    · simp at h
theorem pLit_w {r r2:List Tok} {a:PLit} (h:pLit r=some (a,r2)):litW a+r2.length<=r.length:=by
  unfold pLit at h
  split at h
  · cases hq:pAtom r.tail with
    | none=>rw [hq] at h;simp at h
    | some z =>
      obtain ⟨a',r'⟩:=z
      rw [hq] at h;simp at h
      have:=pAtom_w hq
      obtain ⟨rfl,rfl⟩:=h;simp [litW] at this ⊢;omega
  · exact pAtom_w h
theorem pBody_w {n:Nat}:∀ {r r2:List Tok} {b:List PLit},pBody n r=some (b,r2)->sumW b+r2.length<=r.length:=by
  induction n with
  | zero=>intro r r2 b h;simp [pBody] at h
  | succ n ih =>
    intro r r2 b h
    cases hl:pLit r with
    | none=>rw [pBody_no hl] at h;cases h
    | some z =>
      obtain ⟨a,r3⟩:=z
      have:=pLit_w hl
      by_cases h6:hdK r3=6
      · rw [pBody_more hl h6] at h
        cases hq:pBody n r3.tail with
        | none=>rw [hq] at h;simp at h
        | some z =>
          obtain ⟨b',r'⟩:=z
          rw [hq] at h;simp at h
          have:=ih hq
          obtain ⟨rfl,rfl⟩:=h;simp [sumW] at this ⊢;omega
      · rw [pBody_stop hl h6] at h;simp at h;obtain ⟨rfl,rfl⟩:=h;simp [sumW];omega
theorem pClause_w {n:Nat} {r r2:List Tok} {c:PClause} (h:pClause n r=some (c,r2)):clW c+r2.length<=r.length:=by
  unfold pClause at h
  split at h
  · cases h
  · rename_i a r1 ha
    have:=pAtom_w ha
    split at h
    · split at h
      · cases h
      · rename_i b r3 hb
        have:=pBody_w hb
        split at h <;> simp at h
        obtain ⟨rfl,rfl⟩:=h;simp [clW] at this ⊢;omega
    · split at h <;> simp at h
      obtain ⟨rfl,rfl⟩:=h;simp [clW,sumW];omega
theorem pProg_w {n0:Nat}:∀ {m:Nat} {r:List Tok} {cs:List PClause},pProg n0 m r=some cs->prW cs<=r.length
  | _,[],cs,h=>by simp [pProg] at h;subst h;simp [prW]
  | 0,_::_,cs,h=>by simp [pProg] at h
  | m+1,x::r,cs,h=>by
    cases hc:pClause n0 (x::r) with
    | none=>rw [pProg_no (by simp) hc] at h;cases h
    | some z =>
      obtain ⟨c,r2⟩:=z
      rw [pProg_yes (by simp) hc] at h
      cases hq:pProg n0 m r2 with
      | none=>rw [hq] at h;simp at h
      | some cs' =>
        rw [hq] at h;simp at h;subst h
        have h1:=pClause_w hc
        have h2:=pProg_w hq
        simp only [prW,List.foldr_cons,List.length_cons] at h1 h2 ⊢;omega
theorem sumW_args (ls:List PLit):sumArgs ls+ls.length=sumW ls:=by
  induction ls with
  | nil=>rfl
  | cons a ls ih=>simp [sumArgs,sumW,litW] at ih ⊢;omega
theorem prW_mem {cs:List PClause} {c:PClause} (h:c∈cs):clW c<=prW cs:=by
  induction cs with
  | nil=>cases h
  | cons a cs ih =>
    rcases List.mem_cons.1 h with rfl | h
    · simp [prW]
    · have:=ih h;simp [prW] at this ⊢;omega
theorem prW_lits (cs:List PClause):(cs.flatMap litsOf).length<=prW cs:=by
  induction cs with
  | nil=>simp
  | cons a cs ih=>have:=sumW_args a.body;simp [prW,clW,litsOf,litW] at ih ⊢;omega
theorem prW_len (cs:List PClause):cs.length<=prW cs:=by
  induction cs with
  | nil=>simp
  | cons a cs ih=>simp [prW,clW,litW] at ih ⊢;omega
theorem prW_ok {cs:List PClause} (h:prW cs<=1000):∀ c∈cs,ClOK c:=fun c hc=>by
  have h1:=prW_mem hc
  have h2:=sumW_args c.body
  unfold clW litW at h1
  exact ⟨by omega,by omega⟩
theorem splitN_len:∀ (n:Nat) (s:ByteArray) (i:Nat) (l:List (Int × ByteArray)),splitN n s i=some l->l.length<=s.size - i
  | 0,_,_,l,h=>by simp [splitN] at h;subst h;simp
  | n+1,s,i,l,h=>by
    unfold splitN at h
    split at h
    · rename_i hi
      split at h
      · have:=splitN_len n s (i+1) l h;omega
      · split at h
        · cases h
        · rename_i hk
          split at h
          · cases h
          · cases hq:splitN n s (endB s i (kindB (bAt s i) (bAt s (i+1)))) with
            | none=>rw [hq] at h;simp at h
            | some l' =>
              rw [hq] at h;simp at h;subst h
              have:=splitN_len n s _ l' hq
              have:=endB_gt s i _ hi rfl hk
              simp;omega
    · simp at h;subst h;simp
theorem splitB_len {s:ByteArray} {l:List Tok} (h:splitB s=some l):l.length<=s.size:=by have:=splitN_len _ s 0 l h;omega
def compB (s:ByteArray):Except Int (List PClause × List PEnt) :=
  if 500 < s.size then .error 1 else
  match splitB s with
  | none=>.error 2
  | some l =>
    match pProg l.length l.length l with
    | none=>.error 3
    | some cs =>
      if cs.any manyC then .error 4 else
      match collB cs with
      | none=>.error 5
      | some t =>
        if cs.all safeC then
          if (stratN (t.length+1) t cs).2 then .ok (cs,(stratN (t.length+1) t cs).1) else .error 7
        else .error 6
def CompPost (o:Except Int (List PClause × List PEnt)) (w:World) (e:Ending) (w':World):Prop :=
  Below w.heap.size w w'/\match o with
    | .error n=>e=.returned (.tuple #[.pointer none,.int .i64 n])
    | .ok (cs,t)=>∃ pb v pv,e=.returned (.tuple #[.pointer (some ⟨pb,0,none⟩),.int .i64 0])/\Box w' pb #[v,pv] 131/\CIn w.heap.size 171 w' v cs/\w'.ownsRow w.heap.size 221 3 pv t.length (pcells t)/\w.heap.size<=pb
theorem split_no (s:ByteArray) (w:World) (hs:s.size<=500) (h:splitB s=none):Calls Tryz.prog 59 #[.string s] w fun e w'=>e=.returned (.tuple #[.slice none 0 0,.bool false])/\Below w.heap.size w w':=by
  refine (split_any s w hs).mono ?_
  rintro e w' ⟨h1,h2⟩
  rw [h] at h2
  exact ⟨h2,h1⟩
theorem split_yes (s:ByteArray) (w:World) (l:List Tok) (hs:s.size<=500) (h:splitB s=some l):Calls Tryz.prog 59 #[.string s] w fun e w'=>∃ v,e=.returned (.tuple #[v,.bool true])/\w'.ownsRow w.heap.size 182 2 v l.length (wcells l)/\l.length<=500/\Below w.heap.size w w':=by
  refine (split_any s w hs).mono ?_
  rintro e w' ⟨h1,h2⟩
  rw [h] at h2
  obtain ⟨v,a,b,c⟩:=h2
  exact ⟨v,a,b,by omega,h1⟩
theorem parse_no (w:World) (wv:Value) (l:List Tok) (base:Nat) (hw:w.ownsRow base 182 2 wv l.length (wcells l)) (hl:l.length<=500) (h:pProg l.length l.length l=none) :
    Calls Tryz.prog 60 #[wv] w fun e w'=>e=.returned (.tuple #[.slice none 0 0,.bool false])/\Below w.heap.size w w':=by
  refine (parse_any w wv l base hw hl).mono ?_
  rintro e w' ⟨h1,h2⟩
  rw [h] at h2
  exact ⟨h2,h1⟩
theorem parse_yes (w:World) (wv:Value) (l:List Tok) (base:Nat) (cs:List PClause) (hw:w.ownsRow base 182 2 wv l.length (wcells l)) (hl:l.length<=500) (h:pProg l.length l.length l=some cs) :
    Calls Tryz.prog 60 #[wv] w fun e w'=>∃ v,e=.returned (.tuple #[v,.bool true])/\CIn w.heap.size 171 w' v cs/\Below w.heap.size w w':=by
  refine (parse_any w wv l base hw hl).mono ?_
  rintro e w' ⟨h1,h2⟩
  rw [h] at h2
  obtain ⟨v,a,b⟩:=h2
  exact ⟨v,a,b,h1⟩
theorem collect_no (w:World) (v:Value) (cs:List PClause) (hcs:CIn lo 171 w v cs) (hN:(cs.flatMap litsOf).length<=1000) (h:collB cs=none) :
    Calls Tryz.prog 62 #[v] w fun e w'=>e=.returned (.tuple #[.agg #[.slice none 0 0],.bool false])/\Below w.heap.size w w':=by
  refine (collect_any w v cs hcs hN).mono ?_
  rintro e w' ⟨h1,h2⟩
  rw [h] at h2
  exact ⟨h2,h1⟩
theorem collect_yes (w:World) (v:Value) (cs:List PClause) (t:List PEnt) (hcs:CIn lo 171 w v cs) (hN:(cs.flatMap litsOf).length<=1000) (h:collB cs=some t) :
    Calls Tryz.prog 62 #[v] w fun e w'=>∃ pv,e=.returned (.tuple #[.agg #[pv],.bool true])/\w'.ownsRow w.heap.size 221 3 pv t.length (pcells t)/\Below w.heap.size w w':=by
  refine (collect_any w v cs hcs hN).mono ?_
  rintro e w' ⟨h1,h2⟩
  rw [h] at h2
  obtain ⟨v,a,b⟩:=h2
  exact ⟨v,a,b,h1⟩
theorem compile_long (s:ByteArray) (w:World) (hs:500 < s.size) (hs2:s.size<=9223372036854775807) :
    Calls Tryz.prog 32 #[.string s] w fun e w'=>CompPost (.error 1) w e w':=by
  go_enter Tryz.func32,Tryz.ntmps32
  go_wp2
  go_ret2
  exact ⟨Below.refl _ _,rfl⟩
theorem compile_2 (s:ByteArray) (w:World) (hs:s.size<=500) (hS:splitB s=none) :
    Calls Tryz.prog 32 #[.string s] w fun e w'=>CompPost (.error 2) w e w':=by
  have HS:Hid (splitB s=none):=hS
  clear hS
  go_enter Tryz.func32,Tryz.ntmps32
  go_wp2_with (first | (go_at_call 59;refine (split_no s _ hs HS).mono ?_;rintro e w1 ⟨rfl,hb1⟩))
  go_ret2
  exact ⟨hb1,rfl⟩
theorem compile_3 (s:ByteArray) (w:World) (hs:s.size<=500) (l:List Tok) (hS:splitB s=some l) (hP:pProg l.length l.length l=none) :
    Calls Tryz.prog 32 #[.string s] w fun e w'=>CompPost (.error 3) w e w':=by
  have HS:Hid (splitB s=some l):=hS
  have HP:Hid (pProg l.length l.length l=none):=hP
  clear hS hP
  go_enter Tryz.func32,Tryz.ntmps32
  go_wp2_with (first | (go_at_call 59;refine (split_yes s _ l hs HS).mono ?_;rintro e w1 ⟨fv,rfl,hown,hll,hb1⟩;obtain ⟨aof,capf,rfl⟩:=own_view hown) | (go_at_call 60;refine (parse_no _ _ l _ hown hll HP).mono ?_;rintro e w2 ⟨rfl,hb2⟩;have hB2:=bnext hb1 hb2 (Nat.le_refl _)))
  go_ret2
  exact ⟨hB2,rfl⟩
theorem compile_4 (s:ByteArray) (w:World) (hs:s.size<=500) (l:List Tok) (cs:List PClause) (hm:cs.any manyC=true) (hS:splitB s=some l) (hP:pProg l.length l.length l=some cs) (hok:∀ c∈cs,ClOK c) (hlen:cs.length<=1000) :
    Calls Tryz.prog 32 #[.string s] w fun e w'=>CompPost (.error 4) w e w':=by
  have HS:Hid (splitB s=some l):=hS
  have HP:Hid (pProg l.length l.length l=some cs):=hP
  have HOK:Hid (∀ c∈cs,ClOK c):=hok
  have HLEN:Hid (cs.length<=1000):=hlen
  clear hS hP hok hlen
  go_enter Tryz.func32,Tryz.ntmps32
  go_wp2_with (first | (go_at_call 59;refine (split_yes s _ l hs HS).mono ?_;rintro e w1 ⟨fv,rfl,hown,hll,hb1⟩;obtain ⟨aof,capf,rfl⟩:=own_view hown) | (go_at_call 60;refine (parse_yes _ _ l _ cs hown hll HP).mono ?_;rintro e w2 ⟨cv,rfl,hcin,hb2⟩;obtain ⟨aoc,capc,rfl⟩:=hcin.shape;have hB2:=bnext hb1 hb2 (Nat.le_refl _)) | (go_at_call 61;refine (many_any _ _ cs hcin HOK.out HLEN.out).mono ?_;rintro e w3 ⟨rfl,hb3⟩;have hB3:=bnext hB2 hb3 (Nat.le_refl _);have hcin3:=hcin.below hb3))
  go_ret2
  exact ⟨hB3,rfl⟩
theorem compile_5 (s:ByteArray) (w:World) (hs:s.size<=500) (l:List Tok) (cs:List PClause) (hm:cs.any manyC=false) (hS:splitB s=some l) (hP:pProg l.length l.length l=some cs) (hok:∀ c∈cs,ClOK c) (hlen:cs.length<=1000) (hlits:(cs.flatMap litsOf).length<=1000) (hC:collB cs=none) :
    Calls Tryz.prog 32 #[.string s] w fun e w'=>CompPost (.error 5) w e w':=by
  have HS:Hid (splitB s=some l):=hS
  have HP:Hid (pProg l.length l.length l=some cs):=hP
  have HOK:Hid (∀ c∈cs,ClOK c):=hok
  have HLEN:Hid (cs.length<=1000):=hlen
  have HLITS:Hid ((cs.flatMap litsOf).length<=1000):=hlits
  have HC:Hid (collB cs=none):=hC
  clear hS hP hok hlen hlits hC
  go_enter Tryz.func32,Tryz.ntmps32
  go_wp2_with (first | (go_at_call 59;refine (split_yes s _ l hs HS).mono ?_;rintro e w1 ⟨fv,rfl,hown,hll,hb1⟩;obtain ⟨aof,capf,rfl⟩:=own_view hown) | (go_at_call 60;refine (parse_yes _ _ l _ cs hown hll HP).mono ?_;rintro e w2 ⟨cv,rfl,hcin,hb2⟩;obtain ⟨aoc,capc,rfl⟩:=hcin.shape;have hB2:=bnext hb1 hb2 (Nat.le_refl _)) | (go_at_call 61;refine (many_any _ _ cs hcin HOK.out HLEN.out).mono ?_;rintro e w3 ⟨rfl,hb3⟩;have hB3:=bnext hB2 hb3 (Nat.le_refl _);have hcin3:=hcin.below hb3) | (go_at_call 62;refine (collect_no _ _ cs hcin3 HLITS.out HC).mono ?_;rintro e w4 ⟨rfl,hb4⟩;have hB4:=bnext hB3 hb4 (Nat.le_refl _);have hz4:=hB4.size))
  go_ret2
  exact ⟨(by repeat' (first | with_reducible (first | exact Below.refl _ _ | assumption | refine bdrewN ?_ _ | refine Below.alloc ?_ ?_ _ | refine Below.drew ?_ | refine Below.setCell ?_ ?_ _) | go_size)),rfl⟩
theorem compile_6 (s:ByteArray) (w:World) (hs:s.size<=500) (l:List Tok) (cs:List PClause) (t:List PEnt) (hm:cs.any manyC=false) (hsf:cs.all safeC=false) (hS:splitB s=some l) (hP:pProg l.length l.length l=some cs) (hok:∀ c∈cs,ClOK c) (hlen:cs.length<=1000) (hlits:(cs.flatMap litsOf).length<=1000) (hC:collB cs=some t) :
    Calls Tryz.prog 32 #[.string s] w fun e w'=>CompPost (.error 6) w e w':=by
  have HS:Hid (splitB s=some l):=hS
  have HP:Hid (pProg l.length l.length l=some cs):=hP
  have HOK:Hid (∀ c∈cs,ClOK c):=hok
  have HLEN:Hid (cs.length<=1000):=hlen
  have HLITS:Hid ((cs.flatMap litsOf).length<=1000):=hlits
  have HC:Hid (collB cs=some t):=hC
  clear hS hP hok hlen hlits hC
  go_enter Tryz.func32,Tryz.ntmps32
  go_wp2_with (first | (go_at_call 59;refine (split_yes s _ l hs HS).mono ?_;rintro e w1 ⟨fv,rfl,hown,hll,hb1⟩;obtain ⟨aof,capf,rfl⟩:=own_view hown) | (go_at_call 60;refine (parse_yes _ _ l _ cs hown hll HP).mono ?_;rintro e w2 ⟨cv,rfl,hcin,hb2⟩;obtain ⟨aoc,capc,rfl⟩:=hcin.shape;have hB2:=bnext hb1 hb2 (Nat.le_refl _)) | (go_at_call 61;refine (many_any _ _ cs hcin HOK.out HLEN.out).mono ?_;rintro e w3 ⟨rfl,hb3⟩;have hB3:=bnext hB2 hb3 (Nat.le_refl _);have hcin3:=hcin.below hb3) | (go_at_call 62;refine (collect_yes _ _ cs t hcin3 HLITS.out HC).mono ?_;rintro e w4 ⟨pv,rfl,hpo,hb4⟩;obtain ⟨aop,capp,rfl⟩:=own_view hpo;have hB4:=bnext hB3 hb4 (Nat.le_refl _);have hz4:=hB4.size;have hcin4:=hcin3.below hb4) | (go_at_call 63;refine (safe_any _ _ cs (by exact hcin4.below (by repeat' (first | with_reducible (first | exact Below.refl _ _ | assumption | refine bdrewN ?_ _ | refine Below.alloc ?_ ?_ _ | refine Below.drew ?_ | refine Below.setCell ?_ ?_ _) | go_size))) HOK.out HLEN.out).mono ?_;rintro e w5 ⟨rfl,hb5⟩;have hq5:=(Below.refl w4.heap.size w4).alloc (Nat.le_refl _) (.cells #[.slice aop t.length capp] 127);have hbb5:=bnext hq5 hb5 (Nat.le_refl _);have hB5:=bnext hB4 hbb5 (Nat.le_refl _)))
  go_ret2
  exact ⟨hB5,rfl⟩
theorem compile_7 (s:ByteArray) (w:World) (hs:s.size<=500) (l:List Tok) (cs:List PClause) (t:List PEnt) (hm:cs.any manyC=false) (hsf:cs.all safeC=true) (hst:(stratN (t.length+1) t cs).2=false) (hS:splitB s=some l) (hP:pProg l.length l.length l=some cs) (hok:∀ c∈cs,ClOK c) (hlen:cs.length<=1000) (hlits:(cs.flatMap litsOf).length<=1000) (hC:collB cs=some t) (htl:t.length<=1000) (htz:∀ e∈t,e.stratum<=0) :
    Calls Tryz.prog 32 #[.string s] w fun e w'=>CompPost (.error 7) w e w':=by
  have HS:Hid (splitB s=some l):=hS
  have HP:Hid (pProg l.length l.length l=some cs):=hP
  have HOK:Hid (∀ c∈cs,ClOK c):=hok
  have HLEN:Hid (cs.length<=1000):=hlen
  have HLITS:Hid ((cs.flatMap litsOf).length<=1000):=hlits
  have HC:Hid (collB cs=some t):=hC
  have HTL:Hid (t.length<=1000):=htl
  have HTZ:Hid (∀ e∈t,e.stratum<=0):=htz
  clear hS hP hok hlen hlits hC htl htz
  go_enter Tryz.func32,Tryz.ntmps32
  go_wp2_with (first | (go_at_call 59;refine (split_yes s _ l hs HS).mono ?_;rintro e w1 ⟨fv,rfl,hown,hll,hb1⟩;obtain ⟨aof,capf,rfl⟩:=own_view hown) | (go_at_call 60;refine (parse_yes _ _ l _ cs hown hll HP).mono ?_;rintro e w2 ⟨cv,rfl,hcin,hb2⟩;obtain ⟨aoc,capc,rfl⟩:=hcin.shape;have hB2:=bnext hb1 hb2 (Nat.le_refl _)) | (go_at_call 61;refine (many_any _ _ cs hcin HOK.out HLEN.out).mono ?_;rintro e w3 ⟨rfl,hb3⟩;have hB3:=bnext hB2 hb3 (Nat.le_refl _);have hcin3:=hcin.below hb3) | (go_at_call 62;refine (collect_yes _ _ cs t hcin3 HLITS.out HC).mono ?_;rintro e w4 ⟨pv,rfl,hpo,hb4⟩;obtain ⟨aop,capp,rfl⟩:=own_view hpo;have hB4:=bnext hB3 hb4 (Nat.le_refl _);have hz4:=hB4.size;have hcin4:=hcin3.below hb4) | (go_at_call 63;refine (safe_any _ _ cs (by exact hcin4.below (by repeat' (first | with_reducible (first | exact Below.refl _ _ | assumption | refine bdrewN ?_ _ | refine Below.alloc ?_ ?_ _ | refine Below.drew ?_ | refine Below.setCell ?_ ?_ _) | go_size))) HOK.out HLEN.out).mono ?_;rintro e w5 ⟨rfl,hb5⟩;have hq5:=(Below.refl w4.heap.size w4).alloc (Nat.le_refl _) (.cells #[.slice aop t.length capp] 127);have hbb5:=bnext hq5 hb5 (Nat.le_refl _);have hB5:=bnext hB4 hbb5 (Nat.le_refl _)) | (go_at_call 64;refine (stratify_any w3.heap.size _ w4.heap.size t _ cs w3 rfl (bnext hb4 hbb5 (Nat.le_refl _)) hcin3 HOK.out HLEN.out ⟨_,(Box.new w4 _ _).below hb5,owns_below hpo hbb5⟩ HTL.out HTZ.out).mono ?_;rintro e w6 ⟨rfl,hta6,hb6⟩;obtain ⟨ao6,cap6,hbx6,hown6⟩:=hta6.view;obtain ⟨hc6,hf6⟩:=hbx6.rules;have hB6:Below w.heap.size w w6:=hB5.trans (hb6.mono (Nat.le_trans hB3.size (Nat.le_refl _)));have hz6:=hbx6.lt))
  go_ret2
  exact ⟨hB6,rfl⟩
theorem compile_0 (s:ByteArray) (w:World) (hs:s.size<=500) (l:List Tok) (cs:List PClause) (t:List PEnt) (hm:cs.any manyC=false) (hsf:cs.all safeC=true) (hst:(stratN (t.length+1) t cs).2=true) (hS:splitB s=some l) (hP:pProg l.length l.length l=some cs) (hok:∀ c∈cs,ClOK c) (hlen:cs.length<=1000) (hlits:(cs.flatMap litsOf).length<=1000) (hC:collB cs=some t) (htl:t.length<=1000) (htz:∀ e∈t,e.stratum<=0) :
    Calls Tryz.prog 32 #[.string s] w fun e w'=>CompPost (.ok (cs,(stratN (t.length+1) t cs).1)) w e w':=by
  have HS:Hid (splitB s=some l):=hS
  have HP:Hid (pProg l.length l.length l=some cs):=hP
  have HOK:Hid (∀ c∈cs,ClOK c):=hok
  have HLEN:Hid (cs.length<=1000):=hlen
  have HLITS:Hid ((cs.flatMap litsOf).length<=1000):=hlits
  have HC:Hid (collB cs=some t):=hC
  have HTL:Hid (t.length<=1000):=htl
  have HTZ:Hid (∀ e∈t,e.stratum<=0):=htz
  clear hS hP hok hlen hlits hC htl htz
  go_enter Tryz.func32,Tryz.ntmps32
  go_wp2_with (first | (go_at_call 59;refine (split_yes s _ l hs HS).mono ?_;rintro e w1 ⟨fv,rfl,hown,hll,hb1⟩;obtain ⟨aof,capf,rfl⟩:=own_view hown) | (go_at_call 60;refine (parse_yes _ _ l _ cs hown hll HP).mono ?_;rintro e w2 ⟨cv,rfl,hcin,hb2⟩;obtain ⟨aoc,capc,rfl⟩:=hcin.shape;have hB2:=bnext hb1 hb2 (Nat.le_refl _)) | (go_at_call 61;refine (many_any _ _ cs hcin HOK.out HLEN.out).mono ?_;rintro e w3 ⟨rfl,hb3⟩;have hB3:=bnext hB2 hb3 (Nat.le_refl _);have hcin3:=hcin.below hb3) | (go_at_call 62;refine (collect_yes _ _ cs t hcin3 HLITS.out HC).mono ?_;rintro e w4 ⟨pv,rfl,hpo,hb4⟩;obtain ⟨aop,capp,rfl⟩:=own_view hpo;have hB4:=bnext hB3 hb4 (Nat.le_refl _);have hz4:=hB4.size;have hcin4:=hcin3.below hb4) | (go_at_call 63;refine (safe_any _ _ cs (by exact hcin4.below (by repeat' (first | with_reducible (first | exact Below.refl _ _ | assumption | refine bdrewN ?_ _ | refine Below.alloc ?_ ?_ _ | refine Below.drew ?_ | refine Below.setCell ?_ ?_ _) | go_size))) HOK.out HLEN.out).mono ?_;rintro e w5 ⟨rfl,hb5⟩;have hq5:=(Below.refl w4.heap.size w4).alloc (Nat.le_refl _) (.cells #[.slice aop t.length capp] 127);have hbb5:=bnext hq5 hb5 (Nat.le_refl _);have hB5:=bnext hB4 hbb5 (Nat.le_refl _)) | (go_at_call 64;refine (stratify_any w3.heap.size _ w4.heap.size t _ cs w3 rfl (bnext hb4 hbb5 (Nat.le_refl _)) hcin3 HOK.out HLEN.out ⟨_,(Box.new w4 _ _).below hb5,owns_below hpo hbb5⟩ HTL.out HTZ.out).mono ?_;rintro e w6 ⟨rfl,hta6,hb6⟩;obtain ⟨ao6,cap6,hbx6,hown6⟩:=hta6.view;obtain ⟨hc6,hf6⟩:=hbx6.rules;have hB6:Below w.heap.size w w6:=hB5.trans (hb6.mono (Nat.le_trans hB3.size (Nat.le_refl _)));have hz6:=hbx6.lt))
  have hz66:=hB6.size
  have hcin6:=hcin3.below ((bnext hb4 hbb5 (Nat.le_refl _)).trans hb6)
  go_ret2
  exact ⟨(by repeat' (first | with_reducible (first | exact Below.refl _ _ | assumption | refine bdrewN ?_ _ | refine Below.alloc ?_ ?_ _ | refine Below.drew ?_ | refine Below.setCell ?_ ?_ _) | go_size)),w6.heap.size,_,_,rfl,Box.new _ _ _,(hcin6.low hb1.size).below ((Below.refl _ _).alloc (Nat.le_refl _) _),own_low (owns_below hown6 ((Below.refl _ _).alloc (Nat.le_refl _) _)) hB3.size,hz66⟩
theorem compile_any (s:ByteArray) (w:World) (hs2:s.size<=9223372036854775807) :
    Calls Tryz.prog 32 #[.string s] w fun e w'=>CompPost (compB s) w e w':=by
  unfold compB
  split
  · rename_i hs;exact compile_long s w hs hs2
  · rename_i hs
    have hs':s.size<=500:=by omega
    split
    · rename_i hS;exact compile_2 s w hs' hS
    · rename_i l hS
      split
      · rename_i hP;exact compile_3 s w hs' l hS hP
      · rename_i cs hP
        have hl:l.length<=500:=by
          have:=splitB_len hS;omega
        have hw:=pProg_w hP
        have hok:=prW_ok (cs:=cs) (by omega)
        have hlen:cs.length<=1000:=by have:=prW_len cs;omega
        have hlits:(cs.flatMap litsOf).length<=1000:=by have:=prW_lits cs;omega
        split
        · rename_i hm;exact compile_4 s w hs' l cs hm hS hP hok hlen
        · rename_i hm
          have hm':cs.any manyC=false:=by simpa using hm
          split
          · rename_i hC;exact compile_5 s w hs' l cs hm' hS hP hok hlen hlits hC
          · rename_i t hC
            have htl:t.length<=1000:=by have:=addO_len _ _ _ hC;simp only [List.length_nil] at this;omega
            have htz:∀ e∈t,e.stratum<=0:=addO_zero _ [] (by simp) t hC
            split
            · rename_i hsf
              split
              · rename_i hst;exact compile_0 s w hs' l cs t hm' hsf hst hS hP hok hlen hlits hC htl htz
              · rename_i hst;exact compile_7 s w hs' l cs t hm' hsf (by simpa using hst) hS hP hok hlen hlits hC htl htz
            · rename_i hsf;exact compile_6 s w hs' l cs t hm' (by simpa using hsf) hS hP hok hlen hlits hC
end Go.Proofs.YteampbddflhngaaGreat

namespace Go.Proofs.YteampbddflhngaaGreat
open Go.RowKit
variable {lo:Nat}
end Go.Proofs.YteampbddflhngaaGreat

namespace Go.Proofs.YteampbddflhngaaGreat
open Go.RowKit
variable {lo:Nat}
end Go.Proofs.YteampbddflhngaaGreat

namespace Go.Proofs.YteampbddflhngaaGreat
open Go.RowKit
variable {lo:Nat}
def PProg (lo:Nat) (w:World) (pb:Nat) (cs:List PClause) (t:List PEnt):Prop:=lo<=pb/\∃ v pv,Box w pb #[v,pv] 131/\CIn lo 171 w v cs/\w.ownsRow lo 221 3 pv t.length (pcells t)
theorem PProg.below {w w':World} {pb:Nat} {cs:List PClause} {t:List PEnt} (h:PProg lo w pb cs t) (hb:Below w.heap.size w w'):PProg lo w' pb cs t:=by
  obtain ⟨h0,v,pv,h1,h2,h3⟩:=h;exact ⟨h0,v,pv,h1.below hb,h2.below hb,owns_below h3 hb⟩
end Go.Proofs.YteampbddflhngaaGreat

namespace Go.Proofs.YteampbddflhngaaGreat
open Go.RowKit
variable {lo:Nat}
def lcell (t:Value × Value × Value):List Value:=[t.1,t.2.1,t.2.2]
def flat3 (ys:List (Value × Value × Value)):List Value:=ys.flatMap lcell
theorem flat3_len (ys:List (Value × Value × Value)):(flat3 ys).length=ys.length * 3:=by
  induction ys with
  | nil=>rfl
  | cons a l ih=>simp [flat3,lcell] at ih ⊢;omega
theorem flat3_set:∀ (ys:List (Value × Value × Value)) (k:Nat) (_:k < ys.length) (a b c:Value),(((flat3 ys).set (k * 3) a).set (k * 3+1) b).set (k * 3+2) c=flat3 (ys.set k (a,b,c))
  | [],k,hk,_,_,_=>by simp at hk
  | y::r,0,_,a,b,c=>by simp [flat3,lcell]
  | y::r,k+1,hk,a,b,c=>by
    have:=flat3_set r k (by simpa using hk) a b c
    simp only [flat3,List.flatMap_cons,List.set_cons_succ,lcell] at this ⊢
    rw [show (k+1) * 3=k * 3+1+1+1 from by omega,show k * 3+1+1+1+1=k * 3+1+1+1+1 from rfl,show k * 3+1+1+1+2=k * 3+2+1+1+1 from by omega]
    simpa using this
theorem flat3_at:∀ (ys:List (Value × Value × Value)) (k:Nat) (hk:k < ys.length),(flat3 ys)[k * 3]?=some ys[k].1/\(flat3 ys)[k * 3+1]?=some ys[k].2.1/\(flat3 ys)[k * 3+2]?=some ys[k].2.2
  | [],k,hk=>by simp at hk
  | y::r,0,_=>by simp [flat3,lcell]
  | y::r,k+1,hk=>by
    have:=flat3_at r k (by simpa using hk)
    simp only [flat3,List.flatMap_cons,lcell] at this ⊢
    rw [show (k+1) * 3=k * 3+1+1+1 from by omega,show k * 3+1+1+1+1=k * 3+1+1+1+1 from rfl,show k * 3+1+1+1+2=k * 3+2+1+1+1 from by omega]
    simpa using this
theorem made3_at (z0 z1 z2:Value):∀ (n i:Nat),i < n * 3->(madeCells #[z0,z1,z2] (n * 3))[i]?=(flat3 (List.replicate n (z0,z1,z2)))[i]?:=by
  intro n i hi
  obtain ⟨k,j,hj,rfl⟩:∃ k j,j < 3/\i=k * 3+j:=⟨i / 3,i % 3,Nat.mod_lt _ (by decide),by omega⟩
  have hk:k < n:=by omega
  obtain ⟨h0,h1,h2⟩:=flat3_at (List.replicate n (z0,z1,z2)) k (by simpa using hk)
  simp only [List.getElem_replicate] at h0 h1 h2
  have hm:(k * 3+j) % 3=j:=by omega
  simp only [madeCells,Array.getElem?_map,Array.getElem?_range]
  rw [if_pos hi]
  simp only [Option.map_some]
  have h3:(#[z0,z1,z2]:Array Value).size=3:=rfl
  rw [h3,hm]
  match j,hj with
  | 0,_=>rw [Nat.add_zero,h0];rfl
  | 1,_=>rw [h1];rfl
  | 2,_=>rw [h2];rfl
theorem own_make3 (w:World) (n:Nat) (T:TypeId) (z0 z1 z2:Value) (hn:n<=maxLen):(w.alloc (.cells (madeCells #[z0,z1,z2] (n * 3)) T)).ownsRow w.heap.size T 3 (.slice (some ⟨w.heap.size,0,none⟩) n n) n (flat3 (List.replicate n (z0,z1,z2))):=by
  refine ⟨by rw [flat3_len];simp,Or.inr ⟨w.heap.size,n,madeCells #[z0,z1,z2] (n * 3),rfl,Nat.le_refl _,?_,Nat.le_refl _,hn,by rw [size_madeCells],?_⟩⟩
  · show (w.heap.push _)[w.heap.size]?=_
    simp
  · apply List.ext_getElem?
    intro i
    by_cases hi:i < n * 3
    · rw [List.getElem?_take,if_pos hi,Array.getElem?_toList,made3_at _ _ _ n i hi]
    · rw [List.getElem?_take,if_neg hi,List.getElem?_eq_none (by rw [flat3_len];simp;omega)]
theorem own_set3 {w:World} {base:Nat} {e:TypeId} {g n cap m:Nat} {ys:List (Value × Value × Value)} (h:w.ownsRow base e 3 (.slice (some ⟨g,0,none⟩) n cap) m (flat3 ys)) (k:Nat) (hk:k < ys.length) (a b c:Value) :
    (((w.setCell ⟨g,k * 3,none⟩ a).setCell ⟨g,k * 3+1,none⟩ b).setCell ⟨g,k * 3+2,none⟩ c).ownsRow base e 3 (.slice (some ⟨g,0,none⟩) n cap) m (flat3 (ys.set k (a,b,c))):=by
  have hl:=flat3_len ys
  have h1:=own_set h (k * 3) (by omega) a
  have h2:=own_set h1 (k * 3+1) (by simp;omega) b
  have h3:=own_set h2 (k * 3+2) (by simp;omega) c
  rw [flat3_set ys k hk] at h3
  exact h3
theorem own_cell3 {w:World} {base:Nat} {e:TypeId} {g n cap m:Nat} {ys:List (Value × Value × Value)} (h:w.ownsRow base e 3 (.slice (some ⟨g,0,none⟩) n cap) m (flat3 ys)) (k:Nat) (hk:k < ys.length) :
    g < w.heap.size/\w.cell? ⟨g,k * 3,none⟩=some ys[k].1/\w.cell? ⟨g,k * 3+1,none⟩=some ys[k].2.1/\w.cell? ⟨g,k * 3+2,none⟩=some ys[k].2.2:=by
  have hm:0 < m:=by have:=h.1;rw [flat3_len] at this;omega
  obtain ⟨g',cap',hv,_,hg,hc⟩:=own_cells h hm
  simp at hv
  obtain ⟨rfl,_⟩:=hv
  obtain ⟨h0,h1,h2⟩:=flat3_at ys k hk
  exact ⟨hg,hc _ _ h0,hc _ _ h1,hc _ _ h2⟩
theorem own_block {w:World} {base:Nat} {e:TypeId} {size g n cap m:Nat} {xs:List Value} (h:w.ownsRow base e size (.slice (some ⟨g,0,none⟩) n cap) m xs):∃ cur,w.heap[g]?=some (.cells cur e (0,0)):=by
  obtain ⟨_,⟨hv,_⟩ | ⟨g',cap',cur,hv,_,hh,_⟩⟩:=h
  · cases hv
  · simp at hv;obtain ⟨rfl,_⟩:=hv;exact ⟨cur,hh⟩
end Go.Proofs.YteampbddflhngaaGreat

namespace Go.Proofs.YteampbddflhngaaGreat
open Go.RowKit
variable {lo:Nat}
structure Save (M:List Nat) (w w':World):Prop where
  os:w'.os=w.os
  tape:w'.tape=w.tape
  output:w'.output=w.output
  size:w.heap.size<=w'.heap.size
  block:∀ k,k < w.heap.size->k∉M->w'.heap[k]?=w.heap[k]?
theorem Save.refl (M:List Nat) (w:World):Save M w w:=⟨rfl,rfl,rfl,Nat.le_refl _,fun _ _ _=>rfl⟩
theorem Save.of {M:List Nat} {w w':World} (h:Below w.heap.size w w'):Save M w w':=⟨h.os,h.tape,h.output,h.size,fun k hk _=>h.block k hk⟩
theorem Save.trans {M:List Nat} {a b c:World} (h:Save M a b) (k:Save M b c):Save M a c :=
  ⟨k.os.trans h.os,k.tape.trans h.tape,k.output.trans h.output,Nat.le_trans h.size k.size,fun x hx hn=>(k.block x (Nat.lt_of_lt_of_le hx h.size) hn).trans (h.block x hx hn)⟩
theorem Save.more {M N:List Nat} {w w':World} (h:Save M w w') (hs:∀ x∈M,x∈N):Save N w w':=⟨h.os,h.tape,h.output,h.size,fun k hk hn=>h.block k hk fun hm=>hn (hs k hm)⟩
theorem Save.newer {M N:List Nat} {a b c:World} (h:Save M a b) (k:Save N b c) (hn:∀ x∈N,x∈M∨a.heap.size<=x):Save M a c :=
  ⟨k.os.trans h.os,k.tape.trans h.tape,k.output.trans h.output,Nat.le_trans h.size k.size,fun x hx hm=>(k.block x (Nat.lt_of_lt_of_le hx h.size) fun hxn=>(hn x hxn).elim hm fun h2=>by omega).trans (h.block x hx hm)⟩
theorem Save.below {M:List Nat} {B:Nat} {w w':World} (h:Save M w w') (hM:∀ x∈M,B<=x) (hB:B<=w.heap.size):Below B w w' :=
  ⟨h.os,h.tape,h.output,h.size,fun k hk=>h.block k (by omega) fun hm=>by have:=hM k hm;omega⟩
theorem own_save {M:List Nat} {w w':World} {base:Nat} {e:TypeId} {size:Nat} {v:Value} {n:Nat} {xs:List Value} (h:w.ownsRow base e size v n xs) (hs:Save M w w') (hn:∀ b,v.ownBlock=some b->b∉M):w'.ownsRow base e size v n xs:=by
  obtain ⟨h1,h2⟩:=h
  refine ⟨h1,?_⟩
  rcases h2 with h2 | ⟨g,cap,cur,hv,hg,hh,rr⟩
  · exact Or.inl h2
  · refine Or.inr ⟨g,cap,cur,hv,hg,?_,rr⟩
    rw [hs.block g (Array.getElem?_eq_some_iff.1 hh).1 (hn g (by rw [hv];rfl))];exact hh
theorem Box.save {M:List Nat} {w w':World} {b:Nat} {c:Array Value} {T:TypeId} (h:Box w b c T) (hs:Save M w w') (hn:b∉M):Box w' b c T:=by
  have:=h.lt;unfold Box at *;rw [hs.block b this hn];exact h
section
variable {P:Program} {ops:Array Oper} {rest:List Oper} {o:Oper} {a:Act} {Q:Exit->Act->World->Prop}
theorem wpList_push2 (wO w0:World) (l:List Value) (te:TypeId) (hg:o.guard=none) (s x:Operand) (t:TypeId)
    (ho:o.op=.call { callee:=.builtin .append,args:=#[s,x],argTypes:=#[t,t] })
    (base:Nat) (e:TypeId) (i:TypeInfo) (z:Value) (size bytes:Nat) (ht:P.underlying t=some (.slice e)) (hi:P.info? e=some i) (hz:i.zero=some z)
    (hsize:i.size=size) (hby:i.bytes=bytes) (hzs:z.cells.size=size) (hsz:0 < size)
    (v:Value) (n:Nat) (xs:List Value) (hs:a.eval s=v) (hown:wO.ownsRow base e size v n xs) (hbO:Below wO.heap.size wO w0)
    (b c:Nat) (hx:a.eval x=.slice (some ⟨b,0,none⟩) 1 c) (hb:b=w0.heap.size) (hl:l.length=size) (h1:∀ u∈l,u.oneCell'=true)
    (hn:n<=10000000000) (hbytes:bytes<=1000) (hbase:base<=wO.heap.size)
    (h:∀ v' w',w'.ownsRow base e size v' (n+1) (xs++l)->Save v.ownBlock.toList wO w'->(v'.ownBlock=v.ownBlock∨∃ g,v'.ownBlock=some g/\wO.heap.size<=g)->wpList P ops Q rest (a.put o.dst v') w') :
    wpList P ops Q (o::rest) a (w0.alloc (.cells l.toArray te)):=by
  have hown':=owns_below hown hbO
  have hsz0:=hbO.size
  subst hb
  refine wpList_append_own_at _ hg s x t ho base e i z size bytes ht hi hz hsize hby hzs hsz v n xs hs (hown'.alloc _) ⟨w0.heap.size,0,none⟩ 1 c l hx (by omega) ?_ h1 ?_ ?_ ?_ ?_
  · intro j u hj
    rw [Addr.add_lit,Nat.zero_add,World.cell?_alloc_mark]
    simpa using hj
  · unfold maxLen;omega
  · have:(n+1) * bytes<=10000000001 * 1000:=Nat.mul_le_mul (by omega) hbytes
    omega
  · simp;omega
  · intro v' w' h2 hgr _ hat
    refine h v' w' h2 ⟨hgr.os.trans hbO.os,hgr.tape.trans hbO.tape,hgr.output.trans hbO.output,?_,fun k hk hm=>?_⟩ ?_
    · have:=hgr.size;simp at this;omega
    · rw [hgr.block k (by simp;omega) (fun e=>hm (by rw [← e];simp))]
      rw [show (w0.alloc (.cells l.toArray te)).heap[k]?=w0.heap[k]? from Below.heap_alloc _ _ _ (by omega)]
      exact hbO.block k hk
    · rcases hat with h3 | h3
      · exact Or.inl h3
      · exact Or.inr ⟨_,h3,by simp;omega⟩
end
theorem own_lt {w:World} {base:Nat} {e:TypeId} {size:Nat} {v:Value} {n:Nat} {xs:List Value} (h:w.ownsRow base e size v n xs) {b:Nat} (hb:v.ownBlock=some b):b < w.heap.size:=by
  obtain ⟨_,⟨hv,_⟩ | ⟨g,cap,cur,hv,_,hh,_⟩⟩:=h
  · subst hv;cases hb
  · subst hv;simp only [Value.ownBlock,Option.some.injEq] at hb;subst hb;exact (Array.getElem?_eq_some_iff.1 hh).1
theorem Save.set (w:World) (b o:Nat) (u:Value):Save [b] w (w.setCell ⟨b,o,none⟩ u) :=
  ⟨rfl,rfl,rfl,by simp [World.setCell],fun k _ hn=>Below.heap_setCell _ _ _ _ (by simp at hn;exact hn)⟩
theorem mem_own {v:Value} {b:Nat} (h:b∈v.ownBlock.toList):v.ownBlock=some b:=by simpa using h
theorem own_ne_list {w:World} {base:Nat} {e T:TypeId} {size:Nat} {v:Value} {n:Nat} {xs:List Value} (h:w.ownsRow base e size v n xs) {b:Nat} {c:Array Value} (hb:Box w b c T) (hT:e≠T):b∉v.ownBlock.toList:=by
  intro hm
  have:=own_ne_type h hb hT
  exact this (by simpa [eq_comm] using hm)
def sl (g n:Nat):Value:=.slice (some ⟨g,0,none⟩) n n
theorem own_ne_own {w:World} {b1 b2:Nat} {e1 e2:TypeId} {s1 s2:Nat} {v1 v2:Value} {n1 n2:Nat} {xs1 xs2:List Value} (h1:w.ownsRow b1 e1 s1 v1 n1 xs1) (h2:w.ownsRow b2 e2 s2 v2 n2 xs2) (hT:e1≠e2) {b:Nat} (hb:v1.ownBlock=some b):v2.ownBlock≠some b:=by
  intro hb2
  obtain ⟨_,⟨hv,_⟩ | ⟨g,cap,cur,hv,_,hh,_⟩⟩:=h1
  · subst hv;cases hb
  · obtain ⟨_,⟨hv2,_⟩ | ⟨g2,cap2,cur2,hv2,_,hh2,_⟩⟩:=h2
    · subst hv2;cases hb2
    · subst hv;subst hv2
      simp only [Value.ownBlock,Option.some.injEq] at hb hb2
      subst hb;subst hb2
      rw [hh] at hh2
      simp at hh2
      exact hT hh2.2
theorem own_ne_box {w:World} {b1:Nat} {e T:TypeId} {s1:Nat} {v1:Value} {n1:Nat} {xs1:List Value} (h1:w.ownsRow b1 e s1 v1 n1 xs1) {wb:Nat} {c:Array Value} (h2:Box w wb c T) (hT:e≠T) {b:Nat} (hb:v1.ownBlock=some b):b≠wb:=by
  rintro rfl
  exact own_ne_type h1 h2 hT hb.symm
theorem own_ge {w:World} {base:Nat} {e:TypeId} {size:Nat} {v:Value} {n:Nat} {xs:List Value} (h:w.ownsRow base e size v n xs) {b:Nat} (hb:v.ownBlock=some b):base<=b:=by
  obtain ⟨_,⟨hv,_⟩ | ⟨g,cap,cur,hv,hg,_,_⟩⟩:=h
  · subst hv;cases hb
  · subst hv;simp only [Value.ownBlock,Option.some.injEq] at hb;omega
theorem nodup_at {α:Type} {f:α->Nat} {l:List α} (h:(l.map f).Nodup) {i j:Nat} (hi:i < l.length) (hj:j < l.length) (hne:i≠j):f l[i]≠f l[j]:=by
  intro e
  have:=(List.getElem_inj (h₀:=by simpa using hi) (h₁:=by simpa using hj) h).1 (by simpa using e)
  exact hne this
theorem Tryz.infoInt:(Tryz.prog.info? 3).map (fun i=>(i.zero,i.size,i.bytes))=some (some (.int .i64 0),1,8):=by kernel_rfl
def ivN (s:Nat):Value:=.int .i64 (s:Int)
theorem own_made (w:World) (n:Nat) (T:TypeId) (hn:n<=maxLen):(w.alloc (.cells (madeCells #[.int .i64 0] n) T)).ownsRow w.heap.size T 1 (.slice (some ⟨w.heap.size,0,none⟩) n n) n ((List.replicate n 0).map ivN):=by
  refine ⟨by simp,Or.inr ⟨w.heap.size,n,madeCells #[.int .i64 0] n,rfl,Nat.le_refl _,?_,Nat.le_refl _,hn,by rw [size_madeCells];omega,?_⟩⟩
  · show (w.heap.push _)[w.heap.size]?=_
    simp
  · apply List.ext_getElem?
    intro i
    by_cases hi:i < n
    · simp [hi,madeCells,ivN,Nat.mod_one]
    · simp [List.getElem?_take,hi]
end Go.Proofs.YteampbddflhngaaGreat
