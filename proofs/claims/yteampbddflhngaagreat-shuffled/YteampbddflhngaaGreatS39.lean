import Derived.Test.YteampbddflhngaaGreatS07
import Derived.Test.YteampbddflhngaaGreatS38

namespace Go.Proofs.YteampbddflhngaaGreat
theorem zsz:∀ a:List UInt8,Op.bytesLess a a=false
 |[]=>rfl
 |x::a=>by simp[Op.bytesLess,zsz a]
theorem zxp:∀ a b:List UInt8,Op.bytesLess a b=false->Op.bytesLess b a=false->a=b
 |[],[],_,_=>rfl
 |[],_::_,h,_=>by simp[Op.bytesLess] at h
 |_::_,[],_,h=>by simp[Op.bytesLess] at h
 |x::a,y::b,h1,h2=>by
  simp only[Op.bytesLess,Bool.or_eq_false_iff,decide_eq_false_iff_not,Bool.and_eq_false_iff,beq_eq_false_iff_ne] at h1 h2
  have hxy:x=y:=by
   have ha:=h1.1
   have hb:=h2.1
   rw[UInt8.not_lt] at ha hb
   exact UInt8.le_antisymm hb ha
  subst hxy
  rw[zxp a b (h1.2.resolve_left fun h=>h rfl) (h2.2.resolve_left fun h=>h rfl)]
theorem zxq:∀ a b c:List UInt8,Op.bytesLess a b=true->Op.bytesLess b c=true->Op.bytesLess a c=true
 |_,[],_,h,_=>by cases ‹List UInt8› <;> simp[Op.bytesLess] at h
 |_,_::_,[],_,h=>by simp[Op.bytesLess] at h
 |[],_::_,_::_,_,_=>rfl
 |x::a,y::b,z::c,h1,h2=>by
  simp only[Op.bytesLess,Bool.or_eq_true,decide_eq_true_eq,Bool.and_eq_true,beq_iff_eq] at h1 h2 ⊢
  rcases h1 with h1|⟨rfl,h1⟩
  ·rcases h2 with h2|⟨rfl,h2⟩
   ·exact Or.inl (UInt8.lt_trans h1 h2)
   ·exact Or.inl h1
  ·rcases h2 with h2|⟨rfl,h2⟩
   ·exact Or.inl h2
   ·exact Or.inr ⟨rfl,zxq a b c h1 h2⟩
theorem lt_irrefl(a:ByteArray):ltB a a=false:=zsz _
theorem zx5{a b:ByteArray}(h1:ltB a b=false)(h2:ltB b a=false):a=b:=toList_inj (zxp _ _ h1 h2)
theorem lt_trans{a b c:ByteArray}(h1:ltB a b=true)(h2:ltB b c=true):ltB a c=true:=zxq _ _ _ h1 h2
def zcb(l:List ByteArray):Prop:=l.Pairwise fun a b=>ltB a b=true
theorem zr6:∀ {a b:List ByteArray},zcb a->zcb b->(∀ x,x∈a↔x∈b)->a=b
 |[],[],_,_,_=>rfl
 |[],y::b,_,_,h=>by have:=(h y).2 (by simp);cases this
 |x::a,[],_,_,h=>by have:=(h x).1 (by simp);cases this
 |x::a,y::b,ha,hb,h=>by
  obtain⟨ha1,ha2⟩:=List.pairwise_cons.1 ha
  obtain⟨hb1,hb2⟩:=List.pairwise_cons.1 hb
  have hxy:x=y:=by
   have h1:=(h x).1 (by simp)
   have h2:=(h y).2 (by simp)
   rcases List.mem_cons.1 h1 with h1|h1
   ·exact h1
   ·rcases List.mem_cons.1 h2 with h2|h2
    ·exact h2.symm
    ·have e1:=hb1 x h1
     have e2:=ha1 y h2
     have:=lt_trans e1 e2;rw[lt_irrefl] at this;cases this
  subst hxy
  have hna:x∉a:=fun hm=>by have:=ha1 x hm;rw[lt_irrefl] at this;cases this
  have hnb:x∉b:=fun hm=>by have:=hb1 x hm;rw[lt_irrefl] at this;cases this
  rw[zr6 ha2 hb2 (fun z=>?_)]
  have hz:=h z
  simp only[List.mem_cons] at hz
  constructor
  ·intro hm
   rcases hz.1 (Or.inr hm) with e|e
   ·subst e;exact absurd hm hna
   ·exact e
  ·intro hm
   rcases hz.2 (Or.inr hm) with e|e
   ·subst e;exact absurd hm hnb
   ·exact e
def namesT(t:List zaq):List ByteArray:=t.map zaq.name
theorem znj:∀(t:List zaq) (n:ByteArray),∀ e∈t.take (zai t n),ltB e.name n=true
 |[],_,e,h=>by simp at h
 |a::r,n,e,h=>by
  unfold zai at h
  cases ha:ltB a.name n with
  |false=>simp[ha] at h
  |true =>
   simp only[ha,if_true,List.take_succ_cons,List.mem_cons] at h
   rcases h with rfl|h
   ·exact ha
   ·exact znj r n e h
theorem zni:∀(t:List zaq) (n:ByteArray),zcb (namesT t)->∀ e∈t.drop (zai t n),ltB e.name n=false
 |[],_,_,e,h=>by simp at h
 |a::r,n,hr,e,h=>by
  have hr':zcb (a.name::namesT r):=hr
  unfold zcb at hr'
  rw[List.pairwise_cons] at hr'
  unfold zai at h
  cases ha:ltB a.name n with
  |true =>
   simp only[ha,if_true,List.drop_succ_cons] at h
   exact zni r n hr'.2 e h
  |false =>
   simp only[ha,Bool.false_eq_true,if_false,List.drop_zero,List.mem_cons] at h
   rcases h with rfl|h
   ·exact ha
   ·cases he:ltB e.name n with
    |false=>rfl
    |true =>
     have:=lt_trans (hr'.1 e.name (List.mem_map.2 ⟨e,h,rfl⟩)) he
     rw[ha] at this;cases this
theorem zn4{t:List zaq}{n:ByteArray}{e:zaq}(h:zbi t n=some e):e∈t/\e.name=n:=by
 obtain⟨hk,h1,h2⟩:=zci h
 exact⟨by rw[← h1];exact List.getElem_mem hk,h2⟩
theorem zk4{t:List zaq}{n:ByteArray}(hr:zcb (namesT t))(h:zbi t n=none):∀ e∈t,e.name≠n:=by
 intro e he hn
 rw[← List.take_append_drop (zai t n) t,List.mem_append] at he
 rcases he with he|he
 ·have:=znj t n e he
  rw[hn,lt_irrefl] at this;cases this
 ·rcases zje h with hk|⟨hk,hne⟩
  ·rw[List.drop_eq_nil_of_le (by omega)] at he;cases he
  ·have hd:t.drop (zai t n)=t[zai t n]::t.drop (zai t n+1):=List.drop_eq_getElem_cons hk
   have hge:=zni t n hr t[zai t n] (by rw[hd];exact List.mem_cons_self)
   rw[hd,List.mem_cons] at he
   rcases he with rfl|he
   ·exact hne hn
   ·have hr2:zcb (namesT (t.drop (zai t n))):=by
     unfold zcb namesT at *;rw[List.map_drop];exact hr.sublist (List.drop_sublist _ _)
    rw[hd] at hr2
    have hr3:zcb (t[zai t n].name::namesT (t.drop (zai t n+1))):=hr2
    unfold zcb at hr3
    rw[List.pairwise_cons] at hr3
    have:=hr3.1 e.name (List.mem_map.2 ⟨e,he,rfl⟩)
    rw[hn,hge] at this;cases this
theorem zlk{t:List zaq}{x e:zaq}{k:Nat}:e∈zgq t x k↔e=x∨e∈t:=by
 unfold zgq
 rw[List.mem_append,List.mem_cons]
 constructor
 ·rintro(h|h|h)
  ·exact Or.inr (List.mem_of_mem_take h)
  ·exact Or.inl h
  ·exact Or.inr (List.mem_of_mem_drop h)
 ·rintro(h|h)
  ·exact Or.inr (Or.inl h)
  ·rw[← List.take_append_drop k t,List.mem_append] at h
   rcases h with h|h
   ·exact Or.inl h
   ·exact Or.inr (Or.inr h)
theorem z0i{t:List zaq}{x:zaq}(hr:zcb (namesT t))(hx:∀ e∈t,e.name≠x.name):zcb (namesT (zgq t x (zai t x.name))):=by
 have h1:=znj t x.name
 have h2:=zni t x.name hr
 have hgt:∀ e∈t.drop (zai t x.name),ltB x.name e.name=true:=by
  intro e he
  cases hc:ltB x.name e.name with
  |true=>rfl
  |false=>exact absurd (zx5 (h2 e he) hc) (hx e (List.mem_of_mem_drop he))
 have hr2:=hr
 rw[← List.take_append_drop (zai t x.name) t] at hr2
 unfold zcb namesT at hr2 ⊢
 unfold zgq
 rw[List.map_append,List.pairwise_append] at hr2
 rw[List.map_append,List.map_cons,List.pairwise_append,List.pairwise_cons]
 refine⟨hr2.1,⟨?_,hr2.2.1⟩,?_⟩
 ·intro b hb
  obtain⟨e,he,rfl⟩:=List.mem_map.1 hb
  exact hgt e he
 ·intro a ha b hb
  obtain⟨e,he,rfl⟩:=List.mem_map.1 ha
  rcases List.mem_cons.1 hb with rfl|hb
  ·exact h1 e he
  ·exact hr2.2.2 _ ha b hb
structure Tab (t:List zaq) (ls:List zb2):Prop where
 rise:zcb (namesT t)
 names:∀ n,n∈namesT t↔∃ l∈ls,l.pred=n
 arity:∀ e∈t,∀ l∈ls,l.pred=e.name->l.args.length=e.arity
theorem Tab.step{t t':List zaq}{ls:List zb2}{l:zb2}(h:Tab t ls)(ha:zpu t l=some t'):Tab t' (ls++[l]):=by
 unfold zpu at ha
 split at ha
 ·rename_i e he
  obtain⟨hm,hn⟩:=zn4 he
  split at ha
  ·rename_i har
   simp only[Option.some.injEq] at ha
   subst ha
   refine⟨h.rise,fun n=>?_,fun e' he' l' hl' hp=>?_⟩
   ·rw[h.names]
    constructor
    ·rintro⟨l',hl',hp⟩;exact⟨l',by simp[hl'],hp⟩
    ·rintro⟨l',hl',hp⟩
     rcases List.mem_append.1 hl' with hl'|hl'
     ·exact⟨l',hl',hp⟩
     ·simp at hl';subst hl'
      exact(h.names n).1 (List.mem_map.2 ⟨e,hm,by rw[hn,hp]⟩)
   ·rcases List.mem_append.1 hl' with hl'|hl'
    ·exact h.arity e' he' l' hl' hp
    ·simp at hl';subst hl'
     obtain⟨l0,hl0,hp0⟩:=(h.names e.name).1 (List.mem_map.2 ⟨e,hm,rfl⟩)
     rw[← har,← h.arity e hm l0 hl0 hp0]
     exact h.arity e' he' l0 hl0 (by rw[hp0,hn,hp])
  ·cases ha
 ·rename_i he
  simp only[Option.some.injEq] at ha
  subst ha
  have hout:=zk4 h.rise he
  refine⟨z0i h.rise hout,fun n=>?_,fun e' he' l' hl' hp=>?_⟩
  ·constructor
   ·intro hn
    obtain⟨e,hm,rfl⟩:=List.mem_map.1 hn
    rcases zlk.1 hm with rfl|hm
    ·exact⟨l,by simp,rfl⟩
    ·obtain⟨l',hl',hp⟩:=(h.names e.name).1 (List.mem_map.2 ⟨e,hm,rfl⟩)
     exact⟨l',by simp[hl'],hp⟩
   ·rintro⟨l',hl',hp⟩
    rcases List.mem_append.1 hl' with hl'|hl'
    ·obtain⟨e,hm,hen⟩:=List.mem_map.1 ((h.names n).2 ⟨l',hl',hp⟩)
     exact List.mem_map.2 ⟨e,zlk.2 (Or.inr hm),hen⟩
    ·simp at hl';subst hl'
     exact List.mem_map.2 ⟨_,zlk.2 (Or.inl rfl),hp⟩
  ·rcases zlk.1 he' with rfl|hm
   ·rcases List.mem_append.1 hl' with hl'|hl'
    ·obtain⟨e,hm,hen⟩:=List.mem_map.1 ((h.names l'.pred).2 ⟨l',hl',rfl⟩)
     exact absurd (hen.trans hp) (hout e hm)
    ·simp at hl';subst hl';rfl
   ·rcases List.mem_append.1 hl' with hl'|hl'
    ·exact h.arity e' hm l' hl' hp
    ·simp at hl';subst hl';exact absurd hp.symm (hout e' hm)
theorem z1t:∀(ls done:List zb2) (t t':List zaq),Tab t done->ls.foldl zna (some t)=some t'->Tab t' (done++ls)
 |[],done,t,t',h,e=>by simp at e;subst e;simpa using h
 |l::ls,done,t,t',h,e=>by
  rw[List.foldl_cons] at e
  cases ha:zpu t l with
  |none=>rw[show zna (some t) l=none from ha,ziu] at e;cases e
  |some t2 =>
   rw[show zna (some t) l=some t2 from ha] at e
   have:=z1t ls (done++[l]) t2 t' (h.step ha) e
   rwa [List.append_assoc] at this
theorem z9e:Tab [] []:=⟨List.Pairwise.nil,fun n=>by simp[namesT],fun e he=>by cases he⟩
theorem zvz{cs:List zab}{t:List zaq}(h:zgo cs=some t):Tab t (cs.flatMap za3):=by
 have:=z1t (cs.flatMap za3) [] [] t z9e h
 simpa using this
def up(l:zb2):Nat:=if l.neg then 1 else 0
def Sol(cs:List zab)(f:ByteArray->Nat):Prop:=∀ c∈cs,∀ l∈c.body,f l.pred+up l<=f c.head.pred
def Least(cs:List zab)(f:ByteArray->Nat):Prop:=Sol cs f/\∀ g,Sol cs g->∀ n,f n<=g n
theorem zt7{cs:List zab}{g:ByteArray->Nat}(hg:Sol cs g):∃ f,Least cs f:=by
 have hmin:∀ n,∃ k,(∃ h,Sol cs h/\h n=k)/\∀ h,Sol cs h->k<=h n:=by
  intro n
  have aux:∀ m,(∃ h,Sol cs h/\h n<=m)->∃ k,(∃ h,Sol cs h/\h n=k)/\∀ h,Sol cs h->k<=h n:=by
   intro m
   induction m with
   |zero=>rintro⟨h,hs,h0⟩;exact⟨0,⟨h,hs,by omega⟩,fun _ _=>Nat.zero_le _⟩
   |succ m ih =>
    intro hm
    by_cases hx:∃ h,Sol cs h/\h n<=m
    ·exact ih hx
    ·obtain⟨h,hs,h0⟩:=hm
     have hlow:∀ h',Sol cs h'->m+1<=h' n:=fun h' hs'=>by
      false_or_by_contra;rename_i hc;exact hx ⟨h',hs',by omega⟩
     exact⟨m+1,⟨h,hs,by have:=hlow h hs;omega⟩,hlow⟩
  exact aux (g n) ⟨g,hg,Nat.le_refl _⟩
 refine⟨fun n=>(hmin n).choose,fun c hc l hl=>?_,fun h hs n=>(hmin n).choose_spec.2 h hs⟩
 obtain⟨⟨h,hs,hh⟩,-⟩:=(hmin c.head.pred).choose_spec
 have h1:=(hmin l.pred).choose_spec.2 h hs
 have h2:=hs c hc l hl
 simp only
 omega
theorem holes:∀(N:Nat) (L:List Nat),(∀ k,k<=N->k∈L)->N+1<=L.length
 |0,L,h=>by
  have:=h 0 (Nat.le_refl _)
  cases L with
  |nil=>cases this
  |cons=>simp
 |N+1,L,h=>by
  have hm:=h (N+1) (Nat.le_refl _)
  have:=holes N (L.erase (N+1)) fun k hk=>(List.mem_erase_of_ne (by omega)).2 (h k (by omega))
  rw[List.length_erase_of_mem hm] at this
  have:0 < L.length:=List.length_pos_of_mem hm
  omega
theorem z6l{cs:List zab}{f:ByteArray->Nat}(h:Least cs f){ps:List ByteArray}(hps:∀ c∈cs,∀ l∈za3 c,l.pred∈ps){n:ByteArray}(hn:n∈ps):f n < ps.length:=by
 false_or_by_contra
 rename_i hge
 have hx:∃ k,k<=ps.length/\k∉ps.map f:=by
  apply Classical.byContradiction
  intro hno
  have:=holes ps.length (ps.map f) fun k hk=>Classical.byContradiction fun hk2=>hno ⟨k,hk,hk2⟩
  rw[List.length_map] at this;omega
 obtain⟨k,hk,hkn⟩:=hx
 have hne:∀ m∈ps,f m≠k:=fun m hm e=>hkn (List.mem_map.2 ⟨m,hm,e⟩)
 have hs:Sol cs fun m=>if k < f m then f m - 1 else f m:=by
  intro c hc l hl
  have h1:=h.1 c hc l hl
  have h2:=hne l.pred (hps c hc l (by simp[za3,hl]))
  have h3:=hne c.head.pred (hps c hc c.head (by simp[za3]))
  have h4:up l<=1:=by unfold up;split <;> omega
  simp only
  split <;> split <;> omega
 have h5:=h.2 _ hs n
 have h6:=hne n hn
 split at h5 <;> omega
theorem zzh{cs:List zab}{f a b:ByteArray->Nat}(h:Least cs f)(hab:∀ n,a n<=b n)(hbf:∀ n,b n<=f n)(hstep:∀ c∈cs,∀ l∈c.body,a l.pred+up l<=b c.head.pred)
  (hsame:∀ n,b n=f n->a n=f n):∀ n,a n=f n:=by
 apply Classical.byContradiction
 intro hno
 have ⟨n,hn⟩:∃ n,¬ a n=f n:=Classical.byContradiction fun hx=>hno fun n=>Classical.byContradiction fun hc=>hx ⟨n,hc⟩
 have hs:Sol cs fun m=>if a m=f m then f m else f m - 1:=by
  intro c hc l hl
  have h1:=h.1 c hc l hl
  have h2:=hstep c hc l hl
  have h3:=hab c.head.pred
  have h4:=hbf c.head.pred
  have h5:=hsame c.head.pred
  have h6:=hab l.pred
  have h7:=hbf l.pred
  have h8:up l<=1:=by unfold up;split <;> omega
  simp only
  by_cases e1:a l.pred=f l.pred
  ·by_cases e2:a c.head.pred=f c.head.pred
   ·rw[if_pos e1,if_pos e2];exact h1
   ·have e3:¬ b c.head.pred=f c.head.pred:=fun e=>e2 (h5 e)
    rw[if_pos e1,if_neg e2];omega
  ·by_cases e2:a c.head.pred=f c.head.pred
   ·rw[if_neg e1,if_pos e2];omega
   ·rw[if_neg e1,if_neg e2];omega
 have h5:=h.2 _ hs n
 simp only[hn,if_false] at h5
 have h6:=hab n
 have h7:=hbf n
 omega
def val(t:List zaq)(n:ByteArray):Nat:=match zbi t n with
 |some e=>e.stratum
 |none=>0
theorem zi7:∀ {t t':List zaq},namesT t=namesT t'->∀ n,zai t n=zai t' n
 |[],[],_,_=>rfl
 |[],_::_,h,_=>by simp[namesT] at h
 |_::_,[],h,_=>by simp[namesT] at h
 |a::r,b::q,h,n=>by
  simp only[namesT,List.map_cons,List.cons.injEq] at h
  unfold zai
  rw[h.1,zi7 h.2 n]
theorem zug{t:List zaq}{k:Nat}{e:zaq}(hk:k < t.length)(he:e.name=t[k].name):namesT (t.set k e)=namesT t:=by
 unfold namesT
 rw[List.map_set,he]
 apply List.ext_getElem (by simp)
 intro i h1 h2
 rw[List.getElem_set]
 split
 ·rename_i h;subst h;simp
 ·rfl
theorem zuu(t:List zaq)(n:ByteArray)(s:Nat):namesT (zce t n s).1=namesT t:=by
 unfold zce
 split
 ·rfl
 ·rename_i e he
  obtain⟨hk,h1,h2⟩:=zci he
  split
  ·rfl
  ·exact zug hk (by rw[h1])
theorem z2e{t:List zaq}{n:ByteArray}{e:zaq}(s:Nat)(he:zbi t n=some e)(m:ByteArray):zbi (t.set (zai t n) { e with stratum:=s }) m=if m=n then some { e with stratum:=s } else zbi t m:=by
 obtain⟨hk,h1,h2⟩:=zci he
 have hp:zai (t.set (zai t n) { e with stratum:=s }) m=zai t m:=zi7 (zug hk (by rw[h1])) m
 unfold zbi
 rw[hp,List.getElem?_set]
 by_cases hm:m=n
 ·subst hm
  rw[if_pos rfl,if_pos rfl,if_pos hk]
  simp[h2]
 ·rw[if_neg hm]
  by_cases hq:zai t n=zai t m
  ·rw[if_pos hq,if_pos hk,← hq,List.getElem?_eq_getElem hk,h1]
   simp[h2,Ne.symm hm]
  ·rw[if_neg hq]
theorem zu8(t:List zaq)(n:ByteArray)(s:Nat)(m:ByteArray):val (zce t n s).1 m=if m=n/\(zbi t n).isSome=true then max (val t n) s else val t m:=by
 unfold zce
 cases he:zbi t n with
 |none=>simp
 |some e =>
  simp only[Option.isSome_some,and_true]
  have hv:val t n=e.stratum:=by simp[val,he]
  split
  ·split
   ·rename_i h1 h2;rw[h2,hv];omega
   ·rfl
  ·rename_i h1
   unfold val
   rw[z2e s he m,he]
   by_cases hm:m=n
   ·rw[if_pos hm,if_pos hm];simp only;omega
   ·rw[if_neg hm,if_neg hm]
theorem z0h(t:List zaq)(n:ByteArray)(s:Nat):((zce t n s).2=false->(zce t n s).1=t)/\((zce t n s).2=true->val t n < val (zce t n s).1 n):=by
 constructor
 ·unfold zce;split
  ·exact fun _=>rfl
  ·split
   ·exact fun _=>rfl
   ·intro h;cases h
 ·intro h
  rw[zu8]
  unfold zce at h
  split at h
  ·cases h
  ·rename_i e he
   split at h
   ·cases h
   ·rename_i h1
    have hv:val t n=e.stratum:=by simp[val,he]
    rw[if_pos ⟨rfl,by simp[he]⟩];omega
theorem zx2{t:List zaq}:∀(b:List zb2) (n:Nat),n<=b.foldl (zfc t) n/\∀ l∈b,zvh t l<=b.foldl (zfc t) n
 |[],n=>⟨Nat.le_refl _,fun l hl=>by cases hl⟩
 |a::b,n=>by
  have ⟨h1,h2⟩:=zx2 (t:=t) b (zfc t n a)
  have h3:n<=zfc t n a/\zvh t a<=zfc t n a:=by unfold zfc;split <;> omega
  rw[List.foldl_cons]
  refine⟨by omega,fun l hl=>?_⟩
  rcases List.mem_cons.1 hl with rfl|hl
  ·omega
  ·exact h2 l hl
theorem zx3{t:List zaq}{M:Nat}:∀(b:List zb2) (n:Nat),n<=M->(∀ l∈b,zvh t l<=M)->b.foldl (zfc t) n<=M
 |[],n,h,_=>h
 |a::b,n,h,hb=>by
  rw[List.foldl_cons]
  refine zx3 b _ ?_ fun l hl=>hb l (by simp[hl])
  have:=hb a (by simp)
  unfold zfc;split <;> omega
theorem z6m{t:List zaq}{l:zb2}(h:(zbi t l.pred).isSome=true):zvh t l=val t l.pred+up l:=by
 unfold zvh val up
 cases he:zbi t l.pred with
 |none=>rw[he] at h;cases h
 |some e=>simp only;split <;> rfl
theorem zqe(t:List zaq)(n:ByteArray):(zbi t n).isSome=true↔(namesT t)[zai t n]?=some n:=by
 unfold zbi namesT
 rw[List.getElem?_map]
 cases h:t[zai t n]? with
 |none=>simp
 |some e =>
  simp only[Option.map_some,Option.some.injEq]
  split <;> simp[*]
theorem zmt{t t':List zaq}(h:namesT t=namesT t')(n:ByteArray):(zbi t n).isSome=true↔(zbi t' n).isSome=true:=by
 rw[zqe,zqe,h,zi7 h n]
def zlz(t:List zaq)(cs:List zab):Prop:=∀ c∈cs,∀ l∈za3 c,(zbi t l.pred).isSome=true
theorem zlz.names{t t':List zaq}{cs:List zab}(h:zlz t cs)(hn:namesT t=namesT t'):zlz t' cs:=fun c hc l hl=>(zmt hn _).1 (h c hc l hl)
structure z99 (x y:List zaq × Bool) (ds:List zab):Prop where
 names:namesT y.1=namesT x.1
 grow:∀ n,val x.1 n<=val y.1 n
 step:∀ c∈ds,∀ l∈c.body,val x.1 l.pred+up l<=val y.1 c.head.pred
 low:∀ f,Sol ds f->(∀ n,val x.1 n<=f n)->∀ n,val y.1 n<=f n
 still:y.2=false->y.1=x.1/\x.2=false
 moved:y.2=true->x.2=true∨∃ n,val x.1 n < val y.1 n
theorem z7b{x:List zaq × Bool}{c:zab}(h:zlz x.1 [c]):z99 x (zet x c) [c]:=by
 have hh:(zbi x.1 c.head.pred).isSome=true:=h c (by simp) c.head (by simp[za3])
 have hl:∀ l∈c.body,zvh x.1 l=val x.1 l.pred+up l:=fun l hl=>z6m (h c (by simp) l (by simp[za3,hl]))
 have hv:=fun m=>zu8 x.1 c.head.pred (zfh x.1 c) m
 have hf:=z0h x.1 c.head.pred (zfh x.1 c)
 refine⟨zuu _ _ _,fun n=>?_,fun c' hc' l hlb=>?_,fun f hs hlow n=>?_,fun hst=>?_,fun hmv=>?_⟩
 ·show _<=val (zce _ _ _).1 n
  rw[hv];split
  ·rename_i e;rw[e.1];omega
  ·omega
 ·simp at hc';subst hc'
  show _<=val (zce _ _ _).1 _
  rw[hv,if_pos ⟨rfl,hh⟩,← hl l hlb]
  have:=(zx2 (t:=x.1) c'.body 0).2 l hlb
  unfold zfh;omega
 ·show val (zce _ _ _).1 n<=_
  rw[hv]
  split
  ·rename_i e
   rw[e.1]
   have h1:=hlow c.head.pred
   have h2:zfh x.1 c<=f c.head.pred:=by
    unfold zfh
    refine zx3 c.body 0 (Nat.zero_le _) fun l hlb=>?_
    have:=hs c (by simp) l hlb
    have:=hlow l.pred
    rw[hl l hlb];omega
   omega
  ·exact hlow n
 ·have h2:(x.2 || (zce x.1 c.head.pred (zfh x.1 c)).2)=false:=hst
  rw[Bool.or_eq_false_iff] at h2
  exact⟨hf.1 h2.2,h2.1⟩
 ·have h2:(x.2 || (zce x.1 c.head.pred (zfh x.1 c)).2)=true:=hmv
  rw[Bool.or_eq_true] at h2
  rcases h2 with h2|h2
  ·exact Or.inl h2
  ·exact Or.inr ⟨_,hf.2 h2⟩
theorem zln:∀(ds:List zab) (x:List zaq × Bool),zlz x.1 ds->z99 x (ds.foldl zet x) ds
 |[],x,_=>⟨rfl,fun _=>Nat.le_refl _,fun c hc=>by(cases hc),fun _ _ h=>h,fun h=>⟨rfl,h⟩,fun h=>Or.inl h⟩
 |c::ds,x,h=>by
  have p1:=z7b (x:=x) (c:=c) fun c' hc'=>by simp at hc';subst hc';exact h c' (by simp)
  have p2:=zln ds (zet x c) (zlz.names (fun c' hc'=>h c' (by simp[hc'])) p1.names.symm)
  rw[List.foldl_cons]
  refine⟨p2.names.trans p1.names,fun n=>Nat.le_trans (p1.grow n) (p2.grow n),fun c' hc' l hl=>?_,fun f hs hlow=>?_,fun hst=>?_,fun hmv=>?_⟩
  ·rcases List.mem_cons.1 hc' with rfl|hc'
   ·exact Nat.le_trans (p1.step c' (by simp) l hl) (p2.grow _)
   ·have:=p2.step c' hc' l hl
    have:=p1.grow l.pred
    omega
  ·exact p2.low f (fun c' hc'=>hs c' (by simp[hc'])) (p1.low f (fun c' hc'=>by simp at hc';subst hc';exact hs c' (by simp)) hlow)
  ·have h2:=p2.still hst
   have h1:=p1.still h2.2
   exact⟨h2.1.trans h1.1,h1.2⟩
  ·rcases p2.moved hmv with h2|⟨n,h2⟩
   ·rcases p1.moved h2 with h1|⟨n,h1⟩
    ·exact Or.inl h1
    ·exact Or.inr ⟨n,Nat.lt_of_lt_of_le h1 (p2.grow n)⟩
   ·exact Or.inr ⟨n,Nat.lt_of_le_of_lt (p1.grow n) h2⟩
theorem zxe{t:List zaq}{n:ByteArray}(h:n∉namesT t):val t n=0:=by
 unfold val
 split
 ·rename_i e he
  obtain⟨hm,hn⟩:=zn4 he
  exact absurd (List.mem_map.2 ⟨e,hm,hn⟩) h
 ·rfl
def rest(f:ByteArray->Nat)(t:List zaq):Nat:=((namesT t).filter fun n=>decide (val t n≠f n)).length
theorem z9b{f:ByteArray->Nat}{t t':List zaq}(hn:namesT t'=namesT t)(hmono:∀ n,val t n=f n->val t' n=f n){m:ByteArray}(hm:m∈namesT t)(h1:val t m≠f m)(h2:val t' m=f m):rest f t' < rest f t:=by
 unfold rest
 rw[hn]
 generalize namesT t=ns at hm
 have hle:∀ l:List ByteArray,(l.filter fun n=>decide (val t' n≠f n)).length<=(l.filter fun n=>decide (val t n≠f n)).length:=by
  intro l
  induction l with
  |nil=>simp
  |cons a l ih =>
   by_cases ha:val t a=f a
   ·simp[ha,hmono a ha];simpa using ih
   ·by_cases hb:val t' a=f a
    ·simp[ha,hb];have:=ih;simp at this;omega
    ·simp[ha,hb];simpa using ih
 induction ns with
 |nil=>cases hm
 |cons a ns ih =>
  have hns:=hle ns
  rcases List.mem_cons.1 hm with rfl|hm
  ·simp[h1,h2];simp at hns;omega
  ·have:=ih hm
   by_cases ha:val t a=f a
   ·simp[ha,hmono a ha];simpa using this
   ·by_cases hb:val t' a=f a
    ·simp[ha,hb];simp at this;omega
    ·simp[ha,hb];simpa using this
theorem zw6:∀(m:Nat) (t:List zaq) (cs:List zab),zlz t cs->namesT (zcz m t cs).1=namesT t
 |0,_,_,_=>rfl
 |m+1,t,cs,h=>by
  have p:=zln cs (t,false) h
  unfold zcz
  split
  ·exact(zw6 m _ cs (h.names p.names.symm)).trans p.names
  ·exact p.names
theorem zu1{f:ByteArray->Nat}:∀(m:Nat) (t:List zaq) (cs:List zab),zlz t cs->Sol cs f->(∀ n,val t n<=f n)->∀ n,val (zcz m t cs).1 n<=f n
 |0,_,_,_,_,h=>h
 |m+1,t,cs,h,hs,hlow=>by
  have p:=zln cs (t,false) h
  have:=p.low f hs hlow
  unfold zcz
  split
  ·exact zu1 m _ cs (h.names p.names.symm) hs this
  ·exact this
theorem zlv:∀(m:Nat) (t:List zaq) (cs:List zab),zlz t cs->(zcz m t cs).2=true->Sol cs (val (zcz m t cs).1)
 |0,_,_,_,h=>by cases h
 |m+1,t,cs,h,ht=>by
  have p:=zln cs (t,false) h
  unfold zcz at ht ⊢
  split at ht
  ·rename_i hc
   rw[if_pos hc]
   exact zlv m _ cs (h.names p.names.symm) ht
  ·rename_i hc
   rw[if_neg hc]
   have h1:=(p.still (by simpa [zb6] using hc)).1
   intro c hcc l hl
   have h2:=p.step c hcc l hl
   show val (cs.foldl zet (t,false)).1 l.pred+up l<=val (cs.foldl zet (t,false)).1 c.head.pred
   rw[h1] at h2 ⊢
   exact h2
theorem zq8{f:ByteArray->Nat}{cs:List zab}(hf:Least cs f):∀(m:Nat) (t:List zaq),zlz t cs->(∀ n,val t n<=f n)->rest f t < m->(zcz m t cs).2=true
 |0,_,_,_,h=>by omega
 |m+1,t,h,hlow,hr=>by
  have p:=zln cs (t,false) h
  have hlow2:=p.low f hf.1 hlow
  unfold zcz
  split
  ·rename_i hc
   refine zq8 hf m _ (h.names p.names.symm) hlow2 ?_
   have hno:¬ ∀ n,val t n=f n:=by
    intro hall
    rcases p.moved hc with h1|⟨n,h1⟩
    ·cases h1
    ·have:=hlow2 n;have:=hall n;simp only at h1;omega
   have ⟨n,hn1,hn2⟩:∃ n,val (cs.foldl zet (t,false)).1 n=f n/\val t n≠f n:=by
    apply Classical.byContradiction
    intro hx
    exact hno (zzh hf p.grow hlow2 p.step fun n hb=>Classical.byContradiction fun hc=>hx ⟨n,hb,hc⟩)
   have hm:n∈namesT t:=by
    apply Classical.byContradiction
    intro hx
    have h1:=zxe hx
    have h2:val (cs.foldl zet (t,false)).1 n=0:=zxe (by rw[p.names];exact hx)
    omega
   have:=z9b (f:=f) (t:=t) p.names (fun k hk=>Nat.le_antisymm (hlow2 k) (by rw[← hk];exact p.grow k)) hm hn2 hn1
   show rest f (cs.foldl zet (t,false)).1 < m
   omega
  ·rfl
theorem z4s{cs:List zab}{t:List zaq}(h:zlz t cs)(h0:∀ n,val t n=0):((zcz (t.length+1) t cs).2=true↔∃ f,Sol cs f)/\((zcz (t.length+1) t cs).2=true->Least cs (val (zcz (t.length+1) t cs).1)):=by
 refine⟨⟨fun e=>⟨_,zlv _ t cs h e⟩,?_⟩,fun e=>⟨zlv _ t cs h e,fun g hg=>zu1 _ t cs h hg fun n=>by rw[h0];omega⟩⟩
 rintro⟨g,hg⟩
 obtain⟨f,hf⟩:=zt7 hg
 refine zq8 hf _ t h (fun n=>by rw[h0];omega) ?_
 have:=List.length_filter_le (fun n=>decide (val t n≠f n)) (namesT t)
 have h2:(namesT t).length=t.length:=by simp[namesT]
 unfold rest;omega
end Go.Proofs.YteampbddflhngaaGreat
