import Derived.Test.YteampbddflhngaaGreatP39
import Derived.Test.YteampbddflhngaaGreatP33

namespace Go.Proofs.YteampbddflhngaaGreat
def namesT(t:List zas):List ByteArray:=t.map zas.name
theorem zng:∀(t:List zas) (n:ByteArray),∀ e∈t.take (zai t n),ltB e.name n=true
 |[],_,e,h=>by simp at h
 |a::r,n,e,h=>by
  unfold zai at h
  cases ha:ltB a.name n with
  |false=>simp[ha] at h
  |true =>
   simp only[ha,if_true,List.take_succ_cons,List.mem_cons] at h
   rcases h with rfl|h
   ·exact ha
   ·exact zng r n e h
theorem znf:∀(t:List zas) (n:ByteArray),zch (namesT t)->∀ e∈t.drop (zai t n),ltB e.name n=false
 |[],_,_,e,h=>by simp at h
 |a::r,n,hr,e,h=>by
  have hr':zch (a.name::namesT r):=hr
  unfold zch at hr'
  rw[List.pairwise_cons] at hr'
  unfold zai at h
  cases ha:ltB a.name n with
  |true =>
   simp only[ha,if_true,List.drop_succ_cons] at h
   exact znf r n hr'.2 e h
  |false =>
   simp only[ha,Bool.false_eq_true,if_false,List.drop_zero,List.mem_cons] at h
   rcases h with rfl|h
   ·exact ha
   ·cases he:ltB e.name n with
    |false=>rfl
    |true =>
     have:=lt_trans (hr'.1 e.name (List.mem_map.2 ⟨e,h,rfl⟩)) he
     rw[ha] at this;cases this
theorem zn3{t:List zas}{n:ByteArray}{e:zas}(h:zbf t n=some e):e∈t/\e.name=n:=by
 obtain⟨hk,h1,h2⟩:=zci h
 exact⟨by rw[← h1];exact List.getElem_mem hk,h2⟩
theorem zk0{t:List zas}{n:ByteArray}(hr:zch (namesT t))(h:zbf t n=none):∀ e∈t,e.name≠n:=by
 intro e he hn
 rw[← List.take_append_drop (zai t n) t,List.mem_append] at he
 rcases he with he|he
 ·have:=zng t n e he
  rw[hn,lt_irrefl] at this;cases this
 ·rcases zja h with hk|⟨hk,hne⟩
  ·rw[List.drop_eq_nil_of_le (by omega)] at he;cases he
  ·have hd:t.drop (zai t n)=t[zai t n]::t.drop (zai t n+1):=List.drop_eq_getElem_cons hk
   have hge:=znf t n hr t[zai t n] (by rw[hd];exact List.mem_cons_self)
   rw[hd,List.mem_cons] at he
   rcases he with rfl|he
   ·exact hne hn
   ·have hr2:zch (namesT (t.drop (zai t n))):=by
     unfold zch namesT at *;rw[List.map_drop];exact hr.sublist (List.drop_sublist _ _)
    rw[hd] at hr2
    have hr3:zch (t[zai t n].name::namesT (t.drop (zai t n+1))):=hr2
    unfold zch at hr3
    rw[List.pairwise_cons] at hr3
    have:=hr3.1 e.name (List.mem_map.2 ⟨e,he,rfl⟩)
    rw[hn,hge] at this;cases this
theorem zlg{t:List zas}{x e:zas}{k:Nat}:e∈zgp t x k↔e=x∨e∈t:=by
 unfold zgp
 rw[List.mem_append,List.mem_cons]
 constructor
 ·rintro(h|h|h)
  ·exact Or.inr (List.mem_of_mem_take h)
  ·exact Or.inl h
  ·exact Or.inr (List.mem_of_mem_drop h)
 ·rintro(h|h)
  ·exact Or.inr (Or.inl h)
  ·rw[← List.take_append_drop k t,List.mem_append] at h
   rcases h with h|h
   ·exact Or.inl h
   ·exact Or.inr (Or.inr h)
theorem z0t{t:List zas}{x:zas}(hr:zch (namesT t))(hx:∀ e∈t,e.name≠x.name):zch (namesT (zgp t x (zai t x.name))):=by
 have h1:=zng t x.name
 have h2:=znf t x.name hr
 have hgt:∀ e∈t.drop (zai t x.name),ltB x.name e.name=true:=by
  intro e he
  cases hc:ltB x.name e.name with
  |true=>rfl
  |false=>exact absurd (zyd (h2 e he) hc) (hx e (List.mem_of_mem_drop he))
 have hr2:=hr
 rw[← List.take_append_drop (zai t x.name) t] at hr2
 unfold zch namesT at hr2 ⊢
 unfold zgp
 rw[List.map_append,List.pairwise_append] at hr2
 rw[List.map_append,List.map_cons,List.pairwise_append,List.pairwise_cons]
 refine⟨hr2.1,⟨?_,hr2.2.1⟩,?_⟩
 ·intro b hb
  obtain⟨e,he,rfl⟩:=List.mem_map.1 hb
  exact hgt e he
 ·intro a ha b hb
  obtain⟨e,he,rfl⟩:=List.mem_map.1 ha
  rcases List.mem_cons.1 hb with rfl|hb
  ·exact h1 e he
  ·exact hr2.2.2 _ ha b hb
structure Tab (t:List zas) (ls:List zbv):Prop where
 rise:zch (namesT t)
 names:∀ n,n∈namesT t↔∃ l∈ls,l.pred=n
 arity:∀ e∈t,∀ l∈ls,l.pred=e.name->l.args.length=e.arity
theorem Tab.step{t t':List zas}{ls:List zbv}{l:zbv}(h:Tab t ls)(ha:zpv t l=some t'):Tab t' (ls++[l]):=by
 unfold zpv at ha
 split at ha
 ·rename_i e he
  obtain⟨hm,hn⟩:=zn3 he
  split at ha
  ·rename_i har
   simp only[Option.some.injEq] at ha
   subst ha
   refine⟨h.rise,fun n=>?_,fun e' he' l' hl' hp=>?_⟩
   ·rw[h.names]
    constructor
    ·rintro⟨l',hl',hp⟩;exact⟨l',by simp[hl'],hp⟩
    ·rintro⟨l',hl',hp⟩
     rcases List.mem_append.1 hl' with hl'|hl'
     ·exact⟨l',hl',hp⟩
     ·simp at hl';subst hl'
      exact(h.names n).1 (List.mem_map.2 ⟨e,hm,by rw[hn,hp]⟩)
   ·rcases List.mem_append.1 hl' with hl'|hl'
    ·exact h.arity e' he' l' hl' hp
    ·simp at hl';subst hl'
     obtain⟨l0,hl0,hp0⟩:=(h.names e.name).1 (List.mem_map.2 ⟨e,hm,rfl⟩)
     rw[← har,← h.arity e hm l0 hl0 hp0]
     exact h.arity e' he' l0 hl0 (by rw[hp0,hn,hp])
  ·cases ha
 ·rename_i he
  simp only[Option.some.injEq] at ha
  subst ha
  have hout:=zk0 h.rise he
  refine⟨z0t h.rise hout,fun n=>?_,fun e' he' l' hl' hp=>?_⟩
  ·constructor
   ·intro hn
    obtain⟨e,hm,rfl⟩:=List.mem_map.1 hn
    rcases zlg.1 hm with rfl|hm
    ·exact⟨l,by simp,rfl⟩
    ·obtain⟨l',hl',hp⟩:=(h.names e.name).1 (List.mem_map.2 ⟨e,hm,rfl⟩)
     exact⟨l',by simp[hl'],hp⟩
   ·rintro⟨l',hl',hp⟩
    rcases List.mem_append.1 hl' with hl'|hl'
    ·obtain⟨e,hm,hen⟩:=List.mem_map.1 ((h.names n).2 ⟨l',hl',hp⟩)
     exact List.mem_map.2 ⟨e,zlg.2 (Or.inr hm),hen⟩
    ·simp at hl';subst hl'
     exact List.mem_map.2 ⟨_,zlg.2 (Or.inl rfl),hp⟩
  ·rcases zlg.1 he' with rfl|hm
   ·rcases List.mem_append.1 hl' with hl'|hl'
    ·obtain⟨e,hm,hen⟩:=List.mem_map.1 ((h.names l'.pred).2 ⟨l',hl',rfl⟩)
     exact absurd (hen.trans hp) (hout e hm)
    ·simp at hl';subst hl';rfl
   ·rcases List.mem_append.1 hl' with hl'|hl'
    ·exact h.arity e' hm l' hl' hp
    ·simp at hl';subst hl';exact absurd hp.symm (hout e' hm)
theorem z19:∀(ls done:List zbv) (t t':List zas),Tab t done->ls.foldl zm6 (some t)=some t'->Tab t' (done++ls)
 |[],done,t,t',h,e=>by simp at e;subst e;simpa using h
 |l::ls,done,t,t',h,e=>by
  rw[List.foldl_cons] at e
  cases ha:zpv t l with
  |none=>rw[show zm6 (some t) l=none from ha,zir] at e;cases e
  |some t2 =>
   rw[show zm6 (some t) l=some t2 from ha] at e
   have:=z19 ls (done++[l]) t2 t' (h.step ha) e
   rwa [List.append_assoc] at this
theorem z9n:Tab [] []:=⟨List.Pairwise.nil,fun n=>by simp[namesT],fun e he=>by cases he⟩
theorem zv7{cs:List zab}{t:List zas}(h:zgn cs=some t):Tab t (cs.flatMap za2):=by
 have:=z19 (cs.flatMap za2) [] [] t z9n h
 simpa using this
def up(l:zbv):Nat:=if l.neg then 1 else 0
def Sol(cs:List zab)(f:ByteArray->Nat):Prop:=∀ c∈cs,∀ l∈c.body,f l.pred+up l<=f c.head.pred
def Least(cs:List zab)(f:ByteArray->Nat):Prop:=Sol cs f/\∀ g,Sol cs g->∀ n,f n<=g n
theorem zug{cs:List zab}{g:ByteArray->Nat}(hg:Sol cs g):∃ f,Least cs f:=by
 have hmin:∀ n,∃ k,(∃ h,Sol cs h/\h n=k)/\∀ h,Sol cs h->k<=h n:=by
  intro n
  have aux:∀ m,(∃ h,Sol cs h/\h n<=m)->∃ k,(∃ h,Sol cs h/\h n=k)/\∀ h,Sol cs h->k<=h n:=by
   intro m
   induction m with
   |zero=>rintro⟨h,hs,h0⟩;exact⟨0,⟨h,hs,by omega⟩,fun _ _=>Nat.zero_le _⟩
   |succ m ih =>
    intro hm
    by_cases hx:∃ h,Sol cs h/\h n<=m
    ·exact ih hx
    ·obtain⟨h,hs,h0⟩:=hm
     have hlow:∀ h',Sol cs h'->m+1<=h' n:=fun h' hs'=>by
      false_or_by_contra;rename_i hc;exact hx ⟨h',hs',by omega⟩
     exact⟨m+1,⟨h,hs,by have:=hlow h hs;omega⟩,hlow⟩
  exact aux (g n) ⟨g,hg,Nat.le_refl _⟩
 refine⟨fun n=>(hmin n).choose,fun c hc l hl=>?_,fun h hs n=>(hmin n).choose_spec.2 h hs⟩
 obtain⟨⟨h,hs,hh⟩,-⟩:=(hmin c.head.pred).choose_spec
 have h1:=(hmin l.pred).choose_spec.2 h hs
 have h2:=hs c hc l hl
 simp only
 omega
theorem holes:∀(N:Nat) (L:List Nat),(∀ k,k<=N->k∈L)->N+1<=L.length
 |0,L,h=>by
  have:=h 0 (Nat.le_refl _)
  cases L with
  |nil=>cases this
  |cons=>simp
 |N+1,L,h=>by
  have hm:=h (N+1) (Nat.le_refl _)
  have:=holes N (L.erase (N+1)) fun k hk=>(List.mem_erase_of_ne (by omega)).2 (h k (by omega))
  rw[List.length_erase_of_mem hm] at this
  have:0 < L.length:=List.length_pos_of_mem hm
  omega
theorem z6w{cs:List zab}{f:ByteArray->Nat}(h:Least cs f){ps:List ByteArray}(hps:∀ c∈cs,∀ l∈za2 c,l.pred∈ps){n:ByteArray}(hn:n∈ps):f n < ps.length:=by
 false_or_by_contra
 rename_i hge
 have hx:∃ k,k<=ps.length/\k∉ps.map f:=by
  apply Classical.byContradiction
  intro hno
  have:=holes ps.length (ps.map f) fun k hk=>Classical.byContradiction fun hk2=>hno ⟨k,hk,hk2⟩
  rw[List.length_map] at this;omega
 obtain⟨k,hk,hkn⟩:=hx
 have hne:∀ m∈ps,f m≠k:=fun m hm e=>hkn (List.mem_map.2 ⟨m,hm,e⟩)
 have hs:Sol cs fun m=>if k < f m then f m - 1 else f m:=by
  intro c hc l hl
  have h1:=h.1 c hc l hl
  have h2:=hne l.pred (hps c hc l (by simp[za2,hl]))
  have h3:=hne c.head.pred (hps c hc c.head (by simp[za2]))
  have h4:up l<=1:=by unfold up;split <;> omega
  simp only
  split <;> split <;> omega
 have h5:=h.2 _ hs n
 have h6:=hne n hn
 split at h5 <;> omega
theorem zzs{cs:List zab}{f a b:ByteArray->Nat}(h:Least cs f)(hab:∀ n,a n<=b n)(hbf:∀ n,b n<=f n)(hstep:∀ c∈cs,∀ l∈c.body,a l.pred+up l<=b c.head.pred)
  (hsame:∀ n,b n=f n->a n=f n):∀ n,a n=f n:=by
 apply Classical.byContradiction
 intro hno
 have ⟨n,hn⟩:∃ n,¬ a n=f n:=Classical.byContradiction fun hx=>hno fun n=>Classical.byContradiction fun hc=>hx ⟨n,hc⟩
 have hs:Sol cs fun m=>if a m=f m then f m else f m - 1:=by
  intro c hc l hl
  have h1:=h.1 c hc l hl
  have h2:=hstep c hc l hl
  have h3:=hab c.head.pred
  have h4:=hbf c.head.pred
  have h5:=hsame c.head.pred
  have h6:=hab l.pred
  have h7:=hbf l.pred
  have h8:up l<=1:=by unfold up;split <;> omega
  simp only
  by_cases e1:a l.pred=f l.pred
  ·by_cases e2:a c.head.pred=f c.head.pred
   ·rw[if_pos e1,if_pos e2];exact h1
   ·have e3:¬ b c.head.pred=f c.head.pred:=fun e=>e2 (h5 e)
    rw[if_pos e1,if_neg e2];omega
  ·by_cases e2:a c.head.pred=f c.head.pred
   ·rw[if_neg e1,if_pos e2];omega
   ·rw[if_neg e1,if_neg e2];omega
 have h5:=h.2 _ hs n
 simp only[hn,if_false] at h5
 have h6:=hab n
 have h7:=hbf n
 omega
def val(t:List zas)(n:ByteArray):Nat:=match zbf t n with
 |some e=>e.stratum
 |none=>0
theorem zi3:∀ {t t':List zas},namesT t=namesT t'->∀ n,zai t n=zai t' n
 |[],[],_,_=>rfl
 |[],_::_,h,_=>by simp[namesT] at h
 |_::_,[],h,_=>by simp[namesT] at h
 |a::r,b::q,h,n=>by
  simp only[namesT,List.map_cons,List.cons.injEq] at h
  unfold zai
  rw[h.1,zi3 h.2 n]
theorem zum{t:List zas}{k:Nat}{e:zas}(hk:k < t.length)(he:e.name=t[k].name):namesT (t.set k e)=namesT t:=by
 unfold namesT
 rw[List.map_set,he]
 apply List.ext_getElem (by simp)
 intro i h1 h2
 rw[List.getElem_set]
 split
 ·rename_i h;subst h;simp
 ·rfl
theorem zu1(t:List zas)(n:ByteArray)(s:Nat):namesT (zcd t n s).1=namesT t:=by
 unfold zcd
 split
 ·rfl
 ·rename_i e he
  obtain⟨hk,h1,h2⟩:=zci he
  split
  ·rfl
  ·exact zum hk (by rw[h1])
theorem z2p{t:List zas}{n:ByteArray}{e:zas}(s:Nat)(he:zbf t n=some e)(m:ByteArray):zbf (t.set (zai t n) { e with stratum:=s }) m=if m=n then some { e with stratum:=s } else zbf t m:=by
 obtain⟨hk,h1,h2⟩:=zci he
 have hp:zai (t.set (zai t n) { e with stratum:=s }) m=zai t m:=zi3 (zum hk (by rw[h1])) m
 unfold zbf
 rw[hp,List.getElem?_set]
 by_cases hm:m=n
 ·subst hm
  rw[if_pos rfl,if_pos rfl,if_pos hk]
  simp[h2]
 ·rw[if_neg hm]
  by_cases hq:zai t n=zai t m
  ·rw[if_pos hq,if_pos hk,← hq,List.getElem?_eq_getElem hk,h1]
   simp[h2,Ne.symm hm]
  ·rw[if_neg hq]
theorem zvf(t:List zas)(n:ByteArray)(s:Nat)(m:ByteArray):val (zcd t n s).1 m=if m=n/\(zbf t n).isSome=true then max (val t n) s else val t m:=by
 unfold zcd
 cases he:zbf t n with
 |none=>simp
 |some e =>
  simp only[Option.isSome_some,and_true]
  have hv:val t n=e.stratum:=by simp[val,he]
  split
  ·split
   ·rename_i h1 h2;rw[h2,hv];omega
   ·rfl
  ·rename_i h1
   unfold val
   rw[z2p s he m,he]
   by_cases hm:m=n
   ·rw[if_pos hm,if_pos hm];simp only;omega
   ·rw[if_neg hm,if_neg hm]
theorem z0s(t:List zas)(n:ByteArray)(s:Nat):((zcd t n s).2=false->(zcd t n s).1=t)/\((zcd t n s).2=true->val t n < val (zcd t n s).1 n):=by
 constructor
 ·unfold zcd;split
  ·exact fun _=>rfl
  ·split
   ·exact fun _=>rfl
   ·intro h;cases h
 ·intro h
  rw[zvf]
  unfold zcd at h
  split at h
  ·cases h
  ·rename_i e he
   split at h
   ·cases h
   ·rename_i h1
    have hv:val t n=e.stratum:=by simp[val,he]
    rw[if_pos ⟨rfl,by simp[he]⟩];omega
theorem zya{t:List zas}:∀(b:List zbv) (n:Nat),n<=b.foldl (zfb t) n/\∀ l∈b,zvo t l<=b.foldl (zfb t) n
 |[],n=>⟨Nat.le_refl _,fun l hl=>by cases hl⟩
 |a::b,n=>by
  have ⟨h1,h2⟩:=zya (t:=t) b (zfb t n a)
  have h3:n<=zfb t n a/\zvo t a<=zfb t n a:=by unfold zfb;split <;> omega
  rw[List.foldl_cons]
  refine⟨by omega,fun l hl=>?_⟩
  rcases List.mem_cons.1 hl with rfl|hl
  ·omega
  ·exact h2 l hl
theorem zyb{t:List zas}{M:Nat}:∀(b:List zbv) (n:Nat),n<=M->(∀ l∈b,zvo t l<=M)->b.foldl (zfb t) n<=M
 |[],n,h,_=>h
 |a::b,n,h,hb=>by
  rw[List.foldl_cons]
  refine zyb b _ ?_ fun l hl=>hb l (by simp[hl])
  have:=hb a (by simp)
  unfold zfb;split <;> omega
theorem z6x{t:List zas}{l:zbv}(h:(zbf t l.pred).isSome=true):zvo t l=val t l.pred+up l:=by
 unfold zvo val up
 cases he:zbf t l.pred with
 |none=>rw[he] at h;cases h
 |some e=>simp only;split <;> rfl
theorem zqf(t:List zas)(n:ByteArray):(zbf t n).isSome=true↔(namesT t)[zai t n]?=some n:=by
 unfold zbf namesT
 rw[List.getElem?_map]
 cases h:t[zai t n]? with
 |none=>simp
 |some e =>
  simp only[Option.map_some,Option.some.injEq]
  split <;> simp[*]
theorem zmo{t t':List zas}(h:namesT t=namesT t')(n:ByteArray):(zbf t n).isSome=true↔(zbf t' n).isSome=true:=by
 rw[zqf,zqf,h,zi3 h n]
def zmy(t:List zas)(cs:List zab):Prop:=∀ c∈cs,∀ l∈za2 c,(zbf t l.pred).isSome=true
theorem zmy.names{t t':List zas}{cs:List zab}(h:zmy t cs)(hn:namesT t=namesT t'):zmy t' cs:=fun c hc l hl=>(zmo hn _).1 (h c hc l hl)
structure yah (x y:List zas × Bool) (ds:List zab):Prop where
 names:namesT y.1=namesT x.1
 grow:∀ n,val x.1 n<=val y.1 n
 step:∀ c∈ds,∀ l∈c.body,val x.1 l.pred+up l<=val y.1 c.head.pred
 low:∀ f,Sol ds f->(∀ n,val x.1 n<=f n)->∀ n,val y.1 n<=f n
 still:y.2=false->y.1=x.1/\x.2=false
 moved:y.2=true->x.2=true∨∃ n,val x.1 n < val y.1 n
theorem z7l{x:List zas × Bool}{c:zab}(h:zmy x.1 [c]):yah x (zes x c) [c]:=by
 have hh:(zbf x.1 c.head.pred).isSome=true:=h c (by simp) c.head (by simp[za2])
 have hl:∀ l∈c.body,zvo x.1 l=val x.1 l.pred+up l:=fun l hl=>z6x (h c (by simp) l (by simp[za2,hl]))
 have hv:=fun m=>zvf x.1 c.head.pred (zfg x.1 c) m
 have hf:=z0s x.1 c.head.pred (zfg x.1 c)
 refine⟨zu1 _ _ _,fun n=>?_,fun c' hc' l hlb=>?_,fun f hs hlow n=>?_,fun hst=>?_,fun hmv=>?_⟩
 ·show _<=val (zcd _ _ _).1 n
  rw[hv];split
  ·rename_i e;rw[e.1];omega
  ·omega
 ·simp at hc';subst hc'
  show _<=val (zcd _ _ _).1 _
  rw[hv,if_pos ⟨rfl,hh⟩,← hl l hlb]
  have:=(zya (t:=x.1) c'.body 0).2 l hlb
  unfold zfg;omega
 ·show val (zcd _ _ _).1 n<=_
  rw[hv]
  split
  ·rename_i e
   rw[e.1]
   have h1:=hlow c.head.pred
   have h2:zfg x.1 c<=f c.head.pred:=by
    unfold zfg
    refine zyb c.body 0 (Nat.zero_le _) fun l hlb=>?_
    have:=hs c (by simp) l hlb
    have:=hlow l.pred
    rw[hl l hlb];omega
   omega
  ·exact hlow n
 ·have h2:(x.2 || (zcd x.1 c.head.pred (zfg x.1 c)).2)=false:=hst
  rw[Bool.or_eq_false_iff] at h2
  exact⟨hf.1 h2.2,h2.1⟩
 ·have h2:(x.2 || (zcd x.1 c.head.pred (zfg x.1 c)).2)=true:=hmv
  rw[Bool.or_eq_true] at h2
  rcases h2 with h2|h2
  ·exact Or.inl h2
  ·exact Or.inr ⟨_,hf.2 h2⟩
theorem zne:∀(ds:List zab) (x:List zas × Bool),zmy x.1 ds->yah x (ds.foldl zes x) ds
 |[],x,_=>⟨rfl,fun _=>Nat.le_refl _,fun c hc=>by(cases hc),fun _ _ h=>h,fun h=>⟨rfl,h⟩,fun h=>Or.inl h⟩
 |c::ds,x,h=>by
  have p1:=z7l (x:=x) (c:=c) fun c' hc'=>by simp at hc';subst hc';exact h c' (by simp)
  have p2:=zne ds (zes x c) (zmy.names (fun c' hc'=>h c' (by simp[hc'])) p1.names.symm)
  rw[List.foldl_cons]
  refine⟨p2.names.trans p1.names,fun n=>Nat.le_trans (p1.grow n) (p2.grow n),fun c' hc' l hl=>?_,fun f hs hlow=>?_,fun hst=>?_,fun hmv=>?_⟩
  ·rcases List.mem_cons.1 hc' with rfl|hc'
   ·exact Nat.le_trans (p1.step c' (by simp) l hl) (p2.grow _)
   ·have:=p2.step c' hc' l hl
    have:=p1.grow l.pred
    omega
  ·exact p2.low f (fun c' hc'=>hs c' (by simp[hc'])) (p1.low f (fun c' hc'=>by simp at hc';subst hc';exact hs c' (by simp)) hlow)
  ·have h2:=p2.still hst
   have h1:=p1.still h2.2
   exact⟨h2.1.trans h1.1,h1.2⟩
  ·rcases p2.moved hmv with h2|⟨n,h2⟩
   ·rcases p1.moved h2 with h1|⟨n,h1⟩
    ·exact Or.inl h1
    ·exact Or.inr ⟨n,Nat.lt_of_lt_of_le h1 (p2.grow n)⟩
   ·exact Or.inr ⟨n,Nat.lt_of_le_of_lt (p1.grow n) h2⟩
theorem zxl{t:List zas}{n:ByteArray}(h:n∉namesT t):val t n=0:=by
 unfold val
 split
 ·rename_i e he
  obtain⟨hm,hn⟩:=zn3 he
  exact absurd (List.mem_map.2 ⟨e,hm,hn⟩) h
 ·rfl
def rest(f:ByteArray->Nat)(t:List zas):Nat:=((namesT t).filter fun n=>decide (val t n≠f n)).length
theorem z9k{f:ByteArray->Nat}{t t':List zas}(hn:namesT t'=namesT t)(hmono:∀ n,val t n=f n->val t' n=f n){m:ByteArray}(hm:m∈namesT t)(h1:val t m≠f m)(h2:val t' m=f m):rest f t' < rest f t:=by
 unfold rest
 rw[hn]
 generalize namesT t=ns at hm
 have hle:∀ l:List ByteArray,(l.filter fun n=>decide (val t' n≠f n)).length<=(l.filter fun n=>decide (val t n≠f n)).length:=by
  intro l
  induction l with
  |nil=>simp
  |cons a l ih =>
   by_cases ha:val t a=f a
   ·simp[ha,hmono a ha];simpa using ih
   ·by_cases hb:val t' a=f a
    ·simp[ha,hb];have:=ih;simp at this;omega
    ·simp[ha,hb];simpa using ih
 induction ns with
 |nil=>cases hm
 |cons a ns ih =>
  have hns:=hle ns
  rcases List.mem_cons.1 hm with rfl|hm
  ·simp[h1,h2];simp at hns;omega
  ·have:=ih hm
   by_cases ha:val t a=f a
   ·simp[ha,hmono a ha];simpa using this
   ·by_cases hb:val t' a=f a
    ·simp[ha,hb];simp at this;omega
    ·simp[ha,hb];simpa using this
theorem zu9{f:ByteArray->Nat}:∀(m:Nat) (t:List zas) (cs:List zab),zmy t cs->Sol cs f->(∀ n,val t n<=f n)->∀ n,val (zdb m t cs).1 n<=f n
 |0,_,_,_,_,h=>h
 |m+1,t,cs,h,hs,hlow=>by
  have p:=zne cs (t,false) h
  have:=p.low f hs hlow
  unfold zdb
  split
  ·exact zu9 m _ cs (h.names p.names.symm) hs this
  ·exact this
theorem zlp:∀(m:Nat) (t:List zas) (cs:List zab),zmy t cs->(zdb m t cs).2=true->Sol cs (val (zdb m t cs).1)
 |0,_,_,_,h=>by cases h
 |m+1,t,cs,h,ht=>by
  have p:=zne cs (t,false) h
  unfold zdb at ht ⊢
  split at ht
  ·rename_i hc
   rw[if_pos hc]
   exact zlp m _ cs (h.names p.names.symm) ht
  ·rename_i hc
   rw[if_neg hc]
   have h1:=(p.still (by simpa [zb5] using hc)).1
   intro c hcc l hl
   have h2:=p.step c hcc l hl
   show val (cs.foldl zes (t,false)).1 l.pred+up l<=val (cs.foldl zes (t,false)).1 c.head.pred
   rw[h1] at h2 ⊢
   exact h2
theorem zrb{f:ByteArray->Nat}{cs:List zab}(hf:Least cs f):∀(m:Nat) (t:List zas),zmy t cs->(∀ n,val t n<=f n)->rest f t < m->(zdb m t cs).2=true
 |0,_,_,_,h=>by omega
 |m+1,t,h,hlow,hr=>by
  have p:=zne cs (t,false) h
  have hlow2:=p.low f hf.1 hlow
  unfold zdb
  split
  ·rename_i hc
   refine zrb hf m _ (h.names p.names.symm) hlow2 ?_
   have hno:¬ ∀ n,val t n=f n:=by
    intro hall
    rcases p.moved hc with h1|⟨n,h1⟩
    ·cases h1
    ·have:=hlow2 n;have:=hall n;simp only at h1;omega
   have ⟨n,hn1,hn2⟩:∃ n,val (cs.foldl zes (t,false)).1 n=f n/\val t n≠f n:=by
    apply Classical.byContradiction
    intro hx
    exact hno (zzs hf p.grow hlow2 p.step fun n hb=>Classical.byContradiction fun hc=>hx ⟨n,hb,hc⟩)
   have hm:n∈namesT t:=by
    apply Classical.byContradiction
    intro hx
    have h1:=zxl hx
    have h2:val (cs.foldl zes (t,false)).1 n=0:=zxl (by rw[p.names];exact hx)
    omega
   have:=z9k (f:=f) (t:=t) p.names (fun k hk=>Nat.le_antisymm (hlow2 k) (by rw[← hk];exact p.grow k)) hm hn2 hn1
   show rest f (cs.foldl zes (t,false)).1 < m
   omega
  ·rfl
theorem z5c{cs:List zab}{t:List zas}(h:zmy t cs)(h0:∀ n,val t n=0):((zdb (t.length+1) t cs).2=true↔∃ f,Sol cs f)/\((zdb (t.length+1) t cs).2=true->Least cs (val (zdb (t.length+1) t cs).1)):=by
 refine⟨⟨fun e=>⟨_,zlp _ t cs h e⟩,?_⟩,fun e=>⟨zlp _ t cs h e,fun g hg=>zu9 _ t cs h hg fun n=>by rw[h0];omega⟩⟩
 rintro⟨g,hg⟩
 obtain⟨f,hf⟩:=zug hg
 refine zrb hf _ t h (fun n=>by rw[h0];omega) ?_
 have:=List.length_filter_le (fun n=>decide (val t n≠f n)) (namesT t)
 have h2:(namesT t).length=t.length:=by simp[namesT]
 unfold rest;omega
structure Parts (cs:List zab) (t0 t:List zas):Prop where
 few:prW cs<=500
 many:∀ c∈cs,zel c=false
 coll:zgn cs=some t0
 tab:Tab t0 (cs.flatMap za2)
 safe:∀ c∈cs,zfc c=true
 strat:zdb (t0.length+1) t0 cs=(t,true)
theorem z9o{s:ByteArray}{cs:List zab}{t:List zas}(h:znz s=.ok (cs,t)):∃ t0,Parts cs t0 t:=by
 unfold znz at h
 split at h
 ·cases h
 ·rename_i hs
  split at h
  ·cases h
  ·rename_i tl hS
   split at h
   ·cases h
   ·rename_i cs2 hP
    split at h
    ·cases h
    ·rename_i hm
     split at h
     ·cases h
     ·rename_i t0 hC
      split at h
      ·rename_i hsafe
       split at h
       ·rename_i hst
        simp only[Except.ok.injEq,Prod.mk.injEq] at h
        obtain⟨rfl,rfl⟩:=h
        refine⟨t0,?_,fun c hc=>?_,hC,zv7 hC,fun c hc=>List.all_eq_true.1 hsafe c hc,?_⟩
        ·have h1:=zwy hP
         have h2:=zq9 hS
         omega
        ·cases hq:zel c with
         |false=>rfl
         |true=>exact absurd (List.any_eq_true.2 ⟨c,hc,hq⟩) hm
        ·rw[← hst]
       ·cases h
      ·cases h
def arT(t:List zas):List (ByteArray × Nat):=t.map fun e=>(e.name,e.arity)
theorem z1s(t:List zas)(n:ByteArray)(s:Nat):arT (zcd t n s).1=arT t:=by
 unfold zcd
 split
 ·rfl
 ·rename_i e he
  split
  ·rfl
  ·obtain⟨hk,h1,h2⟩:=zci he
   unfold arT
   refine List.ext_getElem (by simp) fun i h3 h4=>?_
   simp only[List.getElem_map,List.getElem_set]
   split
   ·rename_i e2
    subst e2
    rw[h1]
   ·rfl
theorem z1r:∀(cs:List zab) (x:List zas × Bool),arT (cs.foldl zes x).1=arT x.1
 |[],_=>rfl
 |c::cs,x=>by
  rw[List.foldl_cons,z1r cs]
  exact z1s _ _ _
theorem zit:∀(m:Nat) (t:List zas) (cs:List zab),arT (zdb m t cs).1=arT t
 |0,_,_=>rfl
 |m+1,t,cs=>by
  have h1:arT (zb5 t cs).1=arT t:=z1r cs (t,false)
  unfold zdb
  split
  ·rw[zit m,h1]
  ·exact h1
theorem zs4{t t':List zas}(h:arT t=arT t'):namesT t=namesT t':=by
 have:=congrArg (List.map Prod.fst) h
 simpa [arT,namesT,Function.comp_def] using this
theorem Parts.lit{cs:List zab}{t0 t:List zas}(h:Parts cs t0 t){c:zab}(hc:c∈cs){l:zbv}(hl:l∈za2 c):∃ e,zbf t l.pred=some e/\e.name=l.pred/\zbg t l.pred < t.length/\(t.map (·.arity)).getD (zbg t l.pred) 0=l.args.length/\zbg t l.pred=zai t l.pred:=by
 have hAr:arT t=arT t0:=by have:=zit (t0.length+1) t0 cs;rw[h.strat] at this;exact this
 have hmem:l∈cs.flatMap za2:=List.mem_flatMap.2 ⟨c,hc,hl⟩
 have hin0:(zbf t0 l.pred).isSome=true:=by
  cases he:zbf t0 l.pred with
  |some e=>rfl
  |none =>
   obtain⟨e,hm,hn⟩:=List.mem_map.1 ((h.tab.names l.pred).2 ⟨l,hmem,rfl⟩)
   exact absurd hn (zk0 h.tab.rise he e hm)
 have hin:(zbf t l.pred).isSome=true:=(zmo (zs4 hAr).symm _).1 hin0
 obtain⟨e,he⟩:=Option.isSome_iff_exists.1 hin
 obtain⟨hk,h1,h2⟩:=zci he
 have hfn:zbg t l.pred=zai t l.pred:=by unfold zbg;rw[if_pos hin]
 refine⟨e,he,h2,by rw[hfn];exact hk,?_,hfn⟩
 rw[hfn]
 have e1:(t.map (·.arity)).getD (zai t l.pred) 0=e.arity:=by simp[List.getD,hk,h1]
 rw[e1]
 have hpair:(e.name,e.arity)∈arT t0:=by
  rw[← hAr]
  exact List.mem_map.2 ⟨e,by rw[← h1];exact List.getElem_mem hk,rfl⟩
 obtain⟨e0,m1,m2⟩:=List.mem_map.1 hpair
 simp only[Prod.mk.injEq] at m2
 rw[← m2.2]
 exact(h.tab.arity e0 m1 l hmem (by rw[m2.1,h2])).symm
theorem Parts.sol{cs:List zab}{t0 t:List zas}(h:Parts cs t0 t):Sol cs (val t):=by
 have hall:zmy t0 cs:=by
  intro c hc l hl
  have hmem:l∈cs.flatMap za2:=List.mem_flatMap.2 ⟨c,hc,hl⟩
  cases he:zbf t0 l.pred with
  |some e=>rfl
  |none =>
   obtain⟨e,hm,hn⟩:=List.mem_map.1 ((h.tab.names l.pred).2 ⟨l,hmem,rfl⟩)
   exact absurd hn (zk0 h.tab.rise he e hm)
 have:=zlp (t0.length+1) t0 cs hall (by rw[h.strat])
 rw[h.strat] at this
 exact this
theorem zi8(t:List zas)(n:ByteArray):zd3 t n=val t n:=rfl
theorem z6o{t:List zas}{a b:ByteArray}{ea eb:zas}(h1:zbf t a=some ea)(h2:zbf t b=some eb)(e:zai t a=zai t b):a=b:=by
 obtain⟨ka,a1,a2⟩:=zci h1
 obtain⟨kb,b1,b2⟩:=zci h2
 have:ea=eb:=by rw[← a1,← b1];simp[e]
 rw[← a2,← b2,this]
theorem zf9(p:Nat)(ts:List zbn)(x:zbn):(zc8 p ts x).var=x.var/\(zc8 p ts x).num=x.num:=by unfold zc8;split <;> exact⟨rfl,rfl⟩
theorem zr4(t:List zas)(ns vs:List ByteArray)(pl:List Nat)(l:zbv)(p:Nat):zde (zdz t ns vs pl l) p=zde ⟨0,zbe ns vs pl l⟩ p:=by
 unfold zde zdz
 simp only[List.any_map]
 congr 1
 funext x
 simp only[Function.comp,(zf9 0 _ x).1,(zf9 0 _ x).2]
theorem z0d(t:List zas)(ns vs:List ByteArray)(pl:List Nat)(l:zbv)(p:Nat):zbq (zdz t ns vs pl l) p=zbq ⟨0,zbe ns vs pl l⟩ p:=by
 unfold zbq
 rw[zr4,show zde (zdz t ns vs pl l)=zde ⟨0,zbe ns vs pl l⟩ from funext (zr4 t ns vs pl l)]
theorem z5h(ns:List ByteArray)(x:ByteArray):(zc4 ns x).getD 0 < za4 ns.length:=by
 unfold zc4 za4
 split
 ·rename_i h
  simp only[Option.getD_some]
  split <;> omega
 ·simp only[Option.getD_none]
  split <;> omega
theorem zr5(t:List zas)(ns vs:List ByteArray)(pl:List Nat)(l:zbv)(hp:∀ k,pl.getD k 0 < 5)(h3:l.args.length<=3):zhj (zdz t ns vs pl l) l.args.length (za4 ns.length):=by
 have hterm:∀ x∈(zdz t ns vs pl l).terms,∃ y∈l.args,x=zc8 0 (zbe ns vs pl l) (zgh ns vs pl y)/\zgh ns vs pl y∈zbe ns vs pl l:=by
  intro x hx
  unfold zdz at hx
  simp only[List.mem_map] at hx
  obtain⟨z,hz,rfl⟩:=hx
  have hz':=hz
  unfold zbe at hz
  obtain⟨y,hy,rfl⟩:=List.mem_map.1 hz
  exact⟨y,hy,rfl,hz'⟩
 refine⟨by simp[zdz,zbe],h3,fun x hx hv=>?_,fun x hx hv=>?_⟩
 ·obtain⟨y,hy,rfl,hm⟩:=hterm x hx
  obtain⟨e1,e2⟩:=zf9 0 (zbe ns vs pl l) (zgh ns vs pl y)
  rw[e1] at hv
  rw[e2,z0d]
  refine⟨?_,?_⟩
  ·unfold zgh at hv ⊢
   split
   ·unfold zhd
    split
    ·exact Nat.lt_of_sub_eq_succ rfl
    ·split
     ·exact Nat.lt_of_sub_eq_succ rfl
     ·exact hp _
   ·rename_i hn
    rw[if_neg hn] at hv
    cases hv
  ·have hh:zde ⟨0,zbe ns vs pl l⟩ (zgh ns vs pl y).num=true:=(zff _ _).2 ⟨_,hm,hv,rfl⟩
   unfold zc8
   rw[if_pos hv]
   simp only
   unfold zbq
   rw[if_pos hh]
   rfl
 ·obtain⟨y,hy,rfl,hm⟩:=hterm x hx
  obtain⟨e1,e2⟩:=zf9 0 (zbe ns vs pl l) (zgh ns vs pl y)
  rw[e1] at hv
  rw[e2]
  unfold zgh at hv ⊢
  split
  ·rename_i hn
   rw[if_pos hn] at hv
   cases hv
  ·exact z5h ns y
theorem zog{t:List zas}{ns vs:List ByteArray}{pl:List Nat}{l:zbv}{p:Nat}:zde (zdz t ns vs pl l) p=true↔∃ y∈l.args,zbh y=true/\zhd vs pl y=p:=by
 rw[zr4,zff]
 constructor
 ·rintro⟨x,hx,h1,h2⟩
  unfold zbe at hx
  obtain⟨y,hy,rfl⟩:=List.mem_map.1 hx
  unfold zgh at h1 h2
  by_cases hv:zbh y=true
  ·rw[if_pos hv] at h2
   exact⟨y,hy,hv,h2⟩
  ·rw[if_neg hv] at h1;cases h1
 ·rintro⟨y,hy,hv,e⟩
  refine⟨zgh ns vs pl y,List.mem_map.2 ⟨y,hy,rfl⟩,?_,?_⟩
  ·unfold zgh;rw[if_pos hv]
  ·unfold zgh;rw[if_pos hv];exact e
theorem zy4{vs:List ByteArray}(h:vs.Nodup)(x:ByteArray):(zsp vs x).Nodup:=by
 unfold zsp
 split
 ·rename_i hc
  simp only[Bool.and_eq_true,Bool.not_eq_true'] at hc
  rw[List.nodup_append]
  refine⟨h,by simp,fun a ha b hb=>?_⟩
  simp at hb
  subst hb
  rintro rfl
  rw[zf3.2 ha] at hc
  cases hc.2
 ·exact h
theorem zns:∀(args vs:List ByteArray),vs.Nodup->(zez vs args).Nodup
 |[],_,h=>h
 |x::r,vs,h=>zns r (zsp vs x) (zy4 h x)
theorem zlk(c:zab):(zah c).Nodup:=by
 have:∀(ls:List zbv) (vs:List ByteArray),vs.Nodup->(ls.foldl zer vs).Nodup:=by
  intro ls
  induction ls with
  |nil=>intro vs h;exact h
  |cons l ls ih =>
   intro vs h
   rw[List.foldl_cons]
   refine ih _ ?_
   unfold zer
   split
   ·exact h
   ·exact zns _ _ h
 exact this c.body [] List.nodup_nil
theorem zjd{α:Type}[DecidableEq α]:∀ {l1 l2:List α},l1.Nodup->(∀ x∈l1,x∈l2)->l1.length<=l2.length
 |[],l2,_,_=>by simp
 |a::l1,l2,hn,hs=>by
  have ha:=hs a (by simp)
  have h1:=zjd (l1:=l1) (l2:=l2.erase a) (List.nodup_cons.1 hn).2 (fun x hx=>by
   have hne:x≠a:=by rintro rfl;exact(List.nodup_cons.1 hn).1 hx
   exact(List.mem_erase_of_ne hne).2 (hs x (by simp[hx])))
  rw[List.length_erase_of_mem ha] at h1
  have:=List.length_pos_of_mem ha
  simp;omega
theorem zms:∀ {l:List ByteArray} (_:l.Nodup) {k:Nat} (hk:k < l.length),zbi l l[k]=some k
 |y::r,hn,0,_=>by simp[zbi]
 |y::r,hn,k+1,hk=>by
  have hk':k < r.length:=by simpa using hk
  have hne:y≠r[k]:=by
   rintro e
   exact(List.nodup_cons.1 hn).1 (e ▸ List.getElem_mem hk')
  simp only[List.getElem_cons_succ,zbi,if_neg hne,zms (List.nodup_cons.1 hn).2 hk',Option.map_some]
theorem zsa:∀ {ps:List ByteArray} {n:ByteArray},n∈ps->∃ k,k < ps.length/\zbi ps n=some k:=fun{ps n} h=>by
 have:(zbi ps n).isSome=true:=by rw[zkn];exact zf3.2 h
 obtain⟨k,hk⟩:=Option.isSome_iff_exists.1 this
 obtain⟨h1,_⟩:=zow hk
 exact⟨k,h1,hk⟩
theorem zft{c:zab}(h:zel c=false):c.head.args.length<=3/\c.body.length<=6/\(∀ l∈c.body,l.args.length<=3)/\(zj8 c).length<=5:=by
 simp only[zel,Bool.or_eq_false_iff,decide_eq_false_iff_not,List.any_eq_false,decide_eq_true_eq] at h
 obtain⟨⟨⟨h1,h2⟩,h3⟩,h4⟩:=h
 exact⟨by omega,by omega,fun l hl=>by have:=h3 l hl;omega,by omega⟩
theorem zi4{c:zab}(h:zel c=false):(zah c).length<=5:=by
 have h1:=(zft h).2.2.2
 have:=zjd (zlk c) (l2:=zj8 c) (fun x hx=>by
  obtain⟨a,l,b,_,d⟩:=zki.1 hx
  exact z3w.2 ⟨a,Or.inr ⟨l,b,d⟩⟩)
 omega
structure znl (pl:List Nat) (k:Nat):Prop where
 five:∀ i,pl.getD i 0 < 5
 low:∀ i,i < k->pl.getD i 0 < k
 onto:∀ p,p < k->∃ i,i < k/\pl.getD i 0=p
theorem z7q{cs:List zab}{t0 t:List zas}(h:Parts cs t0 t){c:zab}(hc:c∈cs)(ns:List ByteArray)(o:Option (List Int))(hp:znl (zca (o.getD [])) (zah c).length):znm (zo2 t ns c o) (t.map (·.arity)) (za4 ns.length):=by
 have hm:=h.many c hc
 obtain⟨m1,m2,m3,m4⟩:=zft hm
 have h5:=zi4 hm
 have hs:=h.safe c hc
 simp only[zfc,Bool.and_eq_true,List.all_eq_true,Bool.or_eq_true,Bool.not_eq_true'] at hs
 have hplace:∀ {l:zbv} {p:Nat},(∀ y∈l.args,zbh y=true->y∈zah c)->zde (zdz t ns (zah c) (zca (o.getD [])) l) p=true->p < (zah c).length:=by
  intro l p hv hh
  obtain⟨y,y1,y2,y3⟩:=zog.1 hh
  obtain⟨k,k1,k2⟩:=zsa (hv y y1 y2)
  unfold zhd at y3
  rw[k2] at y3
  simp only at y3
  rw[if_neg (by omega)] at y3
  rw[← y3]
  exact hp.low k k1
 have hvhead:∀ y∈c.head.args,zbh y=true->y∈zah c:=zn1.1 hs.1
 have hvbody:∀ l∈c.body,∀ y∈l.args,zbh y=true->y∈zah c:=by
  intro l hl y hy hv
  cases hn:l.neg with
  |false=>exact zki.2 ⟨hv,l,hl,hn,hy⟩
  |true =>
   rcases hs.2 l hl with q|q
   ·rw[hn] at q;cases q
   ·exact zn1.1 q y hy hv
 have hlit:∀ l∈c.body,(zdz t ns (zah c) (zca (o.getD [])) l).pred < (t.map (·.arity)).length/\zhj (zdz t ns (zah c) (zca (o.getD [])) l) ((t.map (·.arity)).getD (zdz t ns (zah c) (zca (o.getD [])) l).pred 0) (za4 ns.length):=by
  intro l hl
  obtain⟨e,_,_,q3,q4,_⟩:=h.lit hc (l:=l) (by simp[za2,hl])
  refine⟨by simpa [zdz] using q3,?_⟩
  show zhj _ ((t.map (·.arity)).getD (zbg t l.pred) 0) _
  rw[q4]
  exact zr5 t ns _ _ l hp.five (m3 l hl)
 obtain⟨e,_,_,q3,q4,_⟩:=h.lit hc (l:=c.head) (by simp[za2])
 refine⟨⟨h5,fun l hl=>?_,fun l hl p hh=>?_,fun l hl p hh=>?_,fun p hh=>hplace hvhead hh,fun p hpp=>?_⟩,by simpa [zo2,zdz] using q3,?_,fun l hl=>?_,fun l hl=>?_⟩
 ·obtain⟨x,hx,rfl⟩:=List.mem_map.1 hl
  have:=(hlit x (List.mem_filter.1 hx).1).2
  have:=m3 x (List.mem_filter.1 hx).1
  simp[zdz,zbe];omega
 ·obtain⟨x,hx,rfl⟩:=List.mem_map.1 hl
  exact hplace (hvbody x (List.mem_filter.1 hx).1) hh
 ·obtain⟨x,hx,rfl⟩:=List.mem_map.1 hl
  exact hplace (hvbody x (List.mem_filter.1 hx).1) hh
 ·obtain⟨i,i1,i2⟩:=hp.onto p hpp
  have hmem:=List.getElem_mem i1
  obtain⟨v1,l,v2,v3,v4⟩:=zki.1 hmem
  refine⟨_,List.mem_map.2 ⟨l,List.mem_filter.2 ⟨v2,by simp[v3]⟩,rfl⟩,zog.2 ⟨_,v4,v1,?_⟩⟩
  unfold zhd
  rw[zms (zlk c) i1]
  simp only
  rw[if_neg (by omega)]
  exact i2
 ·show zhj _ ((t.map (·.arity)).getD (zbg t c.head.pred) 0) _
  rw[q4]
  exact zr5 t ns _ _ c.head hp.five m1
 ·obtain⟨x,hx,rfl⟩:=List.mem_map.1 hl
  exact hlit x (List.mem_filter.1 hx).1
 ·obtain⟨x,hx,rfl⟩:=List.mem_map.1 hl
  exact hlit x (List.mem_filter.1 hx).1
theorem z4w{cs:List zab}{t0 t:List zas}(h:Parts cs t0 t)(ns:List ByteArray)(os:Option (List (Option (List Int))))(hp:∀ i (hi:i < cs.length),znl (zca ((zeq os i).getD [])) (zah cs[i]).length):z5v (zjw t ns os cs):=by
 have harr:∀ a∈t.map (·.arity),a<=3:=by
  intro a ha
  obtain⟨e,he,rfl⟩:=List.mem_map.1 ha
  have hAr:arT t=arT t0:=by have:=zit (t0.length+1) t0 cs;rw[h.strat] at this;exact this
  have hpair:(e.name,e.arity)∈arT t0:=by rw[← hAr];exact List.mem_map.2 ⟨e,he,rfl⟩
  obtain⟨e0,m1,m2⟩:=List.mem_map.1 hpair
  simp only[Prod.mk.injEq] at m2
  obtain⟨l,l1,l2⟩:=(h.tab.names e0.name).1 (List.mem_map.2 ⟨e0,m1,rfl⟩)
  have:=h.tab.arity e0 m1 l l1 l2
  obtain⟨c,hc,hl⟩:=List.mem_flatMap.1 l1
  obtain⟨q1,_,q3,_⟩:=zft (h.many c hc)
  rw[← m2.2,← this]
  rcases List.mem_cons.1 hl with rfl|hl
  ·exact q1
  ·exact q3 l hl
 have hW:0 < za4 ns.length:=by unfold za4;split <;> omega
 have hrule:∀ r∈zfk t ns os cs,∃ i,∃ hi:i < cs.length,0 < cs[i].body.length/\r=zo2 t ns cs[i] (zeq os i):=by
  intro r hr
  unfold zfk at hr
  obtain⟨⟨c,i⟩,h1,h2⟩:=List.mem_filterMap.1 hr
  have h3:=List.mem_zipIdx_iff_getElem?.1 h1
  simp only at h2 h3
  obtain⟨hi,rfl⟩:=List.getElem?_eq_some_iff.1 h3
  split at h2
  ·rename_i hb
   simp only[Option.some.injEq] at h2
   exact⟨i,hi,hb,h2.symm⟩
  ·cases h2
 refine⟨harr,fun f hf=>?_,fun r hr=>?_,fun r hr r' hr' hst l hl=>?_⟩
 ·have hf':f∈zep t ns cs:=hf
  unfold zep at hf'
  obtain⟨c,hc,rfl⟩:=List.mem_map.1 hf'
  have hcm:=(List.mem_filter.1 hc).1
  obtain⟨e,_,_,q3,q4,_⟩:=h.lit hcm (l:=c.head) (by simp[za2])
  have hwf:zhj (zdz t ns [] [0,0,0,0,0] c.head) c.head.args.length (za4 ns.length):=zr5 t ns [] _ c.head (fun k=>by
   by_cases hk:k < 5
   ·have:k=0∨k=1∨k=2∨k=3∨k=4:=by omega
    rcases this with rfl|rfl|rfl|rfl|rfl <;> decide
   ·simp[List.getD,List.getElem?_eq_none (show([0,0,0,0,0]:List Nat).length<=k by simp;omega)]) (zft (h.many c hcm)).1
  refine⟨by simpa [ziu,zjw] using q3,?_,?_⟩
  ·show Canon ((t.map (·.arity)).getD (zbg t c.head.pred) 0) _
   rw[q4]
   exact zji hwf _
  ·refine zq4 hwf hW fun p _=>?_
   by_cases hk:p < 5
   ·have:p=0∨p=1∨p=2∨p=3∨p=4:=by omega
    rcases this with rfl|rfl|rfl|rfl|rfl <;> exact hW
   ·rw[show([0,0,0,0,0]:List Nat).getD p 0=0 by simp[List.getD,List.getElem?_eq_none (show([0,0,0,0,0]:List Nat).length<=p by simp;omega)]]
    exact hW
 ·obtain⟨i,hi,_,rfl⟩:=hrule r hr
  exact z7q h (List.getElem_mem hi) ns _ (hp i hi)
 ·obtain⟨i,hi,_,rfl⟩:=hrule r hr
  obtain⟨j,hj,_,rfl⟩:=hrule r' hr'
  obtain⟨x,hx,rfl⟩:=List.mem_map.1 hl
  have hxb:=(List.mem_filter.1 hx).1
  have hxn:x.neg=true:=by simpa using(List.mem_filter.1 hx).2
  have hsol:=h.sol cs[i] (List.getElem_mem hi) x hxb
  unfold up at hsol
  rw[if_pos hxn] at hsol
  obtain⟨e1,a1,_,_,_,a5⟩:=h.lit (List.getElem_mem hi) (l:=x) (by simp[za2,hxb])
  obtain⟨e2,b1,_,_,_,b5⟩:=h.lit (List.getElem_mem hj) (l:=cs[j].head) (by simp[za2])
  intro e
  have e':zbg t x.pred=zbg t cs[j].head.pred:=e
  rw[a5,b5] at e'
  have hname:=z6o a1 b1 e'
  have hst':zd3 t cs[i].head.pred=zd3 t cs[j].head.pred:=hst
  rw[zi8,zi8,← hname] at hst'
  omega
theorem zqy{k:Nat}(hk:k<=5):znl (zca []) k:=by
 have e:zca []=[0,1,2,3,4]:=rfl
 have hg:∀ i,i < 5->([0,1,2,3,4]:List Nat).getD i 0=i:=by
  intro i hi
  have:i=0∨i=1∨i=2∨i=3∨i=4:=by omega
  rcases this with rfl|rfl|rfl|rfl|rfl <;> rfl
 rw[e]
 refine⟨fun i=>?_,fun i hi=>by rw[hg i (by omega)];exact hi,fun p hp=>⟨p,hp,hg p (by omega)⟩⟩
 by_cases hi:i < 5
 ·rw[hg i hi];exact hi
 ·simp[List.getD,List.getElem?_eq_none (show([0,1,2,3,4]:List Nat).length<=i by simp;omega)]
end Go.Proofs.YteampbddflhngaaGreat
