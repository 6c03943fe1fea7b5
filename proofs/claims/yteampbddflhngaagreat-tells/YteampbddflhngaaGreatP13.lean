import Derived.Test.YteampbddflhngaaGreatP11
import Derived.Test.YteampbddflhngaaGreatP12
import Derived.Test.YteampbddflhngaaGreatP05
import Derived.Test.YteampbddflhngaaGreatP02
import Derived.Test.YteampbddflhngaaGreatP04

/- What is wrong with a text: too many, not safe. -/
namespace Go.Proofs.YteampbddflhngaaGreat

theorem many_same (c : PClause) : manyR c = manyC c := by
  unfold manyR manyH manyC litsOf longL
  rw [List.any_cons]
  generalize decide (6 < c.body.length) = a
  generalize decide (5 < (allVs c).length) = b
  generalize decide (3 < c.head.args.length) = d
  generalize (c.body.any fun l => decide (3 < l.args.length)) = e
  cases a <;> cases b <;> cases d <;> cases e <;> rfl
theorem mem_addV {v t : ByteArray} {vs : List ByteArray} : v ∈ addV vs t ↔ v ∈ vs ∨ (v = t ∧ isVarB v = true) := by
  unfold addV
  cases hv : isVarB t with
  | false =>
    simp only [Bool.false_and, Bool.false_eq_true, if_false]
    exact ⟨Or.inl, fun h => h.elim id fun x => by have g := x.2; rw [x.1, hv] at g; cases g⟩
  | true =>
    cases hm : memB t vs with
    | true =>
      simp only [Bool.not_true, Bool.and_false, Bool.false_eq_true, if_false]
      exact ⟨Or.inl, fun h => h.elim id fun ⟨e, _⟩ => by subst e; exact memB_iff.1 hm⟩
    | false =>
      simp only [Bool.not_false, Bool.and_true, if_true, List.mem_append, List.mem_singleton]
      exact ⟨fun h => h.elim Or.inl fun e => Or.inr ⟨e, by rw [e]; exact hv⟩, fun h => h.elim Or.inl fun e => Or.inr e.1⟩
theorem mem_addVs {v : ByteArray} : ∀ {args vs : List ByteArray}, v ∈ addVs vs args ↔ v ∈ vs ∨ (v ∈ args ∧ isVarB v = true)
  | [], vs => by simp [addVs]
  | t :: r, vs => by
    show v ∈ addVs (addV vs t) r ↔ _
    rw [mem_addVs, mem_addV, List.mem_cons]
    constructor
    · rintro ((h | ⟨h, g⟩) | ⟨h, g⟩)
      · exact Or.inl h
      · exact Or.inr ⟨Or.inl h, g⟩
      · exact Or.inr ⟨Or.inr h, g⟩
    · rintro (h | ⟨h | h, g⟩)
      · exact Or.inl (Or.inl h)
      · exact Or.inl (Or.inr ⟨h, g⟩)
      · exact Or.inr ⟨h, g⟩
theorem mem_litVs {v : ByteArray} : ∀ {ls : List PLit} {vs : List ByteArray}, v ∈ ls.foldl litVs vs ↔ v ∈ vs ∨ (isVarB v = true ∧ ∃ l ∈ ls, v ∈ l.args)
  | [], vs => by simp
  | l :: r, vs => by
    rw [List.foldl_cons, mem_litVs, litVs, mem_addVs]
    simp only [List.mem_cons, exists_eq_or_imp]
    constructor
    · rintro ((h | ⟨h, g⟩) | ⟨g, h⟩)
      · exact Or.inl h
      · exact Or.inr ⟨g, Or.inl h⟩
      · exact Or.inr ⟨g, Or.inr h⟩
    · rintro (h | ⟨g, h | h⟩)
      · exact Or.inl (Or.inl h)
      · exact Or.inl (Or.inr ⟨h, g⟩)
      · exact Or.inr ⟨g, h⟩
theorem mem_plainV {v : ByteArray} : ∀ {ls : List PLit} {vs : List ByteArray}, v ∈ ls.foldl plainV vs ↔ v ∈ vs ∨ (isVarB v = true ∧ ∃ l ∈ ls, l.neg = false ∧ v ∈ l.args)
  | [], vs => by simp
  | l :: r, vs => by
    rw [List.foldl_cons, mem_plainV, plainV]
    simp only [List.mem_cons, exists_eq_or_imp]
    cases hn : l.neg with
    | true => simp
    | false =>
      rw [if_neg (by simp), mem_addVs]
      constructor
      · rintro ((h | ⟨h, g⟩) | ⟨g, h⟩)
        · exact Or.inl h
        · exact Or.inr ⟨g, Or.inl ⟨rfl, h⟩⟩
        · exact Or.inr ⟨g, Or.inr h⟩
      · rintro (h | ⟨g, ⟨-, h⟩ | h⟩)
        · exact Or.inl (Or.inl h)
        · exact Or.inl (Or.inr ⟨h, g⟩)
        · exact Or.inr ⟨g, h⟩
theorem mem_allVs {v : ByteArray} {c : PClause} : v ∈ allVs c ↔ isVarB v = true ∧ (v ∈ c.head.args ∨ ∃ l ∈ c.body, v ∈ l.args) := by
  unfold allVs
  rw [mem_litVs, mem_addVs]
  constructor
  · rintro ((h | ⟨h, g⟩) | ⟨g, h⟩)
    · exact absurd h (by simp)
    · exact ⟨g, Or.inl h⟩
    · exact ⟨g, Or.inr h⟩
  · rintro ⟨g, h | h⟩
    · exact Or.inl (Or.inr ⟨h, g⟩)
    · exact Or.inr ⟨g, h⟩
theorem mem_plainVs {v : ByteArray} {c : PClause} : v ∈ plainVs c ↔ isVarB v = true ∧ ∃ l ∈ c.body, l.neg = false ∧ v ∈ l.args := by
  unfold plainVs; rw [mem_plainV]; simp
theorem cover_iff {vs args : List ByteArray} : coverB vs args = true ↔ ∀ t ∈ args, isVarB t = true → t ∈ vs := by
  unfold coverB
  rw [List.all_eq_true]
  constructor
  · intro h t ht hv
    have := h t ht
    rw [hv, Bool.not_true, Bool.false_or] at this
    exact memB_iff.1 this
  · intro h t ht
    cases hv : isVarB t with
    | false => rfl
    | true => rw [Bool.not_true, Bool.false_or]; exact memB_iff.2 (h t ht hv)
theorem safe_same (c : PClause) : safeR c = safeC c := by
  rw [Bool.eq_iff_iff]
  unfold safeR safeC
  rw [List.all_eq_true, Bool.and_eq_true, cover_iff, List.all_eq_true]
  constructor
  · intro h
    have hm : ∀ v, v ∈ allVs c → v ∈ plainVs c := fun v hv => memB_iff.1 (h v hv)
    refine ⟨fun t ht hv => hm t (mem_allVs.2 ⟨hv, Or.inl ht⟩), fun l hl => ?_⟩
    cases hn : l.neg with
    | false => rfl
    | true => rw [Bool.not_true, Bool.false_or, cover_iff]; exact fun t ht hv => hm t (mem_allVs.2 ⟨hv, Or.inr ⟨l, hl, ht⟩⟩)
  · rintro ⟨h1, h2⟩ v hv
    rw [memB_iff]
    obtain ⟨g, h | ⟨l, hl, h⟩⟩ := mem_allVs.1 hv
    · exact h1 v h g
    · cases hn : l.neg with
      | false => exact mem_plainVs.2 ⟨g, l, hl, hn, h⟩
      | true =>
        have := h2 l hl
        rw [hn, Bool.not_true, Bool.false_or, cover_iff] at this
        exact this v h g
theorem any_many (cs : List PClause) : cs.any manyR = cs.any manyC := by rw [show manyR = manyC from funext many_same]
theorem all_safe (cs : List PClause) : cs.all safeR = cs.all safeC := by rw [show safeR = safeC from funext safe_same]

end Go.Proofs.YteampbddflhngaaGreat

/- The table of predicates: rising names, one number of terms each. -/
namespace Go.Proofs.YteampbddflhngaaGreat

def namesT (t : List PEnt) : List ByteArray := t.map PEnt.name
theorem place_lt : ∀ (t : List PEnt) (n : ByteArray), ∀ e ∈ t.take (placeB t n), ltB e.name n = true
  | [], _, e, h => by simp at h
  | a :: r, n, e, h => by
    unfold placeB at h
    cases ha : ltB a.name n with
    | false => simp [ha] at h
    | true =>
      simp only [ha, if_true, List.take_succ_cons, List.mem_cons] at h
      rcases h with rfl | h
      · exact ha
      · exact place_lt r n e h
theorem place_ge : ∀ (t : List PEnt) (n : ByteArray), Rising (namesT t) → ∀ e ∈ t.drop (placeB t n), ltB e.name n = false
  | [], _, _, e, h => by simp at h
  | a :: r, n, hr, e, h => by
    have hr' : Rising (a.name :: namesT r) := hr
    unfold Rising at hr'
    rw [List.pairwise_cons] at hr'
    unfold placeB at h
    cases ha : ltB a.name n with
    | true =>
      simp only [ha, if_true, List.drop_succ_cons] at h
      exact place_ge r n hr'.2 e h
    | false =>
      simp only [ha, Bool.false_eq_true, if_false, List.drop_zero, List.mem_cons] at h
      rcases h with rfl | h
      · exact ha
      · cases he : ltB e.name n with
        | false => rfl
        | true =>
          have := lt_trans (hr'.1 e.name (List.mem_map.2 ⟨e, h, rfl⟩)) he
          rw [ha] at this; cases this
theorem entAt_mem {t : List PEnt} {n : ByteArray} {e : PEnt} (h : entAt t n = some e) : e ∈ t ∧ e.name = n := by
  obtain ⟨hk, h1, h2⟩ := entAt_some h
  exact ⟨by rw [← h1]; exact List.getElem_mem hk, h2⟩
theorem entAt_out {t : List PEnt} {n : ByteArray} (hr : Rising (namesT t)) (h : entAt t n = none) : ∀ e ∈ t, e.name ≠ n := by
  intro e he hn
  rw [← List.take_append_drop (placeB t n) t, List.mem_append] at he
  rcases he with he | he
  · have := place_lt t n e he
    rw [hn, lt_irrefl] at this; cases this
  · rcases entAt_none h with hk | ⟨hk, hne⟩
    · rw [List.drop_eq_nil_of_le (by omega)] at he; cases he
    · have hd : t.drop (placeB t n) = t[placeB t n] :: t.drop (placeB t n + 1) := List.drop_eq_getElem_cons hk
      have hge := place_ge t n hr t[placeB t n] (by rw [hd]; exact List.mem_cons_self)
      rw [hd, List.mem_cons] at he
      rcases he with rfl | he
      · exact hne hn
      · have hr2 : Rising (namesT (t.drop (placeB t n))) := by
          unfold Rising namesT at *; rw [List.map_drop]; exact hr.sublist (List.drop_sublist _ _)
        rw [hd] at hr2
        have hr3 : Rising (t[placeB t n].name :: namesT (t.drop (placeB t n + 1))) := hr2
        unfold Rising at hr3
        rw [List.pairwise_cons] at hr3
        have := hr3.1 e.name (List.mem_map.2 ⟨e, he, rfl⟩)
        rw [hn, hge] at this; cases this
theorem mem_insAt {t : List PEnt} {x e : PEnt} {k : Nat} : e ∈ insAt t x k ↔ e = x ∨ e ∈ t := by
  unfold insAt
  rw [List.mem_append, List.mem_cons]
  constructor
  · rintro (h | h | h)
    · exact Or.inr (List.mem_of_mem_take h)
    · exact Or.inl h
    · exact Or.inr (List.mem_of_mem_drop h)
  · rintro (h | h)
    · exact Or.inr (Or.inl h)
    · rw [← List.take_append_drop k t, List.mem_append] at h
      rcases h with h | h
      · exact Or.inl h
      · exact Or.inr (Or.inr h)
theorem rising_ins {t : List PEnt} {x : PEnt} (hr : Rising (namesT t)) (hx : ∀ e ∈ t, e.name ≠ x.name) : Rising (namesT (insAt t x (placeB t x.name))) := by
  have h1 := place_lt t x.name
  have h2 := place_ge t x.name hr
  have hgt : ∀ e ∈ t.drop (placeB t x.name), ltB x.name e.name = true := by
    intro e he
    cases hc : ltB x.name e.name with
    | true => rfl
    | false => exact absurd (lt_total (h2 e he) hc) (hx e (List.mem_of_mem_drop he))
  have hr2 := hr
  rw [← List.take_append_drop (placeB t x.name) t] at hr2
  unfold Rising namesT at hr2 ⊢
  unfold insAt
  rw [List.map_append, List.pairwise_append] at hr2
  rw [List.map_append, List.map_cons, List.pairwise_append, List.pairwise_cons]
  refine ⟨hr2.1, ⟨?_, hr2.2.1⟩, ?_⟩
  · intro b hb
    obtain ⟨e, he, rfl⟩ := List.mem_map.1 hb
    exact hgt e he
  · intro a ha b hb
    obtain ⟨e, he, rfl⟩ := List.mem_map.1 ha
    rcases List.mem_cons.1 hb with rfl | hb
    · exact h1 e he
    · exact hr2.2.2 _ ha b hb

structure Tab (t : List PEnt) (ls : List PLit) : Prop where
  rise : Rising (namesT t)
  names : ∀ n, n ∈ namesT t ↔ ∃ l ∈ ls, l.pred = n
  arity : ∀ e ∈ t, ∀ l ∈ ls, l.pred = e.name → l.args.length = e.arity
theorem Tab.step {t t' : List PEnt} {ls : List PLit} {l : PLit} (h : Tab t ls) (ha : addT t l = some t') : Tab t' (ls ++ [l]) := by
  unfold addT at ha
  split at ha
  · rename_i e he
    obtain ⟨hm, hn⟩ := entAt_mem he
    split at ha
    · rename_i har
      simp only [Option.some.injEq] at ha
      subst ha
      refine ⟨h.rise, fun n => ?_, fun e' he' l' hl' hp => ?_⟩
      · rw [h.names]
        constructor
        · rintro ⟨l', hl', hp⟩; exact ⟨l', by simp [hl'], hp⟩
        · rintro ⟨l', hl', hp⟩
          rcases List.mem_append.1 hl' with hl' | hl'
          · exact ⟨l', hl', hp⟩
          · simp at hl'; subst hl'
            exact (h.names n).1 (List.mem_map.2 ⟨e, hm, by rw [hn, hp]⟩)
      · rcases List.mem_append.1 hl' with hl' | hl'
        · exact h.arity e' he' l' hl' hp
        · simp at hl'; subst hl'
          obtain ⟨l0, hl0, hp0⟩ := (h.names e.name).1 (List.mem_map.2 ⟨e, hm, rfl⟩)
          rw [← har, ← h.arity e hm l0 hl0 hp0]
          exact h.arity e' he' l0 hl0 (by rw [hp0, hn, hp])
    · cases ha
  · rename_i he
    simp only [Option.some.injEq] at ha
    subst ha
    have hout := entAt_out h.rise he
    refine ⟨rising_ins h.rise hout, fun n => ?_, fun e' he' l' hl' hp => ?_⟩
    · constructor
      · intro hn
        obtain ⟨e, hm, rfl⟩ := List.mem_map.1 hn
        rcases mem_insAt.1 hm with rfl | hm
        · exact ⟨l, by simp, rfl⟩
        · obtain ⟨l', hl', hp⟩ := (h.names e.name).1 (List.mem_map.2 ⟨e, hm, rfl⟩)
          exact ⟨l', by simp [hl'], hp⟩
      · rintro ⟨l', hl', hp⟩
        rcases List.mem_append.1 hl' with hl' | hl'
        · obtain ⟨e, hm, hen⟩ := List.mem_map.1 ((h.names n).2 ⟨l', hl', hp⟩)
          exact List.mem_map.2 ⟨e, mem_insAt.2 (Or.inr hm), hen⟩
        · simp at hl'; subst hl'
          exact List.mem_map.2 ⟨_, mem_insAt.2 (Or.inl rfl), hp⟩
    · rcases mem_insAt.1 he' with rfl | hm
      · rcases List.mem_append.1 hl' with hl' | hl'
        · obtain ⟨e, hm, hen⟩ := List.mem_map.1 ((h.names l'.pred).2 ⟨l', hl', rfl⟩)
          exact absurd (hen.trans hp) (hout e hm)
        · simp at hl'; subst hl'; rfl
      · rcases List.mem_append.1 hl' with hl' | hl'
        · exact h.arity e' hm l' hl' hp
        · simp at hl'; subst hl'; exact absurd hp.symm (hout e' hm)
theorem Tab.stop {t : List PEnt} {ls : List PLit} {l : PLit} (h : Tab t ls) (ha : addT t l = none) : ∃ l0 ∈ ls, oddB l l0 = true := by
  unfold addT at ha
  split at ha
  · rename_i e he
    obtain ⟨hm, hn⟩ := entAt_mem he
    split at ha
    · cases ha
    · rename_i har
      obtain ⟨l0, hl0, hp0⟩ := (h.names e.name).1 (List.mem_map.2 ⟨e, hm, rfl⟩)
      refine ⟨l0, hl0, ?_⟩
      unfold oddB
      rw [Bool.and_eq_true, decide_eq_true_eq, decide_eq_true_eq]
      refine ⟨by rw [hp0, hn], ?_⟩
      rw [h.arity e hm l0 hl0 hp0]; exact har
  · cases ha
theorem coll_tab : ∀ (ls done : List PLit) (t : List PEnt), Tab t done → match ls.foldl addO (some t) with
    | some t' => Tab t' (done ++ ls)
    | none => ∃ x ∈ done ++ ls, ∃ y ∈ done ++ ls, oddB x y = true
  | [], done, t, h => by simpa using h
  | l :: ls, done, t, h => by
    rw [List.foldl_cons]
    cases ha : addT t l with
    | none =>
      rw [show addO (some t) l = none from ha, addO_none]
      obtain ⟨l0, hl0, ho⟩ := h.stop ha
      exact ⟨l, by simp, l0, by simp [hl0], ho⟩
    | some t2 =>
      rw [show addO (some t) l = some t2 from ha]
      have := coll_tab ls (done ++ [l]) t2 (h.step ha)
      rwa [List.append_assoc] at this
theorem tab_nil : Tab [] [] := ⟨List.Pairwise.nil, fun n => by simp [namesT], fun e he => by cases he⟩
theorem tab_even {t : List PEnt} {ls : List PLit} (h : Tab t ls) {x y : PLit} (hx : x ∈ ls) (hy : y ∈ ls) : oddB x y = false := by
  obtain ⟨e, hm, hen⟩ := List.mem_map.1 ((h.names x.pred).2 ⟨x, hx, rfl⟩)
  unfold oddB
  cases hp : decide (y.pred = x.pred) with
  | false => rfl
  | true =>
    rw [decide_eq_true_eq] at hp
    rw [Bool.true_and, decide_eq_false_iff_not, h.arity e hm x hx hen.symm, h.arity e hm y hy (hp.trans hen.symm)]
    simp
theorem arity_iff (cs : List PClause) : cs.any (arityR cs) = true ↔ ∃ x ∈ cs.flatMap litsOf, ∃ y ∈ cs.flatMap litsOf, oddB x y = true := by
  simp only [arityR, otherB, List.any_eq_true, List.mem_flatMap]
  constructor
  · rintro ⟨c, hc, x, hx, y, hy, h⟩; exact ⟨x, ⟨c, hc, hx⟩, y, hy, h⟩
  · rintro ⟨x, ⟨c, hc, hx⟩, y, hy, h⟩; exact ⟨c, hc, x, hx, y, hy, h⟩
theorem coll_none {cs : List PClause} (h : collB cs = none) : cs.any (arityR cs) = true := by
  have := coll_tab (cs.flatMap litsOf) [] [] tab_nil
  unfold collB at h
  rw [h] at this
  rw [arity_iff]; simpa using this
theorem coll_some {cs : List PClause} {t : List PEnt} (h : collB cs = some t) : cs.any (arityR cs) = false ∧ Tab t (cs.flatMap litsOf) := by
  have := coll_tab (cs.flatMap litsOf) [] [] tab_nil
  unfold collB at h
  rw [h] at this
  simp only [List.nil_append] at this
  refine ⟨?_, this⟩
  rw [← Bool.not_eq_true, arity_iff]
  rintro ⟨x, hx, y, hy, ho⟩
  rw [tab_even this hx hy] at ho; cases ho

end Go.Proofs.YteampbddflhngaaGreat

/- Strata as a least answer: the theory of it. -/
namespace Go.Proofs.YteampbddflhngaaGreat

def up (l : PLit) : Nat := if l.neg then 1 else 0
/-- Strata that are as each literal asks. -/
def Sol (cs : List PClause) (f : ByteArray → Nat) : Prop := ∀ c ∈ cs, ∀ l ∈ c.body, f l.pred + up l ≤ f c.head.pred
def Least (cs : List PClause) (f : ByteArray → Nat) : Prop := Sol cs f ∧ ∀ g, Sol cs g → ∀ n, f n ≤ g n
theorem least_exists {cs : List PClause} {g : ByteArray → Nat} (hg : Sol cs g) : ∃ f, Least cs f := by
  have hmin : ∀ n, ∃ k, (∃ h, Sol cs h ∧ h n = k) ∧ ∀ h, Sol cs h → k ≤ h n := by
    intro n
    have aux : ∀ m, (∃ h, Sol cs h ∧ h n ≤ m) → ∃ k, (∃ h, Sol cs h ∧ h n = k) ∧ ∀ h, Sol cs h → k ≤ h n := by
      intro m
      induction m with
      | zero => rintro ⟨h, hs, h0⟩; exact ⟨0, ⟨h, hs, by omega⟩, fun _ _ => Nat.zero_le _⟩
      | succ m ih =>
        intro hm
        by_cases hx : ∃ h, Sol cs h ∧ h n ≤ m
        · exact ih hx
        · obtain ⟨h, hs, h0⟩ := hm
          have hlow : ∀ h', Sol cs h' → m + 1 ≤ h' n := fun h' hs' => by
            false_or_by_contra; rename_i hc; exact hx ⟨h', hs', by omega⟩
          exact ⟨m + 1, ⟨h, hs, by have := hlow h hs; omega⟩, hlow⟩
    exact aux (g n) ⟨g, hg, Nat.le_refl _⟩
  refine ⟨fun n => (hmin n).choose, fun c hc l hl => ?_, fun h hs n => (hmin n).choose_spec.2 h hs⟩
  obtain ⟨⟨h, hs, hh⟩, -⟩ := (hmin c.head.pred).choose_spec
  have h1 := (hmin l.pred).choose_spec.2 h hs
  have h2 := hs c hc l hl
  simp only
  omega
theorem holes : ∀ (N : Nat) (L : List Nat), (∀ k, k ≤ N → k ∈ L) → N + 1 ≤ L.length
  | 0, L, h => by
    have := h 0 (Nat.le_refl _)
    cases L with
    | nil => cases this
    | cons => simp
  | N + 1, L, h => by
    have hm := h (N + 1) (Nat.le_refl _)
    have := holes N (L.erase (N + 1)) fun k hk => (List.mem_erase_of_ne (by omega)).2 (h k (by omega))
    rw [List.length_erase_of_mem hm] at this
    have : 0 < L.length := List.length_pos_of_mem hm
    omega
/-- The least strata lie below the number of predicates. -/
theorem least_lt {cs : List PClause} {f : ByteArray → Nat} (h : Least cs f) {ps : List ByteArray} (hps : ∀ c ∈ cs, ∀ l ∈ litsOf c, l.pred ∈ ps) {n : ByteArray} (hn : n ∈ ps) : f n < ps.length := by
  false_or_by_contra
  rename_i hge
  have hx : ∃ k, k ≤ ps.length ∧ k ∉ ps.map f := by
    apply Classical.byContradiction
    intro hno
    have := holes ps.length (ps.map f) fun k hk => Classical.byContradiction fun hk2 => hno ⟨k, hk, hk2⟩
    rw [List.length_map] at this; omega
  obtain ⟨k, hk, hkn⟩ := hx
  have hne : ∀ m ∈ ps, f m ≠ k := fun m hm e => hkn (List.mem_map.2 ⟨m, hm, e⟩)
  have hs : Sol cs fun m => if k < f m then f m - 1 else f m := by
    intro c hc l hl
    have h1 := h.1 c hc l hl
    have h2 := hne l.pred (hps c hc l (by simp [litsOf, hl]))
    have h3 := hne c.head.pred (hps c hc c.head (by simp [litsOf]))
    have h4 : up l ≤ 1 := by unfold up; split <;> omega
    simp only
    split <;> split <;> omega
  have h5 := h.2 _ hs n
  have h6 := hne n hn
  split at h5 <;> omega
/-- A round that raises every head at least as far as its literals asked before it makes one more final, or all are. -/
theorem final_more {cs : List PClause} {f a b : ByteArray → Nat} (h : Least cs f) (hab : ∀ n, a n ≤ b n) (hbf : ∀ n, b n ≤ f n) (hstep : ∀ c ∈ cs, ∀ l ∈ c.body, a l.pred + up l ≤ b c.head.pred)
    (hsame : ∀ n, b n = f n → a n = f n) : ∀ n, a n = f n := by
  apply Classical.byContradiction
  intro hno
  have ⟨n, hn⟩ : ∃ n, ¬ a n = f n := Classical.byContradiction fun hx => hno fun n => Classical.byContradiction fun hc => hx ⟨n, hc⟩
  have hs : Sol cs fun m => if a m = f m then f m else f m - 1 := by
    intro c hc l hl
    have h1 := h.1 c hc l hl
    have h2 := hstep c hc l hl
    have h3 := hab c.head.pred
    have h4 := hbf c.head.pred
    have h5 := hsame c.head.pred
    have h6 := hab l.pred
    have h7 := hbf l.pred
    have h8 : up l ≤ 1 := by unfold up; split <;> omega
    simp only
    by_cases e1 : a l.pred = f l.pred
    · by_cases e2 : a c.head.pred = f c.head.pred
      · rw [if_pos e1, if_pos e2]; exact h1
      · have e3 : ¬ b c.head.pred = f c.head.pred := fun e => e2 (h5 e)
        rw [if_pos e1, if_neg e2]; omega
    · by_cases e2 : a c.head.pred = f c.head.pred
      · rw [if_neg e1, if_pos e2]; omega
      · rw [if_neg e1, if_neg e2]; omega
  have h5 := h.2 _ hs n
  simp only [hn, if_false] at h5
  have h6 := hab n
  have h7 := hbf n
  omega

end Go.Proofs.YteampbddflhngaaGreat

/- The program's strata are the least ones. -/
namespace Go.Proofs.YteampbddflhngaaGreat

def val (t : List PEnt) (n : ByteArray) : Nat := match entAt t n with
  | some e => e.stratum
  | none => 0
theorem placeB_names : ∀ {t t' : List PEnt}, namesT t = namesT t' → ∀ n, placeB t n = placeB t' n
  | [], [], _, _ => rfl
  | [], _ :: _, h, _ => by simp [namesT] at h
  | _ :: _, [], h, _ => by simp [namesT] at h
  | a :: r, b :: q, h, n => by
    simp only [namesT, List.map_cons, List.cons.injEq] at h
    unfold placeB
    rw [h.1, placeB_names h.2 n]
theorem names_set {t : List PEnt} {k : Nat} {e : PEnt} (hk : k < t.length) (he : e.name = t[k].name) : namesT (t.set k e) = namesT t := by
  unfold namesT
  rw [List.map_set, he]
  apply List.ext_getElem (by simp)
  intro i h1 h2
  rw [List.getElem_set]
  split
  · rename_i h; subst h; simp
  · rfl
theorem raiseB_names (t : List PEnt) (n : ByteArray) (s : Nat) : namesT (raiseB t n s).1 = namesT t := by
  unfold raiseB
  split
  · rfl
  · rename_i e he
    obtain ⟨hk, h1, h2⟩ := entAt_some he
    split
    · rfl
    · exact names_set hk (by rw [h1])
theorem entAt_set {t : List PEnt} {n : ByteArray} {e : PEnt} (s : Nat) (he : entAt t n = some e) (m : ByteArray) : entAt (t.set (placeB t n) { e with stratum := s }) m = if m = n then some { e with stratum := s } else entAt t m := by
  obtain ⟨hk, h1, h2⟩ := entAt_some he
  have hp : placeB (t.set (placeB t n) { e with stratum := s }) m = placeB t m := placeB_names (names_set hk (by rw [h1])) m
  unfold entAt
  rw [hp, List.getElem?_set]
  by_cases hm : m = n
  · subst hm
    rw [if_pos rfl, if_pos rfl, if_pos hk]
    simp [h2]
  · rw [if_neg hm]
    by_cases hq : placeB t n = placeB t m
    · rw [if_pos hq, if_pos hk, ← hq, List.getElem?_eq_getElem hk, h1]
      simp [h2, Ne.symm hm]
    · rw [if_neg hq]
theorem val_raise (t : List PEnt) (n : ByteArray) (s : Nat) (m : ByteArray) : val (raiseB t n s).1 m = if m = n ∧ (entAt t n).isSome = true then max (val t n) s else val t m := by
  unfold raiseB
  cases he : entAt t n with
  | none => simp
  | some e =>
    simp only [Option.isSome_some, and_true]
    have hv : val t n = e.stratum := by simp [val, he]
    split
    · split
      · rename_i h1 h2; rw [h2, hv]; omega
      · rfl
    · rename_i h1
      unfold val
      rw [entAt_set s he m, he]
      by_cases hm : m = n
      · rw [if_pos hm, if_pos hm]; simp only; omega
      · rw [if_neg hm, if_neg hm]
theorem raise_flag (t : List PEnt) (n : ByteArray) (s : Nat) : ((raiseB t n s).2 = false → (raiseB t n s).1 = t) ∧ ((raiseB t n s).2 = true → val t n < val (raiseB t n s).1 n) := by
  constructor
  · unfold raiseB; split
    · exact fun _ => rfl
    · split
      · exact fun _ => rfl
      · intro h; cases h
  · intro h
    rw [val_raise]
    unfold raiseB at h
    split at h
    · cases h
    · rename_i e he
      split at h
      · cases h
      · rename_i h1
        have hv : val t n = e.stratum := by simp [val, he]
        rw [if_pos ⟨rfl, by simp [he]⟩]; omega
theorem least_ge {t : List PEnt} : ∀ (b : List PLit) (n : Nat), n ≤ b.foldl (leastS t) n ∧ ∀ l ∈ b, litS t l ≤ b.foldl (leastS t) n
  | [], n => ⟨Nat.le_refl _, fun l hl => by cases hl⟩
  | a :: b, n => by
    have ⟨h1, h2⟩ := least_ge (t := t) b (leastS t n a)
    have h3 : n ≤ leastS t n a ∧ litS t a ≤ leastS t n a := by unfold leastS; split <;> omega
    rw [List.foldl_cons]
    refine ⟨by omega, fun l hl => ?_⟩
    rcases List.mem_cons.1 hl with rfl | hl
    · omega
    · exact h2 l hl
theorem least_le {t : List PEnt} {M : Nat} : ∀ (b : List PLit) (n : Nat), n ≤ M → (∀ l ∈ b, litS t l ≤ M) → b.foldl (leastS t) n ≤ M
  | [], n, h, _ => h
  | a :: b, n, h, hb => by
    rw [List.foldl_cons]
    refine least_le b _ ?_ fun l hl => hb l (by simp [hl])
    have := hb a (by simp)
    unfold leastS; split <;> omega
theorem litS_val {t : List PEnt} {l : PLit} (h : (entAt t l.pred).isSome = true) : litS t l = val t l.pred + up l := by
  unfold litS val up
  cases he : entAt t l.pred with
  | none => rw [he] at h; cases h
  | some e => simp only; split <;> rfl

end Go.Proofs.YteampbddflhngaaGreat

/- The program's strata are the least ones: rounds. -/
namespace Go.Proofs.YteampbddflhngaaGreat

theorem isSome_iff (t : List PEnt) (n : ByteArray) : (entAt t n).isSome = true ↔ (namesT t)[placeB t n]? = some n := by
  unfold entAt namesT
  rw [List.getElem?_map]
  cases h : t[placeB t n]? with
  | none => simp
  | some e =>
    simp only [Option.map_some, Option.some.injEq]
    split <;> simp [*]
theorem isSome_names {t t' : List PEnt} (h : namesT t = namesT t') (n : ByteArray) : (entAt t n).isSome = true ↔ (entAt t' n).isSome = true := by
  rw [isSome_iff, isSome_iff, h, placeB_names h n]
def AllIn (t : List PEnt) (cs : List PClause) : Prop := ∀ c ∈ cs, ∀ l ∈ litsOf c, (entAt t l.pred).isSome = true
theorem AllIn.names {t t' : List PEnt} {cs : List PClause} (h : AllIn t cs) (hn : namesT t = namesT t') : AllIn t' cs := fun c hc l hl => (isSome_names hn _).1 (h c hc l hl)
structure Pass (x y : List PEnt × Bool) (ds : List PClause) : Prop where
  names : namesT y.1 = namesT x.1
  grow : ∀ n, val x.1 n ≤ val y.1 n
  step : ∀ c ∈ ds, ∀ l ∈ c.body, val x.1 l.pred + up l ≤ val y.1 c.head.pred
  low : ∀ f, Sol ds f → (∀ n, val x.1 n ≤ f n) → ∀ n, val y.1 n ≤ f n
  still : y.2 = false → y.1 = x.1 ∧ x.2 = false
  moved : y.2 = true → x.2 = true ∨ ∃ n, val x.1 n < val y.1 n
theorem pass_one {x : List PEnt × Bool} {c : PClause} (h : AllIn x.1 [c]) : Pass x (raiseC x c) [c] := by
  have hh : (entAt x.1 c.head.pred).isSome = true := h c (by simp) c.head (by simp [litsOf])
  have hl : ∀ l ∈ c.body, litS x.1 l = val x.1 l.pred + up l := fun l hl => litS_val (h c (by simp) l (by simp [litsOf, hl]))
  have hv := fun m => val_raise x.1 c.head.pred (leastB x.1 c) m
  have hf := raise_flag x.1 c.head.pred (leastB x.1 c)
  refine ⟨raiseB_names _ _ _, fun n => ?_, fun c' hc' l hlb => ?_, fun f hs hlow n => ?_, fun hst => ?_, fun hmv => ?_⟩
  · show _ ≤ val (raiseB _ _ _).1 n
    rw [hv]; split
    · rename_i e; rw [e.1]; omega
    · omega
  · simp at hc'; subst hc'
    show _ ≤ val (raiseB _ _ _).1 _
    rw [hv, if_pos ⟨rfl, hh⟩, ← hl l hlb]
    have := (least_ge (t := x.1) c'.body 0).2 l hlb
    unfold leastB; omega
  · show val (raiseB _ _ _).1 n ≤ _
    rw [hv]
    split
    · rename_i e
      rw [e.1]
      have h1 := hlow c.head.pred
      have h2 : leastB x.1 c ≤ f c.head.pred := by
        unfold leastB
        refine least_le c.body 0 (Nat.zero_le _) fun l hlb => ?_
        have := hs c (by simp) l hlb
        have := hlow l.pred
        rw [hl l hlb]; omega
      omega
    · exact hlow n
  · have h2 : (x.2 || (raiseB x.1 c.head.pred (leastB x.1 c)).2) = false := hst
    rw [Bool.or_eq_false_iff] at h2
    exact ⟨hf.1 h2.2, h2.1⟩
  · have h2 : (x.2 || (raiseB x.1 c.head.pred (leastB x.1 c)).2) = true := hmv
    rw [Bool.or_eq_true] at h2
    rcases h2 with h2 | h2
    · exact Or.inl h2
    · exact Or.inr ⟨_, hf.2 h2⟩
theorem pass_all : ∀ (ds : List PClause) (x : List PEnt × Bool), AllIn x.1 ds → Pass x (ds.foldl raiseC x) ds
  | [], x, _ => ⟨rfl, fun _ => Nat.le_refl _, fun c hc => by (cases hc), fun _ _ h => h, fun h => ⟨rfl, h⟩, fun h => Or.inl h⟩
  | c :: ds, x, h => by
    have p1 := pass_one (x := x) (c := c) fun c' hc' => by simp at hc'; subst hc'; exact h c' (by simp)
    have p2 := pass_all ds (raiseC x c) (AllIn.names (fun c' hc' => h c' (by simp [hc'])) p1.names.symm)
    rw [List.foldl_cons]
    refine ⟨p2.names.trans p1.names, fun n => Nat.le_trans (p1.grow n) (p2.grow n), fun c' hc' l hl => ?_, fun f hs hlow => ?_, fun hst => ?_, fun hmv => ?_⟩
    · rcases List.mem_cons.1 hc' with rfl | hc'
      · exact Nat.le_trans (p1.step c' (by simp) l hl) (p2.grow _)
      · have := p2.step c' hc' l hl
        have := p1.grow l.pred
        omega
    · exact p2.low f (fun c' hc' => hs c' (by simp [hc'])) (p1.low f (fun c' hc' => by simp at hc'; subst hc'; exact hs c' (by simp)) hlow)
    · have h2 := p2.still hst
      have h1 := p1.still h2.2
      exact ⟨h2.1.trans h1.1, h1.2⟩
    · rcases p2.moved hmv with h2 | ⟨n, h2⟩
      · rcases p1.moved h2 with h1 | ⟨n, h1⟩
        · exact Or.inl h1
        · exact Or.inr ⟨n, Nat.lt_of_lt_of_le h1 (p2.grow n)⟩
      · exact Or.inr ⟨n, Nat.lt_of_le_of_lt (p1.grow n) h2⟩
theorem val_out {t : List PEnt} {n : ByteArray} (h : n ∉ namesT t) : val t n = 0 := by
  unfold val
  split
  · rename_i e he
    obtain ⟨hm, hn⟩ := entAt_mem he
    exact absurd (List.mem_map.2 ⟨e, hm, hn⟩) h
  · rfl
/-- How many names have not their last stratum yet. -/
def rest (f : ByteArray → Nat) (t : List PEnt) : Nat := ((namesT t).filter fun n => decide (val t n ≠ f n)).length
theorem rest_lt {f : ByteArray → Nat} {t t' : List PEnt} (hn : namesT t' = namesT t) (hmono : ∀ n, val t n = f n → val t' n = f n) {m : ByteArray} (hm : m ∈ namesT t) (h1 : val t m ≠ f m) (h2 : val t' m = f m) : rest f t' < rest f t := by
  unfold rest
  rw [hn]
  generalize namesT t = ns at hm
  have hle : ∀ l : List ByteArray, (l.filter fun n => decide (val t' n ≠ f n)).length ≤ (l.filter fun n => decide (val t n ≠ f n)).length := by
    intro l
    induction l with
    | nil => simp
    | cons a l ih =>
      by_cases ha : val t a = f a
      · simp [ha, hmono a ha]; simpa using ih
      · by_cases hb : val t' a = f a
        · simp [ha, hb]; have := ih; simp at this; omega
        · simp [ha, hb]; simpa using ih
  induction ns with
  | nil => cases hm
  | cons a ns ih =>
    have hns := hle ns
    rcases List.mem_cons.1 hm with rfl | hm
    · simp [h1, h2]; simp at hns; omega
    · have := ih hm
      by_cases ha : val t a = f a
      · simp [ha, hmono a ha]; simpa using this
      · by_cases hb : val t' a = f a
        · simp [ha, hb]; simp at this; omega
        · simp [ha, hb]; simpa using this
theorem strat_names : ∀ (m : Nat) (t : List PEnt) (cs : List PClause), AllIn t cs → namesT (stratN m t cs).1 = namesT t
  | 0, _, _, _ => rfl
  | m + 1, t, cs, h => by
    have p := pass_all cs (t, false) h
    unfold stratN
    split
    · exact (strat_names m _ cs (h.names p.names.symm)).trans p.names
    · exact p.names
theorem strat_low {f : ByteArray → Nat} : ∀ (m : Nat) (t : List PEnt) (cs : List PClause), AllIn t cs → Sol cs f → (∀ n, val t n ≤ f n) → ∀ n, val (stratN m t cs).1 n ≤ f n
  | 0, _, _, _, _, h => h
  | m + 1, t, cs, h, hs, hlow => by
    have p := pass_all cs (t, false) h
    have := p.low f hs hlow
    unfold stratN
    split
    · exact strat_low m _ cs (h.names p.names.symm) hs this
    · exact this
theorem strat_sol : ∀ (m : Nat) (t : List PEnt) (cs : List PClause), AllIn t cs → (stratN m t cs).2 = true → Sol cs (val (stratN m t cs).1)
  | 0, _, _, _, h => by cases h
  | m + 1, t, cs, h, ht => by
    have p := pass_all cs (t, false) h
    unfold stratN at ht ⊢
    split at ht
    · rename_i hc
      rw [if_pos hc]
      exact strat_sol m _ cs (h.names p.names.symm) ht
    · rename_i hc
      rw [if_neg hc]
      have h1 := (p.still (by simpa [raiseAll] using hc)).1
      intro c hcc l hl
      have h2 := p.step c hcc l hl
      show val (cs.foldl raiseC (t, false)).1 l.pred + up l ≤ val (cs.foldl raiseC (t, false)).1 c.head.pred
      rw [h1] at h2 ⊢
      exact h2
theorem strat_full {f : ByteArray → Nat} {cs : List PClause} (hf : Least cs f) : ∀ (m : Nat) (t : List PEnt), AllIn t cs → (∀ n, val t n ≤ f n) → rest f t < m → (stratN m t cs).2 = true
  | 0, _, _, _, h => by omega
  | m + 1, t, h, hlow, hr => by
    have p := pass_all cs (t, false) h
    have hlow2 := p.low f hf.1 hlow
    unfold stratN
    split
    · rename_i hc
      refine strat_full hf m _ (h.names p.names.symm) hlow2 ?_
      have hno : ¬ ∀ n, val t n = f n := by
        intro hall
        rcases p.moved hc with h1 | ⟨n, h1⟩
        · cases h1
        · have := hlow2 n; have := hall n; simp only at h1; omega
      have ⟨n, hn1, hn2⟩ : ∃ n, val (cs.foldl raiseC (t, false)).1 n = f n ∧ val t n ≠ f n := by
        apply Classical.byContradiction
        intro hx
        exact hno (final_more hf p.grow hlow2 p.step fun n hb => Classical.byContradiction fun hc => hx ⟨n, hb, hc⟩)
      have hm : n ∈ namesT t := by
        apply Classical.byContradiction
        intro hx
        have h1 := val_out hx
        have h2 : val (cs.foldl raiseC (t, false)).1 n = 0 := val_out (by rw [p.names]; exact hx)
        omega
      have := rest_lt (f := f) (t := t) p.names (fun k hk => Nat.le_antisymm (hlow2 k) (by rw [← hk]; exact p.grow k)) hm hn2 hn1
      show rest f (cs.foldl raiseC (t, false)).1 < m
      omega
    · rfl
/-- The program's strata: there are some as each literal asks, and then they are the least. -/
theorem strat_iff {cs : List PClause} {t : List PEnt} (h : AllIn t cs) (h0 : ∀ n, val t n = 0) : ((stratN (t.length + 1) t cs).2 = true ↔ ∃ f, Sol cs f) ∧ ((stratN (t.length + 1) t cs).2 = true → Least cs (val (stratN (t.length + 1) t cs).1)) := by
  refine ⟨⟨fun e => ⟨_, strat_sol _ t cs h e⟩, ?_⟩, fun e => ⟨strat_sol _ t cs h e, fun g hg => strat_low _ t cs h hg fun n => by rw [h0]; omega⟩⟩
  rintro ⟨g, hg⟩
  obtain ⟨f, hf⟩ := least_exists hg
  refine strat_full hf _ t h (fun n => by rw [h0]; omega) ?_
  have := List.length_filter_le (fun n => decide (val t n ≠ f n)) (namesT t)
  have h2 : (namesT t).length = t.length := by simp [namesT]
  unfold rest; omega

end Go.Proofs.YteampbddflhngaaGreat

/- The strata of the document's answer: what its loop keeps. -/
namespace Go.Proofs.YteampbddflhngaaGreat

def fval (ps : List ByteArray) (sv : List Nat) (n : ByteArray) : Nat := match placeR ps n with
  | some k => sv.getD k 0
  | none => 0
theorem placeR_mem : ∀ {ps : List ByteArray} {n : ByteArray}, n ∈ ps → ∃ k, placeR ps n = some k
  | [], _, h => by cases h
  | y :: r, n, h => by
    unfold placeR
    by_cases e : y = n
    · exact ⟨0, by rw [if_pos e]⟩
    · rw [if_neg e]
      rcases List.mem_cons.1 h with h | h
      · exact absurd h.symm e
      · obtain ⟨k, hk⟩ := placeR_mem h
        exact ⟨k + 1, by rw [hk]; rfl⟩
theorem fval_at {ps : List ByteArray} {sv : List Nat} {n : ByteArray} {k : Nat} (h : placeR ps n = some k) (hk : k < sv.length) : fval ps sv n = sv[k] := by
  unfold fval; rw [h]; simp [List.getD_eq_getElem?_getD, hk]
theorem fval_set {ps : List ByteArray} {sv : List Nat} {m : ByteArray} {k : Nat} (h : placeR ps m = some k) (hk : k < sv.length) (s : Nat) (n : ByteArray) : fval ps (sv.set k s) n = if n = m then s else fval ps sv n := by
  by_cases hn : n = m
  · subst hn
    rw [if_pos rfl, fval_at h (by simpa using hk)]; simp
  · rw [if_neg hn]
    unfold fval
    cases hp : placeR ps n with
    | none => rfl
    | some j =>
      have hj : k ≠ j := by
        rintro rfl
        obtain ⟨h1, h2⟩ := placeR_lt h
        obtain ⟨h3, h4⟩ := placeR_lt hp
        exact hn (h4.symm.trans h2)
      simp [List.getD_eq_getElem?_getD, hj]
theorem fval_zero (ps : List ByteArray) (k : Nat) (n : ByteArray) : fval ps (List.replicate k 0) n = 0 := by
  unfold fval
  split
  · simp [List.getD_eq_getElem?_getD, List.getElem?_replicate]; split <;> rfl
  · rfl
def Low (cs : List PClause) (ps : List ByteArray) (sv : List Nat) : Prop := ∀ f, Sol cs f → ∀ n, fval ps sv n ≤ f n
theorem low_zero (cs : List PClause) (ps : List ByteArray) (k : Nat) : Low cs ps (List.replicate k 0) := fun f _ n => by rw [fval_zero]; omega
theorem low_raise {cs : List PClause} {ps : List ByteArray} {sv : List Nat} (h : Low cs ps sv) {c : PClause} (hc : c ∈ cs) {l : PLit} (hl : l ∈ c.body) {k : Nat} (hk : placeR ps c.head.pred = some k) (hks : k < sv.length) : Low cs ps (sv.set k (fval ps sv l.pred + up l)) := by
  intro f hs n
  rw [fval_set hk hks]
  split
  · rename_i e
    have := hs c hc l hl
    have := h f hs l.pred
    rw [e]; omega
  · exact h f hs n
theorem low_fail {cs : List PClause} {ps : List ByteArray} {sv : List Nat} (h : Low cs ps sv) (hps : ∀ c ∈ cs, ∀ l ∈ litsOf c, l.pred ∈ ps) {c : PClause} (hc : c ∈ cs) {l : PLit} (hl : l ∈ c.body) (hge : ps.length ≤ fval ps sv l.pred + up l) : ¬ ∃ f, Sol cs f := by
  rintro ⟨g, hg⟩
  obtain ⟨f, hf⟩ := least_exists hg
  have h1 := least_lt hf hps (hps c hc c.head (by simp [litsOf]))
  have h2 := hf.1 c hc l hl
  have h3 := h f hf.1 l.pred
  omega
/-- The clauses before i, and of clause i the literals before k, ask no more than there is. -/
def Calm (cs : List PClause) (ps : List ByteArray) (sv : List Nat) (i : Nat) : Prop := ∀ c ∈ cs.take i, ∀ l ∈ c.body, fval ps sv l.pred + up l ≤ fval ps sv c.head.pred
def CalmL (c : PClause) (ps : List ByteArray) (sv : List Nat) (k : Nat) : Prop := ∀ l ∈ c.body.take k, fval ps sv l.pred + up l ≤ fval ps sv c.head.pred
theorem calm_zero (cs : List PClause) (ps : List ByteArray) (sv : List Nat) : Calm cs ps sv 0 := fun c hc => by simp at hc
theorem calmL_zero (c : PClause) (ps : List ByteArray) (sv : List Nat) : CalmL c ps sv 0 := fun l hl => by simp at hl
theorem calmL_next {c : PClause} {ps : List ByteArray} {sv : List Nat} {k : Nat} (h : CalmL c ps sv k) (hk : k < c.body.length) (hx : fval ps sv c.body[k].pred + up c.body[k] ≤ fval ps sv c.head.pred) : CalmL c ps sv (k + 1) := by
  intro l hl
  rw [List.take_succ_eq_append_getElem hk, List.mem_append] at hl
  rcases hl with hl | hl
  · exact h l hl
  · simp at hl; subst hl; exact hx
theorem calm_next {cs : List PClause} {ps : List ByteArray} {sv : List Nat} {i : Nat} (h : Calm cs ps sv i) (hi : i < cs.length) (hx : CalmL cs[i] ps sv cs[i].body.length) : Calm cs ps sv (i + 1) := by
  intro c hc
  rw [List.take_succ_eq_append_getElem hi, List.mem_append] at hc
  rcases hc with hc | hc
  · exact h c hc
  · simp at hc; subst hc
    intro l hl
    exact hx l (by rw [List.take_of_length_le (Nat.le_refl _)]; exact hl)
theorem calm_all {cs : List PClause} {ps : List ByteArray} {sv : List Nat} (h : Calm cs ps sv cs.length) : Sol cs (fval ps sv) := fun c hc => h c (by rw [List.take_of_length_le (Nat.le_refl _)]; exact hc)
theorem calm_least {cs : List PClause} {ps : List ByteArray} {sv : List Nat} (hl : Low cs ps sv) (h : Calm cs ps sv cs.length) : Least cs (fval ps sv) := ⟨calm_all h, hl⟩
theorem sum_set : ∀ (sv : List Nat) (k s : Nat) (hk : k < sv.length), (sv.set k s).sum + sv[k] = sv.sum + s
  | a :: r, 0, s, _ => by simp; omega
  | a :: r, k + 1, s, hk => by
    have := sum_set r k s (by simpa using hk)
    simp; omega
theorem sum_le : ∀ (sv : List Nat) (M : Nat), (∀ s ∈ sv, s ≤ M) → sv.sum ≤ sv.length * M
  | [], M, _ => by simp
  | a :: r, M, h => by
    have h1 := sum_le r M fun s hs => h s (by simp [hs])
    have h2 := h a (by simp)
    simp only [List.sum_cons, List.length_cons, Nat.add_mul, Nat.one_mul]; omega
theorem least_same {cs : List PClause} {f g : ByteArray → Nat} (hf : Least cs f) (hg : Least cs g) (n : ByteArray) : f n = g n := Nat.le_antisymm (hf.2 g hg.1 n) (hg.2 f hf.1 n)

end Go.Proofs.YteampbddflhngaaGreat

/- The words of the document's answer are the words of the program. -/
namespace Go.Proofs.YteampbddflhngaaGreat

theorem size_tail (s : ByteArray) (i : Nat) : (s.extract i s.size).size = s.size - i := by simp [ByteArray.size_extract]
theorem bAt_part (s : ByteArray) (i j k : Nat) (hj : j ≤ s.size) (hk : i + k < j) : bAt (s.extract i j) k = bAt s (i + k) := by
  have h1 : k < (s.extract i j).size := by rw [ByteArray.size_extract]; omega
  rw [bAt_lt h1, bAt_lt (by omega : i + k < s.size)]
  simp [ByteArray.getElem_extract]
theorem bAt_tail (s : ByteArray) (i k : Nat) : bAt (s.extract i s.size) k = bAt s (i + k) := by
  by_cases h : i + k < s.size
  · exact bAt_part s i s.size k (Nat.le_refl _) h
  · rw [bAt_ge h, bAt_ge (by rw [size_tail]; omega)]
theorem runEnd_tail (p : Int → Bool) (s : ByteArray) (i : Nat) : ∀ (n j : Nat), s.size - i - j ≤ n → runEnd p (s.extract i s.size) j + i = runEnd p s (i + j) := by
  intro n
  induction n with
  | zero => intro j hj; rw [runEnd_stop (by rw [size_tail]; omega), runEnd_stop (by omega)]; omega
  | succ n ih =>
    intro j hj
    by_cases h : i + j < s.size
    · cases hp : p (bAt s (i + j)) with
      | true => rw [runEnd_yes (by rw [size_tail]; omega) (by rw [bAt_tail]; exact hp), runEnd_yes h hp, ih (j + 1) (by omega)]; rfl
      | false => rw [runEnd_no (by rw [bAt_tail]; exact hp), runEnd_no hp]; omega
    · rw [runEnd_stop (by rw [size_tail]; omega), runEnd_stop h]; omega
theorem endB_tail (s : ByteArray) (i : Nat) (k : Int) : endB (s.extract i s.size) 0 k + i = endB s i k := by
  unfold endB
  have h1 := runEnd_tail bLD s i _ 0 (Nat.le_refl _)
  have h2 := runEnd_tail bDig s i _ 0 (Nat.le_refl _)
  simp only [Nat.add_zero] at h1 h2
  repeat' split
  all_goals omega
theorem firstB_tail (s : ByteArray) (i : Nat) : firstB (s.extract i s.size) + i = endB s i (kindB (bAt s i) (bAt s (i + 1))) := by
  unfold firstB; rw [bAt_tail, bAt_tail, endB_tail]; rfl
theorem ext_ext (s : ByteArray) (i a b x y : Nat) (h1 : i + a = x) (h2 : min (i + b) s.size = y) : (s.extract i s.size).extract a b = s.extract x y := by
  rw [ByteArray.extract_extract, h1, h2]
theorem endB_zero (s : ByteArray) (i : Nat) : endB s i 0 = i := by simp [endB]

theorem words_eq (s : ByteArray) : ∀ (n i : Nat), i ≤ s.size → s.size - i ≤ n → refW n (s.extract i s.size) = (splitN n s i).map (·.map Prod.snd) := by
  intro n
  induction n with
  | zero => intro i hi hn; rw [refW_nil (by rw [size_tail]; omega), splitN_stop (by omega)]; rfl
  | succ n ih =>
    intro i hi hn
    by_cases h : i < s.size
    · have hp : 0 < (s.extract i s.size).size := by rw [size_tail]; omega
      have hb0 : bAt (s.extract i s.size) 0 = bAt s i := bAt_tail s i 0
      cases hb : bBlank (bAt s i) with
      | true =>
        rw [refW_blank hp (by rw [hb0]; exact hb), splitN_blank h hb, ← ih (i + 1) (by omega) (by omega), ext_ext s i 1 _ (i + 1) s.size rfl (by rw [size_tail]; omega)]
      | false =>
        have hf := firstB_tail s i
        generalize hk : kindB (bAt s i) (bAt s (i + 1)) = k at hf
        by_cases hk0 : k = 0
        · subst hk0
          rw [endB_zero] at hf
          rw [refW_no hp (by rw [hb0]; exact hb) (Or.inl (by omega)), splitN_none h hb hk]; rfl
        · have he := endB_gt s i k h hk hk0
          by_cases hl : 6 < endB s i k - i
          · rw [refW_no hp (by rw [hb0]; exact hb) (Or.inr (by omega)), splitN_long h hb hk hl]; rfl
          · rw [refW_word hp (by rw [hb0]; exact hb) (by omega) (by omega), splitN_word h hb hk hk0 hl]
            have e1 : (s.extract i s.size).extract 0 (firstB (s.extract i s.size)) = s.extract i (endB s i k) := ext_ext s i _ _ _ _ rfl (by omega)
            have e2 : (s.extract i s.size).extract (firstB (s.extract i s.size)) (s.extract i s.size).size = s.extract (endB s i k) s.size := ext_ext s i _ _ _ _ (by omega) (by rw [size_tail]; omega)
            rw [e1, e2, ih _ (by omega) (by omega), Option.map_map, Option.map_map]
            rfl
    · rw [refW_nil (by rw [size_tail]; omega), splitN_stop h]; rfl

theorem words_same (s : ByteArray) : refW s.size s = (splitB s).map (·.map Prod.snd) := by
  have h := words_eq s s.size 0 (by omega) (by omega)
  rwa [show s.extract 0 s.size = s by simp] at h

end Go.Proofs.YteampbddflhngaaGreat

/- A word's kind is what its text says. -/
namespace Go.Proofs.YteampbddflhngaaGreat

theorem bAt_list (t : ByteArray) (i : Nat) : bAt t i = ((t.toList[i]?.map fun b => (b.toNat : Int)).getD 0) := by
  rw [bytes_toList]
  by_cases h : i < t.size
  · rw [bAt_lt h, List.getElem?_eq_getElem (by simpa using h)]; rfl
  · rw [bAt_ge h, List.getElem?_eq_none (by simpa using h)]; rfl
theorem toList_len (t : ByteArray) : t.toList.length = t.size := by rw [bytes_toList]; simp
theorem toList_one {t : ByteArray} (h : t.size = 1) (c : UInt8) : (t.toList == [c]) = (bAt t 0 == (c.toNat : Int)) := by
  have hl := (toList_len t).trans h
  rw [bAt_list]
  revert hl
  generalize t.toList = l
  intro hl
  match l, hl with
  | [a], _ =>
    by_cases hc : a = c
    · subst hc; simp
    · have : a.toNat ≠ c.toNat := fun h => hc (UInt8.toNat_inj.1 h)
      rw [show ([a] == [c]) = false by simpa using hc]
      simp; omega
theorem toList_head {t : ByteArray} {c : UInt8} {r : List UInt8} (h : bAt t 0 ≠ (c.toNat : Int)) : (t.toList == c :: r) = false := by
  rw [beq_eq_false_iff_ne]
  intro he
  apply h
  rw [bAt_list, he]; rfl

structure TokOk (x : Tok) : Prop where
  n : (x.1 == 1) = bSmall (bAt x.2 0)
  t : isT x.1 = bLD (bAt x.2 0)
  k4 : (x.1 == 4) = (x.2.toList == [40])
  k5 : (x.1 == 5) = (x.2.toList == [41])
  k6 : (x.1 == 6) = (x.2.toList == [44])
  k7 : (x.1 == 7) = (x.2.toList == [46])
  k8 : (x.1 == 8) = (x.2.toList == [33])
  k9 : (x.1 == 9) = (x.2.toList == [58, 45])

theorem ld_head {t : ByteArray} (h : bLD (bAt t 0) = true) (c : UInt8) (hc : bLD (c.toNat : Int) = false) (r : List UInt8) : (t.toList == c :: r) = false := by
  apply toList_head
  intro he; rw [he, hc] at h; exact absurd h (by simp)
theorem tok_ld {k : Int} {t : ByteArray} (h : bLD (bAt t 0) = true) (hk : k = 1 ∨ k = 2 ∨ k = 3) (hn : (k == 1) = bSmall (bAt t 0)) : TokOk (k, t) := by
  refine ⟨hn, ?_, ?_, ?_, ?_, ?_, ?_, ?_⟩
  · rw [h]; rcases hk with h | h | h <;> subst h <;> rfl
  all_goals
    show _ = (t.toList == _ :: _)
    rw [ld_head h _ (by decide)]
    rcases hk with h | h | h <;> subst h <;> rfl
theorem tok_if {t : ByteArray} (h2 : t.size = 2) (h0 : bAt t 0 = 58) (h1 : bAt t 1 = 45) : TokOk (9, t) := by
  have e : t.toList = [58, 45] := by
    have hl := (toList_len t).trans h2
    rw [bAt_list] at h0 h1
    revert hl h0 h1
    generalize t.toList = l
    intro h0 h1 hl
    match l, hl, h0, h1 with
    | [a, b], _, h0, h1 =>
      have h0 : (a.toNat : Int) = 58 := h0
      have h1 : (b.toNat : Int) = 45 := h1
      have ha : a = 58 := UInt8.toNat_inj.1 (by simpa using (by omega : a.toNat = 58))
      have hb : b = 45 := UInt8.toNat_inj.1 (by simpa using (by omega : b.toNat = 45))
      rw [ha, hb]
  constructor <;> (try rw [h0]) <;> (try (show _ = (t.toList == _); rw [e])) <;> rfl
theorem tok_sign {k c : Int} {t : ByteArray} (h1 : t.size = 1) (h0 : bAt t 0 = c) (hk : bSign c = k) (hk0 : k ≠ 0) : TokOk (k, t) := by
  have hc : c = 40 ∨ c = 41 ∨ c = 44 ∨ c = 46 ∨ c = 33 := by unfold bSign at hk; (repeat' split at hk) <;> omega
  have h9 : (t.toList == [58, 45]) = false := by
    rw [beq_eq_false_iff_ne]; intro he
    have := toList_len t; rw [he, h1] at this; simp at this
  constructor
  case n => show _ = bSmall (bAt t 0); rw [h0]; rcases hc with h | h | h | h | h <;> subst h <;> subst hk <;> rfl
  case t => show _ = bLD (bAt t 0); rw [h0]; rcases hc with h | h | h | h | h <;> subst h <;> subst hk <;> rfl
  case k9 => show _ = (t.toList == _); rw [h9]; rcases hc with h | h | h | h | h <;> subst h <;> subst hk <;> rfl
  all_goals
    show _ = (t.toList == _)
    rw [toList_one h1, h0]
    rcases hc with h | h | h | h | h <;> subst h <;> subst hk <;> rfl

theorem tok_ok (s : ByteArray) (i : Nat) (k : Int) (h : i < s.size) (hk : kindB (bAt s i) (bAt s (i + 1)) = k) (hk0 : k ≠ 0) : TokOk (k, s.extract i (endB s i k)) ∧ 0 < (s.extract i (endB s i k)).size := by
  have he := endB_gt s i k h hk hk0
  have hz : (s.extract i (endB s i k)).size = endB s i k - i := by rw [ByteArray.size_extract]; omega
  refine ⟨?_, by omega⟩
  have hb0 : bAt (s.extract i (endB s i k)) 0 = bAt s i := bAt_part s i _ 0 he.2 (by omega)
  have hb1 : i + 1 < endB s i k → bAt (s.extract i (endB s i k)) 1 = bAt s (i + 1) := fun hx => bAt_part s i _ 1 he.2 hx
  unfold kindB at hk
  split at hk
  · rename_i hc
    subst hk
    exact tok_ld (by rw [hb0]; simp [bLD, hc]) (Or.inl rfl) (by rw [hb0, hc]; rfl)
  · rename_i hc1
    split at hk
    · rename_i hc
      subst hk
      exact tok_ld (by rw [hb0]; simp [bLD, hc]) (Or.inr (Or.inl rfl)) (by rw [hb0]; simp [hc1])
    · rename_i hc2
      split at hk
      · rename_i hc
        subst hk
        exact tok_ld (by rw [hb0]; simp [bLD, hc]) (Or.inr (Or.inr rfl)) (by rw [hb0]; simp [hc1])
      · split at hk
        · rename_i hc3 hc
          subst hk
          have e2 : endB s i 9 = i + 2 := by simp [endB]
          exact tok_if (by rw [hz, e2]; omega) (by rw [hb0]; exact hc.1) (by rw [hb1 (by omega)]; exact hc.2)
        · have e1 : endB s i k = i + 1 := by
            have h9 : k ≠ 9 ∧ k ≠ 1 ∧ k ≠ 2 ∧ k ≠ 3 := by subst hk; unfold bSign; (repeat' split) <;> simp
            simp [endB, hk0, h9]
          exact tok_sign (by rw [hz, e1]; omega) hb0 hk hk0

theorem splitN_ok (s : ByteArray) : ∀ (n i : Nat) (l : List Tok), splitN n s i = some l → ∀ x ∈ l, TokOk x ∧ 0 < x.2.size := by
  intro n
  induction n with
  | zero => intro i l h; simp [splitN] at h; subst h; simp
  | succ n ih =>
    intro i l h
    by_cases hi : i < s.size
    · cases hb : bBlank (bAt s i) with
      | true => rw [splitN_blank hi hb] at h; exact ih _ _ h
      | false =>
        generalize hk : kindB (bAt s i) (bAt s (i + 1)) = k
        by_cases hk0 : k = 0
        · subst hk0; rw [splitN_none hi hb hk] at h; exact absurd h (by simp)
        · by_cases hl : 6 < endB s i k - i
          · rw [splitN_long hi hb hk hl] at h; exact absurd h (by simp)
          · rw [splitN_word hi hb hk hk0 hl] at h
            obtain ⟨r, hr, rfl⟩ := Option.map_eq_some_iff.1 h
            intro x hx
            rcases List.mem_cons.1 hx with rfl | hx
            · exact tok_ok s i k hi hk hk0
            · exact ih _ _ hr x hx
    · rw [splitN_stop hi] at h; simp at h; subst h; simp
theorem splitB_ok {s : ByteArray} {l : List Tok} (h : splitB s = some l) : ∀ x ∈ l, TokOk x ∧ 0 < x.2.size := splitN_ok s _ _ l h

end Go.Proofs.YteampbddflhngaaGreat

/- The grammar, and that the program's parser keeps to it. -/
namespace Go.Proofs.YteampbddflhngaaGreat

inductive IsTerms : List ByteArray → List Tok → Prop
  | one {x : Tok} : isT x.1 = true → IsTerms [x.2] [x]
  | more {x c : Tok} {ts : List ByteArray} {r : List Tok} : isT x.1 = true → c.1 = 6 → IsTerms ts r → IsTerms (x.2 :: ts) (x :: c :: r)
inductive IsAtom : PLit → List Tok → Prop
  | bare {n : Tok} : n.1 = 1 → IsAtom ⟨false, n.2, []⟩ [n]
  | args {n o c : Tok} {ts : List ByteArray} {p : List Tok} : n.1 = 1 → o.1 = 4 → IsTerms ts p → c.1 = 5 → IsAtom ⟨false, n.2, ts⟩ (n :: o :: (p ++ [c]))
inductive IsLit : PLit → List Tok → Prop
  | plain {a : PLit} {p : List Tok} : IsAtom a p → IsLit a p
  | neg {a : PLit} {n : Tok} {p : List Tok} : n.1 = 8 → IsAtom a p → IsLit { a with neg := true } (n :: p)
inductive IsBody : List PLit → List Tok → Prop
  | one {a : PLit} {p : List Tok} : IsLit a p → IsBody [a] p
  | more {a : PLit} {p q : List Tok} {c : Tok} {b : List PLit} : IsLit a p → c.1 = 6 → IsBody b q → IsBody (a :: b) (p ++ c :: q)
/-- A clause, its full stop left out. -/
inductive IsClause : PClause → List Tok → Prop
  | fact {a : PLit} {p : List Tok} : IsAtom a p → IsClause ⟨a, []⟩ p
  | rule {a : PLit} {b : List PLit} {p q : List Tok} {i : Tok} : IsAtom a p → i.1 = 9 → IsBody b q → IsClause ⟨a, b⟩ (p ++ i :: q)
inductive IsProg : List PClause → List Tok → Prop
  | nil : IsProg [] []
  | cons {c : PClause} {cs : List PClause} {p q : List Tok} {d : Tok} : IsClause c p → d.1 = 7 → IsProg cs q → IsProg (c :: cs) (p ++ d :: q)

theorem hd_some {r : List Tok} {k : Int} (hk : k ≠ 0) (h : hdK r = k) : ∃ x t, r = x :: t ∧ x.1 = k := by
  cases r with
  | nil => exact absurd h.symm hk
  | cons x t => exact ⟨x, t, rfl, h⟩
theorem pTerms_sound : ∀ (r : List Tok) {ts : List ByteArray} {r2 : List Tok}, pTerms r = some (ts, r2) → ∃ p, r = p ++ r2 ∧ IsTerms ts p
  | [], _, _, h => by simp [pTerms] at h
  | [x], ts, r2, h => by
    cases hx : isT x.1 with
    | false => simp [pTerms, hx] at h
    | true => simp [pTerms, hx] at h; obtain ⟨rfl, rfl⟩ := h; exact ⟨[x], rfl, .one hx⟩
  | x :: y :: r, ts, r2, h => by
    cases hx : isT x.1 with
    | false => simp [pTerms, hx] at h
    | true =>
      by_cases hy : y.1 = 6
      · simp only [pTerms, hx, hy, if_true] at h
        obtain ⟨⟨t1, r1⟩, h1, h2⟩ := Option.map_eq_some_iff.1 h
        simp at h2; obtain ⟨rfl, rfl⟩ := h2
        obtain ⟨p, rfl, hp⟩ := pTerms_sound r h1
        exact ⟨x :: y :: p, rfl, .more hx hy hp⟩
      · simp [pTerms, hx, hy] at h; obtain ⟨rfl, rfl⟩ := h; exact ⟨[x], rfl, .one hx⟩
theorem pTerms_full {ts : List ByteArray} {p : List Tok} (h : IsTerms ts p) {r2 : List Tok} (h6 : hdK r2 ≠ 6) : pTerms (p ++ r2) = some (ts, r2) := by
  induction h with
  | one hx => exact pTerms_stop hx h6
  | more hx hc _ ih => simp only [List.cons_append, pTerms, hx, hc, if_true]; rw [ih]; rfl
theorem pAtom_sound {r r2 : List Tok} {a : PLit} (h : pAtom r = some (a, r2)) : ∃ p, r = p ++ r2 ∧ IsAtom a p := by
  unfold pAtom at h
  split at h
  · rename_i h1
    obtain ⟨n, t, rfl, hn⟩ := hd_some (by decide) h1
    by_cases h4 : hdK t = 4
    · rw [if_pos (show hdK (n :: t).tail = 4 from h4)] at h
      obtain ⟨o, t, rfl, ho⟩ := hd_some (by decide) h4
      simp only [List.tail_cons] at h
      split at h
      · exact absurd h (by simp)
      · rename_i ts r3 hts
        split at h
        · rename_i h5
          obtain ⟨p, rfl, hp⟩ := pTerms_sound _ hts
          obtain ⟨c, t, rfl, hc⟩ := hd_some (by decide) h5
          simp at h; obtain ⟨rfl, rfl⟩ := h
          exact ⟨n :: o :: (p ++ [c]), by simp, .args hn ho hp hc⟩
        · exact absurd h (by simp)
    · rw [if_neg (show ¬ hdK (n :: t).tail = 4 from h4)] at h; simp at h; obtain ⟨rfl, rfl⟩ := h; exact ⟨[n], rfl, .bare hn⟩
  · exact absurd h (by simp)
theorem pAtom_full {a : PLit} {p : List Tok} (h : IsAtom a p) {r2 : List Tok} (h4 : hdK r2 ≠ 4) : pAtom (p ++ r2) = some (a, r2) := by
  cases h with
  | bare hn => simp [pAtom, hdK, hn]; intro h; exact absurd h h4
  | args hn ho hp hc =>
    rename_i n o c ts p
    have e : (n :: o :: (p ++ [c])) ++ r2 = n :: o :: (p ++ (c :: r2)) := by simp
    rw [e]
    simp only [pAtom, hdK, hn, ho, if_true, List.tail_cons, List.headD_cons]
    rw [pTerms_full hp (by simp [hdK, hc])]
    simp [hc]
theorem IsAtom.hd {a : PLit} {p : List Tok} (h : IsAtom a p) (r : List Tok) : hdK (p ++ r) = 1 := by cases h <;> assumption
theorem IsAtom.len {a : PLit} {p : List Tok} (h : IsAtom a p) : 0 < p.length := by cases h <;> simp
theorem pLit_sound {r r2 : List Tok} {a : PLit} (h : pLit r = some (a, r2)) : ∃ p, r = p ++ r2 ∧ IsLit a p := by
  unfold pLit at h
  split at h
  · rename_i h8
    obtain ⟨n, t, rfl, hn⟩ := hd_some (by decide) h8
    obtain ⟨⟨a1, r1⟩, h1, h2⟩ := Option.map_eq_some_iff.1 h
    simp at h2; obtain ⟨rfl, rfl⟩ := h2
    obtain ⟨p, hp, hA⟩ := pAtom_sound h1
    simp only [List.tail_cons] at hp
    subst hp
    exact ⟨n :: p, rfl, .neg hn hA⟩
  · obtain ⟨p, hp, hA⟩ := pAtom_sound h
    exact ⟨p, hp, .plain hA⟩
theorem pLit_full {a : PLit} {p : List Tok} (h : IsLit a p) {r2 : List Tok} (h4 : hdK r2 ≠ 4) : pLit (p ++ r2) = some (a, r2) := by
  cases h with
  | plain hA => unfold pLit; rw [hA.hd, pAtom_full hA h4]; rfl
  | neg hn hA => simp only [pLit, List.cons_append, hdK, hn, if_true, List.tail_cons]; rw [pAtom_full hA h4]; rfl
theorem IsLit.len {a : PLit} {p : List Tok} (h : IsLit a p) : 0 < p.length := by cases h with
  | plain h => exact h.len
  | neg _ h => simp
theorem pBody_sound : ∀ {n : Nat} {r r2 : List Tok} {b : List PLit}, pBody n r = some (b, r2) → ∃ p, r = p ++ r2 ∧ IsBody b p := by
  intro n
  induction n with
  | zero => intro r r2 b h; simp [pBody] at h
  | succ n ih =>
    intro r r2 b h
    cases hl : pLit r with
    | none => rw [pBody_no hl] at h; exact absurd h (by simp)
    | some z =>
      obtain ⟨a, r3⟩ := z
      obtain ⟨p, rfl, hA⟩ := pLit_sound hl
      by_cases h6 : hdK r3 = 6
      · rw [pBody_more hl h6] at h
        obtain ⟨⟨b1, r1⟩, h1, h2⟩ := Option.map_eq_some_iff.1 h
        simp at h2; obtain ⟨rfl, rfl⟩ := h2
        obtain ⟨c, t, rfl, hc⟩ := hd_some (by decide) h6
        obtain ⟨q, hq, hB⟩ := ih h1
        simp only [List.tail_cons] at hq; subst hq
        exact ⟨p ++ c :: q, by simp, .more hA hc hB⟩
      · rw [pBody_stop hl h6] at h; simp at h; obtain ⟨rfl, rfl⟩ := h
        exact ⟨p, rfl, .one hA⟩
theorem pBody_full {b : List PLit} {p : List Tok} (h : IsBody b p) {r2 : List Tok} (h4 : hdK r2 ≠ 4) (h6 : hdK r2 ≠ 6) : ∀ n, p.length ≤ n → pBody n (p ++ r2) = some (b, r2) := by
  induction h with
  | one hA =>
    intro n hn
    have := hA.len
    obtain ⟨m, rfl⟩ : ∃ m, n = m + 1 := ⟨n - 1, by omega⟩
    rw [pBody_stop (pLit_full hA h4) h6]
  | more hA hc _ ih =>
    rename_i a p q c b _
    intro n hn
    have := hA.len
    simp only [List.length_append, List.length_cons] at hn
    obtain ⟨m, rfl⟩ : ∃ m, n = m + 1 := ⟨n - 1, by omega⟩
    have e : (p ++ c :: q) ++ r2 = p ++ (c :: (q ++ r2)) := by simp
    have hL := pLit_full hA (r2 := c :: (q ++ r2)) (by simp [hdK, hc])
    rw [e, pBody_more hL hc, List.tail_cons, ih m (by omega)]; rfl
theorem pClause_sound {n : Nat} {r r2 : List Tok} {c : PClause} (h : pClause n r = some (c, r2)) : ∃ p d, r = p ++ d :: r2 ∧ d.1 = 7 ∧ IsClause c p := by
  unfold pClause at h
  split at h
  · exact absurd h (by simp)
  · rename_i a r1 hA1
    obtain ⟨p, rfl, hA⟩ := pAtom_sound hA1
    split at h
    · rename_i h9
      obtain ⟨i, t, rfl, hi⟩ := hd_some (by decide) h9
      simp only [List.tail_cons] at h
      split at h
      · exact absurd h (by simp)
      · rename_i b r3 hB1
        obtain ⟨q, rfl, hB⟩ := pBody_sound hB1
        split at h
        · rename_i h7
          obtain ⟨d, t, rfl, hd⟩ := hd_some (by decide) h7
          simp at h; obtain ⟨rfl, rfl⟩ := h
          exact ⟨p ++ i :: q, d, by simp, hd, .rule hA hi hB⟩
        · exact absurd h (by simp)
    · split at h
      · rename_i h7
        obtain ⟨d, t, rfl, hd⟩ := hd_some (by decide) h7
        simp at h; obtain ⟨rfl, rfl⟩ := h
        exact ⟨p, d, rfl, hd, .fact hA⟩
      · exact absurd h (by simp)
theorem pClause_full {c : PClause} {p : List Tok} (h : IsClause c p) {d : Tok} (hd : d.1 = 7) (r2 : List Tok) (n : Nat) (hn : p.length ≤ n) : pClause n (p ++ d :: r2) = some (c, r2) := by
  cases h with
  | fact hA =>
    unfold pClause
    rw [pAtom_full hA (by simp [hdK, hd])]
    simp [hdK, hd]
  | rule hA hi hB =>
    rename_i a b p q i
    simp only [List.length_append, List.length_cons] at hn
    have e : (p ++ i :: q) ++ d :: r2 = p ++ (i :: (q ++ d :: r2)) := by simp
    unfold pClause
    rw [e, pAtom_full hA (by simp [hdK, hi])]
    simp only [hdK, hi, if_true, List.tail_cons]
    rw [pBody_full hB (by simp [hdK, hd]) (by simp [hdK, hd]) n (by omega)]
    simp [hd]
theorem IsClause.len {c : PClause} {p : List Tok} (h : IsClause c p) : 0 < p.length := by cases h with
  | fact h => exact h.len
  | rule h => simp; omega
theorem pProg_sound {n : Nat} : ∀ (m : Nat) {r : List Tok} {cs : List PClause}, pProg n m r = some cs → IsProg cs r := by
  intro m
  induction m with
  | zero =>
    intro r cs h
    cases r with
    | nil => simp [pProg] at h; subst h; exact .nil
    | cons x r => simp [pProg] at h
  | succ m ih =>
    intro r cs h
    cases r with
    | nil => simp [pProg] at h; subst h; exact .nil
    | cons x r =>
      cases hc : pClause n (x :: r) with
      | none => rw [pProg_no (by simp) hc] at h; exact absurd h (by simp)
      | some z =>
        obtain ⟨c, r2⟩ := z
        rw [pProg_yes (by simp) hc] at h
        obtain ⟨cs', h1, rfl⟩ := Option.map_eq_some_iff.1 h
        obtain ⟨p, d, e, hd, hC⟩ := pClause_sound hc
        rw [e]
        exact .cons hC hd (ih h1)
theorem pProg_full {n : Nat} {r : List Tok} {cs : List PClause} (h : IsProg cs r) : ∀ m, r.length ≤ m → r.length ≤ n → pProg n m r = some cs := by
  induction h with
  | nil => intro m _ _; cases m <;> rfl
  | cons hC hd _ ih =>
    intro m hm hn
    have := hC.len
    simp only [List.length_append, List.length_cons] at hm hn
    obtain ⟨k, rfl⟩ : ∃ k, m = k + 1 := ⟨m - 1, by omega⟩
    rw [pProg_yes (by simp) (pClause_full hC hd _ n (by omega)), ih k (by omega) (by omega)]; rfl
theorem pProg_iff (l : List Tok) (cs : List PClause) : pProg l.length l.length l = some cs ↔ IsProg cs l :=
  ⟨pProg_sound _, fun h => pProg_full h _ (Nat.le_refl _) (Nat.le_refl _)⟩

end Go.Proofs.YteampbddflhngaaGreat

/- The parser of the document's answer keeps to the grammar. -/
namespace Go.Proofs.YteampbddflhngaaGreat

def AllOk (l : List Tok) : Prop := ∀ x ∈ l, TokOk x
def snds (l : List Tok) : List ByteArray := l.map Prod.snd
def tk (l : List Tok) (i : Nat) : Tok := l.getD i (0, ByteArray.empty)
theorem tok0 : TokOk (0, ByteArray.empty) := by constructor <;> first | rfl | (show _ = (ByteArray.empty.toList == _); rw [bytes_toList]; rfl)
theorem AllOk.tk {l : List Tok} (h : AllOk l) (i : Nat) : TokOk (tk l i) := by
  unfold Go.Proofs.YteampbddflhngaaGreat.tk
  by_cases hi : i < l.length
  · rw [List.getD_eq_getElem?_getD, List.getElem?_eq_getElem hi]; exact h _ (List.getElem_mem hi)
  · rw [List.getD_eq_getElem?_getD, List.getElem?_eq_none (by omega)]; exact tok0
theorem gB_snds (l : List Tok) (i : Nat) : gB (snds l) i = (tk l i).2 := by
  unfold gB snds tk
  by_cases hi : i < l.length
  · simp [List.getD_eq_getElem?_getD, hi]
  · simp [List.getD_eq_getElem?_getD, hi]
theorem snds_len (l : List Tok) : (snds l).length = l.length := by simp [snds]
theorem AllOk.take {l : List Tok} (h : AllOk l) (n : Nat) : AllOk (l.take n) := fun x hx => h x (List.mem_of_mem_take hx)
theorem AllOk.drop {l : List Tok} (h : AllOk l) (n : Nat) : AllOk (l.drop n) := fun x hx => h x (List.mem_of_mem_drop hx)
theorem AllOk.tail {l : List Tok} (h : AllOk l) : AllOk l.tail := fun x hx => h x (List.mem_of_mem_tail hx)
theorem k_eq {k c : Int} {b : Bool} (h : (k == c) = b) : b = true ↔ k = c := by subst h; simp

def evens {α : Type} : List α → List α
  | [] => []
  | [x] => [x]
  | x :: _ :: r => x :: evens r
theorem evens_snoc {α : Type} (y : α) : ∀ x : List α, evens (x ++ [y]) = evens x ++ (if x.length % 2 = 0 then [y] else [])
  | [] => rfl
  | [a] => rfl
  | a :: b :: r => by
    have := evens_snoc y r
    have hh : (a :: b :: r).length % 2 = r.length % 2 := by simp only [List.length_cons]; omega
    rw [hh]
    simp only [List.cons_append, evens, this]
theorem rArgs_eq (l : List ByteArray) : ∀ m, m ≤ l.length → rArgs l m = evens ((l.drop 2).take (m - 2))
  | 0, _ => by simp [rArgs, evens]
  | m + 1, h => by
    rw [rArgs, rArgs_eq l m (by omega)]
    by_cases h2 : 2 ≤ m
    · have e : (l.drop 2).take (m + 1 - 2) = (l.drop 2).take (m - 2) ++ [gB l m] := by
        rw [show m + 1 - 2 = (m - 2) + 1 by omega, List.take_add_one]
        congr 1
        rw [List.getElem?_drop, show 2 + (m - 2) = m by omega, List.getElem?_eq_getElem (by omega), gB_lt (by omega)]; rfl
      rw [e, evens_snoc]
      congr 1
      have hl : ((l.drop 2).take (m - 2)).length = m - 2 := by simp; omega
      rw [hl]
      simp only [h2, true_and]
      rw [show (m - 2) % 2 = m % 2 by omega]
    · rw [show m + 1 - 2 = 0 by omega, show m - 2 = 0 by omega]
      simp [evens, h2]
theorem rOkTo_iff (l : List ByteArray) : ∀ m, rOkTo l m = true ↔ ∀ i, 2 ≤ i → i < m → rOk l i = true
  | 0 => by simp [rOkTo]
  | m + 1 => by
    have ih := rOkTo_iff l m
    simp only [rOkTo, Bool.and_eq_true, Bool.or_eq_true, decide_eq_true_eq, ih]
    constructor
    · rintro ⟨h1, h2⟩ i hi hm
      by_cases he : i = m
      · subst he; rcases h2 with h2 | h2
        · omega
        · exact h2
      · exact h1 i hi (by omega)
    · intro h
      refine ⟨fun i hi hm => h i hi (by omega), ?_⟩
      by_cases h2 : m < 2
      · exact Or.inl h2
      · exact Or.inr (h m (by omega) (by omega))
def Alt (q : List Tok) : Prop := q.length % 2 = 1 ∧ ∀ i, i < q.length → if i % 2 = 0 then isT (tk q i).1 = true else (tk q i).1 = 6
theorem tk_cons (x : Tok) (l : List Tok) (i : Nat) : tk (x :: l) (i + 1) = tk l i := by simp [tk]
theorem tk_zero (x : Tok) (l : List Tok) : tk (x :: l) 0 = x := by simp [tk]
theorem terms_alt {ts : List ByteArray} {q : List Tok} (h : IsTerms ts q) : Alt q ∧ ts = evens (snds q) := by
  induction h with
  | one hx => exact ⟨⟨rfl, fun i hi => by simp at hi; subst hi; simpa [tk_zero] using hx⟩, rfl⟩
  | more hx hc _ ih =>
    obtain ⟨⟨h1, h2⟩, h3⟩ := ih
    refine ⟨⟨by simp only [List.length_cons]; omega, fun i hi => ?_⟩, by rw [h3]; rfl⟩
    match i with
    | 0 => simpa [tk_zero] using hx
    | 1 => simpa [tk_cons, tk_zero] using hc
    | i + 2 =>
      have := h2 i (by simp only [List.length_cons] at hi; omega)
      rw [tk_cons, tk_cons, show (i + 2) % 2 = i % 2 by omega]; exact this
theorem alt_terms : ∀ (q : List Tok), Alt q → IsTerms (evens (snds q)) q
  | [], h => by have := h.1; simp at this
  | [x], h => by have := h.2 0 (by simp); simp [tk_zero] at this; exact .one this
  | x :: y :: r, h => by
    have h0 := h.2 0 (by simp)
    have h1 := h.2 1 (by simp)
    simp [tk_zero] at h0
    simp [tk_cons, tk_zero] at h1
    refine .more h0 h1 (alt_terms r ⟨by have := h.1; simp only [List.length_cons] at this; omega, fun i hi => ?_⟩)
    have := h.2 (i + 2) (by simp only [List.length_cons]; omega)
    rw [tk_cons, tk_cons, show (i + 2) % 2 = i % 2 by omega] at this; exact this

theorem tk_app {p r : List Tok} {i : Nat} (h : i < p.length) : tk (p ++ r) i = tk p i := by
  simp [tk, List.getD_eq_getElem?_getD, List.getElem?_append_left h]
theorem tk_mid {p r : List Tok} {c : Tok} : tk (p ++ c :: r) p.length = c := by simp [tk, List.getD_eq_getElem?_getD]

/-- What refLit1 asks of four words or more. -/
theorem refLit1_long {neg : Bool} {n o c : Tok} {q : List Tok} (h : AllOk (n :: o :: (q ++ [c]))) (a : PLit) :
    refLit1 neg (snds (n :: o :: (q ++ [c]))) = some a ↔ n.1 = 1 ∧ o.1 = 4 ∧ c.1 = 5 ∧ Alt q ∧ a = ⟨neg, n.2, evens (snds q)⟩ := by
  have hn := k_eq (h n (by simp)).n
  have ho := k_eq (h o (by simp)).k4
  have hc := k_eq (h c (by simp)).k5
  have g0 : gB (snds (n :: o :: (q ++ [c]))) 0 = n.2 := by rw [gB_snds, tk_zero]
  have g1 : gB (snds (n :: o :: (q ++ [c]))) 1 = o.2 := by rw [gB_snds, tk_cons, tk_zero]
  have hl : (snds (n :: o :: (q ++ [c]))).length = q.length + 3 := by rw [snds_len]; simp
  have gl : gB (snds (n :: o :: (q ++ [c]))) (q.length + 2) = c.2 := by rw [gB_snds, tk_cons, tk_cons, tk_mid]
  have hok : rOkTo (snds (n :: o :: (q ++ [c]))) (q.length + 2) = true ↔ ∀ i, i < q.length → if i % 2 = 0 then isT (tk q i).1 = true else (tk q i).1 = 6 := by
    have key : ∀ i, i < q.length → (rOk (snds (n :: o :: (q ++ [c]))) (i + 2) = true ↔ if i % 2 = 0 then isT (tk q i).1 = true else (tk q i).1 = 6) := by
      intro i hi
      have ht : TokOk (tk q i) := AllOk.tk (fun x hx => h x (by simp [hx])) i
      unfold rOk
      rw [gB_snds, tk_cons, tk_cons, tk_app hi, show (i + 2) % 2 = i % 2 by omega]
      split
      · rw [ht.t]
      · exact k_eq ht.k6
    rw [rOkTo_iff]
    constructor
    · intro hh i hi; exact (key i hi).1 (hh (i + 2) (by omega) (by omega))
    · intro hh i h2 hi
      have := (key (i - 2) (by omega)).2 (hh (i - 2) (by omega))
      rwa [show i - 2 + 2 = i by omega] at this
  have hargs : rArgs (snds (n :: o :: (q ++ [c]))) (q.length + 2) = evens (snds q) := by
    rw [rArgs_eq _ _ (by omega)]; simp [snds]
  unfold refLit1
  rw [hl, g0, g1, show q.length + 3 - 1 = q.length + 2 by omega, gl, hargs]
  rw [if_neg (by omega)]
  by_cases c1 : n.1 = 1
  · rw [if_neg (by rw [hn.2 c1]; simp), if_neg (by omega)]
    by_cases c2 : q.length + 3 < 4 ∨ (q.length + 3) % 2 = 1 ∨ (o.2.toList == [40]) = false ∨ (c.2.toList == [41]) = false
    · rw [if_pos c2]
      simp only [reduceCtorEq, false_iff]
      rintro ⟨-, h4, h5, h6, -⟩
      rw [ho.2 h4, hc.2 h5] at c2
      have := h6.1
      simp at c2; omega
    · rw [if_neg c2]
      simp only [not_or, Bool.not_eq_false] at c2
      have hA : Alt q ↔ rOkTo (snds (n :: o :: (q ++ [c]))) (q.length + 2) = true := by
        rw [hok]; exact ⟨fun h => h.2, fun h => ⟨by omega, h⟩⟩
      by_cases c3 : rOkTo (snds (n :: o :: (q ++ [c]))) (q.length + 2) = true
      · rw [if_pos c3]
        simp only [Option.some.injEq]
        exact ⟨fun e => ⟨c1, ho.1 c2.2.2.1, hc.1 c2.2.2.2, hA.2 c3, e.symm⟩, fun e => e.2.2.2.2.symm⟩
      · rw [if_neg c3]
        simp only [reduceCtorEq, false_iff]
        exact fun e => c3 (hA.1 e.2.2.2.1)
  · have : bSmall (bAt n.2 0) = false := by rw [← Bool.not_eq_true]; exact fun e => c1 (hn.1 e)
    rw [if_pos this]
    simp only [reduceCtorEq, false_iff]
    exact fun e => c1 e.1
theorem refLit1_iff {neg : Bool} {p : List Tok} (h : AllOk p) (a : PLit) : refLit1 neg (snds p) = some a ↔ ∃ a0, IsAtom a0 p ∧ a = { a0 with neg := neg } := by
  match p, h with
  | [], _ =>
    simp only [refLit1, snds, List.map_nil, List.length_nil, if_true, reduceCtorEq, false_iff]
    rintro ⟨a0, ha, -⟩; cases ha
  | [n], h =>
    have hn := k_eq (h n (by simp)).n
    have g0 : gB (snds [n]) 0 = n.2 := by rw [gB_snds, tk_zero]
    unfold refLit1
    rw [snds_len, g0]
    simp only [List.length_cons, List.length_nil]
    constructor
    · intro e
      cases hs : bSmall (bAt n.2 0) with
      | false => simp [hs] at e
      | true => simp [hs] at e; exact ⟨_, .bare (hn.1 hs), e.symm⟩
    · rintro ⟨a0, ha, rfl⟩
      cases ha with
      | bare hn1 => simp [hn.2 hn1]
  | n :: o :: r, h =>
    rcases List.eq_nil_or_concat r with rfl | ⟨q, c, rfl⟩
    · constructor
      · intro e
        unfold refLit1 at e
        rw [snds_len] at e
        simp only [List.length_cons, List.length_nil] at e
        simp at e
      · rintro ⟨a0, ha, rfl⟩
        generalize hp : [n, o] = p at ha
        cases ha with
        | bare => simp at hp
        | args => simp at hp
    · rw [List.concat_eq_append] at h ⊢
      rw [refLit1_long h]
      constructor
      · rintro ⟨h1, h4, h5, hA, rfl⟩
        exact ⟨_, .args h1 h4 (alt_terms q hA) h5, rfl⟩
      · rintro ⟨a0, ha, rfl⟩
        generalize hp : n :: o :: (q ++ [c]) = p at ha
        cases ha with
        | bare => simp at hp
        | args h1 h4 hT h5 =>
          simp only [List.cons.injEq] at hp
          obtain ⟨rfl, rfl, hp⟩ := hp
          have := List.append_inj' hp rfl
          simp only [List.cons.injEq, and_true] at this
          obtain ⟨rfl, rfl⟩ := this
          obtain ⟨hA, rfl⟩ := terms_alt hT
          exact ⟨h1, h4, h5, hA, rfl⟩
theorem IsAtom.plain {a : PLit} {p : List Tok} (h : IsAtom a p) : { a with neg := false } = a := by cases h <;> rfl
theorem refHead_iff {p : List Tok} (h : AllOk p) (a : PLit) : refLit (snds p) true = some a ↔ IsAtom a p := by
  have hb : bang (snds p) true = false := by simp [bang]
  unfold refLit
  rw [hb, if_neg (by simp), refLit1_iff h]
  exact ⟨fun ⟨a0, ha, e⟩ => by rw [e, ha.plain]; exact ha, fun ha => ⟨a, ha, ha.plain.symm⟩⟩
theorem refLit_iff {p : List Tok} (h : AllOk p) (a : PLit) : refLit (snds p) false = some a ↔ IsLit a p := by
  cases p with
  | nil =>
    have hb : bang (snds []) false = false := rfl
    unfold refLit
    rw [hb, if_neg (by simp), refLit1_iff h]
    constructor
    · rintro ⟨a0, ha, -⟩; cases ha
    · intro hL; cases hL with
      | plain ha => cases ha
  | cons n r =>
    have h8 := k_eq (h n (by simp)).k8
    have hbt : bang (snds (n :: r)) false = (n.2.toList == [33]) := by
      unfold bang; rw [gB_snds, tk_zero, snds_len]; simp
    unfold refLit
    rw [hbt]
    cases hk : (n.2.toList == [33]) with
    | true =>
      have hn := h8.1 hk
      rw [if_pos rfl, show (snds (n :: r)).tail = snds r from rfl, refLit1_iff (show AllOk r from fun x hx => h x (by simp [hx]))]
      constructor
      · rintro ⟨a0, ha, rfl⟩; exact .neg hn ha
      · intro hL; cases hL with
        | plain ha => have := ha.hd []; simp [hdK, hn] at this
        | neg _ ha => exact ⟨_, ha, rfl⟩
    | false =>
      have hn : n.1 ≠ 8 := fun e => by rw [h8.2 e] at hk; exact absurd hk (by simp)
      rw [if_neg (by simp), refLit1_iff h]
      constructor
      · rintro ⟨a0, ha, rfl⟩; rw [ha.plain]; exact .plain ha
      · intro hL; cases hL with
        | plain ha => exact ⟨_, ha, ha.plain.symm⟩
        | neg h8 _ => exact absurd h8 hn

end Go.Proofs.YteampbddflhngaaGreat

/- The parser of the document's answer keeps to the grammar: bodies, clauses, programs. -/
namespace Go.Proofs.YteampbddflhngaaGreat

theorem cut_at {l : List Tok} {f i : Nat} (h1 : f ≤ i) (h2 : i < l.length) : l.drop f = (l.drop f).take (i - f) ++ l[i] :: l.drop (i + 1) := by
  have e : (l.drop f).drop (i - f) = l[i] :: l.drop (i + 1) := by
    rw [List.drop_drop, show f + (i - f) = i by omega, List.drop_eq_getElem_cons h2]
  rw [← e, List.take_append_drop]
theorem snds_cut (l : List Tok) (f k : Nat) : ((snds l).drop f).take k = snds ((l.drop f).take k) := by simp [snds, List.map_take, List.map_drop]
theorem tk_lt {l : List Tok} {i : Nat} (h : i < l.length) : tk l i = l[i] := by simp [tk, List.getD_eq_getElem?_getD, h]
theorem tk_drop {l : List Tok} {i : Nat} {x : Tok} {r : List Tok} (h : l.drop i = x :: r) : tk l i = x ∧ i < l.length ∧ l.drop (i + 1) = r := by
  have hi : i < l.length := by
    false_or_by_contra; rename_i hn
    rw [List.drop_eq_nil_of_le (by omega)] at h; exact absurd h (by simp)
  rw [List.drop_eq_getElem_cons hi] at h
  simp only [List.cons.injEq] at h
  exact ⟨by rw [tk_lt hi]; exact h.1, hi, h.2⟩

theorem refLits_sound {l : List Tok} (h : AllOk l) : ∀ (n f i : Nat) (d : Int) (b : List PLit), f ≤ i → i + n = l.length + 1 → refLits (snds l) n f d i = some b → IsBody b (l.drop f) ∨ (n = 0 ∧ b = []) := by
  intro n
  induction n with
  | zero => intro f i d b _ _ e; simp [refLits] at e; exact Or.inr ⟨rfl, e⟩
  | succ n ih =>
    intro f i d b hf hn e
    left
    have step : ∀ {f' d' b'}, f' ≤ i + 1 → i < l.length → refLits (snds l) n f' d' (i + 1) = some b' → IsBody b' (l.drop f') := by
      intro f' d' b' h1 h2 h3
      rcases ih f' (i + 1) d' b' h1 (by omega) h3 with hB | ⟨rfl, -⟩
      · exact hB
      · omega
    unfold refLits at e
    rw [snds_len] at e
    by_cases hi : i < l.length
    · rw [if_pos hi] at e
      split at e
      · exact step (by omega) hi e
      · split at e
        · exact step (by omega) hi e
        · split at e
          · exact step (by omega) hi e
          · rename_i h6
            split at e
            · exact absurd e (by simp)
            · rename_i a ha
              rw [snds_cut, refLit_iff ((h.drop f).take _)] at ha
              obtain ⟨b', hb, rfl⟩ := Option.map_eq_some_iff.1 e
              have hB := step (Nat.le_refl _) hi hb
              rw [cut_at hf hi]
              refine .more ha ?_ hB
              have hk := k_eq (h.tk i).k6
              rw [tk_lt hi] at hk
              apply hk.1
              simp only [not_or, Bool.not_eq_false] at h6
              have := h6.1
              rwa [gB_snds, tk_lt hi] at this
    · rw [if_neg hi] at e
      split at e
      · exact absurd e (by simp)
      · rename_i a ha
        rw [snds_cut, refLit_iff ((h.drop f).take _)] at ha
        simp only [Option.some.injEq] at e
        subst e
        have : (l.drop f).take (i - f) = l.drop f := List.take_of_length_le (by simp; omega)
        rw [this] at ha
        exact .one ha

/-- How deep it is after these words, if no comma among them stands outside. -/
def dep : Int → List Tok → Option Int
  | d, [] => some d
  | d, x :: r => if x.1 = 4 then dep (d + 1) r else if x.1 = 5 then dep (d - 1) r else if x.1 ≠ 6 ∨ 0 < d then dep d r else none
theorem dep_app : ∀ (p q : List Tok) (d : Int), dep d (p ++ q) = (dep d p).bind fun d' => dep d' q
  | [], q, d => rfl
  | x :: p, q, d => by
    simp only [List.cons_append, dep]
    split
    · exact dep_app p q _
    · split
      · exact dep_app p q _
      · split
        · exact dep_app p q _
        · rfl
theorem dep_terms {ts : List ByteArray} {p : List Tok} (h : IsTerms ts p) {d : Int} (hd : 0 < d) : dep d p = some d := by
  have ht : ∀ {x : Tok}, isT x.1 = true → x.1 ≠ 4 ∧ x.1 ≠ 5 ∧ x.1 ≠ 6 := by
    intro x hx; simp [isT] at hx; omega
  induction h with
  | one hx => have := ht hx; simp [dep, this]
  | more hx hc _ ih => have := ht hx; simp [dep, this, hc, hd, ih]
theorem dep_atom {a : PLit} {p : List Tok} (h : IsAtom a p) : dep 0 p = some 0 := by
  cases h with
  | bare hn => simp [dep, hn]
  | args hn ho hT hc =>
    simp only [dep, hn, ho]
    simp only [dep_app, dep_terms hT (d := 0 + 1) (by omega)]
    simp [dep, hc]
theorem dep_lit {a : PLit} {p : List Tok} (h : IsLit a p) : dep 0 p = some 0 := by
  cases h with
  | plain ha => exact dep_atom ha
  | neg hn ha => simp [dep, hn, dep_atom ha]
theorem refLits_run {l : List Tok} (h : AllOk l) (f : Nat) : ∀ (p r : List Tok) (d d' : Int) (i n : Nat), l.drop i = p ++ r → dep d p = some d' → refLits (snds l) (n + p.length) f d i = refLits (snds l) n f d' (i + p.length)
  | [], r, d, d', i, n, _, hd => by simp [dep] at hd; subst hd; rfl
  | x :: p, r, d, d', i, n, hl, hd => by
    obtain ⟨h1, h2, h3⟩ := tk_drop hl
    have ht := h.tk i
    rw [h1] at ht
    have k4 := k_eq ht.k4
    have k5 := k_eq ht.k5
    have k6 := k_eq ht.k6
    have run := fun d1 => refLits_run h f p r d1 d' (i + 1) n h3
    rw [show n + (x :: p).length = (n + p.length) + 1 by simp only [List.length_cons]; omega, show i + (x :: p).length = i + 1 + p.length by simp only [List.length_cons]; omega]
    rw [refLits, snds_len, if_pos h2, gB_snds, h1]
    unfold dep at hd
    by_cases c4 : x.1 = 4
    · rw [if_pos (k4.2 c4)]; rw [if_pos c4] at hd; exact run _ hd
    · rw [if_neg (fun e => c4 (k4.1 e))]; rw [if_neg c4] at hd
      by_cases c5 : x.1 = 5
      · rw [if_pos (k5.2 c5)]; rw [if_pos c5] at hd; exact run _ hd
      · rw [if_neg (fun e => c5 (k5.1 e))]; rw [if_neg c5] at hd
        by_cases c6 : x.1 ≠ 6 ∨ 0 < d
        · rw [if_pos c6] at hd
          rw [if_pos (by
            rcases c6 with c6 | c6
            · left; rw [← Bool.not_eq_true]; exact fun e => c6 (k6.1 e)
            · exact Or.inr c6)]
          exact run _ hd
        · rw [if_neg c6] at hd; exact absurd hd (by simp)
theorem take_len {l p r : List Tok} {f : Nat} (hl : l.drop f = p ++ r) : (l.drop f).take (f + p.length - f) = p := by
  rw [hl, show f + p.length - f = p.length by omega]; simp
theorem drop_past {l p r : List Tok} {f : Nat} (hl : l.drop f = p ++ r) : l.drop (f + p.length) = r := by
  rw [← List.drop_drop, hl]; simp
theorem refLits_full {l : List Tok} (h : AllOk l) {b : List PLit} {p : List Tok} (hB : IsBody b p) : ∀ f, l.drop f = p → refLits (snds l) (p.length + 1) f 0 f = some b := by
  induction hB with
  | one hA =>
    rename_i a p
    intro f hl
    have hl' : l.drop f = p ++ [] := by simpa using hl
    rw [show p.length + 1 = 1 + p.length by omega, refLits_run h f p [] 0 0 f 1 hl' (dep_lit hA), refLits, snds_len]
    have h1 := drop_past hl'
    rw [List.drop_eq_nil_iff] at h1
    rw [if_neg (by omega), snds_cut, take_len hl', (refLit_iff (by rw [← hl]; exact h.drop f) a).2 hA]
  | more hA hc _ ih =>
    rename_i a p q c b _
    intro f hl
    have hp : AllOk p := fun x hx => h x (List.mem_of_mem_drop (i := f) (by rw [hl]; simp [hx]))
    have h1 := drop_past hl
    obtain ⟨h2, h3, h4⟩ := tk_drop h1
    have ht := h.tk (f + p.length)
    rw [h2] at ht
    have k4 := k_eq ht.k4
    have k5 := k_eq ht.k5
    have k6 := k_eq ht.k6
    rw [show (p ++ c :: q).length + 1 = (q.length + 1 + 1) + p.length by simp; omega, refLits_run h f p (c :: q) 0 0 f _ hl (dep_lit hA), refLits, snds_len, if_pos h3, gB_snds, h2,
      if_neg (fun e => by have := k4.1 e; omega), if_neg (fun e => by have := k5.1 e; omega), if_neg (by rw [k6.2 hc]; simp), snds_cut, take_len hl, (refLit_iff hp a).2 hA]
    simp only
    rw [ih (f + p.length + 1) h4]; rfl
theorem refLits_iff {l : List Tok} (h : AllOk l) (b : List PLit) : refLits (snds l) ((snds l).length + 1) 0 0 0 = some b ↔ IsBody b l := by
  rw [snds_len]
  constructor
  · intro e
    rcases refLits_sound h _ 0 0 0 b (Nat.le_refl _) (by omega) e with hB | ⟨hn, -⟩
    · simpa using hB
    · omega
  · intro hB; exact refLits_full h hB 0 (by simp)

end Go.Proofs.YteampbddflhngaaGreat

/- The parser of the document's answer keeps to the grammar: clauses, programs; both parsers answer the same. -/
namespace Go.Proofs.YteampbddflhngaaGreat

/-- No word of these is of kind k. -/
def No (k : Int) (l : List Tok) : Prop := ∀ x ∈ l, x.1 ≠ k
theorem No.app {k : Int} {p q : List Tok} (h : No k p) (g : No k q) : No k (p ++ q) := fun x hx => (List.mem_append.1 hx).elim (h x) (g x)
theorem No.cons {k : Int} {x : Tok} {q : List Tok} (h : x.1 ≠ k) (g : No k q) : No k (x :: q) := fun y hy => by
  rcases List.mem_cons.1 hy with rfl | hy
  · exact h
  · exact g y hy
theorem No.nil (k : Int) : No k [] := fun x hx => absurd hx (by simp)
theorem no_terms {ts : List ByteArray} {p : List Tok} (h : IsTerms ts p) {k : Int} (hk : 6 < k) : No k p := by
  have ht : ∀ {x : Tok}, isT x.1 = true → x.1 ≠ k := by intro x hx; simp [isT] at hx; omega
  induction h with
  | one hx => exact .cons (ht hx) (.nil k)
  | more hx hc _ ih => exact .cons (ht hx) (.cons (by omega) ih)
theorem no_atom {a : PLit} {p : List Tok} (h : IsAtom a p) {k : Int} (hk : 6 < k) : No k p := by
  cases h with
  | bare hn => exact .cons (by omega) (.nil k)
  | args hn ho hT hc => exact .cons (by omega) (.cons (by omega) (.app (no_terms hT hk) (.cons (by omega) (.nil k))))
theorem no_lit {a : PLit} {p : List Tok} (h : IsLit a p) {k : Int} (hk : k = 7 ∨ k = 9) : No k p := by
  cases h with
  | plain ha => exact no_atom ha (by omega)
  | neg hn ha => exact .cons (by omega) (no_atom ha (by omega))
theorem no_body {b : List PLit} {p : List Tok} (h : IsBody b p) {k : Int} (hk : k = 7 ∨ k = 9) : No k p := by
  induction h with
  | one ha => exact no_lit ha hk
  | more ha hc _ ih => exact .app (no_lit ha hk) (.cons (by omega) ih)
theorem no_clause {c : PClause} {p : List Tok} (h : IsClause c p) : No 7 p := by
  cases h with
  | fact ha => exact no_atom ha (by omega)
  | rule ha hi hB => exact .app (no_atom ha (by omega)) (.cons (by omega) (no_body hB (Or.inl rfl)))

theorem ifAt_run : ∀ (p r : List Tok), AllOk p → No 9 p → ifAt (snds (p ++ r)) = p.length + ifAt (snds r)
  | [], r, _, _ => by simp
  | x :: p, r, h, hn => by
    have hk := k_eq (h x (by simp)).k9
    have hx : (x.2.toList == [58, 45]) = false := by rw [← Bool.not_eq_true]; exact fun e => hn x (by simp) (hk.1 e)
    show ifAt (x.2 :: snds (p ++ r)) = _
    rw [ifAt, hx, ifAt_run p r (fun y hy => h y (by simp [hy])) (fun y hy => hn y (by simp [hy]))]
    simp only [List.length_cons]; rw [if_neg (by simp)]; omega
theorem ifAt_kind : ∀ (l : List Tok), AllOk l → ifAt (snds l) < l.length → (tk l (ifAt (snds l))).1 = 9
  | [], _, h => by simp at h
  | x :: l, hok, h => by
    have hk := k_eq (hok x (by simp)).k9
    change ifAt (x.2 :: snds l) < _ at h
    show (tk (x :: l) (ifAt (x.2 :: snds l))).1 = 9
    rw [ifAt] at h ⊢
    cases hx : (x.2.toList == [58, 45]) with
    | true => rw [if_pos rfl, tk_zero]; exact hk.1 hx
    | false =>
      rw [hx, if_neg (by simp)] at h
      rw [if_neg (by simp), tk_cons]
      exact ifAt_kind l (fun y hy => hok y (by simp [hy])) (by simp only [List.length_cons] at h; omega)
theorem snds_take (l : List Tok) (k : Nat) : (snds l).take k = snds (l.take k) := by simp [snds, List.map_take]
theorem snds_drop (l : List Tok) (k : Nat) : (snds l).drop k = snds (l.drop k) := by simp [snds, List.map_drop]
theorem refClause_iff {l : List Tok} (h : AllOk l) (c : PClause) : refClause (snds l) = some c ↔ IsClause c l := by
  constructor
  · intro e
    have hle := ifAt_le (snds l)
    rw [snds_len] at hle
    unfold refClause at e
    rw [snds_take, snds_drop, snds_len] at e
    split at e
    · exact absurd e (by simp)
    · rename_i hd hh
      rw [refHead_iff (h.take _)] at hh
      split at e
      · rename_i hl
        simp only [Option.some.injEq] at e
        subst e
        rw [hl, List.take_of_length_le (Nat.le_refl _)] at hh
        exact .fact hh
      · rename_i hl
        have hlt : ifAt (snds l) < l.length := by omega
        split at e
        · exact absurd e (by simp)
        · rename_i b hb
          rw [refLits_iff (h.drop _)] at hb
          simp only [Option.some.injEq] at e
          subst e
          have h9 := ifAt_kind l h hlt
          rw [tk_lt hlt] at h9
          have e2 := cut_at (l := l) (Nat.zero_le (ifAt (snds l))) hlt
          rw [List.drop_zero, Nat.sub_zero] at e2
          have hR := IsClause.rule hh h9 hb
          rwa [← e2] at hR
  · intro hC
    unfold refClause
    rw [snds_take, snds_drop, snds_len]
    cases hC with
    | fact ha =>
      have hi : ifAt (snds l) = l.length := by
        have := ifAt_run l [] h (no_atom ha (by omega))
        simpa [snds, ifAt] using this
      rw [hi, List.take_of_length_le (Nat.le_refl _), (refHead_iff h _).2 ha]
      simp
    | rule ha h9 hB =>
      rename_i a b p q i
      have hp : AllOk p := fun x hx => h x (by simp [hx])
      have hq : AllOk q := fun x hx => h x (by simp [hx])
      have hi : ifAt (snds (p ++ i :: q)) = p.length := by
        rw [ifAt_run p (i :: q) hp (no_atom ha (by omega))]
        show p.length + ifAt (i.2 :: snds q) = _
        rw [ifAt, (k_eq (h i (by simp)).k9).2 h9]; rfl
      rw [hi]
      have e1 : (p ++ i :: q).take p.length = p := by simp
      have e2 : (p ++ i :: q).drop (p.length + 1) = q := by rw [← List.drop_drop]; simp
      rw [e1, e2, (refHead_iff hp _).2 ha, (refLits_iff hq _).2 hB]
      simp only
      rw [if_neg (by simp)]

theorem refCls_sound {l : List Tok} (h : AllOk l) : ∀ (n f i : Nat) (cs : List PClause), f ≤ i → i + n = l.length → refCls (snds l) n f i = some cs → IsProg cs (l.drop f) := by
  intro n
  induction n with
  | zero =>
    intro f i cs hf hn e
    unfold refCls at e
    rw [snds_len] at e
    split at e
    · rename_i hl
      simp only [Option.some.injEq] at e
      subst e
      rw [List.drop_eq_nil_of_le (by omega)]; exact .nil
    · exact absurd e (by simp)
  | succ n ih =>
    intro f i cs hf hn e
    have hi : i < l.length := by omega
    unfold refCls at e
    rw [gB_snds, tk_lt hi] at e
    split at e
    · rename_i h7
      have hk := (k_eq (h l[i] (List.getElem_mem hi)).k7).1 h7
      split at e
      · exact absurd e (by simp)
      · rename_i c hc
        rw [snds_cut, refClause_iff ((h.drop f).take _)] at hc
        obtain ⟨cs', hcs, rfl⟩ := Option.map_eq_some_iff.1 e
        rw [cut_at hf hi]
        exact .cons hc hk (ih _ _ _ (Nat.le_refl _) (by omega) hcs)
    · exact ih _ _ _ (by omega) (by omega) e
theorem refCls_run {l : List Tok} (h : AllOk l) (f : Nat) : ∀ (p r : List Tok) (i n : Nat), l.drop i = p ++ r → No 7 p → refCls (snds l) (n + p.length) f i = refCls (snds l) n f (i + p.length)
  | [], r, i, n, _, _ => rfl
  | x :: p, r, i, n, hl, hn => by
    obtain ⟨h1, h2, h3⟩ := tk_drop hl
    have ht := h.tk i
    rw [h1] at ht
    have k7 := k_eq ht.k7
    rw [show n + (x :: p).length = (n + p.length) + 1 by simp only [List.length_cons]; omega, show i + (x :: p).length = i + 1 + p.length by simp only [List.length_cons]; omega]
    rw [refCls, gB_snds, h1, if_neg (fun e => hn x (by simp) (k7.1 e))]
    exact refCls_run h f p r (i + 1) n h3 (fun y hy => hn y (by simp [hy]))
theorem refCls_full {l : List Tok} (h : AllOk l) {cs : List PClause} {p : List Tok} (hP : IsProg cs p) : ∀ f, f ≤ l.length → l.drop f = p → refCls (snds l) p.length f f = some cs := by
  induction hP with
  | nil =>
    intro f hf hl
    rw [List.drop_eq_nil_iff] at hl
    rw [List.length_nil, refCls, snds_len, if_pos (by omega)]
  | cons hC hd _ ih =>
    rename_i c cs p q d _
    intro f hf hl
    have hp : AllOk p := fun x hx => h x (List.mem_of_mem_drop (i := f) (by rw [hl]; simp [hx]))
    have h1 := drop_past hl
    obtain ⟨h2, h3, h4⟩ := tk_drop h1
    have ht := h.tk (f + p.length)
    rw [h2] at ht
    rw [show (p ++ d :: q).length = (q.length + 1) + p.length by simp; omega, refCls_run h f p (d :: q) f _ hl (no_clause hC), refCls, gB_snds, h2, if_pos ((k_eq ht.k7).2 hd), snds_cut, take_len hl, (refClause_iff hp c).2 hC]
    simp only
    rw [ih (f + p.length + 1) (by omega) h4]; rfl
theorem refProg_iff {l : List Tok} (h : AllOk l) (cs : List PClause) : refProg (snds l) = some cs ↔ IsProg cs l := by
  unfold refProg
  rw [snds_len]
  constructor
  · intro e
    have := refCls_sound h _ 0 0 cs (Nat.le_refl _) (by omega) e
    simpa using this
  · intro hP; exact refCls_full h hP 0 (by omega) (by simp)
theorem parse_same {l : List Tok} (h : AllOk l) : refProg (snds l) = pProg l.length l.length l := by
  apply Option.ext
  intro cs
  show refProg (snds l) = some cs ↔ pProg l.length l.length l = some cs
  rw [refProg_iff h, pProg_iff]
/-- The clauses of a text: the document's answer and the program's, words and clauses together. -/
theorem read_same (s : ByteArray) : (refW s.size s).bind refProg = (splitB s).bind fun l => pProg l.length l.length l := by
  rw [words_same]
  cases hs : splitB s with
  | none => rfl
  | some l => exact parse_same fun x hx => (splitB_ok hs x hx).1

end Go.Proofs.YteampbddflhngaaGreat

/- The program's answer and the document's are the same. -/
namespace Go.Proofs.YteampbddflhngaaGreat

theorem rising_inj {ps : List ByteArray} (h : Rising ps) {i j : Nat} (hi : i < ps.length) (hj : j < ps.length) (e : ps[i] = ps[j]) : i = j := by
  unfold Rising at h
  rw [List.pairwise_iff_getElem] at h
  rcases Nat.lt_trichotomy i j with hl | hl | hl
  · have := h i j hi hj hl; rw [e, lt_irrefl] at this; cases this
  · exact hl
  · have := h j i hj hi hl; rw [e, lt_irrefl] at this; cases this
theorem fval_self {ps : List ByteArray} {sv : List Nat} (h : Rising ps) (hl : sv.length = ps.length) {k : Nat} (hk : k < ps.length) : fval ps sv ps[k] = sv[k] := by
  obtain ⟨j, hj⟩ := placeR_mem (List.getElem_mem hk)
  obtain ⟨h1, h2⟩ := placeR_lt hj
  have := rising_inj h h1 hk h2
  subst this
  exact fval_at hj (by omega)
theorem val_self {t : List PEnt} (h : Rising (namesT t)) {k : Nat} (hk : k < t.length) : val t t[k].name = t[k].stratum := by
  unfold val
  cases he : entAt t t[k].name with
  | none => exact absurd rfl (entAt_out h he t[k] (List.getElem_mem hk))
  | some e =>
    obtain ⟨hp, h1, h2⟩ := entAt_some he
    have hj : placeB t t[k].name = k := rising_inj h (by simpa [namesT] using hp) (by simpa [namesT] using hk) (by simp [namesT, h1, h2])
    simp only
    rw [← h1]
    congr 1
    congr 1
theorem tab_in {t : List PEnt} {cs : List PClause} (h : Tab t (cs.flatMap litsOf)) : AllIn t cs := by
  intro c hc l hl
  cases he : entAt t l.pred with
  | some e => rfl
  | none =>
    obtain ⟨e, hm, hn⟩ := List.mem_map.1 ((h.names l.pred).2 ⟨l, List.mem_flatMap.2 ⟨c, hc, hl⟩, rfl⟩)
    exact absurd hn (entAt_out h.rise he e hm)
theorem val_zero {t : List PEnt} (h : ∀ e ∈ t, e.stratum ≤ 0) (n : ByteArray) : val t n = 0 := by
  unfold val; split
  · rename_i e he; have := h e (entAt_mem he).1; omega
  · rfl
/-- What the document's answer is, from its parts. -/
inductive RefOut (s : ByteArray) : Except Int (List PClause × List ByteArray × List Nat) → Prop
  | long : 500 < s.size → RefOut s (.error 1)
  | lex : ¬ 500 < s.size → refW s.size s = none → RefOut s (.error 2)
  | parse {l : List ByteArray} : ¬ 500 < s.size → refW s.size s = some l → refProg l = none → RefOut s (.error 3)
  | wrong {l : List ByteArray} {cs : List PClause} : ¬ 500 < s.size → refW s.size s = some l → refProg l = some cs → wrongB cs ≠ 0 → RefOut s (.error (wrongB cs))
  | strata {l : List ByteArray} {cs : List PClause} : ¬ 500 < s.size → refW s.size s = some l → refProg l = some cs → wrongB cs = 0 → (¬ ∃ f, Sol cs f) → RefOut s (.error 7)
  | ok {l : List ByteArray} {cs : List PClause} {ps : List ByteArray} {sv : List Nat} : ¬ 500 < s.size → refW s.size s = some l → refProg l = some cs → wrongB cs = 0 → Rising ps → (∀ n, n ∈ ps ↔ ∃ x ∈ cs.flatMap litsOf, x.pred = n) → sv.length = ps.length → Least cs (fval ps sv) → RefOut s (.ok (cs, ps, sv))
def outB : Except Int (List PClause × List PEnt) → Except Int (List PClause × List ByteArray × List Nat)
  | .error k => .error k
  | .ok (cs, t) => .ok (cs, namesT t, t.map PEnt.stratum)
theorem comp_prog {s : ByteArray} {l : List ByteArray} (h : refW s.size s = some l) : ∃ tl, splitB s = some tl ∧ refProg l = pProg tl.length tl.length tl := by
  have h1 := read_same s
  rw [h] at h1
  cases hs : splitB s with
  | none => rw [words_same, hs] at h; cases h
  | some tl => rw [hs] at h1; exact ⟨tl, rfl, h1⟩
theorem wrong_cases {cs : List PClause} : (wrongB cs = 4 ∧ cs.any manyC = true) ∨ (wrongB cs = 5 ∧ cs.any manyC = false ∧ collB cs = none) ∨ (∃ t, cs.any manyC = false ∧ collB cs = some t ∧ ((wrongB cs = 6 ∧ cs.all safeC = false) ∨ (wrongB cs = 0 ∧ cs.all safeC = true))) := by
  unfold wrongB
  rw [any_many, all_safe]
  cases hm : cs.any manyC with
  | true => exact Or.inl ⟨rfl, rfl⟩
  | false =>
    right
    cases hc : collB cs with
    | none => left; rw [coll_none hc]; exact ⟨rfl, rfl, rfl⟩
    | some t =>
      right
      refine ⟨t, rfl, rfl, ?_⟩
      rw [(coll_some hc).1]
      cases hs : cs.all safeC with
      | true => exact Or.inr ⟨rfl, rfl⟩
      | false => exact Or.inl ⟨rfl, rfl⟩
theorem coll_zero {cs : List PClause} {t : List PEnt} (h : collB cs = some t) : ∀ e ∈ t, e.stratum ≤ 0 := addO_zero _ [] (fun e he => by cases he) t h
theorem comp_same {s : ByteArray} {r : Except Int (List PClause × List ByteArray × List Nat)} (h : RefOut s r) : outB (compB s) = r := by
  cases h with
  | long h => unfold compB; rw [if_pos h]; rfl
  | lex h hw =>
    unfold compB; rw [if_neg h]
    rw [words_same] at hw
    cases hs : splitB s with
    | none => rfl
    | some tl => rw [hs] at hw; cases hw
  | parse h hw hp =>
    obtain ⟨tl, h1, h2⟩ := comp_prog hw
    rw [hp] at h2
    unfold compB; rw [if_neg h, h1]; simp only; rw [← h2]; rfl
  | wrong h hw hp hx =>
    rename_i cs
    obtain ⟨tl, h1, h2⟩ := comp_prog hw
    rw [hp] at h2
    unfold compB; rw [if_neg h, h1]; simp only; rw [← h2]; simp only
    rcases wrong_cases (cs := cs) with ⟨e, a⟩ | ⟨e, a, b⟩ | ⟨t, a, b, ⟨e, c⟩ | ⟨e, c⟩⟩
    · rw [e, a]; rfl
    · rw [e, a, b]; rfl
    · rw [e, a, b]; simp only; rw [c]; rfl
    · exact absurd e hx
  | strata h hw hp hx hno =>
    rename_i cs
    obtain ⟨tl, h1, h2⟩ := comp_prog hw
    rw [hp] at h2
    unfold compB; rw [if_neg h, h1]; simp only; rw [← h2]; simp only
    rcases wrong_cases (cs := cs) with ⟨e, a⟩ | ⟨e, a, b⟩ | ⟨t, a, b, ⟨e, c⟩ | ⟨e, c⟩⟩
    · rw [hx] at e; cases e
    · rw [hx] at e; cases e
    · rw [hx] at e; cases e
    · rw [a, b]; simp only; rw [c]
      have hS := strat_iff (tab_in (coll_some b).2) (val_zero (coll_zero b))
      have : (stratN (t.length + 1) t cs).2 = false := by rw [← Bool.not_eq_true]; exact fun e => hno (hS.1.1 e)
      rw [this]; rfl
  | ok h hw hp hx hr hm hl hL =>
    rename_i l cs ps sv
    obtain ⟨tl, h1, h2⟩ := comp_prog hw
    rw [hp] at h2
    unfold compB; rw [if_neg h, h1]; simp only; rw [← h2]; simp only
    rcases wrong_cases (cs := cs) with ⟨e, a⟩ | ⟨e, a, b⟩ | ⟨t, a, b, ⟨e, c⟩ | ⟨e, c⟩⟩
    · rw [hx] at e; cases e
    · rw [hx] at e; cases e
    · rw [hx] at e; cases e
    · rw [a, b]; simp only; rw [c]
      have hT := (coll_some b).2
      have hS := strat_iff (tab_in hT) (val_zero (coll_zero b))
      have h2t := hS.1.2 ⟨_, hL.1⟩
      have hLt := hS.2 h2t
      have hn := strat_names (t.length + 1) t cs (tab_in hT)
      rw [h2t]
      simp only [if_true, Bool.false_eq_true, if_false, outB]
      generalize (stratN (t.length + 1) t cs).1 = t2 at hLt hn
      have hps : namesT t2 = ps := hn.trans (rising_unique hT.rise hr fun n => (hT.names n).trans (hm n).symm)
      subst hps
      have hsv : t2.map PEnt.stratum = sv := by
        apply List.ext_getElem (by rw [hl]; simp [namesT])
        intro k hk1 hk2
        have hk : k < t2.length := by simpa using hk1
        have e1 := fval_self hr hl (k := k) (by omega)
        have e2 := val_self hr hk
        rw [← e1, least_same hL hLt]
        simp only [namesT, List.getElem_map]
        exact e2.symm
      rw [hsv]

end Go.Proofs.YteampbddflhngaaGreat
