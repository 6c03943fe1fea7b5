import Derived.Test.YteampbddflhngaaGreatP11

/- Go's order on texts: total. Sorted lists without doubles. No program, no world. -/
namespace Go.Proofs.YteampbddflhngaaGreat

theorem bl_irrefl : ∀ a : List UInt8, Op.bytesLess a a = false
  | [] => rfl
  | x :: a => by simp [Op.bytesLess, bl_irrefl a]
theorem bl_total : ∀ a b : List UInt8, Op.bytesLess a b = false → Op.bytesLess b a = false → a = b
  | [], [], _, _ => rfl
  | [], _ :: _, h, _ => by simp [Op.bytesLess] at h
  | _ :: _, [], _, h => by simp [Op.bytesLess] at h
  | x :: a, y :: b, h1, h2 => by
    simp only [Op.bytesLess, Bool.or_eq_false_iff, decide_eq_false_iff_not, Bool.and_eq_false_iff, beq_eq_false_iff_ne] at h1 h2
    have hxy : x = y := by
      have ha := h1.1
      have hb := h2.1
      rw [UInt8.not_lt] at ha hb
      exact UInt8.le_antisymm hb ha
    subst hxy
    rw [bl_total a b (by rcases h1.2 with h | h
                         · exact absurd rfl h
                         · exact h) (by rcases h2.2 with h | h
                                        · exact absurd rfl h
                                        · exact h)]
theorem bl_trans : ∀ a b c : List UInt8, Op.bytesLess a b = true → Op.bytesLess b c = true → Op.bytesLess a c = true
  | _, [], _, h, _ => by cases ‹List UInt8› <;> simp [Op.bytesLess] at h
  | _, _ :: _, [], _, h => by simp [Op.bytesLess] at h
  | [], _ :: _, _ :: _, _, _ => rfl
  | x :: a, y :: b, z :: c, h1, h2 => by
    simp only [Op.bytesLess, Bool.or_eq_true, decide_eq_true_eq, Bool.and_eq_true, beq_iff_eq] at h1 h2 ⊢
    rcases h1 with h1 | ⟨rfl, h1⟩
    · rcases h2 with h2 | ⟨rfl, h2⟩
      · exact Or.inl (UInt8.lt_trans h1 h2)
      · exact Or.inl h1
    · rcases h2 with h2 | ⟨rfl, h2⟩
      · exact Or.inl h2
      · exact Or.inr ⟨rfl, bl_trans a b c h1 h2⟩
theorem lt_irrefl (a : ByteArray) : ltB a a = false := bl_irrefl _
theorem lt_total {a b : ByteArray} (h1 : ltB a b = false) (h2 : ltB b a = false) : a = b := toList_inj (bl_total _ _ h1 h2)
theorem lt_trans {a b c : ByteArray} (h1 : ltB a b = true) (h2 : ltB b c = true) : ltB a c = true := bl_trans _ _ _ h1 h2
theorem lt_asymm {a b : ByteArray} (h : ltB a b = true) : ltB b a = false := by
  cases h2 : ltB b a with
  | false => rfl
  | true => have := lt_trans h h2; rw [lt_irrefl] at this; cases this
/-- Rising, each once. -/
def Rising (l : List ByteArray) : Prop := l.Pairwise fun a b => ltB a b = true
theorem rising_unique : ∀ {a b : List ByteArray}, Rising a → Rising b → (∀ x, x ∈ a ↔ x ∈ b) → a = b
  | [], [], _, _, _ => rfl
  | [], y :: b, _, _, h => by have := (h y).2 (by simp); cases this
  | x :: a, [], _, _, h => by have := (h x).1 (by simp); cases this
  | x :: a, y :: b, ha, hb, h => by
    obtain ⟨ha1, ha2⟩ := List.pairwise_cons.1 ha
    obtain ⟨hb1, hb2⟩ := List.pairwise_cons.1 hb
    have hxy : x = y := by
      have h1 := (h x).1 (by simp)
      have h2 := (h y).2 (by simp)
      rcases List.mem_cons.1 h1 with h1 | h1
      · exact h1
      · rcases List.mem_cons.1 h2 with h2 | h2
        · exact h2.symm
        · have e1 := hb1 x h1
          have e2 := ha1 y h2
          have := lt_trans e1 e2; rw [lt_irrefl] at this; cases this
    subst hxy
    have hna : x ∉ a := fun hm => by have := ha1 x hm; rw [lt_irrefl] at this; cases this
    have hnb : x ∉ b := fun hm => by have := hb1 x hm; rw [lt_irrefl] at this; cases this
    rw [rising_unique ha2 hb2 (fun z => ?_)]
    have hz := h z
    simp only [List.mem_cons] at hz
    constructor
    · intro hm
      rcases hz.1 (Or.inr hm) with e | e
      · subst e; exact absurd hm hna
      · exact e
    · intro hm
      rcases hz.2 (Or.inr hm) with e | e
      · subst e; exact absurd hm hnb
      · exact e
/-- How many of l are not yet in out. -/
def leftN (l out : List ByteArray) : Nat := (l.filter fun y => !memB y out).length
theorem leftN_lt {l out : List ByteArray} {x : ByteArray} (hx : x ∈ l) (hn : x ∉ out) : leftN l (out ++ [x]) < leftN l out := by
  unfold leftN
  have key : ∀ l : List ByteArray, (l.filter fun y => !memB y (out ++ [x])).length ≤ (l.filter fun y => !memB y out).length ∧ (x ∈ l → (l.filter fun y => !memB y (out ++ [x])).length < (l.filter fun y => !memB y out).length) := by
    intro l
    induction l with
    | nil => simp
    | cons y l ih =>
      have hsub : memB y out = true → memB y (out ++ [x]) = true := fun h => memB_iff.2 (List.mem_append.2 (Or.inl (memB_iff.1 h)))
      cases h1 : memB y out with
      | true =>
        have h2 := hsub h1
        simp only [List.filter_cons, h1, h2, Bool.not_true, Bool.false_eq_true, if_false]
        refine ⟨ih.1, fun hm => ih.2 ?_⟩
        rcases List.mem_cons.1 hm with e | e
        · subst e; exact absurd (memB_iff.1 h1) hn
        · exact e
      | false =>
        cases h2 : memB y (out ++ [x]) with
        | true =>
          simp only [List.filter_cons, h1, h2, Bool.not_true, Bool.not_false, Bool.false_eq_true, if_false, if_true, List.length_cons]
          exact ⟨by omega, fun _ => by omega⟩
        | false =>
          simp only [List.filter_cons, h1, h2, Bool.not_false, if_true, List.length_cons]
          refine ⟨by omega, fun hm => ?_⟩
          rcases List.mem_cons.1 hm with e | e
          · subst e; rw [memB_no] at h2; simp at h2
          · have := ih.2 e; omega
  exact (key l).2 hx
theorem leftN_nil (l : List ByteArray) : leftN l [] = l.length := by
  simp [leftN, memB]
end Go.Proofs.YteampbddflhngaaGreat

/- Walks: deriveref.sorted. -/
namespace Go.Proofs.YteampbddflhngaaGreat
open Go.RowKit
variable {lo : Nat}

/-- May y come behind out? -/
def cand (out : List ByteArray) (y : ByteArray) : Bool := match out.getLast? with
  | none => true
  | some z => ltB z y
theorem cand_nil (y : ByteArray) : cand [] y = true := rfl
theorem cand_snoc (o : List ByteArray) (z y : ByteArray) : cand (o ++ [z]) y = ltB z y := by simp [cand]
/-- The place k (-1: none) is that of the least candidate among the first i. -/
def LeastAt (l out : List ByteArray) (i : Nat) (k : Int) : Prop :=
  (k = -1 ∧ ∀ j (hj : j < l.length), j < i → cand out l[j] = false) ∨ ∃ (q : Nat) (hq : q < l.length), k = q ∧ q < i ∧ cand out l[q] = true ∧ ∀ j (hj : j < l.length), j < i → cand out l[j] = true → ltB l[j] l[q] = false
theorem leastAt_zero (l out : List ByteArray) : LeastAt l out 0 (-1) := Or.inl ⟨rfl, fun _ _ h => by omega⟩
theorem leastAt_no {l out : List ByteArray} {i : Nat} {k : Int} (h : LeastAt l out i k) (hi : i < l.length) (hc : cand out l[i] = false) : LeastAt l out (i + 1) k := by
  rcases h with ⟨h1, h2⟩ | ⟨q, hq, h1, h2, h3, h4⟩
  · refine Or.inl ⟨h1, fun j hj hji => ?_⟩
    rcases Nat.lt_or_ge j i with h | h
    · exact h2 j hj h
    · obtain rfl : j = i := by omega
      exact hc
  · refine Or.inr ⟨q, hq, h1, by omega, h3, fun j hj hji hcj => ?_⟩
    rcases Nat.lt_or_ge j i with h | h
    · exact h4 j hj h hcj
    · obtain rfl : j = i := by omega
      rw [hc] at hcj; cases hcj
theorem leastAt_first {l out : List ByteArray} {i : Nat} (h : LeastAt l out i (-1)) (hi : i < l.length) (hc : cand out l[i] = true) : LeastAt l out (i + 1) i := by
  rcases h with ⟨_, h2⟩ | ⟨q, _, h1, _⟩
  · refine Or.inr ⟨i, hi, rfl, by omega, hc, fun j hj hji hcj => ?_⟩
    rcases Nat.lt_or_ge j i with h | h
    · rw [h2 j hj h] at hcj; cases hcj
    · obtain rfl : j = i := by omega
      exact lt_irrefl _
  · omega
theorem leastAt_less {l out : List ByteArray} {i q : Nat} (h : LeastAt l out i q) (hi : i < l.length) (hq : q < l.length) (hc : cand out l[i] = true) (hl : ltB l[i] l[q] = true) : LeastAt l out (i + 1) i := by
  rcases h with ⟨h1, _⟩ | ⟨q', hq', h1, h2, h3, h4⟩
  · omega
  · obtain rfl : q = q' := by omega
    refine Or.inr ⟨i, hi, rfl, by omega, hc, fun j hj hji hcj => ?_⟩
    rcases Nat.lt_or_ge j i with h | h
    · cases hx : ltB l[j] l[i] with
      | false => rfl
      | true => have := lt_trans hx hl; rw [h4 j hj h hcj] at this; cases this
    · obtain rfl : j = i := by omega
      exact lt_irrefl _
theorem leastAt_more {l out : List ByteArray} {i q : Nat} (h : LeastAt l out i q) (hi : i < l.length) (hq : q < l.length) (hl : ltB l[i] l[q] = false) : LeastAt l out (i + 1) q := by
  rcases h with ⟨h1, _⟩ | ⟨q', hq', h1, h2, h3, h4⟩
  · omega
  · obtain rfl : q = q' := by omega
    refine Or.inr ⟨q, hq, rfl, by omega, h3, fun j hj hji hcj => ?_⟩
    rcases Nat.lt_or_ge j i with h | h
    · exact h4 j hj h hcj
    · obtain rfl : j = i := by omega
      exact hl
/-- What the outer loop keeps. -/
structure SortI (l out : List ByteArray) : Prop where
  rising : Rising out
  sub : ∀ x ∈ out, x ∈ l
  left : ∀ y ∈ l, y ∉ out → ∀ z ∈ out, ltB z y = true
  room : out.length + leftN l out ≤ l.length
theorem sortI_nil (l : List ByteArray) : SortI l [] := ⟨List.Pairwise.nil, fun _ h => (by cases h), fun _ _ _ _ h => (by cases h), by rw [leftN_nil]; simp⟩
theorem cand_all {out : List ByteArray} {y : ByteArray} (hr : Rising out) (h : cand out y = true) : ∀ z ∈ out, ltB z y = true := by
  intro z hz
  rcases List.eq_nil_or_concat out with e | ⟨o, x, e⟩
  · subst e; cases hz
  · rw [List.concat_eq_append] at e
    subst e
    rw [cand_snoc] at h
    rcases List.mem_append.1 hz with hz | hz
    · exact lt_trans ((List.pairwise_append.1 hr).2.2 z hz x (by simp)) h
    · simp at hz; subst hz; exact h
theorem cand_of {out : List ByteArray} {y : ByteArray} (h : ∀ z ∈ out, ltB z y = true) : cand out y = true := by
  rcases List.eq_nil_or_concat out with e | ⟨o, x, e⟩
  · subst e; rfl
  · rw [List.concat_eq_append] at e
    subst e
    rw [cand_snoc]; exact h x (by simp)
theorem sortI_step {l out : List ByteArray} {q : Nat} (h : SortI l out) (hq : q < l.length) (hk : LeastAt l out l.length q) : SortI l (out ++ [l[q]]) ∧ leftN l (out ++ [l[q]]) < leftN l out := by
  rcases hk with ⟨h1, _⟩ | ⟨q', hq', h1, _, h3, h4⟩
  · omega
  · obtain rfl : q = q' := by omega
    have hall := cand_all h.rising h3
    have hnin : l[q] ∉ out := fun hm => by have := hall _ hm; rw [lt_irrefl] at this; cases this
    have hlt := leftN_lt (List.getElem_mem hq) hnin
    refine ⟨⟨?_, ?_, ?_, ?_⟩, hlt⟩
    · exact List.pairwise_append.2 ⟨h.rising, List.pairwise_singleton _ _, fun a ha b hb => by simp at hb; subst hb; exact hall a ha⟩
    · intro x hx
      rcases List.mem_append.1 hx with hx | hx
      · exact h.sub x hx
      · simp at hx; subst hx; exact List.getElem_mem hq
    · intro y hy hny z hz
      have hno : y ∉ out := fun hm => hny (List.mem_append.2 (Or.inl hm))
      rcases List.mem_append.1 hz with hz | hz
      · exact h.left y hy hno z hz
      · simp at hz; subst hz
        obtain ⟨j, hj, rfl⟩ := List.getElem_of_mem hy
        have hcj := cand_of (h.left _ hy hno)
        have hnl := h4 j hj hj hcj
        cases hx : ltB l[q] l[j] with
        | true => rfl
        | false => exact absurd (List.mem_append.2 (Or.inr (by simp [lt_total hnl hx]))) hny
    · have := h.room; simp; omega
theorem sortI_done {l out : List ByteArray} (h : SortI l out) (hk : LeastAt l out l.length (-1)) : ∀ x, x ∈ out ↔ x ∈ l := by
  intro x
  refine ⟨h.sub x, fun hx => ?_⟩
  rcases hk with ⟨_, h2⟩ | ⟨q, _, h1, _⟩
  · false_or_by_contra
    rename_i hn
    obtain ⟨j, hj, rfl⟩ := List.getElem_of_mem hx
    have := cand_of (h.left _ hx hn)
    rw [h2 j hj hj] at this; cases this
  · omega

set_option maxRecDepth 100000 in
set_option maxHeartbeats 40000000 in
theorem rsorted_any (w : World) (v : Value) (l : List ByteArray) (hs : SIn lo w v l) (hl : l.length ≤ 1000) :
    Calls Tryz.prog 69 #[v] w fun e w' => ∃ v' r, e = .returned v' ∧ SIn w.heap.size w' v' r ∧ Rising r ∧ (∀ x, x ∈ r ↔ x ∈ l) ∧ r.length ≤ l.length ∧ Below w.heap.size w w' := by
  obtain ⟨i0, hi, hz0, hzs, hzb⟩ := info_parts Tryz.infoString
  obtain ⟨ao, cap, rfl⟩ := hs.shape
  go_enter Tryz.func69, Tryz.ntmps69
  go_wp2
  go_loopg [3] (l.length) (fun n v3 wr => ∃ out : List ByteArray, Hid (SortI l out) ∧ leftN l out ≤ n ∧ Below w.heap.size w wr ∧ wr.ownsRow w.heap.size 9 1 v3 out.length (out.map Value.string))
  case atStart => exact ⟨[], sortI_nil l, by rw [leftN_nil]; omega, Below.refl _ _, World.ownsRow_nil _ _ _ _⟩
  case round =>
    obtain ⟨out, HI, hln, hbk, hown⟩ := hrel
    obtain ⟨aoo, capo, rfl⟩ := own_view hown
    have hroom := HI.out.room
    go_wp2
    go_loopw [4, 5] (fun v4 v5 wj => ∃ (i : Nat) (kk : Int), i ≤ l.length ∧ v5 = .int .i64 i ∧ v4 = .int .i64 kk ∧ Below wr.heap.size wr wj ∧ Hid (LeastAt l out i kk) ∧ Hid (kk = -1 ∨ ∃ (q : Nat) (_ : q < l.length), kk = q)) (fun _ i _ => l.length - (intOf i).toNat)
    case atStart => exact ⟨0, -1, Nat.zero_le _, rfl, rfl, Below.refl _ _, leastAt_zero l out, Or.inl rfl⟩
    case round =>
      obtain ⟨i, kk, hil0, rfl, rfl, hbj0, HL, Hk⟩ := hrel
      have hbj := bnext hbk hbj0 (Nat.le_refl _)
      have hszj := hbj.size
      have hown2 := owns_below hown hbj0
      by_cases hil : i < l.length
      · obtain ⟨g, rfl, hg, hci⟩ := hs.cell i hil
        have hxi := (hbj.cell (p := ⟨g, i, none⟩) hg).trans hci
        have hgr : g < wr.heap.size := by omega
        clear hci
        rcases List.eq_nil_or_concat out with e | ⟨o, z, e⟩
        · subst e
          have hcd : cand [] l[i] = true := rfl
          rcases Hk.out with hkm | ⟨q, hq, hkq⟩
          · subst hkm
            have HN : Hid (LeastAt l [] (i + 1) i) := leastAt_first HL.out hil hcd
            clear HL Hk hcd
            generalize l[i] = x at *
            go_wp2
            go_quiet (fail)
            go_wp2
            go_roundw
            case rel => exact ⟨i + 1, (i : Int), by omega, by go_num, rfl, bdrewN hbj0 _, HN, Or.inr ⟨i, hil, rfl⟩⟩
            case measure => simp [intOf]; omega
          · subst hkq
            obtain ⟨gq, hgq, hgql, hcq⟩ := hs.cell q hq
            simp at hgq
            subst hgq
            have hxq := (hbj.cell (p := ⟨g, q, none⟩) hgql).trans hcq
            have hqd : decide ((q : Int) < 0) = false := by rw [decide_eq_false_iff_not]; omega
            clear hcq
            cases hlq : ltB l[i] l[q] with
            | true =>
              have HN : Hid (LeastAt l [] (i + 1) i) := leastAt_less HL.out hil hq hcd hlq
              unfold ltB at hlq
              clear HL Hk hcd
              generalize l[i] = x at *
              generalize l[q] = y at *
              go_wp2
              go_quiet (fail)
              go_wp2
              go_roundw
              case rel => exact ⟨i + 1, (i : Int), by omega, by go_num, rfl, bdrewN hbj0 _, HN, Or.inr ⟨i, hil, rfl⟩⟩
              case measure => simp [intOf]; omega
            | false =>
              have HN : Hid (LeastAt l [] (i + 1) q) := leastAt_more HL.out hil hq hlq
              unfold ltB at hlq
              clear HL Hk hcd
              generalize l[i] = x at *
              generalize l[q] = y at *
              go_wp2
              go_quiet (fail)
              go_wp2
              go_roundw
              case rel => exact ⟨i + 1, (q : Int), by omega, by go_num, rfl, bdrewN hbj0 _, HN, Or.inr ⟨q, hq, rfl⟩⟩
              case measure => simp [intOf]; omega
        · rw [List.concat_eq_append] at e
          subst e
          obtain ⟨go, capo', hvo, _, hgo, hclo⟩ := own_cells hown2 (by simp)
          simp at hvo
          obtain ⟨rfl, _⟩ := hvo
          have hzc := hclo o.length (.string z) (by simp)
          have hlen0 : ((o.length : Int) + 1 == 0) = false := by rw [beq_eq_false_iff_ne]; omega
          have hlt1 : o.length < o.length + 1 := by omega
          have hgor : go < wr.heap.size := hgo
          have hol : o.length ≤ 1000 := by simp at hroom; omega
          have hwr : IntKind.i64.wrap (o.length : Int) = (o.length : Int) := IntWalk.i64_in _ (by omega)
          clear hclo
          cases hzl : ltB z l[i] with
          | true =>
            have hcd : cand (o ++ [z]) l[i] = true := by rw [cand_snoc]; exact hzl
            have hb1 : Op.bytesLess l[i].toList z.toList = false := lt_asymm hzl
            have hb2 : (l[i].toList == z.toList) = false := seq_false (fun h => by rw [h, lt_irrefl] at hzl; cases hzl)
            clear hzl
            rcases Hk.out with hkm | ⟨q, hq, hkq⟩
            · subst hkm
              have HN : Hid (LeastAt l (o ++ [z]) (i + 1) i) := leastAt_first HL.out hil hcd
              clear HL Hk hcd
              generalize l[i] = x at *
              go_wp2
              go_quiet (fail)
              go_wp2
              go_roundw
              case rel => exact ⟨i + 1, (i : Int), by omega, by go_num, rfl, bdrewN hbj0 _, HN, Or.inr ⟨i, hil, rfl⟩⟩
              case measure => simp [intOf]; omega
            · subst hkq
              obtain ⟨gq, hgq, hgql, hcq⟩ := hs.cell q hq
              simp at hgq
              subst hgq
              have hxq := (hbj.cell (p := ⟨g, q, none⟩) hgql).trans hcq
              have hqd : decide ((q : Int) < 0) = false := by rw [decide_eq_false_iff_not]; omega
              clear hcq
              cases hlq : ltB l[i] l[q] with
              | true =>
                have HN : Hid (LeastAt l (o ++ [z]) (i + 1) i) := leastAt_less HL.out hil hq hcd hlq
                unfold ltB at hlq
                clear HL Hk hcd
                generalize l[i] = x at *
                generalize l[q] = y at *
                go_wp2
                go_quiet (fail)
                go_wp2
                go_roundw
                case rel => exact ⟨i + 1, (i : Int), by omega, by go_num, rfl, bdrewN hbj0 _, HN, Or.inr ⟨i, hil, rfl⟩⟩
                case measure => simp [intOf]; omega
              | false =>
                have HN : Hid (LeastAt l (o ++ [z]) (i + 1) q) := leastAt_more HL.out hil hq hlq
                unfold ltB at hlq
                clear HL Hk hcd
                generalize l[i] = x at *
                generalize l[q] = y at *
                go_wp2
                go_quiet (fail)
                go_wp2
                go_roundw
                case rel => exact ⟨i + 1, (q : Int), by omega, by go_num, rfl, bdrewN hbj0 _, HN, Or.inr ⟨q, hq, rfl⟩⟩
                case measure => simp [intOf]; omega
          | false =>
            have HN : Hid (LeastAt l (o ++ [z]) (i + 1) kk) := leastAt_no HL.out hil (by rw [cand_snoc]; exact hzl)
            cases hb1 : Op.bytesLess l[i].toList z.toList with
            | true =>
              clear HL hzl
              generalize l[i] = x at *
              go_wp2
              go_quiet (fail)
              go_wp2
              go_roundw
              case rel => exact ⟨i + 1, kk, by omega, by go_num, rfl, bdrewN hbj0 _, HN, Hk⟩
              case measure => simp [intOf]; omega
            | false =>
              have hb2 : (l[i].toList == z.toList) = true := seq_true (lt_total hb1 hzl)
              clear HL hzl
              generalize l[i] = x at *
              go_wp2
              go_quiet (fail)
              go_wp2
              go_roundw
              case rel => exact ⟨i + 1, kk, by omega, by go_num, rfl, bdrewN hbj0 _, HN, Hk⟩
              case measure => simp [intOf]; omega
      · have hie : i = l.length := by omega
        subst hie
        rcases Hk.out with hkm | ⟨q, hq, hkq⟩
        · subst hkm
          have HD : Hid (∀ x, x ∈ out ↔ x ∈ l) := sortI_done HI.out HL.out
          clear HL Hk
          go_wp2
          go_ret
          exact ⟨_, out, rfl, hown2, HI.out.rising, HD.out, by omega, hbj⟩
        · subst hkq
          obtain ⟨gq, rfl, hgql, hcq⟩ := hs.cell q hq
          have hxq := (hbj.cell (p := ⟨gq, q, none⟩) hgql).trans hcq
          have hgr : gq < wr.heap.size := by omega
          obtain ⟨hs1, hs2⟩ := sortI_step HI.out hq HL.out
          have HS1 : Hid (SortI l (out ++ [l[q]])) := hs1
          clear HL Hk hcq hs1
          generalize l[q] = y at *
          go_wp2_with (first | (at_builtin; refine wpList_push _ _ _ _ rfl (.tmp 47) (.tmp 52) 30 rfl w.heap.size 9 i0 _ 1 16 Tryz.underlying30 hi hz0 hzs hzb rfl (by decide) _ _ _ rfl hown2 (Below.refl _ _) _ _ rfl (by simp) rfl (by simp [Value.oneCell']) (by omega) (by omega) hszj ?_; intro v' w2 ho2 hB2 hc2 hf2 hk2 hz2'; clear hc2 hf2))
          go_roundg (leftN l (out ++ [y]))
          case measure => omega
          case rel => exact ⟨out ++ [y], HS1, Nat.le_refl _, hbj.trans hB2, by simpa using ho2⟩
end Go.Proofs.YteampbddflhngaaGreat
