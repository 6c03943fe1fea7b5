import Derived.Test.YteampbddflhngaaGreatP23

/- What is known of a compiled text. -/
namespace Go.Proofs.YteampbddflhngaaGreat
open Go.RowKit
variable {lo : Nat}

theorem splitN_six (s : ByteArray) : ∀ (n i : Nat) (l : List Tok), splitN n s i = some l → ∀ x ∈ l, x.2.size ≤ 6 := by
  intro n
  induction n with
  | zero => intro i l h; simp [splitN] at h; subst h; simp
  | succ n ih =>
    intro i l h
    by_cases hi : i < s.size
    · cases hb : bBlank (bAt s i) with
      | true => rw [splitN_blank hi hb] at h; exact ih _ _ h
      | false =>
        generalize hk : kindB (bAt s i) (bAt s (i + 1)) = k
        by_cases hk0 : k = 0
        · subst hk0; rw [splitN_none hi hb hk] at h; exact absurd h (by simp)
        · by_cases hl : 6 < endB s i k - i
          · rw [splitN_long hi hb hk hl] at h; exact absurd h (by simp)
          · rw [splitN_word hi hb hk hk0 hl] at h
            obtain ⟨r, hr, rfl⟩ := Option.map_eq_some_iff.1 h
            intro x hx
            rcases List.mem_cons.1 hx with rfl | hx
            · rw [ByteArray.size_extract]; omega
            · exact ih _ _ hr x hx
    · rw [splitN_stop hi] at h; simp at h; subst h; simp
theorem isAtom_pred {a : PLit} {l : List Tok} (h : IsAtom a l) : ∃ y ∈ l, y.2 = a.pred := by
  cases h with
  | bare => exact ⟨_, List.mem_cons_self, rfl⟩
  | args => exact ⟨_, List.mem_cons_self, rfl⟩
theorem isLit_pred {a : PLit} {l : List Tok} (h : IsLit a l) : ∃ y ∈ l, y.2 = a.pred := by
  cases h with
  | plain h => exact isAtom_pred h
  | neg _ h => obtain ⟨y, hy, e⟩ := isAtom_pred h; exact ⟨y, by simp [hy], e⟩
theorem isBody_pred : ∀ {b : List PLit} {l : List Tok}, IsBody b l → ∀ a ∈ b, ∃ y ∈ l, y.2 = a.pred := by
  intro b l h
  induction h with
  | one h => intro a ha; simp at ha; subst ha; exact isLit_pred h
  | more h _ _ ih =>
    intro a ha
    rcases List.mem_cons.1 ha with rfl | ha
    · obtain ⟨y, hy, e⟩ := isLit_pred h; exact ⟨y, by simp [hy], e⟩
    · obtain ⟨y, hy, e⟩ := ih a ha; exact ⟨y, by simp [hy], e⟩
theorem isProg_pred : ∀ {cs : List PClause} {l : List Tok}, IsProg cs l → ∀ c ∈ cs, ∀ a ∈ litsOf c, ∃ y ∈ l, y.2 = a.pred := by
  intro cs l h
  induction h with
  | nil => intro c hc; cases hc
  | cons h _ _ ih =>
    intro c hc a ha
    rcases List.mem_cons.1 hc with rfl | hc
    · cases h with
      | fact h => simp [litsOf] at ha; subst ha; obtain ⟨y, hy, e⟩ := isAtom_pred h; exact ⟨y, by simp [hy], e⟩
      | rule h _ h2 =>
        simp only [litsOf] at ha
        rcases List.mem_cons.1 ha with rfl | ha
        · obtain ⟨y, hy, e⟩ := isAtom_pred h; exact ⟨y, by simp [hy], e⟩
        · obtain ⟨y, hy, e⟩ := isBody_pred h2 a ha; exact ⟨y, by simp [hy], e⟩
    · obtain ⟨y, hy, e⟩ := ih c hc a ha; exact ⟨y, by simp [hy], e⟩
theorem args_le_sum : ∀ {ls : List PLit} {l : PLit}, l ∈ ls → l.args.length ≤ sumArgs ls
  | [], _, h => by cases h
  | a :: r, l, h => by
    rcases List.mem_cons.1 h with rfl | h
    · simp [sumArgs]
    · have := args_le_sum h; simp [sumArgs] at this ⊢; omega
theorem txt_ok {s : ByteArray} {cs : List PClause} {t : List PEnt} (h : compB s = .ok (cs, t)) : TxtOK cs t := by
  unfold compB at h
  split at h
  · cases h
  · rename_i hs
    split at h
    · cases h
    · rename_i tl hS
      split at h
      · cases h
      · rename_i cs2 hP
        split at h
        · cases h
        · rename_i hm
          split at h
          · cases h
          · rename_i t0 hC
            split at h
            · split at h
              · simp only [Except.ok.injEq, Prod.mk.injEq] at h
                obtain ⟨rfl, rfl⟩ := h
                have hall : AllOk tl := fun x hx => (splitB_ok hS x hx).1
                have hw : refW s.size s = some (snds tl) := by rw [words_same, hS]; rfl
                have hr : refProg (snds tl) = some cs2 := by
                  have := read_same s
                  rw [hw, hS] at this
                  simp only [Option.bind_some] at this
                  rw [this]; exact hP
                have hrd := rdOK_of (by omega) hw hr
                have hI := (refProg_iff hall cs2).1 hr
                have hT := (coll_some hC).2
                have hn := strat_names (t0.length + 1) t0 cs2 (tab_in hT)
                have hlen : t0.length ≤ 1000 := by have := addO_len _ _ _ hC; have := hrd.lits; simp only [List.length_nil] at *; omega
                refine ⟨hrd.len, ?_, fun c hc => ?_, ?_⟩
                · have := congrArg List.length hn; simp [namesT] at this; omega
                · obtain ⟨h1, h2, h3, h4⟩ := hrd.ok c hc
                  have hb6 : c.body.length ≤ 6 := by
                    false_or_by_contra
                    rename_i hb
                    apply hm
                    rw [List.any_eq_true]
                    refine ⟨c, hc, ?_⟩
                    have h6 : 6 < c.body.length := by omega
                    unfold manyC
                    simp [h6]
                  refine ⟨⟨fun l hl => ?_, by omega⟩, h1, hb6, h3⟩
                  obtain ⟨y, hy, e⟩ := isProg_pred hI c hc l hl
                  have hy6 := splitN_six s _ _ _ hS y hy
                  have hy0 := (splitB_ok hS y hy).2
                  refine ⟨by rw [← e]; exact hy6, by rw [← e]; exact hy0, ?_, fun t2 ht2 => ?_⟩
                  · have := args_le_sum hl; omega
                  · obtain ⟨y2, hy2, e2⟩ := isProg_mem hI c hc l hl t2 ht2
                    exact ⟨h4 l hl t2 ht2, by rw [← e2]; exact splitN_six s _ _ _ hS y2 hy2⟩
                · rw [hn]; exact hT.rise
              · cases h
            · cases h
end Go.Proofs.YteampbddflhngaaGreat

/- derivelaw.World.compiled in the world of Tells. -/
namespace Go.Proofs.YteampbddflhngaaGreat
open Go.RowKit
variable {lo : Nat}

theorem TWp.addp {B : Nat} {w w2 W : World} {wb : Nat} {M : TM} {psv rowv lsv lwv litv : Value} {ys : List Value} (h : TWp B w wb M [] psv rowv lsv lwv litv ys) (hb2 : Below w.heap.size w w2) {p1 p2 : Nat} {cs : List PClause} {t : List PEnt} (hp1 : PProg w.heap.size w2 p1 cs t) (hp2 : RProg w.heap.size w2 p2 cs t) (htx : TxtOK cs t)
    (hs : Save psv.ownBlock.toList w2 W) {psv' : Value} (ho : W.ownsRow B 40 2 psv' (M.ps.length + 1) (psCells M.ps ++ [.pointer (some ⟨p1, 0, none⟩), .pointer (some ⟨p2, 0, none⟩)])) (hat : psv'.ownBlock = psv.ownBlock ∨ ∃ g, psv'.ownBlock = some g ∧ w2.heap.size ≤ g) :
    TWp B (W.setCell ⟨wb, 0, none⟩ psv') wb { M with ps := M.ps ++ [(p1, p2, cs, t)] } [] psv' rowv lsv lwv litv ys := by
  have h2 := h.below hb2
  have hlt := h.lt
  have hz := hb2.size
  have hbW := h2.box.save hs (own_ne_list h2.ps h2.box (by decide))
  have hsv : Save (wb :: psv.ownBlock.toList) w2 (W.setCell ⟨wb, 0, none⟩ psv') := (hs.more (fun x hx => List.mem_cons_of_mem _ hx)).trans ((Save.set W wb 0 psv').more (by simp))
  have notN : ∀ {b1 : Nat} {e : TypeId} {s1 : Nat} {v : Value} {n1 : Nat} {xs : List Value}, w2.ownsRow b1 e s1 v n1 xs → e ≠ 35 → e ≠ 40 → ∀ b, v.ownBlock = some b → b ∉ wb :: psv.ownBlock.toList := by
    intro b1 e s1 v n1 xs ho2 hT1 hT2 b hvb hm
    rcases List.mem_cons.1 hm with h1 | h1
    · exact own_ne_box ho2 h2.box hT1 hvb h1
    · exact own_ne_own ho2 h2.ps hT2 hvb (mem_own h1)
  have hmut : ∀ b, b ∈ mutsOf wb psv' rowv lsv lwv litv { M with ps := M.ps ++ [(p1, p2, cs, t)] } → b ∈ mutsOf wb psv rowv lsv lwv litv M ∨ w2.heap.size ≤ b := by
    intro b hb
    simp only [mutsOf, List.mem_cons, List.mem_append] at hb ⊢
    rcases hb with h1 | ((((((((h1 | h1) | h1) | h1) | h1) | h1) | h1) | h1))
    · simp [h1]
    · rcases hat with h3 | ⟨g, h3, h4⟩
      · rw [h3] at h1; simp [h1]
      · rw [h3] at h1; simp at h1; subst h1; exact Or.inr h4
    all_goals simp [h1]
  have hN : ∀ b ∈ wb :: psv.ownBlock.toList, b ∈ mutsOf wb psv rowv lsv lwv litv M := by
    intro b hb
    simp only [List.mem_cons] at hb
    simp only [mutsOf, List.mem_cons, List.mem_append]
    rcases hb with h1 | h1 <;> simp [h1]
  refine ⟨h.low, ?_, ?_, own_save h2.row hsv (notN h2.row (by decide) (by decide)), own_save h2.ls hsv (notN h2.ls (by decide) (by decide)), own_save h2.lw hsv (notN h2.lw (by decide) (by decide)), own_save h2.lits hsv (notN h2.lits (by decide) (by decide)), by simp, h.sep, h.apart, ?_, ?_, ?_⟩
  · have hq := hbW.set 0 psv'; simpa using hq
  · have := own_but ho ((But.refl wb W).setCell 0 psv') hbW (by decide)
    simpa [psCells] using this
  · intro x hx
    obtain ⟨h3, h4, h5⟩ := h2.lists x hx
    exact ⟨own_save h3 hsv (notN h3 (by decide) (by decide)), own_save h4 hsv (notN h4 (by decide) (by decide)), h5⟩
  · intro i hi
    obtain ⟨hs2, h3, h4, h5⟩ := h2.own i hi
    exact ⟨hs2, h3, h4, own_save h5 hsv (notN h5 (by decide) (by decide))⟩
  · intro p hp
    rcases List.mem_append.1 hp with hp | hp
    · exact (h2.pairs p hp).save hsv (fun b hb => by simpa using hN b hb) (fun b hb => by simpa using hmut b (by simpa using hb))
    · simp at hp
      subst hp
      exact (PairOK.new (ms := mutsOf wb psv rowv lsv lwv litv M) h.size hp1 hp2 htx hlt).save hsv hN (fun b hb => hmut b (by simpa using hb))

set_option maxRecDepth 100000 in
set_option maxHeartbeats 2000000 in
theorem compiled_tw (B : Nat) (w : World) (wb : Nat) (M : TM) (s : ByteArray) (h : TW B w wb M) (hs : s.size ≤ 1048576) (hnp : M.ps.length ≤ 1048575) :
    Calls Tryz.prog 16 #[.pointer (some ⟨wb, 0, none⟩), .string s] w fun e w' => AskPost B w wb M e w' := by
  obtain ⟨psv, rowv, lsv, lwv, litv, ys, ht⟩ := h
  have hs2 : s.size ≤ 9223372036854775807 := by omega
  have hBw := ht.size
  have HT : Hid (TWp B w wb M [] psv rowv lsv lwv litv ys) := ht
  cases hC : compB s with
  | error k =>
    have hk := compB_err hC
    have HC : Hid (compB s = .error k) := hC
    clear hC ht
    go_enter Tryz.func16, Tryz.ntmps16
    go_wp2_with (first | (go_at_call 32; refine (comp_err HC.out _ hs2).mono ?_; rintro e w1 ⟨rfl, hb1⟩) | (go_at_call 33; refine (read_err HC.out _ hs2).mono ?_; rintro e w2 ⟨rfl, hb2⟩))
    have hB2 := bnext hb1 hb2 (Nat.le_refl _)
    go_ret
    exact ⟨rfl, ⟨M, ⟨_, _, _, _, _, _, HT.out.below hB2⟩, Grow.refl M⟩, hB2.mono hBw⟩
  | ok p =>
    obtain ⟨cs, t⟩ := p
    obtain ⟨i0, hi, hz0, hzs, hzb⟩ := info_parts Tryz.infoProg
    have HC : Hid (compB s = .ok (cs, t)) := hC
    have hb := ht.box
    have ho1 := ht.ps
    have hB := ht.low
    obtain ⟨aop, capp, rfl⟩ := own_view ho1
    clear hC ht
    go_enter Tryz.func16, Tryz.ntmps16
    go_wp2_with (first | (go_at_call 32; refine (comp_ok HC.out _ hs2).mono ?_; rintro e w1 ⟨p1, rfl, hp1, hb1⟩) | (go_at_call 33; refine (read_ok HC.out _ hs2).mono ?_; rintro e w2 ⟨p2, rfl, hp2, hb2⟩; have hB2 := bnext hb1 hb2 (Nat.le_refl _); have hbx2 := hb.below hB2; have hoa2 := owns_below ho1 hB2; obtain ⟨hc2, hf2⟩ := hbx2.rules; have hlt2 := hbx2.lt; have hsz2 := hB2.size) | (at_builtin; refine wpList_push2 _ _ [.pointer (some ⟨p1, 0, none⟩), .pointer (some ⟨p2, 0, none⟩)] _ rfl (.tmp 35) (.tmp 39) 28 rfl B 40 i0 _ 2 16 Tryz.underlying28 hi hz0 hzs hzb rfl (by decide) (.slice aop M.ps.length capp) M.ps.length (psCells M.ps) rfl hoa2 (Below.refl _ _) _ _ rfl (by simp) rfl (by simp [Value.oneCell']) (by omega) (by omega) (by omega) ?_; intro v' w3 ho3 hS3 hat3; obtain ⟨ao4, cap4, rfl⟩ := own_view ho3; have hbx3 := hbx2.save hS3 (own_ne_list hoa2 hbx2 (by decide)); obtain ⟨hc4, hf4⟩ := hbx3.rules; have hlt3 := hbx3.lt))
    have hz1 := hb1.size
    go_ret
    refine ⟨rfl, ⟨_, ⟨_, _, _, _, _, _, HT.out.addp hB2 (hp1.below hb2) (hp2.low hz1) (txt_ok HC.out) hS3 ho3 hat3⟩, ⟨by simp, by simp, by simp, by simp⟩⟩, ((hB2.mono hBw).trans (hS3.below (fun x hx => own_ge ho1 (mem_own hx)) (by omega))).setCell hB _⟩
end Go.Proofs.YteampbddflhngaaGreat

/- derivelaw.World.step in the world of Tells. -/
namespace Go.Proofs.YteampbddflhngaaGreat
open Go.RowKit
variable {lo : Nat}

theorem psCells_at : ∀ (ps : List PairP) (k : Nat) (hk : k < ps.length), (psCells ps)[k * 2]? = some (.pointer (some ⟨ps[k].1, 0, none⟩)) ∧ (psCells ps)[k * 2 + 1]? = some (.pointer (some ⟨ps[k].2.1, 0, none⟩))
  | [], k, hk => by simp at hk
  | p :: r, 0, _ => by simp [psCells]
  | p :: r, k + 1, hk => by
    have := psCells_at r k (by simpa using hk)
    simp only [psCells, List.flatMap_cons] at this ⊢
    rw [show (k + 1) * 2 = k * 2 + 1 + 1 from by omega, show k * 2 + 1 + 1 + 1 = k * 2 + 1 + 1 + 1 from rfl]
    simpa using this
/-- What asked keeps at a kind. -/
def AskAt (B wb : Nat) (M : TM) (k a b c : Int) (s : ByteArray) : Prop := ∀ W p, TW B W wb M → p ∈ M.ps → Calls Tryz.prog 96 #[.pointer (some ⟨wb, 0, none⟩), .agg #[.pointer (some ⟨p.1, 0, none⟩), .pointer (some ⟨p.2.1, 0, none⟩)], .agg #[.int .i64 k, .int .i64 a, .int .i64 b, .int .i64 c, .string s]] W fun e w' => AskPost B W wb M e w'

end Go.Proofs.YteampbddflhngaaGreat
