import Derived.Test.YteampbddflhngaaGreatP20
import Derived.Laws.Cover3

/- derivelaw.World.asked: Preds, Text. -/
namespace Go.Proofs.YteampbddflhngaaGreat
open Go.RowKit
variable {lo : Nat}

theorem own_ge {w : World} {base : Nat} {e : TypeId} {size : Nat} {v : Value} {n : Nat} {xs : List Value} (h : w.ownsRow base e size v n xs) {b : Nat} (hb : v.ownBlock = some b) : base ≤ b := by
  obtain ⟨_, ⟨hv, _⟩ | ⟨g, cap, cur, hv, hg, _, _⟩⟩ := h
  · subst hv; cases hb
  · subst hv; simp only [Value.ownBlock, Option.some.injEq] at hb; omega
structure Grow (M M' : TM) : Prop where
  ps : M'.ps.length ≤ M.ps.length + 1
  nr : M'.nr ≤ M.nr + 1
  ls : M'.ls.length ≤ M.ls.length + 7
  lits : M'.lits.length ≤ M.lits.length + 1
theorem Grow.refl (M : TM) : Grow M M := ⟨by omega, by omega, by omega, by omega⟩
def AskPost (B : Nat) (w : World) (wb : Nat) (M : TM) (e : Ending) (w' : World) : Prop := e = .returned (.bool true) ∧ (∃ M', TW B w' wb M' ∧ Grow M M') ∧ Below B w w'
theorem TWp.size {B : Nat} {w : World} {wb : Nat} {M : TM} {R : List Nat} {psv rowv lsv lwv litv : Value} {ys : List Value} (h : TWp B w wb M R psv rowv lsv lwv litv ys) : B ≤ w.heap.size := by have := h.low; have := h.box.lt; omega
/-- One list, just made, is handed out. -/
theorem texts_one (B : Nat) (w w1 : World) (wb : Nat) (M : TM) (g : Nat) (l : List ByteArray) (vb : Value) (h : TW B w wb M) (hb : Below w.heap.size w w1) (hg : w.heap.size ≤ g) (hs : SIn w.heap.size w1 (sl g l.length) l) {lo2 : Nat} (hv : SIn lo2 w1 vb l) (hl : l.length ≤ 1000) (hn : M.ls.length ≤ 9000000000) :
    Calls Tryz.prog 41 #[.pointer (some ⟨wb, 0, none⟩), sl g l.length, vb] w1 fun e w' => AskPost B w wb M e w' := by
  obtain ⟨psv, rowv, lsv, lwv, litv, ys, ht⟩ := h
  have hB := ht.size
  have ht1 := ht.reserve hb (R := [g]) (by simpa using hg) (by simpa using own_lt hs rfl) (by simp)
  refine (texts_tw B w1 wb M g [] psv rowv lsv lwv litv ys l vb ht1 (hs.low hB) hv hl hn).mono fun e w' ⟨he, lsv', lwv', gc, h1, h2, _⟩ => ?_
  refine ⟨he, ⟨_, ⟨psv, rowv, lsv', lwv', litv, ys, h1⟩, ⟨by simp, by simp, by simp, by simp⟩⟩, (hb.mono hB).trans (h2.below (fun x hx => ?_) ht1.size)⟩
  rcases List.mem_cons.1 hx with h3 | h3
  · subst h3; exact ht.low
  · rcases List.mem_append.1 h3 with h4 | h4
    · exact own_ge ht.ls (mem_own h4)
    · exact own_ge ht.lw (mem_own h4)

set_option maxRecDepth 100000 in
set_option maxHeartbeats 2000000 in
theorem asked_12 (B : Nat) (w : World) (wb : Nat) (M : TM) (p : PairP) (a b c : Int) (s : ByteArray) (h : TW B w wb M) (hp : p ∈ M.ps) (hn : M.ls.length ≤ 9000000000) :
    Calls Tryz.prog 96 #[.pointer (some ⟨wb, 0, none⟩), .agg #[.pointer (some ⟨p.1, 0, none⟩), .pointer (some ⟨p.2.1, 0, none⟩)], .agg #[.int .i64 12, .int .i64 a, .int .i64 b, .int .i64 c, .string s]] w fun e w' => AskPost B w wb M e w' := by
  have hh := h
  obtain ⟨psv, rowv, lsv, lwv, litv, ys, ht⟩ := hh
  obtain ⟨lo, hP, hR, hT⟩ := (ht.pairs p hp).both
  obtain ⟨pb, mb, cs, t⟩ := p
  simp only at hP hR hT ⊢
  have hR0 := hR
  obtain ⟨_, cv, pv, kv, hbm, _, hsm, _⟩ := hR
  have HPR : Hid (∀ W, Below w.heap.size w W → Calls Tryz.prog 86 #[.pointer (some ⟨pb, 0, none⟩)] W fun e w' => ∃ g, W.heap.size ≤ g ∧ e = .returned (.slice (some ⟨g, 0, none⟩) t.length t.length) ∧ SIn W.heap.size w' (.slice (some ⟨g, 0, none⟩) t.length t.length) (t.map PEnt.name) ∧ Below W.heap.size W w') := fun W hW => prog_preds W pb cs t (hP.below hW) hT.names
  have HTX : Hid (∀ w1 g, Below w.heap.size w w1 → w.heap.size ≤ g → SIn w.heap.size w1 (.slice (some ⟨g, 0, none⟩) t.length t.length) (t.map PEnt.name) → Calls Tryz.prog 41 #[.pointer (some ⟨wb, 0, none⟩), .slice (some ⟨g, 0, none⟩) t.length t.length, pv] w1 fun e w' => AskPost B w wb M e w') := fun w1 g h1 h2 h3 => by
    have := texts_one B w w1 wb M g (t.map PEnt.name) pv h h1 h2 (by simpa [sl] using h3) (hsm.below h1) (by simpa using hT.names) hn
    simpa [sl] using this
  clear h ht hP hR0 hT hsm
  go_enter Tryz.func96, Tryz.ntmps96
  go_wp2_with (first | (go_at_call 86; refine (HPR.out _ (by exact (by repeat' (first | (with_reducible exact Below.refl _ _) | (with_reducible assumption) | (with_reducible refine bdrewN ?_ _) | (with_reducible refine Below.alloc ?_ ?_ _) | (with_reducible refine Below.drew ?_) | (with_reducible refine Below.setCell ?_ ?_ _) | go_size)))).mono ?_; rintro e w1 ⟨g, hg, rfl, hs1, hb1⟩; have hB1 : Below w.heap.size w w1 := bnext (by repeat' (first | (with_reducible exact Below.refl _ _) | (with_reducible assumption) | (with_reducible refine bdrewN ?_ _) | (with_reducible refine Below.alloc ?_ ?_ _) | (with_reducible refine Below.drew ?_) | (with_reducible refine Below.setCell ?_ ?_ _) | go_size)) hb1 (Nat.le_refl _); have hpx := ((Box.new w #[.pointer (some ⟨pb, 0, none⟩), .pointer (some ⟨mb, 0, none⟩)] 40).below ((Below.refl _ _).alloc (Nat.le_refl _) (.cells #[.int .i64 12, .int .i64 a, .int .i64 b, .int .i64 c, .string s] 67))).below hb1; obtain ⟨hpc, hpf⟩ := hpx.rules; have hpl := hpx.lt; have hmx := hbm.below hB1; obtain ⟨hmc, hmf⟩ := hmx.rules; have hml := hmx.lt) | (go_at_call 41; refine (HTX.out _ _ hB1 (by simp only [World.size_alloc] at hg; omega) (hs1.low (by simp only [World.size_alloc]; omega))).mono ?_; rintro e w2 ⟨rfl, hm2, hb2⟩))
  go_ret
  exact ⟨rfl, hm2, hb2⟩

set_option maxRecDepth 100000 in
set_option maxHeartbeats 2000000 in
theorem asked_16 (B : Nat) (w : World) (wb : Nat) (M : TM) (p : PairP) (a b c : Int) (s : ByteArray) (h : TW B w wb M) (hp : p ∈ M.ps) :
    Calls Tryz.prog 96 #[.pointer (some ⟨wb, 0, none⟩), .agg #[.pointer (some ⟨p.1, 0, none⟩), .pointer (some ⟨p.2.1, 0, none⟩)], .agg #[.int .i64 16, .int .i64 a, .int .i64 b, .int .i64 c, .string s]] w fun e w' => AskPost B w wb M e w' := by
  have hh := h
  obtain ⟨psv, rowv, lsv, lwv, litv, ys, ht⟩ := hh
  have hB := ht.size
  obtain ⟨lo, hP, hR, hT⟩ := (ht.pairs p hp).both
  obtain ⟨pb, mb, cs, t⟩ := p
  simp only at hP hR hT ⊢
  have HPR : Hid (∀ W, Below w.heap.size w W → Calls Tryz.prog 22 #[.agg #[.pointer (some ⟨pb, 0, none⟩), .pointer (some ⟨mb, 0, none⟩)]] W fun e w' => e = .returned (.bool true) ∧ Below W.heap.size W w') := fun W hW => printed_any W pb mb cs t (hP.below hW) (hR.below hW) hT.len (fun c hc => (hT.fine c hc).1)
  clear hP hR hT
  go_enter Tryz.func96, Tryz.ntmps96
  go_wp2_with (first | (go_at_call 22; refine (HPR.out _ (by exact (by repeat' (first | (with_reducible exact Below.refl _ _) | (with_reducible assumption) | (with_reducible refine bdrewN ?_ _) | (with_reducible refine Below.alloc ?_ ?_ _) | (with_reducible refine Below.drew ?_) | (with_reducible refine Below.setCell ?_ ?_ _) | go_size)))).mono ?_; rintro e w1 ⟨rfl, hb1⟩))
  have hB1 : Below w.heap.size w w1 := bnext (by repeat' (first | (with_reducible exact Below.refl _ _) | (with_reducible assumption) | (with_reducible refine bdrewN ?_ _) | (with_reducible refine Below.alloc ?_ ?_ _) | (with_reducible refine Below.drew ?_) | (with_reducible refine Below.setCell ?_ ?_ _) | go_size)) hb1 (Nat.le_refl _)
  go_ret
  exact ⟨rfl, ⟨M, ⟨psv, rowv, lsv, lwv, litv, ys, ht.below hB1⟩, Grow.refl M⟩, hB1.mono hB⟩
end Go.Proofs.YteampbddflhngaaGreat

/- derivelaw.World.vars; asked: Vars. -/
namespace Go.Proofs.YteampbddflhngaaGreat
open Go.RowKit
variable {lo : Nat}

set_option maxRecDepth 100000 in
set_option maxHeartbeats 2000000 in
theorem vars_no (B : Nat) (w : World) (wb : Nat) (M : TM) (p : PairP) (i : Int) (h : TW B w wb M) (hp : p ∈ M.ps) (hi : i < 0 ∨ (p.2.2.1.length : Int) ≤ i) :
    Calls Tryz.prog 138 #[.pointer (some ⟨wb, 0, none⟩), .agg #[.pointer (some ⟨p.1, 0, none⟩), .pointer (some ⟨p.2.1, 0, none⟩)], .int .i64 i] w fun e w' => AskPost B w wb M e w' := by
  have hh := h
  obtain ⟨psv, rowv, lsv, lwv, litv, ys, ht⟩ := hh
  have hB := ht.size
  obtain ⟨lo, hP, hR, hT⟩ := (ht.pairs p hp).both
  obtain ⟨pb, mb, cs, t⟩ := p
  simp only at hP hR hT hi ⊢
  obtain ⟨_, cv, pv, kv, hbm, hcm, hsm, _⟩ := hR
  obtain ⟨ao, cap, rfl⟩ := hcm.shape
  have HPR : Hid (∀ W, Below w.heap.size w W → Calls Tryz.prog 172 #[.pointer (some ⟨pb, 0, none⟩), .int .i64 i] W fun e w' => e = .returned (.tuple #[.slice none 0 0, .int .i64 11]) ∧ Below W.heap.size W w') := fun W hW => prog_vars_no W pb cs t i (hP.below hW) hT.len hi
  have hcl := hT.len
  have hnil : ∀ W : World, (binOp .eql 30 (.slice none 0 0) (.slice none 0 0)).run Tryz.prog W = .ok (.bool true) W := fun W => by
    have := run_equal_slice_nil W 30 9 none 0 0 Tryz.underlying30
    simp [binOp, this]
  clear hP hT hsm hcm
  have key : ∀ w1, Below w.heap.size w w1 → AskPost B w wb M (.returned (.bool true)) w1 := fun w1 hb => ⟨rfl, ⟨M, ⟨psv, rowv, lsv, lwv, litv, ys, ht.below hb⟩, Grow.refl M⟩, hb.mono hB⟩
  have KEY : Hid (∀ w1, Below w.heap.size w w1 → AskPost B w wb M (.returned (.bool true)) w1) := key
  clear key h ht
  rcases hi with hi | hi
  · go_enter Tryz.func138, Tryz.ntmps138
    go_wp2_with (first | (go_at_call 172; refine (HPR.out _ (by exact (by repeat' (first | (with_reducible exact Below.refl _ _) | (with_reducible assumption) | (with_reducible refine bdrewN ?_ _) | (with_reducible refine Below.alloc ?_ ?_ _) | (with_reducible refine Below.drew ?_) | (with_reducible refine Below.setCell ?_ ?_ _) | go_size)))).mono ?_; rintro e w1 ⟨rfl, hb1⟩; have hB1 : Below w.heap.size w w1 := bnext (by repeat' (first | (with_reducible exact Below.refl _ _) | (with_reducible assumption) | (with_reducible refine bdrewN ?_ _) | (with_reducible refine Below.alloc ?_ ?_ _) | (with_reducible refine Below.drew ?_) | (with_reducible refine Below.setCell ?_ ?_ _) | go_size)) hb1 (Nat.le_refl _); have hpx := (Box.new w #[.pointer (some ⟨pb, 0, none⟩), .pointer (some ⟨mb, 0, none⟩)] 40).below hb1; obtain ⟨hpc, hpf⟩ := hpx.rules; have hpl := hpx.lt; have hmx := hbm.below hB1; obtain ⟨hmc, hmf⟩ := hmx.rules; have hml := hmx.lt))
    go_ret
    exact KEY.out _ hB1
  · have hi0 : ¬ i < 0 := by omega
    go_enter Tryz.func138, Tryz.ntmps138
    go_wp2_with (first | (go_at_call 172; refine (HPR.out _ (by exact (by repeat' (first | (with_reducible exact Below.refl _ _) | (with_reducible assumption) | (with_reducible refine bdrewN ?_ _) | (with_reducible refine Below.alloc ?_ ?_ _) | (with_reducible refine Below.drew ?_) | (with_reducible refine Below.setCell ?_ ?_ _) | go_size)))).mono ?_; rintro e w1 ⟨rfl, hb1⟩; have hB1 : Below w.heap.size w w1 := bnext (by repeat' (first | (with_reducible exact Below.refl _ _) | (with_reducible assumption) | (with_reducible refine bdrewN ?_ _) | (with_reducible refine Below.alloc ?_ ?_ _) | (with_reducible refine Below.drew ?_) | (with_reducible refine Below.setCell ?_ ?_ _) | go_size)) hb1 (Nat.le_refl _); have hpx := (Box.new w #[.pointer (some ⟨pb, 0, none⟩), .pointer (some ⟨mb, 0, none⟩)] 40).below hb1; obtain ⟨hpc, hpf⟩ := hpx.rules; have hpl := hpx.lt; have hmx := hbm.below hB1; obtain ⟨hmc, hmf⟩ := hmx.rules; have hml := hmx.lt))
    go_ret
    exact KEY.out _ hB1

set_option maxRecDepth 100000 in
set_option maxHeartbeats 2000000 in
theorem vars_yes (B : Nat) (w : World) (wb : Nat) (M : TM) (p : PairP) (k : Nat) (h : TW B w wb M) (hp : p ∈ M.ps) (hk : k < p.2.2.1.length) (hn : M.ls.length ≤ 9000000000) :
    Calls Tryz.prog 138 #[.pointer (some ⟨wb, 0, none⟩), .agg #[.pointer (some ⟨p.1, 0, none⟩), .pointer (some ⟨p.2.1, 0, none⟩)], .int .i64 k] w fun e w' => AskPost B w wb M e w' := by
  have hh := h
  obtain ⟨psv, rowv, lsv, lwv, litv, ys, ht⟩ := hh
  have hB := ht.size
  obtain ⟨lo, hP, hR, hT⟩ := (ht.pairs p hp).both
  obtain ⟨pb, mb, cs, t⟩ := p
  simp only at hP hR hT hk ⊢
  obtain ⟨_, cv, pv, kv, hbm, hcm, hsm, _⟩ := hR
  obtain ⟨ao, cap, rfl⟩ := hcm.shape
  obtain ⟨hf1, hf2, hf3, hf4⟩ := hT.fine _ (List.getElem_mem hk)
  have hcl := hT.len
  obtain ⟨gm, ao2, cap2, ao3, cap3, rfl, hat⟩ := hcm.at k hk
  have hpl : (plainVs cs[k]).length ≤ 1000 := by have h1 := plainV_len cs[k].body []; have h2 := hf2.1; unfold plainVs; simp at h1; omega
  have HPR : Hid (∀ W, Below w.heap.size w W → Calls Tryz.prog 172 #[.pointer (some ⟨pb, 0, none⟩), .int .i64 k] W fun e w' => ∃ g, W.heap.size ≤ g ∧ e = .returned (.tuple #[.slice (some ⟨g, 0, none⟩) (plainVs cs[k]).length (plainVs cs[k]).length, .int .i64 0]) ∧ SIn W.heap.size w' (.slice (some ⟨g, 0, none⟩) (plainVs cs[k]).length (plainVs cs[k]).length) (plainVs cs[k]) ∧ Below W.heap.size W w') := fun W hW => prog_vars_yes W pb cs t k (hP.below hW) hcl hk hf2
  have HRV : Hid (∀ W, Below w.heap.size w W → Calls Tryz.prog 108 #[.pointer (some ⟨gm, k * 4, none⟩), .bool true] W fun e w' => ∃ v, e = .returned v ∧ SIn W.heap.size w' v (plainVs cs[k]) ∧ Below W.heap.size W w') := fun W hW => by
    have := rvars_any W true gm (k * 4) cs[k] ao2 cap2 ao3 cap3 (hat.below hW) (by omega) hf4 (fun l hl t2 ht2 => (((hf1.1 l hl).2.2.2) t2 ht2).1)
    rw [refV_plain] at this
    exact this
  have hgm := hat.lt
  generalize plainVs cs[k] = pl at *
  have HTX : Hid (∀ w1 g vb, Below w.heap.size w w1 → w.heap.size ≤ g → SIn w.heap.size w1 (.slice (some ⟨g, 0, none⟩) pl.length pl.length) pl → SIn w.heap.size w1 vb pl → Calls Tryz.prog 41 #[.pointer (some ⟨wb, 0, none⟩), .slice (some ⟨g, 0, none⟩) pl.length pl.length, vb] w1 fun e w' => AskPost B w wb M e w') := fun w1 g vb h1 h2 h3 h4 => texts_one B w w1 wb M g pl vb h h1 h2 h3 h4 hpl hn
  clear hP hT hsm hcm hat hf1 hf2 hf4 h ht
  go_enter Tryz.func138, Tryz.ntmps138
  go_wp2_with (first | (go_at_call 172; refine (HPR.out _ (by exact (by repeat' (first | (with_reducible exact Below.refl _ _) | (with_reducible assumption) | (with_reducible refine bdrewN ?_ _) | (with_reducible refine Below.alloc ?_ ?_ _) | (with_reducible refine Below.drew ?_) | (with_reducible refine Below.setCell ?_ ?_ _) | go_size)))).mono ?_; rintro e w1 ⟨g, hg, rfl, hs1, hb1⟩; have hB1 : Below w.heap.size w w1 := bnext (by repeat' (first | (with_reducible exact Below.refl _ _) | (with_reducible assumption) | (with_reducible refine bdrewN ?_ _) | (with_reducible refine Below.alloc ?_ ?_ _) | (with_reducible refine Below.drew ?_) | (with_reducible refine Below.setCell ?_ ?_ _) | go_size)) hb1 (Nat.le_refl _); have hpx := (Box.new w #[.pointer (some ⟨pb, 0, none⟩), .pointer (some ⟨mb, 0, none⟩)] 40).below hb1; obtain ⟨hpc, hpf⟩ := hpx.rules; have hpl1 := hpx.lt; have hmx := hbm.below hB1; obtain ⟨hmc, hmf⟩ := hmx.rules; have hml := hmx.lt; have hz1 := hB1.size; have hs1' := hs1.low (show w.heap.size ≤ _ from (by simp only [World.size_alloc]; omega)); have hg' : w.heap.size ≤ g := (by simp only [World.size_alloc] at hg; omega)) | (go_at_call 108; refine (HRV.out _ hB1).mono ?_; rintro e w2 ⟨v2, rfl, hs2, hb2⟩; have hB2 := bnext hB1 hb2 (Nat.le_refl _)) | (go_at_call 41; refine (HTX.out _ _ _ hB2 hg' (hs1'.below hb2) (hs2.low hz1)).mono ?_; rintro e w3 ⟨rfl, hm3, hb3⟩))
  go_ret
  exact ⟨rfl, hm3, hb3⟩

set_option maxRecDepth 100000 in
set_option maxHeartbeats 2000000 in
theorem asked_15 (B : Nat) (w : World) (wb : Nat) (M : TM) (p : PairP) (a b c : Int) (s : ByteArray) (h : TW B w wb M) (hp : p ∈ M.ps) (hn : M.ls.length ≤ 9000000000) :
    Calls Tryz.prog 96 #[.pointer (some ⟨wb, 0, none⟩), .agg #[.pointer (some ⟨p.1, 0, none⟩), .pointer (some ⟨p.2.1, 0, none⟩)], .agg #[.int .i64 15, .int .i64 a, .int .i64 b, .int .i64 c, .string s]] w fun e w' => AskPost B w wb M e w' := by
  obtain ⟨psv, rowv, lsv, lwv, litv, ys, ht⟩ := h
  have hB := ht.size
  have HV : Hid (∀ W, Below w.heap.size w W → Calls Tryz.prog 138 #[.pointer (some ⟨wb, 0, none⟩), .agg #[.pointer (some ⟨p.1, 0, none⟩), .pointer (some ⟨p.2.1, 0, none⟩)], .int .i64 b] W fun e w' => AskPost B W wb M e w') := fun W hW => by
    have hW' : TW B W wb M := ⟨psv, rowv, lsv, lwv, litv, ys, ht.below hW⟩
    by_cases hi : b < 0 ∨ (p.2.2.1.length : Int) ≤ b
    · exact vars_no B W wb M p b hW' hp hi
    · obtain ⟨k, rfl⟩ : ∃ k : Nat, b = k := ⟨b.toNat, by omega⟩
      exact vars_yes B W wb M p k hW' hp (by omega) hn
  clear ht
  go_enter Tryz.func96, Tryz.ntmps96
  go_wp2_with (first | (go_at_call 138; refine (HV.out _ (by exact (by repeat' (first | (with_reducible exact Below.refl _ _) | (with_reducible assumption) | (with_reducible refine bdrewN ?_ _) | (with_reducible refine Below.alloc ?_ ?_ _) | (with_reducible refine Below.drew ?_) | (with_reducible refine Below.setCell ?_ ?_ _) | go_size)))).mono ?_; rintro e w1 ⟨rfl, hm1, hb1⟩))
  go_ret
  exact ⟨rfl, hm1, (Below.mono (w := w) (by repeat' (first | (with_reducible exact Below.refl _ _) | (with_reducible assumption) | (with_reducible refine bdrewN ?_ _) | (with_reducible refine Below.alloc ?_ ?_ _) | (with_reducible refine Below.drew ?_) | (with_reducible refine Below.setCell ?_ ?_ _) | go_size)) hB).trans hb1⟩
end Go.Proofs.YteampbddflhngaaGreat

/- derivelaw.World.asked: Stratum. -/
namespace Go.Proofs.YteampbddflhngaaGreat
open Go.RowKit
variable {lo : Nat}

def IIn (lo : Nat) (w : World) (v : Value) (l : List Nat) : Prop := w.ownsRow lo 3 1 v l.length (l.map ivN)
theorem IIn.cell {w : World} {ao : Option Addr} {n cap : Nat} {ks : List Nat} (h : IIn lo w (.slice ao n cap) ks) (k : Nat) (hk : k < ks.length) : ∃ g, ao = some ⟨g, 0, none⟩ ∧ g < w.heap.size ∧ w.cell? ⟨g, k, none⟩ = some (.int .i64 (ks[k] : Int)) := by
  obtain ⟨g, cap', hv, _, hg, hcl⟩ := own_cells h (by omega)
  simp at hv
  exact ⟨g, hv.1, hg, hcl k _ (by simp [hk, ivN])⟩

set_option maxRecDepth 100000 in
set_option maxHeartbeats 2000000 in
theorem asked_13n (B : Nat) (w : World) (wb : Nat) (M : TM) (p : PairP) (a b c : Int) (s : ByteArray) (h : TW B w wb M) (hp : p ∈ M.ps) (hs : entAt p.2.2.2 s = none) :
    Calls Tryz.prog 96 #[.pointer (some ⟨wb, 0, none⟩), .agg #[.pointer (some ⟨p.1, 0, none⟩), .pointer (some ⟨p.2.1, 0, none⟩)], .agg #[.int .i64 13, .int .i64 a, .int .i64 b, .int .i64 c, .string s]] w fun e w' => AskPost B w wb M e w' := by
  have hh := h
  obtain ⟨psv, rowv, lsv, lwv, litv, ys, ht⟩ := hh
  have hB := ht.size
  obtain ⟨lo, hP, hR, hT⟩ := (ht.pairs p hp).both
  obtain ⟨pb, mb, cs, t⟩ := p
  simp only at hP hR hT hs ⊢
  obtain ⟨_, cv, pv, kv, hbm, hcm, hsm, hkm⟩ := hR
  obtain ⟨aop, capp, rfl⟩ := hsm.shape
  have hnl := hT.names
  have hnT : (namesT t).length = t.length := by simp [namesT]
  have HST : Hid (∀ W, Below w.heap.size w W → Calls Tryz.prog 136 #[.pointer (some ⟨pb, 0, none⟩), .string s] W fun e w' => e = .returned (.tuple #[.int .i64 0, .int .i64 11]) ∧ w' = W) := fun W hW => prog_stratum_no W pb cs t s (hP.below hW) hnl hs
  have HNO : Hid (∀ x ∈ namesT t, x ≠ s) := fun x hx e => by
    obtain ⟨e0, he0, rfl⟩ := List.mem_map.1 hx
    exact entAt_out hT.rise hs e0 he0 e
  have KEY : Hid (∀ w1, Below w.heap.size w w1 → AskPost B w wb M (.returned (.bool true)) w1) := fun w1 hb => ⟨rfl, ⟨M, ⟨psv, rowv, lsv, lwv, litv, ys, ht.below hb⟩, Grow.refl M⟩, hb.mono hB⟩
  clear hP hT hs h ht hcm hkm
  generalize namesT t = ns at *
  go_enter Tryz.func96, Tryz.ntmps96
  go_wp2_with (first | (go_at_call 136; refine (HST.out _ (by exact (by repeat' (first | (with_reducible exact Below.refl _ _) | (with_reducible assumption) | (with_reducible refine bdrewN ?_ _) | (with_reducible refine Below.alloc ?_ ?_ _) | (with_reducible refine Below.drew ?_) | (with_reducible refine Below.setCell ?_ ?_ _) | go_size)))).mono ?_; rintro e w' ⟨rfl, hww⟩; obtain rfl := hww.symm))
  go_loopw [10] (fun i wr => ∃ k : Nat, k ≤ ns.length ∧ i = .int .i64 k ∧ Below w.heap.size w wr ∧ Box wr w.heap.size #[.pointer (some ⟨pb, 0, none⟩), .pointer (some ⟨mb, 0, none⟩)] 40 ∧ Box wr (w.heap.size + 1) #[.int .i64 13, .int .i64 a, .int .i64 b, .int .i64 c, .string s] 67) (fun i _ => ns.length - (intOf i).toNat)
  case atStart => exact ⟨0, Nat.zero_le _, rfl, (by repeat' (first | (with_reducible exact Below.refl _ _) | (with_reducible assumption) | (with_reducible refine bdrewN ?_ _) | (with_reducible refine Below.alloc ?_ ?_ _) | (with_reducible refine Below.drew ?_) | (with_reducible refine Below.setCell ?_ ?_ _) | go_size)), (Box.new w _ _).below ((Below.refl _ _).alloc (Nat.le_refl _) _), Box.newAt _ _ _ _ (by simp)⟩
  case round =>
    obtain ⟨k, hk, rfl, hbk, hpx, hox⟩ := hrel
    have hszk := hbk.size
    obtain ⟨hpc, hpf⟩ := hpx.rules
    have hpl := hpx.lt
    obtain ⟨hoc, hof⟩ := hox.rules
    have hol := hox.lt
    have hmx := hbm.below hbk
    obtain ⟨hmc, hmf⟩ := hmx.rules
    have hml := hmx.lt
    by_cases hlt : k < ns.length
    · obtain ⟨g, rfl, hg, hck⟩ := hsm.cell k hlt
      have hxk := (hbk.cell (p := ⟨g, k, none⟩) hg).trans hck
      have hgr : g < wr.heap.size := by omega
      have hse := seq_false (HNO.out _ (List.getElem_mem hlt))
      clear hck
      generalize ns[k] = x at *
      go_wp2
      go_quiet (fail)
      go_wp2
      go_roundw
      case rel => exact ⟨k + 1, by omega, by go_num, bdrewN hbk _, hpx.below (bdrewN (Below.refl _ _) _), hox.below (bdrewN (Below.refl _ _) _)⟩
      case measure => simp [intOf]; omega
    · go_wp2
      go_ret
      exact KEY.out _ hbk

set_option maxRecDepth 100000 in
set_option maxHeartbeats 2000000 in
theorem asked_13y (B : Nat) (w : World) (wb : Nat) (M : TM) (p : PairP) (a b c : Int) (s : ByteArray) (e0 : PEnt) (h : TW B w wb M) (hp : p ∈ M.ps) (hs : entAt p.2.2.2 s = some e0) :
    Calls Tryz.prog 96 #[.pointer (some ⟨wb, 0, none⟩), .agg #[.pointer (some ⟨p.1, 0, none⟩), .pointer (some ⟨p.2.1, 0, none⟩)], .agg #[.int .i64 13, .int .i64 a, .int .i64 b, .int .i64 c, .string s]] w fun e w' => AskPost B w wb M e w' := by
  have hh := h
  obtain ⟨psv, rowv, lsv, lwv, litv, ys, ht⟩ := hh
  have hB := ht.size
  obtain ⟨lo, hP, hR, hT⟩ := (ht.pairs p hp).both
  obtain ⟨pb, mb, cs, t⟩ := p
  simp only at hP hR hT hs ⊢
  obtain ⟨_, cv, pv, kv, hbm, hcm, hsm, hkm⟩ := hR
  obtain ⟨aop, capp, rfl⟩ := hsm.shape
  have hki : IIn lo w kv (t.map PEnt.stratum) := by simpa [IIn] using hkm
  obtain ⟨aok, capk, rfl⟩ := own_view hki
  have hnl := hT.names
  have hnT : (namesT t).length = t.length := by simp [namesT]
  obtain ⟨hj, hje, hjn⟩ := entAt_some hs
  have HST : Hid (∀ W, Below w.heap.size w W → Calls Tryz.prog 136 #[.pointer (some ⟨pb, 0, none⟩), .string s] W fun e w' => e = .returned (.tuple #[.int .i64 e0.stratum, .int .i64 0]) ∧ w' = W) := fun W hW => prog_stratum_yes W pb cs t s e0 (hP.below hW) hnl hs
  have hj1 : placeB t s < (namesT t).length := by rw [hnT]; exact hj
  have hj2 : placeB t s < (t.map PEnt.stratum).length := by simpa using hj
  have HAT : Hid ((namesT t)[placeB t s] = s) := by simp [Hid, namesT, hje, hjn]
  have HKT : Hid ((t.map PEnt.stratum)[placeB t s] = e0.stratum) := by simp [Hid, hje]
  have HNO : Hid (∀ k (hk : k < (namesT t).length), k < placeB t s → (namesT t)[k] ≠ s) := fun k hk hlt e => by
    have := rising_inj hT.rise hk hj1 (e.trans HAT.out.symm)
    omega
  have KEY : Hid (∀ w1, Below w.heap.size w w1 → AskPost B w wb M (.returned (.bool true)) w1) := fun w1 hb => ⟨rfl, ⟨M, ⟨psv, rowv, lsv, lwv, litv, ys, ht.below hb⟩, Grow.refl M⟩, hb.mono hB⟩
  clear hP hT hs h ht hcm hkm hje hjn
  generalize namesT t = ns at *
  generalize t.map PEnt.stratum = ks at *
  generalize placeB t s = j0 at *
  generalize e0.stratum = es at *
  go_enter Tryz.func96, Tryz.ntmps96
  go_wp2_with (first | (go_at_call 136; refine (HST.out _ (by exact (by repeat' (first | (with_reducible exact Below.refl _ _) | (with_reducible assumption) | (with_reducible refine bdrewN ?_ _) | (with_reducible refine Below.alloc ?_ ?_ _) | (with_reducible refine Below.drew ?_) | (with_reducible refine Below.setCell ?_ ?_ _) | go_size)))).mono ?_; rintro e w' ⟨rfl, hww⟩; obtain rfl := hww.symm))
  go_loopw [10] (fun i wr => ∃ k : Nat, k ≤ j0 ∧ i = .int .i64 k ∧ Below w.heap.size w wr ∧ Box wr w.heap.size #[.pointer (some ⟨pb, 0, none⟩), .pointer (some ⟨mb, 0, none⟩)] 40 ∧ Box wr (w.heap.size + 1) #[.int .i64 13, .int .i64 a, .int .i64 b, .int .i64 c, .string s] 67) (fun i _ => j0 - (intOf i).toNat)
  case atStart => exact ⟨0, Nat.zero_le _, rfl, (by repeat' (first | (with_reducible exact Below.refl _ _) | (with_reducible assumption) | (with_reducible refine bdrewN ?_ _) | (with_reducible refine Below.alloc ?_ ?_ _) | (with_reducible refine Below.drew ?_) | (with_reducible refine Below.setCell ?_ ?_ _) | go_size)), (Box.new w _ _).below ((Below.refl _ _).alloc (Nat.le_refl _) _), Box.newAt _ _ _ _ (by simp)⟩
  case round =>
    obtain ⟨k, hk, rfl, hbk, hpx, hox⟩ := hrel
    have hszk := hbk.size
    obtain ⟨hpc, hpf⟩ := hpx.rules
    have hpl := hpx.lt
    obtain ⟨hoc, hof⟩ := hox.rules
    have hol := hox.lt
    have hmx := hbm.below hbk
    obtain ⟨hmc, hmf⟩ := hmx.rules
    have hml := hmx.lt
    have hltn : k < ns.length := by omega
    obtain ⟨g, rfl, hg, hck⟩ := hsm.cell k hltn
    have hxk := (hbk.cell (p := ⟨g, k, none⟩) hg).trans hck
    have hgr : g < wr.heap.size := by omega
    clear hck
    by_cases hlt : k < j0
    · have hse := seq_false (HNO.out k hltn hlt)
      generalize ns[k] = x at *
      go_wp2
      go_quiet (fail)
      go_wp2
      go_roundw
      case rel => exact ⟨k + 1, by omega, by go_num, bdrewN hbk _, hpx.below (bdrewN (Below.refl _ _) _), hox.below (bdrewN (Below.refl _ _) _)⟩
      case measure => simp [intOf]; omega
    · obtain rfl : k = j0 := by omega
      have hse := seq_true HAT.out
      obtain ⟨g2, rfl, hg2, hck2⟩ := hki.cell k hj2
      rw [HKT.out] at hck2
      have hxk2 := (hbk.cell (p := ⟨g2, k, none⟩) hg2).trans hck2
      have hgr2 : g2 < wr.heap.size := by omega
      clear hck2
      generalize ns[k] = x at *
      go_wp2
      go_quiet (fail)
      go_wp2
      go_ret
      exact KEY.out _ (bdrewN hbk _)
theorem asked_13 (B : Nat) (w : World) (wb : Nat) (M : TM) (p : PairP) (a b c : Int) (s : ByteArray) (h : TW B w wb M) (hp : p ∈ M.ps) :
    Calls Tryz.prog 96 #[.pointer (some ⟨wb, 0, none⟩), .agg #[.pointer (some ⟨p.1, 0, none⟩), .pointer (some ⟨p.2.1, 0, none⟩)], .agg #[.int .i64 13, .int .i64 a, .int .i64 b, .int .i64 c, .string s]] w fun e w' => AskPost B w wb M e w' := by
  cases hs : entAt p.2.2.2 s with
  | none => exact asked_13n B w wb M p a b c s h hp hs
  | some e0 => exact asked_13y B w wb M p a b c s e0 h hp hs
end Go.Proofs.YteampbddflhngaaGreat
