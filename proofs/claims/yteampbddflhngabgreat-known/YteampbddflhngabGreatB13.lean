import Derived.Test.YteampbddflhngabGreatB12
import Derived.Deep.OwnRows
import Derived.Deep.RegionWith

/- Walks: clauses.copyStrings, preds.Table.Names, clauses.Vars.Names. -/
namespace Go.Proofs.YteampbddflhngabGreat
open Go.RowKit
variable {lo : Nat}

theorem own_make (w : World) (n : Nat) (T : TypeId) (z : Value) (hn : n ≤ maxLen) : (w.alloc (.cells (madeCells #[z] n) T)).ownsRow w.heap.size T 1 (.slice (some ⟨w.heap.size, 0, none⟩) n n) n (List.replicate n z) := by
  refine ⟨by simp, Or.inr ⟨w.heap.size, n, madeCells #[z] n, rfl, Nat.le_refl _, ?_, Nat.le_refl _, hn, by rw [size_madeCells]; omega, ?_⟩⟩
  · show (w.heap.push _)[w.heap.size]? = _
    simp
  · apply List.ext_getElem?
    intro i
    by_cases hi : i < n
    · simp [hi, madeCells, Nat.mod_one]
    · simp [List.getElem?_take, hi]
/-- A list, its first k elements written. -/
def fillS {α : Type} (f : α → Value) (l : List α) (z : Value) (k : Nat) : List Value := (l.take k).map f ++ List.replicate (l.length - k) z
theorem fill_set {α : Type} (f : α → Value) (l : List α) (z : Value) (k : Nat) (hk : k < l.length) : (fillS f l z k).set k (f l[k]) = fillS f l z (k + 1) := by
  unfold fillS
  have h1 : ((l.take k).map f).length = k := by simp; omega
  rw [List.set_append_right _ _ (by omega), h1, Nat.sub_self, List.take_succ_eq_append_getElem hk, List.map_append, List.append_assoc]
  congr 1
  rw [show l.length - k = (l.length - (k + 1)) + 1 by omega, List.replicate_succ]
  rfl
theorem fill_len {α : Type} (f : α → Value) (l : List α) (z : Value) (k : Nat) (hk : k ≤ l.length) : (fillS f l z k).length = l.length := by unfold fillS; simp; omega
theorem fill_zero {α : Type} (f : α → Value) (l : List α) (z : Value) : fillS f l z 0 = List.replicate l.length z := by simp [fillS]
theorem fill_all {α : Type} (f : α → Value) (l : List α) (z : Value) (k : Nat) (hk : ¬ k < l.length) : fillS f l z k = l.map f := by
  unfold fillS; rw [List.take_of_length_le (by omega), show l.length - k = 0 by omega]; simp

set_option maxRecDepth 100000 in
set_option maxHeartbeats 2000000 in
theorem copyStrings_any (w : World) (v : Value) (l : List ByteArray) (hs : SIn lo w v l) (hl : l.length ≤ 1000) :
    Calls Tryz.prog 84 #[v] w fun e w' => ∃ g, w.heap.size ≤ g ∧ e = .returned (.slice (some ⟨g, 0, none⟩) l.length l.length) ∧ SIn w.heap.size w' (.slice (some ⟨g, 0, none⟩) l.length l.length) l ∧ Below w.heap.size w w' := by
  obtain ⟨ao, cap, rfl⟩ := hs.shape
  have hmk := run_make_row' (P := Tryz.prog) 38 9 (.string ByteArray.empty) 16 Tryz.underlying38 Tryz.infoString rfl .i64 .i64 l.length (by omega) (by omega)
  go_enter Tryz.func84, Tryz.ntmps84
  go_wp2
  clear hmk
  have hom := own_make w l.length 9 (.string ByteArray.empty) (by unfold maxLen; omega)
  rw [← fill_zero Value.string] at hom
  go_loopw [11] (fun i wr => ∃ k : Nat, k ≤ l.length ∧ i = .int .i64 k ∧ Below w.heap.size w wr ∧ wr.ownsRow w.heap.size 9 1 (.slice (some ⟨w.heap.size, 0, none⟩) l.length l.length) l.length (fillS Value.string l (.string ByteArray.empty) k)) (fun i _ => l.length - (intOf i).toNat)
  case atStart => exact ⟨0, Nat.zero_le _, rfl, (by repeat' (first | (with_reducible exact Below.refl _ _) | (with_reducible assumption) | (with_reducible refine bdrewN ?_ _) | (with_reducible refine Below.alloc ?_ ?_ _) | (with_reducible refine Below.drew ?_) | (with_reducible refine Below.setCell ?_ ?_ _) | go_size)), hom⟩
  case round =>
    clear hom
    obtain ⟨k, hk, rfl, hbk, hown⟩ := hrel
    have hszk := hbk.size
    by_cases hlt : k < l.length
    · obtain ⟨g, rfl, hg, hck⟩ := hs.cell k hlt
      have hxk := (hbk.cell (p := ⟨g, k, none⟩) hg).trans hck
      have hgr : g < wr.heap.size := by omega
      have hset := own_set hown k (by rw [fill_len _ _ _ _ hk]; exact hlt) (.string l[k])
      rw [fill_set Value.string l _ k hlt] at hset
      have HSET : Hid ((wr.setCell ⟨w.heap.size, k, none⟩ (.string l[k])).ownsRow w.heap.size 9 1 (.slice (some ⟨w.heap.size, 0, none⟩) l.length l.length) l.length (fillS Value.string l (.string ByteArray.empty) (k + 1))) := hset
      have hfz := own_free hown
      obtain ⟨g2, cap2, hv2, _, hg2, hcl2⟩ := own_cells hown (by omega)
      simp at hv2
      obtain ⟨rfl, _⟩ := hv2
      have hck2 : ∃ u, wr.cell? ⟨w.heap.size, k, none⟩ = some u := ⟨_, hcl2 k _ (List.getElem?_eq_getElem (by rw [fill_len _ _ _ _ hk]; exact hlt))⟩
      obtain ⟨u0, hu0⟩ := hck2
      clear hck hset hcl2
      generalize l[k] = x at *
      go_wp2
      go_roundw
      case rel => exact ⟨k + 1, by omega, by go_num, (by repeat' (first | (with_reducible exact Below.refl _ _) | (with_reducible assumption) | (with_reducible refine bdrewN ?_ _) | (with_reducible refine Below.alloc ?_ ?_ _) | (with_reducible refine Below.drew ?_) | (with_reducible refine Below.setCell ?_ ?_ _) | go_size)), HSET⟩
      case measure => simp [intOf]; omega
    · rw [fill_all _ _ _ _ hlt] at hown
      go_wp2
      go_ret
      exact ⟨_, Nat.le_refl _, rfl, hown, hbk⟩

set_option maxRecDepth 100000 in
set_option maxHeartbeats 2000000 in
theorem pnames_any (B : Nat) (w : World) (tb : Nat) (t : List PEnt) (h : TP B w tb t) (hl : t.length ≤ 1000) :
    Calls Tryz.prog 43 #[.pointer (some ⟨tb, 1, none⟩)] w fun e w' => ∃ g, w.heap.size ≤ g ∧ e = .returned (.slice (some ⟨g, 0, none⟩) t.length t.length) ∧ SIn w.heap.size w' (.slice (some ⟨g, 0, none⟩) t.length t.length) (t.map PEnt.name) ∧ Below w.heap.size w w' := by
  obtain ⟨cv, ao, cap, hbx, hown⟩ := h.view
  obtain ⟨hc, hf⟩ := hbx.rules
  have hlt := hbx.lt
  have hmk := run_make_row' (P := Tryz.prog) 38 9 (.string ByteArray.empty) 16 Tryz.underlying38 Tryz.infoString rfl .i64 .i64 t.length (by omega) (by omega)
  go_enter Tryz.func43, Tryz.ntmps43
  go_wp2
  clear hmk
  have hom := own_make w t.length 9 (.string ByteArray.empty) (by unfold maxLen; omega)
  rw [← fill_zero (fun e : PEnt => Value.string e.name)] at hom
  go_loopw [17] (fun i wr => ∃ k : Nat, k ≤ t.length ∧ i = .int .i64 k ∧ Below w.heap.size w wr ∧ wr.ownsRow w.heap.size 9 1 (.slice (some ⟨w.heap.size, 0, none⟩) t.length t.length) t.length (fillS (fun e : PEnt => Value.string e.name) t (.string ByteArray.empty) k)) (fun i _ => t.length - (intOf i).toNat)
  case atStart => exact ⟨0, Nat.zero_le _, rfl, (by repeat' (first | (with_reducible exact Below.refl _ _) | (with_reducible assumption) | (with_reducible refine bdrewN ?_ _) | (with_reducible refine Below.alloc ?_ ?_ _) | (with_reducible refine Below.drew ?_) | (with_reducible refine Below.setCell ?_ ?_ _) | go_size)), hom⟩
  case round =>
    clear hom hc hf
    obtain ⟨k, hk, rfl, hbk, hownk⟩ := hrel
    have hszk := hbk.size
    by_cases hkt : k < t.length
    · obtain ⟨g, rfl, hg, _, hd0, hd1, hd2⟩ := ent_cell hown k hkt
      have hx0 := (hbk.cell (p := ⟨g, k * 3, none⟩) hg).trans hd0
      have hx1 := (hbk.cell (p := ⟨g, k * 3 + 1, none⟩) hg).trans hd1
      have hx2 := (hbk.cell (p := ⟨g, k * 3 + 2, none⟩) hg).trans hd2
      have hgr : g < wr.heap.size := by omega
      have hset := own_set hownk k (by rw [fill_len _ _ _ _ hk]; exact hkt) (.string t[k].name)
      rw [fill_set (fun e : PEnt => Value.string e.name) t _ k hkt] at hset
      have HSET : Hid ((wr.setCell ⟨w.heap.size, k, none⟩ (.string t[k].name)).ownsRow w.heap.size 9 1 (.slice (some ⟨w.heap.size, 0, none⟩) t.length t.length) t.length (fillS (fun e : PEnt => Value.string e.name) t (.string ByteArray.empty) (k + 1))) := hset
      have hfz := own_free hownk
      obtain ⟨g2, cap2, hv2, _, hg2, hcl2⟩ := own_cells hownk (by omega)
      simp at hv2
      obtain ⟨rfl, _⟩ := hv2
      have hck2 : ∃ u, wr.cell? ⟨w.heap.size, k, none⟩ = some u := ⟨_, hcl2 k _ (List.getElem?_eq_getElem (by rw [fill_len _ _ _ _ hk]; exact hkt))⟩
      obtain ⟨u0, hu0⟩ := hck2
      clear hd0 hd1 hd2 hset hcl2
      generalize t[k] = x at *
      go_wp2
      go_roundw
      case rel => exact ⟨k + 1, by omega, by go_num, (by repeat' (first | (with_reducible exact Below.refl _ _) | (with_reducible assumption) | (with_reducible refine bdrewN ?_ _) | (with_reducible refine Below.alloc ?_ ?_ _) | (with_reducible refine Below.drew ?_) | (with_reducible refine Below.setCell ?_ ?_ _) | go_size)), owns_below HSET.out ((Below.refl _ _).alloc (Nat.le_refl _) _)⟩
      case measure => simp [intOf]; omega
    · rw [fill_all _ _ _ _ hkt] at hownk
      have hs : SIn w.heap.size wr (.slice (some ⟨w.heap.size, 0, none⟩) t.length t.length) (t.map PEnt.name) := by simpa [SIn, Function.comp_def] using hownk
      go_wp2
      go_ret
      exact ⟨_, Nat.le_refl _, rfl, hs, hbk⟩

set_option maxRecDepth 100000 in
set_option maxHeartbeats 2000000 in
theorem vnames_any (w : World) (vb : Nat) (nv : Value) (vs : List ByteArray) (hbox : Box w vb #[nv] 124) (hs : SIn lo w nv vs) (hl : vs.length ≤ 1000) :
    Calls Tryz.prog 58 #[.pointer (some ⟨vb, 0, none⟩)] w fun e w' => ∃ g, w.heap.size ≤ g ∧ e = .returned (.slice (some ⟨g, 0, none⟩) vs.length vs.length) ∧ SIn w.heap.size w' (.slice (some ⟨g, 0, none⟩) vs.length vs.length) vs ∧ Below w.heap.size w w' := by
  obtain ⟨hc, hf⟩ := hbox.rules
  obtain ⟨ao, cap, rfl⟩ := hs.shape
  have HC : Hid (Calls Tryz.prog 84 #[.slice ao vs.length cap] w fun e w' => ∃ g, w.heap.size ≤ g ∧ e = .returned (.slice (some ⟨g, 0, none⟩) vs.length vs.length) ∧ SIn w.heap.size w' (.slice (some ⟨g, 0, none⟩) vs.length vs.length) vs ∧ Below w.heap.size w w') := copyStrings_any w _ vs hs hl
  go_enter Tryz.func58, Tryz.ntmps58
  go_wp2_with (first | (go_at_call 84; refine HC.out.mono ?_; rintro e w1 ⟨g, hg, rfl, hs1, hb1⟩))
  go_ret
  exact ⟨g, hg, rfl, hs1, hb1⟩
end Go.Proofs.YteampbddflhngabGreat

/- Walks: derive.Program's Preds, Stratum, Clauses, Vars, Text. -/
namespace Go.Proofs.YteampbddflhngabGreat
open Go.RowKit
variable {lo : Nat}

/-- A program of the program's in memory, above lo. -/
def PProg (lo : Nat) (w : World) (pb : Nat) (cs : List PClause) (t : List PEnt) : Prop := lo ≤ pb ∧ ∃ v pv, Box w pb #[v, pv] 88 ∧ CIn lo 90 w v cs ∧ w.ownsRow lo 138 3 pv t.length (pcells t)
theorem PProg.table {w : World} {pb : Nat} {cs : List PClause} {t : List PEnt} (h : PProg lo w pb cs t) : TP lo w pb t := by
  obtain ⟨_, v, pv, h1, _, h3⟩ := h; exact ⟨v, pv, h1, h3⟩
theorem PProg.below {w w' : World} {pb : Nat} {cs : List PClause} {t : List PEnt} (h : PProg lo w pb cs t) (hb : Below w.heap.size w w') : PProg lo w' pb cs t := by
  obtain ⟨h0, v, pv, h1, h2, h3⟩ := h; exact ⟨h0, v, pv, h1.below hb, h2.below hb, owns_below h3 hb⟩

set_option maxRecDepth 100000 in
set_option maxHeartbeats 2000000 in
theorem prog_preds (w : World) (pb : Nat) (cs : List PClause) (t : List PEnt) (h : PProg lo w pb cs t) (hl : t.length ≤ 1000) :
    Calls Tryz.prog 21 #[.pointer (some ⟨pb, 0, none⟩)] w fun e w' => ∃ g, w.heap.size ≤ g ∧ e = .returned (.slice (some ⟨g, 0, none⟩) t.length t.length) ∧ SIn w.heap.size w' (.slice (some ⟨g, 0, none⟩) t.length t.length) (t.map PEnt.name) ∧ Below w.heap.size w w' := by
  have HN := pnames_any lo w pb t h.table hl
  have hlt : pb < w.heap.size := by obtain ⟨_, v, pv, h1, _⟩ := h; exact h1.lt
  go_enter Tryz.func21, Tryz.ntmps21
  go_wp2_with (first | (go_at_call 43; refine HN.mono ?_; rintro e w1 ⟨g, hg, rfl, hs1, hb1⟩))
  go_ret
  exact ⟨g, hg, rfl, hs1, hb1⟩

set_option maxRecDepth 100000 in
set_option maxHeartbeats 2000000 in
theorem prog_stratum_no (w : World) (pb : Nat) (cs : List PClause) (t : List PEnt) (n : ByteArray) (h : PProg lo w pb cs t) (hl : t.length ≤ 1000) (hn : entAt t n = none) :
    Calls Tryz.prog 32 #[.pointer (some ⟨pb, 0, none⟩), .string n] w fun e w' => e = .returned (.tuple #[.int .i64 0, .int .i64 11]) ∧ w' = w := by
  have HN := pstratum_no lo w pb t n h.table hl hn
  have hlt : pb < w.heap.size := by obtain ⟨_, v, pv, h1, _⟩ := h; exact h1.lt
  go_enter Tryz.func32, Tryz.ntmps32
  go_wp2_with (first | (go_at_call 56; refine HN.mono ?_; rintro e w' ⟨rfl, hww⟩; obtain rfl := hww.symm))
  go_ret2
  exact ⟨rfl, rfl⟩

set_option maxRecDepth 100000 in
set_option maxHeartbeats 2000000 in
theorem prog_stratum_yes (w : World) (pb : Nat) (cs : List PClause) (t : List PEnt) (n : ByteArray) (e0 : PEnt) (h : PProg lo w pb cs t) (hl : t.length ≤ 1000) (hn : entAt t n = some e0) :
    Calls Tryz.prog 32 #[.pointer (some ⟨pb, 0, none⟩), .string n] w fun e w' => e = .returned (.tuple #[.int .i64 e0.stratum, .int .i64 0]) ∧ w' = w := by
  have HN := pstratum_yes lo w pb t n e0 h.table hl hn
  have hlt : pb < w.heap.size := by obtain ⟨_, v, pv, h1, _⟩ := h; exact h1.lt
  go_enter Tryz.func32, Tryz.ntmps32
  go_wp2_with (first | (go_at_call 56; refine HN.mono ?_; rintro e w' ⟨rfl, hww⟩; obtain rfl := hww.symm))
  go_ret2
  exact ⟨rfl, rfl⟩

set_option maxRecDepth 100000 in
set_option maxHeartbeats 2000000 in
theorem prog_clauses (w : World) (pb : Nat) (cs : List PClause) (t : List PEnt) (h : PProg lo w pb cs t) :
    Calls Tryz.prog 22 #[.pointer (some ⟨pb, 0, none⟩)] w fun e w' => e = .returned (.int .i64 cs.length) ∧ w' = w := by
  obtain ⟨_, v, pv, h1, h2, _⟩ := h
  obtain ⟨ao, cap, rfl⟩ := h2.shape
  obtain ⟨hc, hf⟩ := h1.rules
  have hlt := h1.lt
  go_enter Tryz.func22, Tryz.ntmps22
  go_wp2
  go_ret
  exact ⟨rfl, rfl⟩

set_option maxRecDepth 100000 in
set_option maxHeartbeats 2000000 in
theorem prog_vars_no (w : World) (pb : Nat) (cs : List PClause) (t : List PEnt) (i : Int) (h : PProg lo w pb cs t) (hl : cs.length ≤ 1000) (hi : i < 0 ∨ (cs.length : Int) ≤ i) :
    Calls Tryz.prog 33 #[.pointer (some ⟨pb, 0, none⟩), .int .i64 i] w fun e w' => e = .returned (.tuple #[.slice none 0 0, .int .i64 11]) ∧ Below w.heap.size w w' := by
  obtain ⟨_, v, pv, h1, h2, _⟩ := h
  obtain ⟨ao, cap, rfl⟩ := h2.shape
  obtain ⟨hc, hf⟩ := h1.rules
  have hlt := h1.lt
  rcases hi with hi | hi
  · go_enter Tryz.func33, Tryz.ntmps33
    go_wp2
    go_ret2
    exact ⟨rfl, (by repeat' (first | (with_reducible exact Below.refl _ _) | (with_reducible assumption) | (with_reducible refine bdrewN ?_ _) | (with_reducible refine Below.alloc ?_ ?_ _) | (with_reducible refine Below.drew ?_) | (with_reducible refine Below.setCell ?_ ?_ _) | go_size))⟩
  · have hi0 : ¬ i < 0 := by omega
    go_enter Tryz.func33, Tryz.ntmps33
    go_wp2
    go_ret2
    exact ⟨rfl, (by repeat' (first | (with_reducible exact Below.refl _ _) | (with_reducible assumption) | (with_reducible refine bdrewN ?_ _) | (with_reducible refine Below.alloc ?_ ?_ _) | (with_reducible refine Below.drew ?_) | (with_reducible refine Below.setCell ?_ ?_ _) | go_size))⟩

set_option maxRecDepth 100000 in
set_option maxHeartbeats 2000000 in
theorem prog_vars_yes (w : World) (pb : Nat) (cs : List PClause) (t : List PEnt) (k : Nat) (h : PProg lo w pb cs t) (_hl : cs.length ≤ 1000) (hk : k < cs.length) (hok : ClOK cs[k]) :
    Calls Tryz.prog 33 #[.pointer (some ⟨pb, 0, none⟩), .int .i64 k] w fun e w' => ∃ g, w.heap.size ≤ g ∧ e = .returned (.tuple #[.slice (some ⟨g, 0, none⟩) (plainVs cs[k]).length (plainVs cs[k]).length, .int .i64 0]) ∧ SIn w.heap.size w' (.slice (some ⟨g, 0, none⟩) (plainVs cs[k]).length (plainVs cs[k]).length) (plainVs cs[k]) ∧ Below w.heap.size w w' := by
  obtain ⟨_, v, pv, h1, h2, _⟩ := h
  obtain ⟨ao, cap, rfl⟩ := h2.shape
  obtain ⟨hc, hf⟩ := h1.rules
  have hlt := h1.lt
  obtain ⟨g, ao2, cap2, ao3, cap3, rfl, hg, hd0, hd1, hd2, hd3, hsk, hlk⟩ := h2.cell k hk
  obtain ⟨hk1, hk2⟩ := hok
  have hpl : (plainVs cs[k]).length ≤ 1000 := by have := plainV_len cs[k].body []; unfold plainVs; simp at this; omega
  generalize cs[k] = c at *
  have HP : Hid (∀ W, Below w.heap.size w W → Calls Tryz.prog 57 #[.agg #[.bool c.head.neg, .string c.head.pred, .slice ao2 c.head.args.length cap2, .slice ao3 c.body.length cap3]] W fun e w' => ∃ nv, e = .returned (.agg #[nv]) ∧ w'.ownsRow W.heap.size 9 1 nv (plainVs c).length ((plainVs c).map Value.string) ∧ Below W.heap.size W w') := fun W hW => plain_any W c _ _ (hsk.below hW) (hlk.below hW) hk1 hk2
  go_enter Tryz.func33, Tryz.ntmps33
  go_wp2_with (first | (go_at_call 57; refine (HP.out _ (by exact (by repeat' (first | (with_reducible exact Below.refl _ _) | (with_reducible assumption) | (with_reducible refine bdrewN ?_ _) | (with_reducible refine Below.alloc ?_ ?_ _) | (with_reducible refine Below.drew ?_) | (with_reducible refine Below.setCell ?_ ?_ _) | go_size)))).mono ?_; rintro e w1 ⟨nv, rfl, hown, hb1⟩; obtain ⟨ao4, cap4, rfl⟩ := own_view hown) | (go_at_call 58; refine (vnames_any _ _ _ (plainVs c) (by exact Box.new _ _ _) (by exact owns_below hown (by repeat' (first | (with_reducible exact Below.refl _ _) | (with_reducible assumption) | (with_reducible refine bdrewN ?_ _) | (with_reducible refine Below.alloc ?_ ?_ _) | (with_reducible refine Below.drew ?_) | (with_reducible refine Below.setCell ?_ ?_ _) | go_size))) hpl).mono ?_; rintro e w2 ⟨g2, hg2, rfl, hs2, hb2⟩))
  have hz1 := hb1.size
  rw [World.size_alloc] at hg2
  go_ret2
  exact ⟨g2, by omega, rfl, hs2.low (by rw [World.size_alloc]; omega), bnext (hb1.alloc hz1 _) hb2 (Nat.le_refl _)⟩

/-- A program's text. -/
def textT (cs : List PClause) : ByteArray := cs.foldl (fun s c => s ++ (clT c ++ bLine)) ByteArray.empty
theorem textT_take {cs : List PClause} {k : Nat} (hk : k < cs.length) : textT (cs.take (k + 1)) = textT (cs.take k) ++ (clT cs[k] ++ bLine) := by
  unfold textT; rw [List.take_succ_eq_append_getElem hk, List.foldl_append]; rfl
theorem joinT_most (M : Nat) : ∀ (l : List ByteArray), (∀ t ∈ l, t.size ≤ M) → (joinT l).size ≤ (M + 2) * l.length
  | [], _ => by simp [joinT]
  | [t], h => by have := h t (by simp); simp [joinT]; omega
  | t :: u :: r, h => by
    have h1 := h t (by simp)
    have h2 := joinT_most M (u :: r) fun x hx => h x (List.mem_cons_of_mem _ hx)
    show (t ++ bComma ++ joinT (u :: r)).size ≤ _
    rw [ByteArray.size_append, ByteArray.size_append, show bComma.size = 2 from rfl]
    simp only [List.length_cons] at h2 ⊢
    rw [Nat.mul_add, Nat.mul_one]
    omega
theorem clT_size {c : PClause} (h : ClFine c) : (clT c).size ≤ 10000000 := by
  obtain ⟨h1, h2⟩ := h
  have hl : ∀ l ∈ litsOf c, (litT l).size ≤ 8009 := fun l hl => by have := litT_size (h1 l hl); have := (h1 l hl).2.2.1; omega
  have hh := hl c.head (by simp [litsOf])
  have hb : (bodyT c.body).size ≤ 4 + 8011 * c.body.length := by
    unfold bodyT; split
    · simp
    · rw [ByteArray.size_append, show bArrow.size = 4 from rfl]
      have := joinT_most 8009 (c.body.map litT) fun t ht => by
        obtain ⟨l, hm, rfl⟩ := List.mem_map.1 ht
        exact hl l (by simp [litsOf, hm])
      rw [List.length_map] at this
      omega
  unfold clT
  rw [ByteArray.size_append, ByteArray.size_append, show bDot.size = 1 from rfl]
  omega

end Go.Proofs.YteampbddflhngabGreat

/- Walks: clauses.copyLit, clauses.Clause.Lits. -/
namespace Go.Proofs.YteampbddflhngabGreat
open Go.RowKit
variable {lo : Nat}

set_option maxRecDepth 100000 in
set_option maxHeartbeats 2000000 in
theorem copyLit_any (w : World) (l : PLit) (va : Value) (hs : SIn lo w va l.args) (hl : l.args.length ≤ 1000) :
    Calls Tryz.prog 66 #[.agg #[.bool l.neg, .string l.pred, va]] w fun e w' => ∃ g, w.heap.size ≤ g ∧ e = .returned (.agg #[.bool l.neg, .string l.pred, .slice (some ⟨g, 0, none⟩) l.args.length l.args.length]) ∧ SIn w.heap.size w' (.slice (some ⟨g, 0, none⟩) l.args.length l.args.length) l.args ∧ Below w.heap.size w w' := by
  obtain ⟨ao, cap, rfl⟩ := hs.shape
  have HC : Hid (∀ W, Below w.heap.size w W → Calls Tryz.prog 84 #[.slice ao l.args.length cap] W fun e w' => ∃ g, W.heap.size ≤ g ∧ e = .returned (.slice (some ⟨g, 0, none⟩) l.args.length l.args.length) ∧ SIn W.heap.size w' (.slice (some ⟨g, 0, none⟩) l.args.length l.args.length) l.args ∧ Below W.heap.size W w') := fun W hW => copyStrings_any W _ l.args (hs.below hW) hl
  clear hs
  go_enter Tryz.func66, Tryz.ntmps66
  go_wp2
  generalize hW0 : (w.alloc (.cells #[.bool l.neg, .string l.pred, .slice ao l.args.length cap] 45)).alloc (.cells #[.bool false, .string { data := #[] }, .slice none 0 0] 45) = w0
  have hA : Box w0 w.heap.size #[.bool l.neg, .string l.pred, .slice ao l.args.length cap] 45 := by rw [← hW0]; exact (Box.new w _ _).below ((Below.refl _ _).alloc (Nat.le_refl _) _)
  have hR : Box w0 (w.heap.size + 1) #[.bool false, .string { data := #[] }, .slice none 0 0] 45 := by rw [← hW0]; exact Box.newAt _ _ _ _ (by simp)
  have hB0 : Below w.heap.size w w0 := by rw [← hW0]; exact (by repeat' (first | (with_reducible exact Below.refl _ _) | (with_reducible assumption) | (with_reducible refine bdrewN ?_ _) | (with_reducible refine Below.alloc ?_ ?_ _) | (with_reducible refine Below.drew ?_) | (with_reducible refine Below.setCell ?_ ?_ _) | go_size))
  clear hW0
  obtain ⟨hAc, hAf⟩ := hA.rules
  obtain ⟨hRc, hRf⟩ := hR.rules
  have hAl := hA.lt
  have hRl := hR.lt
  go_region_with (go_at_call 84; refine (HC.out _ (by exact bdrewN hB0 1)).mono ?_; rintro e w1 ⟨g, hg, rfl, hs1, hb1⟩; have hA1 := (Box.drew hA).below hb1; have hR1 := (Box.drew hR).below hb1; obtain ⟨hA1c, hA1f⟩ := hA1.rules; obtain ⟨hR1c, hR1f⟩ := hR1.rules; have hA1l := hA1.lt; have hR1l := hR1.lt)
  all_goals
    go_wp2
    have hz1 := hb1.size
    have hB1 : Below w.heap.size w w1 := bnext (bdrewN hB0 1) hb1 (Nat.le_refl _)
    have hg1 : w0.heap.size ≤ g := hg
    have hz0 := hB0.size
    exact bodyPost_ret (v := .agg #[.bool l.neg, .string l.pred, .slice (some ⟨g, 0, none⟩) l.args.length l.args.length]) (by simp [results, Tryz.results66, go_sem, hR1c]) rfl ⟨g, by omega, rfl, (hs1.low (show w.heap.size ≤ w0.heap.size from hz0)).but (r := w.heap.size + 1) ((((But.refl _ _).setCell _ _).setCell _ _).setCell _ _) hR1 (by decide), (((hB1.setCell (by simp) _).setCell (by simp) _).setCell (by simp) _)⟩

def lcell (t : Value × Value × Value) : List Value := [t.1, t.2.1, t.2.2]
def flat3 (ys : List (Value × Value × Value)) : List Value := ys.flatMap lcell
theorem flat3_len (ys : List (Value × Value × Value)) : (flat3 ys).length = ys.length * 3 := by
  induction ys with
  | nil => rfl
  | cons a l ih => simp [flat3, lcell] at ih ⊢; omega
theorem flat3_set : ∀ (ys : List (Value × Value × Value)) (k : Nat) (_ : k < ys.length) (a b c : Value), (((flat3 ys).set (k * 3) a).set (k * 3 + 1) b).set (k * 3 + 2) c = flat3 (ys.set k (a, b, c))
  | [], k, hk, _, _, _ => by simp at hk
  | y :: r, 0, _, a, b, c => by simp [flat3, lcell]
  | y :: r, k + 1, hk, a, b, c => by
    have := flat3_set r k (by simpa using hk) a b c
    simp only [flat3, List.flatMap_cons, List.set_cons_succ, lcell] at this ⊢
    rw [show (k + 1) * 3 = k * 3 + 1 + 1 + 1 from by omega, show k * 3 + 1 + 1 + 1 + 1 = k * 3 + 1 + 1 + 1 + 1 from rfl, show k * 3 + 1 + 1 + 1 + 2 = k * 3 + 2 + 1 + 1 + 1 from by omega]
    simpa using this
theorem flat3_at : ∀ (ys : List (Value × Value × Value)) (k : Nat) (hk : k < ys.length), (flat3 ys)[k * 3]? = some ys[k].1 ∧ (flat3 ys)[k * 3 + 1]? = some ys[k].2.1 ∧ (flat3 ys)[k * 3 + 2]? = some ys[k].2.2
  | [], k, hk => by simp at hk
  | y :: r, 0, _ => by simp [flat3, lcell]
  | y :: r, k + 1, hk => by
    have := flat3_at r k (by simpa using hk)
    simp only [flat3, List.flatMap_cons, lcell] at this ⊢
    rw [show (k + 1) * 3 = k * 3 + 1 + 1 + 1 from by omega, show k * 3 + 1 + 1 + 1 + 1 = k * 3 + 1 + 1 + 1 + 1 from rfl, show k * 3 + 1 + 1 + 1 + 2 = k * 3 + 2 + 1 + 1 + 1 from by omega]
    simpa using this
theorem made3_at (z0 z1 z2 : Value) : ∀ (n i : Nat), i < n * 3 → (madeCells #[z0, z1, z2] (n * 3))[i]? = (flat3 (List.replicate n (z0, z1, z2)))[i]? := by
  intro n i hi
  obtain ⟨k, j, hj, rfl⟩ : ∃ k j, j < 3 ∧ i = k * 3 + j := ⟨i / 3, i % 3, Nat.mod_lt _ (by decide), by omega⟩
  have hk : k < n := by omega
  obtain ⟨h0, h1, h2⟩ := flat3_at (List.replicate n (z0, z1, z2)) k (by simpa using hk)
  simp only [List.getElem_replicate] at h0 h1 h2
  have hm : (k * 3 + j) % 3 = j := by omega
  simp only [madeCells, Array.getElem?_map, Array.getElem?_range]
  rw [if_pos hi]
  simp only [Option.map_some]
  have h3 : (#[z0, z1, z2] : Array Value).size = 3 := rfl
  rw [h3, hm]
  match j, hj with
  | 0, _ => rw [Nat.add_zero, h0]; rfl
  | 1, _ => rw [h1]; rfl
  | 2, _ => rw [h2]; rfl
theorem own_make3 (w : World) (n : Nat) (T : TypeId) (z0 z1 z2 : Value) (hn : n ≤ maxLen) : (w.alloc (.cells (madeCells #[z0, z1, z2] (n * 3)) T)).ownsRow w.heap.size T 3 (.slice (some ⟨w.heap.size, 0, none⟩) n n) n (flat3 (List.replicate n (z0, z1, z2))) := by
  refine ⟨by rw [flat3_len]; simp, Or.inr ⟨w.heap.size, n, madeCells #[z0, z1, z2] (n * 3), rfl, Nat.le_refl _, ?_, Nat.le_refl _, hn, by rw [size_madeCells], ?_⟩⟩
  · show (w.heap.push _)[w.heap.size]? = _
    simp
  · apply List.ext_getElem?
    intro i
    by_cases hi : i < n * 3
    · rw [List.getElem?_take, if_pos hi, Array.getElem?_toList, made3_at _ _ _ n i hi]
    · rw [List.getElem?_take, if_neg hi, List.getElem?_eq_none (by rw [flat3_len]; simp; omega)]

theorem own_set3 {w : World} {base : Nat} {e : TypeId} {g n cap m : Nat} {ys : List (Value × Value × Value)} (h : w.ownsRow base e 3 (.slice (some ⟨g, 0, none⟩) n cap) m (flat3 ys)) (k : Nat) (hk : k < ys.length) (a b c : Value) :
    (((w.setCell ⟨g, k * 3, none⟩ a).setCell ⟨g, k * 3 + 1, none⟩ b).setCell ⟨g, k * 3 + 2, none⟩ c).ownsRow base e 3 (.slice (some ⟨g, 0, none⟩) n cap) m (flat3 (ys.set k (a, b, c))) := by
  have hl := flat3_len ys
  have h1 := own_set h (k * 3) (by omega) a
  have h2 := own_set h1 (k * 3 + 1) (by simp; omega) b
  have h3 := own_set h2 (k * 3 + 2) (by simp; omega) c
  rw [flat3_set ys k hk] at h3
  exact h3
theorem own_cell3 {w : World} {base : Nat} {e : TypeId} {g n cap m : Nat} {ys : List (Value × Value × Value)} (h : w.ownsRow base e 3 (.slice (some ⟨g, 0, none⟩) n cap) m (flat3 ys)) (k : Nat) (hk : k < ys.length) :
    g < w.heap.size ∧ w.cell? ⟨g, k * 3, none⟩ = some ys[k].1 ∧ w.cell? ⟨g, k * 3 + 1, none⟩ = some ys[k].2.1 ∧ w.cell? ⟨g, k * 3 + 2, none⟩ = some ys[k].2.2 := by
  have hm : 0 < m := by have := h.1; rw [flat3_len] at this; omega
  obtain ⟨g', cap', hv, _, hg, hc⟩ := own_cells h hm
  simp at hv
  obtain ⟨rfl, _⟩ := hv
  obtain ⟨h0, h1, h2⟩ := flat3_at ys k hk
  exact ⟨hg, hc _ _ h0, hc _ _ h1, hc _ _ h2⟩
theorem own_block {w : World} {base : Nat} {e : TypeId} {size g n cap m : Nat} {xs : List Value} (h : w.ownsRow base e size (.slice (some ⟨g, 0, none⟩) n cap) m xs) : ∃ cur, w.heap[g]? = some (.cells cur e (0, 0)) := by
  obtain ⟨_, ⟨hv, _⟩ | ⟨g', cap', cur, hv, _, hh, _⟩⟩ := h
  · cases hv
  · simp at hv; obtain ⟨rfl, _⟩ := hv; exact ⟨cur, hh⟩
def lit3 (l : PLit) (g : Nat) : Value × Value × Value := (.bool l.neg, .string l.pred, .slice (some ⟨g, 0, none⟩) l.args.length l.args.length)
/-- Literals that were copied: of each its terms' block. -/
def Copies (lo : Nat) (w : World) (ls : List PLit) (gs : List Nat) : Prop := gs.length = ls.length ∧ gs.Pairwise (· < ·) ∧ ∀ k (h1 : k < ls.length) (h2 : k < gs.length), lo ≤ gs[k] ∧ SIn lo w (.slice (some ⟨gs[k], 0, none⟩) ls[k].args.length ls[k].args.length) ls[k].args
theorem Copies.nil (w : World) : Copies lo w [] [] := ⟨rfl, List.Pairwise.nil, fun k h1 => by simp at h1⟩
theorem Copies.mono {w w' : World} {ls : List PLit} {gs : List Nat} (h : Copies lo w ls gs) (hm : ∀ v l, SIn lo w v l → SIn lo w' v l) : Copies lo w' ls gs := ⟨h.1, h.2.1, fun k h1 h2 => ⟨(h.2.2 k h1 h2).1, hm _ _ (h.2.2 k h1 h2).2⟩⟩
theorem Copies.lt {w : World} {ls : List PLit} {gs : List Nat} (h : Copies lo w ls gs) : ∀ g ∈ gs, g < w.heap.size := by
  intro g hg
  obtain ⟨k, hk, rfl⟩ := List.getElem_of_mem hg
  obtain ⟨cur, hh⟩ := own_block (h.2.2 k (by have := h.1; omega) hk).2
  exact (Array.getElem?_eq_some_iff.1 hh).1
theorem Copies.snoc {w : World} {ls : List PLit} {gs : List Nat} {l : PLit} {g : Nat} (h : Copies lo w ls gs) (hlt : ∀ x ∈ gs, x < g) (hg : lo ≤ g) (hs : SIn lo w (.slice (some ⟨g, 0, none⟩) l.args.length l.args.length) l.args) : Copies lo w (ls ++ [l]) (gs ++ [g]) := by
  obtain ⟨h1, h2, h3⟩ := h
  refine ⟨by simp [h1], ?_, ?_⟩
  · rw [List.pairwise_append]
    exact ⟨h2, List.pairwise_singleton _ _, fun a ha b hb => by simp at hb; subst hb; exact hlt a ha⟩
  · intro k hk1 hk2
    simp at hk1
    by_cases hk : k < ls.length
    · have := h3 k hk (by omega)
      simpa [List.getElem_append, hk, h1] using this
    · obtain rfl : k = ls.length := by omega
      have e1 : (ls ++ [l])[ls.length] = l := by simp
      have e2 : (gs ++ [g])[ls.length] = g := by simp [← h1]
      rw [e1, e2]
      exact ⟨hg, hs⟩

theorem trip_set {ls : List PLit} {gs : List Nat} (h : gs.length = ls.length) (l : PLit) (g m : Nat) (z : Value × Value × Value) : (List.zipWith lit3 ls gs ++ List.replicate (m + 1) z).set ls.length (lit3 l g) = List.zipWith lit3 (ls ++ [l]) (gs ++ [g]) ++ List.replicate m z := by
  have hz : (List.zipWith lit3 ls gs).length = ls.length := by simp [h]
  rw [List.set_append_right _ _ (by omega), hz, Nat.sub_self, List.zipWith_append h.symm, List.append_assoc]
  rfl
theorem SIn.sets {g : Nat} {w : World} {v : Value} {l : List ByteArray} (h : SIn lo w v l) {base n cap m : Nat} {xs : List Value} (hr : w.ownsRow base 45 3 (.slice (some ⟨g, 0, none⟩) n cap) m xs) (i j k : Nat) (a b c : Value) : SIn lo (((w.setCell ⟨g, i, none⟩ a).setCell ⟨g, j, none⟩ b).setCell ⟨g, k, none⟩ c) v l := by
  obtain ⟨cur, hh⟩ := own_block hr
  exact h.but ((((But.refl g w).setCell _ _).setCell _ _).setCell _ _) hh (by decide)
end Go.Proofs.YteampbddflhngabGreat
