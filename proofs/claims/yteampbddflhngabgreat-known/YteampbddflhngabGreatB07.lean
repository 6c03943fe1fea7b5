import Derived.Test.YteampbddflhngabGreatB06

/- Walks: Clause.All, Clause.Plain, Vars.Count, Vars.Cover. -/
namespace Go.Proofs.YteampbddflhngabGreat
open Go.RowKit
variable {lo : Nat}

theorem LIn.cell {w : World} {ao : Option Addr} {n cap : Nat} {ls : List PLit} (h : LIn lo w (.slice ao n cap) ls) (k : Nat) (hk : k < ls.length) : ∃ g ao2 cap2, ao = some ⟨g, 0, none⟩ ∧ g < w.heap.size ∧
    w.cell? ⟨g, k * 3, none⟩ = some (.bool ls[k].neg) ∧ w.cell? ⟨g, k * 3 + 1, none⟩ = some (.string ls[k].pred) ∧ w.cell? ⟨g, k * 3 + 2, none⟩ = some (.slice ao2 ls[k].args.length cap2) ∧ SIn lo w (.slice ao2 ls[k].args.length cap2) ls[k].args := by
  obtain ⟨xs, ho, hc⟩ := h
  obtain ⟨g, cap', hv, _, hg, hcl⟩ := own_cells ho (by omega)
  simp at hv
  obtain ⟨va, a1, a2, a3, a4⟩ := hc.at k ls[k] (by simp [hk])
  obtain ⟨ao2, cap2, rfl⟩ := a4.shape
  exact ⟨g, ao2, cap2, hv.1, hg, hcl _ _ a1, hcl _ _ a2, hcl _ _ a3, a4⟩

def litVs (vs : List ByteArray) (l : PLit) : List ByteArray := addVs vs l.args
def plainV (vs : List ByteArray) (l : PLit) : List ByteArray := if l.neg then vs else addVs vs l.args
def allVs (c : PClause) : List ByteArray := c.body.foldl litVs (addVs [] c.head.args)
def plainVs (c : PClause) : List ByteArray := c.body.foldl plainV []
def sumArgs (ls : List PLit) : Nat := ls.foldr (fun l n => l.args.length + n) 0
theorem sumArgs_take (ls : List PLit) : ∀ k, k < ls.length → sumArgs (ls.take k) + (ls[k]?.map (·.args.length)).getD 0 ≤ sumArgs ls := by
  induction ls with
  | nil => intro k h; simp at h
  | cons a ls ih =>
    intro k h
    cases k with
    | zero => simp [sumArgs]
    | succ k => have := ih k (by simpa using h); simp [sumArgs] at this ⊢; omega
theorem sumArgs_snoc (ls : List PLit) (a : PLit) : sumArgs (ls ++ [a]) = sumArgs ls + a.args.length := by
  induction ls with
  | nil => simp [sumArgs]
  | cons b ls ih => simp [sumArgs] at ih ⊢; omega
theorem litVs_len (ls : List PLit) : ∀ vs : List ByteArray, (ls.foldl litVs vs).length ≤ vs.length + sumArgs ls := by
  induction ls with
  | nil => intro vs; simp [sumArgs]
  | cons a ls ih => intro vs; have := ih (litVs vs a); have := addVs_len a.args vs; simp [sumArgs, litVs] at *; omega
theorem plainV_len (ls : List PLit) : ∀ vs : List ByteArray, (ls.foldl plainV vs).length ≤ vs.length + sumArgs ls := by
  induction ls with
  | nil => intro vs; simp [sumArgs]
  | cons a ls ih =>
    intro vs
    have h1 := ih (plainV vs a)
    have h2 := addVs_len a.args vs
    have h3 : (plainV vs a).length ≤ vs.length + a.args.length := by unfold plainV; split <;> omega
    simp [sumArgs] at *; omega

set_option maxRecDepth 100000 in
set_option maxHeartbeats 1000000 in
theorem all_any (w : World) (c : PClause) (va vb : Value) (hs : SIn lo w va c.head.args) (hb : LIn lo w vb c.body) (hl : c.head.args.length + sumArgs c.body ≤ 1000) (hl2 : c.body.length ≤ 1000) :
    Calls Tryz.prog 91 #[.agg #[.bool c.head.neg, .string c.head.pred, va, vb]] w fun e w' => ∃ nv, e = .returned (.agg #[nv]) ∧ w'.ownsRow w.heap.size 9 1 nv (allVs c).length ((allVs c).map Value.string) ∧ Below w.heap.size w w' := by
  obtain ⟨ao, cap, rfl⟩ := hs.shape
  obtain ⟨aob, capb, rfl⟩ := hb.shape
  have hb0 : Below w.heap.size w (((w.alloc (.cells #[.bool c.head.neg, .string c.head.pred, .slice ao c.head.args.length cap, .slice aob c.body.length capb] 90)).alloc (.cells #[.slice none 0 0] 124)).alloc (.cells #[.slice none 0 0] 124)) := (by repeat' (first | (with_reducible exact Below.refl _ _) | (with_reducible assumption) | (with_reducible refine bdrewN ?_ _) | (with_reducible refine Below.alloc ?_ ?_ _) | (with_reducible refine Below.drew ?_) | (with_reducible refine Below.setCell ?_ ?_ _) | go_size))
  have hva0 : VA w.heap.size (((w.alloc (.cells #[.bool c.head.neg, .string c.head.pred, .slice ao c.head.args.length cap, .slice aob c.body.length capb] 90)).alloc (.cells #[.slice none 0 0] 124)).alloc (.cells #[.slice none 0 0] 124)) (w.heap.size + 2) [] := ⟨_, by have := Box.new ((w.alloc (.cells #[.bool c.head.neg, .string c.head.pred, .slice ao c.head.args.length cap, .slice aob c.body.length capb] 90)).alloc (.cells #[.slice none 0 0] 124)) #[.slice none 0 0] 124; simpa using this, World.ownsRow_nil _ _ _ _⟩
  have hres0 : Box (((w.alloc (.cells #[.bool c.head.neg, .string c.head.pred, .slice ao c.head.args.length cap, .slice aob c.body.length capb] 90)).alloc (.cells #[.slice none 0 0] 124)).alloc (.cells #[.slice none 0 0] 124)) (w.heap.size + 1) #[.slice none 0 0] 124 := by have := (Box.new (w.alloc (.cells #[.bool c.head.neg, .string c.head.pred, .slice ao c.head.args.length cap, .slice aob c.body.length capb] 90)) #[.slice none 0 0] 124).below ((Below.refl _ _).alloc (Nat.le_refl _) (.cells #[.slice none 0 0] 124)); simpa using this
  have hbx0 : Box (((w.alloc (.cells #[.bool c.head.neg, .string c.head.pred, .slice ao c.head.args.length cap, .slice aob c.body.length capb] 90)).alloc (.cells #[.slice none 0 0] 124)).alloc (.cells #[.slice none 0 0] 124)) w.heap.size #[.bool c.head.neg, .string c.head.pred, .slice ao c.head.args.length cap, .slice aob c.body.length capb] 90 := ((Box.new w _ _).below ((Below.refl _ _).alloc (Nat.le_refl _) _)).below ((Below.refl _ _).alloc (Nat.le_refl _) _)
  go_enter Tryz.func91, Tryz.ntmps91
  go_wp2_with (first | (go_at_call 83; refine (add_any w _ (w.heap.size + 2) [] c.head.args _ _ _ (by exact hb0) hs (by exact hva0) (by omega) (by simp; omega)).mono ?_; rintro e w1 ⟨rfl, hva1, hb1, hk1⟩; have hres1 := hk1.box _ _ _ (by omega) (by decide) hres0; have hbx1 := hk1.box _ _ _ (by omega) (by decide) hbx0; obtain ⟨hbc, hbf⟩ := hbx1.rules; have hsz1 := hbx1.lt))
  go_loopw [12] (fun i wr => ∃ k : Nat, k ≤ c.body.length ∧ i = .int .i64 k ∧ VA w.heap.size wr (w.heap.size + 2) ((c.body.take k).foldl litVs (addVs [] c.head.args)) ∧ Below w.heap.size w wr ∧ Box wr (w.heap.size + 1) #[.slice none 0 0] 124) (fun i _ => c.body.length - (intOf i).toNat)
  case atStart => exact ⟨0, Nat.zero_le _, rfl, hva1, hb1, hres1⟩
  case round =>
    obtain ⟨k, hk, rfl, hvk, hbk, hrk⟩ := hrel
    have hszk := hbk.size
    by_cases hlt : k < c.body.length
    · obtain ⟨g, ao2, cap2, rfl, hg, hc0, hc1, hc2, hsk⟩ := hb.cell k hlt
      have hd0 := (hbk.cell (p := ⟨g, k * 3, none⟩) hg).trans hc0
      have hd1 := (hbk.cell (p := ⟨g, k * 3 + 1, none⟩) hg).trans hc1
      have hd2 := (hbk.cell (p := ⟨g, k * 3 + 2, none⟩) hg).trans hc2
      have hgr : g < wr.heap.size := by omega
      have hlen := litVs_len (c.body.take k) (addVs [] c.head.args)
      have hst := sumArgs_take c.body k hlt
      have hlen0 := addVs_len c.head.args []
      have hsn : (c.body.take (k + 1)).foldl litVs (addVs [] c.head.args) = litVs ((c.body.take k).foldl litVs (addVs [] c.head.args)) c.body[k] := by rw [List.take_succ_eq_append_getElem hlt, List.foldl_append]; rfl
      rw [List.getElem?_eq_getElem hlt] at hst
      simp only [Option.map_some, Option.getD_some] at hst
      clear hc0 hc1 hc2
      generalize c.body[k] = a at *
      generalize (c.body.take k).foldl litVs (addVs [] c.head.args) = vk at *
      have HS : Hid ((c.body.take (k + 1)).foldl litVs (addVs [] c.head.args) = litVs vk a) := hsn
      clear hsn
      go_wp2_with (first | (go_at_call 83; refine (add_any w _ (w.heap.size + 2) vk a.args _ _ _ (by exact (by repeat' (first | (with_reducible exact Below.refl _ _) | (with_reducible assumption) | (with_reducible refine bdrewN ?_ _) | (with_reducible refine Below.alloc ?_ ?_ _) | (with_reducible refine Below.drew ?_) | (with_reducible refine Below.setCell ?_ ?_ _) | go_size))) hsk (by exact hvk.below (by repeat' (first | (with_reducible exact Below.refl _ _) | (with_reducible assumption) | (with_reducible refine bdrewN ?_ _) | (with_reducible refine Below.alloc ?_ ?_ _) | (with_reducible refine Below.drew ?_) | (with_reducible refine Below.setCell ?_ ?_ _) | go_size))) (by omega) (by simp at *; omega)).mono ?_; rintro e w1 ⟨rfl, hva1, hb1, hk1⟩; have hres1 := hk1.box _ _ _ (by omega) (by decide) (hrk.below (by repeat' (first | (with_reducible exact Below.refl _ _) | (with_reducible assumption) | (with_reducible refine bdrewN ?_ _) | (with_reducible refine Below.alloc ?_ ?_ _) | (with_reducible refine Below.drew ?_) | (with_reducible refine Below.setCell ?_ ?_ _) | go_size)))))
      go_roundw
      case rel => exact ⟨k + 1, by omega, by go_num, by rw [HS.out]; exact hva1, hb1, hres1⟩
      case measure => simp [intOf]; omega
    · have hE : c.body.take k = c.body := List.take_of_length_le (by omega)
      rw [hE] at hvk
      obtain ⟨nv, hbx, hown⟩ := hvk
      obtain ⟨ao3, cap3, rfl⟩ := own_view hown
      obtain ⟨hc, hf⟩ := hbx.rules
      obtain ⟨hc2, hf2⟩ := hrk.rules
      have hz1 := hbx.lt
      clear hE
      go_wp2
      have ho2 := own_but hown ((But.refl (w.heap.size + 1) wr).setCell 0 (.slice ao3 (c.body.foldl litVs (addVs [] c.head.args)).length cap3)) hrk (by decide)
      exact bodyPost_ret (v := .agg #[.slice ao3 (c.body.foldl litVs (addVs [] c.head.args)).length cap3]) (by simp [results, Tryz.results91, go_sem, hc2]) rfl ⟨_, rfl, ho2, (by repeat' (first | (with_reducible exact Below.refl _ _) | (with_reducible assumption) | (with_reducible refine bdrewN ?_ _) | (with_reducible refine Below.alloc ?_ ?_ _) | (with_reducible refine Below.drew ?_) | (with_reducible refine Below.setCell ?_ ?_ _) | go_size))⟩

set_option maxRecDepth 100000 in
set_option maxHeartbeats 1000000 in
theorem plain_any (w : World) (c : PClause) (va vb : Value) (hs : SIn lo w va c.head.args) (hb : LIn lo w vb c.body) (hl : c.head.args.length + sumArgs c.body ≤ 1000) (hl2 : c.body.length ≤ 1000) :
    Calls Tryz.prog 57 #[.agg #[.bool c.head.neg, .string c.head.pred, va, vb]] w fun e w' => ∃ nv, e = .returned (.agg #[nv]) ∧ w'.ownsRow w.heap.size 9 1 nv (plainVs c).length ((plainVs c).map Value.string) ∧ Below w.heap.size w w' := by
  obtain ⟨ao, cap, rfl⟩ := hs.shape
  obtain ⟨aob, capb, rfl⟩ := hb.shape
  have hb0 : Below w.heap.size w (((w.alloc (.cells #[.bool c.head.neg, .string c.head.pred, .slice ao c.head.args.length cap, .slice aob c.body.length capb] 90)).alloc (.cells #[.slice none 0 0] 124)).alloc (.cells #[.slice none 0 0] 124)) := (by repeat' (first | (with_reducible exact Below.refl _ _) | (with_reducible assumption) | (with_reducible refine bdrewN ?_ _) | (with_reducible refine Below.alloc ?_ ?_ _) | (with_reducible refine Below.drew ?_) | (with_reducible refine Below.setCell ?_ ?_ _) | go_size))
  have hva0 : VA w.heap.size (((w.alloc (.cells #[.bool c.head.neg, .string c.head.pred, .slice ao c.head.args.length cap, .slice aob c.body.length capb] 90)).alloc (.cells #[.slice none 0 0] 124)).alloc (.cells #[.slice none 0 0] 124)) (w.heap.size + 2) [] := ⟨_, by have := Box.new ((w.alloc (.cells #[.bool c.head.neg, .string c.head.pred, .slice ao c.head.args.length cap, .slice aob c.body.length capb] 90)).alloc (.cells #[.slice none 0 0] 124)) #[.slice none 0 0] 124; simpa using this, World.ownsRow_nil _ _ _ _⟩
  have hres0 : Box (((w.alloc (.cells #[.bool c.head.neg, .string c.head.pred, .slice ao c.head.args.length cap, .slice aob c.body.length capb] 90)).alloc (.cells #[.slice none 0 0] 124)).alloc (.cells #[.slice none 0 0] 124)) (w.heap.size + 1) #[.slice none 0 0] 124 := by have := (Box.new (w.alloc (.cells #[.bool c.head.neg, .string c.head.pred, .slice ao c.head.args.length cap, .slice aob c.body.length capb] 90)) #[.slice none 0 0] 124).below ((Below.refl _ _).alloc (Nat.le_refl _) (.cells #[.slice none 0 0] 124)); simpa using this
  have hbx0 : Box (((w.alloc (.cells #[.bool c.head.neg, .string c.head.pred, .slice ao c.head.args.length cap, .slice aob c.body.length capb] 90)).alloc (.cells #[.slice none 0 0] 124)).alloc (.cells #[.slice none 0 0] 124)) w.heap.size #[.bool c.head.neg, .string c.head.pred, .slice ao c.head.args.length cap, .slice aob c.body.length capb] 90 := ((Box.new w _ _).below ((Below.refl _ _).alloc (Nat.le_refl _) _)).below ((Below.refl _ _).alloc (Nat.le_refl _) _)
  go_enter Tryz.func57, Tryz.ntmps57
  go_wp2
  go_loopw [9] (fun i wr => ∃ k : Nat, k ≤ c.body.length ∧ i = .int .i64 k ∧ VA w.heap.size wr (w.heap.size + 2) ((c.body.take k).foldl plainV []) ∧ Below w.heap.size w wr ∧ Box wr (w.heap.size + 1) #[.slice none 0 0] 124) (fun i _ => c.body.length - (intOf i).toNat)
  case atStart => exact ⟨0, Nat.zero_le _, rfl, hva0, hb0, hres0⟩
  case round =>
    obtain ⟨k, hk, rfl, hvk, hbk, hrk⟩ := hrel
    have hszk := hbk.size
    by_cases hlt : k < c.body.length
    · obtain ⟨g, ao2, cap2, rfl, hg, hc0, hc1, hc2, hsk⟩ := hb.cell k hlt
      have hd0 := (hbk.cell (p := ⟨g, k * 3, none⟩) hg).trans hc0
      have hd1 := (hbk.cell (p := ⟨g, k * 3 + 1, none⟩) hg).trans hc1
      have hd2 := (hbk.cell (p := ⟨g, k * 3 + 2, none⟩) hg).trans hc2
      have hgr : g < wr.heap.size := by omega
      have hlen := plainV_len (c.body.take k) []
      have hst := sumArgs_take c.body k hlt
      have hlen0 : True := trivial
      have hsn : (c.body.take (k + 1)).foldl plainV [] = plainV ((c.body.take k).foldl plainV []) c.body[k] := by rw [List.take_succ_eq_append_getElem hlt, List.foldl_append]; rfl
      rw [List.getElem?_eq_getElem hlt] at hst
      simp only [Option.map_some, Option.getD_some] at hst
      clear hc0 hc1 hc2
      generalize c.body[k] = a at *
      generalize (c.body.take k).foldl plainV [] = vk at *
      have HS : Hid ((c.body.take (k + 1)).foldl plainV [] = plainV vk a) := hsn
      clear hsn
      cases hN : a.neg with
      | true =>
        rw [hN] at hd0
        have HR : Hid ((c.body.take (k + 1)).foldl plainV [] = vk) := by rw [Hid, HS.out, plainV, hN, if_pos rfl]
        clear HS hN
        go_wp2
        go_roundw
        case rel => exact ⟨k + 1, by omega, by go_num, by rw [HR.out]; exact hvk.below (by repeat' (first | (with_reducible exact Below.refl _ _) | (with_reducible assumption) | (with_reducible refine bdrewN ?_ _) | (with_reducible refine Below.alloc ?_ ?_ _) | (with_reducible refine Below.drew ?_) | (with_reducible refine Below.setCell ?_ ?_ _) | go_size)), (by repeat' (first | (with_reducible exact Below.refl _ _) | (with_reducible assumption) | (with_reducible refine bdrewN ?_ _) | (with_reducible refine Below.alloc ?_ ?_ _) | (with_reducible refine Below.drew ?_) | (with_reducible refine Below.setCell ?_ ?_ _) | go_size)), hrk.below (by repeat' (first | (with_reducible exact Below.refl _ _) | (with_reducible assumption) | (with_reducible refine bdrewN ?_ _) | (with_reducible refine Below.alloc ?_ ?_ _) | (with_reducible refine Below.drew ?_) | (with_reducible refine Below.setCell ?_ ?_ _) | go_size))⟩
        case measure => simp [intOf]; omega
      | false =>
        rw [hN] at hd0
        have HR : Hid ((c.body.take (k + 1)).foldl plainV [] = addVs vk a.args) := by rw [Hid, HS.out, plainV, hN]; rfl
        clear HS hN
        go_wp2_with (first | (go_at_call 83; refine (add_any w _ (w.heap.size + 2) vk a.args _ _ _ (by exact (by repeat' (first | (with_reducible exact Below.refl _ _) | (with_reducible assumption) | (with_reducible refine bdrewN ?_ _) | (with_reducible refine Below.alloc ?_ ?_ _) | (with_reducible refine Below.drew ?_) | (with_reducible refine Below.setCell ?_ ?_ _) | go_size))) hsk (by exact hvk.below (by repeat' (first | (with_reducible exact Below.refl _ _) | (with_reducible assumption) | (with_reducible refine bdrewN ?_ _) | (with_reducible refine Below.alloc ?_ ?_ _) | (with_reducible refine Below.drew ?_) | (with_reducible refine Below.setCell ?_ ?_ _) | go_size))) (by omega) (by simp at *; omega)).mono ?_; rintro e w1 ⟨rfl, hva1, hb1, hk1⟩; have hres1 := hk1.box _ _ _ (by omega) (by decide) (hrk.below (by repeat' (first | (with_reducible exact Below.refl _ _) | (with_reducible assumption) | (with_reducible refine bdrewN ?_ _) | (with_reducible refine Below.alloc ?_ ?_ _) | (with_reducible refine Below.drew ?_) | (with_reducible refine Below.setCell ?_ ?_ _) | go_size)))))
        go_roundw
        case rel => exact ⟨k + 1, by omega, by go_num, by rw [HR.out]; exact hva1, hb1, hres1⟩
        case measure => simp [intOf]; omega
    · have hE : c.body.take k = c.body := List.take_of_length_le (by omega)
      rw [hE] at hvk
      obtain ⟨nv, hbx, hown⟩ := hvk
      obtain ⟨ao3, cap3, rfl⟩ := own_view hown
      obtain ⟨hc, hf⟩ := hbx.rules
      obtain ⟨hc2, hf2⟩ := hrk.rules
      have hz1 := hbx.lt
      clear hE
      go_wp2
      have ho2 := own_but hown ((But.refl (w.heap.size + 1) wr).setCell 0 (.slice ao3 (c.body.foldl plainV []).length cap3)) hrk (by decide)
      exact bodyPost_ret (v := .agg #[.slice ao3 (c.body.foldl plainV []).length cap3]) (by simp [results, Tryz.results57, go_sem, hc2]) rfl ⟨_, rfl, ho2, (by repeat' (first | (with_reducible exact Below.refl _ _) | (with_reducible assumption) | (with_reducible refine bdrewN ?_ _) | (with_reducible refine Below.alloc ?_ ?_ _) | (with_reducible refine Below.drew ?_) | (with_reducible refine Below.setCell ?_ ?_ _) | go_size))⟩

end Go.Proofs.YteampbddflhngabGreat
