import Derived.Test.YteampbddflhngaaGreatB05

namespace Go.Proofs.YteampbddflhngaaGreat
set_option maxRecDepth 100000
set_option maxHeartbeats 1000000
open Go.RowKit
variable {lo : Nat}
theorem LIn.cell {w : World} {ao : Option Addr} {n cap : Nat} {ls : List PLit} (h : LIn lo w (.slice ao n cap) ls) (k : Nat) (hk : k < ls.length) : ∃ g ao2 cap2, ao = some ⟨g, 0, none⟩ /\ g < w.heap.size ∧
  w.cell? ⟨g, k * 3, none⟩ = some (.bool ls[k].neg) /\ w.cell? ⟨g, k * 3 + 1, none⟩ = some (.string ls[k].pred) /\ w.cell? ⟨g, k * 3 + 2, none⟩ = some (.slice ao2 ls[k].args.length cap2) /\ SIn lo w (.slice ao2 ls[k].args.length cap2) ls[k].args := by
 obtain ⟨xs, ho, hc⟩ := h
 obtain ⟨g, cap', hv, _, hg, hcl⟩ := own_cells ho (by omega)
 simp at hv
 obtain ⟨va, a1, a2, a3, a4⟩ := hc.at k ls[k] (by simp [hk])
 obtain ⟨ao2, cap2, rfl⟩ := a4.shape
 exact ⟨g, ao2, cap2, hv.1, hg, hcl _ _ a1, hcl _ _ a2, hcl _ _ a3, a4⟩
def litVs (vs : List ByteArray) (l : PLit) : List ByteArray := addVs vs l.args
def plainV (vs : List ByteArray) (l : PLit) : List ByteArray := if l.neg then vs else addVs vs l.args
def allVs (c : PClause) : List ByteArray := c.body.foldl litVs (addVs [] c.head.args)
def plainVs (c : PClause) : List ByteArray := c.body.foldl plainV []
def sumArgs (ls : List PLit) : Nat := ls.foldr (fun l n => l.args.length + n) 0
theorem sumArgs_take (ls : List PLit) : ∀ k, k < ls.length -> sumArgs (ls.take k) + (ls[k]?.map (·.args.length)).getD 0 <= sumArgs ls := by
 induction ls with
 | nil => intro k h; simp at h
 | cons a ls ih =>
  intro k h
  cases k with
  | zero => simp [sumArgs]
  | succ k => have := ih k (by simpa using h); simp [sumArgs] at this ⊢; omega
theorem litVs_len (ls : List PLit) : ∀ vs : List ByteArray, (ls.foldl litVs vs).length <= vs.length + sumArgs ls := by
 induction ls with
 | nil => intro vs; simp [sumArgs]
 | cons a ls ih => intro vs; have := ih (litVs vs a); have := addVs_len a.args vs; simp [sumArgs, litVs] at *; omega
theorem plainV_len (ls : List PLit) : ∀ vs : List ByteArray, (ls.foldl plainV vs).length <= vs.length + sumArgs ls := by
 induction ls with
 | nil => intro vs; simp [sumArgs]
 | cons a ls ih =>
  intro vs
  have h1 := ih (plainV vs a)
  have h2 := addVs_len a.args vs
  have h3 : (plainV vs a).length <= vs.length + a.args.length := by unfold plainV; split <;> omega
  simp [sumArgs] at *; omega
theorem all_any (w : World) (c : PClause) (va vb : Value) (hs : SIn lo w va c.head.args) (hb : LIn lo w vb c.body) (hl : c.head.args.length + sumArgs c.body <= 1000) (hl2 : c.body.length <= 1000) :
  Calls Tryz.prog 145 #[.agg #[.bool c.head.neg, .string c.head.pred, va, vb]] w fun e w' => ∃ nv, e = .returned (.agg #[nv]) /\ w'.ownsRow w.heap.size 9 1 nv (allVs c).length ((allVs c).map Value.string) /\ Below w.heap.size w w' := by
 obtain ⟨ao, cap, rfl⟩ := hs.shape
 obtain ⟨aob, capb, rfl⟩ := hb.shape
 have hb0 : Below w.heap.size w (((w.alloc (.cells #[.bool c.head.neg, .string c.head.pred, .slice ao c.head.args.length cap, .slice aob c.body.length capb] 171)).alloc (.cells #[.slice none 0 0] 246)).alloc (.cells #[.slice none 0 0] 246)) := (by repeat' (first | with_reducible (first | exact Below.refl _ _ | assumption | refine bdrewN ?_ _ | refine Below.alloc ?_ ?_ _ | refine Below.drew ?_ | refine Below.setCell ?_ ?_ _) | go_size))
 have hva0 : VA w.heap.size (((w.alloc (.cells #[.bool c.head.neg, .string c.head.pred, .slice ao c.head.args.length cap, .slice aob c.body.length capb] 171)).alloc (.cells #[.slice none 0 0] 246)).alloc (.cells #[.slice none 0 0] 246)) (w.heap.size + 2) [] := ⟨_, by have := Box.new ((w.alloc (.cells #[.bool c.head.neg, .string c.head.pred, .slice ao c.head.args.length cap, .slice aob c.body.length capb] 171)).alloc (.cells #[.slice none 0 0] 246)) #[.slice none 0 0] 246; simpa using this, World.ownsRow_nil _ _ _ _⟩
 have hres0 : Box (((w.alloc (.cells #[.bool c.head.neg, .string c.head.pred, .slice ao c.head.args.length cap, .slice aob c.body.length capb] 171)).alloc (.cells #[.slice none 0 0] 246)).alloc (.cells #[.slice none 0 0] 246)) (w.heap.size + 1) #[.slice none 0 0] 246 := by have := (Box.new (w.alloc (.cells #[.bool c.head.neg, .string c.head.pred, .slice ao c.head.args.length cap, .slice aob c.body.length capb] 171)) #[.slice none 0 0] 246).below ((Below.refl _ _).alloc (Nat.le_refl _) (.cells #[.slice none 0 0] 246)); simpa using this
 have hbx0 : Box (((w.alloc (.cells #[.bool c.head.neg, .string c.head.pred, .slice ao c.head.args.length cap, .slice aob c.body.length capb] 171)).alloc (.cells #[.slice none 0 0] 246)).alloc (.cells #[.slice none 0 0] 246)) w.heap.size #[.bool c.head.neg, .string c.head.pred, .slice ao c.head.args.length cap, .slice aob c.body.length capb] 171 := ((Box.new w _ _).below ((Below.refl _ _).alloc (Nat.le_refl _) _)).below ((Below.refl _ _).alloc (Nat.le_refl _) _)
 go_enter Tryz.func145, Tryz.ntmps145
 go_wp2_with (first | (go_at_call 182; refine (add_any w _ (w.heap.size + 2) [] c.head.args _ _ _ (by exact hb0) hs (by exact hva0) (by omega) (by simp; omega)).mono ?_; rintro e w1 ⟨rfl, hva1, hb1, hk1⟩; have hres1 := hk1.box _ _ _ (by omega) (by decide) hres0; have hbx1 := hk1.box _ _ _ (by omega) (by decide) hbx0; obtain ⟨hbc, hbf⟩ := hbx1.rules; have hsz1 := hbx1.lt))
 go_loopw [12] (fun i wr => ∃ k : Nat, k <= c.body.length /\ i = .int .i64 k /\ VA w.heap.size wr (w.heap.size + 2) ((c.body.take k).foldl litVs (addVs [] c.head.args)) /\ Below w.heap.size w wr /\ Box wr (w.heap.size + 1) #[.slice none 0 0] 246) (fun i _ => c.body.length - (intOf i).toNat)
 case atStart => exact ⟨0, Nat.zero_le _, rfl, hva1, hb1, hres1⟩
 case round =>
  obtain ⟨k, hk, rfl, hvk, hbk, hrk⟩ := hrel
  have hszk := hbk.size
  by_cases hlt : k < c.body.length
  · obtain ⟨g, ao2, cap2, rfl, hg, hc0, hc1, hc2, hsk⟩ := hb.cell k hlt
   have hd0 := (hbk.cell (p := ⟨g, k * 3, none⟩) hg).trans hc0
   have hd1 := (hbk.cell (p := ⟨g, k * 3 + 1, none⟩) hg).trans hc1
   have hd2 := (hbk.cell (p := ⟨g, k * 3 + 2, none⟩) hg).trans hc2
   have hgr : g < wr.heap.size := by omega
   have hlen := litVs_len (c.body.take k) (addVs [] c.head.args)
   have hst := sumArgs_take c.body k hlt
   have hlen0 := addVs_len c.head.args []
   have hsn : (c.body.take (k + 1)).foldl litVs (addVs [] c.head.args) = litVs ((c.body.take k).foldl litVs (addVs [] c.head.args)) c.body[k] := by rw [List.take_succ_eq_append_getElem hlt, List.foldl_append]; rfl
   rw [List.getElem?_eq_getElem hlt] at hst
   simp only [Option.map_some, Option.getD_some] at hst
   clear hc0 hc1 hc2
   generalize c.body[k] = a at *
   generalize (c.body.take k).foldl litVs (addVs [] c.head.args) = vk at *
   have HS : Hid ((c.body.take (k + 1)).foldl litVs (addVs [] c.head.args) = litVs vk a) := hsn
   clear hsn
   go_wp2_with (first | (go_at_call 182; refine (add_any w _ (w.heap.size + 2) vk a.args _ _ _ (by exact (by repeat' (first | with_reducible (first | exact Below.refl _ _ | assumption | refine bdrewN ?_ _ | refine Below.alloc ?_ ?_ _ | refine Below.drew ?_ | refine Below.setCell ?_ ?_ _) | go_size))) hsk (by exact hvk.below (by repeat' (first | with_reducible (first | exact Below.refl _ _ | assumption | refine bdrewN ?_ _ | refine Below.alloc ?_ ?_ _ | refine Below.drew ?_ | refine Below.setCell ?_ ?_ _) | go_size))) (by omega) (by simp at *; omega)).mono ?_; rintro e w1 ⟨rfl, hva1, hb1, hk1⟩; have hres1 := hk1.box _ _ _ (by omega) (by decide) (hrk.below (by repeat' (first | with_reducible (first | exact Below.refl _ _ | assumption | refine bdrewN ?_ _ | refine Below.alloc ?_ ?_ _ | refine Below.drew ?_ | refine Below.setCell ?_ ?_ _) | go_size)))))
   go_roundw
   case rel => exact ⟨k + 1, by omega, by go_num, by rw [HS.out]; exact hva1, hb1, hres1⟩
   case measure => simp [intOf]; omega
  · have hE : c.body.take k = c.body := List.take_of_length_le (by omega)
   rw [hE] at hvk
   obtain ⟨nv, hbx, hown⟩ := hvk
   obtain ⟨ao3, cap3, rfl⟩ := own_view hown
   obtain ⟨hc, hf⟩ := hbx.rules
   obtain ⟨hc2, hf2⟩ := hrk.rules
   have hz1 := hbx.lt
   clear hE
   go_wp2
   have ho2 := own_but hown ((But.refl (w.heap.size + 1) wr).setCell 0 (.slice ao3 (c.body.foldl litVs (addVs [] c.head.args)).length cap3)) hrk (by decide)
   exact bodyPost_ret (v := .agg #[.slice ao3 (c.body.foldl litVs (addVs [] c.head.args)).length cap3]) (by simp [results, Tryz.results145, go_sem, hc2]) rfl ⟨_, rfl, ho2, (by repeat' (first | with_reducible (first | exact Below.refl _ _ | assumption | refine bdrewN ?_ _ | refine Below.alloc ?_ ?_ _ | refine Below.drew ?_ | refine Below.setCell ?_ ?_ _) | go_size))⟩
theorem plain_any (w : World) (c : PClause) (va vb : Value) (hs : SIn lo w va c.head.args) (hb : LIn lo w vb c.body) (hl : c.head.args.length + sumArgs c.body <= 1000) (hl2 : c.body.length <= 1000) :
  Calls Tryz.prog 148 #[.agg #[.bool c.head.neg, .string c.head.pred, va, vb]] w fun e w' => ∃ nv, e = .returned (.agg #[nv]) /\ w'.ownsRow w.heap.size 9 1 nv (plainVs c).length ((plainVs c).map Value.string) /\ Below w.heap.size w w' := by
 obtain ⟨ao, cap, rfl⟩ := hs.shape
 obtain ⟨aob, capb, rfl⟩ := hb.shape
 have hb0 : Below w.heap.size w (((w.alloc (.cells #[.bool c.head.neg, .string c.head.pred, .slice ao c.head.args.length cap, .slice aob c.body.length capb] 171)).alloc (.cells #[.slice none 0 0] 246)).alloc (.cells #[.slice none 0 0] 246)) := (by repeat' (first | with_reducible (first | exact Below.refl _ _ | assumption | refine bdrewN ?_ _ | refine Below.alloc ?_ ?_ _ | refine Below.drew ?_ | refine Below.setCell ?_ ?_ _) | go_size))
 have hva0 : VA w.heap.size (((w.alloc (.cells #[.bool c.head.neg, .string c.head.pred, .slice ao c.head.args.length cap, .slice aob c.body.length capb] 171)).alloc (.cells #[.slice none 0 0] 246)).alloc (.cells #[.slice none 0 0] 246)) (w.heap.size + 2) [] := ⟨_, by have := Box.new ((w.alloc (.cells #[.bool c.head.neg, .string c.head.pred, .slice ao c.head.args.length cap, .slice aob c.body.length capb] 171)).alloc (.cells #[.slice none 0 0] 246)) #[.slice none 0 0] 246; simpa using this, World.ownsRow_nil _ _ _ _⟩
 have hres0 : Box (((w.alloc (.cells #[.bool c.head.neg, .string c.head.pred, .slice ao c.head.args.length cap, .slice aob c.body.length capb] 171)).alloc (.cells #[.slice none 0 0] 246)).alloc (.cells #[.slice none 0 0] 246)) (w.heap.size + 1) #[.slice none 0 0] 246 := by have := (Box.new (w.alloc (.cells #[.bool c.head.neg, .string c.head.pred, .slice ao c.head.args.length cap, .slice aob c.body.length capb] 171)) #[.slice none 0 0] 246).below ((Below.refl _ _).alloc (Nat.le_refl _) (.cells #[.slice none 0 0] 246)); simpa using this
 have hbx0 : Box (((w.alloc (.cells #[.bool c.head.neg, .string c.head.pred, .slice ao c.head.args.length cap, .slice aob c.body.length capb] 171)).alloc (.cells #[.slice none 0 0] 246)).alloc (.cells #[.slice none 0 0] 246)) w.heap.size #[.bool c.head.neg, .string c.head.pred, .slice ao c.head.args.length cap, .slice aob c.body.length capb] 171 := ((Box.new w _ _).below ((Below.refl _ _).alloc (Nat.le_refl _) _)).below ((Below.refl _ _).alloc (Nat.le_refl _) _)
 go_enter Tryz.func148, Tryz.ntmps148
 go_wp2
 go_loopw [9] (fun i wr => ∃ k : Nat, k <= c.body.length /\ i = .int .i64 k /\ VA w.heap.size wr (w.heap.size + 2) ((c.body.take k).foldl plainV []) /\ Below w.heap.size w wr /\ Box wr (w.heap.size + 1) #[.slice none 0 0] 246) (fun i _ => c.body.length - (intOf i).toNat)
 case atStart => exact ⟨0, Nat.zero_le _, rfl, hva0, hb0, hres0⟩
 case round =>
  obtain ⟨k, hk, rfl, hvk, hbk, hrk⟩ := hrel
  have hszk := hbk.size
  by_cases hlt : k < c.body.length
  · obtain ⟨g, ao2, cap2, rfl, hg, hc0, hc1, hc2, hsk⟩ := hb.cell k hlt
   have hd0 := (hbk.cell (p := ⟨g, k * 3, none⟩) hg).trans hc0
   have hd1 := (hbk.cell (p := ⟨g, k * 3 + 1, none⟩) hg).trans hc1
   have hd2 := (hbk.cell (p := ⟨g, k * 3 + 2, none⟩) hg).trans hc2
   have hgr : g < wr.heap.size := by omega
   have hlen := plainV_len (c.body.take k) []
   have hst := sumArgs_take c.body k hlt
   have hlen0 : True := trivial
   have hsn : (c.body.take (k + 1)).foldl plainV [] = plainV ((c.body.take k).foldl plainV []) c.body[k] := by rw [List.take_succ_eq_append_getElem hlt, List.foldl_append]; rfl
   rw [List.getElem?_eq_getElem hlt] at hst
   simp only [Option.map_some, Option.getD_some] at hst
   clear hc0 hc1 hc2
   generalize c.body[k] = a at *
   generalize (c.body.take k).foldl plainV [] = vk at *
   have HS : Hid ((c.body.take (k + 1)).foldl plainV [] = plainV vk a) := hsn
   clear hsn
   cases hN : a.neg with
   | true =>
    rw [hN] at hd0
    have HR : Hid ((c.body.take (k + 1)).foldl plainV [] = vk) := by rw [Hid, HS.out, plainV, hN, if_pos rfl]
    clear HS hN
    go_wp2
    go_roundw
    case rel => exact ⟨k + 1, by omega, by go_num, by rw [HR.out]; exact hvk.below (by repeat' (first | with_reducible (first | exact Below.refl _ _ | assumption | refine bdrewN ?_ _ | refine Below.alloc ?_ ?_ _ | refine Below.drew ?_ | refine Below.setCell ?_ ?_ _) | go_size)), (by repeat' (first | with_reducible (first | exact Below.refl _ _ | assumption | refine bdrewN ?_ _ | refine Below.alloc ?_ ?_ _ | refine Below.drew ?_ | refine Below.setCell ?_ ?_ _) | go_size)), hrk.below (by repeat' (first | with_reducible (first | exact Below.refl _ _ | assumption | refine bdrewN ?_ _ | refine Below.alloc ?_ ?_ _ | refine Below.drew ?_ | refine Below.setCell ?_ ?_ _) | go_size))⟩
    case measure => simp [intOf]; omega
   | false =>
    rw [hN] at hd0
    have HR : Hid ((c.body.take (k + 1)).foldl plainV [] = addVs vk a.args) := by rw [Hid, HS.out, plainV, hN]; rfl
    clear HS hN
    go_wp2_with (first | (go_at_call 182; refine (add_any w _ (w.heap.size + 2) vk a.args _ _ _ (by exact (by repeat' (first | with_reducible (first | exact Below.refl _ _ | assumption | refine bdrewN ?_ _ | refine Below.alloc ?_ ?_ _ | refine Below.drew ?_ | refine Below.setCell ?_ ?_ _) | go_size))) hsk (by exact hvk.below (by repeat' (first | with_reducible (first | exact Below.refl _ _ | assumption | refine bdrewN ?_ _ | refine Below.alloc ?_ ?_ _ | refine Below.drew ?_ | refine Below.setCell ?_ ?_ _) | go_size))) (by omega) (by simp at *; omega)).mono ?_; rintro e w1 ⟨rfl, hva1, hb1, hk1⟩; have hres1 := hk1.box _ _ _ (by omega) (by decide) (hrk.below (by repeat' (first | with_reducible (first | exact Below.refl _ _ | assumption | refine bdrewN ?_ _ | refine Below.alloc ?_ ?_ _ | refine Below.drew ?_ | refine Below.setCell ?_ ?_ _) | go_size)))))
    go_roundw
    case rel => exact ⟨k + 1, by omega, by go_num, by rw [HR.out]; exact hva1, hb1, hres1⟩
    case measure => simp [intOf]; omega
  · have hE : c.body.take k = c.body := List.take_of_length_le (by omega)
   rw [hE] at hvk
   obtain ⟨nv, hbx, hown⟩ := hvk
   obtain ⟨ao3, cap3, rfl⟩ := own_view hown
   obtain ⟨hc, hf⟩ := hbx.rules
   obtain ⟨hc2, hf2⟩ := hrk.rules
   have hz1 := hbx.lt
   clear hE
   go_wp2
   have ho2 := own_but hown ((But.refl (w.heap.size + 1) wr).setCell 0 (.slice ao3 (c.body.foldl plainV []).length cap3)) hrk (by decide)
   exact bodyPost_ret (v := .agg #[.slice ao3 (c.body.foldl plainV []).length cap3]) (by simp [results, Tryz.results148, go_sem, hc2]) rfl ⟨_, rfl, ho2, (by repeat' (first | with_reducible (first | exact Below.refl _ _ | assumption | refine bdrewN ?_ _ | refine Below.alloc ?_ ?_ _ | refine Below.drew ?_ | refine Below.setCell ?_ ?_ _) | go_size))⟩
end Go.Proofs.YteampbddflhngaaGreat

namespace Go.Proofs.YteampbddflhngaaGreat
set_option maxRecDepth 100000
set_option maxHeartbeats 1000000
open Go.RowKit
variable {lo : Nat}
theorem count_any (w : World) (vb : Nat) (nv : Value) (vs : List ByteArray) (hbox : Box w vb #[nv] 246) (hs : SIn lo w nv vs) :
  Calls Tryz.prog 146 #[.pointer (some ⟨vb, 0, none⟩)] w fun e w' => e = .returned (.int .i64 vs.length) /\ w' = w := by
 obtain ⟨hc, hf⟩ := hbox.rules
 obtain ⟨ao, cap, rfl⟩ := hs.shape
 go_enter Tryz.func146, Tryz.ntmps146
 go_wp2
 go_ret
 exact ⟨rfl, rfl⟩
def coverB (vs args : List ByteArray) : Bool := args.all fun t => !isVarB t || memB t vs
theorem all_drop {α : Type} (l : List α) (p : α -> Bool) (k : Nat) (hk : k < l.length) : (l.drop k).all p = (p l[k] && (l.drop (k + 1)).all p) := by rw [List.drop_eq_getElem_cons hk, List.all_cons]
theorem any_drop {α : Type} (l : List α) (p : α -> Bool) (k : Nat) (hk : k < l.length) : (l.drop k).any p = (p l[k] || (l.drop (k + 1)).any p) := by rw [List.drop_eq_getElem_cons hk, List.any_cons]
theorem cover_any (w : World) (vb : Nat) (nv : Value) (vs args : List ByteArray) (neg : Bool) (pred : ByteArray) (va : Value) (hbox : Box w vb #[nv] 246) (hv : SIn lo w nv vs) {lo2 : Nat} (hs : SIn lo2 w va args) (hl : vs.length <= 1000) (hl2 : args.length <= 1000) :
  Calls Tryz.prog 149 #[.pointer (some ⟨vb, 0, none⟩), .agg #[.bool neg, .string pred, va]] w fun e w' => e = .returned (.bool (coverB vs args)) /\ Below w.heap.size w w' := by
 obtain ⟨ao, cap, rfl⟩ := hs.shape
 have hbA := (Below.refl w.heap.size w).alloc (Nat.le_refl _) (.cells #[.bool neg, .string pred, .slice ao args.length cap] 90)
 have hbox1 := hbox.below hbA
 have hv1 := hv.below hbA
 go_enter Tryz.func149, Tryz.ntmps149
 go_wp2
 go_loop [10] (fun i => ∃ k : Nat, k <= args.length /\ i = .int .i64 k /\ Hid (coverB vs args = (args.drop k).all fun t => !isVarB t || memB t vs)) (fun i => args.length - (intOf i).toNat)
 case atStart => exact ⟨0, Nat.zero_le _, rfl, rfl⟩
 case round =>
  obtain ⟨k, hk, rfl, H⟩ := hrel
  by_cases hlt : k < args.length
  · obtain ⟨g, rfl, hg, hck⟩ := hs.cell k hlt
   have hdr := all_drop args (fun t => !isVarB t || memB t vs) k hlt
   generalize args[k] = x at *
   have HD : Hid (coverB vs args = ((!isVarB x || memB x vs) && (args.drop (k + 1)).all fun t => !isVarB t || memB t vs)) := by rw [Hid, H.out, hdr]
   clear hdr H
   cases hT : isVarB x with
   | false =>
    have HR : Hid (coverB vs args = (args.drop (k + 1)).all fun t => !isVarB t || memB t vs) := by rw [Hid, HD.out, hT]; rfl
    clear HD
    go_wp2_with (first | (go_at_call 156; refine (isVariable_any _ _).mono ?_; rintro e w' ⟨rfl, rfl⟩))
    go_round
    case rel => exact ⟨k + 1, by omega, by go_num, HR⟩
    case measure => simp [intOf]; omega
   | true =>
    cases hM : memB x vs with
    | true =>
     have HR : Hid (coverB vs args = (args.drop (k + 1)).all fun t => !isVarB t || memB t vs) := by rw [Hid, HD.out, hM]; simp
     clear HD
     go_wp2_with (first | (go_at_call 156; refine (isVariable_any _ _).mono ?_; rintro e w' ⟨rfl, rfl⟩) | (go_at_call 183; refine (has_any _ vb _ vs x hbox1 hv1 hl).mono ?_; rintro e w' ⟨rfl, rfl⟩))
     go_round
     case rel => exact ⟨k + 1, by omega, by go_num, HR⟩
     case measure => simp [intOf]; omega
    | false =>
     have HR : Hid (coverB vs args = false) := by rw [Hid, HD.out, hM, hT]; rfl
     clear HD
     go_wp2_with (first | (go_at_call 156; refine (isVariable_any _ _).mono ?_; rintro e w' ⟨rfl, rfl⟩) | (go_at_call 183; refine (has_any _ vb _ vs x hbox1 hv1 hl).mono ?_; rintro e w' ⟨rfl, rfl⟩))
     go_ret
     exact ⟨by rw [HR.out]; rfl, hbA⟩
  · have HR : Hid (coverB vs args = true) := by rw [Hid, H.out, List.drop_eq_nil_of_le (by omega)]; rfl
   clear H
   go_wp2
   go_ret
   exact ⟨by rw [HR.out]; rfl, hbA⟩
def manyC (c : PClause) : Bool := decide (3 < c.head.args.length) || decide (6 < c.body.length) || c.body.any (fun l => decide (3 < l.args.length)) || decide (5 < (allVs c).length)
def safeC (c : PClause) : Bool := coverB (plainVs c) c.head.args && c.body.all fun l => !l.neg || coverB (plainVs c) l.args
theorem manyIn_any (w : World) (c : PClause) (va vb : Value) (hs : SIn lo w va c.head.args) (hb : LIn lo w vb c.body) (hl : c.head.args.length + sumArgs c.body <= 1000) (hl2 : c.body.length <= 1000) :
  Calls Tryz.prog 101 #[.agg #[.bool c.head.neg, .string c.head.pred, va, vb]] w fun e w' => e = .returned (.bool (manyC c)) /\ Below w.heap.size w w' := by
 have hall := fun W hW1 hW2 => all_any (lo := lo) W c va vb hW1 hW2 hl hl2
 obtain ⟨ao, cap, rfl⟩ := hs.shape
 obtain ⟨aob, capb, rfl⟩ := hb.shape
 have HALL : Hid (∀ W, SIn lo W (.slice ao c.head.args.length cap) c.head.args -> LIn lo W (.slice aob c.body.length capb) c.body -> Calls Tryz.prog 145 #[.agg #[.bool c.head.neg, .string c.head.pred, .slice ao c.head.args.length cap, .slice aob c.body.length capb]] W fun e w' => ∃ nv, e = .returned (.agg #[nv]) /\ w'.ownsRow W.heap.size 9 1 nv (allVs c).length ((allVs c).map Value.string) /\ Below W.heap.size W w') := hall
 clear hall
 by_cases h1 : 3 < c.head.args.length ∨ 6 < c.body.length
 · have HM : Hid (manyC c = true) := by unfold Hid manyC; rcases h1 with h1 | h1 <;> simp [h1]
  go_enter Tryz.func101, Tryz.ntmps101
  rcases h1 with h1 | h1
  · go_wp2
   go_ret
   exact ⟨by rw [HM.out]; rfl, (by repeat' (first | with_reducible (first | exact Below.refl _ _ | assumption | refine bdrewN ?_ _ | refine Below.alloc ?_ ?_ _ | refine Below.drew ?_ | refine Below.setCell ?_ ?_ _) | go_size))⟩
  · by_cases h3 : 3 < c.head.args.length
   all_goals
    go_wp2
    go_ret
    exact ⟨by rw [HM.out]; rfl, (by repeat' (first | with_reducible (first | exact Below.refl _ _ | assumption | refine bdrewN ?_ _ | refine Below.alloc ?_ ?_ _ | refine Below.drew ?_ | refine Below.setCell ?_ ?_ _) | go_size))⟩
 · have h3 : ¬ 3 < c.head.args.length := by omega
  have h6 : ¬ 6 < c.body.length := by omega
  have HM : Hid (manyC c = (c.body.any (fun l => decide (3 < l.args.length)) || decide (5 < (allVs c).length))) := by unfold Hid manyC; simp [h3, h6]
  clear h1
  go_enter Tryz.func101, Tryz.ntmps101
  go_wp2
  go_loopw [20] (fun i wr => ∃ k : Nat, k <= c.body.length /\ i = .int .i64 k /\ Below w.heap.size w wr /\ Box wr w.heap.size #[.bool c.head.neg, .string c.head.pred, .slice ao c.head.args.length cap, .slice aob c.body.length capb] 171 /\ Hid (manyC c = ((c.body.drop k).any (fun l => decide (3 < l.args.length)) || decide (5 < (allVs c).length)))) (fun i _ => c.body.length - (intOf i).toNat)
  case atStart => exact ⟨0, Nat.zero_le _, rfl, (by repeat' (first | with_reducible (first | exact Below.refl _ _ | assumption | refine bdrewN ?_ _ | refine Below.alloc ?_ ?_ _ | refine Below.drew ?_ | refine Below.setCell ?_ ?_ _) | go_size)), Box.new _ _ _, HM⟩
  case round =>
   obtain ⟨k, hk, rfl, hbk, hbx, H⟩ := hrel
   have hszk := hbk.size
   by_cases hlt : k < c.body.length
   · obtain ⟨g, ao2, cap2, rfl, hg, hc0, hc1, hc2, hsk⟩ := hb.cell k hlt
    have hd0 := (hbk.cell (p := ⟨g, k * 3, none⟩) hg).trans hc0
    have hd1 := (hbk.cell (p := ⟨g, k * 3 + 1, none⟩) hg).trans hc1
    have hd2 := (hbk.cell (p := ⟨g, k * 3 + 2, none⟩) hg).trans hc2
    have hgr : g < wr.heap.size := by omega
    have hdr := any_drop c.body (fun l => decide (3 < l.args.length)) k hlt
    clear hc0 hc1 hc2 hsk
    generalize c.body[k] = a at *
    have HD : Hid (manyC c = (decide (3 < a.args.length) || (c.body.drop (k + 1)).any (fun l => decide (3 < l.args.length)) || decide (5 < (allVs c).length))) := by rw [Hid, H.out, hdr]
    clear hdr H HM
    by_cases h4 : 3 < a.args.length
    · have HR : Hid (manyC c = true) := by rw [Hid, HD.out]; simp [h4]
     clear HD
     go_wp2
     go_ret
     exact ⟨by rw [HR.out]; rfl, (by repeat' (first | with_reducible (first | exact Below.refl _ _ | assumption | refine bdrewN ?_ _ | refine Below.alloc ?_ ?_ _ | refine Below.drew ?_ | refine Below.setCell ?_ ?_ _) | go_size))⟩
    · have HR : Hid (manyC c = ((c.body.drop (k + 1)).any (fun l => decide (3 < l.args.length)) || decide (5 < (allVs c).length))) := by rw [Hid, HD.out]; simp [h4]
     clear HD
     go_wp2
     go_roundw
     case rel => exact ⟨k + 1, by omega, by go_num, (by repeat' (first | with_reducible (first | exact Below.refl _ _ | assumption | refine bdrewN ?_ _ | refine Below.alloc ?_ ?_ _ | refine Below.drew ?_ | refine Below.setCell ?_ ?_ _) | go_size)), hbx.below (by repeat' (first | with_reducible (first | exact Below.refl _ _ | assumption | refine bdrewN ?_ _ | refine Below.alloc ?_ ?_ _ | refine Below.drew ?_ | refine Below.setCell ?_ ?_ _) | go_size)), HR⟩
     case measure => simp [intOf]; omega
   · have HR : Hid (manyC c = decide (5 < (allVs c).length)) := by rw [Hid, H.out, List.drop_eq_nil_of_le (by omega)]; simp
    have hsr := hs.below hbk
    have hbr := hb.below hbk
    obtain ⟨hc, hf⟩ := hbx.rules
    have hblt := hbx.lt
    clear H HM
    go_wp2_with (first | (go_at_call 145; refine (HALL.out _ hsr hbr).mono ?_; rintro e w1 ⟨nv, rfl, hown, hb1⟩; obtain ⟨ao3, cap3, rfl⟩ := own_view hown; have hB1 := bnext hbk hb1 (Nat.le_refl _); have hz1 := hB1.size) | (go_at_call 146; refine (count_any _ _ _ (allVs c) (by exact Box.new _ _ _) (by exact owns_below hown (by repeat' (first | with_reducible (first | exact Below.refl _ _ | assumption | refine bdrewN ?_ _ | refine Below.alloc ?_ ?_ _ | refine Below.drew ?_ | refine Below.setCell ?_ ?_ _) | go_size)))).mono ?_; rintro e w2 ⟨rfl, rfl⟩))
    go_ret
    exact ⟨by rw [HR.out]; simp; omega, (by repeat' (first | with_reducible (first | exact Below.refl _ _ | assumption | refine bdrewN ?_ _ | refine Below.alloc ?_ ?_ _ | refine Below.drew ?_ | refine Below.setCell ?_ ?_ _) | go_size))⟩
theorem safeIn_any (w : World) (c : PClause) (va vb : Value) (hs : SIn lo w va c.head.args) (hb : LIn lo w vb c.body) (hl : c.head.args.length + sumArgs c.body <= 1000) (hl2 : c.body.length <= 1000) :
  Calls Tryz.prog 103 #[.agg #[.bool c.head.neg, .string c.head.pred, va, vb]] w fun e w' => e = .returned (.bool (safeC c)) /\ Below w.heap.size w w' := by
 have hall := fun W hW1 hW2 => plain_any (lo := lo) W c va vb hW1 hW2 hl hl2
 obtain ⟨ao, cap, rfl⟩ := hs.shape
 obtain ⟨aob, capb, rfl⟩ := hb.shape
 have HALL : Hid (∀ W, SIn lo W (.slice ao c.head.args.length cap) c.head.args -> LIn lo W (.slice aob c.body.length capb) c.body -> Calls Tryz.prog 148 #[.agg #[.bool c.head.neg, .string c.head.pred, .slice ao c.head.args.length cap, .slice aob c.body.length capb]] W fun e w' => ∃ nv, e = .returned (.agg #[nv]) /\ w'.ownsRow W.heap.size 9 1 nv (plainVs c).length ((plainVs c).map Value.string) /\ Below W.heap.size W w') := hall
 clear hall
 have hpl : (plainVs c).length <= 1000 := by have := plainV_len c.body []; unfold plainVs; simp at this; omega
 have hargs : ∀ k (hk : k < c.body.length), c.body[k].args.length <= 1000 := fun k hk => by
  have := sumArgs_take c.body k hk; rw [List.getElem?_eq_getElem hk] at this; simp at this; omega
 have HARGS : Hid (∀ k (hk : k < c.body.length), c.body[k].args.length <= 1000) := hargs
 clear hargs
 cases hH : coverB (plainVs c) c.head.args with
 | false =>
  have HM : Hid (safeC c = false) := by unfold Hid safeC; simp [hH]
  go_enter Tryz.func103, Tryz.ntmps103
  go_wp2_with (first | (go_at_call 148; refine (HALL.out _ (by exact hs.below (by repeat' (first | with_reducible (first | exact Below.refl _ _ | assumption | refine bdrewN ?_ _ | refine Below.alloc ?_ ?_ _ | refine Below.drew ?_ | refine Below.setCell ?_ ?_ _) | go_size))) (by exact hb.below (by repeat' (first | with_reducible (first | exact Below.refl _ _ | assumption | refine bdrewN ?_ _ | refine Below.alloc ?_ ?_ _ | refine Below.drew ?_ | refine Below.setCell ?_ ?_ _) | go_size)))).mono ?_; rintro e w1 ⟨nv, rfl, hown, hb1⟩; obtain ⟨ao3, cap3, rfl⟩ := own_view hown; have hB1 := bnext ((Below.refl _ _).alloc (Nat.le_refl _) _) hb1 (Nat.le_refl _); have hz1 := hB1.size; have hbx1 := (Box.new w _ _).below hb1; obtain ⟨hc1, hf1⟩ := hbx1.rules; have hblt := hbx1.lt) | (go_at_call 149; refine (cover_any _ _ _ (plainVs c) c.head.args _ _ _ (by exact Box.new _ _ _) (by exact owns_below hown (by repeat' (first | with_reducible (first | exact Below.refl _ _ | assumption | refine bdrewN ?_ _ | refine Below.alloc ?_ ?_ _ | refine Below.drew ?_ | refine Below.setCell ?_ ?_ _) | go_size))) (by exact (hs.below hB1).below (by repeat' (first | with_reducible (first | exact Below.refl _ _ | assumption | refine bdrewN ?_ _ | refine Below.alloc ?_ ?_ _ | refine Below.drew ?_ | refine Below.setCell ?_ ?_ _) | go_size))) hpl (by omega)).mono ?_; rintro e w2 ⟨rfl, hb2⟩; have hB2 := bnext (hB1.alloc hz1 _) hb2 (Nat.le_refl _)))
  go_ret
  exact ⟨by rw [HM.out]; rfl, hB2⟩
 | true =>
  have HM : Hid (safeC c = c.body.all fun l => !l.neg || coverB (plainVs c) l.args) := by unfold Hid safeC; simp [hH]
  go_enter Tryz.func103, Tryz.ntmps103
  go_wp2_with (first | (go_at_call 148; refine (HALL.out _ (by exact hs.below (by repeat' (first | with_reducible (first | exact Below.refl _ _ | assumption | refine bdrewN ?_ _ | refine Below.alloc ?_ ?_ _ | refine Below.drew ?_ | refine Below.setCell ?_ ?_ _) | go_size))) (by exact hb.below (by repeat' (first | with_reducible (first | exact Below.refl _ _ | assumption | refine bdrewN ?_ _ | refine Below.alloc ?_ ?_ _ | refine Below.drew ?_ | refine Below.setCell ?_ ?_ _) | go_size)))).mono ?_; rintro e w1 ⟨nv, rfl, hown, hb1⟩; obtain ⟨ao3, cap3, rfl⟩ := own_view hown; have hB1 := bnext ((Below.refl _ _).alloc (Nat.le_refl _) _) hb1 (Nat.le_refl _); have hz1 := hB1.size; have hbx1 := (Box.new w _ _).below hb1; obtain ⟨hc1, hf1⟩ := hbx1.rules; have hblt := hbx1.lt) | (go_at_call 149; refine (cover_any _ _ _ (plainVs c) c.head.args _ _ _ (by exact Box.new _ _ _) (by exact owns_below hown (by repeat' (first | with_reducible (first | exact Below.refl _ _ | assumption | refine bdrewN ?_ _ | refine Below.alloc ?_ ?_ _ | refine Below.drew ?_ | refine Below.setCell ?_ ?_ _) | go_size))) (by exact (hs.below hB1).below (by repeat' (first | with_reducible (first | exact Below.refl _ _ | assumption | refine bdrewN ?_ _ | refine Below.alloc ?_ ?_ _ | refine Below.drew ?_ | refine Below.setCell ?_ ?_ _) | go_size))) hpl (by omega)).mono ?_; rintro e w2 ⟨rfl, hb2⟩; have hB2 := bnext (hB1.alloc hz1 _) hb2 (Nat.le_refl _); have hz2 := hb2.size; simp only [World.size_alloc] at hz2; have hbx2 := (hbx1.below ((Below.refl _ _).alloc (Nat.le_refl _) _)).below hb2; obtain ⟨hc2, hf2⟩ := hbx2.rules; have hblt2 := hbx2.lt; have hvb2 := (Box.new w1 _ _).below hb2; have hown2 := owns_below (owns_below hown ((Below.refl _ _).alloc (Nat.le_refl _) _)) hb2))
  go_loopw [15] (fun i wr => ∃ k : Nat, k <= c.body.length /\ i = .int .i64 k /\ Below w.heap.size w wr /\ Box wr w1.heap.size #[.slice ao3 (plainVs c).length cap3] 246 /\ SIn 0 wr (.slice ao3 (plainVs c).length cap3) (plainVs c) /\ Hid (safeC c = (c.body.drop k).all fun l => !l.neg || coverB (plainVs c) l.args)) (fun i _ => c.body.length - (intOf i).toNat)
  case atStart => exact ⟨0, Nat.zero_le _, rfl, hB2, hvb2, own_low hown2 (Nat.zero_le _), HM⟩
  case round =>
   obtain ⟨k, hk, rfl, hbk, hbx, hsv, H⟩ := hrel
   have hszk := hbk.size
   by_cases hlt : k < c.body.length
   · obtain ⟨g, ao2, cap2, rfl, hg, hc0, hc1', hc2', hsk⟩ := hb.cell k hlt
    have hd0 := (hbk.cell (p := ⟨g, k * 3, none⟩) hg).trans hc0
    have hd1 := (hbk.cell (p := ⟨g, k * 3 + 1, none⟩) hg).trans hc1'
    have hd2 := (hbk.cell (p := ⟨g, k * 3 + 2, none⟩) hg).trans hc2'
    have hgr : g < wr.heap.size := by omega
    have hdr := all_drop c.body (fun l => !l.neg || coverB (plainVs c) l.args) k hlt
    have hskr := hsk.below hbk
    have hal := HARGS.out k hlt
    clear hc0 hc1' hc2' hsk
    generalize c.body[k] = a at *
    have HD : Hid (safeC c = ((!a.neg || coverB (plainVs c) a.args) && (c.body.drop (k + 1)).all fun l => !l.neg || coverB (plainVs c) l.args)) := by rw [Hid, H.out, hdr]
    clear hdr H HM
    cases hN : a.neg with
    | false =>
     have HR : Hid (safeC c = (c.body.drop (k + 1)).all fun l => !l.neg || coverB (plainVs c) l.args) := by rw [Hid, HD.out, hN]; rfl
     rw [hN] at hd0
     clear HD hN
     go_wp2
     go_roundw
     case rel => exact ⟨k + 1, by omega, by go_num, (by repeat' (first | with_reducible (first | exact Below.refl _ _ | assumption | refine bdrewN ?_ _ | refine Below.alloc ?_ ?_ _ | refine Below.drew ?_ | refine Below.setCell ?_ ?_ _) | go_size)), hbx.below (by repeat' (first | with_reducible (first | exact Below.refl _ _ | assumption | refine bdrewN ?_ _ | refine Below.alloc ?_ ?_ _ | refine Below.drew ?_ | refine Below.setCell ?_ ?_ _) | go_size)), hsv.below (by repeat' (first | with_reducible (first | exact Below.refl _ _ | assumption | refine bdrewN ?_ _ | refine Below.alloc ?_ ?_ _ | refine Below.drew ?_ | refine Below.setCell ?_ ?_ _) | go_size)), HR⟩
     case measure => simp [intOf]; omega
    | true =>
     rw [hN] at hd0
     cases hC : coverB (plainVs c) a.args with
     | true =>
      have HR : Hid (safeC c = (c.body.drop (k + 1)).all fun l => !l.neg || coverB (plainVs c) l.args) := by rw [Hid, HD.out, hC]; simp
      clear HD hN
      go_wp2_with (first | (go_at_call 149; refine (cover_any _ _ _ (plainVs c) a.args _ _ _ (by exact hbx.below (by repeat' (first | with_reducible (first | exact Below.refl _ _ | assumption | refine bdrewN ?_ _ | refine Below.alloc ?_ ?_ _ | refine Below.drew ?_ | refine Below.setCell ?_ ?_ _) | go_size))) (by exact hsv.below (by repeat' (first | with_reducible (first | exact Below.refl _ _ | assumption | refine bdrewN ?_ _ | refine Below.alloc ?_ ?_ _ | refine Below.drew ?_ | refine Below.setCell ?_ ?_ _) | go_size))) (by exact hskr.below (by repeat' (first | with_reducible (first | exact Below.refl _ _ | assumption | refine bdrewN ?_ _ | refine Below.alloc ?_ ?_ _ | refine Below.drew ?_ | refine Below.setCell ?_ ?_ _) | go_size))) hpl hal).mono ?_; rintro e w3 ⟨rfl, hb3⟩; have hB3 := bnext ((Below.refl wr.heap.size wr).alloc (Nat.le_refl _) _) hb3 (Nat.le_refl _)))
      go_roundw
      case rel => exact ⟨k + 1, by omega, by go_num, bnext hbk hB3 (Nat.le_refl _), hbx.below hB3, hsv.below hB3, HR⟩
      case measure => simp [intOf]; omega
     | false =>
      have HR : Hid (safeC c = false) := by rw [Hid, HD.out, hC, hN]; rfl
      clear HD hN
      go_wp2_with (first | (go_at_call 149; refine (cover_any _ _ _ (plainVs c) a.args _ _ _ (by exact hbx.below (by repeat' (first | with_reducible (first | exact Below.refl _ _ | assumption | refine bdrewN ?_ _ | refine Below.alloc ?_ ?_ _ | refine Below.drew ?_ | refine Below.setCell ?_ ?_ _) | go_size))) (by exact hsv.below (by repeat' (first | with_reducible (first | exact Below.refl _ _ | assumption | refine bdrewN ?_ _ | refine Below.alloc ?_ ?_ _ | refine Below.drew ?_ | refine Below.setCell ?_ ?_ _) | go_size))) (by exact hskr.below (by repeat' (first | with_reducible (first | exact Below.refl _ _ | assumption | refine bdrewN ?_ _ | refine Below.alloc ?_ ?_ _ | refine Below.drew ?_ | refine Below.setCell ?_ ?_ _) | go_size))) hpl hal).mono ?_; rintro e w3 ⟨rfl, hb3⟩; have hB3 := bnext ((Below.refl wr.heap.size wr).alloc (Nat.le_refl _) _) hb3 (Nat.le_refl _)))
      go_ret
      exact ⟨by rw [HR.out]; rfl, bnext hbk hB3 (Nat.le_refl _)⟩
   · have HR : Hid (safeC c = true) := by rw [Hid, H.out, List.drop_eq_nil_of_le (by omega)]; rfl
    clear H HM
    go_wp2
    go_ret
    exact ⟨by rw [HR.out]; rfl, hbk⟩
end Go.Proofs.YteampbddflhngaaGreat
