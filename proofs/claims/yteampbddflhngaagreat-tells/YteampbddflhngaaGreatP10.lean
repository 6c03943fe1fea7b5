import Derived.Test.YteampbddflhngaaGreatP09
import Derived.Test.YteampbddflhngaaGreatP04
import Derived.Laws.AppendOwnNone

/- Walks: deriveref.Clause.all, deriveref.has, deriveref.Program.place. -/
namespace Go.Proofs.YteampbddflhngaaGreat
open Go.RowKit
variable {lo : Nat}

set_option maxRecDepth 100000 in
set_option maxHeartbeats 2000000 in
theorem rhas_any (w : World) (v : Value) (vs : List ByteArray) (t : ByteArray) (hs : SIn lo w v vs) (hl : vs.length ≤ 1000) :
    Calls Tryz.prog 109 #[v, .string t] w fun e w' => e = .returned (.bool (memB t vs)) ∧ w' = w := by
  obtain ⟨ao, cap, rfl⟩ := hs.shape
  go_enter Tryz.func109, Tryz.ntmps109
  go_wp2
  go_loop [5] (fun i => ∃ k : Nat, k ≤ vs.length ∧ i = .int .i64 k ∧ Hid (t ∈ vs ↔ t ∈ vs.drop k)) (fun i => vs.length - (intOf i).toNat)
  case atStart => exact ⟨0, Nat.zero_le _, rfl, by simp [Hid]⟩
  case round =>
    obtain ⟨k, hk, rfl, H⟩ := hrel
    by_cases hlt : k < vs.length
    · obtain ⟨g, rfl, hg, hck⟩ := hs.cell k hlt
      have hdr := List.drop_eq_getElem_cons hlt
      generalize vs[k] = x at *
      have HD : Hid (vs.drop k = x :: vs.drop (k + 1)) := hdr
      clear hdr
      by_cases hx : x = t
      · have he := seq_true hx
        have H2 : Hid (t ∈ vs) := by rw [Hid, H.out, HD.out, hx]; simp
        clear hx
        go_wp2
        go_ret
        exact ⟨by rw [memB_iff.2 H2.out]; rfl, rfl⟩
      · have he := seq_false hx
        have H2 : Hid (t ∈ vs ↔ t ∈ vs.drop (k + 1)) := by rw [Hid, H.out, HD.out]; simp [Ne.symm hx]
        clear hx
        go_wp2
        go_round
        case rel => exact ⟨k + 1, by omega, by go_num, H2⟩
        case measure => simp [intOf]; omega
    · have H2 : Hid (t ∉ vs) := by rw [Hid, H.out, List.drop_eq_nil_of_le (by omega)]; simp
      clear H
      go_wp2
      go_ret
      exact ⟨by rw [memB_no.2 H2.out]; rfl, rfl⟩

theorem LitCells.one {w : World} : ∀ {ls : List PLit} {xs : List Value}, LitCells lo w ls xs → ∀ u ∈ xs, u.oneCell' = true
  | [], _, h, u, hu => by simp only [LitCells] at h; subst h; cases hu
  | _ :: ls, _, h, u, hu => by
    obtain ⟨v, r, rfl, h1, h2⟩ := h
    obtain ⟨ao, cap, rfl⟩ := h1.shape
    simp only [List.mem_cons] at hu
    rcases hu with rfl | rfl | rfl | hu
    · rfl
    · rfl
    · rfl
    · exact LitCells.one h2 u hu
/-- A pointer to a clause: its four cells, and what they lead to. -/
structure ClAt (w : World) (g o : Nat) (c : PClause) (ao : Option Addr) (cap : Nat) (aob : Option Addr) (capb : Nat) : Prop where
  lt : g < w.heap.size
  c0 : w.cell? ⟨g, o, none⟩ = some (.bool c.head.neg)
  c1 : w.cell? ⟨g, o + 1, none⟩ = some (.string c.head.pred)
  c2 : w.cell? ⟨g, o + 2, none⟩ = some (.slice ao c.head.args.length cap)
  c3 : w.cell? ⟨g, o + 3, none⟩ = some (.slice aob c.body.length capb)
  args : SIn 0 w (.slice ao c.head.args.length cap) c.head.args
  body : LIn 0 w (.slice aob c.body.length capb) c.body
theorem ClAt.below {w w' : World} {g o : Nat} {c : PClause} {ao : Option Addr} {cap : Nat} {aob : Option Addr} {capb : Nat} (h : ClAt w g o c ao cap aob capb) (hb : Below w.heap.size w w') : ClAt w' g o c ao cap aob capb :=
  ⟨Nat.lt_of_lt_of_le h.lt hb.size, (hb.cell (p := ⟨g, o, none⟩) h.lt).trans h.c0, (hb.cell (p := ⟨g, o + 1, none⟩) h.lt).trans h.c1, (hb.cell (p := ⟨g, o + 2, none⟩) h.lt).trans h.c2, (hb.cell (p := ⟨g, o + 3, none⟩) h.lt).trans h.c3, h.args.below hb, h.body.below hb⟩
theorem CIn.at {T : TypeId} {w : World} {ao : Option Addr} {n cap : Nat} {cs : List PClause} (h : CIn lo T w (.slice ao n cap) cs) (k : Nat) (hk : k < cs.length) : ∃ g ao2 cap2 ao3 cap3, ao = some ⟨g, 0, none⟩ ∧ ClAt w g (k * 4) cs[k] ao2 cap2 ao3 cap3 := by
  obtain ⟨g, ao2, cap2, ao3, cap3, h1, h2, h3, h4, h5, h6, h7, h8⟩ := h.cell k hk
  exact ⟨g, ao2, cap2, ao3, cap3, h1, h2, h3, h4, h5, h6, h7.low (Nat.zero_le _), h8.low (Nat.zero_le _)⟩

set_option maxRecDepth 100000 in
set_option maxHeartbeats 2000000 in
theorem rall_any (w : World) (g o : Nat) (c : PClause) (ao : Option Addr) (cap : Nat) (aob : Option Addr) (capb : Nat) (h : ClAt w g o c ao cap aob capb) (hl : c.body.length ≤ 1000) :
    Calls Tryz.prog 68 #[.pointer (some ⟨g, o, none⟩)] w fun e w' => ∃ v, e = .returned v ∧ LIn 0 w' v (litsOf c) ∧ Below w.heap.size w w' := by
  obtain ⟨i0, hi, hz0, hzs, hzb⟩ := info_parts Tryz.infoLit
  have hlt := h.lt
  have h0 := h.c0
  have h1 := h.c1
  have h2 := h.c2
  have h3 := h.c3
  obtain ⟨xs, hob, hlc⟩ := h.body
  have hb1 := (Below.refl w.heap.size w).alloc (Nat.le_refl _) (.cells #[.bool c.head.neg, .string c.head.pred, .slice ao c.head.args.length cap] 90)
  have hown : (w.alloc (.cells #[.bool c.head.neg, .string c.head.pred, .slice ao c.head.args.length cap] 90)).ownsRow w.heap.size 90 3 (.slice (some ⟨w.heap.size, 0, none⟩) 1 1) 1 [.bool c.head.neg, .string c.head.pred, .slice ao c.head.args.length cap] :=
    ⟨rfl, Or.inr ⟨w.heap.size, 1, _, rfl, Nat.le_refl _, Box.new w _ _, Nat.le_refl _, by unfold maxLen; omega, rfl, rfl⟩⟩
  have hxl := hob.1
  have hxc : ∀ u ∈ xs, u.oneCell' = true := LitCells.one hlc
  have hhead : ∀ w', Below w.heap.size w w' → LitCells 0 w' (litsOf c) ([.bool c.head.neg, .string c.head.pred, .slice ao c.head.args.length cap] ++ xs) := fun w' hb => ⟨_, _, rfl, h.args.below hb, hlc.mono fun _ _ q => q.below hb⟩
  have HHEAD : Hid (∀ w', Below w.heap.size w w' → LitCells 0 w' (litsOf c) ([.bool c.head.neg, .string c.head.pred, .slice ao c.head.args.length cap] ++ xs)) := hhead
  clear hhead
  have hob2 := hob
  obtain ⟨_, ⟨hv, hn⟩ | ⟨g', cap', cur, hv, hg', hh, hc1, hc2, hc3, hx⟩⟩ := hob2
  · simp at hv
    obtain ⟨rfl, hbl, rfl⟩ := hv
    rw [hbl] at h3 hxl
    have hxs : xs = [] := List.eq_nil_of_length_eq_zero (by omega)
    go_enter Tryz.func68, Tryz.ntmps68
    go_wp2_with (first | (at_builtin; refine wpList_append_own_none rfl (.tmp 9) (.tmp 13) 91 rfl w.heap.size 90 i0 3 Tryz.underlying91 hi _ _ _ rfl hown rfl ?_))
    go_ret
    refine ⟨_, rfl, ⟨_, ?_, HHEAD.out _ hb1⟩, hb1⟩
    rw [hxs, List.append_nil]
    simpa [litsOf, hbl] using own_low hown (Nat.zero_le _)
  · simp at hv
    obtain ⟨rfl, _, rfl⟩ := hv
    have hcl : ∀ j u, xs[j]? = some u → (w.alloc (.cells #[.bool c.head.neg, .string c.head.pred, .slice ao c.head.args.length cap] 90)).cell? (Addr.add ⟨g', 0, none⟩ j) = some u := fun j u hj => by
      rw [Addr.add_lit, Nat.zero_add, hb1.cell (p := ⟨g', j, none⟩) (Array.getElem?_eq_some_iff.1 hh).1]
      unfold World.cell?
      rw [hh]
      simp
      rw [← hx, List.getElem?_take] at hj
      split at hj
      · simpa using hj
      · simp at hj
    have HCL : Hid (∀ j u, xs[j]? = some u → (w.alloc (.cells #[.bool c.head.neg, .string c.head.pred, .slice ao c.head.args.length cap] 90)).cell? (Addr.add ⟨g', 0, none⟩ j) = some u) := hcl
    have HXC : Hid (∀ u ∈ xs, u.oneCell' = true) := hxc
    clear hcl hxc hh hx
    go_enter Tryz.func68, Tryz.ntmps68
    go_wp2_with (first | (at_builtin; refine wpList_append_own _ rfl (.tmp 9) (.tmp 13) 91 rfl w.heap.size 90 i0 _ 3 48 Tryz.underlying91 hi hz0 hzs hzb rfl (by decide) _ _ _ rfl hown ⟨g', 0, none⟩ c.body.length capb xs rfl hxl HCL.out HXC.out (by unfold maxLen; omega) (by omega) (by simp) ?_; intro v' w2 ho2 hgr _))
    go_ret
    have hB : Below w.heap.size w w2 := hb1.grown hgr (by simp) (fun k hk => by cases hk; exact Nat.le_refl _)
    refine ⟨_, rfl, ⟨_, ?_, HHEAD.out _ hB⟩, hB⟩
    rw [show (litsOf c).length = 1 + c.body.length by simp [litsOf]; omega]
    exact own_low ho2 (Nat.zero_le _)
end Go.Proofs.YteampbddflhngaaGreat

/- Walks: deriveref.Clause.Vars. -/
namespace Go.Proofs.YteampbddflhngaaGreat
open Go.RowKit
variable {lo : Nat}

def refVL (plain : Bool) (first : Bool) (vs : List ByteArray) (l : PLit) : List ByteArray := if plain && (first || l.neg) then vs else addVs vs l.args
/-- The variables of the first k literals. -/
def refV (plain : Bool) (ls : List PLit) : Nat → List ByteArray
  | 0 => []
  | k + 1 => match ls[k]? with
    | none => refV plain ls k
    | some l => refVL plain (k == 0) (refV plain ls k) l
theorem refV_succ (plain : Bool) (ls : List PLit) (k : Nat) (hk : k < ls.length) : refV plain ls (k + 1) = refVL plain (k == 0) (refV plain ls k) ls[k] := by
  rw [refV, List.getElem?_eq_getElem hk]
theorem refVL_len (plain first : Bool) (vs : List ByteArray) (l : PLit) : (refVL plain first vs l).length ≤ vs.length + l.args.length := by
  unfold refVL; split
  · omega
  · exact addVs_len l.args vs
theorem refV_len (plain : Bool) (ls : List PLit) : ∀ k, k ≤ ls.length → (refV plain ls k).length ≤ sumArgs (ls.take k)
  | 0, _ => by simp [refV]
  | k + 1, hk => by
    rw [refV_succ plain ls k (by omega), List.take_succ_eq_append_getElem (by omega), sumArgs_snoc]
    have h1 := refV_len plain ls k (by omega)
    have h2 := refVL_len plain (k == 0) (refV plain ls k) ls[k]
    omega
theorem sumArgs_take_le (ls : List PLit) (k : Nat) : sumArgs (ls.take k) ≤ sumArgs ls := by
  induction ls generalizing k with
  | nil => simp [sumArgs]
  | cons a ls ih =>
    cases k with
    | zero => simp [sumArgs]
    | succ k => have := ih k; simp [sumArgs] at this ⊢; omega
theorem refV_all (c : PClause) : refV false (litsOf c) (litsOf c).length = allVs c := by
  have key : ∀ k, k ≤ c.body.length → refV false (litsOf c) (k + 1) = (c.body.take k).foldl litVs (addVs [] c.head.args) := by
    intro k
    induction k with
    | zero => intro _; rfl
    | succ k ih =>
      intro hk
      rw [refV_succ _ _ _ (by simp [litsOf]; omega), ih (by omega), List.take_succ_eq_append_getElem (by omega), List.foldl_append]
      rfl
  have := key c.body.length (Nat.le_refl _)
  rw [List.take_length] at this
  exact this
theorem refV_plain (c : PClause) : refV true (litsOf c) (litsOf c).length = plainVs c := by
  have key : ∀ k, k ≤ c.body.length → refV true (litsOf c) (k + 1) = (c.body.take k).foldl plainV [] := by
    intro k
    induction k with
    | zero => intro _; rfl
    | succ k ih =>
      intro hk
      rw [refV_succ _ _ _ (by simp [litsOf]; omega), ih (by omega), List.take_succ_eq_append_getElem (by omega), List.foldl_append]
      simp only [List.foldl_cons, List.foldl_nil, refVL, plainV, litsOf, List.getElem_cons_succ]
      simp
  have := key c.body.length (Nat.le_refl _)
  rw [List.take_length] at this
  exact this

set_option maxRecDepth 100000 in
set_option maxHeartbeats 2000000 in
theorem rvars_any (w : World) (plain : Bool) (g o : Nat) (c : PClause) (ao : Option Addr) (cap : Nat) (aob : Option Addr) (capb : Nat) (h : ClAt w g o c ao cap aob capb) (hl : c.body.length ≤ 999) (hsum : sumArgs (litsOf c) ≤ 1000) (hz : ∀ l ∈ litsOf c, ∀ t ∈ l.args, 0 < t.size) :
    Calls Tryz.prog 108 #[.pointer (some ⟨g, o, none⟩), .bool plain] w fun e w' => ∃ v, e = .returned v ∧ SIn w.heap.size w' v (refV plain (litsOf c) (litsOf c).length) ∧ Below w.heap.size w w' := by
  obtain ⟨i0, hi, hz0, hzs, hzb⟩ := info_parts Tryz.infoString
  have hll : (litsOf c).length ≤ 1000 := by simp [litsOf]; omega
  have HZ : Hid (∀ l ∈ litsOf c, ∀ t ∈ l.args, 0 < t.size) := hz
  have hra := rall_any w g o c ao cap aob capb h (by omega)
  clear hz
  generalize litsOf c = ls at *
  go_enter Tryz.func108, Tryz.ntmps108
  go_wp2_with (first | (go_at_call 68; refine hra.mono ?_; rintro e w1 ⟨lv, rfl, hlin, hb1⟩; obtain ⟨aol, capl, rfl⟩ := hlin.shape; clear hra))
  go_loopw [5, 7] (fun v5 v7 wr => ∃ k : Nat, k ≤ ls.length ∧ v7 = .int .i64 k ∧ Below w1.heap.size w1 wr ∧ wr.ownsRow w1.heap.size 9 1 v5 (refV plain ls k).length ((refV plain ls k).map Value.string)) (fun _ i _ => ls.length - (intOf i).toNat)
  case atStart => exact ⟨0, Nat.zero_le _, rfl, Below.refl _ _, World.ownsRow_nil _ _ _ _⟩
  case round =>
    obtain ⟨k, hk, rfl, hbk, hown⟩ := hrel
    have hszk := hbk.size
    by_cases hlt : k < ls.length
    · obtain ⟨gl, ao2, cap2, rfl, hgl, hc0, hc1, hc2, hsk⟩ := hlin.cell k hlt
      have hd0 := (hbk.cell (p := ⟨gl, k * 3, none⟩) hgl).trans hc0
      have hd2 := (hbk.cell (p := ⟨gl, k * 3 + 2, none⟩) hgl).trans hc2
      have hgr : gl < wr.heap.size := by omega
      have hsn := refV_succ plain ls k hlt
      have hvl := refV_len plain ls k (by omega)
      have hst := sumArgs_take ls k hlt
      rw [List.getElem?_eq_getElem hlt] at hst
      simp only [Option.map_some, Option.getD_some] at hst
      have HZ2 : Hid (∀ t ∈ ls[k].args, 0 < t.size) := HZ.out _ (List.getElem_mem hlt)
      generalize ls[k] = a at *
      generalize hvk : refV plain ls k = vs at *
      have HS : Hid (refV plain ls (k + 1) = refVL plain (k == 0) vs a) := hsn
      clear hsn hvk hc0 hc1
      by_cases hskip : (plain && ((k == 0) || a.neg)) = true
      · have HR : Hid (refV plain ls (k + 1) = vs) := by rw [Hid, HS.out, refVL, hskip]; rfl
        simp only [Bool.and_eq_true, Bool.or_eq_true, beq_iff_eq] at hskip
        obtain ⟨rfl, hskip⟩ := hskip
        clear HS hc2
        by_cases hk0 : k = 0
        · subst hk0
          go_wp2
          go_roundw
          case rel => exact ⟨0 + 1, by omega, by go_num, hbk, by rw [HR.out]; exact hown⟩
          case measure => simp [intOf]; omega
        · have hkb : ((k : Int) == 0) = false := by rw [beq_eq_false_iff_ne]; omega
          have hneg : a.neg = true := by rcases hskip with h | h
                                         · exact absurd h hk0
                                         · exact h
          rw [hneg] at hd0
          go_wp2
          go_roundw
          case rel => exact ⟨k + 1, by omega, by go_num, hbk, by rw [HR.out]; exact hown⟩
          case measure => simp [intOf]; omega
      · have HR : Hid (refV plain ls (k + 1) = addVs vs a.args) := by rw [Hid, HS.out, refVL, if_neg hskip]
        clear HS
        have hway : plain = false ∨ (plain = true ∧ ((k : Int) == 0) = false ∧ a.neg = false) := by
          cases plain with
          | false => exact Or.inl rfl
          | true =>
            right
            simp only [Bool.true_and, Bool.or_eq_true, beq_iff_eq, not_or, Bool.not_eq_true] at hskip
            exact ⟨rfl, by rw [beq_eq_false_iff_ne]; omega, hskip.2⟩
        clear hskip
        rcases hway with rfl | ⟨rfl, hkb, hneg⟩
        all_goals
          (try rw [hneg] at hd0)
          go_wp2
          go_loopw [5, 8] (fun v5 v8 wj => ∃ j : Nat, j ≤ a.args.length ∧ v8 = .int .i64 j ∧ Below w1.heap.size w1 wj ∧ wj.ownsRow w1.heap.size 9 1 v5 (addVs vs (a.args.take j)).length ((addVs vs (a.args.take j)).map Value.string)) (fun _ i _ => a.args.length - (intOf i).toNat)
          case atStart => exact ⟨0, Nat.zero_le _, rfl, hbk, hown⟩
          case round =>
            clear hd0 hd2 hown hbk hszk hgr
            obtain ⟨j, hj, rfl, hbj, hown⟩ := hrel
            have hszj := hbj.size
            have hd2 := (hbj.cell (p := ⟨gl, k * 3 + 2, none⟩) hgl).trans hc2
            have hgj : gl < wr.heap.size := by omega
            by_cases hjl : j < a.args.length
            · obtain ⟨ga, rfl, hga, hca⟩ := hsk.cell j hjl
              have hxa := (hbj.cell (p := ⟨ga, j, none⟩) hga).trans hca
              have hgaj : ga < wr.heap.size := by omega
              have hzt := HZ2.out _ (List.getElem_mem hjl)
              have hsn := addVs_snoc vs a.args j hjl
              have hal := addVs_len (a.args.take j) vs
              have htk : (a.args.take j).length = j := by simp; omega
              rw [htk] at hal
              clear hca htk
              generalize a.args[j] = x1 at *
              generalize addVs vs (a.args.take j) = vk at *
              have HSN : Hid (addVs vs (a.args.take (j + 1)) = addV vk x1) := hsn
              clear hsn
              have hiv : isVarB x1 = bCap (bAt x1 0) := rfl
              cases hT : bCap (bAt x1 0) with
              | false =>
                have HR2 : Hid (addVs vs (a.args.take (j + 1)) = vk) := by rw [Hid, HSN.out, addV_not (by rw [hiv, hT])]
                clear HSN hiv
                go_wp2_with (first | (go_at_call 154; refine (risVar_any _ _ hzt).mono ?_; rintro e w' ⟨rfl, hww⟩; obtain rfl := hww.symm) | (go_at_call 109; refine (rhas_any _ _ vk x1 hown (by omega)).mono ?_; rintro e w' ⟨rfl, hww⟩; obtain rfl := hww.symm))
                go_roundw
                case rel => exact ⟨j + 1, by omega, by go_num, hbj, by rw [HR2.out]; exact hown⟩
                case measure => simp [intOf]; omega
              | true =>
                cases hM : memB x1 vk with
                | true =>
                  have HR2 : Hid (addVs vs (a.args.take (j + 1)) = vk) := by rw [Hid, HSN.out, addV_has hM]
                  clear HSN hiv
                  go_wp2_with (first | (go_at_call 154; refine (risVar_any _ _ hzt).mono ?_; rintro e w' ⟨rfl, hww⟩; obtain rfl := hww.symm) | (go_at_call 109; refine (rhas_any _ _ vk x1 hown (by omega)).mono ?_; rintro e w' ⟨rfl, hww⟩; obtain rfl := hww.symm))
                  go_roundw
                  case rel => exact ⟨j + 1, by omega, by go_num, hbj, by rw [HR2.out]; exact hown⟩
                  case measure => simp [intOf]; omega
                | false =>
                  have HR2 : Hid (addVs vs (a.args.take (j + 1)) = vk ++ [x1]) := by rw [Hid, HSN.out, addV_var (by rw [hiv, hT]) hM]
                  clear HSN hiv
                  go_wp2_with (first | (go_at_call 154; refine (risVar_any _ _ hzt).mono ?_; rintro e w' ⟨rfl, hww⟩; obtain rfl := hww.symm) | (go_at_call 109; refine (rhas_any _ _ vk x1 hown (by omega)).mono ?_; rintro e w' ⟨rfl, hww⟩; obtain rfl := hww.symm) | (at_builtin; refine wpList_push _ _ _ _ rfl (.tmp 65) (.tmp 74) 30 rfl w1.heap.size 9 i0 _ 1 16 Tryz.underlying30 hi hz0 hzs hzb rfl (by decide) _ _ _ rfl hown (Below.refl _ _) _ _ rfl (by simp) rfl (by simp [Value.oneCell']) (by omega) (by omega) hbj.size ?_; intro v' w2 ho2 hB2 hc2 hf2 hk2 hz2'; clear hc2 hf2))
                  go_roundw
                  case rel => exact ⟨j + 1, by omega, by go_num, hbj.trans hB2, by rw [HR2.out]; simpa using ho2⟩
                  case measure => simp [intOf]; omega
            · have hE : a.args.take j = a.args := List.take_of_length_le (by omega)
              rw [hE] at hown
              clear hE
              go_wp2
              go_roundw
              case rel => exact ⟨k + 1, by omega, by go_num, hbj, by rw [HR.out]; exact hown⟩
              case measure => simp [intOf]; omega
    · have hke : k = ls.length := by omega
      subst hke
      go_wp2
      go_ret
      exact ⟨_, rfl, own_low hown hb1.size, bnext hb1 hbk (Nat.le_refl _)⟩
end Go.Proofs.YteampbddflhngaaGreat

/- Walks: deriveref.Program.other, deriveref.Program.place. -/
namespace Go.Proofs.YteampbddflhngaaGreat
open Go.RowKit
variable {lo : Nat}

def oddB (x l : PLit) : Bool := decide (l.pred = x.pred) && decide (l.args.length ≠ x.args.length)
def otherB (cs : List PClause) (x : PLit) : Bool := (cs.flatMap litsOf).any (oddB x)
theorem flat_drop (cs : List PClause) (k : Nat) (hk : k < cs.length) : (cs.drop k).flatMap litsOf = litsOf cs[k] ++ (cs.drop (k + 1)).flatMap litsOf := by rw [List.drop_eq_getElem_cons hk, List.flatMap_cons]

set_option maxRecDepth 100000 in
set_option maxHeartbeats 2000000 in
theorem rother_any (w : World) (pb : Nat) (cv v1 v2 : Value) (cs : List PClause) (x : PLit) (va : Value) (hp : Box w pb #[cv, v1, v2] 45) (hcs : CIn lo 93 w cv cs) (hok : ∀ c ∈ cs, ClOK c) (hl : cs.length ≤ 1000) {lo2 : Nat} (hs : SIn lo2 w va x.args) :
    Calls Tryz.prog 110 #[.pointer (some ⟨pb, 0, none⟩), .agg #[.bool x.neg, .string x.pred, va]] w fun e w' => e = .returned (.bool (otherB cs x)) ∧ Below w.heap.size w w' := by
  obtain ⟨ao, cap, rfl⟩ := hcs.shape
  obtain ⟨aox, capx, rfl⟩ := hs.shape
  have HOK : Hid (∀ c ∈ cs, ClOK c) := hok
  clear hok
  go_enter Tryz.func110, Tryz.ntmps110
  go_wp2
  go_loopw [5] (fun i wr => ∃ k : Nat, k ≤ cs.length ∧ i = .int .i64 k ∧ Below w.heap.size w wr ∧ Box wr w.heap.size #[.bool x.neg, .string x.pred, .slice aox x.args.length capx] 90 ∧ Box wr pb #[.slice ao cs.length cap, v1, v2] 45 ∧ Hid (otherB cs x = ((cs.drop k).flatMap litsOf).any (oddB x))) (fun i _ => cs.length - (intOf i).toNat)
  case atStart => exact ⟨0, Nat.zero_le _, rfl, (by repeat' (first | (with_reducible exact Below.refl _ _) | (with_reducible assumption) | (with_reducible refine bdrewN ?_ _) | (with_reducible refine Below.alloc ?_ ?_ _) | (with_reducible refine Below.drew ?_) | (with_reducible refine Below.setCell ?_ ?_ _) | go_size)), Box.new _ _ _, hp.below (by repeat' (first | (with_reducible exact Below.refl _ _) | (with_reducible assumption) | (with_reducible refine bdrewN ?_ _) | (with_reducible refine Below.alloc ?_ ?_ _) | (with_reducible refine Below.drew ?_) | (with_reducible refine Below.setCell ?_ ?_ _) | go_size)), rfl⟩
  case round =>
    obtain ⟨k, hk, rfl, hbk, hbx, hpx, H⟩ := hrel
    obtain ⟨hpc, hpf⟩ := hpx.rules
    have hszk := hbk.size
    by_cases hlt : k < cs.length
    · obtain ⟨g, ao2, cap2, ao3, cap3, rfl, hat⟩ := hcs.at k hlt
      obtain ⟨hk1, hk2⟩ := HOK.out _ (List.getElem_mem hlt)
      have hfd := flat_drop cs k hlt
      generalize cs[k] = c at *
      generalize hR : (cs.drop (k + 1)).flatMap litsOf = rest at *
      have HR : Hid ((cs.drop (k + 1)).flatMap litsOf = rest) := hR
      have H1 : Hid (otherB cs x = (litsOf c ++ rest).any (oddB x)) := by rw [Hid, H.out, hfd]
      clear hR H hfd
      have hll : (litsOf c).length ≤ 1001 := by simp [litsOf]; omega
      go_wp2_with (first | (go_at_call 68; refine (rall_any _ g (k * 4) c _ _ _ _ (by exact hat.below hbk) (by omega)).mono ?_; rintro e w1 ⟨lv, rfl, hlin, hb1⟩; obtain ⟨aol, capl, rfl⟩ := hlin.shape; have hB1 := bnext hbk hb1 (Nat.le_refl _); have hbx1 := hbx.below hb1; have hpx1 := hpx.below hb1))
      generalize hLS : litsOf c = ls at *
      clear hLS
      go_loopw [7] (fun i wj => ∃ j : Nat, j ≤ ls.length ∧ i = .int .i64 j ∧ Below w1.heap.size w1 wj ∧ Hid (otherB cs x = (ls.drop j ++ rest).any (oddB x))) (fun i _ => ls.length - (intOf i).toNat)
      case atStart => exact ⟨0, Nat.zero_le _, rfl, Below.refl _ _, H1⟩
      case round =>
        clear hpc hpf
        obtain ⟨j, hj, rfl, hbj, HJ⟩ := hrel
        have hszj := hbj.size
        have hbxj := hbx1.below hbj
        obtain ⟨hxc, hxf⟩ := hbxj.rules
        by_cases hjl : j < ls.length
        · obtain ⟨gl, aoa, capa, rfl, hgl, hc0, hc1, hc2, hsk⟩ := hlin.cell j hjl
          have he1 := (hbj.cell (p := ⟨gl, j * 3 + 1, none⟩) hgl).trans hc1
          have he2 := (hbj.cell (p := ⟨gl, j * 3 + 2, none⟩) hgl).trans hc2
          have hgj : gl < wr.heap.size := by omega
          have hdj := List.drop_eq_getElem_cons hjl
          clear hc0 hc1 hc2 hsk
          generalize ls[j] = a at *
          have HJ1 : Hid (otherB cs x = (oddB x a || (ls.drop (j + 1) ++ rest).any (oddB x))) := by rw [Hid, HJ.out, hdj]; rfl
          clear hdj HJ
          by_cases hpr : a.pred = x.pred
          · have hse := seq_true hpr
            by_cases hne : a.args.length = x.args.length
            · have HR2 : Hid (otherB cs x = (ls.drop (j + 1) ++ rest).any (oddB x)) := by rw [Hid, HJ1.out, oddB]; simp [hne]
              have hnb : ((a.args.length : Int) == (x.args.length : Int)) = true := by rw [beq_iff_eq]; omega
              clear HJ1 hpr hne
              generalize a.args.length = na at *
              generalize a.pred = pa at *
              go_wp2
              go_quiet (fail)
              go_wp2
              go_roundw
              case rel => exact ⟨j + 1, by omega, by go_num, bdrewN hbj _, HR2⟩
              case measure => simp [intOf]; omega
            · have HR2 : Hid (otherB cs x = true) := by rw [Hid, HJ1.out, oddB]; simp [hpr, hne]
              have hnb : ((a.args.length : Int) == (x.args.length : Int)) = false := by rw [beq_eq_false_iff_ne]; omega
              clear HJ1 hpr hne
              generalize a.args.length = na at *
              generalize a.pred = pa at *
              go_wp2
              go_quiet (fail)
              go_wp2
              go_ret
              exact ⟨by rw [HR2.out]; rfl, bdrewN (bnext hB1 hbj (Nat.le_refl _)) _⟩
          · have hse := seq_false hpr
            have HR2 : Hid (otherB cs x = (ls.drop (j + 1) ++ rest).any (oddB x)) := by rw [Hid, HJ1.out, oddB]; simp [hpr]
            clear HJ1 hpr
            generalize a.pred = pa at *
            go_wp2
            go_quiet (fail)
            go_wp2
            go_roundw
            case rel => exact ⟨j + 1, by omega, by go_num, bdrewN hbj _, HR2⟩
            case measure => simp [intOf]; omega
        · have HE : Hid (otherB cs x = ((cs.drop (k + 1)).flatMap litsOf).any (oddB x)) := by rw [Hid, HJ.out, List.drop_eq_nil_of_le (by omega), HR.out]; rfl
          clear HJ
          go_wp2
          go_roundw
          case rel => exact ⟨k + 1, by omega, by go_num, bnext hB1 hbj (Nat.le_refl _), hbxj, hpx1.below hbj, HE⟩
          case measure => simp [intOf]; omega
    · have HE : Hid (otherB cs x = false) := by rw [Hid, H.out, List.drop_eq_nil_of_le (by omega)]; rfl
      clear H
      go_wp2
      go_ret
      exact ⟨by rw [HE.out]; rfl, hbk⟩

set_option maxRecDepth 100000 in
set_option maxHeartbeats 2000000 in
theorem rplace_any (w : World) (pb : Nat) (c0 pv c2 : Value) (l : List ByteArray) (n : ByteArray) (hp : Box w pb #[c0, pv, c2] 45) (hs : SIn lo w pv l) (hl : l.length ≤ 1000) :
    Calls Tryz.prog 111 #[.pointer (some ⟨pb, 0, none⟩), .string n] w fun e w' => e = .returned (.int .i64 (placeI l n)) ∧ w' = w := by
  obtain ⟨hc, hf⟩ := hp.rules
  obtain ⟨ao, cap, rfl⟩ := hs.shape
  go_enter Tryz.func111, Tryz.ntmps111
  go_wp2
  go_loop [5] (fun i => ∃ k : Nat, k ≤ l.length ∧ i = .int .i64 k ∧ Hid (placeR l n = (placeR (l.drop k) n).map (· + k))) (fun i => l.length - (intOf i).toNat)
  case atStart => exact ⟨0, Nat.zero_le _, rfl, by simp [Hid]⟩
  case round =>
    obtain ⟨k, hk, rfl, H⟩ := hrel
    by_cases hlt : k < l.length
    · obtain ⟨g, rfl, hg, hck⟩ := hs.cell k hlt
      by_cases hx : l[k] = n
      · have he := seq_true hx
        have H2 : Hid (placeI l n = (k : Int)) := by unfold Hid placeI; rw [H.out, placeR_here hlt hx]; simp
        clear hx H
        generalize l[k] = x at *
        go_wp2
        go_ret
        exact ⟨by rw [H2.out]; rfl, rfl⟩
      · have he := seq_false hx
        have H2 : Hid (placeR l n = (placeR (l.drop (k + 1)) n).map (· + (k + 1))) := by
          rw [Hid, H.out, placeR_step hlt hx]; cases placeR (l.drop (k + 1)) n <;> simp; omega
        clear hx H
        generalize l[k] = x at *
        go_wp2
        go_round
        case rel => exact ⟨k + 1, by omega, by go_num, H2⟩
        case measure => simp [intOf]; omega
    · have H2 : Hid (placeI l n = -1) := by unfold Hid placeI; rw [H.out, List.drop_eq_nil_of_le (by omega)]; rfl
      clear H
      go_wp2
      go_ret
      exact ⟨by rw [H2.out]; rfl, rfl⟩
end Go.Proofs.YteampbddflhngaaGreat
