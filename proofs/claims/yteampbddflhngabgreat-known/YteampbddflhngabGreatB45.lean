import Derived.Test.YteampbddflhngabGreatB44
import Derived.Test.YteampbddflhngabGreatB37
import Derived.Deep.RegionHeld3
import Derived.Test.YteampbddflhngabGreatB13

/- A result in memory, whole. Walks: derive.Result.When. -/
namespace Go.Proofs.YteampbddflhngabGreat
open Go.RowKit
variable {lo lp : Nat}

/-- lo: the floor of what the run made; lp: of the program's table of names. -/
structure ResO (lo lp : Nat) (w : World) (rb : Nat) (t : List PEnt) (ns : List ByteArray) (R : PRun) (pv nv rv : Value) (tbs : List Nat) : Prop where
  low : lo ≤ rb
  box : Box w rb #[pv, nv, rv, .int .i64 (R.count : Nat), .int .i64 (R.rounds : Nat), .int .i64 R.moves] 109
  preds : w.ownsRow lp 138 3 pv t.length (pcells t)
  vals : SIn lo w nv ns
  rows : w.ownsRow lo 113 1 rv R.rows.length (pts tbs)
  tlen : tbs.length = R.rows.length
  tries : ∀ p (_ : p < R.rows.length) (_ : p < tbs.length), ∃ fp, TrieAt lo w tbs[p] R.rows[p] fp
  few : t.length ≤ 1000 ∧ ns.length ≤ 1000 ∧ R.rows.length ≤ 1000
theorem ResO.below {w w' : World} {rb : Nat} {t : List PEnt} {ns : List ByteArray} {R : PRun} {pv nv rv : Value} {tbs : List Nat} (h : ResO lo lp w rb t ns R pv nv rv tbs) (hb : Below w.heap.size w w') : ResO lo lp w' rb t ns R pv nv rv tbs :=
  ⟨h.low, h.box.below hb, owns_below h.preds hb, h.vals.below hb, owns_below h.rows hb, h.tlen, fun p a b => by obtain ⟨fp, q⟩ := h.tries p a b; exact ⟨fp, q.below hb⟩, h.few⟩
theorem ResO.tg {w : World} {rb : Nat} {t : List PEnt} {ns : List ByteArray} {R : PRun} {pv nv rv : Value} {tbs : List Nat} (h : ResO lo lp w rb t ns R pv nv rv tbs) : TG lp w rb 0 t := ⟨pv, h.box.lt, h.box.rules.1 0, h.preds⟩
theorem ResO.cat {w : World} {rb : Nat} {t : List PEnt} {ns : List ByteArray} {R : PRun} {pv nv rv : Value} {tbs : List Nat} (h : ResO lo lp w rb t ns R pv nv rv tbs) : CAt lo w rb 1 ns := ⟨h.box.lt, nv, h.box.rules.1 1, h.vals⟩
/-- What When answers. -/
def whenR (t : List PEnt) (ns : List ByteArray) (R : PRun) (pred : ByteArray) (row : List ByteArray) : Nat × Nat :=
  if (entAt t pred).isSome = false ∨ findN t pred ≥ R.rows.length then (0, 11)
  else if row.length ≠ arityN t (findN t pred) then (0, 12)
  else match rowF ns row 0 [0, 0, 0] with
    | none => (0, 12)
    | some r => match markP (R.rows.getD (findN t pred) PTrie.zero) r with
      | none => (0, 12)
      | some k => (k, 0)
theorem rowF_len (ns : List ByteArray) : ∀ (ts : List ByteArray) (i : Nat) (r r' : PRow), rowF ns ts i r = some r' → r'.length = r.length
  | [], i, r, r', h => by simp [rowF] at h; rw [h]
  | t :: ts, i, r, r', h => by
    unfold rowF at h
    split at h
    · cases h
    · split at h
      · cases h
      · have := rowF_len ns ts (i + 1) _ r' h
        simpa using this
theorem BelowRefl (w : World) : Below w.heap.size w w := Below.refl _ _

set_option maxRecDepth 100000 in
set_option maxHeartbeats 4000000 in
theorem when_any {lo2 : Nat} (w : World) (rb : Nat) (t : List PEnt) (ns : List ByteArray) (R : PRun) (pv nv rv : Value) (tbs : List Nat) (pred : ByteArray) (row : List ByteArray) (tv : Value) (h : ResO lo lp w rb t ns R pv nv rv tbs) (ht : SIn lo2 w tv row) (hl : row.length ≤ 1000000) :
    Calls Tryz.prog 31 #[.pointer (some ⟨rb, 0, none⟩), .string pred, tv] w fun e w' => e = .returned (.tuple #[.int .i64 ((whenR t ns R pred row).1 : Nat), .int .i64 ((whenR t ns R pred row).2 : Nat)]) ∧ Below w.heap.size w w' := by
  have HFI : Hid (Calls Tryz.prog 50 #[.pointer (some ⟨rb, 0, none⟩), .string pred] w fun e w' => e = .returned (.tuple #[.int .i64 (findN t pred : Nat), .bool (entAt t pred).isSome]) ∧ w' = w) := gfind_any lp w rb 0 t pred h.tg h.few.1
  have HAR : Hid (Calls Tryz.prog 53 #[.pointer (some ⟨rb, 0, none⟩), .int .i64 (findN t pred : Nat)] w fun e w' => e = .returned (.int .i64 (arityN t (findN t pred) : Nat)) ∧ w' = w) := garity_any lp w rb 0 t _ h.tg
  have HRW : Hid (Calls Tryz.prog 54 #[.pointer (some ⟨rb, 0, none⟩), tv] w fun e w' => e = .returned (rowV (rowF ns row 0 [0, 0, 0])) ∧ Below w.heap.size w w') := rrow_any w rb ns row tv h.cat h.few.2.1 ht hl
  have HRE : Hid (ResO lo lp w rb t ns R pv nv rv tbs) := h
  obtain ⟨ans, hans⟩ : ∃ a, a = whenR t ns R pred row := ⟨_, rfl⟩
  rw [← hans]
  have HWN : Hid (ans = whenR t ns R pred row) := hans
  clear hans
  unfold whenR at HWN
  obtain ⟨hc, hf⟩ := h.box.rules
  have hlt := h.box.lt
  obtain ⟨aor, capr, hrv⟩ := own_view h.rows
  subst hrv
  obtain ⟨aot, capt, htv⟩ := ht.shape
  subst htv
  have d2 := hc 2
  have hfew := h.few.2.2
  clear h ht hc
  by_cases hs : (entAt t pred).isSome = false
  · rw [if_pos (Or.inl hs)] at HWN
    rw [hs] at HFI
    clear hs
    generalize findN t pred = fi at *
    go_enter Tryz.func31, Tryz.ntmps31
    go_wp2_with (first | (go_at_call 50; refine HFI.out.mono ?_; rintro e w1 ⟨rfl, hww⟩; obtain rfl := hww.symm))
    go_ret2
    exact ⟨by rw [HWN.out]; rfl, BelowRefl w⟩
  · have hs' : (entAt t pred).isSome = true := by cases hq : (entAt t pred).isSome with | true => rfl | false => exact absurd hq hs
    rw [hs'] at HFI
    by_cases hge : findN t pred ≥ R.rows.length
    · rw [if_pos (Or.inr hge)] at HWN
      have hgi : (R.rows.length : Int) ≤ (findN t pred : Int) := by omega
      clear hs hs'
      generalize findN t pred = fi at *
      go_enter Tryz.func31, Tryz.ntmps31
      go_wp2_with (first | (go_at_call 50; refine HFI.out.mono ?_; rintro e w1 ⟨rfl, hww⟩; obtain rfl := hww.symm))
      go_ret2
      exact ⟨by rw [HWN.out]; rfl, BelowRefl w⟩
    · rw [if_neg (by rintro (q | q); exact hs q; exact hge q)] at HWN
      have hgi : ¬ (R.rows.length : Int) ≤ (findN t pred : Int) := by omega
      clear hs hs'
      generalize findN t pred = fi at *
      by_cases hne : row.length ≠ arityN t fi
      · rw [if_pos hne] at HWN
        have hni : ¬ (row.length : Int) = (arityN t fi : Int) := by omega
        clear hne
        generalize arityN t fi = af at *
        go_enter Tryz.func31, Tryz.ntmps31
        go_wp2_with (first | (go_at_call 50; refine HFI.out.mono ?_; rintro e w1 ⟨rfl, hww⟩; obtain rfl := hww.symm) | (go_at_call 53; refine HAR.out.mono ?_; rintro e w1 ⟨rfl, hww⟩; obtain rfl := hww.symm))
        go_ret2
        exact ⟨by rw [HWN.out]; rfl, BelowRefl w⟩
      · rw [if_neg hne] at HWN
        have hni : (row.length : Int) = (arityN t fi : Int) := by omega
        have HNI : Hid (row.length = arityN t fi) := show row.length = arityN t fi by omega
        rw [← HNI.out] at HAR
        clear hne hni
        cases hrf : rowF ns row 0 [0, 0, 0] with
        | none =>
          rw [hrf] at HWN HRW
          simp only [rowV] at HRW
          clear hrf
          go_enter Tryz.func31, Tryz.ntmps31
          go_wp2_with (first | (go_at_call 50; refine HFI.out.mono ?_; rintro e w1 ⟨rfl, hww⟩; obtain rfl := hww.symm) | (go_at_call 53; refine HAR.out.mono ?_; rintro e w1 ⟨rfl, hww⟩; obtain rfl := hww.symm) | (go_at_call 54; refine HRW.out.mono ?_; rintro e w3 ⟨rfl, hb3⟩))
          go_ret2
          exact ⟨by rw [HWN.out]; rfl, bnext hb3 (by repeat' (first | (with_reducible exact Below.refl _ _) | (with_reducible assumption) | (with_reducible refine bdrewN ?_ _) | (with_reducible refine Below.alloc ?_ ?_ _) | (with_reducible refine Below.drew ?_) | (with_reducible refine Below.setCell ?_ ?_ _) | go_size)) (Nat.le_refl _)⟩
        | some r =>
          rw [hrf] at HWN HRW
          have hr3 := rowF_len ns row 0 _ r hrf
          obtain ⟨x, y, z, rfl⟩ : ∃ x y z, r = [x, y, z] := by
            match r, hr3 with
            | [x, y, z], _ => exact ⟨x, y, z, rfl⟩
          simp only [rowV, List.getD_cons_zero, List.getD_cons_succ] at HRW
          have hfi : fi < R.rows.length := by omega
          have hft : fi < tbs.length := by rw [HRE.out.tlen]; exact hfi
          obtain ⟨gr, capr', hvr, _, hgr, hcr⟩ := own_cells HRE.out.rows (by omega)
          simp only [Value.slice.injEq] at hvr
          have hgg := hvr.1
          clear hvr
          subst hgg
          have hcp := hcr fi (.pointer (some ⟨tbs[fi], 0, none⟩)) (by simp [pts, hft, pt])
          have HMK : Hid (∀ W0, Below w.heap.size w W0 → Calls Tryz.prog 55 #[.pointer (some ⟨tbs[fi], 0, none⟩), .agg #[.int .i64 (x : Nat), .int .i64 (y : Nat), .int .i64 (z : Nat)]] W0 fun e w' => e = .returned (.tuple #[.int .i64 (((markP R.rows[fi] [x, y, z]).getD 0 : Nat) : Int), .bool (markP R.rows[fi] [x, y, z]).isSome]) ∧ Below W0.heap.size W0 w') := fun W0 hb => by
            obtain ⟨fp, q⟩ := HRE.out.tries fi hfi hft
            exact tmark_any W0 _ _ fp x y z (q.below hb)
          dsimp only at HWN
          rw [show R.rows.getD fi PTrie.zero = R.rows[fi] by simp [List.getD, hfi]] at HWN
          generalize markP R.rows[fi] [x, y, z] = mk at *
          generalize tbs[fi] = tb at *
          have hfii : (fi : Int) < (R.rows.length : Int) := by omega
          clear hrf hr3 hcr
          go_enter Tryz.func31, Tryz.ntmps31
          go_upto_region 9 with (first | (go_at_call 50; refine HFI.out.mono ?_; rintro e w1 ⟨rfl, hww⟩; obtain rfl := hww.symm) | (go_at_call 53; refine HAR.out.mono ?_; rintro e w1 ⟨rfl, hww⟩; obtain rfl := hww.symm) | (go_at_call 54; refine HRW.out.mono ?_; rintro e w3 ⟨rfl, hb3⟩; have y2 := (hb3.cell (p := ⟨rb, 2, none⟩) hlt).trans d2; have yp := (hb3.cell (p := ⟨gr, fi, none⟩) hgr).trans hcp; have yl : rb < w3.heap.size := Nat.lt_of_lt_of_le hlt hb3.size; have yg : gr < w3.heap.size := Nat.lt_of_lt_of_le hgr hb3.size))
          have hg4 : Below w3.heap.size w3 (w3.alloc (.cells #[.int .i64 (x : Nat), .int .i64 (y : Nat), .int .i64 (z : Nat)] 116)) := (by repeat' (first | (with_reducible exact Below.refl _ _) | (with_reducible assumption) | (with_reducible refine bdrewN ?_ _) | (with_reducible refine Below.alloc ?_ ?_ _) | (with_reducible refine Below.drew ?_) | (with_reducible refine Below.setCell ?_ ?_ _) | go_size))
          have hb10 := Box.new w3 #[.int .i64 (x : Nat), .int .i64 (y : Nat), .int .i64 (z : Nat)] 116
          generalize w3.alloc (.cells #[.int .i64 (x : Nat), .int .i64 (y : Nat), .int .i64 (z : Nat)] 116) = W4 at *
          have u2 := (hg4.cell (p := ⟨rb, 2, none⟩) yl).trans y2
          have up := (hg4.cell (p := ⟨gr, fi, none⟩) yg).trans yp
          have v0 : W4.cell? ⟨w3.heap.size, 0, none⟩ = some (.int .i64 (x : Nat)) := by rw [hb10.rules.1]; rfl
          have v1 : W4.cell? ⟨w3.heap.size, 1, none⟩ = some (.int .i64 (y : Nat)) := by rw [hb10.rules.1]; rfl
          have v2 : W4.cell? ⟨w3.heap.size, 2, none⟩ = some (.int .i64 (z : Nat)) := by rw [hb10.rules.1]; rfl
          have hB4 : Below w.heap.size w W4 := bnext hb3 hg4 (Nat.le_refl _)
          have hl1 : rb < W4.heap.size := Nat.lt_of_lt_of_le yl hg4.size
          have hl2 : gr < W4.heap.size := Nat.lt_of_lt_of_le yg hg4.size
          have hl3 : w3.heap.size < W4.heap.size := hb10.lt
          have HMK2 : Hid (∀ W0, Below W4.heap.size W4 W0 → Calls Tryz.prog 55 #[.pointer (some ⟨tb, 0, none⟩), .agg #[.int .i64 (x : Nat), .int .i64 (y : Nat), .int .i64 (z : Nat)]] W0 fun e w' => e = .returned (.tuple #[.int .i64 ((mk.getD 0 : Nat) : Int), .bool mk.isSome]) ∧ Hid (Below w.heap.size w w') ∧ w'.cell? ⟨rb, 2, none⟩ = some (.slice (some ⟨gr, 0, none⟩) R.rows.length capr) ∧ w'.cell? ⟨gr, fi, none⟩ = some (.pointer (some ⟨tb, 0, none⟩)) ∧ w'.cell? ⟨w3.heap.size, 0, none⟩ = some (.int .i64 (x : Nat)) ∧ w'.cell? ⟨w3.heap.size, 1, none⟩ = some (.int .i64 (y : Nat)) ∧ w'.cell? ⟨w3.heap.size, 2, none⟩ = some (.int .i64 (z : Nat))) := fun W0 hb => by
            refine (HMK.out W0 (bnext hB4 hb (Nat.le_refl _))).mono ?_
            rintro e w' ⟨rfl, hb2⟩
            have hq := bnext hb hb2 (Nat.le_refl _)
            exact ⟨rfl, bnext hB4 hq (Nat.le_refl _), (hq.cell hl1).trans u2, (hq.cell hl2).trans up, (hq.cell hl3).trans v0, (hq.cell hl3).trans v1, (hq.cell hl3).trans v2⟩
          clear hb10 hg4 y2 yp yl yg HMK
          cases mk with
          | none =>
            simp only [Option.getD_none, Option.isSome_none] at HMK2
            go_region_held3 (fun w' => w'.cell? ⟨rb, 2, none⟩ = some (.slice (some ⟨gr, 0, none⟩) R.rows.length capr) ∧ w'.cell? ⟨gr, fi, none⟩ = some (.pointer (some ⟨tb, 0, none⟩)) ∧ w'.cell? ⟨w3.heap.size, 0, none⟩ = some (.int .i64 (x : Nat)) ∧ w'.cell? ⟨w3.heap.size, 1, none⟩ = some (.int .i64 (y : Nat)) ∧ w'.cell? ⟨w3.heap.size, 2, none⟩ = some (.int .i64 (z : Nat))) (first | go_keep | (go_simp; done)) (first | (go_at_call 55; refine (HMK2.out _ (by exact (bdrewN (Below.refl _ _) 1))).mono ?_; rintro e w5 ⟨rfl, HB5, a2, ap, a0, a1, a3⟩))
            go_wp2
            go_ret2
            exact ⟨by rw [HWN.out]; rfl, HB5.out⟩
          | some kk =>
            simp only [Option.getD_some, Option.isSome_some] at HMK2
            go_region_held3 (fun w' => w'.cell? ⟨rb, 2, none⟩ = some (.slice (some ⟨gr, 0, none⟩) R.rows.length capr) ∧ w'.cell? ⟨gr, fi, none⟩ = some (.pointer (some ⟨tb, 0, none⟩)) ∧ w'.cell? ⟨w3.heap.size, 0, none⟩ = some (.int .i64 (x : Nat)) ∧ w'.cell? ⟨w3.heap.size, 1, none⟩ = some (.int .i64 (y : Nat)) ∧ w'.cell? ⟨w3.heap.size, 2, none⟩ = some (.int .i64 (z : Nat))) (first | go_keep | (go_simp; done)) (first | (go_at_call 55; refine (HMK2.out _ (by exact (bdrewN (Below.refl _ _) 1))).mono ?_; rintro e w5 ⟨rfl, HB5, a2, ap, a0, a1, a3⟩))
            go_wp2
            go_ret2
            exact ⟨by rw [HWN.out]; rfl, HB5.out⟩
end Go.Proofs.YteampbddflhngabGreat

/- Walks: derive.Result.Rows. -/
namespace Go.Proofs.YteampbddflhngabGreat
open Go.RowKit
variable {lo lp : Nat}

theorem Tryz.infoSS : (Tryz.prog.info? 38).map (fun i => (i.zero, i.size, i.bytes)) = some (some (.slice none 0 0), 1, 24) := by kernel_rfl
theorem trowsG (w : World) (tb : Nat) (T : PTrie) (fp : List Nat) (n : Nat) (rs : List PRow) (h : TrieAt lo w tb T fp) (hr : rowsG n T = some rs) :
    Calls Tryz.prog 51 #[.pointer (some ⟨tb, 0, none⟩)] w fun e w' => ∃ v, e = .returned v ∧ RowsIn w.heap.size w' v rs ∧ Below w.heap.size w w' := by
  unfold rowsG at hr
  cases hf : rowsF n T with
  | none => rw [hf] at hr; cases hr
  | some rs' =>
    rw [hf] at hr
    simp only at hr
    split at hr
    · simp only [Option.some.injEq] at hr
      subst hr
      exact rows_any w tb T fp h n rs' hf (by assumption)
    · cases hr
theorem rowsG_few {n : Nat} {T : PTrie} {rs : List PRow} (hr : rowsG n T = some rs) : rs.length ≤ 1048576 := by
  unfold rowsG at hr
  cases hf : rowsF n T with
  | none => rw [hf] at hr; cases hr
  | some rs' =>
    rw [hf] at hr
    simp only at hr
    split at hr
    · simp only [Option.some.injEq] at hr
      subst hr
      assumption
    · cases hr
/-- A row's terms as a literal's, for Copies. -/
def rowLit (ns : List ByteArray) (ar : Nat) (r : PRow) : PLit := ⟨false, ByteArray.empty, termsK ns r ar 3⟩
def slOf (ar g : Nat) : Value := .slice (some ⟨g, 0, none⟩) ar ar
def RowsPost (ns : List ByteArray) (ar : Nat) (rs : List PRow) (w : World) (e : Ending) (w' : World) : Prop := ∃ g gs, w.heap.size ≤ g ∧ e = .returned (.tuple #[.slice (some ⟨g, 0, none⟩) rs.length rs.length, .int .i64 0]) ∧ w'.ownsRow w.heap.size 38 1 (.slice (some ⟨g, 0, none⟩) rs.length rs.length) rs.length (gs.map (slOf ar)) ∧ Copies w.heap.size w' (rs.map (rowLit ns ar)) gs ∧ Below w.heap.size w w'

set_option maxRecDepth 100000 in
set_option maxHeartbeats 4000000 in
theorem rrows_none (w : World) (rb : Nat) (t : List PEnt) (ns : List ByteArray) (R : PRun) (pv nv rv : Value) (tbs : List Nat) (pred : ByteArray) (h : ResO lo lp w rb t ns R pv nv rv tbs) (hn : (entAt t pred).isSome = false ∨ findN t pred ≥ R.rows.length) :
    Calls Tryz.prog 28 #[.pointer (some ⟨rb, 0, none⟩), .string pred] w fun e w' => e = .returned (.tuple #[.slice none 0 0, .int .i64 11]) ∧ w' = w := by
  have HFI : Hid (Calls Tryz.prog 50 #[.pointer (some ⟨rb, 0, none⟩), .string pred] w fun e w' => e = .returned (.tuple #[.int .i64 (findN t pred : Nat), .bool (entAt t pred).isSome]) ∧ w' = w) := gfind_any lp w rb 0 t pred h.tg h.few.1
  obtain ⟨hc, hf⟩ := h.box.rules
  have hlt := h.box.lt
  obtain ⟨aor, capr, hrv⟩ := own_view h.rows
  subst hrv
  have d2 := hc 2
  clear h hc
  by_cases hs : (entAt t pred).isSome = false
  · rw [hs] at HFI
    clear hs hn
    generalize findN t pred = fi at *
    go_enter Tryz.func28, Tryz.ntmps28
    go_wp2_with (first | (go_at_call 50; refine HFI.out.mono ?_; rintro e w1 ⟨rfl, hww⟩; obtain rfl := hww.symm))
    go_ret2
    exact ⟨rfl, rfl⟩
  · have hs' : (entAt t pred).isSome = true := by cases hq : (entAt t pred).isSome with | true => rfl | false => exact absurd hq hs
    rw [hs'] at HFI
    have hge : findN t pred ≥ R.rows.length := by rcases hn with q | q; exact absurd q hs; exact q
    have hgi : (R.rows.length : Int) ≤ (findN t pred : Int) := by omega
    clear hs hs' hn
    generalize findN t pred = fi at *
    go_enter Tryz.func28, Tryz.ntmps28
    go_wp2_with (first | (go_at_call 50; refine HFI.out.mono ?_; rintro e w1 ⟨rfl, hww⟩; obtain rfl := hww.symm))
    go_ret2
    exact ⟨rfl, rfl⟩

set_option maxRecDepth 100000 in
set_option maxHeartbeats 4000000 in
theorem rrows_any (w : World) (rb : Nat) (t : List PEnt) (ns : List ByteArray) (R : PRun) (pv nv rv : Value) (tbs : List Nat) (pred : ByteArray) (h : ResO lo lp w rb t ns R pv nv rv tbs) (hs' : (entAt t pred).isSome = true) (hfi : findN t pred < R.rows.length) (n : Nat) (rs : List PRow) (hr : rowsG n R.rows[findN t pred] = some rs) (har : arityN t (findN t pred) ≤ 1000) :
    Calls Tryz.prog 28 #[.pointer (some ⟨rb, 0, none⟩), .string pred] w fun e w' => RowsPost ns (arityN t (findN t pred)) rs w e w' := by
  have HFI : Hid (Calls Tryz.prog 50 #[.pointer (some ⟨rb, 0, none⟩), .string pred] w fun e w' => e = .returned (.tuple #[.int .i64 (findN t pred : Nat), .bool (entAt t pred).isSome]) ∧ w' = w) := gfind_any lp w rb 0 t pred h.tg h.few.1
  rw [hs'] at HFI
  have HRE : Hid (ResO lo lp w rb t ns R pv nv rv tbs) := h
  obtain ⟨hc, hf⟩ := h.box.rules
  have hlt := h.box.lt
  obtain ⟨aor, capr, hrv⟩ := own_view h.rows
  subst hrv
  have d2 := hc 2
  have hfew := h.few.2.2
  have hgi : ¬ (R.rows.length : Int) ≤ (findN t pred : Int) := by omega
  clear h hc hs'
  have HAR : Hid (∀ W, Below w.heap.size w W → Calls Tryz.prog 53 #[.pointer (some ⟨rb, 0, none⟩), .int .i64 (findN t pred : Nat)] W fun e w' => e = .returned (.int .i64 (arityN t (findN t pred) : Nat)) ∧ w' = W) := fun W hb => garity_any lp W rb 0 t _ (HRE.out.below hb).tg
  generalize findN t pred = fi at *
  have hft : fi < tbs.length := by rw [HRE.out.tlen]; exact hfi
  obtain ⟨gr, capr', hvr, _, hgr, hcr⟩ := own_cells HRE.out.rows (by omega)
  simp only [Value.slice.injEq] at hvr
  have hgg := hvr.1
  clear hvr
  subst hgg
  have hcp := hcr fi (.pointer (some ⟨tbs[fi], 0, none⟩)) (by simp [pts, hft, pt])
  have HRS : Hid (Calls Tryz.prog 51 #[.pointer (some ⟨tbs[fi], 0, none⟩)] w fun e w' => ∃ v, e = .returned v ∧ RowsIn w.heap.size w' v rs ∧ Below w.heap.size w w') := by
    obtain ⟨fp, q⟩ := HRE.out.tries fi hfi hft
    exact trowsG w _ _ fp n rs q hr
  have hrl := rowsG_few hr
  have hfii : (fi : Int) < (R.rows.length : Int) := by omega
  obtain ⟨i0, hi, hz0, hzs, hzb⟩ := info_parts Tryz.infoSS
  have hmk := fun W0 : World => run_make (P := Tryz.prog) (w := W0) 59 38 i0 _ Tryz.underlying59 hi hz0 .i64 .i64 (rs.length : Int) (rs.length : Int) (by omega) (Int.le_refl _) (by rw [hzb]; omega) (by omega)
  rw [hzs] at hmk
  have HTE : Hid (∀ W (x y z : Nat), Below w.heap.size w W → Calls Tryz.prog 52 #[.pointer (some ⟨rb, 0, none⟩), .agg #[.int .i64 (x : Nat), .int .i64 (y : Nat), .int .i64 (z : Nat)], .int .i64 (arityN t fi)] W fun e w' => ∃ g, W.heap.size ≤ g ∧ e = .returned (.slice (some ⟨g, 0, none⟩) (arityN t fi) (arityN t fi)) ∧ SIn W.heap.size w' (.slice (some ⟨g, 0, none⟩) (arityN t fi) (arityN t fi)) (termsK ns [x, y, z] (arityN t fi) 3) ∧ Below W.heap.size W w') := fun W x y z hb => rterms_any W rb _ x y z ns (HRE.out.below hb).cat har
  generalize arityN t fi = ar at *
  generalize tbs[fi] = tb at *
  clear hcr hr
  go_enter Tryz.func28, Tryz.ntmps28
  go_wp2_with (first | (go_at_call 50; refine HFI.out.mono ?_; rintro e w1 ⟨rfl, hww⟩; obtain rfl := hww.symm) | (go_at_call 51; refine HRS.out.mono ?_; rintro e w1 ⟨v1, rfl, HV1, hb1⟩; obtain ⟨aov, capv, rfl⟩ := own_view HV1.1))
  have hg1 : Below w1.heap.size w1 (w1.alloc (.cells (madeCells #[.slice none 0 0] rs.length) 38)) := (by repeat' (first | (with_reducible exact Below.refl _ _) | (with_reducible assumption) | (with_reducible refine bdrewN ?_ _) | (with_reducible refine Below.alloc ?_ ?_ _) | (with_reducible refine Below.drew ?_) | (with_reducible refine Below.setCell ?_ ?_ _) | go_size))
  have hB1 : Below w.heap.size w (w1.alloc (.cells (madeCells #[.slice none 0 0] rs.length) 38)) := bnext hb1 hg1 (Nat.le_refl _)
  have hrow := own_low (own_madeV w1 rs.length 38 (.slice none 0 0) (by unfold maxLen; omega)) hb1.size
  have HR0 : Hid (World.ownsRow (w1.alloc (.cells (madeCells #[.slice none 0 0] rs.length) 38)) w.heap.size 38 1 (.slice (some ⟨w1.heap.size, 0, none⟩) rs.length rs.length) rs.length (([] : List Nat).map (slOf ar) ++ List.replicate (rs.length - 0) (.slice none 0 0))) := hrow
  have HV2 : Hid (RowsIn w.heap.size (w1.alloc (.cells (madeCells #[.slice none 0 0] rs.length) 38)) (.slice aov rs.length capv) rs) := ⟨owns_below HV1.1 hg1, HV1.2⟩
  have hgl : w.heap.size ≤ w1.heap.size := hb1.size
  clear hrow hmk HRS HV1 hg1 HFI
  generalize w1.alloc (.cells (madeCells #[.slice none 0 0] rs.length) 38) = w2 at *
  generalize w1.heap.size = g at *
  clear hb1
  go_loopw [46] (fun v46 wr => ∃ (m : Nat) (gs : List Nat), m ≤ rs.length ∧ v46 = .int .i64 m ∧ Below w.heap.size w wr ∧ gs.length = m ∧ Hid (wr.ownsRow w.heap.size 38 1 (.slice (some ⟨g, 0, none⟩) rs.length rs.length) rs.length (gs.map (slOf ar) ++ List.replicate (rs.length - m) (.slice none 0 0))) ∧ Hid (Copies w.heap.size wr ((rs.take m).map (rowLit ns ar)) gs) ∧ Hid (RowsIn w.heap.size wr (.slice aov rs.length capv) rs)) (fun i _ => rs.length - (intOf i).toNat)
  case atStart => exact ⟨0, [], Nat.zero_le _, rfl, hB1, rfl, HR0, Copies.nil _, HV2⟩
  case round =>
    clear HR0 HV2 hB1
    obtain ⟨m, gs, hm, rfl, hbk, hgs, HR, HC, HV⟩ := hrel
    have HGS : Hid (gs.length = m) := hgs
    clear hgs
    have hgwr : g < wr.heap.size := own_lt HR.out rfl
    have hfz := own_free HR.out
    have hrl2 : rb < wr.heap.size := Nat.lt_of_lt_of_le hlt hbk.size
    by_cases hml : m < rs.length
    · obtain ⟨gv, cv, x, y, z, hv, hgv, hxyz, c0, c1, c2⟩ := HV.out.cell m hml
      simp only [Value.slice.injEq] at hv
      have hgg := hv.1
      clear hv
      subst hgg
      have hmi : (m : Int) < (rs.length : Int) := by omega
      have HTK : Hid (rs.take (m + 1) = rs.take m ++ [[x, y, z]]) := show rs.take (m + 1) = rs.take m ++ [[x, y, z]] by rw [List.take_succ_eq_append_getElem hml, hxyz]
      clear hxyz
      have HTE2 : Hid (∀ W, Below wr.heap.size wr W → Calls Tryz.prog 52 #[.pointer (some ⟨rb, 0, none⟩), .agg #[.int .i64 (x : Nat), .int .i64 (y : Nat), .int .i64 (z : Nat)], .int .i64 ar] W fun e w' => ∃ g, W.heap.size ≤ g ∧ e = .returned (.slice (some ⟨g, 0, none⟩) ar ar) ∧ Hid (SIn W.heap.size w' (.slice (some ⟨g, 0, none⟩) ar ar) (termsK ns [x, y, z] ar 3)) ∧ Below W.heap.size W w') := fun W hb => HTE.out W x y z (bnext hbk hb (Nat.le_refl _))
      have HAR2 : Hid (∀ W, Below wr.heap.size wr W → Calls Tryz.prog 53 #[.pointer (some ⟨rb, 0, none⟩), .int .i64 (fi : Nat)] W fun e w' => e = .returned (.int .i64 (ar : Nat)) ∧ w' = W) := fun W hb => HAR.out W (bnext hbk hb (Nat.le_refl _))
      go_upto_region 9 with fail
      have hg4 : Below wr.heap.size wr (wr.alloc (.cells #[.int .i64 (x : Nat), .int .i64 (y : Nat), .int .i64 (z : Nat)] 116)) := (by repeat' (first | (with_reducible exact Below.refl _ _) | (with_reducible assumption) | (with_reducible refine bdrewN ?_ _) | (with_reducible refine Below.alloc ?_ ?_ _) | (with_reducible refine Below.drew ?_) | (with_reducible refine Below.setCell ?_ ?_ _) | go_size))
      have hb10 := Box.new wr #[.int .i64 (x : Nat), .int .i64 (y : Nat), .int .i64 (z : Nat)] 116
      generalize wr.alloc (.cells #[.int .i64 (x : Nat), .int .i64 (y : Nat), .int .i64 (z : Nat)] 116) = W4 at *
      have v0 : W4.cell? ⟨wr.heap.size, 0, none⟩ = some (.int .i64 (x : Nat)) := by rw [hb10.rules.1]; rfl
      have v1 : W4.cell? ⟨wr.heap.size, 1, none⟩ = some (.int .i64 (y : Nat)) := by rw [hb10.rules.1]; rfl
      have v2 : W4.cell? ⟨wr.heap.size, 2, none⟩ = some (.int .i64 (z : Nat)) := by rw [hb10.rules.1]; rfl
      have hl3 : wr.heap.size < W4.heap.size := hb10.lt
      have hR4 := owns_below HR.out hg4
      have hgW : g < W4.heap.size := own_lt hR4 rfl
      obtain ⟨sx, hsx⟩ : ∃ sx, W4.cell? ⟨g, m, none⟩ = some sx := by
        obtain ⟨g', cap', hv', _, _, hcl'⟩ := own_cells hR4 (by omega)
        simp only [Value.slice.injEq, Option.some.injEq, Addr.mk.injEq, and_true] at hv'
        have e := hv'.1
        subst e
        exact ⟨_, hcl' m _ (List.getElem?_eq_getElem (by simp [HGS.out]; omega))⟩
      have hfW := own_free hR4
      have HR4 : Hid (W4.ownsRow w.heap.size 38 1 (.slice (some ⟨g, 0, none⟩) rs.length rs.length) rs.length (gs.map (slOf ar) ++ List.replicate (rs.length - m) (.slice none 0 0))) := hR4
      have HC4 : Hid (Copies w.heap.size W4 ((rs.take m).map (rowLit ns ar)) gs) := HC.out.mono (fun _ _ q => q.below hg4)
      have HV4 : Hid (RowsIn w.heap.size W4 (.slice (some ⟨gv, 0, none⟩) rs.length capv) rs) := HV.out.below' hg4
      have hB4 : Below w.heap.size w W4 := bnext hbk hg4 (Nat.le_refl _)
      have HTE3 : Hid (∀ W, Below W4.heap.size W4 W → Calls Tryz.prog 52 #[.pointer (some ⟨rb, 0, none⟩), .agg #[.int .i64 (x : Nat), .int .i64 (y : Nat), .int .i64 (z : Nat)], .int .i64 ar] W fun e w' => ∃ gt, W4.heap.size ≤ gt ∧ e = .returned (.slice (some ⟨gt, 0, none⟩) ar ar) ∧ Hid (SIn W4.heap.size w' (.slice (some ⟨gt, 0, none⟩) ar ar) (termsK ns [x, y, z] ar 3)) ∧ Hid (Below W4.heap.size W4 w') ∧ w'.cell? ⟨wr.heap.size, 0, none⟩ = some (.int .i64 (x : Nat)) ∧ w'.cell? ⟨wr.heap.size, 1, none⟩ = some (.int .i64 (y : Nat)) ∧ w'.cell? ⟨wr.heap.size, 2, none⟩ = some (.int .i64 (z : Nat)) ∧ w'.cell? ⟨g, m, none⟩ = some sx ∧ g < w'.heap.size ∧ ∀ o, w'.frozen? ⟨g, o, none⟩ = false) := fun W hb => by
        refine (HTE2.out W (bnext hg4 hb (Nat.le_refl _))).mono ?_
        rintro e w' ⟨gt, h1, h2, h3, h4⟩
        have hq := bnext hb h4 (Nat.le_refl _)
        have hs := hb.size
        exact ⟨gt, by omega, h2, h3.out.low hb.size, hq, (hq.cell hl3).trans v0, (hq.cell hl3).trans v1, (hq.cell hl3).trans v2, (hq.cell hgW).trans hsx, Nat.lt_of_lt_of_le hgW hq.size, own_free (owns_below HR4.out hq)⟩
      have HAR3 : Hid (∀ W, Below W4.heap.size W4 W → Calls Tryz.prog 53 #[.pointer (some ⟨rb, 0, none⟩), .int .i64 (fi : Nat)] W fun e w' => e = .returned (.int .i64 (ar : Nat)) ∧ w' = W) := fun W hb => HAR2.out W (bnext hg4 hb (Nat.le_refl _))
      clear HTE2 HAR2 hR4 hb10 hg4 HR HC HV c0 c1 c2 hgv hfz
      go_region_held3 (fun w' => w'.cell? ⟨wr.heap.size, 0, none⟩ = some (.int .i64 (x : Nat)) ∧ w'.cell? ⟨wr.heap.size, 1, none⟩ = some (.int .i64 (y : Nat)) ∧ w'.cell? ⟨wr.heap.size, 2, none⟩ = some (.int .i64 (z : Nat))) (first | go_keep | (go_simp; done)) (first | (go_at_call 52; refine (HTE3.out _ (by exact (by repeat' (first | (with_reducible exact Below.refl _ _) | (with_reducible assumption) | (with_reducible refine bdrewN ?_ _) | (with_reducible refine Below.alloc ?_ ?_ _) | (with_reducible refine Below.drew ?_) | (with_reducible refine Below.setCell ?_ ?_ _) | go_size)))).mono ?_; rintro e w5 ⟨gt, hgt, rfl, HS5, HB5, a0, a1, a2, ax, ag, af⟩) | (go_at_call 53; refine (HAR3.out _ (by exact (by repeat' (first | (with_reducible exact Below.refl _ _) | (with_reducible assumption) | (with_reducible refine bdrewN ?_ _) | (with_reducible refine Below.alloc ?_ ?_ _) | (with_reducible refine Below.drew ?_) | (with_reducible refine Below.setCell ?_ ?_ _) | go_size)))).mono ?_; rintro e w6 ⟨rfl, hww⟩; obtain rfl := hww.symm))
      have hR5 := owns_below HR4.out HB5.out
      have hML : Hid ((gs.map (slOf ar) ++ List.replicate (rs.length - m) (Value.slice none 0 0)).set m (slOf ar gt) = (gs ++ [gt]).map (slOf ar) ++ List.replicate (rs.length - (m + 1)) (Value.slice none 0 0)) := show _ = _ by
        obtain ⟨k, hk⟩ : ∃ k, rs.length - m = k + 1 := ⟨rs.length - m - 1, by omega⟩
        have hk2 : rs.length - (m + 1) = k := by omega
        rw [List.set_append, if_neg (by simp [HGS.out]), hk, hk2, List.replicate_succ]
        simp [HGS.out]
      have hset := own_set hR5 m (by simp [HGS.out]; omega) (slOf ar gt)
      rw [hML.out] at hset
      have hsv : Save [g] w5 (w5.setCell ⟨g, m, none⟩ (.slice (some ⟨gt, 0, none⟩) ar ar)) := Save.set _ _ _ _
      obtain ⟨cg, hcg⟩ := own_box hR5 (b := g) rfl
      have hOf := OfT.box hcg
      have HR6 : Hid (World.ownsRow (w5.setCell ⟨g, m, none⟩ (.slice (some ⟨gt, 0, none⟩) ar ar)) w.heap.size 38 1 (.slice (some ⟨g, 0, none⟩) rs.length rs.length) rs.length ((gs ++ [gt]).map (slOf ar) ++ List.replicate (rs.length - (m + 1)) (.slice none 0 0))) := hset
      have HC6 : Hid (Copies w.heap.size (w5.setCell ⟨g, m, none⟩ (.slice (some ⟨gt, 0, none⟩) ar ar)) ((rs.take (m + 1)).map (rowLit ns ar)) (gs ++ [gt])) := show Copies _ _ _ _ by
        rw [HTK.out, List.map_append]
        have hz := hB4.size
        refine Copies.mono (w := w5) ?_ (fun _ _ q => own_saveT q hsv hOf (by decide))
        refine (HC4.out.mono (fun _ _ q => q.below HB5.out)).snoc (l := rowLit ns ar [x, y, z]) (fun a ha => by have := HC4.out.lt a ha; omega) (by omega) ?_
        show SIn w.heap.size w5 (.slice (some ⟨gt, 0, none⟩) (termsK ns [x, y, z] ar 3).length (termsK ns [x, y, z] ar 3).length) (termsK ns [x, y, z] ar 3)
        rw [termsK_len]
        exact HS5.out.low (by omega)
      have HV6 : Hid (RowsIn w.heap.size (w5.setCell ⟨g, m, none⟩ (.slice (some ⟨gt, 0, none⟩) ar ar)) (.slice (some ⟨gv, 0, none⟩) rs.length capv) rs) := ⟨own_saveT (HV4.out.below' HB5.out).1 hsv hOf (by decide), HV4.out.2⟩
      have hB6 : Below w.heap.size w (w5.setCell ⟨g, m, none⟩ (.slice (some ⟨gt, 0, none⟩) ar ar)) := (bnext hB4 HB5.out (Nat.le_refl _)).setCell (by simpa using hgl) _
      have HGS6 : Hid ((gs ++ [gt]).length = m + 1) := show (gs ++ [gt]).length = m + 1 by simp [HGS.out]
      clear hset hR5 hsv hOf HR4 HC4 HV4 HS5 HB5 a0 a1 a2 ax ag af v0 v1 v2
      generalize w5.setCell ⟨g, m, none⟩ (.slice (some ⟨gt, 0, none⟩) ar ar) = w7 at *
      go_wp2
      go_roundw
      case rel => exact ⟨m + 1, gs ++ [gt], by omega, by go_num, hB6, HGS6.out, HR6, HC6, HV6⟩
      case measure => simp [intOf]; omega
    · obtain rfl : m = rs.length := by omega
      have q1 := HR.out
      have q2 := HC.out
      rw [Nat.sub_self, List.replicate_zero, List.append_nil] at q1
      rw [List.take_length] at q2
      have HQ : Hid (_ ∧ _) := And.intro q1 q2
      clear q1 q2 HR HC HV HGS
      go_wp2
      go_ret2
      exact ⟨g, gs, hgl, rfl, HQ.out.1, HQ.out.2, hbk⟩
end Go.Proofs.YteampbddflhngabGreat
