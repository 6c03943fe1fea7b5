import Derived.Test.YteampbddflhngabGreatB48

/- Walks: derivekeep.lot, gold, Known. -/
namespace Go.Proofs.YteampbddflhngabGreat
open Go.RowKit

/-- The texts, what follows, the errors. -/
def lotL : List (ByteArray × ByteArray × Nat) := [
  (⟨#[]⟩, ⟨#[]⟩, 11),
  (⟨#[112, 46]⟩, ⟨#[40, 41, 59]⟩, 0),
  (⟨#[112, 32, 58, 45, 32, 113, 46]⟩, ⟨#[]⟩, 0),
  (⟨#[112, 32, 58, 45, 32, 33, 113, 46]⟩, ⟨#[40, 41, 59]⟩, 0),
  (⟨#[112, 40, 97, 41, 46, 32, 112, 40, 98, 41, 46, 32, 112, 40, 97, 41, 46]⟩, ⟨#[40, 97, 41, 59, 40, 98, 41, 59]⟩, 0),
  (⟨#[113, 40, 98, 44, 97, 41, 46, 32, 113, 40, 97, 44, 98, 41, 46, 32, 112, 40, 88, 44, 88, 41, 32, 58, 45, 32, 113, 40, 88, 44, 89, 41, 46]⟩, ⟨#[40, 97, 44, 97, 41, 59, 40, 98, 44, 98, 41, 59]⟩, 0),
  (⟨#[113, 40, 97, 44, 97, 41, 46, 32, 113, 40, 97, 44, 98, 41, 46, 32, 112, 40, 88, 41, 32, 58, 45, 32, 113, 40, 88, 44, 88, 41, 46]⟩, ⟨#[40, 97, 41, 59]⟩, 0),
  (⟨#[113, 40, 49, 48, 41, 46, 32, 113, 40, 57, 41, 46, 32, 113, 40, 97, 41, 46, 32, 112, 40, 88, 41, 32, 58, 45, 32, 113, 40, 88, 41, 44, 32, 33, 114, 40, 88, 41, 46, 32, 114, 40, 57, 41, 46]⟩, ⟨#[40, 49, 48, 41, 59, 40, 97, 41, 59]⟩, 0),
  (⟨#[101, 40, 97, 44, 98, 41, 46, 32, 101, 40, 98, 44, 97, 41, 46, 32, 101, 40, 98, 44, 99, 41, 46, 32, 112, 40, 88, 41, 32, 58, 45, 32, 101, 40, 88, 44, 89, 41, 44, 32, 101, 40, 89, 44, 88, 41, 46]⟩, ⟨#[40, 97, 41, 59, 40, 98, 41, 59]⟩, 0),
  (⟨#[119, 40, 88, 41, 32, 58, 45, 32, 109, 40, 88, 44, 89, 41, 44, 32, 33, 119, 40, 89, 41, 46, 32, 109, 40, 97, 44, 98, 41, 46, 32, 109, 40, 98, 44, 99, 41, 46, 32, 112, 40, 88, 41, 32, 58, 45, 32, 119, 40, 88, 41, 46]⟩, ⟨#[]⟩, 7),
  (⟨#[112, 40, 88, 41, 32, 58, 45, 32, 113, 40, 88, 41, 44, 32, 33, 112, 40, 88, 41, 46, 32, 113, 40, 97, 41, 46]⟩, ⟨#[]⟩, 7),
  (⟨#[112, 40, 88, 41, 32, 58, 45, 32, 33, 113, 40, 88, 41, 46]⟩, ⟨#[]⟩, 6),
  (⟨#[112, 40, 88, 41, 46]⟩, ⟨#[]⟩, 6),
  (⟨#[112, 40, 88, 41, 32, 58, 45, 32, 113, 40, 89, 41, 46]⟩, ⟨#[]⟩, 6),
  (⟨#[112, 40, 97, 41, 46, 32, 112, 40, 97, 44, 98, 41, 46]⟩, ⟨#[]⟩, 5),
  (⟨#[112, 40, 97, 44, 98, 44, 99, 44, 100, 41, 46]⟩, ⟨#[]⟩, 4),
  (⟨#[112, 40, 97, 41]⟩, ⟨#[]⟩, 3),
  (⟨#[112, 40, 41, 32, 46]⟩, ⟨#[]⟩, 3),
  (⟨#[112, 32, 58, 45, 32, 46]⟩, ⟨#[]⟩, 3),
  (⟨#[33, 112, 46]⟩, ⟨#[]⟩, 3),
  (⟨#[88, 40, 97, 41, 46]⟩, ⟨#[]⟩, 3),
  (⟨#[112, 40, 97, 59, 98, 41, 46]⟩, ⟨#[]⟩, 2),
  (⟨#[112, 40, 116, 111, 111, 108, 111, 110, 103, 41, 46]⟩, ⟨#[]⟩, 2),
  (⟨#[110, 40, 122, 41, 46, 32, 115, 40, 122, 44, 97, 41, 46, 32, 115, 40, 97, 44, 98, 41, 46, 32, 115, 40, 98, 44, 99, 41, 46, 32, 101, 40, 122, 41, 46, 32, 101, 40, 89, 41, 32, 58, 45, 32, 111, 40, 88, 41, 44, 32, 115, 40, 88, 44, 89, 41, 46, 32, 111, 40, 89, 41, 32, 58, 45, 32, 101, 40, 88, 41, 44, 32, 115, 40, 88, 44, 89, 41, 46, 32, 112, 40, 88, 41, 32, 58, 45, 32, 101, 40, 88, 41, 46]⟩, ⟨#[40, 98, 41, 59, 40, 122, 41, 59]⟩, 0),
  (⟨#[97, 40, 49, 41, 46, 32, 98, 40, 50, 41, 46, 32, 99, 40, 51, 41, 46, 32, 112, 40, 88, 44, 89, 44, 90, 41, 32, 58, 45, 32, 97, 40, 88, 41, 44, 32, 98, 40, 89, 41, 44, 32, 99, 40, 90, 41, 46]⟩, ⟨#[40, 49, 44, 50, 44, 51, 41, 59]⟩, 0),
  (⟨#[113, 40, 97, 44, 98, 41, 46, 32, 112, 40, 107, 44, 89, 41, 32, 58, 45, 32, 113, 40, 97, 44, 89, 41, 44, 32, 113, 40, 88, 44, 98, 41, 44, 32, 33, 113, 40, 89, 44, 88, 41, 46]⟩, ⟨#[40, 107, 44, 98, 41, 59]⟩, 0),
  (⟨#[112, 40, 88, 41, 32, 58, 45, 32, 114, 40, 88, 41, 44, 32, 33, 115, 40, 88, 41, 46, 32, 115, 40, 88, 41, 32, 58, 45, 32, 116, 40, 88, 41, 44, 32, 33, 117, 40, 88, 41, 46, 32, 114, 40, 97, 41, 46, 32, 114, 40, 98, 41, 46, 32, 114, 40, 99, 41, 46, 32, 116, 40, 97, 41, 46, 32, 116, 40, 98, 41, 46, 32, 117, 40, 98, 41, 46]⟩, ⟨#[40, 98, 41, 59, 40, 99, 41, 59]⟩, 0)]
def lotCells : List Value := lotL.flatMap fun x => [.string x.1, .string x.2.1, .int .i64 (x.2.2 : Nat)]
def lotT (k : Nat) : ByteArray × ByteArray × Nat := lotL.getD k (ByteArray.empty, ByteArray.empty, 0)
/-- Lists of texts in memory, to be read. -/
def StrsAt (w : World) (v : Value) (ls : List (List ByteArray)) : Prop := ∃ ao cap, v = .slice ao ls.length cap ∧ ∀ i (h : i < ls.length), ∃ g gi, ao = some ⟨g, 0, none⟩ ∧ g < w.heap.size ∧ w.cell? ⟨g, i, none⟩ = some (.slice (some ⟨gi, 0, none⟩) ls[i].length ls[i].length) ∧ gi < w.heap.size ∧ ∀ j (h2 : j < ls[i].length), w.cell? ⟨gi, j, none⟩ = some (.string ls[i][j])
theorem strs_of {B : Nat} {w : World} {g : Nat} {gs : List Nat} {ns : List ByteArray} {ar : Nat} {rs : List PRow} (h1 : w.ownsRow B 38 1 (.slice (some ⟨g, 0, none⟩) rs.length rs.length) rs.length (gs.map (slOf ar))) (h2 : Copies B w (rs.map (rowLit ns ar)) gs) : StrsAt w (.slice (some ⟨g, 0, none⟩) rs.length rs.length) (rs.map fun r => termsK ns r ar 3) := by
  refine ⟨some ⟨g, 0, none⟩, rs.length, by simp, fun i hi => ?_⟩
  have hi' : i < rs.length := by simpa using hi
  have hl : gs.length = rs.length := by simpa using h2.1
  have hig : i < gs.length := by omega
  obtain ⟨g', cap', hv, _, hg, hc⟩ := own_cells h1 (by omega)
  simp only [Value.slice.injEq, Option.some.injEq, Addr.mk.injEq, and_true] at hv
  have e := hv.1
  subst e
  have hcell := hc i (slOf ar gs[i]) (by simp [hig])
  obtain ⟨_, hS⟩ := h2.2.2 i (by simpa using hi') hig
  have hS2 : SIn B w (slOf ar gs[i]) (termsK ns rs[i] ar 3) := by
    have q := hS
    simp only [List.getElem_map, rowLit, termsK_len] at q
    exact q
  have hlen : (rs.map fun r => termsK ns r ar 3)[i].length = ar := by simp [termsK_len]
  refine ⟨g, gs[i], rfl, hg, ?_, own_lt (b := gs[i]) hS2 rfl, fun j hj => ?_⟩
  · rw [hlen]; exact hcell
  · rw [hlen] at hj
    obtain ⟨gj, hvj, hgj, hcj⟩ := hS2.cell j (by rw [termsK_len]; exact hj)
    simp only [Option.some.injEq, Addr.mk.injEq, and_true] at hvj
    subst hvj
    simpa using hcj
def rowsK (fuel : Nat) (t : List PEnt) (ns : List ByteArray) (R : PRun) (pred : ByteArray) : Option (List (List ByteArray) × Nat) :=
  if (entAt t pred).isSome && decide (findN t pred < R.rows.length) then (rowsB fuel t R pred).map fun rs => (rs.map (fun r => termsK ns r (arityN t (findN t pred)) 3), 0) else some ([], 11)
theorem rowsK_any {lo lp : Nat} (w : World) (rb : Nat) (t : List PEnt) (ns : List ByteArray) (R : PRun) (pv nv rv : Value) (tbs : List Nat) (pred : ByteArray) (h : ResO lo lp w rb t ns R pv nv rv tbs) (fuel : Nat) (ls : List (List ByteArray)) (en : Nat) (hk : rowsK fuel t ns R pred = some (ls, en)) :
    Calls Tryz.prog 28 #[.pointer (some ⟨rb, 0, none⟩), .string pred] w fun e w' => ∃ v, e = .returned (.tuple #[v, .int .i64 (en : Nat)]) ∧ StrsAt w' v ls ∧ Below w.heap.size w w' := by
  unfold rowsK at hk
  split at hk
  · rename_i hc
    simp only [Option.map_eq_some_iff, Prod.mk.injEq] at hk
    obtain ⟨rs, hr, rfl, rfl⟩ := hk
    obtain ⟨h1, h2, h3, h4⟩ := rowsB_some hr
    refine (rrows_any w rb t ns R pv nv rv tbs pred h h1 h3 fuel rs h4 h2).mono ?_
    rintro e w' ⟨g, gs, q1, q2, q3, q4, q5⟩
    exact ⟨_, q2, strs_of q3 q4, q5⟩
  · rename_i hc
    simp only [Option.some.injEq, Prod.mk.injEq] at hk
    obtain ⟨rfl, rfl⟩ := hk
    refine (rrows_none w rb t ns R pv nv rv tbs pred h (by
      simp only [Bool.and_eq_true, decide_eq_true_eq] at hc
      by_cases q : (entAt t pred).isSome = true
      · exact Or.inr (Nat.le_of_not_lt fun q2 => hc ⟨q, q2⟩)
      · exact Or.inl (by simpa using q))).mono ?_
    rintro e w' ⟨rfl, rfl⟩
    exact ⟨_, rfl, ⟨none, 0, rfl, fun i hi => by simp at hi⟩, Below.refl _ _⟩
/-- A row's terms with commas, j of them. -/
def tK (row : List ByteArray) : Nat → ByteArray
  | 0 => ByteArray.empty
  | j + 1 => (if j > 0 then tK row j ++ ⟨#[44]⟩ else tK row j) ++ row.getD j ByteArray.empty
def sK (ls : List (List ByteArray)) : Nat → ByteArray
  | 0 => ByteArray.empty
  | i + 1 => sK ls i ++ ⟨#[40]⟩ ++ tK (ls.getD i []) (ls.getD i []).length ++ ⟨#[41, 59]⟩
theorem tK_size {row : List ByteArray} (h : ∀ t ∈ row, t.size ≤ 1000) : ∀ j, (tK row j).size ≤ j * 1001
  | 0 => by simp [tK]
  | j + 1 => by
    have ih := tK_size h j
    have h1 : (row.getD j ByteArray.empty).size ≤ 1000 := by
      by_cases hj : j < row.length
      · rw [show row.getD j ByteArray.empty = row[j] by simp [List.getD, hj]]; exact h _ (List.getElem_mem hj)
      · rw [show row.getD j ByteArray.empty = ByteArray.empty by simp [List.getD, hj]]; exact Nat.zero_le _
    have h2 : (⟨#[44]⟩ : ByteArray).size = 1 := rfl
    show ((if j > 0 then tK row j ++ ⟨#[44]⟩ else tK row j) ++ row.getD j ByteArray.empty).size ≤ _
    rw [ByteArray.size_append]
    split
    · rw [ByteArray.size_append, h2]; omega
    · omega
theorem sK_size {ls : List (List ByteArray)} (h : ∀ l ∈ ls, l.length ≤ 1000 ∧ ∀ t ∈ l, t.size ≤ 1000) : ∀ m, (sK ls m).size ≤ m * 1001003
  | 0 => by simp [sK]
  | m + 1 => by
    have ih := sK_size h m
    have h1 : (tK (ls.getD m []) (ls.getD m []).length).size ≤ 1001000 := by
      by_cases hm : m < ls.length
      · rw [show ls.getD m [] = ls[m] by simp [List.getD, hm]]
        have := h _ (List.getElem_mem hm)
        have := tK_size this.2 ls[m].length
        have : ls[m].length * 1001 ≤ 1000 * 1001 := Nat.mul_le_mul_right _ (h _ (List.getElem_mem hm)).1
        omega
      · rw [show ls.getD m [] = [] by simp [List.getD, hm]]; simp [tK]
    have h2 : (⟨#[40]⟩ : ByteArray).size = 1 := rfl
    have h3 : (⟨#[41, 59]⟩ : ByteArray).size = 2 := rfl
    show (sK ls m ++ ⟨#[40]⟩ ++ tK (ls.getD m []) (ls.getD m []).length ++ ⟨#[41, 59]⟩).size ≤ _
    rw [ByteArray.size_append, ByteArray.size_append, ByteArray.size_append, h2, h3]
    omega
def bP : ByteArray := ⟨#[112]⟩
def goldB (text want : ByteArray) (en : Nat) : Bool := match compB text with
  | .error n => decide (n = (en : Int)) && decide (n ≠ 0)
  | .ok (cs, t) => okB cs t && match runP 400 (makeM t (collectC cs) none cs) 4096 4096 with
    | some (some R) => match rowsK 400 t (collectC cs) R bP with
      | some (ls, e) => decide (e = en) && (decide (sK ls ls.length = want) && (decide (ls.length ≤ 1000) && ls.all fun l => decide (l.length ≤ 1000) && l.all fun t => decide (t.size ≤ 1000)))
      | none => false
    | _ => false

set_option maxRecDepth 100000 in
set_option maxHeartbeats 4000000 in
theorem lot_any (w : World) : Calls Tryz.prog 27 #[] w fun e w' => e = .returned (.slice (some ⟨w.heap.size, 0, none⟩) 27 27) ∧ Box w' w.heap.size lotCells.toArray 58 ∧ Below w.heap.size w w' := by
  go_enter Tryz.func27, Tryz.ntmps27
  go_wp2
  go_ret
  exact ⟨rfl, Box.new w _ _, (by repeat' (first | (with_reducible exact Below.refl _ _) | (with_reducible assumption) | (with_reducible refine bdrewN ?_ _) | (with_reducible refine Below.alloc ?_ ?_ _) | (with_reducible refine Below.drew ?_) | (with_reducible refine Below.setCell ?_ ?_ _) | go_size))⟩
theorem lot_cell (k : Nat) (hk : k < 27) : lotCells.toArray[k * 3]? = some (.string (lotT k).1) ∧ lotCells.toArray[k * 3 + 1]? = some (.string (lotT k).2.1) ∧ lotCells.toArray[k * 3 + 2]? = some (.int .i64 ((lotT k).2.2 : Nat)) := by
  have h : k = 0 ∨ k = 1 ∨ k = 2 ∨ k = 3 ∨ k = 4 ∨ k = 5 ∨ k = 6 ∨ k = 7 ∨ k = 8 ∨ k = 9 ∨ k = 10 ∨ k = 11 ∨ k = 12 ∨ k = 13 ∨ k = 14 ∨ k = 15 ∨ k = 16 ∨ k = 17 ∨ k = 18 ∨ k = 19 ∨ k = 20 ∨ k = 21 ∨ k = 22 ∨ k = 23 ∨ k = 24 ∨ k = 25 ∨ k = 26 := by omega
  rcases h with rfl | rfl | rfl | rfl | rfl | rfl | rfl | rfl | rfl | rfl | rfl | rfl | rfl | rfl | rfl | rfl | rfl | rfl | rfl | rfl | rfl | rfl | rfl | rfl | rfl | rfl | rfl <;> exact ⟨rfl, rfl, rfl⟩
end Go.Proofs.YteampbddflhngabGreat
