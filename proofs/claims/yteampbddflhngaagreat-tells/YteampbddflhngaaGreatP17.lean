import Derived.Test.YteampbddflhngaaGreatRows
import Derived.Test.YteampbddflhngaaGreatP16
import Derived.ProofKit
import Derived.ChangeSlices
import Derived.Deep.Slices
import Derived.Deep.Strs
import Derived.SizedLaws

/- A script as the caller hands it over: opened. -/
namespace Go.Proofs.YteampbddflhngaaGreat
open Go.ChangeShapes Go.WideShapes Go.ChangeAt Go.RowKit Go.Deep

theorem Tryz.own : ownKnob Tryz.prog.godebug = none := by kernel_rfl
theorem Tryz.laidOut : laidOutB Tryz.prog = true := by kernel_rfl
theorem Tryz.cellsOp : Tryz.prog.cellsOf 67 = 5 := by kernel_rfl
theorem Tryz.cellsInt : Tryz.prog.cellsOf 3 = 1 := by kernel_rfl
theorem Tryz.cellsStr : Tryz.prog.cellsOf 9 = 1 := by kernel_rfl
theorem Tryz.bytesOp : Tryz.prog.bytesOf 67 = 48 := by kernel_rfl
theorem reach_eq : reachBytes = 140737488351232 := rfl
/-- The numbers of a step are numbers of Go's int. -/
def InR (x : POp) : Prop := (-9223372036854775808 ≤ x.a ∧ x.a ≤ 9223372036854775807) ∧ (-9223372036854775808 ≤ x.b ∧ x.b ≤ 9223372036854775807) ∧ (-9223372036854775808 ≤ x.c ∧ x.c ≤ 9223372036854775807)
theorem weightsAll_mem {H : Type} {P : Program} {e : TypeId} : ∀ {l : List (DataW H)} {d : DataW H}, d ∈ l → ∀ n ∈ d.weights P e, n ∈ DataW.weightsAll P e l
  | [], _, h => by cases h
  | a :: l, d, h => by
    intro n hn
    simp only [DataW.weightsAll, List.mem_append]
    rcases List.mem_cons.1 h with rfl | h
    · exact Or.inl hn
    · exact Or.inr (weightsAll_mem h n hn)
theorem cell_lt {w : World} {b o : Nat} {u : Value} (h : w.cell? ⟨b, o, none⟩ = some u) : b < w.heap.size := by
  unfold World.cell? at h
  false_or_by_contra
  rename_i hn
  rw [Array.getElem?_eq_none (by simpa using hn)] at h
  simp at h
set_option maxRecDepth 100000 in
theorem op_cells {H : Type} {enc : TypeId × Value → H} {W : World} {fuel : Nat} {cs' : List Value} {x : DataW H × List MemPlace} (h : DataW.trod enc Tryz.prog W 0 (fun _ => true) true fuel 67 cs' = some x) :
    ∃ y : POp, cs' = [.int .i64 y.kind, .int .i64 y.a, .int .i64 y.b, .int .i64 y.c, .string y.s] ∧ y.s.size ∈ x.1.weights Tryz.prog 67 ∧ InR y := by
  obtain ⟨xs, n, _, rfl, hl, hlen, hf⟩ := DataW.trod_struct Tryz.underlying67 h
  rw [Tryz.cellsOp] at hl
  match xs, hlen, cs', hl with
  | [y0, y1, y2, y3, y4], _, [c0, c1, c2, c3, c4], _ =>
    have f0 := hf 0 _ rfl
    have f1 := hf 1 _ rfl
    have f2 := hf 2 _ rfl
    have f3 := hf 3 _ rfl
    have f4 := hf 4 _ rfl
    simp [Tryz.cellsInt, Tryz.cellsStr] at f0 f1 f2 f3 f4
    obtain ⟨k, hk, _, _⟩ := DataW.trod_int Tryz.underlying3 f0
    obtain ⟨a, ha, _, ha2⟩ := DataW.trod_int Tryz.underlying3 f1
    obtain ⟨b, hb, _, hb2⟩ := DataW.trod_int Tryz.underlying3 f2
    obtain ⟨c, hc, _, hc2⟩ := DataW.trod_int Tryz.underlying3 f3
    obtain ⟨s, hs, hs2, _⟩ := DataW.trod_string Tryz.underlying9 f4
    simp at hk ha hb hc hs
    refine ⟨⟨k, a, b, c, s⟩, by simp [hk, ha, hb, hc, hs], ?_, bounds_i64 ha2, bounds_i64 hb2, bounds_i64 hc2⟩
    simp [DataW.weights, DataW.weightsEach, Tryz.underlying67, hs2]
theorem open_ops {H : Type} {enc : TypeId × Value → H} {W : World} {fuel : Nat} {v0 : Value} {x : DataW H × List MemPlace} (hf : DataW.trod enc Tryz.prog W 0 (fun _ => true) true fuel 22 [v0] = some x)
    (hsz : (DataW.weightsEach Tryz.prog [22] [x.1]).all (· ≤ reachBytes) = true) : ∃ l, OIn W v0 l ∧ ∀ x ∈ l, InR x := by
  rcases open_slice Tryz.underlying22 hf with ⟨hcs, _⟩ | ⟨a, len, cap, m, n, D, Pl, hcs, _, hl, hm, hmm, hx, hel⟩
  · simp at hcs
    subst hcs
    exact ⟨[], ⟨⟨none, 0, rfl⟩, fun k hk => by simp at hk, by simp, fun x hx => by cases hx⟩, fun x hx => by cases hx⟩
  · simp at hcs
    subst hcs
    simp only [if_true] at hmm
    subst hmm
    subst hx
    have hw := sized_slice hsz (j := 0) rfl rfl Tryz.underlying22
    rw [Tryz.bytesOp, reach_eq] at hw
    simp at hw
    have hall : ∀ i, ∃ y : POp, i < len → (∃ cs', W.cells? 0 (a.add (i * 5)) 5 = some cs' ∧ cs' = [.int .i64 y.kind, .int .i64 y.a, .int .i64 y.b, .int .i64 y.c, .string y.s]) ∧ y.s.size ≤ 140737488351232 ∧ InR y := by
      intro i
      by_cases hi : i < len
      · obtain ⟨cs', hc, ht⟩ := hel i (by omega)
        rw [Tryz.cellsOp] at hc
        obtain ⟨y, hy, hyw, hyr⟩ := op_cells ht
        refine ⟨y, fun _ => ⟨⟨cs', hc, hy⟩, ?_, hyr⟩⟩
        rw [← reach_eq]
        refine of_decide_eq_true (List.all_eq_true.1 hsz _ (DataW.weights_mem_each (j := 0) rfl rfl _ ?_))
        simp only [DataW.weights, Tryz.underlying22, List.mem_cons, List.mem_append]
        exact Or.inr (Or.inl (weightsAll_mem (List.mem_map.2 ⟨i, List.mem_range.2 hi, rfl⟩) _ hyw))
      · exact ⟨⟨0, 0, 0, 0, ByteArray.empty⟩, fun h => absurd h hi⟩
    obtain ⟨Y, hY⟩ := Classical.axiomOfChoice hall
    obtain ⟨b, off, spot⟩ := a
    refine ⟨(List.range len).map Y, ⟨⟨some ⟨b, off, spot⟩, m, by simp⟩, ?_, by simp; omega, ?_⟩, ?_⟩
    · intro k hk
      have hk' : k < len := by simpa using hk
      obtain ⟨⟨cs', hc, hcs⟩, _⟩ := hY k hk'
      obtain ⟨_, _, hcell⟩ := World.cells?_some hc
      have h0 := hcell 0 (by omega)
      have h1 := hcell 1 (by omega)
      have h2 := hcell 2 (by omega)
      have h3 := hcell 3 (by omega)
      have h4 := hcell 4 (by omega)
      subst hcs
      have hspot : spot = none := by
        obtain ⟨⟨cs2, hc2, hcs2⟩, _⟩ := hY 0 (by omega)
        obtain ⟨_, _, hcell2⟩ := World.cells?_some hc2
        subst hcs2
        have := hcell2 0 (by omega)
        simpa [Addr.add] using World.cell?_spot this
      subst hspot
      have hadd : ∀ j, (Addr.add ⟨b, off, none⟩ (k * 5)).add j = ⟨b, off + k * 5 + j, none⟩ := by
        intro j; unfold Addr.add; split <;> split <;> simp_all
      simp only [hadd] at h0 h1 h2 h3 h4
      simp at h0 h1 h2 h3 h4
      simp only [List.getElem_map, List.getElem_range]
      exact ⟨b, off, m, by simp, cell_lt h0, h0, h1, h2, h3, h4⟩
    · intro x hx
      obtain ⟨i, hi, rfl⟩ := List.mem_map.1 hx
      have := (hY i (List.mem_range.1 hi)).2.1
      omega
    · intro x hx
      obtain ⟨i, hi, rfl⟩ := List.mem_map.1 hx
      exact (hY i (List.mem_range.1 hi)).2.2
end Go.Proofs.YteampbddflhngaaGreat
