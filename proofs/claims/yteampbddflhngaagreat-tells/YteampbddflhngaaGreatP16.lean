import Derived.Test.YteampbddflhngaaGreatP02
import Derived.Test.YteampbddflhngaaGreatP04
import Derived.Test.YteampbddflhngaaGreatP14
import Derived.Test.YteampbddflhngaaGreatP15

/- Walks: derivelaw.small, derivelaw.mine. -/
namespace Go.Proofs.YteampbddflhngaaGreat
open Go.RowKit

structure POp where
  kind : Int
  a : Int
  b : Int
  c : Int
  s : ByteArray
/-- A script in memory, the caller's or the call's own. -/
structure OIn (w : World) (v : Value) (l : List POp) : Prop where
  shape : ∃ ao cap, v = .slice ao l.length cap
  cells : ∀ k (hk : k < l.length), ∃ b o cap, v = .slice (some ⟨b, o, none⟩) l.length cap ∧ b < w.heap.size ∧ w.cell? ⟨b, o + k * 5, none⟩ = some (.int .i64 l[k].kind) ∧ w.cell? ⟨b, o + k * 5 + 1, none⟩ = some (.int .i64 l[k].a) ∧
    w.cell? ⟨b, o + k * 5 + 2, none⟩ = some (.int .i64 l[k].b) ∧ w.cell? ⟨b, o + k * 5 + 3, none⟩ = some (.int .i64 l[k].c) ∧ w.cell? ⟨b, o + k * 5 + 4, none⟩ = some (.string l[k].s)
  len : l.length ≤ 281474976710656
  fits : ∀ x ∈ l, x.s.size ≤ 281474976710656
theorem OIn.below {w w' : World} {v : Value} {l : List POp} (h : OIn w v l) (hb : Below w.heap.size w w') : OIn w' v l :=
  ⟨h.shape, fun k hk => by
    obtain ⟨b, o, cap, hv, hlt, h0, h1, h2, h3, h4⟩ := h.cells k hk
    exact ⟨b, o, cap, hv, Nat.lt_of_lt_of_le hlt hb.size, (hb.cell (p := ⟨b, _, none⟩) hlt).trans h0, (hb.cell (p := ⟨b, _, none⟩) hlt).trans h1, (hb.cell (p := ⟨b, _, none⟩) hlt).trans h2, (hb.cell (p := ⟨b, _, none⟩) hlt).trans h3, (hb.cell (p := ⟨b, _, none⟩) hlt).trans h4⟩, h.len, h.fits⟩
theorem OIn.cell {w : World} {ao : Option Addr} {n cap : Nat} {l : List POp} (h : OIn w (.slice ao n cap) l) (k : Nat) (hk : k < l.length) : ∃ b o, ao = some ⟨b, o, none⟩ ∧ b < w.heap.size ∧ w.cell? ⟨b, o + k * 5, none⟩ = some (.int .i64 l[k].kind) ∧ w.cell? ⟨b, o + k * 5 + 1, none⟩ = some (.int .i64 l[k].a) ∧
    w.cell? ⟨b, o + k * 5 + 2, none⟩ = some (.int .i64 l[k].b) ∧ w.cell? ⟨b, o + k * 5 + 3, none⟩ = some (.int .i64 l[k].c) ∧ w.cell? ⟨b, o + k * 5 + 4, none⟩ = some (.string l[k].s) := by
  obtain ⟨b, o, cap', hv, r⟩ := h.cells k hk
  simp at hv
  exact ⟨b, o, hv.1, r⟩
def sizes (l : List POp) : Nat := (l.map fun x => x.s.size).sum
theorem sizes_take (l : List POp) (k : Nat) (hk : k < l.length) : sizes (l.take (k + 1)) = sizes (l.take k) + l[k].s.size := by
  unfold sizes; rw [List.take_succ_eq_append_getElem hk, List.map_append, List.sum_append]; simp

def smallB (l : List POp) : Bool := decide (l.length + sizes l ≤ 1048576)
theorem sizes_le (l : List POp) (k : Nat) : sizes (l.take k) ≤ sizes l := by
  have : sizes l = sizes (l.take k) + sizes (l.drop k) := by unfold sizes; rw [← List.sum_append, ← List.map_append, List.take_append_drop]
  omega

set_option maxRecDepth 100000 in
set_option maxHeartbeats 2000000 in
theorem small_any (w : World) (v : Value) (l : List POp) (h : OIn w v l) :
    Calls Tryz.prog 28 #[v] w fun e w' => e = .returned (.bool (smallB l)) ∧ w' = w := by
  obtain ⟨ao, cap, rfl⟩ := h.shape
  have hlen := h.len
  have HF : Hid (∀ x ∈ l, x.s.size ≤ 281474976710656) := h.fits
  by_cases hbig : 1048576 < l.length
  · have HS : Hid (smallB l = false) := by unfold Hid smallB; rw [decide_eq_false_iff_not]; omega
    go_enter Tryz.func28, Tryz.ntmps28
    go_wp2
    go_ret
    exact ⟨by rw [HS.out]; rfl, rfl⟩
  · go_enter Tryz.func28, Tryz.ntmps28
    go_wp2
    go_loop [3, 4] (fun v2 v3 => ∃ k n : Nat, k ≤ l.length ∧ v3 = .int .i64 k ∧ v2 = .int .i64 n ∧ n ≤ 1048576 ∧ Hid (n = l.length + sizes (l.take k))) (fun _ i => l.length - (intOf i).toNat)
    case atStart => exact ⟨0, l.length, Nat.zero_le _, rfl, rfl, by omega, by simp [Hid, sizes]⟩
    case round =>
      obtain ⟨k, n, hk, rfl, rfl, hn, H⟩ := hrel
      by_cases hlt : k < l.length
      · obtain ⟨b, o, rfl, hb, _, _, _, _, hc⟩ := h.cell k hlt
        have hsz := HF.out _ (List.getElem_mem hlt)
        have H2 : Hid (n + l[k].s.size = l.length + sizes (l.take (k + 1))) := by rw [Hid, sizes_take l k hlt, H.out]; omega
        clear H
        generalize l[k] = x at *
        generalize x.s = s at *
        by_cases hgt : 1048576 < n + s.size
        · have HS : Hid (smallB l = false) := by unfold Hid smallB; rw [decide_eq_false_iff_not]; have := H2.out; have := sizes_le l (k + 1); omega
          go_wp2
          go_ret
          exact ⟨by rw [HS.out]; rfl, rfl⟩
        · go_wp2
          go_round
          case rel => exact ⟨k + 1, n + s.size, by omega, by go_num, by go_num, by omega, H2⟩
          case measure => simp [intOf]; omega
      · have HS : Hid (smallB l = true) := by unfold Hid smallB; rw [decide_eq_true_iff]; have := H.out; rw [List.take_of_length_le (by omega)] at this; omega
        clear H
        go_wp2
        go_ret
        exact ⟨by rw [HS.out]; rfl, rfl⟩

set_option maxRecDepth 100000 in
set_option maxHeartbeats 2000000 in
theorem mine_any (w : World) (k : Int) :
    Calls Tryz.prog 29 #[.int .i64 k] w fun e w' => e = .returned (.bool (k == 9 || k == 17)) ∧ w' = w := by
  go_enter Tryz.func29, Tryz.ntmps29
  cases h9 : (k == 9) with
  | true => go_wp2; go_ret; exact ⟨rfl, rfl⟩
  | false =>
    cases h17 : (k == 17) with
    | true => go_wp2; go_ret; exact ⟨rfl, rfl⟩
    | false => go_wp2; go_ret; exact ⟨rfl, rfl⟩
end Go.Proofs.YteampbddflhngaaGreat

/- Walks: derivelaw.plays, without orders. -/
namespace Go.Proofs.YteampbddflhngaaGreat
open Go.RowKit

theorem Tryz.infoOp : (Tryz.prog.info? 67).map (fun i => (i.zero, i.size, i.bytes)) = some (some (.agg #[.int .i64 0, .int .i64 0, .int .i64 0, .int .i64 0, .string ByteArray.empty]), 5, 48) := by kernel_rfl
def ocells (l : List POp) : List Value := l.flatMap fun x => [.int .i64 x.kind, .int .i64 x.a, .int .i64 x.b, .int .i64 x.c, .string x.s]
theorem ocells_len (l : List POp) : (ocells l).length = l.length * 5 := by
  induction l with
  | nil => rfl
  | cons a l ih => simp [ocells] at ih ⊢; omega
theorem ocells_snoc (l : List POp) (x : POp) : ocells (l ++ [x]) = ocells l ++ [.int .i64 x.kind, .int .i64 x.a, .int .i64 x.b, .int .i64 x.c, .string x.s] := by simp [ocells]
theorem ocells_at : ∀ (l : List POp) (k : Nat) (hk : k < l.length), (ocells l)[k * 5]? = some (.int .i64 l[k].kind) ∧ (ocells l)[k * 5 + 1]? = some (.int .i64 l[k].a) ∧ (ocells l)[k * 5 + 2]? = some (.int .i64 l[k].b) ∧ (ocells l)[k * 5 + 3]? = some (.int .i64 l[k].c) ∧ (ocells l)[k * 5 + 4]? = some (.string l[k].s)
  | [], k, hk => by simp at hk
  | a :: l, 0, _ => by simp [ocells]
  | a :: l, k + 1, hk => by
    have := ocells_at l k (by simpa using hk)
    simp only [ocells, List.flatMap_cons] at this ⊢
    rw [show (k + 1) * 5 = k * 5 + 1 + 1 + 1 + 1 + 1 from by omega, show k * 5 + 1 + 1 + 1 + 1 + 1 + 1 = k * 5 + 1 + 1 + 1 + 1 + 1 + 1 from rfl, show k * 5 + 1 + 1 + 1 + 1 + 1 + 2 = k * 5 + 2 + 1 + 1 + 1 + 1 + 1 from by omega, show k * 5 + 1 + 1 + 1 + 1 + 1 + 3 = k * 5 + 3 + 1 + 1 + 1 + 1 + 1 from by omega, show k * 5 + 1 + 1 + 1 + 1 + 1 + 4 = k * 5 + 4 + 1 + 1 + 1 + 1 + 1 from by omega]
    simpa using this
theorem OIn.own {w : World} {base : Nat} {v : Value} {l : List POp} (h : w.ownsRow base 67 5 v l.length (ocells l)) (hl : l.length ≤ 281474976710656) (hf : ∀ x ∈ l, x.s.size ≤ 281474976710656) : OIn w v l := by
  refine ⟨own_view h, fun k hk => ?_, hl, hf⟩
  obtain ⟨g, cap, hv, _, hg, hc⟩ := own_cells h (by omega)
  obtain ⟨h0, h1, h2, h3, h4⟩ := ocells_at l k hk
  refine ⟨g, 0, cap, hv, hg, ?_, ?_, ?_, ?_, ?_⟩
  · rw [Nat.zero_add]; exact hc _ _ h0
  · rw [Nat.zero_add]; exact hc _ _ h1
  · rw [Nat.zero_add]; exact hc _ _ h2
  · rw [Nat.zero_add]; exact hc _ _ h3
  · rw [Nat.zero_add]; exact hc _ _ h4
theorem sizes_mem {l : List POp} {x : POp} (h : x ∈ l) : x.s.size ≤ sizes l := by
  induction l with
  | nil => cases h
  | cons a l ih =>
    simp only [sizes, List.map_cons, List.sum_cons] at ih ⊢
    rcases List.mem_cons.1 h with rfl | h
    · omega
    · have := ih h; omega
def KIn (w : World) (v : Value) (ks : List Int) : Prop := ∃ base, w.ownsRow base 3 1 v ks.length (ks.map (Value.int .i64))
theorem KIn.below {w w' : World} {v : Value} {l : List Int} (h : KIn w v l) (hb : Below w.heap.size w w') : KIn w' v l := by obtain ⟨b, h⟩ := h; exact ⟨b, owns_below h hb⟩
theorem KIn.shape {w : World} {v : Value} {l : List Int} (h : KIn w v l) : ∃ ao cap, v = .slice ao l.length cap := by obtain ⟨b, h⟩ := h; exact own_view h
theorem KIn.cell {w : World} {ao : Option Addr} {n cap : Nat} {ks : List Int} (h : KIn w (.slice ao n cap) ks) (k : Nat) (hk : k < ks.length) : ∃ g, ao = some ⟨g, 0, none⟩ ∧ g < w.heap.size ∧ w.cell? ⟨g, k, none⟩ = some (.int .i64 ks[k]) := by
  obtain ⟨base, ho⟩ := h
  obtain ⟨g, cap', hv, _, hg, hcl⟩ := own_cells ho (by omega)
  simp at hv
  exact ⟨g, hv.1, hg, hcl k _ (by simp [hk])⟩
/-- The kinds that are played. -/
def Kept (ks : List Int) (k : Int) : Prop := k = 9 ∨ k = 17 ∨ k ∈ ks
/-- What upTo has to keep. -/
def UpTo (l : List POp) (ks : List Int) : Prop := ∀ W v' l', OIn W v' l' → (∀ x ∈ l', x ∈ l ∧ Kept ks x.kind) → l'.length ≤ 1048576 → (∀ x ∈ l', x.s.size ≤ 1048576) → Calls Tryz.prog 31 #[v'] W fun e w' => e = .returned (.int .i64 (-1)) ∧ Below W.heap.size W w'

set_option maxRecDepth 100000 in
set_option maxHeartbeats 4000000 in
theorem plays_any (w : World) (v : Value) (l : List POp) (h : OIn w v l) (kv : Value) (ks : List Int) (hks : KIn w kv ks) (hkl : ks.length ≤ 20) (hup : UpTo l ks) :
    Calls Tryz.prog 15 #[v, .bool false, kv] w fun e w' => e = .returned (.bool true) ∧ Below w.heap.size w w' := by
  obtain ⟨i0, hi, hz0, hzs, hzb⟩ := info_parts Tryz.infoOp
  obtain ⟨ao, cap, rfl⟩ := h.shape
  obtain ⟨aok, capk, rfl⟩ := hks.shape
  have HUP : Hid (UpTo l ks) := hup
  have HSM : Hid (Calls Tryz.prog 28 #[.slice ao l.length cap] w fun e w' => e = .returned (.bool (smallB l)) ∧ w' = w) := small_any w _ l h
  have hsb : smallB l = decide (l.length + sizes l ≤ 1048576) := rfl
  clear hup
  cases hsm : smallB l with
  | false =>
    rw [hsm] at HSM
    clear hsb hsm
    go_enter Tryz.func15, Tryz.ntmps15
    go_wp2_with (first | (go_at_call 28; refine HSM.out.mono ?_; rintro e w' ⟨rfl, hww⟩; obtain rfl := hww.symm; clear HSM))
    go_ret
    exact ⟨rfl, Below.refl _ _⟩
  | true =>
    rw [hsm] at HSM hsb
    have hsz := of_decide_eq_true hsb.symm
    have HF : Hid (∀ x ∈ l, x.s.size ≤ 1048576) := fun x hx => by have := sizes_mem hx; omega
    have hln : l.length ≤ 1048576 := by omega
    clear hsb hsm hsz
    go_enter Tryz.func15, Tryz.ntmps15
    go_wp2_with (first | (go_at_call 28; refine HSM.out.mono ?_; rintro e w' ⟨rfl, hww⟩; obtain rfl := hww.symm; clear HSM))
    go_loopw [8, 9] (fun v8 v9 wr => ∃ (k : Nat) (acc : List POp), k ≤ l.length ∧ v9 = .int .i64 k ∧ acc.length ≤ k ∧ Below w.heap.size w wr ∧ wr.ownsRow w.heap.size 67 5 v8 acc.length (ocells acc) ∧ Hid (∀ x ∈ acc, x ∈ l ∧ Kept ks x.kind)) (fun _ i _ => l.length - (intOf i).toNat)
    case atStart => exact ⟨0, [], Nat.zero_le _, rfl, Nat.le_refl _, Below.refl _ _, World.ownsRow_nil _ _ _ _, fun x hx => by cases hx⟩
    case round =>
      obtain ⟨k, acc, hk, rfl, hak, hbk, hown, HA⟩ := hrel
      obtain ⟨aoa, capa, rfl⟩ := own_view hown
      have hszk := hbk.size
      by_cases hlt : k < l.length
      · obtain ⟨b, o, rfl, hb, h0, h1, h2, h3, h4⟩ := h.cell k hlt
        have hx0 := (hbk.cell (p := ⟨b, o + k * 5, none⟩) hb).trans h0
        have hx1 := (hbk.cell (p := ⟨b, o + k * 5 + 1, none⟩) hb).trans h1
        have hx2 := (hbk.cell (p := ⟨b, o + k * 5 + 2, none⟩) hb).trans h2
        have hx3 := (hbk.cell (p := ⟨b, o + k * 5 + 3, none⟩) hb).trans h3
        have hx4 := (hbk.cell (p := ⟨b, o + k * 5 + 4, none⟩) hb).trans h4
        have hbr : b < wr.heap.size := by omega
        have HM : Hid (l[k] ∈ l) := List.getElem_mem hlt
        clear h0 h1 h2 h3 h4
        generalize l[k] = x at *
        obtain ⟨w4, rfl⟩ : ∃ w4, w4 = wr := ⟨wr, rfl⟩
        go_wp2_with (first | (go_at_call 29; refine (mine_any _ _).mono ?_; rintro e w' ⟨rfl, hww⟩; obtain rfl := hww.symm))
        go_loopw [11, 13] (fun v11 v13 wj => ∃ (j : Nat) (bb : Bool), j ≤ ks.length ∧ v13 = .int .i64 j ∧ v11 = .bool bb ∧ Below w4.heap.size w4 wj ∧ Hid (bb = true → Kept ks x.kind)) (fun _ i _ => ks.length - (intOf i).toNat)
        case atStart => exact ⟨0, _, Nat.zero_le _, rfl, rfl, Below.refl _ _, (by intro h; simp at h; unfold Kept; rcases h with h | h <;> simp [h])⟩
        case round =>
          obtain ⟨j, bb, hj, rfl, rfl, hbj, HB⟩ := hrel
          have hBj := bnext hbk hbj (Nat.le_refl _)
          have hszj := hbj.size
          by_cases hjl : j < ks.length
          · obtain ⟨gk, rfl, hgk, hck⟩ := hks.cell j hjl
            have hxk := (hBj.cell (p := ⟨gk, j, none⟩) hgk).trans hck
            have hgr : gk < wr.heap.size := by have := hBj.size; omega
            have HKM : Hid (ks[j] ∈ ks) := List.getElem_mem hjl
            clear hck
            generalize ks[j] = q at *
            cases bb with
            | true =>
              go_wp2
              go_roundw
              case rel => exact ⟨j + 1, true, by omega, by go_num, rfl, (by repeat' (first | (with_reducible exact Below.refl _ _) | (with_reducible assumption) | (with_reducible refine bdrewN ?_ _) | (with_reducible refine Below.alloc ?_ ?_ _) | (with_reducible refine Below.drew ?_) | (with_reducible refine Below.setCell ?_ ?_ _) | go_size)), HB⟩
              case measure => simp [intOf]; omega
            | false =>
              cases hq : (x.kind == q) with
              | true =>
                have HB2 : Hid (Kept ks x.kind) := by have h' := eq_of_beq hq; subst h'; exact Or.inr (Or.inr HKM.out)
                go_wp2
                go_roundw
                case rel => exact ⟨j + 1, true, by omega, by go_num, rfl, (by repeat' (first | (with_reducible exact Below.refl _ _) | (with_reducible assumption) | (with_reducible refine bdrewN ?_ _) | (with_reducible refine Below.alloc ?_ ?_ _) | (with_reducible refine Below.drew ?_) | (with_reducible refine Below.setCell ?_ ?_ _) | go_size)), fun _ => HB2.out⟩
                case measure => simp [intOf]; omega
              | false =>
                go_wp2
                go_roundw
                case rel => exact ⟨j + 1, false, by omega, by go_num, rfl, (by repeat' (first | (with_reducible exact Below.refl _ _) | (with_reducible assumption) | (with_reducible refine bdrewN ?_ _) | (with_reducible refine Below.alloc ?_ ?_ _) | (with_reducible refine Below.drew ?_) | (with_reducible refine Below.setCell ?_ ?_ _) | go_size)), fun h => by cases h⟩
                case measure => simp [intOf]; omega
          · cases bb with
            | true =>
              have hxj0 := (hbj.cell (p := ⟨b, o + k * 5, none⟩) hbr).trans hx0
              have hxj1 := (hbj.cell (p := ⟨b, o + k * 5 + 1, none⟩) hbr).trans hx1
              have hxj2 := (hbj.cell (p := ⟨b, o + k * 5 + 2, none⟩) hbr).trans hx2
              have hxj3 := (hbj.cell (p := ⟨b, o + k * 5 + 3, none⟩) hbr).trans hx3
              have hxj4 := (hbj.cell (p := ⟨b, o + k * 5 + 4, none⟩) hbr).trans hx4
              have hbrj : b < wr.heap.size := by omega
              have hownj := owns_below hown hbj
              have HA2 : Hid (∀ y ∈ acc ++ [x], y ∈ l ∧ Kept ks y.kind) := fun y hy => by
                rcases List.mem_append.1 hy with hy | hy
                · exact HA.out y hy
                · simp at hy; subst hy; exact ⟨HM.out, HB.out rfl⟩
              clear HB HA
              go_wp2_with (first | (at_builtin; refine wpList_push _ _ [.int .i64 x.kind, .int .i64 x.a, .int .i64 x.b, .int .i64 x.c, .string x.s] _ rfl (.tmp 54) (.tmp 59) 22 rfl w.heap.size 67 i0 _ 5 48 Tryz.underlying22 hi hz0 hzs hzb rfl (by decide) _ _ _ rfl hownj (Below.refl _ _) _ _ rfl (by simp) rfl (by simp [Value.oneCell']) (by omega) (by omega) hBj.size ?_; intro v' w2 ho2 hB2 hc2 hf2 hk2 hz2'; clear hc2 hf2))
              go_roundw
              case rel => exact ⟨k + 1, acc ++ [x], by omega, by go_num, (by simp; omega), hBj.trans hB2, (by rw [ocells_snoc]; simpa using ho2), HA2⟩
              case measure => simp [intOf]; omega
            | false =>
              go_wp2
              go_roundw
              case rel => exact ⟨k + 1, acc, by omega, by go_num, by omega, hBj, owns_below hown hbj, HA⟩
              case measure => simp [intOf]; omega
      · have hend : k = l.length := by omega
        go_wp2_with (first | (go_at_call 31; refine (HUP.out _ _ acc (OIn.own hown (by omega) (fun x hx => by have := HF.out x (HA.out x hx).1; omega)) HA.out (by omega) (fun x hx => HF.out x (HA.out x hx).1)).mono ?_; rintro e w' ⟨rfl, hb2⟩))
        go_ret
        exact ⟨rfl, bnext hbk hb2 (Nat.le_refl _)⟩
end Go.Proofs.YteampbddflhngaaGreat

/- Walks: derivelaw.World.written, looks, owner, step, compiled: where texts alone are compiled. -/
namespace Go.Proofs.YteampbddflhngaaGreat
open Go.RowKit

def nilS : Value := .slice none 0 0
/-- The world of a script in which nothing is asked of a program. -/
def CW (B : Nat) (w : World) (wb : Nat) (np nr : Nat) : Prop := B ≤ wb ∧ ∃ psv rowv xs ys, Box w wb #[psv, .slice none 0 0, .slice none 0 0, .slice none 0 0, .int .i64 0, .int .i64 0, .int .i64 0, .slice none 0 0, .bool true, rowv, .slice none 0 0, .slice none 0 0, .slice none 0 0, .slice none 0 0] 35 ∧
  w.ownsRow B 40 2 psv np xs ∧ w.ownsRow B 9 1 rowv nr ys

set_option maxRecDepth 100000 in
set_option maxHeartbeats 2000000 in
theorem written_no (w : World) (wb : Nat) (c0 c1 c2 c3 c4 c5 c6 c7 c8 c9 c10 c11 : Value) (hb : Box w wb #[c0, c1, c2, c3, c4, c5, c6, c7, c8, c9, c10, c11, .slice none 0 0, .slice none 0 0] 35) :
    Calls Tryz.prog 39 #[.pointer (some ⟨wb, 0, none⟩)] w fun e w' => e = .returned (.bool true) ∧ w' = w := by
  obtain ⟨hc, hf⟩ := hb.rules
  have hlt := hb.lt
  go_enter Tryz.func39, Tryz.ntmps39
  go_wp2
  go_loop [3] (fun i => i = .int .i64 0) (fun _ => 0)
  case atStart => rfl
  case round =>
    subst hrel
    go_wp2
    go_loop [5] (fun i => i = .int .i64 0) (fun _ => 0)
    case atStart => rfl
    case round =>
      subst hrel
      go_wp2
      go_ret
      exact ⟨rfl, rfl⟩

set_option maxRecDepth 100000 in
set_option maxHeartbeats 2000000 in
theorem looks_no (w : World) (wb : Nat) (c0 c1 c3 c4 c5 c6 c7 c8 c9 c11 : Value) (hb : Box w wb #[c0, c1, .slice none 0 0, c3, c4, c5, c6, c7, c8, c9, .slice none 0 0, c11, .slice none 0 0, .slice none 0 0] 35) :
    Calls Tryz.prog 58 #[.pointer (some ⟨wb, 0, none⟩)] w fun e w' => e = .returned (.bool true) ∧ w' = w := by
  obtain ⟨hc, hf⟩ := hb.rules
  have hlt := hb.lt
  have HWR := written_no w wb _ _ _ _ _ _ _ _ _ _ _ _ hb
  go_enter Tryz.func58, Tryz.ntmps58
  go_wp2
  go_loop [3] (fun i => i = .int .i64 0) (fun _ => 0)
  case atStart => rfl
  case round =>
    subst hrel
    go_wp2
    go_loop [5] (fun i => i = .int .i64 0) (fun _ => 0)
    case atStart => rfl
    case round =>
      subst hrel
      go_wp2_with (first | (go_at_call 39; refine HWR.mono ?_; rintro e w' ⟨rfl, hww⟩; obtain rfl := hww.symm))
      go_ret
      exact ⟨rfl, rfl⟩
end Go.Proofs.YteampbddflhngaaGreat

/- Walks: derivelaw.World.owner: kinds 1, 9, 17, where texts alone are compiled. -/
namespace Go.Proofs.YteampbddflhngaaGreat
open Go.RowKit

def opV (x : POp) : Value := .agg #[.int .i64 x.kind, .int .i64 x.a, .int .i64 x.b, .int .i64 x.c, .string x.s]

set_option maxRecDepth 100000 in
set_option maxHeartbeats 2000000 in
theorem owner_1 (w : World) (wb : Nat) (a b c : Int) (s : ByteArray) :
    Calls Tryz.prog 94 #[.pointer (some ⟨wb, 0, none⟩), .agg #[.int .i64 1, .int .i64 a, .int .i64 b, .int .i64 c, .string s]] w fun e w' => e = .returned (.bool false) ∧ Below w.heap.size w w' := by
  go_enter Tryz.func94, Tryz.ntmps94
  go_wp2
  go_ret
  exact ⟨rfl, (by repeat' (first | (with_reducible exact Below.refl _ _) | (with_reducible assumption) | (with_reducible refine bdrewN ?_ _) | (with_reducible refine Below.alloc ?_ ?_ _) | (with_reducible refine Below.drew ?_) | (with_reducible refine Below.setCell ?_ ?_ _) | go_size))⟩

set_option maxRecDepth 100000 in
set_option maxHeartbeats 2000000 in
theorem owner_17 (w : World) (wb : Nat) (a b c : Int) (s : ByteArray) (c0 c1 c2 c3 c4 c5 c6 c7 c8 c9 c11 c12 c13 : Value) (hb : Box w wb #[c0, c1, c2, c3, c4, c5, c6, c7, c8, c9, .slice none 0 0, c11, c12, c13] 35) :
    Calls Tryz.prog 94 #[.pointer (some ⟨wb, 0, none⟩), .agg #[.int .i64 17, .int .i64 a, .int .i64 b, .int .i64 c, .string s]] w fun e w' => e = .returned (.bool true) ∧ Below w.heap.size w w' := by
  obtain ⟨hc, hf⟩ := hb.rules
  have hlt := hb.lt
  go_enter Tryz.func94, Tryz.ntmps94
  go_wp2
  go_ret
  exact ⟨rfl, (by repeat' (first | (with_reducible exact Below.refl _ _) | (with_reducible assumption) | (with_reducible refine bdrewN ?_ _) | (with_reducible refine Below.alloc ?_ ?_ _) | (with_reducible refine Below.drew ?_) | (with_reducible refine Below.setCell ?_ ?_ _) | go_size))⟩

set_option maxRecDepth 100000 in
set_option maxHeartbeats 2000000 in
theorem owner_9 (B : Nat) (w : World) (wb : Nat) (np nr : Nat) (a b c : Int) (s : ByteArray) (h : CW B w wb np nr) (hnr : nr ≤ 1048575) :
    Calls Tryz.prog 94 #[.pointer (some ⟨wb, 0, none⟩), .agg #[.int .i64 9, .int .i64 a, .int .i64 b, .int .i64 c, .string s]] w fun e w' => e = .returned (.bool true) ∧ (∃ nr', nr' ≤ nr + 1 ∧ CW B w' wb np nr') ∧ Below B w w' := by
  obtain ⟨i0, hi, hz0, hzs, hzb⟩ := info_parts Tryz.infoString
  obtain ⟨hB, psv, rowv, xs, ys, hb, ho1, ho2⟩ := h
  obtain ⟨aop, capp, rfl⟩ := own_view ho1
  obtain ⟨aor, capr, rfl⟩ := own_view ho2
  obtain ⟨hc, hf⟩ := hb.rules
  have hlt := hb.lt
  cases hbit : (bits BinOp.and IntKind.i64 a 1 == 1) with
  | false =>
    go_enter Tryz.func94, Tryz.ntmps94
    go_wp2
    go_region_law (first | (refine step_push w _ [.string s] 9 rfl (.tmp 177) (.tmp 180) 30 rfl B 9 i0 _ 1 16 Tryz.underlying30 hi hz0 hzs hzb rfl (by decide) _ _ _ (by simp [Act.eval]) ho2 (by exact (by repeat' (first | (with_reducible exact Below.refl _ _) | (with_reducible assumption) | (with_reducible refine bdrewN ?_ _) | (with_reducible refine Below.alloc ?_ ?_ _) | (with_reducible refine Below.drew ?_) | (with_reducible refine Below.setCell ?_ ?_ _) | go_size))) (w.heap.size + 1) 1 (by simp [Act.eval]) (by exact Box.drew (Box.newAt _ _ _ _ (by simp))) rfl (by simp [Value.oneCell']) (by omega) (by omega) (by omega) ?_; intro v' w2 ho3 hB2 hk2 hz2'; obtain ⟨ao4, cap4, rfl⟩ := own_view ho3; have hb2 := (hb.below (w' := _) (by repeat' (first | (with_reducible exact Below.refl _ _) | (with_reducible assumption) | (with_reducible refine bdrewN ?_ _) | (with_reducible refine Below.alloc ?_ ?_ _) | (with_reducible refine Below.drew ?_) | (with_reducible refine Below.setCell ?_ ?_ _) | go_size))).keep (own_ne_type ho2 hb (by decide)) hk2; obtain ⟨hc2, hf2⟩ := hb2.rules; have hp2 := own_push (owns_below ho2 (by repeat' (first | (with_reducible exact Below.refl _ _) | (with_reducible assumption) | (with_reducible refine bdrewN ?_ _) | (with_reducible refine Below.alloc ?_ ?_ _) | (with_reducible refine Below.drew ?_) | (with_reducible refine Below.setCell ?_ ?_ _) | go_size))) (by decide) (owns_below ho1 (by repeat' (first | (with_reducible exact Below.refl _ _) | (with_reducible assumption) | (with_reducible refine bdrewN ?_ _) | (with_reducible refine Below.alloc ?_ ?_ _) | (with_reducible refine Below.drew ?_) | (with_reducible refine Below.setCell ?_ ?_ _) | go_size))) hk2))
    all_goals
      go_wp2
      go_ret
      exact ⟨rfl, ⟨nr + 1, Nat.le_refl _, hB, _, _, _, _, hb2.set 9 _, own_but hp2 ((But.refl wb w2).setCell 9 (.slice ao4 (nr + 1) cap4)) hb2 (by decide), own_but ho3 ((But.refl wb w2).setCell 9 (.slice ao4 (nr + 1) cap4)) hb2 (by decide)⟩, (hB2.setCell hB _)⟩
  | true =>
    have hb0 : Box (w.setCell ⟨wb, 9, none⟩ (.slice none 0 0)) wb #[.slice aop np capp, .slice none 0 0, .slice none 0 0, .slice none 0 0, .int .i64 0, .int .i64 0, .int .i64 0, .slice none 0 0, .bool true, .slice none 0 0, .slice none 0 0, .slice none 0 0, .slice none 0 0, .slice none 0 0] 35 := by simpa using hb.set 9 (.slice none 0 0)
    have ho10 := own_but ho1 ((But.refl wb w).setCell 9 (.slice none 0 0)) hb (by decide)
    have hn0 : (w.setCell ⟨wb, 9, none⟩ (.slice none 0 0)).ownsRow B 9 1 (.slice none 0 0) 0 [] := World.ownsRow_nil _ _ _ _
    have hsz0 : (w.setCell ⟨wb, 9, none⟩ (.slice none 0 0)).heap.size = w.heap.size := by simp [World.setCell]
    have hB0 : Below B w (w.setCell ⟨wb, 9, none⟩ (.slice none 0 0)) := (Below.refl _ _).setCell hB _
    go_enter Tryz.func94, Tryz.ntmps94
    go_wp2
    generalize w.setCell ⟨wb, 9, none⟩ (.slice none 0 0) = w0 at *
    obtain ⟨hc0, hf0⟩ := hb0.rules
    have hlt0 := hb0.lt
    go_region_law (first | (refine step_push w0 _ [.string s] 9 rfl (.tmp 177) (.tmp 180) 30 rfl B 9 i0 _ 1 16 Tryz.underlying30 hi hz0 hzs hzb rfl (by decide) _ _ _ (by simp [Act.eval]) hn0 (by exact (by repeat' (first | (with_reducible exact Below.refl _ _) | (with_reducible assumption) | (with_reducible refine bdrewN ?_ _) | (with_reducible refine Below.alloc ?_ ?_ _) | (with_reducible refine Below.drew ?_) | (with_reducible refine Below.setCell ?_ ?_ _) | go_size))) (w0.heap.size + 1) 1 (by simp [Act.eval, hsz0]) (by exact Box.drew (Box.newAt _ _ _ _ (by simp))) rfl (by simp [Value.oneCell']) (by omega) (by omega) (by omega) ?_; intro v' w2 ho3 hB2 hk2 hz2'; obtain ⟨ao4, cap4, rfl⟩ := own_view ho3; have hb2 := (hb0.below (w' := _) (by repeat' (first | (with_reducible exact Below.refl _ _) | (with_reducible assumption) | (with_reducible refine bdrewN ?_ _) | (with_reducible refine Below.alloc ?_ ?_ _) | (with_reducible refine Below.drew ?_) | (with_reducible refine Below.setCell ?_ ?_ _) | go_size))).keep (own_ne_type hn0 hb0 (by decide)) hk2; obtain ⟨hc2, hf2⟩ := hb2.rules; have hp2 := own_push (owns_below hn0 (by repeat' (first | (with_reducible exact Below.refl _ _) | (with_reducible assumption) | (with_reducible refine bdrewN ?_ _) | (with_reducible refine Below.alloc ?_ ?_ _) | (with_reducible refine Below.drew ?_) | (with_reducible refine Below.setCell ?_ ?_ _) | go_size))) (by decide) (owns_below ho10 (by repeat' (first | (with_reducible exact Below.refl _ _) | (with_reducible assumption) | (with_reducible refine bdrewN ?_ _) | (with_reducible refine Below.alloc ?_ ?_ _) | (with_reducible refine Below.drew ?_) | (with_reducible refine Below.setCell ?_ ?_ _) | go_size))) hk2))
    all_goals
      go_wp2
      go_ret
      exact ⟨rfl, ⟨1, by omega, hB, _, _, _, _, hb2.set 9 _, own_but hp2 ((But.refl wb w2).setCell 9 (.slice ao4 (0 + 1) cap4)) hb2 (by decide), own_but ho3 ((But.refl wb w2).setCell 9 (.slice ao4 (0 + 1) cap4)) hb2 (by decide)⟩, ((hB0.trans hB2).setCell hB _)⟩
end Go.Proofs.YteampbddflhngaaGreat

/- Walks: derivelaw.World.compiled, where texts alone are compiled. -/
namespace Go.Proofs.YteampbddflhngaaGreat
open Go.RowKit

theorem Tryz.infoProg : (Tryz.prog.info? 40).map (fun i => (i.zero, i.size, i.bytes)) = some (some (.agg #[.pointer none, .pointer none]), 2, 16) := by kernel_rfl
theorem compB_err {s : ByteArray} {k : Int} (h : compB s = .error k) : (k != 0) = true := by
  unfold compB at h
  repeat' (split at h)
  all_goals first | (cases h; rfl) | cases h
theorem read_err {s : ByteArray} {k : Int} (h : compB s = .error k) (w : World) (hs2 : s.size ≤ 9223372036854775807) : Calls Tryz.prog 33 #[.string s] w fun e w' => e = .returned (.tuple #[.pointer none, .int .i64 k]) ∧ Below w.heap.size w w' :=
  (read_any s w hs2).mono fun _ _ ⟨r, h1, h2, h3⟩ => by
    have h4 := comp_same h1
    rw [h] at h4
    simp only [outB] at h4
    subst h4
    exact ⟨h3, h2⟩
/-- A program of the document's in memory, above lo. -/
def RProg (lo : Nat) (w : World) (pb : Nat) (cs : List PClause) (t : List PEnt) : Prop := lo ≤ pb ∧ ∃ cv pv kv, Box w pb #[cv, pv, kv] 45 ∧ CIn lo 93 w cv cs ∧ SIn lo w pv (namesT t) ∧ w.ownsRow lo 3 1 kv t.length ((t.map PEnt.stratum).map ivN)
theorem read_ok {s : ByteArray} {cs : List PClause} {t : List PEnt} (h : compB s = .ok (cs, t)) (w : World) (hs2 : s.size ≤ 9223372036854775807) : Calls Tryz.prog 33 #[.string s] w fun e w' => ∃ pb, e = .returned (.tuple #[.pointer (some ⟨pb, 0, none⟩), .int .i64 0]) ∧ RProg w.heap.size w' pb cs t ∧ Below w.heap.size w w' :=
  (read_any s w hs2).mono fun _ _ ⟨r, h1, h2, h3⟩ => by
    have h4 := comp_same h1
    rw [h] at h4
    simp only [outB] at h4
    subst h4
    obtain ⟨pb, cv, pv, kv, he, hb, hc, hs, ho, hl⟩ := h3
    exact ⟨pb, he, ⟨hl, cv, pv, kv, hb, hc, hs, by simpa using ho⟩, h2⟩
theorem comp_err {s : ByteArray} {k : Int} (h : compB s = .error k) (w : World) (hs2 : s.size ≤ 9223372036854775807) : Calls Tryz.prog 32 #[.string s] w fun e w' => e = .returned (.tuple #[.pointer none, .int .i64 k]) ∧ Below w.heap.size w w' :=
  (compile_any s w hs2).mono fun _ _ ⟨h1, h2⟩ => by rw [h] at h2; exact ⟨h2, h1⟩
theorem comp_ok {s : ByteArray} {cs : List PClause} {t : List PEnt} (h : compB s = .ok (cs, t)) (w : World) (hs2 : s.size ≤ 9223372036854775807) : Calls Tryz.prog 32 #[.string s] w fun e w' => ∃ pb, e = .returned (.tuple #[.pointer (some ⟨pb, 0, none⟩), .int .i64 0]) ∧ PProg w.heap.size w' pb cs t ∧ Below w.heap.size w w' :=
  (compile_any s w hs2).mono fun _ _ ⟨h1, h2⟩ => by
    rw [h] at h2
    obtain ⟨pb, v, pv, he, hb, hc, ho, hl⟩ := h2
    exact ⟨pb, he, ⟨hl, v, pv, hb, hc, ho⟩, h1⟩
theorem CW.below {B : Nat} {w w' : World} {wb np nr : Nat} (h : CW B w wb np nr) (hb : Below w.heap.size w w') : CW B w' wb np nr := by
  obtain ⟨hB, psv, rowv, xs, ys, h1, h2, h3⟩ := h
  exact ⟨hB, psv, rowv, xs, ys, h1.below hb, owns_below h2 hb, owns_below h3 hb⟩
theorem CW.lt {B : Nat} {w : World} {wb np nr : Nat} (h : CW B w wb np nr) : B ≤ w.heap.size := by
  obtain ⟨hB, _, _, _, _, h1, _⟩ := h; have := h1.lt; omega

def StepPost (B : Nat) (w : World) (wb np nr : Nat) (e : Ending) (w' : World) : Prop := e = .returned (.bool true) ∧ (∃ np' nr', np' ≤ np + 1 ∧ nr' ≤ nr + 1 ∧ CW B w' wb np' nr') ∧ Below B w w'

set_option maxRecDepth 100000 in
set_option maxHeartbeats 2000000 in
theorem compiled_any (B : Nat) (w : World) (wb np nr : Nat) (s : ByteArray) (h : CW B w wb np nr) (hs : s.size ≤ 1048576) (hnp : np ≤ 1048575) :
    Calls Tryz.prog 16 #[.pointer (some ⟨wb, 0, none⟩), .string s] w fun e w' => StepPost B w wb np nr e w' := by
  have hs2 : s.size ≤ 9223372036854775807 := by omega
  have hBw := h.lt
  cases hC : compB s with
  | error k =>
    have hk := compB_err hC
    have HC : Hid (compB s = .error k) := hC
    clear hC
    go_enter Tryz.func16, Tryz.ntmps16
    go_wp2_with (first | (go_at_call 32; refine (comp_err HC.out _ hs2).mono ?_; rintro e w1 ⟨rfl, hb1⟩) | (go_at_call 33; refine (read_err HC.out _ hs2).mono ?_; rintro e w2 ⟨rfl, hb2⟩))
    go_ret
    exact ⟨rfl, ⟨np, nr, by omega, by omega, (h.below hb1).below hb2⟩, (bnext hb1 hb2 (Nat.le_refl _)).mono hBw⟩
  | ok p =>
    obtain ⟨cs, t⟩ := p
    obtain ⟨i0, hi, hz0, hzs, hzb⟩ := info_parts Tryz.infoProg
    have HC : Hid (compB s = .ok (cs, t)) := hC
    obtain ⟨hB, psv, rowv, xs, ys, hb, ho1, ho2⟩ := h
    obtain ⟨aop, capp, rfl⟩ := own_view ho1
    obtain ⟨aor, capr, rfl⟩ := own_view ho2
    clear hC
    go_enter Tryz.func16, Tryz.ntmps16
    go_wp2_with (first | (go_at_call 32; refine (comp_ok HC.out _ hs2).mono ?_; rintro e w1 ⟨p1, rfl, hp1, hb1⟩) | (go_at_call 33; refine (read_ok HC.out _ hs2).mono ?_; rintro e w2 ⟨p2, rfl, hp2, hb2⟩; have hB2 := bnext hb1 hb2 (Nat.le_refl _); have hbx2 := hb.below hB2; have hoa2 := owns_below ho1 hB2; have hob2 := owns_below ho2 hB2; obtain ⟨hc2, hf2⟩ := hbx2.rules; have hlt2 := hbx2.lt; have hsz2 := hB2.size) | (at_builtin; refine wpList_push _ _ [.pointer (some ⟨p1, 0, none⟩), .pointer (some ⟨p2, 0, none⟩)] _ rfl (.tmp 35) (.tmp 39) 28 rfl B 40 i0 _ 2 16 Tryz.underlying28 hi hz0 hzs hzb rfl (by decide) _ _ _ rfl hoa2 (Below.refl _ _) _ _ rfl (by simp) rfl (by simp [Value.oneCell']) (by omega) (by omega) (by omega) ?_; intro v' w3 ho3 hB3 hc3 hf3 hk3 hz3; clear hc3 hf3; obtain ⟨ao4, cap4, rfl⟩ := own_view ho3; have hbx3 := Box.push hoa2 (by decide) hbx2 hk3; obtain ⟨hc4, hf4⟩ := hbx3.rules; have hob3 := own_push hoa2 (by decide) hob2 hk3))
    go_ret
    exact ⟨rfl, ⟨np + 1, nr, by omega, by omega, hB, _, _, _, _, hbx3.set 0 _, own_but ho3 ((But.refl wb w3).setCell 0 (.slice ao4 (np + 1) cap4)) hbx3 (by decide), own_but hob3 ((But.refl wb w3).setCell 0 (.slice ao4 (np + 1) cap4)) hbx3 (by decide)⟩, (((hB2.mono hBw).trans hB3).setCell hB _)⟩
end Go.Proofs.YteampbddflhngaaGreat

/- Walks: derivelaw.World.step, derivelaw.upTo, derivelaw.Compiles: where texts alone are compiled. -/
namespace Go.Proofs.YteampbddflhngaaGreat
open Go.RowKit

set_option maxRecDepth 100000 in
set_option maxHeartbeats 2000000 in
theorem step_9 (B : Nat) (w : World) (wb np nr : Nat) (a b c : Int) (s : ByteArray) (h : CW B w wb np nr) (hnr : nr ≤ 1048575) :
    Calls Tryz.prog 57 #[.pointer (some ⟨wb, 0, none⟩), .agg #[.int .i64 9, .int .i64 a, .int .i64 b, .int .i64 c, .string s]] w fun e w' => StepPost B w wb np nr e w' := by
  have hBw := h.lt
  go_enter Tryz.func57, Tryz.ntmps57
  go_wp2_with (first | (go_at_call 94; refine (owner_9 B _ wb np nr a b c s (by exact h.below (by repeat' (first | (with_reducible exact Below.refl _ _) | (with_reducible assumption) | (with_reducible refine bdrewN ?_ _) | (with_reducible refine Below.alloc ?_ ?_ _) | (with_reducible refine Below.drew ?_) | (with_reducible refine Below.setCell ?_ ?_ _) | go_size))) hnr).mono ?_; rintro e w1 ⟨rfl, ⟨nr', h1, h2⟩, hb1⟩))
  go_ret
  exact ⟨rfl, ⟨np, nr', by omega, h1, h2⟩, ((Below.refl w.heap.size w).alloc (Nat.le_refl _) _ |>.mono hBw).trans hb1⟩

set_option maxRecDepth 100000 in
set_option maxHeartbeats 2000000 in
theorem step_17 (B : Nat) (w : World) (wb np nr : Nat) (a b c : Int) (s : ByteArray) (h : CW B w wb np nr) :
    Calls Tryz.prog 57 #[.pointer (some ⟨wb, 0, none⟩), .agg #[.int .i64 17, .int .i64 a, .int .i64 b, .int .i64 c, .string s]] w fun e w' => StepPost B w wb np nr e w' := by
  have hBw := h.lt
  have hh := h
  obtain ⟨hB, psv, rowv, xs, ys, hb, ho1, ho2⟩ := hh
  go_enter Tryz.func57, Tryz.ntmps57
  go_wp2_with (first | (go_at_call 94; refine (owner_17 _ wb a b c s _ _ _ _ _ _ _ _ _ _ _ _ _ (by exact hb.below (by repeat' (first | (with_reducible exact Below.refl _ _) | (with_reducible assumption) | (with_reducible refine bdrewN ?_ _) | (with_reducible refine Below.alloc ?_ ?_ _) | (with_reducible refine Below.drew ?_) | (with_reducible refine Below.setCell ?_ ?_ _) | go_size)))).mono ?_; rintro e w1 ⟨rfl, hb1⟩))
  go_ret
  exact ⟨rfl, ⟨np, nr, by omega, by omega, (h.below ((Below.refl _ _).alloc (Nat.le_refl _) _)).below hb1⟩, (bnext ((Below.refl w.heap.size w).alloc (Nat.le_refl _) _) hb1 (Nat.le_refl _)).mono hBw⟩

set_option maxRecDepth 100000 in
set_option maxHeartbeats 2000000 in
theorem step_1 (B : Nat) (w : World) (wb np nr : Nat) (a b c : Int) (s : ByteArray) (h : CW B w wb np nr) (hs : s.size ≤ 1048576) (hnp : np ≤ 1048575) :
    Calls Tryz.prog 57 #[.pointer (some ⟨wb, 0, none⟩), .agg #[.int .i64 1, .int .i64 a, .int .i64 b, .int .i64 c, .string s]] w fun e w' => StepPost B w wb np nr e w' := by
  have hBw := h.lt
  go_enter Tryz.func57, Tryz.ntmps57
  go_wp2_with (first | (go_at_call 94; refine (owner_1 _ wb a b c s).mono ?_; rintro e w1 ⟨rfl, hb1⟩; have hbx1 := (Box.new w #[.int .i64 1, .int .i64 a, .int .i64 b, .int .i64 c, .string s] 67).below hb1; obtain ⟨hc1, hf1⟩ := hbx1.rules; have hlt1 := hbx1.lt; have hB1 := bnext ((Below.refl w.heap.size w).alloc (Nat.le_refl _) (.cells #[.int .i64 1, .int .i64 a, .int .i64 b, .int .i64 c, .string s] 67)) hb1 (Nat.le_refl _)) | (go_at_call 16; refine (compiled_any B _ wb np nr s (by exact h.below hB1) hs hnp).mono ?_; rintro e w2 ⟨rfl, ⟨np', nr', h1, h2, h3⟩, hb2⟩))
  go_ret
  exact ⟨rfl, ⟨np', nr', h1, h2, h3⟩, (hB1.mono hBw).trans hb2⟩

theorem step_kept (B : Nat) (w : World) (wb np nr : Nat) (x : POp) (h : CW B w wb np nr) (hk : Kept [1] x.kind) (hs : x.s.size ≤ 1048576) (hnp : np ≤ 1048575) (hnr : nr ≤ 1048575) :
    Calls Tryz.prog 57 #[.pointer (some ⟨wb, 0, none⟩), .agg #[.int .i64 x.kind, .int .i64 x.a, .int .i64 x.b, .int .i64 x.c, .string x.s]] w fun e w' => StepPost B w wb np nr e w' := by
  rcases hk with hk | hk | hk
  · rw [hk]; exact step_9 B w wb np nr _ _ _ _ h hnr
  · rw [hk]; exact step_17 B w wb np nr _ _ _ _ h
  · simp at hk; rw [hk]; exact step_1 B w wb np nr _ _ _ _ h hs hnp

set_option maxRecDepth 100000 in
set_option maxHeartbeats 2000000 in
theorem upTo_comp (w : World) (v : Value) (l : List POp) (h : OIn w v l) (hk : ∀ x ∈ l, Kept [1] x.kind) (hl : l.length ≤ 1048576) (hs : ∀ x ∈ l, x.s.size ≤ 1048576) :
    Calls Tryz.prog 31 #[v] w fun e w' => e = .returned (.int .i64 (-1)) ∧ Below w.heap.size w w' := by
  obtain ⟨ao, cap, rfl⟩ := h.shape
  have HK : Hid (∀ x ∈ l, Kept [1] x.kind) := hk
  have HS : Hid (∀ x ∈ l, x.s.size ≤ 1048576) := hs
  clear hk hs
  go_enter Tryz.func31, Tryz.ntmps31
  go_wp2
  go_loopw [4] (fun v4 wr => ∃ k np nr : Nat, k ≤ l.length ∧ v4 = .int .i64 k ∧ np ≤ k ∧ nr ≤ k ∧ CW w.heap.size wr w.heap.size np nr ∧ Below w.heap.size w wr) (fun i _ => l.length - (intOf i).toNat)
  case atStart => exact ⟨0, 0, 0, Nat.zero_le _, rfl, Nat.le_refl _, Nat.le_refl _, ⟨Nat.le_refl _, _, _, [], [], Box.new _ _ _, World.ownsRow_nil _ _ _ _, World.ownsRow_nil _ _ _ _⟩, (by repeat' (first | (with_reducible exact Below.refl _ _) | (with_reducible assumption) | (with_reducible refine bdrewN ?_ _) | (with_reducible refine Below.alloc ?_ ?_ _) | (with_reducible refine Below.drew ?_) | (with_reducible refine Below.setCell ?_ ?_ _) | go_size))⟩
  case round =>
    obtain ⟨k, np, nr, hk, rfl, hnp, hnr, hcw, hbk⟩ := hrel
    have hszk := hbk.size
    by_cases hlt : k < l.length
    · obtain ⟨b, o, rfl, hb, h0, h1, h2, h3, h4⟩ := h.cell k hlt
      have hx0 := (hbk.cell (p := ⟨b, o + k * 5, none⟩) hb).trans h0
      have hx1 := (hbk.cell (p := ⟨b, o + k * 5 + 1, none⟩) hb).trans h1
      have hx2 := (hbk.cell (p := ⟨b, o + k * 5 + 2, none⟩) hb).trans h2
      have hx3 := (hbk.cell (p := ⟨b, o + k * 5 + 3, none⟩) hb).trans h3
      have hx4 := (hbk.cell (p := ⟨b, o + k * 5 + 4, none⟩) hb).trans h4
      have hbr : b < wr.heap.size := by omega
      have hkx := HK.out _ (List.getElem_mem hlt)
      have hsx := HS.out _ (List.getElem_mem hlt)
      clear h0 h1 h2 h3 h4
      generalize l[k] = x at *
      have HKX : Hid (Kept [1] x.kind) := hkx
      clear hkx
      go_wp2_with (first | (go_at_call 57; refine (step_kept w.heap.size _ w.heap.size np nr x hcw HKX.out hsx (by omega) (by omega)).mono ?_; rintro e w1 ⟨rfl, ⟨np', nr', hn1, hn2, hcw1⟩, hb1⟩; have hBB := hbk.trans hb1; have hcw2 := hcw1; obtain ⟨_, psv, rowv, xs, ys, hbx1, _, _⟩ := hcw1) | (go_at_call 58; refine (looks_no _ w.heap.size _ _ _ _ _ _ _ _ _ _ hbx1).mono ?_; rintro e w' ⟨rfl, hww⟩; obtain rfl := hww.symm))
      go_roundw
      case rel => exact ⟨k + 1, np', nr', by omega, by go_num, by omega, by omega, hcw2, hBB⟩
      case measure => simp [intOf]; omega
    · go_wp2
      go_ret
      exact ⟨rfl, hbk⟩

theorem own_list (w : World) (us : List Value) (T : TypeId) (hl : us.length ≤ 1000) : (w.alloc (.cells us.toArray T)).ownsRow w.heap.size T 1 (.slice (some ⟨w.heap.size, 0, none⟩) us.length us.length) us.length us := by
  refine ⟨by simp, Or.inr ⟨w.heap.size, us.length, us.toArray, rfl, Nat.le_refl _, ?_, Nat.le_refl _, by unfold maxLen; omega, by simp, by simp⟩⟩
  show (w.heap.push _)[w.heap.size]? = _
  simp

set_option maxRecDepth 100000 in
set_option maxHeartbeats 2000000 in
theorem compiles_any (w : World) (v : Value) (l : List POp) (h : OIn w v l) :
    Calls Tryz.prog 3 #[v] w fun e w' => e = .returned (.bool true) ∧ Below w.heap.size w w' := by
  have HUP : Hid (UpTo l [1]) := fun W v' l' h1 h2 h3 h4 => upTo_comp W v' l' h1 (fun x hx => (h2 x hx).2) h3 h4
  obtain ⟨ao, cap, rfl⟩ := h.shape
  go_enter Tryz.func3, Tryz.ntmps3
  go_wp2_with (first | (go_at_call 15; refine (plays_any _ _ l (by exact h.below (by repeat' (first | (with_reducible exact Below.refl _ _) | (with_reducible assumption) | (with_reducible refine bdrewN ?_ _) | (with_reducible refine Below.alloc ?_ ?_ _) | (with_reducible refine Below.drew ?_) | (with_reducible refine Below.setCell ?_ ?_ _) | go_size))) _ [1] ⟨_, own_list _ [.int .i64 1] _ (by decide)⟩ (by decide) HUP.out).mono ?_; rintro e w1 ⟨rfl, hb1⟩))
  go_ret
  exact ⟨rfl, bnext ((Below.refl w.heap.size w).alloc (Nat.le_refl _) _) hb1 (Nat.le_refl _)⟩
end Go.Proofs.YteampbddflhngaaGreat
