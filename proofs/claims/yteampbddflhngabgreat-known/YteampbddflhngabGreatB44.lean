import Derived.Test.YteampbddflhngabGreatB37
import Derived.Test.YteampbddflhngabGreatB43
import Derived.Test.YteampbddflhngabGreatB13

/- A table of values within another block. Walks: consts.Table.place, Value, Name. -/
namespace Go.Proofs.YteampbddflhngabGreat
open Go.RowKit
variable {lo : Nat}

def CAt (lo : Nat) (w : World) (cb o : Nat) (ns : List ByteArray) : Prop := cb < w.heap.size ∧ ∃ v, w.cell? ⟨cb, o, none⟩ = some v ∧ SIn lo w v ns
theorem CAt.below {w w' : World} {cb o : Nat} {ns : List ByteArray} (h : CAt lo w cb o ns) (hb : Below w.heap.size w w') : CAt lo w' cb o ns := by
  obtain ⟨h1, v, h2, h3⟩ := h; exact ⟨Nat.lt_of_lt_of_le h1 hb.size, v, (hb.cell h1).trans h2, h3.below hb⟩

set_option maxRecDepth 100000 in
set_option maxHeartbeats 2000000 in
theorem cplace_at (w : World) (cb o : Nat) (ns : List ByteArray) (x : ByteArray) (h : CAt lo w cb o ns) (hl : ns.length ≤ 1000) :
    Calls Tryz.prog 108 #[.pointer (some ⟨cb, o, none⟩), .string x] w fun e w' => e = .returned (.int .i64 (placeC ns x : Nat)) ∧ ∃ m, w' = w.drewN m := by
  obtain ⟨hlt, v, hc, hs⟩ := h
  obtain ⟨ao, cap, rfl⟩ := hs.shape
  go_enter Tryz.func108, Tryz.ntmps108
  go_wp2
  go_quiet (fail)
  have hB : Below w.heap.size w (w.drewN nq) := bdrewN (Below.refl _ _) _
  have hc2 := (hB.cell (p := ⟨cb, o, none⟩) hlt).trans hc
  have hlt2 : cb < (w.drewN nq).heap.size := Nat.lt_of_lt_of_le hlt hB.size
  have hs2 := hs.below hB
  have HEX : Hid (∃ m, w.drewN nq = w.drewN m) := ⟨nq, rfl⟩
  clear hc hlt
  generalize w.drewN nq = w1 at *
  go_wp2
  go_loopg [5, 6] (ns.length + 1) (fun k v5 v6 wr => ∃ l h : Nat, v5 = .int .i64 l ∧ v6 = .int .i64 h ∧ h ≤ ns.length ∧ l ≤ ns.length ∧ h - l < k ∧ Hid (placeC ns x = halves ns x k l h) ∧ wr = w1)
  case atStart => exact ⟨0, ns.length, rfl, rfl, by omega, by omega, by omega, rfl, rfl⟩
  case round =>
    obtain ⟨l, h, rfl, rfl, hh, hll, hgk, HP, rfl⟩ := hrel
    cases gk with
    | zero => omega
    | succ m =>
      by_cases hlh : l < h
      · obtain ⟨md, hmd⟩ : ∃ md, md = l + (h - l) / 2 := ⟨_, rfl⟩
        have hm1 : l ≤ md := by omega
        have hm2 : md < h := by omega
        have hmI : (l : Int) + ((h : Int) - (l : Int)).tdiv 2 = (md : Int) := by
          rw [Int.tdiv_eq_ediv_of_nonneg (by omega)]; omega
        have hmn : md < ns.length := by omega
        have q := HP.out
        unfold halves at q
        rw [if_pos hlh, ← hmd, show ns.getD md ByteArray.empty = ns[md] from by simp [List.getD_eq_getElem?_getD, hmn]] at q
        obtain ⟨g, rfl, hg, hcell⟩ := hs2.cell md hmn
        clear hmd
        cases hL : ltB ns[md] x with
        | true =>
          rw [hL, if_pos rfl] at q
          have HQ : Hid (placeC ns x = halves ns x m (md + 1) h) := q
          unfold ltB at hL
          clear q HP
          generalize ns[md] = y at *
          go_wp2
          go_roundg m
          case measure => omega
          case rel => exact ⟨md + 1, h, by go_num, rfl, hh, by omega, by omega, HQ, rfl⟩
        | false =>
          rw [hL, if_neg (by simp)] at q
          have HQ : Hid (placeC ns x = halves ns x m l md) := q
          unfold ltB at hL
          clear q HP
          generalize ns[md] = y at *
          go_wp2
          go_roundg m
          case measure => omega
          case rel => exact ⟨l, md, rfl, rfl, by omega, hll, by omega, HQ, rfl⟩
      · have q := HP.out
        unfold halves at q
        rw [if_neg hlh] at q
        have HQ : Hid (placeC ns x = l) := q
        clear q HP
        go_wp2
        go_ret
        exact ⟨by rw [HQ.out]; rfl, HEX.out⟩

set_option maxRecDepth 100000 in
set_option maxHeartbeats 2000000 in
theorem cvalue_at (w : World) (cb o : Nat) (ns : List ByteArray) (x : ByteArray) (h : CAt lo w cb o ns) (hl : ns.length ≤ 1000) :
    Calls Tryz.prog 81 #[.pointer (some ⟨cb, o, none⟩), .string x] w fun e w' => e = .returned (.tuple #[.int .i64 (((valueC ns x).getD 0 : Nat) : Int), .bool (valueC ns x).isSome]) ∧ ∃ m, w' = w.drewN m := by
  have HP : Hid (Calls Tryz.prog 108 #[.pointer (some ⟨cb, o, none⟩), .string x] w fun e w' => e = .returned (.int .i64 (placeC ns x : Nat)) ∧ ∃ m, w' = w.drewN m) := cplace_at w cb o ns x h hl
  obtain ⟨hlt, v, hc, hs⟩ := h
  obtain ⟨ao, cap, rfl⟩ := hs.shape
  have HE : Hid (valueC ns x = if placeC ns x < ns.length ∧ ns.getD (placeC ns x) ByteArray.empty = x then some (placeC ns x) else none) := rfl
  generalize placeC ns x = pc at *
  by_cases h1 : pc < ns.length
  · have eg : ns.getD pc ByteArray.empty = ns[pc] := by simp [List.getD_eq_getElem?_getD, h1]
    rw [eg] at HE
    by_cases h2 : ns[pc] = x
    · rw [if_pos ⟨h1, h2⟩] at HE
      obtain ⟨g, rfl, hg, hcell⟩ := hs.cell pc h1
      have hse := seq_true h2
      clear h2 eg
      generalize ns[pc] = y at *
      go_enter Tryz.func81, Tryz.ntmps81
      go_wp2_with (first | (go_at_call 108; refine HP.out.mono ?_; rintro r w' ⟨rfl, m, rfl⟩; have hc2 := ((bdrewN (Below.refl w.heap.size w) m).cell (p := ⟨cb, o, none⟩) hlt).trans hc; have hlt2 : cb < (w.drewN m).heap.size := hlt; have hx := ((bdrewN (Below.refl w.heap.size w) m).cell (p := ⟨g, pc, none⟩) hg).trans hcell; have hg2 : g < (w.drewN m).heap.size := hg))
      go_ret2
      exact ⟨by rw [HE.out]; rfl, m, rfl⟩
    · rw [if_neg (fun q => h2 q.2)] at HE
      obtain ⟨g, rfl, hg, hcell⟩ := hs.cell pc h1
      have hse := seq_false h2
      clear h2 eg
      generalize ns[pc] = y at *
      go_enter Tryz.func81, Tryz.ntmps81
      go_wp2_with (first | (go_at_call 108; refine HP.out.mono ?_; rintro r w' ⟨rfl, m, rfl⟩; have hc2 := ((bdrewN (Below.refl w.heap.size w) m).cell (p := ⟨cb, o, none⟩) hlt).trans hc; have hlt2 : cb < (w.drewN m).heap.size := hlt; have hx := ((bdrewN (Below.refl w.heap.size w) m).cell (p := ⟨g, pc, none⟩) hg).trans hcell; have hg2 : g < (w.drewN m).heap.size := hg))
      go_ret2
      exact ⟨by rw [HE.out]; rfl, m, rfl⟩
  · rw [if_neg (fun q => h1 q.1)] at HE
    have h1' : ns.length ≤ pc := by omega
    go_enter Tryz.func81, Tryz.ntmps81
    go_wp2_with (first | (go_at_call 108; refine HP.out.mono ?_; rintro r w' ⟨rfl, m, rfl⟩; have hc2 := ((bdrewN (Below.refl w.heap.size w) m).cell (p := ⟨cb, o, none⟩) hlt).trans hc; have hlt2 : cb < (w.drewN m).heap.size := hlt))
    go_ret2
    exact ⟨by rw [HE.out]; rfl, m, rfl⟩
set_option maxRecDepth 100000 in
set_option maxHeartbeats 2000000 in
theorem cname_at (w : World) (cb o : Nat) (ns : List ByteArray) (k : Nat) (h : CAt lo w cb o ns) :
    Calls Tryz.prog 80 #[.pointer (some ⟨cb, o, none⟩), .int .i64 k] w fun e w' => e = .returned (.string (ns.getD k ByteArray.empty)) ∧ w' = w := by
  obtain ⟨hlt, v, hc, hs⟩ := h
  obtain ⟨ao, cap, rfl⟩ := hs.shape
  by_cases h1 : k < ns.length
  · have HE : Hid (ns.getD k ByteArray.empty = ns[k]) := by simp [Hid, List.getD_eq_getElem?_getD, h1]
    obtain ⟨g, rfl, hg, hcell⟩ := hs.cell k h1
    generalize ns[k] = y at *
    go_enter Tryz.func80, Tryz.ntmps80
    go_wp2
    go_ret
    exact ⟨by rw [HE.out]; rfl, rfl⟩
  · have HE : Hid (ns.getD k ByteArray.empty = ByteArray.empty) := by simp [Hid, List.getD_eq_getElem?_getD, List.getElem?_eq_none (Nat.le_of_not_lt h1)]
    have h1' : ns.length ≤ k := by omega
    go_enter Tryz.func80, Tryz.ntmps80
    go_wp2
    go_ret
    exact ⟨by rw [HE.out]; rfl, rfl⟩
end Go.Proofs.YteampbddflhngabGreat

/- Walks: derive.Result.terms. -/
namespace Go.Proofs.YteampbddflhngabGreat
open Go.RowKit
variable {lo : Nat}

/-- A row's terms, of which those before a place are there. -/
def termsK (ns : List ByteArray) (row : PRow) (ar m : Nat) : List ByteArray := (List.range ar).map fun i => if i < m then ns.getD (row.getD i 0) ByteArray.empty else ByteArray.empty
theorem termsK_len (ns : List ByteArray) (row : PRow) (ar m : Nat) : (termsK ns row ar m).length = ar := by simp [termsK]
theorem termsK_zero (ns : List ByteArray) (row : PRow) (ar : Nat) : termsK ns row ar 0 = List.replicate ar ByteArray.empty := by
  apply List.ext_getElem
  · simp [termsK]
  · intro i h1 h2; simp [termsK]
theorem termsK_set (ns : List ByteArray) (row : PRow) (ar m : Nat) : (termsK ns row ar m).set m (ns.getD (row.getD m 0) ByteArray.empty) = termsK ns row ar (m + 1) := by
  apply List.ext_getElem
  · simp [termsK]
  · intro i h1 h2
    simp only [List.getElem_set]
    by_cases e : m = i
    · subst e; simp [termsK]
    · rw [if_neg e]
      simp only [termsK, List.getElem_map, List.getElem_range]
      by_cases hi : i < m
      · rw [if_pos hi, if_pos (by omega)]
      · rw [if_neg hi, if_neg (by omega)]
theorem termsK_over (ns : List ByteArray) (row : PRow) (ar m : Nat) (h : ar ≤ m) : termsK ns row ar (m + 1) = termsK ns row ar m := by
  apply List.ext_getElem
  · simp [termsK]
  · intro i h1 h2
    rw [termsK_len] at h1
    simp only [termsK, List.getElem_map, List.getElem_range]
    rw [if_pos (by omega), if_pos (by omega)]

attribute [local go_sem] Tryz.row0 Tryz.row1 Tryz.row2
set_option maxRecDepth 100000 in
set_option maxHeartbeats 4000000 in
theorem rterms_any (w : World) (rb ar x y z : Nat) (ns : List ByteArray) (h : CAt lo w rb 1 ns) (har : ar ≤ 1000) :
    Calls Tryz.prog 52 #[.pointer (some ⟨rb, 0, none⟩), .agg #[.int .i64 (x : Nat), .int .i64 (y : Nat), .int .i64 (z : Nat)], .int .i64 ar] w fun e w' => ∃ g, w.heap.size ≤ g ∧ e = .returned (.slice (some ⟨g, 0, none⟩) ar ar) ∧ SIn w.heap.size w' (.slice (some ⟨g, 0, none⟩) ar ar) (termsK ns [x, y, z] ar 3) ∧ Below w.heap.size w w' := by
  have HC : Hid (CAt lo w rb 1 ns) := h
  have hlt := h.1
  obtain ⟨i0, hi, hz0, hzs, hzb⟩ := info_parts Tryz.infoString
  have hmk := fun W0 : World => run_make (P := Tryz.prog) (w := W0) 38 9 i0 _ Tryz.underlying38 hi hz0 .i64 .i64 (ar : Int) (ar : Int) (by omega) (Int.le_refl _) (by rw [hzb]; omega) (by omega)
  rw [hzs] at hmk
  clear h
  go_enter Tryz.func52, Tryz.ntmps52
  go_upto_region 3 with fail
  have hB1 : Below w.heap.size w ((w.alloc (.cells #[.int .i64 (x : Nat), .int .i64 (y : Nat), .int .i64 (z : Nat)] 116)).alloc (.cells (madeCells #[.string ByteArray.empty] ar) 9)) := (by repeat' (first | (with_reducible exact Below.refl _ _) | (with_reducible assumption) | (with_reducible refine bdrewN ?_ _) | (with_reducible refine Below.alloc ?_ ?_ _) | (with_reducible refine Below.drew ?_) | (with_reducible refine Below.setCell ?_ ?_ _) | go_size))
  have hrow := own_madeV (w.alloc (.cells #[.int .i64 (x : Nat), .int .i64 (y : Nat), .int .i64 (z : Nat)] 116)) ar 9 (.string ByteArray.empty) (by unfold maxLen; omega)
  have hzz : (w.alloc (.cells #[.int .i64 (x : Nat), .int .i64 (y : Nat), .int .i64 (z : Nat)] 116)).heap.size = w.heap.size + 1 := by simp
  rw [hzz] at hrow
  have HR0 : Hid (World.ownsRow ((w.alloc (.cells #[.int .i64 (x : Nat), .int .i64 (y : Nat), .int .i64 (z : Nat)] 116)).alloc (.cells (madeCells #[.string ByteArray.empty] ar) 9)) w.heap.size 9 1 (.slice (some ⟨w.heap.size + 1, 0, none⟩) ar ar) ar ((termsK ns [x, y, z] ar 0).map Value.string)) := by
    rw [Hid, termsK_zero, List.map_replicate]
    exact own_low hrow (by omega)
  clear hrow hzz hmk
  generalize ((w.alloc (.cells #[.int .i64 (x : Nat), .int .i64 (y : Nat), .int .i64 (z : Nat)] 116)).alloc (.cells (madeCells #[.string ByteArray.empty] ar) 9)) = w1 at *
  generalize hg : w.heap.size + 1 = g at *
  have hwg : w.heap.size < g := by omega
  clear hg
  go_loopw [13] (fun v13 wr => ∃ m : Nat, m ≤ 3 ∧ v13 = .int .i64 m ∧ Below w.heap.size w wr ∧ Hid (wr.ownsRow w.heap.size 9 1 (.slice (some ⟨g, 0, none⟩) ar ar) ar ((termsK ns [x, y, z] ar m).map Value.string))) (fun i _ => 3 - (intOf i).toNat)
  case atStart => exact ⟨0, by omega, rfl, hB1, HR0⟩
  case round =>
    clear HR0 hB1
    obtain ⟨m, hm, rfl, hbk, HR⟩ := hrel
    have hgl : g < wr.heap.size := own_lt HR.out rfl
    have hfz := own_free HR.out
    have hrl : rb < wr.heap.size := Nat.lt_of_lt_of_le hlt hbk.size
    by_cases hm3 : m < 3
    · have HN : Hid (∀ v : Nat, Calls Tryz.prog 80 #[.pointer (some ⟨rb, 1, none⟩), .int .i64 (v : Nat)] wr fun e w' => e = .returned (.string (ns.getD v ByteArray.empty)) ∧ w' = wr) := fun v => cname_at wr rb 1 ns v (HC.out.below hbk)
      by_cases ha : m < ar
      · obtain ⟨sx, hsx⟩ : ∃ sx, wr.cell? ⟨g, m, none⟩ = some sx := by
          obtain ⟨g', cap', hv', _, _, hcl'⟩ := own_cells HR.out (by omega)
          simp only [Value.slice.injEq, Option.some.injEq, Addr.mk.injEq, and_true] at hv'
          have e := hv'.1
          subst e
          exact ⟨_, hcl' m _ (List.getElem?_eq_getElem (by simp [termsK]; omega))⟩
        have hset := own_set HR.out m (by simp [termsK]; omega) (.string (ns.getD ([x, y, z].getD m 0) ByteArray.empty))
        rw [← List.map_set, termsK_set] at hset
        have hai : (m : Int) < (ar : Int) := by omega
        have hbs : Below w.heap.size w (wr.setCell ⟨g, m, none⟩ (.string (ns.getD ([x, y, z].getD m 0) ByteArray.empty))) := hbk.setCell (by simp; omega) _
        have HSET : Hid (_ ∧ _) := And.intro hset hbs
        clear hset hbs
        have hc : m = 0 ∨ m = 1 ∨ m = 2 := by omega
        rcases hc with rfl | rfl | rfl
        all_goals (
          go_wp2_with (first | (go_at_call 80; refine (HN.out _).mono ?_; rintro e w' ⟨rfl, hww⟩; obtain rfl := hww.symm)))
        · exact ⟨⟨1, by omega, rfl, by simpa [List.getD] using HSET.out.2, by have q := HSET.out.1; simpa [Hid, List.getD] using q⟩, by simp [intOf]⟩
        · exact ⟨⟨2, by omega, rfl, by simpa [List.getD] using HSET.out.2, by have q := HSET.out.1; simpa [Hid, List.getD] using q⟩, by simp [intOf]⟩
        · exact ⟨⟨3, by omega, rfl, by simpa [List.getD] using HSET.out.2, by have q := HSET.out.1; simpa [Hid, List.getD] using q⟩, by simp [intOf]⟩
      · have HRO : Hid (wr.ownsRow w.heap.size 9 1 (.slice (some ⟨g, 0, none⟩) ar ar) ar ((termsK ns [x, y, z] ar (m + 1)).map Value.string)) := by
          rw [termsK_over ns [x, y, z] ar m (by omega)]
          exact HR
        have hai : ¬ (m : Int) < (ar : Int) := by omega
        have hc : m = 0 ∨ m = 1 ∨ m = 2 := by omega
        clear HR
        rcases hc with rfl | rfl | rfl
        all_goals go_wp2
        · exact ⟨⟨1, by omega, rfl, hbk, HRO⟩, by simp [intOf]⟩
        · exact ⟨⟨2, by omega, rfl, hbk, HRO⟩, by simp [intOf]⟩
        · exact ⟨⟨3, by omega, rfl, hbk, HRO⟩, by simp [intOf]⟩
    · obtain rfl : m = 3 := by omega
      go_wp2
      go_ret
      have q := HR.out
      exact ⟨g, by omega, rfl, by unfold SIn; rw [termsK_len]; exact q, hbk⟩
end Go.Proofs.YteampbddflhngabGreat

/- Walks: derive.Result.row. -/
namespace Go.Proofs.YteampbddflhngabGreat
open Go.RowKit
variable {lo : Nat}

def rowF (ns : List ByteArray) : List ByteArray → Nat → PRow → Option PRow
  | [], _, r => some r
  | t :: ts, i, r => match valueC ns t with
    | none => none
    | some v => if i ≥ 3 then none else rowF ns ts (i + 1) (r.set i v)
def rowV : Option PRow → Value
  | none => .tuple #[.agg #[.int .i64 0, .int .i64 0, .int .i64 0], .bool false]
  | some r => .tuple #[.agg #[.int .i64 (r.getD 0 0 : Nat), .int .i64 (r.getD 1 0 : Nat), .int .i64 (r.getD 2 0 : Nat)], .bool true]

set_option maxRecDepth 100000 in
set_option maxHeartbeats 4000000 in
theorem rrow_any {lo2 : Nat} (w : World) (rb : Nat) (ns ts : List ByteArray) (tv : Value) (h : CAt lo w rb 1 ns) (hn : ns.length ≤ 1000) (ht : SIn lo2 w tv ts) (hl : ts.length ≤ 1000000) :
    Calls Tryz.prog 54 #[.pointer (some ⟨rb, 0, none⟩), tv] w fun e w' => e = .returned (rowV (rowF ns ts 0 [0, 0, 0])) ∧ Below w.heap.size w w' := by
  have HC : Hid (CAt lo w rb 1 ns) := h
  have HT : Hid (SIn lo2 w tv ts) := ht
  obtain ⟨ao, cap, rfl⟩ := ht.shape
  have hlt := h.1
  have HV : Hid (∀ W x, Below w.heap.size w W → Calls Tryz.prog 81 #[.pointer (some ⟨rb, 1, none⟩), .string x] W fun e w' => e = .returned (.tuple #[.int .i64 (((valueC ns x).getD 0 : Nat) : Int), .bool (valueC ns x).isSome]) ∧ Below W.heap.size W w') := fun W x hb => (cvalue_at W rb 1 ns x (HC.out.below hb) hn).mono (by
    rintro e w' ⟨rfl, m, rfl⟩
    exact ⟨rfl, bdrewN (Below.refl _ _) m⟩)
  obtain ⟨res, hres⟩ : ∃ res, res = rowF ns ts 0 [0, 0, 0] := ⟨_, rfl⟩
  rw [← hres]
  have HF0 : Hid (rowF ns (ts.drop 0) 0 [0, 0, 0] = res) := hres.symm
  clear h ht hres
  go_enter Tryz.func54, Tryz.ntmps54
  go_upto_region 3 with fail
  have hB1 : Below w.heap.size w ((w.alloc (.cells #[.int .i64 0, .int .i64 0, .int .i64 0] 116)).alloc (.cells #[.int .i64 0, .int .i64 0, .int .i64 0] 116)) := (by repeat' (first | (with_reducible exact Below.refl _ _) | (with_reducible assumption) | (with_reducible refine bdrewN ?_ _) | (with_reducible refine Below.alloc ?_ ?_ _) | (with_reducible refine Below.drew ?_) | (with_reducible refine Below.setCell ?_ ?_ _) | go_size))
  have hb4 := (Box.new w #[.int .i64 0, .int .i64 0, .int .i64 0] 116).up (.cells #[.int .i64 0, .int .i64 0, .int .i64 0] 116)
  have hb6 := (Box.new (w.alloc (.cells #[.int .i64 0, .int .i64 0, .int .i64 0] 116)) #[.int .i64 0, .int .i64 0, .int .i64 0] 116).at' (b' := w.heap.size + 1) (by simp)
  have HB4 : Hid (Box _ w.heap.size #[.int .i64 0, .int .i64 0, .int .i64 0] 116) := hb4
  have HB6 : Hid (Box _ (w.heap.size + 1) #[.int .i64 ((0 : Nat) : Int), .int .i64 ((0 : Nat) : Int), .int .i64 ((0 : Nat) : Int)] 116) := hb6
  clear hb4 hb6
  generalize (w.alloc (.cells #[.int .i64 0, .int .i64 0, .int .i64 0] 116)).alloc (.cells #[.int .i64 0, .int .i64 0, .int .i64 0] 116) = w1 at *
  generalize hg : w.heap.size + 1 = t6 at *
  have h46 : w.heap.size < t6 := by omega
  clear hg
  go_loopw [13] (fun v13 wr => ∃ m : Nat, m ≤ ts.length ∧ v13 = .int .i64 m ∧ ∃ a b c : Nat, Below w.heap.size w wr ∧ Hid (Box wr w.heap.size #[.int .i64 0, .int .i64 0, .int .i64 0] 116) ∧ Hid (Box wr t6 #[.int .i64 (a : Nat), .int .i64 (b : Nat), .int .i64 (c : Nat)] 116) ∧ Hid (rowF ns (ts.drop m) m [a, b, c] = res)) (fun i _ => ts.length - (intOf i).toNat)
  case atStart => exact ⟨0, by omega, rfl, 0, 0, 0, hB1, HB4, HB6, HF0⟩
  case round =>
    clear HB4 HB6 HF0 hB1
    obtain ⟨m, hm, rfl, a, b, c, hbk, HB4, HB6, HF⟩ := hrel
    have hrl : rb < wr.heap.size := Nat.lt_of_lt_of_le hlt hbk.size
    by_cases hmt : m < ts.length
    · obtain ⟨g, hao, hg, hcell⟩ := (HT.out.below hbk).cell m hmt
      subst hao
      have hf := HF.out
      rw [List.drop_eq_getElem_cons hmt] at hf
      unfold rowF at hf
      have hmi : (m : Int) < (ts.length : Int) := by omega
      generalize ts[m] = x at *
      have HVX := HV.out wr x hbk
      cases hv : valueC ns x with
      | none =>
        rw [hv] at hf HVX
        simp only [Option.getD_none, Option.isSome_none] at HVX
        have HR : Hid (res = none) := hf.symm
        clear hf hv
        go_wp2_with (first | (go_at_call 81; refine HVX.mono ?_; rintro e w4 ⟨rfl, hb4'⟩; have hbx4 := HB4.out.below hb4'; obtain ⟨hc4, hf4⟩ := hbx4.rules; have hl4 := hbx4.lt; have hBF := bnext hbk hb4' (Nat.le_refl _)))
        refine bodyPost_ret (v := .tuple #[.agg #[.int .i64 0, .int .i64 0, .int .i64 0], .bool false]) (by simp [results, Tryz.results54, go_sem, hc4]) rfl ?_
        rw [HR.out]
        exact ⟨rfl, ((hBF.setCell (by simp) _).setCell (by simp) _).setCell (by simp) _⟩
      | some v =>
        rw [hv] at hf HVX
        simp only [Option.getD_some, Option.isSome_some] at HVX
        clear hv
        by_cases h3 : m ≥ 3
        · have HR : Hid (res = none) := show res = none by simpa [h3] using hf.symm
          have h3i : (3 : Int) ≤ (m : Int) := by omega
          clear hf
          go_wp2_with (first | (go_at_call 81; refine HVX.mono ?_; rintro e w4 ⟨rfl, hb4'⟩; have hbx4 := HB4.out.below hb4'; obtain ⟨hc4, hf4⟩ := hbx4.rules; have hl4 := hbx4.lt; have hBF := bnext hbk hb4' (Nat.le_refl _)))
          refine bodyPost_ret (v := .tuple #[.agg #[.int .i64 0, .int .i64 0, .int .i64 0], .bool false]) (by simp [results, Tryz.results54, go_sem, hc4]) rfl ?_
          rw [HR.out]
          exact ⟨rfl, ((hBF.setCell (by simp) _).setCell (by simp) _).setCell (by simp) _⟩
        · have HF2 : Hid (rowF ns (ts.drop (m + 1)) (m + 1) ([a, b, c].set m v) = res) := show rowF ns (ts.drop (m + 1)) (m + 1) ([a, b, c].set m v) = res by simpa [h3] using hf
          clear hf HF
          have hc : m = 0 ∨ m = 1 ∨ m = 2 := by omega
          rcases hc with rfl | rfl | rfl
          all_goals go_wp2_with (first | (go_at_call 81; refine HVX.mono ?_; rintro e w4 ⟨rfl, hb4'⟩; have hbx6 := HB6.out.below hb4'; have HB44 : Hid (Box w4 w.heap.size #[.int .i64 0, .int .i64 0, .int .i64 0] 116) := HB4.out.below hb4'; have HB66 : Hid (Box w4 t6 #[.int .i64 (a : Nat), .int .i64 (b : Nat), .int .i64 (c : Nat)] 116) := hbx6; obtain ⟨hc6, hf6⟩ := hbx6.rules; have hl6 := hbx6.lt; have hBF := bnext hbk hb4' (Nat.le_refl _); clear hbx6))
          · exact ⟨⟨1, by omega, rfl, v, b, c, hBF.setCell (by simp; omega) _, HB44.out.set_ne (by omega) _ _, by have q := HB66.out.set 0 (.int .i64 (v : Nat)); simpa [Hid] using q, HF2⟩, by simp [intOf]; omega⟩
          · exact ⟨⟨2, by omega, rfl, a, v, c, hBF.setCell (by simp; omega) _, HB44.out.set_ne (by omega) _ _, by have q := HB66.out.set 1 (.int .i64 (v : Nat)); simpa [Hid] using q, HF2⟩, by simp [intOf]; omega⟩
          · exact ⟨⟨3, by omega, rfl, a, b, v, hBF.setCell (by simp; omega) _, HB44.out.set_ne (by omega) _ _, by have q := HB66.out.set 2 (.int .i64 (v : Nat)); simpa [Hid] using q, HF2⟩, by simp [intOf]; omega⟩
    · obtain rfl : m = ts.length := by omega
      have hf := HF.out
      rw [List.drop_length, rowF] at hf
      have HR : Hid (res = some [a, b, c]) := hf.symm
      clear hf
      obtain ⟨hc4, hf4⟩ := HB4.out.rules
      have hl4 := HB4.out.lt
      obtain ⟨hc6, hf6⟩ := HB6.out.rules
      have hl6 := HB6.out.lt
      have h64 : t6 ≠ w.heap.size := by omega
      go_wp2
      refine bodyPost_ret (v := .tuple #[.agg #[.int .i64 (a : Nat), .int .i64 (b : Nat), .int .i64 (c : Nat)], .bool true]) (by simp [results, Tryz.results54, go_sem, hc4]) rfl ?_
      rw [HR.out]
      exact ⟨rfl, ((hbk.setCell (by simp) _).setCell (by simp) _).setCell (by simp) _⟩
end Go.Proofs.YteampbddflhngabGreat
