import Derived.Test.YteampbddflhngaaGreatP05

/- Walks: deriveref.literal, no mark ahead. -/
namespace Go.Proofs.YteampbddflhngaaGreat
open Go.RowKit

set_option maxRecDepth 100000 in
set_option maxHeartbeats 2000000 in
theorem rlit_empty_n (w : World) (v : Value) (L : List ByteArray) (head : Bool) (hv2 : SV w v L) (_hne : ∀ y ∈ L, 0 < y.size) (_hl : L.length ≤ 500) (hb : bang L head = false) (_hn : L.length = 0) :
    Calls Tryz.prog 152 #[v, .bool head] w fun e w' => RLitPost none w e w' := by
  obtain ⟨i0, hi, hz0', hzs, hzb⟩ := info_parts Tryz.infoString
  have hbang := nobang_cases hb
  obtain ⟨ao2, cap2, rfl⟩ := hv2.shape
  have hq0 : ((L.length : Int) == 0) = true := by rw [beq_iff_eq]; omega
  rcases hbang with hbang | ⟨hbang, _⟩ | ⟨⟨hbang, _⟩, rfl⟩
  · go_enter Tryz.func152, Tryz.ntmps152
    go_wp2
    exact bodyPost_ret (v := .tuple #[.agg #[.bool false, .string ByteArray.empty, .slice none 0 0], .bool false]) (by simp [results, Tryz.results152, go_sem]; try rfl) rfl ⟨(by repeat' (first | (with_reducible exact Below.refl _ _) | (with_reducible assumption) | (with_reducible refine bdrewN ?_ _) | (with_reducible refine Below.alloc ?_ ?_ _) | (with_reducible refine Below.drew ?_) | (with_reducible refine Below.setCell ?_ ?_ _) | go_size)), _, _, _, _, _, rfl⟩
  · omega
  · omega

set_option maxRecDepth 100000 in
set_option maxHeartbeats 2000000 in
theorem rlit_noname_n (w : World) (v : Value) (L : List ByteArray) (head : Bool) (hv2 : SV w v L) (hne : ∀ y ∈ L, 0 < y.size) (_hl : L.length ≤ 500) (hb : bang L head = false) (_hn : ¬ L.length = 0) (hs : bSmall (bAt (gB L 0) 0) = false) :
    Calls Tryz.prog 152 #[v, .bool head] w fun e w' => RLitPost none w e w' := by
  obtain ⟨i0, hi, hz0', hzs, hzb⟩ := info_parts Tryz.infoString
  have hbang := nobang_cases hb
  obtain ⟨ao2, cap2, rfl⟩ := hv2.shape
  have hz0 : 0 < (gB L 0).size := by rw [← gB_lt (by omega : 0 < L.length)]; exact hne _ (List.getElem_mem _)
  obtain ⟨b, o, rfl, hblt, hcl⟩ := hv2.cells (by omega)
  have hx0 := hcl 0 (by omega)
  rw [gB_lt (by omega)] at hx0
  rw [Nat.add_zero] at hx0
  have HCL : Hid (∀ k (hk : k < L.length), w.cell? ⟨b, o + k, none⟩ = some (.string L[k])) := hcl
  clear hcl
  have hq0 : ((L.length : Int) == 0) = false := by rw [beq_eq_false_iff_ne]; omega
  rcases hbang with hbang | ⟨_, hbang⟩ | ⟨⟨_, hbang⟩, rfl⟩
  · omega
  all_goals
    go_enter Tryz.func152, Tryz.ntmps152
    go_wp2_with (first | (go_at_call 184; refine (risName_any _ _ hz0).mono ?_; rintro e w' ⟨rfl, rfl⟩))
    exact bodyPost_ret (v := .tuple #[.agg #[.bool false, .string ByteArray.empty, .slice none 0 0], .bool false]) (by simp [results, Tryz.results152, go_sem]; try rfl) rfl ⟨(by repeat' (first | (with_reducible exact Below.refl _ _) | (with_reducible assumption) | (with_reducible refine bdrewN ?_ _) | (with_reducible refine Below.alloc ?_ ?_ _) | (with_reducible refine Below.drew ?_) | (with_reducible refine Below.setCell ?_ ?_ _) | go_size)), _, _, _, _, _, rfl⟩

set_option maxRecDepth 100000 in
set_option maxHeartbeats 2000000 in
theorem rlit_one_n (w : World) (v : Value) (L : List ByteArray) (head : Bool) (hv2 : SV w v L) (hne : ∀ y ∈ L, 0 < y.size) (_hl : L.length ≤ 500) (hb : bang L head = false) (_hn : ¬ L.length = 0) (hs : bSmall (bAt (gB L 0) 0) = true) (_h1 : L.length = 1) :
    Calls Tryz.prog 152 #[v, .bool head] w fun e w' => RLitPost (some ⟨false, gB L 0, []⟩) w e w' := by
  obtain ⟨i0, hi, hz0', hzs, hzb⟩ := info_parts Tryz.infoString
  have hbang := nobang_cases hb
  obtain ⟨ao2, cap2, rfl⟩ := hv2.shape
  have hz0 : 0 < (gB L 0).size := by rw [← gB_lt (by omega : 0 < L.length)]; exact hne _ (List.getElem_mem _)
  obtain ⟨b, o, rfl, hblt, hcl⟩ := hv2.cells (by omega)
  have hx0 := hcl 0 (by omega)
  rw [gB_lt (by omega)] at hx0
  rw [Nat.add_zero] at hx0
  have HCL : Hid (∀ k (hk : k < L.length), w.cell? ⟨b, o + k, none⟩ = some (.string L[k])) := hcl
  clear hcl
  have hq0 : ((L.length : Int) == 0) = false := by rw [beq_eq_false_iff_ne]; omega
  have hq1 : ((L.length : Int) == 1) = true := by rw [beq_iff_eq]; omega
  rcases hbang with hbang | ⟨_, hbang⟩ | ⟨⟨_, hbang⟩, rfl⟩
  · omega
  all_goals
    go_enter Tryz.func152, Tryz.ntmps152
    go_wp2_with (first | (go_at_call 184; refine (risName_any _ _ hz0).mono ?_; rintro e w' ⟨rfl, rfl⟩))
    exact bodyPost_ret (v := .tuple #[.agg #[.bool false, .string (gB L 0), .slice none 0 0], .bool true]) (by simp [results, Tryz.results152, go_sem]) rfl ⟨(by repeat' (first | (with_reducible exact Below.refl _ _) | (with_reducible assumption) | (with_reducible refine bdrewN ?_ _) | (with_reducible refine Below.alloc ?_ ?_ _) | (with_reducible refine Below.drew ?_) | (with_reducible refine Below.setCell ?_ ?_ _) | go_size)), _, rfl, SIn.nil _⟩

set_option maxRecDepth 100000 in
set_option maxHeartbeats 2000000 in
theorem rlit_short_n (w : World) (v : Value) (L : List ByteArray) (head : Bool) (hv2 : SV w v L) (hne : ∀ y ∈ L, 0 < y.size) (_hl : L.length ≤ 500) (hb : bang L head = false) (_hn : ¬ L.length = 0) (hs : bSmall (bAt (gB L 0) 0) = true) (_h1 : ¬ L.length = 1) (_h4 : L.length < 4) :
    Calls Tryz.prog 152 #[v, .bool head] w fun e w' => RLitPost none w e w' := by
  obtain ⟨i0, hi, hz0', hzs, hzb⟩ := info_parts Tryz.infoString
  have hbang := nobang_cases hb
  obtain ⟨ao2, cap2, rfl⟩ := hv2.shape
  have hz0 : 0 < (gB L 0).size := by rw [← gB_lt (by omega : 0 < L.length)]; exact hne _ (List.getElem_mem _)
  obtain ⟨b, o, rfl, hblt, hcl⟩ := hv2.cells (by omega)
  have hx0 := hcl 0 (by omega)
  rw [gB_lt (by omega)] at hx0
  rw [Nat.add_zero] at hx0
  have HCL : Hid (∀ k (hk : k < L.length), w.cell? ⟨b, o + k, none⟩ = some (.string L[k])) := hcl
  clear hcl
  have hq0 : ((L.length : Int) == 0) = false := by rw [beq_eq_false_iff_ne]; omega
  have hq1 : ((L.length : Int) == 1) = false := by rw [beq_eq_false_iff_ne]; omega
  rcases hbang with hbang | ⟨_, hbang⟩ | ⟨⟨_, hbang⟩, rfl⟩
  · omega
  all_goals
    go_enter Tryz.func152, Tryz.ntmps152
    go_wp2_with (first | (go_at_call 184; refine (risName_any _ _ hz0).mono ?_; rintro e w' ⟨rfl, rfl⟩))
    exact bodyPost_ret (v := .tuple #[.agg #[.bool false, .string (gB L 0), .slice none 0 0], .bool false]) (by simp [results, Tryz.results152, go_sem]; try rfl) rfl ⟨(by repeat' (first | (with_reducible exact Below.refl _ _) | (with_reducible assumption) | (with_reducible refine bdrewN ?_ _) | (with_reducible refine Below.alloc ?_ ?_ _) | (with_reducible refine Below.drew ?_) | (with_reducible refine Below.setCell ?_ ?_ _) | go_size)), _, _, _, _, _, rfl⟩

set_option maxRecDepth 100000 in
set_option maxHeartbeats 2000000 in
theorem rlit_odd_n (w : World) (v : Value) (L : List ByteArray) (head : Bool) (hv2 : SV w v L) (hne : ∀ y ∈ L, 0 < y.size) (_hl : L.length ≤ 500) (hb : bang L head = false) (_hn : ¬ L.length = 0) (hs : bSmall (bAt (gB L 0) 0) = true) (_h1 : ¬ L.length = 1) (_h4 : ¬ L.length < 4) (_h2 : L.length % 2 = 1) :
    Calls Tryz.prog 152 #[v, .bool head] w fun e w' => RLitPost none w e w' := by
  obtain ⟨i0, hi, hz0', hzs, hzb⟩ := info_parts Tryz.infoString
  have hbang := nobang_cases hb
  obtain ⟨ao2, cap2, rfl⟩ := hv2.shape
  have hz0 : 0 < (gB L 0).size := by rw [← gB_lt (by omega : 0 < L.length)]; exact hne _ (List.getElem_mem _)
  obtain ⟨b, o, rfl, hblt, hcl⟩ := hv2.cells (by omega)
  have hx0 := hcl 0 (by omega)
  rw [gB_lt (by omega)] at hx0
  rw [Nat.add_zero] at hx0
  have HCL : Hid (∀ k (hk : k < L.length), w.cell? ⟨b, o + k, none⟩ = some (.string L[k])) := hcl
  clear hcl
  have hq0 : ((L.length : Int) == 0) = false := by rw [beq_eq_false_iff_ne]; omega
  have hq1 : ((L.length : Int) == 1) = false := by rw [beq_eq_false_iff_ne]; omega
  have hq2 : ((L.length : Int) % 2 == 1) = true := by rw [beq_iff_eq]; omega
  rcases hbang with hbang | ⟨_, hbang⟩ | ⟨⟨_, hbang⟩, rfl⟩
  · omega
  all_goals
    go_enter Tryz.func152, Tryz.ntmps152
    go_wp2_with (first | (go_at_call 184; refine (risName_any _ _ hz0).mono ?_; rintro e w' ⟨rfl, rfl⟩))
    exact bodyPost_ret (v := .tuple #[.agg #[.bool false, .string (gB L 0), .slice none 0 0], .bool false]) (by simp [results, Tryz.results152, go_sem]; try rfl) rfl ⟨(by repeat' (first | (with_reducible exact Below.refl _ _) | (with_reducible assumption) | (with_reducible refine bdrewN ?_ _) | (with_reducible refine Below.alloc ?_ ?_ _) | (with_reducible refine Below.drew ?_) | (with_reducible refine Below.setCell ?_ ?_ _) | go_size)), _, _, _, _, _, rfl⟩

set_option maxRecDepth 100000 in
set_option maxHeartbeats 2000000 in
theorem rlit_noopen_n (w : World) (v : Value) (L : List ByteArray) (head : Bool) (hv2 : SV w v L) (hne : ∀ y ∈ L, 0 < y.size) (_hl : L.length ≤ 500) (hb : bang L head = false) (_hn : ¬ L.length = 0) (hs : bSmall (bAt (gB L 0) 0) = true) (_h1 : ¬ L.length = 1) (_h4 : ¬ L.length < 4) (_h2 : ¬ L.length % 2 = 1) (h40 : ((gB L 1).toList == [40]) = false) :
    Calls Tryz.prog 152 #[v, .bool head] w fun e w' => RLitPost none w e w' := by
  obtain ⟨i0, hi, hz0', hzs, hzb⟩ := info_parts Tryz.infoString
  have hbang := nobang_cases hb
  obtain ⟨ao2, cap2, rfl⟩ := hv2.shape
  have hz0 : 0 < (gB L 0).size := by rw [← gB_lt (by omega : 0 < L.length)]; exact hne _ (List.getElem_mem _)
  obtain ⟨b, o, rfl, hblt, hcl⟩ := hv2.cells (by omega)
  have hx0 := hcl 0 (by omega)
  have hx1 := hcl 1 (by omega)
  rw [gB_lt (by omega)] at hx0 hx1
  rw [Nat.add_zero] at hx0
  have HCL : Hid (∀ k (hk : k < L.length), w.cell? ⟨b, o + k, none⟩ = some (.string L[k])) := hcl
  clear hcl
  have hq0 : ((L.length : Int) == 0) = false := by rw [beq_eq_false_iff_ne]; omega
  have hq1 : ((L.length : Int) == 1) = false := by rw [beq_eq_false_iff_ne]; omega
  have hq2 : ((L.length : Int) % 2 == 1) = false := by rw [beq_eq_false_iff_ne]; omega
  rcases hbang with hbang | ⟨_, hbang⟩ | ⟨⟨_, hbang⟩, rfl⟩
  · omega
  all_goals
    go_enter Tryz.func152, Tryz.ntmps152
    go_wp2_with (first | (go_at_call 184; refine (risName_any _ _ hz0).mono ?_; rintro e w' ⟨rfl, rfl⟩))
    exact bodyPost_ret (v := .tuple #[.agg #[.bool false, .string (gB L 0), .slice none 0 0], .bool false]) (by simp [results, Tryz.results152, go_sem]; try rfl) rfl ⟨(by repeat' (first | (with_reducible exact Below.refl _ _) | (with_reducible assumption) | (with_reducible refine bdrewN ?_ _) | (with_reducible refine Below.alloc ?_ ?_ _) | (with_reducible refine Below.drew ?_) | (with_reducible refine Below.setCell ?_ ?_ _) | go_size)), _, _, _, _, _, rfl⟩

set_option maxRecDepth 100000 in
set_option maxHeartbeats 2000000 in
theorem rlit_noshut_n (w : World) (v : Value) (L : List ByteArray) (head : Bool) (hv2 : SV w v L) (hne : ∀ y ∈ L, 0 < y.size) (_hl : L.length ≤ 500) (hb : bang L head = false) (_hn : ¬ L.length = 0) (hs : bSmall (bAt (gB L 0) 0) = true) (_h1 : ¬ L.length = 1) (_h4 : ¬ L.length < 4) (_h2 : ¬ L.length % 2 = 1) (h40 : ((gB L 1).toList == [40]) = true) (h41 : ((gB L (L.length - 1)).toList == [41]) = false) :
    Calls Tryz.prog 152 #[v, .bool head] w fun e w' => RLitPost none w e w' := by
  obtain ⟨i0, hi, hz0', hzs, hzb⟩ := info_parts Tryz.infoString
  have hbang := nobang_cases hb
  obtain ⟨ao2, cap2, rfl⟩ := hv2.shape
  have hz0 : 0 < (gB L 0).size := by rw [← gB_lt (by omega : 0 < L.length)]; exact hne _ (List.getElem_mem _)
  obtain ⟨b, o, rfl, hblt, hcl⟩ := hv2.cells (by omega)
  have hx0 := hcl 0 (by omega)
  have hx1 := hcl 1 (by omega)
  have hxn := hcl (L.length - 1) (by omega)
  rw [gB_lt (by omega)] at hx0 hx1 hxn
  rw [Nat.add_zero] at hx0
  have HCL : Hid (∀ k (hk : k < L.length), w.cell? ⟨b, o + k, none⟩ = some (.string L[k])) := hcl
  clear hcl
  have hq0 : ((L.length : Int) == 0) = false := by rw [beq_eq_false_iff_ne]; omega
  have hq1 : ((L.length : Int) == 1) = false := by rw [beq_eq_false_iff_ne]; omega
  have hq2 : ((L.length : Int) % 2 == 1) = false := by rw [beq_eq_false_iff_ne]; omega
  rcases hbang with hbang | ⟨_, hbang⟩ | ⟨⟨_, hbang⟩, rfl⟩
  · omega
  all_goals
    go_enter Tryz.func152, Tryz.ntmps152
    go_wp2_with (first | (go_at_call 184; refine (risName_any _ _ hz0).mono ?_; rintro e w' ⟨rfl, rfl⟩))
    exact bodyPost_ret (v := .tuple #[.agg #[.bool false, .string (gB L 0), .slice none 0 0], .bool false]) (by simp [results, Tryz.results152, go_sem]; try rfl) rfl ⟨(by repeat' (first | (with_reducible exact Below.refl _ _) | (with_reducible assumption) | (with_reducible refine bdrewN ?_ _) | (with_reducible refine Below.alloc ?_ ?_ _) | (with_reducible refine Below.drew ?_) | (with_reducible refine Below.setCell ?_ ?_ _) | go_size)), _, _, _, _, _, rfl⟩

end Go.Proofs.YteampbddflhngaaGreat

/- Walks: deriveref.literal, the mark ahead. -/
namespace Go.Proofs.YteampbddflhngaaGreat
open Go.RowKit

set_option maxRecDepth 100000 in
set_option maxHeartbeats 2000000 in
theorem rlit_empty_b (w : World) (v : Value) (x : ByteArray) (L : List ByteArray) (hv : SV w v (x :: L)) (_hne : ∀ y ∈ L, 0 < y.size) (hx : (x.toList == [33]) = true) (_hl : L.length ≤ 500) (_hn : L.length = 0) :
    Calls Tryz.prog 152 #[v, .bool false] w fun e w' => RLitPost none w e w' := by
  obtain ⟨i0, hi, hz0', hzs, hzb⟩ := info_parts Tryz.infoString
  obtain ⟨ao1, cap1, rfl⟩ := hv.shape
  obtain ⟨b1, o1, rfl, hblt1, hcl1⟩ := hv.cells (by simp)
  have hxx := hcl1 0 (by simp)
  rw [Nat.add_zero, List.getElem_cons_zero] at hxx
  clear hcl1
  have hq0 : ((L.length : Int) == 0) = true := by rw [beq_iff_eq]; omega
  go_enter Tryz.func152, Tryz.ntmps152
  go_wp2_with (first | (refine wpList_reslice _ w rfl (.tmp 26) 30 9 (some (.const (.int .i64 1))) none rfl Tryz.underlying30 i0 hi Tryz.cellsString _ (x :: L) rfl hv 1 (L.length + 1) (Or.inr rfl) (Or.inl ⟨rfl, rfl⟩) (by omega) (by simp) L.length (by omega) ?_; intro ao2 cap2 hv2; simp only [List.drop_succ_cons, List.drop_zero, List.take_length] at hv2))
  exact bodyPost_ret (v := .tuple #[.agg #[.bool true, .string ByteArray.empty, .slice none 0 0], .bool false]) (by simp [results, Tryz.results152, go_sem]; try rfl) rfl ⟨(by repeat' (first | (with_reducible exact Below.refl _ _) | (with_reducible assumption) | (with_reducible refine bdrewN ?_ _) | (with_reducible refine Below.alloc ?_ ?_ _) | (with_reducible refine Below.drew ?_) | (with_reducible refine Below.setCell ?_ ?_ _) | go_size)), _, _, _, _, _, rfl⟩

set_option maxRecDepth 100000 in
set_option maxHeartbeats 2000000 in
theorem rlit_noname_b (w : World) (v : Value) (x : ByteArray) (L : List ByteArray) (hv : SV w v (x :: L)) (hne : ∀ y ∈ L, 0 < y.size) (hx : (x.toList == [33]) = true) (_hl : L.length ≤ 500) (_hn : ¬ L.length = 0) (hs : bSmall (bAt (gB L 0) 0) = false) :
    Calls Tryz.prog 152 #[v, .bool false] w fun e w' => RLitPost none w e w' := by
  obtain ⟨i0, hi, hz0', hzs, hzb⟩ := info_parts Tryz.infoString
  obtain ⟨ao1, cap1, rfl⟩ := hv.shape
  obtain ⟨b1, o1, rfl, hblt1, hcl1⟩ := hv.cells (by simp)
  have hxx := hcl1 0 (by simp)
  rw [Nat.add_zero, List.getElem_cons_zero] at hxx
  clear hcl1
  have hz0 : 0 < (gB L 0).size := by rw [← gB_lt (by omega : 0 < L.length)]; exact hne _ (List.getElem_mem _)
  have hq0 : ((L.length : Int) == 0) = false := by rw [beq_eq_false_iff_ne]; omega
  go_enter Tryz.func152, Tryz.ntmps152
  go_wp2_with (first | (refine wpList_reslice _ w rfl (.tmp 26) 30 9 (some (.const (.int .i64 1))) none rfl Tryz.underlying30 i0 hi Tryz.cellsString _ (x :: L) rfl hv 1 (L.length + 1) (Or.inr rfl) (Or.inl ⟨rfl, rfl⟩) (by omega) (by simp) L.length (by omega) ?_; intro ao2 cap2 hv2; simp only [List.drop_succ_cons, List.drop_zero, List.take_length] at hv2; obtain ⟨b, o, rfl, hblt, hcl⟩ := hv2.cells (by omega); have hx0 := hcl 0 (by omega); rw [gB_lt (by omega)] at hx0; rw [Nat.add_zero] at hx0; have HCL : Hid (∀ k (hk : k < L.length), w.cell? ⟨b, o + k, none⟩ = some (.string L[k])) := hcl; clear hcl) | (go_at_call 184; refine (risName_any _ _ hz0).mono ?_; rintro e w' ⟨rfl, rfl⟩))
  exact bodyPost_ret (v := .tuple #[.agg #[.bool true, .string ByteArray.empty, .slice none 0 0], .bool false]) (by simp [results, Tryz.results152, go_sem]; try rfl) rfl ⟨(by repeat' (first | (with_reducible exact Below.refl _ _) | (with_reducible assumption) | (with_reducible refine bdrewN ?_ _) | (with_reducible refine Below.alloc ?_ ?_ _) | (with_reducible refine Below.drew ?_) | (with_reducible refine Below.setCell ?_ ?_ _) | go_size)), _, _, _, _, _, rfl⟩

set_option maxRecDepth 100000 in
set_option maxHeartbeats 2000000 in
theorem rlit_one_b (w : World) (v : Value) (x : ByteArray) (L : List ByteArray) (hv : SV w v (x :: L)) (hne : ∀ y ∈ L, 0 < y.size) (hx : (x.toList == [33]) = true) (_hl : L.length ≤ 500) (_hn : ¬ L.length = 0) (hs : bSmall (bAt (gB L 0) 0) = true) (_h1 : L.length = 1) :
    Calls Tryz.prog 152 #[v, .bool false] w fun e w' => RLitPost (some ⟨true, gB L 0, []⟩) w e w' := by
  obtain ⟨i0, hi, hz0', hzs, hzb⟩ := info_parts Tryz.infoString
  obtain ⟨ao1, cap1, rfl⟩ := hv.shape
  obtain ⟨b1, o1, rfl, hblt1, hcl1⟩ := hv.cells (by simp)
  have hxx := hcl1 0 (by simp)
  rw [Nat.add_zero, List.getElem_cons_zero] at hxx
  clear hcl1
  have hz0 : 0 < (gB L 0).size := by rw [← gB_lt (by omega : 0 < L.length)]; exact hne _ (List.getElem_mem _)
  have hq0 : ((L.length : Int) == 0) = false := by rw [beq_eq_false_iff_ne]; omega
  have hq1 : ((L.length : Int) == 1) = true := by rw [beq_iff_eq]; omega
  go_enter Tryz.func152, Tryz.ntmps152
  go_wp2_with (first | (refine wpList_reslice _ w rfl (.tmp 26) 30 9 (some (.const (.int .i64 1))) none rfl Tryz.underlying30 i0 hi Tryz.cellsString _ (x :: L) rfl hv 1 (L.length + 1) (Or.inr rfl) (Or.inl ⟨rfl, rfl⟩) (by omega) (by simp) L.length (by omega) ?_; intro ao2 cap2 hv2; simp only [List.drop_succ_cons, List.drop_zero, List.take_length] at hv2; obtain ⟨b, o, rfl, hblt, hcl⟩ := hv2.cells (by omega); have hx0 := hcl 0 (by omega); rw [gB_lt (by omega)] at hx0; rw [Nat.add_zero] at hx0; have HCL : Hid (∀ k (hk : k < L.length), w.cell? ⟨b, o + k, none⟩ = some (.string L[k])) := hcl; clear hcl) | (go_at_call 184; refine (risName_any _ _ hz0).mono ?_; rintro e w' ⟨rfl, rfl⟩))
  exact bodyPost_ret (v := .tuple #[.agg #[.bool true, .string (gB L 0), .slice none 0 0], .bool true]) (by simp [results, Tryz.results152, go_sem]) rfl ⟨(by repeat' (first | (with_reducible exact Below.refl _ _) | (with_reducible assumption) | (with_reducible refine bdrewN ?_ _) | (with_reducible refine Below.alloc ?_ ?_ _) | (with_reducible refine Below.drew ?_) | (with_reducible refine Below.setCell ?_ ?_ _) | go_size)), _, rfl, SIn.nil _⟩

set_option maxRecDepth 100000 in
set_option maxHeartbeats 2000000 in
theorem rlit_short_b (w : World) (v : Value) (x : ByteArray) (L : List ByteArray) (hv : SV w v (x :: L)) (hne : ∀ y ∈ L, 0 < y.size) (hx : (x.toList == [33]) = true) (_hl : L.length ≤ 500) (_hn : ¬ L.length = 0) (hs : bSmall (bAt (gB L 0) 0) = true) (_h1 : ¬ L.length = 1) (_h4 : L.length < 4) :
    Calls Tryz.prog 152 #[v, .bool false] w fun e w' => RLitPost none w e w' := by
  obtain ⟨i0, hi, hz0', hzs, hzb⟩ := info_parts Tryz.infoString
  obtain ⟨ao1, cap1, rfl⟩ := hv.shape
  obtain ⟨b1, o1, rfl, hblt1, hcl1⟩ := hv.cells (by simp)
  have hxx := hcl1 0 (by simp)
  rw [Nat.add_zero, List.getElem_cons_zero] at hxx
  clear hcl1
  have hz0 : 0 < (gB L 0).size := by rw [← gB_lt (by omega : 0 < L.length)]; exact hne _ (List.getElem_mem _)
  have hq0 : ((L.length : Int) == 0) = false := by rw [beq_eq_false_iff_ne]; omega
  have hq1 : ((L.length : Int) == 1) = false := by rw [beq_eq_false_iff_ne]; omega
  go_enter Tryz.func152, Tryz.ntmps152
  go_wp2_with (first | (refine wpList_reslice _ w rfl (.tmp 26) 30 9 (some (.const (.int .i64 1))) none rfl Tryz.underlying30 i0 hi Tryz.cellsString _ (x :: L) rfl hv 1 (L.length + 1) (Or.inr rfl) (Or.inl ⟨rfl, rfl⟩) (by omega) (by simp) L.length (by omega) ?_; intro ao2 cap2 hv2; simp only [List.drop_succ_cons, List.drop_zero, List.take_length] at hv2; obtain ⟨b, o, rfl, hblt, hcl⟩ := hv2.cells (by omega); have hx0 := hcl 0 (by omega); rw [gB_lt (by omega)] at hx0; rw [Nat.add_zero] at hx0; have HCL : Hid (∀ k (hk : k < L.length), w.cell? ⟨b, o + k, none⟩ = some (.string L[k])) := hcl; clear hcl) | (go_at_call 184; refine (risName_any _ _ hz0).mono ?_; rintro e w' ⟨rfl, rfl⟩))
  exact bodyPost_ret (v := .tuple #[.agg #[.bool true, .string (gB L 0), .slice none 0 0], .bool false]) (by simp [results, Tryz.results152, go_sem]; try rfl) rfl ⟨(by repeat' (first | (with_reducible exact Below.refl _ _) | (with_reducible assumption) | (with_reducible refine bdrewN ?_ _) | (with_reducible refine Below.alloc ?_ ?_ _) | (with_reducible refine Below.drew ?_) | (with_reducible refine Below.setCell ?_ ?_ _) | go_size)), _, _, _, _, _, rfl⟩

set_option maxRecDepth 100000 in
set_option maxHeartbeats 2000000 in
theorem rlit_odd_b (w : World) (v : Value) (x : ByteArray) (L : List ByteArray) (hv : SV w v (x :: L)) (hne : ∀ y ∈ L, 0 < y.size) (hx : (x.toList == [33]) = true) (_hl : L.length ≤ 500) (_hn : ¬ L.length = 0) (hs : bSmall (bAt (gB L 0) 0) = true) (_h1 : ¬ L.length = 1) (_h4 : ¬ L.length < 4) (_h2 : L.length % 2 = 1) :
    Calls Tryz.prog 152 #[v, .bool false] w fun e w' => RLitPost none w e w' := by
  obtain ⟨i0, hi, hz0', hzs, hzb⟩ := info_parts Tryz.infoString
  obtain ⟨ao1, cap1, rfl⟩ := hv.shape
  obtain ⟨b1, o1, rfl, hblt1, hcl1⟩ := hv.cells (by simp)
  have hxx := hcl1 0 (by simp)
  rw [Nat.add_zero, List.getElem_cons_zero] at hxx
  clear hcl1
  have hz0 : 0 < (gB L 0).size := by rw [← gB_lt (by omega : 0 < L.length)]; exact hne _ (List.getElem_mem _)
  have hq0 : ((L.length : Int) == 0) = false := by rw [beq_eq_false_iff_ne]; omega
  have hq1 : ((L.length : Int) == 1) = false := by rw [beq_eq_false_iff_ne]; omega
  have hq2 : ((L.length : Int) % 2 == 1) = true := by rw [beq_iff_eq]; omega
  go_enter Tryz.func152, Tryz.ntmps152
  go_wp2_with (first | (refine wpList_reslice _ w rfl (.tmp 26) 30 9 (some (.const (.int .i64 1))) none rfl Tryz.underlying30 i0 hi Tryz.cellsString _ (x :: L) rfl hv 1 (L.length + 1) (Or.inr rfl) (Or.inl ⟨rfl, rfl⟩) (by omega) (by simp) L.length (by omega) ?_; intro ao2 cap2 hv2; simp only [List.drop_succ_cons, List.drop_zero, List.take_length] at hv2; obtain ⟨b, o, rfl, hblt, hcl⟩ := hv2.cells (by omega); have hx0 := hcl 0 (by omega); rw [gB_lt (by omega)] at hx0; rw [Nat.add_zero] at hx0; have HCL : Hid (∀ k (hk : k < L.length), w.cell? ⟨b, o + k, none⟩ = some (.string L[k])) := hcl; clear hcl) | (go_at_call 184; refine (risName_any _ _ hz0).mono ?_; rintro e w' ⟨rfl, rfl⟩))
  exact bodyPost_ret (v := .tuple #[.agg #[.bool true, .string (gB L 0), .slice none 0 0], .bool false]) (by simp [results, Tryz.results152, go_sem]; try rfl) rfl ⟨(by repeat' (first | (with_reducible exact Below.refl _ _) | (with_reducible assumption) | (with_reducible refine bdrewN ?_ _) | (with_reducible refine Below.alloc ?_ ?_ _) | (with_reducible refine Below.drew ?_) | (with_reducible refine Below.setCell ?_ ?_ _) | go_size)), _, _, _, _, _, rfl⟩

set_option maxRecDepth 100000 in
set_option maxHeartbeats 2000000 in
theorem rlit_noopen_b (w : World) (v : Value) (x : ByteArray) (L : List ByteArray) (hv : SV w v (x :: L)) (hne : ∀ y ∈ L, 0 < y.size) (hx : (x.toList == [33]) = true) (_hl : L.length ≤ 500) (_hn : ¬ L.length = 0) (hs : bSmall (bAt (gB L 0) 0) = true) (_h1 : ¬ L.length = 1) (_h4 : ¬ L.length < 4) (_h2 : ¬ L.length % 2 = 1) (h40 : ((gB L 1).toList == [40]) = false) :
    Calls Tryz.prog 152 #[v, .bool false] w fun e w' => RLitPost none w e w' := by
  obtain ⟨i0, hi, hz0', hzs, hzb⟩ := info_parts Tryz.infoString
  obtain ⟨ao1, cap1, rfl⟩ := hv.shape
  obtain ⟨b1, o1, rfl, hblt1, hcl1⟩ := hv.cells (by simp)
  have hxx := hcl1 0 (by simp)
  rw [Nat.add_zero, List.getElem_cons_zero] at hxx
  clear hcl1
  have hz0 : 0 < (gB L 0).size := by rw [← gB_lt (by omega : 0 < L.length)]; exact hne _ (List.getElem_mem _)
  have hq0 : ((L.length : Int) == 0) = false := by rw [beq_eq_false_iff_ne]; omega
  have hq1 : ((L.length : Int) == 1) = false := by rw [beq_eq_false_iff_ne]; omega
  have hq2 : ((L.length : Int) % 2 == 1) = false := by rw [beq_eq_false_iff_ne]; omega
  go_enter Tryz.func152, Tryz.ntmps152
  go_wp2_with (first | (refine wpList_reslice _ w rfl (.tmp 26) 30 9 (some (.const (.int .i64 1))) none rfl Tryz.underlying30 i0 hi Tryz.cellsString _ (x :: L) rfl hv 1 (L.length + 1) (Or.inr rfl) (Or.inl ⟨rfl, rfl⟩) (by omega) (by simp) L.length (by omega) ?_; intro ao2 cap2 hv2; simp only [List.drop_succ_cons, List.drop_zero, List.take_length] at hv2; obtain ⟨b, o, rfl, hblt, hcl⟩ := hv2.cells (by omega); have hx0 := hcl 0 (by omega); have hx1 := hcl 1 (by omega); rw [gB_lt (by omega)] at hx0 hx1; rw [Nat.add_zero] at hx0; have HCL : Hid (∀ k (hk : k < L.length), w.cell? ⟨b, o + k, none⟩ = some (.string L[k])) := hcl; clear hcl) | (go_at_call 184; refine (risName_any _ _ hz0).mono ?_; rintro e w' ⟨rfl, rfl⟩))
  exact bodyPost_ret (v := .tuple #[.agg #[.bool true, .string (gB L 0), .slice none 0 0], .bool false]) (by simp [results, Tryz.results152, go_sem]; try rfl) rfl ⟨(by repeat' (first | (with_reducible exact Below.refl _ _) | (with_reducible assumption) | (with_reducible refine bdrewN ?_ _) | (with_reducible refine Below.alloc ?_ ?_ _) | (with_reducible refine Below.drew ?_) | (with_reducible refine Below.setCell ?_ ?_ _) | go_size)), _, _, _, _, _, rfl⟩

set_option maxRecDepth 100000 in
set_option maxHeartbeats 2000000 in
theorem rlit_noshut_b (w : World) (v : Value) (x : ByteArray) (L : List ByteArray) (hv : SV w v (x :: L)) (hne : ∀ y ∈ L, 0 < y.size) (hx : (x.toList == [33]) = true) (_hl : L.length ≤ 500) (_hn : ¬ L.length = 0) (hs : bSmall (bAt (gB L 0) 0) = true) (_h1 : ¬ L.length = 1) (_h4 : ¬ L.length < 4) (_h2 : ¬ L.length % 2 = 1) (h40 : ((gB L 1).toList == [40]) = true) (h41 : ((gB L (L.length - 1)).toList == [41]) = false) :
    Calls Tryz.prog 152 #[v, .bool false] w fun e w' => RLitPost none w e w' := by
  obtain ⟨i0, hi, hz0', hzs, hzb⟩ := info_parts Tryz.infoString
  obtain ⟨ao1, cap1, rfl⟩ := hv.shape
  obtain ⟨b1, o1, rfl, hblt1, hcl1⟩ := hv.cells (by simp)
  have hxx := hcl1 0 (by simp)
  rw [Nat.add_zero, List.getElem_cons_zero] at hxx
  clear hcl1
  have hz0 : 0 < (gB L 0).size := by rw [← gB_lt (by omega : 0 < L.length)]; exact hne _ (List.getElem_mem _)
  have hq0 : ((L.length : Int) == 0) = false := by rw [beq_eq_false_iff_ne]; omega
  have hq1 : ((L.length : Int) == 1) = false := by rw [beq_eq_false_iff_ne]; omega
  have hq2 : ((L.length : Int) % 2 == 1) = false := by rw [beq_eq_false_iff_ne]; omega
  go_enter Tryz.func152, Tryz.ntmps152
  go_wp2_with (first | (refine wpList_reslice _ w rfl (.tmp 26) 30 9 (some (.const (.int .i64 1))) none rfl Tryz.underlying30 i0 hi Tryz.cellsString _ (x :: L) rfl hv 1 (L.length + 1) (Or.inr rfl) (Or.inl ⟨rfl, rfl⟩) (by omega) (by simp) L.length (by omega) ?_; intro ao2 cap2 hv2; simp only [List.drop_succ_cons, List.drop_zero, List.take_length] at hv2; obtain ⟨b, o, rfl, hblt, hcl⟩ := hv2.cells (by omega); have hx0 := hcl 0 (by omega); have hx1 := hcl 1 (by omega); have hxn := hcl (L.length - 1) (by omega); rw [gB_lt (by omega)] at hx0 hx1 hxn; rw [Nat.add_zero] at hx0; have HCL : Hid (∀ k (hk : k < L.length), w.cell? ⟨b, o + k, none⟩ = some (.string L[k])) := hcl; clear hcl) | (go_at_call 184; refine (risName_any _ _ hz0).mono ?_; rintro e w' ⟨rfl, rfl⟩))
  exact bodyPost_ret (v := .tuple #[.agg #[.bool true, .string (gB L 0), .slice none 0 0], .bool false]) (by simp [results, Tryz.results152, go_sem]; try rfl) rfl ⟨(by repeat' (first | (with_reducible exact Below.refl _ _) | (with_reducible assumption) | (with_reducible refine bdrewN ?_ _) | (with_reducible refine Below.alloc ?_ ?_ _) | (with_reducible refine Below.drew ?_) | (with_reducible refine Below.setCell ?_ ?_ _) | go_size)), _, _, _, _, _, rfl⟩

end Go.Proofs.YteampbddflhngaaGreat
