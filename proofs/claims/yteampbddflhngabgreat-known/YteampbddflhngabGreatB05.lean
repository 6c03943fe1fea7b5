import Derived.Test.YteampbddflhngabGreatB04

/- Walks: reader.clause. -/
namespace Go.Proofs.YteampbddflhngabGreat
open Go.RowKit
variable {lo : Nat}

def pClause (n : Nat) (r : List Tok) : Option (PClause × List Tok) :=
  match pAtom r with
  | none => none
  | some (a, r2) =>
    if hdK r2 = 9 then
      match pBody n r2.tail with
      | none => none
      | some (b, r3) => if hdK r3 = 7 then some (⟨a, b⟩, r3.tail) else none
    else if hdK r2 = 7 then some (⟨a, []⟩, r2.tail) else none

theorem body_no (w : World) (r : Nat) (wv : Value) (l rest : List Tok) (h : Rd w r wv l rest) (hl : l.length ≤ 500) (n0 : Nat) (hn0 : rest.length < n0) (hp : pBody n0 rest = none) :
    Calls Tryz.prog 90 #[.pointer (some ⟨r, 0, none⟩)] w fun e w' => e = .returned (.tuple #[.slice none 0 0, .bool false]) ∧ But r w w' := by
  refine (body_any w r wv l rest h hl n0 hn0).mono ?_
  rintro e w' ⟨h1, h2⟩
  rw [hp] at h2
  exact ⟨h2, h1⟩
theorem body_yes (w : World) (r : Nat) (wv : Value) (l rest r2 : List Tok) (b : List PLit) (h : Rd w r wv l rest) (hl : l.length ≤ 500) (n0 : Nat) (hn0 : rest.length < n0) (hp : pBody n0 rest = some (b, r2)) :
    Calls Tryz.prog 90 #[.pointer (some ⟨r, 0, none⟩)] w fun e w' => ∃ v, e = .returned (.tuple #[v, .bool true]) ∧ LIn w.heap.size w' v b ∧ Rd w' r wv l r2 ∧ But r w w' := by
  refine (body_any w r wv l rest h hl n0 hn0).mono ?_
  rintro e w' ⟨h1, h2⟩
  rw [hp] at h2
  obtain ⟨v, a, b, c⟩ := h2
  exact ⟨v, a, b, c, h1⟩

def ClausePost (o : Option (PClause × List Tok)) (w : World) (r : Nat) (wv : Value) (l : List Tok) (e : Ending) (w' : World) : Prop :=
  But r w w' ∧ match o with
    | none => e = .returned (.tuple #[.agg #[.bool false, .string ByteArray.empty, .slice none 0 0, .slice none 0 0], .bool false])
    | some (c, r2) => ∃ va vb, e = .returned (.tuple #[.agg #[.bool c.head.neg, .string c.head.pred, va, vb], .bool true]) ∧ SIn w.heap.size w' va c.head.args ∧ LIn w.heap.size w' vb c.body ∧ Rd w' r wv l r2

set_option maxRecDepth 100000 in
set_option maxHeartbeats 1000000 in
theorem clause_a (w : World) (r : Nat) (wv : Value) (l rest : List Tok) (h : Rd w r wv l rest) (hl : l.length ≤ 500) (ha : pAtom rest = none) :
    Calls Tryz.prog 61 #[.pointer (some ⟨r, 0, none⟩)] w fun e w' => ClausePost none w r wv l e w' := by
  have hlt := h.lt
  have hne : w.heap.size ≠ r := by omega
  have HA : Hid (pAtom rest = none) := ha
  clear ha
  go_enter Tryz.func61, Tryz.ntmps61
  go_wp2_with (first | (go_at_call 88; refine (atom_none _ r wv l rest (by exact h.below (by repeat' (first | (with_reducible exact Below.refl _ _) | (with_reducible assumption) | (with_reducible refine bdrewN ?_ _) | (with_reducible refine Below.alloc ?_ ?_ _) | (with_reducible refine Below.drew ?_) | (with_reducible refine Below.setCell ?_ ?_ _) | go_size))) hl HA).mono ?_; rintro e w1 ⟨rfl, hbut1⟩; have hx1 := (Box.new w _ _).but hbut1 hne; obtain ⟨hc1, hf1⟩ := hx1.rules; have hz1 := hx1.lt; have hB1 := ((But.refl r w).alloc _).trans hbut1))
  exact bodyPost_ret (v := .tuple #[.agg #[.bool false, .string ByteArray.empty, .slice none 0 0, .slice none 0 0], .bool false]) (by simp [results, Tryz.results61, go_sem, hc1, hz1]; rfl) rfl ⟨(by repeat' (first | (with_reducible exact But.refl _ _) | (with_reducible assumption) | (with_reducible refine But.drewN ?_ _) | (with_reducible refine But.alloc ?_ _) | (with_reducible refine But.drew ?_) | (with_reducible refine But.setCell ?_ _ _) | (with_reducible refine But.setNew ?_ ?_ _) | go_size)), rfl⟩

set_option maxRecDepth 100000 in
set_option maxHeartbeats 1000000 in
theorem clause_b (w : World) (r : Nat) (wv : Value) (l rest : List Tok) (h : Rd w r wv l rest) (hl : l.length ≤ 500) (r1 : List Tok) (a : PLit) (ha : pAtom rest = some (a, r1)) (h9 : hdK r1 ≠ 9) (h7 : hdK r1 ≠ 7) :
    Calls Tryz.prog 61 #[.pointer (some ⟨r, 0, none⟩)] w fun e w' => ClausePost none w r wv l e w' := by
  have hlt := h.lt
  have hne : w.heap.size ≠ r := by omega
  have HA : Hid (pAtom rest = some (a, r1)) := ha
  have H9 : Hid (hdK r1 ≠ 9) := h9
  have H7 : Hid (hdK r1 ≠ 7) := h7
  clear ha h9 h7
  go_enter Tryz.func61, Tryz.ntmps61
  go_wp2_with (first | (go_at_call 88; refine (atom_some _ r wv l rest r1 a (by exact h.below (by repeat' (first | (with_reducible exact Below.refl _ _) | (with_reducible assumption) | (with_reducible refine bdrewN ?_ _) | (with_reducible refine Below.alloc ?_ ?_ _) | (with_reducible refine Below.drew ?_) | (with_reducible refine Below.setCell ?_ ?_ _) | go_size))) hl HA).mono ?_; rintro e w1 ⟨va, rfl, hs1, hr1, hbut1⟩; obtain ⟨ao, cp, rfl⟩ := hs1.shape; have hx1 := (Box.new w _ _).but hbut1 hne; have hz1 := hx1.lt; have hlt1 := hr1.lt; have hne1 : w1.heap.size ≠ r := (by omega); have hB1 := ((But.refl r w).alloc _).trans hbut1) | (go_at_call 89; have hq := hr2; refine (take_no _ r wv l r1 7 hq hl (by decide) H7).mono ?_; rintro e w3 ⟨rfl, hr3, hbut3⟩; obtain ⟨c7, f7, hcell7⟩ := hq.cell; have hs3 := hs2.but hbut3 hcell7 (by decide); have hx3 := hx2.but hbut3 hne; have hy3 := hy2.but hbut3 hne1; clear hc2 hf2 hd2 he2; obtain ⟨hc3, hf3⟩ := hx3.rules; obtain ⟨hd3, he3⟩ := hy3.rules; have hz3 := hx3.lt; have hzy3 := hy3.lt; have hlt3 := hr3.lt; have hB3 := hB2.trans hbut3; clear hq hcell7) | (go_at_call 89; have hq := hr1; refine (take_no _ r wv l r1 9 (by exact hq.below (by repeat' (first | (with_reducible exact Below.refl _ _) | (with_reducible assumption) | (with_reducible refine bdrewN ?_ _) | (with_reducible refine Below.alloc ?_ ?_ _) | (with_reducible refine Below.drew ?_) | (with_reducible refine Below.setCell ?_ ?_ _) | go_size))) hl (by decide) H9).mono ?_; rintro e w2 ⟨rfl, hr2, hbut2⟩; have hq1 := (But.refl r w1).alloc (Obj.cells #[.bool a.neg, .string a.pred, .slice ao a.args.length cp] 45); obtain ⟨c1, f1, hcell1⟩ := hr1.cell; have hs2 := hs1.but (hq1.trans hbut2) hcell1 (by decide); have hx2 := (hx1.below ((Below.refl _ _).alloc (Nat.le_refl _) _)).but hbut2 hne; have hy2 := (Box.new w1 _ _).but hbut2 hne1; obtain ⟨hc2, hf2⟩ := hx2.rules; obtain ⟨hd2, he2⟩ := hy2.rules; have hz2 := hx2.lt; have hzy2 := hy2.lt; have hlt2 := hr2.lt; have hB2 := hB1.trans (hq1.trans hbut2); clear hq hq1 hcell1))
  exact bodyPost_ret (v := .tuple #[.agg #[.bool false, .string ByteArray.empty, .slice none 0 0, .slice none 0 0], .bool false]) (by simp [results, Tryz.results61, go_sem, hc3]; rfl) rfl ⟨(by repeat' (first | (with_reducible exact But.refl _ _) | (with_reducible assumption) | (with_reducible refine But.drewN ?_ _) | (with_reducible refine But.alloc ?_ _) | (with_reducible refine But.drew ?_) | (with_reducible refine But.setCell ?_ _ _) | (with_reducible refine But.setNew ?_ ?_ _) | go_size)), rfl⟩

set_option maxRecDepth 100000 in
set_option maxHeartbeats 1000000 in
theorem clause_c (w : World) (r : Nat) (wv : Value) (l rest : List Tok) (h : Rd w r wv l rest) (hl : l.length ≤ 500) (r1 : List Tok) (a : PLit) (ha : pAtom rest = some (a, r1)) (h9 : hdK r1 ≠ 9) (h7 : hdK r1 = 7) :
    Calls Tryz.prog 61 #[.pointer (some ⟨r, 0, none⟩)] w fun e w' => ClausePost (some (⟨a, []⟩, r1.tail)) w r wv l e w' := by
  have hlt := h.lt
  have hne : w.heap.size ≠ r := by omega
  have HA : Hid (pAtom rest = some (a, r1)) := ha
  have H9 : Hid (hdK r1 ≠ 9) := h9
  have H7 : Hid (hdK r1 = 7) := h7
  clear ha h9 h7
  go_enter Tryz.func61, Tryz.ntmps61
  go_wp2_with (first | (go_at_call 88; refine (atom_some _ r wv l rest r1 a (by exact h.below (by repeat' (first | (with_reducible exact Below.refl _ _) | (with_reducible assumption) | (with_reducible refine bdrewN ?_ _) | (with_reducible refine Below.alloc ?_ ?_ _) | (with_reducible refine Below.drew ?_) | (with_reducible refine Below.setCell ?_ ?_ _) | go_size))) hl HA).mono ?_; rintro e w1 ⟨va, rfl, hs1, hr1, hbut1⟩; obtain ⟨ao, cp, rfl⟩ := hs1.shape; have hx1 := (Box.new w _ _).but hbut1 hne; have hz1 := hx1.lt; have hlt1 := hr1.lt; have hne1 : w1.heap.size ≠ r := (by omega); have hB1 := ((But.refl r w).alloc _).trans hbut1) | (go_at_call 89; have hq := hr2; refine (take_yes _ r wv l r1 7 hq hl (by decide) H7).mono ?_; rintro e w3 ⟨rfl, hr3, hbut3⟩; obtain ⟨c7, f7, hcell7⟩ := hq.cell; have hs3 := hs2.but hbut3 hcell7 (by decide); have hx3 := hx2.but hbut3 hne; have hy3 := hy2.but hbut3 hne1; clear hc2 hf2 hd2 he2; obtain ⟨hc3, hf3⟩ := hx3.rules; obtain ⟨hd3, he3⟩ := hy3.rules; have hz3 := hx3.lt; have hzy3 := hy3.lt; have hlt3 := hr3.lt; have hB3 := hB2.trans hbut3; clear hq hcell7) | (go_at_call 89; have hq := hr1; refine (take_no _ r wv l r1 9 (by exact hq.below (by repeat' (first | (with_reducible exact Below.refl _ _) | (with_reducible assumption) | (with_reducible refine bdrewN ?_ _) | (with_reducible refine Below.alloc ?_ ?_ _) | (with_reducible refine Below.drew ?_) | (with_reducible refine Below.setCell ?_ ?_ _) | go_size))) hl (by decide) H9).mono ?_; rintro e w2 ⟨rfl, hr2, hbut2⟩; have hq1 := (But.refl r w1).alloc (Obj.cells #[.bool a.neg, .string a.pred, .slice ao a.args.length cp] 45); obtain ⟨c1, f1, hcell1⟩ := hr1.cell; have hs2 := hs1.but (hq1.trans hbut2) hcell1 (by decide); have hx2 := (hx1.below ((Below.refl _ _).alloc (Nat.le_refl _) _)).but hbut2 hne; have hy2 := (Box.new w1 _ _).but hbut2 hne1; obtain ⟨hc2, hf2⟩ := hx2.rules; obtain ⟨hd2, he2⟩ := hy2.rules; have hz2 := hx2.lt; have hzy2 := hy2.lt; have hlt2 := hr2.lt; have hB2 := hB1.trans (hq1.trans hbut2); clear hq hq1 hcell1))
  exact bodyPost_ret (v := .tuple #[.agg #[.bool a.neg, .string a.pred, .slice ao a.args.length cp, .slice none 0 0], .bool true]) (by simp [results, Tryz.results61, go_sem, hc3]) rfl ⟨(by repeat' (first | (with_reducible exact But.refl _ _) | (with_reducible assumption) | (with_reducible refine But.drewN ?_ _) | (with_reducible refine But.alloc ?_ _) | (with_reducible refine But.drew ?_) | (with_reducible refine But.setCell ?_ _ _) | (with_reducible refine But.setNew ?_ ?_ _) | go_size)), _, _, rfl, (hs3.low (by first | (simp; done) | omega)).but (r := w.heap.size) (by repeat' (first | (with_reducible exact But.refl _ _) | (with_reducible assumption) | (with_reducible refine But.drewN ?_ _) | (with_reducible refine But.alloc ?_ _) | (with_reducible refine But.drew ?_) | (with_reducible refine But.setCell ?_ _ _) | (with_reducible refine But.setNew ?_ ?_ _) | go_size)) hx3 (by decide), LIn.nil _, h.keep hr3 (by repeat' (first | (with_reducible exact Below.refl _ _) | (with_reducible assumption) | (with_reducible refine bdrewN ?_ _) | (with_reducible refine Below.alloc ?_ ?_ _) | (with_reducible refine Below.drew ?_) | (with_reducible refine Below.setCell ?_ ?_ _) | go_size))⟩

set_option maxRecDepth 100000 in
set_option maxHeartbeats 1000000 in
theorem clause_d (w : World) (r : Nat) (wv : Value) (l rest : List Tok) (h : Rd w r wv l rest) (hl : l.length ≤ 500) (r1 : List Tok) (a : PLit) (n0 : Nat) (ha : pAtom rest = some (a, r1)) (h9 : hdK r1 = 9) (hn : r1.tail.length < n0) (hb : pBody n0 r1.tail = none) :
    Calls Tryz.prog 61 #[.pointer (some ⟨r, 0, none⟩)] w fun e w' => ClausePost none w r wv l e w' := by
  have hlt := h.lt
  have hne : w.heap.size ≠ r := by omega
  have HA : Hid (pAtom rest = some (a, r1)) := ha
  have H9 : Hid (hdK r1 = 9) := h9
  have HN : Hid (r1.tail.length < n0) := hn
  have HB : Hid (pBody n0 r1.tail = none) := hb
  clear ha h9 hn hb
  go_enter Tryz.func61, Tryz.ntmps61
  go_wp2_with (first | (go_at_call 88; refine (atom_some _ r wv l rest r1 a (by exact h.below (by repeat' (first | (with_reducible exact Below.refl _ _) | (with_reducible assumption) | (with_reducible refine bdrewN ?_ _) | (with_reducible refine Below.alloc ?_ ?_ _) | (with_reducible refine Below.drew ?_) | (with_reducible refine Below.setCell ?_ ?_ _) | go_size))) hl HA).mono ?_; rintro e w1 ⟨va, rfl, hs1, hr1, hbut1⟩; obtain ⟨ao, cp, rfl⟩ := hs1.shape; have hx1 := (Box.new w _ _).but hbut1 hne; have hz1 := hx1.lt; have hlt1 := hr1.lt; have hne1 : w1.heap.size ≠ r := (by omega); have hB1 := ((But.refl r w).alloc _).trans hbut1) | (go_at_call 90; refine (body_no _ r wv l r1.tail hr2 hl n0 HN HB).mono ?_; rintro e w3 ⟨rfl, hbut3⟩; have hx3 := hx2.but hbut3 hne; have hy3 := hy2.but hbut3 hne1; clear hc2 hf2 hd2 he2; obtain ⟨hc3, hf3⟩ := hx3.rules; obtain ⟨hd3, he3⟩ := hy3.rules; have hz3 := hx3.lt; have hzy3 := hy3.lt; have hB3 := hB2.trans hbut3) | (go_at_call 89; have hq := hr1; refine (take_yes _ r wv l r1 9 (by exact hq.below (by repeat' (first | (with_reducible exact Below.refl _ _) | (with_reducible assumption) | (with_reducible refine bdrewN ?_ _) | (with_reducible refine Below.alloc ?_ ?_ _) | (with_reducible refine Below.drew ?_) | (with_reducible refine Below.setCell ?_ ?_ _) | go_size))) hl (by decide) H9).mono ?_; rintro e w2 ⟨rfl, hr2, hbut2⟩; have hq1 := (But.refl r w1).alloc (Obj.cells #[.bool a.neg, .string a.pred, .slice ao a.args.length cp] 45); obtain ⟨c1, f1, hcell1⟩ := hr1.cell; have hs2 := hs1.but (hq1.trans hbut2) hcell1 (by decide); have hx2 := (hx1.below ((Below.refl _ _).alloc (Nat.le_refl _) _)).but hbut2 hne; have hy2 := (Box.new w1 _ _).but hbut2 hne1; obtain ⟨hc2, hf2⟩ := hx2.rules; obtain ⟨hd2, he2⟩ := hy2.rules; have hz2 := hx2.lt; have hzy2 := hy2.lt; have hlt2 := hr2.lt; have hB2 := hB1.trans (hq1.trans hbut2); clear hq hq1 hcell1))
  exact bodyPost_ret (v := .tuple #[.agg #[.bool false, .string ByteArray.empty, .slice none 0 0, .slice none 0 0], .bool false]) (by simp [results, Tryz.results61, go_sem, hc3]; rfl) rfl ⟨(by repeat' (first | (with_reducible exact But.refl _ _) | (with_reducible assumption) | (with_reducible refine But.drewN ?_ _) | (with_reducible refine But.alloc ?_ _) | (with_reducible refine But.drew ?_) | (with_reducible refine But.setCell ?_ _ _) | (with_reducible refine But.setNew ?_ ?_ _) | go_size)), rfl⟩

set_option maxRecDepth 100000 in
set_option maxHeartbeats 1000000 in
theorem clause_e (w : World) (r : Nat) (wv : Value) (l rest : List Tok) (h : Rd w r wv l rest) (hl : l.length ≤ 500) (r1 r2 : List Tok) (a : PLit) (b : List PLit) (n0 : Nat) (ha : pAtom rest = some (a, r1)) (h9 : hdK r1 = 9) (hn : r1.tail.length < n0) (hb : pBody n0 r1.tail = some (b, r2)) (h7 : hdK r2 ≠ 7) :
    Calls Tryz.prog 61 #[.pointer (some ⟨r, 0, none⟩)] w fun e w' => ClausePost none w r wv l e w' := by
  have hlt := h.lt
  have hne : w.heap.size ≠ r := by omega
  have HA : Hid (pAtom rest = some (a, r1)) := ha
  have H9 : Hid (hdK r1 = 9) := h9
  have HN : Hid (r1.tail.length < n0) := hn
  have HB : Hid (pBody n0 r1.tail = some (b, r2)) := hb
  have H7 : Hid (hdK r2 ≠ 7) := h7
  clear ha h9 hn hb h7
  go_enter Tryz.func61, Tryz.ntmps61
  go_wp2_with (first | (go_at_call 88; refine (atom_some _ r wv l rest r1 a (by exact h.below (by repeat' (first | (with_reducible exact Below.refl _ _) | (with_reducible assumption) | (with_reducible refine bdrewN ?_ _) | (with_reducible refine Below.alloc ?_ ?_ _) | (with_reducible refine Below.drew ?_) | (with_reducible refine Below.setCell ?_ ?_ _) | go_size))) hl HA).mono ?_; rintro e w1 ⟨va, rfl, hs1, hr1, hbut1⟩; obtain ⟨ao, cp, rfl⟩ := hs1.shape; have hx1 := (Box.new w _ _).but hbut1 hne; have hz1 := hx1.lt; have hlt1 := hr1.lt; have hne1 : w1.heap.size ≠ r := (by omega); have hB1 := ((But.refl r w).alloc _).trans hbut1) | (go_at_call 90; refine (body_yes _ r wv l r1.tail r2 b hr2 hl n0 HN HB).mono ?_; rintro e w3 ⟨vb, rfl, hl3, hr3, hbut3⟩; obtain ⟨aob, cpb, rfl⟩ := hl3.shape; obtain ⟨c3, f3, hcell3⟩ := hr2.cell; have hs3 := hs2.but hbut3 hcell3 (by decide); have hx3 := hx2.but hbut3 hne; have hy3 := hy2.but hbut3 hne1; clear hc2 hf2 hd2 he2; obtain ⟨hc3, hf3⟩ := hx3.rules; obtain ⟨hd3, he3⟩ := hy3.rules; have hz3 := hx3.lt; have hzy3 := hy3.lt; have hlt3 := hr3.lt; have hB3 := hB2.trans hbut3; clear hcell3) | (go_at_call 89; have hq := hr3; refine (take_no _ r wv l r2 7 hq hl (by decide) H7).mono ?_; rintro e w4 ⟨rfl, hr4, hbut4⟩; obtain ⟨c7, f7, hcell7⟩ := hq.cell; have hs4 := hs3.but hbut4 hcell7 (by decide); have hx4 := hx3.but hbut4 hne; have hy4 := hy3.but hbut4 hne1; clear hc3 hf3 hd3 he3; obtain ⟨hc4, hf4⟩ := hx4.rules; obtain ⟨hd4, he4⟩ := hy4.rules; have hz4 := hx4.lt; have hzy4 := hy4.lt; have hlt4 := hr4.lt; have hB4 := hB3.trans hbut4; clear hq hcell7) | (go_at_call 89; have hq := hr1; refine (take_yes _ r wv l r1 9 (by exact hq.below (by repeat' (first | (with_reducible exact Below.refl _ _) | (with_reducible assumption) | (with_reducible refine bdrewN ?_ _) | (with_reducible refine Below.alloc ?_ ?_ _) | (with_reducible refine Below.drew ?_) | (with_reducible refine Below.setCell ?_ ?_ _) | go_size))) hl (by decide) H9).mono ?_; rintro e w2 ⟨rfl, hr2, hbut2⟩; have hq1 := (But.refl r w1).alloc (Obj.cells #[.bool a.neg, .string a.pred, .slice ao a.args.length cp] 45); obtain ⟨c1, f1, hcell1⟩ := hr1.cell; have hs2 := hs1.but (hq1.trans hbut2) hcell1 (by decide); have hx2 := (hx1.below ((Below.refl _ _).alloc (Nat.le_refl _) _)).but hbut2 hne; have hy2 := (Box.new w1 _ _).but hbut2 hne1; obtain ⟨hc2, hf2⟩ := hx2.rules; obtain ⟨hd2, he2⟩ := hy2.rules; have hz2 := hx2.lt; have hzy2 := hy2.lt; have hlt2 := hr2.lt; have hB2 := hB1.trans (hq1.trans hbut2); clear hq hq1 hcell1))
  exact bodyPost_ret (v := .tuple #[.agg #[.bool false, .string ByteArray.empty, .slice none 0 0, .slice none 0 0], .bool false]) (by simp [results, Tryz.results61, go_sem, hc4]; rfl) rfl ⟨(by repeat' (first | (with_reducible exact But.refl _ _) | (with_reducible assumption) | (with_reducible refine But.drewN ?_ _) | (with_reducible refine But.alloc ?_ _) | (with_reducible refine But.drew ?_) | (with_reducible refine But.setCell ?_ _ _) | (with_reducible refine But.setNew ?_ ?_ _) | go_size)), rfl⟩

set_option maxRecDepth 100000 in
set_option maxHeartbeats 1000000 in
theorem clause_f (w : World) (r : Nat) (wv : Value) (l rest : List Tok) (h : Rd w r wv l rest) (hl : l.length ≤ 500) (r1 r2 : List Tok) (a : PLit) (b : List PLit) (n0 : Nat) (ha : pAtom rest = some (a, r1)) (h9 : hdK r1 = 9) (hn : r1.tail.length < n0) (hb : pBody n0 r1.tail = some (b, r2)) (h7 : hdK r2 = 7) :
    Calls Tryz.prog 61 #[.pointer (some ⟨r, 0, none⟩)] w fun e w' => ClausePost (some (⟨a, b⟩, r2.tail)) w r wv l e w' := by
  have hlt := h.lt
  have hne : w.heap.size ≠ r := by omega
  have HA : Hid (pAtom rest = some (a, r1)) := ha
  have H9 : Hid (hdK r1 = 9) := h9
  have HN : Hid (r1.tail.length < n0) := hn
  have HB : Hid (pBody n0 r1.tail = some (b, r2)) := hb
  have H7 : Hid (hdK r2 = 7) := h7
  clear ha h9 hn hb h7
  go_enter Tryz.func61, Tryz.ntmps61
  go_wp2_with (first | (go_at_call 88; refine (atom_some _ r wv l rest r1 a (by exact h.below (by repeat' (first | (with_reducible exact Below.refl _ _) | (with_reducible assumption) | (with_reducible refine bdrewN ?_ _) | (with_reducible refine Below.alloc ?_ ?_ _) | (with_reducible refine Below.drew ?_) | (with_reducible refine Below.setCell ?_ ?_ _) | go_size))) hl HA).mono ?_; rintro e w1 ⟨va, rfl, hs1, hr1, hbut1⟩; obtain ⟨ao, cp, rfl⟩ := hs1.shape; have hx1 := (Box.new w _ _).but hbut1 hne; have hz1 := hx1.lt; have hlt1 := hr1.lt; have hne1 : w1.heap.size ≠ r := (by omega); have hB1 := ((But.refl r w).alloc _).trans hbut1) | (go_at_call 90; refine (body_yes _ r wv l r1.tail r2 b hr2 hl n0 HN HB).mono ?_; rintro e w3 ⟨vb, rfl, hl3, hr3, hbut3⟩; obtain ⟨aob, cpb, rfl⟩ := hl3.shape; obtain ⟨c3, f3, hcell3⟩ := hr2.cell; have hs3 := hs2.but hbut3 hcell3 (by decide); have hx3 := hx2.but hbut3 hne; have hy3 := hy2.but hbut3 hne1; clear hc2 hf2 hd2 he2; obtain ⟨hc3, hf3⟩ := hx3.rules; obtain ⟨hd3, he3⟩ := hy3.rules; have hz3 := hx3.lt; have hzy3 := hy3.lt; have hlt3 := hr3.lt; have hB3 := hB2.trans hbut3; clear hcell3) | (go_at_call 89; have hq := hr3; refine (take_yes _ r wv l r2 7 hq hl (by decide) H7).mono ?_; rintro e w4 ⟨rfl, hr4, hbut4⟩; obtain ⟨c7, f7, hcell7⟩ := hq.cell; have hs4 := hs3.but hbut4 hcell7 (by decide); have hl4 := hl3.but hbut4 hcell7 (by decide) (by decide); have hx4 := hx3.but hbut4 hne; have hy4 := hy3.but hbut4 hne1; clear hc3 hf3 hd3 he3; obtain ⟨hc4, hf4⟩ := hx4.rules; obtain ⟨hd4, he4⟩ := hy4.rules; have hz4 := hx4.lt; have hzy4 := hy4.lt; have hlt4 := hr4.lt; have hB4 := hB3.trans hbut4; clear hq hcell7) | (go_at_call 89; have hq := hr1; refine (take_yes _ r wv l r1 9 (by exact hq.below (by repeat' (first | (with_reducible exact Below.refl _ _) | (with_reducible assumption) | (with_reducible refine bdrewN ?_ _) | (with_reducible refine Below.alloc ?_ ?_ _) | (with_reducible refine Below.drew ?_) | (with_reducible refine Below.setCell ?_ ?_ _) | go_size))) hl (by decide) H9).mono ?_; rintro e w2 ⟨rfl, hr2, hbut2⟩; have hq1 := (But.refl r w1).alloc (Obj.cells #[.bool a.neg, .string a.pred, .slice ao a.args.length cp] 45); obtain ⟨c1, f1, hcell1⟩ := hr1.cell; have hs2 := hs1.but (hq1.trans hbut2) hcell1 (by decide); have hx2 := (hx1.below ((Below.refl _ _).alloc (Nat.le_refl _) _)).but hbut2 hne; have hy2 := (Box.new w1 _ _).but hbut2 hne1; obtain ⟨hc2, hf2⟩ := hx2.rules; obtain ⟨hd2, he2⟩ := hy2.rules; have hz2 := hx2.lt; have hzy2 := hy2.lt; have hlt2 := hr2.lt; have hB2 := hB1.trans (hq1.trans hbut2); clear hq hq1 hcell1))
  exact bodyPost_ret (v := .tuple #[.agg #[.bool a.neg, .string a.pred, .slice ao a.args.length cp, .slice aob b.length cpb], .bool true]) (by simp [results, Tryz.results61, go_sem, hc4]) rfl ⟨(by repeat' (first | (with_reducible exact But.refl _ _) | (with_reducible assumption) | (with_reducible refine But.drewN ?_ _) | (with_reducible refine But.alloc ?_ _) | (with_reducible refine But.drew ?_) | (with_reducible refine But.setCell ?_ _ _) | (with_reducible refine But.setNew ?_ ?_ _) | go_size)), _, _, rfl, (hs4.low (by first | (simp; done) | omega)).but (r := w.heap.size) (by repeat' (first | (with_reducible exact But.refl _ _) | (with_reducible assumption) | (with_reducible refine But.drewN ?_ _) | (with_reducible refine But.alloc ?_ _) | (with_reducible refine But.drew ?_) | (with_reducible refine But.setCell ?_ _ _) | (with_reducible refine But.setNew ?_ ?_ _) | go_size)) hx4 (by decide), (hl4.low (by first | (simp; done) | omega)).but (r := w.heap.size) (by repeat' (first | (with_reducible exact But.refl _ _) | (with_reducible assumption) | (with_reducible refine But.drewN ?_ _) | (with_reducible refine But.alloc ?_ _) | (with_reducible refine But.drew ?_) | (with_reducible refine But.setCell ?_ _ _) | (with_reducible refine But.setNew ?_ ?_ _) | go_size)) hx4 (by decide) (by decide), h.keep hr4 (by repeat' (first | (with_reducible exact Below.refl _ _) | (with_reducible assumption) | (with_reducible refine bdrewN ?_ _) | (with_reducible refine Below.alloc ?_ ?_ _) | (with_reducible refine Below.drew ?_) | (with_reducible refine Below.setCell ?_ ?_ _) | go_size))⟩

theorem clause_any (w : World) (r : Nat) (wv : Value) (l rest : List Tok) (h : Rd w r wv l rest) (hl : l.length ≤ 500) (n0 : Nat) (hn0 : rest.length ≤ n0) :
    Calls Tryz.prog 61 #[.pointer (some ⟨r, 0, none⟩)] w fun e w' => ClausePost (pClause n0 rest) w r wv l e w' := by
  unfold pClause
  split
  · rename_i ha; exact clause_a w r wv l rest h hl ha
  · rename_i a r1 ha
    have hlen := pAtom_len ha
    split
    · rename_i h9
      have hn : r1.tail.length < n0 := by simp; omega
      split
      · rename_i hb; exact clause_d w r wv l rest h hl r1 a n0 ha h9 hn hb
      · rename_i b r2 hb
        split
        · rename_i h7; exact clause_f w r wv l rest h hl r1 r2 a b n0 ha h9 hn hb h7
        · rename_i h7; exact clause_e w r wv l rest h hl r1 r2 a b n0 ha h9 hn hb h7
    · rename_i h9
      split
      · rename_i h7; exact clause_c w r wv l rest h hl r1 a ha h9 h7
      · rename_i h7; exact clause_b w r wv l rest h hl r1 a ha h9 h7
end Go.Proofs.YteampbddflhngabGreat
