import Derived.Test.YteampbddflhngabGreatB10

/- Walks: preds.Table.add. -/
namespace Go.Proofs.YteampbddflhngabGreat
open Go.RowKit

theorem nat_beq (a b : Nat) : ((a : Int) == (b : Int)) = decide (a = b) := by
  by_cases h : a = b
  · subst h; simp
  · rw [decide_eq_false h, beq_eq_false_iff_ne]; omega
theorem ret_bool {a b : Bool} (h : a = b) : Ending.returned (.bool a) = .returned (.bool b) := by rw [h]
def addT (t : List PEnt) (l : PLit) : Option (List PEnt) := match entAt t l.pred with
  | some e => if e.arity = l.args.length then some t else none
  | none => some (insAt t ⟨l.pred, l.args.length, 0⟩ (placeB t l.pred))

set_option maxRecDepth 100000 in
set_option maxHeartbeats 1000000 in
theorem tadd_has (B : Nat) (w : World) (tb : Nat) (t : List PEnt) (l : PLit) (aoa : Option Addr) (capa : Nat) (h : TA B w tb t) (hl : t.length ≤ 1000) (e0 : PEnt) (hn : entAt t l.pred = some e0) :
    Calls Tryz.prog 63 #[.pointer (some ⟨tb, 0, none⟩), .agg #[.bool l.neg, .string l.pred, .slice aoa l.args.length capa]] w fun e w' => e = .returned (.bool (decide (e0.arity = l.args.length))) ∧ Below w.heap.size w w' := by
  obtain ⟨ao, cap, hbx, hown⟩ := h.view
  have hlt := hbx.lt
  have hle := placeB_le t l.pred
  have hbA := (Below.refl w.heap.size w).alloc (Nat.le_refl _) (.cells #[.bool l.neg, .string l.pred, .slice aoa l.args.length capa] 45)
  have HPL : Hid (Calls Tryz.prog 78 #[.pointer (some ⟨tb, 0, none⟩), .string l.pred] (w.alloc (.cells #[.bool l.neg, .string l.pred, .slice aoa l.args.length capa] 45)) fun e w' => e = .returned (.int .i64 (placeB t l.pred)) ∧ w' = (w.alloc (.cells #[.bool l.neg, .string l.pred, .slice aoa l.args.length capa] 45))) := place_any B _ tb t l.pred (h.below hbA) hl
  obtain ⟨hc, hf⟩ := hbx.rules
  obtain ⟨hk, hee, hnn⟩ := entAt_some hn
  obtain ⟨g, rfl, hg, _, hd0, hd1, _⟩ := ent_cell hown _ hk
  rw [hee] at hd0 hd1
  have he := seq_true hnn
  clear hn hnn hee
  generalize e0.name = x at *
  generalize placeB t l.pred = k at *
  go_enter Tryz.func63, Tryz.ntmps63
  go_wp2_with (first | (go_at_call 78; refine HPL.out.mono ?_; rintro e w' ⟨rfl, rfl⟩; clear HPL))
  go_quiet (fail)
  go_wp2
  go_quiet (fail)
  go_wp2
  go_ret
  exact ⟨ret_bool (nat_beq _ _), (by repeat' (first | (with_reducible exact Below.refl _ _) | (with_reducible assumption) | (with_reducible refine bdrewN ?_ _) | (with_reducible refine Below.alloc ?_ ?_ _) | (with_reducible refine Below.drew ?_) | (with_reducible refine Below.setCell ?_ ?_ _) | go_size))⟩

set_option maxRecDepth 100000 in
set_option maxHeartbeats 1000000 in
theorem tadd_new (B : Nat) (w : World) (tb : Nat) (t : List PEnt) (l : PLit) (aoa : Option Addr) (capa : Nat) (h : TA B w tb t) (hl : t.length ≤ 1000) (hn : entAt t l.pred = none) (hB : B ≤ w.heap.size) (hBt : B ≤ tb) :
    Calls Tryz.prog 63 #[.pointer (some ⟨tb, 0, none⟩), .agg #[.bool l.neg, .string l.pred, .slice aoa l.args.length capa]] w fun e w' => e = .returned (.bool true) ∧ TA B w' tb (insAt t ⟨l.pred, l.args.length, 0⟩ (placeB t l.pred)) ∧ Below B w w' ∧ KeepP tb w w' := by
  obtain ⟨ao, cap, hbx, hown⟩ := h.view
  have hlt := hbx.lt
  have hle := placeB_le t l.pred
  have hbA := (Below.refl w.heap.size w).alloc (Nat.le_refl _) (.cells #[.bool l.neg, .string l.pred, .slice aoa l.args.length capa] 45)
  have HPL : Hid (Calls Tryz.prog 78 #[.pointer (some ⟨tb, 0, none⟩), .string l.pred] (w.alloc (.cells #[.bool l.neg, .string l.pred, .slice aoa l.args.length capa] 45)) fun e w' => e = .returned (.int .i64 (placeB t l.pred)) ∧ w' = (w.alloc (.cells #[.bool l.neg, .string l.pred, .slice aoa l.args.length capa] 45))) := place_any B _ tb t l.pred (h.below hbA) hl
  obtain ⟨hc, hf⟩ := hbx.rules
  have hta := h
  have HTA : Hid (TA B w tb t) := hta
  have HINS : Hid (insAt t ⟨l.pred, l.args.length, 0⟩ (placeB t l.pred) = t.take (placeB t l.pred) ++ ⟨l.pred, l.args.length, 0⟩ :: t.drop (placeB t l.pred)) := rfl
  rw [HINS.out]
  clear h hta HINS
  rcases entAt_none hn with hk | ⟨hk, hne⟩
  · clear hn
    generalize placeB t l.pred = k at *
    go_enter Tryz.func63, Tryz.ntmps63
    go_wp2_with (first | (go_at_call 78; refine HPL.out.mono ?_; rintro e w' ⟨rfl, rfl⟩; clear HPL))
    go_quiet (fail)
    go_wp2_with (first | (go_at_call 93; refine (insert_any B _ tb t k ⟨l.pred, l.args.length, 0⟩ (by exact HTA.out.below (by repeat' (first | (with_reducible exact Below.refl _ _) | (with_reducible assumption) | (with_reducible refine bdrewN ?_ _) | (with_reducible refine Below.alloc ?_ ?_ _) | (with_reducible refine Below.drew ?_) | (with_reducible refine Below.setCell ?_ ?_ _) | go_size))) hl hle (by exact Nat.le_trans hB (by simp)) hBt).mono ?_; rintro e w2 ⟨rfl, ht2, hb2, hkp2⟩))
    go_ret
    exact ⟨rfl, ht2, ((bdrewN (hbA.mono hB) _)).trans hb2, (KeepP.of (bdrewN hbA _)).trans hkp2⟩
  · obtain ⟨g, rfl, hg, _, hd0, hd1, _⟩ := ent_cell hown _ hk
    have he := seq_false hne
    clear hn hne
    generalize t[placeB t l.pred].name = x at *
    generalize placeB t l.pred = k at *
    go_enter Tryz.func63, Tryz.ntmps63
    go_wp2_with (first | (go_at_call 78; refine HPL.out.mono ?_; rintro e w' ⟨rfl, rfl⟩; clear HPL))
    go_quiet (fail)
    go_wp2_with (first | (go_at_call 93; refine (insert_any B _ tb t k ⟨l.pred, l.args.length, 0⟩ (by exact HTA.out.below (by repeat' (first | (with_reducible exact Below.refl _ _) | (with_reducible assumption) | (with_reducible refine bdrewN ?_ _) | (with_reducible refine Below.alloc ?_ ?_ _) | (with_reducible refine Below.drew ?_) | (with_reducible refine Below.setCell ?_ ?_ _) | go_size))) hl hle (by exact Nat.le_trans hB (by simp)) hBt).mono ?_; rintro e w2 ⟨rfl, ht2, hb2, hkp2⟩))
    go_ret
    exact ⟨rfl, ht2, ((bdrewN (hbA.mono hB) _)).trans hb2, (KeepP.of (bdrewN hbA _)).trans hkp2⟩
end Go.Proofs.YteampbddflhngabGreat

/- Walks: preds.Collect. -/
namespace Go.Proofs.YteampbddflhngabGreat
open Go.RowKit
variable {lo : Nat}

theorem addT_len {t t' : List PEnt} {l : PLit} (h : addT t l = some t') : t'.length ≤ t.length + 1 := by
  unfold addT at h
  split at h
  · split at h <;> simp at h; subst h; omega
  · simp at h; subst h; rw [insAt_len]; omega
theorem addT_zero {t t' : List PEnt} {l : PLit} (h : addT t l = some t') (hz : ∀ e ∈ t, e.stratum ≤ 0) : ∀ e ∈ t', e.stratum ≤ 0 := by
  unfold addT at h
  split at h
  · split at h <;> simp at h; subst h; exact hz
  · simp at h; subst h
    intro e he
    unfold insAt at he
    rcases List.mem_append.1 he with he | he
    · exact hz e (List.mem_of_mem_take he)
    · rcases List.mem_cons.1 he with he | he
      · subst he; exact Nat.le_refl _
      · exact hz e (List.mem_of_mem_drop he)
def addO (o : Option (List PEnt)) (l : PLit) : Option (List PEnt) := o.bind (addT · l)
def litsOf (c : PClause) : List PLit := c.head :: c.body
def collB (cs : List PClause) : Option (List PEnt) := (cs.flatMap litsOf).foldl addO (some [])
theorem addO_none (ls : List PLit) : ls.foldl addO none = none := by
  induction ls with
  | nil => rfl
  | cons a ls ih => exact ih
theorem addO_zero : ∀ (ls : List PLit) (t : List PEnt), (∀ e ∈ t, e.stratum ≤ 0) → ∀ t', ls.foldl addO (some t) = some t' → ∀ e ∈ t', e.stratum ≤ 0
  | [], t, hz, t', h => by simp at h; subst h; exact hz
  | l :: ls, t, hz, t', h => by
    simp only [List.foldl_cons] at h
    cases ha : addT t l with
    | none => rw [show addO (some t) l = none from ha, addO_none] at h; cases h
    | some t2 => rw [show addO (some t) l = some t2 from ha] at h; exact addO_zero ls t2 (addT_zero ha hz) t' h
theorem addO_len : ∀ (ls : List PLit) (t : List PEnt), ∀ t', ls.foldl addO (some t) = some t' → t'.length ≤ t.length + ls.length
  | [], t, t', h => by simp at h; subst h; simp
  | l :: ls, t, t', h => by
    simp only [List.foldl_cons] at h
    cases ha : addT t l with
    | none => rw [show addO (some t) l = none from ha, addO_none] at h; cases h
    | some t2 => rw [show addO (some t) l = some t2 from ha] at h; have := addO_len ls t2 t' h; have := addT_len ha; simp; omega

theorem tadd_no (B : Nat) (w : World) (tb : Nat) (t : List PEnt) (l : PLit) (aoa : Option Addr) (capa : Nat) (h : TA B w tb t) (hl : t.length ≤ 1000) (hn : addT t l = none) :
    Calls Tryz.prog 63 #[.pointer (some ⟨tb, 0, none⟩), .agg #[.bool l.neg, .string l.pred, .slice aoa l.args.length capa]] w fun e w' => e = .returned (.bool false) ∧ Below w.heap.size w w' := by
  unfold addT at hn
  split at hn
  · rename_i e0 he
    split at hn
    · cases hn
    · rename_i hne
      have := tadd_has B w tb t l aoa capa h hl e0 he
      rw [decide_eq_false hne] at this
      exact this
  · cases hn
theorem tadd_yes (B : Nat) (w : World) (tb : Nat) (t t2 : List PEnt) (l : PLit) (aoa : Option Addr) (capa : Nat) (h : TA B w tb t) (hl : t.length ≤ 1000) (hn : addT t l = some t2) (hB : B ≤ w.heap.size) (hBt : B ≤ tb) :
    Calls Tryz.prog 63 #[.pointer (some ⟨tb, 0, none⟩), .agg #[.bool l.neg, .string l.pred, .slice aoa l.args.length capa]] w fun e w' => e = .returned (.bool true) ∧ TA B w' tb t2 ∧ Below B w w' ∧ KeepP tb w w' := by
  unfold addT at hn
  split at hn
  · rename_i e0 he
    split at hn
    · rename_i heq
      simp at hn
      subst hn
      have := tadd_has B w tb t l aoa capa h hl e0 he
      rw [decide_eq_true heq] at this
      refine this.mono ?_
      rintro e w' ⟨rfl, hb⟩
      exact ⟨rfl, h.below hb, hb.mono hB, KeepP.of hb⟩
    · cases hn
  · rename_i he
    simp at hn
    subst hn
    exact tadd_new B w tb t l aoa capa h hl he hB hBt

def CollPost (o : Option (List PEnt)) (w : World) (e : Ending) (w' : World) : Prop :=
  Below w.heap.size w w' ∧ match o with
    | none => e = .returned (.tuple #[.agg #[.slice none 0 0], .bool false])
    | some t => ∃ pv, e = .returned (.tuple #[.agg #[pv], .bool true]) ∧ w'.ownsRow w.heap.size 138 3 pv t.length (pcells t)
theorem collPost_no {o : Option (List PEnt)} {w w' : World} (h : Hid (o = none)) (hb : Below w.heap.size w w') : CollPost o w (.returned (.tuple #[.agg #[.slice none 0 0], .bool false])) w' := by
  have h' : o = none := h
  subst h'; exact ⟨hb, rfl⟩
theorem collPost_yes {o : Option (List PEnt)} {w w' : World} {t : List PEnt} {pv : Value} (h : Hid (o = some t)) (hb : Below w.heap.size w w') (ho : w'.ownsRow w.heap.size 138 3 pv t.length (pcells t)) : CollPost o w (.returned (.tuple #[.agg #[pv], .bool true])) w' := by
  have h' : o = some t := h
  subst h'; exact ⟨hb, pv, rfl, ho⟩

set_option maxRecDepth 100000 in
set_option maxHeartbeats 1000000 in
theorem collect_any (w : World) (v : Value) (cs : List PClause) (hcs : CIn lo 90 w v cs) (hN : (cs.flatMap litsOf).length ≤ 1000) :
    Calls Tryz.prog 40 #[v] w fun e w' => CollPost (collB cs) w e w' := by
  obtain ⟨ao, cap, rfl⟩ := hcs.shape
  have hcl : cs.length ≤ 1000 := by
    have : cs.length ≤ (cs.flatMap litsOf).length := by
      clear hN hcs
      induction cs with
      | nil => simp
      | cons c cs ih => simp [litsOf] at ih ⊢; omega
    omega
  go_enter Tryz.func40, Tryz.ntmps40
  go_wp2
  go_loopw [11] (fun i wr => ∃ (k : Nat) (tk : List PEnt), k ≤ cs.length ∧ i = .int .i64 k ∧ Below w.heap.size w wr ∧ TA w.heap.size wr (w.heap.size + 1) tk ∧ Box wr w.heap.size #[.slice none 0 0] 84 ∧ tk.length + ((cs.drop k).flatMap litsOf).length ≤ 1000 ∧ Hid (collB cs = ((cs.drop k).flatMap litsOf).foldl addO (some tk))) (fun i _ => cs.length - (intOf i).toNat)
  case atStart =>
    have hb1 := (Below.refl w.heap.size w).alloc (Nat.le_refl _) (.cells #[.slice none 0 0] 84)
    exact ⟨0, [], Nat.zero_le _, rfl, (by repeat' (first | (with_reducible exact Below.refl _ _) | (with_reducible assumption) | (with_reducible refine bdrewN ?_ _) | (with_reducible refine Below.alloc ?_ ?_ _) | (with_reducible refine Below.drew ?_) | (with_reducible refine Below.setCell ?_ ?_ _) | go_size)), ⟨_, Box.newAt _ _ _ _ (by simp), World.ownsRow_nil _ _ _ _⟩, (Box.new w _ _).below ((Below.refl _ _).alloc (Nat.le_refl _) _), (by simpa using hN), rfl⟩
  case round =>
    obtain ⟨k, tk, hk, rfl, hbk, htk, hres, hnk, H⟩ := hrel
    have hszk := hbk.size
    have hres1 := hres.lt
    have htl : w.heap.size + 1 < wr.heap.size := by obtain ⟨_, hb, _⟩ := htk; exact hb.lt
    by_cases hlt : k < cs.length
    · have hdr := List.drop_eq_getElem_cons hlt
      obtain ⟨g, ao2, cap2, ao3, cap3, rfl, hg, hc0, hc1, hc2, hc3, hsk, hlk⟩ := hcs.cell k hlt
      have hd0 := (hbk.cell (p := ⟨g, k * 4, none⟩) hg).trans hc0
      have hd1 := (hbk.cell (p := ⟨g, k * 4 + 1, none⟩) hg).trans hc1
      have hd2 := (hbk.cell (p := ⟨g, k * 4 + 2, none⟩) hg).trans hc2
      have hd3 := (hbk.cell (p := ⟨g, k * 4 + 3, none⟩) hg).trans hc3
      have hgr : g < wr.heap.size := by omega
      clear hc0 hc1 hc2 hc3 hsk
      generalize cs[k] = c at *
      rw [hdr] at hnk
      have H1 : Hid (collB cs = (c.body ++ (cs.drop (k + 1)).flatMap litsOf).foldl addO (addO (some tk) c.head)) := by rw [Hid, H.out, hdr]; rfl
      simp only [List.flatMap_cons, litsOf, List.length_append, List.length_cons] at hnk
      generalize hR : (cs.drop (k + 1)).flatMap litsOf = rest at *
      have HR : Hid ((cs.drop (k + 1)).flatMap litsOf = rest) := hR
      clear hR H hdr
      cases hA : addT tk c.head with
      | none =>
        have HA : Hid (addT tk c.head = none) := hA
        have HF : Hid (collB cs = none) := by rw [Hid, H1.out, show addO (some tk) c.head = none from hA, addO_none]
        clear H1 hA
        go_wp2_with (first | (go_at_call 63; refine (tadd_no w.heap.size _ (w.heap.size + 1) tk c.head _ _ (by exact htk.below (by repeat' (first | (with_reducible exact Below.refl _ _) | (with_reducible assumption) | (with_reducible refine bdrewN ?_ _) | (with_reducible refine Below.alloc ?_ ?_ _) | (with_reducible refine Below.drew ?_) | (with_reducible refine Below.setCell ?_ ?_ _) | go_size))) (by omega) HA).mono ?_; rintro e w1 ⟨rfl, hb1⟩; have hB1 := bnext ((Below.refl wr.heap.size wr).alloc (Nat.le_refl _) _) hb1 (Nat.le_refl _); have hBB := bnext hbk hB1 (Nat.le_refl _); have hres2 := hres.below hB1; obtain ⟨hrc, hrf⟩ := hres2.rules; have hz2 := hres2.lt))
        exact bodyPost_ret (v := .tuple #[.agg #[.slice none 0 0], .bool false]) (by simp [results, Tryz.results40, go_sem, hrc]) rfl (collPost_no HF (by repeat' (first | (with_reducible exact Below.refl _ _) | (with_reducible assumption) | (with_reducible refine bdrewN ?_ _) | (with_reducible refine Below.alloc ?_ ?_ _) | (with_reducible refine Below.drew ?_) | (with_reducible refine Below.setCell ?_ ?_ _) | go_size)))
      | some t1 =>
        have HA : Hid (addT tk c.head = some t1) := hA
        have hl1 := addT_len hA
        have H2 : Hid (collB cs = (c.body ++ rest).foldl addO (some t1)) := by rw [Hid, H1.out, show addO (some tk) c.head = some t1 from hA]
        clear H1 hA
        go_wp2_with (first | (go_at_call 63; refine (tadd_yes w.heap.size _ (w.heap.size + 1) tk t1 c.head _ _ (by exact htk.below (by repeat' (first | (with_reducible exact Below.refl _ _) | (with_reducible assumption) | (with_reducible refine bdrewN ?_ _) | (with_reducible refine Below.alloc ?_ ?_ _) | (with_reducible refine Below.drew ?_) | (with_reducible refine Below.setCell ?_ ?_ _) | go_size))) (by omega) HA (by exact Nat.le_trans hszk (by simp)) (by omega)).mono ?_; rintro e w1 ⟨rfl, ht1, hb1, hkp1⟩; have hBB : Below w.heap.size w w1 := (hbk.alloc hszk _).trans hb1; have hres2 := hkp1.box _ _ _ (by omega) (by decide) (hres.below ((Below.refl _ _).alloc (Nat.le_refl _) _)); have hcb := hkp1.box _ _ _ (by omega) (by decide) (Box.new wr _ _); obtain ⟨hcc, hcf⟩ := hcb.rules; have hzc := hcb.lt; have hz2 := hres2.lt))
        go_loopw [23] (fun i wj => ∃ (j : Nat) (tj : List PEnt), j ≤ c.body.length ∧ i = .int .i64 j ∧ Below w.heap.size w wj ∧ TA w.heap.size wj (w.heap.size + 1) tj ∧ Box wj w.heap.size #[.slice none 0 0] 84 ∧ tj.length + (c.body.drop j).length + rest.length ≤ 1000 ∧ Hid (collB cs = (c.body.drop j ++ rest).foldl addO (some tj))) (fun i _ => c.body.length - (intOf i).toNat)
        case atStart => exact ⟨0, t1, Nat.zero_le _, rfl, hBB, ht1, hres2, (by simp; omega), H2⟩
        case round =>
          clear hcc hcf hcb hzc
          obtain ⟨j, tj, hj, rfl, hbj, htj, hresj, hnj, HJ⟩ := hrel
          have hszj := hbj.size
          have hresl := hresj.lt
          by_cases hjl : j < c.body.length
          · obtain ⟨gl, aol, capl, rfl, hgl, hl0, hl1', hl2', _⟩ := hlk.cell j hjl
            have he0 := (hbj.cell (p := ⟨gl, j * 3, none⟩) hgl).trans hl0
            have he1 := (hbj.cell (p := ⟨gl, j * 3 + 1, none⟩) hgl).trans hl1'
            have he2 := (hbj.cell (p := ⟨gl, j * 3 + 2, none⟩) hgl).trans hl2'
            have hgj : gl < wr.heap.size := by omega
            have hdj := List.drop_eq_getElem_cons hjl
            clear hl0 hl1' hl2'
            generalize c.body[j] = a at *
            rw [hdj] at hnj
            have HJ1 : Hid (collB cs = (c.body.drop (j + 1) ++ rest).foldl addO (addO (some tj) a)) := by rw [Hid, HJ.out, hdj]; rfl
            simp only [List.length_cons] at hnj
            clear hdj HJ
            cases hA : addT tj a with
            | none =>
              have HA : Hid (addT tj a = none) := hA
              have HF : Hid (collB cs = none) := by rw [Hid, HJ1.out, show addO (some tj) a = none from hA, addO_none]
              clear HJ1 hA
              go_wp2_with (first | (go_at_call 63; refine (tadd_no w.heap.size _ (w.heap.size + 1) tj a _ _ (by exact htj.below (by repeat' (first | (with_reducible exact Below.refl _ _) | (with_reducible assumption) | (with_reducible refine bdrewN ?_ _) | (with_reducible refine Below.alloc ?_ ?_ _) | (with_reducible refine Below.drew ?_) | (with_reducible refine Below.setCell ?_ ?_ _) | go_size))) (by omega) HA).mono ?_; rintro e w3 ⟨rfl, hb3⟩; have hB3 := bnext ((Below.refl wr.heap.size wr).alloc (Nat.le_refl _) _) hb3 (Nat.le_refl _); have hBB3 := bnext hbj hB3 (Nat.le_refl _); have hres3 := hresj.below hB3; obtain ⟨hrc, hrf⟩ := hres3.rules; have hz3 := hres3.lt))
              exact bodyPost_ret (v := .tuple #[.agg #[.slice none 0 0], .bool false]) (by simp [results, Tryz.results40, go_sem, hrc]) rfl (collPost_no HF (by repeat' (first | (with_reducible exact Below.refl _ _) | (with_reducible assumption) | (with_reducible refine bdrewN ?_ _) | (with_reducible refine Below.alloc ?_ ?_ _) | (with_reducible refine Below.drew ?_) | (with_reducible refine Below.setCell ?_ ?_ _) | go_size)))
            | some t2 =>
              have HA : Hid (addT tj a = some t2) := hA
              have hl2 := addT_len hA
              have HJ2 : Hid (collB cs = (c.body.drop (j + 1) ++ rest).foldl addO (some t2)) := by rw [Hid, HJ1.out, show addO (some tj) a = some t2 from hA]
              have htjl : w.heap.size + 1 < wr.heap.size := by obtain ⟨_, hb, _⟩ := htj; exact hb.lt
              clear HJ1 hA
              go_wp2_with (first | (go_at_call 63; refine (tadd_yes w.heap.size _ (w.heap.size + 1) tj t2 a _ _ (by exact htj.below (by repeat' (first | (with_reducible exact Below.refl _ _) | (with_reducible assumption) | (with_reducible refine bdrewN ?_ _) | (with_reducible refine Below.alloc ?_ ?_ _) | (with_reducible refine Below.drew ?_) | (with_reducible refine Below.setCell ?_ ?_ _) | go_size))) (by omega) HA (by exact Nat.le_trans hszj (by simp)) (by omega)).mono ?_; rintro e w3 ⟨rfl, ht3, hb3, hkp3⟩; have hBB3 : Below w.heap.size w w3 := (hbj.alloc hszj _).trans hb3; have hres3 := hkp3.box _ _ _ (by omega) (by decide) (hresj.below ((Below.refl _ _).alloc (Nat.le_refl _) _))))
              go_roundw
              case rel => exact ⟨j + 1, t2, by omega, by go_num, hBB3, ht3, hres3, by omega, HJ2⟩
              case measure => simp [intOf]; omega
          · have HE : Hid (collB cs = ((cs.drop (k + 1)).flatMap litsOf).foldl addO (some tj)) := by rw [Hid, HJ.out, List.drop_eq_nil_of_le (by omega), HR.out]; rfl
            have hnr : tj.length + rest.length ≤ 1000 := by omega
            clear HJ
            go_wp2
            go_roundw
            case rel => exact ⟨k + 1, tj, by omega, by go_num, hbj, htj, hresj, by rw [HR.out]; exact hnr, HE⟩
            case measure => simp [intOf]; omega
    · have HF : Hid (collB cs = some tk) := by rw [Hid, H.out, List.drop_eq_nil_of_le (by omega)]; rfl
      obtain ⟨aop, capp, hbx, hown⟩ := htk.view
      obtain ⟨hc, hf⟩ := hbx.rules
      obtain ⟨hrc, hrf⟩ := hres.rules
      have hbxl := hbx.lt
      clear H
      go_wp2
      have ho2 := own_but hown ((But.refl w.heap.size wr).setCell 0 (.slice aop tk.length capp)) hres (by decide)
      exact bodyPost_ret (v := .tuple #[.agg #[.slice aop tk.length capp], .bool true]) (by simp [results, Tryz.results40, go_sem, hrc]) rfl (collPost_yes HF (by repeat' (first | (with_reducible exact Below.refl _ _) | (with_reducible assumption) | (with_reducible refine bdrewN ?_ _) | (with_reducible refine Below.alloc ?_ ?_ _) | (with_reducible refine Below.drew ?_) | (with_reducible refine Below.setCell ?_ ?_ _) | go_size)) ho2)
end Go.Proofs.YteampbddflhngabGreat

/- Walks: clauses.termsText, clauses.litText. -/
namespace Go.Proofs.YteampbddflhngabGreat
open Go.RowKit
variable {lo : Nat}

def bComma : ByteArray := ⟨#[44, 32]⟩
/-- Texts with commas between. -/
def joinT : List ByteArray → ByteArray
  | [] => ByteArray.empty
  | [t] => t
  | t :: r => t ++ bComma ++ joinT r
theorem joinT_snoc : ∀ (l : List ByteArray) (x : ByteArray), l ≠ [] → joinT (l ++ [x]) = joinT l ++ bComma ++ x
  | [], _, h => absurd rfl h
  | [t], x, _ => rfl
  | t :: u :: r, x, _ => by
    show t ++ bComma ++ joinT (u :: (r ++ [x])) = t ++ bComma ++ joinT (u :: r) ++ bComma ++ x
    have := joinT_snoc (u :: r) x (by simp)
    rw [List.cons_append] at this
    rw [this]
    simp only [ByteArray.append_assoc]
theorem joinT_take {l : List ByteArray} {k : Nat} (hk : k < l.length) : joinT (l.take (k + 1)) = if k = 0 then l[k] else joinT (l.take k) ++ bComma ++ l[k] := by
  rw [List.take_succ_eq_append_getElem hk]
  split
  · rename_i h; subst h; rfl
  · rw [joinT_snoc]
    intro h
    have := congrArg List.length h
    rw [List.length_take, List.length_nil] at this
    omega

def bBang : ByteArray := ⟨#[33]⟩
def bOpen : ByteArray := ⟨#[40]⟩
def bShut : ByteArray := ⟨#[41]⟩
def predT (l : PLit) : ByteArray := if l.neg then bBang ++ l.pred else l.pred
/-- A literal's text. -/
def litT (l : PLit) : ByteArray := if l.args.length = 0 then predT l else predT l ++ bOpen ++ joinT l.args ++ bShut
theorem joinT_size : ∀ (l : List ByteArray), (∀ t ∈ l, t.size ≤ 6) → (joinT l).size ≤ 8 * l.length
  | [], _ => by simp [joinT]
  | [t], h => by have := h t (by simp); simp [joinT]; omega
  | t :: u :: r, h => by
    have h1 := h t (by simp)
    have h2 := joinT_size (u :: r) fun x hx => h x (List.mem_cons_of_mem _ hx)
    show (t ++ bComma ++ joinT (u :: r)).size ≤ _
    rw [ByteArray.size_append, ByteArray.size_append, show bComma.size = 2 from rfl]
    simp only [List.length_cons] at h2 ⊢
    omega
theorem predT_size {l : PLit} (h : l.pred.size ≤ 6) : (predT l).size ≤ 7 := by
  unfold predT; split
  · rw [ByteArray.size_append, show bBang.size = 1 from rfl]; omega
  · omega
/-- What a text's literals keep to. -/
def LitFine (l : PLit) : Prop := l.pred.size ≤ 6 ∧ 0 < l.pred.size ∧ l.args.length ≤ 1000 ∧ ∀ t ∈ l.args, 0 < t.size ∧ t.size ≤ 6
theorem litT_size {l : PLit} (h : LitFine l) : (litT l).size ≤ 9 + 8 * l.args.length := by
  obtain ⟨h1, _, _, h4⟩ := h
  have h5 := predT_size h1
  unfold litT; split
  · omega
  · rw [ByteArray.size_append, ByteArray.size_append, ByteArray.size_append, show bOpen.size = 1 from rfl, show bShut.size = 1 from rfl]
    have := joinT_size l.args fun t ht => (h4 t ht).2
    omega

end Go.Proofs.YteampbddflhngabGreat

/- Walks: clauses.Clause.Text. -/
namespace Go.Proofs.YteampbddflhngabGreat
open Go.RowKit
variable {lo : Nat}

def bArrow : ByteArray := ⟨#[32, 58, 45, 32]⟩
def bDot : ByteArray := ⟨#[46]⟩
def bLine : ByteArray := ⟨#[10]⟩
def bodyT (b : List PLit) : ByteArray := if b.length = 0 then ByteArray.empty else bArrow ++ joinT (b.map litT)
/-- A clause's text. -/
def clT (c : PClause) : ByteArray := litT c.head ++ bodyT c.body ++ bDot
def ClFine (c : PClause) : Prop := (∀ l ∈ litsOf c, LitFine l) ∧ c.body.length ≤ 1000
theorem bodyT_take {b : List PLit} {k : Nat} (hk : k < b.length) (s : ByteArray) : s ++ bodyT (b.take (k + 1)) = if k = 0 then s ++ bArrow ++ litT b[k] else s ++ bodyT (b.take k) ++ bComma ++ litT b[k] := by
  have hl : (b.take (k + 1)).length ≠ 0 := by rw [List.length_take]; omega
  have hj : joinT ((b.take (k + 1)).map litT) = if k = 0 then litT b[k] else joinT ((b.take k).map litT) ++ bComma ++ litT b[k] := by
    have := joinT_take (l := b.map litT) (k := k) (by simpa using hk)
    rw [← List.map_take, ← List.map_take] at this
    simpa using this
  unfold bodyT
  rw [if_neg hl, hj]
  split
  · rw [ByteArray.append_assoc]
  · rw [if_neg (by rw [List.length_take]; omega)]
    simp only [ByteArray.append_assoc]

end Go.Proofs.YteampbddflhngabGreat
