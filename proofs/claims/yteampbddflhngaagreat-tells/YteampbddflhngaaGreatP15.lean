import Derived.Test.YteampbddflhngaaGreatP04
import Derived.Deep.OwnRows

/- Walks: clauses.termsText, clauses.litText. -/
namespace Go.Proofs.YteampbddflhngaaGreat
open Go.RowKit
variable {lo : Nat}

def bComma : ByteArray := ⟨#[44, 32]⟩
/-- Texts with commas between. -/
def joinT : List ByteArray → ByteArray
  | [] => ByteArray.empty
  | [t] => t
  | t :: r => t ++ bComma ++ joinT r
theorem joinT_snoc : ∀ (l : List ByteArray) (x : ByteArray), l ≠ [] → joinT (l ++ [x]) = joinT l ++ bComma ++ x
  | [], _, h => absurd rfl h
  | [t], x, _ => rfl
  | t :: u :: r, x, _ => by
    show t ++ bComma ++ joinT (u :: (r ++ [x])) = t ++ bComma ++ joinT (u :: r) ++ bComma ++ x
    have := joinT_snoc (u :: r) x (by simp)
    rw [List.cons_append] at this
    rw [this]
    simp only [ByteArray.append_assoc]
theorem joinT_take {l : List ByteArray} {k : Nat} (hk : k < l.length) : joinT (l.take (k + 1)) = if k = 0 then l[k] else joinT (l.take k) ++ bComma ++ l[k] := by
  rw [List.take_succ_eq_append_getElem hk]
  split
  · rename_i h; subst h; rfl
  · rw [joinT_snoc]
    intro h
    have := congrArg List.length h
    rw [List.length_take, List.length_nil] at this
    omega

set_option maxRecDepth 100000 in
set_option maxHeartbeats 2000000 in
theorem termsText_any (w : World) (v : Value) (l : List ByteArray) (hs : SIn lo w v l) (hl : l.length ≤ 1000) (h6 : ∀ t ∈ l, t.size ≤ 6) :
    Calls Tryz.prog 169 #[v] w fun e w' => e = .returned (.string (joinT l)) ∧ Below w.heap.size w w' := by
  obtain ⟨ao, cap, rfl⟩ := hs.shape
  have H6 : Hid (∀ t ∈ l, t.size ≤ 6) := h6
  clear h6
  go_enter Tryz.func169, Tryz.ntmps169
  go_wp2
  go_loopw [3, 8] (fun v3 v8 wr => ∃ (k : Nat) (s : ByteArray), k ≤ l.length ∧ v8 = .int .i64 k ∧ v3 = .string s ∧ s.size ≤ 8 * k ∧ Hid (s = joinT (l.take k)) ∧ Below w.heap.size w wr) (fun _ i _ => l.length - (intOf i).toNat)
  case atStart => exact ⟨0, _, Nat.zero_le _, rfl, rfl, Nat.le_refl _, rfl, Below.refl _ _⟩
  case round =>
    obtain ⟨k, s, hk, rfl, rfl, hsz, H, hbk⟩ := hrel
    have hszk := hbk.size
    by_cases hlt : k < l.length
    · obtain ⟨g, rfl, hg, hck⟩ := hs.cell k hlt
      have hxk := (hbk.cell (p := ⟨g, k, none⟩) hg).trans hck
      have hgr : g < wr.heap.size := by omega
      have HJ := joinT_take hlt
      have hx6 := H6.out _ (List.getElem_mem hlt)
      clear hck
      generalize l[k] = x at *
      by_cases h0 : k = 0
      · have HN : Hid (s ++ x = joinT (l.take (k + 1))) := by rw [Hid, HJ, if_pos h0, H.out, h0]; simp [joinT]
        subst h0
        clear HJ H
        go_wp2
        go_roundw
        case rel => exact ⟨1, s ++ x, by omega, by go_num, rfl, (by rw [ByteArray.size_append]; omega), HN, (by repeat' (first | (with_reducible exact Below.refl _ _) | (with_reducible assumption) | (with_reducible refine bdrewN ?_ _) | (with_reducible refine Below.alloc ?_ ?_ _) | (with_reducible refine Below.drew ?_) | (with_reducible refine Below.setCell ?_ ?_ _) | go_size))⟩
        case measure => simp [intOf]; omega
      · have HN : Hid (s ++ bComma ++ x = joinT (l.take (k + 1))) := by rw [Hid, HJ, if_neg h0, H.out]
        have hc2 : bComma.size = 2 := rfl
        have hs2 : (s ++ bComma).size = s.size + 2 := by rw [ByteArray.size_append, hc2]
        clear HJ H
        go_wp2
        go_roundw
        case rel => exact ⟨k + 1, s ++ bComma ++ x, by omega, by go_num, rfl, (by rw [ByteArray.size_append]; omega), HN, (by repeat' (first | (with_reducible exact Below.refl _ _) | (with_reducible assumption) | (with_reducible refine bdrewN ?_ _) | (with_reducible refine Below.alloc ?_ ?_ _) | (with_reducible refine Below.drew ?_) | (with_reducible refine Below.setCell ?_ ?_ _) | go_size))⟩
        case measure => simp [intOf]; omega
    · have HN : Hid (s = joinT l) := by rw [Hid, H.out, List.take_of_length_le (by omega)]
      clear H
      go_wp2
      go_ret
      exact ⟨by rw [← HN.out]; rfl, hbk⟩

def bBang : ByteArray := ⟨#[33]⟩
def bOpen : ByteArray := ⟨#[40]⟩
def bShut : ByteArray := ⟨#[41]⟩
def predT (l : PLit) : ByteArray := if l.neg then bBang ++ l.pred else l.pred
/-- A literal's text. -/
def litT (l : PLit) : ByteArray := if l.args.length = 0 then predT l else predT l ++ bOpen ++ joinT l.args ++ bShut
theorem joinT_size : ∀ (l : List ByteArray), (∀ t ∈ l, t.size ≤ 6) → (joinT l).size ≤ 8 * l.length
  | [], _ => by simp [joinT]
  | [t], h => by have := h t (by simp); simp [joinT]; omega
  | t :: u :: r, h => by
    have h1 := h t (by simp)
    have h2 := joinT_size (u :: r) fun x hx => h x (List.mem_cons_of_mem _ hx)
    show (t ++ bComma ++ joinT (u :: r)).size ≤ _
    rw [ByteArray.size_append, ByteArray.size_append, show bComma.size = 2 from rfl]
    simp only [List.length_cons] at h2 ⊢
    omega
theorem predT_size {l : PLit} (h : l.pred.size ≤ 6) : (predT l).size ≤ 7 := by
  unfold predT; split
  · rw [ByteArray.size_append, show bBang.size = 1 from rfl]; omega
  · omega
/-- What a text's literals keep to. -/
def LitFine (l : PLit) : Prop := l.pred.size ≤ 6 ∧ 0 < l.pred.size ∧ l.args.length ≤ 1000 ∧ ∀ t ∈ l.args, 0 < t.size ∧ t.size ≤ 6
theorem litT_size {l : PLit} (h : LitFine l) : (litT l).size ≤ 9 + 8 * l.args.length := by
  obtain ⟨h1, _, _, h4⟩ := h
  have h5 := predT_size h1
  unfold litT; split
  · omega
  · rw [ByteArray.size_append, ByteArray.size_append, ByteArray.size_append, show bOpen.size = 1 from rfl, show bShut.size = 1 from rfl]
    have := joinT_size l.args fun t ht => (h4 t ht).2
    omega

set_option maxRecDepth 100000 in
set_option maxHeartbeats 2000000 in
theorem litText_any (w : World) (l : PLit) (va : Value) (hs : SIn lo w va l.args) (hf : LitFine l) :
    Calls Tryz.prog 131 #[.agg #[.bool l.neg, .string l.pred, va]] w fun e w' => e = .returned (.string (litT l)) ∧ Below w.heap.size w w' := by
  obtain ⟨ao, cap, rfl⟩ := hs.shape
  obtain ⟨h1, h2, h3, h4⟩ := hf
  have H4 : Hid (∀ t ∈ l.args, t.size ≤ 6) := fun t ht => (h4 t ht).2
  have HS : Hid (∀ W, Below w.heap.size w W → Calls Tryz.prog 169 #[.slice ao l.args.length cap] W fun e w' => e = .returned (.string (joinT l.args)) ∧ Below W.heap.size W w') := fun W hW => termsText_any W _ l.args (hs.below hW) h3 H4.out
  have hj := joinT_size l.args H4.out
  have hb1 : bBang.size = 1 := rfl
  have hb2 : bOpen.size = 1 := rfl
  have hb3 : bShut.size = 1 := rfl
  clear h4
  cases hn : l.neg with
  | true =>
    have hp : (bBang ++ l.pred).size ≤ 7 := by rw [ByteArray.size_append]; omega
    by_cases h0 : l.args.length = 0
    · have HT : Hid (litT l = bBang ++ l.pred) := by unfold Hid litT predT; rw [if_pos h0, hn]; rfl
      have h0b : ((l.args.length : Int) == 0) = true := by rw [beq_iff_eq]; omega
      clear hn
      generalize joinT l.args = j at *
      generalize l.args.length = n at *
      go_enter Tryz.func131, Tryz.ntmps131
      go_wp2
      go_ret
      exact ⟨by rw [HT.out]; rfl, (by repeat' (first | (with_reducible exact Below.refl _ _) | (with_reducible assumption) | (with_reducible refine bdrewN ?_ _) | (with_reducible refine Below.alloc ?_ ?_ _) | (with_reducible refine Below.drew ?_) | (with_reducible refine Below.setCell ?_ ?_ _) | go_size))⟩
    · have HT : Hid (litT l = bBang ++ l.pred ++ bOpen ++ joinT l.args ++ bShut) := by unfold Hid litT predT; rw [if_neg h0, hn]; rfl
      have h0b : ((l.args.length : Int) == 0) = false := by rw [beq_eq_false_iff_ne]; omega
      have hq1 : (bBang ++ l.pred ++ bOpen).size ≤ 8 := by rw [ByteArray.size_append]; omega
      have hq2 : (bBang ++ l.pred ++ bOpen ++ joinT l.args).size ≤ 8 + 8 * l.args.length := by rw [ByteArray.size_append]; omega
      clear hn
      generalize joinT l.args = j at *
      generalize l.args.length = n at *
      go_enter Tryz.func131, Tryz.ntmps131
      go_wp2_with (first | (go_at_call 169; refine (HS.out _ (by exact (by repeat' (first | (with_reducible exact Below.refl _ _) | (with_reducible assumption) | (with_reducible refine bdrewN ?_ _) | (with_reducible refine Below.alloc ?_ ?_ _) | (with_reducible refine Below.drew ?_) | (with_reducible refine Below.setCell ?_ ?_ _) | go_size)))).mono ?_; rintro e w1 ⟨rfl, hb1'⟩))
      go_ret
      exact ⟨by rw [HT.out]; rfl, bnext ((Below.refl w.heap.size w).alloc (Nat.le_refl _) _) hb1' (Nat.le_refl _)⟩
  | false =>
    by_cases h0 : l.args.length = 0
    · have HT : Hid (litT l = l.pred) := by unfold Hid litT predT; rw [if_pos h0, hn]; rfl
      have h0b : ((l.args.length : Int) == 0) = true := by rw [beq_iff_eq]; omega
      clear hn
      generalize joinT l.args = j at *
      generalize l.args.length = n at *
      go_enter Tryz.func131, Tryz.ntmps131
      go_wp2
      go_ret
      exact ⟨by rw [HT.out]; rfl, (by repeat' (first | (with_reducible exact Below.refl _ _) | (with_reducible assumption) | (with_reducible refine bdrewN ?_ _) | (with_reducible refine Below.alloc ?_ ?_ _) | (with_reducible refine Below.drew ?_) | (with_reducible refine Below.setCell ?_ ?_ _) | go_size))⟩
    · have HT : Hid (litT l = l.pred ++ bOpen ++ joinT l.args ++ bShut) := by unfold Hid litT predT; rw [if_neg h0, hn]; rfl
      have h0b : ((l.args.length : Int) == 0) = false := by rw [beq_eq_false_iff_ne]; omega
      have hq1 : (l.pred ++ bOpen).size ≤ 8 := by rw [ByteArray.size_append]; omega
      have hq2 : (l.pred ++ bOpen ++ joinT l.args).size ≤ 8 + 8 * l.args.length := by rw [ByteArray.size_append]; omega
      clear hn
      generalize joinT l.args = j at *
      generalize l.args.length = n at *
      go_enter Tryz.func131, Tryz.ntmps131
      go_wp2_with (first | (go_at_call 169; refine (HS.out _ (by exact (by repeat' (first | (with_reducible exact Below.refl _ _) | (with_reducible assumption) | (with_reducible refine bdrewN ?_ _) | (with_reducible refine Below.alloc ?_ ?_ _) | (with_reducible refine Below.drew ?_) | (with_reducible refine Below.setCell ?_ ?_ _) | go_size)))).mono ?_; rintro e w1 ⟨rfl, hb1'⟩))
      go_ret
      exact ⟨by rw [HT.out]; rfl, bnext ((Below.refl w.heap.size w).alloc (Nat.le_refl _) _) hb1' (Nat.le_refl _)⟩
end Go.Proofs.YteampbddflhngaaGreat

/- Walks: clauses.Clause.Text. -/
namespace Go.Proofs.YteampbddflhngaaGreat
open Go.RowKit
variable {lo : Nat}

def bArrow : ByteArray := ⟨#[32, 58, 45, 32]⟩
def bDot : ByteArray := ⟨#[46]⟩
def bLine : ByteArray := ⟨#[10]⟩
def bodyT (b : List PLit) : ByteArray := if b.length = 0 then ByteArray.empty else bArrow ++ joinT (b.map litT)
/-- A clause's text. -/
def clT (c : PClause) : ByteArray := litT c.head ++ bodyT c.body ++ bDot
def ClFine (c : PClause) : Prop := (∀ l ∈ litsOf c, LitFine l) ∧ c.body.length ≤ 1000
theorem bodyT_take {b : List PLit} {k : Nat} (hk : k < b.length) (s : ByteArray) : s ++ bodyT (b.take (k + 1)) = if k = 0 then s ++ bArrow ++ litT b[k] else s ++ bodyT (b.take k) ++ bComma ++ litT b[k] := by
  have hl : (b.take (k + 1)).length ≠ 0 := by rw [List.length_take]; omega
  have hj : joinT ((b.take (k + 1)).map litT) = if k = 0 then litT b[k] else joinT ((b.take k).map litT) ++ bComma ++ litT b[k] := by
    have := joinT_take (l := b.map litT) (k := k) (by simpa using hk)
    rw [← List.map_take, ← List.map_take] at this
    simpa using this
  unfold bodyT
  rw [if_neg hl, hj]
  split
  · rw [ByteArray.append_assoc]
  · rw [if_neg (by rw [List.length_take]; omega)]
    simp only [ByteArray.append_assoc]

set_option maxRecDepth 100000 in
set_option maxHeartbeats 2000000 in
theorem clText_any (w : World) (c : PClause) (va vb : Value) (hs : SIn lo w va c.head.args) (hb : LIn lo w vb c.body) (hf : ClFine c) :
    Calls Tryz.prog 85 #[.agg #[.bool c.head.neg, .string c.head.pred, va, vb]] w fun e w' => e = .returned (.string (clT c)) ∧ Below w.heap.size w w' := by
  obtain ⟨ao, cap, rfl⟩ := hs.shape
  obtain ⟨aob, capb, rfl⟩ := hb.shape
  obtain ⟨hf1, hf2⟩ := hf
  have HF : Hid (∀ l ∈ litsOf c, LitFine l) := hf1
  have hh := hf1 c.head (by simp [litsOf])
  have hhz := litT_size hh
  have hhl := hh.2.2.1
  have HH : Hid (∀ W, Below w.heap.size w W → Calls Tryz.prog 131 #[.agg #[.bool c.head.neg, .string c.head.pred, .slice ao c.head.args.length cap]] W fun e w' => e = .returned (.string (litT c.head)) ∧ Below W.heap.size W w') := fun W hW => litText_any W c.head _ (hs.below hW) hh
  have HC : Hid (clT c = litT c.head ++ bodyT c.body ++ bDot) := rfl
  clear hf1 hh
  generalize clT c = tc at *
  generalize litT c.head = th at *
  go_enter Tryz.func85, Tryz.ntmps85
  go_wp2_with (first | (go_at_call 131; refine (HH.out _ (by exact (by repeat' (first | (with_reducible exact Below.refl _ _) | (with_reducible assumption) | (with_reducible refine bdrewN ?_ _) | (with_reducible refine Below.alloc ?_ ?_ _) | (with_reducible refine Below.drew ?_) | (with_reducible refine Below.setCell ?_ ?_ _) | go_size)))).mono ?_; rintro e w1 ⟨rfl, hb1⟩; have hB1 := bnext ((Below.refl w.heap.size w).alloc (Nat.le_refl _) (.cells #[.bool c.head.neg, .string c.head.pred, .slice ao c.head.args.length cap, .slice aob c.body.length capb] 171)) hb1 (Nat.le_refl _); have hbx1 := (Box.new w #[.bool c.head.neg, .string c.head.pred, .slice ao c.head.args.length cap, .slice aob c.body.length capb] 171).below hb1; obtain ⟨hc1, hf1⟩ := hbx1.rules; have hlt1 := hbx1.lt))
  clear hc1 hf1
  go_loopw [3, 12] (fun v3 v12 wr => ∃ (k : Nat) (s : ByteArray), k ≤ c.body.length ∧ v12 = .int .i64 k ∧ v3 = .string s ∧ s.size ≤ 10000 * (k + 1) ∧ Hid (s = th ++ bodyT (c.body.take k)) ∧ Below w.heap.size w wr) (fun _ i _ => c.body.length - (intOf i).toNat)
  case atStart => exact ⟨0, th, Nat.zero_le _, rfl, rfl, by omega, (by simp [Hid, bodyT]), hB1⟩
  case round =>
    obtain ⟨k, s, hk, rfl, rfl, hsz, H, hbk⟩ := hrel
    have hszk := hbk.size
    by_cases hlt : k < c.body.length
    · obtain ⟨gl, aol, capl, rfl, hgl, hl0, hl1, hl2, hsl⟩ := hb.cell k hlt
      have he0 := (hbk.cell (p := ⟨gl, k * 3, none⟩) hgl).trans hl0
      have he1 := (hbk.cell (p := ⟨gl, k * 3 + 1, none⟩) hgl).trans hl1
      have he2 := (hbk.cell (p := ⟨gl, k * 3 + 2, none⟩) hgl).trans hl2
      have hgr : gl < wr.heap.size := by omega
      have HJ := bodyT_take hlt th
      have hfl := HF.out c.body[k] (by simp [litsOf])
      have hslr := hsl.below hbk
      clear hl0 hl1 hl2 hsl
      generalize c.body[k] = a at *
      have hla := litT_size hfl
      have hla2 := hfl.2.2.1
      have HL : Hid (∀ W, Below wr.heap.size wr W → Calls Tryz.prog 131 #[.agg #[.bool a.neg, .string a.pred, .slice aol a.args.length capl]] W fun e w' => e = .returned (.string (litT a)) ∧ Below W.heap.size W w') := fun W hW => litText_any W a _ (hslr.below hW) hfl
      clear hslr hfl
      generalize litT a = ta at *
      have hba : bArrow.size = 4 := rfl
      have hbc : bComma.size = 2 := rfl
      by_cases h0 : k = 0
      · have HN : Hid (s ++ bArrow ++ ta = th ++ bodyT (c.body.take (k + 1))) := by rw [Hid, HJ, if_pos h0, H.out, h0]; simp [bodyT]
        have hq : (s ++ bArrow).size = s.size + 4 := by rw [ByteArray.size_append, hba]
        subst h0
        clear HJ H
        go_wp2_with (first | (go_at_call 131; refine (HL.out _ (by exact (by repeat' (first | (with_reducible exact Below.refl _ _) | (with_reducible assumption) | (with_reducible refine bdrewN ?_ _) | (with_reducible refine Below.alloc ?_ ?_ _) | (with_reducible refine Below.drew ?_) | (with_reducible refine Below.setCell ?_ ?_ _) | go_size)))).mono ?_; rintro e w2 ⟨rfl, hb2⟩; have hB2 : Below w.heap.size w w2 := bnext (hbk.alloc hszk _) hb2 (Nat.le_refl _)))
        go_roundw
        case rel => exact ⟨1, s ++ bArrow ++ ta, by omega, by go_num, rfl, (by rw [ByteArray.size_append]; omega), HN, hB2⟩
        case measure => simp [intOf]; omega
      · have HN : Hid (s ++ bComma ++ ta = th ++ bodyT (c.body.take (k + 1))) := by rw [Hid, HJ, if_neg h0, H.out]
        have hq : (s ++ bComma).size = s.size + 2 := by rw [ByteArray.size_append, hbc]
        clear HJ H
        go_wp2_with (first | (go_at_call 131; refine (HL.out _ (by exact (by repeat' (first | (with_reducible exact Below.refl _ _) | (with_reducible assumption) | (with_reducible refine bdrewN ?_ _) | (with_reducible refine Below.alloc ?_ ?_ _) | (with_reducible refine Below.drew ?_) | (with_reducible refine Below.setCell ?_ ?_ _) | go_size)))).mono ?_; rintro e w2 ⟨rfl, hb2⟩; have hB2 : Below w.heap.size w w2 := bnext (hbk.alloc hszk _) hb2 (Nat.le_refl _)))
        go_roundw
        case rel => exact ⟨k + 1, s ++ bComma ++ ta, by omega, by go_num, rfl, (by rw [ByteArray.size_append]; omega), HN, hB2⟩
        case measure => simp [intOf]; omega
    · have HN : Hid (s ++ bDot = tc) := by rw [Hid, HC.out, H.out, List.take_of_length_le (by omega)]
      have hbd : bDot.size = 1 := rfl
      clear H
      go_wp2
      go_ret
      exact ⟨by rw [← HN.out]; rfl, hbk⟩
end Go.Proofs.YteampbddflhngaaGreat

/- Walks: the table of predicates within a program: place, Find, Stratum, Names. -/
namespace Go.Proofs.YteampbddflhngaaGreat
open Go.RowKit
variable {lo : Nat}

/-- The table within a program's object. -/
def TP (B : Nat) (w : World) (tb : Nat) (t : List PEnt) : Prop := ∃ cv pv, Box w tb #[cv, pv] 131 ∧ w.ownsRow B 221 3 pv t.length (pcells t)
theorem TP.below {B : Nat} {w w' : World} {tb : Nat} {t : List PEnt} (h : TP B w tb t) (hb : Below w.heap.size w w') : TP B w' tb t := by
  obtain ⟨cv, nv, h1, h2⟩ := h; exact ⟨cv, nv, h1.below hb, owns_below h2 hb⟩
theorem TP.view {B : Nat} {w : World} {tb : Nat} {t : List PEnt} (h : TP B w tb t) : ∃ cv ao cap, Box w tb #[cv, .slice ao t.length cap] 131 ∧ w.ownsRow B 221 3 (.slice ao t.length cap) t.length (pcells t) := by
  obtain ⟨cv, nv, h1, h2⟩ := h
  obtain ⟨ao, cap, rfl⟩ := own_view h2
  exact ⟨cv, ao, cap, h1, h2⟩

set_option maxRecDepth 100000 in
set_option maxHeartbeats 1000000 in
theorem pplace_any (B : Nat) (w : World) (tb : Nat) (t : List PEnt) (n : ByteArray) (h : TP B w tb t) (hl : t.length ≤ 1000) :
    Calls Tryz.prog 126 #[.pointer (some ⟨tb, 1, none⟩), .string n] w fun e w' => e = .returned (.int .i64 (placeB t n)) ∧ w' = w := by
  obtain ⟨cv, ao, cap, hbx, hown⟩ := h.view
  obtain ⟨hc, hf⟩ := hbx.rules
  clear h
  go_enter Tryz.func126, Tryz.ntmps126
  go_wp2
  go_loop [5] (fun i => ∃ k : Nat, k ≤ t.length ∧ i = .int .i64 k ∧ Hid (∀ j (hj : j < t.length), j < k → ltB t[j].name n = true)) (fun i => t.length - (intOf i).toNat)
  case atStart => exact ⟨0, Nat.zero_le _, rfl, fun j hj h => by omega⟩
  case round =>
    obtain ⟨k, hk, rfl, H⟩ := hrel
    by_cases hlt : k < t.length
    · obtain ⟨g, rfl, hg, _, hd0, _, _⟩ := ent_cell hown k hlt
      cases hL : ltB t[k].name n with
      | true =>
        have H2 : Hid (∀ j (hj : j < t.length), j < k + 1 → ltB t[j].name n = true) := fun j hj h => by
          rcases Nat.lt_or_ge j k with h' | h'
          · exact H.out j hj h'
          · obtain rfl : j = k := by omega
            exact hL
        unfold ltB at hL
        generalize t[k].name = x at *
        clear H
        go_wp2
        go_round
        case rel => exact ⟨k + 1, by omega, by go_num, H2⟩
        case measure => simp [intOf]; omega
      | false =>
        have H2 : Hid (placeB t n = k) := placeB_stop t n k H.out hlt hL
        unfold ltB at hL
        generalize t[k].name = x at *
        clear H
        go_wp2
        go_ret
        exact ⟨by rw [H2.out]; rfl, rfl⟩
    · have H2 : Hid (placeB t n = k) := by
        have := placeB_end t n (fun j hj => H.out j hj (by omega)); unfold Hid; omega
      clear H
      go_wp2
      go_ret
      exact ⟨by rw [H2.out]; rfl, rfl⟩
set_option maxRecDepth 100000 in
set_option maxHeartbeats 1000000 in
theorem pfind_no (B : Nat) (w : World) (tb : Nat) (t : List PEnt) (n : ByteArray) (h : TP B w tb t) (hl : t.length ≤ 1000) (hn : entAt t n = none) :
    Calls Tryz.prog 77 #[.pointer (some ⟨tb, 1, none⟩), .string n] w fun e w' => e = .returned (.tuple #[.int .i64 0, .bool false]) ∧ w' = w := by
  have hpl := pplace_any B w tb t n h hl
  obtain ⟨cv, ao, cap, hbx, hown⟩ := h.view
  obtain ⟨hc, hf⟩ := hbx.rules
  have HPL : Hid (Calls Tryz.prog 126 #[.pointer (some ⟨tb, 1, none⟩), .string n] w fun e w' => e = .returned (.int .i64 (placeB t n)) ∧ w' = w) := hpl
  have hle := placeB_le t n
  clear h hpl
  rcases entAt_none hn with hk | ⟨hk, hne⟩
  · clear hn
    generalize placeB t n = k at *
    go_enter Tryz.func77, Tryz.ntmps77
    go_wp2_with (first | (go_at_call 126; refine HPL.out.mono ?_; rintro e w' ⟨rfl, rfl⟩; clear HPL))
    go_ret2
    exact ⟨rfl, rfl⟩
  · obtain ⟨g, rfl, hg, _, hd0, _, _⟩ := ent_cell hown _ hk
    have he := seq_false hne
    clear hn hne
    generalize t[placeB t n].name = x at *
    generalize placeB t n = k at *
    go_enter Tryz.func77, Tryz.ntmps77
    go_wp2_with (first | (go_at_call 126; refine HPL.out.mono ?_; rintro e w' ⟨rfl, rfl⟩; clear HPL))
    go_ret2
    exact ⟨rfl, rfl⟩

set_option maxRecDepth 100000 in
set_option maxHeartbeats 1000000 in
theorem pfind_yes (B : Nat) (w : World) (tb : Nat) (t : List PEnt) (n : ByteArray) (e0 : PEnt) (h : TP B w tb t) (hl : t.length ≤ 1000) (hn : entAt t n = some e0) :
    Calls Tryz.prog 77 #[.pointer (some ⟨tb, 1, none⟩), .string n] w fun e w' => e = .returned (.tuple #[.int .i64 (placeB t n), .bool true]) ∧ w' = w := by
  have hpl := pplace_any B w tb t n h hl
  obtain ⟨cv, ao, cap, hbx, hown⟩ := h.view
  obtain ⟨hc, hf⟩ := hbx.rules
  have HPL : Hid (Calls Tryz.prog 126 #[.pointer (some ⟨tb, 1, none⟩), .string n] w fun e w' => e = .returned (.int .i64 (placeB t n)) ∧ w' = w) := hpl
  have hle := placeB_le t n
  clear h hpl
  obtain ⟨hk, hee, hnn⟩ := entAt_some hn
  obtain ⟨g, rfl, hg, _, hd0, _, hd2⟩ := ent_cell hown _ hk
  rw [hee] at hd0 hd2
  have he := seq_true hnn
  clear hn hnn hee
  generalize e0.name = x at *
  generalize placeB t n = k at *
  go_enter Tryz.func77, Tryz.ntmps77
  go_wp2_with (first | (go_at_call 126; refine HPL.out.mono ?_; rintro e w' ⟨rfl, rfl⟩; clear HPL))
  go_ret2
  exact ⟨rfl, rfl⟩


set_option maxRecDepth 100000 in
set_option maxHeartbeats 1000000 in
theorem pstratum_no (B : Nat) (w : World) (tb : Nat) (t : List PEnt) (n : ByteArray) (h : TP B w tb t) (hl : t.length ≤ 1000) (hn : entAt t n = none) :
    Calls Tryz.prog 159 #[.pointer (some ⟨tb, 1, none⟩), .string n] w fun e w' => e = .returned (.tuple #[.int .i64 0, .bool false]) ∧ w' = w := by
  have HF : Hid (Calls Tryz.prog 77 #[.pointer (some ⟨tb, 1, none⟩), .string n] w fun e w' => e = .returned (.tuple #[.int .i64 0, .bool false]) ∧ w' = w) := pfind_no B w tb t n h hl hn
  clear h hn hl
  go_enter Tryz.func159, Tryz.ntmps159
  go_wp2_with (first | (go_at_call 77; refine HF.out.mono ?_; rintro e w' ⟨rfl, rfl⟩; clear HF))
  go_ret2
  exact ⟨rfl, rfl⟩

set_option maxRecDepth 100000 in
set_option maxHeartbeats 1000000 in
theorem pstratum_yes (B : Nat) (w : World) (tb : Nat) (t : List PEnt) (n : ByteArray) (e0 : PEnt) (h : TP B w tb t) (hl : t.length ≤ 1000) (hn : entAt t n = some e0) :
    Calls Tryz.prog 159 #[.pointer (some ⟨tb, 1, none⟩), .string n] w fun e w' => e = .returned (.tuple #[.int .i64 e0.stratum, .bool true]) ∧ w' = w := by
  have HF : Hid (Calls Tryz.prog 77 #[.pointer (some ⟨tb, 1, none⟩), .string n] w fun e w' => e = .returned (.tuple #[.int .i64 (placeB t n), .bool true]) ∧ w' = w) := pfind_yes B w tb t n e0 h hl hn
  obtain ⟨cv, ao, cap, hbx, hown⟩ := h.view
  obtain ⟨hc, hf⟩ := hbx.rules
  obtain ⟨hk, hee, hnn⟩ := entAt_some hn
  obtain ⟨g, rfl, hg, _, hd0, _, hd2⟩ := ent_cell hown _ hk
  rw [hee] at hd2
  clear hn hnn hee h hd0
  generalize placeB t n = k at *
  go_enter Tryz.func159, Tryz.ntmps159
  go_wp2_with (first | (go_at_call 77; refine HF.out.mono ?_; rintro e w' ⟨rfl, rfl⟩; clear HF))
  go_ret2
  exact ⟨rfl, rfl⟩

end Go.Proofs.YteampbddflhngaaGreat

/- Walks: clauses.copyStrings, preds.Table.Names, clauses.Vars.Names. -/
namespace Go.Proofs.YteampbddflhngaaGreat
open Go.RowKit
variable {lo : Nat}

theorem own_make (w : World) (n : Nat) (T : TypeId) (z : Value) (hn : n ≤ maxLen) : (w.alloc (.cells (madeCells #[z] n) T)).ownsRow w.heap.size T 1 (.slice (some ⟨w.heap.size, 0, none⟩) n n) n (List.replicate n z) := by
  refine ⟨by simp, Or.inr ⟨w.heap.size, n, madeCells #[z] n, rfl, Nat.le_refl _, ?_, Nat.le_refl _, hn, by rw [size_madeCells]; omega, ?_⟩⟩
  · show (w.heap.push _)[w.heap.size]? = _
    simp
  · apply List.ext_getElem?
    intro i
    by_cases hi : i < n
    · simp [hi, madeCells, Nat.mod_one]
    · simp [List.getElem?_take, hi]
/-- A list, its first k elements written. -/
def fillS {α : Type} (f : α → Value) (l : List α) (z : Value) (k : Nat) : List Value := (l.take k).map f ++ List.replicate (l.length - k) z
theorem fill_set {α : Type} (f : α → Value) (l : List α) (z : Value) (k : Nat) (hk : k < l.length) : (fillS f l z k).set k (f l[k]) = fillS f l z (k + 1) := by
  unfold fillS
  have h1 : ((l.take k).map f).length = k := by simp; omega
  rw [List.set_append_right _ _ (by omega), h1, Nat.sub_self, List.take_succ_eq_append_getElem hk, List.map_append, List.append_assoc]
  congr 1
  rw [show l.length - k = (l.length - (k + 1)) + 1 by omega, List.replicate_succ]
  rfl
theorem fill_len {α : Type} (f : α → Value) (l : List α) (z : Value) (k : Nat) (hk : k ≤ l.length) : (fillS f l z k).length = l.length := by unfold fillS; simp; omega
theorem fill_zero {α : Type} (f : α → Value) (l : List α) (z : Value) : fillS f l z 0 = List.replicate l.length z := by simp [fillS]
theorem fill_all {α : Type} (f : α → Value) (l : List α) (z : Value) (k : Nat) (hk : ¬ k < l.length) : fillS f l z k = l.map f := by
  unfold fillS; rw [List.take_of_length_le (by omega), show l.length - k = 0 by omega]; simp

set_option maxRecDepth 100000 in
set_option maxHeartbeats 2000000 in
theorem copyStrings_any (w : World) (v : Value) (l : List ByteArray) (hs : SIn lo w v l) (hl : l.length ≤ 1000) :
    Calls Tryz.prog 170 #[v] w fun e w' => ∃ g, w.heap.size ≤ g ∧ e = .returned (.slice (some ⟨g, 0, none⟩) l.length l.length) ∧ SIn w.heap.size w' (.slice (some ⟨g, 0, none⟩) l.length l.length) l ∧ Below w.heap.size w w' := by
  obtain ⟨ao, cap, rfl⟩ := hs.shape
  have hmk := run_make_row' (P := Tryz.prog) 30 9 (.string ByteArray.empty) 16 Tryz.underlying30 Tryz.infoString rfl .i64 .i64 l.length (by omega) (by omega)
  go_enter Tryz.func170, Tryz.ntmps170
  go_wp2
  clear hmk
  have hom := own_make w l.length 9 (.string ByteArray.empty) (by unfold maxLen; omega)
  rw [← fill_zero Value.string] at hom
  go_loopw [11] (fun i wr => ∃ k : Nat, k ≤ l.length ∧ i = .int .i64 k ∧ Below w.heap.size w wr ∧ wr.ownsRow w.heap.size 9 1 (.slice (some ⟨w.heap.size, 0, none⟩) l.length l.length) l.length (fillS Value.string l (.string ByteArray.empty) k)) (fun i _ => l.length - (intOf i).toNat)
  case atStart => exact ⟨0, Nat.zero_le _, rfl, (by repeat' (first | (with_reducible exact Below.refl _ _) | (with_reducible assumption) | (with_reducible refine bdrewN ?_ _) | (with_reducible refine Below.alloc ?_ ?_ _) | (with_reducible refine Below.drew ?_) | (with_reducible refine Below.setCell ?_ ?_ _) | go_size)), hom⟩
  case round =>
    clear hom
    obtain ⟨k, hk, rfl, hbk, hown⟩ := hrel
    have hszk := hbk.size
    by_cases hlt : k < l.length
    · obtain ⟨g, rfl, hg, hck⟩ := hs.cell k hlt
      have hxk := (hbk.cell (p := ⟨g, k, none⟩) hg).trans hck
      have hgr : g < wr.heap.size := by omega
      have hset := own_set hown k (by rw [fill_len _ _ _ _ hk]; exact hlt) (.string l[k])
      rw [fill_set Value.string l _ k hlt] at hset
      have HSET : Hid ((wr.setCell ⟨w.heap.size, k, none⟩ (.string l[k])).ownsRow w.heap.size 9 1 (.slice (some ⟨w.heap.size, 0, none⟩) l.length l.length) l.length (fillS Value.string l (.string ByteArray.empty) (k + 1))) := hset
      have hfz := own_free hown
      obtain ⟨g2, cap2, hv2, _, hg2, hcl2⟩ := own_cells hown (by omega)
      simp at hv2
      obtain ⟨rfl, _⟩ := hv2
      have hck2 : ∃ u, wr.cell? ⟨w.heap.size, k, none⟩ = some u := ⟨_, hcl2 k _ (List.getElem?_eq_getElem (by rw [fill_len _ _ _ _ hk]; exact hlt))⟩
      obtain ⟨u0, hu0⟩ := hck2
      clear hck hset hcl2
      generalize l[k] = x at *
      go_wp2
      go_roundw
      case rel => exact ⟨k + 1, by omega, by go_num, (by repeat' (first | (with_reducible exact Below.refl _ _) | (with_reducible assumption) | (with_reducible refine bdrewN ?_ _) | (with_reducible refine Below.alloc ?_ ?_ _) | (with_reducible refine Below.drew ?_) | (with_reducible refine Below.setCell ?_ ?_ _) | go_size)), HSET⟩
      case measure => simp [intOf]; omega
    · rw [fill_all _ _ _ _ hlt] at hown
      go_wp2
      go_ret
      exact ⟨_, Nat.le_refl _, rfl, hown, hbk⟩

set_option maxRecDepth 100000 in
set_option maxHeartbeats 2000000 in
theorem pnames_any (B : Nat) (w : World) (tb : Nat) (t : List PEnt) (h : TP B w tb t) (hl : t.length ≤ 1000) :
    Calls Tryz.prog 132 #[.pointer (some ⟨tb, 1, none⟩)] w fun e w' => ∃ g, w.heap.size ≤ g ∧ e = .returned (.slice (some ⟨g, 0, none⟩) t.length t.length) ∧ SIn w.heap.size w' (.slice (some ⟨g, 0, none⟩) t.length t.length) (t.map PEnt.name) ∧ Below w.heap.size w w' := by
  obtain ⟨cv, ao, cap, hbx, hown⟩ := h.view
  obtain ⟨hc, hf⟩ := hbx.rules
  have hlt := hbx.lt
  have hmk := run_make_row' (P := Tryz.prog) 30 9 (.string ByteArray.empty) 16 Tryz.underlying30 Tryz.infoString rfl .i64 .i64 t.length (by omega) (by omega)
  go_enter Tryz.func132, Tryz.ntmps132
  go_wp2
  clear hmk
  have hom := own_make w t.length 9 (.string ByteArray.empty) (by unfold maxLen; omega)
  rw [← fill_zero (fun e : PEnt => Value.string e.name)] at hom
  go_loopw [17] (fun i wr => ∃ k : Nat, k ≤ t.length ∧ i = .int .i64 k ∧ Below w.heap.size w wr ∧ wr.ownsRow w.heap.size 9 1 (.slice (some ⟨w.heap.size, 0, none⟩) t.length t.length) t.length (fillS (fun e : PEnt => Value.string e.name) t (.string ByteArray.empty) k)) (fun i _ => t.length - (intOf i).toNat)
  case atStart => exact ⟨0, Nat.zero_le _, rfl, (by repeat' (first | (with_reducible exact Below.refl _ _) | (with_reducible assumption) | (with_reducible refine bdrewN ?_ _) | (with_reducible refine Below.alloc ?_ ?_ _) | (with_reducible refine Below.drew ?_) | (with_reducible refine Below.setCell ?_ ?_ _) | go_size)), hom⟩
  case round =>
    clear hom hc hf
    obtain ⟨k, hk, rfl, hbk, hownk⟩ := hrel
    have hszk := hbk.size
    by_cases hkt : k < t.length
    · obtain ⟨g, rfl, hg, _, hd0, hd1, hd2⟩ := ent_cell hown k hkt
      have hx0 := (hbk.cell (p := ⟨g, k * 3, none⟩) hg).trans hd0
      have hx1 := (hbk.cell (p := ⟨g, k * 3 + 1, none⟩) hg).trans hd1
      have hx2 := (hbk.cell (p := ⟨g, k * 3 + 2, none⟩) hg).trans hd2
      have hgr : g < wr.heap.size := by omega
      have hset := own_set hownk k (by rw [fill_len _ _ _ _ hk]; exact hkt) (.string t[k].name)
      rw [fill_set (fun e : PEnt => Value.string e.name) t _ k hkt] at hset
      have HSET : Hid ((wr.setCell ⟨w.heap.size, k, none⟩ (.string t[k].name)).ownsRow w.heap.size 9 1 (.slice (some ⟨w.heap.size, 0, none⟩) t.length t.length) t.length (fillS (fun e : PEnt => Value.string e.name) t (.string ByteArray.empty) (k + 1))) := hset
      have hfz := own_free hownk
      obtain ⟨g2, cap2, hv2, _, hg2, hcl2⟩ := own_cells hownk (by omega)
      simp at hv2
      obtain ⟨rfl, _⟩ := hv2
      have hck2 : ∃ u, wr.cell? ⟨w.heap.size, k, none⟩ = some u := ⟨_, hcl2 k _ (List.getElem?_eq_getElem (by rw [fill_len _ _ _ _ hk]; exact hkt))⟩
      obtain ⟨u0, hu0⟩ := hck2
      clear hd0 hd1 hd2 hset hcl2
      generalize t[k] = x at *
      go_wp2
      go_roundw
      case rel => exact ⟨k + 1, by omega, by go_num, (by repeat' (first | (with_reducible exact Below.refl _ _) | (with_reducible assumption) | (with_reducible refine bdrewN ?_ _) | (with_reducible refine Below.alloc ?_ ?_ _) | (with_reducible refine Below.drew ?_) | (with_reducible refine Below.setCell ?_ ?_ _) | go_size)), owns_below HSET.out ((Below.refl _ _).alloc (Nat.le_refl _) _)⟩
      case measure => simp [intOf]; omega
    · rw [fill_all _ _ _ _ hkt] at hownk
      have hs : SIn w.heap.size wr (.slice (some ⟨w.heap.size, 0, none⟩) t.length t.length) (t.map PEnt.name) := by simpa [SIn, Function.comp_def] using hownk
      go_wp2
      go_ret
      exact ⟨_, Nat.le_refl _, rfl, hs, hbk⟩

set_option maxRecDepth 100000 in
set_option maxHeartbeats 2000000 in
theorem vnames_any (w : World) (vb : Nat) (nv : Value) (vs : List ByteArray) (hbox : Box w vb #[nv] 246) (hs : SIn lo w nv vs) (hl : vs.length ≤ 1000) :
    Calls Tryz.prog 197 #[.pointer (some ⟨vb, 0, none⟩)] w fun e w' => ∃ g, w.heap.size ≤ g ∧ e = .returned (.slice (some ⟨g, 0, none⟩) vs.length vs.length) ∧ SIn w.heap.size w' (.slice (some ⟨g, 0, none⟩) vs.length vs.length) vs ∧ Below w.heap.size w w' := by
  obtain ⟨hc, hf⟩ := hbox.rules
  obtain ⟨ao, cap, rfl⟩ := hs.shape
  have HC : Hid (Calls Tryz.prog 170 #[.slice ao vs.length cap] w fun e w' => ∃ g, w.heap.size ≤ g ∧ e = .returned (.slice (some ⟨g, 0, none⟩) vs.length vs.length) ∧ SIn w.heap.size w' (.slice (some ⟨g, 0, none⟩) vs.length vs.length) vs ∧ Below w.heap.size w w') := copyStrings_any w _ vs hs hl
  go_enter Tryz.func197, Tryz.ntmps197
  go_wp2_with (first | (go_at_call 170; refine HC.out.mono ?_; rintro e w1 ⟨g, hg, rfl, hs1, hb1⟩))
  go_ret
  exact ⟨g, hg, rfl, hs1, hb1⟩
end Go.Proofs.YteampbddflhngaaGreat

/- Walks: derive.Program's Preds, Stratum, Clauses, Vars, Text. -/
namespace Go.Proofs.YteampbddflhngaaGreat
open Go.RowKit
variable {lo : Nat}

/-- A program of the program's in memory, above lo. -/
def PProg (lo : Nat) (w : World) (pb : Nat) (cs : List PClause) (t : List PEnt) : Prop := lo ≤ pb ∧ ∃ v pv, Box w pb #[v, pv] 131 ∧ CIn lo 171 w v cs ∧ w.ownsRow lo 221 3 pv t.length (pcells t)
theorem PProg.table {w : World} {pb : Nat} {cs : List PClause} {t : List PEnt} (h : PProg lo w pb cs t) : TP lo w pb t := by
  obtain ⟨_, v, pv, h1, _, h3⟩ := h; exact ⟨v, pv, h1, h3⟩
theorem PProg.below {w w' : World} {pb : Nat} {cs : List PClause} {t : List PEnt} (h : PProg lo w pb cs t) (hb : Below w.heap.size w w') : PProg lo w' pb cs t := by
  obtain ⟨h0, v, pv, h1, h2, h3⟩ := h; exact ⟨h0, v, pv, h1.below hb, h2.below hb, owns_below h3 hb⟩

set_option maxRecDepth 100000 in
set_option maxHeartbeats 2000000 in
theorem prog_preds (w : World) (pb : Nat) (cs : List PClause) (t : List PEnt) (h : PProg lo w pb cs t) (hl : t.length ≤ 1000) :
    Calls Tryz.prog 86 #[.pointer (some ⟨pb, 0, none⟩)] w fun e w' => ∃ g, w.heap.size ≤ g ∧ e = .returned (.slice (some ⟨g, 0, none⟩) t.length t.length) ∧ SIn w.heap.size w' (.slice (some ⟨g, 0, none⟩) t.length t.length) (t.map PEnt.name) ∧ Below w.heap.size w w' := by
  have HN := pnames_any lo w pb t h.table hl
  have hlt : pb < w.heap.size := by obtain ⟨_, v, pv, h1, _⟩ := h; exact h1.lt
  go_enter Tryz.func86, Tryz.ntmps86
  go_wp2_with (first | (go_at_call 132; refine HN.mono ?_; rintro e w1 ⟨g, hg, rfl, hs1, hb1⟩))
  go_ret
  exact ⟨g, hg, rfl, hs1, hb1⟩

set_option maxRecDepth 100000 in
set_option maxHeartbeats 2000000 in
theorem prog_stratum_no (w : World) (pb : Nat) (cs : List PClause) (t : List PEnt) (n : ByteArray) (h : PProg lo w pb cs t) (hl : t.length ≤ 1000) (hn : entAt t n = none) :
    Calls Tryz.prog 136 #[.pointer (some ⟨pb, 0, none⟩), .string n] w fun e w' => e = .returned (.tuple #[.int .i64 0, .int .i64 11]) ∧ w' = w := by
  have HN := pstratum_no lo w pb t n h.table hl hn
  have hlt : pb < w.heap.size := by obtain ⟨_, v, pv, h1, _⟩ := h; exact h1.lt
  go_enter Tryz.func136, Tryz.ntmps136
  go_wp2_with (first | (go_at_call 159; refine HN.mono ?_; rintro e w' ⟨rfl, hww⟩; obtain rfl := hww.symm))
  go_ret2
  exact ⟨rfl, rfl⟩

set_option maxRecDepth 100000 in
set_option maxHeartbeats 2000000 in
theorem prog_stratum_yes (w : World) (pb : Nat) (cs : List PClause) (t : List PEnt) (n : ByteArray) (e0 : PEnt) (h : PProg lo w pb cs t) (hl : t.length ≤ 1000) (hn : entAt t n = some e0) :
    Calls Tryz.prog 136 #[.pointer (some ⟨pb, 0, none⟩), .string n] w fun e w' => e = .returned (.tuple #[.int .i64 e0.stratum, .int .i64 0]) ∧ w' = w := by
  have HN := pstratum_yes lo w pb t n e0 h.table hl hn
  have hlt : pb < w.heap.size := by obtain ⟨_, v, pv, h1, _⟩ := h; exact h1.lt
  go_enter Tryz.func136, Tryz.ntmps136
  go_wp2_with (first | (go_at_call 159; refine HN.mono ?_; rintro e w' ⟨rfl, hww⟩; obtain rfl := hww.symm))
  go_ret2
  exact ⟨rfl, rfl⟩

set_option maxRecDepth 100000 in
set_option maxHeartbeats 2000000 in
theorem prog_clauses (w : World) (pb : Nat) (cs : List PClause) (t : List PEnt) (h : PProg lo w pb cs t) :
    Calls Tryz.prog 48 #[.pointer (some ⟨pb, 0, none⟩)] w fun e w' => e = .returned (.int .i64 cs.length) ∧ w' = w := by
  obtain ⟨_, v, pv, h1, h2, _⟩ := h
  obtain ⟨ao, cap, rfl⟩ := h2.shape
  obtain ⟨hc, hf⟩ := h1.rules
  have hlt := h1.lt
  go_enter Tryz.func48, Tryz.ntmps48
  go_wp2
  go_ret
  exact ⟨rfl, rfl⟩

set_option maxRecDepth 100000 in
set_option maxHeartbeats 2000000 in
theorem prog_vars_no (w : World) (pb : Nat) (cs : List PClause) (t : List PEnt) (i : Int) (h : PProg lo w pb cs t) (hl : cs.length ≤ 1000) (hi : i < 0 ∨ (cs.length : Int) ≤ i) :
    Calls Tryz.prog 172 #[.pointer (some ⟨pb, 0, none⟩), .int .i64 i] w fun e w' => e = .returned (.tuple #[.slice none 0 0, .int .i64 11]) ∧ Below w.heap.size w w' := by
  obtain ⟨_, v, pv, h1, h2, _⟩ := h
  obtain ⟨ao, cap, rfl⟩ := h2.shape
  obtain ⟨hc, hf⟩ := h1.rules
  have hlt := h1.lt
  rcases hi with hi | hi
  · go_enter Tryz.func172, Tryz.ntmps172
    go_wp2
    go_ret2
    exact ⟨rfl, (by repeat' (first | (with_reducible exact Below.refl _ _) | (with_reducible assumption) | (with_reducible refine bdrewN ?_ _) | (with_reducible refine Below.alloc ?_ ?_ _) | (with_reducible refine Below.drew ?_) | (with_reducible refine Below.setCell ?_ ?_ _) | go_size))⟩
  · have hi0 : ¬ i < 0 := by omega
    go_enter Tryz.func172, Tryz.ntmps172
    go_wp2
    go_ret2
    exact ⟨rfl, (by repeat' (first | (with_reducible exact Below.refl _ _) | (with_reducible assumption) | (with_reducible refine bdrewN ?_ _) | (with_reducible refine Below.alloc ?_ ?_ _) | (with_reducible refine Below.drew ?_) | (with_reducible refine Below.setCell ?_ ?_ _) | go_size))⟩

set_option maxRecDepth 100000 in
set_option maxHeartbeats 2000000 in
theorem prog_vars_yes (w : World) (pb : Nat) (cs : List PClause) (t : List PEnt) (k : Nat) (h : PProg lo w pb cs t) (_hl : cs.length ≤ 1000) (hk : k < cs.length) (hok : ClOK cs[k]) :
    Calls Tryz.prog 172 #[.pointer (some ⟨pb, 0, none⟩), .int .i64 k] w fun e w' => ∃ g, w.heap.size ≤ g ∧ e = .returned (.tuple #[.slice (some ⟨g, 0, none⟩) (plainVs cs[k]).length (plainVs cs[k]).length, .int .i64 0]) ∧ SIn w.heap.size w' (.slice (some ⟨g, 0, none⟩) (plainVs cs[k]).length (plainVs cs[k]).length) (plainVs cs[k]) ∧ Below w.heap.size w w' := by
  obtain ⟨_, v, pv, h1, h2, _⟩ := h
  obtain ⟨ao, cap, rfl⟩ := h2.shape
  obtain ⟨hc, hf⟩ := h1.rules
  have hlt := h1.lt
  obtain ⟨g, ao2, cap2, ao3, cap3, rfl, hg, hd0, hd1, hd2, hd3, hsk, hlk⟩ := h2.cell k hk
  obtain ⟨hk1, hk2⟩ := hok
  have hpl : (plainVs cs[k]).length ≤ 1000 := by have := plainV_len cs[k].body []; unfold plainVs; simp at this; omega
  generalize cs[k] = c at *
  have HP : Hid (∀ W, Below w.heap.size w W → Calls Tryz.prog 148 #[.agg #[.bool c.head.neg, .string c.head.pred, .slice ao2 c.head.args.length cap2, .slice ao3 c.body.length cap3]] W fun e w' => ∃ nv, e = .returned (.agg #[nv]) ∧ w'.ownsRow W.heap.size 9 1 nv (plainVs c).length ((plainVs c).map Value.string) ∧ Below W.heap.size W w') := fun W hW => plain_any W c _ _ (hsk.below hW) (hlk.below hW) hk1 hk2
  go_enter Tryz.func172, Tryz.ntmps172
  go_wp2_with (first | (go_at_call 148; refine (HP.out _ (by exact (by repeat' (first | (with_reducible exact Below.refl _ _) | (with_reducible assumption) | (with_reducible refine bdrewN ?_ _) | (with_reducible refine Below.alloc ?_ ?_ _) | (with_reducible refine Below.drew ?_) | (with_reducible refine Below.setCell ?_ ?_ _) | go_size)))).mono ?_; rintro e w1 ⟨nv, rfl, hown, hb1⟩; obtain ⟨ao4, cap4, rfl⟩ := own_view hown) | (go_at_call 197; refine (vnames_any _ _ _ (plainVs c) (by exact Box.new _ _ _) (by exact owns_below hown (by repeat' (first | (with_reducible exact Below.refl _ _) | (with_reducible assumption) | (with_reducible refine bdrewN ?_ _) | (with_reducible refine Below.alloc ?_ ?_ _) | (with_reducible refine Below.drew ?_) | (with_reducible refine Below.setCell ?_ ?_ _) | go_size))) hpl).mono ?_; rintro e w2 ⟨g2, hg2, rfl, hs2, hb2⟩))
  have hz1 := hb1.size
  rw [World.size_alloc] at hg2
  go_ret2
  exact ⟨g2, by omega, rfl, hs2.low (by rw [World.size_alloc]; omega), bnext (hb1.alloc hz1 _) hb2 (Nat.le_refl _)⟩

/-- A program's text. -/
def textT (cs : List PClause) : ByteArray := cs.foldl (fun s c => s ++ (clT c ++ bLine)) ByteArray.empty
theorem textT_take {cs : List PClause} {k : Nat} (hk : k < cs.length) : textT (cs.take (k + 1)) = textT (cs.take k) ++ (clT cs[k] ++ bLine) := by
  unfold textT; rw [List.take_succ_eq_append_getElem hk, List.foldl_append]; rfl
theorem joinT_most (M : Nat) : ∀ (l : List ByteArray), (∀ t ∈ l, t.size ≤ M) → (joinT l).size ≤ (M + 2) * l.length
  | [], _ => by simp [joinT]
  | [t], h => by have := h t (by simp); simp [joinT]; omega
  | t :: u :: r, h => by
    have h1 := h t (by simp)
    have h2 := joinT_most M (u :: r) fun x hx => h x (List.mem_cons_of_mem _ hx)
    show (t ++ bComma ++ joinT (u :: r)).size ≤ _
    rw [ByteArray.size_append, ByteArray.size_append, show bComma.size = 2 from rfl]
    simp only [List.length_cons] at h2 ⊢
    rw [Nat.mul_add, Nat.mul_one]
    omega
theorem clT_size {c : PClause} (h : ClFine c) : (clT c).size ≤ 10000000 := by
  obtain ⟨h1, h2⟩ := h
  have hl : ∀ l ∈ litsOf c, (litT l).size ≤ 8009 := fun l hl => by have := litT_size (h1 l hl); have := (h1 l hl).2.2.1; omega
  have hh := hl c.head (by simp [litsOf])
  have hb : (bodyT c.body).size ≤ 4 + 8011 * c.body.length := by
    unfold bodyT; split
    · simp
    · rw [ByteArray.size_append, show bArrow.size = 4 from rfl]
      have := joinT_most 8009 (c.body.map litT) fun t ht => by
        obtain ⟨l, hm, rfl⟩ := List.mem_map.1 ht
        exact hl l (by simp [litsOf, hm])
      rw [List.length_map] at this
      omega
  unfold clT
  rw [ByteArray.size_append, ByteArray.size_append, show bDot.size = 1 from rfl]
  omega

set_option maxRecDepth 100000 in
set_option maxHeartbeats 2000000 in
theorem prog_text (w : World) (pb : Nat) (cs : List PClause) (t : List PEnt) (h : PProg lo w pb cs t) (hl : cs.length ≤ 1000) (hf : ∀ c ∈ cs, ClFine c) :
    Calls Tryz.prog 47 #[.pointer (some ⟨pb, 0, none⟩)] w fun e w' => e = .returned (.string (textT cs)) ∧ Below w.heap.size w w' := by
  obtain ⟨_, v, pv, h1, h2, _⟩ := h
  obtain ⟨ao, cap, rfl⟩ := h2.shape
  obtain ⟨hc, hfz⟩ := h1.rules
  have hlt := h1.lt
  have HF : Hid (∀ c ∈ cs, ClFine c) := hf
  clear hf
  go_enter Tryz.func47, Tryz.ntmps47
  go_wp2
  go_loopw [3, 11] (fun v3 v11 wr => ∃ (k : Nat) (s : ByteArray), k ≤ cs.length ∧ v11 = .int .i64 k ∧ v3 = .string s ∧ s.size ≤ 10000001 * k ∧ Hid (s = textT (cs.take k)) ∧ Below w.heap.size w wr) (fun _ i _ => cs.length - (intOf i).toNat)
  case atStart => exact ⟨0, _, Nat.zero_le _, rfl, rfl, Nat.le_refl _, rfl, Below.refl _ _⟩
  case round =>
    clear hc hfz
    obtain ⟨k, s, hk, rfl, rfl, hsz, H, hbk⟩ := hrel
    have hszk := hbk.size
    by_cases hkt : k < cs.length
    · obtain ⟨g, ao2, cap2, ao3, cap3, rfl, hg, hd0, hd1, hd2, hd3, hsk, hlk⟩ := h2.cell k hkt
      have he0 := (hbk.cell (p := ⟨g, k * 4, none⟩) hg).trans hd0
      have he1 := (hbk.cell (p := ⟨g, k * 4 + 1, none⟩) hg).trans hd1
      have he2 := (hbk.cell (p := ⟨g, k * 4 + 2, none⟩) hg).trans hd2
      have he3 := (hbk.cell (p := ⟨g, k * 4 + 3, none⟩) hg).trans hd3
      have hgr : g < wr.heap.size := by omega
      have HJ := textT_take hkt
      have hfc := HF.out _ (List.getElem_mem hkt)
      have hskr := hsk.below hbk
      have hlkr := hlk.below hbk
      clear hd0 hd1 hd2 hd3 hsk hlk
      generalize cs[k] = c at *
      have hcz := clT_size hfc
      have HL : Hid (∀ W, Below wr.heap.size wr W → Calls Tryz.prog 85 #[.agg #[.bool c.head.neg, .string c.head.pred, .slice ao2 c.head.args.length cap2, .slice ao3 c.body.length cap3]] W fun e w' => e = .returned (.string (clT c)) ∧ Below W.heap.size W w') := fun W hW => clText_any W c _ _ (hskr.below hW) (hlkr.below hW) hfc
      clear hskr hlkr hfc
      generalize clT c = ta at *
      have hbl : bLine.size = 1 := rfl
      have hq : (ta ++ bLine).size = ta.size + 1 := by rw [ByteArray.size_append, hbl]
      have HN : Hid (s ++ (ta ++ bLine) = textT (cs.take (k + 1))) := by rw [Hid, HJ, H.out]
      clear HJ H
      go_wp2_with (first | (go_at_call 85; refine (HL.out _ (by exact (by repeat' (first | (with_reducible exact Below.refl _ _) | (with_reducible assumption) | (with_reducible refine bdrewN ?_ _) | (with_reducible refine Below.alloc ?_ ?_ _) | (with_reducible refine Below.drew ?_) | (with_reducible refine Below.setCell ?_ ?_ _) | go_size)))).mono ?_; rintro e w2 ⟨rfl, hb2⟩; have hB2 : Below w.heap.size w w2 := bnext (hbk.alloc hszk _) hb2 (Nat.le_refl _)))
      go_roundw
      case rel => exact ⟨k + 1, s ++ (ta ++ bLine), by omega, by go_num, rfl, (by rw [ByteArray.size_append]; omega), HN, hB2⟩
      case measure => simp [intOf]; omega
    · have HN : Hid (s = textT cs) := by rw [Hid, H.out, List.take_of_length_le (by omega)]
      clear H
      go_wp2
      go_ret
      exact ⟨by rw [← HN.out]; rfl, hbk⟩
end Go.Proofs.YteampbddflhngaaGreat
