import Derived.Test.YteampbddflhngaaGreatB04

namespace Go.Proofs.YteampbddflhngaaGreat
set_option maxRecDepth 100000
set_option maxHeartbeats 1000000
open Go.RowKit
variable {lo : Nat}
def ClCells (lo : Nat) (w : World) : List PClause -> List Value -> Prop
 | [], xs => xs = []
 | c :: cs, xs => ∃ va vb r, xs = .bool c.head.neg :: .string c.head.pred :: va :: vb :: r /\ SIn lo w va c.head.args /\ LIn lo w vb c.body /\ ClCells lo w cs r
theorem ClCells.snoc {w : World} {c : PClause} {va vb : Value} (hs : SIn lo w va c.head.args) (hb : LIn lo w vb c.body) : ∀ {ls : List PClause} {xs : List Value}, ClCells lo w ls xs -> ClCells lo w (ls ++ [c]) (xs ++ [.bool c.head.neg, .string c.head.pred, va, vb])
 | [], _, h => by simp only [ClCells] at h; subst h; exact ⟨va, vb, [], rfl, hs, hb, rfl⟩
 | _ :: ls, _, h => by obtain ⟨v, v2, r, rfl, h1, h2, h3⟩ := h; exact ⟨v, v2, r ++ [.bool c.head.neg, .string c.head.pred, va, vb], rfl, h1, h2, ClCells.snoc hs hb h3⟩
theorem ClCells.mono {w w' : World} (hm : ∀ va l, SIn lo w va l -> SIn lo w' va l) (hm2 : ∀ va l, LIn lo w va l -> LIn lo w' va l) : ∀ {ls : List PClause} {xs : List Value}, ClCells lo w ls xs -> ClCells lo w' ls xs
 | [], _, h => h
 | _ :: ls, _, h => by obtain ⟨v, v2, r, rfl, h1, h2, h3⟩ := h; exact ⟨v, v2, r, rfl, hm _ _ h1, hm2 _ _ h2, ClCells.mono hm hm2 h3⟩
theorem ClCells.at {w : World} : ∀ {ls : List PClause} {xs : List Value} (i : Nat) (c : PClause), ClCells lo w ls xs -> ls[i]? = some c →
  ∃ va vb, xs[i * 4]? = some (.bool c.head.neg) /\ xs[i * 4 + 1]? = some (.string c.head.pred) /\ xs[i * 4 + 2]? = some va /\ xs[i * 4 + 3]? = some vb /\ SIn lo w va c.head.args /\ LIn lo w vb c.body
 | [], _, i, a, _, hi => by simp at hi
 | _ :: ls, _, 0, a, h, hi => by obtain ⟨v, v2, r, rfl, h1, h2, h3⟩ := h; simp at hi; subst hi; exact ⟨v, v2, rfl, rfl, rfl, rfl, h1, h2⟩
 | _ :: ls, _, i + 1, a, h, hi => by
  obtain ⟨v, v2, r, rfl, h1, h2, h3⟩ := h
  obtain ⟨va, vb, a1, a2, a3, a4, a5⟩ := ClCells.at i a h3 (by simpa using hi)
  refine ⟨va, vb, ?_, ?_, ?_, ?_, a5⟩
  · rw [show (i + 1) * 4 = i * 4 + 1 + 1 + 1 + 1 from by omega]; simpa using a1
  · rw [show (i + 1) * 4 + 1 = i * 4 + 1 + 1 + 1 + 1 + 1 from by omega]; simpa using a2
  · rw [show (i + 1) * 4 + 2 = i * 4 + 2 + 1 + 1 + 1 + 1 from by omega]; simpa using a3
  · rw [show (i + 1) * 4 + 3 = i * 4 + 3 + 1 + 1 + 1 + 1 from by omega]; simpa using a4
def CIn (lo : Nat) (T : TypeId) (w : World) (v : Value) (ls : List PClause) : Prop := ∃ xs, w.ownsRow lo T 4 v ls.length xs /\ ClCells lo w ls xs
theorem ClCells.low {a b : Nat} {w : World} (hab : a <= b) : ∀ {ls : List PClause} {xs : List Value}, ClCells b w ls xs -> ClCells a w ls xs
 | [], _, h => h
 | _ :: ls, _, h => by obtain ⟨v, v2, r, rfl, h1, h2, h3⟩ := h; exact ⟨v, v2, r, rfl, h1.low hab, h2.low hab, ClCells.low hab h3⟩
theorem CIn.low {a b : Nat} {T : TypeId} {w : World} {v : Value} {l : List PClause} (h : CIn b T w v l) (hab : a <= b) : CIn a T w v l := by obtain ⟨xs, h, hc⟩ := h; exact ⟨xs, own_low h hab, hc.low hab⟩
theorem CIn.shape {T : TypeId} {w : World} {v : Value} {l : List PClause} (h : CIn lo T w v l) : ∃ ao cap, v = .slice ao l.length cap := by obtain ⟨xs, h, _⟩ := h; exact own_view h
theorem CIn.below {T : TypeId} {w w' : World} {v : Value} {l : List PClause} (h : CIn lo T w v l) (hb : Below w.heap.size w w') : CIn lo T w' v l := by
 obtain ⟨xs, h, hc⟩ := h; exact ⟨xs, owns_below h hb, hc.mono (fun _ _ k => k.below hb) (fun _ _ k => k.below hb)⟩
theorem LIn.push {wO w2 : World} {b : Nat} {e : TypeId} {s : Nat} {v v2 : Value} {n : Nat} {xs : List Value} {ls : List PLit} (hv : wO.ownsRow b e s v n xs) (hne : e ≠ 90) (hne2 : e ≠ 9) (h : LIn lo wO v2 ls)
  (hk : ∀ k, k < wO.heap.size -> some k ≠ v.ownBlock -> w2.heap[k]? = wO.heap[k]?) : LIn lo w2 v2 ls := by
 obtain ⟨xs2, h1, h2⟩ := h
 exact ⟨xs2, own_push hv hne h1 hk, h2.mono fun _ _ k => own_push hv hne2 k hk⟩
def pProg (n0 : Nat) : Nat -> List Tok -> Option (List PClause)
 | _, [] => some []
 | 0, _ :: _ => none
 | m + 1, x :: r => match pClause n0 (x :: r) with
  | none => none
  | some (c, r2) => (pProg n0 m r2).map (c :: ·)
theorem pProg_no {n0 m : Nat} {r : List Tok} (hr : r ≠ []) (h : pClause n0 r = none) : pProg n0 (m + 1) r = none := by
 cases r with
 | nil => exact absurd rfl hr
 | cons x r => simp [pProg, h]
theorem pProg_yes {n0 m : Nat} {r r2 : List Tok} {c : PClause} (hr : r ≠ []) (h : pClause n0 r = some (c, r2)) : pProg n0 (m + 1) r = (pProg n0 m r2).map (c :: ·) := by
 cases r with
 | nil => exact absurd rfl hr
 | cons x r => simp [pProg, h]
theorem pBody_len {n : Nat} : ∀ {r r2 : List Tok} {b : List PLit}, pBody n r = some (b, r2) -> r2.length < r.length := by
 induction n with
 | zero => intro r r2 b h; simp [pBody] at h
 | succ n ih =>
  intro r r2 b h
  cases hl : pLit r with
  | none => rw [pBody_no hl] at h; cases h
  | some z =>
   obtain ⟨a, r3⟩ := z
   have := pLit_len hl
   by_cases h6 : hdK r3 = 6
   · rw [pBody_more hl h6] at h
    cases hq : pBody n r3.tail with
    | none => rw [hq] at h; simp at h
    | some z =>
     rw [hq] at h; simp at h
     have := ih hq
     obtain ⟨_, rfl⟩ := h; simp at this; omega
   · rw [pBody_stop hl h6] at h; simp at h; obtain ⟨_, rfl⟩ := h; omega
theorem pClause_len {n : Nat} {r r2 : List Tok} {c : PClause} (h : pClause n r = some (c, r2)) : r2.length < r.length := by
 unfold pClause at h
 split at h
 · cases h
 · rename_i a r1 ha
  have := pAtom_len ha
  split at h
  · split at h
   · cases h
   · rename_i b r3 hb
    have := pBody_len hb
    split at h <;> simp at h
    obtain ⟨_, rfl⟩ := h; simp at this ⊢; omega
  · split at h <;> simp at h
   obtain ⟨_, rfl⟩ := h; simp; omega
theorem clause_no (w : World) (r : Nat) (wv : Value) (l rest : List Tok) (h : Rd w r wv l rest) (hl : l.length <= 500) (n0 : Nat) (hn0 : rest.length <= n0) (hp : pClause n0 rest = none) :
  Calls Tryz.prog 100 #[.pointer (some ⟨r, 0, none⟩)] w fun e w' => e = .returned (.tuple #[.agg #[.bool false, .string ByteArray.empty, .slice none 0 0, .slice none 0 0], .bool false]) /\ But r w w' := by
 refine (clause_any w r wv l rest h hl n0 hn0).mono ?_
 rintro e w' ⟨h1, h2⟩
 rw [hp] at h2
 exact ⟨h2, h1⟩
theorem clause_yes (w : World) (r : Nat) (wv : Value) (l rest r2 : List Tok) (c : PClause) (h : Rd w r wv l rest) (hl : l.length <= 500) (n0 : Nat) (hn0 : rest.length <= n0) (hp : pClause n0 rest = some (c, r2)) :
  Calls Tryz.prog 100 #[.pointer (some ⟨r, 0, none⟩)] w fun e w' => ∃ va vb, e = .returned (.tuple #[.agg #[.bool c.head.neg, .string c.head.pred, va, vb], .bool true]) /\ SIn w.heap.size w' va c.head.args /\ LIn w.heap.size w' vb c.body /\ Rd w' r wv l r2 /\ But r w w' := by
 refine (clause_any w r wv l rest h hl n0 hn0).mono ?_
 rintro e w' ⟨h1, h2⟩
 rw [hp] at h2
 obtain ⟨v, v2, a, b, c, d⟩ := h2
 exact ⟨v, v2, a, b, c, d, h1⟩
theorem Tryz.infoClause : (Tryz.prog.info? 171).map (fun i => (i.zero, i.size, i.bytes)) = some (some (.agg #[.bool false, .string ByteArray.empty, .slice none 0 0, .slice none 0 0]), 4, 72) := by kernel_rfl
def ParsePost (o : Option (List PClause)) (w : World) (e : Ending) (w' : World) : Prop :=
 Below w.heap.size w w' /\ match o with
  | none => e = .returned (.tuple #[.slice none 0 0, .bool false])
  | some cs => ∃ v, e = .returned (.tuple #[v, .bool true]) /\ CIn w.heap.size 171 w' v cs
theorem parsePost_no {o : Option (List PClause)} {w w' : World} (h : Hid (o = none)) (hb : Below w.heap.size w w') : ParsePost o w (.returned (.tuple #[.slice none 0 0, .bool false])) w' := by
 have h' : o = none := h
 subst h'; exact ⟨hb, rfl⟩
theorem parsePost_yes {o : Option (List PClause)} {w w' : World} {v : Value} {cs : List PClause} (h : Hid (o = some cs)) (hb : Below w.heap.size w w') (hs : CIn w.heap.size 171 w' v cs) : ParsePost o w (.returned (.tuple #[v, .bool true])) w' := by
 have h' : o = some cs := h
 subst h'; exact ⟨hb, v, rfl, hs⟩
theorem parse_any (w : World) (wv : Value) (l : List Tok) (base : Nat) (hw : w.ownsRow base 182 2 wv l.length (wcells l)) (hl : l.length <= 500) :
  Calls Tryz.prog 60 #[wv] w fun e w' => ParsePost (pProg l.length l.length l) w e w' := by
 obtain ⟨i0, hi, hz0, hzs, hzb⟩ := info_parts Tryz.infoClause
 obtain ⟨ao, cap, rfl⟩ := own_view hw
 have h0 : Rd (w.alloc (.cells #[.slice ao l.length cap, .int .i64 0] 185)) w.heap.size (.slice ao l.length cap) l l :=
  ⟨⟨0, Nat.zero_le _, rfl, Box.new _ _ _⟩, base, owns_below hw ((Below.refl _ _).alloc (Nat.le_refl _) _)⟩
 clear hw
 go_enter Tryz.func60, Tryz.ntmps60
 go_wp2
 go_loopg [5] (l.length) (fun n v wr => ∃ (acc : List PClause) (rst : List Tok) (m : Nat) (xs : List Value), rst.length <= n /\ rst.length <= m /\ rst.length + acc.length <= l.length ∧
   wr.ownsRow (w.heap.size + 1) 171 4 v acc.length xs /\ ClCells w.heap.size wr acc xs /\ Rd wr w.heap.size (.slice ao l.length cap) l rst /\ But w.heap.size (w.alloc (.cells #[.slice ao l.length cap, .int .i64 0] 185)) wr ∧
   Hid (pProg l.length l.length l = (pProg l.length m rst).map (acc ++ ·)))
 case atStart => exact ⟨[], l, l.length, [], Nat.le_refl _, Nat.le_refl _, by simp, World.ownsRow_nil _ _ _ _, rfl, h0, But.refl _ _, (by simp [Hid])⟩
 case round =>
  obtain ⟨acc, rst, m, xs, hn, hm, hra, hown, hlc, hrd, hbut, H1⟩ := hrel
  have hwr : w.heap.size <= wr.heap.size := by have := hbut.size; simp at this; omega
  obtain ⟨c0, f0, hcell⟩ := hrd.cell
  have HCELL : Hid (wr.heap[w.heap.size]? = some (.cells c0 185 f0)) := hcell
  obtain ⟨p, ao', cap', hp, hr, hwv, hblk, hc0, hc1, hfz, hx⟩ := hrd.view
  clear hwv hx hblk
  cases rst with
  | nil =>
   have hpl : p = l.length := by
    have := congrArg List.length hr; simp at this; omega
   have H3 : Hid (pProg l.length l.length l = some acc) := by rw [Hid.out H1]; cases m <;> simp [pProg, Hid]
   have hbel : Below w.heap.size w wr := ((Below.refl _ _).alloc (Nat.le_refl _) _).trans (hbut.below (Nat.le_refl _) (by simp))
   subst hpl
   clear hr H1 hcell
   go_wp2
   go_ret2
   exact parsePost_yes H3 hbel ⟨_, own_low hown (by omega), hlc⟩
  | cons x r0 =>
   have hpl : p < l.length := by
    rcases Nat.lt_or_ge p l.length with h | h
    · exact h
    · rw [List.drop_eq_nil_of_le h] at hr; cases hr
   clear hr
   have hne : x :: r0 ≠ [] := by simp
   obtain ⟨m, rfl⟩ : ∃ m', m = m' + 1 := ⟨m - 1, by simp at hm; omega⟩
   generalize x :: r0 = rst at *
   have HN : Hid (rst.length <= l.length) := by unfold Hid; omega
   cases hC : pClause l.length rst with
   | none =>
    have HC : Hid (pClause l.length rst = none) := hC
    have H3 : Hid (pProg l.length l.length l = none) := by rw [Hid.out H1, pProg_no hne hC]; simp [Hid]
    clear hC hne H1
    go_wp2_with (first | (go_at_call 100; refine (clause_no _ w.heap.size _ l rst hrd hl l.length HN HC).mono ?_; rintro e w1 ⟨rfl, hbut1⟩; have hB1 := hbut.trans hbut1; have hz1 := hB1.size; have hbel1 : Below w.heap.size w w1 := ((Below.refl _ _).alloc (Nat.le_refl _) _).trans (hB1.below (Nat.le_refl _) (by simp))))
    go_ret2
    have hzb1 := hbel1.size
    exact parsePost_no H3 (by repeat' (first | with_reducible (first | exact Below.refl _ _ | assumption | refine bdrewN ?_ _ | refine Below.alloc ?_ ?_ _ | refine Below.drew ?_ | refine Below.setCell ?_ ?_ _) | go_size))
   | some z =>
    obtain ⟨c, r2⟩ := z
    have HC : Hid (pClause l.length rst = some (c, r2)) := hC
    have hll := pClause_len hC
    have H3 : Hid (pProg l.length l.length l = (pProg l.length m r2).map ((acc ++ [c]) ++ ·)) := by rw [Hid.out H1, pProg_yes hne hC, map_snoc]; rfl
    clear hC hne H1
    go_wp2_with (first | (go_at_call 100; refine (clause_yes _ w.heap.size _ l rst r2 c hrd hl l.length HN HC).mono ?_; rintro e w1 ⟨va, vb, rfl, hs1, hl1, hr1, hbut1⟩; obtain ⟨aoa, cpa, rfl⟩ := hs1.shape; obtain ⟨aob, cpb, rfl⟩ := hl1.shape; have hB1 := hbut.trans hbut1; have hz1 := hB1.size; have hzz : w.heap.size + 1 <= w1.heap.size := (by simpa using hz1); have ho1 := own_but hown hbut1 hcell (by decide); have hlc1 := hlc.mono (fun _ _ k => k.but hbut1 hcell (by decide)) (fun _ _ k => k.but hbut1 hcell (by decide) (by decide))) | (at_builtin; refine wpList_push w1 _ _ _ rfl (.tmp 22) (.tmp 24) 121 rfl (w.heap.size + 1) 171 i0 _ 4 72 Tryz.underlying121 hi hz0 hzs hzb rfl (by decide) _ _ _ rfl ho1 ((Below.refl _ _).alloc (Nat.le_refl _) _) _ _ rfl (by simp) rfl (by simp [Value.oneCell']) (by omega) (by omega) hzz ?_; intro v' w2 ho2 hB2 hc2 hf2 hk2 hz2'; clear hc2 hf2; have hrd2 := Rd.keep h0 hr1 (by simpa using hB2); have hbut2 := hB1.onto (by simpa using hB2); have hs2 : SIn w.heap.size w2 (Value.slice aoa c.head.args.length cpa) c.head.args := own_low (own_push ho1 (by decide) hs1 hk2) hwr; have hl2 := (hl1.push ho1 (by decide) (by decide) hk2).low hwr; have hlc2 := hlc1.mono (fun _ _ k => own_push ho1 (by decide) k hk2) (fun _ _ k => k.push ho1 (by decide) (by decide) hk2)))
    go_roundg r2.length
    case measure => omega
    case rel => exact ⟨acc ++ [c], r2, m, _, Nat.le_refl _, by omega, by simp; omega, by rw [List.length_append]; exact ho2, hlc2.snoc hs2 hl2, hrd2, hbut2, H3⟩
end Go.Proofs.YteampbddflhngaaGreat

namespace Go.Proofs.YteampbddflhngaaGreat
set_option maxRecDepth 100000
set_option maxHeartbeats 1000000
open Go.RowKit
variable {lo : Nat}
theorem isVariable_any (t : ByteArray) (w : World) :
  Calls Tryz.prog 156 #[.string t] w fun e w' => e = .returned (.bool (isVarB t)) /\ w' = w := by
 unfold isVarB
 by_cases h : 0 < t.size
 · rw [bAt_lt h]
  go_enter Tryz.func156, Tryz.ntmps156
  go_wp2
  all_goals go_ret
  all_goals go_light
  all_goals exact ⟨by simp_all [bCap]; try omega, rfl⟩
 · rw [bAt_ge h]
  go_enter Tryz.func156, Tryz.ntmps156
  go_wp2
  all_goals go_ret
  all_goals go_light
  all_goals exact ⟨by simp_all [bCap], rfl⟩
theorem SIn.cell {w : World} {ao : Option Addr} {n cap : Nat} {vs : List ByteArray} (h : SIn lo w (.slice ao n cap) vs) (k : Nat) (hk : k < vs.length) : ∃ g, ao = some ⟨g, 0, none⟩ /\ g < w.heap.size /\ w.cell? ⟨g, k, none⟩ = some (.string vs[k]) := by
 have ho := h
 obtain ⟨g, cap', hv, _, hg, hcl⟩ := own_cells ho (by omega)
 simp at hv
 exact ⟨g, hv.1, hg, hcl k _ (by simp [hk])⟩
def placeR : List ByteArray -> ByteArray -> Option Nat
 | [], _ => none
 | y :: r, n => if y = n then some 0 else (placeR r n).map (· + 1)
theorem placeR_lt : ∀ {l : List ByteArray} {n : ByteArray} {k : Nat}, placeR l n = some k -> ∃ h : k < l.length, l[k] = n
 | [], _, _, h => by simp [placeR] at h
 | y :: r, n, k, h => by
  unfold placeR at h
  split at h
  · simp at h; subst h; exact ⟨by simp, by simpa⟩
  · cases hq : placeR r n with
   | none => rw [hq] at h; simp at h
   | some j => rw [hq] at h; simp at h; subst h; obtain ⟨h1, h2⟩ := placeR_lt hq; exact ⟨by simpa using h1, by simpa using h2⟩
theorem placeR_step {l : List ByteArray} {n : ByteArray} {k : Nat} (hk : k < l.length) (hne : l[k] ≠ n) : placeR (l.drop k) n = (placeR (l.drop (k + 1)) n).map (· + 1) := by rw [List.drop_eq_getElem_cons hk, placeR, if_neg hne]
theorem placeR_here {l : List ByteArray} {n : ByteArray} {k : Nat} (hk : k < l.length) (he : l[k] = n) : placeR (l.drop k) n = some 0 := by rw [List.drop_eq_getElem_cons hk, placeR, if_pos he]
theorem placeR_memB : ∀ (l : List ByteArray) (n : ByteArray), (placeR l n).isSome = memB n l
 | [], n => by rw [memB_no.2 (by simp)]; rfl
 | y :: r, n => by
  unfold placeR
  by_cases e : y = n
  · rw [if_pos e, memB_iff.2 (by simp [e])]; rfl
  · rw [if_neg e, Option.isSome_map, placeR_memB r n]
   cases h : memB n r with
   | true => exact (memB_iff.2 (List.mem_cons_of_mem _ (memB_iff.1 h))).symm
   | false => exact (memB_no.2 (by have := memB_no.1 h; simp [this, Ne.symm e])).symm
theorem vplace_any (w : World) (vb : Nat) (nv : Value) (vs : List ByteArray) (t : ByteArray) (hbox : Box w vb #[nv] 246) (hs : SIn lo w nv vs) (hl : vs.length <= 1000) :
  Calls Tryz.prog 200 #[.pointer (some ⟨vb, 0, none⟩), .string t] w fun e w' => e = .returned (.tuple #[.int .i64 ((placeR vs t).getD 0 : Nat), .bool (placeR vs t).isSome]) /\ w' = w := by
 obtain ⟨hc, hf⟩ := hbox.rules
 obtain ⟨ao, cap, rfl⟩ := hs.shape
 go_enter Tryz.func200, Tryz.ntmps200
 go_wp2
 go_loop [13] (fun i => ∃ k : Nat, k <= vs.length /\ i = .int .i64 k /\ Hid (placeR vs t = (placeR (vs.drop k) t).map (· + k))) (fun i => vs.length - (intOf i).toNat)
 case atStart => exact ⟨0, Nat.zero_le _, rfl, by simp [Hid]⟩
 case round =>
  obtain ⟨k, hk, rfl, H⟩ := hrel
  by_cases hlt : k < vs.length
  · obtain ⟨g, rfl, hg, hck⟩ := hs.cell k hlt
   by_cases hx : vs[k] = t
   · have he := seq_true hx
    have H2 : Hid (placeR vs t = some k) := by rw [Hid, H.out, placeR_here hlt hx]; simp
    clear hx H
    generalize vs[k] = x at *
    go_wp2
    go_ret2
    exact ⟨by rw [H2.out]; rfl, rfl⟩
   · have he := seq_false hx
    have H2 : Hid (placeR vs t = (placeR (vs.drop (k + 1)) t).map (· + (k + 1))) := by
     rw [Hid, H.out, placeR_step hlt hx]; cases placeR (vs.drop (k + 1)) t <;> simp; omega
    clear hx H
    generalize vs[k] = x at *
    go_wp2
    go_round
    case rel => exact ⟨k + 1, by omega, by go_num, H2⟩
    case measure => simp [intOf]; omega
  · have H2 : Hid (placeR vs t = none) := by rw [Hid, H.out, List.drop_eq_nil_of_le (by omega)]; rfl
   clear H
   go_wp2
   go_ret2
   exact ⟨by rw [H2.out]; rfl, rfl⟩
theorem has_any (w : World) (vb : Nat) (nv : Value) (vs : List ByteArray) (t : ByteArray) (hbox : Box w vb #[nv] 246) (hs : SIn lo w nv vs) (hl : vs.length <= 1000) :
  Calls Tryz.prog 183 #[.pointer (some ⟨vb, 0, none⟩), .string t] w fun e w' => e = .returned (.bool (memB t vs)) /\ w' = w := by
 rw [← placeR_memB vs t]
 have HP : Hid (Calls Tryz.prog 200 #[.pointer (some ⟨vb, 0, none⟩), .string t] w fun e w' => e = .returned (.tuple #[.int .i64 ((placeR vs t).getD 0 : Nat), .bool (placeR vs t).isSome]) /\ w' = w) := vplace_any w vb nv vs t hbox hs hl
 generalize placeR vs t = o at *
 go_enter Tryz.func183, Tryz.ntmps183
 go_wp2_with (first | (go_at_call 200; refine HP.out.mono ?_; rintro e w' ⟨rfl, rfl⟩; clear HP))
 go_ret
 exact ⟨rfl, rfl⟩
end Go.Proofs.YteampbddflhngaaGreat

namespace Go.Proofs.YteampbddflhngaaGreat
set_option maxRecDepth 100000
set_option maxHeartbeats 1000000
open Go.RowKit
variable {lo : Nat}
theorem Box.set {w : World} {b : Nat} {c : Array Value} {T : TypeId} (h : Box w b c T) (o : Nat) (u : Value) : Box (w.setCell ⟨b, o, none⟩ u) b (c.setIfInBounds o u) T := by
 unfold Box at *; simp [World.setCell, Array.getElem?_modify, h]
theorem Box.set_ne {w : World} {b b' : Nat} {c : Array Value} {T : TypeId} (h : Box w b c T) (hne : b ≠ b') (o : Nat) (u : Value) : Box (w.setCell ⟨b', o, none⟩ u) b c T := by
 unfold Box at *; rw [Below.heap_setCell _ _ _ _ hne]; exact h
theorem Box.push {wO w2 : World} {b : Nat} {e T : TypeId} {s : Nat} {v : Value} {n bb : Nat} {xs : List Value} {c : Array Value} (hv : wO.ownsRow b e s v n xs) (hne : e ≠ T) (h : Box wO bb c T)
  (hk : ∀ k, k < wO.heap.size -> some k ≠ v.ownBlock -> w2.heap[k]? = wO.heap[k]?) : Box w2 bb c T := by
 have hlt := h.lt
 unfold Box at *
 rw [hk bb hlt ?_]
 · exact h
 · intro he
  obtain ⟨_, ⟨hv0, _⟩ | ⟨g', cap', cur', hv', _, hh', _⟩⟩ := hv
  · subst hv0; cases he
  · subst hv'; simp only [Value.ownBlock, Option.some.injEq] at he; subst he; rw [h] at hh'; simp at hh'; exact hne hh'.2.symm
structure KeepB (vb : Nat) (w w' : World) : Prop where
 size : w.heap.size <= w'.heap.size
 box : ∀ b c T, b ≠ vb -> T ≠ 9 -> Box w b c T -> Box w' b c T
theorem KeepB.trans {vb : Nat} {a b c : World} (h : KeepB vb a b) (k : KeepB vb b c) : KeepB vb a c := ⟨Nat.le_trans h.size k.size, fun x y z h1 h2 h3 => k.box x y z h1 h2 (h.box x y z h1 h2 h3)⟩
theorem KeepB.of {vb : Nat} {w w' : World} (h : Below w.heap.size w w') : KeepB vb w w' := ⟨h.size, fun _ _ _ _ _ k => k.below h⟩
def VA (B : Nat) (w : World) (vb : Nat) (vs : List ByteArray) : Prop := ∃ nv, Box w vb #[nv] 246 /\ w.ownsRow B 9 1 nv vs.length (vs.map Value.string)
theorem VA.below {B : Nat} {w w' : World} {vb : Nat} {vs : List ByteArray} (h : VA B w vb vs) (hb : Below w.heap.size w w') : VA B w' vb vs := by
 obtain ⟨nv, h1, h2⟩ := h; exact ⟨nv, h1.below hb, owns_below h2 hb⟩
theorem addVs_snoc (vs args : List ByteArray) (k : Nat) (hk : k < args.length) : addVs vs (args.take (k + 1)) = addV (addVs vs (args.take k)) args[k] := by
 unfold addVs; rw [List.take_succ_eq_append_getElem hk, List.foldl_append]; rfl
theorem addV_var {vs : List ByteArray} {t : ByteArray} (h1 : isVarB t = true) (h2 : memB t vs = false) : addV vs t = vs ++ [t] := by simp [addV, h1, h2]
theorem addV_not {vs : List ByteArray} {t : ByteArray} (h1 : isVarB t = false) : addV vs t = vs := by simp [addV, h1]
theorem addV_has {vs : List ByteArray} {t : ByteArray} (h2 : memB t vs = true) : addV vs t = vs := by simp [addV, h2]
theorem add_any (w0 w : World) (vb : Nat) (vs args : List ByteArray) (neg : Bool) (pred : ByteArray) (va : Value) (h0 : Below w0.heap.size w0 w) (hs : SIn lo w0 va args) (hva : VA w0.heap.size w vb vs) (hvb : w0.heap.size <= vb) (hl : vs.length + args.length <= 1000) :
  Calls Tryz.prog 182 #[.pointer (some ⟨vb, 0, none⟩), .agg #[.bool neg, .string pred, va]] w fun e w' => e = .returned (.tuple #[]) /\ VA w0.heap.size w' vb (addVs vs args) /\ Below w0.heap.size w0 w' /\ KeepB vb w w' := by
 obtain ⟨i0, hi, hz0, hzs, hzb⟩ := info_parts Tryz.infoString
 obtain ⟨ao, cap, rfl⟩ := hs.shape
 have hsz0 := h0.size
 go_enter Tryz.func182, Tryz.ntmps182
 go_wp2
 go_loopw [9] (fun i wr => ∃ k : Nat, k <= args.length /\ i = .int .i64 k /\ VA w0.heap.size wr vb (addVs vs (args.take k)) /\ Below w0.heap.size w0 wr /\ KeepB vb w wr) (fun i _ => args.length - (intOf i).toNat)
 case atStart =>
  have hb := (Below.refl w.heap.size w).alloc (Nat.le_refl _) (.cells #[.bool neg, .string pred, .slice ao args.length cap] 90)
  exact ⟨0, Nat.zero_le _, rfl, hva.below hb, bnext h0 hb (Nat.le_refl _), KeepB.of hb⟩
 case round =>
  obtain ⟨k, hk, rfl, hvk, hbk, hkk⟩ := hrel
  by_cases hlt : k < args.length
  · obtain ⟨g, rfl, hg, hck⟩ := (hs.below hbk).cell k hlt
   have hsn := addVs_snoc vs args k hlt
   have hlen := addVs_len (args.take k) vs
   have htk : (args.take k).length = k := by simp; omega
   rw [htk] at hlen
   clear htk
   generalize args[k] = t at *
   generalize addVs vs (args.take k) = vk at *
   have HS : Hid (addVs vs (args.take (k + 1)) = addV vk t) := hsn
   clear hsn
   cases hT : isVarB t with
   | false =>
    have hR : addVs vs (args.take (k + 1)) = vk := by rw [HS.out, addV_not hT]
    have HR : Hid (addVs vs (args.take (k + 1)) = vk) := hR
    clear hR HS
    go_wp2_with (go_at_call 156; refine (isVariable_any _ _).mono ?_; rintro e w' ⟨rfl, rfl⟩)
    go_roundw
    case rel => exact ⟨k + 1, by omega, by go_num, by rw [HR.out]; exact hvk, hbk, hkk⟩
    case measure => simp [intOf]; omega
   | true =>
    obtain ⟨nv, hbx, hown⟩ := hvk
    obtain ⟨ao2, cap2, rfl⟩ := own_view hown
    obtain ⟨hc, hf⟩ := hbx.rules
    cases hM : memB t vk with
    | true =>
     have hR : addVs vs (args.take (k + 1)) = vk := by rw [HS.out, addV_has hM]
     have HR : Hid (addVs vs (args.take (k + 1)) = vk) := hR
     clear hR HS
     go_wp2_with (first | (go_at_call 156; refine (isVariable_any _ _).mono ?_; rintro e w' ⟨rfl, rfl⟩) | (go_at_call 183; refine (has_any _ vb _ vk t hbx hown (by omega)).mono ?_; rintro e w' ⟨rfl, rfl⟩))
     go_roundw
     case rel => exact ⟨k + 1, by omega, by go_num, by rw [HR.out]; exact ⟨_, hbx, hown⟩, hbk, hkk⟩
     case measure => simp [intOf]; omega
    | false =>
     have hR : addVs vs (args.take (k + 1)) = vk ++ [t] := by rw [HS.out, addV_var hT hM]
     have HR : Hid (addVs vs (args.take (k + 1)) = vk ++ [t]) := hR
     clear hR HS
     go_wp2_with (first | (go_at_call 156; refine (isVariable_any _ _).mono ?_; rintro e w' ⟨rfl, rfl⟩) | (go_at_call 183; refine (has_any _ vb _ vk t hbx hown (by omega)).mono ?_; rintro e w' ⟨rfl, rfl⟩) | (at_builtin; refine wpList_push _ _ _ _ rfl (.tmp 25) (.tmp 27) 30 rfl w0.heap.size 9 i0 _ 1 16 Tryz.underlying30 hi hz0 hzs hzb rfl (by decide) _ _ _ rfl hown (Below.refl _ _) _ _ rfl (by simp) rfl (by simp [Value.oneCell']) (by omega) (by omega) hbk.size ?_; intro v' w2 ho2 hB2 hc2 hf2 hk2 hz2'; clear hc2 hf2; obtain ⟨ao3, cap3, rfl⟩ := own_view ho2; have hbx2 := Box.push hown (by decide) hbx hk2; obtain ⟨hc3, hf3⟩ := hbx2.rules))
     have hkb : KeepB vb w' (w2.setCell ⟨vb, 0, none⟩ (.slice ao3 (vk.length + 1) cap3)) := ⟨by simp [World.setCell]; exact hz2', fun b c T h1 h2 h3 => (Box.push hown (Ne.symm h2) h3 hk2).set_ne h1 _ _⟩
     have hva2 : VA w0.heap.size (w2.setCell ⟨vb, 0, none⟩ (.slice ao3 (vk.length + 1) cap3)) vb (vk ++ [t]) := ⟨_, hbx2.set 0 _, by
      have := own_but ho2 ((But.refl vb w2).setCell 0 (.slice ao3 (vk.length + 1) cap3)) hbx2 (by decide)
      simpa using this⟩
     go_roundw
     case rel => exact ⟨k + 1, by omega, by go_num, by rw [HR.out]; exact hva2, (hbk.trans hB2).setCell hvb _, hkk.trans hkb⟩
     case measure => simp [intOf]; omega
  · have hE : args.take k = args := List.take_of_length_le (by omega)
   rw [hE] at hvk
   clear hE
   go_wp2
   go_end0
   exact ⟨rfl, hvk, hbk, hkk⟩
end Go.Proofs.YteampbddflhngaaGreat
