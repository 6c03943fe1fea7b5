import Derived.Test.YteampbddflhngaaGreatB08

namespace Go.Proofs.YteampbddflhngaaGreat
set_option maxRecDepth 100000
set_option maxHeartbeats 1000000
open Go.RowKit
variable {lo : Nat}
theorem addT_len {t t' : List PEnt} {l : PLit} (h : addT t l = some t') : t'.length <= t.length + 1 := by
 unfold addT at h
 split at h
 · split at h <;> simp at h; subst h; omega
 · simp at h; subst h; rw [insAt_len]; omega
theorem addT_zero {t t' : List PEnt} {l : PLit} (h : addT t l = some t') (hz : ∀ e ∈ t, e.stratum <= 0) : ∀ e ∈ t', e.stratum <= 0 := by
 unfold addT at h
 split at h
 · split at h <;> simp at h; subst h; exact hz
 · simp at h; subst h
  intro e he
  unfold insAt at he
  rcases List.mem_append.1 he with he | he
  · exact hz e (List.mem_of_mem_take he)
  · rcases List.mem_cons.1 he with he | he
   · subst he; exact Nat.le_refl _
   · exact hz e (List.mem_of_mem_drop he)
def addO (o : Option (List PEnt)) (l : PLit) : Option (List PEnt) := o.bind (addT · l)
def litsOf (c : PClause) : List PLit := c.head :: c.body
def collB (cs : List PClause) : Option (List PEnt) := (cs.flatMap litsOf).foldl addO (some [])
theorem addO_none (ls : List PLit) : ls.foldl addO none = none := by
 induction ls with
 | nil => rfl
 | cons a ls ih => exact ih
theorem addO_zero : ∀ (ls : List PLit) (t : List PEnt), (∀ e ∈ t, e.stratum <= 0) -> ∀ t', ls.foldl addO (some t) = some t' -> ∀ e ∈ t', e.stratum <= 0
 | [], t, hz, t', h => by simp at h; subst h; exact hz
 | l :: ls, t, hz, t', h => by
  simp only [List.foldl_cons] at h
  cases ha : addT t l with
  | none => rw [show addO (some t) l = none from ha, addO_none] at h; cases h
  | some t2 => rw [show addO (some t) l = some t2 from ha] at h; exact addO_zero ls t2 (addT_zero ha hz) t' h
theorem addO_len : ∀ (ls : List PLit) (t : List PEnt), ∀ t', ls.foldl addO (some t) = some t' -> t'.length <= t.length + ls.length
 | [], t, t', h => by simp at h; subst h; simp
 | l :: ls, t, t', h => by
  simp only [List.foldl_cons] at h
  cases ha : addT t l with
  | none => rw [show addO (some t) l = none from ha, addO_none] at h; cases h
  | some t2 => rw [show addO (some t) l = some t2 from ha] at h; have := addO_len ls t2 t' h; have := addT_len ha; simp; omega
theorem tadd_no (B : Nat) (w : World) (tb : Nat) (t : List PEnt) (l : PLit) (aoa : Option Addr) (capa : Nat) (h : TA B w tb t) (hl : t.length <= 1000) (hn : addT t l = none) :
  Calls Tryz.prog 102 #[.pointer (some ⟨tb, 0, none⟩), .agg #[.bool l.neg, .string l.pred, .slice aoa l.args.length capa]] w fun e w' => e = .returned (.bool false) /\ Below w.heap.size w w' := by
 unfold addT at hn
 split at hn
 · rename_i e0 he
  split at hn
  · cases hn
  · rename_i hne
   have := tadd_has B w tb t l aoa capa h hl e0 he
   rw [decide_eq_false hne] at this
   exact this
 · cases hn
theorem tadd_yes (B : Nat) (w : World) (tb : Nat) (t t2 : List PEnt) (l : PLit) (aoa : Option Addr) (capa : Nat) (h : TA B w tb t) (hl : t.length <= 1000) (hn : addT t l = some t2) (hB : B <= w.heap.size) (hBt : B <= tb) :
  Calls Tryz.prog 102 #[.pointer (some ⟨tb, 0, none⟩), .agg #[.bool l.neg, .string l.pred, .slice aoa l.args.length capa]] w fun e w' => e = .returned (.bool true) /\ TA B w' tb t2 /\ Below B w w' /\ KeepP tb w w' := by
 unfold addT at hn
 split at hn
 · rename_i e0 he
  split at hn
  · rename_i heq
   simp at hn
   subst hn
   have := tadd_has B w tb t l aoa capa h hl e0 he
   rw [decide_eq_true heq] at this
   refine this.mono ?_
   rintro e w' ⟨rfl, hb⟩
   exact ⟨rfl, h.below hb, hb.mono hB, KeepP.of hb⟩
  · cases hn
 · rename_i he
  simp at hn
  subst hn
  exact tadd_new B w tb t l aoa capa h hl he hB hBt
def CollPost (o : Option (List PEnt)) (w : World) (e : Ending) (w' : World) : Prop :=
 Below w.heap.size w w' /\ match o with
  | none => e = .returned (.tuple #[.agg #[.slice none 0 0], .bool false])
  | some t => ∃ pv, e = .returned (.tuple #[.agg #[pv], .bool true]) /\ w'.ownsRow w.heap.size 221 3 pv t.length (pcells t)
theorem collPost_no {o : Option (List PEnt)} {w w' : World} (h : Hid (o = none)) (hb : Below w.heap.size w w') : CollPost o w (.returned (.tuple #[.agg #[.slice none 0 0], .bool false])) w' := by
 have h' : o = none := h
 subst h'; exact ⟨hb, rfl⟩
theorem collPost_yes {o : Option (List PEnt)} {w w' : World} {t : List PEnt} {pv : Value} (h : Hid (o = some t)) (hb : Below w.heap.size w w') (ho : w'.ownsRow w.heap.size 221 3 pv t.length (pcells t)) : CollPost o w (.returned (.tuple #[.agg #[pv], .bool true])) w' := by
 have h' : o = some t := h
 subst h'; exact ⟨hb, pv, rfl, ho⟩
theorem collect_any (w : World) (v : Value) (cs : List PClause) (hcs : CIn lo 171 w v cs) (hN : (cs.flatMap litsOf).length <= 1000) :
  Calls Tryz.prog 62 #[v] w fun e w' => CollPost (collB cs) w e w' := by
 obtain ⟨ao, cap, rfl⟩ := hcs.shape
 have hcl : cs.length <= 1000 := by
  have : cs.length <= (cs.flatMap litsOf).length := by
   clear hN hcs
   induction cs with
   | nil => simp
   | cons c cs ih => simp [litsOf] at ih ⊢; omega
  omega
 go_enter Tryz.func62, Tryz.ntmps62
 go_wp2
 go_loopw [11] (fun i wr => ∃ (k : Nat) (tk : List PEnt), k <= cs.length /\ i = .int .i64 k /\ Below w.heap.size w wr /\ TA w.heap.size wr (w.heap.size + 1) tk /\ Box wr w.heap.size #[.slice none 0 0] 127 /\ tk.length + ((cs.drop k).flatMap litsOf).length <= 1000 /\ Hid (collB cs = ((cs.drop k).flatMap litsOf).foldl addO (some tk))) (fun i _ => cs.length - (intOf i).toNat)
 case atStart =>
  have hb1 := (Below.refl w.heap.size w).alloc (Nat.le_refl _) (.cells #[.slice none 0 0] 127)
  exact ⟨0, [], Nat.zero_le _, rfl, (by repeat' (first | with_reducible (first | exact Below.refl _ _ | assumption | refine bdrewN ?_ _ | refine Below.alloc ?_ ?_ _ | refine Below.drew ?_ | refine Below.setCell ?_ ?_ _) | go_size)), ⟨_, Box.newAt _ _ _ _ (by simp), World.ownsRow_nil _ _ _ _⟩, (Box.new w _ _).below ((Below.refl _ _).alloc (Nat.le_refl _) _), (by simpa using hN), rfl⟩
 case round =>
  obtain ⟨k, tk, hk, rfl, hbk, htk, hres, hnk, H⟩ := hrel
  have hszk := hbk.size
  have hres1 := hres.lt
  have htl : w.heap.size + 1 < wr.heap.size := by obtain ⟨_, hb, _⟩ := htk; exact hb.lt
  by_cases hlt : k < cs.length
  · have hdr := List.drop_eq_getElem_cons hlt
   obtain ⟨g, ao2, cap2, ao3, cap3, rfl, hg, hc0, hc1, hc2, hc3, hsk, hlk⟩ := hcs.cell k hlt
   have hd0 := (hbk.cell (p := ⟨g, k * 4, none⟩) hg).trans hc0
   have hd1 := (hbk.cell (p := ⟨g, k * 4 + 1, none⟩) hg).trans hc1
   have hd2 := (hbk.cell (p := ⟨g, k * 4 + 2, none⟩) hg).trans hc2
   have hd3 := (hbk.cell (p := ⟨g, k * 4 + 3, none⟩) hg).trans hc3
   have hgr : g < wr.heap.size := by omega
   clear hc0 hc1 hc2 hc3 hsk
   generalize cs[k] = c at *
   rw [hdr] at hnk
   have H1 : Hid (collB cs = (c.body ++ (cs.drop (k + 1)).flatMap litsOf).foldl addO (addO (some tk) c.head)) := by rw [Hid, H.out, hdr]; rfl
   simp only [List.flatMap_cons, litsOf, List.length_append, List.length_cons] at hnk
   generalize hR : (cs.drop (k + 1)).flatMap litsOf = rest at *
   have HR : Hid ((cs.drop (k + 1)).flatMap litsOf = rest) := hR
   clear hR H hdr
   cases hA : addT tk c.head with
   | none =>
    have HA : Hid (addT tk c.head = none) := hA
    have HF : Hid (collB cs = none) := by rw [Hid, H1.out, show addO (some tk) c.head = none from hA, addO_none]
    clear H1 hA
    go_wp2_with (first | (go_at_call 102; refine (tadd_no w.heap.size _ (w.heap.size + 1) tk c.head _ _ (by exact htk.below (by repeat' (first | with_reducible (first | exact Below.refl _ _ | assumption | refine bdrewN ?_ _ | refine Below.alloc ?_ ?_ _ | refine Below.drew ?_ | refine Below.setCell ?_ ?_ _) | go_size))) (by omega) HA).mono ?_; rintro e w1 ⟨rfl, hb1⟩; have hB1 := bnext ((Below.refl wr.heap.size wr).alloc (Nat.le_refl _) _) hb1 (Nat.le_refl _); have hBB := bnext hbk hB1 (Nat.le_refl _); have hres2 := hres.below hB1; obtain ⟨hrc, hrf⟩ := hres2.rules; have hz2 := hres2.lt))
    exact bodyPost_ret (v := .tuple #[.agg #[.slice none 0 0], .bool false]) (by simp [results, Tryz.results62, go_sem, hrc]) rfl (collPost_no HF (by repeat' (first | with_reducible (first | exact Below.refl _ _ | assumption | refine bdrewN ?_ _ | refine Below.alloc ?_ ?_ _ | refine Below.drew ?_ | refine Below.setCell ?_ ?_ _) | go_size)))
   | some t1 =>
    have HA : Hid (addT tk c.head = some t1) := hA
    have hl1 := addT_len hA
    have H2 : Hid (collB cs = (c.body ++ rest).foldl addO (some t1)) := by rw [Hid, H1.out, show addO (some tk) c.head = some t1 from hA]
    clear H1 hA
    go_wp2_with (first | (go_at_call 102; refine (tadd_yes w.heap.size _ (w.heap.size + 1) tk t1 c.head _ _ (by exact htk.below (by repeat' (first | with_reducible (first | exact Below.refl _ _ | assumption | refine bdrewN ?_ _ | refine Below.alloc ?_ ?_ _ | refine Below.drew ?_ | refine Below.setCell ?_ ?_ _) | go_size))) (by omega) HA (by exact Nat.le_trans hszk (by simp)) (by omega)).mono ?_; rintro e w1 ⟨rfl, ht1, hb1, hkp1⟩; have hBB : Below w.heap.size w w1 := (hbk.alloc hszk _).trans hb1; have hres2 := hkp1.box _ _ _ (by omega) (by decide) (hres.below ((Below.refl _ _).alloc (Nat.le_refl _) _)); have hcb := hkp1.box _ _ _ (by omega) (by decide) (Box.new wr _ _); obtain ⟨hcc, hcf⟩ := hcb.rules; have hzc := hcb.lt; have hz2 := hres2.lt))
    go_loopw [23] (fun i wj => ∃ (j : Nat) (tj : List PEnt), j <= c.body.length /\ i = .int .i64 j /\ Below w.heap.size w wj /\ TA w.heap.size wj (w.heap.size + 1) tj /\ Box wj w.heap.size #[.slice none 0 0] 127 /\ tj.length + (c.body.drop j).length + rest.length <= 1000 /\ Hid (collB cs = (c.body.drop j ++ rest).foldl addO (some tj))) (fun i _ => c.body.length - (intOf i).toNat)
    case atStart => exact ⟨0, t1, Nat.zero_le _, rfl, hBB, ht1, hres2, (by simp; omega), H2⟩
    case round =>
     clear hcc hcf hcb hzc
     obtain ⟨j, tj, hj, rfl, hbj, htj, hresj, hnj, HJ⟩ := hrel
     have hszj := hbj.size
     have hresl := hresj.lt
     by_cases hjl : j < c.body.length
     · obtain ⟨gl, aol, capl, rfl, hgl, hl0, hl1', hl2', _⟩ := hlk.cell j hjl
      have he0 := (hbj.cell (p := ⟨gl, j * 3, none⟩) hgl).trans hl0
      have he1 := (hbj.cell (p := ⟨gl, j * 3 + 1, none⟩) hgl).trans hl1'
      have he2 := (hbj.cell (p := ⟨gl, j * 3 + 2, none⟩) hgl).trans hl2'
      have hgj : gl < wr.heap.size := by omega
      have hdj := List.drop_eq_getElem_cons hjl
      clear hl0 hl1' hl2'
      generalize c.body[j] = a at *
      rw [hdj] at hnj
      have HJ1 : Hid (collB cs = (c.body.drop (j + 1) ++ rest).foldl addO (addO (some tj) a)) := by rw [Hid, HJ.out, hdj]; rfl
      simp only [List.length_cons] at hnj
      clear hdj HJ
      cases hA : addT tj a with
      | none =>
       have HA : Hid (addT tj a = none) := hA
       have HF : Hid (collB cs = none) := by rw [Hid, HJ1.out, show addO (some tj) a = none from hA, addO_none]
       clear HJ1 hA
       go_wp2_with (first | (go_at_call 102; refine (tadd_no w.heap.size _ (w.heap.size + 1) tj a _ _ (by exact htj.below (by repeat' (first | with_reducible (first | exact Below.refl _ _ | assumption | refine bdrewN ?_ _ | refine Below.alloc ?_ ?_ _ | refine Below.drew ?_ | refine Below.setCell ?_ ?_ _) | go_size))) (by omega) HA).mono ?_; rintro e w3 ⟨rfl, hb3⟩; have hB3 := bnext ((Below.refl wr.heap.size wr).alloc (Nat.le_refl _) _) hb3 (Nat.le_refl _); have hBB3 := bnext hbj hB3 (Nat.le_refl _); have hres3 := hresj.below hB3; obtain ⟨hrc, hrf⟩ := hres3.rules; have hz3 := hres3.lt))
       exact bodyPost_ret (v := .tuple #[.agg #[.slice none 0 0], .bool false]) (by simp [results, Tryz.results62, go_sem, hrc]) rfl (collPost_no HF (by repeat' (first | with_reducible (first | exact Below.refl _ _ | assumption | refine bdrewN ?_ _ | refine Below.alloc ?_ ?_ _ | refine Below.drew ?_ | refine Below.setCell ?_ ?_ _) | go_size)))
      | some t2 =>
       have HA : Hid (addT tj a = some t2) := hA
       have hl2 := addT_len hA
       have HJ2 : Hid (collB cs = (c.body.drop (j + 1) ++ rest).foldl addO (some t2)) := by rw [Hid, HJ1.out, show addO (some tj) a = some t2 from hA]
       have htjl : w.heap.size + 1 < wr.heap.size := by obtain ⟨_, hb, _⟩ := htj; exact hb.lt
       clear HJ1 hA
       go_wp2_with (first | (go_at_call 102; refine (tadd_yes w.heap.size _ (w.heap.size + 1) tj t2 a _ _ (by exact htj.below (by repeat' (first | with_reducible (first | exact Below.refl _ _ | assumption | refine bdrewN ?_ _ | refine Below.alloc ?_ ?_ _ | refine Below.drew ?_ | refine Below.setCell ?_ ?_ _) | go_size))) (by omega) HA (by exact Nat.le_trans hszj (by simp)) (by omega)).mono ?_; rintro e w3 ⟨rfl, ht3, hb3, hkp3⟩; have hBB3 : Below w.heap.size w w3 := (hbj.alloc hszj _).trans hb3; have hres3 := hkp3.box _ _ _ (by omega) (by decide) (hresj.below ((Below.refl _ _).alloc (Nat.le_refl _) _))))
       go_roundw
       case rel => exact ⟨j + 1, t2, by omega, by go_num, hBB3, ht3, hres3, by omega, HJ2⟩
       case measure => simp [intOf]; omega
     · have HE : Hid (collB cs = ((cs.drop (k + 1)).flatMap litsOf).foldl addO (some tj)) := by rw [Hid, HJ.out, List.drop_eq_nil_of_le (by omega), HR.out]; rfl
      have hnr : tj.length + rest.length <= 1000 := by omega
      clear HJ
      go_wp2
      go_roundw
      case rel => exact ⟨k + 1, tj, by omega, by go_num, hbj, htj, hresj, by rw [HR.out]; exact hnr, HE⟩
      case measure => simp [intOf]; omega
  · have HF : Hid (collB cs = some tk) := by rw [Hid, H.out, List.drop_eq_nil_of_le (by omega)]; rfl
   obtain ⟨aop, capp, hbx, hown⟩ := htk.view
   obtain ⟨hc, hf⟩ := hbx.rules
   obtain ⟨hrc, hrf⟩ := hres.rules
   have hbxl := hbx.lt
   clear H
   go_wp2
   have ho2 := own_but hown ((But.refl w.heap.size wr).setCell 0 (.slice aop tk.length capp)) hres (by decide)
   exact bodyPost_ret (v := .tuple #[.agg #[.slice aop tk.length capp], .bool true]) (by simp [results, Tryz.results62, go_sem, hrc]) rfl (collPost_yes HF (by repeat' (first | with_reducible (first | exact Below.refl _ _ | assumption | refine bdrewN ?_ _ | refine Below.alloc ?_ ?_ _ | refine Below.drew ?_ | refine Below.setCell ?_ ?_ _) | go_size)) ho2)
end Go.Proofs.YteampbddflhngaaGreat

namespace Go.Proofs.YteampbddflhngaaGreat
open Go.RowKit
variable {lo : Nat}
end Go.Proofs.YteampbddflhngaaGreat

namespace Go.Proofs.YteampbddflhngaaGreat
open Go.RowKit
variable {lo : Nat}
end Go.Proofs.YteampbddflhngaaGreat

namespace Go.Proofs.YteampbddflhngaaGreat
set_option maxRecDepth 100000
set_option maxHeartbeats 1000000
open Go.RowKit
variable {lo : Nat}
def litW (l : PLit) : Nat := l.args.length + 1
def sumW (ls : List PLit) : Nat := ls.foldr (fun l n => litW l + n) 0
def clW (c : PClause) : Nat := litW c.head + sumW c.body
def prW (cs : List PClause) : Nat := cs.foldr (fun c n => clW c + n) 0
theorem pTerms_w : ∀ (r : List Tok) {ts : List ByteArray} {r2 : List Tok}, pTerms r = some (ts, r2) -> ts.length + r2.length <= r.length
 | [], _, _, h => by simp [pTerms] at h
 | [x], ts, r2, h => by
  simp only [pTerms] at h
  split at h <;> simp at h
  obtain ⟨rfl, rfl⟩ := h; simp
 | x :: y :: r, ts, r2, h => by
  simp only [pTerms] at h
  split at h
  · split at h
   · cases hq : pTerms r with
    | none => rw [hq] at h; simp at h
    | some z =>
     obtain ⟨ts', r'⟩ := z
     rw [hq] at h; simp at h
     have := pTerms_w r hq
     obtain ⟨rfl, rfl⟩ := h; simp; omega
   · simp at h; obtain ⟨rfl, rfl⟩ := h; simp; omega
  · simp at h
theorem pAtom_w {r r2 : List Tok} {a : PLit} (h : pAtom r = some (a, r2)) : litW a + r2.length <= r.length := by
 cases r with
 | nil => simp [pAtom, hdK] at h
 | cons x r =>
  unfold pAtom at h
  split at h
  · split at h
   · split at h
    · simp at h
    · rename_i ts r3 hq
     have := pTerms_w _ hq
     split at h <;> simp at h
     obtain ⟨rfl, rfl⟩ := h; simp [litW] at this ⊢; omega
   · simp at h; obtain ⟨rfl, rfl⟩ := h; simp [litW]; omega
  · simp at h
theorem pLit_w {r r2 : List Tok} {a : PLit} (h : pLit r = some (a, r2)) : litW a + r2.length <= r.length := by
 unfold pLit at h
 split at h
 · cases hq : pAtom r.tail with
  | none => rw [hq] at h; simp at h
  | some z =>
   obtain ⟨a', r'⟩ := z
   rw [hq] at h; simp at h
   have := pAtom_w hq
   obtain ⟨rfl, rfl⟩ := h; simp [litW] at this ⊢; omega
 · exact pAtom_w h
theorem pBody_w {n : Nat} : ∀ {r r2 : List Tok} {b : List PLit}, pBody n r = some (b, r2) -> sumW b + r2.length <= r.length := by
 induction n with
 | zero => intro r r2 b h; simp [pBody] at h
 | succ n ih =>
  intro r r2 b h
  cases hl : pLit r with
  | none => rw [pBody_no hl] at h; cases h
  | some z =>
   obtain ⟨a, r3⟩ := z
   have := pLit_w hl
   by_cases h6 : hdK r3 = 6
   · rw [pBody_more hl h6] at h
    cases hq : pBody n r3.tail with
    | none => rw [hq] at h; simp at h
    | some z =>
     obtain ⟨b', r'⟩ := z
     rw [hq] at h; simp at h
     have := ih hq
     obtain ⟨rfl, rfl⟩ := h; simp [sumW] at this ⊢; omega
   · rw [pBody_stop hl h6] at h; simp at h; obtain ⟨rfl, rfl⟩ := h; simp [sumW]; omega
theorem pClause_w {n : Nat} {r r2 : List Tok} {c : PClause} (h : pClause n r = some (c, r2)) : clW c + r2.length <= r.length := by
 unfold pClause at h
 split at h
 · cases h
 · rename_i a r1 ha
  have := pAtom_w ha
  split at h
  · split at h
   · cases h
   · rename_i b r3 hb
    have := pBody_w hb
    split at h <;> simp at h
    obtain ⟨rfl, rfl⟩ := h; simp [clW] at this ⊢; omega
  · split at h <;> simp at h
   obtain ⟨rfl, rfl⟩ := h; simp [clW, sumW]; omega
theorem pProg_w {n0 : Nat} : ∀ {m : Nat} {r : List Tok} {cs : List PClause}, pProg n0 m r = some cs -> prW cs <= r.length
 | _, [], cs, h => by simp [pProg] at h; subst h; simp [prW]
 | 0, _ :: _, cs, h => by simp [pProg] at h
 | m + 1, x :: r, cs, h => by
  cases hc : pClause n0 (x :: r) with
  | none => rw [pProg_no (by simp) hc] at h; cases h
  | some z =>
   obtain ⟨c, r2⟩ := z
   rw [pProg_yes (by simp) hc] at h
   cases hq : pProg n0 m r2 with
   | none => rw [hq] at h; simp at h
   | some cs' =>
    rw [hq] at h; simp at h; subst h
    have h1 := pClause_w hc
    have h2 := pProg_w hq
    simp only [prW, List.foldr_cons, List.length_cons] at h1 h2 ⊢; omega
theorem sumW_args (ls : List PLit) : sumArgs ls + ls.length = sumW ls := by
 induction ls with
 | nil => rfl
 | cons a ls ih => simp [sumArgs, sumW, litW] at ih ⊢; omega
theorem prW_mem {cs : List PClause} {c : PClause} (h : c ∈ cs) : clW c <= prW cs := by
 induction cs with
 | nil => cases h
 | cons a cs ih =>
  rcases List.mem_cons.1 h with rfl | h
  · simp [prW]
  · have := ih h; simp [prW] at this ⊢; omega
theorem prW_lits (cs : List PClause) : (cs.flatMap litsOf).length <= prW cs := by
 induction cs with
 | nil => simp
 | cons a cs ih => have := sumW_args a.body; simp [prW, clW, litsOf, litW] at ih ⊢; omega
theorem prW_len (cs : List PClause) : cs.length <= prW cs := by
 induction cs with
 | nil => simp
 | cons a cs ih => simp [prW, clW, litW] at ih ⊢; omega
theorem prW_ok {cs : List PClause} (h : prW cs <= 1000) : ∀ c ∈ cs, ClOK c := fun c hc => by
 have h1 := prW_mem hc
 have h2 := sumW_args c.body
 unfold clW litW at h1
 exact ⟨by omega, by omega⟩
theorem splitN_len : ∀ (n : Nat) (s : ByteArray) (i : Nat) (l : List (Int × ByteArray)), splitN n s i = some l -> l.length <= s.size - i
 | 0, _, _, l, h => by simp [splitN] at h; subst h; simp
 | n + 1, s, i, l, h => by
  unfold splitN at h
  split at h
  · rename_i hi
   split at h
   · have := splitN_len n s (i + 1) l h; omega
   · split at h
    · cases h
    · rename_i hk
     split at h
     · cases h
     · cases hq : splitN n s (endB s i (kindB (bAt s i) (bAt s (i + 1)))) with
      | none => rw [hq] at h; simp at h
      | some l' =>
       rw [hq] at h; simp at h; subst h
       have := splitN_len n s _ l' hq
       have := endB_gt s i _ hi rfl hk
       simp; omega
  · simp at h; subst h; simp
theorem splitB_len {s : ByteArray} {l : List Tok} (h : splitB s = some l) : l.length <= s.size := by have := splitN_len _ s 0 l h; omega
def compB (s : ByteArray) : Except Int (List PClause × List PEnt) :=
 if 500 < s.size then .error 1 else
 match splitB s with
 | none => .error 2
 | some l =>
  match pProg l.length l.length l with
  | none => .error 3
  | some cs =>
   if cs.any manyC then .error 4 else
   match collB cs with
   | none => .error 5
   | some t =>
    if cs.all safeC then
     if (stratN (t.length + 1) t cs).2 then .ok (cs, (stratN (t.length + 1) t cs).1) else .error 7
    else .error 6
def CompPost (o : Except Int (List PClause × List PEnt)) (w : World) (e : Ending) (w' : World) : Prop :=
 Below w.heap.size w w' /\ match o with
  | .error n => e = .returned (.tuple #[.pointer none, .int .i64 n])
  | .ok (cs, t) => ∃ pb v pv, e = .returned (.tuple #[.pointer (some ⟨pb, 0, none⟩), .int .i64 0]) /\ Box w' pb #[v, pv] 131 /\ CIn w.heap.size 171 w' v cs /\ w'.ownsRow w.heap.size 221 3 pv t.length (pcells t) /\ w.heap.size <= pb
theorem split_no (s : ByteArray) (w : World) (hs : s.size <= 500) (h : splitB s = none) : Calls Tryz.prog 59 #[.string s] w fun e w' => e = .returned (.tuple #[.slice none 0 0, .bool false]) /\ Below w.heap.size w w' := by
 refine (split_any s w hs).mono ?_
 rintro e w' ⟨h1, h2⟩
 rw [h] at h2
 exact ⟨h2, h1⟩
theorem split_yes (s : ByteArray) (w : World) (l : List Tok) (hs : s.size <= 500) (h : splitB s = some l) : Calls Tryz.prog 59 #[.string s] w fun e w' => ∃ v, e = .returned (.tuple #[v, .bool true]) /\ w'.ownsRow w.heap.size 182 2 v l.length (wcells l) /\ l.length <= 500 /\ Below w.heap.size w w' := by
 refine (split_any s w hs).mono ?_
 rintro e w' ⟨h1, h2⟩
 rw [h] at h2
 obtain ⟨v, a, b, c⟩ := h2
 exact ⟨v, a, b, by omega, h1⟩
theorem parse_no (w : World) (wv : Value) (l : List Tok) (base : Nat) (hw : w.ownsRow base 182 2 wv l.length (wcells l)) (hl : l.length <= 500) (h : pProg l.length l.length l = none) :
  Calls Tryz.prog 60 #[wv] w fun e w' => e = .returned (.tuple #[.slice none 0 0, .bool false]) /\ Below w.heap.size w w' := by
 refine (parse_any w wv l base hw hl).mono ?_
 rintro e w' ⟨h1, h2⟩
 rw [h] at h2
 exact ⟨h2, h1⟩
theorem parse_yes (w : World) (wv : Value) (l : List Tok) (base : Nat) (cs : List PClause) (hw : w.ownsRow base 182 2 wv l.length (wcells l)) (hl : l.length <= 500) (h : pProg l.length l.length l = some cs) :
  Calls Tryz.prog 60 #[wv] w fun e w' => ∃ v, e = .returned (.tuple #[v, .bool true]) /\ CIn w.heap.size 171 w' v cs /\ Below w.heap.size w w' := by
 refine (parse_any w wv l base hw hl).mono ?_
 rintro e w' ⟨h1, h2⟩
 rw [h] at h2
 obtain ⟨v, a, b⟩ := h2
 exact ⟨v, a, b, h1⟩
theorem collect_no (w : World) (v : Value) (cs : List PClause) (hcs : CIn lo 171 w v cs) (hN : (cs.flatMap litsOf).length <= 1000) (h : collB cs = none) :
  Calls Tryz.prog 62 #[v] w fun e w' => e = .returned (.tuple #[.agg #[.slice none 0 0], .bool false]) /\ Below w.heap.size w w' := by
 refine (collect_any w v cs hcs hN).mono ?_
 rintro e w' ⟨h1, h2⟩
 rw [h] at h2
 exact ⟨h2, h1⟩
theorem collect_yes (w : World) (v : Value) (cs : List PClause) (t : List PEnt) (hcs : CIn lo 171 w v cs) (hN : (cs.flatMap litsOf).length <= 1000) (h : collB cs = some t) :
  Calls Tryz.prog 62 #[v] w fun e w' => ∃ pv, e = .returned (.tuple #[.agg #[pv], .bool true]) /\ w'.ownsRow w.heap.size 221 3 pv t.length (pcells t) /\ Below w.heap.size w w' := by
 refine (collect_any w v cs hcs hN).mono ?_
 rintro e w' ⟨h1, h2⟩
 rw [h] at h2
 obtain ⟨v, a, b⟩ := h2
 exact ⟨v, a, b, h1⟩
theorem compile_long (s : ByteArray) (w : World) (hs : 500 < s.size) (hs2 : s.size <= 9223372036854775807) :
  Calls Tryz.prog 32 #[.string s] w fun e w' => CompPost (.error 1) w e w' := by
 go_enter Tryz.func32, Tryz.ntmps32
 go_wp2
 go_ret2
 exact ⟨Below.refl _ _, rfl⟩
theorem compile_2 (s : ByteArray) (w : World) (hs : s.size <= 500) (hS : splitB s = none) :
  Calls Tryz.prog 32 #[.string s] w fun e w' => CompPost (.error 2) w e w' := by
 have HS : Hid (splitB s = none) := hS
 clear hS
 go_enter Tryz.func32, Tryz.ntmps32
 go_wp2_with (first | (go_at_call 59; refine (split_no s _ hs HS).mono ?_; rintro e w1 ⟨rfl, hb1⟩))
 go_ret2
 exact ⟨hb1, rfl⟩
theorem compile_3 (s : ByteArray) (w : World) (hs : s.size <= 500) (l : List Tok) (hS : splitB s = some l) (hP : pProg l.length l.length l = none) :
  Calls Tryz.prog 32 #[.string s] w fun e w' => CompPost (.error 3) w e w' := by
 have HS : Hid (splitB s = some l) := hS
 have HP : Hid (pProg l.length l.length l = none) := hP
 clear hS hP
 go_enter Tryz.func32, Tryz.ntmps32
 go_wp2_with (first | (go_at_call 59; refine (split_yes s _ l hs HS).mono ?_; rintro e w1 ⟨fv, rfl, hown, hll, hb1⟩; obtain ⟨aof, capf, rfl⟩ := own_view hown) | (go_at_call 60; refine (parse_no _ _ l _ hown hll HP).mono ?_; rintro e w2 ⟨rfl, hb2⟩; have hB2 := bnext hb1 hb2 (Nat.le_refl _)))
 go_ret2
 exact ⟨hB2, rfl⟩
theorem compile_4 (s : ByteArray) (w : World) (hs : s.size <= 500) (l : List Tok) (cs : List PClause) (hm : cs.any manyC = true) (hS : splitB s = some l) (hP : pProg l.length l.length l = some cs) (hok : ∀ c ∈ cs, ClOK c) (hlen : cs.length <= 1000) :
  Calls Tryz.prog 32 #[.string s] w fun e w' => CompPost (.error 4) w e w' := by
 have HS : Hid (splitB s = some l) := hS
 have HP : Hid (pProg l.length l.length l = some cs) := hP
 have HOK : Hid (∀ c ∈ cs, ClOK c) := hok
 have HLEN : Hid (cs.length <= 1000) := hlen
 clear hS hP hok hlen
 go_enter Tryz.func32, Tryz.ntmps32
 go_wp2_with (first | (go_at_call 59; refine (split_yes s _ l hs HS).mono ?_; rintro e w1 ⟨fv, rfl, hown, hll, hb1⟩; obtain ⟨aof, capf, rfl⟩ := own_view hown) | (go_at_call 60; refine (parse_yes _ _ l _ cs hown hll HP).mono ?_; rintro e w2 ⟨cv, rfl, hcin, hb2⟩; obtain ⟨aoc, capc, rfl⟩ := hcin.shape; have hB2 := bnext hb1 hb2 (Nat.le_refl _)) | (go_at_call 61; refine (many_any _ _ cs hcin HOK.out HLEN.out).mono ?_; rintro e w3 ⟨rfl, hb3⟩; have hB3 := bnext hB2 hb3 (Nat.le_refl _); have hcin3 := hcin.below hb3))
 go_ret2
 exact ⟨hB3, rfl⟩
theorem compile_5 (s : ByteArray) (w : World) (hs : s.size <= 500) (l : List Tok) (cs : List PClause) (hm : cs.any manyC = false) (hS : splitB s = some l) (hP : pProg l.length l.length l = some cs) (hok : ∀ c ∈ cs, ClOK c) (hlen : cs.length <= 1000) (hlits : (cs.flatMap litsOf).length <= 1000) (hC : collB cs = none) :
  Calls Tryz.prog 32 #[.string s] w fun e w' => CompPost (.error 5) w e w' := by
 have HS : Hid (splitB s = some l) := hS
 have HP : Hid (pProg l.length l.length l = some cs) := hP
 have HOK : Hid (∀ c ∈ cs, ClOK c) := hok
 have HLEN : Hid (cs.length <= 1000) := hlen
 have HLITS : Hid ((cs.flatMap litsOf).length <= 1000) := hlits
 have HC : Hid (collB cs = none) := hC
 clear hS hP hok hlen hlits hC
 go_enter Tryz.func32, Tryz.ntmps32
 go_wp2_with (first | (go_at_call 59; refine (split_yes s _ l hs HS).mono ?_; rintro e w1 ⟨fv, rfl, hown, hll, hb1⟩; obtain ⟨aof, capf, rfl⟩ := own_view hown) | (go_at_call 60; refine (parse_yes _ _ l _ cs hown hll HP).mono ?_; rintro e w2 ⟨cv, rfl, hcin, hb2⟩; obtain ⟨aoc, capc, rfl⟩ := hcin.shape; have hB2 := bnext hb1 hb2 (Nat.le_refl _)) | (go_at_call 61; refine (many_any _ _ cs hcin HOK.out HLEN.out).mono ?_; rintro e w3 ⟨rfl, hb3⟩; have hB3 := bnext hB2 hb3 (Nat.le_refl _); have hcin3 := hcin.below hb3) | (go_at_call 62; refine (collect_no _ _ cs hcin3 HLITS.out HC).mono ?_; rintro e w4 ⟨rfl, hb4⟩; have hB4 := bnext hB3 hb4 (Nat.le_refl _); have hz4 := hB4.size))
 go_ret2
 exact ⟨(by repeat' (first | with_reducible (first | exact Below.refl _ _ | assumption | refine bdrewN ?_ _ | refine Below.alloc ?_ ?_ _ | refine Below.drew ?_ | refine Below.setCell ?_ ?_ _) | go_size)), rfl⟩
theorem compile_6 (s : ByteArray) (w : World) (hs : s.size <= 500) (l : List Tok) (cs : List PClause) (t : List PEnt) (hm : cs.any manyC = false) (hsf : cs.all safeC = false) (hS : splitB s = some l) (hP : pProg l.length l.length l = some cs) (hok : ∀ c ∈ cs, ClOK c) (hlen : cs.length <= 1000) (hlits : (cs.flatMap litsOf).length <= 1000) (hC : collB cs = some t) :
  Calls Tryz.prog 32 #[.string s] w fun e w' => CompPost (.error 6) w e w' := by
 have HS : Hid (splitB s = some l) := hS
 have HP : Hid (pProg l.length l.length l = some cs) := hP
 have HOK : Hid (∀ c ∈ cs, ClOK c) := hok
 have HLEN : Hid (cs.length <= 1000) := hlen
 have HLITS : Hid ((cs.flatMap litsOf).length <= 1000) := hlits
 have HC : Hid (collB cs = some t) := hC
 clear hS hP hok hlen hlits hC
 go_enter Tryz.func32, Tryz.ntmps32
 go_wp2_with (first | (go_at_call 59; refine (split_yes s _ l hs HS).mono ?_; rintro e w1 ⟨fv, rfl, hown, hll, hb1⟩; obtain ⟨aof, capf, rfl⟩ := own_view hown) | (go_at_call 60; refine (parse_yes _ _ l _ cs hown hll HP).mono ?_; rintro e w2 ⟨cv, rfl, hcin, hb2⟩; obtain ⟨aoc, capc, rfl⟩ := hcin.shape; have hB2 := bnext hb1 hb2 (Nat.le_refl _)) | (go_at_call 61; refine (many_any _ _ cs hcin HOK.out HLEN.out).mono ?_; rintro e w3 ⟨rfl, hb3⟩; have hB3 := bnext hB2 hb3 (Nat.le_refl _); have hcin3 := hcin.below hb3) | (go_at_call 62; refine (collect_yes _ _ cs t hcin3 HLITS.out HC).mono ?_; rintro e w4 ⟨pv, rfl, hpo, hb4⟩; obtain ⟨aop, capp, rfl⟩ := own_view hpo; have hB4 := bnext hB3 hb4 (Nat.le_refl _); have hz4 := hB4.size; have hcin4 := hcin3.below hb4) | (go_at_call 63; refine (safe_any _ _ cs (by exact hcin4.below (by repeat' (first | with_reducible (first | exact Below.refl _ _ | assumption | refine bdrewN ?_ _ | refine Below.alloc ?_ ?_ _ | refine Below.drew ?_ | refine Below.setCell ?_ ?_ _) | go_size))) HOK.out HLEN.out).mono ?_; rintro e w5 ⟨rfl, hb5⟩; have hq5 := (Below.refl w4.heap.size w4).alloc (Nat.le_refl _) (.cells #[.slice aop t.length capp] 127); have hbb5 := bnext hq5 hb5 (Nat.le_refl _); have hB5 := bnext hB4 hbb5 (Nat.le_refl _)))
 go_ret2
 exact ⟨hB5, rfl⟩
theorem compile_7 (s : ByteArray) (w : World) (hs : s.size <= 500) (l : List Tok) (cs : List PClause) (t : List PEnt) (hm : cs.any manyC = false) (hsf : cs.all safeC = true) (hst : (stratN (t.length + 1) t cs).2 = false) (hS : splitB s = some l) (hP : pProg l.length l.length l = some cs) (hok : ∀ c ∈ cs, ClOK c) (hlen : cs.length <= 1000) (hlits : (cs.flatMap litsOf).length <= 1000) (hC : collB cs = some t) (htl : t.length <= 1000) (htz : ∀ e ∈ t, e.stratum <= 0) :
  Calls Tryz.prog 32 #[.string s] w fun e w' => CompPost (.error 7) w e w' := by
 have HS : Hid (splitB s = some l) := hS
 have HP : Hid (pProg l.length l.length l = some cs) := hP
 have HOK : Hid (∀ c ∈ cs, ClOK c) := hok
 have HLEN : Hid (cs.length <= 1000) := hlen
 have HLITS : Hid ((cs.flatMap litsOf).length <= 1000) := hlits
 have HC : Hid (collB cs = some t) := hC
 have HTL : Hid (t.length <= 1000) := htl
 have HTZ : Hid (∀ e ∈ t, e.stratum <= 0) := htz
 clear hS hP hok hlen hlits hC htl htz
 go_enter Tryz.func32, Tryz.ntmps32
 go_wp2_with (first | (go_at_call 59; refine (split_yes s _ l hs HS).mono ?_; rintro e w1 ⟨fv, rfl, hown, hll, hb1⟩; obtain ⟨aof, capf, rfl⟩ := own_view hown) | (go_at_call 60; refine (parse_yes _ _ l _ cs hown hll HP).mono ?_; rintro e w2 ⟨cv, rfl, hcin, hb2⟩; obtain ⟨aoc, capc, rfl⟩ := hcin.shape; have hB2 := bnext hb1 hb2 (Nat.le_refl _)) | (go_at_call 61; refine (many_any _ _ cs hcin HOK.out HLEN.out).mono ?_; rintro e w3 ⟨rfl, hb3⟩; have hB3 := bnext hB2 hb3 (Nat.le_refl _); have hcin3 := hcin.below hb3) | (go_at_call 62; refine (collect_yes _ _ cs t hcin3 HLITS.out HC).mono ?_; rintro e w4 ⟨pv, rfl, hpo, hb4⟩; obtain ⟨aop, capp, rfl⟩ := own_view hpo; have hB4 := bnext hB3 hb4 (Nat.le_refl _); have hz4 := hB4.size; have hcin4 := hcin3.below hb4) | (go_at_call 63; refine (safe_any _ _ cs (by exact hcin4.below (by repeat' (first | with_reducible (first | exact Below.refl _ _ | assumption | refine bdrewN ?_ _ | refine Below.alloc ?_ ?_ _ | refine Below.drew ?_ | refine Below.setCell ?_ ?_ _) | go_size))) HOK.out HLEN.out).mono ?_; rintro e w5 ⟨rfl, hb5⟩; have hq5 := (Below.refl w4.heap.size w4).alloc (Nat.le_refl _) (.cells #[.slice aop t.length capp] 127); have hbb5 := bnext hq5 hb5 (Nat.le_refl _); have hB5 := bnext hB4 hbb5 (Nat.le_refl _)) | (go_at_call 64; refine (stratify_any w3.heap.size _ w4.heap.size t _ cs w3 rfl (bnext hb4 hbb5 (Nat.le_refl _)) hcin3 HOK.out HLEN.out ⟨_, (Box.new w4 _ _).below hb5, owns_below hpo hbb5⟩ HTL.out HTZ.out).mono ?_; rintro e w6 ⟨rfl, hta6, hb6⟩; obtain ⟨ao6, cap6, hbx6, hown6⟩ := hta6.view; obtain ⟨hc6, hf6⟩ := hbx6.rules; have hB6 : Below w.heap.size w w6 := hB5.trans (hb6.mono (Nat.le_trans hB3.size (Nat.le_refl _))); have hz6 := hbx6.lt))
 go_ret2
 exact ⟨hB6, rfl⟩
theorem compile_0 (s : ByteArray) (w : World) (hs : s.size <= 500) (l : List Tok) (cs : List PClause) (t : List PEnt) (hm : cs.any manyC = false) (hsf : cs.all safeC = true) (hst : (stratN (t.length + 1) t cs).2 = true) (hS : splitB s = some l) (hP : pProg l.length l.length l = some cs) (hok : ∀ c ∈ cs, ClOK c) (hlen : cs.length <= 1000) (hlits : (cs.flatMap litsOf).length <= 1000) (hC : collB cs = some t) (htl : t.length <= 1000) (htz : ∀ e ∈ t, e.stratum <= 0) :
  Calls Tryz.prog 32 #[.string s] w fun e w' => CompPost (.ok (cs, (stratN (t.length + 1) t cs).1)) w e w' := by
 have HS : Hid (splitB s = some l) := hS
 have HP : Hid (pProg l.length l.length l = some cs) := hP
 have HOK : Hid (∀ c ∈ cs, ClOK c) := hok
 have HLEN : Hid (cs.length <= 1000) := hlen
 have HLITS : Hid ((cs.flatMap litsOf).length <= 1000) := hlits
 have HC : Hid (collB cs = some t) := hC
 have HTL : Hid (t.length <= 1000) := htl
 have HTZ : Hid (∀ e ∈ t, e.stratum <= 0) := htz
 clear hS hP hok hlen hlits hC htl htz
 go_enter Tryz.func32, Tryz.ntmps32
 go_wp2_with (first | (go_at_call 59; refine (split_yes s _ l hs HS).mono ?_; rintro e w1 ⟨fv, rfl, hown, hll, hb1⟩; obtain ⟨aof, capf, rfl⟩ := own_view hown) | (go_at_call 60; refine (parse_yes _ _ l _ cs hown hll HP).mono ?_; rintro e w2 ⟨cv, rfl, hcin, hb2⟩; obtain ⟨aoc, capc, rfl⟩ := hcin.shape; have hB2 := bnext hb1 hb2 (Nat.le_refl _)) | (go_at_call 61; refine (many_any _ _ cs hcin HOK.out HLEN.out).mono ?_; rintro e w3 ⟨rfl, hb3⟩; have hB3 := bnext hB2 hb3 (Nat.le_refl _); have hcin3 := hcin.below hb3) | (go_at_call 62; refine (collect_yes _ _ cs t hcin3 HLITS.out HC).mono ?_; rintro e w4 ⟨pv, rfl, hpo, hb4⟩; obtain ⟨aop, capp, rfl⟩ := own_view hpo; have hB4 := bnext hB3 hb4 (Nat.le_refl _); have hz4 := hB4.size; have hcin4 := hcin3.below hb4) | (go_at_call 63; refine (safe_any _ _ cs (by exact hcin4.below (by repeat' (first | with_reducible (first | exact Below.refl _ _ | assumption | refine bdrewN ?_ _ | refine Below.alloc ?_ ?_ _ | refine Below.drew ?_ | refine Below.setCell ?_ ?_ _) | go_size))) HOK.out HLEN.out).mono ?_; rintro e w5 ⟨rfl, hb5⟩; have hq5 := (Below.refl w4.heap.size w4).alloc (Nat.le_refl _) (.cells #[.slice aop t.length capp] 127); have hbb5 := bnext hq5 hb5 (Nat.le_refl _); have hB5 := bnext hB4 hbb5 (Nat.le_refl _)) | (go_at_call 64; refine (stratify_any w3.heap.size _ w4.heap.size t _ cs w3 rfl (bnext hb4 hbb5 (Nat.le_refl _)) hcin3 HOK.out HLEN.out ⟨_, (Box.new w4 _ _).below hb5, owns_below hpo hbb5⟩ HTL.out HTZ.out).mono ?_; rintro e w6 ⟨rfl, hta6, hb6⟩; obtain ⟨ao6, cap6, hbx6, hown6⟩ := hta6.view; obtain ⟨hc6, hf6⟩ := hbx6.rules; have hB6 : Below w.heap.size w w6 := hB5.trans (hb6.mono (Nat.le_trans hB3.size (Nat.le_refl _))); have hz6 := hbx6.lt))
 have hz66 := hB6.size
 have hcin6 := hcin3.below ((bnext hb4 hbb5 (Nat.le_refl _)).trans hb6)
 go_ret2
 exact ⟨(by repeat' (first | with_reducible (first | exact Below.refl _ _ | assumption | refine bdrewN ?_ _ | refine Below.alloc ?_ ?_ _ | refine Below.drew ?_ | refine Below.setCell ?_ ?_ _) | go_size)), w6.heap.size, _, _, rfl, Box.new _ _ _, (hcin6.low hb1.size).below ((Below.refl _ _).alloc (Nat.le_refl _) _), own_low (owns_below hown6 ((Below.refl _ _).alloc (Nat.le_refl _) _)) hB3.size, hz66⟩
theorem compile_any (s : ByteArray) (w : World) (hs2 : s.size <= 9223372036854775807) :
  Calls Tryz.prog 32 #[.string s] w fun e w' => CompPost (compB s) w e w' := by
 unfold compB
 split
 · rename_i hs; exact compile_long s w hs hs2
 · rename_i hs
  have hs' : s.size <= 500 := by omega
  split
  · rename_i hS; exact compile_2 s w hs' hS
  · rename_i l hS
   split
   · rename_i hP; exact compile_3 s w hs' l hS hP
   · rename_i cs hP
    have hl : l.length <= 500 := by
     have := splitB_len hS; omega
    have hw := pProg_w hP
    have hok := prW_ok (cs := cs) (by omega)
    have hlen : cs.length <= 1000 := by have := prW_len cs; omega
    have hlits : (cs.flatMap litsOf).length <= 1000 := by have := prW_lits cs; omega
    split
    · rename_i hm; exact compile_4 s w hs' l cs hm hS hP hok hlen
    · rename_i hm
     have hm' : cs.any manyC = false := by simpa using hm
     split
     · rename_i hC; exact compile_5 s w hs' l cs hm' hS hP hok hlen hlits hC
     · rename_i t hC
      have htl : t.length <= 1000 := by have := addO_len _ _ _ hC; simp only [List.length_nil] at this; omega
      have htz : ∀ e ∈ t, e.stratum <= 0 := addO_zero _ [] (by simp) t hC
      split
      · rename_i hsf
       split
       · rename_i hst; exact compile_0 s w hs' l cs t hm' hsf hst hS hP hok hlen hlits hC htl htz
       · rename_i hst; exact compile_7 s w hs' l cs t hm' hsf (by simpa using hst) hS hP hok hlen hlits hC htl htz
      · rename_i hsf; exact compile_6 s w hs' l cs t hm' (by simpa using hsf) hS hP hok hlen hlits hC
end Go.Proofs.YteampbddflhngaaGreat
