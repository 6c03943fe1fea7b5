import Derived.Test.YteampbddflhngaaGreatP13
import Derived.Deep.OwnRows

/- Walks: deriveref.Program.layers. -/
namespace Go.Proofs.YteampbddflhngaaGreat
open Go.RowKit
variable {lo : Nat}

theorem Tryz.infoInt : (Tryz.prog.info? 3).map (fun i => (i.zero, i.size, i.bytes)) = some (some (.int .i64 0), 1, 8) := by kernel_rfl
def ivN (s : Nat) : Value := .int .i64 (s : Int)
theorem own_made (w : World) (n : Nat) (T : TypeId) (hn : n ≤ maxLen) : (w.alloc (.cells (madeCells #[.int .i64 0] n) T)).ownsRow w.heap.size T 1 (.slice (some ⟨w.heap.size, 0, none⟩) n n) n ((List.replicate n 0).map ivN) := by
  refine ⟨by simp, Or.inr ⟨w.heap.size, n, madeCells #[.int .i64 0] n, rfl, Nat.le_refl _, ?_, Nat.le_refl _, hn, by rw [size_madeCells]; omega, ?_⟩⟩
  · show (w.heap.push _)[w.heap.size]? = _
    simp
  · apply List.ext_getElem?
    intro i
    by_cases hi : i < n
    · simp [hi, madeCells, ivN, Nat.mod_one]
    · simp [List.getElem?_take, hi]
theorem CIn.but {T0 : TypeId} {r : Nat} {w w' : World} {v : Value} {l : List PClause} (h : CIn lo T0 w v l) (hb : But r w w') {c : Array Value} {T : TypeId} {f : Nat × Nat} (hr : w.heap[r]? = some (.cells c T f)) (hT : T ≠ 9) (hT2 : T ≠ 90) (hT3 : T ≠ T0) : CIn lo T0 w' v l := by
  obtain ⟨xs, h, hc⟩ := h; exact ⟨xs, own_but h hb hr hT3, hc.mono (fun _ _ k => k.but hb hr hT) (fun _ _ k => k.but hb hr hT hT2)⟩

/-- What stands while strata rise: they are sv. -/
structure Lay (w : World) (pb : Nat) (cv pv : Value) (cs : List PClause) (ps : List ByteArray) (sv : List Nat) (wr : World) : Prop where
  but : But pb w wr
  box : Box wr pb #[cv, pv, .slice (some ⟨w.heap.size, 0, none⟩) ps.length ps.length] 45
  row : wr.ownsRow w.heap.size 3 1 (.slice (some ⟨w.heap.size, 0, none⟩) ps.length ps.length) ps.length (sv.map ivN)
  len : sv.length = ps.length
  low : Low cs ps sv
  top : ∀ s ∈ sv, s < ps.length
theorem Lay.cell {w : World} {pb : Nat} {cv pv : Value} {cs : List PClause} {ps : List ByteArray} {sv : List Nat} {wr : World} (h : Lay w pb cv pv cs ps sv wr) (k : Nat) (hk : k < sv.length) : w.heap.size < wr.heap.size ∧ wr.cell? ⟨w.heap.size, k, none⟩ = some (.int .i64 (sv[k] : Int)) := by
  obtain ⟨g, cap, hv, _, hg, hc⟩ := own_cells h.row (by have := h.len; omega)
  simp at hv
  obtain ⟨rfl, _⟩ := hv
  exact ⟨hg, hc k _ (by simp [hk, ivN])⟩
theorem Lay.set {w : World} {pb : Nat} {cv pv : Value} {cs : List PClause} {ps : List ByteArray} {sv : List Nat} {wr : World} (h : Lay w pb cv pv cs ps sv wr) (hpb : pb < w.heap.size) (k : Nat) (hk : k < sv.length) (s : Nat) (hs : s < ps.length) (hlow : Low cs ps (sv.set k s)) :
    Lay w pb cv pv cs ps (sv.set k s) (wr.setCell ⟨w.heap.size, k, none⟩ (.int .i64 (s : Int))) := by
  refine ⟨h.but.setNew (Nat.le_refl _) _, h.box.set_ne (by omega) _ _, ?_, by simpa using h.len, hlow, ?_⟩
  · have := own_set h.row k (by simpa using hk) (ivN s)
    rw [List.map_set]
    exact this
  · intro x hx
    rcases List.mem_or_eq_of_mem_set hx with hx | hx
    · exact h.top x hx
    · omega
def LayPost (w : World) (pb : Nat) (cv pv : Value) (cs : List PClause) (ps : List ByteArray) (e : Ending) (w' : World) : Prop := But pb w w' ∧ ((e = .returned (.bool false) ∧ ¬ ∃ f, Sol cs f) ∨ ∃ sv, e = .returned (.bool true) ∧ Lay w pb cv pv cs ps sv w' ∧ Least cs (fval ps sv))
theorem lay_rise {sv : List Nat} {k s : Nat} (hk : k < sv.length) (hs : sv[k] < s) : sv.sum < (sv.set k s).sum := by have := sum_set sv k s hk; omega
theorem lay_top {ps : List ByteArray} {sv : List Nat} (hl : sv.length = ps.length) (h : ∀ s ∈ sv, s < ps.length) : sv.sum ≤ ps.length * ps.length := by rw [← hl] at h ⊢; exact sum_le sv sv.length fun s hs => by have := h s hs; omega

theorem CIn.ne {T0 T : TypeId} {w : World} {g n cap pb : Nat} {cs : List PClause} {c : Array Value} (h : CIn lo T0 w (.slice (some ⟨g, 0, none⟩) n cap) cs) (hp : Box w pb c T) (hT : T ≠ T0) : g ≠ pb := by
  obtain ⟨xs, ⟨_, ⟨hv, _⟩ | ⟨g', cap', cur, hv, _, hh, _⟩⟩, _⟩ := h
  · cases hv
  · simp at hv; obtain ⟨rfl, _⟩ := hv
    rintro rfl
    unfold Box at hp; rw [hh] at hp; simp at hp; exact hT hp.2.symm
theorem ClAt.but {w w' : World} {g o : Nat} {c : PClause} {ao : Option Addr} {cap : Nat} {aob : Option Addr} {capb : Nat} {r : Nat} (h : ClAt w g o c ao cap aob capb) (hb : But r w w') (hne : g ≠ r) {cc : Array Value} {T : TypeId} (hr : Box w r cc T) (hT : T ≠ 9) (hT2 : T ≠ 90) : ClAt w' g o c ao cap aob capb :=
  have hk : ∀ o, w'.cell? ⟨g, o, none⟩ = w.cell? ⟨g, o, none⟩ := fun _ => World.cell?_of_block (w := w) (hb.block g h.lt hne)
  ⟨Nat.lt_of_lt_of_le h.lt hb.size, (hk _).trans h.c0, (hk _).trans h.c1, (hk _).trans h.c2, (hk _).trans h.c3, h.args.but hb hr hT, h.body.but hb hr hT hT2⟩

set_option maxRecDepth 100000 in
set_option maxHeartbeats 4000000 in
theorem rlayers_any (w : World) (pb : Nat) (cv pv v2 : Value) (cs : List PClause) (ps : List ByteArray) (hp : Box w pb #[cv, pv, v2] 45) (hcs : CIn lo 93 w cv cs) {lo2 : Nat} (hps : SIn lo2 w pv ps) (hok : ∀ c ∈ cs, ClOK c ∧ c.body.length ≤ 999) (hl : cs.length ≤ 1000) (hpl : ps.length ≤ 1000) (hin : ∀ c ∈ cs, ∀ l ∈ litsOf c, l.pred ∈ ps) :
    Calls Tryz.prog 70 #[.pointer (some ⟨pb, 0, none⟩)] w fun e w' => LayPost w pb cv pv cs ps e w' := by
  obtain ⟨ao, cap, rfl⟩ := hcs.shape
  obtain ⟨aop, capp, rfl⟩ := hps.shape
  obtain ⟨hpc0, hpf0⟩ := hp.rules
  have hpblt := hp.lt
  have HOK : Hid (∀ c ∈ cs, ClOK c ∧ c.body.length ≤ 999) := hok
  have HIN : Hid (∀ c ∈ cs, ∀ l ∈ litsOf c, l.pred ∈ ps) := hin
  have HP : Hid (Box w pb #[.slice ao cs.length cap, .slice aop ps.length capp, v2] 45) := hp
  have hmk := run_make_row' (P := Tryz.prog) 24 3 (.int .i64 0) 8 Tryz.underlying24 Tryz.infoInt rfl .i64 .i64 ps.length (by omega) (by omega)
  clear hok hin
  go_enter Tryz.func70, Tryz.ntmps70
  go_wp2
  clear hmk
  go_loopg [4] (2 * (ps.length * ps.length) + 1) (fun N v3 wr => ∃ (sv : List Nat) (more : Bool), v3 = .bool more ∧ Lay w pb (.slice ao cs.length cap) (.slice aop ps.length capp) cs ps sv wr ∧ Hid (more = false → Calm cs ps sv cs.length) ∧ 2 * (ps.length * ps.length - sv.sum) + more.toNat ≤ N)
  case atStart =>
    have hsz : (w.setCell ⟨pb, 2, none⟩ (.slice (some ⟨w.heap.size, 0, none⟩) ps.length ps.length)).heap.size = w.heap.size := by simp [World.setCell]
    have hom := own_made (w.setCell ⟨pb, 2, none⟩ (.slice (some ⟨w.heap.size, 0, none⟩) ps.length ps.length)) ps.length 3 (by unfold maxLen; omega)
    rw [hsz] at hom
    refine ⟨List.replicate ps.length 0, true, rfl, ⟨(by repeat' (first | (with_reducible exact But.refl _ _) | (with_reducible assumption) | (with_reducible refine But.drewN ?_ _) | (with_reducible refine But.alloc ?_ _) | (with_reducible refine But.drew ?_) | (with_reducible refine But.setCell ?_ _ _) | (with_reducible refine But.setNew ?_ ?_ _) | go_size)), ?_, hom, by simp, low_zero _ _ _, ?_⟩, (by intro h; cases h), (by simp)⟩
    · exact (hp.set 2 _).below ((Below.refl _ _).alloc (Nat.le_refl _) _)
    · intro s hs; rw [List.mem_replicate] at hs; omega
  case round =>
    clear hpc0 hpf0
    obtain ⟨sv, more, rfl, hlay, HC, hN⟩ := hrel
    cases more with
    | false =>
      have HCC : Hid (Calm cs ps sv cs.length) := HC.out rfl
      clear HC
      go_wp2
      go_ret
      exact ⟨hlay.but, Or.inr ⟨sv, rfl, hlay, calm_least hlay.low HCC.out⟩⟩
    | true =>
      go_wp2
      go_loopw [4, 5] (fun v3 v4 wi => ∃ (k : Nat) (si : List Nat) (mi : Bool), k ≤ cs.length ∧ v4 = .int .i64 k ∧ v3 = .bool mi ∧ Lay w pb (.slice ao cs.length cap) (.slice aop ps.length capp) cs ps si wi ∧ sv.sum ≤ si.sum ∧ (mi = true → sv.sum < si.sum) ∧ Hid (mi = false → Calm cs ps si k)) (fun _ i _ => cs.length - (intOf i).toNat)
      case atStart => exact ⟨0, sv, false, Nat.zero_le _, rfl, rfl, hlay, Nat.le_refl _, (by simp), fun _ => calm_zero _ _ _⟩
      case round =>
        obtain ⟨k, si, mi, hk, rfl, rfl, hli, hle, hlti, HCi⟩ := hrel
        have hbxi := hli.box
        obtain ⟨hpc, hpf⟩ := hbxi.rules
        have hpbi := hbxi.lt
        by_cases hlt : k < cs.length
        · obtain ⟨g, ao2, cap2, ao3, cap3, rfl, hat0⟩ := hcs.at k hlt
          have hgne := hcs.ne hp (by decide)
          have hati := hat0.but hli.but hgne hp (by decide) (by decide)
          have hpsi := hps.but hli.but HP.out (by decide)
          obtain ⟨hk1, hk3⟩ := HOK.out _ (List.getElem_mem hlt)
          have hinc := HIN.out _ (List.getElem_mem hlt)
          have hmem := List.getElem_mem hlt
          have HNEXT : Hid (∀ s', Calm cs ps s' k → CalmL cs[k] ps s' cs[k].body.length → Calm cs ps s' (k + 1)) := fun s' h1 h2 => calm_next h1 hlt h2
          generalize cs[k] = c at *
          have HINC : Hid (∀ l ∈ litsOf c, l.pred ∈ ps) := hinc
          have HMEM : Hid (c ∈ cs) := hmem
          have HAT : Hid (ClAt w g (k * 4) c ao2 cap2 ao3 cap3) := hat0
          obtain ⟨kh, hkh⟩ := placeR_mem (hinc c.head (by simp [litsOf]))
          have hkhl := (placeR_lt hkh).1
          have HKH : Hid (placeR ps c.head.pred = some kh) := hkh
          have hpI : Hid (placeI ps c.head.pred = (kh : Int)) := by unfold Hid placeI; rw [hkh]
          have hc1 := hati.c1
          have hc3 := hati.c3
          have hglt := hati.lt
          clear hkh hinc hmem hat0
          go_wp2_with (first | (go_at_call 111; refine (rplace_any _ pb _ _ _ ps c.head.pred hbxi hpsi hpl).mono ?_; rw [hpI.out]; rintro e w' ⟨rfl, hww⟩; obtain rfl := hww.symm))
          go_loopw [4, 8] (fun v3 v7 wj => ∃ (j : Nat) (sj : List Nat) (mj : Bool), j ≤ c.body.length ∧ v7 = .int .i64 j ∧ v3 = .bool mj ∧ Lay w pb (.slice (some ⟨g, 0, none⟩) cs.length cap) (.slice aop ps.length capp) cs ps sj wj ∧ sv.sum ≤ sj.sum ∧ (mj = true → sv.sum < sj.sum) ∧ Hid (mj = false → Calm cs ps sj k ∧ CalmL c ps sj j)) (fun _ i _ => c.body.length - (intOf i).toNat)
          case atStart => exact ⟨0, si, mi, Nat.zero_le _, rfl, rfl, hli, hle, hlti, fun h => ⟨HCi.out h, calmL_zero _ _ _⟩⟩
          case round =>
            clear hpc hpf hc1 hc3 hati hpsi hbxi hpbi hglt
            obtain ⟨j, sj, mj, hj, rfl, rfl, hlj, hlej, hltj, HCj⟩ := hrel
            have hbxj := hlj.box
            obtain ⟨hpc, hpf⟩ := hbxj.rules
            have hpbj := hbxj.lt
            have hatj := HAT.out.but hlj.but hgne HP.out (by decide) (by decide)
            have hpsj := hps.but hlj.but HP.out (by decide)
            have hc3 := hatj.c3
            have hglt := hatj.lt
            by_cases hjl : j < c.body.length
            · obtain ⟨gl, aol, capl, hvl, hgl, hl0, hl1, _, _⟩ := hatj.body.cell j hjl
              subst hvl
              have hlm := List.getElem_mem hjl
              obtain ⟨kb, hkb⟩ := placeR_mem (HINC.out c.body[j] (by simp [litsOf]))
              have hkbl := (placeR_lt hkb).1
              have hlen := hlj.len
              have hkbs : kb < sj.length := by omega
              have hkhs : kh < sj.length := by omega
              have hsb := fval_at hkb hkbs
              have hsh := fval_at HKH.out hkhs
              have hpIb : Hid (placeI ps c.body[j].pred = (kb : Int)) := by unfold Hid placeI; rw [hkb]
              have HRAISE : Hid (Low cs ps (sj.set kh (sj[kb] + up c.body[j]))) := by have := low_raise hlj.low HMEM.out hlm HKH.out hkhs; rw [hsb] at this; exact this
              have HFAIL : Hid (ps.length ≤ sj[kb] + up c.body[j] → ¬ ∃ f, Sol cs f) := fun h => low_fail hlj.low HIN.out HMEM.out hlm (by rw [hsb]; exact h)
              have HCN : Hid (sj[kb] + up c.body[j] ≤ sj[kh] → CalmL c ps sj j → CalmL c ps sj (j + 1)) := fun h1 h2 => calmL_next h2 hjl (by rw [hsb, hsh]; exact h1)
              have HSET : Hid (∀ s, s < ps.length → Low cs ps (sj.set kh s) → Lay w pb (.slice (some ⟨g, 0, none⟩) cs.length cap) (.slice aop ps.length capp) cs ps (sj.set kh s) (wr.setCell ⟨w.heap.size, kh, none⟩ (.int .i64 (s : Int)))) := fun s h1 h2 => hlj.set hpblt kh hkhs s h1 h2
              have HRISE : Hid (∀ s, sj[kh] < s → sj.sum < (sj.set kh s).sum) := fun s h => lay_rise hkhs h
              obtain ⟨hwl, hxb⟩ := hlj.cell kb hkbs
              obtain ⟨_, hxh⟩ := hlj.cell kh hkhs
              have hfz := own_free hlj.row
              have htb := hlj.top _ (List.getElem_mem hkbs)
              have hth := hlj.top _ (List.getElem_mem hkhs)
              clear hsb hsh hkb hlm
              generalize sj[kb] = sb at *
              generalize sj[kh] = sh at *
              generalize c.body[j] = l at *
              cases hneg : l.neg with
              | false =>
                have hup : up l = 0 := by simp [up, hneg]
                rw [hneg] at hl0
                clear hneg
                by_cases hgt : sh < sb
                · by_cases hge : ps.length ≤ sb
                  · omega
                  · have HL2 : Hid (Lay w pb (.slice (some ⟨g, 0, none⟩) cs.length cap) (.slice aop ps.length capp) cs ps (sj.set kh (sb)) (wr.setCell ⟨w.heap.size, kh, none⟩ (.int .i64 ((sb : Nat) : Int)))) := HSET.out _ (by omega) (by have := HRAISE.out; rw [hup] at this; exact this)
                    have hrs := HRISE.out (sb) hgt
                    go_wp2_with (first | (go_at_call 111; refine (rplace_any _ pb _ _ _ ps l.pred hbxj hpsj hpl).mono ?_; rw [hpIb.out]; rintro e w' ⟨rfl, hww⟩; obtain rfl := hww.symm))
                    go_roundw
                    case rel => exact ⟨j + 1, _, true, by omega, by go_num, rfl, HL2.out, by omega, (fun _ => by omega), (fun h => by cases h)⟩
                    case measure => simp [intOf]; omega
                · have HCC : Hid (mj = false → Calm cs ps sj k ∧ CalmL c ps sj (j + 1)) := fun h => ⟨(HCj.out h).1, HCN.out (by rw [hup]; omega) (HCj.out h).2⟩
                  go_wp2_with (first | (go_at_call 111; refine (rplace_any _ pb _ _ _ ps l.pred hbxj hpsj hpl).mono ?_; rw [hpIb.out]; rintro e w' ⟨rfl, hww⟩; obtain rfl := hww.symm))
                  go_roundw
                  case rel => exact ⟨j + 1, sj, mj, by omega, by go_num, rfl, hlj, hlej, hltj, HCC⟩
                  case measure => simp [intOf]; omega
              | true =>
                have hup : up l = 1 := by simp [up, hneg]
                rw [hneg] at hl0
                clear hneg
                by_cases hgt : sh < sb + 1
                · by_cases hge : ps.length ≤ sb + 1
                  · have HF : Hid (¬ ∃ f, Sol cs f) := HFAIL.out (by rw [hup]; omega)
                    go_wp2_with (first | (go_at_call 111; refine (rplace_any _ pb _ _ _ ps l.pred hbxj hpsj hpl).mono ?_; rw [hpIb.out]; rintro e w' ⟨rfl, hww⟩; obtain rfl := hww.symm))
                    go_ret
                    exact ⟨hlj.but.setNew (Nat.le_refl _) _, Or.inl ⟨rfl, HF.out⟩⟩
                  · have HL2 : Hid (Lay w pb (.slice (some ⟨g, 0, none⟩) cs.length cap) (.slice aop ps.length capp) cs ps (sj.set kh (sb + 1)) (wr.setCell ⟨w.heap.size, kh, none⟩ (.int .i64 ((sb + 1 : Nat) : Int)))) := HSET.out _ (by omega) (by have := HRAISE.out; rw [hup] at this; exact this)
                    have hrs := HRISE.out (sb + 1) hgt
                    go_wp2_with (first | (go_at_call 111; refine (rplace_any _ pb _ _ _ ps l.pred hbxj hpsj hpl).mono ?_; rw [hpIb.out]; rintro e w' ⟨rfl, hww⟩; obtain rfl := hww.symm))
                    go_roundw
                    case rel => exact ⟨j + 1, _, true, by omega, by go_num, rfl, HL2.out, by omega, (fun _ => by omega), (fun h => by cases h)⟩
                    case measure => simp [intOf]; omega
                · have HCC : Hid (mj = false → Calm cs ps sj k ∧ CalmL c ps sj (j + 1)) := fun h => ⟨(HCj.out h).1, HCN.out (by rw [hup]; omega) (HCj.out h).2⟩
                  go_wp2_with (first | (go_at_call 111; refine (rplace_any _ pb _ _ _ ps l.pred hbxj hpsj hpl).mono ?_; rw [hpIb.out]; rintro e w' ⟨rfl, hww⟩; obtain rfl := hww.symm))
                  go_roundw
                  case rel => exact ⟨j + 1, sj, mj, by omega, by go_num, rfl, hlj, hlej, hltj, HCC⟩
                  case measure => simp [intOf]; omega
            · have HE : Hid (mj = false → Calm cs ps sj (k + 1)) := fun h => HNEXT.out sj (HCj.out h).1 (by have h2 := (HCj.out h).2; rw [show c.body.length = j from by omega]; exact h2)
              go_wp2
              go_roundw
              case rel => exact ⟨k + 1, sj, mj, by omega, by go_num, rfl, hlj, hlej, hltj, HE⟩
              case measure => simp [intOf]; omega
        · have hke : k = cs.length := by omega
          have hst := lay_top hli.len hli.top
          go_wp2
          go_roundg (2 * (ps.length * ps.length - si.sum) + mi.toNat)
          case measure =>
            have hN2 : 2 * (ps.length * ps.length - sv.sum) + 1 ≤ gk := hN
            clear hN
            generalize ps.length * ps.length = nn at *
            cases mi with
            | false => simp only [Bool.toNat_false]; omega
            | true => have := hlti rfl; simp only [Bool.toNat_true]; omega
          case rel => exact ⟨si, mi, rfl, hli, (by rw [← hke]; exact HCi.out), Nat.le_refl _⟩
end Go.Proofs.YteampbddflhngaaGreat

/- Walks: deriveref.Read. -/
namespace Go.Proofs.YteampbddflhngaaGreat
open Go.RowKit
variable {lo : Nat}

theorem isTerms_mem : ∀ {ts : List ByteArray} {l : List Tok}, IsTerms ts l → ∀ t ∈ ts, ∃ y ∈ l, y.2 = t := by
  intro ts l h
  induction h with
  | one => intro t ht; simp at ht; exact ⟨_, List.mem_cons_self, ht.symm⟩
  | more _ _ _ ih =>
    intro t ht
    rcases List.mem_cons.1 ht with rfl | ht
    · exact ⟨_, List.mem_cons_self, rfl⟩
    · obtain ⟨y, hy, e⟩ := ih t ht; exact ⟨y, by simp [hy], e⟩
theorem isAtom_mem {a : PLit} {l : List Tok} (h : IsAtom a l) : ∀ t ∈ a.args, ∃ y ∈ l, y.2 = t := by
  cases h with
  | bare => intro t ht; cases ht
  | args _ _ h2 _ => intro t ht; obtain ⟨y, hy, e⟩ := isTerms_mem h2 t ht; exact ⟨y, by simp [hy], e⟩
theorem isLit_mem {a : PLit} {l : List Tok} (h : IsLit a l) : ∀ t ∈ a.args, ∃ y ∈ l, y.2 = t := by
  cases h with
  | plain h => exact isAtom_mem h
  | neg _ h => intro t ht; obtain ⟨y, hy, e⟩ := isAtom_mem h t ht; exact ⟨y, by simp [hy], e⟩
theorem isBody_mem : ∀ {b : List PLit} {l : List Tok}, IsBody b l → ∀ a ∈ b, ∀ t ∈ a.args, ∃ y ∈ l, y.2 = t := by
  intro b l h
  induction h with
  | one h => intro a ha; simp at ha; subst ha; exact isLit_mem h
  | more h _ _ ih =>
    intro a ha t ht
    rcases List.mem_cons.1 ha with rfl | ha
    · obtain ⟨y, hy, e⟩ := isLit_mem h t ht; exact ⟨y, by simp [hy], e⟩
    · obtain ⟨y, hy, e⟩ := ih a ha t ht; exact ⟨y, by simp [hy], e⟩
theorem isClause_mem {c : PClause} {l : List Tok} (h : IsClause c l) : ∀ a ∈ litsOf c, ∀ t ∈ a.args, ∃ y ∈ l, y.2 = t := by
  cases h with
  | fact h => intro a ha; simp [litsOf] at ha; subst ha; exact isAtom_mem h
  | rule h _ h2 =>
    intro a ha t ht
    simp only [litsOf] at ha
    rcases List.mem_cons.1 ha with rfl | ha
    · obtain ⟨y, hy, e⟩ := isAtom_mem h t ht; exact ⟨y, by simp [hy], e⟩
    · obtain ⟨y, hy, e⟩ := isBody_mem h2 a ha t ht; exact ⟨y, by simp [hy], e⟩
theorem isProg_mem : ∀ {cs : List PClause} {l : List Tok}, IsProg cs l → ∀ c ∈ cs, ∀ a ∈ litsOf c, ∀ t ∈ a.args, ∃ y ∈ l, y.2 = t := by
  intro cs l h
  induction h with
  | nil => intro c hc; cases hc
  | cons h _ _ ih =>
    intro c hc a ha t ht
    rcases List.mem_cons.1 hc with rfl | hc
    · obtain ⟨y, hy, e⟩ := isClause_mem h a ha t ht; exact ⟨y, by simp [hy], e⟩
    · obtain ⟨y, hy, e⟩ := ih c hc a ha t ht; exact ⟨y, by simp [hy], e⟩

/-- What a text's clauses keep to. -/
structure RdOK (cs : List PClause) : Prop where
  ok : ∀ c ∈ cs, ClOK c ∧ c.body.length ≤ 999 ∧ sumArgs (litsOf c) ≤ 1000 ∧ ∀ l ∈ litsOf c, ∀ t ∈ l.args, 0 < t.size
  len : cs.length ≤ 1000
  lits : (cs.flatMap litsOf).length ≤ 1000
theorem refW_fine {s : ByteArray} {l : List ByteArray} (hs : s.size ≤ 500) (h : refW s.size s = some l) : ∃ tl, splitB s = some tl ∧ l = snds tl ∧ l.length ≤ 500 ∧ ∀ y ∈ l, 0 < y.size := by
  rw [words_same] at h
  cases hS : splitB s with
  | none => rw [hS] at h; cases h
  | some tl =>
    rw [hS] at h
    simp only [Option.map_some, Option.some.injEq] at h
    subst h
    refine ⟨tl, rfl, rfl, ?_, ?_⟩
    · have := splitB_len hS; simp; omega
    · intro y hy
      obtain ⟨x, hx, rfl⟩ := List.mem_map.1 hy
      exact (splitB_ok hS x hx).2
theorem rdOK_of {s : ByteArray} {l : List ByteArray} {cs : List PClause} (hs : s.size ≤ 500) (h : refW s.size s = some l) (hp : refProg l = some cs) : RdOK cs := by
  obtain ⟨tl, h1, rfl, h3, h4⟩ := refW_fine hs h
  have hall : AllOk tl := fun x hx => (splitB_ok h1 x hx).1
  have hI := (refProg_iff hall cs).1 hp
  have hpp : pProg tl.length tl.length tl = some cs := by
    have := read_same s
    rw [h, h1] at this
    simp only [Option.bind_some] at this
    rw [← this]; exact hp
  have hw := pProg_w hpp
  have htl : tl.length ≤ 500 := by simpa [snds] using h3
  have hok := prW_ok (cs := cs) (by omega)
  refine ⟨fun c hc => ⟨hok c hc, ?_, ?_, ?_⟩, by have := prW_len cs; omega, by have := prW_lits cs; omega⟩
  · have h1 := prW_mem hc
    have h2 := sumW_args c.body
    unfold clW litW at h1
    omega
  · have h1 := prW_mem hc
    have h2 := sumW_args c.body
    unfold clW litW at h1
    simp only [litsOf, sumArgs] at *
    simp
    omega
  · intro a ha t ht
    obtain ⟨y, hy, rfl⟩ := isProg_mem hI c hc a ha t ht
    exact (splitB_ok h1 y hy).2

def ReadPost (r : Except Int (List PClause × List ByteArray × List Nat)) (w : World) (e : Ending) (w' : World) : Prop :=
  Below w.heap.size w w' ∧ match r with
    | .error n => e = .returned (.tuple #[.pointer none, .int .i64 n])
    | .ok (cs, ps, sv) => ∃ pb cv pv kv, e = .returned (.tuple #[.pointer (some ⟨pb, 0, none⟩), .int .i64 0]) ∧ Box w' pb #[cv, pv, kv] 45 ∧ CIn w.heap.size 93 w' cv cs ∧ SIn w.heap.size w' pv ps ∧ w'.ownsRow w.heap.size 3 1 kv sv.length (sv.map ivN) ∧ w.heap.size ≤ pb

set_option maxRecDepth 100000 in
set_option maxHeartbeats 2000000 in
theorem read_1 (s : ByteArray) (w : World) (hs : 500 < s.size) (hs2 : s.size ≤ 9223372036854775807) :
    Calls Tryz.prog 33 #[.string s] w fun e w' => ReadPost (.error 1) w e w' := by
  go_enter Tryz.func33, Tryz.ntmps33
  go_wp2
  go_ret2
  exact ⟨Below.refl _ _, rfl⟩

set_option maxRecDepth 100000 in
set_option maxHeartbeats 2000000 in
theorem read_2 (s : ByteArray) (w : World) (hs : s.size ≤ 500) (h : refW s.size s = none) :
    Calls Tryz.prog 33 #[.string s] w fun e w' => ReadPost (.error 2) w e w' := by
  have HW : Hid (∀ W, Calls Tryz.prog 65 #[.string s] W fun e w' => Below W.heap.size W w' ∧ e = .returned (.tuple #[.slice none 0 0, .bool false])) := fun W => by have := rwords_any s W hs; rw [h] at this; exact this
  clear h
  go_enter Tryz.func33, Tryz.ntmps33
  go_wp2_with (first | (go_at_call 65; refine (HW.out _).mono ?_; rintro e w1 ⟨hb1, rfl⟩; clear HW))
  go_ret2
  exact ⟨hb1, rfl⟩

set_option maxRecDepth 100000 in
set_option maxHeartbeats 2000000 in
theorem read_3 (s : ByteArray) (w : World) (hs : s.size ≤ 500) (l : List ByteArray) (h : refW s.size s = some l) (hp : refProg l = none) :
    Calls Tryz.prog 33 #[.string s] w fun e w' => ReadPost (.error 3) w e w' := by
  obtain ⟨_, _, _, h3, h4⟩ := refW_fine hs h
  have HW : Hid (∀ W, Calls Tryz.prog 65 #[.string s] W fun e w' => Below W.heap.size W w' ∧ ∃ v, e = .returned (.tuple #[v, .bool true]) ∧ w'.ownsRow W.heap.size 9 1 v l.length (l.map Value.string)) := fun W => by have := rwords_any s W hs; rw [h] at this; exact this
  have HC : Hid (∀ W v, SV W v l → Calls Tryz.prog 66 #[v] W fun e w' => Below W.heap.size W w' ∧ ∃ ao n cap, e = .returned (.tuple #[.slice ao n cap, .bool false])) := fun W v hv => by have := rclauses_any W v l hv h4 h3; rw [hp] at this; exact this
  clear h hp h4
  go_enter Tryz.func33, Tryz.ntmps33
  go_wp2_with (first | (go_at_call 65; refine (HW.out _).mono ?_; rintro e w1 ⟨hb1, v1, rfl, ho1⟩; clear HW) | (go_at_call 66; refine (HC.out _ _ (SV.of ho1)).mono ?_; rintro e w2 ⟨hb2, ao, n, cap, rfl⟩; clear HC))
  go_ret2
  exact ⟨bnext hb1 hb2 (Nat.le_refl _), rfl⟩

set_option maxRecDepth 100000 in
set_option maxHeartbeats 2000000 in
theorem read_4 (s : ByteArray) (w : World) (hs : s.size ≤ 500) (l : List ByteArray) (cs : List PClause) (h : refW s.size s = some l) (hp : refProg l = some cs) (hx : wrongB cs ≠ 0) :
    Calls Tryz.prog 33 #[.string s] w fun e w' => ReadPost (.error (wrongB cs)) w e w' := by
  obtain ⟨_, _, _, h3, h4⟩ := refW_fine hs h
  have hrd := rdOK_of hs h hp
  have hlen := hrd.len
  have HRD : Hid (RdOK cs) := hrd
  have HW : Hid (∀ W, Calls Tryz.prog 65 #[.string s] W fun e w' => Below W.heap.size W w' ∧ ∃ v, e = .returned (.tuple #[v, .bool true]) ∧ w'.ownsRow W.heap.size 9 1 v l.length (l.map Value.string)) := fun W => by have := rwords_any s W hs; rw [h] at this; exact this
  have HC : Hid (∀ W v, SV W v l → Calls Tryz.prog 66 #[v] W fun e w' => Below W.heap.size W w' ∧ ∃ v, e = .returned (.tuple #[v, .bool true]) ∧ CIn W.heap.size 93 w' v cs) := fun W v hv => by have := rclauses_any W v l hv h4 h3; rw [hp] at this; exact this
  have HWR : Hid (∀ lo W pb cv v1 v2, Box W pb #[cv, v1, v2] 45 → CIn lo 93 W cv cs → Calls Tryz.prog 67 #[.pointer (some ⟨pb, 0, none⟩)] W fun e w' => e = .returned (.int .i64 (wrongB cs)) ∧ Below W.heap.size W w') := fun _ W pb cv v1 v2 h1 h2 => rwrong_any W pb cv v1 v2 cs h1 h2 hrd.ok hlen
  have hxb : (wrongB cs == 0) = false := by rw [beq_eq_false_iff_ne]; exact hx
  clear h hp h4 hrd hx
  generalize wrongB cs = e0 at *
  go_enter Tryz.func33, Tryz.ntmps33
  go_wp2_with (first | (go_at_call 65; refine (HW.out _).mono ?_; rintro e w1 ⟨hb1, v1, rfl, ho1⟩; clear HW) | (go_at_call 66; refine (HC.out _ _ (SV.of ho1)).mono ?_; rintro e w2 ⟨hb2, v2, rfl, hcin⟩; obtain ⟨aoc, capc, rfl⟩ := hcin.shape; have hB2 := bnext hb1 hb2 (Nat.le_refl _); clear HC) | (go_at_call 67; refine (HWR.out _ _ _ _ _ _ (Box.new _ _ _) (by exact hcin.below (by repeat' (first | (with_reducible exact Below.refl _ _) | (with_reducible assumption) | (with_reducible refine bdrewN ?_ _) | (with_reducible refine Below.alloc ?_ ?_ _) | (with_reducible refine Below.drew ?_) | (with_reducible refine Below.setCell ?_ ?_ _) | go_size)))).mono ?_; rintro e w3 ⟨rfl, hb3⟩; have hbx3 := (Box.new w2 #[.slice aoc cs.length capc, .slice none 0 0, .slice none 0 0] 45).below hb3; have hcin3 := (hcin.below ((Below.refl _ _).alloc (Nat.le_refl _) (.cells #[.slice aoc cs.length capc, .slice none 0 0, .slice none 0 0] 45))).below hb3; have hB3 : Below w.heap.size w w3 := bnext (hB2.alloc hB2.size _) hb3 (Nat.le_refl _); clear HWR))
  go_ret2
  exact ⟨hB3, rfl⟩

theorem rlayers_yes (w : World) (pb : Nat) (cv pv v2 : Value) (cs : List PClause) (ps : List ByteArray) (hp : Box w pb #[cv, pv, v2] 45) (hcs : CIn lo 93 w cv cs) {lo2 : Nat} (hps : SIn lo2 w pv ps) (hok : ∀ c ∈ cs, ClOK c ∧ c.body.length ≤ 999) (hl : cs.length ≤ 1000) (hpl : ps.length ≤ 1000) (hin : ∀ c ∈ cs, ∀ l ∈ litsOf c, l.pred ∈ ps) (hS : Hid (∃ f, Sol cs f)) :
    Calls Tryz.prog 70 #[.pointer (some ⟨pb, 0, none⟩)] w fun e w' => ∃ sv, e = .returned (.bool true) ∧ But pb w w' ∧ Lay w pb cv pv cs ps sv w' ∧ Least cs (fval ps sv) :=
  (rlayers_any w pb cv pv v2 cs ps hp hcs hps hok hl hpl hin).mono fun _ _ ⟨h1, h2⟩ => h2.elim (fun h => absurd hS.out h.2) fun ⟨sv, h3, h4, h5⟩ => ⟨sv, h3, h1, h4, h5⟩
theorem rlayers_no (w : World) (pb : Nat) (cv pv v2 : Value) (cs : List PClause) (ps : List ByteArray) (hp : Box w pb #[cv, pv, v2] 45) (hcs : CIn lo 93 w cv cs) {lo2 : Nat} (hps : SIn lo2 w pv ps) (hok : ∀ c ∈ cs, ClOK c ∧ c.body.length ≤ 999) (hl : cs.length ≤ 1000) (hpl : ps.length ≤ 1000) (hin : ∀ c ∈ cs, ∀ l ∈ litsOf c, l.pred ∈ ps) (hS : Hid (¬ ∃ f, Sol cs f)) :
    Calls Tryz.prog 70 #[.pointer (some ⟨pb, 0, none⟩)] w fun e w' => e = .returned (.bool false) ∧ But pb w w' :=
  (rlayers_any w pb cv pv v2 cs ps hp hcs hps hok hl hpl hin).mono fun _ _ ⟨h1, h2⟩ => h2.elim (fun h => ⟨h.1, h1⟩) fun ⟨_, _, _, h5⟩ => absurd ⟨_, h5.1⟩ hS.out
theorem flat_take (cs : List PClause) (k : Nat) (hk : k < cs.length) : (cs.take (k + 1)).flatMap litsOf = (cs.take k).flatMap litsOf ++ litsOf cs[k] := by rw [List.take_succ_eq_append_getElem hk, List.flatMap_append]; simp

set_option maxRecDepth 100000 in
set_option maxHeartbeats 4000000 in
theorem read_5 (s : ByteArray) (w : World) (hs : s.size ≤ 500) (l : List ByteArray) (cs : List PClause) (h : refW s.size s = some l) (hp : refProg l = some cs) (hx : wrongB cs = 0) :
    Calls Tryz.prog 33 #[.string s] w fun e w' => ∃ r, RefOut s r ∧ ReadPost r w e w' := by
  obtain ⟨_, _, _, h3, h4⟩ := refW_fine hs h
  have hrd := rdOK_of hs h hp
  have hlen := hrd.len
  have HRD : Hid (RdOK cs) := hrd
  have HW : Hid (∀ W, Calls Tryz.prog 65 #[.string s] W fun e w' => Below W.heap.size W w' ∧ ∃ v, e = .returned (.tuple #[v, .bool true]) ∧ w'.ownsRow W.heap.size 9 1 v l.length (l.map Value.string)) := fun W => by have := rwords_any s W hs; rw [h] at this; exact this
  have HC : Hid (∀ W v, SV W v l → Calls Tryz.prog 66 #[v] W fun e w' => Below W.heap.size W w' ∧ ∃ v, e = .returned (.tuple #[v, .bool true]) ∧ CIn W.heap.size 93 w' v cs) := fun W v hv => by have := rclauses_any W v l hv h4 h3; rw [hp] at this; exact this
  have HWR : Hid (∀ lo W pb cv v1 v2, Box W pb #[cv, v1, v2] 45 → CIn lo 93 W cv cs → Calls Tryz.prog 67 #[.pointer (some ⟨pb, 0, none⟩)] W fun e w' => e = .returned (.int .i64 0) ∧ Below W.heap.size W w') := fun _ W pb cv v1 v2 h1 h2 => by rw [← hx]; exact rwrong_any W pb cv v1 v2 cs h1 h2 hrd.ok hlen
  have HNO : Hid ((¬ ∃ f, Sol cs f) → RefOut s (.error 7)) := fun hn => .strata (by omega) h hp hx hn
  have HYES : Hid (∀ ps sv, Rising ps → (∀ n, n ∈ ps ↔ ∃ x ∈ cs.flatMap litsOf, x.pred = n) → sv.length = ps.length → Least cs (fval ps sv) → RefOut s (.ok (cs, ps, sv))) := fun ps sv h1 h2 h3 h4 => .ok (by omega) h hp hx h1 h2 h3 h4
  obtain ⟨i0, hi, hz0, hzs, hzb⟩ := info_parts Tryz.infoString
  clear h hp h4 hrd hx
  go_enter Tryz.func33, Tryz.ntmps33
  go_wp2_with (first | (go_at_call 65; refine (HW.out _).mono ?_; rintro e w1 ⟨hb1, v1, rfl, ho1⟩; clear HW) | (go_at_call 66; refine (HC.out _ _ (SV.of ho1)).mono ?_; rintro e w2 ⟨hb2, v2, rfl, hcin⟩; obtain ⟨aoc, capc, rfl⟩ := hcin.shape; have hB2 := bnext hb1 hb2 (Nat.le_refl _); clear HC) | (go_at_call 67; refine (HWR.out _ _ _ _ _ _ (Box.new _ _ _) (by exact hcin.below (by repeat' (first | (with_reducible exact Below.refl _ _) | (with_reducible assumption) | (with_reducible refine bdrewN ?_ _) | (with_reducible refine Below.alloc ?_ ?_ _) | (with_reducible refine Below.drew ?_) | (with_reducible refine Below.setCell ?_ ?_ _) | go_size)))).mono ?_; rintro e w3 ⟨rfl, hb3⟩; have hbx3 := (Box.new w2 #[.slice aoc cs.length capc, .slice none 0 0, .slice none 0 0] 45).below hb3; have hcin3 := (hcin.below ((Below.refl _ _).alloc (Nat.le_refl _) (.cells #[.slice aoc cs.length capc, .slice none 0 0, .slice none 0 0] 45))).below hb3; have hB3 : Below w.heap.size w w3 := bnext (hB2.alloc hB2.size _) hb3 (Nat.le_refl _); clear HWR))
  go_loopw [9, 10] (fun v8 v9 wr => ∃ k : Nat, k ≤ cs.length ∧ v9 = .int .i64 k ∧ Below w3.heap.size w3 wr ∧ wr.ownsRow w3.heap.size 9 1 v8 ((cs.take k).flatMap litsOf).length (((cs.take k).flatMap litsOf).map fun x => Value.string x.pred)) (fun _ i _ => cs.length - (intOf i).toNat)
  case atStart => exact ⟨0, Nat.zero_le _, rfl, Below.refl _ _, World.ownsRow_nil _ _ _ _⟩
  case round =>
    obtain ⟨k, hk, rfl, hbk, hown⟩ := hrel
    by_cases hlt : k < cs.length
    · obtain ⟨g, ao2, cap2, ao3, cap3, rfl, hat0⟩ := hcin3.at k hlt
      have hat := hat0.below hbk
      obtain ⟨hk1, hk2, _, _⟩ := HRD.out.ok _ (List.getElem_mem hlt)
      have hft := flat_take cs k hlt
      have HFT : Hid ((cs.take (k + 1)).flatMap litsOf = (cs.take k).flatMap litsOf ++ litsOf cs[k]) := hft
      have hfl : ((cs.take k).flatMap litsOf).length + (litsOf cs[k]).length ≤ 1000 := by
        have h1 : ((cs.take (k + 1)).flatMap litsOf).length ≤ (cs.flatMap litsOf).length := by
          conv => rhs; rw [← List.take_append_drop (k + 1) cs, List.flatMap_append, List.length_append]
          omega
        have h2 := HRD.out.lits
        rw [hft, List.length_append] at h1
        omega
      clear hft hat0
      generalize cs[k] = c at *
      obtain ⟨aok, capk, rfl⟩ := own_view hown
      have hll : (litsOf c).length ≤ 1000 := by omega
      generalize (cs.take k).flatMap litsOf = pre at *
      generalize hls : litsOf c = ls at *
      have HLS : Hid (litsOf c = ls) := hls
      clear hls
      obtain ⟨w4, rfl⟩ : ∃ w4, w4 = wr := ⟨wr, rfl⟩
      go_wp2_with (first | (go_at_call 68; refine (rall_any _ g (k * 4) c _ _ _ _ hat (by omega)).mono ?_; rintro e w5 ⟨lv, rfl, hlin, hb5⟩; rw [HLS.out] at hlin; obtain ⟨aol, capl, rfl⟩ := hlin.shape))
      obtain ⟨xs, hol, hcl⟩ := hlin
      have hB5 := bnext hbk hb5 (Nat.le_refl _)
      have hown5 := owns_below hown hb5
      go_loopw [9, 12] (fun v8 v11 wj => ∃ j : Nat, j ≤ ls.length ∧ v11 = .int .i64 j ∧ Below w3.heap.size w3 wj ∧ wj.ownsRow 0 90 3 (.slice aol ls.length capl) ls.length xs ∧ wj.ownsRow w3.heap.size 9 1 v8 (pre ++ ls.take j).length ((pre ++ ls.take j).map fun x => Value.string x.pred)) (fun _ i _ => ls.length - (intOf i).toNat)
      case atStart => exact ⟨0, Nat.zero_le _, rfl, hB5, hol, by simpa using hown5⟩
      case round =>
        obtain ⟨j, hj, rfl, hbj, holj, hownj⟩ := hrel
        have hszj := hbj.size
        obtain ⟨aoj, capj, rfl⟩ := own_view hownj
        by_cases hjl : j < ls.length
        · obtain ⟨va, a1, a2, a3, a4⟩ := hcl.at j ls[j] (by simp [hjl])
          obtain ⟨gl, capl', hvl, _, hgl, hcx⟩ := own_cells holj (by omega)
          simp at hvl
          obtain ⟨rfl, rfl⟩ := hvl
          have he1 := hcx _ _ a2
          have hts := List.take_succ_eq_append_getElem hjl
          have htl : (ls.take j).length = j := by rw [List.length_take]; omega
          have hpl : (pre ++ ls.take j).length ≤ 1000 := by rw [List.length_append, htl]; omega
          clear a1 a2 a3 a4 hcx
          generalize ls[j] = a at *
          have HT : Hid (ls.take (j + 1) = ls.take j ++ [a]) := hts
          clear hts htl
          have HQ : Hid (pre ++ ls.take (j + 1) = (pre ++ ls.take j) ++ [a]) := by rw [Hid, HT.out, List.append_assoc]
          clear HT
          generalize (pre ++ ls.take j) = q at *
          go_wp2_with (first | (at_builtin; refine wpList_push _ _ [.string a.pred] _ rfl (.tmp 54) (.tmp 60) 30 rfl w3.heap.size 9 i0 _ 1 16 Tryz.underlying30 hi hz0 hzs hzb rfl (by decide) _ _ _ rfl hownj (Below.refl _ _) _ _ rfl (by simp) rfl (by simp [Value.oneCell']) (by omega) (by omega) hszj ?_; intro v' w7 ho7 hB7 hc7 hf7 hk7 hz7; clear hc7 hf7))
          go_roundw
          case rel => exact ⟨j + 1, by omega, by go_num, hbj.trans hB7, own_push hownj (by decide) holj hk7, by rw [HQ.out]; simpa using ho7⟩
          case measure => simp [intOf]; omega
        · have he : ls.take j = ls := List.take_of_length_le (by omega)
          have HFT2 : Hid ((cs.take (k + 1)).flatMap litsOf = pre ++ ls.take j) := by rw [Hid, HFT.out, he]
          clear he HFT
          generalize pre ++ ls.take j = q at *
          go_wp2
          go_roundw
          case rel => exact ⟨k + 1, by omega, by go_num, hbj, by rw [HFT2.out]; exact hownj⟩
          case measure => simp [intOf]; omega
    · have he : cs.take k = cs := List.take_of_length_le (by omega)
      rw [he] at hown
      have hlits := HRD.out.lits
      clear he
      generalize hall : cs.flatMap litsOf = all at *
      have HALL : Hid (cs.flatMap litsOf = all) := hall
      clear hall
      obtain ⟨aoq, capq, rfl⟩ := own_view hown
      have hsq : SIn w3.heap.size wr (.slice aoq all.length capq) (all.map PLit.pred) := by simpa [SIn, Function.comp_def] using hown
      have hbxq := hbx3.below hbk
      obtain ⟨hcq, hfq⟩ := hbxq.rules
      have hltq := hbxq.lt
      have hcinq := hcin3.below hbk
      have HOK7 : Hid (∀ c ∈ cs, ClOK c ∧ c.body.length ≤ 999) := fun c hc => ⟨(HRD.out.ok c hc).1, (HRD.out.ok c hc).2.1⟩
      by_cases hS : ∃ f, Sol cs f
      · have HS : Hid (∃ f, Sol cs f) := hS
        clear hS
        go_wp2_with (first | (go_at_call 69; refine (rsorted_any _ _ (all.map PLit.pred) hsq (by simpa using hlits)).mono ?_; rintro e w6 ⟨v6, ps, rfl, hs6, hrise, hmem6, hlen6, hb6⟩; obtain ⟨ao6, cap6, rfl⟩ := hs6.shape; have hbx6 := hbxq.below hb6; obtain ⟨hc6, hf6⟩ := hbx6.rules; have hlt6 := hbx6.lt; have hcin6 := hcinq.below hb6; have hB6 : Below w.heap.size w w6 := bnext hB3 (bnext hbk hb6 (Nat.le_refl _)) (Nat.le_refl _); have hpl6 : ps.length ≤ 1000 := (by simp at hlen6; omega); have hbx7 : Box (w6.setCell ⟨w2.heap.size, 1, none⟩ (.slice ao6 ps.length cap6)) w2.heap.size #[.slice aoc cs.length capc, .slice ao6 ps.length cap6, .slice none 0 0] 45 := (by simpa using hbx6.set 1 (.slice ao6 ps.length cap6)); have hbt7 := (But.refl w2.heap.size w6).setCell 1 (.slice ao6 ps.length cap6); have hcin7 := hcin6.but hbt7 hbx6 (by decide) (by decide) (by decide); have hs7 := hs6.but hbt7 hbx6 (by decide); have hB7 : Below w.heap.size w (w6.setCell ⟨w2.heap.size, 1, none⟩ (.slice ao6 ps.length cap6)) := hB6.setCell hB2.size _; have HIN7 : Hid (∀ c ∈ cs, ∀ l ∈ litsOf c, l.pred ∈ ps) := (fun c hc l hl => (hmem6 _).2 (List.mem_map.2 ⟨l, (by rw [← HALL.out]; exact List.mem_flatMap.2 ⟨c, hc, hl⟩), rfl⟩)); have HMEM7 : Hid (∀ n, n ∈ ps ↔ ∃ x ∈ all, x.pred = n) := (fun n => (hmem6 n).trans List.mem_map); clear hmem6 hlen6) | (go_at_call 70; refine (rlayers_yes _ w2.heap.size _ _ _ cs ps (by exact hbx7) (by exact hcin7) (by exact hs7) HOK7.out hlen hpl6 HIN7.out HS).mono ?_; rintro e w8 ⟨sv, rfl, hbt8, hlay, hleast⟩))
        go_ret2
        exact ⟨_, HYES.out ps sv hrise HMEM7.out hlay.len hleast, hB7.trans (hbt8.below hB2.size hB7.size), w2.heap.size, _, _, _, rfl, hlay.box, (hcin7.but hbt8 hbx7 (by decide) (by decide) (by decide)).low hb1.size, (hs7.but hbt8 hbx7 (by decide)).low (Nat.le_trans hB3.size hbk.size), by rw [hlay.len]; exact own_low hlay.row hB7.size, hB2.size⟩
      · have HS : Hid (¬ ∃ f, Sol cs f) := hS
        clear hS
        go_wp2_with (first | (go_at_call 69; refine (rsorted_any _ _ (all.map PLit.pred) hsq (by simpa using hlits)).mono ?_; rintro e w6 ⟨v6, ps, rfl, hs6, hrise, hmem6, hlen6, hb6⟩; obtain ⟨ao6, cap6, rfl⟩ := hs6.shape; have hbx6 := hbxq.below hb6; obtain ⟨hc6, hf6⟩ := hbx6.rules; have hlt6 := hbx6.lt; have hcin6 := hcinq.below hb6; have hB6 : Below w.heap.size w w6 := bnext hB3 (bnext hbk hb6 (Nat.le_refl _)) (Nat.le_refl _); have hpl6 : ps.length ≤ 1000 := (by simp at hlen6; omega); have hbx7 : Box (w6.setCell ⟨w2.heap.size, 1, none⟩ (.slice ao6 ps.length cap6)) w2.heap.size #[.slice aoc cs.length capc, .slice ao6 ps.length cap6, .slice none 0 0] 45 := (by simpa using hbx6.set 1 (.slice ao6 ps.length cap6)); have hbt7 := (But.refl w2.heap.size w6).setCell 1 (.slice ao6 ps.length cap6); have hcin7 := hcin6.but hbt7 hbx6 (by decide) (by decide) (by decide); have hs7 := hs6.but hbt7 hbx6 (by decide); have hB7 : Below w.heap.size w (w6.setCell ⟨w2.heap.size, 1, none⟩ (.slice ao6 ps.length cap6)) := hB6.setCell hB2.size _; have HIN7 : Hid (∀ c ∈ cs, ∀ l ∈ litsOf c, l.pred ∈ ps) := (fun c hc l hl => (hmem6 _).2 (List.mem_map.2 ⟨l, (by rw [← HALL.out]; exact List.mem_flatMap.2 ⟨c, hc, hl⟩), rfl⟩)); have HMEM7 : Hid (∀ n, n ∈ ps ↔ ∃ x ∈ all, x.pred = n) := (fun n => (hmem6 n).trans List.mem_map); clear hmem6 hlen6) | (go_at_call 70; refine (rlayers_no _ w2.heap.size _ _ _ cs ps (by exact hbx7) (by exact hcin7) (by exact hs7) HOK7.out hlen hpl6 HIN7.out HS).mono ?_; rintro e w8 ⟨rfl, hbt8⟩))
        go_ret2
        exact ⟨_, HNO.out HS.out, hB7.trans (hbt8.below hB2.size hB7.size), rfl⟩

theorem read_any (s : ByteArray) (w : World) (hs2 : s.size ≤ 9223372036854775807) :
    Calls Tryz.prog 33 #[.string s] w fun e w' => ∃ r, RefOut s r ∧ ReadPost r w e w' := by
  by_cases hs : 500 < s.size
  · exact (read_1 s w hs hs2).mono fun e w' h => ⟨_, .long hs, h⟩
  · cases hW : refW s.size s with
    | none => exact (read_2 s w (by omega) hW).mono fun e w' h => ⟨_, .lex hs hW, h⟩
    | some l =>
      cases hP : refProg l with
      | none => exact (read_3 s w (by omega) l hW hP).mono fun e w' h => ⟨_, .parse hs hW hP, h⟩
      | some cs =>
        by_cases hx : wrongB cs = 0
        · exact read_5 s w (by omega) l cs hW hP hx
        · exact (read_4 s w (by omega) l cs hW hP hx).mono fun e w' h => ⟨_, .wrong hs hW hP hx, h⟩
end Go.Proofs.YteampbddflhngaaGreat
