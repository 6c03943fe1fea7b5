import Derived.Test.YteampbddflhngabGreatB41

/- Walks: runs.run.stratum. -/
namespace Go.Proofs.YteampbddflhngabGreat
open Go.RowKit
variable {lo : Nat}

def StratPost (lo : Nat) (w : World) (own : Nat → Role) (rb : Nat) (R R' : PRun) (wd mr mx : Nat) (Q : RParts) (b : Bool) (e : Ending) (w' : World) : Prop := e = .returned (.bool b) ∧ ∃ own' fv' fvs', RunO lo w' own' rb R' wd mr mx ⟨Q.rv, Q.tbs, fv', fvs'⟩ ∧ R'.rows.length = R.rows.length ∧ Mod lo okRound w own w' own'

set_option maxRecDepth 100000 in
set_option maxHeartbeats 4000000 in
theorem stratum_any (w : World) (own : Nat → Role) (rb s : Nat) (R R' : PRun) (rv : Value) (rs : List PRule) (ps : List (Value × Value × Value)) (wd mr mx : Nat) (Q : RParts) (fuel : Nat) (b : Bool) (h : RunO lo w own rb R wd mr mx Q) (hr : RulesIn lo w rv rs ps) (hlo : lo ≤ w.heap.size) (hok : RulesOK R.rows.length rs) (hv : stratumR fuel wd mr mx rs R s = some (R', b)) :
    Calls Tryz.prog 77 #[.pointer (some ⟨rb, 0, none⟩), rv, .int .i64 s] w fun e w' => StratPost lo w own rb R R' wd mr mx Q b e w' := by
  unfold stratumR at hv
  cases hws : worksR fuel wd R s rs with
  | none => rw [hws] at hv; cases hv
  | some ws =>
    rw [hws] at hv
    have HWK : Hid (Calls Tryz.prog 105 #[.pointer (some ⟨rb, 0, none⟩), rv, .int .i64 s] w fun e w' => WorksPost lo w own rb R ws wd mr mx Q e w') := works_any w own rb s R rv rs ps ws wd mr mx Q fuel h hr hlo hok hws
    have HLO : Hid (lo ≤ w.heap.size) := hlo
    have hsm := h.small
    obtain ⟨aor, capr, hrv⟩ := own_view hr.own
    subst hrv
    have HV : Hid (if decide (0 < ws.length) = true then roundsN wd mr mx fuel true ws R = some (R', b) else (R = R' ∧ true = b)) := by
      by_cases hz : ws.length > 0
      · rw [Hid, if_pos (by simpa using hz)]
        simpa [hz] using hv
      · rw [Hid, if_neg (by simpa using hz)]
        simpa [hz] using hv
    clear h hr hlo hok hws hv
    go_enter Tryz.func77, Tryz.ntmps77
    go_upto_region 4 with (first | (go_at_call 105; refine HWK.out.mono ?_; rintro e w2 ⟨wv, own2, Ps, rfl, hWO, hNL, hRO, hMO⟩; obtain ⟨aow, capw, hwv⟩ := own_view hWO.arr; subst hwv; have HWO : Hid (WorksO lo w2 own2 wd (.slice aow ws.length capw) ws Ps) := hWO; have HNL : Hid (NotsL Q.tbs R.rows.length ws Ps) := hNL; have HRO : Hid (RunO lo w2 own2 rb R wd mr mx Q) := hRO; have HMO : Hid (Mod lo okRound w own w2 own2) := hMO; clear hWO hNL hRO hMO))
    go_loopg [8, 9] fuel (fun k v8 v9 wr => ∃ (first more : Bool) (Rk : PRun) (ownk : Nat → Role) (fvv : Value) (fvk : List Value) (wk : List PWork) (Pk : List WParts), v8 = .bool first ∧ v9 = .bool more ∧ Hid (RunO lo wr ownk rb Rk wd mr mx ⟨Q.rv, Q.tbs, fvv, fvk⟩) ∧ Hid (WorksO lo wr ownk wd (.slice aow ws.length capw) wk Pk) ∧ Hid (NotsL Q.tbs R.rows.length wk Pk) ∧ Hid (Mod lo okRound w own wr ownk) ∧ Hid (Rk.rows.length = R.rows.length) ∧ Hid (if more = true then roundsN wd mr mx k first wk Rk = some (R', b) else (Rk = R' ∧ true = b)))
    case atStart =>
      exact ⟨true, decide (0 < ws.length), R, own2, Q.fv, Q.fvs, ws, Ps, rfl, rfl, HRO, HWO, HNL, HMO, rfl, HV⟩
    case round =>
      clear HWO HNL HRO HMO HV
      obtain ⟨first, more, Rk, ownk, fvv, fvk, wk, Pk, rfl, rfl, HRO, HWO, HNL, HMO, HRL, HV⟩ := hrel
      cases more with
      | false =>
        have hv : Rk = R' ∧ true = b := by simpa using HV.out
        have HE : Hid (Rk = R' ∧ true = b) := hv
        clear hv
        go_wp2
        go_ret
        exact ⟨by rw [← HE.out.2]; rfl, ownk, fvv, fvk, by rw [← HE.out.1]; exact HRO.out, by rw [← HE.out.1]; exact HRL.out, HMO.out⟩
      | true =>
        have hv : roundsN wd mr mx gk first wk Rk = some (R', b) := by simpa using HV.out
        clear HV
        cases gk with
        | zero => simp [roundsN] at hv
        | succ m =>
          unfold roundsN at hv
          obtain ⟨hl, hf, h0, h1, h2, h3, h4, h5, h6, h7⟩ := HRO.out.at
          have hlok : lo ≤ wr.heap.size := Nat.le_trans HLO.out HMO.out.size
          clear h0 h3 h4 h5 h7
          by_cases hge : Rk.rounds ≥ mx
          · rw [if_pos hge] at hv
            have HE : Hid (Rk = R' ∧ false = b) := show Rk = R' ∧ false = b by simpa using hv
            have hgi : (mx : Int) ≤ (Rk.rounds : Int) := by omega
            clear hv
            go_upto_region 5 with fail
            go_quiet (fail)
            have hD : Below wr.heap.size wr (wr.drewN nq) := bdrewN (Below.refl _ _) nq
            have HD : Hid (Below wr.heap.size wr (wr.drewN nq)) := hD
            clear hD
            generalize wr.drewN nq = w3 at *
            go_wp2
            go_ret
            exact ⟨by rw [← HE.out.2]; rfl, ownk, fvv, fvk, by rw [← HE.out.1]; exact HRO.out.below HD.out, by rw [← HE.out.1]; exact HRL.out, HMO.out.trans (Mod.of ownk HD.out)⟩
          · rw [if_neg hge] at hv
            have hgi : ¬ (mx : Int) ≤ (Rk.rounds : Int) := by omega
            cases hrr : roundR m wd mr first wk Rk with
            | none => rw [hrr] at hv; cases hv
            | some x =>
              obtain ⟨R3, ws3, b3⟩ := x
              rw [hrr] at hv
              have HRD : Hid (∀ W0, Below wr.heap.size wr W0 → Calls Tryz.prog 106 #[.pointer (some ⟨rb, 0, none⟩), .slice aow ws.length capw, .bool first] W0 fun e w' => RoundPost lo W0 ownk rb (.slice aow ws.length capw) Rk R3 ws3 wd mr mx ⟨Q.rv, Q.tbs, fvv, fvk⟩ b3 e w') := fun W0 hb => round_any W0 ownk rb _ Rk R3 wk ws3 Pk wd mr mx _ m first b3 (HRO.out.below hb) (HWO.out.below hb) (by rw [HRL.out]; exact HNL.out) (Nat.le_trans hlok hb.size) (by omega) hrr
              clear hrr
              have HNX : Hid ((b3 = false → R3 = R' ∧ false = b) ∧ (b3 = true → (if R3.count > Rk.count then roundsN wd mr mx m false ws3 R3 else some (R3, true)) = some (R', b))) := ⟨fun e => by subst e; simpa using hv, fun e => by subst e; exact hv⟩
              clear hv
              go_upto_region 5 with fail
              go_quiet (fail)
              have hD : Below wr.heap.size wr (wr.drewN nq) := bdrewN (Below.refl _ _) nq
              have x1 := (hD.cell (p := ⟨rb, 1, none⟩) hl).trans h1
              have HD : Hid (Below wr.heap.size wr (wr.drewN nq)) := hD
              have hl3 : rb < (wr.drewN nq).heap.size := Nat.lt_of_lt_of_le hl hD.size
              clear hD
              generalize wr.drewN nq = w3 at *
              clear h1 h2 h6 hf hl
              cases b3 with
              | false =>
                have HE : Hid (R3 = R' ∧ false = b) := HNX.out.1 rfl
                go_wp2_with (first | (go_at_call 106; refine (HRD.out _ HD.out).mono ?_; rintro e w4 ⟨rfl, own4, fv4, fvs4, Ps4, hr4, hw4, hn4, hl4, hm4⟩))
                go_ret
                exact ⟨by rw [← HE.out.2]; rfl, own4, fv4, fvs4, by rw [← HE.out.1]; exact hr4, by rw [← HE.out.1]; exact hl4.trans HRL.out, (HMO.out.trans (Mod.of ownk HD.out)).trans hm4⟩
              | true =>
                have HE : Hid (if decide (Rk.count < R3.count) = true then roundsN wd mr mx m false ws3 R3 = some (R', b) else (R3 = R' ∧ true = b)) := by
                  have q := HNX.out.2 rfl
                  by_cases hc : R3.count > Rk.count
                  · rw [Hid, if_pos (by simpa using hc)]
                    simpa [hc] using q
                  · rw [Hid, if_neg (by simpa using hc)]
                    simpa [hc] using q
                clear HNX
                go_wp2_with (first | (go_at_call 106; refine (HRD.out _ HD.out).mono ?_; rintro e w4 ⟨rfl, own4, fv4, fvs4, Ps4, hr4, hw4, hn4, hl4, hm4⟩; obtain ⟨hl5, _, _, y1, _⟩ := hr4.at; have HR4 : Hid (RunO lo w4 own4 rb R3 wd mr mx ⟨Q.rv, Q.tbs, fv4, fvs4⟩) := hr4; clear hr4))
                go_roundg m
                case measure => omega
                case rel => exact ⟨false, decide (Rk.count < R3.count), R3, own4, fv4, fvs4, ws3, Ps4, rfl, by simp, HR4, hw4, by rw [← HRL.out]; exact hn4, (HMO.out.trans (Mod.of ownk HD.out)).trans hm4, hl4.trans HRL.out, HE⟩
end Go.Proofs.YteampbddflhngabGreat
