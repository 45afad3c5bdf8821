/-
  areValues, and what it calls of package slices.
-/
import Derived.Test.YteiaofgkmgllcaaRdA
set_option linter.unusedVariables false
set_option linter.unusedSimpArgs false
namespace Go.Proofs.Yteiaofgkmgllcaa
open Go.RowKit
set_option maxHeartbeats 400000 in
theorem notWithin_any (v : Int) (w : World) :
    Calls Try.prog 75 #[.int .i64 v] w fun e w' => e = .returned (.bool (!(Ln.within v 400000000))) ∧ w = w' := by
  rcases hw : Ln.within v 400000000 with _ | _
  all_goals
    go_enter Try.func75, Try.ntmps75
    go_wp2_with (go_at_call 54; refine (within_any _ _ (by omega) (by omega) _).mono ?_; rintro e w' ⟨rfl, rfl⟩)
    go_ret
    exact ⟨rfl, rfl⟩

def idxV : Option Nat → Int | some i => i | none => -1

set_option maxRecDepth 100000 in
set_option maxHeartbeats 1000000 in
theorem indexFunc_any (A2 : Option Addr) (c2 : Nat) (y : List Int) (w : World) (hY : Rd w w.heap.size 1 A2 y.length (ints y)) (hyl : y.length ≤ 1000000) :
    Calls Try.prog 85 #[.slice A2 y.length c2, .func (.func 75) #[] #[]] w fun e w' => e = .returned (.int .i64 (idxV (idxF y))) ∧ w = w' := by
  go_enter Try.func85, Try.ntmps85
  go_wp2_with fail
  go_loop [8] (fun i => ∃ k : Nat, k ≤ y.length ∧ i = .int .i64 k ∧ (∀ j, j < k → Ln.within (Ln.gt y j) 400000000 = true))
    (fun i => y.length - (intOf i).toNat)
  case atStart => exact ⟨0, Nat.zero_le _, rfl, (fun j hj => absurd hj (by omega))⟩
  case round =>
    obtain ⟨k, hk, rfl, ha⟩ := hrel
    have HA := Lib.hid ha
    clear ha
    by_cases hkl : k < y.length
    · obtain ⟨b, off, rfl, hb, e0⟩ := hY.one hkl
      rw [← Ln.gt_eq hkl] at e0
      obtain ⟨v, hv⟩ : ∃ v, Ln.gt y k = v := ⟨_, rfl⟩
      rw [hv] at e0
      have HV := Lib.hid hv
      clear hv
      rcases hw : Ln.within v 400000000 with _ | _
      · have HW := Lib.hid hw
        clear hw
        go_wp2_with fail
        refine (notWithin_any _ _).mono ?_
        rw [HW.out]
        rintro e wx ⟨rfl, rfl⟩
        go_wp2_with fail
        go_ret
        rw [idxF_some hkl HA.out (by rw [HV.out]; exact HW.out)]
        exact ⟨rfl, rfl⟩
      · have HW := Lib.hid hw
        clear hw
        go_wp2_with fail
        refine (notWithin_any _ _).mono ?_
        rw [HW.out]
        rintro e wx ⟨rfl, rfl⟩
        go_wp2_with fail
        go_round
        case rel =>
          refine ⟨k + 1, by omega, by go_num, fun j hj => ?_⟩
          rcases Nat.lt_or_ge j k with h | h
          · exact HA.out j h
          · obtain rfl : j = k := by omega
            rw [HV.out]
            exact HW.out
        case measure => simp [intOf]; omega
    · go_wp2_with fail
      go_ret
      obtain rfl : k = y.length := by omega
      rw [idxF_none HA.out]
      exact ⟨rfl, rfl⟩

set_option maxHeartbeats 400000 in
theorem containsFunc_any (A2 : Option Addr) (c2 : Nat) (y : List Int) (w : World) (hY : Rd w w.heap.size 1 A2 y.length (ints y)) (hyl : y.length ≤ 1000000) :
    Calls Try.prog 74 #[.slice A2 y.length c2, .func (.func 75) #[] #[]] w fun e w' => e = .returned (.bool (idxF y).isSome) ∧ w = w' := by
  rcases hi : idxF y with _ | i
  all_goals
    have HI := Lib.hid hi
    clear hi
    go_enter Try.func74, Try.ntmps74
    go_wp2_with fail
    refine (indexFunc_any _ _ _ _ hY hyl).mono ?_
    rw [HI.out]
    unfold idxV
    rintro e wx ⟨rfl, rfl⟩
    go_wp2_with fail
    go_ret
    exact ⟨rfl, rfl⟩

end Go.Proofs.Yteiaofgkmgllcaa
