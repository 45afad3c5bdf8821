/-
  areValues, and what it calls of package slices.
-/
import Derived.Test.YtdndhfggdjphjaaRefA
set_option linter.unusedVariables false
set_option linter.unusedSimpArgs false
namespace Go.Proofs.Ytdndhfggdjphjaa
open Go.RowKit

theorem Rd.at0 {w : World} {B : Nat} {A : Option Addr} {l : List Int} (h : Rd w B 1 A l.length (ints l)) (hk : 0 < l.length) :
    ∃ b off, A = some ⟨b, off, none⟩ ∧ b < B ∧ w.cell? ⟨b, off, none⟩ = some (.int .i64 (Ln.gt l 0)) := by
  rw [Ln.gt_eq hk]
  obtain ⟨b, off, e, hb, hc⟩ := h.one hk
  exact ⟨b, off, e, hb, by simpa using hc⟩

def idxF (y : List Int) : Option Nat := (List.range y.length).find? fun i => !(Ln.within (Ln.gt y i) 400000000)
theorem idxF_some {y : List Int} {k : Nat} (hk : k < y.length) (h : ∀ j, j < k → Ln.within (Ln.gt y j) 400000000 = true) (hp : Ln.within (Ln.gt y k) 400000000 = false) : idxF y = some k := by
  rw [idxF, List.find?_range_eq_some]
  exact ⟨by simp [hp], by simpa using hk, fun j hj => by simp [h j hj]⟩
theorem idxF_none {y : List Int} (h : ∀ j, j < y.length → Ln.within (Ln.gt y j) 400000000 = true) : idxF y = none := by
  rw [idxF, List.find?_range_eq_none]
  exact fun j hj => by simp [h j hj]
theorem all_of {y : List Int} (h : ∀ j, j < y.length → Ln.within (Ln.gt y j) 400000000 = true) : y.all (fun v => Ln.within v 400000000) = true := by
  rw [List.all_eq_true]
  intro v hv
  obtain ⟨j, hj, rfl⟩ := List.getElem_of_mem hv
  rw [← Ln.gt_eq hj]
  exact h j hj
theorem not_all_of {y : List Int} {k : Nat} (hk : k < y.length) (hp : Ln.within (Ln.gt y k) 400000000 = false) : y.all (fun v => Ln.within v 400000000) = false := by
  rw [← Bool.not_eq_true, List.all_eq_true]
  intro h
  rw [h (Ln.gt y k) (by rw [Ln.gt_eq hk]; exact List.getElem_mem hk)] at hp
  cases hp
theorem within_eq (v : Int) : (decide (-400000000 ≤ v) && decide (v ≤ 400000000)) = Ln.within v 400000000 := rfl

theorem Rd.gt {w : World} {B : Nat} {A : Option Addr} {l : List Int} (h : Rd w B 1 A l.length (ints l)) {k : Nat} (hk : k < l.length) :
    ∃ b off, A = some ⟨b, off, none⟩ ∧ b < B ∧ w.cell? ⟨b, off + k, none⟩ = some (.int .i64 (Ln.gt l k)) := by
  rw [Ln.gt_eq hk]
  exact h.one hk

set_option maxHeartbeats 400000 in
theorem notWithin_any (v : Int) (w : World) :
    Calls Try.prog 91 #[.int .i64 v] w fun e w' => e = .returned (.bool (!(Ln.within v 400000000))) ∧ w = w' := by
  rcases hw : Ln.within v 400000000 with _ | _
  all_goals
    go_enter Try.func91, Try.ntmps91
    go_wp2_with (go_at_call 64; refine (within_any _ _ (by omega) (by omega) _).mono ?_; rintro e w' ⟨rfl, rfl⟩)
    go_ret
    exact ⟨rfl, rfl⟩

def idxV : Option Nat → Int | some i => i | none => -1

set_option maxRecDepth 100000 in
set_option maxHeartbeats 1000000 in
theorem indexFunc_any (A2 : Option Addr) (c2 : Nat) (y : List Int) (w : World) (hY : Rd w w.heap.size 1 A2 y.length (ints y)) (hyl : y.length ≤ 1000000) :
    Calls Try.prog 102 #[.slice A2 y.length c2, .func (.func 91) #[] #[]] w fun e w' => e = .returned (.int .i64 (idxV (idxF y))) ∧ w = w' := by
  go_enter Try.func102, Try.ntmps102
  go_wp2_with fail
  go_loop [8] (fun i => ∃ k : Nat, k ≤ y.length ∧ i = .int .i64 k ∧ (∀ j, j < k → Ln.within (Ln.gt y j) 400000000 = true))
    (fun i => y.length - (intOf i).toNat)
  case atStart => exact ⟨0, Nat.zero_le _, rfl, (fun j hj => absurd hj (by omega))⟩
  case round =>
    obtain ⟨k, hk, rfl, ha⟩ := hrel
    have HA := Lib.hid ha
    clear ha
    by_cases hkl : k < y.length
    · obtain ⟨b, off, rfl, hb, e0⟩ := hY.one hkl
      rw [← Ln.gt_eq hkl] at e0
      obtain ⟨v, hv⟩ : ∃ v, Ln.gt y k = v := ⟨_, rfl⟩
      rw [hv] at e0
      have HV := Lib.hid hv
      clear hv
      rcases hw : Ln.within v 400000000 with _ | _
      · have HW := Lib.hid hw
        clear hw
        go_wp2_with fail
        refine (notWithin_any _ _).mono ?_
        rw [HW.out]
        rintro e wx ⟨rfl, rfl⟩
        go_wp2_with fail
        go_ret
        rw [idxF_some hkl HA.out (by rw [HV.out]; exact HW.out)]
        exact ⟨rfl, rfl⟩
      · have HW := Lib.hid hw
        clear hw
        go_wp2_with fail
        refine (notWithin_any _ _).mono ?_
        rw [HW.out]
        rintro e wx ⟨rfl, rfl⟩
        go_wp2_with fail
        go_round
        case rel =>
          refine ⟨k + 1, by omega, by go_num, fun j hj => ?_⟩
          rcases Nat.lt_or_ge j k with h | h
          · exact HA.out j h
          · obtain rfl : j = k := by omega
            rw [HV.out]
            exact HW.out
        case measure => simp [intOf]; omega
    · go_wp2_with fail
      go_ret
      obtain rfl : k = y.length := by omega
      rw [idxF_none HA.out]
      exact ⟨rfl, rfl⟩

set_option maxHeartbeats 400000 in
theorem containsFunc_any (A2 : Option Addr) (c2 : Nat) (y : List Int) (w : World) (hY : Rd w w.heap.size 1 A2 y.length (ints y)) (hyl : y.length ≤ 1000000) :
    Calls Try.prog 90 #[.slice A2 y.length c2, .func (.func 91) #[] #[]] w fun e w' => e = .returned (.bool (idxF y).isSome) ∧ w = w' := by
  rcases hi : idxF y with _ | i
  all_goals
    have HI := Lib.hid hi
    clear hi
    go_enter Try.func90, Try.ntmps90
    go_wp2_with fail
    refine (indexFunc_any _ _ _ _ hY hyl).mono ?_
    rw [HI.out]
    unfold idxV
    rintro e wx ⟨rfl, rfl⟩
    go_wp2_with fail
    go_ret
    exact ⟨rfl, rfl⟩

end Go.Proofs.Ytdndhfggdjphjaa
