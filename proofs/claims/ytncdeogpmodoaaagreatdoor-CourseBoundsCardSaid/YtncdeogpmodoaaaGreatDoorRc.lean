/-
  Common in plain words: the reference's fold over all courses comes to the program's.
-/
import Derived.Test.YtncdeogpmodoaaaGreatDoorRna
set_option linter.unusedVariables false
set_option linter.unusedSimpArgs false
namespace Go.Proofs.YtncdeogpmodoaaaGreatDoor
open Go.RowKit
namespace Cs
/-- The reference's loop over the courses: the greatest low, the least high, whether all have any. -/
def refG (vs : List (Int × Int)) (dx : Int) : Int × Int × Bool → List Co → Int × Int × Bool
  | z, [] => z
  | (lo, hi, ok), c :: r => refG vs dx (max lo (intM vs c dx).1, min hi (intM vs c dx).2.1, ok && (intM vs c dx).2.2) r
theorem refG_mono (vs : List (Int × Int)) (dx : Int) (cs : List Co) (lo hi : Int) (ok : Bool) :
    lo ≤ (refG vs dx (lo, hi, ok) cs).1 ∧ (refG vs dx (lo, hi, ok) cs).2.1 ≤ hi ∧ ((refG vs dx (lo, hi, ok) cs).2.2 = true → ok = true) := by
  induction cs generalizing lo hi ok with
  | nil => simp [refG]
  | cons c r ih =>
    rw [refG]
    obtain ⟨h1, h2, h3⟩ := ih (max lo (intM vs c dx).1) (min hi (intM vs c dx).2.1) (ok && (intM vs c dx).2.2)
    refine ⟨by omega, by omega, fun h => ?_⟩
    have := h3 h
    simp only [Bool.and_eq_true] at this
    exact this.1
/-- What the reference answers at its loop's end. -/
def refC (z : Int × Int × Bool) : Int × Int × Bool := if z.2.2 && decide (z.1 ≤ z.2.1) then (z.1, z.2.1, true) else (0, 0, false)
theorem comG_refG (vs : List (Int × Int)) (dx : Int) (cs : List Co) (lo hi : Int) (h : lo ≤ hi) : comG vs dx (lo, hi) cs = refC (refG vs dx (lo, hi, true) cs) := by
  induction cs generalizing lo hi with
  | nil => simp [comG, refG, refC, h]
  | cons c r ih =>
    rw [comG, refG]
    have hm : intM vs c dx = if (intF vs c dx).2.2 then ((intF vs c dx).1, (intF vs c dx).2.1, true) else (0, 0, false) := rfl
    rcases hk : (intF vs c dx).2.2 with _ | _
    · rw [hk] at hm
      rw [hm]
      try dsimp only
      have := (refG_mono vs dx r (max lo 0) (min hi 0) (true && false)).2.2
      rcases hz : (refG vs dx (max lo 0, min hi 0, true && false) r).2.2 with _ | _
      · simp at hz
        simp [refC, hz]
      · exact absurd (this hz) (by simp)
    · rw [hk] at hm
      rw [hm]
      try dsimp only
      by_cases hle : max lo (intF vs c dx).1 ≤ min hi (intF vs c dx).2.1
      · rw [if_pos (by simp [hle])]
        exact ih _ _ hle
      · rw [if_neg (by simpa using hle)]
        obtain ⟨m1, m2, _⟩ := refG_mono vs dx r (max lo (intF vs c dx).1) (min hi (intF vs c dx).2.1) (true && true)
        rw [refC, if_neg]
        simp only [Bool.and_eq_true, decide_eq_true_eq]
        rintro ⟨_, h4⟩
        simp only [if_true] at *
        omega
end Cs
end Go.Proofs.YtncdeogpmodoaaaGreatDoor
