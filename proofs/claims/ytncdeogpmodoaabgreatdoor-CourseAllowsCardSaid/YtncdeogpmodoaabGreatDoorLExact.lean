/-
  CourseExact: the law's walk.
-/
import Derived.Test.YtncdeogpmodoaabGreatDoorLaw
set_option linter.unusedVariables false
set_option linter.unusedSimpArgs false
namespace Go.Proofs.YtncdeogpmodoaabGreatDoor
open Go.RowKit
set_option maxRecDepth 100000

namespace Cs
theorem comF_err1 {vs : List (Int × Int)} {c : Co} {dx : Int} (h : eastE vs [c] dx ≠ 0) : comF vs [c] dx = ((0, 0, false), eastE vs [c] dx) := by
  rw [comF, if_neg (by simp), if_neg (by simp), if_pos h]
theorem comF_zero {vs : List (Int × Int)} {c : Co} {dx : Int} (h : eastE vs [c] dx = 0) : comF vs [c] dx = (comG vs dx (-100000, 100000) [c], 0) := by
  rw [comF, if_neg (by simp), if_neg (by simp), if_neg (by rw [h]; simp)]
theorem east_ok {vs : List (Int × Int)} {c : Co} {dx : Int} (h : eastE vs [c] dx = 0) : courseOk c = true ∧ dx ≠ 0 ∧ -100000 ≤ dx ∧ dx ≤ 100000 := by
  have hs : stepE vs c dx 0 = 0 := by rw [stepE, if_neg (by rw [h]; simp), if_neg (by decide)]
  obtain ⟨g1, g2, g3, g4, _⟩ := stepE_zero hs
  exact ⟨g1, g2, g3, g4⟩
theorem fits_of {vs : List (Int × Int)} {c : Co} {dx : Int} (h : eastE vs [c] dx = 0) {y : Int} (h0 : -100000 ≤ y) (h1 : y ≤ 100000) :
    fitsF vs c dx y = ((comG vs dx (-100000, 100000) [c]).2.2 && (decide ((comG vs dx (-100000, 100000) [c]).1 ≤ y) && decide (y ≤ (comG vs dx (-100000, 100000) [c]).2.1)), 0) := by
  obtain ⟨g1, g2, g3, g4⟩ := east_ok h
  have hi := comG_iff vs g2 g3 g4 [c] (by simpa using g1) (-100000) 100000 (by decide) (by decide) (by decide) h0 h1
  have hs : stepE vs c dx y = 0 := by rw [stepE, if_neg (by rw [h]; simp), if_neg (by omega)]
  have hm : misfitF vs c dx y = (misF vs c dx y, 0) := by rw [misfitF, if_neg (by rw [hs]; simp)]
  rw [fitsF, hm]
  simp only [decide_true, Bool.true_and, Prod.mk.injEq, and_true]
  rw [Bool.eq_iff_iff]
  simp only [decide_eq_true_eq, Bool.and_eq_true]
  rw [← hi]
  simp only [List.mem_singleton, forall_eq]
  constructor
  · intro e; exact ⟨⟨h0, h1⟩, e⟩
  · intro e; exact e.2
end Cs

end Go.Proofs.YtncdeogpmodoaabGreatDoor
