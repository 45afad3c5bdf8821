/-
  The reference's sector, Sector, opened.
-/
import Derived.Test.YtncdeogpmodoaabGreatDoorNar
set_option linter.unusedVariables false
set_option linter.unusedSimpArgs false
namespace Go.Proofs.YtncdeogpmodoaabGreatDoor
open Go.RowKit
set_option maxRecDepth 100000

namespace Cs
theorem mid_alt (x : Int) : norm (x + 90) - 90 = if 269 < norm x then norm x - 360 else norm x := by
  unfold norm
  split <;> omega
end Cs

namespace Cs
theorem checkE_one_vars {vs : List (Int × Int)} {co : Co} (h : varsE vs ≠ 0) : checkE vs [co] = varsE vs := checkE_vars h
theorem checkE_one_course {vs : List (Int × Int)} {co : Co} (h : varsE vs = 0) (hc : courseOk co = false) : checkE vs [co] = 1 := checkE_course (cs := [co]) h (k := 0) (by simp) hc
theorem checkE_one_year {vs : List (Int × Int)} {co : Co} (h : varsE vs = 0) (hc : courseOk co = true) (hy : (dec vs co.y).2 = false) : checkE vs [co] = 20 :=
  checkE_year (cs := [co]) h (fun j hj => by obtain rfl : j = 0 := by simpa using hj
                                             exact hc) (k := 0) (by simp) hy
theorem checkE_one_ok {vs : List (Int × Int)} {co : Co} (h : varsE vs = 0) (hc : courseOk co = true) (hy : (dec vs co.y).2 = true) : checkE vs [co] = 0 :=
  checkE_ok (cs := [co]) h (fun j hj => by obtain rfl : j = 0 := by simpa using hj
                                           exact hc) (fun j hj => by obtain rfl : j = 0 := by simpa using hj
                                                                     exact hy)
end Cs

end Go.Proofs.YtncdeogpmodoaabGreatDoor
