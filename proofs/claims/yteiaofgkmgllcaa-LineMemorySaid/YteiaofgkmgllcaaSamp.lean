/-
  The plain functions at the sample of the law's package.
-/
import Derived.Test.YteiaofgkmgllcaaMath
import Derived.Test.YteiaofgkmgllcaaNeed
set_option linter.unusedVariables false
set_option linter.unusedSimpArgs false
namespace Go.Proofs.Yteiaofgkmgllcaa.Ln

def smp : List Bd := [⟨0, 1, 5, 1, false⟩, ⟨1, 0, -2, 2, false⟩, ⟨1, 2, 3, 3, false⟩, ⟨2, 1, -1, 3, false⟩, ⟨0, 2, 9, 4, false⟩]
def smq : List Bd := smp ++ [⟨2, 0, -9, 5, false⟩]
theorem smp_di : diF 4 smp 0 2 = (8, true, 0) := by kernel_rfl
theorem smp_pa : paF 4 smp 0 2 = ([0, 2], 0) := by kernel_rfl
theorem smp_bt : btF 4 smp 0 2 = ((3, true), (8, true), 0) := by kernel_rfl
theorem smp_some : someF 4 smp = ([0, 5, 8, 0], 0) := by kernel_rfl
theorem smp_th : thF 4 smp 1 3 = ([0, 3, 6, 0], true, 0) := by kernel_rfl
theorem smp_nd : ndF 4 smp = ([4], 0) := by kernel_rfl
theorem smq_ci : ciF 4 smq = ([0, 2, 5], true, 0) := by kernel_rfl
theorem smq_rec : recR smq (zl (circF smq 4)) = [1, 3, 5] := by kernel_rfl
theorem smq_bl : blF 4 smq = ([1, 3, 5], 0) := by
  have h1 : check 4 smq = 0 := by kernel_rfl
  have h2 : consF smq (4 : Int).toNat = false := by kernel_rfl
  have h3 : ([1, 3, 5] : List Int).mergeSort (fun x y => decide (x ≤ y)) = [1, 3, 5] := List.mergeSort_of_pairwise (by decide)
  have h4 : (Lib.compact ([1, 3, 5] : List Int)).filter (fun r => !blP 4 smq r) = [1, 3, 5] := by kernel_rfl
  rw [blF, if_pos h1, h2, if_neg (by simp), show (4 : Int).toNat = 4 from rfl, smq_rec, recC, h3, h4]
theorem smp_lv : Lv smp := ⟨by decide, by decide⟩
theorem smq_lv : Lv smq := ⟨by decide, by decide⟩

end Go.Proofs.Yteiaofgkmgllcaa.Ln
