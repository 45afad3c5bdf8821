/-
  The reference's Common.
-/
import Derived.Test.YtncdeogpmodoaabGreatDoorRc
set_option linter.unusedVariables false
set_option linter.unusedSimpArgs false
namespace Go.Proofs.YtncdeogpmodoaabGreatDoor
open Go.RowKit
set_option maxRecDepth 100000

namespace Cs
/-- The error behind the reference's first, and second, loop over the courses. -/
def fin1 (e : Int) (l : List Co) : Int := if e ≠ 0 then e else if l.all courseOk then 0 else 1
def fin2 (vs : List (Int × Int)) (e : Int) (l : List Co) : Int := if e ≠ 0 then e else if l.all (fun c => (dec vs c.y).2) then 0 else 20
theorem fin_check (vs : List (Int × Int)) (cs : List Co) : fin2 vs (fin1 (varsE vs) cs) cs = checkE vs cs := by
  unfold fin1 fin2 checkE
  by_cases h : varsE vs = 0
  · rcases cs.all courseOk with _ | _ <;> simp [h]
  · simp [h]
theorem fin1_zero (l : List Co) : fin1 0 l = if l.all courseOk then 0 else 1 := by simp [fin1]
theorem fin1_ne {e : Int} (h : e ≠ 0) (l : List Co) : fin1 e l = e := by simp [fin1, h]
theorem fin1_step {cs : List Co} {k : Nat} (hk : k < cs.length) : fin1 0 (cs.drop k) = fin1 (courseE cs[k]) (cs.drop (k + 1)) := by
  rw [List.drop_eq_getElem_cons hk, fin1_zero, List.all_cons]
  rcases hc : courseOk cs[k] with _ | _
  · rw [courseE_not hc, fin1_ne (by decide), Bool.false_and, if_neg (by simp)]
  · rw [courseE_of hc, fin1_zero, Bool.true_and]
theorem fin2_zero (vs : List (Int × Int)) (l : List Co) : fin2 vs 0 l = if l.all (fun c => (dec vs c.y).2) then 0 else 20 := by simp [fin2]
theorem fin2_ne (vs : List (Int × Int)) {e : Int} (h : e ≠ 0) (l : List Co) : fin2 vs e l = e := by simp [fin2, h]
theorem fin2_step (vs : List (Int × Int)) {cs : List Co} {k : Nat} (hk : k < cs.length) : fin2 vs 0 (cs.drop k) = fin2 vs (if (dec vs cs[k].y).2 then 0 else 20) (cs.drop (k + 1)) := by
  rw [List.drop_eq_getElem_cons hk, fin2_zero, List.all_cons]
  rcases hc : (dec vs cs[k].y).2 with _ | _
  · rw [if_neg (by simp), fin2_ne vs (by decide), if_neg (by simp)]
  · rw [if_pos rfl, fin2_zero, Bool.true_and]
theorem checkE_part {vs : List (Int × Int)} {cs : List Co} (h : checkE vs cs = 0) (k : Nat) (hk : k < cs.length) : checkE vs [cs[k]] = 0 := by
  unfold checkE at h ⊢
  split at h
  · rename_i h1; exact absurd h h1
  · rename_i h1
    rw [if_neg h1]
    split at h
    · rename_i h2
      split at h
      · rename_i h3
        rw [if_pos (by simpa using List.all_eq_true.1 h2 _ (List.getElem_mem hk)), if_pos (by simpa using List.all_eq_true.1 h3 _ (List.getElem_mem hk))]
      · cases h
    · cases h
theorem refG_step (vs : List (Int × Int)) (dx : Int) (cs : List Co) (lo hi : Int) (ok : Bool) {k : Nat} (hk : k < cs.length) {a b : Int} {is : Bool} (h : intM vs cs[k] dx = (a, b, is)) :
    refG vs dx (lo, hi, ok) (cs.drop k) = refG vs dx (max lo a, min hi b, ok && is) (cs.drop (k + 1)) := by
  rw [List.drop_eq_getElem_cons hk, refG, h]
end Cs

end Go.Proofs.YtncdeogpmodoaabGreatDoor
