/-
  Plain functions, continued: negative circles, records, systems without some of them.
-/
import Derived.Test.YtnmiecnpiadcnaaMathe
set_option linter.unusedVariables false
set_option linter.unusedSimpArgs false
namespace Go.Proofs.Ytnmiecnpiadcnaa.Ln

def zl (l : List Nat) : List Int := List.map (fun n : Nat => (n : Int)) l
theorem zl_length (l : List Nat) : (zl l).length = l.length := by simp [zl]

theorem fpF_len (bs : List Bd) (N a b : Nat) (most : Int) (longest : Nat) : (fpF bs N a b most longest).1.length ≤ longest := by
  unfold fpF
  split
  · exact Nat.zero_le _
  · rename_i k hk
    have h1 := wkF_length (bs := bs) (R := rowF bs N b) k a most
    have h2 : k < longest + 1 := by simpa using List.mem_of_find?_eq_some hk
    simp only
    omega
theorem fpF_lt (bs : List Bd) (N a b : Nat) (most : Int) (longest : Nat) : ∀ i ∈ (fpF bs N a b most longest).1, i < bs.length := by
  unfold fpF
  split
  · intro i hi; cases hi
  · exact wkF_lt _ _ _

/-! The first of the shortest negative circles. -/
def circS (bs : List Bd) (N : Nat) (s : List Nat × Nat) (p : Nat) : List Nat × Nat :=
  if (fpF bs N p p (-1) s.2).2 = true ∧ (s.1 = [] ∨ clF (zl (fpF bs N p p (-1) s.2).1) (zl s.1) < 0) then ((fpF bs N p p (-1) s.2).1, (fpF bs N p p (-1) s.2).1.length) else s
def circK (bs : List Bd) (N k : Nat) : List Nat × Nat := (List.range k).foldl (circS bs N) ([], N)
def circF (bs : List Bd) (N : Nat) : List Nat := (circK bs N N).1
theorem circK_succ (bs : List Bd) (N k : Nat) : circK bs N (k + 1) = circS bs N (circK bs N k) k := by simp [circK, List.range_succ]
theorem circK_top {bs : List Bd} {N : Nat} (k : Nat) : (circK bs N k).2 ≤ N ∧ (circK bs N k).1.length ≤ N ∧ ∀ i ∈ (circK bs N k).1, i < bs.length := by
  induction k with
  | zero => exact ⟨Nat.le_refl _, Nat.zero_le _, fun i hi => by cases hi⟩
  | succ k ih =>
    rw [circK_succ, circS]
    split
    · have := fpF_len bs N k k (-1) (circK bs N k).2
      exact ⟨Nat.le_trans this ih.1, Nat.le_trans this ih.1, fpF_lt _ _ _ _ _ _⟩
    · exact ih
/-- Circle, errors and all. -/
def ciF (N : Int) (bs : List Bd) : List Nat × Bool × Int :=
  if check N bs = 0 then (if consF bs N.toNat = true then ([], false, 0) else (circF bs N.toNat, true, 0)) else ([], false, check N bs)

end Go.Proofs.Ytnmiecnpiadcnaa.Ln
