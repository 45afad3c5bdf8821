/-
  Slices of numbers, read at an index.
-/
import Derived.Test.YteiaofgkmgllcaaRefA
set_option linter.unusedVariables false
set_option linter.unusedSimpArgs false
namespace Go.Proofs.Yteiaofgkmgllcaa
open Go.RowKit

theorem Rd.at0 {w : World} {B : Nat} {A : Option Addr} {l : List Int} (h : Rd w B 1 A l.length (ints l)) (hk : 0 < l.length) :
    ∃ b off, A = some ⟨b, off, none⟩ ∧ b < B ∧ w.cell? ⟨b, off, none⟩ = some (.int .i64 (Ln.gt l 0)) := by
  rw [Ln.gt_eq hk]
  obtain ⟨b, off, e, hb, hc⟩ := h.one hk
  exact ⟨b, off, e, hb, by simpa using hc⟩

def idxF (y : List Int) : Option Nat := (List.range y.length).find? fun i => !(Ln.within (Ln.gt y i) 400000000)
theorem idxF_some {y : List Int} {k : Nat} (hk : k < y.length) (h : ∀ j, j < k → Ln.within (Ln.gt y j) 400000000 = true) (hp : Ln.within (Ln.gt y k) 400000000 = false) : idxF y = some k := by
  rw [idxF, List.find?_range_eq_some]
  exact ⟨by simp [hp], by simpa using hk, fun j hj => by simp [h j hj]⟩
theorem idxF_none {y : List Int} (h : ∀ j, j < y.length → Ln.within (Ln.gt y j) 400000000 = true) : idxF y = none := by
  rw [idxF, List.find?_range_eq_none]
  exact fun j hj => by simp [h j hj]
theorem all_of {y : List Int} (h : ∀ j, j < y.length → Ln.within (Ln.gt y j) 400000000 = true) : y.all (fun v => Ln.within v 400000000) = true := by
  rw [List.all_eq_true]
  intro v hv
  obtain ⟨j, hj, rfl⟩ := List.getElem_of_mem hv
  rw [← Ln.gt_eq hj]
  exact h j hj
theorem not_all_of {y : List Int} {k : Nat} (hk : k < y.length) (hp : Ln.within (Ln.gt y k) 400000000 = false) : y.all (fun v => Ln.within v 400000000) = false := by
  rw [← Bool.not_eq_true, List.all_eq_true]
  intro h
  rw [h (Ln.gt y k) (by rw [Ln.gt_eq hk]; exact List.getElem_mem hk)] at hp
  cases hp
theorem within_eq (v : Int) : (decide (-400000000 ≤ v) && decide (v ≤ 400000000)) = Ln.within v 400000000 := rfl

theorem Rd.gt {w : World} {B : Nat} {A : Option Addr} {l : List Int} (h : Rd w B 1 A l.length (ints l)) {k : Nat} (hk : k < l.length) :
    ∃ b off, A = some ⟨b, off, none⟩ ∧ b < B ∧ w.cell? ⟨b, off + k, none⟩ = some (.int .i64 (Ln.gt l k)) := by
  rw [Ln.gt_eq hk]
  exact h.one hk

end Go.Proofs.Yteiaofgkmgllcaa
