/-
  Distances, plainly; cells of flags.
-/
import Derived.Test.YteiaofgkmgllcaaApo
import Derived.Test.YteiaofgkmgllcaaMtx
set_option linter.unusedVariables false
set_option linter.unusedSimpArgs false
namespace Go.Proofs.Yteiaofgkmgllcaa
open Go.RowKit

namespace Ln
def dsS (N : Int) (bs : List Bd) (a : Int) (k : Nat) : List Int := (List.range k).map (fun b : Nat => (ffar (dF N bs a b)).1)
def dsI (N : Int) (bs : List Bd) (a : Int) (k : Nat) : List Bool := (List.range k).map (fun b : Nat => (ffar (dF N bs a b)).2)
theorem dsS_length (N : Int) (bs : List Bd) (a : Int) (k : Nat) : (dsS N bs a k).length = k := by simp [dsS]
theorem dsI_length (N : Int) (bs : List Bd) (a : Int) (k : Nat) : (dsI N bs a k).length = k := by simp [dsI]
theorem dsS_succ (N : Int) (bs : List Bd) (a : Int) (k : Nat) : dsS N bs a (k + 1) = dsS N bs a k ++ [(ffar (dF N bs a k)).1] := by simp [dsS, List.range_succ]
theorem dsI_succ (N : Int) (bs : List Bd) (a : Int) (k : Nat) : dsI N bs a (k + 1) = dsI N bs a k ++ [(ffar (dF N bs a k)).2] := by simp [dsI, List.range_succ]
/-- Distances. -/
def dsF (N : Int) (bs : List Bd) (a : Int) : List Int × List Bool × Int := if soundF N bs [a] = 0 then (dsS N bs a N.toNat, dsI N bs a N.toNat, 0) else ([], [], soundF N bs [a])
theorem diF_far {N : Int} {bs : List Bd} {a b : Int} (h : soundF N bs [a, b] = 0) : diF N bs a b = ((ffar (dF N bs a b)).1, (ffar (dF N bs a b)).2, 0) := by
  rw [diF, if_pos h, ffar]
  split <;> rfl
theorem ffar_off {x : Int} (h : (ffar x).2 = false) : (ffar x).1 = 0 := by
  unfold ffar at h ⊢
  split
  · rfl
  · rename_i hn
    rw [if_neg hn] at h
    cases h
theorem dsF_len {N : Int} {bs : List Bd} {a : Int} (h : N ≤ 128) : (dsF N bs a).1.length ≤ 128 ∧ (dsF N bs a).2.1.length ≤ 128 := by
  unfold dsF
  split
  · rw [dsS_length, dsI_length]
    omega
  · exact ⟨by simp, by simp⟩
theorem dsS_y1 {N : Int} {bs : List Bd} {a k : Nat} : dsS N bs a k = y1 (distF bs N.toNat a) k := by
  unfold dsS y1
  refine List.map_congr_left fun b _ => ?_
  rw [ffar, dF, Int.toNat_natCast, Int.toNat_natCast]
  split <;> rfl
/-- Which points are reached. -/
def f1 (row : List Int) (k : Nat) : List Bool := (List.range k).map (fun p => decide (gt row p ≠ NONE))
theorem f1_length (row : List Int) (k : Nat) : (f1 row k).length = k := by simp [f1]
theorem f1_succ (row : List Int) (k : Nat) : f1 row (k + 1) = f1 row k ++ [decide (gt row k ≠ NONE)] := by simp [f1, List.range_succ]
theorem dsI_f1 {N : Int} {bs : List Bd} {a k : Nat} : dsI N bs a k = f1 (distF bs N.toNat a) k := by
  unfold dsI f1
  refine List.map_congr_left fun b _ => ?_
  rw [ffar, dF, Int.toNat_natCast, Int.toNat_natCast]
  split
  · rename_i h; simp [h]
  · rename_i h; simp [h]
def falses (n : Nat) : List Bool := List.replicate n false
theorem f1_next_some {row : List Int} {k n : Nat} (hk : k < n) (h : gt row k ≠ NONE) : (f1 row k ++ falses (n - k)).set k true = f1 row (k + 1) ++ falses (n - (k + 1)) := by
  rw [f1_succ, show n - k = (n - (k + 1)) + 1 from by omega, falses, List.replicate_succ, List.set_append_right _ _ (by rw [f1_length]; exact Nat.le_refl _), f1_length, Nat.sub_self]
  simp [falses, h]
theorem f1_next_none {row : List Int} {k n : Nat} (hk : k < n) (h : gt row k = NONE) : f1 row k ++ falses (n - k) = f1 row (k + 1) ++ falses (n - (k + 1)) := by
  rw [f1_succ, show n - k = (n - (k + 1)) + 1 from by omega, falses, List.replicate_succ]
  simp [falses, h]
end Ln

/-- A block of flags. -/
def bv (l : List Bool) : Array Value := (l.map .bool).toArray
theorem bv_set (l : List Bool) (k : Nat) (x : Bool) : (bv l).setIfInBounds k (.bool x) = bv (l.set k x) := by simp [bv, List.map_set]
theorem bv_at {l : List Bool} {k : Nat} (hk : k < l.length) : (bv l)[k]? = some (.bool l[k]) := by simp [bv, hk]
theorem made_flags (n : Nat) : madeCells #[.bool false] n = bv (Ln.falses n) := by
  apply Array.ext_getElem?
  intro i
  unfold madeCells
  by_cases h : i < n
  · rw [Array.getElem?_map, Array.getElem?_range, if_pos h, Option.map_some, bv_at (by simpa [Ln.falses] using h), show (#[Value.bool false] : Array Value).size = 1 from rfl, Nat.mod_one]
    simp [Ln.falses]
  · rw [Array.getElem?_eq_none (by simp; omega), Array.getElem?_eq_none (by simp [bv, Ln.falses]; omega)]
theorem bk_flags {w : World} {g : Nat} {t : TypeId} {l : List Bool} (h : Bk w g t (bv l)) : Rd w w.heap.size 1 (some ⟨g, 0, none⟩) l.length (flags l) := by
  refine ⟨by rw [flags_length, Nat.mul_one], fun _ => ⟨g, 0, rfl, h.lt, fun j hj => ?_⟩⟩
  rw [Nat.mul_one] at hj
  rw [Nat.zero_add, h.cell j, bv_at hj]
  simp [flags, hj]

theorem one_rd (w : World) (o : Obj) (a : Int) : Rd ((w.alloc o).alloc (.cells #[.int .i64 a] 3)) ((w.alloc o).alloc (.cells #[.int .i64 a] 3)).heap.size 1 (some ⟨w.heap.size + 1, 0, none⟩) [a].length (ints [a]) := by
  have h := bk_rd (n := 1) (size := 1) (d := [a]) (Bk.new (w.alloc o) 3 (av [a])) rfl
  rw [show (w.alloc o).heap.size = w.heap.size + 1 from World.size_alloc _ _] at h
  exact h

end Go.Proofs.Yteiaofgkmgllcaa
