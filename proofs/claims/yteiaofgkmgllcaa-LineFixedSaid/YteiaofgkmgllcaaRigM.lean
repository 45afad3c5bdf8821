/-
  Rigid, plainly; classes in memory.
-/
import Derived.Test.YteiaofgkmgllcaaApo
import Derived.Test.YteiaofgkmgllcaaEnds
import Derived.Test.YteiaofgkmgllcaaWo
set_option linter.unusedVariables false
set_option linter.unusedSimpArgs false
namespace Go.Proofs.Yteiaofgkmgllcaa
open Go.RowKit Go.Shelf

namespace Ln
/-- The difference of two points has one value. -/
def meet (bs : List Bd) (N a b : Nat) : Bool := meetsF (lowF 0 (gt (distF bs N b) a)) (highF 0 (gt (distF bs N a) b))
/-- Who belongs to a, from a + 1 on and below k. -/
def mbr (bs : List Bd) (N a k : Nat) : List Nat := (List.range k).filter (fun b => decide (a < b) && meet bs N a b)
theorem mbr_hit {bs : List Bd} {N a k : Nat} (h : a < k) (hm : meet bs N a k = true) : mbr bs N a (k + 1) = mbr bs N a k ++ [k] := by simp [mbr, List.range_succ, h, hm]
theorem mbr_miss {bs : List Bd} {N a k : Nat} (hm : meet bs N a k = false) : mbr bs N a (k + 1) = mbr bs N a k := by simp [mbr, List.range_succ, hm]
theorem mbr_start (bs : List Bd) (N a : Nat) : mbr bs N a (a + 1) = [] := by
  unfold mbr
  rw [List.filter_eq_nil_iff]
  intro b hb
  have := List.mem_range.1 hb
  simp
  intro h
  omega
theorem mbr_length (bs : List Bd) (N a k : Nat) : (mbr bs N a k).length ≤ k := by
  have := List.length_filter_le (fun b => decide (a < b) && meet bs N a b) (List.range k)
  simpa [mbr] using this
def cls (bs : List Bd) (N a : Nat) : List Nat := a :: mbr bs N a N
/-- Who is placed when the points below k have been looked at. -/
def plc (bs : List Bd) (N : Nat) (P : Nat → Bool) (a k : Nat) : Nat → Bool := fun x => P x || (decide (a < x) && decide (x < k) && meet bs N a x)
theorem plc_hit {bs : List Bd} {N : Nat} {P : Nat → Bool} {a k : Nat} (h : a < k) (hm : meet bs N a k = true) : plc bs N P a (k + 1) = fun x => if x = k then true else plc bs N P a k x := by
  funext x
  unfold plc
  by_cases e : x = k
  · subst e
    simp [h, hm]
  · rw [if_neg e]
    by_cases h2 : x < k
    · simp [h2, show x < k + 1 by omega]
    · simp [h2, show ¬ x < k + 1 by omega]
theorem plc_miss {bs : List Bd} {N : Nat} {P : Nat → Bool} {a k : Nat} (hm : meet bs N a k = false) : plc bs N P a (k + 1) = plc bs N P a k := by
  funext x
  unfold plc
  by_cases e : x = k
  · subst e
    simp [hm]
  · by_cases h2 : x < k
    · simp [h2, show x < k + 1 by omega]
    · simp [h2, show ¬ x < k + 1 by omega]
theorem plc_start (bs : List Bd) (N : Nat) (P : Nat → Bool) (a : Nat) : plc bs N P a (a + 1) = P := by
  funext x
  unfold plc
  by_cases h : a < x
  · simp [show ¬ x < a + 1 by omega]
  · simp [h]
def rgS (bs : List Bd) (N : Nat) (s : List (List Nat) × (Nat → Bool)) (a : Nat) : List (List Nat) × (Nat → Bool) := if s.2 a = true then s else (s.1 ++ [cls bs N a], plc bs N s.2 a N)
def rgK (bs : List Bd) (N k : Nat) : List (List Nat) × (Nat → Bool) := (List.range k).foldl (rgS bs N) ([], fun _ => false)
theorem rgK_succ (bs : List Bd) (N k : Nat) : rgK bs N (k + 1) = rgS bs N (rgK bs N k) k := by simp [rgK, List.range_succ]
theorem rgK_length (bs : List Bd) (N k : Nat) : (rgK bs N k).1.length ≤ k := by
  induction k with
  | zero => exact Nat.le_refl _
  | succ k ih =>
    rw [rgK_succ, rgS]
    split
    · omega
    · simp; exact ih
theorem rgK_skip {bs : List Bd} {N k : Nat} (h : (rgK bs N k).2 k = true) : rgK bs N (k + 1) = rgK bs N k := by rw [rgK_succ, rgS, if_pos h]
theorem rgK_new {bs : List Bd} {N k : Nat} (h : (rgK bs N k).2 k = false) : rgK bs N (k + 1) = ((rgK bs N k).1 ++ [cls bs N k], plc bs N (rgK bs N k).2 k N) := by rw [rgK_succ, rgS, if_neg (by rw [h]; simp)]
/-- Rigid, errors and all. -/
def rgF (N : Int) (bs : List Bd) : List (List Nat) × Int := if soundF N bs [] = 0 then ((rgK bs N.toNat N.toNat).1, 0) else ([], soundF N bs [])
theorem rgF_bad {N : Int} {bs : List Bd} (h : soundF N bs [] ≠ 0) : rgF N bs = ([], soundF N bs []) := by rw [rgF, if_neg h]
end Ln

theorem infoL : (Try.prog.info? 25).map (fun i => (i.zero, i.size, i.bytes)) = some (some (.slice none 0 0), 1, 24) := by kernel_rfl

/-- A list of lists of points in memory. -/
def LL (W : World) (V : Value) (L : List (List Nat)) : Prop :=
  ∃ A c vs, V = .slice A L.length c ∧ Rd W W.heap.size 1 A L.length vs ∧ ∀ i (h : i < L.length), ∃ A' c', vs[i]? = some (.slice A' L[i].length c') ∧ Rd W W.heap.size 1 A' L[i].length (nlist L[i])
theorem LL.below {W W' : World} {V : Value} {L : List (List Nat)} (h : LL W V L) (hb : Below W.heap.size W W') : LL W' V L := by
  obtain ⟨A, c, vs, e, hr, hi⟩ := h
  refine ⟨A, c, vs, e, (hr.below hb (Nat.le_refl _)).more hb.size, fun i h => ?_⟩
  obtain ⟨A', c', e', hr'⟩ := hi i h
  exact ⟨A', c', e', (hr'.below hb (Nat.le_refl _)).more hb.size⟩
theorem LL.nil (W : World) : LL W (.slice none 0 0) [] := ⟨none, 0, [], rfl, Rd.nil _ _ _ _, fun i h => by simp at h⟩

/-- The classes while they are collected: in memory from T on. -/
structure Cls (W : World) (T : Nat) (C : Value) (L : List (List Nat)) (vs : List Value) : Prop where
  own : W.ownsRow T 25 1 C L.length vs
  rows : ∀ i (h : i < L.length), ∃ A' c', vs[i]? = some (.slice A' L[i].length c') ∧ Rd W W.heap.size 1 A' L[i].length (nlist L[i]) ∧ ∀ a, A' = some a → T ≤ a.block ∧ C.ownBlock ≠ some a.block ∧ a.block < W.heap.size

theorem rd_kept {W W' : World} {row : Option Nat} {B size n : Nat} {A : Option Addr} {xs : List Value} (h : Rd W B size A n xs) (hB : B ≤ W.heap.size) (hg : W.grownBy W' row) (hr : ∀ a, A = some a → row ≠ some a.block) : Rd W' W'.heap.size size A n xs := by
  refine ⟨h.1, fun hn => ?_⟩
  obtain ⟨b, off, e, hb, hc⟩ := h.2 hn
  have hz := hg.size
  refine ⟨b, off, e, by omega, fun j hj => ?_⟩
  rw [World.cell?_of_block (hg.block b (by omega) (fun e2 => hr _ e e2.symm))]
  exact hc j hj
theorem Cls.nil (W : World) (T : Nat) : Cls W T (.slice none 0 0) [] [] := ⟨own_none _ _ _, fun i h => by simp at h⟩
theorem Cls.keep {W W' : World} {T PB : Nat} {C : Value} {L : List (List Nat)} {vs : List Value} (h : Cls W T C L vs) (hg : W.grownBy W' (some PB)) (hP : PB < T) : Cls W' T C L vs := by
  refine ⟨h.own.kept hg (own_offN h.own hP), fun i hi => ?_⟩
  obtain ⟨A', c', e, hr, ha⟩ := h.rows i hi
  exact ⟨A', c', e, rd_kept hr (Nat.le_refl _) hg (fun a e2 e3 => by have := (ha a e2).1; simp at e3; omega), fun a e2 => ⟨(ha a e2).1, (ha a e2).2.1, Nat.lt_of_lt_of_le (ha a e2).2.2 hg.size⟩⟩
theorem Cls.below {W W' : World} {T : Nat} {C : Value} {L : List (List Nat)} {vs : List Value} (h : Cls W T C L vs) (hb : Below W.heap.size W W') : Cls W' T C L vs := by
  refine ⟨h.own.kept (grown_below hb) (by rcases C.ownBlock with _ | g <;> simp), fun i hi => ?_⟩
  obtain ⟨A', c', e, hr, ha⟩ := h.rows i hi
  exact ⟨A', c', e, (hr.below hb (Nat.le_refl _)).more hb.size, fun a e2 => ⟨(ha a e2).1, (ha a e2).2.1, Nat.lt_of_lt_of_le (ha a e2).2.2 hb.size⟩⟩
theorem Cls.add {W W' : World} {T g cap c' : Nat} {C : Value} {L : List (List Nat)} {vs : List Value} {A' : Option Addr} {l : List Nat} (h : Cls W T C L vs) (hl : Rd W W.heap.size 1 A' l.length (nlist l)) (ha : ∀ a, A' = some a → T ≤ a.block ∧ C.ownBlock ≠ some a.block ∧ a.block < W.heap.size)
    (hown : W'.ownsRow T 25 1 (.slice (some ⟨g, 0, none⟩) (L.length + 1) cap) (L.length + 1) (vs ++ [.slice A' l.length c'])) (hg : W.grownBy W' C.ownBlock) (hat : C.ownBlock = some g ∨ W.heap.size ≤ g) :
    Cls W' T (.slice (some ⟨g, 0, none⟩) (L.length + 1) cap) (L ++ [l]) (vs ++ [.slice A' l.length c']) := by
  have hvl : vs.length = L.length := by have := h.own.1; omega
  have hne : ∀ {b : Nat}, b < W.heap.size → C.ownBlock ≠ some b → (some g : Option Nat) ≠ some b := fun {b} hb hc e => by
    rcases hat with e2 | e2
    · rw [e2] at hc; exact hc e
    · simp at e; omega
  refine ⟨by rw [List.length_append]; exact hown, fun i hi => ?_⟩
  rw [List.length_append, List.length_singleton] at hi
  by_cases e : i < L.length
  · obtain ⟨B', d', e1, hr, hb⟩ := h.rows i e
    rw [List.getElem_append_left e, List.getElem?_append_left (by omega)]
    exact ⟨B', d', e1, rd_kept hr (Nat.le_refl _) hg (fun a e2 e3 => (hb a e2).2.1 e3), fun a e2 => ⟨(hb a e2).1, hne (hb a e2).2.2 (hb a e2).2.1, Nat.lt_of_lt_of_le (hb a e2).2.2 hg.size⟩⟩
  · obtain rfl : i = L.length := by omega
    rw [List.getElem_append_right (Nat.le_refl _), List.getElem?_append_right (by omega), hvl]
    simp only [Nat.sub_self, List.getElem_cons_zero, List.getElem?_cons_zero]
    refine ⟨A', c', rfl, rd_kept hl (Nat.le_refl _) hg (fun a e2 e3 => (ha a e2).2.1 e3), fun a e2 => ⟨(ha a e2).1, hne (ha a e2).2.2 (ha a e2).2.1, Nat.lt_of_lt_of_le (ha a e2).2.2 hg.size⟩⟩

/-- The marks of an array. -/
def pb (P : Nat → Bool) : Array Value := ((List.range 128).map (fun i => Value.bool (P i))).toArray
theorem pb_at {P : Nat → Bool} {k : Nat} (hk : k < 128) : (pb P)[k]? = some (.bool (P k)) := by simp [pb, hk]
theorem pb_set (P : Nat → Bool) (k : Nat) (v : Bool) : (pb P).setIfInBounds k (.bool v) = pb (fun x => if x = k then v else P x) := by
  apply Array.ext_getElem?
  intro i
  rw [Array.getElem?_setIfInBounds]
  by_cases h : k = i
  · subst h
    by_cases h2 : k < 128 <;> simp [pb, h2]
  · by_cases h2 : i < 128 <;> simp [pb, h2, h, show ¬ i = k from fun e => h e.symm]
theorem grown_new {w w1 w2 : World} {row row2 : Option Nat} (h : w.grownBy w1 row) (k : w1.grownBy w2 row2) (hr : ∀ g, row2 = some g → w.heap.size ≤ g) : w.grownBy w2 row :=
  ⟨k.os.trans h.os, k.tape.trans h.tape, k.output.trans h.output, Nat.le_trans h.size k.size, fun i hi hne => (k.block i (Nat.lt_of_lt_of_le hi h.size) (fun e => by have := hr i e.symm; omega)).trans (h.block i hi hne)⟩

end Go.Proofs.Yteiaofgkmgllcaa
