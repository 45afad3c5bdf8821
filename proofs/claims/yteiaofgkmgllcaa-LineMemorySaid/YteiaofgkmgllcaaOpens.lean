/-
  What an argument of a statement is: a system, a list of numbers; a row's proof out of its law's walk.
-/
import Derived.Test.YteiaofgkmgllcaaBase
import Derived.Test.YteiaofgkmgllcaaSpan
import Derived.Test.YteiaofgkmgllcaaRows
import Derived.ProofKit
import Derived.OpenVars
import Derived.Carry
import Derived.Deep.Slices
import Derived.Lib.SmallJoins
set_option linter.unusedVariables false
set_option linter.unusedSimpArgs false
namespace Go.Proofs.Yteiaofgkmgllcaa
open Go.ChangeShapes Go.WideShapes Go.ChangeAt Go.RowKit Go.Deep Go.Joins

theorem Try.ownL : ownKnob Try.prog.godebug = none := by kernel_rfl
theorem Try.laidOutL : laidOutB Try.prog = true := by kernel_rfl
theorem Try.cellsSys : Try.prog.cellsOf 24 = 2 := by kernel_rfl
theorem Try.cellsBd : Try.prog.cellsOf 50 = 4 := by kernel_rfl
theorem Try.cellsInt : Try.prog.cellsOf 3 = 1 := by kernel_rfl

theorem plain_of_cell {w : World} {a : Addr} {v : Value} (h : w.cell? a = some v) : ∃ b off, a = ⟨b, off, none⟩ ∧ b < w.heap.size := by
  obtain ⟨b, off, s⟩ := a
  unfold World.cell? at h
  dsimp only at h
  split at h
  · rename_i c _ _ hh
    cases s with
    | none => exact ⟨b, off, rfl, (Array.getElem?_eq_some_iff.1 hh).1⟩
    | some x => simp at h
  · simp at h

instance : Inhabited Ln.Bd := ⟨⟨0, 0, 0, 0, false⟩⟩

theorem bcells_range (V : Nat → Ln.Bd) (n : Nat) : ((List.range n).map V).length = n := by simp

section
variable {H : Type} {enc : TypeId × Value → H} {w : World} {base : Nat} {spare : Nat → Bool} {held : Bool} {b0 : Nat} {r : Reach}

set_option maxRecDepth 100000 in
theorem open_list {v : Value} {d : DataW H} {p : List MemPlace} (hv : Value.okWide Try.prog w r b0 25 v) (h : DataW.Trod enc Try.prog w base spare held 25 v d p) :
    ∃ (A : Option Addr) (c : Nat) (y : List Int), v = .slice A y.length c ∧ Rd w w.heap.size 1 A y.length (ints y) ∧ ∀ x ∈ y, (Lit.int .i64 x).wf = true := by
  obtain ⟨a0, len, cap, rfl⟩ := okWide_slice Try.underlying25 hv
  obtain ⟨fuel, hf⟩ := h
  rcases open_ints Try.underlying25 Try.underlying3 Try.cellsInt hf with ⟨hcs, hx⟩ | ⟨a, len', cap', zs, hcs, _, hl, hm, hz, hx, hcell, hwz⟩
  · simp [Value.cells] at hcs
    obtain ⟨rfl, rfl, rfl⟩ := hcs
    exact ⟨none, 0, [], rfl, Rd.nil _ _ _ _, by simp⟩
  · simp [Value.cells] at hcs
    obtain ⟨rfl, rfl, rfl⟩ := hcs
    have hlz : len ≤ zs.length := by rw [hz]; split <;> omega
    have hlen : (zs.take len).length = len := by rw [List.length_take]; omega
    refine ⟨some a, cap, zs.take len, by rw [hlen], ⟨by simp [ints], fun h0 => ?_⟩, fun x hx' => hwz x (List.mem_of_mem_take hx')⟩
    rw [hlen] at h0 ⊢
    obtain ⟨b, off, rfl, hb⟩ := plain_of_cell (hcell 0 (by omega))
    refine ⟨b, off, rfl, by simpa [Addr.add] using hb, fun j hj => ?_⟩
    have := hcell j (by omega)
    rw [add_plain] at this
    rw [this]
    simp [ints, List.getElem?_take, show j < len from by omega, List.getD, List.getElem?_eq_getElem (show j < zs.length from by omega)]

set_option maxRecDepth 100000 in
theorem open_sysl {v : Value} {d : DataW H} {p : List MemPlace} (hv : Value.okWide Try.prog w r b0 24 v) (h : DataW.Trod enc Try.prog w base spare held 24 v d p) :
    ∃ (N : Int) (A : Option Addr) (c : Nat) (bs : List Ln.Bd), v = .agg #[.int .i64 N, .slice A bs.length c] ∧ Rd w w.heap.size 4 A bs.length (bcells bs) ∧ (Lit.int .i64 N).wf = true ∧
      (∀ b ∈ bs, b.gone = false ∧ (Lit.int .i64 b.f).wf = true ∧ (Lit.int .i64 b.t).wf = true ∧ (Lit.int .i64 b.m).wf = true ∧ (Lit.int .i64 b.r).wf = true) ∧ bs.length ≤ 9223372036854775807 := by
  obtain ⟨c0, c1, y0, y1, n, rfl, rfl, rfl, hy0, hy1⟩ := open_agg2 Try.underlying24 (by kernel_rfl) Try.cellsSys hv h
  obtain ⟨N, e0, rfl, wN⟩ := DataW.trod_int Try.underlying3 hy0
  simp only [List.cons.injEq, and_true] at e0
  subst e0
  obtain ⟨A, len, cap, e1⟩ := slice_form Try.underlying22 hy1
  simp only [List.cons.injEq, and_true] at e1
  subst e1
  rcases open_slice Try.underlying22 hy1 with ⟨hcs, hx⟩ | ⟨a, len', cap', m, k, D, Pl, hcs, _, hl, hm, hmm, hx, hel⟩
  · simp at hcs
    obtain ⟨rfl, rfl, rfl⟩ := hcs
    exact ⟨N, none, 0, [], rfl, Rd.nil _ _ _ _, wN, by simp, by simp⟩
  · simp at hcs
    obtain ⟨rfl, rfl, rfl⟩ := hcs
    have hlm : len ≤ m := by rw [hmm]; split <;> omega
    have each : ∀ i, i < len → ∃ x : Ln.Bd, (w.cell? (a.add (i * 4)) = some (.int .i64 x.f) ∧ w.cell? (a.add (i * 4 + 1)) = some (.int .i64 x.t) ∧ w.cell? (a.add (i * 4 + 2)) = some (.int .i64 x.m) ∧ w.cell? (a.add (i * 4 + 3)) = some (.int .i64 x.r)) ∧
        x.gone = false ∧ (Lit.int .i64 x.f).wf = true ∧ (Lit.int .i64 x.t).wf = true ∧ (Lit.int .i64 x.m).wf = true ∧ (Lit.int .i64 x.r).wf = true := by
      intro i hi
      obtain ⟨cs', h1, h2⟩ := hel i (by omega)
      rw [Try.cellsBd] at h1
      obtain ⟨_, hlen, hcell⟩ := World.cells?_some h1
      obtain ⟨z0, z1, z2, z3, q, _, _, g0, g1, g2, g3⟩ := trod_struct4 Try.underlying50 h2
      match cs', hlen with
      | [v0, v1, v2, v3], _ =>
        simp only [Try.cellsInt, List.drop_zero, List.drop_succ_cons, List.take_succ_cons, List.take_zero] at g0 g1 g2 g3
        obtain ⟨f, e0, _, w0⟩ := DataW.trod_int Try.underlying3 g0
        obtain ⟨t, e1, _, w1⟩ := DataW.trod_int Try.underlying3 g1
        obtain ⟨m', e2, _, w2⟩ := DataW.trod_int Try.underlying3 g2
        obtain ⟨r', e3, _, w3⟩ := DataW.trod_int Try.underlying3 g3
        simp only [List.cons.injEq, and_true] at e0 e1 e2 e3
        subst e0; subst e1; subst e2; subst e3
        have k0 := hcell 0 (by omega)
        have k1 := hcell 1 (by omega)
        have k2 := hcell 2 (by omega)
        have k3 := hcell 3 (by omega)
        rw [add_add] at k0 k1 k2 k3
        exact ⟨⟨f, t, m', r', false⟩, ⟨by simpa using k0, by simpa using k1, by simpa using k2, by simpa using k3⟩, rfl, w0, w1, w2, w3⟩
    obtain ⟨V, hV⟩ := choose_lt each
    refine ⟨N, some a, cap, (List.range len).map V, by simp, ⟨by rw [bcells_length], fun h0 => ?_⟩, wN, fun b hb => ?_, by unfold maxLen at hm; simp; omega⟩
    · rw [bcells_range] at h0 ⊢
      obtain ⟨b, off, rfl, hb⟩ := plain_of_cell (hV 0 h0).1.1
      refine ⟨b, off, rfl, by simpa [Addr.add] using hb, fun j hj => ?_⟩
      obtain ⟨⟨q0, q1, q2, q3⟩, _⟩ := hV (j / 4) (by omega)
      rw [add_plain] at q0 q1 q2 q3
      obtain ⟨r0, r1, r2, r3⟩ := bcells_at ((List.range len).map V) (k := j / 4) (by simp; omega)
      simp only [List.getElem_map, List.getElem_range] at r0 r1 r2 r3
      have hj4 : j = j / 4 * 4 ∨ j = j / 4 * 4 + 1 ∨ j = j / 4 * 4 + 2 ∨ j = j / 4 * 4 + 3 := by omega
      rcases hj4 with hj4 | hj4 | hj4 | hj4
      · rw [hj4]; exact q0.trans r0.symm
      · rw [hj4]; exact q1.trans r1.symm
      · rw [hj4]; exact q2.trans r2.symm
      · rw [hj4]; exact q3.trans r3.symm
    · obtain ⟨i, hi, rfl⟩ := List.mem_map.1 hb
      exact (hV i (List.mem_range.1 hi)).2

set_option maxRecDepth 100000 in
theorem open_sys {v : Value} {d : DataW H} {p : List MemPlace} (hv : Value.okWide Try.prog w r b0 24 v) (h : DataW.Trod enc Try.prog w base spare held 24 v d p) :
    ∃ (N : Int) (A : Option Addr) (c : Nat) (bs : List Ln.Bd), v = .agg #[.int .i64 N, .slice A bs.length c] ∧ Rd w w.heap.size 4 A bs.length (bcells bs) ∧ (Lit.int .i64 N).wf = true ∧
      ∀ b ∈ bs, b.gone = false ∧ (Lit.int .i64 b.f).wf = true ∧ (Lit.int .i64 b.t).wf = true ∧ (Lit.int .i64 b.m).wf = true ∧ (Lit.int .i64 b.r).wf = true := by
  obtain ⟨N, A, c, bs, h1, h2, h3, h4, _⟩ := open_sysl hv h
  exact ⟨N, A, c, bs, h1, h2, h3, h4⟩
end

end Go.Proofs.Yteiaofgkmgllcaa
