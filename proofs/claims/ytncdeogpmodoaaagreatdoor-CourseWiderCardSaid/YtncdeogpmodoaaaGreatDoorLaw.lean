/-
  What the walks of the laws share: the state between two calls of a law; few.
-/
import Derived.Test.YtncdeogpmodoaaaGreatDoorMea
set_option linter.unusedVariables false
set_option linter.unusedSimpArgs false
namespace Go.Proofs.YtncdeogpmodoaaaGreatDoor
open Go.RowKit
set_option maxRecDepth 100000

/-- What a law with variations and a course has found, between two calls. -/
structure Lw (w : World) (A : Option Addr) (vs : List (Int × Int)) (g : Nat) (c : Cs.Co) (W : World) : Prop where
  b : Below w.heap.size w W
  e : Env W
  r : Rd W w.heap.size 2 A vs.length (vcells vs)
  k : Bk W g 29 #[.int .i64 c.b, .int .i64 c.n, .int .i64 c.l, .int .i64 c.y, .int .i64 c.w, .int .i64 c.s]

section
variable {w W W' : World} {A : Option Addr} {vs : List (Int × Int)} {g : Nat} {c : Cs.Co}
theorem Lw.next (h : Lw w A vs g c W) (hb : Below W.heap.size W W') : Lw w A vs g c W' :=
  ⟨h.b.trans (hb.mono h.b.size), h.e.step hb, h.r.below hb h.b.size, h.k.below hb h.k.lt⟩
theorem Lw.rd (h : Lw w A vs g c W) : Rd W W.heap.size 2 A vs.length (vcells vs) := h.r.more h.b.size
theorem Lw.cells (h : Lw w A vs g c W) : W.cell? ⟨g, 0, none⟩ = some (.int .i64 c.b) ∧ W.cell? ⟨g, 1, none⟩ = some (.int .i64 c.n) ∧ W.cell? ⟨g, 2, none⟩ = some (.int .i64 c.l) ∧
    W.cell? ⟨g, 3, none⟩ = some (.int .i64 c.y) ∧ W.cell? ⟨g, 4, none⟩ = some (.int .i64 c.w) ∧ W.cell? ⟨g, 5, none⟩ = some (.int .i64 c.s) ∧ g < W.heap.size :=
  ⟨(h.k.cell 0).trans rfl, (h.k.cell 1).trans rfl, (h.k.cell 2).trans rfl, (h.k.cell 3).trans rfl, (h.k.cell 4).trans rfl, (h.k.cell 5).trans rfl, h.k.lt⟩
theorem Lw.new (hE : Env w) (hR : Rd w w.heap.size 2 A vs.length (vcells vs)) : Lw w A vs w.heap.size c (w.alloc (.cells #[.int .i64 c.b, .int .i64 c.n, .int .i64 c.l, .int .i64 c.y, .int .i64 c.w, .int .i64 c.s] 29)) :=
  have hb := (Below.refl w.heap.size w).alloc (Nat.le_refl _) _
  ⟨hb, hE.step hb, hR.below hb (Nat.le_refl _), Bk.new _ _ _⟩
theorem Lw.alloc (h : Lw w A vs g c W) (o : Obj) : Lw w A vs g c (W.alloc o) := h.next ((Below.refl _ _).alloc (Nat.le_refl _) o)
end

theorem few_any (A : Option Addr) (c n : Nat) (hn : n ≤ 9223372036854775807) (w : World) :
    Calls Tryz.prog 26 #[.slice A n c] w fun e w' => e = .returned (.bool (decide ((n : Int) ≤ 60))) ∧ w = w' := by
  go_enter Tryz.func26, Tryz.ntmps26
  go_wp2
  go_ret
  exact ⟨rfl, rfl⟩

theorem measured2 (w : World) (hE : Env w) : Calls Tryz.prog 21 #[] w fun e w' => e = .returned (.bool true) ∧ Below w.heap.size w w' := measured_any w hE

end Go.Proofs.YtncdeogpmodoaaaGreatDoor
