/-
  True of course and of the reference: the ends of the true length as two fractions.
-/
import Derived.Test.YtncdeogpmodoaabGreatDoorDec
import Derived.Test.YtncdeogpmodoaabGreatDoorFra
set_option linter.unusedVariables false
set_option linter.unusedSimpArgs false
namespace Go.Proofs.YtncdeogpmodoaabGreatDoor
open Go.RowKit
set_option maxRecDepth 100000

theorem results_cells2_tmp {P : Program} {fn : Func} {p p2 q : Tmp} {ty : TypeId} (h : fn.results = #[.cell p ty, .cell p2 ty, .tmp q]) (tmps : Array Value) (w : World) (g g2 : Nat) (t t2 : TypeId) (cs cs2 : Array Value) (fr fr2 : Nat × Nat) (d : TypeDesc) (v : Value)
    (hp : tmps.getD p undef = .pointer (some ⟨g, 0, none⟩)) (hp2 : tmps.getD p2 undef = .pointer (some ⟨g2, 0, none⟩)) (hq : tmps.getD q undef = v) (hg : w.heap[g]? = some (.cells cs t fr)) (hg2 : w.heap[g2]? = some (.cells cs2 t2 fr2))
    (hu : P.underlying ty = some d) (hd : (match d with | .struct _ | .array _ _ => true | _ => false) = true) (hi : (P.info? ty).map (·.size) = some cs.size) (hi2 : (P.info? ty).map (·.size) = some cs2.size) :
    (results fn tmps).run P w = .ok (.tuple #[.agg cs, .agg cs2, v]) w := by
  have hp' : tmps[p]?.getD undef = .pointer (some ⟨g, 0, none⟩) := by simpa using hp
  have hp2' : tmps[p2]?.getD undef = .pointer (some ⟨g2, 0, none⟩) := by simpa using hp2
  have hq' : tmps[q]?.getD undef = v := by simpa using hq
  simp [results, h, hp', hp2', hq', asAddr, run_loadVar_row w g t ty cs fr d hg hu hd hi, run_loadVar_row w g2 t2 ty cs2 fr2 d hg2 hu hd hi2]

/-- What True returns. -/
def truV (a s l : Int) : Value :=
  if Cs.chainOk a s ∧ 1 ≤ l ∧ l ≤ 100000 then .tuple #[fval (l * (10000 + a - s)).toNat 10000, fval (l * (10000 + a + s)).toNat 10000, .int .i64 0]
  else .tuple #[.agg #[.int .i64 0, .int .i64 0], .agg #[.int .i64 0, .int .i64 0], .int .i64 1]

theorem two_far {W : World} {b g : Nat} {t : TypeId} {a s : Int} (k : Bk W b t #[.int .i64 a, .int .i64 s]) (h : b < g) (x y z u : Value) :
    ((((W.setCell ⟨g, 0, none⟩ x).setCell ⟨g, 1, none⟩ y).setCell ⟨g + 1, 0, none⟩ z).setCell ⟨g + 1, 1, none⟩ u).cell? ⟨b, 0, none⟩ = some (.int .i64 a) ∧
    ((((W.setCell ⟨g, 0, none⟩ x).setCell ⟨g, 1, none⟩ y).setCell ⟨g + 1, 0, none⟩ z).setCell ⟨g + 1, 1, none⟩ u).cell? ⟨b, 1, none⟩ = some (.int .i64 s) := by
  have k4 := (((k.far (p := ⟨g, 0, none⟩) (by simp; omega) x).far (p := ⟨g, 1, none⟩) (by simp; omega) y).far (p := ⟨g + 1, 0, none⟩) (by simp; omega) z).far (p := ⟨g + 1, 1, none⟩) (by simp; omega) u
  exact ⟨(k4.cell 0).trans rfl, (k4.cell 1).trans rfl⟩

end Go.Proofs.YtncdeogpmodoaabGreatDoor
