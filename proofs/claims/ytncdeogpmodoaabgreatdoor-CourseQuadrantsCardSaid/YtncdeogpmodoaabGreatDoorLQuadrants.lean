/-
  CourseQuadrants: the law's walk.
-/
import Derived.Test.YtncdeogpmodoaabGreatDoorLaw
import Derived.Test.YtncdeogpmodoaabGreatDoorDir
import Derived.Test.YtncdeogpmodoaabGreatDoorRbe
set_option linter.unusedVariables false
set_option linter.unusedSimpArgs false
namespace Go.Proofs.YtncdeogpmodoaabGreatDoor
open Go.RowKit
set_option maxRecDepth 100000

set_option maxHeartbeats 8000000 in
theorem courseQuadrants_any (d : Int) (s : Cs.Bs) (hs64 : s.length ≤ 9223372036854775807) (w : World) (hE : Env w) :
    Calls Tryz.prog 7 #[.int .i64 d, sv s] w fun e w' => e = .returned (.bool true) ∧ Below w.heap.size w w' := by
  have M0 := Lib.hid (show Mea w w from ⟨Below.refl _ _, hE⟩)
  clear hE
  by_cases hl : 100 < s.length
  · have d0 : decide (100 < (s.length : Int)) = true := decide_eq_true (by omega)
    rw [sv_def]
    clear hl
    go_enter Tryz.func7, Tryz.ntmps7
    go_wp2_with fail
    refine (measured_any _ M0.out.e).mono ?_
    rintro e w1 ⟨rfl, hb⟩
    have M1 := Lib.hid (M0.out.next hb)
    clear hb
    go_wp2_with fail
    go_ret
    exact ⟨rfl, M1.out.b⟩
  · have d0 : decide (100 < (s.length : Int)) = false := decide_eq_false (by omega)
    have hs : s.length ≤ 1000000 := by omega
    have b1 := fun W h => Bearing_any s hs W h
    have b2 := fun W => rBearing_any s W
    have b3 := fun W h => Quadrant_any d W h
    have b4 := fun W => rQuadrant_any d W
    obtain ⟨⟨a, e⟩, hr1⟩ : ∃ r, Cs.berF s = r := ⟨_, rfl⟩
    obtain ⟨T, hT⟩ : ∃ r, Cs.quadF d = r := ⟨_, rfl⟩
    simp only [hr1, hT, sv_def] at b1 b2 b3 b4 ⊢
    have B1 := Lib.hid b1
    have B2 := Lib.hid b2
    have B3 := Lib.hid b3
    have B4 := Lib.hid b4
    clear b1 b2 b3 b4 hr1 hT hl hs
    go_enter Tryz.func7, Tryz.ntmps7
    go_wp2_with fail
    refine (B1.out _ M0.out.e).mono ?_
    rintro e w1 ⟨rfl, hb⟩
    have M1 := Lib.hid (M0.out.next hb)
    clear hb
    go_wp2_with fail
    refine (B2.out _).mono ?_
    rintro e w2 ⟨rfl, hb⟩
    have M2 := Lib.hid (M1.out.next hb)
    clear hb
    go_wp2_with fail
    refine (measured_any _ M2.out.e).mono ?_
    rintro e w3 ⟨rfl, hb⟩
    have M3 := Lib.hid (M2.out.next hb)
    clear hb
    go_wp2_with fail
    refine (B3.out _ M3.out.e).mono ?_
    rintro e w4 ⟨rfl, hb⟩
    have M4 := Lib.hid (M3.out.next hb)
    clear hb
    go_wp2_with fail
    refine (B4.out _).mono ?_
    rintro e w5 ⟨rfl, hb⟩
    have M5 := Lib.hid (M4.out.next hb)
    clear hb
    go_wp2_with fail
    go_ret
    exact ⟨rfl, M5.out.b⟩

end Go.Proofs.YtncdeogpmodoaabGreatDoor
