/-
  CourseRoots: the law's walk.
-/
import Derived.Test.YtncdeogpmodoaaaGreatDoorLaw
set_option linter.unusedVariables false
set_option linter.unusedSimpArgs false
namespace Go.Proofs.YtncdeogpmodoaaaGreatDoor
open Go.RowKit
set_option maxRecDepth 100000

set_option maxHeartbeats 8000000 in
theorem courseRoots_any (n : Int) (h0 : -9223372036854775808 ≤ n) (h1 : n ≤ 9223372036854775807) (w : World) (hE : Env w) :
    Calls Tryz.prog 4 #[.int .i64 n] w fun e w' => e = .returned (.bool true) ∧ Below w.heap.size w w' := by
  have M0 := Lib.hid (show Mea w w from ⟨Below.refl _ _, hE⟩)
  have b1 := fun W => root_any n h0 h1 W
  have b2 := fun W => rootUp_any n h0 h1 W
  have b3 := fun W => rroot_any n h0 h1 W
  have b4 := fun W => rrootUp_any n h0 h1 W
  have hup : Cs.rootUp n = if Cs.root n * Cs.root n < n then Cs.root n + 1 else Cs.root n := rfl
  by_cases hneg : n < 0
  · have hr := Cs.root_neg hneg
    have hu : Cs.rootUp n = 0 := by rw [hup, hr, if_neg (by omega)]
    rw [hr] at b1 b3
    rw [hu] at b2 b4
    have B1 := Lib.hid b1
    have B2 := Lib.hid b2
    have B3 := Lib.hid b3
    have B4 := Lib.hid b4
    clear b1 b2 b3 b4 hr hu hup hE
    go_enter Tryz.func4, Tryz.ntmps4
    go_wp2_with fail
    refine (B1.out _).mono ?_
    rintro e w' ⟨rfl, rfl⟩
    go_wp2_with fail
    refine (B2.out _).mono ?_
    rintro e w' ⟨rfl, rfl⟩
    go_wp2_with fail
    refine (B3.out _).mono ?_
    rintro e w' ⟨rfl, rfl⟩
    go_wp2_with fail
    refine (B4.out _).mono ?_
    rintro e w' ⟨rfl, rfl⟩
    go_wp2_with fail
    refine (measured_any _ M0.out.e).mono ?_
    rintro e w1 ⟨rfl, hb⟩
    have M1 := Lib.hid (M0.out.next hb)
    clear hb
    go_wp2_with fail
    go_ret
    exact ⟨rfl, M1.out.b⟩
  · obtain ⟨r0, r1⟩ := Cs.root_le h1
    obtain ⟨_, r2, _⟩ := Cs.root_spec (n := n) (by omega) h1
    rcases Int.lt_or_le (Cs.root n * Cs.root n) n with hl | hl
    · rw [if_pos hl] at hup
      rw [hup] at b2 b4
      obtain ⟨a, ha⟩ : ∃ a, Cs.root n = a := ⟨_, rfl⟩
      rw [ha] at b1 b2 b3 b4 r0 r1 r2 hl
      have B1 := Lib.hid b1
      have B2 := Lib.hid b2
      have B3 := Lib.hid b3
      have B4 := Lib.hid b4
      have e1 : (a * a == n) = false := by simp; omega
      have e2 : (a == a + 1) = false := by simp; omega
      have hw : wrap64 (a * a) = a * a := by have := Int.mul_nonneg r0 r0; unfold wrap64; omega
      have d1 : decide (a < 0) = false := decide_eq_false (by omega)
      have d2 : decide (3037000499 < a) = false := decide_eq_false (by omega)
      have d3 : decide (a + 1 < a) = false := decide_eq_false (by omega)
      have d4 : decide (a < a) = false := decide_eq_false (by omega)
      have d5 : decide (n < a * a) = false := decide_eq_false (by omega)
      have d6 : decide (n < 0) = false := decide_eq_false hneg
      have d7 : decide (a + 1 < a + 1) = false := decide_eq_false (by omega)
      clear b1 b2 b3 b4 hup hE ha
      go_enter Tryz.func4, Tryz.ntmps4
      go_wp2_with fail
      refine (B1.out _).mono ?_
      rintro e w' ⟨rfl, rfl⟩
      go_wp2_with fail
      refine (B2.out _).mono ?_
      rintro e w' ⟨rfl, rfl⟩
      go_wp2_with fail
      refine (B3.out _).mono ?_
      rintro e w' ⟨rfl, rfl⟩
      go_wp2_with fail
      refine (B4.out _).mono ?_
      rintro e w' ⟨rfl, rfl⟩
      go_wp2_with fail
      refine (measured_any _ M0.out.e).mono ?_
      rintro e w1 ⟨rfl, hb⟩
      have M1 := Lib.hid (M0.out.next hb)
      clear hb
      go_wp2_with fail
      go_ret
      exact ⟨rfl, M1.out.b⟩
    · rw [if_neg (by omega)] at hup
      rw [hup] at b2 b4
      obtain ⟨a, ha⟩ : ∃ a, Cs.root n = a := ⟨_, rfl⟩
      rw [ha] at b1 b2 b3 b4 r0 r1 r2 hl
      have B1 := Lib.hid b1
      have B2 := Lib.hid b2
      have B3 := Lib.hid b3
      have B4 := Lib.hid b4
      have e1 : (a * a == n) = true := by simp; omega
      have hw : wrap64 (a * a) = a * a := by have := Int.mul_nonneg r0 r0; unfold wrap64; omega
      have d1 : decide (a < 0) = false := decide_eq_false (by omega)
      have d2 : decide (3037000499 < a) = false := decide_eq_false (by omega)
      have d3 : decide (a + 1 < a) = false := decide_eq_false (by omega)
      have d4 : decide (a < a) = false := decide_eq_false (by omega)
      have d5 : decide (n < a * a) = false := decide_eq_false (by omega)
      have d6 : decide (n < 0) = false := decide_eq_false hneg
      have d7 : decide (a + 1 < a + 1) = false := decide_eq_false (by omega)
      clear b1 b2 b3 b4 hup hE ha
      go_enter Tryz.func4, Tryz.ntmps4
      go_wp2_with fail
      refine (B1.out _).mono ?_
      rintro e w' ⟨rfl, rfl⟩
      go_wp2_with fail
      refine (B2.out _).mono ?_
      rintro e w' ⟨rfl, rfl⟩
      go_wp2_with fail
      refine (B3.out _).mono ?_
      rintro e w' ⟨rfl, rfl⟩
      go_wp2_with fail
      refine (B4.out _).mono ?_
      rintro e w' ⟨rfl, rfl⟩
      go_wp2_with fail
      refine (measured_any _ M0.out.e).mono ?_
      rintro e w1 ⟨rfl, hb⟩
      have M1 := Lib.hid (M0.out.next hb)
      clear hb
      go_wp2_with fail
      go_ret
      exact ⟨rfl, M1.out.b⟩

end Go.Proofs.YtncdeogpmodoaaaGreatDoor
