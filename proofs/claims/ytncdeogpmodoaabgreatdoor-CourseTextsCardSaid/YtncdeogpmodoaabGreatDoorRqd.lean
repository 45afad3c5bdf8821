/-
  The reference's Quadrant.
-/
import Derived.Test.YtncdeogpmodoaabGreatDoorRdg
set_option linter.unusedVariables false
set_option linter.unusedSimpArgs false
namespace Go.Proofs.YtncdeogpmodoaabGreatDoor
open Go.RowKit Go.Lib
set_option maxRecDepth 100000

theorem rdigits_int (q : Int) (h0 : 0 ≤ q) (h1 : q ≤ 9223372036854775807) (w : World) :
    Calls Tryz.prog 52 #[.int .i64 q] w fun e w' => e = .returned (sv (Lib.itoa q)) ∧ Below w.heap.size w w' := by
  have h := rdigits_any q.toNat (by omega) w
  rw [show ((q.toNat : Nat) : Int) = q by omega] at h
  rw [Cs.itoa_nn h0]
  exact h

set_option maxHeartbeats 1000000 in
theorem rquadrant0 (d : Int) (m : Nat) (hm : Cs.norm d = m) (h0 : ¬ m % 90 = 0) (h1 : m < 90) (w : World) :
    Calls Tryz.prog 27 #[.int .i64 d] w fun e w' => e = .returned (sv (Cs.wNorth ++ [32] ++ Lib.itoa ((m : Int)) ++ [32] ++ Cs.wEast)) ∧ Below w.heap.size w w' := by
  have hN := fun w => rnorm_any d w
  rw [hm] at hN
  have hI := fun w => rdigits_int ((m : Int)) (by omega) (by omega) w
  have hl := itoa_len (q := (m : Int)) (by omega) (by omega)
  obtain ⟨t, ht⟩ : ∃ t, Lib.itoa ((m : Int)) = t := ⟨_, rfl⟩
  rw [ht] at hI hl ⊢
  have c1 := fun w => cat2 (P := Tryz.prog) [110, 111, 114, 116, 104, 32] t (by decide) (by omega) w
  have c2 := fun w => cat2 (P := Tryz.prog) ([110, 111, 114, 116, 104, 32] ++ t) [32, 101, 97, 115, 116] (by simp; omega) (by decide) w
  have hfin : ∀ W, Below w.heap.size w W → (Ending.returned (.string ⟨([110, 111, 114, 116, 104, 32] ++ t ++ [32, 101, 97, 115, 116]).toArray⟩) = .returned (sv (Cs.wNorth ++ [32] ++ t ++ [32] ++ Cs.wEast)) ∧ Below w.heap.size w W) := fun W h => ⟨by rw [sv_def]; simp [Cs.wNorth, Cs.wEast], h⟩
  have hm0 : (m : Int) < 360 := by have := (Cs.norm_range d).2; omega
  have t0 : ((m : Int) == 0) = false := beq_eq_false_iff_ne.2 (by omega)
  have t1 : decide ((m : Int) < 90) = true := decide_eq_true (by omega)
  obtain ⟨x1, hx1⟩ : ∃ x, ([110, 111, 114, 116, 104, 32] ++ t : Cs.Bs) = x := ⟨_, rfl⟩
  rw [hx1] at c1 c2 hfin
  obtain ⟨x2, hx2⟩ : ∃ x, (x1 ++ [32, 101, 97, 115, 116] : Cs.Bs) = x := ⟨_, rfl⟩
  rw [hx2] at c2 hfin
  have HN := Lib.hid hN
  have HI := Lib.hid hI
  have HF := Lib.hid hfin
  clear hN hI hfin hm ht hx1 hx2 hl
  go_enter Tryz.func27, Tryz.ntmps27
  go_wp2_with fail
  refine (HN.out _).mono ?_
  rintro e w' ⟨rfl, rfl⟩
  go_wp2_with fail
  refine (HI.out _).mono ?_
  rintro e w1 ⟨rfl, hb1⟩
  rw [sv_def]
  go_wp2_with fail
  go_ret
  exact HF.out _ hb1

set_option maxHeartbeats 1000000 in
theorem rquadrant1 (d : Int) (m : Nat) (hm : Cs.norm d = m) (h0 : ¬ m % 90 = 0) (h1 : 90 < m) (h2 : m < 180) (w : World) :
    Calls Tryz.prog 27 #[.int .i64 d] w fun e w' => e = .returned (sv (Cs.wSouth ++ [32] ++ Lib.itoa (180 - (m : Int)) ++ [32] ++ Cs.wEast)) ∧ Below w.heap.size w w' := by
  have hN := fun w => rnorm_any d w
  rw [hm] at hN
  have hI := fun w => rdigits_int (180 - (m : Int)) (by omega) (by omega) w
  have hl := itoa_len (q := 180 - (m : Int)) (by omega) (by omega)
  obtain ⟨t, ht⟩ : ∃ t, Lib.itoa (180 - (m : Int)) = t := ⟨_, rfl⟩
  rw [ht] at hI hl ⊢
  have c1 := fun w => cat2 (P := Tryz.prog) [115, 111, 117, 116, 104, 32] t (by decide) (by omega) w
  have c2 := fun w => cat2 (P := Tryz.prog) ([115, 111, 117, 116, 104, 32] ++ t) [32, 101, 97, 115, 116] (by simp; omega) (by decide) w
  have hfin : ∀ W, Below w.heap.size w W → (Ending.returned (.string ⟨([115, 111, 117, 116, 104, 32] ++ t ++ [32, 101, 97, 115, 116]).toArray⟩) = .returned (sv (Cs.wSouth ++ [32] ++ t ++ [32] ++ Cs.wEast)) ∧ Below w.heap.size w W) := fun W h => ⟨by rw [sv_def]; simp [Cs.wSouth, Cs.wEast], h⟩
  have hm0 : (m : Int) < 360 := by have := (Cs.norm_range d).2; omega
  have t0 : ((m : Int) == 0) = false := beq_eq_false_iff_ne.2 (by omega)
  have t1 : decide ((m : Int) < 90) = false := decide_eq_false (by omega)
  have t2 : ((m : Int) == 90) = false := beq_eq_false_iff_ne.2 (by omega)
  have t3 : decide ((m : Int) < 180) = true := decide_eq_true (by omega)
  obtain ⟨x1, hx1⟩ : ∃ x, ([115, 111, 117, 116, 104, 32] ++ t : Cs.Bs) = x := ⟨_, rfl⟩
  rw [hx1] at c1 c2 hfin
  obtain ⟨x2, hx2⟩ : ∃ x, (x1 ++ [32, 101, 97, 115, 116] : Cs.Bs) = x := ⟨_, rfl⟩
  rw [hx2] at c2 hfin
  have HN := Lib.hid hN
  have HI := Lib.hid hI
  have HF := Lib.hid hfin
  clear hN hI hfin hm ht hx1 hx2 hl
  go_enter Tryz.func27, Tryz.ntmps27
  go_wp2_with fail
  refine (HN.out _).mono ?_
  rintro e w' ⟨rfl, rfl⟩
  go_wp2_with fail
  refine (HI.out _).mono ?_
  rintro e w1 ⟨rfl, hb1⟩
  rw [sv_def]
  go_wp2_with fail
  go_ret
  exact HF.out _ hb1

set_option maxHeartbeats 1000000 in
theorem rquadrant2 (d : Int) (m : Nat) (hm : Cs.norm d = m) (h0 : ¬ m % 90 = 0) (h1 : 180 < m) (h2 : m < 270) (w : World) :
    Calls Tryz.prog 27 #[.int .i64 d] w fun e w' => e = .returned (sv (Cs.wSouth ++ [32] ++ Lib.itoa ((m : Int) - 180) ++ [32] ++ Cs.wWest)) ∧ Below w.heap.size w w' := by
  have hN := fun w => rnorm_any d w
  rw [hm] at hN
  have hI := fun w => rdigits_int ((m : Int) - 180) (by omega) (by omega) w
  have hl := itoa_len (q := (m : Int) - 180) (by omega) (by omega)
  obtain ⟨t, ht⟩ : ∃ t, Lib.itoa ((m : Int) - 180) = t := ⟨_, rfl⟩
  rw [ht] at hI hl ⊢
  have c1 := fun w => cat2 (P := Tryz.prog) [115, 111, 117, 116, 104, 32] t (by decide) (by omega) w
  have c2 := fun w => cat2 (P := Tryz.prog) ([115, 111, 117, 116, 104, 32] ++ t) [32, 119, 101, 115, 116] (by simp; omega) (by decide) w
  have hfin : ∀ W, Below w.heap.size w W → (Ending.returned (.string ⟨([115, 111, 117, 116, 104, 32] ++ t ++ [32, 119, 101, 115, 116]).toArray⟩) = .returned (sv (Cs.wSouth ++ [32] ++ t ++ [32] ++ Cs.wWest)) ∧ Below w.heap.size w W) := fun W h => ⟨by rw [sv_def]; simp [Cs.wSouth, Cs.wWest], h⟩
  have hm0 : (m : Int) < 360 := by have := (Cs.norm_range d).2; omega
  have t0 : ((m : Int) == 0) = false := beq_eq_false_iff_ne.2 (by omega)
  have t1 : decide ((m : Int) < 90) = false := decide_eq_false (by omega)
  have t2 : ((m : Int) == 90) = false := beq_eq_false_iff_ne.2 (by omega)
  have t3 : decide ((m : Int) < 180) = false := decide_eq_false (by omega)
  have t4 : ((m : Int) == 180) = false := beq_eq_false_iff_ne.2 (by omega)
  have t5 : decide ((m : Int) < 270) = true := decide_eq_true (by omega)
  obtain ⟨x1, hx1⟩ : ∃ x, ([115, 111, 117, 116, 104, 32] ++ t : Cs.Bs) = x := ⟨_, rfl⟩
  rw [hx1] at c1 c2 hfin
  obtain ⟨x2, hx2⟩ : ∃ x, (x1 ++ [32, 119, 101, 115, 116] : Cs.Bs) = x := ⟨_, rfl⟩
  rw [hx2] at c2 hfin
  have HN := Lib.hid hN
  have HI := Lib.hid hI
  have HF := Lib.hid hfin
  clear hN hI hfin hm ht hx1 hx2 hl
  go_enter Tryz.func27, Tryz.ntmps27
  go_wp2_with fail
  refine (HN.out _).mono ?_
  rintro e w' ⟨rfl, rfl⟩
  go_wp2_with fail
  refine (HI.out _).mono ?_
  rintro e w1 ⟨rfl, hb1⟩
  rw [sv_def]
  go_wp2_with fail
  go_ret
  exact HF.out _ hb1

set_option maxHeartbeats 1000000 in
theorem rquadrant3 (d : Int) (m : Nat) (hm : Cs.norm d = m) (h0 : ¬ m % 90 = 0) (h1 : 270 < m) (h2 : m < 360) (w : World) :
    Calls Tryz.prog 27 #[.int .i64 d] w fun e w' => e = .returned (sv (Cs.wNorth ++ [32] ++ Lib.itoa (360 - (m : Int)) ++ [32] ++ Cs.wWest)) ∧ Below w.heap.size w w' := by
  have hN := fun w => rnorm_any d w
  rw [hm] at hN
  have hI := fun w => rdigits_int (360 - (m : Int)) (by omega) (by omega) w
  have hl := itoa_len (q := 360 - (m : Int)) (by omega) (by omega)
  obtain ⟨t, ht⟩ : ∃ t, Lib.itoa (360 - (m : Int)) = t := ⟨_, rfl⟩
  rw [ht] at hI hl ⊢
  have c1 := fun w => cat2 (P := Tryz.prog) [110, 111, 114, 116, 104, 32] t (by decide) (by omega) w
  have c2 := fun w => cat2 (P := Tryz.prog) ([110, 111, 114, 116, 104, 32] ++ t) [32, 119, 101, 115, 116] (by simp; omega) (by decide) w
  have hfin : ∀ W, Below w.heap.size w W → (Ending.returned (.string ⟨([110, 111, 114, 116, 104, 32] ++ t ++ [32, 119, 101, 115, 116]).toArray⟩) = .returned (sv (Cs.wNorth ++ [32] ++ t ++ [32] ++ Cs.wWest)) ∧ Below w.heap.size w W) := fun W h => ⟨by rw [sv_def]; simp [Cs.wNorth, Cs.wWest], h⟩
  have hm0 : (m : Int) < 360 := by have := (Cs.norm_range d).2; omega
  have t0 : ((m : Int) == 0) = false := beq_eq_false_iff_ne.2 (by omega)
  have t1 : decide ((m : Int) < 90) = false := decide_eq_false (by omega)
  have t2 : ((m : Int) == 90) = false := beq_eq_false_iff_ne.2 (by omega)
  have t3 : decide ((m : Int) < 180) = false := decide_eq_false (by omega)
  have t4 : ((m : Int) == 180) = false := beq_eq_false_iff_ne.2 (by omega)
  have t5 : decide ((m : Int) < 270) = false := decide_eq_false (by omega)
  have t6 : ((m : Int) == 270) = false := beq_eq_false_iff_ne.2 (by omega)
  obtain ⟨x1, hx1⟩ : ∃ x, ([110, 111, 114, 116, 104, 32] ++ t : Cs.Bs) = x := ⟨_, rfl⟩
  rw [hx1] at c1 c2 hfin
  obtain ⟨x2, hx2⟩ : ∃ x, (x1 ++ [32, 119, 101, 115, 116] : Cs.Bs) = x := ⟨_, rfl⟩
  rw [hx2] at c2 hfin
  have HN := Lib.hid hN
  have HI := Lib.hid hI
  have HF := Lib.hid hfin
  clear hN hI hfin hm ht hx1 hx2 hl
  go_enter Tryz.func27, Tryz.ntmps27
  go_wp2_with fail
  refine (HN.out _).mono ?_
  rintro e w' ⟨rfl, rfl⟩
  go_wp2_with fail
  refine (HI.out _).mono ?_
  rintro e w1 ⟨rfl, hb1⟩
  rw [sv_def]
  go_wp2_with fail
  go_ret
  exact HF.out _ hb1

theorem rquad_end0 (d : Int) (m : Nat) (hm : Cs.norm d = m) (h0 : m = 0) (w : World) :
    Calls Tryz.prog 27 #[.int .i64 d] w fun e w' => e = .returned (sv Cs.wNorth) ∧ Below w.heap.size w w' := by
  have hN := fun w => rnorm_any d w
  rw [hm] at hN
  have t0 : ((m : Int) == 0) = true := by simp; omega
  have HN := Lib.hid hN
  clear hN hm h0
  go_enter Tryz.func27, Tryz.ntmps27
  go_wp2_with fail
  refine (HN.out _).mono ?_
  rintro e w' ⟨rfl, rfl⟩
  go_wp2_with fail
  go_ret
  exact ⟨rfl, Below.refl _ _⟩

theorem rquad_end90 (d : Int) (m : Nat) (hm : Cs.norm d = m) (h0 : m = 90) (w : World) :
    Calls Tryz.prog 27 #[.int .i64 d] w fun e w' => e = .returned (sv Cs.wEast) ∧ Below w.heap.size w w' := by
  have hN := fun w => rnorm_any d w
  rw [hm] at hN
  have t0 : ((m : Int) == 0) = false := beq_eq_false_iff_ne.2 (by omega)
  have t1 : decide ((m : Int) < 90) = false := decide_eq_false (by omega)
  have t2 : ((m : Int) == 90) = true := by simp; omega
  have HN := Lib.hid hN
  clear hN hm h0
  go_enter Tryz.func27, Tryz.ntmps27
  go_wp2_with fail
  refine (HN.out _).mono ?_
  rintro e w' ⟨rfl, rfl⟩
  go_wp2_with fail
  go_ret
  exact ⟨rfl, Below.refl _ _⟩

theorem rquad_end180 (d : Int) (m : Nat) (hm : Cs.norm d = m) (h0 : m = 180) (w : World) :
    Calls Tryz.prog 27 #[.int .i64 d] w fun e w' => e = .returned (sv Cs.wSouth) ∧ Below w.heap.size w w' := by
  have hN := fun w => rnorm_any d w
  rw [hm] at hN
  have t0 : ((m : Int) == 0) = false := beq_eq_false_iff_ne.2 (by omega)
  have t1 : decide ((m : Int) < 90) = false := decide_eq_false (by omega)
  have t2 : ((m : Int) == 90) = false := beq_eq_false_iff_ne.2 (by omega)
  have t3 : decide ((m : Int) < 180) = false := decide_eq_false (by omega)
  have t4 : ((m : Int) == 180) = true := by simp; omega
  have HN := Lib.hid hN
  clear hN hm h0
  go_enter Tryz.func27, Tryz.ntmps27
  go_wp2_with fail
  refine (HN.out _).mono ?_
  rintro e w' ⟨rfl, rfl⟩
  go_wp2_with fail
  go_ret
  exact ⟨rfl, Below.refl _ _⟩

theorem rquad_end270 (d : Int) (m : Nat) (hm : Cs.norm d = m) (h0 : m = 270) (w : World) :
    Calls Tryz.prog 27 #[.int .i64 d] w fun e w' => e = .returned (sv Cs.wWest) ∧ Below w.heap.size w w' := by
  have hN := fun w => rnorm_any d w
  rw [hm] at hN
  have t0 : ((m : Int) == 0) = false := beq_eq_false_iff_ne.2 (by omega)
  have t1 : decide ((m : Int) < 90) = false := decide_eq_false (by omega)
  have t2 : ((m : Int) == 90) = false := beq_eq_false_iff_ne.2 (by omega)
  have t3 : decide ((m : Int) < 180) = false := decide_eq_false (by omega)
  have t4 : ((m : Int) == 180) = false := beq_eq_false_iff_ne.2 (by omega)
  have t5 : decide ((m : Int) < 270) = false := decide_eq_false (by omega)
  have t6 : ((m : Int) == 270) = true := by simp; omega
  have HN := Lib.hid hN
  clear hN hm h0
  go_enter Tryz.func27, Tryz.ntmps27
  go_wp2_with fail
  refine (HN.out _).mono ?_
  rintro e w' ⟨rfl, rfl⟩
  go_wp2_with fail
  go_ret
  exact ⟨rfl, Below.refl _ _⟩

theorem rQuadrant_any (d : Int) (w : World) :
    Calls Tryz.prog 27 #[.int .i64 d] w fun e w' => e = .returned (sv (Cs.quadF d)) ∧ Below w.heap.size w w' := by
  obtain ⟨m, hm⟩ : ∃ m : Nat, Cs.norm d = m := ⟨(Cs.norm d).toNat, by have := Cs.norm_range d; omega⟩
  have hr := Cs.norm_range d
  rw [hm] at hr
  by_cases h : m % 90 = 0
  · rw [quadF_end hm h]
    have h4 : m = 0 ∨ m = 90 ∨ m = 180 ∨ m = 270 := by omega
    rcases h4 with h4 | h4 | h4 | h4
    · have := rquad_end0 d m hm h4 w; rw [h4]; exact this
    · have := rquad_end90 d m hm h4 w; rw [h4]; exact this
    · have := rquad_end180 d m hm h4 w; rw [h4]; exact this
    · have := rquad_end270 d m hm h4 w; rw [h4]; exact this
  · obtain ⟨q1, q2, q3, q4⟩ := quadF_mid hm h
    rcases (show m < 90 ∨ (90 < m ∧ m < 180) ∨ (180 < m ∧ m < 270) ∨ (270 < m ∧ m < 360) by omega) with h1 | ⟨h1, h2⟩ | ⟨h1, h2⟩ | ⟨h1, h2⟩
    · rw [q1 h1]; exact rquadrant0 d m hm h h1 w
    · rw [q2 (by omega) h2]; exact rquadrant1 d m hm h h1 h2 w
    · rw [q3 (by omega) h2]; exact rquadrant2 d m hm h h1 h2 w
    · rw [q4 (by omega)]; exact rquadrant3 d m hm h h1 h2 w

end Go.Proofs.YtncdeogpmodoaabGreatDoor
