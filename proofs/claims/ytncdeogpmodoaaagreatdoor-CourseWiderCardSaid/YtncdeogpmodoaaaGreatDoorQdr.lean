/-
  Quadrant of course.
-/
import Derived.Test.YtncdeogpmodoaaaGreatDoorEnv
set_option linter.unusedVariables false
set_option linter.unusedSimpArgs false
namespace Go.Proofs.YtncdeogpmodoaaaGreatDoor
open Go.RowKit Go.Lib
set_option maxRecDepth 100000

theorem cat2 {P : Program} (x y : Cs.Bs) (hx : x.length ≤ 1000000) (hy : y.length ≤ 1000000) (w : World) : (Op.stringOp .add ⟨x.toArray⟩ ⟨y.toArray⟩).run P w = .ok (.string ⟨(x ++ y).toArray⟩) w :=
  run_string_add_lists w x y (by omega) (by omega)
theorem itoa_len {q : Int} (h0 : 0 ≤ q) (h1 : q ≤ 9223372036854775807) : (Lib.itoa q).length ≤ 100 := by
  rw [Cs.itoa_nn h0, Lib.decDigits_length]
  exact Cs.nDigits_le (by decide) (Nat.lt_of_lt_of_le (show q.toNat < 10 ^ 19 by omega) (Nat.pow_le_pow_right (by decide) (by decide)))

set_option maxHeartbeats 1000000 in
theorem quadrant0 (d : Int) (m : Nat) (hm : Cs.norm d = m) (h0 : ¬ m % 90 = 0) (h1 : m < 90) (w : World) (hE : Env w) :
    Calls Tryz.prog 60 #[.int .i64 d] w fun e w' => e = .returned (sv (Cs.wNorth ++ [32] ++ Lib.itoa ((m : Int)) ++ [32] ++ Cs.wEast)) ∧ Below w.heap.size w w' := by
  have hN := fun w => norm_any d w
  rw [hm] at hN
  have hI := fun w h => itoa_any ((m : Int)) (by omega) (by omega) w h
  have hl := itoa_len (q := (m : Int)) (by omega) (by omega)
  obtain ⟨t, ht⟩ : ∃ t, Lib.itoa ((m : Int)) = t := ⟨_, rfl⟩
  rw [ht] at hI hl ⊢
  have c1 := fun w => cat2 (P := Tryz.prog) [110, 111, 114, 116, 104, 32] t (by decide) (by omega) w
  have c2 := fun w => cat2 (P := Tryz.prog) ([110, 111, 114, 116, 104, 32] ++ t) [32, 101, 97, 115, 116] (by simp; omega) (by decide) w
  have hfin : ∀ W, Below w.heap.size w W → (Ending.returned (.string ⟨([110, 111, 114, 116, 104, 32] ++ t ++ [32, 101, 97, 115, 116]).toArray⟩) = .returned (sv (Cs.wNorth ++ [32] ++ t ++ [32] ++ Cs.wEast)) ∧ Below w.heap.size w W) := fun W h => ⟨by rw [sv_def]; simp [Cs.wNorth, Cs.wEast], h⟩
  have hd2 : ((m : Int) % 90 == 0) = false := beq_eq_false_iff_ne.2 (by omega)
  have hm0 : (m : Int) < 360 := by have := (Cs.norm_range d).2; omega
  have g0 : (m : Int) < 90 := by omega
  obtain ⟨x1, hx1⟩ : ∃ x, ([110, 111, 114, 116, 104, 32] ++ t : Cs.Bs) = x := ⟨_, rfl⟩
  rw [hx1] at c1 c2 hfin
  obtain ⟨x2, hx2⟩ : ∃ x, (x1 ++ [32, 101, 97, 115, 116] : Cs.Bs) = x := ⟨_, rfl⟩
  rw [hx2] at c2 hfin
  have HN := Lib.hid hN
  have HI := Lib.hid hI
  have HF := Lib.hid hfin
  have HE := Lib.hid hE
  clear hN hI hfin hm ht hx1 hx2 hE hl
  go_enter Tryz.func60, Tryz.ntmps60
  go_wp2_with (go_at_call 15; refine (HN.out _).mono ?_; rintro e w' ⟨rfl, rfl⟩)
  refine (HI.out _ HE.out).mono ?_
  rintro e w1 ⟨rfl, hb1⟩
  rw [sv_def]
  go_wp2_with fail
  go_ret
  exact HF.out _ hb1

set_option maxHeartbeats 1000000 in
theorem quadrant1 (d : Int) (m : Nat) (hm : Cs.norm d = m) (h0 : ¬ m % 90 = 0) (h1 : 90 < m) (h2 : m < 180) (w : World) (hE : Env w) :
    Calls Tryz.prog 60 #[.int .i64 d] w fun e w' => e = .returned (sv (Cs.wSouth ++ [32] ++ Lib.itoa (180 - (m : Int)) ++ [32] ++ Cs.wEast)) ∧ Below w.heap.size w w' := by
  have hN := fun w => norm_any d w
  rw [hm] at hN
  have hI := fun w h => itoa_any (180 - (m : Int)) (by omega) (by omega) w h
  have hl := itoa_len (q := 180 - (m : Int)) (by omega) (by omega)
  obtain ⟨t, ht⟩ : ∃ t, Lib.itoa (180 - (m : Int)) = t := ⟨_, rfl⟩
  rw [ht] at hI hl ⊢
  have c1 := fun w => cat2 (P := Tryz.prog) [115, 111, 117, 116, 104, 32] t (by decide) (by omega) w
  have c2 := fun w => cat2 (P := Tryz.prog) ([115, 111, 117, 116, 104, 32] ++ t) [32, 101, 97, 115, 116] (by simp; omega) (by decide) w
  have hfin : ∀ W, Below w.heap.size w W → (Ending.returned (.string ⟨([115, 111, 117, 116, 104, 32] ++ t ++ [32, 101, 97, 115, 116]).toArray⟩) = .returned (sv (Cs.wSouth ++ [32] ++ t ++ [32] ++ Cs.wEast)) ∧ Below w.heap.size w W) := fun W h => ⟨by rw [sv_def]; simp [Cs.wSouth, Cs.wEast], h⟩
  have hd2 : ((m : Int) % 90 == 0) = false := beq_eq_false_iff_ne.2 (by omega)
  have hm0 : (m : Int) < 360 := by have := (Cs.norm_range d).2; omega
  have g0 : 90 ≤ (m : Int) := by omega
  have g1 : (m : Int) < 180 := by omega
  obtain ⟨x1, hx1⟩ : ∃ x, ([115, 111, 117, 116, 104, 32] ++ t : Cs.Bs) = x := ⟨_, rfl⟩
  rw [hx1] at c1 c2 hfin
  obtain ⟨x2, hx2⟩ : ∃ x, (x1 ++ [32, 101, 97, 115, 116] : Cs.Bs) = x := ⟨_, rfl⟩
  rw [hx2] at c2 hfin
  have HN := Lib.hid hN
  have HI := Lib.hid hI
  have HF := Lib.hid hfin
  have HE := Lib.hid hE
  clear hN hI hfin hm ht hx1 hx2 hE hl
  go_enter Tryz.func60, Tryz.ntmps60
  go_wp2_with (go_at_call 15; refine (HN.out _).mono ?_; rintro e w' ⟨rfl, rfl⟩)
  refine (HI.out _ HE.out).mono ?_
  rintro e w1 ⟨rfl, hb1⟩
  rw [sv_def]
  go_wp2_with fail
  go_ret
  exact HF.out _ hb1

set_option maxHeartbeats 1000000 in
theorem quadrant2 (d : Int) (m : Nat) (hm : Cs.norm d = m) (h0 : ¬ m % 90 = 0) (h1 : 180 < m) (h2 : m < 270) (w : World) (hE : Env w) :
    Calls Tryz.prog 60 #[.int .i64 d] w fun e w' => e = .returned (sv (Cs.wSouth ++ [32] ++ Lib.itoa ((m : Int) - 180) ++ [32] ++ Cs.wWest)) ∧ Below w.heap.size w w' := by
  have hN := fun w => norm_any d w
  rw [hm] at hN
  have hI := fun w h => itoa_any ((m : Int) - 180) (by omega) (by omega) w h
  have hl := itoa_len (q := (m : Int) - 180) (by omega) (by omega)
  obtain ⟨t, ht⟩ : ∃ t, Lib.itoa ((m : Int) - 180) = t := ⟨_, rfl⟩
  rw [ht] at hI hl ⊢
  have c1 := fun w => cat2 (P := Tryz.prog) [115, 111, 117, 116, 104, 32] t (by decide) (by omega) w
  have c2 := fun w => cat2 (P := Tryz.prog) ([115, 111, 117, 116, 104, 32] ++ t) [32, 119, 101, 115, 116] (by simp; omega) (by decide) w
  have hfin : ∀ W, Below w.heap.size w W → (Ending.returned (.string ⟨([115, 111, 117, 116, 104, 32] ++ t ++ [32, 119, 101, 115, 116]).toArray⟩) = .returned (sv (Cs.wSouth ++ [32] ++ t ++ [32] ++ Cs.wWest)) ∧ Below w.heap.size w W) := fun W h => ⟨by rw [sv_def]; simp [Cs.wSouth, Cs.wWest], h⟩
  have hd2 : ((m : Int) % 90 == 0) = false := beq_eq_false_iff_ne.2 (by omega)
  have hm0 : (m : Int) < 360 := by have := (Cs.norm_range d).2; omega
  have g0 : 90 ≤ (m : Int) := by omega
  have g1 : 180 ≤ (m : Int) := by omega
  have g2 : (m : Int) < 270 := by omega
  obtain ⟨x1, hx1⟩ : ∃ x, ([115, 111, 117, 116, 104, 32] ++ t : Cs.Bs) = x := ⟨_, rfl⟩
  rw [hx1] at c1 c2 hfin
  obtain ⟨x2, hx2⟩ : ∃ x, (x1 ++ [32, 119, 101, 115, 116] : Cs.Bs) = x := ⟨_, rfl⟩
  rw [hx2] at c2 hfin
  have HN := Lib.hid hN
  have HI := Lib.hid hI
  have HF := Lib.hid hfin
  have HE := Lib.hid hE
  clear hN hI hfin hm ht hx1 hx2 hE hl
  go_enter Tryz.func60, Tryz.ntmps60
  go_wp2_with (go_at_call 15; refine (HN.out _).mono ?_; rintro e w' ⟨rfl, rfl⟩)
  refine (HI.out _ HE.out).mono ?_
  rintro e w1 ⟨rfl, hb1⟩
  rw [sv_def]
  go_wp2_with fail
  go_ret
  exact HF.out _ hb1

set_option maxHeartbeats 1000000 in
theorem quadrant3 (d : Int) (m : Nat) (hm : Cs.norm d = m) (h0 : ¬ m % 90 = 0) (h1 : 270 < m) (h2 : m < 360) (w : World) (hE : Env w) :
    Calls Tryz.prog 60 #[.int .i64 d] w fun e w' => e = .returned (sv (Cs.wNorth ++ [32] ++ Lib.itoa (360 - (m : Int)) ++ [32] ++ Cs.wWest)) ∧ Below w.heap.size w w' := by
  have hN := fun w => norm_any d w
  rw [hm] at hN
  have hI := fun w h => itoa_any (360 - (m : Int)) (by omega) (by omega) w h
  have hl := itoa_len (q := 360 - (m : Int)) (by omega) (by omega)
  obtain ⟨t, ht⟩ : ∃ t, Lib.itoa (360 - (m : Int)) = t := ⟨_, rfl⟩
  rw [ht] at hI hl ⊢
  have c1 := fun w => cat2 (P := Tryz.prog) [110, 111, 114, 116, 104, 32] t (by decide) (by omega) w
  have c2 := fun w => cat2 (P := Tryz.prog) ([110, 111, 114, 116, 104, 32] ++ t) [32, 119, 101, 115, 116] (by simp; omega) (by decide) w
  have hfin : ∀ W, Below w.heap.size w W → (Ending.returned (.string ⟨([110, 111, 114, 116, 104, 32] ++ t ++ [32, 119, 101, 115, 116]).toArray⟩) = .returned (sv (Cs.wNorth ++ [32] ++ t ++ [32] ++ Cs.wWest)) ∧ Below w.heap.size w W) := fun W h => ⟨by rw [sv_def]; simp [Cs.wNorth, Cs.wWest], h⟩
  have hd2 : ((m : Int) % 90 == 0) = false := beq_eq_false_iff_ne.2 (by omega)
  have hm0 : (m : Int) < 360 := by have := (Cs.norm_range d).2; omega
  have g0 : 90 ≤ (m : Int) := by omega
  have g1 : 180 ≤ (m : Int) := by omega
  have g2 : 270 ≤ (m : Int) := by omega
  obtain ⟨x1, hx1⟩ : ∃ x, ([110, 111, 114, 116, 104, 32] ++ t : Cs.Bs) = x := ⟨_, rfl⟩
  rw [hx1] at c1 c2 hfin
  obtain ⟨x2, hx2⟩ : ∃ x, (x1 ++ [32, 119, 101, 115, 116] : Cs.Bs) = x := ⟨_, rfl⟩
  rw [hx2] at c2 hfin
  have HN := Lib.hid hN
  have HI := Lib.hid hI
  have HF := Lib.hid hfin
  have HE := Lib.hid hE
  clear hN hI hfin hm ht hx1 hx2 hE hl
  go_enter Tryz.func60, Tryz.ntmps60
  go_wp2_with (go_at_call 15; refine (HN.out _).mono ?_; rintro e w' ⟨rfl, rfl⟩)
  refine (HI.out _ HE.out).mono ?_
  rintro e w1 ⟨rfl, hb1⟩
  rw [sv_def]
  go_wp2_with fail
  go_ret
  exact HF.out _ hb1

theorem quadF_mid {d : Int} {m : Nat} (hm : Cs.norm d = m) (h0 : ¬ m % 90 = 0) :
    (m < 90 → Cs.quadF d = Cs.wNorth ++ [32] ++ Lib.itoa (m : Int) ++ [32] ++ Cs.wEast) ∧ (90 ≤ m → m < 180 → Cs.quadF d = Cs.wSouth ++ [32] ++ Lib.itoa (180 - (m : Int)) ++ [32] ++ Cs.wEast) ∧
    (180 ≤ m → m < 270 → Cs.quadF d = Cs.wSouth ++ [32] ++ Lib.itoa ((m : Int) - 180) ++ [32] ++ Cs.wWest) ∧ (270 ≤ m → Cs.quadF d = Cs.wNorth ++ [32] ++ Lib.itoa (360 - (m : Int)) ++ [32] ++ Cs.wWest) := by
  have hj : ∀ a b c : Cs.Bs, Lib.join [a, b, c] [32] = a ++ [32] ++ b ++ [32] ++ c := fun a b c => by rw [Lib.join_cons]; simp [Lib.joinTail]
  unfold Cs.quadF Cs.quadW
  rw [hm]
  refine ⟨fun h => ?_, fun h1 h2 => ?_, fun h1 h2 => ?_, fun h => ?_⟩
  · rw [if_neg (by omega), if_pos (by omega), hj]
  · rw [if_neg (by omega), if_neg (by omega), if_pos (by omega), hj]
  · rw [if_neg (by omega), if_neg (by omega), if_neg (by omega), if_pos (by omega), hj]
  · rw [if_neg (by omega), if_neg (by omega), if_neg (by omega), if_neg (by omega), hj]
theorem quadF_end {d : Int} {m : Nat} (hm : Cs.norm d = m) (h0 : m % 90 = 0) : Cs.quadF d = Cs.quarters[m / 90]?.getD [] := by
  unfold Cs.quadF Cs.quadW
  rw [hm, if_pos (by omega), Lib.join_one]
  congr 1

set_option maxHeartbeats 2000000 in
theorem Quadrant_any (d : Int) (w : World) (hE : Env w) :
    Calls Tryz.prog 60 #[.int .i64 d] w fun e w' => e = .returned (sv (Cs.quadF d)) ∧ Below w.heap.size w w' := by
  obtain ⟨n0, n1⟩ := Cs.norm_range d
  obtain ⟨m, hm⟩ : ∃ m : Nat, Cs.norm d = m := ⟨(Cs.norm d).toNat, by omega⟩
  by_cases h0 : m % 90 = 0
  · rw [quadF_end hm h0]
    have hN := fun w => norm_any d w
    rw [hm] at hN n1
    have h4 : m = 0 ∨ m = 90 ∨ m = 180 ∨ m = 270 := by omega
    have HN := Lib.hid hN
    have HB := Lib.hid fun o => (Below.refl w.heap.size w).alloc (Nat.le_refl _) o
    clear hN hm h0 hE n0 n1
    rcases h4 with rfl | rfl | rfl | rfl
    all_goals
      go_enter Tryz.func60, Tryz.ntmps60
      go_wp2_with (first | (go_at_call 15; refine (HN.out _).mono ?_; rintro e w' ⟨rfl, rfl⟩) | (go_at_call 80; go_in))
      go_ret
      exact ⟨rfl, HB.out _⟩
  · obtain ⟨q1, q2, q3, q4⟩ := quadF_mid hm h0
    rcases (show m < 90 ∨ (90 < m ∧ m < 180) ∨ (180 < m ∧ m < 270) ∨ (270 < m ∧ m < 360) by omega) with h | ⟨h, h'⟩ | ⟨h, h'⟩ | ⟨h, h'⟩
    · rw [q1 h]; exact quadrant0 d m hm h0 h w hE
    · rw [q2 (by omega) h']; exact quadrant1 d m hm h0 h h' w hE
    · rw [q3 (by omega) h']; exact quadrant2 d m hm h0 h h' w hE
    · rw [q4 (by omega)]; exact quadrant3 d m hm h0 h h' w hE

end Go.Proofs.YtncdeogpmodoaaaGreatDoor
