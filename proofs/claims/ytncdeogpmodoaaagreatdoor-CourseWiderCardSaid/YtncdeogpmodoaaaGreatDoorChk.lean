/-
  CheckChain, CheckCourse, CheckVariations of course and of the reference.
-/
import Derived.Test.YtncdeogpmodoaaaGreatDoorSin
set_option linter.unusedVariables false
set_option linter.unusedSimpArgs false
namespace Go.Proofs.YtncdeogpmodoaaaGreatDoor
open Go.RowKit
set_option maxRecDepth 100000

namespace Cs
theorem chainE_ok {w s : Int} (h1 : -500 ≤ w) (h2 : w ≤ 500) (h3 : 0 ≤ s) (h4 : s ≤ 200) : chainE w s = 0 := by
  unfold chainE chainOk
  rw [if_pos (by simp; omega)]
theorem chainE_no {w s : Int} (h : ¬ (-500 ≤ w ∧ w ≤ 500 ∧ 0 ≤ s ∧ s ≤ 200)) : chainE w s = 1 := by
  unfold chainE chainOk
  rw [if_neg (by simpa using h)]
abbrev okC (c : Co) : Prop := (0 ≤ c.b ∧ c.b ≤ 359) ∧ (0 ≤ c.n ∧ c.n ≤ 30) ∧ (1 ≤ c.l ∧ c.l ≤ 100000) ∧ 1 ≤ c.y ∧ c.y ≤ 3000
theorem courseE_ok {c : Co} (h : okC c) : courseE c = chainE c.w c.s := by
  unfold courseE courseOk chainE
  rw [decide_eq_true h]
  simp
theorem courseE_no {c : Co} (h : ¬ okC c) : courseE c = 1 := by
  unfold courseE courseOk
  rw [decide_eq_false h]
  simp
end Cs

set_option maxHeartbeats 1000000 in
theorem checkChain_any (a s : Int) (w : World) :
    Calls Tryz.prog 33 #[.agg #[.int .i64 a, .int .i64 s]] w fun e w' => e = .returned (.int .i64 (Cs.chainE a s)) ∧ Below w.heap.size w w' := by
  have HB := Lib.hid ((Below.refl w.heap.size w).alloc (Nat.le_refl _) (.cells #[.int .i64 a, .int .i64 s] 27))
  by_cases h : -500 ≤ a ∧ a ≤ 500
  · by_cases h2 : 0 ≤ s ∧ s ≤ 200
    · rw [Cs.chainE_ok h.1 h.2 h2.1 h2.2]
      have d1 : decide (-500 ≤ a ∧ a ≤ 500) = true := decide_eq_true h
      have d2 : decide (0 ≤ s ∧ s ≤ 200) = true := decide_eq_true h2
      clear h h2
      go_enter Tryz.func33, Tryz.ntmps33
      go_wp2_with (go_at_call 61; refine (between_any _ _ _ _).mono ?_; (first | rw [d1] | rw [d2]); rintro e w' ⟨rfl, rfl⟩)
      go_ret
      exact ⟨rfl, HB.out⟩
    · rw [Cs.chainE_no (by omega)]
      have d1 : decide (-500 ≤ a ∧ a ≤ 500) = true := decide_eq_true h
      have d2 : decide (0 ≤ s ∧ s ≤ 200) = false := decide_eq_false h2
      clear h h2
      go_enter Tryz.func33, Tryz.ntmps33
      go_wp2_with (go_at_call 61; refine (between_any _ _ _ _).mono ?_; (first | rw [d1] | rw [d2]); rintro e w' ⟨rfl, rfl⟩)
      go_ret
      exact ⟨rfl, HB.out⟩
  · rw [Cs.chainE_no (by omega)]
    have d1 : decide (-500 ≤ a ∧ a ≤ 500) = false := decide_eq_false h
    clear h
    go_enter Tryz.func33, Tryz.ntmps33
    go_wp2_with (go_at_call 61; refine (between_any _ _ _ _).mono ?_; rw [d1]; rintro e w' ⟨rfl, rfl⟩)
    go_ret
    exact ⟨rfl, HB.out⟩

theorem rcheckChain_any (a s : Int) (w : World) :
    Calls Tryz.prog 34 #[.agg #[.int .i64 a, .int .i64 s]] w fun e w' => e = .returned (.int .i64 (Cs.chainE a s)) ∧ Below w.heap.size w w' := by
  have HB := Lib.hid ((Below.refl w.heap.size w).alloc (Nat.le_refl _) (.cells #[.int .i64 a, .int .i64 s] 27))
  by_cases h : -500 ≤ a ∧ a ≤ 500 ∧ 0 ≤ s ∧ s ≤ 200
  · obtain ⟨h1, h2, h3, h4⟩ := h
    rw [Cs.chainE_ok h1 h2 h3 h4]
    go_enter Tryz.func34, Tryz.ntmps34
    go_wp2
    go_ret
    exact ⟨rfl, HB.out⟩
  · rw [Cs.chainE_no h]
    have hc : a < -500 ∨ (-500 ≤ a ∧ 500 < a) ∨ (-500 ≤ a ∧ a ≤ 500 ∧ s < 0) ∨ (-500 ≤ a ∧ a ≤ 500 ∧ 0 ≤ s ∧ 200 < s) := by omega
    clear h
    rcases hc with h1 | ⟨h1, h2⟩ | ⟨h1, h2, h3⟩ | ⟨h1, h2, h3, h4⟩
    all_goals
      go_enter Tryz.func34, Tryz.ntmps34
      go_wp2
      go_ret
      exact ⟨rfl, HB.out⟩

set_option maxHeartbeats 1000000 in
theorem checkCourse_any (c : Cs.Co) (w : World) :
    Calls Tryz.prog 35 #[cval c] w fun e w' => e = .returned (.int .i64 (Cs.courseE c)) ∧ Below w.heap.size w w' := by
  obtain ⟨b, n, l, y, a, s⟩ := c
  have hB0 := (Below.refl w.heap.size w).alloc (Nat.le_refl _) (.cells #[.int .i64 b, .int .i64 n, .int .i64 l, .int .i64 y, .int .i64 a, .int .i64 s] 29)
  have HB := Lib.hid hB0
  clear hB0
  show Calls Tryz.prog 35 #[.agg #[.int .i64 b, .int .i64 n, .int .i64 l, .int .i64 y, .int .i64 a, .int .i64 s]] w _
  obtain ⟨x, hx⟩ : ∃ x, Cs.courseE ⟨b, n, l, y, a, s⟩ = x := ⟨_, rfl⟩
  rw [hx]
  by_cases h : Cs.okC ⟨b, n, l, y, a, s⟩
  · rw [Cs.courseE_ok h] at hx
    obtain ⟨g1, g2, g3, g4⟩ := h
    dsimp only at hx g1 g2 g3 g4
    have d1 : decide (0 ≤ b ∧ b ≤ 359) = true := decide_eq_true g1
    have d2 : decide (0 ≤ n ∧ n ≤ 30) = true := decide_eq_true g2
    have d3 : decide (1 ≤ l ∧ l ≤ 100000) = true := decide_eq_true g3
    have d4 : decide (1 ≤ y ∧ y ≤ 3000) = true := decide_eq_true g4
    have hch := fun w => checkChain_any a s w
    rw [hx] at hch
    have HC := Lib.hid hch
    clear g1 g2 g3 g4 hx hch
    go_enter Tryz.func35, Tryz.ntmps35
    go_wp2_with (first
      | (go_at_call 61; refine (between_any _ _ _ _).mono ?_; (first | rw [d1] | rw [d2] | rw [d3] | rw [d4]); rintro e w' ⟨rfl, rfl⟩)
      | (go_at_call 33; refine (HC.out _).mono ?_; rintro e w1 ⟨rfl, hb⟩))
    go_ret
    exact ⟨rfl, HB.out.trans (hb.mono HB.out.size)⟩
  · rw [Cs.courseE_no h] at hx
    subst hx
    unfold Cs.okC at h
    dsimp only at h
    by_cases g1 : 0 ≤ b ∧ b ≤ 359
    · have d1 : decide (0 ≤ b ∧ b ≤ 359) = true := decide_eq_true g1
      by_cases g2 : 0 ≤ n ∧ n ≤ 30
      · have d2 : decide (0 ≤ n ∧ n ≤ 30) = true := decide_eq_true g2
        by_cases g3 : 1 ≤ l ∧ l ≤ 100000
        · have d3 : decide (1 ≤ l ∧ l ≤ 100000) = true := decide_eq_true g3
          have d4 : decide (1 ≤ y ∧ y ≤ 3000) = false := decide_eq_false (fun g4 => h ⟨g1, g2, g3, g4⟩)
          clear g1 g2 g3 h
          go_enter Tryz.func35, Tryz.ntmps35
          go_wp2_with (go_at_call 61; refine (between_any _ _ _ _).mono ?_; (first | rw [d1] | rw [d2] | rw [d3] | rw [d4]); rintro e w' ⟨rfl, rfl⟩)
          go_ret
          exact ⟨rfl, HB.out⟩
        · have d3 : decide (1 ≤ l ∧ l ≤ 100000) = false := decide_eq_false g3
          clear g1 g2 g3 h
          go_enter Tryz.func35, Tryz.ntmps35
          go_wp2_with (go_at_call 61; refine (between_any _ _ _ _).mono ?_; (first | rw [d1] | rw [d2] | rw [d3]); rintro e w' ⟨rfl, rfl⟩)
          go_ret
          exact ⟨rfl, HB.out⟩
      · have d2 : decide (0 ≤ n ∧ n ≤ 30) = false := decide_eq_false g2
        clear g1 g2 h
        go_enter Tryz.func35, Tryz.ntmps35
        go_wp2_with (go_at_call 61; refine (between_any _ _ _ _).mono ?_; (first | rw [d1] | rw [d2]); rintro e w' ⟨rfl, rfl⟩)
        go_ret
        exact ⟨rfl, HB.out⟩
    · have d1 : decide (0 ≤ b ∧ b ≤ 359) = false := decide_eq_false g1
      clear g1 h
      go_enter Tryz.func35, Tryz.ntmps35
      go_wp2_with (go_at_call 61; refine (between_any _ _ _ _).mono ?_; rw [d1]; rintro e w' ⟨rfl, rfl⟩)
      go_ret
      exact ⟨rfl, HB.out⟩

set_option maxHeartbeats 1000000 in
theorem rcheckCourse_any (c : Cs.Co) (w : World) :
    Calls Tryz.prog 36 #[cval c] w fun e w' => e = .returned (.int .i64 (Cs.courseE c)) ∧ Below w.heap.size w w' := by
  obtain ⟨b, n, l, y, a, s⟩ := c
  have hB0 := (Below.refl w.heap.size w).alloc (Nat.le_refl _) (.cells #[.int .i64 b, .int .i64 n, .int .i64 l, .int .i64 y, .int .i64 a, .int .i64 s] 29)
  have HB := Lib.hid hB0
  clear hB0
  show Calls Tryz.prog 36 #[.agg #[.int .i64 b, .int .i64 n, .int .i64 l, .int .i64 y, .int .i64 a, .int .i64 s]] w _
  obtain ⟨x, hx⟩ : ∃ x, Cs.courseE ⟨b, n, l, y, a, s⟩ = x := ⟨_, rfl⟩
  rw [hx]
  by_cases h : Cs.okC ⟨b, n, l, y, a, s⟩
  · rw [Cs.courseE_ok h] at hx
    obtain ⟨⟨g1, g2⟩, ⟨g3, g4⟩, ⟨g5, g6⟩, g7, g8⟩ := h
    dsimp only at hx g1 g2 g3 g4 g5 g6 g7 g8
    have hch := fun w => rcheckChain_any a s w
    rw [hx] at hch
    have HC := Lib.hid hch
    clear hx hch
    go_enter Tryz.func36, Tryz.ntmps36
    go_wp2_with (go_at_call 34; refine (HC.out _).mono ?_; rintro e w1 ⟨rfl, hb⟩)
    go_ret
    exact ⟨rfl, HB.out.trans (hb.mono HB.out.size)⟩
  · rw [Cs.courseE_no h] at hx
    subst hx
    unfold Cs.okC at h
    dsimp only at h
    have hc : b < 0 ∨ (0 ≤ b ∧ 359 < b) ∨ (0 ≤ b ∧ b ≤ 359 ∧ n < 0) ∨ (0 ≤ b ∧ b ≤ 359 ∧ 0 ≤ n ∧ 30 < n) ∨ (0 ≤ b ∧ b ≤ 359 ∧ 0 ≤ n ∧ n ≤ 30 ∧ l < 1) ∨ (0 ≤ b ∧ b ≤ 359 ∧ 0 ≤ n ∧ n ≤ 30 ∧ 1 ≤ l ∧ 100000 < l) ∨
        (0 ≤ b ∧ b ≤ 359 ∧ 0 ≤ n ∧ n ≤ 30 ∧ 1 ≤ l ∧ l ≤ 100000 ∧ y < 1) ∨ (0 ≤ b ∧ b ≤ 359 ∧ 0 ≤ n ∧ n ≤ 30 ∧ 1 ≤ l ∧ l ≤ 100000 ∧ 1 ≤ y ∧ 3000 < y) := by omega
    clear h
    rcases hc with h1 | ⟨h1, h2⟩ | ⟨h1, h2, h3⟩ | ⟨h1, h2, h3, h4⟩ | ⟨h1, h2, h3, h4, h5⟩ | ⟨h1, h2, h3, h4, h5, h6⟩ | ⟨h1, h2, h3, h4, h5, h6, h7⟩ | ⟨h1, h2, h3, h4, h5, h6, h7, h8⟩
    all_goals
      go_enter Tryz.func36, Tryz.ntmps36
      go_wp2
      go_ret
      exact ⟨rfl, HB.out⟩

end Go.Proofs.YtncdeogpmodoaaaGreatDoor
