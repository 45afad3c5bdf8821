/-
  The plain mathematics of courses: a step fits exactly if it lies in the interval.
-/
import Derived.Test.YtncdeogpmodoaaaGreatDoorPure
set_option linter.unusedVariables false
set_option linter.unusedSimpArgs false
namespace Go.Proofs.YtncdeogpmodoaaaGreatDoor
namespace Cs

theorem sinI_all : ∀ k ∈ List.range 360, (0 < k → k < 180 → 0 < sinI (k : Int)) ∧ (k ≤ 90 → 0 ≤ sinI ((k : Int) + 90)) ∧ (90 ≤ k → k < 180 → sinI (((k : Int) + 90) % 360) ≤ 0) := by decide +kernel

theorem sin_pos {d : Int} (h0 : 0 < d) (h1 : d < 180) : 0 < sin d := by
  have hn : norm d = d := by unfold norm; omega
  have := (sinI_all d.toNat (by simp; omega)).1 (by omega) (by omega)
  rw [show ((d.toNat : Nat) : Int) = d by omega] at this
  rw [sin, hn]
  exact this
theorem cos_nonneg {d : Int} (h0 : 0 ≤ d) (h1 : d ≤ 90) : 0 ≤ cos d := by
  have hn : norm d = d := by unfold norm; omega
  have := (sinI_all d.toNat (by simp; omega)).2.1 (by omega)
  rw [show ((d.toNat : Nat) : Int) = d by omega] at this
  rw [cos, hn, sin, show norm (d + 90) = d + 90 by unfold norm; omega]
  exact this
theorem cos_nonpos {d : Int} (h0 : 90 ≤ d) (h1 : d < 180) : cos d ≤ 0 := by
  have hn : norm d = d := by unfold norm; omega
  have := (sinI_all d.toNat (by simp; omega)).2.2 (by omega) (by omega)
  rw [show ((d.toNat : Nat) : Int) = d by omega] at this
  rw [cos, hn, sin, norm]
  exact this

theorem le_flo {a b x : Int} (hb : 0 < b) : x ≤ flo a b ↔ x * b ≤ a := by
  unfold flo
  exact Int.le_ediv_iff_mul_le hb
theorem cei_le {a b x : Int} (hb : 0 < b) : cei a b ≤ x ↔ a ≤ x * b := by
  unfold cei
  have := Int.le_ediv_iff_mul_le (a := -x) (b := -a) hb
  rw [Int.neg_mul] at this
  omega

theorem sq_abs {y r : Int} (hr : 0 ≤ r) : y * y ≤ r * r ↔ -r ≤ y ∧ y ≤ r := by
  constructor
  · intro h
    constructor
    · rcases Int.lt_or_le y (-r) with hh | hh
      · have h1 : (r + 1) * (r + 1) ≤ (-y) * (-y) := Int.mul_le_mul (by omega) (by omega) (by omega) (by omega)
        rw [Int.neg_mul_neg] at h1
        have h2 : (r + 1) * (r + 1) = r * r + 2 * r + 1 := by
          rw [Int.add_mul, Int.mul_add]; omega
        omega
      · exact hh
    · rcases Int.lt_or_le r y with hh | hh
      · have h1 : (r + 1) * (r + 1) ≤ y * y := Int.mul_le_mul (by omega) (by omega) (by omega) (by omega)
        have h2 : (r + 1) * (r + 1) = r * r + 2 * r + 1 := by
          rw [Int.add_mul, Int.mul_add]; omega
        omega
      · exact hh
  · rintro ⟨h1, h2⟩
    rcases Int.lt_or_le y 0 with hh | hh
    · have : (-y) * (-y) ≤ r * r := Int.mul_le_mul (by omega) (by omega) (by omega) (by omega)
      rwa [Int.neg_mul_neg] at this
    · exact Int.mul_le_mul (by omega) (by omega) (by omega) (by omega)

/-- The root of a room bounds what squares into it. -/
theorem le_root {n y : Int} (h0 : 0 ≤ n) (h1 : n ≤ 9223372036854775807) : y * y ≤ n ↔ -(root n) ≤ y ∧ y ≤ root n := by
  obtain ⟨a, b, c⟩ := root_spec h0 h1
  constructor
  · intro h
    have : ¬ ((root n + 1) ≤ y ∨ y ≤ -(root n + 1)) := by
      rintro (hh | hh)
      · have : (root n + 1) * (root n + 1) ≤ y * y := Int.mul_le_mul hh hh (by omega) (by omega)
        omega
      · have : (root n + 1) * (root n + 1) ≤ (-y) * (-y) := Int.mul_le_mul (by omega) (by omega) (by omega) (by omega)
        rw [Int.neg_mul_neg] at this
        omega
    omega
  · intro h
    have := (sq_abs (y := y) a).2 h
    omega

/-- The upper root is the least from 0 on that squares over n. -/
theorem rootUp_le {n y : Int} (h1 : n ≤ 9223372036854775807) (hy : 0 ≤ y) : rootUp n ≤ y ↔ n ≤ y * y := by
  rcases Int.lt_or_le n 0 with hn | h0
  · have e : rootUp n = 0 := by
      rw [rootUp, root_neg hn, if_neg (by omega)]
    rw [e]
    have : 0 ≤ y * y := Int.mul_nonneg hy hy
    constructor <;> intro <;> omega
  · obtain ⟨a, b, c⟩ := root_spec h0 h1
    unfold rootUp
    split
    · rename_i h
      constructor
      · intro hh
        have : (root n + 1) * (root n + 1) ≤ y * y := Int.mul_le_mul hh hh (by omega) (by omega)
        omega
      · intro hh
        rcases Int.lt_or_le (root n) y with h2 | h2
        · omega
        · have : y * y ≤ root n * root n := Int.mul_le_mul h2 h2 (by omega) (by omega)
          omega
    · rename_i h
      constructor
      · intro hh
        have : root n * root n ≤ y * y := Int.mul_le_mul hh hh (by omega) (by omega)
        omega
      · intro hh
        rcases Int.lt_or_le y (root n) with h2 | h2
        · have : (y + 1) * (y + 1) ≤ root n * root n := Int.mul_le_mul (by omega) (by omega) (by omega) (by omega)
          have e : (y + 1) * (y + 1) = y * y + 2 * y + 1 := by rw [Int.add_mul, Int.mul_add]; omega
          omega
        · omega
theorem rootUp_nonneg {n : Int} (h1 : n ≤ 9223372036854775807) : 0 ≤ rootUp n := by
  unfold rootUp
  have := (root_le h1).1
  split <;> omega

/-- What an aim of a right course keeps to. -/
structure AimOk (a : Aim) : Prop where
  le : a.low ≤ a.high
  low : -120 ≤ a.low
  lowh : a.low ≤ 269
  high : -90 ≤ a.high
  highh : a.high ≤ 299
  near0 : 0 < a.near
  far0 : 0 < a.far
  nf : a.near ≤ a.far
  far1 : a.far ≤ 1070000000

theorem sq_range {x m : Int} (h0 : -m ≤ x) (h1 : x ≤ m) : 0 ≤ x * x ∧ x * x ≤ m * m :=
  ⟨by rcases Int.lt_or_le x 0 with h | h
      · have := Int.mul_nonneg (a := -x) (b := -x) (by omega) (by omega)
        rwa [Int.neg_mul_neg] at this
      · exact Int.mul_nonneg h h, (sq_abs (by omega)).2 ⟨h0, h1⟩⟩

theorem far_sq {a : Aim} (h : AimOk a) : 0 ≤ a.far * a.far ∧ a.far * a.far ≤ 1144900000000000000 := by
  have := sq_range (x := a.far) (m := 1070000000) (by have := h.far0; omega) h.far1
  omega
theorem near_sq {a : Aim} (h : AimOk a) : 0 ≤ a.near * a.near ∧ a.near * a.near ≤ 1144900000000000000 := by
  have := sq_range (x := a.near) (m := 1070000000) (by have := h.near0; omega) (by have := h.nf; have := h.far1; omega)
  omega

theorem cond0_iff (a : Aim) : cond0 a = true ↔ 0 < a.high ∧ a.low < 180 := by simp [cond0]
theorem misA_zero (a : Aim) (dx dy : Int) : misA a dx dy = 0 ↔ cond0 a = true ∧ cond1 a dx dy = true ∧ cond2 a dx dy = true ∧ cond3 a dx dy = true ∧ cond4 a dx dy = true := by
  unfold misA
  rcases cond0 a with _ | _ <;> rcases cond1 a dx dy with _ | _ <;> rcases cond2 a dx dy with _ | _ <;> rcases cond3 a dx dy with _ | _ <;> rcases cond4 a dx dy with _ | _ <;> simp

theorem fits_iff {a : Aim} (h : AimOk a) {dx dy : Int} (hx0 : 0 < dx) (hx1 : dx ≤ 100000) (hy0 : -100000 ≤ dy) (hy1 : dy ≤ 100000) :
    misA a dx dy = 0 ↔ (intA a dx).2.2 = true ∧ (intA a dx).1 ≤ dy ∧ dy ≤ (intA a dx).2.1 := by
  rw [misA_zero, cond0_iff]
  obtain ⟨x0, x1⟩ := sq_range (x := dx) (m := 100000) (by omega) hx1
  obtain ⟨y0, y1⟩ := sq_range (x := dy) (m := 100000) hy0 hy1
  obtain ⟨f0, f1⟩ := far_sq h
  obtain ⟨n0, n1⟩ := near_sq h
  by_cases hc : 0 < a.high ∧ a.low < 180
  · have h3 : cond3 a dx dy = true ↔ dy * dy ≤ room a dx := by
      rw [cond3, decide_eq_true_eq, sq, room]
      generalize dx * dx = X at *
      generalize dy * dy = Y at *
      generalize a.far * a.far = F at *
      constructor <;> intro hh <;> omega
    by_cases hr : room a dx < 0
    · rw [intA, if_pos (by omega)]
      have : ¬ cond3 a dx dy = true := by rw [h3]; omega
      simp [this]
    · rw [intA, if_neg (by omega)]
      have hrt := le_root (n := room a dx) (y := dy) (by omega) (by unfold room; omega)
      have hrl := root_le (n := room a dx) (by unfold room; omega)
      have h3' : cond3 a dx dy = true ↔ -(hi1 a dx) ≤ dy ∧ dy ≤ hi1 a dx := by
        rw [h3, hrt]
        unfold hi1
        omega
      have h1 : cond1 a dx dy = true ↔ (0 < a.low → dy ≤ flo (dx * cos a.low) (sin a.low)) := by
        simp only [cond1, Bool.or_eq_true, decide_eq_true_eq]
        constructor
        · rintro (hh | hh) hl
          · omega
          · exact (le_flo (sin_pos hl hc.2)).2 hh
        · intro hh
          by_cases hl : 0 < a.low
          · exact .inr ((le_flo (sin_pos hl hc.2)).1 (hh hl))
          · exact .inl (by omega)
      have h2 : cond2 a dx dy = true ↔ (a.high < 180 → cei (dx * cos a.high) (sin a.high) ≤ dy) := by
        simp only [cond2, Bool.or_eq_true, decide_eq_true_eq]
        constructor
        · rintro (hh | hh) hl
          · omega
          · exact (cei_le (sin_pos hc.1 hl)).2 hh
        · intro hh
          by_cases hl : a.high < 180
          · exact .inr ((cei_le (sin_pos hc.1 hl)).1 (hh hl))
          · exact .inl (by omega)
      have h12 : (cond1 a dx dy = true ∧ cond2 a dx dy = true ∧ cond3 a dx dy = true) ↔ lo2 a dx ≤ dy ∧ dy ≤ hi2 a dx := by
        rw [h1, h2, h3']
        unfold lo2 hi2
        by_cases hl : 0 < a.low <;> by_cases hh : a.high < 180 <;> simp only [hl, hh, if_true, if_false, true_implies, false_implies, true_and, and_true] <;> omega
      have hle : cei (a.near * a.near) 100000000 - dx * dx ≤ 9223372036854775807 := by
        have := (cei_le (a := a.near * a.near) (b := 100000000) (x := a.near * a.near) (by decide)).2 (by omega)
        omega
      have h4 : cond4 a dx dy = true ↔ (90 < a.high ∧ a.low < 90) ∨ cei (a.near * a.near) 100000000 - dx * dx ≤ dy * dy := by
        simp only [cond4, Bool.or_eq_true, Bool.and_eq_true, decide_eq_true_eq]
        rw [sq]
        have := cei_le (a := a.near * a.near) (b := 100000000) (x := dx * dx + dy * dy) (by decide)
        generalize cei (a.near * a.near) 100000000 = C at *
        generalize dx * dx = X at *
        generalize dy * dy = Y at *
        generalize a.near * a.near = F at *
        constructor
        · rintro (hh | hh)
          · exact .inl hh
          · have := this.2 (by omega)
            exact .inr (by omega)
        · rintro (hh | hh)
          · exact .inl hh
          · have := this.1 (by omega)
            exact .inr (by omega)
      have key : (lo2 a dx ≤ dy ∧ dy ≤ hi2 a dx) ∧ cond4 a dx dy = true ↔ lo3 a dx ≤ dy ∧ dy ≤ hi3 a dx := by
        rw [h4]
        have hl0 : 0 ≤ least a dx := rootUp_nonneg hle
        have north : a.high ≤ 90 → lo2 a dx ≤ dy → 0 ≤ dy := by
          intro hh hlo
          have : cei (dx * cos a.high) (sin a.high) ≤ dy := by
            unfold lo2 at hlo
            rw [if_pos (by omega)] at hlo
            omega
          have hm := (cei_le (sin_pos hc.1 (by omega))).1 this
          have hp : 0 ≤ dx * cos a.high := Int.mul_nonneg (by omega) (cos_nonneg (by omega) hh)
          rcases Int.lt_or_le dy 0 with hd | hd
          · have : dy * sin a.high < 0 := Int.mul_neg_of_neg_of_pos hd (sin_pos hc.1 (by omega))
            omega
          · exact hd
        have south : 90 ≤ a.low → dy ≤ hi2 a dx → dy ≤ 0 := by
          intro hh hhi
          have : dy ≤ flo (dx * cos a.low) (sin a.low) := by
            unfold hi2 at hhi
            rw [if_pos (by omega)] at hhi
            omega
          have hm := (le_flo (sin_pos (by omega) hc.2)).1 this
          have hp : dx * cos a.low ≤ 0 := Int.mul_nonpos_of_nonneg_of_nonpos (by omega) (cos_nonpos hh hc.2)
          rcases Int.lt_or_le 0 dy with hd | hd
          · have : 0 < dy * sin a.low := Int.mul_pos hd (sin_pos (by omega) hc.2)
            omega
          · exact hd
        have up : 0 ≤ dy → (least a dx ≤ dy ↔ cei (a.near * a.near) 100000000 - dx * dx ≤ dy * dy) := fun hd => rootUp_le hle hd
        have dn : dy ≤ 0 → (dy ≤ -(least a dx) ↔ cei (a.near * a.near) 100000000 - dx * dx ≤ dy * dy) := by
          intro hd
          have := rootUp_le (y := -dy) hle (by omega)
          rw [Int.neg_mul_neg] at this
          rw [← this]
          unfold least
          omega
        have hle2 := h.le
        unfold lo3 hi3
        by_cases hn : a.high ≤ 90
        · by_cases hs : 90 ≤ a.low
          · rw [if_pos hn, if_pos hs]
            constructor
            · rintro ⟨⟨p, q⟩, r⟩
              have a1 := north hn p
              have a2 := south hs q
              have r' := r.resolve_left (by omega)
              have := (up a1).2 r'
              have := (dn a2).2 r'
              omega
            · rintro ⟨p, q⟩
              have a1 := north hn (by omega)
              have := (up a1).1 (by omega)
              exact ⟨⟨by omega, by omega⟩, .inr this⟩
          · rw [if_pos hn, if_neg hs]
            constructor
            · rintro ⟨⟨p, q⟩, r⟩
              have a1 := north hn p
              have := (up a1).2 (r.resolve_left (by omega))
              omega
            · rintro ⟨p, q⟩
              have a1 := north hn (by omega)
              have := (up a1).1 (by omega)
              exact ⟨⟨by omega, by omega⟩, .inr this⟩
        · by_cases hs : 90 ≤ a.low
          · rw [if_neg hn, if_pos hs]
            constructor
            · rintro ⟨⟨p, q⟩, r⟩
              have a1 := south hs q
              have := (dn a1).2 (r.resolve_left (by omega))
              omega
            · rintro ⟨p, q⟩
              have a1 := south hs (by omega)
              have := (dn a1).1 (by omega)
              exact ⟨⟨by omega, by omega⟩, .inr this⟩
          · rw [if_neg hn, if_neg hs]
            constructor
            · rintro ⟨p, q⟩; exact p
            · intro p; exact ⟨p, .inl (by omega)⟩
      have h123 := h12
      constructor
      · rintro ⟨_, c1, c2, c3, c4⟩
        have := key.1 ⟨h12.1 ⟨c1, c2, c3⟩, c4⟩
        exact ⟨by simp; omega, this⟩
      · rintro ⟨_, p⟩
        obtain ⟨q, c4⟩ := key.2 p
        obtain ⟨c1, c2, c3⟩ := h12.2 q
        exact ⟨hc, c1, c2, c3, c4⟩
  · rw [intA, if_pos (by omega)]
    simp [hc]

end Cs
end Go.Proofs.YtncdeogpmodoaaaGreatDoor
