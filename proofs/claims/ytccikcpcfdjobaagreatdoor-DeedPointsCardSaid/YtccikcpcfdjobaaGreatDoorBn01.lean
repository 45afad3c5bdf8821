/-
  What the claims of layer deed need of the texts Math, Fit, Exm, DCal.
-/
import Derived.Test.YtccikcpcfdjobaaGreatDoorBn00
set_option linter.unusedVariables false
set_option linter.unusedSimpArgs false
namespace Go.Proofs.YtccikcpcfdjobaaGreatDoor
namespace Cs
theorem sinI_all : ∀ k ∈ List.range 360, (0 < k → k < 180 → 0 < sinI (k : Int)) ∧ (k ≤ 90 → 0 ≤ sinI ((k : Int) + 90)) ∧ (90 ≤ k → k < 180 → sinI (((k : Int) + 90) % 360) ≤ 0) := by decide +kernel
theorem sin_pos {d : Int} (h0 : 0 < d) (h1 : d < 180) : 0 < sin d := by
 have hn : norm d = d := by unfold norm; omega
 have := (sinI_all d.toNat (by simp; omega)).1 (by omega) (by omega)
 rw [show ((d.toNat : Nat) : Int) = d by omega] at this
 rw [sin, hn]
 exact this
theorem sq_abs {y r : Int} (hr : 0 ≤ r) : y * y ≤ r * r ↔ -r ≤ y ∧ y ≤ r := by
 constructor
 ·intro h
  constructor
  ·rcases Int.lt_or_le y (-r) with hh | hh
   ·have h1 : (r + 1) * (r + 1) ≤ (-y) * (-y) := Int.mul_le_mul (by omega) (by omega) (by omega) (by omega)
    rw [Int.neg_mul_neg] at h1
    have h2 : (r + 1) * (r + 1) = r * r + 2 * r + 1 := by
     rw [Int.add_mul, Int.mul_add]; omega
    omega
   ·exact hh
  ·rcases Int.lt_or_le r y with hh | hh
   ·have h1 : (r + 1) * (r + 1) ≤ y * y := Int.mul_le_mul (by omega) (by omega) (by omega) (by omega)
    have h2 : (r + 1) * (r + 1) = r * r + 2 * r + 1 := by
     rw [Int.add_mul, Int.mul_add]; omega
    omega
   ·exact hh
 ·rintro ⟨h1, h2⟩
  rcases Int.lt_or_le y 0 with hh | hh
  ·have : (-y) * (-y) ≤ r * r := Int.mul_le_mul (by omega) (by omega) (by omega) (by omega)
   rwa [Int.neg_mul_neg] at this
  ·exact Int.mul_le_mul (by omega) (by omega) (by omega) (by omega)
theorem rootUp_nonneg {n : Int} (h1 : n ≤ 9223372036854775807) : 0 ≤ rootUp n := by
 unfold rootUp
 have := (root_le h1).1
 split <;> omega
structure AimOk (a : Aim) : Prop where
 le : a.low ≤ a.high
 low : -120 ≤ a.low
 lowh : a.low ≤ 269
 high : -90 ≤ a.high
 highh : a.high ≤ 299
 near0 : 0 < a.near
 far0 : 0 < a.far
 nf : a.near ≤ a.far
 far1 : a.far ≤ 1070000000
theorem sq_range {x m : Int} (h0 : -m ≤ x) (h1 : x ≤ m) : 0 ≤ x * x ∧ x * x ≤ m * m :=
  ⟨by rcases Int.lt_or_le x 0 with h | h
      · have := Int.mul_nonneg (a := -x) (b := -x) (by omega) (by omega)
        rwa [Int.neg_mul_neg] at this
      · exact Int.mul_nonneg h h, (sq_abs (by omega)).2 ⟨h0, h1⟩⟩
end Cs
end Go.Proofs.YtccikcpcfdjobaaGreatDoor

namespace Go.Proofs.YtccikcpcfdjobaaGreatDoor
namespace Cs
theorem courseOk_iff (c : Co) : courseOk c = true ↔ (0 ≤ c.b ∧ c.b ≤ 359) ∧ (0 ≤ c.n ∧ c.n ≤ 30) ∧ (1 ≤ c.l ∧ c.l ≤ 100000) ∧ (1 ≤ c.y ∧ c.y ≤ 3000) ∧ (-500 ≤ c.w ∧ c.w ≤ 500) ∧ (0 ≤ c.s ∧ c.s ≤ 200) := by
 simp only [courseOk, chainOk, Bool.and_eq_true, decide_eq_true_eq]
 constructor
 ·rintro ⟨⟨a, b, d, e, f⟩, g, h, i, j⟩
  exact ⟨a, b, d, ⟨e, f⟩, ⟨g, h⟩, ⟨i, j⟩⟩
 ·rintro ⟨a, b, d, ⟨e, f⟩, ⟨g, h⟩, ⟨i, j⟩⟩
  exact ⟨⟨a, b, d, e, f⟩, g, h, i, j⟩
theorem mid_range (vs : List (Int × Int)) (c : Co) : -90 ≤ midF vs c ∧ midF vs c ≤ 269 := by
 have := norm_range (c.b + (dec vs c.y).1 + 90)
 unfold midF
 omega
theorem len_range {c : Co} (h : courseOk c = true) : 0 < nearF c ∧ nearF c ≤ farF c ∧ farF c ≤ 1070000000 := by
 obtain ⟨_, _, ⟨l0, l1⟩, _, ⟨w0, w1⟩, ⟨s0, s1⟩⟩ := (courseOk_iff c).1 h
 refine ⟨Int.mul_pos (by omega) (by omega), Int.mul_le_mul_of_nonneg_left (by omega) (by omega), ?_⟩
 have : c.l * (10000 + c.w + c.s) ≤ 100000 * 10700 := Int.mul_le_mul (by omega) (by omega) (by omega) (by omega)
 exact this
theorem turn_ok {c : Co} (h : courseOk c = true) : courseOk (turn c) = true := by
 rw [courseOk_iff] at h ⊢
 have := norm_range (c.b + 180)
 simp only [turn]
 omega
theorem aimOf_ok (vs : List (Int × Int)) {c : Co} (h : courseOk c = true) : AimOk (aimOf vs c) := by
 obtain ⟨n0, nf, f1⟩ := len_range h
 obtain ⟨m0, m1⟩ := mid_range vs c
 obtain ⟨_, ⟨a0, a1⟩, _⟩ := (courseOk_iff c).1 h
 unfold aimOf
 refine ⟨?_, ?_, ?_, ?_, ?_, n0, ?_, nf, f1⟩ <;> dsimp only <;> omega
theorem aimEast_ok (vs : List (Int × Int)) {c : Co} (h : courseOk c = true) (dx : Int) : AimOk (aimEast vs c dx) := by
 unfold aimEast
 split
 ·exact aimOf_ok vs (turn_ok h)
 ·exact aimOf_ok vs h
theorem comG_range (vs : List (Int × Int)) {dx : Int} (cs : List Co) (lo hi : Int) (hl : -100000 ≤ lo) (hh : hi ≤ 100000) (hlh : lo ≤ hi) :
    -100000 ≤ (comG vs dx (lo, hi) cs).1 ∧ (comG vs dx (lo, hi) cs).2.1 ≤ 100000 ∧ (comG vs dx (lo, hi) cs).1 ≤ (comG vs dx (lo, hi) cs).2.1 ∧
      ((comG vs dx (lo, hi) cs).2.2 = false → (comG vs dx (lo, hi) cs).1 = 0 ∧ (comG vs dx (lo, hi) cs).2.1 = 0) := by
  induction cs generalizing lo hi with
  | nil => simp [comG]; omega
  | cons c r ih =>
    rw [comG]
    split
    · rename_i hc
      simp only [Bool.and_eq_true, decide_eq_true_eq] at hc
      exact ih _ _ (by omega) (by omega) hc.2
    · simp
end Cs
end Go.Proofs.YtccikcpcfdjobaaGreatDoor

namespace Go.Proofs.YtccikcpcfdjobaaGreatDoor
namespace Cs
theorem comF_err1 {vs : List (Int × Int)} {c : Co} {dx : Int} (h : eastE vs [c] dx ≠ 0) : comF vs [c] dx = ((0, 0, false), eastE vs [c] dx) := by
 rw [comF, if_neg (by simp), if_neg (by simp), if_pos h]
theorem comF_zero {vs : List (Int × Int)} {c : Co} {dx : Int} (h : eastE vs [c] dx = 0) : comF vs [c] dx = (comG vs dx (-100000, 100000) [c], 0) := by
 rw [comF, if_neg (by simp), if_neg (by simp), if_neg (by rw [h]; simp)]
end Cs
end Go.Proofs.YtccikcpcfdjobaaGreatDoor

namespace Go.Proofs.YtccikcpcfdjobaaGreatDoor
namespace Dd
theorem field_facts {f : Fd} (h : fieldE f = 0) : 1 ≤ f.li.length ∧ 2 ≤ f.st.length ∧ f.st.length ≤ 12 ∧ f.li.length ≤ 10 ∧ f.pa.length ≤ 40 ∧ Cs.varsE f.va = 0 ∧ namesF f = true ∧ distF f = true ∧ rangeF f = true ∧ orderF f = true := by
 unfold fieldE at h
 split at h
 ·omega
 ·split at h
  ·omega
  ·split at h
   ·rename_i h1 h2 h3; exact absurd h h3
   ·split at h
    ·omega
    ·split at h
     ·omega
     ·split at h
      ·omega
      ·split at h
       ·omega
       ·rename_i h1 h2 h3 h4 h5 h6 h7
        simp only [Bool.not_eq_false] at h4 h5 h6 h7
        exact ⟨by omega, by omega, by omega, by omega, by omega, by omega, h4, h5, h6, h7⟩
theorem callG_zero {f : Fd} {c : Ca} (h : callG f c = 0) : there f c = true ∧ ordered c = true ∧ bare c = true ∧ (c.k = 3 → (Cs.comF f.va [c.c] (run f c)).2 = 0 ∧ (Cs.comF f.va [c.c] (run f c)).1.2.2 = true) := by
 unfold callG at h
 split at h
 ·rename_i hc
  simp only [Bool.and_eq_true] at hc
  refine ⟨hc.1.1, hc.1.2, hc.2, fun hk => ?_⟩
  rw [if_neg (by simpa using hk)] at h
  split at h
  ·rename_i h2; exact absurd h h2
  ·rename_i h2
   split at h
   ·rename_i h3; exact ⟨by omega, h3⟩
   ·omega
 ·omega
def near (a b m : Int) : Bool := decide (a - b ≤ m) && decide (b - a ≤ m)
end Dd
end Go.Proofs.YtccikcpcfdjobaaGreatDoor
