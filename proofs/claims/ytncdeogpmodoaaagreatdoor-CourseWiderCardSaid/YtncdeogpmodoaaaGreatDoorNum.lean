/-
  between, Norm, floor, ceil, Root, RootUp of course; Norm, floor, Root, RootUp of the reference.
-/
import Derived.Test.YtncdeogpmodoaaaGreatDoorBase
import Derived.Test.YtncdeogpmodoaaaGreatDoorMath
set_option linter.unusedVariables false
set_option linter.unusedSimpArgs false
namespace Go.Proofs.YtncdeogpmodoaaaGreatDoor
open Go.RowKit

namespace Cs
theorem norm_code2 (d : Int) : (d.tmod 360 + 360) % 360 = norm d := by
  obtain ⟨a, b, q, c⟩ := tm360 d
  rw [c, norm]
  omega
theorem tdiv_range (a b : Int) (ha : -9223372036854775807 ≤ a) (ha' : a ≤ 9223372036854775807) (hb : 0 < b) : -9223372036854775807 ≤ a.tdiv b ∧ a.tdiv b ≤ 9223372036854775807 := by
  have h := Int.natAbs_tdiv a b
  have h2 : a.natAbs / b.natAbs ≤ a.natAbs := Nat.div_le_self _ _
  have h3 : (a.tdiv b).natAbs ≤ a.natAbs := by rw [h]; exact h2
  omega
theorem flo_range (a b : Int) (ha : -9223372036854775807 ≤ a) (ha' : a ≤ 9223372036854775807) (hb : 0 < b) : -9223372036854775807 ≤ flo a b ∧ flo a b ≤ 9223372036854775807 := by
  unfold flo
  constructor
  · rw [Int.le_ediv_iff_mul_le hb]
    have : -9223372036854775807 * b ≤ -9223372036854775807 * 1 := Int.mul_le_mul_of_nonpos_left (by decide) (by omega)
    omega
  · have h : a / b < 9223372036854775808 := by
      rw [Int.ediv_lt_iff_lt_mul hb]
      have : (9223372036854775808 : Int) * 1 ≤ 9223372036854775808 * b := Int.mul_le_mul_of_nonneg_left (by omega) (by decide)
      omega
    omega
theorem tdiv_back (a b : Int) (hb : 0 < b) : ((0 ≤ a → 0 ≤ a.tdiv b * b ∧ a.tdiv b * b ≤ a) ∧ (a < 0 → a ≤ a.tdiv b * b ∧ a.tdiv b * b ≤ 0)) ∧ (a < a.tdiv b * b ↔ a.tmod b < 0) := by
  have h1 := Int.tmod_add_mul_tdiv a b
  rw [Int.mul_comm] at h1
  refine ⟨⟨fun h => ?_, fun h => ?_⟩, by omega⟩
  · have := Int.tmod_nonneg b h
    have := Int.mul_nonneg (Int.tdiv_nonneg h (by omega : 0 ≤ b)) (by omega : 0 ≤ b)
    omega
  · have h2 := Int.tmod_nonneg b (show 0 ≤ -a by omega)
    rw [Int.neg_tmod] at h2
    have h3 := Int.mul_nonneg (Int.tdiv_nonneg (show 0 ≤ -a by omega) (by omega : 0 ≤ b)) (by omega : 0 ≤ b)
    rw [Int.neg_tdiv, Int.neg_mul] at h3
    omega
/-- The bits of the root: half of 2, 4, .. -/
def hb : Nat → Int
  | 0 => 0
  | k + 1 => 2 ^ k
theorem hb_pos (k : Nat) : 0 < hb (k + 1) := Int.pow_pos (by decide)
theorem hb_top {k : Nat} (h : k ≤ 32) : 0 ≤ hb k ∧ hb k ≤ 2147483648 := by
  have : ∀ k ∈ List.range 33, 0 ≤ hb k ∧ hb k ≤ 2147483648 := by decide
  exact this k (List.mem_range.2 (by omega))
theorem hb_half (k : Nat) : hb (k + 1) / 2 = hb k := by
  cases k with
  | zero => rfl
  | succ k =>
    show (2 : Int) ^ (k + 1) / 2 = 2 ^ k
    rw [Int.pow_succ, Int.mul_ediv_cancel _ (by decide)]
theorem hb_dbl (k : Nat) : k = 0 ∨ hb (k + 1) = 2 * hb k := by
  cases k with
  | zero => exact .inl rfl
  | succ k => exact .inr (by show (2 : Int) ^ (k + 1) = 2 * 2 ^ k; rw [Int.pow_succ]; omega)
theorem tdiv_abs (a b : Int) (ha : -9223372036854775808 ≤ a) (ha' : a ≤ 9223372036854775807) (hb : 0 < b) : -9223372036854775808 ≤ a.tdiv b ∧ a.tdiv b ≤ 9223372036854775807 := by
  have h := Int.natAbs_tdiv a b
  have h2 : a.natAbs / b.natAbs ≤ a.natAbs := Nat.div_le_self _ _
  have h3 : (a.tdiv b).natAbs ≤ a.natAbs := by rw [h]; exact h2
  by_cases h4 : 0 ≤ a
  · have := Int.tdiv_nonneg h4 (by omega : 0 ≤ b)
    omega
  · have := Int.tdiv_nonneg (show 0 ≤ -a by omega) (by omega : 0 ≤ b)
    rw [Int.neg_tdiv] at this
    omega
theorem root_step {n r : Int} {k : Nat} (hr : 0 ≤ r) : (r + hb (k + 1) ≤ n.tdiv (r + hb (k + 1))) ↔ (r + 2 ^ k) * (r + 2 ^ k) ≤ n := by
  have hp := hb_pos k
  have e : hb (k + 1) = 2 ^ k := rfl
  rw [e] at hp ⊢
  obtain ⟨t, ht⟩ : ∃ t, r + 2 ^ k = t := ⟨_, rfl⟩
  rw [ht]
  have ht0 : 0 < t := by omega
  rcases Int.lt_or_le n 0 with h | h
  · have h1 : n.tdiv t ≤ 0 := by
      have h2 : (-n).tdiv t ≥ 0 := Int.tdiv_nonneg (by omega) (by omega)
      rw [Int.neg_tdiv] at h2
      omega
    have h2 : 0 < t * t := Int.mul_pos ht0 ht0
    constructor <;> intro <;> omega
  · rw [Int.tdiv_eq_ediv_of_nonneg h, Int.le_ediv_iff_mul_le ht0]
theorem rootF_neg {n : Int} (h : n < 0) (k : Nat) (r : Int) : rootF n k r = r := by
  induction k generalizing r with
  | zero => rfl
  | succ k ih =>
    rw [rootF, if_neg, ih]
    have : 0 ≤ (r + 2 ^ k) * (r + 2 ^ k) := by
      rcases Int.le_total 0 (r + 2 ^ k) with h | h
      · exact Int.mul_nonneg h h
      · rw [← Int.neg_mul_neg]
        exact Int.mul_nonneg (by omega) (by omega)
    omega
theorem root_code (n : Int) : rootF n 32 0 = root n := by
  unfold root
  split
  · rename_i h; exact rootF_neg h _ _
  · rfl
end Cs

theorem between_any (a b c : Int) (w : World) :
    Calls Tryz.prog 61 #[.int .i64 a, .int .i64 b, .int .i64 c] w fun e w' => e = .returned (.bool (decide (a ≤ b ∧ b ≤ c))) ∧ w = w' := by
  by_cases h : a ≤ b
  · go_enter Tryz.func61, Tryz.ntmps61
    go_wp2
    go_ret
    exact ⟨ret_bool (by simp [h]), rfl⟩
  · go_enter Tryz.func61, Tryz.ntmps61
    go_wp2
    go_ret
    exact ⟨ret_bool (by simp; omega), rfl⟩

theorem norm_any (d : Int) (w : World) :
    Calls Tryz.prog 15 #[.int .i64 d] w fun e w' => e = .returned (.int .i64 (Cs.norm d)) ∧ w = w' := by
  obtain ⟨h1, h2, q, h3⟩ := Cs.tm360 d
  have hc := Lib.hid (Cs.norm_code2 d)
  clear h3
  go_enter Tryz.func15, Tryz.ntmps15
  go_wp2
  go_ret
  exact ⟨ret_int hc.out, rfl⟩

theorem rnorm_any (d : Int) (w : World) :
    Calls Tryz.prog 16 #[.int .i64 d] w fun e w' => e = .returned (.int .i64 (Cs.norm d)) ∧ w = w' := by
  obtain ⟨h1, h2, q, h3⟩ := Cs.tm360 d
  clear h3
  by_cases h : d.tmod 360 < 0
  · have hc := Lib.hid (Cs.norm_neg d h)
    go_enter Tryz.func16, Tryz.ntmps16
    go_wp2
    go_ret
    exact ⟨ret_int hc.out, rfl⟩
  · have hc := Lib.hid (Cs.norm_pos d (by omega))
    go_enter Tryz.func16, Tryz.ntmps16
    go_wp2
    go_ret
    exact ⟨ret_int hc.out, rfl⟩

theorem floor_any (a b : Int) (ha : -9223372036854775807 ≤ a) (ha' : a ≤ 9223372036854775807) (hb : 0 < b) (w : World) :
    Calls Tryz.prog 97 #[.int .i64 a, .int .i64 b] w fun e w' => e = .returned (.int .i64 (Cs.flo a b)) ∧ w = w' := by
  have hq := Cs.tdiv_flo a b hb
  have hr := Cs.tdiv_range a b ha ha' hb
  have hb0 : ¬ b = 0 := by omega
  have HQ := Lib.hid hq
  obtain ⟨r1, r2⟩ := hr
  clear hq
  by_cases h : a.tmod b < 0
  · go_enter Tryz.func97, Tryz.ntmps97
    go_wp2
    go_ret
    have := HQ.out
    rw [if_pos h] at this
    exact ⟨ret_int (by omega), rfl⟩
  · go_enter Tryz.func97, Tryz.ntmps97
    go_wp2
    go_ret
    have := HQ.out
    rw [if_neg (by omega)] at this
    exact ⟨ret_int (by omega), rfl⟩

theorem ceil_any (a b : Int) (ha : -9223372036854775807 ≤ a) (ha' : a ≤ 9223372036854775807) (hb : 0 < b) (w : World) :
    Calls Tryz.prog 98 #[.int .i64 a, .int .i64 b] w fun e w' => e = .returned (.int .i64 (Cs.cei a b)) ∧ w = w' := by
  have hr := Cs.flo_range (-a) b (by omega) (by omega) hb
  obtain ⟨r1, r2⟩ := hr
  have hc : Cs.cei a b = -(Cs.flo (-a) b) := rfl
  obtain ⟨q, hq⟩ : ∃ q, Cs.flo (-a) b = q := ⟨_, rfl⟩
  have hfa := fun w => floor_any (-a) b (by omega) (by omega) hb w
  rw [hq] at hc r1 r2
  simp only [hq] at hfa
  rw [hc]
  have HFA := Lib.hid hfa
  clear hfa hc hq
  go_enter Tryz.func98, Tryz.ntmps98
  go_wp2_with (go_at_call 97; refine (HFA.out _).mono ?_; rintro e w' ⟨rfl, rfl⟩)
  go_ret
  exact ⟨rfl, rfl⟩

theorem rfloor_any (a b : Int) (ha : -9223372036854775807 ≤ a) (ha' : a ≤ 9223372036854775807) (hb : 0 < b) (w : World) :
    Calls Tryz.prog 96 #[.int .i64 a, .int .i64 b] w fun e w' => e = .returned (.int .i64 (Cs.flo a b)) ∧ w = w' := by
  have hr := Cs.tdiv_range a b ha ha' hb
  have hb0 : ¬ b = 0 := by omega
  obtain ⟨r1, r2⟩ := hr
  have hp := Cs.tdiv_back a b hb
  obtain ⟨q, hq⟩ : ∃ q, a.tdiv b = q := ⟨_, rfl⟩
  rw [hq] at hp r1 r2
  obtain ⟨⟨hp0, hp1⟩, hp2⟩ := hp
  have hm1 : -9223372036854775808 ≤ q * b := by omega
  have hm2 : q * b ≤ 9223372036854775807 := by omega
  have hfl := Cs.tdiv_flo a b hb
  rw [hq] at hfl
  by_cases h : a < q * b
  · rw [if_pos (hp2.1 h)] at hfl
    have HF := Lib.hid (show q - 1 = Cs.flo a b by omega)
    clear hp2 hp1 hp0 hfl
    go_enter Tryz.func96, Tryz.ntmps96
    go_wp2
    go_ret
    exact ⟨ret_int HF.out, rfl⟩
  · rw [if_neg (fun e => h (hp2.2 e))] at hfl
    have HF := Lib.hid (show q = Cs.flo a b by omega)
    clear hp2 hp1 hp0 hfl
    go_enter Tryz.func96, Tryz.ntmps96
    go_wp2
    go_ret
    exact ⟨ret_int HF.out, rfl⟩

set_option maxHeartbeats 1000000 in
theorem root_any (n : Int) (hn : -9223372036854775808 ≤ n) (hn' : n ≤ 9223372036854775807) (w : World) :
    Calls Tryz.prog 22 #[.int .i64 n] w fun e w' => e = .returned (.int .i64 (Cs.root n)) ∧ w = w' := by
  have HC := Lib.hid (Cs.root_code n)
  go_enter Tryz.func22, Tryz.ntmps22
  go_wp2
  go_loop [3, 4] (fun r b => ∃ (k : Nat) (x : Int), k ≤ 32 ∧ b = .int .i64 (Cs.hb k) ∧ r = .int .i64 x ∧ 0 ≤ x ∧ x ≤ 4294967296 - Cs.hb k * 2 ∧ Cs.rootF n k x = Cs.rootF n 32 0) (fun _ b => (intOf b).toNat)
  case atStart => exact ⟨32, 0, by omega, rfl, rfl, by omega, by decide, rfl⟩
  case round =>
    obtain ⟨k, x, hk, rfl, rfl, hx0, hx1, hF⟩ := hrel
    rcases k with _ | k
    · have hF2 : x = Cs.root n := by rw [← HC.out, ← hF]; rfl
      have HF := Lib.hid hF2
      have h0 : Cs.hb 0 = 0 := rfl
      clear hF hF2
      go_wp2
      go_ret
      exact ⟨ret_int HF.out, rfl⟩
    · have hp := Cs.hb_pos k
      have ht := (Cs.hb_top hk).2
      have hs := Cs.root_step (n := n) (k := k) hx0
      have hh := Cs.hb_half k
      have hd := Cs.hb_dbl k
      rw [Cs.rootF] at hF
      obtain ⟨B, hB⟩ : ∃ B, Cs.hb (k + 1) = B := ⟨_, rfl⟩
      rw [hB] at hp ht hs hh hd hx1 ⊢
      have e2 : (2 : Int) ^ k = B := hB
      rw [e2] at hs hF
      have HB := Lib.hid hB
      have hq0 : ¬ (x + B = 0) := by omega
      have hr := Cs.tdiv_abs n (x + B) hn hn' (by omega)
      by_cases hc : x + B ≤ n.tdiv (x + B)
      · rw [if_pos (hs.1 hc)] at hF
        have HF := Lib.hid hF
        have HH := Lib.hid hh
        have HD := Lib.hid hd
        clear hF hs hh e2 hB hd
        go_wp2
        refine ⟨⟨k, _, by omega, by rw [HH.out], rfl, by omega, ?_, HF.out⟩, by simp [intOf]; omega⟩
        rcases HD.out with rfl | e
        · have : Cs.hb 0 = 0 := rfl
          omega
        · omega
      · rw [if_neg (fun e => hc (hs.2 e))] at hF
        have HF := Lib.hid hF
        have HH := Lib.hid hh
        have HD := Lib.hid hd
        clear hF hs hh e2 hB hd
        go_wp2
        refine ⟨⟨k, _, by omega, by rw [HH.out], rfl, by omega, ?_, HF.out⟩, by simp [intOf]; omega⟩
        rcases HD.out with rfl | e
        · have : Cs.hb 0 = 0 := rfl
          omega
        · omega

set_option maxRecDepth 100000 in
set_option maxHeartbeats 1000000 in
theorem rroot_any (n : Int) (hn : -9223372036854775808 ≤ n) (hn' : n ≤ 9223372036854775807) (w : World) :
    Calls Tryz.prog 24 #[.int .i64 n] w fun e w' => e = .returned (.int .i64 (Cs.root n)) ∧ w = w' := by
  by_cases h0 : n < 1
  · have hr : Cs.root n = 0 := by
      rcases Int.lt_or_le n 0 with h | h
      · exact Cs.root_neg h
      · obtain rfl : n = 0 := by omega
        decide
    have HR := Lib.hid hr
    clear hr
    go_enter Tryz.func24, Tryz.ntmps24
    go_wp2
    go_ret
    exact ⟨ret_int (by rw [HR.out]), rfl⟩
  · have HC := Lib.hid (Cs.root_code n)
    go_enter Tryz.func24, Tryz.ntmps24
    go_wp2
    go_loop [3, 4] (fun r b => ∃ (k : Nat) (x : Int), k ≤ 32 ∧ b = .int .i64 ((k : Int) - 1) ∧ r = .int .i64 x ∧ 0 ≤ x ∧ x ≤ 4294967296 - Cs.hb k * 2 ∧ Cs.rootF n k x = Cs.rootF n 32 0) (fun _ b => (intOf b + 1).toNat)
    case atStart => exact ⟨32, 0, by omega, rfl, rfl, by omega, by decide, rfl⟩
    case round =>
      obtain ⟨k, x, hk, rfl, rfl, hx0, hx1, hF⟩ := hrel
      rcases k with _ | k
      · have hF2 : x = Cs.root n := by rw [← HC.out, ← hF]; rfl
        have HF := Lib.hid hF2
        clear hF hF2 hx1 hk
        rw [show ((0 : Nat) : Int) - 1 = -1 from rfl]
        go_wp2
        go_ret
        exact ⟨ret_int HF.out, rfl⟩
      · have hp := Cs.hb_pos k
        have ht := (Cs.hb_top hk).2
        have hd := Cs.hb_dbl k
        rw [Cs.rootF] at hF
        obtain ⟨B, hB⟩ : ∃ B, Cs.hb (k + 1) = B := ⟨_, rfl⟩
        rw [hB] at hp ht hd hx1
        have e2 : (2 : Int) ^ k = B := hB
        rw [e2] at hF
        have hki : ((k + 1 : Nat) : Int) - 1 = (k : Int) := by omega
        rw [hki]
        have hk0 : (0 : Int) ≤ (k : Int) := Int.natCast_nonneg _
        have hk31 : (k : Int) ≤ 31 := by omega
        have hfin : ∀ y, (y = x ∨ y = x + B) → Cs.rootF n k y = Cs.rootF n 32 0 → ((∃ k_1 x_1, k_1 ≤ 32 ∧ Value.int IntKind.i64 ((k : Int) - 1) = Value.int IntKind.i64 ((k_1 : Nat) - 1 : Int) ∧ Value.int IntKind.i64 y = Value.int IntKind.i64 x_1 ∧ 0 ≤ x_1 ∧ x_1 ≤ 4294967296 - Cs.hb k_1 * 2 ∧ Cs.rootF n k_1 x_1 = Cs.rootF n 32 0) ∧ (intOf (Value.int IntKind.i64 ((k : Int) - 1)) + 1).toNat < (intOf (Value.int IntKind.i64 (k : Int)) + 1).toNat) := fun y hy hr => by
          refine ⟨⟨k, y, by omega, rfl, rfl, by omega, ?_, hr⟩, by first | (simp [intOf]; done) | (simp [intOf]; omega)⟩
          rcases hd with rfl | e
          · have : Cs.hb 0 = 0 := rfl
            have : B = 1 := hB.symm
            omega
          · omega
        have HFIN := Lib.hid hfin
        clear hfin hd hB
        rcases Int.lt_or_le 3037000499 (x + B) with hc | hc
        · have hbig : ¬ (x + B) * (x + B) ≤ n := by
            have : (3037000500 : Int) * 3037000500 ≤ (x + B) * (x + B) := Int.mul_le_mul (by omega) (by omega) (by decide) (by omega)
            omega
          rw [if_neg hbig] at hF
          have HF := Lib.hid hF
          clear hF hbig
          go_wp2
          exact HFIN.out _ (.inl rfl) HF.out
        · have hm1 : (x + B) * (x + B) ≤ 9223372036854775807 := by
            have : (x + B) * (x + B) ≤ 3037000499 * 3037000499 := Int.mul_le_mul hc hc (by omega) (by decide)
            omega
          have hm0 : 0 ≤ (x + B) * (x + B) := Int.mul_nonneg (by omega) (by omega)
          by_cases hs : (x + B) * (x + B) ≤ n
          · rw [if_pos hs] at hF
            have HF := Lib.hid hF
            clear hF
            go_wp2
            exact HFIN.out _ (.inr rfl) HF.out
          · rw [if_neg hs] at hF
            have HF := Lib.hid hF
            clear hF
            go_wp2
            exact HFIN.out _ (.inl rfl) HF.out

end Go.Proofs.YtncdeogpmodoaaaGreatDoor
