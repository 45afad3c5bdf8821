/-
  The plain mathematics of courses, continued: every step; narrower courses; the needle; the reverse; several courses.
-/
import Derived.Test.YtncdeogpmodoaaaGreatDoorMath
set_option linter.unusedVariables false
set_option linter.unusedSimpArgs false
namespace Go.Proofs.YtncdeogpmodoaaaGreatDoor
namespace Cs

theorem courseOk_iff (c : Co) : courseOk c = true ↔ (0 ≤ c.b ∧ c.b ≤ 359) ∧ (0 ≤ c.n ∧ c.n ≤ 30) ∧ (1 ≤ c.l ∧ c.l ≤ 100000) ∧ (1 ≤ c.y ∧ c.y ≤ 3000) ∧ (-500 ≤ c.w ∧ c.w ≤ 500) ∧ (0 ≤ c.s ∧ c.s ≤ 200) := by
  simp only [courseOk, chainOk, Bool.and_eq_true, decide_eq_true_eq]
  constructor
  · rintro ⟨⟨a, b, d, e, f⟩, g, h, i, j⟩
    exact ⟨a, b, d, ⟨e, f⟩, ⟨g, h⟩, ⟨i, j⟩⟩
  · rintro ⟨a, b, d, ⟨e, f⟩, ⟨g, h⟩, ⟨i, j⟩⟩
    exact ⟨⟨a, b, d, e, f⟩, g, h, i, j⟩

theorem mid_range (vs : List (Int × Int)) (c : Co) : -90 ≤ midF vs c ∧ midF vs c ≤ 269 := by
  have := norm_range (c.b + (dec vs c.y).1 + 90)
  unfold midF
  omega

theorem len_range {c : Co} (h : courseOk c = true) : 0 < nearF c ∧ nearF c ≤ farF c ∧ farF c ≤ 1070000000 := by
  obtain ⟨_, _, ⟨l0, l1⟩, _, ⟨w0, w1⟩, ⟨s0, s1⟩⟩ := (courseOk_iff c).1 h
  refine ⟨Int.mul_pos (by omega) (by omega), Int.mul_le_mul_of_nonneg_left (by omega) (by omega), ?_⟩
  have : c.l * (10000 + c.w + c.s) ≤ 100000 * 10700 := Int.mul_le_mul (by omega) (by omega) (by omega) (by omega)
  exact this

theorem turn_ok {c : Co} (h : courseOk c = true) : courseOk (turn c) = true := by
  rw [courseOk_iff] at h ⊢
  have := norm_range (c.b + 180)
  simp only [turn]
  omega
theorem turn_turn {c : Co} (h : courseOk c = true) : turn (turn c) = c := by
  obtain ⟨hb, _⟩ := (courseOk_iff c).1 h
  have : norm (norm (c.b + 180) + 180) = c.b := by unfold norm; omega
  simp only [turn, this]

theorem aimOf_ok (vs : List (Int × Int)) {c : Co} (h : courseOk c = true) : AimOk (aimOf vs c) := by
  obtain ⟨n0, nf, f1⟩ := len_range h
  obtain ⟨m0, m1⟩ := mid_range vs c
  obtain ⟨_, ⟨a0, a1⟩, _⟩ := (courseOk_iff c).1 h
  unfold aimOf
  refine ⟨?_, ?_, ?_, ?_, ?_, n0, ?_, nf, f1⟩ <;> dsimp only <;> omega
theorem aimEast_ok (vs : List (Int × Int)) {c : Co} (h : courseOk c = true) (dx : Int) : AimOk (aimEast vs c dx) := by
  unfold aimEast
  split
  · exact aimOf_ok vs (turn_ok h)
  · exact aimOf_ok vs h

theorem intA_range {a : Aim} (h : AimOk a) {dx : Int} (hx0 : 0 < dx) (hx1 : dx ≤ 100000) (hok : (intA a dx).2.2 = true) :
    -100000 ≤ (intA a dx).1 ∧ (intA a dx).2.1 ≤ 100000 ∧ (intA a dx).1 ≤ (intA a dx).2.1 := by
  unfold intA at hok ⊢
  split at hok
  · cases hok
  · rename_i hn
    rw [if_neg hn]
    simp only [decide_eq_true_eq] at hok
    have h1 : hi1 a dx ≤ 100000 := by unfold hi1; omega
    have h2 : hi2 a dx ≤ hi1 a dx := by unfold hi2; split <;> omega
    have h3 : hi3 a dx ≤ hi2 a dx := by unfold hi3; split <;> omega
    have l2 : -(hi1 a dx) ≤ lo2 a dx := by unfold lo2; split <;> omega
    have l3 : lo2 a dx ≤ lo3 a dx := by unfold lo3; split <;> omega
    dsimp only
    omega

theorem misF_iff (vs : List (Int × Int)) {c : Co} (h : courseOk c = true) {dx dy : Int} (hx : dx ≠ 0) (hx0 : -100000 ≤ dx) (hx1 : dx ≤ 100000) (hy0 : -100000 ≤ dy) (hy1 : dy ≤ 100000) :
    misF vs c dx dy = 0 ↔ (intF vs c dx).2.2 = true ∧ (intF vs c dx).1 ≤ dy ∧ dy ≤ (intF vs c dx).2.1 := by
  have ha := aimEast_ok vs h dx
  unfold misF intF
  by_cases hd : dx < 0
  · rw [if_pos hd, if_neg (by omega), fits_iff ha (by omega) (by omega) (by omega) (by omega)]
    dsimp only
    constructor
    · rintro ⟨p, q, r⟩; exact ⟨p, by omega, by omega⟩
    · rintro ⟨p, q, r⟩; exact ⟨p, by omega, by omega⟩
  · rw [if_neg hd, if_pos (by omega), fits_iff ha (by omega) (by omega) (by omega) (by omega)]

theorem intF_range (vs : List (Int × Int)) {c : Co} (h : courseOk c = true) {dx : Int} (hx : dx ≠ 0) (hx0 : -100000 ≤ dx) (hx1 : dx ≤ 100000) (hok : (intF vs c dx).2.2 = true) :
    -100000 ≤ (intF vs c dx).1 ∧ (intF vs c dx).2.1 ≤ 100000 ∧ (intF vs c dx).1 ≤ (intF vs c dx).2.1 := by
  have ha := aimEast_ok vs h dx
  unfold intF at hok ⊢
  by_cases hd : 0 < dx
  · rw [if_pos hd] at hok ⊢
    exact intA_range ha hd hx1 hok
  · rw [if_neg hd] at hok ⊢
    have := intA_range ha (dx := -dx) (by omega) (by omega) hok
    dsimp only
    omega

/-- One course alone: Common is the interval. -/
theorem comG_one (vs : List (Int × Int)) {c : Co} (h : courseOk c = true) {dx : Int} (hx : dx ≠ 0) (hx0 : -100000 ≤ dx) (hx1 : dx ≤ 100000) :
    comG vs dx (-100000, 100000) [c] = if (intF vs c dx).2.2 then ((intF vs c dx).1, (intF vs c dx).2.1, true) else (0, 0, false) := by
  rw [comG]
  rcases hb : (intF vs c dx).2.2 with _ | _
  · simp
  · obtain ⟨a, b, d⟩ := intF_range vs h hx hx0 hx1 hb
    rw [show max (-100000) (intF vs c dx).1 = (intF vs c dx).1 by omega, show min 100000 (intF vs c dx).2.1 = (intF vs c dx).2.1 by omega]
    simp [d, comG]

theorem comG_iff (vs : List (Int × Int)) {dx : Int} (hx : dx ≠ 0) (hx0 : -100000 ≤ dx) (hx1 : dx ≤ 100000) (cs : List Co) (h : ∀ c ∈ cs, courseOk c = true) (lo hi : Int) (hl : -100000 ≤ lo) (hh : hi ≤ 100000)
    (hlh : lo ≤ hi) {y : Int} (hy0 : -100000 ≤ y) (hy1 : y ≤ 100000) :
    ((lo ≤ y ∧ y ≤ hi) ∧ ∀ c ∈ cs, misF vs c dx y = 0) ↔ (comG vs dx (lo, hi) cs).2.2 = true ∧ (comG vs dx (lo, hi) cs).1 ≤ y ∧ y ≤ (comG vs dx (lo, hi) cs).2.1 := by
  induction cs generalizing lo hi with
  | nil => simp [comG]
  | cons c r ih =>
    have hc := misF_iff vs (h c List.mem_cons_self) (dy := y) hx hx0 hx1 hy0 hy1
    have hr := fun k => intF_range vs (h c List.mem_cons_self) hx hx0 hx1 k
    rw [comG]
    simp only [List.mem_cons, forall_eq_or_imp, hc]
    by_cases hcond : ((intF vs c dx).2.2 && decide (max lo (intF vs c dx).1 ≤ min hi (intF vs c dx).2.1)) = true
    · rw [if_pos hcond]
      simp only [Bool.and_eq_true, decide_eq_true_eq] at hcond
      rw [← ih (fun c hm => h c (List.mem_cons_of_mem _ hm)) _ _ (by omega) (by omega) hcond.2]
      constructor
      · rintro ⟨⟨a, b⟩, ⟨p, q, s⟩, t⟩; exact ⟨by omega, t⟩
      · rintro ⟨a, t⟩; exact ⟨by omega, ⟨hcond.1, by omega, by omega⟩, t⟩
    · rw [if_neg hcond]
      constructor
      · rintro ⟨⟨a, b⟩, ⟨p, q, s⟩, t⟩
        exact absurd (by simp only [Bool.and_eq_true, decide_eq_true_eq]; exact ⟨p, by omega⟩) hcond
      · rintro ⟨a, _⟩; cases a

theorem comG_range (vs : List (Int × Int)) {dx : Int} (cs : List Co) (lo hi : Int) (hl : -100000 ≤ lo) (hh : hi ≤ 100000) (hlh : lo ≤ hi) :
    -100000 ≤ (comG vs dx (lo, hi) cs).1 ∧ (comG vs dx (lo, hi) cs).2.1 ≤ 100000 ∧ (comG vs dx (lo, hi) cs).1 ≤ (comG vs dx (lo, hi) cs).2.1 ∧
      ((comG vs dx (lo, hi) cs).2.2 = false → (comG vs dx (lo, hi) cs).1 = 0 ∧ (comG vs dx (lo, hi) cs).2.1 = 0) := by
  induction cs generalizing lo hi with
  | nil => simp [comG]; omega
  | cons c r ih =>
    rw [comG]
    split
    · rename_i hc
      simp only [Bool.and_eq_true, decide_eq_true_eq] at hc
      exact ih _ _ (by omega) (by omega) hc.2
    · simp

/-! The sines: a wider sector's end lets by whatever a narrower one's does. -/
theorem cot_step : ∀ k ∈ List.range 180, 0 < k → k + 1 < 180 → cos ((k : Int) + 1) * sin (k : Int) ≤ cos (k : Int) * sin ((k : Int) + 1) := by decide +kernel

theorem cot_mono {a : Int} (n : Nat) (h0 : 0 < a) (h1 : a + n < 180) : cos (a + n) * sin a ≤ cos a * sin (a + n) := by
  induction n with
  | zero => simp
  | succ n ih =>
    have hi := ih (by omega)
    have hs := cot_step (a + n).toNat (by simp; omega) (by omega) (by omega)
    rw [show (((a + n).toNat : Nat) : Int) = a + n by omega, show a + (n : Int) + 1 = a + ((n + 1 : Nat) : Int) by omega] at hs
    have p0 := sin_pos h0 (by omega : a < 180)
    have p1 := sin_pos (d := a + n) (by omega) (by omega)
    have p2 := sin_pos (d := a + ((n + 1 : Nat) : Int)) (by omega) h1
    generalize cos a = ca at *
    generalize sin a = sa at *
    generalize cos (a + n) = cb at *
    generalize sin (a + n) = sb at *
    generalize cos (a + ((n + 1 : Nat) : Int)) = cc at *
    generalize sin (a + ((n + 1 : Nat) : Int)) = sc at *
    -- cb * sa ≤ ca * sb, cc * sb ≤ cb * sc, so cc * sa * sb ≤ ca * sc * sb
    have e1 : cc * sb * sa ≤ cb * sc * sa := Int.mul_le_mul_of_nonneg_right hs (by omega)
    have e2 : cb * sa * sc ≤ ca * sb * sc := Int.mul_le_mul_of_nonneg_right hi (by omega)
    have e3 : cc * sa * sb ≤ ca * sc * sb := by
      rw [show cc * sa * sb = cc * sb * sa by ac_rfl, show ca * sc * sb = ca * sb * sc by ac_rfl]
      rw [show cb * sc * sa = cb * sa * sc by ac_rfl] at e1
      omega
    exact Int.le_of_mul_le_mul_right e3 p1

theorem cot_le {a b : Int} (h0 : 0 < a) (hab : a ≤ b) (h1 : b < 180) : cos b * sin a ≤ cos a * sin b := by
  have := cot_mono (a := a) (b - a).toNat h0 (by omega)
  rwa [show a + (((b - a).toNat : Nat) : Int) = b by omega] at this

/-- Below the line at b is below the line at a, if a is at most b. -/
theorem line_low {a b dx dy : Int} (h0 : 0 < a) (hab : a ≤ b) (h1 : b < 180) (hx : 0 ≤ dx) (h : dy * sin b ≤ dx * cos b) : dy * sin a ≤ dx * cos a := by
  have pa := sin_pos h0 (by omega : a < 180)
  have pb := sin_pos (d := b) (by omega) h1
  have hc := cot_le h0 hab h1
  generalize cos a = ca at *
  generalize sin a = sa at *
  generalize cos b = cb at *
  generalize sin b = sb at *
  have e1 : dy * sb * sa ≤ dx * cb * sa := Int.mul_le_mul_of_nonneg_right h (by omega)
  have e2 : dx * (cb * sa) ≤ dx * (ca * sb) := Int.mul_le_mul_of_nonneg_left hc hx
  have e3 : dy * sa * sb ≤ dx * ca * sb := by
    rw [show dy * sa * sb = dy * sb * sa by ac_rfl, show dx * ca * sb = dx * (ca * sb) by ac_rfl]
    rw [show dx * cb * sa = dx * (cb * sa) by ac_rfl] at e1
    omega
  exact Int.le_of_mul_le_mul_right e3 pb
theorem line_high {a b dx dy : Int} (h0 : 0 < a) (hab : a ≤ b) (h1 : b < 180) (hx : 0 ≤ dx) (h : dx * cos a ≤ dy * sin a) : dx * cos b ≤ dy * sin b := by
  have pa := sin_pos h0 (by omega : a < 180)
  have pb := sin_pos (d := b) (by omega) h1
  have hc := cot_le h0 hab h1
  generalize cos a = ca at *
  generalize sin a = sa at *
  generalize cos b = cb at *
  generalize sin b = sb at *
  have e1 : dx * ca * sb ≤ dy * sa * sb := Int.mul_le_mul_of_nonneg_right h (by omega)
  have e2 : dx * (cb * sa) ≤ dx * (ca * sb) := Int.mul_le_mul_of_nonneg_left hc hx
  have e3 : dx * cb * sa ≤ dy * sb * sa := by
    rw [show dx * cb * sa = dx * (cb * sa) by ac_rfl, show dy * sb * sa = dy * sa * sb by ac_rfl]
    rw [show dx * ca * sb = dx * (ca * sb) by ac_rfl] at e1
    omega
  exact Int.le_of_mul_le_mul_right e3 pa

/-- The one aim lies within the other one. -/
structure AimIn (a b : Aim) : Prop where
  low : b.low ≤ a.low
  high : a.high ≤ b.high
  near : b.near ≤ a.near
  far : a.far ≤ b.far

theorem misA_in {a b : Aim} (ha : AimOk a) (hb : AimOk b) (h : AimIn a b) {dx dy : Int} (hx : 0 ≤ dx) (hm : misA a dx dy = 0) : misA b dx dy = 0 := by
  rw [misA_zero] at hm ⊢
  obtain ⟨c0, c1, c2, c3, c4⟩ := hm
  rw [cond0_iff] at c0 ⊢
  have hl := h.low
  have hh := h.high
  have hn := h.near
  have hf := h.far
  have hal := ha.le
  simp only [cond1, Bool.or_eq_true, decide_eq_true_eq] at c1 ⊢
  simp only [cond2, Bool.or_eq_true, decide_eq_true_eq] at c2 ⊢
  simp only [cond3, decide_eq_true_eq] at c3 ⊢
  simp only [cond4, Bool.or_eq_true, Bool.and_eq_true, decide_eq_true_eq] at c4 ⊢
  have fs : a.far * a.far ≤ b.far * b.far := Int.mul_le_mul hf hf (by have := ha.far0; omega) (by have := hb.far0; omega)
  have ns : b.near * b.near ≤ a.near * a.near := Int.mul_le_mul hn hn (by have := hb.near0; omega) (by have := ha.near0; omega)
  refine ⟨by omega, ?_, ?_, by omega, ?_⟩
  · by_cases hb0 : b.low ≤ 0
    · exact .inl hb0
    · right
      rcases c1 with c1 | c1
      · omega
      · exact line_low (by omega) hl c0.2 hx c1
  · by_cases hb0 : 180 ≤ b.high
    · exact .inl hb0
    · right
      rcases c2 with c2 | c2
      · omega
      · exact line_high c0.1 hh (by omega) hx c2
  · rcases c4 with c4 | c4
    · exact .inl (by omega)
    · exact .inr (by omega)

theorem narF_iff (a b : Co) : narF a b = true ↔ courseOk a = true ∧ courseOk b = true ∧ (a.b = b.b ∧ a.l = b.l ∧ a.y = b.y) ∧ a.n ≤ b.n ∧ b.w - b.s ≤ a.w - a.s ∧ a.w + a.s ≤ b.w + b.s := by
  simp only [narF, Bool.and_eq_true, decide_eq_true_eq]
  constructor
  · rintro ⟨⟨⟨⟨⟨p, q⟩, r⟩, s⟩, t⟩, u⟩; exact ⟨p, q, r, s, t, u⟩
  · rintro ⟨p, q, r, s, t, u⟩; exact ⟨⟨⟨⟨⟨p, q⟩, r⟩, s⟩, t⟩, u⟩

theorem aimOf_in (vs : List (Int × Int)) {a b : Co} (hl0 : 0 ≤ a.l) (h : (a.b = b.b ∧ a.l = b.l ∧ a.y = b.y) ∧ a.n ≤ b.n ∧ b.w - b.s ≤ a.w - a.s ∧ a.w + a.s ≤ b.w + b.s) : AimIn (aimOf vs a) (aimOf vs b) := by
  obtain ⟨⟨e1, e2, e3⟩, hn, h1, h2⟩ := h
  have hm : midF vs a = midF vs b := by unfold midF; rw [e1, e3]
  refine ⟨?_, ?_, ?_, ?_⟩ <;> simp only [aimOf, nearF, farF, hm]
  · omega
  · omega
  · rw [← e2]; exact Int.mul_le_mul_of_nonneg_left (by omega) hl0
  · rw [← e2]; exact Int.mul_le_mul_of_nonneg_left (by omega) hl0

theorem misF_in (vs : List (Int × Int)) {a b : Co} (h : narF a b = true) {dx dy : Int} (hm : misF vs a dx dy = 0) : misF vs b dx dy = 0 := by
  obtain ⟨oa, ob, he⟩ := (narF_iff a b).1 h
  obtain ⟨_, _, ⟨l0, _⟩, _⟩ := (courseOk_iff a).1 oa
  have hin : AimIn (aimEast vs a dx) (aimEast vs b dx) := by
    unfold aimEast
    split
    · exact aimOf_in vs (a := turn a) (b := turn b) (by simp only [turn]; omega) (by simp only [turn, he.1.1]; exact ⟨⟨trivial, he.1.2⟩, he.2⟩)
    · exact aimOf_in vs (by omega) he
  unfold misF at hm ⊢
  split at hm
  · rw [if_pos (by assumption)]
    exact misA_in (aimEast_ok vs oa dx) (aimEast_ok vs ob dx) hin (by omega) hm
  · rw [if_neg (by assumption)]
    exact misA_in (aimEast_ok vs oa dx) (aimEast_ok vs ob dx) hin (by omega) hm

theorem intF_in (vs : List (Int × Int)) {a b : Co} (h : narF a b = true) {dx : Int} (hx : dx ≠ 0) (hx0 : -100000 ≤ dx) (hx1 : dx ≤ 100000) (hok : (intF vs a dx).2.2 = true) :
    (intF vs b dx).2.2 = true ∧ (intF vs b dx).1 ≤ (intF vs a dx).1 ∧ (intF vs a dx).2.1 ≤ (intF vs b dx).2.1 := by
  obtain ⟨oa, ob, he⟩ := (narF_iff a b).1 h
  obtain ⟨r0, r1, r2⟩ := intF_range vs oa hx hx0 hx1 hok
  have p := (misF_iff vs ob hx hx0 hx1 (by omega) (by omega)).1 (misF_in vs h ((misF_iff vs oa hx hx0 hx1 (dy := (intF vs a dx).1) (by omega) (by omega)).2 ⟨hok, by omega, by omega⟩))
  have q := (misF_iff vs ob hx hx0 hx1 (by omega) (by omega)).1 (misF_in vs h ((misF_iff vs oa hx hx0 hx1 (dy := (intF vs a dx).2.1) (by omega) (by omega)).2 ⟨hok, by omega, by omega⟩))
  exact ⟨p.1, p.2.1, q.2.2⟩

/-! The needle. -/
theorem needle_ok {c : Co} (h : courseOk c = true) {k : Int} (h0 : 0 ≤ k) (h1 : k ≤ 30) : courseOk { c with n := k } = true := by
  rw [courseOk_iff] at h ⊢
  exact ⟨h.1, ⟨h0, h1⟩, h.2.2⟩
theorem needle_in (vs : List (Int × Int)) {c : Co} (h : courseOk c = true) {j k dx dy : Int} (h0 : 0 ≤ j) (hjk : j ≤ k) (h1 : k ≤ 30) (hm : misF vs { c with n := j } dx dy = 0) : misF vs { c with n := k } dx dy = 0 :=
  misF_in vs ((narF_iff _ _).2 ⟨needle_ok h h0 (by omega), needle_ok h (by omega) h1, ⟨rfl, rfl, rfl⟩, hjk, Int.le_refl _, Int.le_refl _⟩) hm

theorem needG_spec (vs : List (Int × Int)) {c : Co} (h : courseOk c = true) (dx dy : Int) (m : Nat) (k : Int) (h0 : 0 ≤ k) (hm : k + m = 31) :
    ((needG vs c dx dy m k).2 = true → k ≤ (needG vs c dx dy m k).1 ∧ (needG vs c dx dy m k).1 ≤ 30) ∧ ((needG vs c dx dy m k).2 = false → (needG vs c dx dy m k).1 = 0) ∧
    ∀ j, k ≤ j → j ≤ 30 → (misF vs { c with n := j } dx dy = 0 ↔ (needG vs c dx dy m k).2 = true ∧ (needG vs c dx dy m k).1 ≤ j) := by
  induction m generalizing k with
  | zero =>
    refine ⟨by simp [needG], by simp [needG], fun j a b => ?_⟩
    simp at hm
    omega
  | succ m ih =>
    rw [needG]
    split
    · rename_i hz
      exact ⟨fun _ => by simp; omega, by simp, fun j a b => ⟨fun _ => by simpa using a, fun _ => needle_in vs h h0 a b hz⟩⟩
    · rename_i hz
      obtain ⟨i1, i2, i3⟩ := ih (k + 1) (by omega) (by omega)
      refine ⟨fun t => by have := i1 t; omega, i2, fun j a b => ?_⟩
      rcases Int.lt_or_le k j with hj | hj
      · exact i3 j (by omega) b
      · obtain rfl : k = j := by omega
        constructor
        · intro e; exact absurd e hz
        · rintro ⟨t, u⟩
          have := i1 t
          omega

/-! The reverse. -/
theorem misF_turn (vs : List (Int × Int)) {c : Co} (h : courseOk c = true) {dx dy : Int} (hx : dx ≠ 0) : misF vs (turn c) (-dx) (-dy) = misF vs c dx dy := by
  unfold misF aimEast
  by_cases hd : dx < 0
  · rw [if_pos hd, if_neg (by omega), if_pos hd, if_neg (by omega)]
  · rw [if_neg hd, if_pos (by omega), if_neg hd, if_pos (by omega), turn_turn h]
    simp

end Cs
end Go.Proofs.YtncdeogpmodoaaaGreatDoor
