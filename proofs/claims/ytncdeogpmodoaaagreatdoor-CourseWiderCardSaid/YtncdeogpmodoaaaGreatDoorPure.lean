/-
  What the functions of package course return, in plain words of Lean; and the plain facts on them.
-/
set_option linter.unusedVariables false
set_option linter.unusedSimpArgs false
namespace Go.Proofs.YtncdeogpmodoaaaGreatDoor

namespace Cs

def norm (d : Int) : Int := d % 360

def T : List Int := [0, 175, 349, 523, 698, 872, 1045, 1219, 1392, 1564,
  1736, 1908, 2079, 2250, 2419, 2588, 2756, 2924, 3090, 3256,
  3420, 3584, 3746, 3907, 4067, 4226, 4384, 4540, 4695, 4848,
  5000, 5150, 5299, 5446, 5592, 5736, 5878, 6018, 6157, 6293,
  6428, 6561, 6691, 6820, 6947, 7071, 7193, 7314, 7431, 7547,
  7660, 7771, 7880, 7986, 8090, 8192, 8290, 8387, 8480, 8572,
  8660, 8746, 8829, 8910, 8988, 9063, 9135, 9205, 9272, 9336,
  9397, 9455, 9511, 9563, 9613, 9659, 9703, 9744, 9781, 9816,
  9848, 9877, 9903, 9925, 9945, 9962, 9976, 9986, 9994, 9998,
  10000]
theorem T_length : T.length = 91 := by decide

def tb (k : Int) : Int := T[k.toNat]?.getD 0
theorem tb_range (k : Int) : 0 ≤ tb k ∧ tb k ≤ 10000 := by
  unfold tb
  rcases Nat.lt_or_ge k.toNat T.length with h | h
  · rw [List.getElem?_eq_getElem h]
    have : ∀ x ∈ T, 0 ≤ x ∧ x ≤ 10000 := by decide
    exact this _ (List.getElem_mem h)
  · rw [List.getElem?_eq_none h]
    decide
theorem tb_at {k : Int} (h0 : 0 ≤ k) (h1 : k ≤ 90) : T[k.toNat]? = some (tb k) := by
  have : k.toNat < T.length := by rw [T_length]; omega
  unfold tb
  rw [List.getElem?_eq_getElem this]
  rfl

/-- The sine of a direction from 0 to 359. -/
def sinI (n : Int) : Int :=
  if 180 < n then (if 90 < n - 180 then -(tb (360 - n)) else -(tb (n - 180)))
  else if 90 < n then tb (180 - n) else tb n
def sin (d : Int) : Int := sinI (norm d)
def cos (d : Int) : Int := sin (norm d + 90)

theorem norm_range (d : Int) : 0 ≤ norm d ∧ norm d ≤ 359 := by unfold norm; omega
theorem sinI_range (n : Int) : -10000 ≤ sinI n ∧ sinI n ≤ 10000 := by
  unfold sinI
  have a := tb_range (360 - n)
  have b := tb_range (n - 180)
  have c := tb_range (180 - n)
  have d := tb_range n
  split
  · split <;> omega
  · split <;> omega
theorem sin_range (d : Int) : -10000 ≤ sin d ∧ sin d ≤ 10000 := sinI_range _
theorem cos_range (d : Int) : -10000 ≤ cos d ∧ cos d ≤ 10000 := sinI_range _

/-- The root of n, bit by bit. -/
def rootF (n : Int) : Nat → Int → Int
  | 0, r => r
  | k + 1, r => rootF n k (if (r + 2 ^ k) * (r + 2 ^ k) ≤ n then r + 2 ^ k else r)
def root (n : Int) : Int := if n < 0 then 0 else rootF n 32 0
def rootUp (n : Int) : Int := if root n * root n < n then root n + 1 else root n

theorem rootF_spec (n : Int) (k : Nat) (r : Int) (h0 : 0 ≤ r) (h1 : r * r ≤ n) (h2 : n < (r + 2 ^ k) * (r + 2 ^ k)) :
    0 ≤ rootF n k r ∧ rootF n k r * rootF n k r ≤ n ∧ n < (rootF n k r + 1) * (rootF n k r + 1) := by
  induction k generalizing r with
  | zero => exact ⟨h0, h1, by simpa [rootF] using h2⟩
  | succ k ih =>
    rw [rootF]
    have hp : (0 : Int) < 2 ^ k := Int.pow_pos (by decide)
    have hpp : (2 : Int) ^ (k + 1) = 2 ^ k + 2 ^ k := by rw [Int.pow_succ]; omega
    split
    · rename_i h
      refine ih _ (by omega) h ?_
      rw [show r + 2 ^ k + 2 ^ k = r + 2 ^ (k + 1) by omega]
      exact h2
    · rename_i h
      exact ih _ h0 h1 (by omega)

theorem root_spec {n : Int} (h0 : 0 ≤ n) (h1 : n ≤ 9223372036854775807) : 0 ≤ root n ∧ root n * root n ≤ n ∧ n < (root n + 1) * (root n + 1) := by
  rw [root, if_neg (by omega)]
  exact rootF_spec n 32 0 (by decide) (by simpa using h0) (by simp; omega)
theorem root_neg {n : Int} (h : n < 0) : root n = 0 := by rw [root, if_pos h]
theorem root_le {n : Int} (h1 : n ≤ 9223372036854775807) : 0 ≤ root n ∧ root n ≤ 3037000499 := by
  rcases Int.lt_or_le n 0 with h | h
  · rw [root_neg h]; decide
  · obtain ⟨a, b, _⟩ := root_spec h h1
    refine ⟨a, ?_⟩
    rcases Int.lt_or_le 3037000499 (root n) with hh | hh
    · have : (3037000500 : Int) * 3037000500 ≤ root n * root n := Int.mul_le_mul (by omega) (by omega) (by decide) (by omega)
      omega
    · exact hh

/-- A course: bearing, needle, links, year, wear, slack. -/
structure Co where
  b : Int
  n : Int
  l : Int
  y : Int
  w : Int
  s : Int
deriving DecidableEq

def chainOk (w s : Int) : Bool := decide (-500 ≤ w ∧ w ≤ 500 ∧ 0 ≤ s ∧ s ≤ 200)
def chainE (w s : Int) : Int := if chainOk w s then 0 else 1
def courseOk (c : Co) : Bool := decide ((0 ≤ c.b ∧ c.b ≤ 359) ∧ (0 ≤ c.n ∧ c.n ≤ 30) ∧ (1 ≤ c.l ∧ c.l ≤ 100000) ∧ 1 ≤ c.y ∧ c.y ≤ 3000) && chainOk c.w c.s
def courseE (c : Co) : Int := if courseOk c then 0 else 1

/-- Variations (year, east) from some year on. -/
def okV : Int → List (Int × Int) → Bool
  | _, [] => true
  | b, (y, e) :: r => decide (b + 1 ≤ y ∧ y ≤ 3000 ∧ -60 ≤ e ∧ e ≤ 60) && okV y r
def varsE (vs : List (Int × Int)) : Int := if 40 < vs.length then 2 else if okV 0 vs then 0 else 1
def decG (year : Int) : Int × Bool → List (Int × Int) → Int × Bool
  | acc, [] => acc
  | acc, (y, e) :: r => decG year (if y ≤ year then (e, true) else acc) r
def dec (vs : List (Int × Int)) (year : Int) : Int × Bool := if varsE vs = 0 then decG year (0, false) vs else (0, false)

def checkE (vs : List (Int × Int)) (cs : List Co) : Int :=
  if varsE vs ≠ 0 then varsE vs
  else if cs.all courseOk then (if cs.all (fun c => (dec vs c.y).2) then 0 else 20) else 1

theorem okV_east {b : Int} {vs : List (Int × Int)} (h : okV b vs = true) : ∀ v ∈ vs, -60 ≤ v.2 ∧ v.2 ≤ 60 := by
  induction vs generalizing b with
  | nil => simp
  | cons v r ih =>
    obtain ⟨y, e⟩ := v
    simp only [okV, Bool.and_eq_true, decide_eq_true_eq] at h
    intro v hv
    rcases List.mem_cons.1 hv with rfl | hv
    · simp; omega
    · exact ih h.2 v hv
theorem decG_range (year : Int) (vs : List (Int × Int)) (acc : Int × Bool) (ha : -60 ≤ acc.1 ∧ acc.1 ≤ 60) (hv : ∀ v ∈ vs, -60 ≤ v.2 ∧ v.2 ≤ 60) :
    -60 ≤ (decG year acc vs).1 ∧ (decG year acc vs).1 ≤ 60 := by
  induction vs generalizing acc with
  | nil => exact ha
  | cons v r ih =>
    obtain ⟨y, e⟩ := v
    rw [decG]
    refine ih _ ?_ (fun v hv' => hv v (List.mem_cons_of_mem _ hv'))
    split
    · exact hv (y, e) List.mem_cons_self
    · exact ha
theorem dec_range (vs : List (Int × Int)) (year : Int) : -60 ≤ (dec vs year).1 ∧ (dec vs year).1 ≤ 60 := by
  unfold dec
  split
  · rename_i h
    refine decG_range _ _ _ (by decide) ?_
    unfold varsE at h
    split at h
    · cases h
    · split at h
      · rename_i h2; exact okV_east h2
      · cases h
  · decide

/-- What a course means. -/
structure Aim where
  low : Int
  high : Int
  near : Int
  far : Int
deriving DecidableEq

def nearF (c : Co) : Int := c.l * (10000 + c.w - c.s)
def farF (c : Co) : Int := c.l * (10000 + c.w + c.s)
def midF (vs : List (Int × Int)) (c : Co) : Int := norm (c.b + (dec vs c.y).1 + 90) - 90
def aimOf (vs : List (Int × Int)) (c : Co) : Aim := ⟨midF vs c - c.n, midF vs c + c.n, nearF c, farF c⟩
def turn (c : Co) : Co := { c with b := norm (c.b + 180) }
def aimEast (vs : List (Int × Int)) (c : Co) (dx : Int) : Aim := if dx < 0 then aimOf vs (turn c) else aimOf vs c

def sq (dx dy : Int) : Int := 100000000 * (dx * dx + dy * dy)
def cond0 (a : Aim) : Bool := decide (0 < a.high) && decide (a.low < 180)
def cond1 (a : Aim) (dx dy : Int) : Bool := decide (a.low ≤ 0) || decide (dy * sin a.low ≤ dx * cos a.low)
def cond2 (a : Aim) (dx dy : Int) : Bool := decide (180 ≤ a.high) || decide (dx * cos a.high ≤ dy * sin a.high)
def cond3 (a : Aim) (dx dy : Int) : Bool := decide (sq dx dy ≤ a.far * a.far)
def cond4 (a : Aim) (dx dy : Int) : Bool := (decide (90 < a.high) && decide (a.low < 90)) || decide (a.near * a.near ≤ sq dx dy)
def misA (a : Aim) (dx dy : Int) : Int :=
  if !cond0 a then 1 else if !cond1 a dx dy then 2 else if !cond2 a dx dy then 3 else if !cond3 a dx dy then 4 else if !cond4 a dx dy then 5 else 0
def misF (vs : List (Int × Int)) (c : Co) (dx dy : Int) : Int :=
  if dx < 0 then misA (aimEast vs c dx) (-dx) (-dy) else misA (aimEast vs c dx) dx dy

def flo (a b : Int) : Int := a / b
def cei (a b : Int) : Int := -((-a) / b)

def room (a : Aim) (dx : Int) : Int := a.far * a.far / 100000000 - dx * dx
def hi1 (a : Aim) (dx : Int) : Int := min (root (room a dx)) 100000
def hi2 (a : Aim) (dx : Int) : Int := if 0 < a.low then min (hi1 a dx) (flo (dx * cos a.low) (sin a.low)) else hi1 a dx
def lo2 (a : Aim) (dx : Int) : Int := if a.high < 180 then max (-(hi1 a dx)) (cei (dx * cos a.high) (sin a.high)) else -(hi1 a dx)
def least (a : Aim) (dx : Int) : Int := rootUp (cei (a.near * a.near) 100000000 - dx * dx)
def lo3 (a : Aim) (dx : Int) : Int := if a.high ≤ 90 then max (lo2 a dx) (least a dx) else lo2 a dx
def hi3 (a : Aim) (dx : Int) : Int := if 90 ≤ a.low then min (hi2 a dx) (-(least a dx)) else hi2 a dx
def intA (a : Aim) (dx : Int) : Int × Int × Bool :=
  if a.high ≤ 0 ∨ 180 ≤ a.low ∨ room a dx < 0 then (0, 0, false) else (lo3 a dx, hi3 a dx, decide (lo3 a dx ≤ hi3 a dx))
def intF (vs : List (Int × Int)) (c : Co) (dx : Int) : Int × Int × Bool :=
  if 0 < dx then intA (aimEast vs c dx) dx else (-(intA (aimEast vs c dx) (-dx)).2.1, -(intA (aimEast vs c dx) (-dx)).1, (intA (aimEast vs c dx) (-dx)).2.2)

def eastE (vs : List (Int × Int)) (cs : List Co) (dx : Int) : Int :=
  if checkE vs cs ≠ 0 then checkE vs cs else if dx = 0 ∨ dx < -100000 ∨ 100000 < dx then 1 else 0
def stepE (vs : List (Int × Int)) (c : Co) (dx dy : Int) : Int :=
  if eastE vs [c] dx ≠ 0 then eastE vs [c] dx else if dy < -100000 ∨ 100000 < dy then 1 else 0

def sectorF (vs : List (Int × Int)) (c : Co) : Int × Int × Int :=
  if checkE vs [c] ≠ 0 then (0, 0, checkE vs [c]) else ((aimOf vs c).low, (aimOf vs c).high, 0)
def misfitF (vs : List (Int × Int)) (c : Co) (dx dy : Int) : Int × Int :=
  if stepE vs c dx dy ≠ 0 then (0, stepE vs c dx dy) else (misF vs c dx dy, 0)
def fitsF (vs : List (Int × Int)) (c : Co) (dx dy : Int) : Bool × Int :=
  (decide ((misfitF vs c dx dy).2 = 0) && decide ((misfitF vs c dx dy).1 = 0), (misfitF vs c dx dy).2)

/-- Common's loop over the courses. -/
def comG (vs : List (Int × Int)) (dx : Int) : Int × Int → List Co → Int × Int × Bool
  | (lo, hi), [] => (lo, hi, true)
  | (lo, hi), c :: r =>
    let i := intF vs c dx
    let lo' := max lo i.1
    let hi' := min hi i.2.1
    if i.2.2 && decide (lo' ≤ hi') then comG vs dx (lo', hi') r else (0, 0, false)
def comF (vs : List (Int × Int)) (cs : List Co) (dx : Int) : (Int × Int × Bool) × Int :=
  if 40 < cs.length then ((0, 0, false), 2) else if cs.length = 0 then ((0, 0, false), 5)
  else if eastE vs cs dx ≠ 0 then ((0, 0, false), eastE vs cs dx) else (comG vs dx (-100000, 100000) cs, 0)

/-- Needed's loop over the needles from k on. -/
def needG (vs : List (Int × Int)) (c : Co) (dx dy : Int) : Nat → Int → Int × Bool
  | 0, _ => (0, false)
  | m + 1, k => if misF vs { c with n := k } dx dy = 0 then (k, true) else needG vs c dx dy m (k + 1)
def needF (vs : List (Int × Int)) (c : Co) (dx dy : Int) : (Int × Bool) × Int :=
  if stepE vs c dx dy ≠ 0 then ((0, false), stepE vs c dx dy) else (needG vs c dx dy 31 0, 0)

def revF (c : Co) : Co × Int := if courseOk c then (turn c, 0) else (⟨0, 0, 0, 0, 0, 0⟩, 1)
def narF (a b : Co) : Bool :=
  courseOk a && courseOk b && decide (a.b = b.b ∧ a.l = b.l ∧ a.y = b.y) && decide (a.n ≤ b.n) && decide (b.w - b.s ≤ a.w - a.s) && decide (a.w + a.s ≤ b.w + b.s)

/-! The machine's quotients and rests in plain words. -/
theorem tm360 (d : Int) : -360 < d.tmod 360 ∧ d.tmod 360 < 360 ∧ ∃ q, d.tmod 360 = d - 360 * q := by
  have h1 := Int.tmod_add_mul_tdiv d 360
  have h2 := Int.tmod_lt_of_pos d (b := 360) (by decide)
  have h3 := Int.lt_tmod_of_pos d (b := 360) (by decide)
  exact ⟨h3, h2, d.tdiv 360, by omega⟩
theorem tmod_nn {a b : Int} (h : 0 ≤ a) : a.tmod b = a % b := Int.tmod_eq_emod_of_nonneg h
theorem norm_code (d : Int) : (d.tmod 360 + 360).tmod 360 = norm d := by
  obtain ⟨a, b, q, c⟩ := tm360 d
  rw [tmod_nn (by omega), c, norm]
  omega
theorem norm_neg (d : Int) (h : d.tmod 360 < 0) : d.tmod 360 + 360 = norm d := by
  obtain ⟨a, b, q, c⟩ := tm360 d
  rw [norm]
  omega
theorem norm_pos (d : Int) (h : 0 ≤ d.tmod 360) : d.tmod 360 = norm d := by
  obtain ⟨a, b, q, c⟩ := tm360 d
  rw [norm]
  omega
theorem tdiv_flo (a b : Int) (hb : 0 < b) : a.tdiv b = flo a b + (if a.tmod b < 0 then 1 else 0) := by
  have h1 := Int.tmod_add_mul_tdiv a b
  have h2 := Int.tmod_lt_of_pos a hb
  have h3 := Int.lt_tmod_of_pos a hb
  unfold flo
  split
  · rename_i h
    have : a / b = a.tdiv b - 1 := by
      rw [Int.ediv_eq_iff_of_pos hb, Int.sub_mul, Int.mul_comm (a.tdiv b) b]
      omega
    omega
  · rename_i h
    have : a / b = a.tdiv b := by
      rw [Int.ediv_eq_iff_of_pos hb, Int.mul_comm (a.tdiv b) b]
      omega
    omega

/-- The greatest common divisor as Euclid's loop finds it, and a fraction in lowest terms. -/
def gcdF : Nat → Int → Int → Int
  | 0, a, _ => a
  | k + 1, a, b => if b = 0 then a else gcdF k b (a % b)

end Cs
end Go.Proofs.YtncdeogpmodoaaaGreatDoor
