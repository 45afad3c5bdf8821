/-
  What the claim needs: contracts.
-/
import Derived.Lib.Split
import Derived.Lib.Join
import Derived.Lib.AtoiAllCases
import Derived.Lib.ItoaMem
import Derived.Test.YtccikcpcfdjobaaGreatDoorBzp
set_option linter.unusedVariables false
set_option linter.unusedSimpArgs false
set_option maxHeartbeats 8000000
set_option maxRecDepth 100000
namespace Go.Proofs.YtccikcpcfdjobaaGreatDoor
section
namespace Cs
def norm (d : Int) : Int := d % 360
def T : List Int := [0, 175, 349, 523, 698, 872, 1045, 1219, 1392, 1564,
 1736, 1908, 2079, 2250, 2419, 2588, 2756, 2924, 3090, 3256,
 3420, 3584, 3746, 3907, 4067, 4226, 4384, 4540, 4695, 4848,
 5000, 5150, 5299, 5446, 5592, 5736, 5878, 6018, 6157, 6293,
 6428, 6561, 6691, 6820, 6947, 7071, 7193, 7314, 7431, 7547,
 7660, 7771, 7880, 7986, 8090, 8192, 8290, 8387, 8480, 8572,
 8660, 8746, 8829, 8910, 8988, 9063, 9135, 9205, 9272, 9336,
 9397, 9455, 9511, 9563, 9613, 9659, 9703, 9744, 9781, 9816,
 9848, 9877, 9903, 9925, 9945, 9962, 9976, 9986, 9994, 9998,
 10000]
theorem y7c : T.length = 91 := by decide
def tb (k : Int) : Int := T[k.toNat]?.getD 0
theorem y18 (k : Int) : 0 <= tb k /\ tb k <= 10000 := by
 unfold tb;rcases Nat.lt_or_ge k.toNat T.length with h | h
 ·rw [List.getElem?_eq_getElem h];have : ∀ x ∈ T, 0 <= x /\ x <= 10000 := by decide
  exact this _ (List.getElem_mem h)
 rw [List.getElem?_eq_none h];decide
theorem yD7 {k : Int} (h0 : 0 <= k) (h1 : k <= 90) : T[k.toNat]? = some (tb k) := by
 have : k.toNat < T.length := by rw [y7c]; omega
 unfold tb;rw [List.getElem?_eq_getElem this];rfl
def sinI (n : Int) : Int :=
 if 180 < n then (if 90 < n - 180 then -(tb (360 - n)) else -(tb (n - 180)))
 else if 90 < n then tb (180 - n) else tb n
def sin (d : Int) : Int := sinI (norm d)
def cos (d : Int) : Int := sin (norm d + 90)
theorem y0M (d : Int) : 0 <= norm d /\ norm d <= 359 := by unfold norm; omega
theorem y4b (n : Int) : -10000 <= sinI n /\ sinI n <= 10000 := by
 unfold sinI;have a := y18 (360 - n);have b := y18 (n - 180);have c := y18 (180 - n);have d := y18 n;split
 ·split <;> omega
 split <;> omega
theorem y3W (d : Int) : -10000 <= sin d /\ sin d <= 10000 := y4b _
theorem y0v (d : Int) : -10000 <= cos d /\ cos d <= 10000 := y4b _
def rootF (n : Int) : Nat -> Int -> Int
 | 0, r => r
 | k + 1, r => rootF n k (if (r + 2 ^ k) * (r + 2 ^ k) <= n then r + 2 ^ k else r)
def root (n : Int) : Int := if n < 0 then 0 else rootF n 32 0
def rootUp (n : Int) : Int := if root n * root n < n then root n + 1 else root n
theorem y93 (n : Int) (k : Nat) (r : Int) (h0 : 0 <= r) (h1 : r * r <= n) (h2 : n < (r + 2 ^ k) * (r + 2 ^ k)) :
    0 <= rootF n k r /\ rootF n k r * rootF n k r <= n /\ n < (rootF n k r + 1) * (rootF n k r + 1) := by
  induction k generalizing r with
  | zero => exact ⟨h0, h1, by simpa [rootF] using h2⟩
  | succ k ih =>
    rw [rootF];have hp : (0 : Int) < 2 ^ k := Int.pow_pos (by decide);have hpp : (2 : Int) ^ (k + 1) = 2 ^ k + 2 ^ k := by rw [Int.pow_succ]; omega
    split
    · rename_i h
      refine ih _ (by omega) h ?_;rw [show r + 2 ^ k + 2 ^ k = r + 2 ^ (k + 1) by omega];exact h2
    rename_i h;exact ih _ h0 h1 (by omega)
theorem y3V {n : Int} (h0 : 0 <= n) (h1 : n <= 9223372036854775807) : 0 <= root n /\ root n * root n <= n /\ n < (root n + 1) * (root n + 1) := by
 rw [root, if_neg (by omega)];exact y93 n 32 0 (by decide) (by simpa using h0) (by simp; omega)
theorem y5N {n : Int} (h : n < 0) : root n = 0 := by rw [root, if_pos h]
theorem y1A {n : Int} (h1 : n <= 9223372036854775807) : 0 <= root n /\ root n <= 3037000499 := by
 rcases Int.lt_or_le n 0 with h | h
 ·rw [y5N h]; decide
 obtain ⟨a, b, _⟩ := y3V h h1;refine ⟨a, ?_⟩;rcases Int.lt_or_le 3037000499 (root n) with hh | hh
 ·have : (3037000500 : Int) * 3037000500 <= root n * root n := Int.mul_le_mul (by omega) (by omega) (by decide) (by omega);omega
 exact hh
structure Co where
 b : Int
 n : Int
 l : Int
 y : Int
 w : Int
 s : Int
deriving DecidableEq
def chainOk (w s : Int) : Bool := decide (-500 <= w /\ w <= 500 /\ 0 <= s /\ s <= 200)
def chainE (w s : Int) : Int := if chainOk w s then 0 else 1
def courseOk (c : Co) : Bool := decide ((0 <= c.b /\ c.b <= 359) /\ (0 <= c.n /\ c.n <= 30) /\ (1 <= c.l /\ c.l <= 100000) /\ 1 <= c.y /\ c.y <= 3000) && chainOk c.w c.s
def courseE (c : Co) : Int := if courseOk c then 0 else 1
def okV : Int -> List (Int × Int) -> Bool
 | _, [] => true
 | b, (y, e) :: r => decide (b + 1 <= y /\ y <= 3000 /\ -60 <= e /\ e <= 60) && okV y r
def varsE (vs : List (Int × Int)) : Int := if 40 < vs.length then 2 else if okV 0 vs then 0 else 1
def decG (year : Int) : Int × Bool -> List (Int × Int) -> Int × Bool
 | acc, [] => acc
 | acc, (y, e) :: r => decG year (if y <= year then (e, true) else acc) r
def dec (vs : List (Int × Int)) (year : Int) : Int × Bool := if varsE vs = 0 then decG year (0, false) vs else (0, false)
def checkE (vs : List (Int × Int)) (cs : List Co) : Int :=
 if varsE vs ≠ 0 then varsE vs
 else if cs.all courseOk then (if cs.all (fun c => (dec vs c.y).2) then 0 else 20) else 1
theorem yBK {b : Int} {vs : List (Int × Int)} (h : okV b vs = true) : ∀ v ∈ vs, -60 <= v.2 /\ v.2 <= 60 := by
  induction vs generalizing b with
  | nil => simp
  | cons v r ih =>
    obtain ⟨y, e⟩ := v;simp only [okV, Bool.and_eq_true, decide_eq_true_eq] at h;intro v hv;rcases List.mem_cons.1 hv with rfl | hv
    · simp; omega
    exact ih h.2 v hv
theorem y8S (year : Int) (vs : List (Int × Int)) (acc : Int × Bool) (ha : -60 <= acc.1 /\ acc.1 <= 60) (hv : ∀ v ∈ vs, -60 <= v.2 /\ v.2 <= 60) :
    -60 <= (decG year acc vs).1 /\ (decG year acc vs).1 <= 60 := by
  induction vs generalizing acc with
  | nil => exact ha
  | cons v r ih =>
    obtain ⟨y, e⟩ := v;rw [decG];refine ih _ ?_ (fun v hv' => hv v (List.mem_cons_of_mem _ hv'));split
    · exact hv (y, e) List.mem_cons_self
    exact ha
theorem y29 (vs : List (Int × Int)) (year : Int) : -60 <= (dec vs year).1 /\ (dec vs year).1 <= 60 := by
 unfold dec;split
 ·rename_i h;refine y8S _ _ _ (by decide) ?_;unfold varsE at h;split at h
  ·cases h
  split at h
  ·rename_i h2; exact yBK h2
  cases h
 decide
structure Aim where
 low : Int
 high : Int
 near : Int
 far : Int
deriving DecidableEq
def nearF (c : Co) : Int := c.l * (10000 + c.w - c.s)
def farF (c : Co) : Int := c.l * (10000 + c.w + c.s)
def midF (vs : List (Int × Int)) (c : Co) : Int := norm (c.b + (dec vs c.y).1 + 90) - 90
def aimOf (vs : List (Int × Int)) (c : Co) : Aim := ⟨midF vs c - c.n, midF vs c + c.n, nearF c, farF c⟩
def turn (c : Co) : Co := { c with b := norm (c.b + 180) }
def aimEast (vs : List (Int × Int)) (c : Co) (dx : Int) : Aim := if dx < 0 then aimOf vs (turn c) else aimOf vs c
def sq (dx dy : Int) : Int := 100000000 * (dx * dx + dy * dy)
def cond0 (a : Aim) : Bool := decide (0 < a.high) && decide (a.low < 180)
def cond1 (a : Aim) (dx dy : Int) : Bool := decide (a.low <= 0) || decide (dy * sin a.low <= dx * cos a.low)
def cond2 (a : Aim) (dx dy : Int) : Bool := decide (180 <= a.high) || decide (dx * cos a.high <= dy * sin a.high)
def cond3 (a : Aim) (dx dy : Int) : Bool := decide (sq dx dy <= a.far * a.far)
def cond4 (a : Aim) (dx dy : Int) : Bool := (decide (90 < a.high) && decide (a.low < 90)) || decide (a.near * a.near <= sq dx dy)
def misA (a : Aim) (dx dy : Int) : Int :=
 if !cond0 a then 1 else if !cond1 a dx dy then 2 else if !cond2 a dx dy then 3 else if !cond3 a dx dy then 4 else if !cond4 a dx dy then 5 else 0
def misF (vs : List (Int × Int)) (c : Co) (dx dy : Int) : Int :=
 if dx < 0 then misA (aimEast vs c dx) (-dx) (-dy) else misA (aimEast vs c dx) dx dy
def flo (a b : Int) : Int := a / b
def cei (a b : Int) : Int := -((-a) / b)
def room (a : Aim) (dx : Int) : Int := a.far * a.far / 100000000 - dx * dx
def hi1 (a : Aim) (dx : Int) : Int := min (root (room a dx)) 100000
def hi2 (a : Aim) (dx : Int) : Int := if 0 < a.low then min (hi1 a dx) (flo (dx * cos a.low) (sin a.low)) else hi1 a dx
def lo2 (a : Aim) (dx : Int) : Int := if a.high < 180 then max (-(hi1 a dx)) (cei (dx * cos a.high) (sin a.high)) else -(hi1 a dx)
def least (a : Aim) (dx : Int) : Int := rootUp (cei (a.near * a.near) 100000000 - dx * dx)
def lo3 (a : Aim) (dx : Int) : Int := if a.high <= 90 then max (lo2 a dx) (least a dx) else lo2 a dx
def hi3 (a : Aim) (dx : Int) : Int := if 90 <= a.low then min (hi2 a dx) (-(least a dx)) else hi2 a dx
def intA (a : Aim) (dx : Int) : Int × Int × Bool :=
 if a.high <= 0 ∨ 180 <= a.low ∨ room a dx < 0 then (0, 0, false) else (lo3 a dx, hi3 a dx, decide (lo3 a dx <= hi3 a dx))
def intF (vs : List (Int × Int)) (c : Co) (dx : Int) : Int × Int × Bool :=
 if 0 < dx then intA (aimEast vs c dx) dx else (-(intA (aimEast vs c dx) (-dx)).2.1, -(intA (aimEast vs c dx) (-dx)).1, (intA (aimEast vs c dx) (-dx)).2.2)
def eastE (vs : List (Int × Int)) (cs : List Co) (dx : Int) : Int :=
 if checkE vs cs ≠ 0 then checkE vs cs else if dx = 0 ∨ dx < -100000 ∨ 100000 < dx then 1 else 0
def stepE (vs : List (Int × Int)) (c : Co) (dx dy : Int) : Int :=
 if eastE vs [c] dx ≠ 0 then eastE vs [c] dx else if dy < -100000 ∨ 100000 < dy then 1 else 0
def sectorF (vs : List (Int × Int)) (c : Co) : Int × Int × Int :=
 if checkE vs [c] ≠ 0 then (0, 0, checkE vs [c]) else ((aimOf vs c).low, (aimOf vs c).high, 0)
def misfitF (vs : List (Int × Int)) (c : Co) (dx dy : Int) : Int × Int :=
 if stepE vs c dx dy ≠ 0 then (0, stepE vs c dx dy) else (misF vs c dx dy, 0)
def fitsF (vs : List (Int × Int)) (c : Co) (dx dy : Int) : Bool × Int :=
 (decide ((misfitF vs c dx dy).2 = 0) && decide ((misfitF vs c dx dy).1 = 0), (misfitF vs c dx dy).2)
def comG (vs : List (Int × Int)) (dx : Int) : Int × Int -> List Co -> Int × Int × Bool
  | (lo, hi), [] => (lo, hi, true)
  | (lo, hi), c :: r =>
    let i := intF vs c dx;let lo' := max lo i.1;let hi' := min hi i.2.1
    if i.2.2 && decide (lo' <= hi') then comG vs dx (lo', hi') r else (0, 0, false)
def comF (vs : List (Int × Int)) (cs : List Co) (dx : Int) : (Int × Int × Bool) × Int :=
 if 40 < cs.length then ((0, 0, false), 2) else if cs.length = 0 then ((0, 0, false), 5)
 else if eastE vs cs dx ≠ 0 then ((0, 0, false), eastE vs cs dx) else (comG vs dx (-100000, 100000) cs, 0)
def revF (c : Co) : Co × Int := if courseOk c then (turn c, 0) else (⟨0, 0, 0, 0, 0, 0⟩, 1)
theorem yAm (d : Int) : -360 < d.tmod 360 /\ d.tmod 360 < 360 /\ ∃ q, d.tmod 360 = d - 360 * q := by
 have h1 := Int.tmod_add_mul_tdiv d 360;have h2 := Int.tmod_lt_of_pos d (b := 360) (by decide);have h3 := Int.lt_tmod_of_pos d (b := 360) (by decide);exact ⟨h3, h2, d.tdiv 360, by omega⟩
theorem yBG (d : Int) (h : d.tmod 360 < 0) : d.tmod 360 + 360 = norm d := by
 obtain ⟨a, b, q, c⟩ := yAm d;rw [norm];omega
theorem yBH (d : Int) (h : 0 <= d.tmod 360) : d.tmod 360 = norm d := by
 obtain ⟨a, b, q, c⟩ := yAm d;rw [norm];omega
theorem y81 (a b : Int) (hb : 0 < b) : a.tdiv b = flo a b + (if a.tmod b < 0 then 1 else 0) := by
 have h1 := Int.tmod_add_mul_tdiv a b;have h2 := Int.tmod_lt_of_pos a hb;have h3 := Int.lt_tmod_of_pos a hb;unfold flo;split
 ·rename_i h;have : a / b = a.tdiv b - 1 := by
   rw [Int.ediv_eq_iff_of_pos hb, Int.sub_mul, Int.mul_comm (a.tdiv b) b];omega
  omega
 rename_i h;have : a / b = a.tdiv b := by
  rw [Int.ediv_eq_iff_of_pos hb, Int.mul_comm (a.tdiv b) b];omega
 omega
end Cs
end

section
namespace Cs
abbrev Bs := List UInt8
structure Un where
 one : Bs
 many : Bs
 size : Int
def uChain : Un := ⟨[99, 104, 97, 105, 110], [99, 104, 97, 105, 110, 115], 100⟩
def uPole : Un := ⟨[112, 111, 108, 101], [112, 111, 108, 101, 115], 25⟩
def uLink : Un := ⟨[108, 105, 110, 107], [108, 105, 110, 107, 115], 1⟩
def lenU : List Un := [uChain, uPole, uLink]
def pairF (u : Un) (q : Int) : List Bs := if q = 0 then [] else if q = 1 then [[49], u.one] else [Lib.itoa q, u.many]
def wordsF : List Un -> Int -> List Bs
 | [], _ => []
 | u :: r, n => pairF u (n / u.size) ++ wordsF r (n % u.size)
def restF : List Un -> Int -> Int
 | [], n => n
 | u :: r, n => restF r (n % u.size)
theorem y7Y (us : List Un) (u : Un) (n : Int) : wordsF (us ++ [u]) n = wordsF us n ++ pairF u (restF us n / u.size) := by
 induction us generalizing n with
 | nil => simp [wordsF, restF]
 | cons v r ih => simp [wordsF, restF, ih, List.append_assoc]
theorem y92 (us : List Un) (u : Un) (n : Int) : restF (us ++ [u]) n = restF us n % u.size := by
 induction us generalizing n with
 | nil => simp [restF]
 | cons v r ih => simp [restF, ih]
def zeroL : Bs := [48, 32, 108, 105, 110, 107, 115]
def writeF (us : List Un) (most n : Int) : Bs := if 0 <= n /\ n <= most then (if n = 0 then zeroL else Lib.join (wordsF us n) [32]) else []
def lenF (n : Int) : Bs := writeF lenU 1000000 n
def Wd (w : Bs) : Prop := w ≠ [] /\ (32 : UInt8) ∉ w
theorem yCL {q : Int} (h : 0 <= q) : Lib.itoa q = Lib.decDigits q.toNat := by
 obtain ⟨m, rfl⟩ : ∃ m : Nat, q = m := ⟨q.toNat, by omega⟩;rw [Lib.itoa_nonneg];simp
theorem yBN (u : Un) (q : Int) : (pairF u q).length <= 2 /\ (pairF u q).length % 2 = 0 := by
 unfold pairF;split
 ·simp
 split <;> simp
theorem y6W (us : List Un) (n : Int) : (wordsF us n).length <= 2 * us.length /\ (wordsF us n).length % 2 = 0 := by
  induction us generalizing n with
  | nil => simp [wordsF]
  | cons u r ih =>
    have h1 := yBN u (n / u.size);have h2 := ih (n % u.size);simp only [wordsF, List.length_append, List.length_cons];omega
def cutF : Bs -> List Bs
 | [] => [[]]
 | c :: r => if c = 32 then [] :: cutF r else match cutF r with | [] => [[c]] | x :: t => (c :: x) :: t
theorem y4n (s : Bs) : cutF s ≠ [] := by
  cases s with
  | nil => simp [cutF]
  | cons c r =>
    unfold cutF;split
    · simp
    split <;> simp
def numF (w : Bs) : Option Int := match Lib.atoiAll w with | .ok v => some v | _ => none
def sizeF : List Un -> Bs -> Option Int
 | [], _ => none
 | u :: r, w => if w = u.one ∨ w = u.many then some u.size else sizeF r w
def wr (x : Int) : Int := if -9223372036854775808 <= x /\ x <= 9223372036854775807 then x else (x + 9223372036854775808) % 18446744073709551616 - 9223372036854775808
def sumF (us : List Un) : Int -> List Bs -> Option Int
  | acc, a :: b :: r => match numF a, sizeF us b with
    | some k, some z => sumF us (wr (acc + wr (k * z))) r
    | _, _ => none
  | acc, _ => some acc
def readF (say : List Bs -> Option Int) (write : Int -> Bs) (s : Bs) : Int × Int :=
 match say (Lib.splitN s [32] 8) with
 | none => (0, 4)
 | some n => if write n = s then (n, 0) else (0, 4)
theorem y8k {u : Nat} {k : Nat} (hk : 1 <= k) (h : u < 10 ^ k) : Lib.nDigits u <= k := by
  induction k generalizing u with
  | zero => omega
  | succ k ih =>
    by_cases hu : u < 10
    · rw [Lib.nDigits_small hu]; omega
    rw [Lib.nDigits_big hu];by_cases hk0 : k = 0
    · subst hk0; simp at h; omega
    have := ih (u := u / 10) (by omega) (by rw [Nat.pow_succ] at h; omega);omega
def lnkF (s : Bs) : Int × Int := readF (sumF lenU 0) lenF s
end Cs
end

section
namespace Cs
def wNorth : Bs := [110, 111, 114, 116, 104]
def wEast : Bs := [101, 97, 115, 116]
def wSouth : Bs := [115, 111, 117, 116, 104]
def wWest : Bs := [119, 101, 115, 116]
def quarters : List Bs := [wNorth, wEast, wSouth, wWest]
def quadW (n : Int) : List Bs :=
 if n % 90 = 0 then [quarters[(n / 90).toNat]?.getD []]
 else if n < 90 then [wNorth, Lib.itoa n, wEast]
 else if n < 180 then [wSouth, Lib.itoa (180 - n), wEast]
 else if n < 270 then [wSouth, Lib.itoa (n - 180), wWest]
 else [wNorth, Lib.itoa (360 - n), wWest]
def quadF (d : Int) : Bs := Lib.join (quadW (norm d)) [32]
def idxQ (w : Bs) : Int := if w = wNorth then 0 else if w = wEast then 1 else if w = wSouth then 2 else if w = wWest then 3 else -1
def dir3 (w0 w2 : Bs) (n : Int) : Option Int :=
 if w0 ++ [32] ++ w2 = wNorth ++ [32] ++ wEast then some n
 else if w0 ++ [32] ++ w2 = wSouth ++ [32] ++ wEast then some (wr (180 - n))
 else if w0 ++ [32] ++ w2 = wSouth ++ [32] ++ wWest then some (wr (180 + n))
 else if w0 ++ [32] ++ w2 = wNorth ++ [32] ++ wWest then some (wr (360 - n)) else none
def dirF : List Bs -> Option Int
  | [] => none
  | [w0] => if 0 <= idxQ w0 then some (90 * idxQ w0) else none
  | [w0, w1, w2] => match numF w1 with
    | some n => dir3 w0 w2 n
    | none => none
  | _ => none
theorem wE : Wd wEast := by simp [Wd, wEast]
def berF (s : Bs) : Int × Int := readF dirF quadF s
end Cs
end

section
namespace Cs
theorem y5P : ∀ k ∈ List.range 360, (0 < k -> k < 180 -> 0 < sinI (k : Int)) /\ (k <= 90 -> 0 <= sinI ((k : Int) + 90)) /\ (90 <= k -> k < 180 -> sinI (((k : Int) + 90) % 360) <= 0) := by decide +kernel
theorem y0n {d : Int} (h0 : 0 < d) (h1 : d < 180) : 0 < sin d := by
 have hn : norm d = d := by unfold norm; omega
 have := (y5P d.toNat (by simp; omega)).1 (by omega) (by omega);rw [show ((d.toNat : Nat) : Int) = d by omega] at this;rw [sin, hn];exact this
theorem y8L {d : Int} (h0 : 0 <= d) (h1 : d <= 90) : 0 <= cos d := by
 have hn : norm d = d := by unfold norm; omega
 have := (y5P d.toNat (by simp; omega)).2.1 (by omega);rw [show ((d.toNat : Nat) : Int) = d by omega] at this;rw [cos, hn, sin, show norm (d + 90) = d + 90 by unfold norm; omega];exact this
theorem y8M {d : Int} (h0 : 90 <= d) (h1 : d < 180) : cos d <= 0 := by
 have hn : norm d = d := by unfold norm; omega
 have := (y5P d.toNat (by simp; omega)).2.2 (by omega) (by omega);rw [show ((d.toNat : Nat) : Int) = d by omega] at this;rw [cos, hn, sin, norm];exact this
theorem yAB {a b x : Int} (hb : 0 < b) : x <= flo a b ↔ x * b <= a := by
 unfold flo;exact Int.le_ediv_iff_mul_le hb
theorem y5Z {a b x : Int} (hb : 0 < b) : cei a b <= x ↔ a <= x * b := by
 unfold cei;have := Int.le_ediv_iff_mul_le (a := -x) (b := -a) hb;rw [Int.neg_mul] at this;omega
theorem yBy {y r : Int} (hr : 0 <= r) : y * y <= r * r ↔ -r <= y /\ y <= r := by
 constructor
 ·intro h;constructor
  ·rcases Int.lt_or_le y (-r) with hh | hh
   ·have h1 : (r + 1) * (r + 1) <= (-y) * (-y) := Int.mul_le_mul (by omega) (by omega) (by omega) (by omega);rw [Int.neg_mul_neg] at h1;have h2 : (r + 1) * (r + 1) = r * r + 2 * r + 1 := by
     rw [Int.add_mul, Int.mul_add]; omega
    omega
   exact hh
  rcases Int.lt_or_le r y with hh | hh
  ·have h1 : (r + 1) * (r + 1) <= y * y := Int.mul_le_mul (by omega) (by omega) (by omega) (by omega);have h2 : (r + 1) * (r + 1) = r * r + 2 * r + 1 := by
    rw [Int.add_mul, Int.mul_add]; omega
   omega
  exact hh
 rintro ⟨h1, h2⟩;rcases Int.lt_or_le y 0 with hh | hh
 ·have : (-y) * (-y) <= r * r := Int.mul_le_mul (by omega) (by omega) (by omega) (by omega)
  rwa [Int.neg_mul_neg] at this
 exact Int.mul_le_mul (by omega) (by omega) (by omega) (by omega)
theorem yCM {n y : Int} (h0 : 0 <= n) (h1 : n <= 9223372036854775807) : y * y <= n ↔ -(root n) <= y /\ y <= root n := by
 obtain ⟨a, b, c⟩ := y3V h0 h1;constructor
 ·intro h;have : ¬ ((root n + 1) <= y ∨ y <= -(root n + 1)) := by
   rintro (hh | hh)
   ·have : (root n + 1) * (root n + 1) <= y * y := Int.mul_le_mul hh hh (by omega) (by omega);omega
   have : (root n + 1) * (root n + 1) <= (-y) * (-y) := Int.mul_le_mul (by omega) (by omega) (by omega) (by omega);rw [Int.neg_mul_neg] at this;omega
  omega
 intro h;have := (yBy (y := y) a).2 h;omega
theorem y6P {n y : Int} (h1 : n <= 9223372036854775807) (hy : 0 <= y) : rootUp n <= y ↔ n <= y * y := by
 rcases Int.lt_or_le n 0 with hn | h0
 ·have e : rootUp n = 0 := by
   rw [rootUp, y5N hn, if_neg (by omega)]
  rw [e];have : 0 <= y * y := Int.mul_nonneg hy hy;constructor <;> intro <;> omega
 obtain ⟨a, b, c⟩ := y3V h0 h1;unfold rootUp;split
 ·rename_i h;constructor
  ·intro hh;have : (root n + 1) * (root n + 1) <= y * y := Int.mul_le_mul hh hh (by omega) (by omega);omega
  intro hh;rcases Int.lt_or_le (root n) y with h2 | h2
  ·omega
  have : y * y <= root n * root n := Int.mul_le_mul h2 h2 (by omega) (by omega);omega
 rename_i h;constructor
 ·intro hh;have : root n * root n <= y * y := Int.mul_le_mul hh hh (by omega) (by omega);omega
 intro hh;rcases Int.lt_or_le y (root n) with h2 | h2
 ·have : (y + 1) * (y + 1) <= root n * root n := Int.mul_le_mul (by omega) (by omega) (by omega) (by omega);have e : (y + 1) * (y + 1) = y * y + 2 * y + 1 := by rw [Int.add_mul, Int.mul_add]; omega
  omega
 omega
theorem y1T {n : Int} (h1 : n <= 9223372036854775807) : 0 <= rootUp n := by
 unfold rootUp;have := (y1A h1).1;split <;> omega
structure AimOk (a : Aim) : Prop where
 le : a.low <= a.high
 low : -120 <= a.low
 lowh : a.low <= 269
 high : -90 <= a.high
 highh : a.high <= 299
 near0 : 0 < a.near
 far0 : 0 < a.far
 nf : a.near <= a.far
 far1 : a.far <= 1070000000
theorem y0T {x m : Int} (h0 : -m <= x) (h1 : x <= m) : 0 <= x * x /\ x * x <= m * m :=
  ⟨by rcases Int.lt_or_le x 0 with h | h
      · have := Int.mul_nonneg (a := -x) (b := -x) (by omega) (by omega)
        rwa [Int.neg_mul_neg] at this
      exact Int.mul_nonneg h h, (yBy (by omega)).2 ⟨h0, h1⟩⟩
theorem yCg {a : Aim} (h : AimOk a) : 0 <= a.far * a.far /\ a.far * a.far <= 1144900000000000000 := by
 have := y0T (x := a.far) (m := 1070000000) (by have := h.far0; omega) h.far1;omega
theorem yCP {a : Aim} (h : AimOk a) : 0 <= a.near * a.near /\ a.near * a.near <= 1144900000000000000 := by
 have := y0T (x := a.near) (m := 1070000000) (by have := h.near0; omega) (by have := h.nf; have := h.far1; omega);omega
theorem y9Y (a : Aim) : cond0 a = true ↔ 0 < a.high /\ a.low < 180 := by simp [cond0]
theorem yAH (a : Aim) (dx dy : Int) : misA a dx dy = 0 ↔ cond0 a = true /\ cond1 a dx dy = true /\ cond2 a dx dy = true /\ cond3 a dx dy = true /\ cond4 a dx dy = true := by
 unfold misA;rcases cond0 a with _ | _ <;> rcases cond1 a dx dy with _ | _ <;> rcases cond2 a dx dy with _ | _ <;> rcases cond3 a dx dy with _ | _ <;> rcases cond4 a dx dy with _ | _ <;> simp
theorem y7f {a : Aim} (h : AimOk a) {dx dy : Int} (hx0 : 0 < dx) (hx1 : dx <= 100000) (hy0 : -100000 <= dy) (hy1 : dy <= 100000) :
  misA a dx dy = 0 ↔ (intA a dx).2.2 = true /\ (intA a dx).1 <= dy /\ dy <= (intA a dx).2.1 := by
 rw [yAH, y9Y];obtain ⟨x0, x1⟩ := y0T (x := dx) (m := 100000) (by omega) hx1;obtain ⟨y0, y1⟩ := y0T (x := dy) (m := 100000) hy0 hy1;obtain ⟨f0, f1⟩ := yCg h;obtain ⟨n0, n1⟩ := yCP h;by_cases hc : 0 < a.high /\ a.low < 180
 ·have h3 : cond3 a dx dy = true ↔ dy * dy <= room a dx := by
   rw [cond3, decide_eq_true_eq, sq, room]
   generalize dx * dx = X at *
   generalize dy * dy = Y at *
   generalize a.far * a.far = F at *
   constructor <;> intro hh <;> omega
  by_cases hr : room a dx < 0
  ·rw [intA, if_pos (by omega)];have : ¬ cond3 a dx dy = true := by rw [h3]; omega
   simp [this]
  rw [intA, if_neg (by omega)];have hrt := yCM (n := room a dx) (y := dy) (by omega) (by unfold room; omega);have hrl := y1A (n := room a dx) (by unfold room; omega);have h3' : cond3 a dx dy = true ↔ -(hi1 a dx) <= dy /\ dy <= hi1 a dx := by
   rw [h3, hrt];unfold hi1;omega
  have h1 : cond1 a dx dy = true ↔ (0 < a.low -> dy <= flo (dx * cos a.low) (sin a.low)) := by
   simp only [cond1, Bool.or_eq_true, decide_eq_true_eq];constructor
   ·rintro (hh | hh) hl
    ·omega
    exact (yAB (y0n hl hc.2)).2 hh
   intro hh;by_cases hl : 0 < a.low
   ·exact .inr ((yAB (y0n hl hc.2)).1 (hh hl))
   exact .inl (by omega)
  have h2 : cond2 a dx dy = true ↔ (a.high < 180 -> cei (dx * cos a.high) (sin a.high) <= dy) := by
   simp only [cond2, Bool.or_eq_true, decide_eq_true_eq];constructor
   ·rintro (hh | hh) hl
    ·omega
    exact (y5Z (y0n hc.1 hl)).2 hh
   intro hh;by_cases hl : a.high < 180
   ·exact .inr ((y5Z (y0n hc.1 hl)).1 (hh hl))
   exact .inl (by omega)
  have h12 : (cond1 a dx dy = true /\ cond2 a dx dy = true /\ cond3 a dx dy = true) ↔ lo2 a dx <= dy /\ dy <= hi2 a dx := by
   rw [h1, h2, h3'];unfold lo2 hi2;by_cases hl : 0 < a.low <;> by_cases hh : a.high < 180 <;> simp only [hl, hh, if_true, if_false, true_implies, false_implies, true_and, and_true] <;> omega
  have hle : cei (a.near * a.near) 100000000 - dx * dx <= 9223372036854775807 := by
   have := (y5Z (a := a.near * a.near) (b := 100000000) (x := a.near * a.near) (by decide)).2 (by omega);omega
  have h4 : cond4 a dx dy = true ↔ (90 < a.high /\ a.low < 90) ∨ cei (a.near * a.near) 100000000 - dx * dx <= dy * dy := by
   simp only [cond4, Bool.or_eq_true, Bool.and_eq_true, decide_eq_true_eq];rw [sq];have := y5Z (a := a.near * a.near) (b := 100000000) (x := dx * dx + dy * dy) (by decide)
   generalize cei (a.near * a.near) 100000000 = C at *
   generalize dx * dx = X at *
   generalize dy * dy = Y at *
   generalize a.near * a.near = F at *
   constructor
   ·rintro (hh | hh)
    ·exact .inl hh
    have := this.2 (by omega);exact .inr (by omega)
   rintro (hh | hh)
   ·exact .inl hh
   have := this.1 (by omega);exact .inr (by omega)
  have key : (lo2 a dx <= dy /\ dy <= hi2 a dx) /\ cond4 a dx dy = true ↔ lo3 a dx <= dy /\ dy <= hi3 a dx := by
   rw [h4];have hl0 : 0 <= least a dx := y1T hle;have north : a.high <= 90 -> lo2 a dx <= dy -> 0 <= dy := by
    intro hh hlo;have : cei (dx * cos a.high) (sin a.high) <= dy := by
     unfold lo2 at hlo;rw [if_pos (by omega)] at hlo;omega
    have hm := (y5Z (y0n hc.1 (by omega))).1 this;have hp : 0 <= dx * cos a.high := Int.mul_nonneg (by omega) (y8L (by omega) hh);rcases Int.lt_or_le dy 0 with hd | hd
    ·have : dy * sin a.high < 0 := Int.mul_neg_of_neg_of_pos hd (y0n hc.1 (by omega));omega
    exact hd
   have south : 90 <= a.low -> dy <= hi2 a dx -> dy <= 0 := by
    intro hh hhi;have : dy <= flo (dx * cos a.low) (sin a.low) := by
     unfold hi2 at hhi;rw [if_pos (by omega)] at hhi;omega
    have hm := (yAB (y0n (by omega) hc.2)).1 this;have hp : dx * cos a.low <= 0 := Int.mul_nonpos_of_nonneg_of_nonpos (by omega) (y8M hh hc.2);rcases Int.lt_or_le 0 dy with hd | hd
    ·have : 0 < dy * sin a.low := Int.mul_pos hd (y0n (by omega) hc.2);omega
    exact hd
   have up : 0 <= dy -> (least a dx <= dy ↔ cei (a.near * a.near) 100000000 - dx * dx <= dy * dy) := fun hd => y6P hle hd;have dn : dy <= 0 -> (dy <= -(least a dx) ↔ cei (a.near * a.near) 100000000 - dx * dx <= dy * dy) := by
    intro hd;have := y6P (y := -dy) hle (by omega);rw [Int.neg_mul_neg] at this;rw [<- this];unfold least;omega
   have hle2 := h.le;unfold lo3 hi3;by_cases hn : a.high <= 90
   ·by_cases hs : 90 <= a.low
    ·rw [if_pos hn, if_pos hs];constructor
     ·rintro ⟨⟨p, q⟩, r⟩;have a1 := north hn p;have a2 := south hs q;have r' := r.resolve_left (by omega);have := (up a1).2 r';have := (dn a2).2 r';omega
     rintro ⟨p, q⟩;have a1 := north hn (by omega);have := (up a1).1 (by omega);exact ⟨⟨by omega, by omega⟩, .inr this⟩
    rw [if_pos hn, if_neg hs];constructor
    ·rintro ⟨⟨p, q⟩, r⟩;have a1 := north hn p;have := (up a1).2 (r.resolve_left (by omega));omega
    rintro ⟨p, q⟩;have a1 := north hn (by omega);have := (up a1).1 (by omega);exact ⟨⟨by omega, by omega⟩, .inr this⟩
   by_cases hs : 90 <= a.low
   ·rw [if_neg hn, if_pos hs];constructor
    ·rintro ⟨⟨p, q⟩, r⟩;have a1 := south hs q;have := (dn a1).2 (r.resolve_left (by omega));omega
    rintro ⟨p, q⟩;have a1 := south hs (by omega);have := (dn a1).1 (by omega);exact ⟨⟨by omega, by omega⟩, .inr this⟩
   rw [if_neg hn, if_neg hs];constructor
   ·rintro ⟨p, q⟩; exact p
   intro p; exact ⟨p, .inl (by omega)⟩
  have h123 := h12;constructor
  ·rintro ⟨_, c1, c2, c3, c4⟩;have := key.1 ⟨h12.1 ⟨c1, c2, c3⟩, c4⟩;exact ⟨by simp; omega, this⟩
  rintro ⟨_, p⟩;obtain ⟨q, c4⟩ := key.2 p;obtain ⟨c1, c2, c3⟩ := h12.2 q;exact ⟨hc, c1, c2, c3, c4⟩
 rw [intA, if_pos (by omega)];simp [hc]
end Cs
end

section
namespace Cs
theorem y0Q (c : Co) : courseOk c = true ↔ (0 <= c.b /\ c.b <= 359) /\ (0 <= c.n /\ c.n <= 30) /\ (1 <= c.l /\ c.l <= 100000) /\ (1 <= c.y /\ c.y <= 3000) /\ (-500 <= c.w /\ c.w <= 500) /\ (0 <= c.s /\ c.s <= 200) := by
 simp only [courseOk, chainOk, Bool.and_eq_true, decide_eq_true_eq];constructor
 ·rintro ⟨⟨a, b, d, e, f⟩, g, h, i, j⟩;exact ⟨a, b, d, ⟨e, f⟩, ⟨g, h⟩, i, j⟩
 rintro ⟨a, b, d, ⟨e, f⟩, ⟨g, h⟩, i, j⟩;exact ⟨⟨a, b, d, e, f⟩, g, h, i, j⟩
theorem y5v (vs : List (Int × Int)) (c : Co) : -90 <= midF vs c /\ midF vs c <= 269 := by
 have := y0M (c.b + (dec vs c.y).1 + 90);unfold midF;omega
theorem y3L {c : Co} (h : courseOk c = true) : 0 < nearF c /\ nearF c <= farF c /\ farF c <= 1070000000 := by
 obtain ⟨_, _, ⟨l0, l1⟩, _, ⟨w0, w1⟩, s0, s1⟩ := (y0Q c).1 h;refine ⟨Int.mul_pos (by omega) (by omega), Int.mul_le_mul_of_nonneg_left (by omega) (by omega), ?_⟩;have : c.l * (10000 + c.w + c.s) <= 100000 * 10700 := Int.mul_le_mul (by omega) (by omega) (by omega) (by omega);exact this
theorem y3a {c : Co} (h : courseOk c = true) : courseOk (turn c) = true := by
 rw [y0Q] at h ⊢;have := y0M (c.b + 180);simp only [turn];omega
theorem y4f (vs : List (Int × Int)) {c : Co} (h : courseOk c = true) : AimOk (aimOf vs c) := by
 obtain ⟨n0, nf, f1⟩ := y3L h;obtain ⟨m0, m1⟩ := y5v vs c;obtain ⟨_, ⟨a0, a1⟩, _⟩ := (y0Q c).1 h;unfold aimOf;refine ⟨?_, ?_, ?_, ?_, ?_, n0, ?_, nf, f1⟩ <;> dsimp only <;> omega
theorem y2Q (vs : List (Int × Int)) {c : Co} (h : courseOk c = true) (dx : Int) : AimOk (aimEast vs c dx) := by
 unfold aimEast;split
 ·exact y4f vs (y3a h)
 exact y4f vs h
theorem y4R {a : Aim} (h : AimOk a) {dx : Int} (hx0 : 0 < dx) (hx1 : dx <= 100000) (hok : (intA a dx).2.2 = true) :
  -100000 <= (intA a dx).1 /\ (intA a dx).2.1 <= 100000 /\ (intA a dx).1 <= (intA a dx).2.1 := by
 unfold intA at hok ⊢;split at hok
 ·cases hok
 rename_i hn;rw [if_neg hn];simp only [decide_eq_true_eq] at hok;have h1 : hi1 a dx <= 100000 := by unfold hi1; omega
 have h2 : hi2 a dx <= hi1 a dx := by unfold hi2; split <;> omega
 have h3 : hi3 a dx <= hi2 a dx := by unfold hi3; split <;> omega
 have l2 : -(hi1 a dx) <= lo2 a dx := by unfold lo2; split <;> omega
 have l3 : lo2 a dx <= lo3 a dx := by unfold lo3; split <;> omega
 dsimp only;omega
theorem yBF (vs : List (Int × Int)) {c : Co} (h : courseOk c = true) {dx dy : Int} (hx : dx ≠ 0) (hx0 : -100000 <= dx) (hx1 : dx <= 100000) (hy0 : -100000 <= dy) (hy1 : dy <= 100000) :
  misF vs c dx dy = 0 ↔ (intF vs c dx).2.2 = true /\ (intF vs c dx).1 <= dy /\ dy <= (intF vs c dx).2.1 := by
 have ha := y2Q vs h dx;unfold misF intF;by_cases hd : dx < 0
 ·rw [if_pos hd, if_neg (by omega), y7f ha (by omega) (by omega) (by omega) (by omega)];dsimp only;constructor
  ·rintro ⟨p, q, r⟩; exact ⟨p, by omega, by omega⟩
  rintro ⟨p, q, r⟩; exact ⟨p, by omega, by omega⟩
 rw [if_neg hd, if_pos (by omega), y7f ha (by omega) (by omega) (by omega) (by omega)]
theorem y4S (vs : List (Int × Int)) {c : Co} (h : courseOk c = true) {dx : Int} (hx : dx ≠ 0) (hx0 : -100000 <= dx) (hx1 : dx <= 100000) (hok : (intF vs c dx).2.2 = true) :
  -100000 <= (intF vs c dx).1 /\ (intF vs c dx).2.1 <= 100000 /\ (intF vs c dx).1 <= (intF vs c dx).2.1 := by
 have ha := y2Q vs h dx;unfold intF at hok ⊢;by_cases hd : 0 < dx
 ·rw [if_pos hd] at hok ⊢;exact y4R ha hd hx1 hok
 rw [if_neg hd] at hok ⊢;have := y4R ha (dx := -dx) (by omega) (by omega) hok;dsimp only;omega
theorem yB4 (vs : List (Int × Int)) {c : Co} (h : courseOk c = true) {dx : Int} (hx : dx ≠ 0) (hx0 : -100000 <= dx) (hx1 : dx <= 100000) :
  comG vs dx (-100000, 100000) [c] = if (intF vs c dx).2.2 then ((intF vs c dx).1, (intF vs c dx).2.1, true) else (0, 0, false) := by
 rw [comG];rcases hb : (intF vs c dx).2.2 with _ | _
 ·simp
 obtain ⟨a, b, d⟩ := y4S vs h hx hx0 hx1 hb;rw [show max (-100000) (intF vs c dx).1 = (intF vs c dx).1 by omega, show min 100000 (intF vs c dx).2.1 = (intF vs c dx).2.1 by omega];simp [d, comG]
theorem yB3 (vs : List (Int × Int)) {dx : Int} (hx : dx ≠ 0) (hx0 : -100000 <= dx) (hx1 : dx <= 100000) (cs : List Co) (h : ∀ c ∈ cs, courseOk c = true) (lo hi : Int) (hl : -100000 <= lo) (hh : hi <= 100000)
    (hlh : lo <= hi) {y : Int} (hy0 : -100000 <= y) (hy1 : y <= 100000) :
    ((lo <= y /\ y <= hi) /\ ∀ c ∈ cs, misF vs c dx y = 0) ↔ (comG vs dx (lo, hi) cs).2.2 = true /\ (comG vs dx (lo, hi) cs).1 <= y /\ y <= (comG vs dx (lo, hi) cs).2.1 := by
  induction cs generalizing lo hi with
  | nil => simp [comG]
  | cons c r ih =>
    have hc := yBF vs (h c List.mem_cons_self) (dy := y) hx hx0 hx1 hy0 hy1;have hr := fun k => y4S vs (h c List.mem_cons_self) hx hx0 hx1 k;rw [comG];simp only [List.mem_cons, forall_eq_or_imp, hc];by_cases hcond : ((intF vs c dx).2.2 && decide (max lo (intF vs c dx).1 <= min hi (intF vs c dx).2.1)) = true
    · rw [if_pos hcond]
      simp only [Bool.and_eq_true, decide_eq_true_eq] at hcond;rw [<- ih (fun c hm => h c (List.mem_cons_of_mem _ hm)) _ _ (by omega) (by omega) hcond.2];constructor
      · rintro ⟨⟨a, b⟩, ⟨p, q, s⟩, t⟩; exact ⟨by omega, t⟩
      rintro ⟨a, t⟩; exact ⟨by omega, ⟨hcond.1, by omega, by omega⟩, t⟩
    rw [if_neg hcond];constructor
    · rintro ⟨⟨a, b⟩, ⟨p, q, s⟩, t⟩
      exact absurd (by simp only [Bool.and_eq_true, decide_eq_true_eq]; exact ⟨p, by omega⟩) hcond
    rintro ⟨a, _⟩; cases a
theorem y8K (vs : List (Int × Int)) {dx : Int} (cs : List Co) (lo hi : Int) (hl : -100000 <= lo) (hh : hi <= 100000) (hlh : lo <= hi) :
    -100000 <= (comG vs dx (lo, hi) cs).1 /\ (comG vs dx (lo, hi) cs).2.1 <= 100000 /\ (comG vs dx (lo, hi) cs).1 <= (comG vs dx (lo, hi) cs).2.1 /\
      ((comG vs dx (lo, hi) cs).2.2 = false -> (comG vs dx (lo, hi) cs).1 = 0 /\ (comG vs dx (lo, hi) cs).2.1 = 0) := by
  induction cs generalizing lo hi with
  | nil => simp [comG]; omega
  | cons c r ih =>
    rw [comG];split
    · rename_i hc
      simp only [Bool.and_eq_true, decide_eq_true_eq] at hc;exact ih _ _ (by omega) (by omega) hc.2
    simp
end Cs
end
end Go.Proofs.YtccikcpcfdjobaaGreatDoor
