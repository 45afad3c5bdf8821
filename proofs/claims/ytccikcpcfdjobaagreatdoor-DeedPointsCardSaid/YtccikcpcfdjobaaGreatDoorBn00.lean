/-
  What the claims of layer deed need of the texts Pure, Wrd, DPure, DMath, DFld, Qua, DTxt.
-/
import Derived.Lib.Split
import Derived.Lib.Join
import Derived.Lib.AtoiAllCases
import Derived.Lib.ItoaMem
import Derived.Lib.FieldsP
import Derived.Lib.DecodeN
set_option linter.unusedVariables false
set_option linter.unusedSimpArgs false
namespace Go.Proofs.YtccikcpcfdjobaaGreatDoor
namespace Cs
def norm (d : Int) : Int := d % 360
def T : List Int := [0, 175, 349, 523, 698, 872, 1045, 1219, 1392, 1564,
 1736, 1908, 2079, 2250, 2419, 2588, 2756, 2924, 3090, 3256,
 3420, 3584, 3746, 3907, 4067, 4226, 4384, 4540, 4695, 4848,
 5000, 5150, 5299, 5446, 5592, 5736, 5878, 6018, 6157, 6293,
 6428, 6561, 6691, 6820, 6947, 7071, 7193, 7314, 7431, 7547,
 7660, 7771, 7880, 7986, 8090, 8192, 8290, 8387, 8480, 8572,
 8660, 8746, 8829, 8910, 8988, 9063, 9135, 9205, 9272, 9336,
 9397, 9455, 9511, 9563, 9613, 9659, 9703, 9744, 9781, 9816,
 9848, 9877, 9903, 9925, 9945, 9962, 9976, 9986, 9994, 9998,
 10000]
theorem T_length : T.length = 91 := by decide
def tb (k : Int) : Int := T[k.toNat]?.getD 0
theorem tb_range (k : Int) : 0 ≤ tb k ∧ tb k ≤ 10000 := by
 unfold tb
 rcases Nat.lt_or_ge k.toNat T.length with h | h
 ·rw [List.getElem?_eq_getElem h]
  have : ∀ x ∈ T, 0 ≤ x ∧ x ≤ 10000 := by decide
  exact this _ (List.getElem_mem h)
 ·rw [List.getElem?_eq_none h]
  decide
def sinI (n : Int) : Int :=
 if 180 < n then (if 90 < n - 180 then -(tb (360 - n)) else -(tb (n - 180)))
 else if 90 < n then tb (180 - n) else tb n
def sin (d : Int) : Int := sinI (norm d)
def cos (d : Int) : Int := sin (norm d + 90)
theorem norm_range (d : Int) : 0 ≤ norm d ∧ norm d ≤ 359 := by unfold norm; omega
theorem sinI_range (n : Int) : -10000 ≤ sinI n ∧ sinI n ≤ 10000 := by
 unfold sinI
 have a := tb_range (360 - n)
 have b := tb_range (n - 180)
 have c := tb_range (180 - n)
 have d := tb_range n
 split
 ·split <;> omega
 ·split <;> omega
theorem cos_range (d : Int) : -10000 ≤ cos d ∧ cos d ≤ 10000 := sinI_range _
def rootF (n : Int) : Nat → Int → Int
 | 0, r => r
 | k + 1, r => rootF n k (if (r + 2 ^ k) * (r + 2 ^ k) ≤ n then r + 2 ^ k else r)
def root (n : Int) : Int := if n < 0 then 0 else rootF n 32 0
def rootUp (n : Int) : Int := if root n * root n < n then root n + 1 else root n
theorem rootF_spec (n : Int) (k : Nat) (r : Int) (h0 : 0 ≤ r) (h1 : r * r ≤ n) (h2 : n < (r + 2 ^ k) * (r + 2 ^ k)) :
    0 ≤ rootF n k r ∧ rootF n k r * rootF n k r ≤ n ∧ n < (rootF n k r + 1) * (rootF n k r + 1) := by
  induction k generalizing r with
  | zero => exact ⟨h0, h1, by simpa [rootF] using h2⟩
  | succ k ih =>
    rw [rootF]
    have hp : (0 : Int) < 2 ^ k := Int.pow_pos (by decide)
    have hpp : (2 : Int) ^ (k + 1) = 2 ^ k + 2 ^ k := by rw [Int.pow_succ]; omega
    split
    · rename_i h
      refine ih _ (by omega) h ?_
      rw [show r + 2 ^ k + 2 ^ k = r + 2 ^ (k + 1) by omega]
      exact h2
    · rename_i h
      exact ih _ h0 h1 (by omega)
theorem root_spec {n : Int} (h0 : 0 ≤ n) (h1 : n ≤ 9223372036854775807) : 0 ≤ root n ∧ root n * root n ≤ n ∧ n < (root n + 1) * (root n + 1) := by
 rw [root, if_neg (by omega)]
 exact rootF_spec n 32 0 (by decide) (by simpa using h0) (by simp; omega)
theorem root_neg {n : Int} (h : n < 0) : root n = 0 := by rw [root, if_pos h]
theorem root_le {n : Int} (h1 : n ≤ 9223372036854775807) : 0 ≤ root n ∧ root n ≤ 3037000499 := by
 rcases Int.lt_or_le n 0 with h | h
 ·rw [root_neg h]; decide
 ·obtain ⟨a, b, _⟩ := root_spec h h1
  refine ⟨a, ?_⟩
  rcases Int.lt_or_le 3037000499 (root n) with hh | hh
  ·have : (3037000500 : Int) * 3037000500 ≤ root n * root n := Int.mul_le_mul (by omega) (by omega) (by decide) (by omega)
   omega
  ·exact hh
structure Co where
 b : Int
 n : Int
 l : Int
 y : Int
 w : Int
 s : Int
deriving DecidableEq
def chainOk (w s : Int) : Bool := decide (-500 ≤ w ∧ w ≤ 500 ∧ 0 ≤ s ∧ s ≤ 200)
def chainE (w s : Int) : Int := if chainOk w s then 0 else 1
def courseOk (c : Co) : Bool := decide ((0 ≤ c.b ∧ c.b ≤ 359) ∧ (0 ≤ c.n ∧ c.n ≤ 30) ∧ (1 ≤ c.l ∧ c.l ≤ 100000) ∧ 1 ≤ c.y ∧ c.y ≤ 3000) && chainOk c.w c.s
def courseE (c : Co) : Int := if courseOk c then 0 else 1
def okV : Int → List (Int × Int) → Bool
 | _, [] => true
 | b, (y, e) :: r => decide (b + 1 ≤ y ∧ y ≤ 3000 ∧ -60 ≤ e ∧ e ≤ 60) && okV y r
def varsE (vs : List (Int × Int)) : Int := if 40 < vs.length then 2 else if okV 0 vs then 0 else 1
def decG (year : Int) : Int × Bool → List (Int × Int) → Int × Bool
 | acc, [] => acc
 | acc, (y, e) :: r => decG year (if y ≤ year then (e, true) else acc) r
def dec (vs : List (Int × Int)) (year : Int) : Int × Bool := if varsE vs = 0 then decG year (0, false) vs else (0, false)
def checkE (vs : List (Int × Int)) (cs : List Co) : Int :=
 if varsE vs ≠ 0 then varsE vs
 else if cs.all courseOk then (if cs.all (fun c => (dec vs c.y).2) then 0 else 20) else 1
theorem okV_east {b : Int} {vs : List (Int × Int)} (h : okV b vs = true) : ∀ v ∈ vs, -60 ≤ v.2 ∧ v.2 ≤ 60 := by
  induction vs generalizing b with
  | nil => simp
  | cons v r ih =>
    obtain ⟨y, e⟩ := v
    simp only [okV, Bool.and_eq_true, decide_eq_true_eq] at h
    intro v hv
    rcases List.mem_cons.1 hv with rfl | hv
    · simp; omega
    · exact ih h.2 v hv
theorem decG_range (year : Int) (vs : List (Int × Int)) (acc : Int × Bool) (ha : -60 ≤ acc.1 ∧ acc.1 ≤ 60) (hv : ∀ v ∈ vs, -60 ≤ v.2 ∧ v.2 ≤ 60) :
    -60 ≤ (decG year acc vs).1 ∧ (decG year acc vs).1 ≤ 60 := by
  induction vs generalizing acc with
  | nil => exact ha
  | cons v r ih =>
    obtain ⟨y, e⟩ := v
    rw [decG]
    refine ih _ ?_ (fun v hv' => hv v (List.mem_cons_of_mem _ hv'))
    split
    · exact hv (y, e) List.mem_cons_self
    · exact ha
theorem dec_range (vs : List (Int × Int)) (year : Int) : -60 ≤ (dec vs year).1 ∧ (dec vs year).1 ≤ 60 := by
 unfold dec
 split
 ·rename_i h
  refine decG_range _ _ _ (by decide) ?_
  unfold varsE at h
  split at h
  ·cases h
  ·split at h
   ·rename_i h2; exact okV_east h2
   ·cases h
 ·decide
structure Aim where
 low : Int
 high : Int
 near : Int
 far : Int
deriving DecidableEq
def nearF (c : Co) : Int := c.l * (10000 + c.w - c.s)
def farF (c : Co) : Int := c.l * (10000 + c.w + c.s)
def midF (vs : List (Int × Int)) (c : Co) : Int := norm (c.b + (dec vs c.y).1 + 90) - 90
def aimOf (vs : List (Int × Int)) (c : Co) : Aim := ⟨midF vs c - c.n, midF vs c + c.n, nearF c, farF c⟩
def turn (c : Co) : Co := { c with b := norm (c.b + 180) }
def aimEast (vs : List (Int × Int)) (c : Co) (dx : Int) : Aim := if dx < 0 then aimOf vs (turn c) else aimOf vs c
def flo (a b : Int) : Int := a / b
def cei (a b : Int) : Int := -((-a) / b)
def room (a : Aim) (dx : Int) : Int := a.far * a.far / 100000000 - dx * dx
def hi1 (a : Aim) (dx : Int) : Int := min (root (room a dx)) 100000
def hi2 (a : Aim) (dx : Int) : Int := if 0 < a.low then min (hi1 a dx) (flo (dx * cos a.low) (sin a.low)) else hi1 a dx
def lo2 (a : Aim) (dx : Int) : Int := if a.high < 180 then max (-(hi1 a dx)) (cei (dx * cos a.high) (sin a.high)) else -(hi1 a dx)
def least (a : Aim) (dx : Int) : Int := rootUp (cei (a.near * a.near) 100000000 - dx * dx)
def lo3 (a : Aim) (dx : Int) : Int := if a.high ≤ 90 then max (lo2 a dx) (least a dx) else lo2 a dx
def hi3 (a : Aim) (dx : Int) : Int := if 90 ≤ a.low then min (hi2 a dx) (-(least a dx)) else hi2 a dx
def intA (a : Aim) (dx : Int) : Int × Int × Bool :=
 if a.high ≤ 0 ∨ 180 ≤ a.low ∨ room a dx < 0 then (0, 0, false) else (lo3 a dx, hi3 a dx, decide (lo3 a dx ≤ hi3 a dx))
def intF (vs : List (Int × Int)) (c : Co) (dx : Int) : Int × Int × Bool :=
 if 0 < dx then intA (aimEast vs c dx) dx else (-(intA (aimEast vs c dx) (-dx)).2.1, -(intA (aimEast vs c dx) (-dx)).1, (intA (aimEast vs c dx) (-dx)).2.2)
def eastE (vs : List (Int × Int)) (cs : List Co) (dx : Int) : Int :=
 if checkE vs cs ≠ 0 then checkE vs cs else if dx = 0 ∨ dx < -100000 ∨ 100000 < dx then 1 else 0
def comG (vs : List (Int × Int)) (dx : Int) : Int × Int → List Co → Int × Int × Bool
  | (lo, hi), [] => (lo, hi, true)
  | (lo, hi), c :: r =>
    let i := intF vs c dx
    let lo' := max lo i.1
    let hi' := min hi i.2.1
    if i.2.2 && decide (lo' ≤ hi') then comG vs dx (lo', hi') r else (0, 0, false)
def comF (vs : List (Int × Int)) (cs : List Co) (dx : Int) : (Int × Int × Bool) × Int :=
 if 40 < cs.length then ((0, 0, false), 2) else if cs.length = 0 then ((0, 0, false), 5)
 else if eastE vs cs dx ≠ 0 then ((0, 0, false), eastE vs cs dx) else (comG vs dx (-100000, 100000) cs, 0)
def revF (c : Co) : Co × Int := if courseOk c then (turn c, 0) else (⟨0, 0, 0, 0, 0, 0⟩, 1)
theorem tm360 (d : Int) : -360 < d.tmod 360 ∧ d.tmod 360 < 360 ∧ ∃ q, d.tmod 360 = d - 360 * q := by
 have h1 := Int.tmod_add_mul_tdiv d 360
 have h2 := Int.tmod_lt_of_pos d (b := 360) (by decide)
 have h3 := Int.lt_tmod_of_pos d (b := 360) (by decide)
 exact ⟨h3, h2, d.tdiv 360, by omega⟩
theorem tdiv_flo (a b : Int) (hb : 0 < b) : a.tdiv b = flo a b + (if a.tmod b < 0 then 1 else 0) := by
 have h1 := Int.tmod_add_mul_tdiv a b
 have h2 := Int.tmod_lt_of_pos a hb
 have h3 := Int.lt_tmod_of_pos a hb
 unfold flo
 split
 ·rename_i h
  have : a / b = a.tdiv b - 1 := by
   rw [Int.ediv_eq_iff_of_pos hb, Int.sub_mul, Int.mul_comm (a.tdiv b) b]
   omega
  omega
 ·rename_i h
  have : a / b = a.tdiv b := by
   rw [Int.ediv_eq_iff_of_pos hb, Int.mul_comm (a.tdiv b) b]
   omega
  omega
end Cs
end Go.Proofs.YtccikcpcfdjobaaGreatDoor

namespace Go.Proofs.YtccikcpcfdjobaaGreatDoor
namespace Cs
abbrev Bs := List UInt8
structure Un where
 one : Bs
 many : Bs
 size : Int
def uChain : Un := ⟨[99, 104, 97, 105, 110], [99, 104, 97, 105, 110, 115], 100⟩
def uPole : Un := ⟨[112, 111, 108, 101], [112, 111, 108, 101, 115], 25⟩
def uLink : Un := ⟨[108, 105, 110, 107], [108, 105, 110, 107, 115], 1⟩
def lenU : List Un := [uChain, uPole, uLink]
def pairF (u : Un) (q : Int) : List Bs := if q = 0 then [] else if q = 1 then [[49], u.one] else [Lib.itoa q, u.many]
def wordsF : List Un → Int → List Bs
 | [], _ => []
 | u :: r, n => pairF u (n / u.size) ++ wordsF r (n % u.size)
def restF : List Un → Int → Int
 | [], n => n
 | u :: r, n => restF r (n % u.size)
theorem wordsF_snoc (us : List Un) (u : Un) (n : Int) : wordsF (us ++ [u]) n = wordsF us n ++ pairF u (restF us n / u.size) := by
 induction us generalizing n with
 | nil => simp [wordsF, restF]
 | cons v r ih => simp [wordsF, restF, ih, List.append_assoc]
theorem restF_snoc (us : List Un) (u : Un) (n : Int) : restF (us ++ [u]) n = restF us n % u.size := by
 induction us generalizing n with
 | nil => simp [restF]
 | cons v r ih => simp [restF, ih]
def zeroL : Bs := [48, 32, 108, 105, 110, 107, 115]
def writeF (us : List Un) (most n : Int) : Bs := if 0 ≤ n ∧ n ≤ most then (if n = 0 then zeroL else Lib.join (wordsF us n) [32]) else []
def lenF (n : Int) : Bs := writeF lenU 1000000 n
def Wd (w : Bs) : Prop := w ≠ [] ∧ (32 : UInt8) ∉ w
theorem itoa_nn {q : Int} (h : 0 ≤ q) : Lib.itoa q = Lib.decDigits q.toNat := by
 obtain ⟨m, rfl⟩ : ∃ m : Nat, q = m := ⟨q.toNat, by omega⟩
 rw [Lib.itoa_nonneg]
 simp
theorem pair_len (u : Un) (q : Int) : (pairF u q).length ≤ 2 ∧ (pairF u q).length % 2 = 0 := by
 unfold pairF
 split
 ·simp
 ·split <;> simp
theorem words_len (us : List Un) (n : Int) : (wordsF us n).length ≤ 2 * us.length ∧ (wordsF us n).length % 2 = 0 := by
  induction us generalizing n with
  | nil => simp [wordsF]
  | cons u r ih =>
    have h1 := pair_len u (n / u.size)
    have h2 := ih (n % u.size)
    simp only [wordsF, List.length_append, List.length_cons]
    omega
def cutF : Bs → List Bs
 | [] => [[]]
 | c :: r => if c = 32 then [] :: cutF r else match cutF r with | [] => [[c]] | x :: t => (c :: x) :: t
theorem cutF_ne (s : Bs) : cutF s ≠ [] := by
  cases s with
  | nil => simp [cutF]
  | cons c r =>
    unfold cutF
    split
    · simp
    · split <;> simp
def numF (w : Bs) : Option Int := match Lib.atoiAll w with | .ok v => some v | _ => none
def sizeF : List Un → Bs → Option Int
 | [], _ => none
 | u :: r, w => if w = u.one ∨ w = u.many then some u.size else sizeF r w
def wr (x : Int) : Int := if -9223372036854775808 ≤ x ∧ x ≤ 9223372036854775807 then x else (x + 9223372036854775808) % 18446744073709551616 - 9223372036854775808
def sumF (us : List Un) : Int → List Bs → Option Int
  | acc, a :: b :: r => match numF a, sizeF us b with
    | some k, some z => sumF us (wr (acc + wr (k * z))) r
    | _, _ => none
  | acc, _ => some acc
def readF (say : List Bs → Option Int) (write : Int → Bs) (s : Bs) : Int × Int :=
 match say (Lib.splitN s [32] 8) with
 | none => (0, 4)
 | some n => if write n = s then (n, 0) else (0, 4)
theorem nDigits_le {u : Nat} {k : Nat} (hk : 1 ≤ k) (h : u < 10 ^ k) : Lib.nDigits u ≤ k := by
  induction k generalizing u with
  | zero => omega
  | succ k ih =>
    by_cases hu : u < 10
    · rw [Lib.nDigits_small hu]; omega
    · rw [Lib.nDigits_big hu]
      by_cases hk0 : k = 0
      · subst hk0; simp at h; omega
      · have := ih (u := u / 10) (by omega) (by rw [Nat.pow_succ] at h; omega)
        omega
def lnkF (s : Bs) : Int × Int := readF (sumF lenU 0) lenF s
end Cs
end Go.Proofs.YtccikcpcfdjobaaGreatDoor

namespace Go.Proofs.YtccikcpcfdjobaaGreatDoor
namespace Dd
abbrev Bs := Cs.Bs
def isLet (c : UInt8) : Bool := decide (97 ≤ c.toNat ∧ c.toNat ≤ 122)
def isNum (c : UInt8) : Bool := decide (48 ≤ c.toNat ∧ c.toNat ≤ 57)
def nameC (c : UInt8) : Bool := isLet c || isNum c || decide (c.toNat = 45)
def headF : Bs → Bool
 | [] => false
 | c :: _ => isLet c
def nameF (s : Bs) : Bool := decide (s.length ≤ 24) && headF s && s.all nameC
structure Pa where
 name : Bs
 south : Int
 west : Int
 east : Int
deriving DecidableEq
structure Fd where
 st : List (Bs × Int)
 li : List Bs
 pa : List Pa
 va : List (Int × Int)
deriving DecidableEq
def idxP {α : Type} (p : α → Bool) : List α → Int → Int
 | [], _ => -1
 | x :: r, k => if p x then k else idxP p r (k + 1)
def idx (l : List Bs) (s : Bs) : Int := idxP (fun x => decide (x = s)) l 0
def distA (pre : List Bs) : List Bs → Bool
 | [] => true
 | x :: r => !decide (x ∈ pre) && distA (pre ++ [x]) r
def dist (l : List Bs) : Bool := distA [] l
def isIx (i n : Int) : Bool := decide (0 ≤ i ∧ i < n)
def facing (p q : Pa) : Bool := decide (max p.west q.west < min p.east q.east)
def paOk (f : Fd) (p : Pa) : Bool := isIx p.south (f.li.length - 1) && isIx p.west f.st.length && isIx p.east f.st.length
def xOk (s : Bs × Int) : Bool := decide (0 ≤ s.2 ∧ s.2 ≤ 100000)
def rangeF (f : Fd) : Bool := f.st.all xOk && f.pa.all (paOk f)
def upA (a : Int) : List Int → Bool
 | [] => true
 | b :: r => decide (a < b) && upA b r
def upF : List Int → Bool
 | [] => true
 | a :: r => upA a r
def hits (p q : Pa) : Bool := decide (q.south = p.south) && facing p q
def clearA (pre : List Pa) : List Pa → Bool
 | [] => true
 | p :: r => decide (p.west < p.east) && !(pre.any (hits p)) && clearA (pre ++ [p]) r
def orderF (f : Fd) : Bool := upF (f.st.map (·.2)) && clearA [] f.pa
def namesF (f : Fd) : Bool := (f.st.map (·.1)).all nameF && f.li.all nameF && (f.pa.map (·.name)).all nameF
def distF (f : Fd) : Bool := dist (f.st.map (·.1)) && dist f.li && dist (f.pa.map (·.name))
def fieldE (f : Fd) : Int :=
 if 12 < f.st.length ∨ 10 < f.li.length ∨ 40 < f.pa.length then 2
 else if f.st.length < 2 ∨ f.li.length = 0 then 5
 else if Cs.varsE f.va ≠ 0 then Cs.varsE f.va
 else if namesF f = false then 4
 else if distF f = false then 6
 else if rangeF f = false then 1
 else if orderF f = false then 30 else 0
def pt (f : Fd) (limit station : Int) : Int := 1 + limit * f.st.length + station
def ptsN (f : Fd) : Nat := 1 + f.li.length * f.st.length
def ptsF (f : Fd) : Int := if fieldE f = 0 then (ptsN f : Int) else 0
def pointF (f : Fd) (l s : Int) : Int × Int :=
 if fieldE f ≠ 0 then (0, fieldE f) else if isIx l f.li.length && isIx s f.st.length then (pt f l s, 0) else (0, 1)
def cornerF (f : Fd) (p : Int) : Int × Int × Int :=
 if fieldE f ≠ 0 then (0, 0, fieldE f) else if 1 ≤ p ∧ p < ptsN f then ((p - 1) / f.st.length, (p - 1) % f.st.length, 0) else (0, 0, 1)
structure Bd where
 f : Int
 t : Int
 m : Int
 r : Int
deriving DecidableEq
def natP : Nat → Nat → List Bd
 | 0, _ => []
 | n + 1, p => ⟨0, p, 100000, 0⟩ :: ⟨p, 0, 0, 0⟩ :: natP n (p + 1)
def natS (k l : Nat) : Nat → Nat → List Bd
 | 0, _ => []
 | n + 1, s => ⟨1 + (l + 1) * k + s, 1 + l * k + s, 0, 0⟩ :: natS k l n (s + 1)
def natL (k : Nat) : Nat → Nat → List Bd
 | 0, _ => []
 | n + 1, l => natS k l k 0 ++ natL k n (l + 1)
def nat (f : Fd) : List Bd := natP (ptsN f - 1) 1 ++ natL f.st.length (f.li.length - 1) 0
def natureF (f : Fd) : List Bd × Int := if fieldE f ≠ 0 then ([], fieldE f) else (nat f, 0)
def at_ (y : List Int) (i : Int) : Int := y[i.toNat]?.getD 0
def keepsB (y : List Int) (b : Bd) : Bool := decide (at_ y b.t - at_ y b.f ≤ b.m)
def drw (f : Fd) (y : List Int) : Bool := decide (y.length = ptsN f) && decide (at_ y 0 = 0) && y.all (fun v => decide (-400000000 ≤ v ∧ v ≤ 400000000)) && (nat f).all (keepsB y)
def drawnF (f : Fd) (y : List Int) : Bool × Int := if fieldE f ≠ 0 then (false, fieldE f) else (drw f y, 0)
def hasP (f : Fd) (s o : Int) (y : List Int) (p : Pa) : Bool :=
 decide (p.west ≤ s) && decide (s < p.east) && decide (at_ y (pt f p.south s) ≤ o) && decide (o < at_ y (pt f (p.south + 1) s))
def atF (f : Fd) (s o : Int) (y : List Int) : Int × Int :=
 if fieldE f ≠ 0 then (0, fieldE f)
 else if isIx s f.st.length && decide (0 ≤ o ∧ o ≤ 100000) && drw f y then
  (if idxP (hasP f s o y) f.pa 0 < 0 then (0, 5) else (idxP (hasP f s o y) f.pa 0, 0))
 else (0, 1)
def touch (p q : Pa) : Bool :=
 if p.south - q.south = 0 then decide (p.west = q.east) || decide (q.west = p.east)
 else if p.south - q.south = 1 ∨ p.south - q.south = -1 then facing p q else false
def adjA (q : Pa) : List Pa → Int → List Int
 | [], _ => []
 | p :: r, k => (if touch p q then [k] else []) ++ adjA q r (k + 1)
def paAt (f : Fd) (i : Int) : Pa := f.pa[i.toNat]?.getD ⟨[], 0, 0, 0⟩
def adjF (f : Fd) (i : Int) : List Int × Int :=
 if fieldE f ≠ 0 then ([], fieldE f) else if isIx i f.pa.length then (adjA (paAt f i) f.pa 0, 0) else ([], 1)
structure Ca where
 k : Int
 l : Int
 o : Int
 a : Int
 b : Int
 s : Int
 e : Int
 c : Cs.Co
deriving DecidableEq
def co0 : Cs.Co := ⟨0, 0, 0, 0, 0, 0⟩
def ca0 : Ca := ⟨0, 0, 0, 0, 0, 0, 0, co0⟩
def xAt (f : Fd) (i : Int) : Int := (f.st[i.toNat]?.getD ([], 0)).2
def run (f : Fd) (c : Ca) : Int := xAt f c.b - xAt f c.a
def there (f : Fd) (c : Ca) : Bool :=
 isIx c.l f.li.length && isIx c.o f.li.length && isIx c.a f.st.length && isIx c.b f.st.length && decide (-100000 ≤ c.s ∧ c.s ≤ 100000) && decide (0 ≤ c.e ∧ c.e ≤ 100000)
def ordered (c : Ca) : Bool :=
 if c.k = 1 then decide (0 ≤ c.s) else if c.k = 2 then decide (c.l < c.o) && decide (0 ≤ c.s) else if c.k = 3 ∨ c.k = 5 then decide (c.a ≠ c.b)
 else if c.k = 4 then decide (c.l < c.o) && decide (c.a < c.b) else false
def bare (c : Ca) : Bool :=
 if c.k = 1 then decide (c.o = 0 ∧ c.b = 0 ∧ c.c = co0)
 else if c.k = 2 then decide (c.b = 0 ∧ c.c = co0)
 else if c.k = 3 then decide (c.o = 0 ∧ c.s = 0 ∧ c.e = 0)
 else if c.k = 4 then decide (c.s = 0 ∧ c.e = 0 ∧ c.c = co0)
 else if c.k = 5 then decide (c.o = 0 ∧ c.c = co0)
 else decide (c.o = 0 ∧ c.b = 0 ∧ c.s = 0 ∧ c.e = 0 ∧ c.c = co0)
def callG (f : Fd) (c : Ca) : Int :=
 if there f c && ordered c && bare c then
  (if c.k ≠ 3 then 0 else if (Cs.comF f.va [c.c] (run f c)).2 ≠ 0 then (Cs.comF f.va [c.c] (run f c)).2
   else if (Cs.comF f.va [c.c] (run f c)).1.2.2 then 0 else 5)
 else 1
def callE (f : Fd) (c : Ca) : Int := if fieldE f ≠ 0 then fieldE f else callG f c
def gapAlong (f : Fd) (c : Ca) : Nat → Int → List (Int × Int × Int × Int)
 | 0, _ => []
 | n + 1, s => (pt f c.l s, pt f c.o s, 0, 0) :: gapAlong f c n (s + 1)
def gapsF (f : Fd) (c : Ca) : List (Int × Int × Int × Int) :=
 if c.k = 1 then [(0, pt f c.l c.a, c.s - c.e, c.s + c.e)]
 else if c.k = 2 then [(pt f c.l c.a, pt f c.o c.a, c.s - c.e, c.s + c.e)]
 else if c.k = 3 then [(pt f c.l c.a, pt f c.l c.b, (Cs.comF f.va [c.c] (run f c)).1.1, (Cs.comF f.va [c.c] (run f c)).1.2.1)]
 else if c.k = 5 then [(pt f c.l c.a, pt f c.l c.b, c.s - c.e, c.s + c.e)]
 else gapAlong f c (c.b - c.a + 1).toNat c.a
def pairB (r : Int) (g : Int × Int × Int × Int) : List Bd := [⟨g.1, g.2.1, g.2.2.2, r⟩, ⟨g.2.1, g.1, -g.2.2.1, r⟩]
def bnds (f : Fd) (c : Ca) (r : Int) : List Bd := (gapsF f c).flatMap (pairB r)
def boundsF (f : Fd) (c : Ca) (r : Int) : List Bd × Int :=
 if callE f c ≠ 0 then ([], callE f c) else if 0 ≤ r ∧ r ≤ 1000000 then (bnds f c r, 0) else ([], 1)
def sub (a b : List Bd) : Bool := a.all (fun x => decide (x ∈ b))
def turnC (c : Ca) : Ca :=
 if c.k = 3 then { c with a := c.b, b := c.a, c := (Cs.revF c.c).1 } else if c.k = 5 then { c with a := c.b, b := c.a, s := -c.s } else c
def backF (f : Fd) (c : Ca) : Ca × Int := if callE f c ≠ 0 then (ca0, callE f c) else (turnC c, 0)
end Dd
end Go.Proofs.YtccikcpcfdjobaaGreatDoor

namespace Go.Proofs.YtccikcpcfdjobaaGreatDoor
namespace Dd
theorem idxP_spec {α : Type} (p : α → Bool) (l : List α) : ∀ k : Int, (∃ i, ∃ h : i < l.length, p l[i] = true ∧ (∀ j (hj : j < i), p (l[j]'(by omega)) = false) ∧ idxP p l k = k + i) ∨ ((∀ i (h : i < l.length), p l[i] = false) ∧ idxP p l k = -1) := by
  induction l with
  | nil => intro k; exact .inr ⟨fun i h => by simp at h, rfl⟩
  | cons x r ih =>
    intro k
    rw [idxP]
    by_cases hx : p x = true
    · rw [if_pos hx]
      exact .inl ⟨0, by simp, hx, fun j hj => by omega, by simp⟩
    · rw [if_neg hx]
      rcases ih (k + 1) with ⟨i, hi, h1, h2, h3⟩ | ⟨h1, h2⟩
      · refine .inl ⟨i + 1, by simp; omega, by simpa using h1, fun j hj => ?_, by rw [h3]; omega⟩
        cases j with
        | zero => simpa using hx
        | succ j => simpa using h2 j (by omega)
      · refine .inr ⟨fun i h => ?_, h2⟩
        cases i with
        | zero => simpa using hx
        | succ j => simpa using h1 j (by simpa using h)
theorem idxP_at {α : Type} {p : α → Bool} {l : List α} {i : Nat} (h : i < l.length) (h1 : p l[i] = true) (h2 : ∀ j (hj : j < i), p (l[j]'(by omega)) = false) : idxP p l 0 = i := by
 rcases idxP_spec p l 0 with ⟨k, hk, k1, k2, k3⟩ | ⟨k1, k2⟩
 ·rw [k3]
  rcases Nat.lt_trichotomy i k with hlt | heq | hgt
  ·rw [k2 i hlt] at h1; cases h1
  ·omega
  ·rw [h2 k hgt] at k1; cases k1
 ·rw [k1 i h] at h1; cases h1
theorem idxP_no {α : Type} {p : α → Bool} {l : List α} (h : ∀ i (h : i < l.length), p l[i] = false) : idxP p l 0 = -1 := by
 rcases idxP_spec p l 0 with ⟨k, hk, k1, k2, k3⟩ | ⟨k1, k2⟩
 ·rw [h k hk] at k1; cases k1
 ·exact k2
theorem idxP_range {α : Type} (p : α → Bool) (l : List α) : -1 ≤ idxP p l 0 ∧ idxP p l 0 < l.length := by
 rcases idxP_spec p l 0 with ⟨k, hk, k1, k2, k3⟩ | ⟨k1, k2⟩ <;> omega
theorem idxP_map {α β : Type} (g : α → β) (p : β → Bool) (l : List α) : ∀ k, idxP p (l.map g) k = idxP (fun x => p (g x)) l k := by
 induction l with
 | nil => intro k; rfl
 | cons x r ih => intro k; simp only [List.map_cons, idxP, ih]
theorem idx_neg {l : List Bs} {s : Bs} : idx l s < 0 ↔ s ∉ l := by
 unfold idx
 rcases idxP_spec (fun x => decide (x = s)) l 0 with ⟨k, hk, k1, k2, k3⟩ | ⟨k1, k2⟩
 ·rw [k3]
  constructor
  ·intro h; omega
  ·intro h
   exact absurd (by rw [← of_decide_eq_true k1]; exact List.getElem_mem hk) h
 ·rw [k2]
  refine ⟨fun _ hm => ?_, fun _ => by decide⟩
  obtain ⟨i, hi, rfl⟩ := List.getElem_of_mem hm
  have := k1 i hi
  simp at this
theorem dist_step {l : List Bs} {k : Nat} (hk : k < l.length) : distA (l.take k) (l.drop k) = (!decide (l[k] ∈ l.take k) && distA (l.take (k + 1)) (l.drop (k + 1))) := by
 rw [List.drop_eq_getElem_cons hk, distA, List.take_succ_eq_append_getElem hk]
theorem dist_take (l : List Bs) : distA (l.take 0) (l.drop 0) = dist l := by simp [dist]
theorem clear_step {l : List Pa} {k : Nat} (hk : k < l.length) : clearA (l.take k) (l.drop k) = (decide (l[k].west < l[k].east) && !((l.take k).any (hits l[k])) && clearA (l.take (k + 1)) (l.drop (k + 1))) := by
 rw [List.drop_eq_getElem_cons hk, clearA, List.take_succ_eq_append_getElem hk]
theorem at_nat (y : List Int) (p : Nat) : at_ y (p : Int) = y[p]?.getD 0 := by unfold at_; simp
theorem natP_mem {b : Bd} : ∀ {n p : Nat}, b ∈ natP n p ↔ ∃ q, p ≤ q ∧ q < p + n ∧ (b = ⟨0, q, 100000, 0⟩ ∨ b = ⟨q, 0, 0, 0⟩)
  | 0, p => by simp [natP]; omega
  | n + 1, p => by
    rw [natP, List.mem_cons, List.mem_cons, natP_mem (n := n) (p := p + 1)]
    constructor
    · rintro (rfl | rfl | ⟨q, h1, h2, h3⟩)
      · exact ⟨p, Nat.le_refl _, by omega, .inl rfl⟩
      · exact ⟨p, Nat.le_refl _, by omega, .inr rfl⟩
      · exact ⟨q, by omega, by omega, h3⟩
    · rintro ⟨q, h1, h2, h3⟩
      by_cases e : q = p
      · subst e
        rcases h3 with h3 | h3
        · exact .inl h3
        · exact .inr (.inl h3)
      · exact .inr (.inr ⟨q, by omega, by omega, h3⟩)
theorem natS_mem {b : Bd} {k l : Nat} : ∀ {n s : Nat}, b ∈ natS k l n s ↔ ∃ q, s ≤ q ∧ q < s + n ∧ b = ⟨((1 + (l + 1) * k + q : Nat) : Int), ((1 + l * k + q : Nat) : Int), 0, 0⟩
  | 0, s => by simp [natS]; omega
  | n + 1, s => by
    rw [natS, List.mem_cons, natS_mem (n := n) (s := s + 1)]
    constructor
    · rintro (rfl | ⟨q, h1, h2, h3⟩)
      · exact ⟨s, Nat.le_refl _, by omega, by simp⟩
      · exact ⟨q, by omega, by omega, h3⟩
    · rintro ⟨q, h1, h2, h3⟩
      by_cases e : q = s
      · subst e
        exact .inl (by rw [h3]; simp)
      · exact .inr ⟨q, by omega, by omega, h3⟩
theorem natL_mem {b : Bd} {k : Nat} : ∀ {n l : Nat}, b ∈ natL k n l ↔ ∃ q s, l ≤ q ∧ q < l + n ∧ s < k ∧ b = ⟨((1 + (q + 1) * k + s : Nat) : Int), ((1 + q * k + s : Nat) : Int), 0, 0⟩
  | 0, l => by simp [natL]; omega
  | n + 1, l => by
    rw [natL, List.mem_append, natS_mem, natL_mem (n := n) (l := l + 1)]
    constructor
    · rintro (⟨s, h1, h2, h3⟩ | ⟨q, s, h1, h2, h3⟩)
      · exact ⟨l, s, Nat.le_refl _, by omega, by omega, h3⟩
      · exact ⟨q, s, by omega, by omega, h3⟩
    · rintro ⟨q, s, h1, h2, h3, h4⟩
      by_cases e : q = l
      · subst e
        exact .inl ⟨s, Nat.zero_le _, by omega, h4⟩
      · exact .inr ⟨q, s, by omega, by omega, h3, h4⟩
theorem row_lt {m n l s : Nat} (hl : l < m) (hs : s < n) : 1 + l * n + s < 1 + m * n := by
 have := Nat.mul_le_mul_right n (show l + 1 ≤ m by omega)
 rw [Nat.succ_mul] at this
 omega
theorem row_of {m n p : Nat} (h1 : 1 ≤ p) (h2 : p < 1 + m * n) : ∃ l s, l < m ∧ s < n ∧ p = 1 + l * n + s := by
 have hn : 0 < n := Nat.pos_of_ne_zero (fun e => by subst e; omega)
 have hd := Nat.div_add_mod (p - 1) n
 have hm := Nat.mod_lt (p - 1) hn
 refine ⟨(p - 1) / n, (p - 1) % n, ?_, hm, by rw [Nat.mul_comm]; omega⟩
 exact (Nat.div_lt_iff_lt_mul hn).2 (by omega)
theorem drw_iff {f : Fd} {y : List Int} : drw f y = true ↔ y.length = ptsN f ∧ at_ y 0 = 0 ∧ ∀ l s : Nat, l < f.li.length → s < f.st.length →
  (0 ≤ at_ y ((1 + l * f.st.length + s : Nat) : Int) ∧ at_ y ((1 + l * f.st.length + s : Nat) : Int) ≤ 100000) ∧ (0 < l → at_ y ((1 + (l - 1) * f.st.length + s : Nat) : Int) ≤ at_ y ((1 + l * f.st.length + s : Nat) : Int)) := by
 unfold drw
 simp only [Bool.and_eq_true, decide_eq_true_eq, List.all_eq_true]
 constructor
 ·rintro ⟨⟨⟨h1, h2⟩, h3⟩, h4⟩
  refine ⟨h1, h2, fun l s hl hs => ?_⟩
  have hp := row_lt hl hs
  have hN : ptsN f = 1 + f.li.length * f.st.length := rfl
  have a1 := h4 ⟨0, ((1 + l * f.st.length + s : Nat) : Int), 100000, 0⟩ (List.mem_append_left _ (natP_mem.2 ⟨1 + l * f.st.length + s, by omega, by omega, .inl rfl⟩))
  have a2 := h4 ⟨((1 + l * f.st.length + s : Nat) : Int), 0, 0, 0⟩ (List.mem_append_left _ (natP_mem.2 ⟨1 + l * f.st.length + s, by omega, by omega, .inr rfl⟩))
  simp only [keepsB, decide_eq_true_eq] at a1 a2
  refine ⟨by omega, fun h0 => ?_⟩
  have a3 := h4 ⟨((1 + (l - 1 + 1) * f.st.length + s : Nat) : Int), ((1 + (l - 1) * f.st.length + s : Nat) : Int), 0, 0⟩ (List.mem_append_right _ (natL_mem.2 ⟨l - 1, s, Nat.zero_le _, by omega, hs, rfl⟩))
  simp only [keepsB, decide_eq_true_eq, show l - 1 + 1 = l by omega] at a3
  omega
 ·rintro ⟨h1, h2, h3⟩
  have hN : ptsN f = 1 + f.li.length * f.st.length := rfl
  have hv : ∀ p : Nat, 1 ≤ p → p < ptsN f → 0 ≤ at_ y (p : Int) ∧ at_ y (p : Int) ≤ 100000 := fun p a b => by
   obtain ⟨l, s, hl, hs, rfl⟩ := row_of a (by rw [← hN]; exact b)
   exact (h3 l s hl hs).1
  refine ⟨⟨⟨h1, h2⟩, fun v hm => ?_⟩, fun b hb => ?_⟩
  ·obtain ⟨i, hi, rfl⟩ := List.getElem_of_mem hm
   have e : at_ y (i : Int) = y[i] := by rw [at_nat]; simp [hi]
   by_cases i0 : i = 0
   ·subst i0
    rw [← e]
    have : at_ y ((0 : Nat) : Int) = 0 := h2
    omega
   ·have := hv i (by omega) (by omega)
    omega
  ·simp only [keepsB, decide_eq_true_eq]
   rcases List.mem_append.1 hb with hb | hb
   ·obtain ⟨q, q1, q2, rfl | rfl⟩ := natP_mem.1 hb
    ·have := hv q q1 (by omega)
     simp only
     omega
    ·have := hv q q1 (by omega)
     simp only
     omega
   ·obtain ⟨q, s, q1, q2, q3, rfl⟩ := natL_mem.1 hb
    have := (h3 (q + 1) s (by omega) q3).2 (by omega)
    simp only [Nat.add_sub_cancel] at this
    simp only
    omega
end Dd
end Go.Proofs.YtccikcpcfdjobaaGreatDoor

namespace Go.Proofs.YtccikcpcfdjobaaGreatDoor
namespace Dd
def fldA : Bs → Bs → List Bs
 | cur, [] => if cur = [] then [] else [cur]
 | cur, c :: r => if c = 32 then (if cur = [] then fldA [] r else cur :: fldA [] r) else fldA (cur ++ [c]) r
theorem fldA_eq (r : Bs) : ∀ cur : Bs, fldA cur r = ((match Cs.cutF r with | [] => [cur] | x :: t => (cur ++ x) :: t).filter fun w => decide (w ≠ [])) := by
  induction r with
  | nil =>
    intro cur
    unfold fldA Cs.cutF
    by_cases h : cur = []
    · simp [h]
    · simp [h]
  | cons c r ih =>
    intro cur
    rw [fldA, Cs.cutF]
    by_cases hc : c = 32
    · rw [if_pos hc, if_pos hc, ih []]
      simp only [List.append_nil]
      have hh : (match Cs.cutF r with | [] => [[]] | x :: t => ([] ++ x) :: t) = Cs.cutF r := by
        cases h : Cs.cutF r with
        | nil => exact absurd h (Cs.cutF_ne r)
        | cons x t => simp
      rw [hh]
      by_cases h : cur = []
      · simp [h]
      · simp [h]
    · rw [if_neg hc, if_neg hc, ih]
      cases h : Cs.cutF r with
      | nil => exact absurd h (Cs.cutF_ne r)
      | cons x t => simp
def blankF (s : Bs) : List Bs := (Cs.cutF s).filter fun w => decide (w ≠ [])
theorem fldA_nil (s : Bs) : fldA [] s = blankF s := by
 rw [fldA_eq]
 unfold blankF
 cases h : Cs.cutF s with
 | nil => exact absurd h (Cs.cutF_ne s)
 | cons x t => simp
theorem fldA_more (cur m r : Bs) (h : ∀ c ∈ m, c ≠ 32) : fldA cur (m ++ r) = fldA (cur ++ m) r := by
  induction m generalizing cur with
  | nil => simp
  | cons c m ih =>
    rw [List.cons_append, fldA, if_neg (h c List.mem_cons_self), ih _ (fun x hx => h x (List.mem_cons_of_mem _ hx))]
    simp
theorem get_at (s : ByteArray) (i : Nat) (h : i < s.size) : s.get! i = s.data.toList[i]'(by simpa using h) := by
  cases s with
  | mk d =>
    show d[i]! = _
    rw [getElem!_pos d i h]
    simp
theorem dec_blank (s : ByteArray) (i : Nat) (h : i < s.size) (hb : s.get! i = 32) : Utf8.decode s i = (32, 1) := by
 rw [Lib.decode_at, hb]
 simp [Lib.decodeN]
set_option maxHeartbeats 2000000 in
theorem dec_other (s : ByteArray) (i : Nat) (h : i < s.size) (hb : (s.get! i).toNat ≠ 32) :
  (Utf8.decode s i).1 ≠ 32 ∧ 1 ≤ (Utf8.decode s i).2 ∧ i + (Utf8.decode s i).2 ≤ s.size ∧ ∀ j, 0 < j → j < (Utf8.decode s i).2 → (s.get! (i + j)).toNat ≠ 32 := by
 rw [Lib.decode_at]
 obtain ⟨b0, h0⟩ : ∃ b, (s.get! i).toNat = b := ⟨_, rfl⟩
 obtain ⟨b1, h1⟩ : ∃ b, (s.get! (i + 1)).toNat = b := ⟨_, rfl⟩
 obtain ⟨b2, h2⟩ : ∃ b, (s.get! (i + 2)).toNat = b := ⟨_, rfl⟩
 obtain ⟨b3, h3⟩ : ∃ b, (s.get! (i + 3)).toNat = b := ⟨_, rfl⟩
 obtain ⟨n, hn⟩ : ∃ n, s.size - i = n := ⟨_, rfl⟩
 rw [h0] at hb
 rw [h0, h1, h2, h3, hn]
 have hin : ∀ k, k ≤ n → i + k ≤ s.size := fun k hk => by omega
 have n1 : 1 ≤ n := by omega
 clear hn h
 unfold Lib.decodeN
 split
 ·exact ⟨hb, Nat.le_refl _, hin _ n1, fun j a b => by dsimp only at b; omega⟩
 ·split
  ·rename_i c1 c2
   split
   ·refine ⟨by dsimp only; omega, by dsimp only; omega, hin _ (by omega), fun j a b => ?_⟩
    dsimp only at b
    obtain rfl : j = 1 := by omega
    omega
   ·exact ⟨by dsimp only; omega, Nat.le_refl _, hin _ n1, fun j a b => by dsimp only at b; omega⟩
  ·split
   ·rename_i c1 c2 c3
    split
    ·refine ⟨by dsimp only; omega, by dsimp only; omega, hin _ (by omega), fun j a b => ?_⟩
     dsimp only at b
     rcases (show j = 1 ∨ j = 2 by omega) with rfl | rfl <;> omega
    ·exact ⟨by dsimp only; omega, Nat.le_refl _, hin _ n1, fun j a b => by dsimp only at b; omega⟩
   ·split
    ·rename_i c1 c2 c3 c4
     split
     ·refine ⟨by dsimp only; omega, by dsimp only; omega, hin _ (by omega), fun j a b => ?_⟩
      dsimp only at b
      rcases (show j = 1 ∨ j = 2 ∨ j = 3 by omega) with rfl | rfl | rfl <;> omega
     ·exact ⟨by dsimp only; omega, Nat.le_refl _, hin _ n1, fun j a b => by dsimp only at b; omega⟩
    ·exact ⟨by dsimp only; omega, Nat.le_refl _, hin _ n1, fun j a b => by dsimp only at b; omega⟩
def curAt (L : Bs) (pos : Nat) : Option Nat → Bs
 | none => []
 | some a => (L.take pos).drop a
theorem ext_eq (s : ByteArray) (a b : Nat) : s.extract a b = ⟨((s.data.toList.take b).drop a).toArray⟩ := by
 have : (s.extract a b).data = ((s.data.toList.take b).drop a).toArray := by
  rw [ByteArray.data_extract]
  apply Array.toList_inj.1
  simp [List.extract_eq_take_drop, List.drop_take]
 cases h : s.extract a b
 rw [h] at this
 simp only at this
 rw [this]
def bat (l : Bs) : ByteArray := ⟨l.toArray⟩
theorem spans_eq (s : ByteArray) : ∀ (f pos : Nat) (st : Option Nat) (acc : List (Nat × Nat)), s.size ≤ pos + f → pos ≤ s.size → (∀ a, st = some a → a < pos) →
    (Lib.closeSpans s (Lib.spansFromP (fun r => decide (r = 32)) s f pos st acc)).map (fun x => s.extract x.1 x.2) =
      acc.map (fun x => s.extract x.1 x.2) ++ (fldA (curAt s.data.toList pos st) (s.data.toList.drop pos)).map bat := by
  intro f
  have hlen : s.data.toList.length = s.size := by simp
  have hend : ∀ (pos : Nat) (st : Option Nat) (acc : List (Nat × Nat)), s.size ≤ pos → pos ≤ s.size → (∀ a, st = some a → a < pos) →
      (Lib.closeSpans s (acc, st)).map (fun x => s.extract x.1 x.2) = acc.map (fun x => s.extract x.1 x.2) ++ (fldA (curAt s.data.toList pos st) (s.data.toList.drop pos)).map bat := by
    intro pos st acc h1 h2 h3
    have hd : s.data.toList.drop pos = [] := List.drop_eq_nil_of_le (by omega)
    rw [hd, fldA]
    cases st with
    | none => simp [Lib.closeSpans, curAt]
    | some a =>
      have ha := h3 a rfl
      have hne : curAt s.data.toList pos (some a) ≠ [] := by
        unfold curAt
        intro e
        have := congrArg List.length e
        simp at this
        omega
      rw [if_neg hne]
      simp only [Lib.closeSpans, List.map_append, List.map_cons, List.map_nil, bat, ext_eq]
      congr 3
      unfold curAt
      rw [List.take_of_length_le (by omega), List.take_of_length_le (by omega)]
  induction f with
  | zero =>
    intro pos st acc h1 h2 h3
    rw [Lib.spansFromP_end _ _ _ _ _ _ (by omega)]
    exact hend pos st acc (by omega) h2 h3
  | succ f ih =>
    intro pos st acc h1 h2 h3
    by_cases hp : pos < s.size
    · have hp' : pos < s.data.toList.length := by omega
      have hg := get_at s pos hp
      rw [Lib.spansFromP.eq_def]
      dsimp only
      rw [if_pos hp]
      by_cases hb : s.get! pos = 32
      · rw [dec_blank s pos hp hb]
        simp only [decide_true, if_true]
        have hd : s.data.toList.drop pos = 32 :: s.data.toList.drop (pos + 1) := by rw [List.drop_eq_getElem_cons hp', ← hg, hb]
        rw [hd, fldA, if_pos rfl]
        cases st with
        | none =>
          rw [ih (pos + 1) none acc (by omega) (by omega) (fun a e => by cases e)]
          simp [curAt]
        | some a =>
          have ha := h3 a rfl
          have hne : curAt s.data.toList pos (some a) ≠ [] := by
            unfold curAt
            intro e
            have := congrArg List.length e
            simp at this
            omega
          rw [if_neg hne]
          dsimp only
          rw [ih (pos + 1) none _ (by omega) (by omega) (fun a e => by cases e)]
          simp only [List.map_append, List.map_cons, List.map_nil, bat, ext_eq, curAt, List.append_assoc, List.singleton_append]
      · have hb' : (s.get! pos).toNat ≠ 32 := fun e => hb (UInt8.toNat_inj.1 e)
        obtain ⟨d1, d2, d3, d4⟩ := dec_other s pos hp hb'
        obtain ⟨⟨r, k⟩, hdk⟩ : ∃ d, Utf8.decode s pos = d := ⟨_, rfl⟩
        rw [hdk] at d1 d2 d3 d4 ⊢
        dsimp only at d1 d2 d3 d4 ⊢
        rw [if_neg (by simpa using d1)]
        have hm : s.data.toList.drop pos = (s.data.toList.drop pos).take k ++ s.data.toList.drop (pos + k) := by
          rw [← List.drop_drop, List.take_append_drop]
        have hall : ∀ c ∈ (s.data.toList.drop pos).take k, c ≠ 32 := by
          intro c hc e
          obtain ⟨j, hj, rfl⟩ := List.getElem_of_mem hc
          rw [List.length_take, List.length_drop] at hj
          rw [List.getElem_take, List.getElem_drop] at e
          rw [← get_at s (pos + j) (by omega)] at e
          by_cases j0 : j = 0
          · subst j0
            exact hb (by simpa using e)
          · exact d4 j (by omega) (by omega) (by rw [e]; rfl)
        have hcur : ∀ a, a ≤ pos → ((s.data.toList.take pos).drop a) ++ (s.data.toList.drop pos).take k = (s.data.toList.take (pos + k)).drop a := by
          intro a ha
          rw [List.take_add, List.drop_append_of_le_length (by rw [List.length_take]; omega)]
        rw [hm, fldA_more _ _ _ hall]
        cases st with
        | none =>
          dsimp only
          rw [ih (pos + k) (some pos) acc (by omega) (by omega) (fun a e => by cases e; omega)]
          congr 2
          have := hcur pos (Nat.le_refl _)
          simp only [curAt]
          rw [← this]
          simp
        | some a =>
          have ha := h3 a rfl
          dsimp only
          rw [ih (pos + k) (some a) acc (by omega) (by omega) (fun b e => by cases e; omega)]
          congr 2
          simp only [curAt]
          rw [← hcur a (by omega)]
    · rw [Lib.spansFromP_end _ _ _ _ _ _ hp]
      exact hend pos st acc (by omega) h2 h3
theorem goFields_blank (l : Bs) : Lib.goFieldsP (fun r => decide (r = 32)) (bat l) = (blankF l).map bat := by
 unfold Lib.goFieldsP Lib.spansOfP
 rw [spans_eq (bat l) (bat l).size 0 none [] (by omega) (Nat.zero_le _) (fun a e => by cases e)]
 simp only [List.map_nil, List.nil_append, curAt, List.drop_zero]
 rw [fldA_nil]
 rfl
def codeF (s : Bs) : Bs := s.takeWhile fun c => decide (c ≠ 35)
def fieldsF (s : Bs) : List Bs := blankF (codeF s)
end Dd
end Go.Proofs.YtccikcpcfdjobaaGreatDoor

namespace Go.Proofs.YtccikcpcfdjobaaGreatDoor
namespace Cs
def wNorth : Bs := [110, 111, 114, 116, 104]
def wEast : Bs := [101, 97, 115, 116]
def wSouth : Bs := [115, 111, 117, 116, 104]
def wWest : Bs := [119, 101, 115, 116]
def quarters : List Bs := [wNorth, wEast, wSouth, wWest]
def quadW (n : Int) : List Bs :=
 if n % 90 = 0 then [quarters[(n / 90).toNat]?.getD []]
 else if n < 90 then [wNorth, Lib.itoa n, wEast]
 else if n < 180 then [wSouth, Lib.itoa (180 - n), wEast]
 else if n < 270 then [wSouth, Lib.itoa (n - 180), wWest]
 else [wNorth, Lib.itoa (360 - n), wWest]
def quadF (d : Int) : Bs := Lib.join (quadW (norm d)) [32]
def idxQ (w : Bs) : Int := if w = wNorth then 0 else if w = wEast then 1 else if w = wSouth then 2 else if w = wWest then 3 else -1
def dir3 (w0 w2 : Bs) (n : Int) : Option Int :=
 if w0 ++ [32] ++ w2 = wNorth ++ [32] ++ wEast then some n
 else if w0 ++ [32] ++ w2 = wSouth ++ [32] ++ wEast then some (wr (180 - n))
 else if w0 ++ [32] ++ w2 = wSouth ++ [32] ++ wWest then some (wr (180 + n))
 else if w0 ++ [32] ++ w2 = wNorth ++ [32] ++ wWest then some (wr (360 - n)) else none
def dirF : List Bs → Option Int
  | [] => none
  | [w0] => if 0 ≤ idxQ w0 then some (90 * idxQ w0) else none
  | [w0, w1, w2] => match numF w1 with
    | some n => dir3 w0 w2 n
    | none => none
  | _ => none
theorem wE : Wd wEast := by simp [Wd, wEast]
def berF (s : Bs) : Int × Int := readF dirF quadF s
end Cs
end Go.Proofs.YtccikcpcfdjobaaGreatDoor

namespace Go.Proofs.YtccikcpcfdjobaaGreatDoor
namespace Dd
def kStation : Bs := [115, 116, 97, 116, 105, 111, 110]
def kLimit : Bs := [108, 105, 109, 105, 116]
def kParcel : Bs := [112, 97, 114, 99, 101, 108]
def kVariation : Bs := [118, 97, 114, 105, 97, 116, 105, 111, 110]
def kStone : Bs := [115, 116, 111, 110, 101]
def kWidth : Bs := [119, 105, 100, 116, 104]
def kCourse : Bs := [99, 111, 117, 114, 115, 101]
def kAlong : Bs := [97, 108, 111, 110, 103]
def kLevel : Bs := [108, 101, 118, 101, 108]
def kDeed : Bs := [100, 101, 101, 100]
def kBy : Bs := [98, 121]
def kGive : Bs := [103, 105, 118, 101]
def kWear : Bs := [119, 101, 97, 114]
def kSlack : Bs := [115, 108, 97, 99, 107]
def linesF : Bs → List Bs
 | [] => [[]]
 | c :: r => if c = 10 then [] :: linesF r else match linesF r with | [] => [[c]] | x :: t => (c :: x) :: t
def sgnF (w : Bs) : Option Int :=
 match Cs.numF w with
 | some n => if Lib.itoa n = w ∧ -999999999 ≤ n ∧ n ≤ 999999999 then some n else none
 | none => none
def nnF (w : Bs) : Option Int :=
 match sgnF w with
 | some n => if 0 ≤ n then some n else none
 | none => none
def stationL (f : Fd) : List Bs → Int × Fd
 | [n, x] => if nameF n then (match nnF x with | some v => (0, { f with st := f.st ++ [(n, v)] }) | none => (4, f)) else (4, f)
 | _ => (4, f)
def limitL (f : Fd) : List Bs → Int × Fd
 | [n] => if nameF n then (0, { f with li := f.li ++ [n] }) else (4, f)
 | _ => (4, f)
def parcelL (f : Fd) : List Bs → Int × Fd
  | [n, s, a, b] =>
    if nameF n && nameF s && nameF a && nameF b then
      (if idx f.li s < 0 ∨ idx (f.st.map (·.1)) a < 0 ∨ idx (f.st.map (·.1)) b < 0 then (5, f)
       else if idx f.li s + 1 < f.li.length then (0, { f with pa := f.pa ++ [⟨n, idx f.li s, idx (f.st.map (·.1)) a, idx (f.st.map (·.1)) b⟩] }) else (1, f))
    else (4, f)
  | _ => (4, f)
def variationL (f : Fd) : List Bs → Int × Fd
  | [y, e] => match nnF y, sgnF e with
    | some v, some d => (0, { f with va := f.va ++ [(v, d)] })
    | _, _ => (4, f)
  | _ => (4, f)
def lineF (f : Fd) : List Bs → Int × Fd
  | [] => (4, f)
  | k :: r =>
    if k = kStation then stationL f r else if k = kLimit then limitL f r else if k = kParcel then parcelL f r
    else if k = kVariation then variationL f r else (4, f)
def fieldG (f : Fd) : List Bs → Int → (Int × Int) × Fd
  | [], _ => ((0, 0), f)
  | l :: r, k =>
    if fieldsF l = [] then fieldG f r (k + 1)
    else if (lineF f (fieldsF l)).1 = 0 then fieldG (lineF f (fieldsF l)).2 r (k + 1)
    else (((lineF f (fieldsF l)).1, k), f)
def fd0 : Fd := ⟨[], [], [], []⟩
def parseF (src : Bs) : Fd × (Int × Int) :=
 if 20000 < src.length then (fd0, (2, 0))
 else if (fieldG fd0 (linesF src) 1).1 = (0, 0) then
  (if fieldE (fieldG fd0 (linesF src) 1).2 = 0 then ((fieldG fd0 (linesF src) 1).2, (0, 0)) else (fd0, (fieldE (fieldG fd0 (linesF src) 1).2, 0)))
 else (fd0, (fieldG fd0 (linesF src) 1).1)
structure Dr where
 l : Bs
 o : Bs
 a : Bs
 b : Bs
 c : Ca
deriving DecidableEq
def upTo (w : Bs) : List Bs → Option (Bs × List Bs)
 | l => if idx l w < 0 then none else some (Lib.join (l.take (idx l w).toNat) [32], l.drop ((idx l w).toNat + 1))
def stoneL : List Bs → Option Dr
 | [l, a, s, e] => if nameF l && nameF a then (match nnF s, nnF e with | some x, some y => some ⟨l, [], a, [], { ca0 with k := 1, s := x, e := y }⟩ | _, _ => none) else none
 | _ => none
def widthL : List Bs → Option Dr
 | [l, o, a, s, e] => if nameF l && nameF o && nameF a then (match nnF s, nnF e with | some x, some y => some ⟨l, o, a, [], { ca0 with k := 2, s := x, e := y }⟩ | _, _ => none) else none
 | _ => none
def alongL : List Bs → Option Dr
 | [l, o, a, b] => if nameF l && nameF o && nameF a && nameF b then some ⟨l, o, a, b, { ca0 with k := 4 }⟩ else none
 | _ => none
def levelL : List Bs → Option Dr
 | [l, a, b, s, e] => if nameF l && nameF a && nameF b then (match sgnF s, nnF e with | some x, some y => some ⟨l, [], a, b, { ca0 with k := 5, s := x, e := y }⟩ | _, _ => none) else none
 | _ => none
def tailL (links bearing : Int) : List Bs → Option Cs.Co
 | [n, w, x, s, y] => if w = kWear ∧ s = kSlack then
   (match nnF n, sgnF x, nnF y with | some a, some b, some c => some ⟨bearing, a, links, 0, b, c⟩ | _, _, _ => none) else none
 | _ => none
def runL (l : List Bs) : Option Cs.Co :=
  match upTo kBy l with
  | none => none
  | some (s, r) => if (Cs.lnkF s).2 = 0 ∧ 1 ≤ (Cs.lnkF s).1 ∧ (Cs.lnkF s).1 ≤ 100000 then
      (match upTo kGive r with
       | none => none
       | some (t, r2) => if (Cs.berF t).2 = 0 then tailL (Cs.lnkF s).1 (Cs.berF t).1 r2 else none)
    else none
def courseL : List Bs → Option Dr
 | l :: a :: b :: r => if nameF l && nameF a && nameF b then (match runL r with | some c => some ⟨l, [], a, b, { ca0 with k := 3, c := c }⟩ | none => none) else none
 | _ => none
def draftF : List Bs → Option Dr
  | [] => none
  | k :: r =>
    if k = kStone then stoneL r else if k = kWidth then widthL r else if k = kCourse then courseL r
    else if k = kAlong then alongL r else if k = kLevel then levelL r else none
def inF (f : Fd) (y : Int) (d : Dr) : Int × Ca :=
 let c : Ca := ⟨d.c.k, idx f.li d.l, (if d.o = [] then d.c.o else idx f.li d.o), idx (f.st.map (·.1)) d.a, (if d.b = [] then d.c.b else idx (f.st.map (·.1)) d.b), d.c.s, d.c.e, (if d.c.k = 3 then { d.c.c with y := y } else d.c.c)⟩
 if c.l < 0 ∨ c.a < 0 ∨ c.o < 0 ∨ c.b < 0 then (5, ca0) else if callG f c = 0 then (0, c) else (callG f c, ca0)
def readF (f : Fd) (line : Bs) (year : Int) : Ca × Int :=
 if fieldE f ≠ 0 then (ca0, fieldE f) else if ¬ (1 ≤ year ∧ year ≤ 3000) then (ca0, 1) else if (10 : UInt8) ∈ line then (ca0, 4)
 else match draftF (fieldsF line) with
  | none => (ca0, 4)
  | some d => ((inF f year d).2, (inF f year d).1)
structure De where
 name : Bs
 year : Int
 rank : Int
 calls : List Ca
deriving DecidableEq
def dated (d : De) : Bool := decide (1 ≤ d.year ∧ d.year ≤ 3000) && decide (0 ≤ d.rank ∧ d.rank ≤ 1000)
def deedL (l : List De) : List Bs → Int × List De
 | [n, y, k] => if nameF n then (match nnF y, nnF k with
   | some a, some b => if 60 ≤ l.length then (2, l) else if dated ⟨n, a, b, []⟩ = false then (1, l) else if n ∈ l.map (·.name) then (6, l) else (0, l ++ [⟨n, a, b, []⟩])
   | _, _ => (4, l)) else (4, l)
 | _ => (4, l)
def moreL (f : Fd) (l : List De) (w : List Bs) : Int × List De :=
  match draftF w with
  | none => (4, l)
  | some d => match l.getLast? with
    | none => (4, l)
    | some z => if 20 ≤ z.calls.length then (2, l) else if (inF f z.year d).1 = 0 then (0, l.dropLast ++ [{ z with calls := z.calls ++ [(inF f z.year d).2] }]) else ((inF f z.year d).1, l)
def stepL (f : Fd) (l : List De) : List Bs → Int × List De
 | [] => (4, l)
 | k :: r => if k = kDeed then deedL l r else moreL f l (k :: r)
def deedsL (f : Fd) (l : List De) : List Bs → Int → (Int × Int) × List De
  | [], _ => ((0, 0), l)
  | t :: r, k =>
    if fieldsF t = [] then deedsL f l r (k + 1)
    else if (stepL f l (fieldsF t)).1 = 0 then deedsL f (stepL f l (fieldsF t)).2 r (k + 1)
    else (((stepL f l (fieldsF t)).1, k), l)
def parseD (f : Fd) (src : Bs) : List De × (Int × Int) :=
 if fieldE f ≠ 0 then ([], (fieldE f, 0)) else if 20000 < src.length then ([], (2, 0))
 else if (deedsL f [] (linesF src) 1).1 = (0, 0) then ((deedsL f [] (linesF src) 1).2, (0, 0)) else ([], (deedsL f [] (linesF src) 1).1)
def saidF (l : List Bs) : Bs := Lib.join l [32]
def liAt (f : Fd) (i : Int) : Bs := f.li[i.toNat]?.getD []
def stAt (f : Fd) (i : Int) : Bs := (f.st[i.toNat]?.getD ([], 0)).1
def writeF (f : Fd) (c : Ca) : Bs :=
 if c.k = 1 then saidF [kStone, liAt f c.l, stAt f c.a, Lib.itoa c.s, Lib.itoa c.e]
 else if c.k = 2 then saidF [kWidth, liAt f c.l, liAt f c.o, stAt f c.a, Lib.itoa c.s, Lib.itoa c.e]
 else if c.k = 3 then saidF [kCourse, liAt f c.l, stAt f c.a, stAt f c.b, Cs.lenF c.c.l, kBy, Cs.quadF c.c.b, kGive, Lib.itoa c.c.n, kWear, Lib.itoa c.c.w, kSlack, Lib.itoa c.c.s]
 else if c.k = 4 then saidF [kAlong, liAt f c.l, liAt f c.o, stAt f c.a, stAt f c.b]
 else saidF [kLevel, liAt f c.l, stAt f c.a, stAt f c.b, Lib.itoa c.s, Lib.itoa c.e]
def exampleS : Bs := [115, 116, 97, 116, 105, 111, 110, 32, 97, 115, 104, 32, 48, 10, 115, 116, 97, 116, 105, 111, 110, 32, 111, 97, 107, 32, 56, 54, 54, 10, 108, 105, 109, 105, 116, 32, 119, 97, 108, 108, 10, 108, 105, 109, 105, 116, 32, 104, 101, 100, 103, 101, 10, 112, 97, 114, 99, 101, 108, 32, 104, 111, 109, 101, 32, 119, 97, 108, 108, 32, 97, 115, 104, 32, 111, 97, 107, 10, 118, 97, 114, 105, 97, 116, 105, 111, 110, 32, 49, 55, 48, 48, 32, 49, 48, 10]
end Dd
end Go.Proofs.YtccikcpcfdjobaaGreatDoor
