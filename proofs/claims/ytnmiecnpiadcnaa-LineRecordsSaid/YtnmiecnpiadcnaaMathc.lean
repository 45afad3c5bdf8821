/-
  Plain functions, continued: ends compared, lists compared.
-/
import Derived.Test.YtnmiecnpiadcnaaMathb
set_option linter.unusedVariables false
set_option linter.unusedSimpArgs false
namespace Go.Proofs.Ytnmiecnpiadcnaa.Ln

def belowF (e f : Int × Bool) : Bool := e.2 && (!f.2 || decide (e.1 < f.1))
def aboveF (e f : Int × Bool) : Bool := e.2 && (!f.2 || decide (f.1 < e.1))
def meetsF (e f : Int × Bool) : Bool := e.2 && f.2 && decide (e.1 = f.1)
def maxI (a b : Int) : Int := if a < b then b else a
def lfzF (l h : Int × Bool) : Int := let v := if l.2 then max 0 l.1 else 0; if h.2 then min v h.1 else v

def cmpI (a b : Int) : Int := if a < b then -1 else if b < a then 1 else 0
def cmpL : List Int → List Int → Int
  | [], [] => 0
  | [], _ :: _ => -1
  | _ :: _, [] => 1
  | x :: a, y :: b => if cmpI x y = 0 then cmpL a b else cmpI x y
def clF (a b : List Int) : Int := if cmpI a.length b.length = 0 then cmpL a b else cmpI a.length b.length

/-! All distances, row behind row. -/
theorem gt_append_left {a b : List Int} {k : Nat} (h : k < a.length) : gt (a ++ b) k = gt a k := by
  unfold gt
  rw [List.getD_eq_getElem?_getD, List.getD_eq_getElem?_getD, List.getElem?_append_left h]
theorem gt_append_right {a b : List Int} {k : Nat} (h : a.length ≤ k) : gt (a ++ b) k = gt b (k - a.length) := by
  unfold gt
  simp [List.getD_eq_getElem?_getD, List.getElem?_append_right h]
theorem flat_length (f : Nat → List Int) (k : Nat) (h : ∀ a, (f a).length = 128) : ((List.range k).flatMap f).length = k * 128 := by
  induction k with
  | zero => rfl
  | succ k ih => rw [List.range_succ, List.flatMap_append, List.length_append, ih]; simp [h]; omega
theorem flat_at (f : Nat → List Int) (N : Nat) (h : ∀ a, (f a).length = 128) {a p : Nat} (ha : a < N) (hp : p < 128) : gt ((List.range N).flatMap f) (a * 128 + p) = gt (f a) p := by
  induction N with
  | zero => omega
  | succ N ih =>
    rw [List.range_succ, List.flatMap_append]
    have hl := flat_length f N h
    by_cases e : a < N
    · rw [gt_append_left (by rw [hl]; omega), ih e]
    · obtain rfl : a = N := by omega
      rw [gt_append_right (by rw [hl]; omega), hl]
      simp only [List.flatMap_cons, List.flatMap_nil, List.append_nil]
      congr 1
      omega
def adF (bs : List Bd) (N : Nat) : List Int := (List.range N).flatMap (distF bs N)
def adA (bs : List Bd) (N k : Nat) : List Int := (List.range k).flatMap (distF bs N)
def zerosN (n : Nat) : List Int := List.replicate n 0
theorem zerosN_length (n : Nat) : (zerosN n).length = n := by simp [zerosN]
theorem zerosN_add (a b : Nat) : zerosN (a + b) = zerosN a ++ zerosN b := by simp [zerosN]
theorem adA_length {bs : List Bd} {N : Nat} (hok : Ok N bs) (k : Nat) : (adA bs N k).length = k * 128 := flat_length _ _ (fun a => (distF_small hok a).1)
theorem adA_succ (bs : List Bd) (N k : Nat) : adA bs N (k + 1) = adA bs N k ++ distF bs N k := by simp [adA, List.range_succ]
theorem adF_length {bs : List Bd} {N : Nat} (hok : Ok N bs) : (adF bs N).length = N * 128 := adA_length hok N
theorem adF_at {bs : List Bd} {N : Nat} (hok : Ok N bs) {a p : Nat} (ha : a < N) (hp : p < 128) : gt (adF bs N) (a * 128 + p) = gt (distF bs N a) p := flat_at _ _ (fun a => (distF_small hok a).1) ha hp

/-! What the value of a point can be with those that are given. -/
def possS (D y : List Int) (p : Nat) (s : (Int × Bool) × (Int × Bool)) (g : Nat) : (Int × Bool) × (Int × Bool) :=
  (if aboveF (lowF (gt y g) (gt D (p * 128 + g))) s.1 then lowF (gt y g) (gt D (p * 128 + g)) else s.1, if belowF (highF (gt y g) (gt D (g * 128 + p))) s.2 then highF (gt y g) (gt D (g * 128 + p)) else s.2)
def possF (D y : List Int) (p : Nat) (gs : List Nat) : (Int × Bool) × (Int × Bool) := gs.foldl (possS D y p) ((0, false), (0, false))
theorem possF_step (D y : List Int) (p : Nat) {gs : List Nat} {k : Nat} (hk : k < gs.length) : possF D y p (gs.take (k + 1)) = possS D y p (possF D y p (gs.take k)) gs[k] := by
  rw [List.take_succ_eq_append_getElem hk, possF, List.foldl_append]
  rfl

end Go.Proofs.Ytnmiecnpiadcnaa.Ln
