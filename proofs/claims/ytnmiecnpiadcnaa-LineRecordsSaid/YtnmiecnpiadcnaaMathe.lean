/-
  Plain functions, continued: paths, and values through a point.
-/
import Derived.Test.YtnmiecnpiadcnaaMathd
set_option linter.unusedVariables false
set_option linter.unusedSimpArgs false
namespace Go.Proofs.Ytnmiecnpiadcnaa.Ln

theorem dead_ok {N : Nat} {bs : List Bd} (hok : Ok N bs) {l : List Bd} (hl : ∀ b ∈ l, (0 ≤ b.f ∧ b.f < N) ∧ (0 ≤ b.t ∧ b.t < N) ∧ (-1000000 ≤ b.m ∧ b.m ≤ 1000000)) (hlen : bs.length + l.length ≤ 2002) : Ok N (bs ++ l) :=
  ⟨hok.pos, hok.top, by rw [List.length_append]; exact hlen, fun b hb => by
    rcases List.mem_append.1 hb with h | h
    · exact hok.each b h
    · exact hl b h⟩

/-! Rows: the least sums of paths to b with exactly k bounds. -/
def rowF (bs : List Bd) (N b : Nat) : Nat → List Int
  | 0 => nones.set b 0
  | k + 1 => lgF bs (rowF bs N b k) N
theorem rowF_small {bs : List Bd} {N : Nat} (hok : Ok N bs) (b k : Nat) : (rowF bs N b k).length = 128 ∧ Sm (1000000 * k) (rowF bs N b k) := by
  induction k with
  | zero => exact ⟨start_length b, (start_small b).mono (by omega)⟩
  | succ k ih =>
    have h := lgF_small hok ih.1 ih.2 (by omega) N (Nat.le_refl _)
    exact ⟨h.1, h.2.mono (by omega)⟩

/-- The first number of bounds (of 0 to longest) with a path from a to b of a sum of at most most. -/
def fpP (bs : List Bd) (N a b : Nat) (most : Int) (k : Nat) : Bool := decide (gt (rowF bs N b k) a ≤ most)
def fpM (bs : List Bd) (N a b : Nat) (most : Int) (longest : Nat) : Option Nat := (List.range (longest + 1)).find? (fpP bs N a b most)
theorem fpM_some {bs : List Bd} {N a b : Nat} {most : Int} {longest k : Nat} (hk : k ≤ longest) (h : ∀ j, j < k → fpP bs N a b most j = false) (hp : fpP bs N a b most k = true) : fpM bs N a b most longest = some k := by
  rw [fpM, List.find?_range_eq_some]
  exact ⟨hp, by simpa using Nat.lt_succ_of_le hk, fun j hj => by simp [h j hj]⟩
theorem fpM_none {bs : List Bd} {N a b : Nat} {most : Int} {longest : Nat} (h : ∀ j, j ≤ longest → fpP bs N a b most j = false) : fpM bs N a b most longest = none := by
  rw [fpM, List.find?_range_eq_none]
  exact fun j hj => by simp [h j (by omega)]

/-- Whether bound i can be the next one, where d has the least sums of the rest. -/
def okP (bs : List Bd) (d : List Int) (most : Int) (i : Nat) : Bool := !decide (gt d (bd bs i).t.toNat = NONE) && decide ((bd bs i).m + gt d (bd bs i).t.toNat ≤ most)
def wkF (bs : List Bd) (R : Nat → List Int) : Nat → Nat → Int → List Nat
  | 0, _, _ => []
  | l + 1, p, most => match (idx bs p).find? (okP bs (R l) most) with
    | none => []
    | some i => i :: wkF bs R l (bd bs i).t.toNat (most - (bd bs i).m)
theorem wkF_none {bs : List Bd} {R : Nat → List Int} {l p : Nat} {most : Int} (h : (idx bs p).find? (okP bs (R l) most) = none) : wkF bs R (l + 1) p most = [] := by rw [wkF, h]
theorem wkF_some {bs : List Bd} {R : Nat → List Int} {l p i : Nat} {most : Int} (h : (idx bs p).find? (okP bs (R l) most) = some i) : wkF bs R (l + 1) p most = i :: wkF bs R l (bd bs i).t.toNat (most - (bd bs i).m) := by rw [wkF, h]
theorem wkF_lt {bs : List Bd} {R : Nat → List Int} (l p : Nat) (most : Int) : ∀ i ∈ wkF bs R l p most, i < bs.length := by
  induction l generalizing p most with
  | zero => intro i hi; cases hi
  | succ l ih =>
    intro i hi
    rcases h : (idx bs p).find? (okP bs (R l) most) with _ | k
    · rw [wkF_none h] at hi; cases hi
    · rw [wkF_some h] at hi
      rcases List.mem_cons.1 hi with rfl | hi
      · exact (idx_lt (List.mem_of_find?_eq_some h)).1
      · exact ih _ _ i hi
theorem wkF_length {bs : List Bd} {R : Nat → List Int} (l p : Nat) (most : Int) : (wkF bs R l p most).length ≤ l := by
  induction l generalizing p most with
  | zero => exact Nat.le_refl _
  | succ l ih =>
    rcases h : (idx bs p).find? (okP bs (R l) most) with _ | k
    · rw [wkF_none h]; exact Nat.zero_le _
    · rw [wkF_some h]; exact Nat.succ_le_succ (ih _ _)

def fpF (bs : List Bd) (N a b : Nat) (most : Int) (longest : Nat) : List Nat × Bool :=
  match fpM bs N a b most longest with
  | none => ([], false)
  | some k => (wkF bs (rowF bs N b) k a most, true)

/-- Path, errors and all. -/
def paF (N : Int) (bs : List Bd) (a b : Int) : List Nat × Int :=
  if soundF N bs [a, b] = 0 then (if dF N bs a b = NONE then ([], 5) else ((fpF bs N.toNat a.toNat b.toNat (dF N bs a b) N.toNat).1, 0)) else ([], soundF N bs [a, b])

/-- Through, errors and all. -/
def tieL (p v : Int) : List Bd := [⟨0, p, v, 0, false⟩, ⟨p, 0, -v, 0, false⟩]
def thF (N : Int) (bs : List Bd) (p v : Int) : List Int × Bool × Int :=
  if cpF N bs [p] = 0 then (if within v 1000000 = true then (if consF (bs ++ tieL p v) N.toNat = true then (valF (bs ++ tieL p v) N.toNat, true, 0) else ([], false, 0)) else ([], false, 1)) else ([], false, cpF N bs [p])
theorem tie_ok {N : Int} {bs : List Bd} {p v : Int} (hc : cpF N bs [p] = 0) (hv : within v 1000000 = true) : Ok N.toNat (bs ++ tieL p v) := by
  have h0 := cpF_zero hc
  obtain ⟨hok, hN⟩ := ok_of_check h0
  have hp := pts_of hc (p := p) (by simp)
  have hv' : -1000000 ≤ v ∧ v ≤ 1000000 := by simpa [within] using hv
  have hl : bs.length ≤ 2000 := by
    unfold check at h0
    split at h0
    · cases h0
    · omega
  refine dead_ok hok (fun b hb => ?_) (by simp [tieL]; omega)
  have hpos := hok.pos
  simp only [tieL, List.mem_cons, List.not_mem_nil, or_false] at hb
  rcases hb with rfl | rfl <;> exact ⟨⟨by simp; try omega, by simp; try omega⟩, ⟨by simp; try omega, by simp; try omega⟩, by simp; omega, by simp; omega⟩
theorem tie_lv {bs : List Bd} (h : Lv bs) (hl : bs.length ≤ 2000) (p v : Int) : Lv (bs ++ tieL p v) := by
  refine ⟨by simp [tieL]; omega, fun b hb => ?_⟩
  rcases List.mem_append.1 hb with hb | hb
  · exact h.live b hb
  · simp only [tieL, List.mem_cons, List.not_mem_nil, or_false] at hb
    rcases hb with rfl | rfl <;> rfl

end Go.Proofs.Ytnmiecnpiadcnaa.Ln
